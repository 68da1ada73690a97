/- By an AI agent. -/
import Derived.Test.YtdhkdjlgmbejnaaGreatDoorDataHead
namespace Go.Proofs.YtdhkdjlgmbejnaaGreatDoor
open Go.RowKit Go.Extern.Stop Go.Stop Go.Extern Go.Sort Go.Shelf Go.Lib
theorem writeString_any (B b:Nat) (bs:List Value) (s:ByteArray) (w:World) (h:Lib.IsBuilder 178 5 B b bs w) (hlen:bs.length+s.size≤140737488355328) (hBw:B≤w.heap.size) :
   Calls Tryz.prog 114 #[.pointer (some ⟨b,0,none⟩),.string s] w fun e w'=>e= .returned (.tuple #[.int .i64 s.size,.nilIface])∧(Lib.BuilderAt 178 5 B b (.pointer (some ⟨b,0,none⟩)) (bs++Lib.strCells s) w'∧Below B w w'):=by
 first
 | exact Any.Builder_WriteString { Tryz.lays156 with } Tryz.Builder_Extra_156 B b bs s w h hlen hBw
 | exact Tryz.Builder_WriteString B b bs s w h hlen hBw
theorem isBuilder_below {T e:TypeId} {B b:Nat} {bs:List Value} {w w':World} (h:Lib.IsBuilder T e B b bs w) (hb:Below w.heap.size w w'):Lib.IsBuilder T e B b bs w':=by
 rcases h with h | h
 · have hlt:=h.lt
   obtain⟨hB,v,hbk,hown,hne⟩:=h
   exact Or.inl ⟨hB,v,(hb.block b hlt).trans hbk,own_below hown hb,hne⟩
 · have hlt:=h.lt
   obtain⟨hB,v,hbk,hown,hne⟩:=h
   exact Or.inr ⟨hB,v,(hb.block b hlt).trans hbk,own_below hown hb,hne⟩
theorem isBuilder_set {T e:TypeId} {B b:Nat} {bs:List Value} {w:World} (h:Lib.IsBuilder T e B b bs w) (g o:Nat) (u:Value) (hg:g<B):Lib.IsBuilder T e B b bs (w.setCell ⟨g,o,none⟩ u):=by
 rcases h with h | h
 · obtain⟨hB,v,hbk,hown,hne⟩:=h
   exact Or.inl ⟨hB,v,(heap_setCell_other _ _ _ _ (by show b≠g;omega)).trans hbk,ownsRow_setCell_other hown (fun e=>by have:=(hown.lt g e).1;omega) u,hne⟩
 · obtain⟨hB,v,hbk,hown,hne⟩:=h
   exact Or.inr ⟨hB,v,(heap_setCell_other _ _ _ _ (by show b≠g;omega)).trans hbk,ownsRow_setCell_other hown (fun e=>by have:=(hown.lt g e).1;omega) u,hne⟩
theorem isBuilder_head {T e:TypeId} {B b:Nat} {bs:List Value} {w:World} (h:Lib.IsBuilder T e B b bs w) (g m:Nat) (E:Int×Int) (hg:g<B):Lib.IsBuilder T e B b bs (headW w g m E) :=
 isBuilder_set (isBuilder_set (isBuilder_set h g 1 _ hg) g 2 _ hg) g 0 _ hg
set_option maxRecDepth 100000 in
set_option maxHeartbeats 1000000 in
theorem make1_any (x:Rw) (w:World) (a:Nat→Addr) (h:Env w a) (hx:x.1.size≤100) :
   Calls Tryz.prog 129 #[.agg #[.string x.1,.int .i64 x.2.1,.int .i64 x.2.2]] w fun e w'=>e= .returned (.tuple #[.string (textB x),.int .i64 x.2.1])∧Below w.heap.size w w':=by
 have htx:=fun W (hW:Env W a)=>text_any x W a hW (by unfold maxLen;omega)
 generalize textB x=tb at htx ⊢
 obtain⟨xp,xk,xv⟩:=x
 dsimp only at htx ⊢
 have hal:Below w.heap.size w (w.alloc (.cells #[.string xp,.int .i64 xk,.int .i64 xv] 54)):=(Below.refl _ _).alloc (Nat.le_refl _) _
 have htx2:=htx _ (h.below hal)
 have x1:(w.alloc (.cells #[.string xp,.int .i64 xk,.int .i64 xv] 54)).cell? ⟨w.heap.size,1,none⟩=some (.int .i64 xk):=by simp
 have x0:(w.alloc (.cells #[.string xp,.int .i64 xk,.int .i64 xv] 54)).cell? ⟨w.heap.size,0,none⟩=some (.string xp):=by simp
 have x2:(w.alloc (.cells #[.string xp,.int .i64 xk,.int .i64 xv] 54)).cell? ⟨w.heap.size,2,none⟩=some (.int .i64 xv):=by simp
 have hEA:=h.below hal
 clear htx2
 go_enter Tryz.func129,Tryz.ntmps129
 go_wp2_with fail
 generalize w.alloc (.cells #[.string xp,.int .i64 xk,.int .i64 xv] 54)=W0 at hal hEA x0 x1 x2 ⊢
 generalize w.heap.size=g at x0 x1 x2 ⊢
 have hb0:Below W0.heap.size W0 W0:=Below.refl _ _
 go_region_held3 (fun w'=>w'.cell? ⟨g,0,none⟩=some (.string xp)∧w'.cell? ⟨g,1,none⟩=some (.int .i64 xk)∧w'.cell? ⟨g,2,none⟩=some (.int .i64 xv)∧Below W0.heap.size W0 w')
   (first
     | (go_split_ands;exact⟨below_keep hbX (by assumption),below_keep hbX (by assumption),below_keep hbX (by assumption),Below.trans (by assumption) (hbX.mono (Below.size (by assumption)))⟩)
     | (go_split_ands;exact⟨by go_keep,by go_keep,by go_keep,by assumption⟩)
     | (go_split_ands;exact⟨by go_keep,by go_keep,by go_keep,Below.drew (by assumption)⟩)
     | (go_split_ands;exact⟨by go_keep,by go_keep,by go_keep,Below.alloc (by assumption) (Below.size (by assumption)) _⟩))
   ((go_at_call 130;refine(htx _ (hEA.below (by go_split_ands;assumption))).mono ?_;rintro e w2 ⟨rfl,hbX⟩))
 go_split_ands
 have hbE:Below W0.heap.size W0 w2:=by assumption
 go_wp2
 go_ret2
 exact⟨rfl,hal.trans (hbE.mono hal.size)⟩
set_option maxRecDepth 100000 in
set_option maxHeartbeats 4000000 in
theorem writeRows_any (kb:ByteArray) (hK:kb.data.toList.length≤4) (v:Value) (xs:List Rw) (w:World) (a:Nat→Addr) (h:Env w a) (hx:RowsAt w v xs) (hl:xs.length≤1000) (hall:∀x∈xs,rowE x=0) :
   Calls Tryz.prog 128 #[.string kb,v,.func (.func 129) #[] #[]] w fun e w'=>e= .returned (.string (bytesOf (headL kb.data.toList xs.length (endsZ (keysR xs)).1 (endsZ (keysR xs)).2 (sumL (linesL xs))++10 :: linesL xs)))∧Below w.heap.size w w':=by
 have eg:∀args w,(callFunc 129 args).run Tryz.prog w= .ok (.enter 129 args) w:=enters_of Tryz.func129 (by kernel_rfl) rfl
 obtain⟨q,cap,rfl⟩:=hx.form
 obtain⟨L,hL⟩:∃L,xs.length=L:=⟨_,rfl⟩
 have HX:Hid (xs.length=L):=hL
 have harg:(Value.slice q xs.length cap)= .slice q L cap:=by rw[hL]
 rw[harg]at hx ⊢
 rw[hL]at hl
 clear hL harg
 have hA:=heap_alloc2_old w (.cells #[.int .i64 0,.int .i64 0,.int .i64 0] 174) (.cells #[.pointer none,.slice none 0 0] 178)
 have hB:=heap_alloc2_new w (.cells #[.int .i64 0,.int .i64 0,.int .i64 0] 174) (.cells #[.pointer none,.slice none 0 0] 178)
 have hal:Below w.heap.size w ((w.alloc (.cells #[.int .i64 0,.int .i64 0,.int .i64 0] 174)).alloc (.cells #[.pointer none,.slice none 0 0] 178)):=((Below.refl _ _).alloc (Nat.le_refl _) _).alloc (by simp) _
 have hbld:Lib.IsBuilder 178 5 (w.heap.size+1) (w.heap.size+1) (Lib.byteCells (linesL [])) ((w.alloc (.cells #[.int .i64 0,.int .i64 0,.int .i64 0] 174)).alloc (.cells #[.pointer none,.slice none 0 0] 178)) :=
   Or.inl ⟨Nat.le_refl _,.slice none 0 0,hB,World.ownsRow_nil _ _ _ _,by simp[Value.ownBlock]⟩
 go_enter Tryz.func128,Tryz.ntmps128
 go_wp2
 go_loopw [16] (fun k wr=> ∃n:Nat,n≤L∧k= .int .i64 n∧Below w.heap.size w wr∧HeadAt wr w.heap.size n (endsZ (keysR (xs.take n)))∧Lib.IsBuilder 178 5 (w.heap.size+1) (w.heap.size+1) (Lib.byteCells (linesL (xs.take n))) wr) (fun k _=>L-(intOf k).toNat)
 case atStart=>exact ⟨0,by omega,rfl,hal,hA,by simpa using hbld⟩
 case round =>
   clear hal hbld hA hB
   obtain⟨n,hn,rfl,hb,hH,hB⟩:=hrel
   have hbh:w.heap.size≤wr.heap.size:=hb.size
   have hbh1:w.heap.size+1<wr.heap.size:=by
     rcases hB with hB | hB
     · exact hB.lt
     · exact hB.lt
   by_cases hlt:n<L
   · have hltx:n<xs.length:=by rw[HX.out];exact hlt
     have hrows:=hx.below hb
     rcases hrows with⟨_,_,e,e'⟩|⟨b,o,cap2,e,hcells⟩
     · exfalso;have:=HX.out;rw[e']at this;simp at this;omega
     injection e with e1 e2 e3
     subst e1
     clear e2 e3
     obtain⟨c1,c2,c3⟩:=hcells n hltx
     clear hcells
     have hi:(n:Int)<(L:Int):=by omega
     have hmem:xs[n]∈xs:=List.getElem_mem _
     have hrok:=hall _ hmem
     have htk:xs.take (n+1)=xs.take n++ [xs[n]]:=by rw[List.take_append_getElem hltx]
     have hxs:xs[n].1.size≤8:=by
       have:=name_of_row hrok
       simp only[nameB,Bool.and_eq_true,decide_eq_true_eq]at this
       rw[←size_list];exact this.1.2
     have htx:=fun W (hW:Env W a)=>make1_any xs[n] W a hW (by omega)
     have HTB:Hid ((textB xs[n]).data.toList=textL xs[n]):=textB_ok _ hrok
     have htl:=text_len xs[n] hrok
     have hts:(textB xs[n]).size≤32:=by rw[←size_list,HTB.out];exact htl
     have HT:Hid (linesL (xs.take (n+1))=linesL (xs.take n)++(textL xs[n]++ [10])):=by
       show _=_
       rw[htk];exact linesG_snoc dataK _ _
     have HKE:Hid (endsZ (keysR (xs.take (n+1)))=endsP n (endsZ (keysR (xs.take n))) xs[n].2.1):=by
       show _=_
       have hkl:(keysR (xs.take n)).length=n:=by simp[keysG];omega
       have:=ends_more (keysR (xs.take n)) xs[n].2.1
       rw[hkl]at this
       rw[←this,htk,keys_snoc]
     have hll:=linesG_len data_fine (xs.take n) (fun x hx2=>hall x (List.mem_of_mem_take hx2))
     have hlen:(Lib.byteCells (linesL (xs.take n))).length≤40000:=by
       rw[Lib.byteCells_length]
       have:(xs.take n).length≤n:=List.length_take_le _ _
       show (linesG dataK (xs.take n)).length≤40000
       omega
     clear htk hmem hrok hxs htl hll
     generalize xs[n]=x at c1 c2 c3 htx HTB hts HT HKE
     generalize linesL (xs.take n)=acc at hB HT hlen
     generalize endsZ (keysR (xs.take n))=E at hH HKE
     obtain⟨xp,xk,xv⟩:=x
     generalize textB (xp,xk,xv)=tb at htx HTB hts
     dsimp only at c1 c2 c3 htx HKE
     have hal:Below wr.heap.size wr (wr.alloc (.cells #[.string xp,.int .i64 xk,.int .i64 xv] 54)):=(Below.refl _ _).alloc (Nat.le_refl _) _
     have hb2:Below w.heap.size w (wr.alloc (.cells #[.string xp,.int .i64 xk,.int .i64 xv] 54)):=hb.trans (hal.mono hb.size)
     have htx2:=htx _ (h.below hb2)
     have hB2:=isBuilder_below hB hal
     have hH2:=hH.below hal
     clear htx hB hH
     go_wp2_with (go_at_fn 129;refine htx2.mono ?_;rintro e w3 ⟨rfl,hb3⟩)
     clear htx2 c1 c2 c3
     have hb4:Below w.heap.size w w3:=hb2.trans (hb3.mono hb2.size)
     have hH3:=hH2.below hb3
     have hB3:=isBuilder_below hB2 hb3
     have hct:=count_any w.heap.size n E xk w3 hH3 (by omega)
     clear hB2 hH2 hal
     go_wp2_with fail
     refine hct.mono ?_
     rintro e w4 ⟨rfl,rfl⟩
     clear hct
     have hH4:HeadAt (headW w3 w.heap.size (n+1) (endsP n E xk)) w.heap.size (n+1) (endsP n E xk):=headW_at hH3
     have hB4:=isBuilder_head hB3 w.heap.size (n+1) (endsP n E xk) (by omega)
     have hb5:Below w.heap.size w (headW w3 w.heap.size (n+1) (endsP n E xk)):=headW_below hb4 (Nat.le_refl _)
     have hsz5:w.heap.size+1≤(headW w3 w.heap.size (n+1) (endsP n E xk)).heap.size:=by rw[headW_size];exact lt_of_block hH3
     clear hB3 hH3 hb4
     generalize headW w3 w.heap.size (n+1) (endsP n E xk)=W4 at hH4 hB4 hb5 hsz5 ⊢
     have hws:=writeString_any (w.heap.size+1) (w.heap.size+1) _ tb W4 hB4 (by omega) hsz5
     clear hB4
     go_wp2_with fail
     refine hws.mono ?_
     rintro e w5 ⟨rfl,hB5,hb6⟩
     clear hws
     have hb7:Below w.heap.size w w5:=hb5.trans (hb6.mono (Nat.le_succ _))
     have hH5:HeadAt w5 w.heap.size (n+1) (endsP n E xk):=by
       unfold HeadAt at *
       exact(hb6.block _ (Nat.lt_succ_self _)).trans hH4
     have hws:=writeString_any (w.heap.size+1) (w.heap.size+1) _ ⟨#[10]⟩ w5 (Or.inr hB5) (by rw[List.length_append,Lib.strCells_length];have:(⟨#[10]⟩:ByteArray).size=1:=rfl;omega) (Nat.le_trans hsz5 hb6.size)
     clear hH4
     go_wp2_with fail
     refine hws.mono ?_
     rintro e w7 ⟨rfl,hB7,hb8⟩
     clear hws hB5
     have hb9:Below w.heap.size w w7:=hb7.trans (hb8.mono (Nat.le_succ _))
     have HH7:Hid (HeadAt w7 w.heap.size (n+1) (endsZ (keysR (xs.take (n+1))))):=by
       show HeadAt _ _ _ _
       rw[HKE.out]
       unfold HeadAt at *
       exact(hb8.block _ (Nat.lt_succ_self _)).trans hH5
     have HB8:Hid (Lib.IsBuilder 178 5 (w.heap.size+1) (w.heap.size+1) (Lib.byteCells (linesL (xs.take (n+1)))) w7):=by
       show Lib.IsBuilder _ _ _ _ _ _
       rw[HT.out,Lib.byteCells_append,Lib.byteCells_append,←HTB.out,←List.append_assoc]
       exact Or.inr hB7
     clear hB7 hH5
     go_wp2
     go_roundw
     case rel=>exact ⟨n+1,by omega,by go_num,hb9,HH7.out,HB8.out⟩
     case measure=>simp [intOf];omega
   · obtain rfl:n=L:=by omega
     have hta:xs.take n=xs:=List.take_of_length_le (by rw[HX.out];exact Nat.le_refl _)
     rw[hta]at hB hH
     have hst:=Tryz.Builder_String_any (w.heap.size+1) (w.heap.size+1) (linesL xs) wr hB (by omega)
     have hfl:=linesG_len data_fine xs hall
     have hends:=ends_inG data_fine hall
     have hsum:=fun W=>sum_any (bytesOf (linesL xs)) W (by rw[bytes_len];unfold maxLen;show (linesG dataK xs).length≤_;rw[HX.out]at hfl;omega)
     have eL:(bytesOf (linesL xs)).data.toList=linesL xs:=by simp[bytesOf]
     rw[eL]at hsum
     have hsl:=sumL_lt (linesL xs)
     have hht:=fun W (hW:Env W a)=>headText_any kb hK n (endsZ (keysR xs)).1 (endsZ (keysR xs)).2 (sumL (linesL xs)) W a hW.weak (by omega) hends.1 hends.2 hsl
     have hhl:=head_len hK n (endsZ (keysR xs)).1 (endsZ (keysR xs)).2 (sumL (linesL xs)) (by omega) hends.1 hends.2 (by omega)
     obtain⟨T0,hT0⟩:∃T0,bytesOf (headL kb.data.toList xs.length (endsZ (keysR xs)).1 (endsZ (keysR xs)).2 (sumL (linesL xs))++10 :: linesL xs)=T0:=⟨_,rfl⟩
     have HT0:Hid (bytesOf (headL kb.data.toList xs.length (endsZ (keysR xs)).1 (endsZ (keysR xs)).2 (sumL (linesL xs))++10 :: linesL xs)=T0):=hT0
     have HF:Hid (T0=bytesOf (headL kb.data.toList n (endsZ (keysR xs)).1 (endsZ (keysR xs)).2 (sumL (linesL xs)))++⟨#[10]⟩++bytesOf (linesL xs)):=by
       show _=_
       rw[←hT0,HX.out]
       apply ByteArray.ext
       apply Array.ext'
       simp[bytesOf]
     have hs1:(bytesOf (headL kb.data.toList n (endsZ (keysR xs)).1 (endsZ (keysR xs)).2 (sumL (linesL xs)))).size≤2000:=by rw[bytes_len];omega
     have hs2:(bytesOf (linesL xs)).size≤40000:=by rw[bytes_len];show (linesG dataK xs).length≤_;rw[HX.out]at hfl;omega
     clear eL hfl hends hhl hta hB hall hT0
     generalize sumL (linesL xs)=S at hht hsum HF hs1 hsl
     generalize endsZ (keysR xs)=E at hht HF hs1 hH
     obtain⟨lo,hi2⟩:=E
     dsimp only at hht HF hs1
     generalize bytesOf (headL kb.data.toList n lo hi2 (S:Int))=hB at hht HF hs1
     have eS:(⟨(linesL xs).toArray⟩:ByteArray)=bytesOf (linesL xs):=rfl
     rw[eS]at hst
     generalize bytesOf (linesL xs)=lB at hst hsum HF hs2
     clear eS
     go_wp2_with fail
     refine hst.mono ?_
     rintro e w2 ⟨rfl,hb2⟩
     clear hst
     have hH2:HeadAt w2 w.heap.size n (lo,hi2):=by
       unfold HeadAt at *
       exact(hb2.block _ (Nat.lt_succ_self _)).trans hH
     obtain⟨g0,g1,g2,_⟩:=hH2.cells
     dsimp only at g1 g2
     clear hH hH2
     have hB2:Below w.heap.size w w2:=hb.trans (hb2.mono (Nat.le_succ _))
     have hE2:=h.below hB2
     have hb0:Below w2.heap.size w2 w2:=Below.refl _ _
     have n1:¬9223372036854775807<hB.size+1:=by omega
     have n2:¬9223372036854775807<hB.size+1+lB.size:=by omega
     go_wp2_with fail
     go_region_held3 (fun w'=>w'.cell? ⟨w.heap.size,0,none⟩=some (.int .i64 n)∧w'.cell? ⟨w.heap.size,1,none⟩=some (.int .i64 lo)∧w'.cell? ⟨w.heap.size,2,none⟩=some (.int .i64 hi2)∧Below w2.heap.size w2 w')
       (first
         | (go_split_ands;exact⟨below_keep hbX (by assumption),below_keep hbX (by assumption),below_keep hbX (by assumption),Below.trans (by assumption) (hbX.mono (Below.size (by assumption)))⟩)
         | (go_split_ands;exact⟨by go_keep,by go_keep,by go_keep,by assumption⟩)
         | (go_split_ands;exact⟨by go_keep,by go_keep,by go_keep,Below.drew (by assumption)⟩))
       (first
         | (go_at_call 117;refine(hsum _).mono ?_;rintro e w3 ⟨rfl,hbX⟩)
         | (go_at_call 116;refine(hht _ (hE2.below (by go_split_ands;assumption))).mono ?_;rintro e w4 ⟨rfl,hbX⟩))
     go_split_ands
     have hbE:Below w2.heap.size w2 w4:=by assumption
     go_wp2
     go_ret
     exact⟨by rw[HT0.out,HF.out];rfl,hB2.trans (hbE.mono hB2.size)⟩
structure EnvD (w:World) (a:Nat→Addr):Prop where
 env:Env w a
 shape:w.cell? ⟨0,0,none⟩=some (.iface 327 (.pointer (some (a 2))))
 full:w.cell? ⟨1,0,none⟩=some (.iface 327 (.pointer (some (a 7))))
 order:w.cell? ⟨4,0,none⟩=some (.iface 327 (.pointer (some (a 8))))
 sum:w.cell? ⟨9,0,none⟩=some (.iface 327 (.pointer (some (a 9))))
theorem EnvD.below {w w':World} {a:Nat→Addr} (h:EnvD w a) (hb:Below w.heap.size w w'):EnvD w' a :=
 ⟨h.env.below hb,below_keep hb h.shape,below_keep hb h.full,below_keep hb h.order,below_keep hb h.sum⟩
structure EnvD0 (w:World) (a:Nat→Addr):Prop where
 env:Env0 w a
 shape:w.cell? ⟨0,0,none⟩=some (.iface 327 (.pointer (some (a 2))))
 full:w.cell? ⟨1,0,none⟩=some (.iface 327 (.pointer (some (a 7))))
 order:w.cell? ⟨4,0,none⟩=some (.iface 327 (.pointer (some (a 8))))
 sum:w.cell? ⟨9,0,none⟩=some (.iface 327 (.pointer (some (a 9))))
theorem EnvD0.below {w w':World} {a:Nat→Addr} (h:EnvD0 w a) (hb:Below w.heap.size w w'):EnvD0 w' a :=
 ⟨h.env.below hb,below_keep hb h.shape,below_keep hb h.full,below_keep hb h.order,below_keep hb h.sum⟩
theorem EnvD.weak {w:World} {a:Nat→Addr} (h:EnvD w a):EnvD0 w a:=⟨h.env.weak,h.shape,h.full,h.order,h.sum⟩
theorem keys_perm {xs ys:List Rw} (h:xs.Perm ys):endsZ (keysR xs)=endsZ (keysR ys):=ends_perm (h.map _)
theorem sort_ok {xs:List Rw} (h:∀x∈xs,rowE x=0):∀x∈sortR xs,rowE x=0:=fun x hx=>h x ((sortR_perm xs).mem_iff.1 hx)
set_option maxRecDepth 100000 in
set_option maxHeartbeats 4000000 in
theorem make_any (q:Option Addr) (cap:Nat) (xs:List Rw) (w:World) (a:Nat→Addr) (h:EnvD w a) (hx:RowsAt w (.slice q xs.length cap) xs) (hl:xs.length≤40) (hp:∀x∈xs,x.1.size≤30)
   (m:Nat) (hm:m≤xs.length) (hgood:∀i (h:i<xs.length),i<m→rowE xs[i]=0) (hend:∀(h:m<xs.length),rowE xs[m]≠0) :
   Calls Tryz.prog 72 #[.slice q xs.length cap] w fun e w'=>(m=xs.length∧e= .returned (.tuple #[.string (bytesOf (fileOf (sortR xs))),.nilIface])∧Below w.heap.size w w') ∨
     (∃h:m<xs.length,∃fb,e= .returned (.tuple #[.string ⟨#[]⟩,.iface 92 (.pointer (some ⟨fb,0,none⟩))])∧w'.cell? ⟨fb,0,none⟩=some (.int .i64 m)∧w'.cell? ⟨fb,1,none⟩=some (errV a (rowE xs[m]))∧Below w.heap.size w w'):=by
 obtain⟨L,hL⟩:∃L,xs.length=L:=⟨_,rfl⟩
 have HX:Hid (xs.length=L):=hL
 have HGOOD:Hid (∀i (h:i<xs.length),i<m→rowE xs[i]=0):=hgood
 have HEND:Hid (∀(h:m<xs.length),rowE xs[m]≠0):=hend
 rw[hL]at hx hl hm
 have harg:(Value.slice q xs.length cap)= .slice q L cap:=by rw[hL]
 rw[harg]
 clear hL hgood hend harg
 have hi40:¬(40:Int)<(L:Int):=by omega
 go_enter Tryz.func72,Tryz.ntmps72
 go_wp2
 go_loopw [13] (fun k wr=> ∃n:Nat,n≤m∧k= .int .i64 n∧Below w.heap.size w wr) (fun k _=>L-(intOf k).toNat)
 case atStart=>exact ⟨0,by omega,rfl,Below.refl _ _⟩
 case round =>
   obtain⟨n,hn,rfl,hb⟩:=hrel
   by_cases hlt:n<L
   · have hltx:n<xs.length:=by rw[HX.out];exact hlt
     have hrows:=hx.below hb
     rcases hrows with⟨_,_,e,e'⟩|⟨b,o,cap2,e,hcells⟩
     · exfalso;have:=HX.out;rw[e']at this;simp at this;omega
     injection e with e1 e2 e3
     subst e1
     clear e2 e3
     obtain⟨c1,c2,c3⟩:=hcells n hltx
     clear hcells
     have hi:(n:Int)<(L:Int):=by omega
     have hrp:=hp _ (List.getElem_mem hltx)
     have hck:=fun W (hW:Env W a)=>check_any xs[n] W a hW (by unfold maxLen;omega)
     by_cases hnm:n<m
     · have hrok:=HGOOD.out n hltx hnm
       rw[hrok]at hck
       simp only[errV]at hck
       generalize xs[n]=x at c1 c2 c3 hck
       obtain⟨xp,xk,xv⟩:=x
       dsimp only at c1 c2 c3 hck
       have hal:Below wr.heap.size wr (wr.alloc (.cells #[.string xp,.int .i64 xk,.int .i64 xv] 54)):=(Below.refl _ _).alloc (Nat.le_refl _) _
       have hb2:Below w.heap.size w (wr.alloc (.cells #[.string xp,.int .i64 xk,.int .i64 xv] 54)):=hb.trans (hal.mono hb.size)
       have hck2:=hck _ (h.env.below hb2)
       clear hck
       go_wp2_with fail
       refine hck2.mono ?_
       rintro e w3 ⟨rfl,hb3⟩
       clear hck2 c1 c2 c3
       have hb4:Below w.heap.size w w3:=hb2.trans (hb3.mono hb2.size)
       go_wp2
       go_roundw
       case rel=>exact ⟨n+1,by omega,by go_num,hb4⟩
       case measure=>simp [intOf];omega
     · obtain rfl:n=m:=by omega
       have hE:=HEND.out hltx
       obtain⟨E,hEE⟩:∃E,rowE xs[n]=E+1:=⟨rowE xs[n]-1,by omega⟩
       have HEE:Hid (rowE xs[n]=E+1):=hEE
       rw[hEE]at hck
       simp only[errV]at hck
       clear hEE hE hrp
       generalize xs[n].1=xp at c1 hck
       generalize xs[n].2.1=xk at c2 hck
       generalize xs[n].2.2=xv at c3 hck
       have hal:Below wr.heap.size wr (wr.alloc (.cells #[.string xp,.int .i64 xk,.int .i64 xv] 54)):=(Below.refl _ _).alloc (Nat.le_refl _) _
       have hb2:Below w.heap.size w (wr.alloc (.cells #[.string xp,.int .i64 xk,.int .i64 xv] 54)):=hb.trans (hal.mono hb.size)
       have hck2:=hck _ (h.env.below hb2)
       clear hck
       go_wp2_with fail
       refine hck2.mono ?_
       rintro e w3 ⟨rfl,hb3⟩
       clear hck2 c1 c2 c3
       have hb4:Below w.heap.size w w3:=hb2.trans (hb3.mono hb2.size)
       have hb5:Below w.heap.size w (w3.alloc (.cells #[.int .i64 n,.iface 327 (.pointer (some (a E)))] 94)):=hb4.alloc hb4.size _
       go_wp2
       go_ret2
       exact Or.inr ⟨hltx,w3.heap.size,rfl,by simp,by rw[HEE.out];simp[errV],hb5⟩
   · have hnm:n=m:=by omega
     have hmL:m=L:=by omega
     subst hnm
     have hall:∀x∈xs,rowE x=0:=fun x hxm=>by
       obtain⟨i,hi,e⟩:=List.mem_iff_getElem.1 hxm
       rw[←e]
       exact HGOOD.out i hi (by rw[hmL,←HX.out];exact hi)
     have hsr:=sort_any (.slice q L cap) xs wr (hx.below hb) (by rw[HX.out];omega)
     clear hlt
     go_wp2_with fail
     refine hsr.mono ?_
     rintro e w1 ⟨v1,rfl,hv1,hb1⟩
     clear hsr
     have hB1:Below w.heap.size w w1:=hb.trans (hb1.mono hb.size)
     have hsok:=sort_ok hall
     have hwl:=writeRows_any ⟨#[100,97,116,97]⟩ (by decide) v1 (sortR xs) w1 a (h.env.below hB1) hv1 (by rw[sortR_len,HX.out];omega) hsok
     have HF:Hid (bytesOf (headL (⟨#[100,97,116,97]⟩:ByteArray).data.toList (sortR xs).length (endsZ (keysR (sortR xs))).1 (endsZ (keysR (sortR xs))).2 (sumL (linesL (sortR xs)))++10 :: linesL (sortR xs))=bytesOf (fileOf (sortR xs))):=rfl
     rw[HF.out]at hwl
     obtain⟨q1,cap1,rfl⟩:=hv1.form
     clear hsok hv1 hall HF
     obtain⟨fB,hfB⟩:∃fB,bytesOf (fileOf (sortR xs))=fB:=⟨_,rfl⟩
     have HFB:Hid (bytesOf (fileOf (sortR xs))=fB):=hfB
     rw[hfB]at hwl
     clear hfB
     generalize (sortR xs).length=L1 at hwl ⊢
     go_wp2_with fail
     refine hwl.mono ?_
     rintro e w2 ⟨rfl,hb2⟩
     clear hwl
     go_wp2
     go_ret2
     exact Or.inl ⟨hmL.trans HX.out.symm,by rw[HFB.out];rfl,hB1.trans (hb2.mono hB1.size)⟩
theorem headO_five {Kw l k A B C D:List UInt8} (h:words l= [k,A,B,C,D]):headO Kw l=if k=Kw then (match numO A,numO B,numO C,numO D with
   | some a,some b,some c,some d=>some (a,b,c,d)
   | _,_,_,_=>none) else none:=by
 unfold headO;rw[h];rfl
theorem headO_other {Kw l:List UInt8} (h:(words l).length≠5):headO Kw l=none:=by
 unfold headO
 split
 · rename_i e;rw[e]at h;simp at h
 · rfl
theorem five_of {α:Type} {ts:List α} (h:ts.length=5):∃a b c d e,ts= [a,b,c,d,e]:=by
 match ts,h with
 | [a,b,c,d,e],_=>exact ⟨a,b,c,d,e,rfl⟩
theorem eqBB {s t:ByteArray} (h:s.data.toList=t.data.toList):(s.toList == t.toList)=true:=by
 rw[ByteArray.toList_eq,ByteArray.toList_eq];simpa using h
theorem neBB {s t:ByteArray} (h:s.data.toList≠t.data.toList):(s.toList == t.toList)=false:=by
 rw[ByteArray.toList_eq,ByteArray.toList_eq];simpa using h
def headR (K l:List UInt8):(Int×Int×Int)×Int×Bool:=match headO K l with
 | some (n,lo,hi,sum)=>((n,lo,hi),sum,true)
 | none=>((0,0,0),0,false)
set_option maxRecDepth 100000 in
set_option maxHeartbeats 4000000 in
theorem readHead_any (kb s:ByteArray) (w:World) (a:Nat→Addr) (h:Env0 w a) (hs:s.size≤100000) :
   Calls Tryz.prog 231 #[.string kb,.string s] w fun e w'=>e= .returned (.tuple #[.agg #[.int .i64 (headR kb.data.toList s.data.toList).1.1,.int .i64 (headR kb.data.toList s.data.toList).1.2.1,.int .i64 (headR kb.data.toList s.data.toList).1.2.2],.int .i64 (headR kb.data.toList s.data.toList).2.1,.bool (headR kb.data.toList s.data.toList).2.2])∧Below w.heap.size w w':=by
 have hal:Below w.heap.size w (w.alloc (.cells #[.int .i64 0,.int .i64 0,.int .i64 0] 174)):=(Below.refl _ _).alloc (Nat.le_refl _) _
 have hsp:=splitTx_any s _ a (h.below hal) (by omega)
 have hblk:=heap_alloc_new w (.cells #[.int .i64 0,.int .i64 0,.int .i64 0] 174)
 have hwl:=words_len s.data.toList
 go_enter Tryz.func231,Tryz.ntmps231
 go_wp2_with fail
 generalize hWA:w.alloc (.cells #[.int .i64 0,.int .i64 0,.int .i64 0] 174)=WA at hal hsp hblk ⊢
 refine hsp.mono ?_
 rintro e w1 ⟨v1,ts,rfl,hts,htm,hb1⟩
 clear hsp
 have hB1:Below w.heap.size w w1:=hal.trans (hb1.mono hal.size)
 have hblk1:w1.heap[w.heap.size]? =some (.cells #[.int .i64 0,.int .i64 0,.int .i64 0] 174 (0,0)):=(hb1.block _ (lt_of_block hblk)).trans hblk
 clear hblk hb1 hal hWA
 have bad:∀W:World,Below w.heap.size w W→W.heap[w.heap.size]? =some (.cells #[.int .i64 0,.int .i64 0,.int .i64 0] 174 (0,0))→(W.cell? ⟨w.heap.size,0,none⟩=some (.int .i64 0)∧W.cell? ⟨w.heap.size,1,none⟩=some (.int .i64 0)∧W.cell? ⟨w.heap.size,2,none⟩=some (.int .i64 0)∧∀o,W.frozen? ⟨w.heap.size,o,none⟩=false):=fun W _ hW =>
   ⟨by rw[cell_of_row _ _ _ _ _ _ hW];rfl,by rw[cell_of_row _ _ _ _ _ _ hW];rfl,by rw[cell_of_row _ _ _ _ _ _ hW];rfl,fun o=>frozen_of_row _ _ _ _ _ hW⟩
 have BAD:Hid (∀W:World,Below w.heap.size w W→W.heap[w.heap.size]? =some (.cells #[.int .i64 0,.int .i64 0,.int .i64 0] 174 (0,0))→(W.cell? ⟨w.heap.size,0,none⟩=some (.int .i64 0)∧W.cell? ⟨w.heap.size,1,none⟩=some (.int .i64 0)∧W.cell? ⟨w.heap.size,2,none⟩=some (.int .i64 0)∧∀o,W.frozen? ⟨w.heap.size,o,none⟩=false)):=bad
 have HBLK:Hid (w1.heap[w.heap.size]? =some (.cells #[.int .i64 0,.int .i64 0,.int .i64 0] 174 (0,0))):=hblk1
 clear bad hblk1
 by_cases h5:ts.length=5
 · obtain⟨K,A,B,C,D,rfl⟩:=five_of h5
   have hw:words s.data.toList= [K.data.toList,A.data.toList,B.data.toList,C.data.toList,D.data.toList]:=by rw[←htm];rfl
   have hf:=headO_five (Kw:=kb.data.toList) hw
   have hwz:∀t∈ [K,A,B,C,D],t.size≤maxLen:=fun t ht=>by
     have:=hwl t.data.toList (by rw[←htm];exact List.mem_map.2 ⟨t,ht,rfl⟩)
     rw[size_list,size_list]at this
     unfold maxLen;omega
   have HF:Hid (headO kb.data.toList s.data.toList=if K.data.toList=kb.data.toList then (match numO A.data.toList,numO B.data.toList,numO C.data.toList,numO D.data.toList with
     | some a,some b,some c,some d=>some (a,b,c,d)
     | _,_,_,_=>none) else none):=hf
   obtain⟨b,rfl,hcell⟩:=hts
   have c0:=hcell 0 (by simp)
   simp only[List.getElem_cons_zero]at c0
   have HCELL:Hid (∀j (h:j < [K,A,B,C,D].length),w1.cell? ⟨b,j,none⟩=some (.string [K,A,B,C,D][j])):=hcell
   clear hf hw htm hwl hcell h5
   simp only[List.length_cons,List.length_nil,Nat.zero_add,Nat.reduceAdd]
   by_cases hk:K.data.toList=kb.data.toList
   · have hkb:=eqBB hk
     have hnm:=numbers_any b 1 4 [A,B,C,D] w1 a (h.below hB1) (fun j hj=>by
       have hj':j+1 < [K,A,B,C,D].length:=by simp at hj ⊢;omega
       have:=HCELL.out (j+1) hj'
       rw[Nat.add_comm 1 j]
       simpa using this) (fun t ht=>hwz t (List.mem_cons_of_mem _ ht)) (by simp)
     simp only[List.length_cons,List.length_nil,Nat.zero_add,Nat.reduceAdd]at hnm
     go_wp2_with fail
     refine hnm.mono ?_
     rintro e w3 ⟨hres,hb3⟩
     clear hnm c0
     have hB3:Below w.heap.size w w3:=hB1.trans (hb3.mono hB1.size)
     obtain⟨y0,y1,y2,fz⟩:=BAD.out w3 hB3 ((hb3.block _ (lt_of_block HBLK.out)).trans HBLK.out)
     have s0:=setCell_self y0
     have s1:=setCell_self y1
     have s2:=setCell_self y2
     rcases hres with⟨zs,g,hzl,hzn,rfl,hzc⟩|⟨j,t,ht,hno,rfl⟩
     · obtain⟨z0,z1,z2,z3,hz4⟩:∃z0 z1 z2 z3,zs= [z0,z1,z2,z3]:=by
         match zs,hzl with
         | [z0,z1,z2,z3],_=>exact ⟨z0,z1,z2,z3,rfl⟩
       subst hz4
       have HSOME:Hid (headO kb.data.toList s.data.toList=some (z0,z1,z2,z3)):=by
         show _=_
         have q0:=hzn 0 A rfl
         have q1:=hzn 1 B rfl
         have q2:=hzn 2 C rfl
         have q3:=hzn 3 D rfl
         rw[HF.out,if_pos hk,q0,q1,q2,q3]
         rfl
       have k0:=hzc 0 (by simp)
       have k1:=hzc 1 (by simp)
       have k2:=hzc 2 (by simp)
       have k3:=hzc 3 (by simp)
       simp only[List.getElem_cons_succ,List.getElem_cons_zero]at k0 k1 k2 k3
       have hgw:g≠w.heap.size:=by
         intro e
         subst e
         have:=y0.symm.trans k0
         have e1:=k3
         rw[cell_of_row _ _ _ _ _ _ ((hb3.block _ (lt_of_block HBLK.out)).trans HBLK.out)]at e1
         simp at e1
       have hne1:¬g=w.heap.size:=hgw
       have hne2:¬w.heap.size=g:=fun e=>hgw e.symm
       clear hzn hzc hzl hgw s0 s1 s2
       simp only[List.length_cons,List.length_nil,Nat.zero_add,Nat.reduceAdd]
       go_wp2
       go_region
       go_wp2
       refine bodyPost_ret (v:=.tuple #[.agg #[.int .i64 z0,.int .i64 z1,.int .i64 z2],.int .i64 z3,.bool true]) (by simp[results,Tryz.results231,go_sem,y0,y1,y2]) rfl ⟨by unfold headR;rw[HSOME.out],?_⟩
       exact(((hB3.setCell (by simp) _).setCell (by simp) _).setCell (by simp) _).drew
     · have HNONE:Hid (headO kb.data.toList s.data.toList=none):=by
         show _=_
         rw[HF.out,if_pos hk]
         match j,ht with
         | 0,ht=>rw [Option.some.inj ht,hno]
         | 1,ht=>rw [Option.some.inj ht,hno];split<;>simp_all
         | 2,ht=>rw [Option.some.inj ht,hno];split<;>simp_all
         | 3,ht=>rw [Option.some.inj ht,hno];split<;>simp_all
       clear ht hno
       go_wp2
       exact bodyPost_ret (v:=.tuple #[.agg #[.int .i64 0,.int .i64 0,.int .i64 0],.int .i64 0,.bool false]) (by simp[results,Tryz.results231,go_sem,y0,y1,y2]) rfl ⟨by unfold headR;rw[HNONE.out],hB3⟩
   · have hkb:=neBB hk
     have HNONE:Hid (headO kb.data.toList s.data.toList=none):=by
       show _=_
       rw[HF.out,if_neg hk]
     obtain⟨y0,y1,y2,fz⟩:=BAD.out w1 hB1 HBLK.out
     have s0:=setCell_self y0
     have s1:=setCell_self y1
     have s2:=setCell_self y2
     go_wp2
     exact bodyPost_ret (v:=.tuple #[.agg #[.int .i64 0,.int .i64 0,.int .i64 0],.int .i64 0,.bool false]) (by simp[results,Tryz.results231,go_sem,y0,y1,y2]) rfl ⟨by unfold headR;rw[HNONE.out],hB1⟩
 · have HNONE:Hid (headO kb.data.toList s.data.toList=none):=headO_other (fun e=>h5 (by rw[←e,←htm,List.length_map]))
   have hne:¬(ts.length:Int)=5:=by omega
   obtain⟨b,rfl,_⟩:=hts
   obtain⟨y0,y1,y2,fz⟩:=BAD.out w1 hB1 HBLK.out
   have s0:=setCell_self y0
   have s1:=setCell_self y1
   have s2:=setCell_self y2
   clear htm hwl h5
   go_wp2
   exact bodyPost_ret (v:=.tuple #[.agg #[.int .i64 0,.int .i64 0,.int .i64 0],.int .i64 0,.bool false]) (by simp[results,Tryz.results231,go_sem,y0,y1,y2]) rfl ⟨by unfold headR;rw[HNONE.out],hB1⟩
end Go.Proofs.YtdhkdjlgmbejnaaGreatDoor
