/- By an AI agent. -/
import Derived.Test.YtdhkdjlgmbejnaaGreatDoorDataRead
namespace Go.Proofs.YtdhkdjlgmbejnaaGreatDoor
open Go.RowKit Go.Extern.Stop Go.Stop Go.Extern Go.Sort Go.Shelf Go.Lib
set_option maxHeartbeats 1000000 in
theorem once_any (v:Value) (zs:List Int) (w:World) (h:KeysAt w v zs) (hl:zs.length≤1000) :
   Calls Tryz.prog 60 #[v] w fun e w'=> ∃v',e= .returned v'∧KeysAt w' v' (riseZ zs)∧Below w.heap.size w w':=by
 have hclone:=cloneInts_any v zs w h (Nat.le_trans hl (by decide))
 obtain⟨q0,c0,rfl⟩:=h.form
 clear h
 go_enter Tryz.func60,Tryz.ntmps60
 go_wp2_with fail
 refine hclone.mono ?_
 rintro e w1 ⟨v1,rfl,ho,hb1⟩
 clear hclone
 by_cases hv:v1= .slice none 0 0
 · subst hv
   have hx:zs= []:=by
     rcases ho.2 with⟨_,hn⟩|⟨g,cap,cur,e,_⟩
     · exact List.length_eq_zero_iff.1 hn
     · cases e
   subst hx
   have hso:=AnyM.slices_Sort_int_none Tryz.sortInt none 0 w1
   change Calls Tryz.prog 59 _ _ _ at hso
   have hco:=Tryz.slices_Compact_int_empty none 0 w1
   clear ho
   go_wp2_with fail
   refine hso.mono ?_
   rintro e w2 ⟨rfl,rfl⟩
   clear hso
   go_wp2_with fail
   refine hco.mono ?_
   rintro e w3 ⟨rfl,rfl⟩
   clear hco
   go_wp2
   go_ret
   exact⟨_,rfl,Or.inl ⟨none,0,rfl,rise_nil⟩,hb1⟩
 · obtain⟨g,cap,rfl,hbg,hlt,hn,hm,hlen,hH⟩:=holds_of_ownsRow ho hv
   have hso:=AnyM.slices_Sort_int Tryz.sortInt g 0 cap zs w1 hH hlt (by omega)
   change Calls Tryz.prog 59 _ _ _ at hso
   have HH:Hid (Holds (Value.int .i64) w1 g 0 zs.toArray):=hH
   have hcapz:zs.length≤cap:=hn
   clear ho hv hH hn hm hlen
   go_wp2_with fail
   refine hso.mono ?_
   rintro e w2 ⟨rfl,n,os,hw2⟩
   clear hso
   have hH2:Holds (Value.int .i64) w2 g 0 (sortZ zs).toArray:=by
     rw[hw2]
     exact holds_grow (Value.int .i64) _ os g 0 (sortZ zs).toArray (by simpa [putRow,mapBlock,Sort.ahead] using hlt) (holds_putRow (Value.int .i64) (Sort.ahead w1 n) g 0 zs.toArray (sortZ zs).toArray HH.out (by simp[sortZ_len]))
   have hb2:Below w.heap.size w w2:=by
     rw[hw2]
     have h1:Below w.heap.size w (putRow (Value.int .i64) (Sort.ahead w1 n) g 0 (zs.mergeSort fun x y=>decide (x≤y)).toArray):=below_putRow hb1 hbg
     exact h1.trans ((below_grow os).mono h1.size)
   have hlt2:g<w2.heap.size:=by
     rw[hw2]
     have:w1.heap.size≤(grow (putRow (Value.int .i64) (Sort.ahead w1 n) g 0 (zs.mergeSort fun x y=>decide (x≤y)).toArray) os).heap.size:=by simp[grow,putRow,mapBlock,Sort.ahead]
     omega
   have hsl:(sortZ zs).length=zs.length:=sortZ_len zs
   have hco:=Tryz.slices_Compact_int g 0 cap (sortZ zs) w2 hH2 (by omega) (by omega)
   rw[hsl]at hco
   clear hw2
   go_wp2_with fail
   refine hco.mono ?_
   rintro e w3 ⟨rfl,q,hw3⟩
   clear hco
   have hrl:=rise_len zs
   have HK:Hid (KeysAt w3 (.slice (some ⟨g,0,none⟩) (riseZ zs).length cap) (riseZ zs)):=by
     show KeysAt _ _ _
     refine Or.inr ⟨g,0,cap,rfl,fun j hj=>?_⟩
     rw[hw3]
     have hd:(Lib.compact (sortZ zs)++List.replicate (zs.length-(Lib.compact (sortZ zs)).length) 0).toArray.size=(sortZ zs).toArray.size:=by
       have:(Lib.compact (sortZ zs)).length≤zs.length:=hrl
       simp[hsl]
       omega
     have hH3:=holds_putRow (Value.int .i64) (Sort.ahead w2 q) g 0 (sortZ zs).toArray (Lib.compact (sortZ zs)++List.replicate (zs.length-(Lib.compact (sortZ zs)).length) 0).toArray hH2 hd
     have hj':j<(Lib.compact (sortZ zs)).length:=hj
     have:=(hH3 j (by simp;omega)).1
     rw[getElem!_pos _ j (by simp;omega)]at this
     simp only[List.getElem_toArray,List.getElem_append_left hj']at this
     exact this
   have hb3:Below w.heap.size w w3:=by rw[hw3];exact below_putRow hb2 hbg
   have hrd:Lib.compact (sortZ zs)=riseZ zs:=rfl
   rw[hrd]
   clear hw3 hH2 hrd
   generalize (riseZ zs).length=L1 at HK
   go_wp2
   go_ret
   exact⟨_,rfl,HK.out,hb3⟩
set_option maxRecDepth 100000 in
set_option maxHeartbeats 1000000 in
theorem gmake1_any (x:Int) (w:World) (a:Nat→Addr) (h:Env0 w a) (hx:inNum x=true) :
   Calls Tryz.prog 63 #[.int .i64 x] w fun e w'=>e= .returned (.tuple #[.string (bytesOf (itoa x)),.int .i64 x])∧Below w.heap.size w w':=by
 simp only[inNum,Bool.and_eq_true,decide_eq_true_eq]at hx
 have hit:=itoa_below x w a h (by omega) (by omega)
 generalize bytesOf (itoa x)=tb at hit ⊢
 go_enter Tryz.func63,Tryz.ntmps63
 go_wp2_with fail
 refine hit.mono ?_
 rintro e w3 ⟨rfl,hb3⟩
 go_wp2
 go_ret2
 exact⟨rfl,hb3⟩
set_option maxRecDepth 100000 in
set_option maxHeartbeats 4000000 in
theorem writeKeys_any (kb:ByteArray) (hK:kb.data.toList.length≤4) (v:Value) (xs:List Int) (w:World) (a:Nat→Addr) (h:Env0 w a) (hx:KeysAt w v xs) (hl:xs.length≤1000) (hall:∀x∈xs,inNum x=true) :
   Calls Tryz.prog 62 #[.string kb,v,.func (.func 63) #[] #[]] w fun e w'=>e= .returned (.string (bytesOf (headL kb.data.toList xs.length (endsZ (keysG goneK xs)).1 (endsZ (keysG goneK xs)).2 (sumL (linesG goneK xs))++10 :: linesG goneK xs)))∧Below w.heap.size w w':=by
 have eg:∀args w,(callFunc 63 args).run Tryz.prog w= .ok (.enter 63 args) w:=enters_of Tryz.func63 (by kernel_rfl) rfl
 obtain⟨q,cap,rfl⟩:=hx.form
 obtain⟨L,hL⟩:∃L,xs.length=L:=⟨_,rfl⟩
 have HX:Hid (xs.length=L):=hL
 have harg:(Value.slice q xs.length cap)= .slice q L cap:=by rw[hL]
 rw[harg]at hx ⊢
 rw[hL]at hl
 clear hL harg
 have hA:=heap_alloc2_old w (.cells #[.int .i64 0,.int .i64 0,.int .i64 0] 174) (.cells #[.pointer none,.slice none 0 0] 178)
 have hB:=heap_alloc2_new w (.cells #[.int .i64 0,.int .i64 0,.int .i64 0] 174) (.cells #[.pointer none,.slice none 0 0] 178)
 have hal:Below w.heap.size w ((w.alloc (.cells #[.int .i64 0,.int .i64 0,.int .i64 0] 174)).alloc (.cells #[.pointer none,.slice none 0 0] 178)):=((Below.refl _ _).alloc (Nat.le_refl _) _).alloc (by simp) _
 have hbld:Lib.IsBuilder 178 5 (w.heap.size+1) (w.heap.size+1) (Lib.byteCells (linesG goneK ([]:List Int))) ((w.alloc (.cells #[.int .i64 0,.int .i64 0,.int .i64 0] 174)).alloc (.cells #[.pointer none,.slice none 0 0] 178)) :=
   Or.inl ⟨Nat.le_refl _,.slice none 0 0,hB,World.ownsRow_nil _ _ _ _,by simp[Value.ownBlock]⟩
 go_enter Tryz.func62,Tryz.ntmps62
 go_wp2
 go_loopw [16] (fun k wr=> ∃n:Nat,n≤L∧k= .int .i64 n∧Below w.heap.size w wr∧HeadAt wr w.heap.size n (endsZ (keysG goneK (xs.take n)))∧Lib.IsBuilder 178 5 (w.heap.size+1) (w.heap.size+1) (Lib.byteCells (linesG goneK (xs.take n))) wr) (fun k _=>L-(intOf k).toNat)
 case atStart=>exact ⟨0,by omega,rfl,hal,hA,by simpa using hbld⟩
 case round =>
   clear hal hbld hA hB
   obtain⟨n,hn,rfl,hb,hH,hB⟩:=hrel
   have hbh:w.heap.size≤wr.heap.size:=hb.size
   have hbh1:w.heap.size+1<wr.heap.size:=by
     rcases hB with hB | hB
     · exact hB.lt
     · exact hB.lt
   by_cases hlt:n<L
   · have hltx:n<xs.length:=by rw[HX.out];exact hlt
     have hrows:=hx.below hb
     rcases hrows with⟨_,_,e,e'⟩|⟨b,o,cap2,e,hcells⟩
     · exfalso;have:=HX.out;rw[e']at this;simp at this;omega
     injection e with e1 e2 e3
     subst e1
     clear e2 e3
     have c1:=hcells n hltx
     clear hcells
     have hi:(n:Int)<(L:Int):=by omega
     have hmem:xs[n]∈xs:=List.getElem_mem _
     have hrok:=hall _ hmem
     have htk:xs.take (n+1)=xs.take n++ [xs[n]]:=by rw[List.take_append_getElem hltx]
     have htx:=fun W (hW:Env0 W a)=>gmake1_any xs[n] W a hW hrok
     have HTB:Hid ((bytesOf (itoa xs[n])).data.toList=itoa xs[n]):=by show _=_;simp[bytesOf]
     have hts:(bytesOf (itoa xs[n])).size≤32:=by rw[bytes_len];exact gone_fine.len _ hrok
     have HT:Hid (linesG goneK (xs.take (n+1))=linesG goneK (xs.take n)++(itoa xs[n]++ [10])):=by
       show _=_
       rw[htk];exact linesG_snoc goneK _ _
     have HKE:Hid (endsZ (keysG goneK (xs.take (n+1)))=endsP n (endsZ (keysG goneK (xs.take n))) xs[n]):=by
       show _=_
       have hkl:(xs.take n).length=n:=by simp;omega
       have:=ends_more (xs.take n) xs[n]
       rw[hkl]at this
       rw[keysG_gone,keysG_gone,←this,htk]
     have hll:=linesG_len gone_fine (xs.take n) (fun x hx2=>hall x (List.mem_of_mem_take hx2))
     have hlen:(Lib.byteCells (linesG goneK (xs.take n))).length≤40000:=by
       rw[Lib.byteCells_length]
       have:(xs.take n).length≤n:=List.length_take_le _ _
       omega
     clear htk hmem hrok hll
     generalize xs[n]=xk at c1 htx HTB hts HT HKE
     generalize linesG goneK (xs.take n)=acc at hB HT hlen
     generalize endsZ (keysG goneK (xs.take n))=E at hH HKE
     generalize bytesOf (itoa xk)=tb at htx HTB hts
     have htx2:=htx _ (h.below hb)
     clear htx
     go_wp2_with (go_at_fn 63;refine htx2.mono ?_;rintro e w3 ⟨rfl,hb3⟩)
     clear htx2 c1
     have hb4:Below w.heap.size w w3:=hb.trans (hb3.mono hb.size)
     have hH3:=hH.below hb3
     have hB3:=isBuilder_below hB hb3
     have hct:=count_any w.heap.size n E xk w3 hH3 (by omega)
     clear hB hH
     go_wp2_with fail
     refine hct.mono ?_
     rintro e w4 ⟨rfl,rfl⟩
     clear hct
     have hH4:HeadAt (headW w3 w.heap.size (n+1) (endsP n E xk)) w.heap.size (n+1) (endsP n E xk):=headW_at hH3
     have hB4:=isBuilder_head hB3 w.heap.size (n+1) (endsP n E xk) (by omega)
     have hb5:Below w.heap.size w (headW w3 w.heap.size (n+1) (endsP n E xk)):=headW_below hb4 (Nat.le_refl _)
     have hsz5:w.heap.size+1≤(headW w3 w.heap.size (n+1) (endsP n E xk)).heap.size:=by rw[headW_size];exact lt_of_block hH3
     clear hB3 hH3 hb4
     generalize headW w3 w.heap.size (n+1) (endsP n E xk)=W4 at hH4 hB4 hb5 hsz5 ⊢
     have hws:=writeString_any (w.heap.size+1) (w.heap.size+1) _ tb W4 hB4 (by omega) hsz5
     clear hB4
     go_wp2_with fail
     refine hws.mono ?_
     rintro e w5 ⟨rfl,hB5,hb6⟩
     clear hws
     have hb7:Below w.heap.size w w5:=hb5.trans (hb6.mono (Nat.le_succ _))
     have hH5:HeadAt w5 w.heap.size (n+1) (endsP n E xk):=by
       unfold HeadAt at *
       exact(hb6.block _ (Nat.lt_succ_self _)).trans hH4
     have hws:=writeString_any (w.heap.size+1) (w.heap.size+1) _ ⟨#[10]⟩ w5 (Or.inr hB5) (by rw[List.length_append,Lib.strCells_length];have:(⟨#[10]⟩:ByteArray).size=1:=rfl;omega) (Nat.le_trans hsz5 hb6.size)
     clear hH4
     go_wp2_with fail
     refine hws.mono ?_
     rintro e w7 ⟨rfl,hB7,hb8⟩
     clear hws hB5
     have hb9:Below w.heap.size w w7:=hb7.trans (hb8.mono (Nat.le_succ _))
     have HH7:Hid (HeadAt w7 w.heap.size (n+1) (endsZ (keysG goneK (xs.take (n+1))))):=by
       show HeadAt _ _ _ _
       rw[HKE.out]
       unfold HeadAt at *
       exact(hb8.block _ (Nat.lt_succ_self _)).trans hH5
     have HB8:Hid (Lib.IsBuilder 178 5 (w.heap.size+1) (w.heap.size+1) (Lib.byteCells (linesG goneK (xs.take (n+1)))) w7):=by
       show Lib.IsBuilder _ _ _ _ _ _
       rw[HT.out,Lib.byteCells_append,Lib.byteCells_append,←HTB.out,←List.append_assoc]
       exact Or.inr hB7
     clear hB7 hH5
     go_wp2
     go_roundw
     case rel=>exact ⟨n+1,by omega,by go_num,hb9,HH7.out,HB8.out⟩
     case measure=>simp [intOf];omega
   · obtain rfl:n=L:=by omega
     have hta:xs.take n=xs:=List.take_of_length_le (by rw[HX.out];exact Nat.le_refl _)
     rw[hta]at hB hH
     have hst:=Tryz.Builder_String_any (w.heap.size+1) (w.heap.size+1) (linesG goneK xs) wr hB (by omega)
     have hfl:=linesG_len gone_fine xs hall
     have hends:=ends_inG gone_fine hall
     have hsum:=fun W=>sum_any (bytesOf (linesG goneK xs)) W (by rw[bytes_len];unfold maxLen;rw[HX.out]at hfl;omega)
     have eL:(bytesOf (linesG goneK xs)).data.toList=linesG goneK xs:=by simp[bytesOf]
     rw[eL]at hsum
     have hsl:=sumL_lt (linesG goneK xs)
     have hht:=fun W (hW:Env0 W a)=>headText_any kb hK n (endsZ (keysG goneK xs)).1 (endsZ (keysG goneK xs)).2 (sumL (linesG goneK xs)) W a hW (by omega) hends.1 hends.2 hsl
     have hhl:=head_len hK n (endsZ (keysG goneK xs)).1 (endsZ (keysG goneK xs)).2 (sumL (linesG goneK xs)) (by omega) hends.1 hends.2 (by omega)
     obtain⟨T0,hT0⟩:∃T0,bytesOf (headL kb.data.toList xs.length (endsZ (keysG goneK xs)).1 (endsZ (keysG goneK xs)).2 (sumL (linesG goneK xs))++10 :: linesG goneK xs)=T0:=⟨_,rfl⟩
     have HT0:Hid (bytesOf (headL kb.data.toList xs.length (endsZ (keysG goneK xs)).1 (endsZ (keysG goneK xs)).2 (sumL (linesG goneK xs))++10 :: linesG goneK xs)=T0):=hT0
     have HF:Hid (T0=bytesOf (headL kb.data.toList n (endsZ (keysG goneK xs)).1 (endsZ (keysG goneK xs)).2 (sumL (linesG goneK xs)))++⟨#[10]⟩++bytesOf (linesG goneK xs)):=by
       show _=_
       rw[←hT0,HX.out]
       apply ByteArray.ext
       apply Array.ext'
       simp[bytesOf]
     have hs1:(bytesOf (headL kb.data.toList n (endsZ (keysG goneK xs)).1 (endsZ (keysG goneK xs)).2 (sumL (linesG goneK xs)))).size≤2000:=by rw[bytes_len];omega
     have hs2:(bytesOf (linesG goneK xs)).size≤40000:=by rw[bytes_len];rw[HX.out]at hfl;omega
     clear eL hfl hends hhl hta hB hall hT0
     generalize sumL (linesG goneK xs)=S at hht hsum HF hs1 hsl
     generalize endsZ (keysG goneK xs)=E at hht HF hs1 hH
     obtain⟨lo,hi2⟩:=E
     dsimp only at hht HF hs1
     generalize bytesOf (headL kb.data.toList n lo hi2 (S:Int))=hB at hht HF hs1
     have eS:(⟨(linesG goneK xs).toArray⟩:ByteArray)=bytesOf (linesG goneK xs):=rfl
     rw[eS]at hst
     generalize bytesOf (linesG goneK xs)=lB at hst hsum HF hs2
     clear eS
     go_wp2_with fail
     refine hst.mono ?_
     rintro e w2 ⟨rfl,hb2⟩
     clear hst
     have hH2:HeadAt w2 w.heap.size n (lo,hi2):=by
       unfold HeadAt at *
       exact(hb2.block _ (Nat.lt_succ_self _)).trans hH
     obtain⟨g0,g1,g2,_⟩:=hH2.cells
     dsimp only at g1 g2
     clear hH hH2
     have hB2:Below w.heap.size w w2:=hb.trans (hb2.mono (Nat.le_succ _))
     have hE2:=h.below hB2
     have hb0:Below w2.heap.size w2 w2:=Below.refl _ _
     have n1:¬9223372036854775807<hB.size+1:=by omega
     have n2:¬9223372036854775807<hB.size+1+lB.size:=by omega
     go_wp2_with fail
     go_region_held3 (fun w'=>w'.cell? ⟨w.heap.size,0,none⟩=some (.int .i64 n)∧w'.cell? ⟨w.heap.size,1,none⟩=some (.int .i64 lo)∧w'.cell? ⟨w.heap.size,2,none⟩=some (.int .i64 hi2)∧Below w2.heap.size w2 w')
       (first
         | (go_split_ands;exact⟨below_keep hbX (by assumption),below_keep hbX (by assumption),below_keep hbX (by assumption),Below.trans (by assumption) (hbX.mono (Below.size (by assumption)))⟩)
         | (go_split_ands;exact⟨by go_keep,by go_keep,by go_keep,by assumption⟩)
         | (go_split_ands;exact⟨by go_keep,by go_keep,by go_keep,Below.drew (by assumption)⟩))
       (first
         | (go_at_call 117;refine(hsum _).mono ?_;rintro e w3 ⟨rfl,hbX⟩)
         | (go_at_call 116;refine(hht _ (hE2.below (by go_split_ands;assumption))).mono ?_;rintro e w4 ⟨rfl,hbX⟩))
     go_split_ands
     have hbE:Below w2.heap.size w2 w4:=by assumption
     go_wp2
     go_ret
     exact⟨by rw[HT0.out,HF.out];rfl,hB2.trans (hbE.mono hB2.size)⟩
set_option maxRecDepth 100000 in
set_option maxHeartbeats 4000000 in
theorem gmake_any (v:Value) (zs:List Int) (w:World) (a:Nat→Addr) (h:EnvD0 w a) (hz:KeysAt w v zs) (hl:zs.length≤1000) (hn:(riseZ zs).length≤40)
   (m:Nat) (hm:m≤zs.length) (hgood:∀i (h:i<zs.length),i<m→inNum zs[i]=true) (hend:∀(h:m<zs.length),inNum zs[m]=false) :
   Calls Tryz.prog 22 #[v] w fun e w'=>(m=zs.length∧e= .returned (.tuple #[.string (bytesOf (goneF (riseZ zs))),.nilIface])∧Below w.heap.size w w') ∨
     (m<zs.length∧∃fb,e= .returned (.tuple #[.string ⟨#[]⟩,.iface 92 (.pointer (some ⟨fb,0,none⟩))])∧w'.cell? ⟨fb,0,none⟩=some (.int .i64 m)∧w'.cell? ⟨fb,1,none⟩=some (errV a 2)∧Below w.heap.size w w'):=by
 have hon:=once_any v zs w hz hl
 obtain⟨q0,c0,rfl⟩:=hz.form
 obtain⟨L,hL⟩:∃L,zs.length=L:=⟨_,rfl⟩
 have HX:Hid (zs.length=L):=hL
 have HGOOD:Hid (∀i (h:i<zs.length),i<m→inNum zs[i]=true):=hgood
 have HEND:Hid (∀(h:m<zs.length),inNum zs[m]=false):=hend
 rw[hL]at hm hl
 have harg:(Value.slice q0 zs.length c0)= .slice q0 L c0:=by rw[hL]
 rw[harg]at hz hon ⊢
 clear hL hgood hend harg
 have hi40:¬(40:Int)<((riseZ zs).length:Int):=by omega
 go_enter Tryz.func22,Tryz.ntmps22
 go_wp2_with fail
 refine hon.mono ?_
 rintro e w1 ⟨v1,rfl,hk1,hb1⟩
 clear hon
 obtain⟨q1,c1,rfl⟩:=hk1.form
 obtain⟨L1,hL1⟩:∃L1,(riseZ zs).length=L1:=⟨_,rfl⟩
 have HL1:Hid ((riseZ zs).length=L1):=hL1
 rw[hL1]at hi40 hn hk1 ⊢
 have HK1:Hid (KeysAt w1 (.slice q1 L1 c1) (riseZ zs)):=hk1
 clear hL1 hk1
 go_wp2
 go_loopw [15] (fun k wr=> ∃n:Nat,n≤m∧k= .int .i64 n∧Below w1.heap.size w1 wr) (fun k _=>L-(intOf k).toNat)
 case atStart=>exact ⟨0,by omega,rfl,Below.refl _ _⟩
 case round =>
   obtain⟨n,hnm0,rfl,hb⟩:=hrel
   have hBr:Below w.heap.size w wr:=hb1.trans (hb.mono hb1.size)
   by_cases hlt:n<L
   · have hltx:n<zs.length:=by rw[HX.out];exact hlt
     have hrows:=hz.below hBr
     rcases hrows with⟨_,_,e,e'⟩|⟨b,o,cap2,e,hcells⟩
     · exfalso;have:=HX.out;rw[e']at this;simp at this;omega
     injection e with e1 e2 e3
     subst e1
     clear e2 e3
     have c1:=hcells n hltx
     clear hcells
     have hi:(n:Int)<(L:Int):=by omega
     have hck:=inBounds_any zs[n] wr
     by_cases hnm:n<m
     · rw[HGOOD.out n hltx hnm]at hck
       generalize zs[n]=xk at c1 hck
       go_wp2_with fail
       refine hck.mono ?_
       rintro e w3 ⟨rfl,rfl⟩
       clear hck c1
       go_wp2
       go_roundw
       case rel=>exact ⟨n+1,by omega,by go_num,hb⟩
       case measure=>simp [intOf];omega
     · obtain rfl:n=m:=by omega
       rw[HEND.out hltx]at hck
       generalize zs[n]=xk at c1 hck
       have hbd:=(h.below hBr).env.bound
       have hb5:Below w.heap.size w (wr.alloc (.cells #[.int .i64 n,.iface 327 (.pointer (some (a 1)))] 94)):=hBr.alloc hBr.size _
       go_wp2_with fail
       refine hck.mono ?_
       rintro e w3 ⟨rfl,rfl⟩
       clear hck c1
       go_wp2
       go_region
       go_wp2
       go_ret2
       exact Or.inr ⟨hltx,w3.heap.size,rfl,by simp,by simp[errV],hb5.drew⟩
   · have hnm:n=m:=by omega
     have hmL:m=L:=by omega
     subst hnm
     have hall:∀x∈riseZ zs,inNum x=true:=fun x hxm=>by
       obtain⟨i,hi,e⟩:=List.mem_iff_getElem.1 ((rise_mem zs x).1 hxm)
       rw[←e]
       exact HGOOD.out i hi (by rw[hmL,←HX.out];exact hi)
     have hwl:=writeKeys_any ⟨#[103,111,110,101]⟩ (by decide) (.slice q1 L1 c1) (riseZ zs) wr a (h.env.below hBr) (HK1.out.below hb) (by rw[HL1.out];omega) hall
     have HF:Hid (bytesOf (headL (⟨#[103,111,110,101]⟩:ByteArray).data.toList (riseZ zs).length (endsZ (keysG goneK (riseZ zs))).1 (endsZ (keysG goneK (riseZ zs))).2 (sumL (linesG goneK (riseZ zs)))++10 :: linesG goneK (riseZ zs))=bytesOf (goneF (riseZ zs))):=rfl
     rw[HF.out]at hwl
     clear hall HF hlt
     obtain⟨fB,hfB⟩:∃fB,bytesOf (goneF (riseZ zs))=fB:=⟨_,rfl⟩
     have HFB:Hid (bytesOf (goneF (riseZ zs))=fB):=hfB
     rw[hfB]at hwl
     clear hfB
     go_wp2_with fail
     refine hwl.mono ?_
     rintro e w2 ⟨rfl,hb2⟩
     clear hwl
     go_wp2
     go_ret2
     exact Or.inl ⟨hmL.trans HX.out.symm,by rw[HFB.out];rfl,hBr.trans (hb2.mono hBr.size)⟩
end Go.Proofs.YtdhkdjlgmbejnaaGreatDoor
namespace Go.Proofs.YtdhkdjlgmbejnaaGreatDoor
open Go Go.Lib
theorem digitVal_is {c:UInt8} {d:Nat} (h:digitVal c=some d):d<10∧c=UInt8.ofNat (48+d):=by
 unfold digitVal at h
 split at h
 · rename_i hc
   have e:=Option.some.inj h
   refine⟨by omega,?_⟩
   apply UInt8.toNat_inj.1
   rw[UInt8.toNat_ofNat']
   omega
 · cases h
theorem digits_zero:decDigits 0= [48]:=by rw[decDigits,dif_pos (by omega)];rfl
theorem head_append {l r:List UInt8} (h:l≠ []):(l++r).head? =l.head? :=by
 cases l with
 | nil=>exact absurd rfl h
 | cons a l=>rfl
theorem digits_head (u:Nat) (h:1≤u):(decDigits u).head? ≠some 48:=by
 induction u using Nat.strongRecOn with
 | _ u ih =>
   rw[decDigits]
   by_cases h':u<10
   · rw[dif_pos h']
     intro e
     simp only[List.head?_cons,Option.some.injEq]at e
     have:=congrArg UInt8.toNat e
     rw[UInt8.toNat_ofNat']at this
     simp at this
     omega
   · rw[dif_neg h',head_append (digits_ne _)]
     exact ih (u / 10) (by omega) (by omega)
theorem digits_of:∀(k:Nat) (l:List UInt8) (m:Nat),l.length=k→l≠ []→(l.head? =some 48→l.length=1)→decFrom 0 l=some m→decDigits m=l:=by
 intro k
 induction k with
 | zero=>intro l m hl hne;exact absurd (List.length_eq_zero_iff.1 hl) hne
 | succ k ih =>
   intro l m hl hne hz h
   obtain⟨r,c,rfl⟩:∃r c,l=r++ [c]:=⟨l.dropLast,l.getLast hne,(List.dropLast_concat_getLast hne).symm⟩
   rw[decFrom_append]at h
   by_cases hr:r= []
   · subst hr
     simp only[decFrom,Option.bind_some]at h
     cases hd:digitVal c with
     | none=>rw [hd]at h;cases h
     | some d =>
       rw[hd]at h
       obtain⟨h1,rfl⟩:=digitVal_is hd
       simp at h
       subst h
       rw[decDigits,dif_pos h1]
       rfl
   · cases hm:decFrom 0 r with
     | none=>rw [hm]at h;cases h
     | some q =>
       rw[hm]at h
       simp only[Option.bind_some,decFrom]at h
       have hrl:r.length=k:=by simp at hl;omega
       have hr1:1≤r.length:=List.length_pos_iff.2 hr
       rw[head_append hr]at hz
       have hz':r.head? ≠some 48:=fun e=>by have:=hz e;rw[List.length_append,List.length_singleton]at this;omega
       have hq:=ih r q hrl hr (fun e=>absurd e hz') hm
       have hq1:1≤q:=by
         rcases Nat.eq_zero_or_pos q with e | e
         · subst e;rw[digits_zero]at hq;rw[←hq]at hz';exact absurd rfl hz'
         · exact e
       cases hd:digitVal c with
       | none=>rw [hd]at h;cases h
       | some d =>
         rw[hd]at h
         obtain⟨h1,rfl⟩:=digitVal_is hd
         have h:=Option.some.inj h
         subst h
         rw[decDigits,dif_neg (by omega),show (q*10+d) / 10=q by omega,show (q*10+d) % 10=d by omega,hq]
def digsOf (s:List UInt8):List UInt8:=if s.head? =some 45 then s.tail else s
def numP (s:List UInt8):Option Int :=
 if (digsOf s).length<1∨11<s.length then none
 else if (digsOf s).head? =some 48∧1<s.length then none
 else (decFrom 0 (digsOf s)).map fun (m:Nat)=>if (digsOf s).length<s.length then -(m:Int) else (m:Int)
theorem numP_is (s:List UInt8):numP s=numO s:=by
 unfold numP numO
 by_cases hl:s.length≤11
 · rw [if_pos hl]
   cases s with
   | nil=>simp [digsOf,atoi]
   | cons b r =>
     by_cases hb:b=45
     · subst hb
       have hd:digsOf (45 :: r)=r:=by simp[digsOf]
       rw[hd]
       have ha:atoi (45 :: r)=(decNat r).map fun (m:Nat)=> -(m:Int):=by simp[atoi]
       rw[ha]
       unfold decNat
       by_cases hr:r= []
       · subst hr;simp
       · have hr1:1≤r.length:=List.length_pos_iff.2 hr
         rw[if_neg (show ¬(r.length<1∨11<(45 :: r).length) by omega),if_neg (show ¬r.isEmpty=true by simp[hr])]
         cases hm:decFrom 0 r with
         | none=>simp
         | some m =>
           simp only[Option.map_some]
           by_cases hz:r.head? =some 48
           · rw[if_pos ⟨hz,by simp;omega⟩]
             rw[if_neg]
             intro e
             unfold itoa at e
             by_cases hm0: -(m:Int)<0
             · rw[if_pos hm0]at e
               have e2:=(List.cons.inj e).2
               rw[show (-(m:Int)).natAbs=m by omega]at e2
               exact digits_head m (by omega) (by rw[e2];exact hz)
             · rw[if_neg hm0]at e
               have:=digits_are (-(m:Int)).toNat 45 (by rw[e];exact List.mem_cons_self)
               simp at this
           · rw[if_neg (fun h=>hz h.1)]
             have hq:=digits_of _ r m rfl hr (fun e=>absurd e hz) hm
             have hm1:1≤m:=by
               rcases Nat.eq_zero_or_pos m with e | e
               · subst e;rw[digits_zero]at hq;rw[←hq]at hz;exact absurd rfl hz
               · exact e
             rw[if_pos (by simp)]
             rw[if_pos]
             unfold itoa
             rw[if_pos (by omega),show (-(m:Int)).natAbs=m by omega,hq]
     · have hd :digsOf (b :: r)=b :: r:=by simp[digsOf,hb]
       rw[hd]
       by_cases hp:b=43
       · subst hp
         have ha:atoi (43 :: r)=(decNat r).map fun (m:Nat)=>(m:Int):=by simp[atoi]
         rw[ha]
         have hf:decFrom 0 (43 :: r)=none:=by
           unfold decFrom
           have:digitVal 43=none:=by decide
           rw[this]
         rw[hf]
         cases hm:decNat r with
         | none=>simp
         | some m =>
           simp only[Option.map_some]
           have:¬itoa (m:Int)=43 :: r:=by
             intro e
             unfold itoa at e
             rw[if_neg (by omega)]at e
             have:=digits_are (m:Int).toNat 43 (by rw[e];exact List.mem_cons_self)
             simp at this
           rw[if_neg this]
           simp
       · have ha:atoi (b :: r)=(decNat (b :: r)).map fun (m:Nat)=>(m:Int):=by simp[atoi,hb,hp]
         rw[ha]
         have hdn:decNat (b :: r)=decFrom 0 (b :: r):=by simp[decNat]
         rw[hdn,if_neg (by simp;simpa using hl)]
         cases hm:decFrom 0 (b :: r) with
         | none=>simp
         | some m =>
           simp only[Option.map_some]
           have hi:itoa (m:Int)=decDigits m:=by
             unfold itoa
             rw[if_neg (by omega)]
             rfl
           rw[hi]
           by_cases hz:(b :: r).head? =some 48∧1<(b :: r).length
           · rw[if_pos hz,if_neg]
             intro e
             rcases Nat.eq_zero_or_pos m with e0 | e0
             · subst e0
               rw[digits_zero]at e
               have:=hz.2
               rw[←e]at this
               simp at this
             · exact digits_head m e0 (by rw[e];exact hz.1)
           · rw[if_neg hz]
             have hq:=digits_of _ (b :: r) m rfl (by simp) (fun e=>by
               have:¬1<(b :: r).length:=fun h=>hz ⟨e,h⟩
               simp at this ⊢
               exact this) hm
             rw[if_neg (by omega),if_pos hq]
 · rw[if_neg hl,if_pos (Or.inr (by omega))]
end Go.Proofs.YtdhkdjlgmbejnaaGreatDoor
namespace Go.Proofs.YtdhkdjlgmbejnaaGreatDoor
open Go.RowKit Go.Extern.Stop Go.Stop Go.Extern Go.Sort Go.Shelf Go.Lib
theorem isFar_any (n:Int) (w:World):Calls Tryz.prog 80 #[.int .i64 n] w fun e w'=>e= .returned (.bool (!inNum n))∧w'=w:=by
 by_cases h1:n < -1073741824
 · have hr:inNum n=false:=by simp[inNum];omega
   rw[hr]
   go_enter Tryz.func80,Tryz.ntmps80
   go_wp2
   go_ret
   exact⟨rfl,rfl⟩
 · by_cases h2:1073741824<n
   · have hr:inNum n=false:=by simp[inNum];omega
     rw[hr]
     go_enter Tryz.func80,Tryz.ntmps80
     go_wp2
     go_ret
     exact⟨rfl,rfl⟩
   · have hr:inNum n=true:=by simp[inNum];omega
     rw[hr]
     go_enter Tryz.func80,Tryz.ntmps80
     go_wp2
     go_ret
     exact⟨rfl,rfl⟩
set_option maxHeartbeats 2000000 in
theorem isWord_any (s:ByteArray) (m:Nat) (w:World) (hs:s.size≤maxLen):Calls Tryz.prog 131 #[.string s,.int .i64 m] w fun e w'=>e= .returned (.bool (wordB m s.data.toList))∧w'=w:=by
 unfold maxLen at hs
 have hsz:=size_list s
 generalize hr:wordB m s.data.toList=r
 have HR:Hid (wordB m s.data.toList=r):=hr
 have HS:Hid (s.data.toList.length=s.size):=hsz
 clear hr hsz
 go_enter Tryz.func131,Tryz.ntmps131
 go_wp2
 go_loop [5] (fun k=> ∃n:Nat,n≤s.size∧(∀j c,j<n→s.data.toList[j]? =some c→nbI c.toNat=true)∧k= .int .i64 n) (fun k=>s.size-(intOf k).toNat)
 case atStart=>exact ⟨0,by omega,by omega,rfl⟩
 case round =>
   obtain⟨n,hn,ht,rfl⟩:=hrel
   have HT:Hid (∀j c,j<n→s.data.toList[j]? =some c→nbI c.toNat=true):=ht
   clear ht
   by_cases hlt:n<s.size
   · have hi:(n:Int)<(s.size:Int):=by omega
     have hbl:=byte_list s n hlt
     have HB:Hid (s.data.toList[n]? =some s[n]):=hbl
     clear hbl
     have bad:nbI (s[n].toNat:Int)=false→r=false:=fun hv=>by
       rw[←HR.out]
       simp only[wordB,Bool.and_eq_false_iff]
       right
       rw[List.all_eq_false]
       exact⟨s[n],List.mem_of_getElem? HB.out,by rw[hv];simp⟩
     have good:nbI (s[n].toNat:Int)=true→∀j c,j<n+1→s.data.toList[j]? =some c→nbI c.toNat=true:=fun hv=>all_succ HT.out hlt hv
     have BAD:Hid (nbI (s[n].toNat:Int)=false→r=false):=bad
     have GOOD:Hid (nbI (s[n].toNat:Int)=true→∀j c,j<n+1→s.data.toList[j]? =some c→nbI c.toNat=true):=good
     clear bad good
     by_cases h1:97≤(s[n].toNat:Int)
     · by_cases h2:(s[n].toNat:Int)≤122
       · have hv:nbI (s[n].toNat:Int)=true:=by unfold nbI;simp only[h1,h2,decide_true,Bool.and_self,Bool.true_or]
         have G:Hid (∀j c,j<n+1→s.data.toList[j]? =some c→nbI c.toNat=true):=GOOD.out hv
         clear hv
         have h3:(48:Int)≤(s[n].toNat:Int):=by omega
         have h4:¬(s[n].toNat:Int)≤57:=by omega
         go_wp2
         go_round
         case rel=>exact ⟨n+1,by omega,G.out,by go_num⟩
         case measure=>simp [intOf];omega
       · have h3:(48:Int)≤(s[n].toNat:Int):=by omega
         have h4:¬(s[n].toNat:Int)≤57:=by omega
         have hv:nbI (s[n].toNat:Int)=false:=by unfold nbI;simp only[h1,h2,h3,h4,decide_true,decide_false,Bool.and_false,Bool.or_self]
         have hr:=BAD.out hv
         subst hr
         clear hv
         go_wp2
         go_ret
         exact⟨rfl,rfl⟩
     · have h2:(s[n].toNat:Int)≤122:=by omega
       by_cases h3:48≤(s[n].toNat:Int)
       · by_cases h4:(s[n].toNat:Int)≤57
         · have hv:nbI (s[n].toNat:Int)=true:=by unfold nbI;simp only[h1,h3,h4,decide_true,decide_false,Bool.and_self,Bool.false_and,Bool.false_or]
           have G:Hid (∀j c,j<n+1→s.data.toList[j]? =some c→nbI c.toNat=true):=GOOD.out hv
           clear hv
           go_wp2
           go_round
           case rel=>exact ⟨n+1,by omega,G.out,by go_num⟩
           case measure=>simp [intOf];omega
         · have hv:nbI (s[n].toNat:Int)=false:=by unfold nbI;simp only[h1,h3,h4,decide_true,decide_false,Bool.and_false,Bool.false_and,Bool.or_self]
           have hr:=BAD.out hv
           subst hr
           clear hv
           go_wp2
           go_ret
           exact⟨rfl,rfl⟩
       · have hv:nbI (s[n].toNat:Int)=false:=by unfold nbI;simp only[h1,h3,decide_false,Bool.false_and,Bool.or_self]
         have hr:=BAD.out hv
         subst hr
         clear hv
         go_wp2
         go_ret
         exact⟨rfl,rfl⟩
   · have hall:s.data.toList.all (fun c=>nbI c.toNat)=true:=by
       rw[List.all_eq_true]
       intro c hc
       obtain⟨k,hk⟩:=List.mem_iff_getElem?.1 hc
       have hk':k<s.data.toList.length:=by
         rcases Nat.lt_or_ge k s.data.toList.length with h | h
         · exact h
         · rw[List.getElem?_eq_none h]at hk;cases hk
       have:=HS.out
       exact HT.out k c (by omega) hk
     have hrr:r=(decide (1≤s.size) && decide (s.size≤m)):=by
       rw[←HR.out]
       unfold wordB
       rw[hall,HS.out,Bool.and_true]
     have hn':n=s.size:=by omega
     subst hn'
     clear hall
     by_cases g1:1≤s.size
     · by_cases g2:s.size≤m
       · have e:r=true:=by rw[hrr];simp[g1,g2]
         subst e
         clear hrr
         have g3:decide ((s.size:Int)≤(m:Int))=true:=decide_eq_true (by omega)
         have G3:Hid (decide ((s.size:Int)≤(m:Int))=true):=g3
         clear g3
         go_wp2
         go_ret
         exact⟨congrArg (fun b=>Ending.returned (Value.bool b)) (by first | exact G3.out | (simp<;>omega)),rfl⟩
       · have e:r=false:=by rw[hrr];simp[g2]
         subst e
         clear hrr
         have g3:decide ((s.size:Int)≤(m:Int))=false:=decide_eq_false (by omega)
         have G3:Hid (decide ((s.size:Int)≤(m:Int))=false):=g3
         clear g3
         go_wp2
         go_ret
         exact⟨congrArg (fun b=>Ending.returned (Value.bool b)) (by first | exact G3.out | (simp<;>omega)),rfl⟩
     · have e:r=false:=by rw[hrr];simp[g1]
       subst e
       clear hrr
       go_wp2
       go_ret
       exact⟨rfl,rfl⟩
theorem isName_any (s:ByteArray) (w:World) (hs:s.size≤maxLen):Calls Tryz.prog 131 #[.string s,.int .i64 8] w fun e w'=>e= .returned (.bool (nameB s.data.toList))∧w'=w :=
 isWord_any s 8 w hs
set_option maxHeartbeats 1000000 in
theorem rowError_any (x:Rw) (w:World) (hs:x.1.size≤maxLen) :
   Calls Tryz.prog 75 #[.agg #[.string x.1,.int .i64 x.2.1,.int .i64 x.2.2]] w fun e w'=>e= .returned (.int .i64 (rowE x))∧Below w.heap.size w w':=by
 obtain⟨p,k,v⟩:=x
 dsimp only at hs ⊢
 have hb:Below w.heap.size w (w.alloc (.cells #[.string p,.int .i64 k,.int .i64 v] 54)):=(Below.refl _ _).alloc (Nat.le_refl _) _
 have hn:=isName_any p (w.alloc (.cells #[.string p,.int .i64 k,.int .i64 v] 54)) hs
 have hB:=fun n W=>isFar_any n W
 unfold rowE
 dsimp only
 cases h1:nameB p.data.toList
 · rw[h1]at hn
   simp only[Bool.false_eq_true,if_false]
   clear h1
   go_enter Tryz.func75,Tryz.ntmps75
   go_wp2_with (go_at_call 131;refine hn.mono ?_;rintro e w' ⟨rfl,rfl⟩)
   go_ret
   exact⟨rfl,hb⟩
 · rw[h1]at hn
   clear h1
   cases h2:inNum k<;>cases h3:inNum v
   all_goals
     simp only[if_true,Bool.false_and,Bool.and_false,Bool.and_self,Bool.false_eq_true,if_false]
     go_enter Tryz.func75,Tryz.ntmps75
     go_wp2_with (first | (go_at_call 131;refine hn.mono ?_;rintro e w' ⟨rfl,rfl⟩) | (go_at_call 80;refine(hB _ _).mono ?_;rintro e w' ⟨rfl,rfl⟩))
     go_ret
     exact⟨rfl,hb⟩
end Go.Proofs.YtdhkdjlgmbejnaaGreatDoor
