/- By an AI agent. -/
import Derived.Test.YtdhkdjlgmbejnaaGreatDoorTellsWalk
namespace Go.Proofs.YtdhkdjlgmbejnaaGreatDoor
open Go.RowKit Go.Extern.Stop Go.Stop Go.Extern Go.Sort Go.Shelf Go.Lib
theorem fine_of (w:World):Calls Tryz.prog 57 #[] w fun e w'=>e= .returned (.agg #[.int .i64 0,.int .i64 (-1)])∧Below w.heap.size w w':=by
 go_enter Tryz.func57,Tryz.ntmps57
 go_wp2
 refine bodyPost_ret (v:=.agg #[.int .i64 0,.int .i64 (-1)]) (by simp[results,Tryz.results57,go_sem]) rfl ⟨rfl,?_⟩
 exact(Below.refl _ _).alloc (Nat.le_refl _) _
theorem bare_of (n:Int) (w:World):Calls Tryz.prog 74 #[.int .i64 n] w fun e w'=>e= .returned (.agg #[.int .i64 n,.int .i64 (-1)])∧Below w.heap.size w w':=by
 go_enter Tryz.func74,Tryz.ntmps74
 go_wp2
 refine bodyPost_ret (v:=.agg #[.int .i64 n,.int .i64 (-1)]) (by simp[results,Tryz.results74,go_sem]) rfl ⟨rfl,?_⟩
 exact(Below.refl _ _).alloc (Nat.le_refl _) _
def FC (W:World) (F:Nat) (x y:Int):Prop:=W.heap[F]? =some (.cells #[.int .i64 x,.int .i64 y] 46 (0,0))
theorem FC.lt {W:World} {F:Nat} {x y:Int} (h:FC W F x y):F<W.heap.size:=lt_of_block h
theorem FC.below {W W':World} {F:Nat} {x y:Int} (h:FC W F x y) (hb:Below W.heap.size W W'):FC W' F x y:=(hb.block F h.lt).trans h
theorem FC.c0 {W:World} {F:Nat} {x y:Int} (h:FC W F x y):W.cell? ⟨F,0,none⟩=some (.int .i64 x):=by rw[cell_of_row _ _ _ _ _ _ h];rfl
theorem FC.c1 {W:World} {F:Nat} {x y:Int} (h:FC W F x y):W.cell? ⟨F,1,none⟩=some (.int .i64 y):=by rw[cell_of_row _ _ _ _ _ _ h];rfl
theorem FC.fz {W:World} {F:Nat} {x y:Int} (h:FC W F x y) (o:Nat):W.frozen? ⟨F,o,none⟩=false:=frozen_of_row _ _ _ _ _ h
theorem FC.new (w:World):FC (w.alloc (.cells #[.int .i64 0,.int .i64 0] 46)) w.heap.size 0 0:=heap_alloc_new _ _
theorem FC.set {W:World} {F:Nat} {x y:Int} (h:FC W F x y) (a b:Int):FC ((W.setCell ⟨F,0,none⟩ (.int .i64 a)).setCell ⟨F,1,none⟩ (.int .i64 b)) F a b:=by
 have h1:(W.setCell ⟨F,0,none⟩ (.int .i64 a)).heap[F]? =some (.cells #[.int .i64 a,.int .i64 y] 46 (0,0)):=by
   rw[heap_setCell_same _ _ _ _ _ _ h];rfl
 show _=_
 rw[heap_setCell_same _ _ _ _ _ _ h1];rfl
set_option maxRecDepth 100000 in
set_option maxHeartbeats 2000000 in
theorem dataOf_full (q:Option Addr) (n cap:Nat) (w:World) (hn:40<n) (hl:n≤maxLen) :
   Calls Tryz.prog 33 #[.slice q n cap] w fun e w'=>e= .returned (.tuple #[.string ⟨#[]⟩,.agg #[.int .i64 8,.int .i64 (-1)]])∧Below w.heap.size w w':=by
 unfold maxLen at hl
 have hi:(40:Int)<(n:Int):=by omega
 have hf0:=FC.new w
 have hbr:=fun W=>bare_of 8 W
 have hal:Below w.heap.size w (w.alloc (.cells #[.int .i64 0,.int .i64 0] 46)):=(Below.refl _ _).alloc (Nat.le_refl _) _
 go_enter Tryz.func33,Tryz.ntmps33
 go_wp2_with fail
 refine(hbr _).mono ?_
 rintro e w1 ⟨rfl,hb1⟩
 clear hbr
 have hf1:=hf0.below hb1
 have hB1:Below w.heap.size w w1:=hal.trans (hb1.mono hal.size)
 have j0:=hf1.c0
 have j1:=hf1.c1
 have jz:=hf1.fz
 clear hf0 hal hb1
 go_wp2
 refine bodyPost_ret (v:=.tuple #[.string ⟨#[]⟩,.agg #[.int .i64 8,.int .i64 (-1)]]) (by simp[results,Tryz.results33,go_sem,j0,j1]) rfl ⟨rfl,?_⟩
 exact(hB1.setCell (by simp) _).setCell (by simp) _
theorem lines_take (xs:List Rw) (n:Nat) (h:n<xs.length):linesL (xs.take (n+1))=linesL (xs.take n)++(textL xs[n]++ [10]):=by
 rw[←List.take_append_getElem h,lines_snoc]
set_option maxRecDepth 100000 in
set_option maxHeartbeats 4000000 in
theorem dataOf_any (q:Option Addr) (cap:Nat) (xs:List Rw) (w:World) (hx:RowsAt w (.slice q xs.length cap) xs) (hl:xs.length≤40) (hp:∀x∈xs,x.1.size≤30)
   (m:Nat) (hm:m≤xs.length) (hgood:∀i (h:i<xs.length),i<m→rowE xs[i]=0) (hend:∀(h:m<xs.length),rowE xs[m]≠0) :
   Calls Tryz.prog 33 #[.slice q xs.length cap] w fun e w'=>(m=xs.length∧e= .returned (.tuple #[.string (bytesOf (fileOf (sortR xs))),.agg #[.int .i64 0,.int .i64 (-1)]])∧Below w.heap.size w w') ∨
     (∃h:m<xs.length,e= .returned (.tuple #[.string ⟨#[]⟩,.agg #[.int .i64 (rowE xs[m]),.int .i64 m]])∧Below w.heap.size w w'):=by
 have HALL:Hid (m=xs.length→∀x∈xs,rowE x=0):=fun e x hxm=>by
   obtain⟨i,hi,e'⟩:=List.mem_iff_getElem.1 hxm
   rw[←e']
   exact hgood i hi (by omega)
 obtain⟨L,hL⟩:∃L,xs.length=L:=⟨_,rfl⟩
 have HX:Hid (xs.length=L):=hL
 have HGOOD:Hid (∀i (h:i<xs.length),i<m→rowE xs[i]=0):=hgood
 have HEND:Hid (∀(h:m<xs.length),rowE xs[m]≠0):=hend
 have hsl:(sortR xs).length=L:=by rw[(sortR_perm xs).length_eq,hL]
 have hkl:(keysR xs).length=L:=by simp[keysG,hL]
 have HKS:Hid (endsZ (keysR (sortR xs))=endsZ (keysR xs)):=keys_perm (sortR_perm xs)
 have HP:Hid (∀x∈xs,x.1.size≤30):=hp
 have hso:=fun W (hr:RowsAt W (.slice q xs.length cap) xs)=>sortRows_at (.slice q xs.length cap) xs W hr (by omega)
 have hko:=fun W (hr:RowsAt W (.slice q xs.length cap) xs)=>keysOf_any (.slice q xs.length cap) xs W hr (by omega)
 rw[hL]at hx hl hm
 simp only[hL]at hso hko
 have harg:(Value.slice q xs.length cap)= .slice q L cap:=by rw[hL]
 rw[harg]
 have hi40:¬(40:Int)<(L:Int):=by omega
 have hf0:=FC.new w
 have hal:Below w.heap.size w (w.alloc (.cells #[.int .i64 0,.int .i64 0] 46)):=(Below.refl _ _).alloc (Nat.le_refl _) _
 clear hL hgood hend harg hp
 go_enter Tryz.func33,Tryz.ntmps33
 go_wp2
 generalize w.alloc (.cells #[.int .i64 0,.int .i64 0] 46)=w1 at hf0 hal ⊢
 have hx1:∀W,Below w1.heap.size w1 W→RowsAt W (.slice q L cap) xs:=fun W hW=>hx.below (hal.trans (hW.mono hal.size))
 clear hx
 go_loopw [4] (fun k wr=> ∃n:Nat,n≤m∧k= .int .i64 n∧Below w1.heap.size w1 wr) (fun k _=>L-(intOf k).toNat)
 case atStart=>exact ⟨0,by omega,rfl,Below.refl _ _⟩
 case round =>
   obtain⟨n,hn,rfl,hb⟩:=hrel
   by_cases hlt:n<L
   · have hltx:n<xs.length:=by rw[HX.out];exact hlt
     have hrows:=hx1 wr hb
     rcases hrows with⟨_,_,e,e'⟩|⟨b,o,cap2,e,hcells⟩
     · exfalso;have:=HX.out;rw[e']at this;simp at this;omega
     injection e with e1 e2 e3
     subst e1
     clear e2 e3
     obtain⟨c1,c2,c3⟩:=hcells n hltx
     clear hcells
     have hi:(n:Int)<(L:Int):=by omega
     have hi0:(0:Int)≤(n:Int):=by omega
     have hrp:=HP.out xs[n] (List.getElem_mem _)
     have hre:=rowError_any xs[n] wr (by unfold maxLen;omega)
     by_cases hltm:n<m
     · rw[HGOOD.out n hltx hltm]at hre
       generalize xs[n]=x at c1 c2 c3 hre
       obtain⟨xp,xk,xv⟩:=x
       dsimp only at c1 c2 c3 hre
       clear hso hko hx1
       go_wp2_with fail
       refine hre.mono ?_
       rintro e w2 ⟨rfl,hb2⟩
       clear hre
       have hb3:Below w1.heap.size w1 w2:=hb.trans (hb2.mono hb.size)
       go_wp2
       go_roundw
       case rel=>exact ⟨n+1,by omega,by go_num,hb3⟩
       case measure=>simp [intOf];omega
     · have hnm:n=m:=by omega
       subst hnm
       have hE:=HEND.out hltx
       obtain⟨E,hEE⟩:∃E,rowE xs[n]=E:=⟨_,rfl⟩
       have HEE:Hid (rowE xs[n]=E):=hEE
       rw[hEE]at hre hE
       have hEp:(0:Int)<(E:Int):=by omega
       clear hEE hE hrp
       generalize xs[n].1=xp at c1 hre
       generalize xs[n].2.1=xk at c2 hre
       generalize xs[n].2.2=xv at c3 hre
       clear hso hko hx1
       have hf2:=hf0.below hb
       go_wp2_with fail
       refine hre.mono ?_
       rintro e w2 ⟨rfl,hb2⟩
       clear hre
       have hb3:Below w1.heap.size w1 w2:=hb.trans (hb2.mono hb.size)
       have hB:Below w.heap.size w w2:=hal.trans (hb3.mono hal.size)
       have hf3:=hf2.below hb2
       have j0:=hf3.c0
       have j1:=hf3.c1
       have jz:=hf3.fz
       clear hf0 hf2 c1 c2 c3
       go_wp2
       refine bodyPost_ret (v:=.tuple #[.string ⟨#[]⟩,.agg #[.int .i64 E,.int .i64 n]]) (by simp[results,Tryz.results33,go_sem,j0,j1]) rfl (Or.inr ⟨hltx,by rw[HEE.out],?_⟩)
       exact(hB.setCell (by simp) _).setCell (by simp) _
   · have hn':n=L:=by omega
     subst hn'
     have hmL:m=n:=by omega
     have hall:=HALL.out (by rw[HX.out];exact hmL)
     have hso1:=hso wr (hx1 wr hb)
     clear hso
     go_wp2_with fail
     refine hso1.mono ?_
     rintro e w2 ⟨v2,rfl,hv2,hb2⟩
     clear hso1
     have hB2:Below w1.heap.size w1 w2:=hb.trans (hb2.mono hb.size)
     obtain⟨p2,c2,hv2f⟩:=hv2.form
     rw[hsl]at hv2f
     subst hv2f
     have hok:=sort_ok hall
     have HOK:Hid (∀x∈sortR xs,rowE x=0):=hok
     have HLL:Hid (∀k,(linesL ((sortR xs).take k)).length≤33*k):=fun k=>by
       have h1:=lines_len ((sortR xs).take k) (fun x hxx=>hok x (List.mem_of_mem_take hxx))
       rw[List.length_take]at h1
       omega
     have HPS:Hid (∀x∈sortR xs,x.1.size≤30):=fun x hxx=>HP.out x ((sortR_perm xs).mem_iff.1 hxx)
     have hinE:=ends_in hall
     have HFL:Hid (bytesOf (headL (⟨#[100,97,116,97]⟩:ByteArray).data.toList (keysR xs).length (endsZ (keysR xs)).1 (endsZ (keysR xs)).2 (sumL (linesL (sortR xs)))++10 :: linesL (sortR xs))=bytesOf (fileOf (sortR xs))):=by
       show _=_
       have e:fileOf (sortR xs)=headL kData (sortR xs).length (endsZ (keysR (sortR xs))).1 (endsZ (keysR (sortR xs))).2 (sumL (linesL (sortR xs)))++10 :: linesL (sortR xs):=rfl
       rw[e,HKS.out,hkl,hsl]
       rfl
     clear hb2 hok hall
     generalize hSS:sortR xs=S at hv2 hsl HOK HLL HPS HFL
     have HSS:Hid (sortR xs=S):=hSS
     clear hSS
     go_wp2
     go_loopw [7,8] (fun bd k w3=> ∃i:Nat,i≤n∧k= .int .i64 i∧Below w2.heap.size w2 w3∧bd= .string (bytesOf (linesL (S.take i)))) (fun _ k _=>n-(intOf k).toNat)
     case atStart=>exact ⟨0,by omega,rfl,Below.refl _ _,rfl⟩
     case round =>
       obtain⟨i,hin,rfl,hb3,rfl⟩:=hrel
       by_cases hilt:i<n
       · have hix:i<S.length:=by rw[hsl];exact hilt
         have hrows:=hv2.below hb3
         rcases hrows with⟨_,_,e,e'⟩|⟨b,o,cap2,e,hcells⟩
         · exfalso;rw[e']at hsl;simp at hsl;omega
         injection e with e1 e2 e3
         subst e1
         clear e2 e3
         obtain⟨d1,d2,d3⟩:=hcells i hix
         clear hcells
         have hi:(i:Int)<(n:Int):=by omega
         have hi0:(0:Int)≤(i:Int):=by omega
         have hrp:=HPS.out S[i] (List.getElem_mem _)
         have hr0:=HOK.out S[i] (List.getElem_mem _)
         have hrt:=rowText_any S[i] wr (by unfold maxLen;omega)
         have htl:(textB S[i]).size≤32:=by
           rw[←size_list,textB_ok _ hr0];exact text_len _ hr0
         have hbl:(bytesOf (linesL (S.take i))).size≤33*i:=by rw[bytesOf_size];exact HLL.out i
         have HT:Hid (bytesOf (linesL (S.take i))++textB S[i]++⟨#[10]⟩=bytesOf (linesL (S.take (i+1)))):=by
           show _=_
           apply part_ext
           rw[lines_take S i hix]
           simp[bytesOf,ByteArray.data_append,textB_ok _ hr0]
         generalize bytesOf (linesL (S.take i))=B0 at hbl HT ⊢
         generalize S[i]=x at d1 d2 d3 hrt htl HT
         generalize textB x=tx at hrt htl HT
         obtain⟨xp,xk,xv⟩:=x
         dsimp only at d1 d2 d3 hrt
         clear hix hrp hr0 hko hx1
         go_wp2_with fail
         refine hrt.mono ?_
         rintro e w4 ⟨rfl,hb4⟩
         clear hrt
         have hb5:Below w2.heap.size w2 w4:=hb3.trans (hb4.mono hb3.size)
         go_wp2
         go_roundw
         case rel=>exact ⟨i+1,by omega,by go_num,hb5,by rw[HT.out]⟩
         case measure=>simp [intOf];omega
       · have hin':i=n:=by omega
         subst hin'
         have hta:S.take i=S:=List.take_of_length_le (by rw[hsl];exact Nat.le_refl _)
         have hll:=HLL.out i
         rw[hta]at hll ⊢
         have hB3:Below w1.heap.size w1 wr:=hB2.trans (hb3.mono hB2.size)
         have hk3:=hko wr (hx1 wr hB3)
         have hwt:=fun W (v:Value) (hz:KeysAt W v (keysR xs))=>wholeText_any ⟨#[100,97,116,97]⟩ (by decide) v (keysR xs) (bytesOf (linesL S)) W hz (by omega) (by rw[bytesOf_size];omega) (by have:=hinE.1;simp only[inNum,Bool.and_eq_true,decide_eq_true_eq]at this;omega) (by have:=hinE.2;simp only[inNum,Bool.and_eq_true,decide_eq_true_eq]at this;omega)
         have eBd:(bytesOf (linesL S)).data.toList=linesL S:=by simp[bytesOf]
         simp only[eBd,HFL.out]at hwt
         generalize hTT:bytesOf (fileOf S)=T at hwt
         have HTT:Hid (bytesOf (fileOf S)=T):=hTT
         clear hTT
         generalize bytesOf (linesL S)=BD at hwt ⊢
         clear hko hx1 hta hll hinE eBd hv2
         go_wp2_with fail
         refine hk3.mono ?_
         rintro e w5 ⟨v5,rfl,hv5,hb5⟩
         clear hk3
         have hw5:=hwt w5 v5 hv5
         clear hwt
         go_wp2_with fail
         refine hw5.mono ?_
         rintro e w6 ⟨rfl,hb6⟩
         clear hw5
         have hfin:=fine_of w6
         go_wp2_with fail
         refine hfin.mono ?_
         rintro e w7 ⟨rfl,hb7⟩
         clear hfin
         have hB5:Below w1.heap.size w1 w5:=hB3.trans (hb5.mono hB3.size)
         have hB6:Below w1.heap.size w1 w6:=hB5.trans (hb6.mono hB5.size)
         have hB7:Below w1.heap.size w1 w7:=hB6.trans (hb7.mono hB6.size)
         have hB:Below w.heap.size w w7:=hal.trans (hB7.mono hal.size)
         have hf7:=hf0.below hB7
         have j0:=hf7.c0
         have j1:=hf7.c1
         have jz:=hf7.fz
         clear hf0
         go_wp2
         refine bodyPost_ret (v:=.tuple #[.string T,.agg #[.int .i64 0,.int .i64 (-1)]]) (by simp[results,Tryz.results33,go_sem,j0,j1]) rfl (Or.inl ⟨by rw[HX.out];exact hmL,by rw[HSS.out,HTT.out],?_⟩)
         exact(hB.setCell (by simp) _).setCell (by simp) _
def atZ:Option Nat→Int
 | some i=>i
 | none=> -1
def ahead (fs:List Fl):Nat→Int
 | 0=>0
 | n+1=>match fs[n]? with
   | some f=>fk f
   | none=>0
theorem ahead_succ {fs:List Fl} {n:Nat} (h:n<fs.length):ahead fs (n+1)=fk fs[n]:=by
 show (match fs[n]? with
   | some f=>fk f
   | none=>0)=_
 rw[List.getElem?_eq_getElem h]
def LeftG (fs:List Fl) (n:Nat):Prop:=lstG 0 fs 0=lstG (ahead fs n) (fs.drop n) n
theorem left_zero (fs:List Fl):LeftG fs 0:=rfl
theorem left_bad {fs:List Fl} {n:Nat} (h:LeftG fs n) (hn:n<fs.length) (he:fileE fs[n]≠0):lstG 0 fs 0=(fileE fs[n],some n):=by
 unfold LeftG at h
 rw[h,List.drop_eq_getElem_cons hn]
 unfold lstG
 rw[if_pos he]
theorem left_order {fs:List Fl} {n:Nat} (h:LeftG fs n) (hn:n<fs.length) (he:fileE fs[n]=0) (ho:fk fs[n]≤ahead fs n):lstG 0 fs 0=(9,some n):=by
 unfold LeftG at h
 rw[h,List.drop_eq_getElem_cons hn]
 unfold lstG
 rw[if_neg (by simp[he]),if_pos ho]
theorem left_succ {fs:List Fl} {n:Nat} (h:LeftG fs n) (hn:n<fs.length) (he:fileE fs[n]=0) (ho:ahead fs n<fk fs[n]):LeftG fs (n+1):=by
 unfold LeftG at h ⊢
 rw[h,ahead_succ hn]
 conv=>lhs;rw[List.drop_eq_getElem_cons hn]
 conv=>lhs;unfold lstG
 rw[if_neg (by simp[he]),if_neg (by omega)]
theorem left_all {fs:List Fl} (h:LeftG fs fs.length):lstG 0 fs 0=(0,none):=by
 unfold LeftG at h
 rw[h,List.drop_length]
 rfl
set_option maxRecDepth 100000 in
set_option maxHeartbeats 8000000 in
theorem listFault_any (v:Value) (fs:List Fl) (w:World) (hx:FlsAt w v fs) (hl:fs.length≤20000) (hsz:∀f∈fs,f.1.size≤100000∧f.2.1.size≤100000) :
   Calls Tryz.prog 102 #[v] w fun e w'=>e= .returned (.agg #[.int .i64 (listE fs).1,.int .i64 (atZ (listE fs).2)])∧Below w.heap.size w w':=by
 obtain⟨q,cap,rfl⟩:=hx.form
 have HFX:Hid (FlsAt w (.slice q fs.length cap) fs):=hx
 have HSZ:Hid (∀f∈fs,f.1.size≤100000∧f.2.1.size≤100000):=hsz
 obtain⟨L,hL⟩:∃L,fs.length=L:=⟨_,rfl⟩
 have HX:Hid (fs.length=L):=hL
 rw[hL]at hl ⊢
 have hf0:=FC.new w
 have hal:Below w.heap.size w (w.alloc (.cells #[.int .i64 0,.int .i64 0] 46)):=(Below.refl _ _).alloc (Nat.le_refl _) _
 generalize hR:listE fs=R
 have HR:Hid (listE fs=R):=hR
 clear hL hx hsz hR
 by_cases hbig:60<L
 · have hRR:R=(8,none):=by rw[←HR.out];unfold listE;rw[if_pos (by rw[HX.out];exact hbig)]
   subst hRR
   have hi:(60:Int)<(L:Int):=by omega
   have hbr:=bare_of 8 (w.alloc (.cells #[.int .i64 0,.int .i64 0] 46))
   go_enter Tryz.func102,Tryz.ntmps102
   go_wp2_with fail
   generalize w.alloc (.cells #[.int .i64 0,.int .i64 0] 46)=WA at hbr hf0 hal ⊢
   refine hbr.mono ?_
   rintro e w1 ⟨rfl,hb1⟩
   clear hbr
   have hf1:=hf0.below hb1
   have hB1:Below w.heap.size w w1:=hal.trans (hb1.mono hal.size)
   have j0:=hf1.c0
   have j1:=hf1.c1
   have jz:=hf1.fz
   clear hf0 hal hb1
   go_wp2
   refine bodyPost_ret (v:=.agg #[.int .i64 8,.int .i64 (-1)]) (by simp[results,Tryz.results102,go_sem,j0,j1]) rfl ⟨rfl,?_⟩
   exact(hB1.setCell (Nat.le_refl _) _).setCell (Nat.le_refl _) _
 · have HRR:Hid (R=lstG 0 fs 0):=by
     show _=_
     rw[←HR.out];unfold listE;rw[if_neg (by rw[HX.out];exact hbig)]
   have hi:¬(60:Int)<(L:Int):=by omega
   clear HR
   go_enter Tryz.func102,Tryz.ntmps102
   go_wp2
   generalize w.alloc (.cells #[.int .i64 0,.int .i64 0] 46)=WA at hf0 hal ⊢
   go_loopw [3] (fun k wr=> ∃n:Nat,n≤L∧k= .int .i64 n∧LeftG fs n∧Below w.heap.size w wr∧FC wr w.heap.size 0 0) (fun k _=>L-(intOf k).toNat)
   case atStart=>exact ⟨0,by omega,rfl,left_zero fs,hal,hf0⟩
   case round =>
     clear hf0 hal
     obtain⟨n,hn,rfl,hlg,hb,hfc⟩:=hrel
     have HLG:Hid (LeftG fs n):=hlg
     have HFC:Hid (FC wr w.heap.size 0 0):=hfc
     clear hlg hfc
     by_cases hlt:n<L
     · have hltx:n<fs.length:=by rw[HX.out];exact hlt
       obtain⟨b,o,hq,hc⟩:=(HFX.out.below hb).cells (fun e=>by rw[e]at hltx;simp at hltx)
       subst hq
       have HC:Hid (FlCells wr b o fs):=hc
       obtain⟨c0,c1,c2,c3,c4,c5⟩:=hc n hltx
       obtain⟨k1,k2⟩:=HSZ.out fs[n] (List.getElem_mem _)
       have hfe:=fileError_any fs[n] wr k1 k2
       have hbad:=fun e=>left_bad HLG.out hltx e
       have hord:=fun e o=>left_order HLG.out hltx e o
       have hnxt:=fun e o=>left_succ HLG.out hltx e o
       have hkp:fileE fs[n]=0→0<fk fs[n]:=fun e=>fk_pos e
       unfold flV at hfe
       have HFN:Hid (fk fs[n]=pk fs[n].1.data.toList):=rfl
       generalize fileE fs[n]=E at hfe hbad hord hnxt hkp
       generalize fk fs[n]=Z at hord hnxt hkp HFN
       generalize fs[n]=f at c0 c1 c2 c3 c4 c5 hfe HFN k1
       obtain⟨fp,fq,fn,flo,fhi,fseq⟩:=f
       dsimp only at c0 c1 c2 c3 c4 c5 hfe HFN k1
       have hiL:(n:Int)<(L:Int):=by omega
       have hi0':(0:Int)≤(n:Int):=by omega
       clear hc
       go_wp2_with fail
       refine hfe.mono ?_
       rintro e w3 ⟨rfl,hb3⟩
       have c0':=below_keep hb3 c0
       clear hfe c0 c1 c2 c3 c4 c5
       have hb4:Below w.heap.size w w3:=hb.trans (hb3.mono hb.size)
       have hfc3:=HFC.out.below hb3
       have j0:=hfc3.c0
       have j1:=hfc3.c1
       have jz:=hfc3.fz
       by_cases hE:E=0
       · subst hE
         have hk0:=hkp rfl
         replace hord:=hord rfl
         replace hnxt:=hnxt rfl
         clear hkp hbad
         cases n with
         | zero =>
           have hno:ahead fs 0<Z:=hk0
           have HNX:Hid (LeftG fs (0+1)):=hnxt hno
           have HF3:Hid (FC w3 w.heap.size 0 0):=hfc3
           clear hord hnxt hno hfc3 j0 j1 jz c0'
           go_wp2
           go_roundw
           case rel=>exact ⟨0+1,by omega,by go_num,HNX.out,hb4,HF3.out⟩
           case measure=>simp [intOf];omega
         | succ m =>
           have hmx:m<fs.length:=by omega
           have hah:=ahead_succ hmx
           have g0:=((HC.out.below hb3) m hmx).1
           have hks:=(HSZ.out fs[m] (List.getElem_mem _)).1
           have hib:=fun W=>isBehind_any fp fs[m].1 W k1 hks
           have HAZ:Hid (ahead fs (m+1)=pk fs[m].1.data.toList):=hah
           rw[←HAZ.out,←HFN.out]at hib
           generalize fs[m].1=gp at g0 hib
           generalize ahead fs (m+1)=Y at hord hnxt hib
           have r1:(0:Int)<(m:Int)+1:=by omega
           have r2:(m:Int)<(L:Int):=by omega
           have r3:(m:Int)+1<(L:Int):=by omega
           have r4:(0:Int)≤(m:Int):=by omega
           have r5:(0:Int)≤(m:Int)+1:=by omega
           have r6:IntKind.i64.wrap (m:Int)=(m:Int):=IntWalk.i64_in _ (by omega)
           clear hiL hi0'
           have hbs:Below w3.heap.size w3 w3:=Below.refl _ _
           have hbd:Below w3.heap.size w3 w3.drew:=hbs.drew
           have hfd:=hfc3.below hbd
           have HFD:Hid (FC w3.drew w.heap.size 0 0):=hfd
           have hBd:Below w.heap.size w w3.drew:=hb4.drew
           clear HAZ HFN hah hmx k2 hltx hks hfc3
           go_wp2_with fail
           go_region_held3 (fun w'=>w'.cell? ⟨b,o+(m+1)*6,none⟩=some (.string fp)∧w'.cell? ⟨b,o+m*6,none⟩=some (.string gp)∧Below w3.heap.size w3 w')
             (first
               | (go_split_ands;with_reducible exact⟨below_keep hbd c0',below_keep hbd g0,hbd⟩)
               | (go_split_ands;exact⟨by assumption,by assumption,by assumption⟩))
             (first
               | (go_at_call 68;with_reducible refine(hib _).mono ?_;rintro e wX ⟨rfl,rfl⟩))
           go_split_ands
           by_cases ho:Z≤Y
           · have hd:decide (Y<Z)=false:=decide_eq_false (by omega)
             rw[hd]
             have hRR:R=(9,some (m+1)):=HRR.out.trans (hord ho)
             subst hRR
             clear hord hnxt hib ho hd
             go_wp2
             refine bodyPost_ret (v:=.agg #[.int .i64 9,.int .i64 ((m+1:Nat):Int)]) (by simp[results,Tryz.results102,go_sem,j0,j1]) rfl ⟨rfl,?_⟩
             exact(hBd.setCell (Nat.le_refl _) _).setCell (Nat.le_refl _) _
           · have hd:decide (Y<Z)=true:=decide_eq_true (by omega)
             rw[hd]
             have HNX:Hid (LeftG fs (m+1+1)):=hnxt (by omega)
             clear hord hnxt hib ho hd j0 j1 jz
             go_wp2
             go_roundw
             case rel=>exact ⟨m+1+1,by omega,by go_num,HNX.out,hBd,HFD.out⟩
             case measure=>simp [intOf];omega
       · have hEp:(0:Int)<(E:Int):=by omega
         have hE0:¬(E:Int)=0:=by omega
         have hRR:R=(E,some n):=HRR.out.trans (hbad hE)
         subst hRR
         clear hbad hord hnxt hkp hE hfc3
         go_wp2
         refine bodyPost_ret (v:=.agg #[.int .i64 E,.int .i64 n]) (by simp[results,Tryz.results102,go_sem,j0,j1]) rfl ⟨rfl,?_⟩
         exact(hb4.setCell (Nat.le_refl _) _).setCell (Nat.le_refl _) _
     · obtain rfl:n=L:=by omega
       have hRR:R=(0,none):=HRR.out.trans (left_all (by rw[HX.out];exact HLG.out))
       subst hRR
       have hfi:=fine_of wr
       go_wp2_with fail
       refine hfi.mono ?_
       rintro e w3 ⟨rfl,hb3⟩
       clear hfi
       have hb4:Below w.heap.size w w3:=hb.trans (hb3.mono hb.size)
       have hfc3:=HFC.out.below hb3
       have j0:=hfc3.c0
       have j1:=hfc3.c1
       have jz:=hfc3.fz
       go_wp2
       refine bodyPost_ret (v:=.agg #[.int .i64 0,.int .i64 (-1)]) (by simp[results,Tryz.results102,go_sem,j0,j1]) rfl ⟨rfl,?_⟩
       exact(hb4.setCell (Nat.le_refl _) _).setCell (Nat.le_refl _) _
def Src (w:World) (q:Option Addr) (m c:Nat) (ys:List Value):Prop :=
 (m=0∧(q=none→c=0))∨∃b o,q=some ⟨b,o,none⟩∧∀j u,ys[j]? =some u→w.cell? ⟨b,o+j,none⟩=some u
theorem src_of_own {w:World} {base:Nat} {e:TypeId} {size:Nat} {q:Option Addr} {n c m:Nat} {xs:List Value} (h:w.ownsRow base e size (.slice q n c) m xs):n=m∧Src w q n c xs:=by
 rcases h.2 with⟨e,h0⟩|⟨g,cap,cur,e,_,hg,_,_,_,ht⟩
 · injection e with e1 e2 e3
   exact⟨by omega,Or.inl ⟨e2,fun _=>e3⟩⟩
 · injection e with e1 e2 e3
   refine⟨e2,Or.inr ⟨g,0,e1,fun j u hj=>?_⟩⟩
   have:=h.cells (g:=g) (by rw[e1];rfl) j u hj
   rw[Addr.add_lit,Nat.zero_add]at this
   rw[Nat.zero_add];exact this
set_option maxHeartbeats 1000000 in
theorem run_append_src {P:Program} (w:World) (base:Nat) (t ty e:TypeId) (i:TypeInfo) (z:Value) (size bytes:Nat) (ht:P.underlying t=some (.slice e)) (hi:P.info? e=some i) (hz:i.zero=some z)
   (hsize:i.size=size) (hby:i.bytes=bytes) (hzs:z.cells.size=size) (hsz:0<size)
   (v:Value) (n:Nat) (xs:List Value) (hown:w.ownsRow base e size v n xs)
   (q:Option Addr) (m c:Nat) (news:List Value) (hl:news.length=m*size) (hsrc:Src w q m c news) (h1:∀u∈news,u.oneCell'=true)
   (h63:n+m≤maxLen) (hbytes:(n+m)*bytes≤140737488355328) (hbase:base≤w.heap.size) :
   ∃v' w',(Builtin.append_ #[t,t] ty #[v,.slice q m c]).run P w= .ok v' w'∧w'.ownsRow base e size v' (n+m) (xs++news)∧w.grownBy w' v.ownBlock∧(v'.ownBlock=v.ownBlock∨v'.ownBlock=some w.heap.size):=by
 rcases hsrc with⟨h0,hc⟩|⟨b,o,rfl,hcells⟩
 · subst h0
   have hnews:news= []:=List.length_eq_zero_iff.1 (by simpa using hl)
   subst hnews
   cases q with
   | none =>
     have hc0:=hc rfl
     subst hc0
     refine⟨v,w,?_,by simpa using hown,⟨rfl,rfl,rfl,Nat.le_refl _,fun _ _ _=>rfl⟩,Or.inl rfl⟩
     rcases hown.2 with⟨rfl,_⟩|⟨g,cap,cur,rfl,_,_,hn,_⟩
     · simp[Builtin.append_,run_underlying ht,sizeOf,typeInfo,zeroValue,hi,hz,Builtin.lenOf,run_firstCells_none]
     · simp[Builtin.append_,run_underlying ht,sizeOf,typeInfo,zeroValue,hi,hz,Builtin.lenOf,run_firstCells_none,hn,storeCells]
   | some ad =>
     obtain⟨v',w',hr,h2,h3,_,h5⟩:=run_append_own_at (P:=P) w base t ty e i z size bytes ht hi hz hsize hby hzs hsz v n xs hown ad 0 c [] hl (fun j u hj=>by simp at hj) h1 h63 hbytes hbase
     exact⟨v',w',hr,h2,h3,h5⟩
 · obtain⟨v',w',hr,h2,h3,_,h5⟩:=run_append_own_at (P:=P) w base t ty e i z size bytes ht hi hz hsize hby hzs hsz v n xs hown ⟨b,o,none⟩ m c news hl (fun j u hj=>by rw[Addr.add_lit];exact hcells j u hj) h1 h63 hbytes hbase
   exact⟨v',w',hr,h2,h3,h5⟩
theorem wpList_append_src {P:Program} {w:World} {ops:Array Oper} {rest:List Oper} {o:Oper} {a:Act} {Q:Exit→Act→World→Prop} (hgd:o.guard=none) (s x:Operand) (t:TypeId)
   (ho:o.op= .call { callee:=.builtin .append,args:=#[s,x],argTypes:=#[t,t] })
   (base:Nat) (e:TypeId) (i:TypeInfo) (z:Value) (size bytes:Nat) (ht:P.underlying t=some (.slice e)) (hi:P.info? e=some i) (hz:i.zero=some z)
   (hsize:i.size=size) (hby:i.bytes=bytes) (hzs:z.cells.size=size) (hsz:0<size)
   (v:Value) (n:Nat) (xs:List Value) (hs:a.eval s=v) (hown:w.ownsRow base e size v n xs)
   (q:Option Addr) (m c:Nat) (news:List Value) (hx:a.eval x= .slice q m c) (hl:news.length=m*size) (hsrc:Src w q m c news) (h1:∀u∈news,u.oneCell'=true)
   (h63:n+m≤maxLen) (hbytes:(n+m)*bytes≤140737488355328) (hbase:base≤w.heap.size)
   (h:∀v' w',w'.ownsRow base e size v' (n+m) (xs++news)→w.grownBy w' v.ownBlock→(v'.ownBlock=v.ownBlock∨v'.ownBlock=some w.heap.size)→wpList P ops Q rest (a.put o.dst v') w') :
   wpList P ops Q (o :: rest) a w:=by
 refine wpList_plain hgd fun K hK=>?_
 obtain⟨v',w',hr,h2,h3,h4⟩:=run_append_src (P:=P) w base t o.type e i z size bytes ht hi hz hsize hby hzs hsz v n xs hown q m c news hl hsrc h1 h63 hbytes hbase
 unfold Oper.wp execOp
 simp only[ho,resolve,invoke,builtin,Sem.run_bind,Sem.run_pure,Result.andThen_ok,List.map_toArray,List.map_cons,List.map_nil,hs,hx,hr]
 exact hK _ _ (h v' w' h2 h3 h4)
theorem src_fls {w:World} {q:Option Addr} {n c:Nat} {fs:List Fl} (h:FlsAt w (.slice q n c) fs):Src w q n c (flatF fs):=by
 rcases h with⟨p,c',e,hp,rfl⟩|⟨b,o,cap,e,hl,hc⟩
 · simp only[Value.slice.injEq]at e
   obtain⟨rfl,rfl,rfl⟩:=e
   exact Or.inl ⟨rfl,hp⟩
 · simp only[Value.slice.injEq]at e
   obtain⟨rfl,rfl,rfl⟩:=e
   exact Or.inr ⟨b,o,rfl,cellsF_flat hc⟩
theorem flCells_take {w:World} {b o:Nat} {fs:List Fl} (h:FlCells w b o fs) (n:Nat):FlCells w b o (fs.take n):=fun j hj=>by
 rw[List.length_take]at hj
 have:=h j (by omega)
 rw[List.getElem_take]
 exact this
theorem flCells_drop {w:World} {b o:Nat} {fs:List Fl} (h:FlCells w b o fs) (n:Nat):FlCells w b (o+n*6) (fs.drop n):=fun j hj=>by
 rw[List.length_drop]at hj
 have:=h (n+j) (by omega)
 rw[List.getElem_drop]
 have e:o+n*6+j*6=o+(n+j)*6:=by omega
 rw[e]
 exact this
theorem place_at {fs:List Fl} {f:Fl} {n:Nat} (hn:n≤fs.length) (h1:∀j (h:j<fs.length),j<n→fk fs[j]<fk f) (h2:∀h:n<fs.length,¬fk fs[n]<fk f):placeL fs f=fs.take n++f :: fs.drop n:=by
 have hx:∀g∈fs.take n,fk g<fk f:=fun g hg=>by
   obtain⟨a,ha,rfl⟩:=List.mem_iff_getElem.1 hg
   rw[List.length_take]at ha
   rw[List.getElem_take]
   exact h1 a (by omega) (by omega)
 have hs:fs=fs.take n++fs.drop n:=(List.take_append_drop n fs).symm
 have ht:fs.takeWhile (fun g=>decide (fk g<fk f))=fs.take n:=by
   conv=>lhs;rw[hs]
   rw[List.takeWhile_append_of_pos (fun g hg=>by simpa using hx g hg)]
   rcases Nat.lt_or_ge n fs.length with h | h
   · rw[List.drop_eq_getElem_cons h,List.takeWhile_cons_of_neg (by simpa using h2 h),List.append_nil]
   · rw[List.drop_of_length_le h];simp
 have hd:fs.dropWhile (fun g=>decide (fk g<fk f))=fs.drop n:=by
   conv=>lhs;rw[hs]
   rw[List.dropWhile_append_of_pos (fun g hg=>by simpa using hx g hg)]
   rcases Nat.lt_or_ge n fs.length with h | h
   · rw[List.drop_eq_getElem_cons h,List.dropWhile_cons_of_neg (by simpa using h2 h)]
   · rw[List.drop_of_length_le h];simp
 unfold placeL
 rw[ht,hd]
set_option maxRecDepth 100000 in
set_option maxHeartbeats 2000000 in
theorem ownFiles_any (v:Value) (fs:List Fl) (w:World) (hx:FlsAt w v fs) (hl:fs.length≤1000) :
   Calls Tryz.prog 48 #[v] w fun e w'=> ∃v',e= .returned v'∧w'.ownsRow w.heap.size 63 6 v' fs.length (flatF fs)∧Below w.heap.size w w':=by
 obtain⟨i0,hi0,hz0,hs0,hby0⟩:=Tryz.fileInfo
 obtain⟨q,cap,rfl⟩:=hx.form
 have HSR:Hid (Src w q fs.length cap (flatF fs)):=src_fls hx
 obtain⟨L,hL⟩:∃L,fs.length=L:=⟨_,rfl⟩
 have HX:Hid (fs.length=L):=hL
 rw[hL]at hl ⊢
 clear hL hx
 go_enter Tryz.func48,Tryz.ntmps48
 go_wp2_with (at_builtin;(refine wpList_append_src rfl _ _ 23 rfl w.heap.size 63 i0 (.agg #[.string ⟨#[]⟩,.string ⟨#[]⟩,.int .i64 0,.int .i64 0,.int .i64 0,.int .i64 0]) 6 64 Tryz.underlying23 hi0 hz0 hs0 hby0 rfl (by decide) (.slice none 0 0) 0 [] rfl (World.ownsRow_nil _ _ _ _) q L cap (flatF fs) rfl ?qf1 ?qf2 ?qf3 ?qf4 ?qf5 ?qf6 ?_))
 any_goals first
   | exact flatF_one fs
   | (rw[flatF_len,HX.out])
   | (have h':=HSR.out;rw[HX.out]at h';exact h')
   | (unfold maxLen;omega)
   | omega
   | exact Nat.le_refl _
 intro v3 w3 ho3 hg3 _
 have hb3:Below w.heap.size w w3:=(Below.refl _ _).grown hg3 (Nat.le_refl _) (fun k hk=>by simp[Value.ownBlock]at hk)
 have OW:Hid (w3.ownsRow w.heap.size 63 6 v3 L (flatF fs)):=by
   show w3.ownsRow _ _ _ _ _ _
   simpa using ho3
 clear ho3 hg3
 go_wp2
 go_ret
 exact⟨v3,rfl,OW.out,hb3⟩
end Go.Proofs.YtdhkdjlgmbejnaaGreatDoor
