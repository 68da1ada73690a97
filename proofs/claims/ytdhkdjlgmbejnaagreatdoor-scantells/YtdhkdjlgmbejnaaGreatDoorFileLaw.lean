/- By an AI agent. -/
import Derived.Test.YtdhkdjlgmbejnaaGreatDoorRefLines
namespace Go.Proofs.YtdhkdjlgmbejnaaGreatDoor
open Go.RowKit Go.Extern.Stop Go.Stop Go.Extern Go.Sort Go.Shelf Go.Lib
set_option maxRecDepth 100000 in
set_option maxHeartbeats 4000000 in
theorem pathOf_any (s:ByteArray) (w:World) (hs:s.size≤100000) :
   Calls Tryz.prog 82 #[.string s] w fun e w'=>e= .returned (.tuple #[.string (bytesOf (pathR s.data.toList).1),.int .i64 (pathR s.data.toList).2.1,.int .i64 (pathR s.data.toList).2.2])∧w'=w:=by
 have hsz:=size_list s
 have bad:pathO s.data.toList=none→(Ending.returned (.tuple #[.string ⟨#[]⟩,.int .i64 0,.int .i64 5])=Ending.returned (.tuple #[.string (bytesOf (pathR s.data.toList).1),.int .i64 (pathR s.data.toList).2.1,.int .i64 (pathR s.data.toList).2.2])):=fun hp0=>by
   rw[pathR_none hp0];rfl
 have BAD:Hid (pathO s.data.toList=none→(Ending.returned (.tuple #[.string ⟨#[]⟩,.int .i64 0,.int .i64 5])=Ending.returned (.tuple #[.string (bytesOf (pathR s.data.toList).1),.int .i64 (pathR s.data.toList).2.1,.int .i64 (pathR s.data.toList).2.2]))):=bad
 clear bad
 by_cases hl:s.size<6
 · have HN:Hid (pathO s.data.toList=none):=path_short (by omega)
   clear hsz
   go_enter Tryz.func82,Tryz.ntmps82
   go_wp2
   go_ret3
   exact⟨BAD.out HN.out,rfl⟩
 · have HPP:Hid (pathO s.data.toList=if (s.data.toList.take 4=kData∨s.data.toList.take 4=kGone)∧s.data.toList[4]? =some 47 then (pathN (s.data.toList.drop 5)).map fun n=>(decide (s.data.toList.take 4=kGone),n) else none):=path_parts (by omega)
   have hb4:=byte_list s 4 (by omega)
   have HB4:Hid (s.data.toList[4]? =some s[4]):=hb4
   have eA:(s.extract 0 4).data.toList=s.data.toList.take 4:=by rw[extract_from_zero]
   have eB:(s.extract 5 s.size).data.toList=s.data.toList.drop 5:=by rw[extract_to_end]
   have hnum:=numberOf_any (s.extract 5 s.size) w (by rw[ByteArray.size_extract];unfold maxLen;omega)
   rw[eB]at hnum
   have i1:¬(s.size:Int)<6:=by omega
   have i2:(4:Int)≤(s.size:Int):=by omega
   have i3:(5:Int)≤(s.size:Int):=by omega
   have i4:(4:Int)<(s.size:Int):=by omega
   clear hb4 eB
   by_cases hk:(s.data.toList.take 4=kData∨s.data.toList.take 4=kGone)
   · by_cases h47:s[4]=47
     · unfold numR at hnum
       have HP:Hid (pathO s.data.toList=(pathN (s.data.toList.drop 5)).map fun n=>(decide (s.data.toList.take 4=kGone),n)):=by
         show _=_
         rw[HPP.out,if_pos ⟨hk,by rw[HB4.out,h47]⟩]
       have c47:(s[4].toNat:Int)=47:=by rw[h47];rfl
       cases hn:numO (s.data.toList.drop 5) with
       | none =>
         have HN:Hid (pathO s.data.toList=none):=by
           show _=_
           rw[HP.out];unfold pathN;rw[hn];rfl
         rw[hn]at hnum
         dsimp only at hnum
         clear hn h47
         rcases hk with hk | hk
         · have d1:=eqB_of (eA.trans hk)
           simp only[kData]at d1
           clear hk eA
           go_enter Tryz.func82,Tryz.ntmps82
           go_wp2_with (go_at_call 107;refine hnum.mono ?_;rintro e w1 ⟨rfl,hw⟩;rw[hw];clear hw)
           go_ret3
           exact⟨BAD.out HN.out,rfl⟩
         · have d1:=neB_of (s:=s.extract 0 4) (l:= [100,97,116,97]) (by rw[eA,hk];decide)
           have d2:=eqB_of (eA.trans hk)
           simp only[kGone]at d2
           clear hk eA
           go_enter Tryz.func82,Tryz.ntmps82
           go_wp2_with (go_at_call 107;refine hnum.mono ?_;rintro e w1 ⟨rfl,hw⟩;rw[hw];clear hw)
           go_ret3
           exact⟨BAD.out HN.out,rfl⟩
       | some n =>
         rw[hn]at hnum
         dsimp only at hnum
         by_cases hc:1≤n∧n≤1073741824
         · have hcn:cntB n=true:=by simp[cntB,hc.1,hc.2]
           have HS:Hid (pathO s.data.toList=some (decide (s.data.toList.take 4=kGone),n)):=by
             show _=_
             rw[HP.out];unfold pathN;rw[hn];simp[hcn]
           obtain⟨hc1,hc2⟩:=hc
           clear hn hcn h47
           have HR:Hid (pathR s.data.toList=(s.data.toList.take 4,n,0)):=by
             show _=_
             rw[pathR_some HS.out]
             rcases hk with hk | hk
             · rw[hk];rfl
             · rw[hk];rfl
           have HX:Hid (bytesOf (s.data.toList.take 4)=s.extract 0 4):=by
             show _=_
             rw[←eA,bytesOf_data]
           rcases hk with hk | hk
           · have d1:=eqB_of (eA.trans hk)
             simp only[kData]at d1
             clear hk eA
             go_enter Tryz.func82,Tryz.ntmps82
             go_wp2_with (go_at_call 107;refine hnum.mono ?_;rintro e w1 ⟨rfl,hw⟩;rw[hw];clear hw)
             go_ret3
             exact⟨by rw[HR.out,HX.out];rfl,rfl⟩
           · have d1:=neB_of (s:=s.extract 0 4) (l:= [100,97,116,97]) (by rw[eA,hk];decide)
             have d2:=eqB_of (eA.trans hk)
             simp only[kGone]at d2
             clear hk eA
             go_enter Tryz.func82,Tryz.ntmps82
             go_wp2_with (go_at_call 107;refine hnum.mono ?_;rintro e w1 ⟨rfl,hw⟩;rw[hw];clear hw)
             go_ret3
             exact⟨by rw[HR.out,HX.out];rfl,rfl⟩
         · have hcn:cntB n=false:=by
             cases h:cntB n with
             | false=>rfl
             | true=>simp only[cntB,Bool.and_eq_true,decide_eq_true_eq]at h;exact absurd h hc
           have HN:Hid (pathO s.data.toList=none):=by
             show _=_
             rw[HP.out];unfold pathN;rw[hn];simp[hcn]
           clear hn hcn h47
           rcases hk with hk | hk
           · have d1:=eqB_of (eA.trans hk)
             simp only[kData]at d1
             clear hk eA
             by_cases hc1:n<1
             · clear hc
               go_enter Tryz.func82,Tryz.ntmps82
               go_wp2_with (go_at_call 107;refine hnum.mono ?_;rintro e w1 ⟨rfl,hw⟩;rw[hw];clear hw)
               go_ret3
               exact⟨BAD.out HN.out,rfl⟩
             · have hc2:1073741824<n:=by omega
               clear hc
               go_enter Tryz.func82,Tryz.ntmps82
               go_wp2_with (go_at_call 107;refine hnum.mono ?_;rintro e w1 ⟨rfl,hw⟩;rw[hw];clear hw)
               go_ret3
               exact⟨BAD.out HN.out,rfl⟩
           · have d1:=neB_of (s:=s.extract 0 4) (l:= [100,97,116,97]) (by rw[eA,hk];decide)
             have d2:=eqB_of (eA.trans hk)
             simp only[kGone]at d2
             clear hk eA
             by_cases hc1:n<1
             · clear hc
               go_enter Tryz.func82,Tryz.ntmps82
               go_wp2_with (go_at_call 107;refine hnum.mono ?_;rintro e w1 ⟨rfl,hw⟩;rw[hw];clear hw)
               go_ret3
               exact⟨BAD.out HN.out,rfl⟩
             · have hc2:1073741824<n:=by omega
               clear hc
               go_enter Tryz.func82,Tryz.ntmps82
               go_wp2_with (go_at_call 107;refine hnum.mono ?_;rintro e w1 ⟨rfl,hw⟩;rw[hw];clear hw)
               go_ret3
               exact⟨BAD.out HN.out,rfl⟩
     · have HN:Hid (pathO s.data.toList=none):=by
         show _=_
         rw[HPP.out,if_neg]
         rintro⟨_,e⟩
         rw[HB4.out]at e
         exact h47 (Option.some.inj e)
       have c47:¬(s[4].toNat:Int)=47:=fun e=>h47 (by
         have e':s[4].toNat=47:=by omega
         exact UInt8.toNat_inj.1 e')
       generalize numR (s.data.toList.drop 5)=R at hnum
       obtain⟨nv,bv⟩:=R
       dsimp only at hnum
       clear h47
       rcases hk with hk | hk
       · have d1:=eqB_of (eA.trans hk)
         simp only[kData]at d1
         clear hk eA
         go_enter Tryz.func82,Tryz.ntmps82
         go_wp2_with (go_at_call 107;refine hnum.mono ?_;rintro e w1 ⟨rfl,hw⟩;rw[hw];clear hw)
         go_ret3
         exact⟨BAD.out HN.out,rfl⟩
       · have d1:=neB_of (s:=s.extract 0 4) (l:= [100,97,116,97]) (by rw[eA,hk];decide)
         have d2:=eqB_of (eA.trans hk)
         simp only[kGone]at d2
         clear hk eA
         go_enter Tryz.func82,Tryz.ntmps82
         go_wp2_with (go_at_call 107;refine hnum.mono ?_;rintro e w1 ⟨rfl,hw⟩;rw[hw];clear hw)
         go_ret3
         exact⟨BAD.out HN.out,rfl⟩
   · have HN:Hid (pathO s.data.toList=none):=by
       show _=_
       rw[HPP.out,if_neg]
       rintro⟨e,_⟩
       exact hk e
     have d1:=neB_of (s:=s.extract 0 4) (l:= [100,97,116,97]) (by rw[eA];exact fun e=>hk (Or.inl e))
     have d2:=neB_of (s:=s.extract 0 4) (l:= [103,111,110,101]) (by rw[eA];exact fun e=>hk (Or.inr e))
     generalize numR (s.data.toList.drop 5)=R at hnum
     obtain⟨nv,bv⟩:=R
     dsimp only at hnum
     clear hk eA
     go_enter Tryz.func82,Tryz.ntmps82
     go_wp2_with (go_at_call 107;refine hnum.mono ?_;rintro e w1 ⟨rfl,hw⟩;rw[hw];clear hw)
     go_ret3
     exact⟨BAD.out HN.out,rfl⟩
set_option maxRecDepth 100000 in
set_option maxHeartbeats 4000000 in
theorem fileError_any (f:Fl) (w:World) (h1:f.1.size≤100000) (h2:f.2.1.size≤100000) :
   Calls Tryz.prog 84 #[flV f] w fun e w'=>e= .returned (.int .i64 (fileE f))∧Below w.heap.size w w':=by
 have hal:Below w.heap.size w (w.alloc (.cells #[.string f.1,.string f.2.1,.int .i64 f.2.2.1,.int .i64 f.2.2.2.1,.int .i64 f.2.2.2.2.1,.int .i64 f.2.2.2.2.2] 63)):=(Below.refl _ _).alloc (Nat.le_refl _) _
 have hfl:=FlAt.new w f
 obtain⟨p,q,n,lo,hi,seq⟩:=f
 dsimp only at h1 h2 hal
 have hnm:=fun W=>pathOf_any p W h1
 have hnw:=fun W=>isWord_any q 12 W (by unfold maxLen;omega)
 have hL:=fun W=>isFar_any lo W
 have hH:=fun W=>isFar_any hi W
 unfold flV
 dsimp only
 generalize hE:fileE (p,q,n,lo,hi,seq)=E
 have HE:Hid (fileE (p,q,n,lo,hi,seq)=E):=hE
 clear hE
 have H1:Hid (E=match pathO p.data.toList with
   | none=>5
   | some (g,_)=>if partB g q.data.toList then (if bndB (p,q,n,lo,hi,seq) then 0 else 2) else 4):=by
   show _=_
   rw[←HE.out];rfl
 clear HE
 go_enter Tryz.func84,Tryz.ntmps84
 go_wp2_with fail
 generalize w.alloc (.cells #[.string p,.string q,.int .i64 n,.int .i64 lo,.int .i64 hi,.int .i64 seq] 63)=WA at hal hfl ⊢
 refine(hnm _).mono ?_
 rintro e w1 ⟨rfl,hw1⟩
 rw[hw1]
 clear hnm hw1
 obtain⟨c0,c1,c2,c3,c4,c5,cf⟩:=hfl.cells
 dsimp only at c0 c1 c2 c3 c4 c5
 clear hfl
 cases hp:pathO p.data.toList with
 | none =>
   have hEE:=H1.out
   rw[hp]at hEE
   dsimp only at hEE
   subst hEE
   rw[pathR_none hp]
   clear hp hnw hL hH c0 c1 c2 c3 c4 c5 cf
   go_wp2
   go_ret
   exact⟨rfl,hal⟩
 | some gn =>
   obtain⟨g,k⟩:=gn
   have hEE:=H1.out
   rw[hp]at hEE
   dsimp only at hEE
   have HEE:Hid (E=if partB g q.data.toList then (if bndB (p,q,n,lo,hi,seq) then 0 else 2) else 4):=hEE
   rw[pathR_some hp]
   clear hp hEE H1
   dsimp only
   go_wp2_with fail
   refine(hnw _).mono ?_
   rintro e w2 ⟨rfl,hw2⟩
   rw[hw2]
   clear hnw hw2
   have hkd:(bytesOf (kindL g)).data.toList=kindL g:=bytes_data _
   by_cases hpb:partB g q.data.toList=true
   · have HB : Hid (E=if bndB (p,q,n,lo,hi,seq) then 0 else 2):=by
       show _=_
       rw[HEE.out,if_pos hpb]
     have HBN:Hid (bndB (p,q,n,lo,hi,seq)=true↔1≤n∧n≤40∧inNum lo=true∧inNum hi=true∧lo≤hi∧1≤seq∧seq≤1073741824):=by
       show _↔_
       simp only[bndB,cntB,Bool.and_eq_true,decide_eq_true_eq]
       constructor
       · rintro⟨⟨⟨⟨⟨a1,a2⟩,a3⟩,a4⟩,a5⟩,a6,a7⟩
         exact⟨a1,a2,a3,a4,a5,a6,a7⟩
       · rintro⟨a1,a2,a3,a4,a5,a6,a7⟩
         exact⟨⟨⟨⟨⟨a1,a2⟩,a3⟩,a4⟩,a5⟩,a6,a7⟩
     have bad:¬(1≤n∧n≤40∧inNum lo=true∧inNum hi=true∧lo≤hi∧1≤seq∧seq≤1073741824)→E=2:=fun hb=>by
       rw[HB.out,if_neg (fun e=>hb (HBN.out.1 e))]
     have BAD:Hid (¬(1≤n∧n≤40∧inNum lo=true∧inNum hi=true∧lo≤hi∧1≤seq∧seq≤1073741824)→E=2):=bad
     clear bad HEE
     cases g
     · have d1 :=neB_of (s:=bytesOf (kindL false)) (l:= [103,111,110,101]) (by rw[hkd];decide)
       have d2:=eqB_of (s:=bytesOf (kindL false)) (l:= [100,97,116,97]) (by rw[hkd];rfl)
       have hwb:wordB 12 q.data.toList=true:=by simpa [partB] using hpb
       rw[hwb]
       generalize bytesOf (kindL false)=kB at d1 d2 ⊢
       clear hkd hpb hwb
       go_wp2_with fail
       refine(hL _).mono ?_
       rintro e w3 ⟨rfl,hw3⟩
       rw[hw3]
       clear hw3 hL
       go_wp2_with fail
       refine(hH _).mono ?_
       rintro e w4 ⟨rfl,hw4⟩
       rw[hw4]
       clear hw4 hH
       by_cases g1:n<1
       · obtain rfl:=BAD.out (fun ⟨b1,_⟩=>by omega)
         go_wp2
         go_ret
         exact⟨rfl,hal⟩
       · by_cases g2 :40<n
         · obtain rfl:=BAD.out (fun ⟨_,b1,_⟩=>by omega)
           go_wp2
           go_ret
           exact⟨rfl,hal⟩
         · cases g3:inNum lo with
           | false =>
             obtain rfl:=BAD.out (fun ⟨_,_,b1,_⟩=>by rw[g3]at b1;cases b1)
             clear g3
             go_wp2
             go_ret
             exact⟨rfl,hal⟩
           | true =>
             cases g4:inNum hi with
             | false =>
               obtain rfl:=BAD.out (fun ⟨_,_,_,b1,_⟩=>by rw[g4]at b1;cases b1)
               clear g3 g4
               go_wp2
               go_ret
               exact⟨rfl,hal⟩
             | true =>
               by_cases g5:hi<lo
               · obtain rfl:=BAD.out (fun ⟨_,_,_,_,b1,_⟩=>by omega)
                 clear g3 g4
                 go_wp2
                 go_ret
                 exact⟨rfl,hal⟩
               · by_cases g6:seq<1
                 · obtain rfl:=BAD.out (fun ⟨_,_,_,_,_,b1,_⟩=>by omega)
                   clear g3 g4
                   go_wp2
                   go_ret
                   exact⟨rfl,hal⟩
                 · by_cases g7:1073741824<seq
                   · obtain rfl:=BAD.out (fun ⟨_,_,_,_,_,_,b1⟩=>by omega)
                     clear g3 g4
                     go_wp2
                     go_ret
                     exact⟨rfl,hal⟩
                   · have hgood:E=0:=by rw[HB.out,if_pos (HBN.out.2 ⟨by omega,by omega,g3,g4,by omega,by omega,by omega⟩)]
                     subst hgood
                     clear g3 g4
                     go_wp2
                     go_ret
                     exact⟨rfl,hal⟩
     · have d1 :=eqB_of (s:=bytesOf (kindL true)) (l:= [103,111,110,101]) (by rw[hkd];rfl)
       have d2:=neB_of (s:=bytesOf (kindL true)) (l:= [100,97,116,97]) (by rw[hkd];decide)
       have hqq:q.data.toList= [45]:=by simpa [partB] using hpb
       have d3:=eqB_of hqq
       generalize wordB 12 q.data.toList=wb
       generalize bytesOf (kindL true)=kB at d1 d2 ⊢
       clear hkd hpb hqq
       go_wp2_with fail
       refine(hL _).mono ?_
       rintro e w3 ⟨rfl,hw3⟩
       rw[hw3]
       clear hw3 hL
       go_wp2_with fail
       refine(hH _).mono ?_
       rintro e w4 ⟨rfl,hw4⟩
       rw[hw4]
       clear hw4 hH
       by_cases g1:n<1
       · obtain rfl:=BAD.out (fun ⟨b1,_⟩=>by omega)
         go_wp2
         go_ret
         exact⟨rfl,hal⟩
       · by_cases g2 :40<n
         · obtain rfl:=BAD.out (fun ⟨_,b1,_⟩=>by omega)
           go_wp2
           go_ret
           exact⟨rfl,hal⟩
         · cases g3:inNum lo with
           | false =>
             obtain rfl:=BAD.out (fun ⟨_,_,b1,_⟩=>by rw[g3]at b1;cases b1)
             clear g3
             go_wp2
             go_ret
             exact⟨rfl,hal⟩
           | true =>
             cases g4:inNum hi with
             | false =>
               obtain rfl:=BAD.out (fun ⟨_,_,_,b1,_⟩=>by rw[g4]at b1;cases b1)
               clear g3 g4
               go_wp2
               go_ret
               exact⟨rfl,hal⟩
             | true =>
               by_cases g5:hi<lo
               · obtain rfl:=BAD.out (fun ⟨_,_,_,_,b1,_⟩=>by omega)
                 clear g3 g4
                 go_wp2
                 go_ret
                 exact⟨rfl,hal⟩
               · by_cases g6:seq<1
                 · obtain rfl:=BAD.out (fun ⟨_,_,_,_,_,b1,_⟩=>by omega)
                   clear g3 g4
                   go_wp2
                   go_ret
                   exact⟨rfl,hal⟩
                 · by_cases g7:1073741824<seq
                   · obtain rfl:=BAD.out (fun ⟨_,_,_,_,_,_,b1⟩=>by omega)
                     clear g3 g4
                     go_wp2
                     go_ret
                     exact⟨rfl,hal⟩
                   · have hgood:E=0:=by rw[HB.out,if_pos (HBN.out.2 ⟨by omega,by omega,g3,g4,by omega,by omega,by omega⟩)]
                     subst hgood
                     clear g3 g4
                     go_wp2
                     go_ret
                     exact⟨rfl,hal⟩
   · have hEE:E=4:=by rw[HEE.out,if_neg hpb]
     subst hEE
     clear HEE hL hH
     cases g
     · have d1:=neB_of (s:=bytesOf (kindL false)) (l:= [103,111,110,101]) (by rw[hkd];decide)
       have d2:=eqB_of (s:=bytesOf (kindL false)) (l:= [100,97,116,97]) (by rw[hkd];rfl)
       have hwb:wordB 12 q.data.toList=false:=by simpa [partB] using hpb
       rw[hwb]
       generalize bytesOf (kindL false)=kB at d1 d2 ⊢
       clear hkd hpb hwb
       go_wp2
       go_ret
       exact⟨rfl,hal⟩
     · have d1:=eqB_of (s:=bytesOf (kindL true)) (l:= [103,111,110,101]) (by rw[hkd];rfl)
       have hqq:q.data.toList≠ [45]:=by simpa [partB] using hpb
       have d3:=neB_of hqq
       generalize wordB 12 q.data.toList=wb
       generalize bytesOf (kindL true)=kB at d1 ⊢
       clear hkd hpb hqq
       go_wp2
       go_ret
       exact⟨rfl,hal⟩
def flSet (W:World) (b:Nat) (f:Fl):World:=(((((W.setCell ⟨b,0,none⟩ (.string f.1)).setCell ⟨b,1,none⟩ (.string f.2.1)).setCell ⟨b,2,none⟩ (.int .i64 f.2.2.1)).setCell ⟨b,3,none⟩ (.int .i64 f.2.2.2.1)).setCell ⟨b,4,none⟩ (.int .i64 f.2.2.2.2.1)).setCell ⟨b,5,none⟩ (.int .i64 f.2.2.2.2.2)
theorem FlAt.set {W:World} {b:Nat} {f:Fl} (h:FlAt W b f) (f':Fl):FlAt (flSet W b f') b f':=by
 unfold FlAt flSet at *
 rw[heap_setCell_same _ _ _ _ _ _ (heap_setCell_same _ _ _ _ _ _ (heap_setCell_same _ _ _ _ _ _ (heap_setCell_same _ _ _ _ _ _ (heap_setCell_same _ _ _ _ _ _ (heap_setCell_same _ _ _ _ _ _ h)))))]
 rfl
theorem flSet_below {W W0:World} {B b:Nat} {f:Fl} (h:Below B W0 W) (hb:B≤b):Below B W0 (flSet W b f):=(((((h.setCell hb _).setCell hb _).setCell hb _).setCell hb _).setCell hb _).setCell hb _
set_option maxRecDepth 100000 in
set_option maxHeartbeats 4000000 in
theorem checked_any (f:Fl) (w:World) (a:Nat→Addr) (h:EnvK w a) (h1:f.1.size≤100000) (h2:f.2.1.size≤100000) :
   Calls Tryz.prog 124 #[flV f] w fun e w'=>e= .returned (.tuple #[flV (chkF f).1,errV a (chkF f).2])∧Below w.heap.size w w':=by
 have hal:Below w.heap.size w ((w.alloc (.cells #[.string f.1,.string f.2.1,.int .i64 f.2.2.1,.int .i64 f.2.2.2.1,.int .i64 f.2.2.2.2.1,.int .i64 f.2.2.2.2.2] 63)).alloc (.cells #[.string ⟨#[]⟩,.string ⟨#[]⟩,.int .i64 0,.int .i64 0,.int .i64 0,.int .i64 0] 63)):=((Below.refl _ _).alloc (Nat.le_refl _) _).alloc (by simp) _
 have hfl:FlAt ((w.alloc (.cells #[.string f.1,.string f.2.1,.int .i64 f.2.2.1,.int .i64 f.2.2.2.1,.int .i64 f.2.2.2.2.1,.int .i64 f.2.2.2.2.2] 63)).alloc (.cells #[.string ⟨#[]⟩,.string ⟨#[]⟩,.int .i64 0,.int .i64 0,.int .i64 0,.int .i64 0] 63)) w.heap.size f:=(FlAt.new w f).below ((Below.refl _ _).alloc (Nat.le_refl _) _)
 have hfz:FlAt ((w.alloc (.cells #[.string f.1,.string f.2.1,.int .i64 f.2.2.1,.int .i64 f.2.2.2.1,.int .i64 f.2.2.2.2.1,.int .i64 f.2.2.2.2.2] 63)).alloc (.cells #[.string ⟨#[]⟩,.string ⟨#[]⟩,.int .i64 0,.int .i64 0,.int .i64 0,.int .i64 0] 63)) (w.heap.size+1) zeroF:=by
   have:=FlAt.new (w.alloc (.cells #[.string f.1,.string f.2.1,.int .i64 f.2.2.1,.int .i64 f.2.2.2.1,.int .i64 f.2.2.2.2.1,.int .i64 f.2.2.2.2.2] 63)) zeroF
   rw[show (w.alloc (.cells #[.string f.1,.string f.2.1,.int .i64 f.2.2.1,.int .i64 f.2.2.2.1,.int .i64 f.2.2.2.2.1,.int .i64 f.2.2.2.2.2] 63)).heap.size=w.heap.size+1 by simp]at this
   exact this
 have hck:=fcheck_any f _ a (h.below hal) h1 h2
 unfold chkF
 by_cases he:fileE f=0
 · rw[if_pos he]
   rw[he]at hck
   clear he
   obtain⟨p,q,n,lo,hi,seq⟩:=f
   unfold flV at hck ⊢
   dsimp only at hck hal hfl hfz ⊢
   simp only[errV]at hck ⊢
   go_enter Tryz.func124,Tryz.ntmps124
   go_wp2_with fail
   generalize (w.alloc (.cells #[.string p,.string q,.int .i64 n,.int .i64 lo,.int .i64 hi,.int .i64 seq] 63)).alloc (.cells #[.string ⟨#[]⟩,.string ⟨#[]⟩,.int .i64 0,.int .i64 0,.int .i64 0,.int .i64 0] 63)=WA at hal hfl hfz hck ⊢
   refine hck.mono ?_
   rintro e w1 ⟨rfl,hb1⟩
   clear hck
   have hB1:Below w.heap.size w w1:=hal.trans (hb1.mono hal.size)
   obtain⟨x0,x1,x2,x3,x4,x5,_⟩:=(hfl.below hb1).cells
   have hz1:=hfz.below hb1
   obtain⟨y0,y1,y2,y3,y4,y5,yf⟩:=hz1.cells
   obtain⟨z0,z1,z2,z3,z4,z5,zf⟩:=(hz1.set (p,q,n,lo,hi,seq)).cells
   have hB2:=flSet_below (f:=(p,q,n,lo,hi,seq)) hB1 (Nat.le_succ w.heap.size)
   unfold flSet at z0 z1 z2 z3 z4 z5 zf hB2
   dsimp only at x0 x1 x2 x3 x4 x5 y0 y1 y2 y3 y4 y5 z0 z1 z2 z3 z4 z5 zf hB2
   simp only[zeroF]at y0 y1 y2 y3 y4 y5
   clear hfl hfz hz1
   go_wp2
   exact bodyPost_ret (v:=.tuple #[.agg #[.string p,.string q,.int .i64 n,.int .i64 lo,.int .i64 hi,.int .i64 seq],.nilIface]) (by simp[results,Tryz.results124,go_sem,z0,z1,z2,z3,z4,z5]) rfl ⟨rfl,hB2⟩
 · rw[if_neg he]
   obtain⟨j,hj⟩:∃j,fileE f=j+1:=⟨fileE f-1,by omega⟩
   rw[hj]at hck ⊢
   clear he hj
   obtain⟨p,q,n,lo,hi,seq⟩:=f
   unfold flV zeroF at *
   dsimp only at hck hal hfl hfz ⊢
   simp only[errV]at hck ⊢
   go_enter Tryz.func124,Tryz.ntmps124
   go_wp2_with fail
   generalize (w.alloc (.cells #[.string p,.string q,.int .i64 n,.int .i64 lo,.int .i64 hi,.int .i64 seq] 63)).alloc (.cells #[.string ⟨#[]⟩,.string ⟨#[]⟩,.int .i64 0,.int .i64 0,.int .i64 0,.int .i64 0] 63)=WA at hal hfl hfz hck ⊢
   refine hck.mono ?_
   rintro e w1 ⟨rfl,hb1⟩
   clear hck
   have hB1:Below w.heap.size w w1:=hal.trans (hb1.mono hal.size)
   have hz1:=hfz.below hb1
   obtain⟨y0,y1,y2,y3,y4,y5,yf⟩:=hz1.cells
   dsimp only at y0 y1 y2 y3 y4 y5
   simp only[bytesOf]at y0 y1
   have s0:=setCell_self y0
   have s1:=setCell_self y1
   have s2:=setCell_self y2
   have s3:=setCell_self y3
   have s4:=setCell_self y4
   have s5:=setCell_self y5
   clear hfl hfz hz1
   go_wp2
   exact bodyPost_ret (v:=.tuple #[.agg #[.string ⟨#[]⟩,.string ⟨#[]⟩,.int .i64 0,.int .i64 0,.int .i64 0,.int .i64 0],.iface 327 (.pointer (some (a j)))]) (by simp[results,Tryz.results124,go_sem,y0,y1,y2,y3,y4,y5]) rfl ⟨rfl,hB1⟩
theorem neqF (f:Fl) (w:World):(binOp .neq 63 (flV f) (flV f)).run Tryz.prog w= .ok (.bool false) w:=by
 have u3:=Tryz.underlying3
 have u9:=Tryz.underlying9
 have a3:=Tryz.isAgg3
 have z3:=Tryz.sizeOf3
 have a9:=Tryz.isAgg9
 have z9:=Tryz.sizeOf9
 have hS:Tryz.prog.underlying 63=some (.struct (Tryz.prog.fieldsOf 63)):=by kernel_rfl
 have hp:Tryz.prog.stoodInHeld 63=false:=by kernel_rfl
 obtain⟨p,q,n,lo,hi,seq⟩:=f
 unfold flV
 dsimp only
 rw[run_neq_struct,show (10000:Nat)=9999+1 from rfl,run_equalIn_agg w 9999 63 _ _ hS hp]
 simp only[Program.fieldsOf,Tryz.underlying63]
 go_simp
theorem neqF2 (f g:Fl) (h:f≠g) (w:World):(binOp .neq 63 (flV f) (flV g)).run Tryz.prog w= .ok (.bool true) w:=by
 have u3:=Tryz.underlying3
 have u9:=Tryz.underlying9
 have a3:=Tryz.isAgg3
 have z3:=Tryz.sizeOf3
 have a9:=Tryz.isAgg9
 have z9:=Tryz.sizeOf9
 have hS:Tryz.prog.underlying 63=some (.struct (Tryz.prog.fieldsOf 63)):=by kernel_rfl
 have hp:Tryz.prog.stoodInHeld 63=false:=by kernel_rfl
 obtain⟨p,q,n,lo,hi,seq⟩:=f
 obtain⟨p',q',n',lo',hi',seq'⟩:=g
 unfold flV
 dsimp only
 rw[run_neq_struct,show (10000:Nat)=9999+1 from rfl,run_equalIn_agg w 9999 63 _ _ hS hp]
 simp only[Program.fieldsOf,Tryz.underlying63]
 go_simp
 intro e1 e2 e3 e4 e5 e6
 refine h ?_
 rw[ByteArray.toList_eq,ByteArray.toList_eq]at e1 e2
 have ep:p=p':=by
   cases p;cases p'
   simpa using e1
 have eq:q=q':=by
   cases q;cases q'
   simpa using e2
 rw[ep,eq,e3,e4,e5,e6]
theorem guardF:GuardAt Tryz.prog 63 flV:=GuardAt.agg _ (by kernel_rfl)
def longFB (f:Fl):Bool:=decide (30<f.1.size) || decide (30<f.2.1.size)
theorem longFile_any (f:Fl) (w:World) (h1:f.1.size≤maxLen) (h2:f.2.1.size≤maxLen) :
   Calls Tryz.prog 73 #[flV f] w fun e w'=>e= .returned (.int .i64 (if longFB f then 1 else 0))∧Below w.heap.size w w':=by
 have hal:Below w.heap.size w (w.alloc (.cells #[.string f.1,.string f.2.1,.int .i64 f.2.2.1,.int .i64 f.2.2.2.1,.int .i64 f.2.2.2.2.1,.int .i64 f.2.2.2.2.2] 63)):=(Below.refl _ _).alloc (Nat.le_refl _) _
 have hfl:=FlAt.new w f
 unfold maxLen at h1 h2
 obtain⟨p,q,n,lo,hi,seq⟩:=f
 unfold flV longFB
 dsimp only at h1 h2 hal hfl ⊢
 by_cases hp:30<p.size
 · have e:(decide (30<p.size) || decide (30<q.size))=true:=by simp[hp]
   rw[e,if_pos rfl]
   clear e
   go_enter Tryz.func73,Tryz.ntmps73
   go_wp2
   go_ret
   exact⟨rfl,hal⟩
 · by_cases hq:30<q.size
   · have e:(decide (30<p.size) || decide (30<q.size))=true:=by simp[hq]
     rw[e,if_pos rfl]
     clear e
     go_enter Tryz.func73,Tryz.ntmps73
     go_wp2
     go_ret
     exact⟨rfl,hal⟩
   · have e:(decide (30<p.size) || decide (30<q.size))=false:=by simp[hp,hq]
     rw[e,if_neg (by simp)]
     clear e
     go_enter Tryz.func73,Tryz.ntmps73
     go_wp2
     go_ret
     exact⟨rfl,hal⟩
end Go.Proofs.YtdhkdjlgmbejnaaGreatDoor
