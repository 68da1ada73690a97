/- By an AI agent. -/
import Derived.Test.YtgckdomafbnmkaaGreatDoorStbIns
namespace Go.Proofs.YtgckdomafbnmkaaGreatDoor
open Go.RowKit Go.Extern.Stop Go.Stop Go.Extern Go.Sort Go.Shelf Go.Lib
theorem lt_take {lt:Nat→Nat→Prop} (hT:∀x y z,lt x y→lt y z→lt x z) {Y:List Nat} (hY:Y.Pairwise lt) {s x:Nat} (hs:s≤Y.length) (h:∀h:0<s,lt (Y[s-1]'(by omega)) x):∀y∈Y.take s,lt y x:=fun y hy=>by
 obtain⟨j,hj,rfl⟩:=List.mem_take_iff_getElem.1 hy
 have h1:=h (by omega)
 by_cases e:j=s-1
 · subst e;exact h1
 · exact hT _ _ _ (List.pairwise_iff_getElem.1 hY j (s-1) (by omega) (by omega) (by omega)) h1
theorem lt_drop {lt:Nat→Nat→Prop} (hT:∀x y z,lt x y→lt y z→lt x z) {Y:List Nat} (hY:Y.Pairwise lt) {s x:Nat} (h:∀h:s<Y.length,lt x Y[s]):∀y∈Y.drop s,lt x y:=fun y hy=>by
 obtain⟨j,hj,rfl⟩:=List.mem_drop_iff_getElem.1 hy
 have h1:=h (by omega)
 by_cases e:j=0
 · subst e;simpa using h1
 · exact hT _ _ _ h1 (List.pairwise_iff_getElem.1 hY s (s+j) (by omega) (by omega) (by omega))
set_option maxRecDepth 100000 in
set_option maxHeartbeats 16000000 in
theorem merge_left (B b L cap:Nat) (kl:Nat→Nat→Bool) (lt:Nat→Nat→Prop) (hT:∀x y z,lt x y→lt y z→lt x z) (hL:L≤100000) (P Y Q:List Nat) (x:Nat) (w:World) (hY0:0<Y.length) (ho:OwnP B w b L cap (P++ [x]++Y++Q)) (hask:AskC b kl (x :: Y) w) (hsY:Y.Pairwise lt) (hag:∀y∈Y,Agree kl lt x y) :
   Calls Tryz.prog 137 #[.slice (some ⟨b,0,none⟩) L cap,.int .i64 (P.length:Nat),.int .i64 ((P.length+1:Nat):Int),.int .i64 ((P.length+1+Y.length:Nat):Int),cvP] w fun e w'=>e= .returned (.tuple #[])∧SortP B b L cap P (x :: Y) Q lt w w':=by
 have hlen:=ho.len
 simp only[List.length_append,List.length_singleton]at hlen
 unfold cvP
 have eg:∀args w,(callFunc 42 args).run Tryz.prog w= .ok (.enter 42 args) w:=enters_of Tryz.func42 (by kernel_rfl) rfl
 obtain⟨p,hp⟩:∃p,P.length=p:=⟨_,rfl⟩
 obtain⟨m,hm⟩:∃m,P.length+1=m:=⟨_,rfl⟩
 obtain⟨q,hq⟩:∃q,m+Y.length=q:=⟨_,rfl⟩
 have HPL:Hid (P.length=p∧P.length+1=m∧m+Y.length=q):=⟨hp,hm,hq⟩
 have hmq:p+1=m∧m<q∧q≤L:=by omega
 rw[hm,hq,hp]
 have a0:IntKind.i64.wrap ((m:Int)-(p:Int))=1:=by rw[IntWalk.i64_in _ (by omega)];omega
 have HCX:Hid (∀W,Below w.heap.size w W→W.cell? ⟨b,p,none⟩=some (pN x)):=fun W hW=>(ho.below hW).cell (by
   have e:P++ [x]++Y++Q=P++x :: (Y++Q):=by simp
   rw[e];exact at_first hp.symm)
 have HCY:Hid (∀W,Below w.heap.size w W→∀c (h:c<Y.length),W.cell? ⟨b,m+c,none⟩=some (pN Y[c])):=fun W hW c hc=>(ho.below hW).cell (by
   rw[List.append_assoc (P++ [x]),List.getElem?_append_right (by simp;omega)]
   have e:m+c-(P++ [x]).length=c:=by simp;omega
   rw[e,List.getElem?_append_left hc,List.getElem?_eq_getElem hc])
 have HASK:Hid (∀W,Below w.heap.size w W→∀c (h:c<Y.length),Calls Tryz.prog 42 #[pN Y[c],pN x] W fun e w'=> ∃z:Int,e= .returned (.int .i64 z)∧decide (z<0)=kl Y[c] x∧Below W.heap.size W w'):=fun W hW c hc=>hask Y[c] (List.mem_cons_of_mem _ (List.getElem_mem _)) x List.mem_cons_self W (But.of_below hW)
 have HO:Hid (OwnP B w b L cap (P++ [x]++Y++Q)):=ho
 have HSY:Hid (Y.Pairwise lt):=hsY
 have HAG:Hid (∀y∈Y,Agree kl lt x y):=hag
 have HT:Hid (∀x y z,lt x y→lt y z→lt x z):=hT
 clear ho hask hsY hag hT hlen hp hm hq hY0
 go_enter Tryz.func137,Tryz.ntmps137
 go_upto_region 3 with fail
 go_loopw [10,11,12] (fun i j _ wr=> ∃s t:Nat,s≤t∧m+t≤q∧i= .int .i64 ((m+s:Nat):Int)∧j= .int .i64 ((m+t:Nat):Int)∧(∀(h1:0<s) (h2:s-1<Y.length),kl Y[s-1] x=true)∧(∀h:t<Y.length,kl Y[t] x=false)∧Below w.heap.size w wr) (fun i j _ _=>(intOf j).toNat-(intOf i).toNat)
 case atStart=>exact ⟨0,q-m,by omega,by omega,rfl,by congr 2;omega,fun h=>absurd h (Nat.lt_irrefl _),fun h=>by have:=HPL.out;omega,Below.refl _ _⟩
 case round =>
 clear a0
 obtain⟨s,t,hst,htq,rfl,rfl,hs,ht,hb⟩:=hrel
 have HST:Hid ((∀(h1:0<s) (h2:s-1<Y.length),kl Y[s-1] x=true)∧(∀h:t<Y.length,kl Y[t] x=false)):=⟨hs,ht⟩
 clear hs ht
 obtain⟨i,hi⟩:∃i,m+s=i:=⟨_,rfl⟩
 obtain⟨j,hj⟩:∃j,m+t=j:=⟨_,rfl⟩
 have HIJ:Hid (m+s=i∧m+t=j):=⟨hi,hj⟩
 have hij:i≤j∧j≤q∧m≤i:=by omega
 rw[hi,hj]
 clear hi hj htq
 by_cases hlt:i<j
 case pos =>
   have g1:(i:Int)<(j:Int):=by omega
   have a1:IntKind.i64.wrap ((i:Int)+(j:Int))=(i:Int)+(j:Int):=IntWalk.i64_in _ (by omega)
   obtain⟨c,hc⟩:∃c,(i+j) / 2=m+c:=⟨(i+j) / 2-m,by omega⟩
   obtain⟨h,hh⟩:∃h,m+c=h:=⟨_,rfl⟩
   have hci:i≤h∧h<j:=by omega
   have hcY:c<Y.length:=by have:=HPL.out;omega
   have a2:((i:Int)+(j:Int)) / 2=(h:Int):=by omega
   have HH:Hid (m+c=h):=hh
   have cy:=HCY.out wr hb c hcY
   have cx:=HCX.out wr hb
   have hask:=fun W (hW:Below wr.heap.size wr W)=>HASK.out W (hb.trans (hW.mono hb.size)) c hcY
   have HN:Hid (∀W,Below wr.heap.size wr W→(kl Y[c] x=true→∃s2 t2:Nat,s2≤t2∧m+t2≤q∧Value.int .i64 ((h:Int)+1)= .int .i64 ((m+s2:Nat):Int)∧Value.int .i64 (j:Int)= .int .i64 ((m+t2:Nat):Int)∧(∀(h1:0<s2) (h2:s2-1<Y.length),kl Y[s2-1] x=true)∧(∀h:t2<Y.length,kl Y[t2] x=false)∧Below w.heap.size w W)∧(kl Y[c] x=false→∃s2 t2:Nat,s2≤t2∧m+t2≤q∧Value.int .i64 (i:Int)= .int .i64 ((m+s2:Nat):Int)∧Value.int .i64 (h:Int)= .int .i64 ((m+t2:Nat):Int)∧(∀(h1:0<s2) (h2:s2-1<Y.length),kl Y[s2-1] x=true)∧(∀h:t2<Y.length,kl Y[t2] x=false)∧Below w.heap.size w W)):=fun W hW=>by
     have g:=HIJ.out
     have gh:=HH.out
     refine⟨fun e=>⟨c+1,t,by omega,by omega,by congr 1;omega,by rw[←g.2],fun _ _=>?_,HST.out.2,hb.trans (hW.mono hb.size)⟩,fun e=>⟨s,c,by omega,by omega,by rw[←g.1],by rw[←gh],HST.out.1,fun _=>e,hb.trans (hW.mono hb.size)⟩⟩
     exact e
   rw[hh]at cy
   generalize Y[c]=y at cy hask HN
   have g2:(h:Int)<(L:Int):=by omega
   have g3:(0:Int)≤(h:Int):=by omega
   have g4:(p:Int)<(L:Int):=by omega
   have g5:(0:Int)≤(p:Int):=by omega
   have a3:IntKind.i64.wrap ((h:Int)+1)=(h:Int)+1:=IntWalk.i64_in _ (by omega)
   have hbs:Below wr.heap.size wr wr:=Below.refl _ _
   have HJ:Hid (i≤h∧h<j):=hci
   unfold pN at cy cx hask
   clear HST HIJ hc hh HH hcY hst
   go_upto_region 5 with fail
   go_region_held3 (fun w'=>w'.cell? ⟨b,h,none⟩=some (.pointer (some ⟨y,0,none⟩))∧w'.cell? ⟨b,p,none⟩=some (.pointer (some ⟨x,0,none⟩))∧Below wr.heap.size wr w')
     (first
       | (go_split_ands;with_reducible exact⟨below_keep hbX (by assumption),below_keep hbX (by assumption),Below.trans (by assumption) (hbX.mono (Below.size (by assumption)))⟩)
       | (go_split_ands;exact⟨by go_keep,by go_keep,by assumption⟩)
       | (go_split_ands;exact⟨by go_keep,by go_keep,Below.drew (by assumption)⟩))
     (first
       | (go_at_call 42;(with_reducible refine(hask _ (by go_split_ands;assumption)).mono ?_);rintro e wX ⟨zc,rfl,hz,hbX⟩))
   all_goals go_split_ands
   have hbX2:Below wr.heap.size wr wX:=by assumption
   clear hask hbs cy cx a2 a1
   cases hkl:kl y x
   · rw[hkl]at hz
     have HE:Hid (∃s2 t2:Nat,s2≤t2∧m+t2≤q∧Value.int .i64 (i:Int)= .int .i64 ((m+s2:Nat):Int)∧Value.int .i64 (h:Int)= .int .i64 ((m+t2:Nat):Int)∧(∀(h1:0<s2) (h2:s2-1<Y.length),kl Y[s2-1] x=true)∧(∀h:t2<Y.length,kl Y[t2] x=false)∧Below w.heap.size w wX):=(HN.out wX hbX2).2 hkl
     clear HN hkl
     go_wp2
     go_roundw
     case rel=>exact HE.out
     case measure=>have:=HJ.out;simp[intOf];omega
   · rw[hkl]at hz
     have HE:Hid (∃s2 t2:Nat,s2≤t2∧m+t2≤q∧Value.int .i64 ((h:Int)+1)= .int .i64 ((m+s2:Nat):Int)∧Value.int .i64 (j:Int)= .int .i64 ((m+t2:Nat):Int)∧(∀(h1:0<s2) (h2:s2-1<Y.length),kl Y[s2-1] x=true)∧(∀h:t2<Y.length,kl Y[t2] x=false)∧Below w.heap.size w wX):=(HN.out wX hbX2).1 hkl
     clear HN hkl
     go_wp2
     go_roundw
     case rel=>exact HE.out
     case measure=>have:=HJ.out;simp[intOf];omega
 case neg =>
 have hst2:s=t:=by have:=HIJ.out;omega
 have HS:Hid (s≤Y.length∧m+s=i∧(∀y∈Y.take s,lt y x)∧(∀y∈Y.drop s,lt x y)):=by
   obtain⟨g1,g2⟩:=HST.out
   have g3:=HPL.out
   have g4:=HIJ.out
   have g5:s≤Y.length:=by omega
   refine⟨g5,g4.1,lt_take HT.out HSY.out g5 (fun h=>(HAG.out _ (List.getElem_mem _)).1 (g1 h (by omega))),lt_drop HT.out HSY.out (fun h=>(HAG.out _ (List.getElem_mem _)).2 ?_)⟩
   subst hst2
   exact g2 h
 have HO2:Hid (OwnP B wr b L cap (P++Y.take 0++x :: (Y.drop 0++Q))):=by
   show OwnP _ _ _ _ _ _
   have e:P++Y.take 0++x :: (Y.drop 0++Q)=P++ [x]++Y++Q:=by simp
   rw[e]
   exact HO.out.below hb
 have HBW:Hid (But (fun k=>k=b) w wr):=But.of_below hb
 have hnl:¬(i:Int)<(j:Int):=by omega
 have a4:IntKind.i64.wrap ((i:Int)-1)=(i:Int)-1:=IntWalk.i64_in _ (by omega)
 have HSY2:Hid (Y.Pairwise lt):=HSY.out
 clear hst2 hst HST HIJ HCX HCY HASK HAG HSY HO hb
 go_upto_region 9 with fail
 go_loopw [13] (fun k wr=> ∃c:Nat,c≤s∧k= .int .i64 ((p+c:Nat):Int)∧OwnP B wr b L cap (P++Y.take c++x :: (Y.drop c++Q))∧But (fun k=>k=b) w wr) (fun k _=>i-(intOf k).toNat)
 case atStart=>exact ⟨0,by omega,rfl,HO2.out,HBW.out⟩
 case round =>
 clear HO2 HBW
 obtain⟨c,hcs,rfl,ho,hb⟩:=hrel
 have HO:Hid (OwnP B wr b L cap (P++Y.take c++x :: (Y.drop c++Q))):=ho
 have HB:Hid (But (fun k=>k=b) w wr):=hb
 clear ho hb
 obtain⟨k,hk⟩:∃k,p+c=k:=⟨_,rfl⟩
 have HK:Hid (p+c=k):=hk
 rw[hk]
 have hsi:=HS.out.2.1
 by_cases hlt2:c<s
 · have hcY:c<Y.length:=by have:=HS.out.1;omega
   have hD:P++Y.take c++x :: (Y.drop c++Q)=(P++Y.take c)++x :: ([]++Y[c] :: (Y.drop (c+1)++Q)):=by
     rw[List.drop_eq_getElem_cons hcY]
     simp only[List.nil_append,List.cons_append]
   have hD2:P++Y.take (c+1)++x :: (Y.drop (c+1)++Q)=(P++Y.take c)++Y[c] :: ([]++x :: (Y.drop (c+1)++Q)):=by
     rw[List.take_succ_eq_append_getElem hcY]
     simp only[List.nil_append,List.cons_append,List.append_assoc]
   have hPS:k=(P++Y.take c).length:=by
     have:=HPL.out
     rw[List.length_append,List.length_take]
     omega
   have hPT:k+1=(P++Y.take c).length+1+([]:List Nat).length:=by rw[List.length_nil];omega
   have ho:=HO.out
   rw[hD]at ho
   generalize Y[c]=y at ho hD2
   have c1:=ho.cell (at_first hPS)
   have c2:=ho.cell (j:=k+1) (x:=y) (at_second (M:= []) hPT)
   have fz:=ho.fz
   have h1:=ho.set k y
   have c3:=h1.cell (j:=k+1) (x:=y) (by rw[List.getElem?_set_ne (by omega)];exact at_second (M:= []) hPT)
   have fz1:=h1.fz
   have h2:=h1.set (k+1) x
   rw[swap_list (M:= []) hPS hPT]at h2
   have HO3:Hid (OwnP B (((wr.setCell ⟨b,k,none⟩ (pN y)).setCell ⟨b,k+1,none⟩ (pN x)).drew) b L cap (P++Y.take (c+1)++x :: (Y.drop (c+1)++Q))):=by
     show OwnP _ _ _ _ _ _
     rw[hD2]
     exact h2.below (Below.drew (Below.refl _ _))
   have HB3:Hid (But (fun k=>k=b) w (((wr.setCell ⟨b,k,none⟩ (pN y)).setCell ⟨b,k+1,none⟩ (pN x)).drew)):=drew_but ((HB.out.trans (setP_but _ _ _ _) (fun _ h _=>h)).trans (setP_but _ _ _ _) (fun _ h _=>h))
   have g1:(k:Int)<(i:Int)-1:=by omega
   have a5:IntKind.i64.wrap ((k:Int)+1)=((k+1:Nat):Int):=by rw[IntWalk.i64_in _ (by omega)];omega
   have g2:((k+1:Nat):Int)<(L:Int):=by omega
   have g3:(0:Int)≤((k+1:Nat):Int):=by omega
   have g4:(k:Int)<(L:Int):=by omega
   have g5:(0:Int)≤(k:Int):=by omega
   have HKK:Hid (k<i∧((k+1:Nat):Int)=((p+(c+1):Nat):Int)∧k<k+1):=⟨by omega,by omega,by omega⟩
   clear h1 h2 ho hD hD2 hPS hPT HO HB hk HK hsi hcY
   generalize k+1=k1 at *
   unfold pN at c1 c2 c3 HO3 HB3 fz1
   go_upto_region 11 with fail
   go_region
   go_wp2
   go_roundw
   case rel=>exact ⟨c+1,by omega,by rw[HKK.out.2.1],HO3.out,HB3.out⟩
   case measure=>have:=HKK.out;simp[intOf];omega
 · have hce:c=s:=by omega
   subst hce
   have HF:Hid (SortP B b L cap P (x :: Y) Q lt w wr):=by
     obtain⟨g1,g2,g3,g4⟩:=HS.out
     refine⟨Y.take c++x :: Y.drop c,?_,?_,?_,HB.out⟩
     · have h1:(Y.take c++x :: Y.drop c).Perm (x :: (Y.take c++Y.drop c)):=List.perm_middle
       rw[List.take_append_drop]at h1
       exact h1
     · exact ins_sorted (by rw[List.take_append_drop];exact HSY2.out) g4 g3
     · have e:P++(Y.take c++x :: Y.drop c)++Q=P++Y.take c++x :: (Y.drop c++Q):=by simp
       rw[e]
       exact HO.out
   have g1:¬(k:Int)<(i:Int)-1:=by omega
   clear HO HB HS
   go_wp2
   refine bodyPost_ret (v:=.tuple #[]) (by simp[results,Tryz.results137,go_sem]) rfl ?_
   exact⟨rfl,HF.out⟩
set_option maxRecDepth 100000 in
set_option maxHeartbeats 16000000 in
theorem merge_right (B b L cap:Nat) (kl:Nat→Nat→Bool) (lt:Nat→Nat→Prop) (hT:∀x y z,lt x y→lt y z→lt x z) (hL:L≤100000) (P X Q:List Nat) (y:Nat) (w:World) (hX0:1<X.length) (ho:OwnP B w b L cap (P++X++ [y]++Q)) (hask:AskC b kl (X++ [y]) w) (hsX:X.Pairwise lt) (hag:∀x∈X,Agree kl lt x y) :
   Calls Tryz.prog 137 #[.slice (some ⟨b,0,none⟩) L cap,.int .i64 (P.length:Nat),.int .i64 ((P.length+X.length:Nat):Int),.int .i64 ((P.length+X.length+1:Nat):Int),cvP] w fun e w'=>e= .returned (.tuple #[])∧SortP B b L cap P (X++ [y]) Q lt w w':=by
 have hlen:=ho.len
 simp only[List.length_append,List.length_singleton]at hlen
 unfold cvP
 have eg:∀args w,(callFunc 42 args).run Tryz.prog w= .ok (.enter 42 args) w:=enters_of Tryz.func42 (by kernel_rfl) rfl
 obtain⟨p,hp⟩:∃p,P.length=p:=⟨_,rfl⟩
 obtain⟨n,hn⟩:∃n,X.length=n:=⟨_,rfl⟩
 obtain⟨m,hm⟩:∃m,P.length+X.length=m:=⟨_,rfl⟩
 obtain⟨q,hq⟩:∃q,m+1=q:=⟨_,rfl⟩
 have HPL:Hid (P.length=p∧P.length+X.length=m∧m+1=q∧X.length=n):=⟨hp,hm,hq,hn⟩
 have hmq:p+n=m∧1<n∧m+1=q∧q≤L:=by omega
 rw[hm,hq,hp]
 have a0:IntKind.i64.wrap ((m:Int)-(p:Int))=(n:Int):=by rw[IntWalk.i64_in _ (by omega)];omega
 have e0:((n:Int) == 1)=false:=by simp;omega
 have a9:IntKind.i64.wrap ((q:Int)-(m:Int))=1:=by rw[IntWalk.i64_in _ (by omega)];omega
 have HCX:Hid (∀W,Below w.heap.size w W→W.cell? ⟨b,m,none⟩=some (pN y)):=fun W hW=>(ho.below hW).cell (by
   have e:P++X++ [y]++Q=(P++X)++y :: Q:=by simp
   rw[e];exact at_first (by rw[List.length_append];omega))
 have HCY:Hid (∀W,Below w.heap.size w W→∀c (h:c<X.length),W.cell? ⟨b,p+c,none⟩=some (pN X[c])):=fun W hW c hc=>(ho.below hW).cell (by
   rw[List.append_assoc (P++X),List.append_assoc P,List.getElem?_append_right (by omega)]
   have e:p+c-P.length=c:=by omega
   rw[e,List.getElem?_append_left hc,List.getElem?_eq_getElem hc])
 have HASK:Hid (∀W,Below w.heap.size w W→∀c (h:c<X.length),Calls Tryz.prog 42 #[pN y,pN X[c]] W fun e w'=> ∃z:Int,e= .returned (.int .i64 z)∧decide (z<0)=kl y X[c]∧Below W.heap.size W w'):=fun W hW c hc=>hask y (by simp) X[c] (List.mem_append.2 (Or.inl (List.getElem_mem _))) W (But.of_below hW)
 have HO:Hid (OwnP B w b L cap (P++X++ [y]++Q)):=ho
 have HSX:Hid (X.Pairwise lt):=hsX
 have HAG:Hid (∀x∈X,Agree kl lt x y):=hag
 have HT:Hid (∀x y z,lt x y→lt y z→lt x z):=hT
 clear ho hask hsX hag hT hlen hp hm hq hn hX0
 go_enter Tryz.func137,Tryz.ntmps137
 go_upto_region 15 with fail
 go_loopw [14,15,16] (fun i j _ wr=> ∃s t:Nat,s≤t∧p+t≤m∧i= .int .i64 ((p+s:Nat):Int)∧j= .int .i64 ((p+t:Nat):Int)∧(∀(h1:0<s) (h2:s-1<X.length),kl y X[s-1]=false)∧(∀h:t<X.length,kl y X[t]=true)∧Below w.heap.size w wr) (fun i j _ _=>(intOf j).toNat-(intOf i).toNat)
 case atStart=>exact ⟨0,n,by omega,by omega,rfl,by congr 2;omega,fun h=>absurd h (Nat.lt_irrefl _),fun h=>by have:=HPL.out;omega,Below.refl _ _⟩
 case round =>
 clear a0 a9 e0
 obtain⟨s,t,hst,htq,rfl,rfl,hs,ht,hb⟩:=hrel
 have HST:Hid ((∀(h1:0<s) (h2:s-1<X.length),kl y X[s-1]=false)∧(∀h:t<X.length,kl y X[t]=true)):=⟨hs,ht⟩
 clear hs ht
 obtain⟨i,hi⟩:∃i,p+s=i:=⟨_,rfl⟩
 obtain⟨j,hj⟩:∃j,p+t=j:=⟨_,rfl⟩
 have HIJ:Hid (p+s=i∧p+t=j):=⟨hi,hj⟩
 have hij:i≤j∧j≤m∧p≤i:=by omega
 rw[hi,hj]
 clear hi hj htq
 by_cases hlt:i<j
 case pos =>
   have g1:(i:Int)<(j:Int):=by omega
   have a1:IntKind.i64.wrap ((i:Int)+(j:Int))=(i:Int)+(j:Int):=IntWalk.i64_in _ (by omega)
   obtain⟨c,hc⟩:∃c,(i+j) / 2=p+c:=⟨(i+j) / 2-p,by omega⟩
   obtain⟨h,hh⟩:∃h,p+c=h:=⟨_,rfl⟩
   have hci:i≤h∧h<j:=by omega
   have hcY:c<X.length:=by have:=HPL.out;omega
   have a2:((i:Int)+(j:Int)) / 2=(h:Int):=by omega
   have HH:Hid (p+c=h):=hh
   have cy:=HCY.out wr hb c hcY
   have cx:=HCX.out wr hb
   have hask:=fun W (hW:Below wr.heap.size wr W)=>HASK.out W (hb.trans (hW.mono hb.size)) c hcY
   have HN:Hid (∀W,Below wr.heap.size wr W→(kl y X[c]=false→∃s2 t2:Nat,s2≤t2∧p+t2≤m∧Value.int .i64 ((h:Int)+1)= .int .i64 ((p+s2:Nat):Int)∧Value.int .i64 ((j:Int))= .int .i64 ((p+t2:Nat):Int)∧(∀(h1:0<s2) (h2:s2-1<X.length),kl y X[s2-1]=false)∧(∀h:t2<X.length,kl y X[t2]=true)∧Below w.heap.size w W)∧(kl y X[c]=true→∃s2 t2:Nat,s2≤t2∧p+t2≤m∧Value.int .i64 ((i:Int))= .int .i64 ((p+s2:Nat):Int)∧Value.int .i64 ((h:Int))= .int .i64 ((p+t2:Nat):Int)∧(∀(h1:0<s2) (h2:s2-1<X.length),kl y X[s2-1]=false)∧(∀h:t2<X.length,kl y X[t2]=true)∧Below w.heap.size w W)):=fun W hW=>by
     have g:=HIJ.out
     have gh:=HH.out
     refine⟨fun e=>⟨c+1,t,by omega,by omega,by congr 1;omega,by rw[←g.2],fun _ _=>?_,HST.out.2,hb.trans (hW.mono hb.size)⟩,fun e=>⟨s,c,by omega,by omega,by rw[←g.1],by rw[←gh],HST.out.1,fun _=>e,hb.trans (hW.mono hb.size)⟩⟩
     exact e
   rw[hh]at cy
   generalize X[c]=x at cy hask HN
   have g2:(h:Int)<(L:Int):=by omega
   have g3:(0:Int)≤(h:Int):=by omega
   have g4:(m:Int)<(L:Int):=by omega
   have g5:(0:Int)≤(m:Int):=by omega
   have a3:IntKind.i64.wrap ((h:Int)+1)=(h:Int)+1:=IntWalk.i64_in _ (by omega)
   have hbs:Below wr.heap.size wr wr:=Below.refl _ _
   have HJ:Hid (i≤h∧h<j):=hci
   unfold pN at cy cx hask
   clear HST HIJ hc hh HH hcY hst
   go_upto_region 17 with fail
   go_region_held3 (fun w'=>w'.cell? ⟨b,m,none⟩=some (.pointer (some ⟨y,0,none⟩))∧w'.cell? ⟨b,h,none⟩=some (.pointer (some ⟨x,0,none⟩))∧Below wr.heap.size wr w')
     (first
       | (go_split_ands;with_reducible exact⟨below_keep hbX (by assumption),below_keep hbX (by assumption),Below.trans (by assumption) (hbX.mono (Below.size (by assumption)))⟩)
       | (go_split_ands;exact⟨by go_keep,by go_keep,by assumption⟩)
       | (go_split_ands;exact⟨by go_keep,by go_keep,Below.drew (by assumption)⟩))
     (first
       | (go_at_call 42;(with_reducible refine(hask _ (by go_split_ands;assumption)).mono ?_);rintro e wX ⟨zc,rfl,hz,hbX⟩))
   all_goals go_split_ands
   have hbX2:Below wr.heap.size wr wX:=by assumption
   clear hask hbs cy cx a2 a1
   cases hkl:kl y x
   · rw[hkl]at hz
     have HE:Hid (∃s2 t2:Nat,s2≤t2∧p+t2≤m∧Value.int .i64 ((h:Int)+1)= .int .i64 ((p+s2:Nat):Int)∧Value.int .i64 ((j:Int))= .int .i64 ((p+t2:Nat):Int)∧(∀(h1:0<s2) (h2:s2-1<X.length),kl y X[s2-1]=false)∧(∀h:t2<X.length,kl y X[t2]=true)∧Below w.heap.size w wX):=(HN.out wX hbX2).1 hkl
     clear HN hkl
     go_wp2
     go_roundw
     case rel=>exact HE.out
     case measure=>have:=HJ.out;simp[intOf];omega
   · rw[hkl]at hz
     have HE:Hid (∃s2 t2:Nat,s2≤t2∧p+t2≤m∧Value.int .i64 ((i:Int))= .int .i64 ((p+s2:Nat):Int)∧Value.int .i64 ((h:Int))= .int .i64 ((p+t2:Nat):Int)∧(∀(h1:0<s2) (h2:s2-1<X.length),kl y X[s2-1]=false)∧(∀h:t2<X.length,kl y X[t2]=true)∧Below w.heap.size w wX):=(HN.out wX hbX2).2 hkl
     clear HN hkl
     go_wp2
     go_roundw
     case rel=>exact HE.out
     case measure=>have:=HJ.out;simp[intOf];omega
 case neg =>
 have hst2:s=t:=by have:=HIJ.out;omega
 have HS:Hid (s≤X.length∧p+s=i∧(∀x∈X.take s,lt x y)∧(∀x∈X.drop s,lt y x)):=by
   obtain⟨g1,g2⟩:=HST.out
   have g3:=HPL.out
   have g4:=HIJ.out
   have g5:s≤X.length:=by omega
   refine⟨g5,g4.1,lt_take HT.out HSX.out g5 (fun h=>(HAG.out _ (List.getElem_mem _)).2 (g1 h (by omega))),lt_drop HT.out HSX.out (fun h=>(HAG.out _ (List.getElem_mem _)).1 ?_)⟩
   subst hst2
   exact g2 h
 have HO2:Hid (OwnP B wr b L cap (P++X.take n++y :: (X.drop n++Q))):=by
   show OwnP _ _ _ _ _ _
   have e:P++X.take n++y :: (X.drop n++Q)=P++X++ [y]++Q:=by
     have:=HPL.out
     rw[List.take_of_length_le (by omega),List.drop_eq_nil_of_le (by omega)]
     simp
   rw[e]
   exact HO.out.below hb
 have HBW:Hid (But (fun k=>k=b) w wr):=But.of_below hb
 have hnl:¬(i:Int)<(j:Int):=by omega
 have HSY2:Hid (X.Pairwise lt):=HSX.out
 have hsn:s≤n:=by have:=HPL.out;have:=HS.out.1;omega
 clear hst2 hst HST HIJ HCX HCY HASK HAG HSX HO hb
 go_upto_region 21 with fail
 go_loopw [17] (fun k wr=> ∃c:Nat,s≤c∧c≤n∧k= .int .i64 ((p+c:Nat):Int)∧OwnP B wr b L cap (P++X.take c++y :: (X.drop c++Q))∧But (fun k=>k=b) w wr) (fun k _=>(intOf k).toNat)
 case atStart=>exact ⟨n,by omega,by omega,by congr 2;omega,HO2.out,HBW.out⟩
 case round =>
 clear HO2 HBW
 obtain⟨c,hcs,hcn,rfl,ho,hb⟩:=hrel
 have HO:Hid (OwnP B wr b L cap (P++X.take c++y :: (X.drop c++Q))):=ho
 have HB:Hid (But (fun k=>k=b) w wr):=hb
 clear ho hb
 obtain⟨k,hk⟩:∃k,p+c=k:=⟨_,rfl⟩
 have HK:Hid (p+c=k):=hk
 rw[hk]
 have hsi:=HS.out.2.1
 by_cases hlt2:s<c
 · obtain⟨c0,rfl⟩:∃c0,c=c0+1:=⟨c-1,by omega⟩
   obtain⟨k0,hk0⟩:∃k0,p+c0=k0:=⟨_,rfl⟩
   obtain rfl:k=k0+1:=by omega
   have hcY:c0<X.length:=by have:=HPL.out;omega
   have hD:P++X.take (c0+1)++y :: (X.drop (c0+1)++Q)=(P++X.take c0)++X[c0] :: y :: (X.drop (c0+1)++Q):=by
     rw[List.take_succ_eq_append_getElem hcY]
     simp only[List.nil_append,List.cons_append,List.append_assoc]
   have hD2:P++X.take c0++y :: (X.drop c0++Q)=(P++X.take c0)++y :: X[c0] :: (X.drop (c0+1)++Q):=by
     rw[List.drop_eq_getElem_cons hcY]
     simp only[List.cons_append]
   have hPS:k0=(P++X.take c0).length:=by
     have:=HPL.out
     rw[List.length_append,List.length_take]
     omega
   have ho:=HO.out
   rw[hD]at ho
   generalize X[c0]=x at ho hD2
   have c1:=ho.cell (at_first hPS)
   have c2:=ho.cell (j:=k0+1) (x:=y) (at_second (M:= []) (by rw[List.length_nil];omega))
   have fz:=ho.fz
   have h1:=ho.set (k0+1) x
   have c3:=h1.cell (j:=k0) (x:=x) (by rw[List.getElem?_set_ne (by omega)];exact at_first hPS)
   have fz1:=h1.fz
   have h2:=h1.set k0 y
   rw[swap_list2 hPS (by omega)]at h2
   have HO3:Hid (OwnP B (((wr.setCell ⟨b,k0+1,none⟩ (pN x)).setCell ⟨b,k0,none⟩ (pN y)).drew) b L cap (P++X.take c0++y :: (X.drop c0++Q))):=by
     show OwnP _ _ _ _ _ _
     rw[hD2]
     exact h2.below (Below.drew (Below.refl _ _))
   have HB3:Hid (But (fun k=>k=b) w (((wr.setCell ⟨b,k0+1,none⟩ (pN x)).setCell ⟨b,k0,none⟩ (pN y)).drew)):=drew_but ((HB.out.trans (setP_but _ _ _ _) (fun _ h _=>h)).trans (setP_but _ _ _ _) (fun _ h _=>h))
   have g1:(i:Int)<((k0+1:Nat):Int):=by omega
   have a5:IntKind.i64.wrap (((k0+1:Nat):Int)-1)=(k0:Int):=by rw[IntWalk.i64_in _ (by omega)];omega
   have g2:((k0+1:Nat):Int)<(L:Int):=by omega
   have g3:(0:Int)≤((k0+1:Nat):Int):=by omega
   have g4:(k0:Int)<(L:Int):=by omega
   have g5:(0:Int)≤(k0:Int):=by omega
   have HKK:Hid (s≤c0∧c0≤n∧(k0:Int)=((p+c0:Nat):Int)∧k0<k0+1):=⟨by omega,by omega,by omega,by omega⟩
   clear h1 h2 ho hD hD2 hPS HO HB hk HK hsi hcY hk0 hcs hcn hlt2
   generalize k0+1=k1 at *
   unfold pN at c1 c2 c3 HO3 HB3 fz1
   go_upto_region 23 with fail
   go_region
   go_wp2
   go_roundw
   case rel=>exact ⟨c0,HKK.out.1,HKK.out.2.1,by rw[HKK.out.2.2.1],HO3.out,HB3.out⟩
   case measure=>have:=HKK.out;simp[intOf];omega
 · have hce:c=s:=by omega
   subst hce
   have HF:Hid (SortP B b L cap P (X++ [y]) Q lt w wr):=by
     obtain⟨g1,g2,g3,g4⟩:=HS.out
     refine⟨X.take c++y :: X.drop c,?_,?_,?_,HB.out⟩
     · have h1:(X.take c++y :: X.drop c).Perm (y :: (X.take c++X.drop c)):=List.perm_middle
       rw[List.take_append_drop]at h1
       exact h1.trans (List.perm_append_comm (l₁:= [y]) (l₂:=X))
     · exact ins_sorted (by rw[List.take_append_drop];exact HSY2.out) g4 g3
     · have e:P++(X.take c++y :: X.drop c)++Q=P++X.take c++y :: (X.drop c++Q):=by simp
       rw[e]
       exact HO.out
   have g1:¬(i:Int)<(k:Int):=by omega
   clear HO HB HS
   go_wp2
   refine bodyPost_ret (v:=.tuple #[]) (by simp[results,Tryz.results137,go_sem]) rfl ?_
   exact⟨rfl,HF.out⟩
end Go.Proofs.YtgckdomafbnmkaaGreatDoor
