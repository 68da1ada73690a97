/- By an AI agent. -/
import Derived.Test.YtgckdomafbnmkaaGreatDoorStbTwo
namespace Go.Proofs.YtgckdomafbnmkaaGreatDoor
open Go.RowKit Go.Extern.Stop Go.Stop Go.Extern Go.Sort Go.Shelf Go.Lib
theorem getD_at (l:List Nat) {i:Nat} (h:i<l.length):l.getD i 0=l[i]:=by
 rw[List.getD_eq_getElem?_getD,List.getElem?_eq_getElem h]
 rfl
def MergeS (B b L cap:Nat) (kl:Nat→Nat→Bool) (lt:Nat→Nat→Prop) (n:Nat):Prop:= ∀(P X Y Q:List Nat) (w:World),X.length+Y.length≤n→0<X.length→0<Y.length→OwnP B w b L cap (P++X++Y++Q)→AskC b kl (X++Y) w→X.Pairwise lt→Y.Pairwise lt→(∀x∈X,∀y∈Y,Agree kl lt x y) →
   Calls Tryz.prog 137 #[.slice (some ⟨b,0,none⟩) L cap,.int .i64 (P.length:Nat),.int .i64 ((P.length+X.length:Nat):Int),.int .i64 ((P.length+X.length+Y.length:Nat):Int),cvP] w fun e w'=>e= .returned (.tuple #[])∧SortP B b L cap P (X++Y) Q lt w w'
structure Cut4 (lt:Nat→Nat→Prop) (X Y:List Nat) (s t:Nat):Prop where
 sx:s≤X.length
 ty:t≤Y.length
 all:∀a∈X.take s++Y.take t,∀c∈X.drop s++Y.drop t,lt a c
theorem cut4_of {kl:Nat→Nat→Bool} {lt:Nat→Nat→Prop} (hT:∀x y z,lt x y→lt y z→lt x z) {X Y:List Nat} {s t:Nat} (hX:X.Pairwise lt) (hY:Y.Pairwise lt) (hag:∀x∈X,∀y∈Y,Agree kl lt x y) (hs:s≤X.length) (ht:t≤Y.length)
   (h1:s=0∨t=Y.length∨kl (Y.getD t 0) (X.getD (s-1) 0)=false) (h2:t=0∨s=X.length∨kl (Y.getD (t-1) 0) (X.getD s 0)=true):Cut4 lt X Y s t:=by
 have hXp:=List.pairwise_iff_getElem.1 hX
 have hYp:=List.pairwise_iff_getElem.1 hY
 refine⟨hs,ht,fun a ha c hc=>?_⟩
 rw[List.mem_append]at ha hc
 rcases ha with ha | ha<;>rcases hc with hc | hc
 · obtain⟨i,hi,rfl⟩:=List.mem_take_iff_getElem.1 ha
   obtain⟨j,hj,rfl⟩:=List.mem_drop_iff_getElem.1 hc
   exact hXp i (s+j) (by omega) (by omega) (by omega)
 · obtain⟨i,hi,rfl⟩:=List.mem_take_iff_getElem.1 ha
   obtain⟨j,hj,rfl⟩:=List.mem_drop_iff_getElem.1 hc
   have hs0:0<s:=by omega
   have ht0:t<Y.length:=by omega
   have hk:kl Y[t] X[s-1]=false:=by
     rcases h1 with h | h | h
     · omega
     · omega
     · rw[getD_at _ ht0,getD_at _ (by omega)]at h
       exact h
   have hb:=(hag X[s-1] (List.getElem_mem _) Y[t] (List.getElem_mem _)).2 hk
   have e1:i=s-1∨lt X[i] X[s-1]:=by
     by_cases e:i=s-1
     · exact Or.inl e
     · exact Or.inr (hXp i (s-1) (by omega) (by omega) (by omega))
   have e2:j=0∨lt Y[t] Y[t+j]:=by
     by_cases e:j=0
     · exact Or.inl e
     · exact Or.inr (hYp t (t+j) (by omega) (by omega) (by omega))
   rcases e1 with rfl | e1<;>rcases e2 with rfl | e2
   · exact hb
   · exact hT _ _ _ hb e2
   · exact hT _ _ _ e1 hb
   · exact hT _ _ _ e1 (hT _ _ _ hb e2)
 · obtain⟨i,hi,rfl⟩:=List.mem_take_iff_getElem.1 ha
   obtain⟨j,hj,rfl⟩:=List.mem_drop_iff_getElem.1 hc
   have ht0:0<t:=by omega
   have hs0:s<X.length:=by omega
   have hk:kl Y[t-1] X[s]=true:=by
     rcases h2 with h | h | h
     · omega
     · omega
     · rw[getD_at _ (by omega),getD_at _ hs0]at h
       exact h
   have hb:=(hag X[s] (List.getElem_mem _) Y[t-1] (List.getElem_mem _)).1 hk
   have e1:i=t-1∨lt Y[i] Y[t-1]:=by
     by_cases e:i=t-1
     · exact Or.inl e
     · exact Or.inr (hYp i (t-1) (by omega) (by omega) (by omega))
   have e2:j=0∨lt X[s] X[s+j]:=by
     by_cases e:j=0
     · exact Or.inl e
     · exact Or.inr (hXp s (s+j) (by omega) (by omega) (by omega))
   rcases e1 with rfl | e1<;>rcases e2 with rfl | e2
   · exact hb
   · exact hT _ _ _ hb e2
   · exact hT _ _ _ e1 hb
   · exact hT _ _ _ e1 (hT _ _ _ hb e2)
 · obtain⟨i,hi,rfl⟩:=List.mem_take_iff_getElem.1 ha
   obtain⟨j,hj,rfl⟩:=List.mem_drop_iff_getElem.1 hc
   exact hYp i (t+j) (by omega) (by omega) (by omega)
set_option maxRecDepth 100000 in
set_option maxHeartbeats 32000000 in
theorem merge_gen (B b L cap:Nat) (kl:Nat→Nat→Bool) (lt:Nat→Nat→Prop) (hT:∀x y z,lt x y→lt y z→lt x z) (hL:L≤100000) (k0:Nat) (IH:MergeS B b L cap kl lt k0) (P X Y Q:List Nat) (w:World) (hk0:X.length+Y.length=k0+1) (hX0:1<X.length) (hY0:1<Y.length) (ho:OwnP B w b L cap (P++X++Y++Q)) (hask:AskC b kl (X++Y) w) (hsX:X.Pairwise lt) (hsY:Y.Pairwise lt) (hag:∀x∈X,∀y∈Y,Agree kl lt x y) :
   Calls Tryz.prog 137 #[.slice (some ⟨b,0,none⟩) L cap,.int .i64 (P.length:Nat),.int .i64 ((P.length+X.length:Nat):Int),.int .i64 ((P.length+X.length+Y.length:Nat):Int),cvP] w fun e w'=>e= .returned (.tuple #[])∧SortP B b L cap P (X++Y) Q lt w w':=by
 have hlen:=ho.len
 simp only[List.length_append]at hlen
 unfold cvP
 have eg:∀args w,(callFunc 42 args).run Tryz.prog w= .ok (.enter 42 args) w:=enters_of Tryz.func42 (by kernel_rfl) rfl
 obtain⟨p,hp⟩:∃p,P.length=p:=⟨_,rfl⟩
 obtain⟨nx,hnx⟩:∃n,X.length=n:=⟨_,rfl⟩
 obtain⟨ny,hny⟩:∃n,Y.length=n:=⟨_,rfl⟩
 obtain⟨m,hm⟩:∃m,P.length+X.length=m:=⟨_,rfl⟩
 obtain⟨q,hq⟩:∃q,m+Y.length=q:=⟨_,rfl⟩
 obtain⟨mid,hmid⟩:∃k,(p+q) / 2=k:=⟨_,rfl⟩
 obtain⟨n,hn⟩:∃n,mid+m=n:=⟨_,rfl⟩
 have HPL:Hid (P.length=p∧X.length=nx∧Y.length=ny∧X.length+Y.length=k0+1):=⟨hp,hnx,hny,hk0⟩
 have hmq:p+nx=m∧1<nx∧m+ny=q∧1<ny∧q≤L∧2*mid≤p+q∧p+q≤2*mid+1∧mid+m=n:=by omega
 rw[hm,hq,hp]
 have a0:IntKind.i64.wrap ((m:Int)-(p:Int))=(nx:Int):=by rw[IntWalk.i64_in _ (by omega)];omega
 have e0:((nx:Int) == 1)=false:=by simp;omega
 have a9:IntKind.i64.wrap ((q:Int)-(m:Int))=(ny:Int):=by rw[IntWalk.i64_in _ (by omega)];omega
 have e9:((ny:Int) == 1)=false:=by simp;omega
 have b1:IntKind.i64.wrap ((p:Int)+(q:Int))=(p:Int)+(q:Int):=IntWalk.i64_in _ (by omega)
 have b2:((p:Int)+(q:Int)) / 2=(mid:Int):=by omega
 have b3:IntKind.i64.wrap ((mid:Int)+(m:Int))=(n:Int):=by rw[IntWalk.i64_in _ (by omega)];omega
 have HCX:Hid (∀W,Below w.heap.size w W→∀c,c<nx→W.cell? ⟨b,p+c,none⟩=some (pN (X.getD c 0))):=fun W hW c hc=>(ho.below hW).cell (by
   rw[List.append_assoc (P++X),List.append_assoc P,List.getElem?_append_right (by omega)]
   have e:p+c-P.length=c:=by omega
   rw[e,List.getElem?_append_left (by omega),getD_at _ (by omega),List.getElem?_eq_getElem (by omega)])
 have HCY:Hid (∀W,Below w.heap.size w W→∀c,c<ny→W.cell? ⟨b,m+c,none⟩=some (pN (Y.getD c 0))):=fun W hW c hc=>(ho.below hW).cell (by
   rw[List.append_assoc (P++X),List.getElem?_append_right (by rw[List.length_append];omega)]
   have e:m+c-(P++X).length=c:=by rw[List.length_append];omega
   rw[e,List.getElem?_append_left (by omega),getD_at _ (by omega),List.getElem?_eq_getElem (by omega)])
 have HASK:Hid (∀W,Below w.heap.size w W→∀c d,c<nx→d<ny→Calls Tryz.prog 42 #[pN (Y.getD d 0),pN (X.getD c 0)] W fun e w'=> ∃z:Int,e= .returned (.int .i64 z)∧decide (z<0)=kl (Y.getD d 0) (X.getD c 0)∧Below W.heap.size W w'):=fun W hW c d hc hd=>hask _ (by rw[getD_at _ (by omega)];exact List.mem_append.2 (Or.inr (List.getElem_mem _))) _ (by rw[getD_at _ (by omega)];exact List.mem_append.2 (Or.inl (List.getElem_mem _))) W (But.of_below hW)
 have HO:Hid (OwnP B w b L cap (P++X++Y++Q)):=ho
 have HSX:Hid (X.Pairwise lt∧Y.Pairwise lt∧(∀x∈X,∀y∈Y,Agree kl lt x y)∧AskC b kl (X++Y) w):=⟨hsX,hsY,hag,hask⟩
 have HT:Hid (∀x y z,lt x y→lt y z→lt x z):=hT
 have HIH:Hid (MergeS B b L cap kl lt k0):=IH
 obtain⟨st0,r0,HST0⟩:∃st0 r0:Nat,(mid<m∧st0+q=n∧r0=mid)∨(m≤mid∧st0=p∧r0=m):=by
   by_cases h:mid<m
   · exact⟨n-q,mid,Or.inl ⟨h,by omega,rfl⟩⟩
   · exact⟨p,m,Or.inr ⟨by omega,rfl,rfl⟩⟩
 have HS0:Hid ((mid<m∧st0+q=n∧r0=mid)∨(m≤mid∧st0=p∧r0=m)):=HST0
 clear ho hask hsX hsY hag hT hlen hp hm hq hnx hny hmid hn hk0 hX0 hY0 IH HST0
 go_enter Tryz.func137,Tryz.ntmps137
 go_upto_if 140 with fail
 go_cut [20,21] from 140 to 146 (fun x y wx=>x= .int .i64 (st0:Int)∧y= .int .i64 (r0:Int)∧w=wx)
 case first =>
   rcases HS0.out with⟨h1,h2,h3⟩|⟨h1,h2,h3⟩
   · have g1:(mid:Int)<(m:Int):=by omega
     have g2:IntKind.i64.wrap ((n:Int)-(q:Int))=(st0:Int):=by rw[IntWalk.i64_in _ (by omega)];omega
     have hpb:decide (mid<m)=true:=decide_eq_true h1
     have HR:Hid ((r0:Int)=(mid:Int)):=by show _=_;omega
     first | rw[hpb] | skip
     clear h1 h2 h3 a0 a9 b1 b2 b3 e0 e9
     go_wp2
     go_meet
     case rel=>exact ⟨rfl,by rw[HR.out],rfl⟩
   · have g1:¬(mid:Int)<(m:Int):=by omega
     have hpb:decide (mid<m)=false:=decide_eq_false (by omega)
     have HR:Hid ((r0:Int)=(m:Int)∧(st0:Int)=(p:Int)):=⟨by omega,by omega⟩
     first | rw[hpb] | skip
     clear h1 h2 h3 a0 a9 b1 b2 b3 e0 e9
     go_wp2
     go_meet
     case rel=>exact ⟨by rw[HR.out.2],by rw[HR.out.1],rfl⟩
 case rest =>
 obtain⟨rfl,rfl,rfl⟩:=hcut
 obtain⟨pp,hpp⟩:∃k,n-1=k:=⟨_,rfl⟩
 have b4:IntKind.i64.wrap ((n:Int)-1)=(pp:Int):=by rw[IntWalk.i64_in _ (by omega)];omega
 have HPP:Hid (n-1=pp):=hpp
 go_upto_region 33 with fail
 clear a0 a9 b1 b2 b3 b4 e0 e9 hpp
 go_loopw [20,21,23] (fun i j _ wr=> ∃s t:Nat,st0≤s∧s≤t∧t≤r0∧i= .int .i64 (s:Int)∧j= .int .i64 (t:Int)∧(s=st0∨kl (Y.getD (n-s-m) 0) (X.getD (s-1-p) 0)=false)∧(t=r0∨kl (Y.getD (n-1-t-m) 0) (X.getD (t-p) 0)=true)∧Below w.heap.size w wr) (fun i j _ _=>(intOf j).toNat-(intOf i).toNat)
 case atStart=>exact ⟨st0,r0,by omega,by rcases HS0.out with h | h<;>omega,by omega,rfl,rfl,Or.inl rfl,Or.inl rfl,Below.refl _ _⟩
 case round =>
 obtain⟨s,t,hs0,hst,htr,rfl,rfl,hs,ht,hb⟩:=hrel
 have HST:Hid ((s=st0∨kl (Y.getD (n-s-m) 0) (X.getD (s-1-p) 0)=false)∧(t=r0∨kl (Y.getD (n-1-t-m) 0) (X.getD (t-p) 0)=true)):=⟨hs,ht⟩
 clear hs ht
 by_cases hlt:s<t
 case pos =>
   have g1:(s:Int)<(t:Int):=by omega
   obtain⟨c,hc⟩:∃c,(s+t) / 2=c:=⟨_,rfl⟩
   obtain⟨d,hd⟩:∃d,pp-c=d:=⟨_,rfl⟩
   have hcb:p≤c∧c<m∧m≤d∧d<q∧s≤c∧c<t∧d+c=pp∧d=n-1-c:=by
     have g:=HPP.out
     rcases HS0.out with h | h<;>omega
   have a1:IntKind.i64.wrap ((s:Int)+(t:Int))=(s:Int)+(t:Int):=IntWalk.i64_in _ (by omega)
   have a2:((s:Int)+(t:Int)) / 2=(c:Int):=by omega
   have a4:IntKind.i64.wrap ((pp:Int)-(c:Int))=(d:Int):=by rw[IntWalk.i64_in _ (by omega)];omega
   have cy:=HCY.out wr hb (d-m) (by omega)
   have cx:=HCX.out wr hb (c-p) (by omega)
   rw[show m+(d-m)=d by omega]at cy
   rw[show p+(c-p)=c by omega]at cx
   have hask:=fun W (hW:Below wr.heap.size wr W)=>HASK.out W (hb.trans (hW.mono hb.size)) (c-p) (d-m) (by omega) (by omega)
   have HN:Hid (∀W,Below wr.heap.size wr W→(kl (Y.getD (d-m) 0) (X.getD (c-p) 0)=false→∃s2 t2:Nat,st0≤s2∧s2≤t2∧t2≤r0∧Value.int .i64 ((c:Int)+1)= .int .i64 (s2:Int)∧Value.int .i64 (t:Int)= .int .i64 (t2:Int)∧(s2=st0∨kl (Y.getD (n-s2-m) 0) (X.getD (s2-1-p) 0)=false)∧(t2=r0∨kl (Y.getD (n-1-t2-m) 0) (X.getD (t2-p) 0)=true)∧Below w.heap.size w W)∧(kl (Y.getD (d-m) 0) (X.getD (c-p) 0)=true→∃s2 t2:Nat,st0≤s2∧s2≤t2∧t2≤r0∧Value.int .i64 (s:Int)= .int .i64 (s2:Int)∧Value.int .i64 (c:Int)= .int .i64 (t2:Int)∧(s2=st0∨kl (Y.getD (n-s2-m) 0) (X.getD (s2-1-p) 0)=false)∧(t2=r0∨kl (Y.getD (n-1-t2-m) 0) (X.getD (t2-p) 0)=true)∧Below w.heap.size w W)):=fun W hW=>by
     refine⟨fun e=>⟨c+1,t,by omega,by omega,by omega,by congr 1,rfl,Or.inr ?_,HST.out.2,hb.trans (hW.mono hb.size)⟩,fun e=>⟨s,c,by omega,by omega,by omega,rfl,rfl,HST.out.1,Or.inr ?_,hb.trans (hW.mono hb.size)⟩⟩
     · rw[show n-(c+1)-m=d-m by omega,show c+1-1-p=c-p by omega]
       exact e
     · rw[show n-1-c-m=d-m by omega]
       exact e
   generalize Y.getD (d-m) 0=y at cy hask HN
   generalize X.getD (c-p) 0=x at cx hask HN
   have g2:(c:Int)<(L:Int):=by omega
   have g3:(0:Int)≤(c:Int):=by omega
   have g4:(d:Int)<(L:Int):=by omega
   have g5:(0:Int)≤(d:Int):=by omega
   have a3:IntKind.i64.wrap ((c:Int)+1)=(c:Int)+1:=IntWalk.i64_in _ (by omega)
   have hbs:Below wr.heap.size wr wr:=Below.refl _ _
   have HJ:Hid (s≤c∧c<t):=⟨by omega,by omega⟩
   unfold pN at cy cx hask
   clear HST hc hd hcb
   go_upto_region 35 with fail
   go_region_held3 (fun w'=>w'.cell? ⟨b,d,none⟩=some (.pointer (some ⟨y,0,none⟩))∧w'.cell? ⟨b,c,none⟩=some (.pointer (some ⟨x,0,none⟩))∧Below wr.heap.size wr w')
     (first
       | (go_split_ands;with_reducible exact⟨below_keep hbX (by assumption),below_keep hbX (by assumption),Below.trans (by assumption) (hbX.mono (Below.size (by assumption)))⟩)
       | (go_split_ands;exact⟨by go_keep,by go_keep,by assumption⟩)
       | (go_split_ands;exact⟨by go_keep,by go_keep,Below.drew (by assumption)⟩))
     (first
       | (go_at_call 42;(with_reducible refine(hask _ (by go_split_ands;assumption)).mono ?_);rintro e wX ⟨zc,rfl,hz,hbX⟩))
   all_goals go_split_ands
   have hbX2:Below wr.heap.size wr wX:=by assumption
   clear hask hbs cy cx a2 a1
   cases hkl:kl y x
   · rw[hkl]at hz
     have HE:=(HN.out wX hbX2).1 hkl
     clear HN hkl
     obtain⟨s2,t2,f1,f2,f3,f4,f5,f6,f7,f8⟩:=HE
     have HE2:Hid (st0≤s2∧s2≤t2∧t2≤r0∧Value.int .i64 ((c:Int)+1)= .int .i64 (s2:Int)∧Value.int .i64 (t:Int)= .int .i64 (t2:Int)∧(s2=st0∨kl (Y.getD (n-s2-m) 0) (X.getD (s2-1-p) 0)=false)∧(t2=r0∨kl (Y.getD (n-1-t2-m) 0) (X.getD (t2-p) 0)=true)∧Below w.heap.size w wX):=⟨f1,f2,f3,f4,f5,f6,f7,f8⟩
     clear f1 f2 f3 f4 f5 f6 f7 f8
     go_wp2
     go_roundw
     case rel=>exact ⟨s2,t2,HE2.out⟩
     case measure=>have:=HJ.out;simp[intOf];omega
   · rw[hkl]at hz
     have HE:=(HN.out wX hbX2).2 hkl
     clear HN hkl
     obtain⟨s2,t2,f1,f2,f3,f4,f5,f6,f7,f8⟩:=HE
     have HE2:Hid (st0≤s2∧s2≤t2∧t2≤r0∧Value.int .i64 (s:Int)= .int .i64 (s2:Int)∧Value.int .i64 (c:Int)= .int .i64 (t2:Int)∧(s2=st0∨kl (Y.getD (n-s2-m) 0) (X.getD (s2-1-p) 0)=false)∧(t2=r0∨kl (Y.getD (n-1-t2-m) 0) (X.getD (t2-p) 0)=true)∧Below w.heap.size w wX):=⟨f1,f2,f3,f4,f5,f6,f7,f8⟩
     clear f1 f2 f3 f4 f5 f6 f7 f8
     go_wp2
     go_roundw
     case rel=>exact ⟨s2,t2,HE2.out⟩
     case measure=>have:=HJ.out;simp[intOf];omega
 case neg =>
 obtain rfl:s=t:=by omega
 obtain⟨en,hen⟩:∃k,n-s=k:=⟨_,rfl⟩
 have hse:p≤s∧s≤m∧m≤en∧en≤q∧en+s=n∧s≤mid∧mid≤en:=by rcases HS0.out with h | h<;>omega
 have HCUT:Hid (Cut4 lt X Y (s-p) (en-m)):=by
   obtain⟨g1,g2⟩:=HST.out
   have g3:=HPL.out
   refine cut4_of HT.out HSX.out.1 HSX.out.2.1 HSX.out.2.2.1 (by omega) (by omega) ?_ ?_
   · rcases g1 with h | h
     · rcases HS0.out with e | e
       · exact Or.inr (Or.inl (by omega))
       · exact Or.inl (by omega)
     · exact Or.inr (Or.inr (by
         rw[show en-m=n-s-m by omega,show s-p-1=s-1-p by omega]
         exact h))
   · rcases g2 with h | h
     · rcases HS0.out with e | e
       · exact Or.inl (by omega)
       · exact Or.inr (Or.inl (by omega))
     · exact Or.inr (Or.inr (by
         rw[show en-m-1=n-1-s-m by omega]
         exact h))
 have b5:IntKind.i64.wrap ((n:Int)-(s:Int))=(en:Int):=by rw[IntWalk.i64_in _ (by omega)];omega
 have hnl:¬(s:Int)<(s:Int):=by omega
 obtain⟨L1,hL1⟩:∃l,X.take (s-p)=l:=⟨_,rfl⟩
 obtain⟨L2,hL2⟩:∃l,X.drop (s-p)=l:=⟨_,rfl⟩
 obtain⟨R1,hR1⟩:∃l,Y.take (en-m)=l:=⟨_,rfl⟩
 obtain⟨R2,hR2⟩:∃l,Y.drop (en-m)=l:=⟨_,rfl⟩
 have HX12:Hid (X=L1++L2∧Y=R1++R2):=⟨by rw[←hL1,←hL2,List.take_append_drop],by rw[←hR1,←hR2,List.take_append_drop]⟩
 have HLN:Hid (P.length=p∧L1.length=s-p∧L2.length=m-s∧R1.length=en-m∧R2.length=q-en):=by
   have g3:=HPL.out
   rw[←hL1,←hL2,←hR1,←hR2,List.length_take,List.length_drop,List.length_take,List.length_drop]
   refine⟨g3.1,?_,?_,?_,?_⟩<;>omega
 have HALL:Hid (∀a∈L1++R1,∀c∈L2++R2,lt a c):=by
   have h:=HCUT.out.all
   rw[hL1,hL2,hR1,hR2]at h
   exact h
 have HSO:Hid (L1.Pairwise lt∧L2.Pairwise lt∧R1.Pairwise lt∧R2.Pairwise lt):=by
   have g1:=HSX.out.1
   have g2:=HSX.out.2.1
   rw[HX12.out.1,List.pairwise_append]at g1
   rw[HX12.out.2,List.pairwise_append]at g2
   exact⟨g1.1,g1.2.1,g2.1,g2.2.1⟩
 have HMEM:Hid ((∀a∈L1,a∈X)∧(∀a∈L2,a∈X)∧(∀a∈R1,a∈Y)∧(∀a∈R2,a∈Y)):=by
   rw[HX12.out.1,HX12.out.2]
   exact⟨fun a h=>List.mem_append.2 (Or.inl h),fun a h=>List.mem_append.2 (Or.inr h),fun a h=>List.mem_append.2 (Or.inl h),fun a h=>List.mem_append.2 (Or.inr h)⟩
 have HO2:Hid (OwnP B wr b L cap ((P++L1)++L2++R1++(R2++Q))):=by
   have h:=HO.out.below hb
   rw[HX12.out.1,HX12.out.2]at h
   have e:(P++L1)++L2++R1++(R2++Q)=P++(L1++L2)++(R1++R2)++Q:=by simp only[List.append_assoc]
   show OwnP _ _ _ _ _ _
   rw[e]
   exact h
 have HB2:Hid (But (fun k=>k=b) w wr):=But.of_below hb
 clear hL1 hL2 hR1 hR2 HCUT HST HO hb HCX HCY HASK hst hlt
 obtain⟨G1,hG1⟩:∃g,decide (s<m∧m<en)=g:=⟨_,rfl⟩
 have HG1:Hid (decide (s<m∧m<en)=G1):=hG1
 clear hG1
 go_upto_region 39 with fail
 go_cut [185] from 178 to 184 (fun x wx=>x= .bool G1∧wr=wx)
 case first =>
   by_cases hs1:s<m
   · by_cases hs2:m<en
     · have g1:(s:Int)<(m:Int):=by omega
       have g2:(m:Int)<(en:Int):=by omega
       have d1:decide (s<m)=true:=decide_eq_true hs1
       have d2:decide (m<en)=true:=decide_eq_true hs2
       have HG:Hid (G1=true):=by
         show _=_
         rw[←HG1.out]
         exact decide_eq_true ⟨hs1,hs2⟩
       clear hs1 hs2
       go_wp2
       go_meet
       case rel=>exact ⟨by rw[HG.out],rfl⟩
     · have g1:(s:Int)<(m:Int):=by omega
       have g2:¬(m:Int)<(en:Int):=by omega
       have d1:decide (s<m)=true:=decide_eq_true hs1
       have d2:decide (m<en)=false:=decide_eq_false hs2
       have HG:Hid (G1=false):=by
         show _=_
         rw[←HG1.out]
         exact decide_eq_false (fun h=>hs2 h.2)
       clear hs1 hs2
       go_wp2
       go_meet
       case rel=>exact ⟨by rw[HG.out],rfl⟩
   · have g1:¬(s:Int)<(m:Int):=by omega
     have d1:decide (s<m)=false:=decide_eq_false hs1
     have HG:Hid (G1=false):=by
       show _=_
       rw[←HG1.out]
       exact decide_eq_false (fun h=>hs1 h.1)
     clear hs1
     go_wp2
     go_meet
     case rel=>exact ⟨by rw[HG.out],rfl⟩
 case rest =>
 obtain⟨rfl,hwx⟩:=hcut
 subst hwx
 go_upto_if 185 with fail
 go_cut [185] from 186 to 191 (fun _ wx=>OwnP B wx b L cap (P++L1++R1++(L2++R2++Q))∧But (fun k=>k=b) w wx)
 case first =>
   cases hGv:G1
   case true =>
     have hg:s<m∧m<en:=of_decide_eq_true (HG1.out.trans hGv)
     have hc:=rotate_any B b L cap (P++L1) L2 R1 (R2++Q) cvP wr (by have:=HLN.out;omega) (by have:=HLN.out;omega) HO2.out hL
     have e1:(P++L1).length=s:=by have:=HLN.out;rw[List.length_append];omega
     have e2:s+L2.length=m:=by have:=HLN.out;omega
     have e3:m+R1.length=en:=by have:=HLN.out;omega
     rw[e1,e2,e3]at hc
     unfold cvP at hc
     have g1:(s:Int)<(m:Int):=by omega
     have g2:(m:Int)<(en:Int):=by omega
     have d1:decide (s<m)=true:=decide_eq_true hg.1
     have d2:decide (m<en)=true:=decide_eq_true hg.2
     have HR:Hid (∀w',OwnP B w' b L cap (P++L1++R1++L2++(R2++Q))→But (fun k=>k=b) wr w'→OwnP B w' b L cap (P++L1++R1++(L2++R2++Q))∧But (fun k=>k=b) w w'):=fun w' h1 h2=>by
       have e:P++L1++R1++(L2++R2++Q)=P++L1++R1++L2++(R2++Q):=by simp only[List.append_assoc]
       rw[e]
       exact⟨h1,HB2.out.trans h2 (fun _ h _=>h)⟩
     clear HO2 HB2 e1 e2 e3 hg hGv
     go_wp2_with fail
     refine hc.mono ?_
     rintro e w1 ⟨rfl,ho1,hb1⟩
     have HF:Hid (OwnP B w1 b L cap (P++L1++R1++(L2++R2++Q))∧But (fun k=>k=b) w w1):=HR.out w1 ho1 hb1
     clear hc ho1 hb1 HR
     go_wp2
     go_meet
     case rel=>exact HF.out
   case false =>
     have hg:¬(s<m∧m<en):=of_decide_eq_false (HG1.out.trans hGv)
     have HF:Hid (OwnP B wr b L cap (P++L1++R1++(L2++R2++Q))∧But (fun k=>k=b) w wr):=by
       refine⟨?_,HB2.out⟩
       have g3:=HLN.out
       have h1:=HO2.out
       by_cases e:s<m
       · have:R1= []:=List.length_eq_zero_iff.1 (by omega)
         subst this
         simpa using h1
       · have:L2= []:=List.length_eq_zero_iff.1 (by omega)
         subst this
         simpa using h1
     clear HO2 HB2 hg hGv
     go_wp2
     go_meet
     case rel=>exact HF.out
 case rest =>
 have HO3:Hid (OwnP B wc b L cap (P++L1++R1++(L2++R2++Q))∧But (fun k=>k=b) w wc):=hcut
 clear hcut HO2 HB2 b5 hnl
 generalize wc=w2 at *
 obtain⟨G2,hG2⟩:∃g,decide (p<s∧s<mid)=g:=⟨_,rfl⟩
 have HG2:Hid (decide (p<s∧s<mid)=G2):=hG2
 clear hG2
 go_upto_region 41 with fail
 go_cut [199] from 192 to 198 (fun x wx=>x= .bool G2∧w2=wx)
 case first =>
   by_cases hs1:p<s
   · by_cases hs2:s<mid
     · have g1:(p:Int)<(s:Int):=by omega
       have g2:(s:Int)<(mid:Int):=by omega
       have d1:decide (p<s)=true:=decide_eq_true hs1
       have d2:decide (s<mid)=true:=decide_eq_true hs2
       have HG:Hid (G2=true):=by
         show _=_
         rw[←HG2.out]
         exact decide_eq_true ⟨hs1,hs2⟩
       clear hs1 hs2
       go_wp2
       go_meet
       case rel=>exact ⟨by rw[HG.out],rfl⟩
     · have g1:(p:Int)<(s:Int):=by omega
       have g2:¬(s:Int)<(mid:Int):=by omega
       have d1:decide (p<s)=true:=decide_eq_true hs1
       have d2:decide (s<mid)=false:=decide_eq_false hs2
       have HG:Hid (G2=false):=by
         show _=_
         rw[←HG2.out]
         exact decide_eq_false (fun h=>hs2 h.2)
       clear hs1 hs2
       go_wp2
       go_meet
       case rel=>exact ⟨by rw[HG.out],rfl⟩
   · have g1:¬(p:Int)<(s:Int):=by omega
     have d1:decide (p<s)=false:=decide_eq_false hs1
     have HG:Hid (G2=false):=by
       show _=_
       rw[←HG2.out]
       exact decide_eq_false (fun h=>hs1 h.1)
     clear hs1
     go_wp2
     go_meet
     case rel=>exact ⟨by rw[HG.out],rfl⟩
 case rest =>
 obtain⟨rfl,hwx⟩:=hcut
 subst hwx
 go_upto_if 199 with fail
 go_cut [199] from 200 to 205 (fun _ wx=> ∃M1:List Nat,M1.Perm (L1++R1)∧M1.Pairwise lt∧OwnP B wx b L cap ((P++M1)++L2++R2++Q)∧But (fun k=>k=b) w wx)
 case first =>
   cases hGv:G2
   case true =>
     have hg:p<s∧s<mid:=of_decide_eq_true (HG2.out.trans hGv)
     have hc:=HIH.out P L1 R1 (L2++R2++Q) w2 (by have:=HLN.out;have:=HPL.out;omega) (by have:=HLN.out;omega) (by have:=HLN.out;omega) HO3.out.1 ((HSX.out.2.2.2.but HO3.out.2).sub (fun x hx=>by
       rw[List.mem_append]at hx ⊢
       rcases hx with hx | hx
       · exact Or.inl (HMEM.out.1 x hx)
       · exact Or.inr (HMEM.out.2.2.1 x hx))) HSO.out.1 HSO.out.2.2.1 (fun x hx y hy=>HSX.out.2.2.1 x (HMEM.out.1 x hx) y (HMEM.out.2.2.1 y hy))
     have e1:P.length=p:=HLN.out.1
     have e2:p+L1.length=s:=by have:=HLN.out;omega
     have e3:s+R1.length=mid:=by have:=HLN.out;omega
     rw[e1,e2,e3]at hc
     unfold cvP at hc
     have g1:(p:Int)<(s:Int):=by omega
     have g2:(s:Int)<(mid:Int):=by omega
     have d1:decide (p<s)=true:=decide_eq_true hg.1
     have d2:decide (s<mid)=true:=decide_eq_true hg.2
     have HR:Hid (∀w',SortP B b L cap P (L1++R1) (L2++R2++Q) lt w2 w'→∃M1:List Nat,M1.Perm (L1++R1)∧M1.Pairwise lt∧OwnP B w' b L cap ((P++M1)++L2++R2++Q)∧But (fun k=>k=b) w w'):=fun w' ⟨M,h1,h2,h3,h4⟩=>by
       refine⟨M,h1,h2,?_,HO3.out.2.trans h4 (fun _ h _=>h)⟩
       have e:(P++M)++L2++R2++Q=P++M++(L2++R2++Q):=by simp only[List.append_assoc]
       rw[e]
       exact h3
     clear e1 e2 e3 hg hGv
     go_wp2_with fail
     refine hc.mono ?_
     rintro e w1 ⟨rfl,hs1⟩
     have HF:Hid (∃M1:List Nat,M1.Perm (L1++R1)∧M1.Pairwise lt∧OwnP B w1 b L cap ((P++M1)++L2++R2++Q)∧But (fun k=>k=b) w w1):=HR.out w1 hs1
     clear hc hs1 HR
     go_wp2
     go_meet
     case rel=>exact HF.out
   case false =>
     have hg:¬(p<s∧s<mid):=of_decide_eq_false (HG2.out.trans hGv)
     have HF:Hid (∃M1:List Nat,M1.Perm (L1++R1)∧M1.Pairwise lt∧OwnP B w2 b L cap ((P++M1)++L2++R2++Q)∧But (fun k=>k=b) w w2):=by
       refine⟨L1++R1,List.Perm.refl _,?_,?_,HO3.out.2⟩
       · have g3:=HLN.out
         by_cases e:p<s
         · have:R1= []:=List.length_eq_zero_iff.1 (by omega)
           rw[this,List.append_nil]
           exact HSO.out.1
         · have:L1= []:=List.length_eq_zero_iff.1 (by omega)
           rw[this,List.nil_append]
           exact HSO.out.2.2.1
       · have e:(P++(L1++R1))++L2++R2++Q=P++L1++R1++(L2++R2++Q):=by simp only[List.append_assoc]
         rw[e]
         exact HO3.out.1
     clear hg hGv
     go_wp2
     go_meet
     case rel=>exact HF.out
 case rest =>
 obtain⟨M1,hM1,hM1s,hM1o,hM1b⟩:=hcut
 have HM1:Hid (M1.Perm (L1++R1)∧M1.Pairwise lt∧OwnP B wc b L cap ((P++M1)++L2++R2++Q)∧But (fun k=>k=b) w wc):=⟨hM1,hM1s,hM1o,hM1b⟩
 clear hM1 hM1s hM1o hM1b HO3
 generalize wc=w3 at *
 have HFIN:Hid (∀W M2,M2.Perm (L2++R2)→M2.Pairwise lt→OwnP B W b L cap ((P++M1)++M2++Q)→But (fun k=>k=b) w W→SortP B b L cap P (X++Y) Q lt w W):=fun W M2 h1 h2 h3 h4=>by
   obtain⟨g1,g2,_,_⟩:=HM1.out
   refine⟨M1++M2,?_,?_,?_,h4⟩
   · rw[HX12.out.1,HX12.out.2]
     have e1:(M1++M2).Perm ((L1++R1)++(L2++R2)):=g1.append h1
     refine e1.trans ?_
     have e2:(L1++R1)++(L2++R2)=L1++((R1++L2)++R2):=by simp only[List.append_assoc]
     have e3:(L1++L2)++(R1++R2)=L1++((L2++R1)++R2):=by simp only[List.append_assoc]
     rw[e2,e3]
     exact(List.perm_append_comm.append_right R2).append_left L1
   · rw[List.pairwise_append]
     exact⟨g2,h2,fun a ha c hc=>HALL.out a (g1.subset ha) c (h1.subset hc)⟩
   · have e:P++(M1++M2)++Q=(P++M1)++M2++Q:=by simp only[List.append_assoc]
     rw[e]
     exact h3
 have HML:Hid ((P++M1).length=mid):=by
   have g3:=HLN.out
   have g4:=HM1.out.1.length_eq
   rw[List.length_append]at g4
   show (P++M1).length=mid
   rw[List.length_append]
   omega
 by_cases hg:mid<en∧en<q
 · have hc:=HIH.out (P++M1) L2 R2 Q w3 (by have:=HLN.out;have:=HPL.out;omega) (by have:=HLN.out;omega) (by have:=HLN.out;omega) HM1.out.2.2.1 ((HSX.out.2.2.2.but HM1.out.2.2.2).sub (fun x hx=>by
     rw[List.mem_append]at hx ⊢
     rcases hx with hx | hx
     · exact Or.inl (HMEM.out.2.1 x hx)
     · exact Or.inr (HMEM.out.2.2.2 x hx))) HSO.out.2.1 HSO.out.2.2.2 (fun x hx y hy=>HSX.out.2.2.1 x (HMEM.out.2.1 x hx) y (HMEM.out.2.2.2 y hy))
   have e2:mid+L2.length=en:=by have:=HLN.out;omega
   have e3:en+R2.length=q:=by have:=HLN.out;omega
   rw[HML.out,e2,e3]at hc
   unfold cvP at hc
   have g1:(mid:Int)<(en:Int):=by omega
   have g2:(en:Int)<(q:Int):=by omega
   have d1:decide (mid<en)=true:=decide_eq_true hg.1
   have d2:decide (en<q)=true:=decide_eq_true hg.2
   have HR:Hid (∀w',SortP B b L cap (P++M1) (L2++R2) Q lt w3 w'→SortP B b L cap P (X++Y) Q lt w w'):=fun w' ⟨M,h1,h2,h3,h4⟩=>HFIN.out w' M h1 h2 h3 (HM1.out.2.2.2.trans h4 (fun _ h _=>h))
   clear e2 e3 hg HFIN
   go_wp2_with fail
   refine hc.mono ?_
   rintro e w1 ⟨rfl,hs1⟩
   have HF:Hid (SortP B b L cap P (X++Y) Q lt w w1):=HR.out w1 hs1
   clear hc hs1 HR
   go_wp2
   go_end0
   exact⟨rfl,HF.out⟩
 · have HF:Hid (SortP B b L cap P (X++Y) Q lt w w3):=by
     refine HFIN.out w3 (L2++R2) (List.Perm.refl _) ?_ ?_ HM1.out.2.2.2
     · have g3:=HLN.out
       by_cases e:mid<en
       · have:R2= []:=List.length_eq_zero_iff.1 (by omega)
         rw[this,List.append_nil]
         exact HSO.out.2.1
       · have:L2= []:=List.length_eq_zero_iff.1 (by omega)
         rw[this,List.nil_append]
         exact HSO.out.2.2.2
     · have e:(P++M1)++(L2++R2)++Q=(P++M1)++L2++R2++Q:=by simp only[List.append_assoc]
       rw[e]
       exact HM1.out.2.2.1
   by_cases hs1:mid<en
   · have g1:(mid:Int)<(en:Int):=by omega
     have g2:¬(en:Int)<(q:Int):=by omega
     have d1:decide (mid<en)=true:=decide_eq_true hs1
     have d2:decide (en<q)=false:=decide_eq_false (by omega)
     clear hg hs1 HFIN
     go_wp2
     go_end0
     exact⟨rfl,HF.out⟩
   · have g1:¬(mid:Int)<(en:Int):=by omega
     have d1:decide (mid<en)=false:=decide_eq_false hs1
     clear hg hs1 HFIN
     go_wp2
     go_end0
     exact⟨rfl,HF.out⟩
theorem merge_any (B b L cap:Nat) (kl:Nat→Nat→Bool) (lt:Nat→Nat→Prop) (hT:∀x y z,lt x y→lt y z→lt x z) (hL:L≤100000):∀n,MergeS B b L cap kl lt n
 | 0=>fun P X Y Q w h h1 h2=>by omega
 | n + 1 =>fun P X Y Q w h h1 h2 ho hask hX hY hag=>by
   have IH:=merge_any B b L cap kl lt hT hL n
   by_cases hle:X.length+Y.length≤n
   · exact IH P X Y Q w hle h1 h2 ho hask hX hY hag
   · by_cases hx1:X.length=1
     · obtain⟨x,rfl⟩:=List.length_eq_one_iff.1 hx1
       exact merge_left B b L cap kl lt hT hL P Y Q x w h2 ho hask hY (hag x (List.mem_singleton.2 rfl))
     · by_cases hy1:Y.length=1
       · obtain⟨y,rfl⟩:=List.length_eq_one_iff.1 hy1
         exact merge_right B b L cap kl lt hT hL P X Q y w (by omega) ho hask hX (fun x hx=>hag x hx y (List.mem_singleton.2 rfl))
       · exact merge_gen B b L cap kl lt hT hL n IH P X Y Q w (by omega) (by omega) (by omega) ho hask hX hY hag
def seg (l:List Nat) (a b:Nat):List Nat:=(l.take b).drop a
theorem seg_len (l:List Nat) (a b:Nat):(seg l a b).length=min b l.length-a:=by unfold seg;rw[List.length_drop,List.length_take]
theorem seg_split (l:List Nat) {a b:Nat} (h:a≤b):l=l.take a++seg l a b++l.drop b:=by
 have e:(l.take b).take a=l.take a:=by rw[List.take_take,Nat.min_eq_left h]
 have e2:l.take b=l.take a++seg l a b:=by
   unfold seg
   rw[←e,List.take_append_drop]
 rw[←e2,List.take_append_drop]
theorem seg_join (l:List Nat) {a b c:Nat} (h1:a≤b) (h2:b≤c):seg l a b++seg l b c=seg l a c:=by
 unfold seg
 have e:l.take b=(l.take c).take b:=by rw[List.take_take,Nat.min_eq_left h2]
 rw[e]
 generalize l.take c=m
 have e2:m.drop b=(m.drop a).drop (b-a):=by rw[List.drop_drop];congr 1;omega
 have e3:(m.take b).drop a=(m.drop a).take (b-a):=by rw[List.drop_take]
 rw[e2,e3,List.take_append_drop]
theorem seg_far (l:List Nat) {a b:Nat} (h:l.length≤b):seg l a b=l.drop a:=by unfold seg;rw[List.take_of_length_le h]
theorem seg_same {l l' M:List Nat} {a b:Nat} (hl:l'=l.take a++M++l.drop b) (hab:a≤b) (hb:b≤l.length) (hM:M.length=b-a):(∀c d,d≤a→seg l' c d=seg l c d)∧(∀c d,b≤c→seg l' c d=seg l c d)∧seg l' a b=M∧l'.length=l.length:=by
 have hta:(l.take a).length=a:=by rw[List.length_take];omega
 have h4:l'.length=l.length:=by
   rw[hl,List.length_append,List.length_append,hta,List.length_drop]
   omega
 refine⟨fun c d hd=>?_,fun c d hc=>?_,?_,h4⟩
 · unfold seg
   congr 1
   rw[hl,List.append_assoc,List.take_append_of_le_length (by omega),List.take_take,Nat.min_eq_left hd]
 · unfold seg
   have e:∀m:List Nat,(m.take d).drop c=(m.drop c).take (d-c):=fun m=>by rw[List.drop_take]
   rw[e,e]
   congr 1
   have e2:l'.drop b=l.drop b:=by
     rw[hl,List.drop_append]
     have e3:b-(l.take a++M).length=0:=by rw[List.length_append,hta];omega
     rw[e3,List.drop_zero,List.drop_eq_nil_of_le (by rw[List.length_append,hta];omega),List.nil_append]
   have e4:c=b+(c-b):=by omega
   rw[e4,←List.drop_drop,←List.drop_drop,e2]
 · unfold seg
   have e5:l'.take b=l.take a++M:=by
     rw[hl,List.take_append_of_le_length (by rw[List.length_append,hta];omega),List.take_of_length_le (by rw[List.length_append,hta];omega)]
   rw[e5]
   have e6:=List.drop_left (l₁:=l.take a) (l₂:=M)
   rw[hta]at e6
   exact e6
theorem seg_mem {l:List Nat} {a b x:Nat} (h:x∈seg l a b):∃i,∃hi:i<l.length,a≤i∧i<b∧l[i]=x:=by
 unfold seg at h
 obtain⟨j,hj,rfl⟩:=List.mem_drop_iff_getElem.1 h
 rw[List.length_take]at hj
 refine⟨a+j,by omega,by omega,by omega,?_⟩
 rw[List.getElem_take]
def Sg (lt:Nat→Nat→Prop) (D E:List Nat) (a b:Nat):Prop:=(seg E a b).Perm (seg D a b)∧(seg E a b).Pairwise lt
inductive Bks (lt:Nat→Nat→Prop) (D E:List Nat) (z:Nat):Nat→Prop
 | done {c:Nat} :E.length≤c→Bks lt D E z c
 | step {c:Nat} :Sg lt D E c (c+z)→Bks lt D E z (c+z)→Bks lt D E z c
inductive Pfx (lt:Nat→Nat→Prop) (D E:List Nat) (z:Nat):Nat→Prop
 | zero:Pfx lt D E z 0
 | next {c:Nat} :Pfx lt D E z c→Sg lt D E c (c+z)→Pfx lt D E z (c+z)
theorem Pfx.all {lt:Nat→Nat→Prop} {D E:List Nat} {z c:Nat} (h:Pfx lt D E z c):Bks lt D E z c→Bks lt D E z 0:=by
 induction h with
 | zero=>exact fun h=>h
 | next h1 h2 ih=>exact fun h=>ih (Bks.step h2 h)
theorem Pfx.same {lt:Nat→Nat→Prop} {D E E':List Nat} {z a:Nat} (hs:∀c d,d≤a→seg E' c d=seg E c d) {c:Nat} (h:Pfx lt D E z c):c≤a→Pfx lt D E' z c:=by
 induction h with
 | zero=>exact fun _=>Pfx.zero
 | next h1 h2 ih =>
   intro hc
   refine Pfx.next (ih (by omega)) ?_
   unfold Sg at *
   rw[hs _ _ hc]
   exact h2
theorem Bks.same {lt:Nat→Nat→Prop} {D E E':List Nat} {z b:Nat} (hs:∀c d,b≤c→seg E' c d=seg E c d) (hl:E'.length=E.length) {c:Nat} (h:Bks lt D E z c):b≤c→Bks lt D E' z c:=by
 induction h with
 | done h=>exact fun _=>Bks.done (by rw[hl];exact h)
 | step h1 h2 ih =>
   intro hc
   refine Bks.step ?_ (ih (by omega))
   unfold Sg at *
   rw[hs _ _ hc]
   exact h1
theorem Bks.whole {lt:Nat→Nat→Prop} {D E:List Nat} {z:Nat} (h:Bks lt D E z 0) (hD:D.length=E.length) (hz:E.length≤z):E.Perm D∧E.Pairwise lt:=by
 cases h with
 | done h =>
   have e1:E= []:=List.length_eq_zero_iff.1 (by omega)
   have e2:D= []:=List.length_eq_zero_iff.1 (by rw[hD,e1];rfl)
   rw[e1,e2]
   exact⟨List.Perm.refl _,List.Pairwise.nil⟩
 | step h1 _ =>
   unfold Sg at h1
   rw[seg_far E (by omega),seg_far D (by omega),List.drop_zero,List.drop_zero]at h1
   exact h1
theorem sg_merged {lt:Nat→Nat→Prop} {D E E' M:List Nat} {a m b:Nat} (ham:a≤m) (hmb:m≤b) (hb:b≤E.length) (h1:Sg lt D E a m) (h2:Sg lt D E m b) (hp:M.Perm (seg E a m++seg E m b)) (hs:M.Pairwise lt) (hE:E'=E.take a++M++E.drop b) :
   Sg lt D E' a b∧(∀c d,d≤a→seg E' c d=seg E c d)∧(∀c d,b≤c→seg E' c d=seg E c d)∧E'.length=E.length:=by
 have hM:M.length=b-a:=by
   rw[hp.length_eq,seg_join E ham hmb,seg_len]
   omega
 obtain⟨g1,g2,g3,g4⟩:=seg_same hE (by omega) hb hM
 refine⟨?_,g1,g2,g4⟩
 unfold Sg
 rw[g3]
 refine⟨?_,hs⟩
 rw[←seg_join D ham hmb]
 exact hp.trans (h1.1.append h2.1)
theorem seg_agree {kl:Nat→Nat→Bool} {lt:Nat→Nat→Prop} {D E:List Nat} {a m b:Nat} (hD:D.Pairwise (Agree kl lt)) (h1:Sg lt D E a m) (h2:Sg lt D E m b):∀x∈seg E a m,∀y∈seg E m b,Agree kl lt x y:=fun x hx y hy=>by
 obtain⟨i,hi,_,him,rfl⟩:=seg_mem (h1.1.subset hx)
 obtain⟨j,hj,hjm,_,rfl⟩:=seg_mem (h2.1.subset hy)
 exact List.pairwise_iff_getElem.1 hD i j hi hj (by omega)
theorem seg_in {lt:Nat→Nat→Prop} {D E:List Nat} {a b:Nat} (h:Sg lt D E a b):∀x∈seg E a b,x∈D:=fun x hx=>by
 obtain⟨i,hi,_,_,rfl⟩:=seg_mem (h.1.subset hx)
 exact List.getElem_mem _
end Go.Proofs.YtgckdomafbnmkaaGreatDoor
