/- By an AI agent. -/
import Derived.Test.YtgckdomafbnmkaaGreatDoorPackPut
namespace Go.Proofs.YtgckdomafbnmkaaGreatDoor
open Go.RowKit Go.Extern.Stop Go.Stop Go.Extern Go.Sort Go.Shelf Go.Lib
def pN (x:Nat):Value:=.pointer (some ⟨x,0,none⟩)
def OwnP (B:Nat) (W:World) (b L cap:Nat) (D:List Nat):Prop:=W.ownsRow B 88 1 (.slice (some ⟨b,0,none⟩) L cap) L (D.map pN)
theorem OwnP.len {B:Nat} {W:World} {b L cap:Nat} {D:List Nat} (h:OwnP B W b L cap D):D.length=L:=by
 have:=h.1
 rw[List.length_map]at this
 omega
theorem OwnP.blk {B:Nat} {W:World} {b L cap:Nat} {D:List Nat} (h:OwnP B W b L cap D):∃cur,W.heap[b]? =some (.cells cur 88 (0,0))∧L≤cap∧cap≤maxLen∧cur.size=cap∧cur.toList.take L=D.map pN∧B≤b:=by
 rcases h.2 with⟨hv,_⟩|⟨g,cap',cur,hv,hB,hg,h1,h2,h3,h4⟩
 · simp at hv
 · simp only[Value.slice.injEq,Option.some.injEq,Addr.mk.injEq]at hv
   obtain⟨⟨rfl,_⟩,_,rfl⟩:=hv
   exact⟨cur,hg,h1,h2,by omega,by rw[←h4,Nat.mul_one],hB⟩
theorem OwnP.of {B:Nat} {W:World} {b L cap:Nat} {D:List Nat} {cur:Array Value} (hg:W.heap[b]? =some (.cells cur 88 (0,0))) (h1:L≤cap) (h2:cap≤maxLen) (h3:cur.size=cap) (h4:cur.toList.take L=D.map pN) (hB:B≤b):OwnP B W b L cap D:=by
 have hl:D.length=L:=by
   have:=congrArg List.length h4
   rw[List.length_map,List.length_take,Array.length_toList]at this
   omega
 exact⟨by rw[List.length_map];omega,Or.inr ⟨b,cap,cur,rfl,hB,hg,h1,h2,by omega,by rw[Nat.mul_one];exact h4⟩⟩
theorem OwnP.but {P:Nat→Prop} {B:Nat} {W W':World} {b L cap:Nat} {D:List Nat} (h:OwnP B W b L cap D) (hb:But P W W') (hp:¬P b):OwnP B W' b L cap D:=own_but h hb (fun k hk e=>hp (by simp only[Value.ownBlock,Option.some.injEq]at hk;rw[hk];exact e))
theorem OwnP.below {B:Nat} {W W':World} {b L cap:Nat} {D:List Nat} (h:OwnP B W b L cap D) (hb:Below W.heap.size W W'):OwnP B W' b L cap D:=h.but (But.of_below (P:=fun _=>False) hb) (fun h=>h)
theorem OwnP.cell {B:Nat} {W:World} {b L cap:Nat} {D:List Nat} (h:OwnP B W b L cap D) {j x:Nat} (hj:D[j]? =some x):W.cell? ⟨b,j,none⟩=some (pN x):=by
 obtain⟨cur,hg,_,_,_,h4,_⟩:=h.blk
 have hl:=h.len
 have hjl:j<D.length:=(List.getElem?_eq_some_iff.1 hj).1
 rw[cell_of_row _ _ _ _ _ _ hg]
 have e:(cur.toList.take L)[j]? =(D.map pN)[j]? :=by rw[h4]
 rw[List.getElem?_take,if_pos (by omega),Array.getElem?_toList,List.getElem?_map,hj]at e
 exact e
theorem OwnP.fz {B:Nat} {W:World} {b L cap:Nat} {D:List Nat} (h:OwnP B W b L cap D) (j:Nat):W.frozen? ⟨b,j,none⟩=false:=by
 obtain⟨cur,hg,_⟩:=h.blk
 exact frozen_of_row _ _ _ _ _ hg
theorem OwnP.set {B:Nat} {W:World} {b L cap:Nat} {D:List Nat} (h:OwnP B W b L cap D) (j x:Nat):OwnP B (W.setCell ⟨b,j,none⟩ (pN x)) b L cap (D.set j x):=by
 obtain⟨cur,hg,h1,h2,h3,h4,hB⟩:=h.blk
 have hs:(W.setCell ⟨b,j,none⟩ (pN x)).heap[b]? =some (.cells (cur.setIfInBounds j (pN x)) 88 (0,0)):=heap_setCell_same _ _ _ _ _ _ hg
 refine OwnP.of hs h1 h2 (by rw[Array.size_setIfInBounds];exact h3) ?_ hB
 rw[Array.toList_setIfInBounds,List.map_set,←h4,List.take_set]
theorem setP_but (W:World) (b j:Nat) (v:Value):But (fun k=>k=b) W (W.setCell ⟨b,j,none⟩ v):=(But.refl (fun k=>k=b) W).setCell (Or.inl (Eq.refl b)) _
theorem drew_but {P:Nat→Prop} {W W':World} (h:But P W W'):But P W W'.drew:=h.trans (But.of_below (Below.drew (Below.refl _ _))) (fun _ h _=>h)
theorem swap_list {P M Q:List Nat} {x y i j:Nat} (hi:i=P.length) (hj:j=P.length+1+M.length):((P++x :: (M++y :: Q)).set i y).set j x=P++y :: (M++x :: Q):=by
 subst hi
 rw[List.set_append_right _ _ (Nat.le_refl _),Nat.sub_self,List.set_cons_zero,List.set_append_right _ _ (by omega)]
 congr 1
 have e:j-P.length=M.length+1:=by omega
 rw[e,List.set_cons_succ,List.set_append_right _ _ (Nat.le_refl _),Nat.sub_self,List.set_cons_zero]
theorem at_first {P R:List Nat} {x i:Nat} (hi:i=P.length):(P++x :: R)[i]? =some x:=by
 subst hi
 rw[List.getElem?_append_right (Nat.le_refl _),Nat.sub_self]
 rfl
theorem at_second {P M Q:List Nat} {x y j:Nat} (hj:j=P.length+1+M.length):(P++x :: (M++y :: Q))[j]? =some y:=by
 have e:P++x :: (M++y :: Q)=(P++x :: M)++y :: Q:=by simp
 rw[e]
 exact at_first (by simp;omega)
theorem range_step {P U M V Q:List Nat} {i:Nat} (hu:i<U.length) (hv:i<V.length):P++(V.take i++U.drop i)++M++(U.take i++V.drop i)++Q=(P++V.take i)++U[i] :: ((U.drop (i+1)++M++U.take i)++V[i] :: (V.drop (i+1)++Q))∧P++(V.take (i+1)++U.drop (i+1))++M++(U.take (i+1)++V.drop (i+1))++Q=(P++V.take i)++V[i] :: ((U.drop (i+1)++M++U.take i)++U[i] :: (V.drop (i+1)++Q)):=by
 constructor
 · rw[List.drop_eq_getElem_cons hu,List.drop_eq_getElem_cons hv]
   simp only[List.append_assoc,List.cons_append]
 · rw[List.take_succ_eq_append_getElem hu,List.take_succ_eq_append_getElem hv]
   simp only[List.append_assoc,List.cons_append,List.nil_append]
set_option maxRecDepth 100000 in
set_option maxHeartbeats 4000000 in
theorem swapR_any (B b L cap:Nat) (P U M V Q:List Nat) (cv:Value) (w:World) (hUV:U.length=V.length) (ho:OwnP B w b L cap (P++U++M++V++Q)) (hL:L≤100000) :
   Calls Tryz.prog 190 #[.slice (some ⟨b,0,none⟩) L cap,.int .i64 (P.length:Nat),.int .i64 ((P.length+U.length+M.length:Nat):Int),.int .i64 (U.length:Nat),cv] w fun e w'=>e= .returned (.tuple #[])∧OwnP B w' b L cap (P++V++M++U++Q)∧But (fun k=>k=b) w w':=by
 have hlen:=ho.len
 simp only[List.length_append]at hlen
 obtain⟨p,hp⟩:∃p,P.length=p:=⟨_,rfl⟩
 obtain⟨u,hu⟩:∃u,U.length=u:=⟨_,rfl⟩
 obtain⟨m,hm⟩:∃m,P.length+U.length+M.length=m:=⟨_,rfl⟩
 have HLN:Hid (P.length=p∧U.length=u∧V.length=u∧P.length+U.length+M.length=m):=⟨hp,hu,by omega,hm⟩
 have hpu:p+u≤m∧m+u≤L:=by omega
 have HO:Hid (OwnP B w b L cap (P++(V.take 0++U.drop 0)++M++(U.take 0++V.drop 0)++Q)):=by
   show OwnP _ _ _ _ _ _
   simpa using ho
 rw[hm,hp,hu]
 clear ho hlen hUV hp hu hm
 go_enter Tryz.func190,Tryz.ntmps190
 go_wp2
 go_loopw [10] (fun k wr=> ∃i:Nat,i≤u∧k= .int .i64 i∧OwnP B wr b L cap (P++(V.take i++U.drop i)++M++(U.take i++V.drop i)++Q)∧But (fun k=>k=b) w wr) (fun k _=>u-(intOf k).toNat)
 case atStart=>exact ⟨0,by omega,rfl,HO.out,But.refl _ _⟩
 case round =>
   clear HO
   obtain⟨i,hi,rfl,ho,hb⟩:=hrel
   have HO:Hid (OwnP B wr b L cap (P++(V.take i++U.drop i)++M++(U.take i++V.drop i)++Q)):=ho
   have HB:Hid (But (fun k=>k=b) w wr):=hb
   clear ho hb
   by_cases hlt:i<u
   · obtain⟨e1,e2⟩:=range_step (P:=P) (M:=M) (Q:=Q) (i:=i) (U:=U) (V:=V) (by rw[HLN.out.2.1];exact hlt) (by rw[HLN.out.2.2.1];exact hlt)
     have HE2:Hid (P++(V.take (i+1)++U.drop (i+1))++M++(U.take (i+1)++V.drop (i+1))++Q=(P++V.take i)++(V[i]'(by rw[HLN.out.2.2.1];exact hlt)) :: ((U.drop (i+1)++M++U.take i)++(U[i]'(by rw[HLN.out.2.1];exact hlt)) :: (V.drop (i+1)++Q))):=e2
     have ho:=HO.out
     rw[e1]at ho
     generalize V[i]'(by rw[HLN.out.2.2.1];exact hlt)=y at ho HE2
     generalize U[i]'(by rw[HLN.out.2.1];exact hlt)=x at ho HE2
     have hP:(p+i:Nat)=(P++V.take i).length:=by
       have h:=HLN.out
       rw[List.length_append,List.length_take]
       omega
     have hM:(m+i:Nat)=(P++V.take i).length+1+(U.drop (i+1)++M++U.take i).length:=by
       have h:=HLN.out
       simp only[List.length_append,List.length_take,List.length_drop]
       omega
     have c1:=ho.cell (at_first (P:=P++V.take i) (i:=p+i) hP)
     have c2:=ho.cell (at_second (P:=P++V.take i) (j:=m+i) hM)
     have fz:=ho.fz
     have h1:=ho.set (p+i) y
     have h2:=h1.set (m+i) x
     have c3:=h1.cell (j:=m+i) (x:=y) (by rw[List.getElem?_set_ne (by omega)];exact at_second hM)
     have fz1:=h1.fz
     rw[swap_list hP hM]at h2
     have HO2:Hid (OwnP B (((wr.setCell ⟨b,p+i,none⟩ (pN y)).setCell ⟨b,m+i,none⟩ (pN x)).drew) b L cap (P++(V.take (i+1)++U.drop (i+1))++M++(U.take (i+1)++V.drop (i+1))++Q)):=by
       show OwnP _ _ _ _ _ _
       rw[HE2.out]
       exact h2.below (Below.drew (Below.refl _ _))
     have HB2:Hid (But (fun k=>k=b) w (((wr.setCell ⟨b,p+i,none⟩ (pN y)).setCell ⟨b,m+i,none⟩ (pN x)).drew)):=drew_but ((HB.out.trans (setP_but _ _ _ _) (fun _ h _=>h)).trans (setP_but _ _ _ _) (fun _ h _=>h))
     have a1:IntKind.i64.wrap ((p:Int)+(i:Int))=((p+i:Nat):Int):=by rw[IntWalk.i64_in _ (by omega)];omega
     have a2:IntKind.i64.wrap ((m:Int)+(i:Int))=((m+i:Nat):Int):=by rw[IntWalk.i64_in _ (by omega)];omega
     have g1:((p+i:Nat):Int)<(L:Int):=by omega
     have g2:((m+i:Nat):Int)<(L:Int):=by omega
     have g3:(0:Int)≤((p+i:Nat):Int):=by omega
     have g4:(0:Int)≤((m+i:Nat):Int):=by omega
     generalize p+i=pi at *
     generalize m+i=mi at *
     unfold pN at c1 c2 c3 h1 HO2 HB2 fz1
     clear HE2 e1 e2 h1 h2 ho hP hM HO HB
     go_upto_region 3 with fail
     go_region
     go_wp2
     go_roundw
     case rel=>exact ⟨i+1,by omega,by go_num,HO2.out,HB2.out⟩
     case measure=>simp [intOf];omega
   · obtain rfl:i=u:=by omega
     have HF:Hid (OwnP B wr b L cap (P++V++M++U++Q)):=by
       have h:=HO.out
       have h3:=HLN.out
       rw[List.take_of_length_le (by omega:V.length≤i),List.drop_eq_nil_of_le (by omega:U.length≤i),List.take_of_length_le (by omega:U.length≤i),List.drop_eq_nil_of_le (by omega:V.length≤i),List.append_nil,List.append_nil]at h
       exact h
     clear HO
     go_wp2
     go_end0
     exact⟨rfl,HF.out,HB.out⟩
structure RotI (B:Nat) (w W:World) (b L cap m:Nat) (U V:List Nat) (F:List Nat):Prop where
 ex:∃P Q,OwnP B W b L cap (P++U++V++Q)∧P.length+U.length=m∧P++V++U++Q=F
 but:But (fun k=>k=b) w W
theorem rot_more {B b L cap m:Nat} {w W:World} {U V F:List Nat} {cv:Value} (h:RotI B w W b L cap m U V F) (hij:V.length<U.length) (hL:L≤100000) :
   Calls Tryz.prog 190 #[.slice (some ⟨b,0,none⟩) L cap,.int .i64 ((m-U.length:Nat):Int),.int .i64 (m:Int),.int .i64 (V.length:Nat),cv] W fun e w'=>e= .returned (.tuple #[])∧RotI B w w' b L cap m (U.drop V.length) (U.take V.length) F:=by
 obtain⟨⟨P,Q,ho,hm,hF⟩,hb⟩:=h
 have hlt:(U.take V.length).length=V.length:=by rw[List.length_take];omega
 have hc:=swapR_any B b L cap P (U.take V.length) (U.drop V.length) V Q cv W hlt (by rw[List.append_assoc P,List.take_append_drop];exact ho) hL
 have e1:P.length=m-U.length:=by omega
 have e2:P.length+(U.take V.length).length+(U.drop V.length).length=m:=by rw[List.length_take,List.length_drop];omega
 rw[e2,e1,hlt]at hc
 refine hc.mono fun e w' ⟨he,ho',hb'⟩=>⟨he,⟨P++V,Q,ho',?_,?_⟩,hb.trans hb' (fun _ h _=>h)⟩
 · rw[List.length_append,List.length_drop];omega
 · rw[←hF,List.append_assoc (P++V),List.take_append_drop]
theorem rot_less {B b L cap m:Nat} {w W:World} {U V F:List Nat} {cv:Value} (h:RotI B w W b L cap m U V F) (hij:U.length<V.length) (hL:L≤100000) :
   Calls Tryz.prog 190 #[.slice (some ⟨b,0,none⟩) L cap,.int .i64 ((m-U.length:Nat):Int),.int .i64 ((m+V.length-U.length:Nat):Int),.int .i64 (U.length:Nat),cv] W fun e w'=>e= .returned (.tuple #[])∧RotI B w w' b L cap m (V.drop (V.length-U.length)) (V.take (V.length-U.length)) F:=by
 obtain⟨⟨P,Q,ho,hm,hF⟩,hb⟩:=h
 have hlt:U.length=(V.drop (V.length-U.length)).length:=by rw[List.length_drop];omega
 have hc:=swapR_any B b L cap P U (V.take (V.length-U.length)) (V.drop (V.length-U.length)) Q cv W hlt (by rw[List.append_assoc (P++U),List.take_append_drop];exact ho) hL
 have e1:P.length=m-U.length:=by omega
 have e2:P.length+U.length+(V.take (V.length-U.length)).length=m+V.length-U.length:=by rw[List.length_take];omega
 rw[e2,e1]at hc
 refine hc.mono fun e w' ⟨he,ho',hb'⟩=>⟨he,⟨P,U++Q,?_,?_,?_⟩,hb.trans hb' (fun _ h _=>h)⟩
 · have e3:P++V.drop (V.length-U.length)++V.take (V.length-U.length)++U++Q=P++V.drop (V.length-U.length)++V.take (V.length-U.length)++(U++Q):=by simp only[List.append_assoc]
   rw[←e3]
   exact ho'
 · rw[←hlt];exact hm
 · rw[←hF,List.append_assoc P,List.take_append_drop]
   simp only[List.append_assoc]
theorem rot_end {B b L cap m:Nat} {w W:World} {U V F:List Nat} {cv:Value} (h:RotI B w W b L cap m U V F) (hij:U.length=V.length) (hL:L≤100000) :
   Calls Tryz.prog 190 #[.slice (some ⟨b,0,none⟩) L cap,.int .i64 ((m-U.length:Nat):Int),.int .i64 (m:Int),.int .i64 (U.length:Nat),cv] W fun e w'=>e= .returned (.tuple #[])∧OwnP B w' b L cap F∧But (fun k=>k=b) w w':=by
 obtain⟨⟨P,Q,ho,hm,hF⟩,hb⟩:=h
 have hc:=swapR_any B b L cap P U [] V Q cv W hij (by rw[List.append_nil];exact ho) hL
 have e1:P.length=m-U.length:=by omega
 have e2:P.length+U.length+([]:List Nat).length=m:=by simp only[List.length_nil];omega
 rw[e2,e1]at hc
 refine hc.mono fun e w' ⟨he,ho',hb'⟩=>⟨he,?_,hb.trans hb' (fun _ h _=>h)⟩
 rw[List.append_nil,hF]at ho'
 exact ho'
set_option maxRecDepth 100000 in
set_option maxHeartbeats 4000000 in
theorem rotate_any (B b L cap:Nat) (P X Y Q:List Nat) (cv:Value) (w:World) (hX:0<X.length) (hY:0<Y.length) (ho:OwnP B w b L cap (P++X++Y++Q)) (hL:L≤100000) :
   Calls Tryz.prog 167 #[.slice (some ⟨b,0,none⟩) L cap,.int .i64 (P.length:Nat),.int .i64 ((P.length+X.length:Nat):Int),.int .i64 ((P.length+X.length+Y.length:Nat):Int),cv] w fun e w'=>e= .returned (.tuple #[])∧OwnP B w' b L cap (P++Y++X++Q)∧But (fun k=>k=b) w w':=by
 have hlen:=ho.len
 simp only[List.length_append]at hlen
 have HI:Hid (RotI B w w b L cap (P.length+X.length) X Y (P++Y++X++Q)):=⟨⟨P,Q,ho,rfl,rfl⟩,But.refl _ _⟩
 generalize P++Y++X++Q=F at HI ⊢
 have a1:IntKind.i64.wrap (((P.length+X.length:Nat):Int)-((P.length:Nat):Int))=((X.length:Nat):Int):=by rw[IntWalk.i64_in _ (by omega)];omega
 have a2:IntKind.i64.wrap (((P.length+X.length+Y.length:Nat):Int)-((P.length+X.length:Nat):Int))=((Y.length:Nat):Int):=by rw[IntWalk.i64_in _ (by omega)];omega
 obtain⟨m,hm⟩:∃m,P.length+X.length=m:=⟨_,rfl⟩
 have hmX:X.length≤m∧m+Y.length≤L:=by omega
 rw[hm]at HI a1 a2 ⊢
 have hmY:Y.length+m≤L:=by omega
 generalize m+Y.length=q at *
 generalize P.length=p at *
 obtain⟨x,hx⟩:∃x,X.length=x:=⟨_,rfl⟩
 obtain⟨y,hy⟩:∃y,Y.length=y:=⟨_,rfl⟩
 have HXY:Hid (X.length=x∧Y.length=y):=⟨hx,hy⟩
 rw[hx]at a1 hmX hX
 rw[hy]at a2 hY hmY
 clear ho hlen hm hx hy
 go_enter Tryz.func167,Tryz.ntmps167
 go_wp2
 go_loopw [10,11] (fun i j wr=> ∃U V:List Nat,0<U.length∧0<V.length∧U.length≤m∧m+V.length≤L∧i= .int .i64 (U.length:Nat)∧j= .int .i64 (V.length:Nat)∧RotI B w wr b L cap m U V F) (fun i j _=>(intOf i).toNat+(intOf j).toNat)
 case atStart=>exact ⟨X,Y,by rw[HXY.out.1];exact hX,by rw[HXY.out.2];exact hY,by rw[HXY.out.1];exact hmX.1,by rw[HXY.out.2];omega,by rw[HXY.out.1],by rw[HXY.out.2],HI.out⟩
 case round =>
   clear HI HXY a1 a2 hX hY hmX hmY
   obtain⟨U,V,hU,hV,hUm,hVm,rfl,rfl,hI⟩:=hrel
   have HI:Hid (RotI B w wr b L cap m U V F):=hI
   clear hI
   obtain⟨u,hu⟩:∃u,U.length=u:=⟨_,rfl⟩
   obtain⟨v,hv⟩:∃v,V.length=v:=⟨_,rfl⟩
   have HUV:Hid (U.length=u∧V.length=v):=⟨hu,hv⟩
   have a1:IntKind.i64.wrap ((m:Int)-((u:Nat):Int))=((m-u:Nat):Int):=by rw[IntWalk.i64_in _ (by omega)];omega
   rcases Nat.lt_trichotomy U.length V.length with h | h | h
   · have hc:=rot_less (cv:=cv) HI.out h hL
     rw[hu,hv]at hc
     have HN:Hid (∀w',RotI B w w' b L cap m (V.drop (v-u)) (V.take (v-u)) F→∃U V:List Nat,0<U.length∧0<V.length∧U.length≤m∧m+V.length≤L∧Value.int .i64 ((u:Nat):Int)= .int .i64 (U.length:Nat)∧Value.int .i64 ((v-u:Nat):Int)= .int .i64 (V.length:Nat)∧RotI B w w' b L cap m U V F):=fun w' hI=>by
       have e1:(V.drop (v-u)).length=u:=by rw[List.length_drop];omega
       have e2:(V.take (v-u)).length=v-u:=by rw[List.length_take];omega
       exact⟨_,_,by omega,by omega,by omega,by omega,by rw[e1],by rw[e2],hI⟩
     rw[hu]at h hU hUm ⊢
     rw[hv]at h hV hVm ⊢
     have hne:((u:Int) == (v:Int))=false:=by simp;omega
     have hng:¬(v:Int)<(u:Int):=by omega
     have a2:IntKind.i64.wrap ((m:Int)+(v:Int))=((m+v:Nat):Int):=by rw[IntWalk.i64_in _ (by omega)];omega
     have a3:IntKind.i64.wrap (((m+v:Nat):Int)-(u:Int))=((m+v-u:Nat):Int):=by rw[IntWalk.i64_in _ (by omega)];omega
     have a4:IntKind.i64.wrap ((v:Int)-(u:Int))=((v-u:Nat):Int):=by rw[IntWalk.i64_in _ (by omega)];omega
     clear hu hv HI HUV
     generalize m+v-u=q2 at *
     generalize m+v=q1 at *
     generalize m-u=q0 at *
     go_wp2_with fail
     refine hc.mono ?_
     rintro e w1 ⟨rfl,hI1⟩
     obtain⟨U2,V2,g1,g2,g3,g4,g5,g6,g7⟩:=HN.out w1 hI1
     have HR:Hid (0<U2.length∧0<V2.length∧U2.length≤m∧m+V2.length≤L∧Value.int .i64 ((u:Nat):Int)= .int .i64 (U2.length:Nat)∧Value.int .i64 ((v-u:Nat):Int)= .int .i64 (V2.length:Nat)∧RotI B w w1 b L cap m U2 V2 F):=⟨g1,g2,g3,g4,g5,g6,g7⟩
     clear hc hI1 HN g1 g2 g3 g4 g5 g6 g7
     go_wp2
     go_roundw
     case rel=>exact ⟨U2,V2,HR.out⟩
     case measure=>simp [intOf];omega
   · have hc:=rot_end (cv:=cv) HI.out h hL
     rw[hu]at hc
     rw[hu]at h hU hUm ⊢
     rw[hv]at h hV hVm ⊢
     subst h
     have hne:((u:Int) == (u:Int))=true:=by simp
     clear hu hv HI HUV
     generalize m-u=q0 at *
     go_wp2_with fail
     refine hc.mono ?_
     rintro e w1 ⟨rfl,ho1,hb1⟩
     have HF:Hid (OwnP B w1 b L cap F∧But (fun k=>k=b) w w1):=⟨ho1,hb1⟩
     clear hc ho1 hb1
     go_wp2
     go_end0
     exact⟨rfl,HF.out⟩
   · have hc:=rot_more (cv:=cv) HI.out h hL
     rw[hu,hv]at hc
     have HN:Hid (∀w',RotI B w w' b L cap m (U.drop v) (U.take v) F→∃U V:List Nat,0<U.length∧0<V.length∧U.length≤m∧m+V.length≤L∧Value.int .i64 ((u-v:Nat):Int)= .int .i64 (U.length:Nat)∧Value.int .i64 ((v:Nat):Int)= .int .i64 (V.length:Nat)∧RotI B w w' b L cap m U V F):=fun w' hI=>by
       have e1:(U.drop v).length=u-v:=by rw[List.length_drop];omega
       have e2:(U.take v).length=v:=by rw[List.length_take];omega
       exact⟨_,_,by omega,by omega,by omega,by omega,by rw[e1],by rw[e2],hI⟩
     rw[hu]at h hU hUm ⊢
     rw[hv]at h hV hVm ⊢
     have hne:((u:Int) == (v:Int))=false:=by simp;omega
     have hng:(v:Int)<(u:Int):=by omega
     have a4:IntKind.i64.wrap ((u:Int)-(v:Int))=((u-v:Nat):Int):=by rw[IntWalk.i64_in _ (by omega)];omega
     clear hu hv HI HUV
     generalize m-u=q0 at *
     go_wp2_with fail
     refine hc.mono ?_
     rintro e w1 ⟨rfl,hI1⟩
     obtain⟨U2,V2,g1,g2,g3,g4,g5,g6,g7⟩:=HN.out w1 hI1
     have HR:Hid (0<U2.length∧0<V2.length∧U2.length≤m∧m+V2.length≤L∧Value.int .i64 ((u-v:Nat):Int)= .int .i64 (U2.length:Nat)∧Value.int .i64 ((v:Nat):Int)= .int .i64 (V2.length:Nat)∧RotI B w w1 b L cap m U2 V2 F):=⟨g1,g2,g3,g4,g5,g6,g7⟩
     clear hc hI1 HN g1 g2 g3 g4 g5 g6 g7
     go_wp2
     go_roundw
     case rel=>exact ⟨U2,V2,HR.out⟩
     case measure=>simp [intOf];omega
def cvP:Value:=.func (.func 42) #[] #[]
def AskC (b:Nat) (kl:Nat→Nat→Bool) (D:List Nat) (w:World):Prop:= ∀x∈D,∀y∈D,∀W,But (fun k=>k=b) w W→Calls Tryz.prog 42 #[pN x,pN y] W fun e w'=> ∃z:Int,e= .returned (.int .i64 z)∧decide (z<0)=kl x y∧Below W.heap.size W w'
theorem AskC.but {b:Nat} {kl:Nat→Nat→Bool} {D:List Nat} {w w':World} (h:AskC b kl D w) (hb:But (fun k=>k=b) w w'):AskC b kl D w':=fun x hx y hy W hW=>h x hx y hy W (hb.trans hW (fun _ h _=>h))
theorem AskC.sub {b:Nat} {kl:Nat→Nat→Bool} {D D':List Nat} {w:World} (h:AskC b kl D w) (hs:∀x∈D',x∈D):AskC b kl D' w:=fun x hx y hy W hW=>h x (hs x hx) y (hs y hy) W hW
def Agree (kl:Nat→Nat→Bool) (lt:Nat→Nat→Prop) (x y:Nat):Prop:=(kl y x=true→lt y x)∧(kl y x=false→lt x y)
theorem ins_sorted {lt:Nat→Nat→Prop} {S1 S2:List Nat} {x:Nat} (hS:(S1++S2).Pairwise lt) (h2:∀s∈S2,lt x s) (h1:∀s∈S1,lt s x):(S1++x :: S2).Pairwise lt:=by
 rw[List.pairwise_append]at hS ⊢
 refine⟨hS.1,List.pairwise_cons.2 ⟨h2,hS.2.1⟩,fun a ha b hb=>?_⟩
 rcases List.mem_cons.1 hb with rfl | hb
 · exact h1 a ha
 · exact hS.2.2 a ha b hb
theorem all_last {lt:Nat→Nat→Prop} (hT:∀x y z,lt x y→lt y z→lt x z) {S:List Nat} {z x:Nat} (hS:(S++ [z]).Pairwise lt) (h:lt z x):∀s∈S++ [z],lt s x:=fun s hs=>by
 rw[List.pairwise_append]at hS
 rw[List.mem_append,List.mem_singleton]at hs
 rcases hs with hs | rfl
 · exact hT s z x (hS.2.2 s hs z (List.mem_singleton.2 rfl)) h
 · exact h
def SortP (B b L cap:Nat) (P X Q:List Nat) (lt:Nat→Nat→Prop) (w w':World):Prop:= ∃M:List Nat,M.Perm X∧M.Pairwise lt∧OwnP B w' b L cap (P++M++Q)∧But (fun k=>k=b) w w'
theorem swap_list2 {P Q:List Nat} {x z i j:Nat} (hi:i=P.length) (hj:j=P.length+1):((P++z :: x :: Q).set j z).set i x=P++x :: z :: Q:=by
 subst hi hj
 rw[List.set_append_right _ _ (by omega),List.set_append_right _ _ (Nat.le_refl _),Nat.sub_self,Nat.add_sub_cancel_left]
 rfl
set_option maxRecDepth 100000 in
set_option maxHeartbeats 8000000 in
theorem insert_any (B b L cap:Nat) (P X Q:List Nat) (kl:Nat→Nat→Bool) (lt:Nat→Nat→Prop) (hT:∀x y z,lt x y→lt y z→lt x z) (w:World) (ho:OwnP B w b L cap (P++X++Q)) (hask:AskC b kl X w) (hag:X.Pairwise (Agree kl lt)) (hL:L≤100000) :
   Calls Tryz.prog 136 #[.slice (some ⟨b,0,none⟩) L cap,.int .i64 (P.length:Nat),.int .i64 ((P.length+X.length:Nat):Int),cvP] w fun e w'=>e= .returned (.tuple #[])∧SortP B b L cap P X Q lt w w':=by
 have hlen:=ho.len
 simp only[List.length_append]at hlen
 unfold cvP
 have eg:∀args w,(callFunc 42 args).run Tryz.prog w= .ok (.enter 42 args) w:=enters_of Tryz.func42 (by kernel_rfl) rfl
 have HP:Hid (P.length+X.length≤L):=by show _≤_;omega
 obtain⟨p,hp⟩:∃p,P.length=p:=⟨_,rfl⟩
 obtain⟨q,hq⟩:∃q,P.length+X.length=q:=⟨_,rfl⟩
 have HPL:Hid (P.length=p∧P.length+X.length=q):=⟨hp,hq⟩
 have hqL:q≤L:=by omega
 have a1:IntKind.i64.wrap ((p:Int)+1)=((p+1:Nat):Int):=by rw[IntWalk.i64_in _ (by omega)];omega
 rw[hq,hp]
 clear hlen hp hq
 cases X with
 | nil =>
   have hpq:q=p:=by have:=HPL.out;simp only[List.length_nil]at this;omega
   have hno:¬((p+1:Nat):Int)<(q:Int):=by omega
   have HF:Hid (OwnP B w b L cap (P++ []++Q)):=ho
   clear ho hask hag HP HPL hpq
   go_enter Tryz.func136,Tryz.ntmps136
   go_wp2
   refine wp_loop_rounds 1 ?_
   rw[rounds_succ]
   go_wp2
   go_end0
   exact⟨rfl, [],List.Perm.refl _,List.Pairwise.nil,HF.out,But.refl _ _⟩
 | cons x0 X' =>
 have HAG:Hid ((x0 :: X').Pairwise (Agree kl lt)):=hag
 have HASK:Hid (AskC b kl (x0 :: X') w):=hask
 have HT:Hid (∀x y z,lt x y→lt y z→lt x z):=hT
 have HO:Hid (OwnP B w b L cap (P++ [x0]++X'++Q)):=by
   show OwnP _ _ _ _ _ _
   have e:P++ [x0]++X'++Q=P++(x0 :: X')++Q:=by simp
   rw[e]
   exact ho
 clear ho hask hag hT HP
 go_enter Tryz.func136,Tryz.ntmps136
 go_wp2
 go_loopw [8,9] (fun i _ wr=> ∃S X1 R:List Nat,x0 :: X'=X1++R∧S.Perm X1∧S.Pairwise lt∧i= .int .i64 ((p+S.length:Nat):Int)∧OwnP B wr b L cap (P++S++R++Q)∧But (fun k=>k=b) w wr) (fun i _ _=>q-(intOf i).toNat)
 case atStart=>exact ⟨[x0], [x0],X',rfl,List.Perm.refl _,List.pairwise_singleton _ _,rfl,HO.out,But.refl _ _⟩
 case round =>
 clear HO a1
 obtain⟨S,X1,R,hX,hS,hsr,rfl,ho,hb⟩:=hrel
 have HS:Hid (x0 :: X'=X1++R∧S.Perm X1∧S.Pairwise lt):=⟨hX,hS,hsr⟩
 have HO:Hid (OwnP B wr b L cap (P++S++R++Q)):=ho
 have HB:Hid (But (fun k=>k=b) w wr):=hb
 have hsl:S.length+R.length=q-p∧p≤q:=by
   have h1:=HPL.out
   have h2:=congrArg List.length hX
   have h3:=hS.length_eq
   rw[List.length_append]at h2
   omega
 clear hX hS hsr ho hb
 obtain⟨s,hs⟩:∃s,S.length=s:=⟨_,rfl⟩
 have HSL:Hid (S.length=s):=hs
 rw[hs]at hsl ⊢
 clear hs
 obtain⟨i,hi⟩:∃i,p+s=i:=⟨_,rfl⟩
 rw[hi]
 cases hR:R with
 | nil =>
   subst hR
   have hpq:i=q:=by simp only[List.length_nil]at hsl;omega
   have HF:Hid (SortP B b L cap P (x0 :: X') Q lt w wr):=by
     obtain⟨h1,h2,h3⟩:=HS.out
     rw[List.append_nil]at h1
     have h4:=HO.out
     rw[List.append_nil]at h4
     exact⟨S,h1▸h2,h3,h4,HB.out⟩
   have hno:¬(i:Int)<(q:Int):=by omega
   clear HS HO HB hsl hpq hi
   go_wp2
   go_end0
   exact⟨rfl,HF.out⟩
 | cons x R' =>
   subst hR
   have hlt:(i:Int)<(q:Int):=by simp only[List.length_cons]at hsl;omega
   have HO2:Hid (OwnP B wr b L cap (P++S++x :: ([]++R'++Q))):=by
     show OwnP _ _ _ _ _ _
     have e:P++S++x :: ([]++R'++Q)=P++S++x :: R'++Q:=by simp
     rw[e]
     exact HO.out
   clear HO
   have hps:i<q:=by omega
   have HI:Hid (p+s=i):=hi
   clear hi
   have hask2:=fun z (hz:z∈S) W (hW:But (fun k=>k=b) w W)=>HASK.out x (by rw[HS.out.1];simp) z (by rw[HS.out.1];exact List.mem_append.2 (Or.inl (HS.out.2.1.subset hz))) W hW
   have HAX:Hid (∀z∈S,(kl x z=true→lt x z)∧(kl x z=false→lt z x)):=fun z hz=>by
     have h:=HAG.out
     rw[HS.out.1,List.pairwise_append]at h
     exact h.2.2 z (HS.out.2.1.subset hz) x List.mem_cons_self
   have HASK2:Hid (∀z,z∈S→∀W,But (fun k=>k=b) w W→Calls Tryz.prog 42 #[pN x,pN z] W fun e w'=> ∃z2:Int,e= .returned (.int .i64 z2)∧decide (z2<0)=kl x z∧Below W.heap.size W w'):=hask2
   clear hask2
   go_upto_region 3 with fail
   go_wp2
   go_loopw [9] (fun j wx=> ∃S1 S2:List Nat,S=S1++S2∧(∀t∈S2,lt x t)∧j= .int .i64 ((p+S1.length:Nat):Int)∧OwnP B wx b L cap (P++S1++x :: (S2++R'++Q))∧But (fun k=>k=b) w wx) (fun j _=>(intOf j).toNat)
   case atStart=>exact ⟨S, [],by rw[List.append_nil],fun _ h=>absurd h (List.not_mem_nil),by rw[HSL.out,HI.out],HO2.out,HB.out⟩
   case round =>
   clear HO2 HB
   obtain⟨S1,S2,hSS,hS2,rfl,ho,hb⟩:=hrel
   have HSS:Hid (S=S1++S2∧∀t∈S2,lt x t):=⟨hSS,hS2⟩
   have HO:Hid (OwnP B wr b L cap (P++S1++x :: (S2++R'++Q))):=ho
   have HB:Hid (But (fun k=>k=b) w wr):=hb
   clear hSS hS2 ho hb
   have HX:Hid (∀W,OwnP B W b L cap (P++S1++x :: (S2++R'++Q))→But (fun k=>k=b) w W→(∀t∈S1,lt t x)→∃T X2 R2:List Nat,x0 :: X'=X2++R2∧T.Perm X2∧T.Pairwise lt∧Value.int .i64 ((i:Int)+1)= .int .i64 ((p+T.length:Nat):Int)∧OwnP B W b L cap (P++T++R2++Q)∧But (fun k=>k=b) w W):=fun W ho hb h1=>by
     obtain⟨g1,g2,g3⟩:=HS.out
     obtain⟨g4,g5⟩:=HSS.out
     have g6:S1.length+S2.length=s:=by rw[←HSL.out,g4,List.length_append]
     refine⟨S1++x :: S2,X1++ [x],R',?_,?_,?_,?_,?_,hb⟩
     · rw[g1];simp
     · have h2:(S1++x :: S2).Perm (x :: (S1++S2)):=List.perm_middle
       rw[←g4]at h2
       exact(h2.trans (g2.cons x)).trans (List.perm_append_comm (l₁:= [x]) (l₂:=X1))
     · rw[g4]at g3
       exact ins_sorted g3 g5 h1
     · congr 1
       rw[List.length_append,List.length_cons]
       have:=HI.out
       omega
     · have e:P++(S1++x :: S2)++R'++Q=P++S1++x :: (S2++R'++Q):=by simp
       rw[e]
       exact ho
   have a2:IntKind.i64.wrap ((i:Int)+1)=(i:Int)+1:=IntWalk.i64_in _ (by omega)
   rcases List.eq_nil_or_concat S1 with hS1 | ⟨S0,z,hS1⟩
   · subst hS1
     have hgd:decide ((p:Int)<(p:Int))=false:=by simp
     have HEX:Hid (∀k,∃T X2 R2:List Nat,x0 :: X'=X2++R2∧T.Perm X2∧T.Pairwise lt∧Value.int .i64 ((i:Int)+1)= .int .i64 ((p+T.length:Nat):Int)∧OwnP B (wr.drewN k) b L cap (P++T++R2++Q)∧But (fun k=>k=b) w (wr.drewN k)):=fun k=>HX.out _ (HO.out.below (below_drewN (Below.refl _ _) k)) (HB.out.trans (But.of_below (below_drewN (Below.refl _ _) k)) (fun _ h _=>h)) (fun _ h=>absurd h (List.not_mem_nil))
     rw[show p+([]:List Nat).length=p from rfl]
     clear HX HO HB HSS HAX HASK2 hlt
     go_upto_region 4 with fail
     go_quiet (fail)
     go_wp2
     go_roundw
     case rel=>exact HEX.out _
     case measure=>simp [intOf];omega
   · rw [List.concat_eq_append]at hS1
     have hk:S1.length=S0.length+1:=by rw[hS1];simp
     obtain⟨k,hk0⟩:∃k,p+S0.length=k:=⟨_,rfl⟩
     have hj:p+S1.length=k+1:=by omega
     have hkq:k+1<q:=by
       have h1:=congrArg List.length HSS.out.1
       rw[List.length_append,HSL.out]at h1
       have:=HI.out
       omega
     have hD:P++S1++x :: (S2++R'++Q)=(P++S0)++z :: x :: (S2++R'++Q):=by rw[hS1];simp
     have hPS:k=(P++S0).length:=by rw[List.length_append,HPL.out.1];exact hk0.symm
     have hzS:z∈S:=by rw[HSS.out.1,hS1];simp
     have ho:=HO.out
     rw[hD]at ho
     have c1:=ho.cell (at_first (P:=P++S0) (i:=k) hPS)
     have c2:=ho.cell (j:=k+1) (x:=x) (at_second (P:=P++S0) (M:= []) (by rw[List.length_nil];omega))
     have fz:=ho.fz
     have h1:=ho.set (k+1) z
     have h2:=h1.set k x
     have c3:=h1.cell (j:=k) (x:=z) (by rw[List.getElem?_set_ne (by omega)];exact at_first hPS)
     have fz1:=h1.fz
     rw[swap_list2 (i:=k) (j:=k+1) hPS (by omega)]at h2
     have hask:=fun W (hW:Below wr.heap.size wr W)=>HASK2.out z hzS W (HB.out.trans (But.of_below hW) (fun _ h _=>h))
     have hax:=HAX.out z hzS
     have HEX:Hid (∀W,Below wr.heap.size wr W→kl x z=false→∃T X2 R2:List Nat,x0 :: X'=X2++R2∧T.Perm X2∧T.Pairwise lt∧Value.int .i64 ((i:Int)+1)= .int .i64 ((p+T.length:Nat):Int)∧OwnP B W b L cap (P++T++R2++Q)∧But (fun k=>k=b) w W):=fun W hW hf=>HX.out W (HO.out.below hW) (HB.out.trans (But.of_below hW) (fun _ h _=>h)) (by
       have hsr:=HS.out.2.2
       rw[HSS.out.1,List.pairwise_append]at hsr
       rw[hS1]at hsr ⊢
       exact all_last HT.out hsr.1 (hax.2 hf))
     have HIN:Hid (∀W,Below wr.heap.size wr W→kl x z=true→∃T1 T2:List Nat,S=T1++T2∧(∀t∈T2,lt x t)∧Value.int .i64 (k:Int)= .int .i64 ((p+T1.length:Nat):Int)∧OwnP B (((W.setCell ⟨b,k+1,none⟩ (pN z)).setCell ⟨b,k,none⟩ (pN x)).drew) b L cap (P++T1++x :: (T2++R'++Q))∧But (fun k=>k=b) w (((W.setCell ⟨b,k+1,none⟩ (pN z)).setCell ⟨b,k,none⟩ (pN x)).drew)):=fun W hW ht=>by
       refine⟨S0,z :: S2,?_,fun t ht'=>?_,by rw[hk0],?_,drew_but (((HB.out.trans (But.of_below hW) (fun _ h _=>h)).trans (setP_but _ _ _ _) (fun _ h _=>h)).trans (setP_but _ _ _ _) (fun _ h _=>h))⟩
       · rw[HSS.out.1,hS1];simp
       · rcases List.mem_cons.1 ht' with rfl | ht'
         · exact hax.1 ht
         · exact HSS.out.2 t ht'
       · have g1:=HO.out.below hW
         rw[hD]at g1
         have g2:=(g1.set (k+1) z).set k x
         rw[swap_list2 (i:=k) (j:=k+1) hPS (by omega)]at g2
         have e:P++S0++x :: (z :: S2++R'++Q)=(P++S0)++x :: z :: (S2++R'++Q):=by simp
         rw[e]
         exact g2.below (Below.drew (Below.refl _ _))
     have HC:Hid (∀W,Below wr.heap.size wr W→W.cell? ⟨b,k,none⟩=some (pN z)∧W.cell? ⟨b,k+1,none⟩=some (pN x)∧(∀o,W.frozen? ⟨b,o,none⟩=false)∧(W.setCell ⟨b,k+1,none⟩ (pN z)).cell? ⟨b,k,none⟩=some (pN z)∧∀o,(W.setCell ⟨b,k+1,none⟩ (pN z)).frozen? ⟨b,o,none⟩=false):=fun W hW=>by
       have g1:=HO.out.below hW
       rw[hD]at g1
       have g2:=g1.set (k+1) z
       exact⟨g1.cell (at_first hPS),g1.cell (at_second (P:=P++S0) (M:= []) (by rw[List.length_nil];omega)),g1.fz,g2.cell (by rw[List.getElem?_set_ne (by omega)];exact at_first hPS),g2.fz⟩
     clear hax h1 h2 ho fz fz1 c1 c2 c3 HX HO HB HSS HAX HASK2 hD hPS hzS hk
     rw[hj]
     obtain⟨c1,c2,-,-,-⟩:=HC.out wr (Below.refl _ _)
     have hbs:Below wr.heap.size wr wr:=Below.refl _ _
     have a3:IntKind.i64.wrap (((k+1:Nat):Int)-1)=(k:Int):=by rw[IntWalk.i64_in _ (by omega)];omega
     have g1:((k+1:Nat):Int)<(L:Int):=by omega
     have g2:(k:Int)<(L:Int):=by omega
     have g3:(0:Int)≤((k+1:Nat):Int):=by omega
     have g4:(0:Int)≤(k:Int):=by omega
     have g5:(p:Int)<((k+1:Nat):Int):=by omega
     have hgd:decide ((p:Int)<((k+1:Nat):Int))=true:=decide_eq_true g5
     have hgn:decide (p<k+1)=true:=decide_eq_true (by omega)
     clear hj hk0 hS1 hkq
     have hkj:k<k+1:=Nat.lt_succ_self k
     generalize k+1=j at *
     unfold pN at c1 c2 hask HC HIN
     go_upto_region 4 with fail
     go_region_held3 (fun w'=>w'.cell? ⟨b,j,none⟩=some (.pointer (some ⟨x,0,none⟩))∧w'.cell? ⟨b,k,none⟩=some (.pointer (some ⟨z,0,none⟩))∧Below wr.heap.size wr w')
       (first
         | (go_split_ands;with_reducible exact⟨below_keep hbX (by assumption),below_keep hbX (by assumption),Below.trans (by assumption) (hbX.mono (Below.size (by assumption)))⟩)
         | (go_split_ands;exact⟨by go_keep,by go_keep,by assumption⟩)
         | (go_split_ands;exact⟨by go_keep,by go_keep,Below.drew (by assumption)⟩))
       (first
         | (go_at_call 42;(with_reducible refine(hask _ (by go_split_ands;assumption)).mono ?_);rintro e wX ⟨zc,rfl,hz,hbX⟩))
     all_goals go_split_ands
     have hbX2:Below wr.heap.size wr wX:=by assumption
     clear hask hbs c1 c2
     cases hkl:kl x z
     · rw[hkl]at hz
       have HE2:=HEX.out wX hbX2 hkl
       have HE3:Hid (∃T X2 R2:List Nat,x0 :: X'=X2++R2∧T.Perm X2∧T.Pairwise lt∧Value.int .i64 ((i:Int)+1)= .int .i64 ((p+T.length:Nat):Int)∧OwnP B wX b L cap (P++T++R2++Q)∧But (fun k=>k=b) w wX):=HE2
       clear HE2 HEX HIN HC hkl
       go_wp2
       go_roundw
       case rel=>exact HE3.out
       case measure=>simp [intOf];omega
     · rw[hkl]at hz
       obtain⟨d1,d2,fz,d3,fz1⟩:=HC.out wX hbX2
       have HE2:=HIN.out wX hbX2 hkl
       have HE3:Hid (∃T1 T2:List Nat,S=T1++T2∧(∀t∈T2,lt x t)∧Value.int .i64 (k:Int)= .int .i64 ((p+T1.length:Nat):Int)∧OwnP B (((wX.setCell ⟨b,j,none⟩ (.pointer (some ⟨z,0,none⟩))).setCell ⟨b,k,none⟩ (.pointer (some ⟨x,0,none⟩))).drew) b L cap (P++T1++x :: (T2++R'++Q))∧But (fun k=>k=b) w (((wX.setCell ⟨b,j,none⟩ (.pointer (some ⟨z,0,none⟩))).setCell ⟨b,k,none⟩ (.pointer (some ⟨x,0,none⟩))).drew)):=HE2
       clear HE2 HEX HIN HC hkl
       go_upto_region 6 with fail
       go_region
       go_wp2
       go_roundw
       case rel=>exact HE3.out
       case measure=>simp [intOf];omega
end Go.Proofs.YtgckdomafbnmkaaGreatDoor
