/- By an AI agent. -/
import Derived.Test.YtgckdomafbnmkaaGreatDoorPackPut
set_option maxRecDepth 100000
set_option maxHeartbeats 16000000
namespace Go.Proofs.YtgckdomafbnmkaaGreatDoor
open Go.RowKit Go.Extern.Stop Go.Stop Go.Extern Go.Sort Go.Shelf Go.Lib
def pN (x:Nat):Value:=.pointer (some ⟨x,0,none⟩)
def OwnP (B:Nat) (W:World) (b L cap:Nat) (D:List Nat):Prop:=W.ownsRow B 88 1 (.slice (some ⟨b,0,none⟩) L cap) L (D.map pN)
theorem OwnP.len {B:Nat} {W:World} {b L c:Nat} {D:List Nat} (h:OwnP B W b L c D):D.length=L:=by
 have:=h.1;rw[List.length_map]at this;omega
theorem OwnP.blk {B:Nat} {W:World} {b L c:Nat} {D:List Nat} (h:OwnP B W b L c D):∃cur,W.heap[b]? =some (.cells cur 88 (0,0))/\L<=c/\c<=maxLen/\cur.size=c/\cur.toList.take L=D.map pN/\B<=b:=by
 rcases h.2 with⟨d,_⟩|⟨g,f,cur,d,i,j,k,l,n,m⟩
 ·simp at d
 ·simp only[Value.slice.injEq,Option.some.injEq,Addr.mk.injEq]at d;obtain⟨⟨rfl,_⟩,_,rfl⟩:=d;exact⟨cur,j,k,l,by omega,by rw[<-m,Nat.mul_one],i⟩
theorem OwnP.of {B:Nat} {W:World} {b L c:Nat} {D:List Nat} {d:Array Value} (g:W.heap[b]? =some (.cells d 88 (0,0))) (i:L<=c) (j:c<=maxLen) (m:d.size=c) (f:d.toList.take L=D.map pN) (k:B<=b):OwnP B W b L c D:=by
 have l:D.length=L:=by
  have:=congrArg List.length f;rw[List.length_map,List.length_take,Array.length_toList]at this;omega
 exact⟨by rw[List.length_map];omega,Or.inr ⟨b,c,d,rfl,k,g,i,j,by omega,by rw[Nat.mul_one];exact f⟩⟩
theorem OwnP.but {P:Nat->Prop} {B:Nat} {W d:World} {b L c:Nat} {D:List Nat} (h:OwnP B W b L c D) (f:But P W d) (g:¬P b):OwnP B d b L c D:=za8 h f (fun k hk e=>g (by simp only[Value.ownBlock,Option.some.injEq]at hk;rw[hk];exact e))
theorem OwnP.below {B:Nat} {W d:World} {b L c:Nat} {D:List Nat} (h:OwnP B W b L c D) (f:BL W d):OwnP B d b L c D:=h.but (But.of_below (P:=fun _=>False) f) (fun h=>h)
theorem OwnP.cell {B:Nat} {W:World} {b L d:Nat} {D:List Nat} (h:OwnP B W b L d D) {j x:Nat} (f:D[j]? =some x):W.cell? ⟨b,j,none⟩=some (pN x):=by
 obtain⟨c,g,_,_,_,i,_⟩:=h.blk;have l:=h.len;have k:j<D.length:=(List.getElem?_eq_some_iff.1 f).1;rw[cell_of_row _ _ _ _ _ _ g];have e:(c.toList.take L)[j]? =(D.map pN)[j]? :=by rw[i]
 rw[List.getElem?_take,if_pos (by omega),Array.getElem?_toList,List.getElem?_map,f]at e;exact e
theorem OwnP.fz {B:Nat} {W:World} {b L c:Nat} {D:List Nat} (h:OwnP B W b L c D) (j:Nat):W.frozen? ⟨b,j,none⟩=false:=by
 obtain⟨f,d,_⟩:=h.blk;exact frozen_of_row _ _ _ _ _ d
theorem OwnP.set {B:Nat} {W:World} {b L c:Nat} {D:List Nat} (h:OwnP B W b L c D) (j x:Nat):OwnP B (W.setCell ⟨b,j,none⟩ (pN x)) b L c (D.set j x):=by
 obtain⟨d,g,i,k,l,m,n⟩:=h.blk;have f:(W.setCell ⟨b,j,none⟩ (pN x)).heap[b]? =some (.cells (d.setIfInBounds j (pN x)) 88 (0,0)):=heap_setCell_same _ _ _ _ _ _ g;refine OwnP.of f i k (by rw[Array.size_setIfInBounds];exact l) ?_ n;rw[Array.toList_setIfInBounds,List.map_set,<-m,List.take_set]
theorem zg3 (W:World) (b j:Nat) (v:Value):But (fun k=>k=b) W (W.setCell ⟨b,j,none⟩ v):=(But.refl (fun k=>k=b) W).setCell (Or.inl (Eq.refl b)) _
theorem zs6 {P:Nat->Prop} {W b:World} (h:But P W b):But P W b.drew:=h.trans (But.of_below (Below.drew (Below.refl _ _))) (fun _ h _=>h)
theorem za8v {P M Q:List Nat} {x y i j:Nat} (hi:i=P.length) (b:j=P.length+1+M.length):((P++x :: (M++y :: Q)).set i y).set j x=P++y :: (M++x :: Q):=by
 subst hi;rw[List.set_append_right _ _ (Nat.le_refl _),Nat.sub_self,List.set_cons_zero,List.set_append_right _ _ (by omega)];congr 1;have e:j-P.length=M.length+1:=by omega
 rw[e,List.set_cons_succ,List.set_append_right _ _ (Nat.le_refl _),Nat.sub_self,List.set_cons_zero]
theorem zd6 {P R:List Nat} {x i:Nat} (hi:i=P.length):(P++x :: R)[i]? =some x:=by
 subst hi;rw[List.getElem?_append_right (Nat.le_refl _),Nat.sub_self];rfl
theorem zi0 {P M Q:List Nat} {x y j:Nat} (b:j=P.length+1+M.length):(P++x :: (M++y :: Q))[j]? =some y:=by
 have e:P++x :: (M++y :: Q)=(P++x :: M)++y :: Q:=by simp
 rw[e];exact zd6 (by simp;omega)
theorem zc3k {P U M V Q:List Nat} {i:Nat} (b:i<U.length) (c:i<V.length):P++(V.take i++U.drop i)++M++(U.take i++V.drop i)++Q=(P++V.take i)++U[i] :: ((U.drop (i+1)++M++U.take i)++V[i] :: (V.drop (i+1)++Q))/\P++(V.take (i+1)++U.drop (i+1))++M++(U.take (i+1)++V.drop (i+1))++Q=(P++V.take i)++V[i] :: ((U.drop (i+1)++M++U.take i)++U[i] :: (V.drop (i+1)++Q)):=by
 constructor
 ·rw[List.drop_eq_getElem_cons b,List.drop_eq_getElem_cons c];simp only[List.append_assoc,List.cons_append]
 ·rw[List.take_succ_eq_append_getElem b,List.take_succ_eq_append_getElem c];simp only[List.append_assoc,List.cons_append,List.nil_append]
theorem za0y (B b L f:Nat) (P U M V Q:List Nat) (cv:Value) (w:World) (J:U.length=V.length) (c:OwnP B w b L f (P++U++M++V++Q)) (hL:L<=100000) :
  Calls Tryz.prog 190 #[.slice (some ⟨b,0,none⟩) L f,.int .i64 (P.length:Nat),.int .i64 ((P.length+U.length+M.length:Nat):Int),.int .i64 (U.length:Nat),cv] w fun e w'=>e= .returned (.tuple #[])/\OwnP B w' b L f (P++V++M++U++Q)/\But (fun k=>k=b) w w':=by
 have o:=c.len;simp only[List.length_append]at o;obtain⟨p,C⟩:∃p,P.length=p:=⟨_,rfl⟩;obtain⟨u,D⟩:∃u,U.length=u:=⟨_,rfl⟩;obtain⟨m,E⟩:∃m,P.length+U.length+M.length=m:=⟨_,rfl⟩;have d:Hid (P.length=p/\U.length=u/\V.length=u/\P.length+U.length+M.length=m):=⟨C,D,by omega,E⟩;have S:p+u<=m/\m+u<=L:=by omega
 have l:Hid (OwnP B w b L f (P++(V.take 0++U.drop 0)++M++(U.take 0++V.drop 0)++Q)):=by
  show OwnP _ _ _ _ _ _;simpa using c
 rw[E,C,D];clear c o J C D E
 go_enter Tryz.func190,Tryz.ntmps190
 go_wp2
 go_loopw [10] (fun k wr=> ∃i:Nat,i<=u/\k= .int .i64 i/\OwnP B wr b L f (P++(V.take i++U.drop i)++M++(U.take i++V.drop i)++Q)/\But (fun k=>k=b) w wr) (fun k _=>u-(intOf k).toNat)
 case atStart=>exact ⟨0,by omega,rfl,l.out,But.refl _ _⟩
 case round =>
  clear l;obtain⟨i,hi,rfl,c,G⟩:=hrel;have l:Hid (OwnP B wr b L f (P++(V.take i++U.drop i)++M++(U.take i++V.drop i)++Q)):=c;have v:Hid (But (fun k=>k=b) w wr):=G;clear c G;by_cases g:i<u
  ·obtain⟨H,I⟩:=zc3k (P:=P) (M:=M) (Q:=Q) (i:=i) (U:=U) (V:=V) (by rw[d.out.2.1];exact g) (by rw[d.out.2.2.1];exact g);have n:Hid (P++(V.take (i+1)++U.drop (i+1))++M++(U.take (i+1)++V.drop (i+1))++Q=(P++V.take i)++(V[i]'(by rw[d.out.2.2.1];exact g)) :: ((U.drop (i+1)++M++U.take i)++(U[i]'(by rw[d.out.2.1];exact g)) :: (V.drop (i+1)++Q))):=I;have c:=l.out;rw[H]at c;generalize V[i]'(by rw[d.out.2.2.1];exact g)=y at c n;generalize U[i]'(by rw[d.out.2.1];exact g)=x at c n;have z:(p+i:Nat)=(P++V.take i).length:=by
    have h:=d.out;rw[List.length_append,List.length_take];omega
   have r:(m+i:Nat)=(P++V.take i).length+1+(U.drop (i+1)++M++U.take i).length:=by
    have h:=d.out;simp only[List.length_append,List.length_take,List.length_drop];omega
   have K:=c.cell (zd6 (P:=P++V.take i) (i:=p+i) z);have N:=c.cell (zi0 (P:=P++V.take i) (j:=m+i) r);have T:=c.fz;have q:=c.set (p+i) y;have A:=q.set (m+i) x;have O:=q.cell (j:=m+i) (x:=y) (by rw[List.getElem?_set_ne (by omega)];exact zi0 r);have F:=q.fz;rw[za8v z r]at A;have s:Hid (OwnP B (((wr.setCell ⟨b,p+i,none⟩ (pN y)).setCell ⟨b,m+i,none⟩ (pN x)).drew) b L f (P++(V.take (i+1)++U.drop (i+1))++M++(U.take (i+1)++V.drop (i+1))++Q)):=by
    show OwnP _ _ _ _ _ _;rw[n.out];exact A.below (Below.drew (Below.refl _ _))
   have t:Hid (But (fun k=>k=b) w (((wr.setCell ⟨b,p+i,none⟩ (pN y)).setCell ⟨b,m+i,none⟩ (pN x)).drew)):=zs6 ((v.out.trans (zg3 _ _ _ _) (fun _ h _=>h)).trans (zg3 _ _ _ _) (fun _ h _=>h));have W:IntKind.i64.wrap ((p:Int)+(i:Int))=((p+i:Nat):Int):=by rw[IntWalk.i64_in _ (by omega)];omega
   have X:IntKind.i64.wrap ((m:Int)+(i:Int))=((m+i:Nat):Int):=by rw[IntWalk.i64_in _ (by omega)];omega
   have Y:((p+i:Nat):Int)<(L:Int):=by omega
   have Z:((m+i:Nat):Int)<(L:Int):=by omega
   have g3:(0:Int)<=((p+i:Nat):Int):=by omega
   have g4:(0:Int)<=((m+i:Nat):Int):=by omega
   generalize p+i=pi at *;generalize m+i=mi at *;unfold pN at K N O q s t F;clear n H I q A c z r l v
   go_upto_region 3 with fail
   go_region
   go_wp2;go_roundw
   case rel=>exact ⟨i+1,by omega,by go_num,s.out,t.out⟩
   case measure=>simp [intOf];omega
  ·obtain rfl:i=u:=by omega
   have R:Hid (OwnP B wr b L f (P++V++M++U++Q)):=by
    have h:=l.out;have h3:=d.out;rw[List.take_of_length_le (by omega:V.length<=i),List.drop_eq_nil_of_le (by omega:U.length<=i),List.take_of_length_le (by omega:U.length<=i),List.drop_eq_nil_of_le (by omega:V.length<=i),List.append_nil,List.append_nil]at h;exact h
   clear l;go_wp2;go_end0;exact⟨rfl,R.out,v.out⟩
structure RotI (B:Nat) (w W:World) (b L cap m:Nat) (U V:List Nat) (F:List Nat):Prop where
 ex:∃P Q,OwnP B W b L cap (P++U++V++Q)/\P.length+U.length=m/\P++V++U++Q=F
 but:But (fun k=>k=b) w W
theorem zc3l {B b L c m:Nat} {w W:World} {U V F:List Nat} {cv:Value} (h:RotI B w W b L c m U V F) (o:V.length<U.length) (n:L<=100000) :
  Calls Tryz.prog 190 #[.slice (some ⟨b,0,none⟩) L c,.int .i64 ((m-U.length:Nat):Int),.int .i64 (m:Int),.int .i64 (V.length:Nat),cv] W fun e w'=>e= .returned (.tuple #[])/\RotI B w w' b L c m (U.drop V.length) (U.take V.length) F:=by
 obtain⟨⟨P,Q,j,p,k⟩,l⟩:=h;have d:(U.take V.length).length=V.length:=by rw[List.length_take];omega
 have f:=za0y B b L c P (U.take V.length) (U.drop V.length) V Q cv W d (by rw[List.append_assoc P,List.take_append_drop];exact j) n;have g:P.length=m-U.length:=by omega
 have i:P.length+(U.take V.length).length+(U.drop V.length).length=m:=by rw[List.length_take,List.length_drop];omega
 rw[i,g,d]at f;refine f.mono fun e w' ⟨he,ho',hb'⟩=>⟨he,⟨P++V,Q,ho',?_,?_⟩,l.trans hb' (fun _ h _=>h)⟩
 ·rw[List.length_append,List.length_drop];omega
 ·rw[<-k,List.append_assoc (P++V),List.take_append_drop]
theorem zc3m {B b L c m:Nat} {w W:World} {U V F:List Nat} {cv:Value} (h:RotI B w W b L c m U V F) (q:U.length<V.length) (p:L<=100000) :
  Calls Tryz.prog 190 #[.slice (some ⟨b,0,none⟩) L c,.int .i64 ((m-U.length:Nat):Int),.int .i64 ((m+V.length-U.length:Nat):Int),.int .i64 (U.length:Nat),cv] W fun e w'=>e= .returned (.tuple #[])/\RotI B w w' b L c m (V.drop (V.length-U.length)) (V.take (V.length-U.length)) F:=by
 obtain⟨⟨P,Q,k,l,n⟩,o⟩:=h;have d:U.length=(V.drop (V.length-U.length)).length:=by rw[List.length_drop];omega
 have f:=za0y B b L c P U (V.take (V.length-U.length)) (V.drop (V.length-U.length)) Q cv W d (by rw[List.append_assoc (P++U),List.take_append_drop];exact k) p;have g:P.length=m-U.length:=by omega
 have i:P.length+U.length+(V.take (V.length-U.length)).length=m+V.length-U.length:=by rw[List.length_take];omega
 rw[i,g]at f;refine f.mono fun e w' ⟨he,ho',hb'⟩=>⟨he,⟨P,U++Q,?_,?_,?_⟩,o.trans hb' (fun _ h _=>h)⟩
 ·have j:P++V.drop (V.length-U.length)++V.take (V.length-U.length)++U++Q=P++V.drop (V.length-U.length)++V.take (V.length-U.length)++(U++Q):=by simp only[List.append_assoc]
  rw[<-j];exact ho'
 ·rw[<-d];exact l
 ·rw[<-n,List.append_assoc P,List.take_append_drop];simp only[List.append_assoc]
theorem zc3n {B b L c m:Nat} {w W:World} {U V F:List Nat} {cv:Value} (h:RotI B w W b L c m U V F) (f:U.length=V.length) (o:L<=100000) :
  Calls Tryz.prog 190 #[.slice (some ⟨b,0,none⟩) L c,.int .i64 ((m-U.length:Nat):Int),.int .i64 (m:Int),.int .i64 (U.length:Nat),cv] W fun e w'=>e= .returned (.tuple #[])/\OwnP B w' b L c F/\But (fun k=>k=b) w w':=by
 obtain⟨⟨P,Q,j,p,l⟩,n⟩:=h;have d:=za0y B b L c P U [] V Q cv W f (by rw[List.append_nil];exact j) o;have g:P.length=m-U.length:=by omega
 have i:P.length+U.length+([]:List Nat).length=m:=by simp only[List.length_nil];omega
 rw[i,g]at d;refine d.mono fun e w' ⟨he,ho',hb'⟩=>⟨he,?_,n.trans hb' (fun _ h _=>h)⟩;rw[List.append_nil,l]at ho';exact ho'
theorem zc3o (B b L c:Nat) (P X Y Q:List Nat) (cv:Value) (w:World) (hX:0<X.length) (hY:0<Y.length) (ho:OwnP B w b L c (P++X++Y++Q)) (hL:L<=100000) :
  Calls Tryz.prog 167 #[.slice (some ⟨b,0,none⟩) L c,.int .i64 (P.length:Nat),.int .i64 ((P.length+X.length:Nat):Int),.int .i64 ((P.length+X.length+Y.length:Nat):Int),cv] w fun e w'=>e= .returned (.tuple #[])/\OwnP B w' b L c (P++Y++X++Q)/\But (fun k=>k=b) w w':=by
 have A:=ho.len;simp only[List.length_append]at A;have d:Hid (RotI B w w b L c (P.length+X.length) X Y (P++Y++X++Q)):=⟨⟨P,Q,ho,rfl,rfl⟩,But.refl _ _⟩;generalize P++Y++X++Q=F at d ⊢;have S:IntKind.i64.wrap (((P.length+X.length:Nat):Int)-((P.length:Nat):Int))=((X.length:Nat):Int):=by rw[IntWalk.i64_in _ (by omega)];omega
 have T:IntKind.i64.wrap (((P.length+X.length+Y.length:Nat):Int)-((P.length+X.length:Nat):Int))=((Y.length:Nat):Int):=by rw[IntWalk.i64_in _ (by omega)];omega
 obtain⟨m,hm⟩:∃m,P.length+X.length=m:=⟨_,rfl⟩;have C:X.length<=m/\m+Y.length<=L:=by omega
 rw[hm]at d S T ⊢;have W:Y.length+m<=L:=by omega
 generalize m+Y.length=q at *;generalize P.length=p at *;obtain⟨x,hx⟩:∃x,X.length=x:=⟨_,rfl⟩;obtain⟨y,hy⟩:∃y,Y.length=y:=⟨_,rfl⟩;have f:Hid (X.length=x/\Y.length=y):=⟨hx,hy⟩;rw[hx]at S C hX;rw[hy]at T hY W;clear ho A hm hx hy
 go_enter Tryz.func167,Tryz.ntmps167
 go_wp2
 go_loopw [10,11] (fun i j wr=> ∃U V:List Nat,0<U.length/\0<V.length/\U.length<=m/\m+V.length<=L/\i= .int .i64 (U.length:Nat)/\j= .int .i64 (V.length:Nat)/\RotI B w wr b L c m U V F) (fun i j _=>(intOf i).toNat+(intOf j).toNat)
 case atStart=>exact ⟨X,Y,by rw[f.out.1];exact hX,by rw[f.out.2];exact hY,by rw[f.out.1];exact C.1,by rw[f.out.2];omega,by rw[f.out.1],by rw[f.out.2],d.out⟩
 case round =>
  clear d f S T hX hY C W;obtain⟨U,V,hU,hV,G,H,rfl,rfl,z⟩:=hrel;have d:Hid (RotI B w wr b L c m U V F):=z;clear z;obtain⟨u,o⟩:∃u,U.length=u:=⟨_,rfl⟩;obtain⟨v,r⟩:∃v,V.length=v:=⟨_,rfl⟩;have D:Hid (U.length=u/\V.length=v):=⟨o,r⟩;have S:IntKind.i64.wrap ((m:Int)-((u:Nat):Int))=((m-u:Nat):Int):=by rw[IntWalk.i64_in _ (by omega)];omega
  rcases Nat.lt_trichotomy U.length V.length with h | h | h
  ·have g:=zc3m (cv:=cv) d.out h hL;rw[o,r]at g;have E:Hid (∀w',RotI B w w' b L c m (V.drop (v-u)) (V.take (v-u)) F->∃U V:List Nat,0<U.length/\0<V.length/\U.length<=m/\m+V.length<=L/\Value.int .i64 ((u:Nat):Int)= .int .i64 (U.length:Nat)/\Value.int .i64 ((v-u:Nat):Int)= .int .i64 (V.length:Nat)/\RotI B w w' b L c m U V F):=fun w' z=>by
    have e1:(V.drop (v-u)).length=u:=by rw[List.length_drop];omega
    have e2:(V.take (v-u)).length=v-u:=by rw[List.length_take];omega
    exact⟨_,_,by omega,by omega,by omega,by omega,by rw[e1],by rw[e2],z⟩
   rw[o]at h hU G ⊢;rw[r]at h hV H ⊢;have Z:((u:Int) == (v:Int))=false:=by simp;omega
   have ac:¬(v:Int)<(u:Int):=by omega
   have T:IntKind.i64.wrap ((m:Int)+(v:Int))=((m+v:Nat):Int):=by rw[IntWalk.i64_in _ (by omega)];omega
   have a3:IntKind.i64.wrap (((m+v:Nat):Int)-(u:Int))=((m+v-u:Nat):Int):=by rw[IntWalk.i64_in _ (by omega)];omega
   have a4:IntKind.i64.wrap ((v:Int)-(u:Int))=((v-u:Nat):Int):=by rw[IntWalk.i64_in _ (by omega)];omega
   clear o r d D;generalize m+v-u=q2 at *;generalize m+v=q1 at *;generalize m-u=q0 at *
   go_wp2_with fail
   refine g.mono ?_;rintro e s ⟨rfl,t⟩;obtain⟨l,n,I,J,K,M,N,O,R⟩:=E.out s t;have HR:Hid (0<l.length/\0<n.length/\l.length<=m/\m+n.length<=L/\Value.int .i64 ((u:Nat):Int)= .int .i64 (l.length:Nat)/\Value.int .i64 ((v-u:Nat):Int)= .int .i64 (n.length:Nat)/\RotI B w s b L c m l n F):=⟨I,J,K,M,N,O,R⟩;clear g t E I J K M N O R;go_wp2;go_roundw
   case rel=>exact ⟨l,n,HR.out⟩
   case measure=>simp [intOf];omega
  ·have g:=zc3n (cv:=cv) d.out h hL;rw[o]at g;rw[o]at h hU G ⊢;rw[r]at h hV H ⊢;subst h;have Z:((u:Int) == (u:Int))=true:=by simp
   clear o r d D;generalize m-u=q0 at *
   go_wp2_with fail
   refine g.mono ?_;rintro e s ⟨rfl,aa,ab⟩;have HF:Hid (OwnP B s b L c F/\But (fun k=>k=b) w s):=⟨aa,ab⟩;clear g aa ab;go_wp2;go_end0;exact⟨rfl,HF.out⟩
  ·have g:=zc3l (cv:=cv) d.out h hL;rw[o,r]at g;have E:Hid (∀w',RotI B w w' b L c m (U.drop v) (U.take v) F->∃U V:List Nat,0<U.length/\0<V.length/\U.length<=m/\m+V.length<=L/\Value.int .i64 ((u-v:Nat):Int)= .int .i64 (U.length:Nat)/\Value.int .i64 ((v:Nat):Int)= .int .i64 (V.length:Nat)/\RotI B w w' b L c m U V F):=fun w' z=>by
    have e1:(U.drop v).length=u-v:=by rw[List.length_drop];omega
    have e2:(U.take v).length=v:=by rw[List.length_take];omega
    exact⟨_,_,by omega,by omega,by omega,by omega,by rw[e1],by rw[e2],z⟩
   rw[o]at h hU G ⊢;rw[r]at h hV H ⊢;have Z:((u:Int) == (v:Int))=false:=by simp;omega
   have ac:(v:Int)<(u:Int):=by omega
   have a4:IntKind.i64.wrap ((u:Int)-(v:Int))=((u-v:Nat):Int):=by rw[IntWalk.i64_in _ (by omega)];omega
   clear o r d D;generalize m-u=q0 at *
   go_wp2_with fail
   refine g.mono ?_;rintro e s ⟨rfl,t⟩;obtain⟨l,n,I,J,K,M,N,O,R⟩:=E.out s t;have HR:Hid (0<l.length/\0<n.length/\l.length<=m/\m+n.length<=L/\Value.int .i64 ((u-v:Nat):Int)= .int .i64 (l.length:Nat)/\Value.int .i64 ((v:Nat):Int)= .int .i64 (n.length:Nat)/\RotI B w s b L c m l n F):=⟨I,J,K,M,N,O,R⟩;clear g t E I J K M N O R;go_wp2;go_roundw
   case rel=>exact ⟨l,n,HR.out⟩
   case measure=>simp [intOf];omega
def cvP:Value:=.func (.func 42) #[] #[]
def AskC (b:Nat) (kl:Nat->Nat->Bool) (D:List Nat) (w:World):Prop:= ∀x∈D,∀y∈D,∀W,But (fun k=>k=b) w W->Calls Tryz.prog 42 #[pN x,pN y] W fun e w'=> ∃z:Int,e= .returned (.int .i64 z)/\decide (z<0)=kl x y/\BL W w'
theorem AskC.but {b:Nat} {c:Nat->Nat->Bool} {D:List Nat} {w w':World} (h:AskC b c D w) (d:But (fun k=>k=b) w w'):AskC b c D w':=fun x hx y hy W hW=>h x hx y hy W (d.trans hW (fun _ h _=>h))
theorem AskC.sub {b:Nat} {c:Nat->Nat->Bool} {D d:List Nat} {w:World} (h:AskC b c D w) (f:∀x∈d,x∈D):AskC b c d w:=fun x hx y hy W hW=>h x (f x hx) y (f y hy) W hW
def Agree (kl:Nat->Nat->Bool) (lt:Nat->Nat->Prop) (x y:Nat):Prop:=(kl y x=true->lt y x)/\(kl y x=false->lt x y)
theorem za0z {c:Nat->Nat->Prop} {S1 S2:List Nat} {x:Nat} (d:(S1++S2).Pairwise c) (g:∀s∈S2,c x s) (i:∀s∈S1,c s x):(S1++x :: S2).Pairwise c:=by
 rw[List.pairwise_append]at d ⊢;refine⟨d.1,List.pairwise_cons.2 ⟨g,d.2.1⟩,fun a ha b f=>?_⟩;rcases List.mem_cons.1 f with rfl | f
 ·exact i a ha
 ·exact d.2.2 a ha b f
theorem zc3p {b:Nat->Nat->Prop} (f:∀x y z,b x y->b y z->b x z) {S:List Nat} {z x:Nat} (d:(S++ [z]).Pairwise b) (h:b z x):∀s∈S++ [z],b s x:=fun s c=>by
 rw[List.pairwise_append]at d;rw[List.mem_append,List.mem_singleton]at c;rcases c with c | rfl
 ·exact f s z x (d.2.2 s c z (List.mem_singleton.2 rfl)) h
 ·exact h
def SortP (B b L cap:Nat) (P X Q:List Nat) (lt:Nat->Nat->Prop) (w w':World):Prop:= ∃M:List Nat,M.Perm X/\M.Pairwise lt/\OwnP B w' b L cap (P++M++Q)/\But (fun k=>k=b) w w'
theorem za1a {P Q:List Nat} {x z i j:Nat} (hi:i=P.length) (b:j=P.length+1):((P++z :: x :: Q).set j z).set i x=P++x :: z :: Q:=by
 subst hi b;rw[List.set_append_right _ _ (by omega),List.set_append_right _ _ (Nat.le_refl _),Nat.sub_self,Nat.add_sub_cancel_left];rfl
theorem za8w (B b L c:Nat) (P X Q:List Nat) (D:Nat->Nat->Bool) (d:Nat->Nat->Prop) (hT:∀x y z,d x y->d y z->d x z) (w:World) (f:OwnP B w b L c (P++X++Q)) (l:AskC b D X w) (an:X.Pairwise (Agree D d)) (hL:L<=100000) :
  Calls Tryz.prog 136 #[.slice (some ⟨b,0,none⟩) L c,.int .i64 (P.length:Nat),.int .i64 ((P.length+X.length:Nat):Int),cvP] w fun e w'=>e= .returned (.tuple #[])/\SortP B b L c P X Q d w w':=by
 have ad:=f.len;simp only[List.length_append]at ad;unfold cvP;have eg:∀args w,(callFunc 42 args).run Tryz.prog w= .ok (.enter 42 args) w:=enters_of Tryz.func42 (by kernel_rfl) rfl;have HP:Hid (P.length+X.length<=L):=by show _<=_;omega
 obtain⟨p,hp⟩:∃p,P.length=p:=⟨_,rfl⟩;obtain⟨q,hq⟩:∃q,P.length+X.length=q:=⟨_,rfl⟩;have Z:Hid (P.length=p/\P.length+X.length=q):=⟨hp,hq⟩;have a4:q<=L:=by omega
 have a1:IntKind.i64.wrap ((p:Int)+1)=((p+1:Nat):Int):=by rw[IntWalk.i64_in _ (by omega)];omega
 rw[hq,hp];clear ad hp hq
 cases X with
 | nil =>
  have ae:q=p:=by have:=Z.out;simp only[List.length_nil]at this;omega
  have av:¬((p+1:Nat):Int)<(q:Int):=by omega
  have HF:Hid (OwnP B w b L c (P++ []++Q)):=f;clear f l an HP Z ae
  go_enter Tryz.func136,Tryz.ntmps136
  go_wp2;refine wp_loop_rounds 1 ?_;rw[rounds_succ];go_wp2;go_end0;exact⟨rfl, [],List.Perm.refl _,List.Pairwise.nil,HF.out,But.refl _ _⟩
 | cons x0 X' =>
 have aw:Hid ((x0 :: X').Pairwise (Agree D d)):=an;have au:Hid (AskC b D (x0 :: X') w):=l;have HT:Hid (∀x y z,d x y->d y z->d x z):=hT;have g:Hid (OwnP B w b L c (P++ [x0]++X'++Q)):=by
  show OwnP _ _ _ _ _ _;have e:P++ [x0]++X'++Q=P++(x0 :: X')++Q:=by simp
  rw[e];exact f
 clear f l an hT HP
 go_enter Tryz.func136,Tryz.ntmps136
 go_wp2
 go_loopw [8,9] (fun i _ wr=> ∃S V R:List Nat,x0 :: X'=V++R/\S.Perm V/\S.Pairwise d/\i= .int .i64 ((p+S.length:Nat):Int)/\OwnP B wr b L c (P++S++R++Q)/\But (fun k=>k=b) w wr) (fun i _ _=>q-(intOf i).toNat)
 case atStart=>exact ⟨[x0], [x0],X',rfl,List.Perm.refl _,List.pairwise_singleton _ _,rfl,g.out,But.refl _ _⟩
 case round =>
 clear g a1;obtain⟨S,V,R,hX,hS,E,rfl,f,Y⟩:=hrel;have G:Hid (x0 :: X'=V++R/\S.Perm V/\S.Pairwise d):=⟨hX,hS,E⟩;have g:Hid (OwnP B wr b L c (P++S++R++Q)):=f;have u:Hid (But (fun k=>k=b) w wr):=Y;have aa:S.length+R.length=q-p/\p<=q:=by
  have r:=Z.out;have H:=congrArg List.length hX;have h3:=hS.length_eq;rw[List.length_append]at H;omega
 clear hX hS E f Y;obtain⟨s,hs⟩:∃s,S.length=s:=⟨_,rfl⟩;have af:Hid (S.length=s):=hs;rw[hs]at aa ⊢;clear hs;obtain⟨i,hi⟩:∃i,p+s=i:=⟨_,rfl⟩;rw[hi]
 cases hR:R with
 | nil =>
  subst hR;have ae:i=q:=by simp only[List.length_nil]at aa;omega
  have HF:Hid (SortP B b L c P (x0 :: X') Q d w wr):=by
   obtain⟨r,H,h3⟩:=G.out;rw[List.append_nil]at r;have h4:=g.out;rw[List.append_nil]at h4;exact⟨S,r▸H,h3,h4,u.out⟩
  have av:¬(i:Int)<(q:Int):=by omega
  clear G g u aa ae hi;go_wp2;go_end0;exact⟨rfl,HF.out⟩
 | cons x R' =>
  subst hR;have ax:(i:Int)<(q:Int):=by simp only[List.length_cons]at aa;omega
  have ao:Hid (OwnP B wr b L c (P++S++x :: ([]++R'++Q))):=by
   show OwnP _ _ _ _ _ _;have e:P++S++x :: ([]++R'++Q)=P++S++x :: R'++Q:=by simp
   rw[e];exact g.out
  clear g;have a5:i<q:=by omega
  have HI:Hid (p+s=i):=hi;clear hi;have ab:=fun z (hz:z∈S) W (hW:But (fun k=>k=b) w W)=>au.out x (by rw[G.out.1];simp) z (by rw[G.out.1];exact List.mem_append.2 (Or.inl (G.out.2.1.subset hz))) W hW;have ag:Hid (∀z∈S,(D x z=true->d x z)/\(D x z=false->d z x)):=fun z hz=>by
   have h:=aw.out;rw[G.out.1,List.pairwise_append]at h;exact h.2.2 z (G.out.2.1.subset hz) x List.mem_cons_self
  have I:Hid (∀z,z∈S->∀W,But (fun k=>k=b) w W->Calls Tryz.prog 42 #[pN x,pN z] W fun e w'=> ∃z2:Int,e= .returned (.int .i64 z2)/\decide (z2<0)=D x z/\BL W w'):=ab;clear ab
  go_upto_region 3 with fail
  go_wp2
  go_loopw [9] (fun j wx=> ∃S1 S2:List Nat,S=S1++S2/\(∀t∈S2,d x t)/\j= .int .i64 ((p+S1.length:Nat):Int)/\OwnP B wx b L c (P++S1++x :: (S2++R'++Q))/\But (fun k=>k=b) w wx) (fun j _=>(intOf j).toNat)
  case atStart=>exact ⟨S, [],by rw[List.append_nil],fun _ h=>absurd h (List.not_mem_nil),by rw[af.out,HI.out],ao.out,u.out⟩
  case round =>
  clear ao u;obtain⟨S1,S2,aq,ar,rfl,f,Y⟩:=hrel;have n:Hid (S=S1++S2/\∀t∈S2,d x t):=⟨aq,ar⟩;have g:Hid (OwnP B wr b L c (P++S1++x :: (S2++R'++Q))):=f;have u:Hid (But (fun k=>k=b) w wr):=Y;clear aq ar f Y;have HX:Hid (∀W,OwnP B W b L c (P++S1++x :: (S2++R'++Q))->But (fun k=>k=b) w W->(∀t∈S1,d t x)->∃T X2 R2:List Nat,x0 :: X'=X2++R2/\T.Perm X2/\T.Pairwise d/\Value.int .i64 ((i:Int)+1)= .int .i64 ((p+T.length:Nat):Int)/\OwnP B W b L c (P++T++R2++Q)/\But (fun k=>k=b) w W):=fun W f Y r=>by
   obtain⟨A,K,g3⟩:=G.out;obtain⟨g4,g5⟩:=n.out;have g6:S1.length+S2.length=s:=by rw[<-af.out,g4,List.length_append]
   refine⟨S1++x :: S2,V++ [x],R',?_,?_,?_,?_,?_,Y⟩
   ·rw[A];simp
   ·have H:(S1++x :: S2).Perm (x :: (S1++S2)):=List.perm_middle;rw[<-g4]at H;exact(H.trans (K.cons x)).trans (List.perm_append_comm (l₁:= [x]) (l₂:=V))
   ·rw[g4]at g3;exact za0z g3 g5 r
   ·congr 1;rw[List.length_append,List.length_cons];have:=HI.out;omega
   ·have e:P++(S1++x :: S2)++R'++Q=P++S1++x :: (S2++R'++Q):=by simp
    rw[e];exact f
  have a2:IntKind.i64.wrap ((i:Int)+1)=(i:Int)+1:=IntWalk.i64_in _ (by omega);rcases List.eq_nil_or_concat S1 with m | ⟨C,z,m⟩
  ·subst m;have ay:decide ((p:Int)<(p:Int))=false:=by simp
   have J:Hid (∀k,∃T X2 R2:List Nat,x0 :: X'=X2++R2/\T.Perm X2/\T.Pairwise d/\Value.int .i64 ((i:Int)+1)= .int .i64 ((p+T.length:Nat):Int)/\OwnP B (wr.drewN k) b L c (P++T++R2++Q)/\But (fun k=>k=b) w (wr.drewN k)):=fun k=>HX.out _ (g.out.below (za4 (Below.refl _ _) k)) (u.out.trans (But.of_below (za4 (Below.refl _ _) k)) (fun _ h _=>h)) (fun _ h=>absurd h (List.not_mem_nil));rw[show p+([]:List Nat).length=p from rfl];clear HX g u n ag I ax
   go_upto_region 4 with fail
   go_quiet (fail)
   go_wp2;go_roundw
   case rel=>exact J.out _
   case measure=>simp [intOf];omega
  ·rw[List.concat_eq_append]at m;have hk:S1.length=C.length+1:=by rw[m];simp
   obtain⟨k,ak⟩:∃k,p+C.length=k:=⟨_,rfl⟩;have hj:p+S1.length=k+1:=by omega
   have az:k+1<q:=by
    have r:=congrArg List.length n.out.1;rw[List.length_append,af.out]at r;have:=HI.out;omega
   have hD:P++S1++x :: (S2++R'++Q)=(P++C)++z :: x :: (S2++R'++Q):=by rw[m];simp
   have v:k=(P++C).length:=by rw[List.length_append,Z.out.1];exact ak.symm
   have ah:z∈S:=by rw[n.out.1,m];simp
   have f:=g.out;rw[hD]at f;have c1:=f.cell (zd6 (P:=P++C) (i:=k) v);have c2:=f.cell (j:=k+1) (x:=x) (zi0 (P:=P++C) (M:= []) (by rw[List.length_nil];omega));have fz:=f.fz;have r:=f.set (k+1) z;have H:=r.set k x;have c3:=r.cell (j:=k) (x:=z) (by rw[List.getElem?_set_ne (by omega)];exact zd6 v);have ap:=r.fz;rw[za1a (i:=k) (j:=k+1) v (by omega)]at H;have l:=fun W (hW:BL wr W)=>I.out z ah W (u.out.trans (But.of_below hW) (fun _ h _=>h));have ai:=ag.out z ah;have J:Hid (∀W,BL wr W->D x z=false->∃T X2 R2:List Nat,x0 :: X'=X2++R2/\T.Perm X2/\T.Pairwise d/\Value.int .i64 ((i:Int)+1)= .int .i64 ((p+T.length:Nat):Int)/\OwnP B W b L c (P++T++R2++Q)/\But (fun k=>k=b) w W):=fun W hW hf=>HX.out W (g.out.below hW) (u.out.trans (But.of_below hW) (fun _ h _=>h)) (by
    have E:=G.out.2.2;rw[n.out.1,List.pairwise_append]at E;rw[m]at E ⊢;exact zc3p HT.out E.1 (ai.2 hf))
   have ac:Hid (∀W,BL wr W->D x z=true->∃T1 T2:List Nat,S=T1++T2/\(∀t∈T2,d x t)/\Value.int .i64 (k:Int)= .int .i64 ((p+T1.length:Nat):Int)/\OwnP B (((W.setCell ⟨b,k+1,none⟩ (pN z)).setCell ⟨b,k,none⟩ (pN x)).drew) b L c (P++T1++x :: (T2++R'++Q))/\But (fun k=>k=b) w (((W.setCell ⟨b,k+1,none⟩ (pN z)).setCell ⟨b,k,none⟩ (pN x)).drew)):=fun W hW ht=>by
    refine⟨C,z :: S2,?_,fun t am=>?_,by rw[ak],?_,zs6 (((u.out.trans (But.of_below hW) (fun _ h _=>h)).trans (zg3 _ _ _ _) (fun _ h _=>h)).trans (zg3 _ _ _ _) (fun _ h _=>h))⟩
    ·rw[n.out.1,m];simp
    ·rcases List.mem_cons.1 am with rfl | am
     ·exact ai.1 ht
     ·exact n.out.2 t am
    ·have A:=g.out.below hW;rw[hD]at A;have K:=(A.set (k+1) z).set k x;rw[za1a (i:=k) (j:=k+1) v (by omega)]at K;have e:P++C++x :: (z :: S2++R'++Q)=(P++C)++x :: z :: (S2++R'++Q):=by simp
     rw[e];exact K.below (Below.drew (Below.refl _ _))
   have HC:Hid (∀W,BL wr W->W.cell? ⟨b,k,none⟩=some (pN z)/\W.cell? ⟨b,k+1,none⟩=some (pN x)/\(∀o,W.frozen? ⟨b,o,none⟩=false)/\(W.setCell ⟨b,k+1,none⟩ (pN z)).cell? ⟨b,k,none⟩=some (pN z)/\∀o,(W.setCell ⟨b,k+1,none⟩ (pN z)).frozen? ⟨b,o,none⟩=false):=fun W hW=>by
    have A:=g.out.below hW;rw[hD]at A;have K:=A.set (k+1) z;exact⟨A.cell (zd6 v),A.cell (zi0 (P:=P++C) (M:= []) (by rw[List.length_nil];omega)),A.fz,K.cell (by rw[List.getElem?_set_ne (by omega)];exact zd6 v),K.fz⟩
   clear ai r H f fz ap c1 c2 c3 HX g u n ag I hD v ah hk;rw[hj];obtain⟨c1,c2,-,-,-⟩:=HC.out wr (Below.refl _ _);have a0:BL wr wr:=Below.refl _ _;have a3:IntKind.i64.wrap (((k+1:Nat):Int)-1)=(k:Int):=by rw[IntWalk.i64_in _ (by omega)];omega
   have A:((k+1:Nat):Int)<(L:Int):=by omega
   have K:(k:Int)<(L:Int):=by omega
   have g3:(0:Int)<=((k+1:Nat):Int):=by omega
   have g4:(0:Int)<=(k:Int):=by omega
   have g5:(p:Int)<((k+1:Nat):Int):=by omega
   have ay:decide ((p:Int)<((k+1:Nat):Int))=true:=decide_eq_true g5;have a6:decide (p<k+1)=true:=decide_eq_true (by omega);clear hj ak m az;have a7:k<k+1:=Nat.lt_succ_self k;generalize k+1=j at *;unfold pN at c1 c2 l HC ac
   go_upto_region 4 with fail
   go_region_held3 (fun w'=>w'.cell? ⟨b,j,none⟩=some (.pointer (some ⟨x,0,none⟩))/\w'.cell? ⟨b,k,none⟩=some (.pointer (some ⟨z,0,none⟩))/\BL wr w')
    (first
     | (go_split_ands;with_reducible exact⟨za0 al (by assumption),za0 al (by assumption),Below.trans (by assumption) (al.mono (Below.size (by assumption)))⟩)
     | (go_split_ands;exact⟨by go_keep,by go_keep,by assumption⟩)
     | (go_split_ands;exact⟨by go_keep,by go_keep,Below.drew (by assumption)⟩))
    (first
     | (go_at_call 42;(with_reducible refine(l _ (by go_split_ands;assumption)).mono ?_);rintro e O ⟨zc,rfl,hz,al⟩))
   all_goals go_split_ands
   have U:BL wr O:=by assumption
   clear l a0 c1 c2;cases F:D x z
   ·rw[F]at hz;have N:=J.out O U F;have aj:Hid (∃T X2 R2:List Nat,x0 :: X'=X2++R2/\T.Perm X2/\T.Pairwise d/\Value.int .i64 ((i:Int)+1)= .int .i64 ((p+T.length:Nat):Int)/\OwnP B O b L c (P++T++R2++Q)/\But (fun k=>k=b) w O):=N;clear N J ac HC F;go_wp2;go_roundw
    case rel=>exact aj.out
    case measure=>simp [intOf];omega
   ·rw[F]at hz;obtain⟨d1,d2,fz,d3,ap⟩:=HC.out O U;have N:=ac.out O U F;have aj:Hid (∃T1 T2:List Nat,S=T1++T2/\(∀t∈T2,d x t)/\Value.int .i64 (k:Int)= .int .i64 ((p+T1.length:Nat):Int)/\OwnP B (((O.setCell ⟨b,j,none⟩ (.pointer (some ⟨z,0,none⟩))).setCell ⟨b,k,none⟩ (.pointer (some ⟨x,0,none⟩))).drew) b L c (P++T1++x :: (T2++R'++Q))/\But (fun k=>k=b) w (((O.setCell ⟨b,j,none⟩ (.pointer (some ⟨z,0,none⟩))).setCell ⟨b,k,none⟩ (.pointer (some ⟨x,0,none⟩))).drew)):=N;clear N J ac HC F
    go_upto_region 6 with fail
    go_region
    go_wp2;go_roundw
    case rel=>exact aj.out
    case measure=>simp [intOf];omega
theorem za8x {b:Nat->Nat->Prop} (d:∀x y z,b x y->b y z->b x z) {Y:List Nat} (f:Y.Pairwise b) {s x:Nat} (i:s<=Y.length) (h:∀h:0<s,b (Y[s-1]'(by omega)) x):∀y∈Y.take s,b y x:=fun y hy=>by
 obtain⟨j,g,rfl⟩:=List.mem_take_iff_getElem.1 hy;have c:=h (by omega);by_cases e:j=s-1
 ·subst e;exact c
 ·exact d _ _ _ (List.pairwise_iff_getElem.1 f j (s-1) (by omega) (by omega) (by omega)) c
theorem za8y {b:Nat->Nat->Prop} (d:∀x y z,b x y->b y z->b x z) {Y:List Nat} (f:Y.Pairwise b) {s x:Nat} (h:∀h:s<Y.length,b x Y[s]):∀y∈Y.drop s,b x y:=fun y hy=>by
 obtain⟨j,g,rfl⟩:=List.mem_drop_iff_getElem.1 hy;have c:=h (by omega);by_cases e:j=0
 ·subst e;simpa using c
 ·exact d _ _ _ c (List.pairwise_iff_getElem.1 f s (s+j) (by omega) (by omega) (by omega))
theorem zc3q (B b L o:Nat) (d:Nat->Nat->Bool) (l:Nat->Nat->Prop) (hT:∀x y z,l x y->l y z->l x z) (hL:L<=100000) (P Y Q:List Nat) (x:Nat) (w:World) (au:0<Y.length) (f:OwnP B w b L o (P++ [x]++Y++Q)) (n:AskC b d (x :: Y) w) (aj:Y.Pairwise l) (ak:∀y∈Y,Agree d l x y) :
  Calls Tryz.prog 137 #[.slice (some ⟨b,0,none⟩) L o,.int .i64 (P.length:Nat),.int .i64 ((P.length+1:Nat):Int),.int .i64 ((P.length+1+Y.length:Nat):Int),cvP] w fun e w'=>e= .returned (.tuple #[])/\SortP B b L o P (x :: Y) Q l w w':=by
 have K:=f.len;simp only[List.length_append,List.length_singleton]at K;unfold cvP;have eg:∀args w,(callFunc 42 args).run Tryz.prog w= .ok (.enter 42 args) w:=enters_of Tryz.func42 (by kernel_rfl) rfl;obtain⟨p,hp⟩:∃p,P.length=p:=⟨_,rfl⟩;obtain⟨m,hm⟩:∃m,P.length+1=m:=⟨_,rfl⟩;obtain⟨q,hq⟩:∃q,m+Y.length=q:=⟨_,rfl⟩;have H:Hid (P.length=p/\P.length+1=m/\m+Y.length=q):=⟨hp,hm,hq⟩;have aw:p+1=m/\m<q/\q<=L:=by omega
 rw[hm,hq,hp];have a0:IntKind.i64.wrap ((m:Int)-(p:Int))=1:=by rw[IntWalk.i64_in _ (by omega)];omega
 have ab:Hid (∀W,BL w W->W.cell? ⟨b,p,none⟩=some (pN x)):=fun W hW=>(f.below hW).cell (by
  have e:P++ [x]++Y++Q=P++x :: (Y++Q):=by simp
  rw[e];exact zd6 hp.symm)
 have ac:Hid (∀W,BL w W->∀c (h:c<Y.length),W.cell? ⟨b,m+c,none⟩=some (pN Y[c])):=fun W hW c hc=>(f.below hW).cell (by
  rw[List.append_assoc (P++ [x]),List.getElem?_append_right (by simp;omega)];have e:m+c-(P++ [x]).length=c:=by simp;omega
  rw[e,List.getElem?_append_left hc,List.getElem?_eq_getElem hc])
 have N:Hid (∀W,BL w W->∀c (h:c<Y.length),Calls Tryz.prog 42 #[pN Y[c],pN x] W fun e w'=> ∃z:Int,e= .returned (.int .i64 z)/\decide (z<0)=d Y[c] x/\BL W w'):=fun W hW c hc=>n Y[c] (List.mem_cons_of_mem _ (List.getElem_mem _)) x List.mem_cons_self W (But.of_below hW);have G:Hid (OwnP B w b L o (P++ [x]++Y++Q)):=f;have I:Hid (Y.Pairwise l):=aj;have O:Hid (∀y∈Y,Agree d l x y):=ak;have HT:Hid (∀x y z,l x y->l y z->l x z):=hT;clear f n aj ak hT K hp hm hq au
 go_enter Tryz.func137,Tryz.ntmps137
 go_upto_region 3 with fail
 go_loopw [10,11,12] (fun i j _ wr=> ∃s t:Nat,s<=t/\m+t<=q/\i= .int .i64 ((m+s:Nat):Int)/\j= .int .i64 ((m+t:Nat):Int)/\(∀(r:0<s) (D:s-1<Y.length),d Y[s-1] x=true)/\(∀h:t<Y.length,d Y[t] x=false)/\BL w wr) (fun i j _ _=>(intOf j).toNat-(intOf i).toNat)
 case atStart=>exact ⟨0,q-m,by omega,by omega,rfl,by congr 2;omega,fun h=>absurd h (Nat.lt_irrefl _),fun h=>by have:=H.out;omega,Below.refl _ _⟩
 case round =>
 clear a0;obtain⟨s,t,ai,ar,rfl,rfl,hs,ht,A⟩:=hrel;have E:Hid ((∀(r:0<s) (D:s-1<Y.length),d Y[s-1] x=true)/\(∀h:t<Y.length,d Y[t] x=false)):=⟨hs,ht⟩;clear hs ht;obtain⟨i,hi⟩:∃i,m+s=i:=⟨_,rfl⟩;obtain⟨j,hj⟩:∃j,m+t=j:=⟨_,rfl⟩;have F:Hid (m+s=i/\m+t=j):=⟨hi,hj⟩;have ax:i<=j/\j<=q/\m<=i:=by omega
 rw[hi,hj];clear hi hj ar;by_cases ay:i<j
 case pos =>
  have R:(i:Int)<(j:Int):=by omega
  have a1:IntKind.i64.wrap ((i:Int)+(j:Int))=(i:Int)+(j:Int):=IntWalk.i64_in _ (by omega);obtain⟨c,hc⟩:∃c,(i+j) / 2=m+c:=⟨(i+j) / 2-m,by omega⟩;obtain⟨h,hh⟩:∃h,m+c=h:=⟨_,rfl⟩;have am:i<=h/\h<j:=by omega
  have u:c<Y.length:=by have:=H.out;omega
  have a2:((i:Int)+(j:Int)) / 2=(h:Int):=by omega
  have HH:Hid (m+c=h):=hh;have cy:=ac.out wr A c u;have cx:=ab.out wr A;have n:=fun W (hW:BL wr W)=>N.out W (trB A hW) c u;have S:Hid (∀W,BL wr W->(d Y[c] x=true->∃s2 t2:Nat,s2<=t2/\m+t2<=q/\Value.int .i64 ((h:Int)+1)= .int .i64 ((m+s2:Nat):Int)/\Value.int .i64 (j:Int)= .int .i64 ((m+t2:Nat):Int)/\(∀(r:0<s2) (D:s2-1<Y.length),d Y[s2-1] x=true)/\(∀h:t2<Y.length,d Y[t2] x=false)/\BL w W)/\(d Y[c] x=false->∃s2 t2:Nat,s2<=t2/\m+t2<=q/\Value.int .i64 (i:Int)= .int .i64 ((m+s2:Nat):Int)/\Value.int .i64 (h:Int)= .int .i64 ((m+t2:Nat):Int)/\(∀(r:0<s2) (D:s2-1<Y.length),d Y[s2-1] x=true)/\(∀h:t2<Y.length,d Y[t2] x=false)/\BL w W)):=fun W hW=>by
   have g:=F.out;have gh:=HH.out;refine⟨fun e=>⟨c+1,t,by omega,by omega,by congr 1;omega,by rw[<-g.2],fun _ _=>?_,E.out.2,(trB A hW)⟩,fun e=>⟨s,c,by omega,by omega,by rw[<-g.1],by rw[<-gh],E.out.1,fun _=>e,(trB A hW)⟩⟩;exact e
  rw[hh]at cy;generalize Y[c]=y at cy n S;have g2:(h:Int)<(L:Int):=by omega
  have g3:(0:Int)<=(h:Int):=by omega
  have T:(p:Int)<(L:Int):=by omega
  have g5:(0:Int)<=(p:Int):=by omega
  have a3:IntKind.i64.wrap ((h:Int)+1)=(h:Int)+1:=IntWalk.i64_in _ (by omega);have an:BL wr wr:=Below.refl _ _;have HJ:Hid (i<=h/\h<j):=am;unfold pN at cy cx n;clear E F hc hh HH u ai
  go_upto_region 5 with fail
  go_region_held3 (fun w'=>w'.cell? ⟨b,h,none⟩=some (.pointer (some ⟨y,0,none⟩))/\w'.cell? ⟨b,p,none⟩=some (.pointer (some ⟨x,0,none⟩))/\BL wr w')
   (first
    | (go_split_ands;with_reducible exact⟨za0 aa (by assumption),za0 aa (by assumption),Below.trans (by assumption) (aa.mono (Below.size (by assumption)))⟩)
    | (go_split_ands;exact⟨by go_keep,by go_keep,by assumption⟩)
    | (go_split_ands;exact⟨by go_keep,by go_keep,Below.drew (by assumption)⟩))
   (first
    | (go_at_call 42;(with_reducible refine(n _ (by go_split_ands;assumption)).mono ?_);rintro e wX ⟨zc,rfl,hz,aa⟩))
  all_goals go_split_ands
  have U:BL wr wX:=by assumption
  clear n an cy cx a2 a1;cases C:d y x
  ·rw[C]at hz;have HE:Hid (∃s2 t2:Nat,s2<=t2/\m+t2<=q/\Value.int .i64 (i:Int)= .int .i64 ((m+s2:Nat):Int)/\Value.int .i64 (h:Int)= .int .i64 ((m+t2:Nat):Int)/\(∀(r:0<s2) (D:s2-1<Y.length),d Y[s2-1] x=true)/\(∀h:t2<Y.length,d Y[t2] x=false)/\BL w wX):=(S.out wX U).2 C;clear S C;go_wp2;go_roundw
   case rel=>exact HE.out
   case measure=>have:=HJ.out;simp[intOf];omega
  ·rw[C]at hz;have HE:Hid (∃s2 t2:Nat,s2<=t2/\m+t2<=q/\Value.int .i64 ((h:Int)+1)= .int .i64 ((m+s2:Nat):Int)/\Value.int .i64 (j:Int)= .int .i64 ((m+t2:Nat):Int)/\(∀(r:0<s2) (D:s2-1<Y.length),d Y[s2-1] x=true)/\(∀h:t2<Y.length,d Y[t2] x=false)/\BL w wX):=(S.out wX U).1 C;clear S C;go_wp2;go_roundw
   case rel=>exact HE.out
   case measure=>have:=HJ.out;simp[intOf];omega
 case neg =>
 have V:s=t:=by have:=F.out;omega
 have HS:Hid (s<=Y.length/\m+s=i/\(∀y∈Y.take s,l y x)/\(∀y∈Y.drop s,l x y)):=by
  obtain⟨R,g2⟩:=E.out;have g3:=H.out;have T:=F.out;have g5:s<=Y.length:=by omega
  refine⟨g5,T.1,za8x HT.out I.out g5 (fun h=>(O.out _ (List.getElem_mem _)).1 (R h (by omega))),za8y HT.out I.out (fun h=>(O.out _ (List.getElem_mem _)).2 ?_)⟩;subst V;exact g2 h
 have ad:Hid (OwnP B wr b L o (P++Y.take 0++x :: (Y.drop 0++Q))):=by
  show OwnP _ _ _ _ _ _;have e:P++Y.take 0++x :: (Y.drop 0++Q)=P++ [x]++Y++Q:=by simp
  rw[e];exact G.out.below A
 have ae:Hid (But (fun k=>k=b) w wr):=But.of_below A;have az:¬(i:Int)<(j:Int):=by omega
 have a4:IntKind.i64.wrap ((i:Int)-1)=(i:Int)-1:=IntWalk.i64_in _ (by omega);have al:Hid (Y.Pairwise l):=I.out;clear V ai E F ab ac N O I G A
 go_upto_region 9 with fail
 go_loopw [13] (fun k wr=> ∃c:Nat,c<=s/\k= .int .i64 ((p+c:Nat):Int)/\OwnP B wr b L o (P++Y.take c++x :: (Y.drop c++Q))/\But (fun k=>k=b) w wr) (fun k _=>i-(intOf k).toNat)
 case atStart=>exact ⟨0,by omega,rfl,ad.out,ae.out⟩
 case round =>
 clear ad ae;obtain⟨c,a6,rfl,f,A⟩:=hrel;have G:Hid (OwnP B wr b L o (P++Y.take c++x :: (Y.drop c++Q))):=f;have HB:Hid (But (fun k=>k=b) w wr):=A;clear f A;obtain⟨k,hk⟩:∃k,p+c=k:=⟨_,rfl⟩;have HK:Hid (p+c=k):=hk;rw[hk];have ao:=HS.out.2.1;by_cases av:c<s
 ·have u:c<Y.length:=by have:=HS.out.1;omega
  have hD:P++Y.take c++x :: (Y.drop c++Q)=(P++Y.take c)++x :: ([]++Y[c] :: (Y.drop (c+1)++Q)):=by
   rw[List.drop_eq_getElem_cons u];simp only[List.nil_append,List.cons_append]
  have X:P++Y.take (c+1)++x :: (Y.drop (c+1)++Q)=(P++Y.take c)++Y[c] :: ([]++x :: (Y.drop (c+1)++Q)):=by
   rw[List.take_succ_eq_append_getElem u];simp only[List.nil_append,List.cons_append,List.append_assoc]
  have Z:k=(P++Y.take c).length:=by
   have:=H.out;rw[List.length_append,List.length_take];omega
  have J:k+1=(P++Y.take c).length+1+([]:List Nat).length:=by rw[List.length_nil];omega
  have f:=G.out;rw[hD]at f;generalize Y[c]=y at f X;have c1:=f.cell (zd6 Z);have c2:=f.cell (j:=k+1) (x:=y) (zi0 (M:= []) J);have fz:=f.fz;have r:=f.set k y;have c3:=r.cell (j:=k+1) (x:=y) (by rw[List.getElem?_set_ne (by omega)];exact zi0 (M:= []) J);have ap:=r.fz;have D:=r.set (k+1) x;rw[za8v (M:= []) Z J]at D;have af:Hid (OwnP B (((wr.setCell ⟨b,k,none⟩ (pN y)).setCell ⟨b,k+1,none⟩ (pN x)).drew) b L o (P++Y.take (c+1)++x :: (Y.drop (c+1)++Q))):=by
   show OwnP _ _ _ _ _ _;rw[X];exact D.below (Below.drew (Below.refl _ _))
  have ag:Hid (But (fun k=>k=b) w (((wr.setCell ⟨b,k,none⟩ (pN y)).setCell ⟨b,k+1,none⟩ (pN x)).drew)):=zs6 ((HB.out.trans (zg3 _ _ _ _) (fun _ h _=>h)).trans (zg3 _ _ _ _) (fun _ h _=>h));have R:(k:Int)<(i:Int)-1:=by omega
  have a5:IntKind.i64.wrap ((k:Int)+1)=((k+1:Nat):Int):=by rw[IntWalk.i64_in _ (by omega)];omega
  have g2:((k+1:Nat):Int)<(L:Int):=by omega
  have g3:(0:Int)<=((k+1:Nat):Int):=by omega
  have T:(k:Int)<(L:Int):=by omega
  have g5:(0:Int)<=(k:Int):=by omega
  have ah:Hid (k<i/\((k+1:Nat):Int)=((p+(c+1):Nat):Int)/\k<k+1):=⟨by omega,by omega,by omega⟩;clear r D f hD X Z J G HB hk HK ao u;generalize k+1=k1 at *;unfold pN at c1 c2 c3 af ag ap
  go_upto_region 11 with fail
  go_region
  go_wp2;go_roundw
  case rel=>exact ⟨c+1,by omega,by rw[ah.out.2.1],af.out,ag.out⟩
  case measure=>have:=ah.out;simp[intOf];omega
 ·have aq:c=s:=by omega
  subst aq;have HF:Hid (SortP B b L o P (x :: Y) Q l w wr):=by
   obtain⟨R,g2,g3,T⟩:=HS.out;refine⟨Y.take c++x :: Y.drop c,?_,?_,?_,HB.out⟩
   ·have r:(Y.take c++x :: Y.drop c).Perm (x :: (Y.take c++Y.drop c)):=List.perm_middle;rw[List.take_append_drop]at r;exact r
   ·exact za0z (by rw[List.take_append_drop];exact al.out) T g3
   ·have e:P++(Y.take c++x :: Y.drop c)++Q=P++Y.take c++x :: (Y.drop c++Q):=by simp
    rw[e];exact G.out
  have R:¬(k:Int)<(i:Int)-1:=by omega
  clear G HB HS;go_wp2;refine bodyPost_ret (v:=.tuple #[]) (by simp[results,Tryz.results137,go_sem]) rfl ?_;exact⟨rfl,HF.out⟩
theorem zc3r (B b L A:Nat) (l:Nat->Nat->Bool) (r:Nat->Nat->Prop) (hT:∀x y z,r x y->r y z->r x z) (hL:L<=100000) (P X Q:List Nat) (y:Nat) (w:World) (a4:1<X.length) (o:OwnP B w b L A (P++X++ [y]++Q)) (u:AskC b l (X++ [y]) w) (al:X.Pairwise r) (am:∀x∈X,Agree l r x y) :
  Calls Tryz.prog 137 #[.slice (some ⟨b,0,none⟩) L A,.int .i64 (P.length:Nat),.int .i64 ((P.length+X.length:Nat):Int),.int .i64 ((P.length+X.length+1:Nat):Int),cvP] w fun e w'=>e= .returned (.tuple #[])/\SortP B b L A P (X++ [y]) Q r w w':=by
 have S:=o.len;simp only[List.length_append,List.length_singleton]at S;unfold cvP;have eg:∀args w,(callFunc 42 args).run Tryz.prog w= .ok (.enter 42 args) w:=enters_of Tryz.func42 (by kernel_rfl) rfl;obtain⟨p,hp⟩:∃p,P.length=p:=⟨_,rfl⟩;obtain⟨n,hn⟩:∃n,X.length=n:=⟨_,rfl⟩;obtain⟨m,hm⟩:∃m,P.length+X.length=m:=⟨_,rfl⟩;obtain⟨q,hq⟩:∃q,m+1=q:=⟨_,rfl⟩;have D:Hid (P.length=p/\P.length+X.length=m/\m+1=q/\X.length=n):=⟨hp,hm,hq,hn⟩;have a6:p+n=m/\1<n/\m+1=q/\q<=L:=by omega
 rw[hm,hq,hp];have a0:IntKind.i64.wrap ((m:Int)-(p:Int))=(n:Int):=by rw[IntWalk.i64_in _ (by omega)];omega
 have e0:((n:Int) == 1)=false:=by simp;omega
 have a9:IntKind.i64.wrap ((q:Int)-(m:Int))=1:=by rw[IntWalk.i64_in _ (by omega)];omega
 have ae:Hid (∀W,BL w W->W.cell? ⟨b,m,none⟩=some (pN y)):=fun W hW=>(o.below hW).cell (by
  have e:P++X++ [y]++Q=(P++X)++y :: Q:=by simp
  rw[e];exact zd6 (by rw[List.length_append];omega))
 have af:Hid (∀W,BL w W->∀c (h:c<X.length),W.cell? ⟨b,p+c,none⟩=some (pN X[c])):=fun W hW c hc=>(o.below hW).cell (by
  rw[List.append_assoc (P++X),List.append_assoc P,List.getElem?_append_right (by omega)];have e:p+c-P.length=c:=by omega
  rw[e,List.getElem?_append_left hc,List.getElem?_eq_getElem hc])
 have T:Hid (∀W,BL w W->∀c (h:c<X.length),Calls Tryz.prog 42 #[pN y,pN X[c]] W fun e w'=> ∃z:Int,e= .returned (.int .i64 z)/\decide (z<0)=l y X[c]/\BL W w'):=fun W hW c hc=>u y (by simp) X[c] (List.mem_append.2 (Or.inl (List.getElem_mem _))) W (But.of_below hW);have K:Hid (OwnP B w b L A (P++X++ [y]++Q)):=o;have N:Hid (X.Pairwise r):=al;have U:Hid (∀x∈X,Agree l r x y):=am;have HT:Hid (∀x y z,r x y->r y z->r x z):=hT;clear o u al am hT S hp hm hq hn a4
 go_enter Tryz.func137,Tryz.ntmps137
 go_upto_region 15 with fail
 go_loopw [14,15,16] (fun i j _ wr=> ∃s t:Nat,s<=t/\p+t<=m/\i= .int .i64 ((p+s:Nat):Int)/\j= .int .i64 ((p+t:Nat):Int)/\(∀(C:0<s) (H:s-1<X.length),l y X[s-1]=false)/\(∀h:t<X.length,l y X[t]=true)/\BL w wr) (fun i j _ _=>(intOf j).toNat-(intOf i).toNat)
 case atStart=>exact ⟨0,n,by omega,by omega,rfl,by congr 2;omega,fun h=>absurd h (Nat.lt_irrefl _),fun h=>by have:=D.out;omega,Below.refl _ _⟩
 case round =>
 clear a0 a9 e0;obtain⟨s,t,ak,aw,rfl,rfl,hs,ht,F⟩:=hrel;have I:Hid ((∀(C:0<s) (H:s-1<X.length),l y X[s-1]=false)/\(∀h:t<X.length,l y X[t]=true)):=⟨hs,ht⟩;clear hs ht;obtain⟨i,hi⟩:∃i,p+s=i:=⟨_,rfl⟩;obtain⟨j,hj⟩:∃j,p+t=j:=⟨_,rfl⟩;have J:Hid (p+s=i/\p+t=j):=⟨hi,hj⟩;have a7:i<=j/\j<=m/\p<=i:=by omega
 rw[hi,hj];clear hi hj aw;by_cases a8:i<j
 case pos =>
  have V:(i:Int)<(j:Int):=by omega
  have a1:IntKind.i64.wrap ((i:Int)+(j:Int))=(i:Int)+(j:Int):=IntWalk.i64_in _ (by omega);obtain⟨c,hc⟩:∃c,(i+j) / 2=p+c:=⟨(i+j) / 2-p,by omega⟩;obtain⟨h,hh⟩:∃h,p+c=h:=⟨_,rfl⟩;have ap:i<=h/\h<j:=by omega
  have E:c<X.length:=by have:=D.out;omega
  have a2:((i:Int)+(j:Int)) / 2=(h:Int):=by omega
  have HH:Hid (p+c=h):=hh;have cy:=af.out wr F c E;have cx:=ae.out wr F;have u:=fun W (hW:BL wr W)=>T.out W (trB F hW) c E;have Y:Hid (∀W,BL wr W->(l y X[c]=false->∃s2 t2:Nat,s2<=t2/\p+t2<=m/\Value.int .i64 ((h:Int)+1)= .int .i64 ((p+s2:Nat):Int)/\Value.int .i64 ((j:Int))= .int .i64 ((p+t2:Nat):Int)/\(∀(C:0<s2) (H:s2-1<X.length),l y X[s2-1]=false)/\(∀h:t2<X.length,l y X[t2]=true)/\BL w W)/\(l y X[c]=true->∃s2 t2:Nat,s2<=t2/\p+t2<=m/\Value.int .i64 ((i:Int))= .int .i64 ((p+s2:Nat):Int)/\Value.int .i64 ((h:Int))= .int .i64 ((p+t2:Nat):Int)/\(∀(C:0<s2) (H:s2-1<X.length),l y X[s2-1]=false)/\(∀h:t2<X.length,l y X[t2]=true)/\BL w W)):=fun W hW=>by
   have g:=J.out;have gh:=HH.out;refine⟨fun e=>⟨c+1,t,by omega,by omega,by congr 1;omega,by rw[<-g.2],fun _ _=>?_,I.out.2,(trB F hW)⟩,fun e=>⟨s,c,by omega,by omega,by rw[<-g.1],by rw[<-gh],I.out.1,fun _=>e,(trB F hW)⟩⟩;exact e
  rw[hh]at cy;generalize X[c]=x at cy u Y;have g2:(h:Int)<(L:Int):=by omega
  have g3:(0:Int)<=(h:Int):=by omega
  have Z:(m:Int)<(L:Int):=by omega
  have g5:(0:Int)<=(m:Int):=by omega
  have a3:IntKind.i64.wrap ((h:Int)+1)=(h:Int)+1:=IntWalk.i64_in _ (by omega);have aq:BL wr wr:=Below.refl _ _;have HJ:Hid (i<=h/\h<j):=ap;unfold pN at cy cx u;clear I J hc hh HH E ak
  go_upto_region 17 with fail
  go_region_held3 (fun w'=>w'.cell? ⟨b,m,none⟩=some (.pointer (some ⟨y,0,none⟩))/\w'.cell? ⟨b,h,none⟩=some (.pointer (some ⟨x,0,none⟩))/\BL wr w')
   (first
    | (go_split_ands;with_reducible exact⟨za0 ad (by assumption),za0 ad (by assumption),Below.trans (by assumption) (ad.mono (Below.size (by assumption)))⟩)
    | (go_split_ands;exact⟨by go_keep,by go_keep,by assumption⟩)
    | (go_split_ands;exact⟨by go_keep,by go_keep,Below.drew (by assumption)⟩))
   (first
    | (go_at_call 42;(with_reducible refine(u _ (by go_split_ands;assumption)).mono ?_);rintro e wX ⟨zc,rfl,hz,ad⟩))
  all_goals go_split_ands
  have aa:BL wr wX:=by assumption
  clear u aq cy cx a2 a1;cases G:l y x
  ·rw[G]at hz;have HE:Hid (∃s2 t2:Nat,s2<=t2/\p+t2<=m/\Value.int .i64 ((h:Int)+1)= .int .i64 ((p+s2:Nat):Int)/\Value.int .i64 ((j:Int))= .int .i64 ((p+t2:Nat):Int)/\(∀(C:0<s2) (H:s2-1<X.length),l y X[s2-1]=false)/\(∀h:t2<X.length,l y X[t2]=true)/\BL w wX):=(Y.out wX aa).1 G;clear Y G;go_wp2;go_roundw
   case rel=>exact HE.out
   case measure=>have:=HJ.out;simp[intOf];omega
  ·rw[G]at hz;have HE:Hid (∃s2 t2:Nat,s2<=t2/\p+t2<=m/\Value.int .i64 ((i:Int))= .int .i64 ((p+s2:Nat):Int)/\Value.int .i64 ((h:Int))= .int .i64 ((p+t2:Nat):Int)/\(∀(C:0<s2) (H:s2-1<X.length),l y X[s2-1]=false)/\(∀h:t2<X.length,l y X[t2]=true)/\BL w wX):=(Y.out wX aa).2 G;clear Y G;go_wp2;go_roundw
   case rel=>exact HE.out
   case measure=>have:=HJ.out;simp[intOf];omega
 case neg =>
 have ab:s=t:=by have:=J.out;omega
 have HS:Hid (s<=X.length/\p+s=i/\(∀x∈X.take s,r x y)/\(∀x∈X.drop s,r y x)):=by
  obtain⟨V,g2⟩:=I.out;have g3:=D.out;have Z:=J.out;have g5:s<=X.length:=by omega
  refine⟨g5,Z.1,za8x HT.out N.out g5 (fun h=>(U.out _ (List.getElem_mem _)).2 (V h (by omega))),za8y HT.out N.out (fun h=>(U.out _ (List.getElem_mem _)).1 ?_)⟩;subst ab;exact g2 h
 have ag:Hid (OwnP B wr b L A (P++X.take n++y :: (X.drop n++Q))):=by
  show OwnP _ _ _ _ _ _;have e:P++X.take n++y :: (X.drop n++Q)=P++X++ [y]++Q:=by
   have:=D.out;rw[List.take_of_length_le (by omega),List.drop_eq_nil_of_le (by omega)];simp
  rw[e];exact K.out.below F
 have ah:Hid (But (fun k=>k=b) w wr):=But.of_below F;have ba:¬(i:Int)<(j:Int):=by omega
 have an:Hid (X.Pairwise r):=N.out;have bb:s<=n:=by have:=D.out;have:=HS.out.1;omega
 clear ab ak I J ae af T U N K F
 go_upto_region 21 with fail
 go_loopw [17] (fun k wr=> ∃c:Nat,s<=c/\c<=n/\k= .int .i64 ((p+c:Nat):Int)/\OwnP B wr b L A (P++X.take c++y :: (X.drop c++Q))/\But (fun k=>k=b) w wr) (fun k _=>(intOf k).toNat)
 case atStart=>exact ⟨n,by omega,by omega,by congr 2;omega,ag.out,ah.out⟩
 case round =>
 clear ag ah;obtain⟨c,ax,ay,rfl,o,F⟩:=hrel;have K:Hid (OwnP B wr b L A (P++X.take c++y :: (X.drop c++Q))):=o;have HB:Hid (But (fun k=>k=b) w wr):=F;clear o F;obtain⟨k,hk⟩:∃k,p+c=k:=⟨_,rfl⟩;have HK:Hid (p+c=k):=hk;rw[hk];have ar:=HS.out.2.1;by_cases ao:s<c
 ·obtain⟨f,rfl⟩:∃f,c=f+1:=⟨c-1,by omega⟩;obtain⟨d,az⟩:∃d,p+f=d:=⟨_,rfl⟩;obtain rfl:k=d+1:=by omega
  have E:f<X.length:=by have:=D.out;omega
  have hD:P++X.take (f+1)++y :: (X.drop (f+1)++Q)=(P++X.take f)++X[f] :: y :: (X.drop (f+1)++Q):=by
   rw[List.take_succ_eq_append_getElem E];simp only[List.nil_append,List.cons_append,List.append_assoc]
  have ac:P++X.take f++y :: (X.drop f++Q)=(P++X.take f)++y :: X[f] :: (X.drop (f+1)++Q):=by
   rw[List.drop_eq_getElem_cons E];simp only[List.cons_append]
  have O:d=(P++X.take f).length:=by
   have:=D.out;rw[List.length_append,List.length_take];omega
  have o:=K.out;rw[hD]at o;generalize X[f]=x at o ac;have c1:=o.cell (zd6 O);have c2:=o.cell (j:=d+1) (x:=y) (zi0 (M:= []) (by rw[List.length_nil];omega));have fz:=o.fz;have C:=o.set (d+1) x;have c3:=C.cell (j:=d) (x:=x) (by rw[List.getElem?_set_ne (by omega)];exact zd6 O);have au:=C.fz;have H:=C.set d y;rw[za1a O (by omega)]at H;have ai:Hid (OwnP B (((wr.setCell ⟨b,d+1,none⟩ (pN x)).setCell ⟨b,d,none⟩ (pN y)).drew) b L A (P++X.take f++y :: (X.drop f++Q))):=by
   show OwnP _ _ _ _ _ _;rw[ac];exact H.below (Below.drew (Below.refl _ _))
  have aj:Hid (But (fun k=>k=b) w (((wr.setCell ⟨b,d+1,none⟩ (pN x)).setCell ⟨b,d,none⟩ (pN y)).drew)):=zs6 ((HB.out.trans (zg3 _ _ _ _) (fun _ h _=>h)).trans (zg3 _ _ _ _) (fun _ h _=>h));have V:(i:Int)<((d+1:Nat):Int):=by omega
  have a5:IntKind.i64.wrap (((d+1:Nat):Int)-1)=(d:Int):=by rw[IntWalk.i64_in _ (by omega)];omega
  have g2:((d+1:Nat):Int)<(L:Int):=by omega
  have g3:(0:Int)<=((d+1:Nat):Int):=by omega
  have Z:(d:Int)<(L:Int):=by omega
  have g5:(0:Int)<=(d:Int):=by omega
  have R:Hid (s<=f/\f<=n/\(d:Int)=((p+f:Nat):Int)/\d<d+1):=⟨by omega,by omega,by omega,by omega⟩;clear C H o hD ac O K HB hk HK ar E az ax ay ao;generalize d+1=k1 at *;unfold pN at c1 c2 c3 ai aj au
  go_upto_region 23 with fail
  go_region
  go_wp2;go_roundw
  case rel=>exact ⟨f,R.out.1,R.out.2.1,by rw[R.out.2.2.1],ai.out,aj.out⟩
  case measure=>have:=R.out;simp[intOf];omega
 ·have av:c=s:=by omega
  subst av;have HF:Hid (SortP B b L A P (X++ [y]) Q r w wr):=by
   obtain⟨V,g2,g3,Z⟩:=HS.out;refine⟨X.take c++y :: X.drop c,?_,?_,?_,HB.out⟩
   ·have C:(X.take c++y :: X.drop c).Perm (y :: (X.take c++X.drop c)):=List.perm_middle;rw[List.take_append_drop]at C;exact C.trans (List.perm_append_comm (l₁:= [y]) (l₂:=X))
   ·exact za0z (by rw[List.take_append_drop];exact an.out) Z g3
   ·have e:P++(X.take c++y :: X.drop c)++Q=P++X.take c++y :: (X.drop c++Q):=by simp
    rw[e];exact K.out
  have V:¬(i:Int)<(k:Int):=by omega
  clear K HB HS;go_wp2;refine bodyPost_ret (v:=.tuple #[]) (by simp[results,Tryz.results137,go_sem]) rfl ?_;exact⟨rfl,HF.out⟩
theorem zg4 (l:List Nat) {i:Nat} (h:i<l.length):l.getD i 0=l[i]:=by
 rw[List.getD_eq_getElem?_getD,List.getElem?_eq_getElem h];rfl
def MergeS (B b L cap:Nat) (kl:Nat->Nat->Bool) (lt:Nat->Nat->Prop) (n:Nat):Prop:= ∀(P X Y Q:List Nat) (w:World),X.length+Y.length<=n->0<X.length->0<Y.length->OwnP B w b L cap (P++X++Y++Q)->AskC b kl (X++Y) w->X.Pairwise lt->Y.Pairwise lt->(∀x∈X,∀y∈Y,Agree kl lt x y) ->
 Calls Tryz.prog 137 #[.slice (some ⟨b,0,none⟩) L cap,.int .i64 (P.length:Nat),.int .i64 ((P.length+X.length:Nat):Int),.int .i64 ((P.length+X.length+Y.length:Nat):Int),cvP] w fun e w'=>e= .returned (.tuple #[])/\SortP B b L cap P (X++Y) Q lt w w'
structure Cut4 (lt:Nat->Nat->Prop) (X Y:List Nat) (s t:Nat):Prop where
 sx:s<=X.length
 ty:t<=Y.length
 all:∀a∈X.take s++Y.take t,∀c∈X.drop s++Y.drop t,lt a c
theorem zc3s {p:Nat->Nat->Bool} {b:Nat->Nat->Prop} (m:∀x y z,b x y->b y z->b x z) {X Y:List Nat} {s t:Nat} (C:X.Pairwise b) (D:Y.Pairwise b) (u:∀x∈X,∀y∈Y,Agree p b x y) (E:s<=X.length) (F:t<=Y.length)
  (G:s=0\/t=Y.length\/p (Y.getD t 0) (X.getD (s-1) 0)=false) (H:t=0\/s=X.length\/p (Y.getD (t-1) 0) (X.getD s 0)=true):Cut4 b X Y s t:=by
 have n:=List.pairwise_iff_getElem.1 C;have o:=List.pairwise_iff_getElem.1 D;refine⟨E,F,fun a k c l=>?_⟩;rw[List.mem_append]at k l;rcases k with k | k<;>rcases l with l | l
 ·obtain⟨i,A,rfl⟩:=List.mem_take_iff_getElem.1 k;obtain⟨j,B,rfl⟩:=List.mem_drop_iff_getElem.1 l;exact n i (s+j) (by omega) (by omega) (by omega)
 ·obtain⟨i,A,rfl⟩:=List.mem_take_iff_getElem.1 k;obtain⟨j,B,rfl⟩:=List.mem_drop_iff_getElem.1 l;have q:0<s:=by omega
  have r:t<Y.length:=by omega
  have v:p Y[t] X[s-1]=false:=by
   rcases G with h | h | h
   ·omega
   ·omega
   ·rw[zg4 _ r,zg4 _ (by omega)]at h;exact h
  have d:=(u X[s-1] (List.getElem_mem _) Y[t] (List.getElem_mem _)).2 v;have f:i=s-1\/b X[i] X[s-1]:=by
   by_cases e:i=s-1
   ·exact Or.inl e
   ·exact Or.inr (n i (s-1) (by omega) (by omega) (by omega))
  have g:j=0\/b Y[t] Y[t+j]:=by
   by_cases e:j=0
   ·exact Or.inl e
   ·exact Or.inr (o t (t+j) (by omega) (by omega) (by omega))
  rcases f with rfl | f<;>rcases g with rfl | g
  ·exact d
  ·exact m _ _ _ d g
  ·exact m _ _ _ f d
  ·exact m _ _ _ f (m _ _ _ d g)
 ·obtain⟨i,A,rfl⟩:=List.mem_take_iff_getElem.1 k;obtain⟨j,B,rfl⟩:=List.mem_drop_iff_getElem.1 l;have r:0<t:=by omega
  have q:s<X.length:=by omega
  have v:p Y[t-1] X[s]=true:=by
   rcases H with h | h | h
   ·omega
   ·omega
   ·rw[zg4 _ (by omega),zg4 _ q]at h;exact h
  have d:=(u X[s] (List.getElem_mem _) Y[t-1] (List.getElem_mem _)).1 v;have f:i=t-1\/b Y[i] Y[t-1]:=by
   by_cases e:i=t-1
   ·exact Or.inl e
   ·exact Or.inr (o i (t-1) (by omega) (by omega) (by omega))
  have g:j=0\/b X[s] X[s+j]:=by
   by_cases e:j=0
   ·exact Or.inl e
   ·exact Or.inr (n s (s+j) (by omega) (by omega) (by omega))
  rcases f with rfl | f<;>rcases g with rfl | g
  ·exact d
  ·exact m _ _ _ d g
  ·exact m _ _ _ f d
  ·exact m _ _ _ f (m _ _ _ d g)
 ·obtain⟨i,A,rfl⟩:=List.mem_take_iff_getElem.1 k;obtain⟨j,B,rfl⟩:=List.mem_drop_iff_getElem.1 l;exact o i (t+j) (by omega) (by omega) (by omega)
theorem zc3t (B b L A:Nat) (N:Nat->Nat->Bool) (E:Nat->Nat->Prop) (hT:∀x y z,E x y->E y z->E x z) (hL:L<=100000) (k0:Nat) (IH:MergeS B b L A N E k0) (P X Y Q:List Nat) (w:World) (bn:X.length+Y.length=k0+1) (b6:1<X.length) (b7:1<Y.length) (ho:OwnP B w b L A (P++X++Y++Q)) (T:AskC b N (X++Y) w) (bo:X.Pairwise E) (bp:Y.Pairwise E) (bq:∀x∈X,∀y∈Y,Agree N E x y) :
  Calls Tryz.prog 137 #[.slice (some ⟨b,0,none⟩) L A,.int .i64 (P.length:Nat),.int .i64 ((P.length+X.length:Nat):Int),.int .i64 ((P.length+X.length+Y.length:Nat):Int),cvP] w fun e w'=>e= .returned (.tuple #[])/\SortP B b L A P (X++Y) Q E w w':=by
 have au:=ho.len;simp only[List.length_append]at au;unfold cvP;have eg:∀args w,(callFunc 42 args).run Tryz.prog w= .ok (.enter 42 args) w:=enters_of Tryz.func42 (by kernel_rfl) rfl;obtain⟨p,hp⟩:∃p,P.length=p:=⟨_,rfl⟩;obtain⟨nx,bf⟩:∃n,X.length=n:=⟨_,rfl⟩;obtain⟨ny,bg⟩:∃n,Y.length=n:=⟨_,rfl⟩;obtain⟨m,hm⟩:∃m,P.length+X.length=m:=⟨_,rfl⟩;obtain⟨q,hq⟩:∃q,m+Y.length=q:=⟨_,rfl⟩;obtain⟨f,bs⟩:∃k,(p+q) / 2=k:=⟨_,rfl⟩;obtain⟨n,hn⟩:∃n,f+m=n:=⟨_,rfl⟩;have an:Hid (P.length=p/\X.length=nx/\Y.length=ny/\X.length+Y.length=k0+1):=⟨hp,bf,bg,bn⟩;have b8:p+nx=m/\1<nx/\m+ny=q/\1<ny/\q<=L/\2*f<=p+q/\p+q<=2*f+1/\f+m=n:=by omega
 rw[hm,hq,hp];have a0:IntKind.i64.wrap ((m:Int)-(p:Int))=(nx:Int):=by rw[IntWalk.i64_in _ (by omega)];omega
 have e0:((nx:Int) == 1)=false:=by simp;omega
 have a9:IntKind.i64.wrap ((q:Int)-(m:Int))=(ny:Int):=by rw[IntWalk.i64_in _ (by omega)];omega
 have e9:((ny:Int) == 1)=false:=by simp;omega
 have b1:IntKind.i64.wrap ((p:Int)+(q:Int))=(p:Int)+(q:Int):=IntWalk.i64_in _ (by omega);have b2:((p:Int)+(q:Int)) / 2=(f:Int):=by omega
 have b3:IntKind.i64.wrap ((f:Int)+(m:Int))=(n:Int):=by rw[IntWalk.i64_in _ (by omega)];omega
 have bc:Hid (∀W,BL w W->∀c,c<nx->W.cell? ⟨b,p+c,none⟩=some (pN (X.getD c 0))):=fun W hW c O=>(ho.below hW).cell (by
  rw[List.append_assoc (P++X),List.append_assoc P,List.getElem?_append_right (by omega)];have e:p+c-P.length=c:=by omega
  rw[e,List.getElem?_append_left (by omega),zg4 _ (by omega),List.getElem?_eq_getElem (by omega)])
 have bd:Hid (∀W,BL w W->∀c,c<ny->W.cell? ⟨b,m+c,none⟩=some (pN (Y.getD c 0))):=fun W hW c O=>(ho.below hW).cell (by
  rw[List.append_assoc (P++X),List.getElem?_append_right (by rw[List.length_append];omega)];have e:m+c-(P++X).length=c:=by rw[List.length_append];omega
  rw[e,List.getElem?_append_left (by omega),zg4 _ (by omega),List.getElem?_eq_getElem (by omega)])
 have av:Hid (∀W,BL w W->∀c d,c<nx->d<ny->Calls Tryz.prog 42 #[pN (Y.getD d 0),pN (X.getD c 0)] W fun e w'=> ∃z:Int,e= .returned (.int .i64 z)/\decide (z<0)=N (Y.getD d 0) (X.getD c 0)/\BL W w'):=fun W hW c d O hd=>T _ (by rw[zg4 _ (by omega)];exact List.mem_append.2 (Or.inr (List.getElem_mem _))) _ (by rw[zg4 _ (by omega)];exact List.mem_append.2 (Or.inl (List.getElem_mem _))) W (But.of_below hW);have HO:Hid (OwnP B w b L A (P++X++Y++Q)):=ho;have aa:Hid (X.Pairwise E/\Y.Pairwise E/\(∀x∈X,∀y∈Y,Agree N E x y)/\AskC b N (X++Y) w):=⟨bo,bp,bq,T⟩;have HT:Hid (∀x y z,E x y->E y z->E x z):=hT;have be:Hid (MergeS B b L A N E k0):=IH;obtain⟨G,S,a5⟩:∃G S:Nat,(f<m/\G+q=n/\S=f)\/(m<=f/\G=p/\S=m):=by
  by_cases h:f<m
  ·exact⟨n-q,f,Or.inl ⟨h,by omega,rfl⟩⟩
  ·exact⟨p,m,Or.inr ⟨by omega,rfl,rfl⟩⟩
 have af:Hid ((f<m/\G+q=n/\S=f)\/(m<=f/\G=p/\S=m)):=a5;clear ho T bo bp bq hT au hp hm hq bf bg bs hn bn b6 b7 IH a5
 go_enter Tryz.func137,Tryz.ntmps137
 go_upto_if 140 with fail
 go_cut [20,21] from 140 to 146 (fun x y wx=>x= .int .i64 (G:Int)/\y= .int .i64 (S:Int)/\w=wx)
 case first =>
  rcases af.out with⟨h1,h2,h3⟩|⟨h1,h2,h3⟩
  ·have K:(f:Int)<(m:Int):=by omega
   have U:IntKind.i64.wrap ((n:Int)-(q:Int))=(G:Int):=by rw[IntWalk.i64_in _ (by omega)];omega
   have aw:decide (f<m)=true:=decide_eq_true h1;have HR:Hid ((S:Int)=(f:Int)):=by show _=_;omega
   first | rw[aw] | skip
   clear h1 h2 h3 a0 a9 b1 b2 b3 e0 e9;go_wp2;go_meet
   case rel=>exact ⟨rfl,by rw[HR.out],rfl⟩
  ·have K:¬(f:Int)<(m:Int):=by omega
   have aw:decide (f<m)=false:=decide_eq_false (by omega);have HR:Hid ((S:Int)=(m:Int)/\(G:Int)=(p:Int)):=⟨by omega,by omega⟩
   first | rw[aw] | skip
   clear h1 h2 h3 a0 a9 b1 b2 b3 e0 e9;go_wp2;go_meet
   case rel=>exact ⟨by rw[HR.out.2],by rw[HR.out.1],rfl⟩
 case rest =>
 obtain⟨rfl,rfl,rfl⟩:=hcut;obtain⟨pp,bh⟩:∃k,n-1=k:=⟨_,rfl⟩;have b4:IntKind.i64.wrap ((n:Int)-1)=(pp:Int):=by rw[IntWalk.i64_in _ (by omega)];omega
 have bt:Hid (n-1=pp):=bh
 go_upto_region 33 with fail
 clear a0 a9 b1 b2 b3 b4 e0 e9 bh
 go_loopw [20,21,23] (fun i j _ wr=> ∃s t:Nat,G<=s/\s<=t/\t<=S/\i= .int .i64 (s:Int)/\j= .int .i64 (t:Int)/\(s=G\/N (Y.getD (n-s-m) 0) (X.getD (s-1-p) 0)=false)/\(t=S\/N (Y.getD (n-1-t-m) 0) (X.getD (t-p) 0)=true)/\BL w wr) (fun i j _ _=>(intOf j).toNat-(intOf i).toNat)
 case atStart=>exact ⟨G,S,by omega,by rcases af.out with h | h<;>omega,by omega,rfl,rfl,Or.inl rfl,Or.inl rfl,Below.refl _ _⟩
 case round =>
 obtain⟨s,t,ca,b0,cb,rfl,rfl,hs,ht,hb⟩:=hrel;have ai:Hid ((s=G\/N (Y.getD (n-s-m) 0) (X.getD (s-1-p) 0)=false)/\(t=S\/N (Y.getD (n-1-t-m) 0) (X.getD (t-p) 0)=true)):=⟨hs,ht⟩;clear hs ht;by_cases bu:s<t
 case pos =>
  have K:(s:Int)<(t:Int):=by omega
  obtain⟨c,O⟩:∃c,(s+t) / 2=c:=⟨_,rfl⟩;obtain⟨d,hd⟩:∃d,pp-c=d:=⟨_,rfl⟩;have bv:p<=c/\c<m/\m<=d/\d<q/\s<=c/\c<t/\d+c=pp/\d=n-1-c:=by
   have g:=bt.out;rcases af.out with h | h<;>omega
  have a1:IntKind.i64.wrap ((s:Int)+(t:Int))=(s:Int)+(t:Int):=IntWalk.i64_in _ (by omega);have a2:((s:Int)+(t:Int)) / 2=(c:Int):=by omega
  have a4:IntKind.i64.wrap ((pp:Int)-(c:Int))=(d:Int):=by rw[IntWalk.i64_in _ (by omega)];omega
  have cy:=bd.out wr hb (d-m) (by omega);have cx:=bc.out wr hb (c-p) (by omega);rw[show m+(d-m)=d by omega]at cy;rw[show p+(c-p)=c by omega]at cx;have T:=fun W (hW:BL wr W)=>av.out W (trB hb hW) (c-p) (d-m) (by omega) (by omega);have HN:Hid (∀W,BL wr W->(N (Y.getD (d-m) 0) (X.getD (c-p) 0)=false->∃I J:Nat,G<=I/\I<=J/\J<=S/\Value.int .i64 ((c:Int)+1)= .int .i64 (I:Int)/\Value.int .i64 (t:Int)= .int .i64 (J:Int)/\(I=G\/N (Y.getD (n-I-m) 0) (X.getD (I-1-p) 0)=false)/\(J=S\/N (Y.getD (n-1-J-m) 0) (X.getD (J-p) 0)=true)/\BL w W)/\(N (Y.getD (d-m) 0) (X.getD (c-p) 0)=true->∃I J:Nat,G<=I/\I<=J/\J<=S/\Value.int .i64 (s:Int)= .int .i64 (I:Int)/\Value.int .i64 (c:Int)= .int .i64 (J:Int)/\(I=G\/N (Y.getD (n-I-m) 0) (X.getD (I-1-p) 0)=false)/\(J=S\/N (Y.getD (n-1-J-m) 0) (X.getD (J-p) 0)=true)/\BL w W)):=fun W hW=>by
   refine⟨fun e=>⟨c+1,t,by omega,by omega,by omega,by congr 1,rfl,Or.inr ?_,ai.out.2,(trB hb hW)⟩,fun e=>⟨s,c,by omega,by omega,by omega,rfl,rfl,ai.out.1,Or.inr ?_,(trB hb hW)⟩⟩
   ·rw[show n-(c+1)-m=d-m by omega,show c+1-1-p=c-p by omega];exact e
   ·rw[show n-1-c-m=d-m by omega];exact e
  generalize Y.getD (d-m) 0=y at cy T HN;generalize X.getD (c-p) 0=x at cx T HN;have U:(c:Int)<(L:Int):=by omega
  have g3:(0:Int)<=(c:Int):=by omega
  have g4:(d:Int)<(L:Int):=by omega
  have g5:(0:Int)<=(d:Int):=by omega
  have a3:IntKind.i64.wrap ((c:Int)+1)=(c:Int)+1:=IntWalk.i64_in _ (by omega);have bw:BL wr wr:=Below.refl _ _;have HJ:Hid (s<=c/\c<t):=⟨by omega,by omega⟩;unfold pN at cy cx T;clear ai O hd bv
  go_upto_region 35 with fail
  go_region_held3 (fun w'=>w'.cell? ⟨b,d,none⟩=some (.pointer (some ⟨y,0,none⟩))/\w'.cell? ⟨b,c,none⟩=some (.pointer (some ⟨x,0,none⟩))/\BL wr w')
   (first
    | (go_split_ands;with_reducible exact⟨za0 bb (by assumption),za0 bb (by assumption),Below.trans (by assumption) (bb.mono (Below.size (by assumption)))⟩)
    | (go_split_ands;exact⟨by go_keep,by go_keep,by assumption⟩)
    | (go_split_ands;exact⟨by go_keep,by go_keep,Below.drew (by assumption)⟩))
   (first
    | (go_at_call 42;(with_reducible refine(T _ (by go_split_ands;assumption)).mono ?_);rintro e wX ⟨zc,rfl,hz,bb⟩))
  all_goals go_split_ands
  have ax:BL wr wX:=by assumption
  clear T bw cy cx a2 a1;cases ah:N y x
  ·rw[ah]at hz;have HE:=(HN.out wX ax).1 ah;clear HN ah;obtain⟨I,J,f1,f2,f3,f4,f5,f6,f7,f8⟩:=HE;have ay:Hid (G<=I/\I<=J/\J<=S/\Value.int .i64 ((c:Int)+1)= .int .i64 (I:Int)/\Value.int .i64 (t:Int)= .int .i64 (J:Int)/\(I=G\/N (Y.getD (n-I-m) 0) (X.getD (I-1-p) 0)=false)/\(J=S\/N (Y.getD (n-1-J-m) 0) (X.getD (J-p) 0)=true)/\BL w wX):=⟨f1,f2,f3,f4,f5,f6,f7,f8⟩;clear f1 f2 f3 f4 f5 f6 f7 f8;go_wp2;go_roundw
   case rel=>exact ⟨I,J,ay.out⟩
   case measure=>have:=HJ.out;simp[intOf];omega
  ·rw[ah]at hz;have HE:=(HN.out wX ax).2 ah;clear HN ah;obtain⟨I,J,f1,f2,f3,f4,f5,f6,f7,f8⟩:=HE;have ay:Hid (G<=I/\I<=J/\J<=S/\Value.int .i64 (s:Int)= .int .i64 (I:Int)/\Value.int .i64 (c:Int)= .int .i64 (J:Int)/\(I=G\/N (Y.getD (n-I-m) 0) (X.getD (I-1-p) 0)=false)/\(J=S\/N (Y.getD (n-1-J-m) 0) (X.getD (J-p) 0)=true)/\BL w wX):=⟨f1,f2,f3,f4,f5,f6,f7,f8⟩;clear f1 f2 f3 f4 f5 f6 f7 f8;go_wp2;go_roundw
   case rel=>exact ⟨I,J,ay.out⟩
   case measure=>have:=HJ.out;simp[intOf];omega
 case neg =>
 obtain rfl:s=t:=by omega
 obtain⟨v,cc⟩:∃k,n-s=k:=⟨_,rfl⟩;have b9:p<=s/\s<=m/\m<=v/\v<=q/\v+s=n/\s<=f/\f<=v:=by rcases af.out with h | h<;>omega
 have az:Hid (Cut4 E X Y (s-p) (v-m)):=by
  obtain⟨K,U⟩:=ai.out;have g3:=an.out;refine zc3s HT.out aa.out.1 aa.out.2.1 aa.out.2.2.1 (by omega) (by omega) ?_ ?_
  ·rcases K with h | h
   ·rcases af.out with e | e
    ·exact Or.inr (Or.inl (by omega))
    ·exact Or.inl (by omega)
   ·exact Or.inr (Or.inr (by
     rw[show v-m=n-s-m by omega,show s-p-1=s-1-p by omega];exact h))
  ·rcases U with h | h
   ·rcases af.out with e | e
    ·exact Or.inl (by omega)
    ·exact Or.inr (Or.inl (by omega))
   ·exact Or.inr (Or.inr (by
     rw[show v-m-1=n-1-s-m by omega];exact h))
 have b5:IntKind.i64.wrap ((n:Int)-(s:Int))=(v:Int):=by rw[IntWalk.i64_in _ (by omega)];omega
 have bx:¬(s:Int)<(s:Int):=by omega
 obtain⟨C,ao⟩:∃l,X.take (s-p)=l:=⟨_,rfl⟩;obtain⟨o,ap⟩:∃l,X.drop (s-p)=l:=⟨_,rfl⟩;obtain⟨D,aq⟩:∃l,Y.take (v-m)=l:=⟨_,rfl⟩;obtain⟨u,ar⟩:∃l,Y.drop (v-m)=l:=⟨_,rfl⟩;have V:Hid (X=C++o/\Y=D++u):=⟨by rw[<-ao,<-ap,List.take_append_drop],by rw[<-aq,<-ar,List.take_append_drop]⟩;have F:Hid (P.length=p/\C.length=s-p/\o.length=m-s/\D.length=v-m/\u.length=q-v):=by
  have g3:=an.out;rw[<-ao,<-ap,<-aq,<-ar,List.length_take,List.length_drop,List.length_take,List.length_drop];refine⟨g3.1,?_,?_,?_,?_⟩<;>omega
 have br:Hid (∀a∈C++D,∀c∈o++u,E a c):=by
  have h:=az.out.all;rw[ao,ap,aq,ar]at h;exact h
 have ac:Hid (C.Pairwise E/\o.Pairwise E/\D.Pairwise E/\u.Pairwise E):=by
  have K:=aa.out.1;have U:=aa.out.2.1;rw[V.out.1,List.pairwise_append]at K;rw[V.out.2,List.pairwise_append]at U;exact⟨K.1,K.2.1,U.1,U.2.1⟩
 have Z:Hid ((∀a∈C,a∈X)/\(∀a∈o,a∈X)/\(∀a∈D,a∈Y)/\(∀a∈u,a∈Y)):=by
  rw[V.out.1,V.out.2];exact⟨fun a h=>List.mem_append.2 (Or.inl h),fun a h=>List.mem_append.2 (Or.inr h),fun a h=>List.mem_append.2 (Or.inl h),fun a h=>List.mem_append.2 (Or.inr h)⟩
 have aj:Hid (OwnP B wr b L A ((P++C)++o++D++(u++Q))):=by
  have h:=HO.out.below hb;rw[V.out.1,V.out.2]at h;have e:(P++C)++o++D++(u++Q)=P++(C++o)++(D++u)++Q:=by simp only[List.append_assoc]
  show OwnP _ _ _ _ _ _;rw[e];exact h
 have ak:Hid (But (fun k=>k=b) w wr):=But.of_below hb;clear ao ap aq ar az ai HO hb bc bd av b0 bu;obtain⟨G1,bi⟩:∃g,decide (s<m/\m<v)=g:=⟨_,rfl⟩;have al:Hid (decide (s<m/\m<v)=G1):=bi;clear bi
 go_upto_region 39 with fail
 go_cut [185] from 178 to 184 (fun x wx=>x= .bool G1/\wr=wx)
 case first =>
  by_cases r:s<m
  ·by_cases R:m<v
   ·have K:(s:Int)<(m:Int):=by omega
    have U:(m:Int)<(v:Int):=by omega
    have d1:decide (s<m)=true:=decide_eq_true r;have d2:decide (m<v)=true:=decide_eq_true R;have HG:Hid (G1=true):=by
     show _=_;rw[<-al.out];exact decide_eq_true ⟨r,R⟩
    clear r R;go_wp2;go_meet
    case rel=>exact ⟨by rw[HG.out],rfl⟩
   ·have K:(s:Int)<(m:Int):=by omega
    have U:¬(m:Int)<(v:Int):=by omega
    have d1:decide (s<m)=true:=decide_eq_true r;have d2:decide (m<v)=false:=decide_eq_false R;have HG:Hid (G1=false):=by
     show _=_;rw[<-al.out];exact decide_eq_false (fun h=>R h.2)
    clear r R;go_wp2;go_meet
    case rel=>exact ⟨by rw[HG.out],rfl⟩
  ·have K:¬(s:Int)<(m:Int):=by omega
   have d1:decide (s<m)=false:=decide_eq_false r;have HG:Hid (G1=false):=by
    show _=_;rw[<-al.out];exact decide_eq_false (fun h=>r h.1)
   clear r;go_wp2;go_meet
   case rel=>exact ⟨by rw[HG.out],rfl⟩
 case rest =>
 obtain⟨rfl,a6⟩:=hcut;subst a6
 go_upto_if 185 with fail
 go_cut [185] from 186 to 191 (fun _ wx=>OwnP B wx b L A (P++C++D++(o++u++Q))/\But (fun k=>k=b) w wx)
 case first =>
  cases ab:G1
  case true =>
   have hg:s<m/\m<v:=of_decide_eq_true (al.out.trans ab);have O:=zc3o B b L A (P++C) o D (u++Q) cvP wr (by have:=F.out;omega) (by have:=F.out;omega) aj.out hL;have e1:(P++C).length=s:=by have:=F.out;rw[List.length_append];omega
   have e2:s+o.length=m:=by have:=F.out;omega
   have e3:m+D.length=v:=by have:=F.out;omega
   rw[e1,e2,e3]at O;unfold cvP at O;have K:(s:Int)<(m:Int):=by omega
   have U:(m:Int)<(v:Int):=by omega
   have d1:decide (s<m)=true:=decide_eq_true hg.1;have d2:decide (m<v)=true:=decide_eq_true hg.2;have HR:Hid (∀w',OwnP B w' b L A (P++C++D++o++(u++Q))->But (fun k=>k=b) wr w'->OwnP B w' b L A (P++C++D++(o++u++Q))/\But (fun k=>k=b) w w'):=fun w' h1 h2=>by
    have e:P++C++D++(o++u++Q)=P++C++D++o++(u++Q):=by simp only[List.append_assoc]
    rw[e];exact⟨h1,ak.out.trans h2 (fun _ h _=>h)⟩
   clear aj ak e1 e2 e3 hg ab
   go_wp2_with fail
   refine O.mono ?_;rintro e w1 ⟨rfl,bl,bm⟩;have HF:Hid (OwnP B w1 b L A (P++C++D++(o++u++Q))/\But (fun k=>k=b) w w1):=HR.out w1 bl bm;clear O bl bm HR;go_wp2;go_meet
   case rel=>exact HF.out
  case false =>
   have hg:¬(s<m/\m<v):=of_decide_eq_false (al.out.trans ab);have HF:Hid (OwnP B wr b L A (P++C++D++(o++u++Q))/\But (fun k=>k=b) w wr):=by
    refine⟨?_,ak.out⟩;have g3:=F.out;have h1:=aj.out;by_cases e:s<m
    ·have:D= []:=List.length_eq_zero_iff.1 (by omega);subst this;simpa using h1
    ·have:o= []:=List.length_eq_zero_iff.1 (by omega);subst this;simpa using h1
   clear aj ak hg ab;go_wp2;go_meet
   case rel=>exact HF.out
 case rest =>
 have ag:Hid (OwnP B wc b L A (P++C++D++(o++u++Q))/\But (fun k=>k=b) w wc):=hcut;clear hcut aj ak b5 bx;generalize wc=w2 at *;obtain⟨G2,bj⟩:∃g,decide (p<s/\s<f)=g:=⟨_,rfl⟩;have am:Hid (decide (p<s/\s<f)=G2):=bj;clear bj
 go_upto_region 41 with fail
 go_cut [199] from 192 to 198 (fun x wx=>x= .bool G2/\w2=wx)
 case first =>
  by_cases r:p<s
  ·by_cases R:s<f
   ·have K:(p:Int)<(s:Int):=by omega
    have U:(s:Int)<(f:Int):=by omega
    have d1:decide (p<s)=true:=decide_eq_true r;have d2:decide (s<f)=true:=decide_eq_true R;have HG:Hid (G2=true):=by
     show _=_;rw[<-am.out];exact decide_eq_true ⟨r,R⟩
    clear r R;go_wp2;go_meet
    case rel=>exact ⟨by rw[HG.out],rfl⟩
   ·have K:(p:Int)<(s:Int):=by omega
    have U:¬(s:Int)<(f:Int):=by omega
    have d1:decide (p<s)=true:=decide_eq_true r;have d2:decide (s<f)=false:=decide_eq_false R;have HG:Hid (G2=false):=by
     show _=_;rw[<-am.out];exact decide_eq_false (fun h=>R h.2)
    clear r R;go_wp2;go_meet
    case rel=>exact ⟨by rw[HG.out],rfl⟩
  ·have K:¬(p:Int)<(s:Int):=by omega
   have d1:decide (p<s)=false:=decide_eq_false r;have HG:Hid (G2=false):=by
    show _=_;rw[<-am.out];exact decide_eq_false (fun h=>r h.1)
   clear r;go_wp2;go_meet
   case rel=>exact ⟨by rw[HG.out],rfl⟩
 case rest =>
 obtain⟨rfl,a6⟩:=hcut;subst a6
 go_upto_if 199 with fail
 go_cut [199] from 200 to 205 (fun _ wx=> ∃H:List Nat,H.Perm (C++D)/\H.Pairwise E/\OwnP B wx b L A ((P++H)++o++u++Q)/\But (fun k=>k=b) w wx)
 case first =>
  cases ab:G2
  case true =>
   have hg:p<s/\s<f:=of_decide_eq_true (am.out.trans ab);have O:=be.out P C D (o++u++Q) w2 (by have:=F.out;have:=an.out;omega) (by have:=F.out;omega) (by have:=F.out;omega) ag.out.1 ((aa.out.2.2.2.but ag.out.2).sub (fun x hx=>by
    rw[List.mem_append]at hx ⊢;rcases hx with hx | hx
    ·exact Or.inl (Z.out.1 x hx)
    ·exact Or.inr (Z.out.2.2.1 x hx))) ac.out.1 ac.out.2.2.1 (fun x hx y hy=>aa.out.2.2.1 x (Z.out.1 x hx) y (Z.out.2.2.1 y hy))
   have e1:P.length=p:=F.out.1;have e2:p+C.length=s:=by have:=F.out;omega
   have e3:s+D.length=f:=by have:=F.out;omega
   rw[e1,e2,e3]at O;unfold cvP at O;have K:(p:Int)<(s:Int):=by omega
   have U:(s:Int)<(f:Int):=by omega
   have d1:decide (p<s)=true:=decide_eq_true hg.1;have d2:decide (s<f)=true:=decide_eq_true hg.2;have HR:Hid (∀w',SortP B b L A P (C++D) (o++u++Q) E w2 w'->∃H:List Nat,H.Perm (C++D)/\H.Pairwise E/\OwnP B w' b L A ((P++H)++o++u++Q)/\But (fun k=>k=b) w w'):=fun w' ⟨M,h1,h2,h3,h4⟩=>by
    refine⟨M,h1,h2,?_,ag.out.2.trans h4 (fun _ h _=>h)⟩;have e:(P++M)++o++u++Q=P++M++(o++u++Q):=by simp only[List.append_assoc]
    rw[e];exact h3
   clear e1 e2 e3 hg ab
   go_wp2_with fail
   refine O.mono ?_;rintro e w1 ⟨rfl,r⟩;have HF:Hid (∃H:List Nat,H.Perm (C++D)/\H.Pairwise E/\OwnP B w1 b L A ((P++H)++o++u++Q)/\But (fun k=>k=b) w w1):=HR.out w1 r;clear O r HR;go_wp2;go_meet
   case rel=>exact HF.out
  case false =>
   have hg:¬(p<s/\s<f):=of_decide_eq_false (am.out.trans ab);have HF:Hid (∃H:List Nat,H.Perm (C++D)/\H.Pairwise E/\OwnP B w2 b L A ((P++H)++o++u++Q)/\But (fun k=>k=b) w w2):=by
    refine⟨C++D,List.Perm.refl _,?_,?_,ag.out.2⟩
    ·have g3:=F.out;by_cases e:p<s
     ·have:D= []:=List.length_eq_zero_iff.1 (by omega);rw[this,List.append_nil];exact ac.out.1
     ·have:C= []:=List.length_eq_zero_iff.1 (by omega);rw[this,List.nil_append];exact ac.out.2.2.1
    ·have e:(P++(C++D))++o++u++Q=P++C++D++(o++u++Q):=by simp only[List.append_assoc]
     rw[e];exact ag.out.1
   clear hg ab;go_wp2;go_meet
   case rel=>exact HF.out
 case rest =>
 obtain⟨H,bk,a7,a8,ba⟩:=hcut;have ad:Hid (H.Perm (C++D)/\H.Pairwise E/\OwnP B wc b L A ((P++H)++o++u++Q)/\But (fun k=>k=b) w wc):=⟨bk,a7,a8,ba⟩;clear bk a7 a8 ba ag;generalize wc=w3 at *;have ae:Hid (∀W M2,M2.Perm (o++u)->M2.Pairwise E->OwnP B W b L A ((P++H)++M2++Q)->But (fun k=>k=b) w W->SortP B b L A P (X++Y) Q E w W):=fun W M2 h1 h2 h3 h4=>by
  obtain⟨K,U,_,_⟩:=ad.out;refine⟨H++M2,?_,?_,?_,h4⟩
  ·rw[V.out.1,V.out.2];have e1:(H++M2).Perm ((C++D)++(o++u)):=K.append h1;refine e1.trans ?_;have e2:(C++D)++(o++u)=C++((D++o)++u):=by simp only[List.append_assoc]
   have e3:(C++o)++(D++u)=C++((o++D)++u):=by simp only[List.append_assoc]
   rw[e2,e3];exact(List.perm_append_comm.append_right u).append_left C
  ·rw[List.pairwise_append];exact⟨U,h2,fun a ha c O=>br.out a (K.subset ha) c (h1.subset O)⟩
  ·have e:P++(H++M2)++Q=(P++H)++M2++Q:=by simp only[List.append_assoc]
   rw[e];exact h3
 have bz:Hid ((P++H).length=f):=by
  have g3:=F.out;have g4:=ad.out.1.length_eq;rw[List.length_append]at g4;show (P++H).length=f;rw[List.length_append];omega
 by_cases hg:f<v/\v<q
 ·have O:=be.out (P++H) o u Q w3 (by have:=F.out;have:=an.out;omega) (by have:=F.out;omega) (by have:=F.out;omega) ad.out.2.2.1 ((aa.out.2.2.2.but ad.out.2.2.2).sub (fun x hx=>by
   rw[List.mem_append]at hx ⊢;rcases hx with hx | hx
   ·exact Or.inl (Z.out.2.1 x hx)
   ·exact Or.inr (Z.out.2.2.2 x hx))) ac.out.2.1 ac.out.2.2.2 (fun x hx y hy=>aa.out.2.2.1 x (Z.out.2.1 x hx) y (Z.out.2.2.2 y hy))
  have e2:f+o.length=v:=by have:=F.out;omega
  have e3:v+u.length=q:=by have:=F.out;omega
  rw[bz.out,e2,e3]at O;unfold cvP at O;have K:(f:Int)<(v:Int):=by omega
  have U:(v:Int)<(q:Int):=by omega
  have d1:decide (f<v)=true:=decide_eq_true hg.1;have d2:decide (v<q)=true:=decide_eq_true hg.2;have HR:Hid (∀w',SortP B b L A (P++H) (o++u) Q E w3 w'->SortP B b L A P (X++Y) Q E w w'):=fun w' ⟨M,h1,h2,h3,h4⟩=>ae.out w' M h1 h2 h3 (ad.out.2.2.2.trans h4 (fun _ h _=>h));clear e2 e3 hg ae
  go_wp2_with fail
  refine O.mono ?_;rintro e w1 ⟨rfl,r⟩;have HF:Hid (SortP B b L A P (X++Y) Q E w w1):=HR.out w1 r;clear O r HR;go_wp2;go_end0;exact⟨rfl,HF.out⟩
 ·have HF:Hid (SortP B b L A P (X++Y) Q E w w3):=by
   refine ae.out w3 (o++u) (List.Perm.refl _) ?_ ?_ ad.out.2.2.2
   ·have g3:=F.out;by_cases e:f<v
    ·have:u= []:=List.length_eq_zero_iff.1 (by omega);rw[this,List.append_nil];exact ac.out.2.1
    ·have:o= []:=List.length_eq_zero_iff.1 (by omega);rw[this,List.nil_append];exact ac.out.2.2.2
   ·have e:(P++H)++(o++u)++Q=(P++H)++o++u++Q:=by simp only[List.append_assoc]
    rw[e];exact ad.out.2.2.1
  by_cases r:f<v
  ·have K:(f:Int)<(v:Int):=by omega
   have U:¬(v:Int)<(q:Int):=by omega
   have d1:decide (f<v)=true:=decide_eq_true r;have d2:decide (v<q)=false:=decide_eq_false (by omega);clear hg r ae;go_wp2;go_end0;exact⟨rfl,HF.out⟩
  ·have K:¬(f:Int)<(v:Int):=by omega
   have d1:decide (f<v)=false:=decide_eq_false r;clear hg r ae;go_wp2;go_end0;exact⟨rfl,HF.out⟩
theorem za1b (B b L c:Nat) (f:Nat->Nat->Bool) (d:Nat->Nat->Prop) (g:∀x y z,d x y->d y z->d x z) (i:L<=100000):∀n,MergeS B b L c f d n
 | 0=>fun P X Y Q w h h1 h2=>by omega
 | n+1=>fun P X Y Q w h h1 h2 ho hask hX hY hag=>by
  have j:=za1b B b L c f d g i n;by_cases k:X.length+Y.length<=n
  ·exact j P X Y Q w k h1 h2 ho hask hX hY hag
  ·by_cases l:X.length=1
   ·obtain⟨x,rfl⟩:=List.length_eq_one_iff.1 l;exact zc3q B b L c f d g i P Y Q x w h2 ho hask hY (hag x (List.mem_singleton.2 rfl))
   ·by_cases m:Y.length=1
    ·obtain⟨y,rfl⟩:=List.length_eq_one_iff.1 m;exact zc3r B b L c f d g i P X Q y w (by omega) ho hask hX (fun x hx=>hag x hx y (List.mem_singleton.2 rfl))
    ·exact zc3t B b L c f d g i n j P X Y Q w (by omega) (by omega) (by omega) ho hask hX hY hag
def seg (l:List Nat) (a b:Nat):List Nat:=(l.take b).drop a
theorem zc0 (l:List Nat) (a b:Nat):(seg l a b).length=min b l.length-a:=by unfold seg;rw[List.length_drop,List.length_take]
theorem zs7 (l:List Nat) {a b:Nat} (h:a<=b):l=l.take a++seg l a b++l.drop b:=by
 have e:(l.take b).take a=l.take a:=by rw[List.take_take,Nat.min_eq_left h]
 have c:l.take b=l.take a++seg l a b:=by
  unfold seg;rw[<-e,List.take_append_drop]
 rw[<-c,List.take_append_drop]
theorem zs8 (l:List Nat) {a b c:Nat} (i:a<=b) (g:b<=c):seg l a b++seg l b c=seg l a c:=by
 unfold seg;have e:l.take b=(l.take c).take b:=by rw[List.take_take,Nat.min_eq_left g]
 rw[e];generalize l.take c=m;have d:m.drop b=(m.drop a).drop (b-a):=by rw[List.drop_drop];congr 1;omega
 have f:(m.take b).drop a=(m.drop a).take (b-a):=by rw[List.drop_take]
 rw[d,f,List.take_append_drop]
theorem zb5 (l:List Nat) {a b:Nat} (h:l.length<=b):seg l a b=l.drop a:=by unfold seg;rw[List.take_of_length_le h]
theorem za1c {l l' M:List Nat} {a b:Nat} (g:l'=l.take a++M++l.drop b) (q:a<=b) (r:b<=l.length) (s:M.length=b-a):(∀c d,d<=a->seg l' c d=seg l c d)/\(∀c d,b<=c->seg l' c d=seg l c d)/\seg l' a b=M/\l'.length=l.length:=by
 have f:(l.take a).length=a:=by rw[List.length_take];omega
 have j:l'.length=l.length:=by
  rw[g,List.length_append,List.length_append,f,List.length_drop];omega
 refine⟨fun c d hd=>?_,fun c d hc=>?_,?_,j⟩
 ·unfold seg;congr 1;rw[g,List.append_assoc,List.take_append_of_le_length (by omega),List.take_take,Nat.min_eq_left hd]
 ·unfold seg;have e:∀m:List Nat,(m.take d).drop c=(m.drop c).take (d-c):=fun m=>by rw[List.drop_take]
  rw[e,e];congr 1;have k:l'.drop b=l.drop b:=by
   rw[g,List.drop_append];have n:b-(l.take a++M).length=0:=by rw[List.length_append,f];omega
   rw[n,List.drop_zero,List.drop_eq_nil_of_le (by rw[List.length_append,f];omega),List.nil_append]
  have o:c=b+(c-b):=by omega
  rw[o,<-List.drop_drop,<-List.drop_drop,k]
 ·unfold seg;have p:l'.take b=l.take a++M:=by
   rw[g,List.take_append_of_le_length (by rw[List.length_append,f];omega),List.take_of_length_le (by rw[List.length_append,f];omega)]
  rw[p];have i:=List.drop_left (l₁:=l.take a) (l₂:=M);rw[f]at i;exact i
theorem za1d {l:List Nat} {a b x:Nat} (h:x∈seg l a b):∃i,∃hi:i<l.length,a<=i/\i<b/\l[i]=x:=by
 unfold seg at h;obtain⟨j,c,rfl⟩:=List.mem_drop_iff_getElem.1 h;rw[List.length_take]at c;refine⟨a+j,by omega,by omega,by omega,?_⟩;rw[List.getElem_take]
def Sg (lt:Nat->Nat->Prop) (D E:List Nat) (a b:Nat):Prop:=(seg E a b).Perm (seg D a b)/\(seg E a b).Pairwise lt
inductive Bks (lt:Nat->Nat->Prop) (D E:List Nat) (z:Nat):Nat->Prop
 | done {c:Nat} :E.length<=c->Bks lt D E z c
 | step {c:Nat} :Sg lt D E c (c+z)->Bks lt D E z (c+z)->Bks lt D E z c
inductive Pfx (lt:Nat->Nat->Prop) (D E:List Nat) (z:Nat):Nat->Prop
 | zero:Pfx lt D E z 0
 | next {c:Nat} :Pfx lt D E z c->Sg lt D E c (c+z)->Pfx lt D E z (c+z)
theorem Pfx.all {b:Nat->Nat->Prop} {D E:List Nat} {z c:Nat} (h:Pfx b D E z c):Bks b D E z c->Bks b D E z 0:=by
 induction h with
 | zero=>exact fun h=>h
 | next h1 h2 ih=>exact fun h=>ih (Bks.step h2 h)
theorem Pfx.same {b:Nat->Nat->Prop} {D E E':List Nat} {z a:Nat} (g:∀c d,d<=a->seg E' c d=seg E c d) {c:Nat} (h:Pfx b D E z c):c<=a->Pfx b D E' z c:=by
 induction h with
 | zero=>exact fun _=>Pfx.zero
 | next h1 h2 ih =>
  intro f;refine Pfx.next (ih (by omega)) ?_;unfold Sg at *;rw[g _ _ f];exact h2
theorem Bks.same {f:Nat->Nat->Prop} {D E E':List Nat} {z b:Nat} (i:∀c d,b<=c->seg E' c d=seg E c d) (j:E'.length=E.length) {c:Nat} (h:Bks f D E z c):b<=c->Bks f D E' z c:=by
 induction h with
 | done h=>exact fun _=>Bks.done (by rw[j];exact h)
 | step h1 h2 ih =>
  intro g;refine Bks.step ?_ (ih (by omega));unfold Sg at *;rw[i _ _ g];exact h1
theorem Bks.whole {c:Nat->Nat->Prop} {D E:List Nat} {z:Nat} (h:Bks c D E z 0) (f:D.length=E.length) (g:E.length<=z):E.Perm D/\E.Pairwise c:=by
 cases h with
 | done h =>
  have b:E= []:=List.length_eq_zero_iff.1 (by omega);have d:D= []:=List.length_eq_zero_iff.1 (by rw[f,b];rfl);rw[b,d];exact⟨List.Perm.refl _,List.Pairwise.nil⟩
 | step h1 _ =>
  unfold Sg at h1;rw[zb5 E (by omega),zb5 D (by omega),List.drop_zero,List.drop_zero]at h1;exact h1
theorem za8z {f:Nat->Nat->Prop} {D E E' M:List Nat} {a m b:Nat} (g:a<=m) (i:m<=b) (q:b<=E.length) (r:Sg f D E a m) (s:Sg f D E m b) (j:M.Perm (seg E a m++seg E m b)) (t:M.Pairwise f) (u:E'=E.take a++M++E.drop b) :
  Sg f D E' a b/\(∀c d,d<=a->seg E' c d=seg E c d)/\(∀c d,b<=c->seg E' c d=seg E c d)/\E'.length=E.length:=by
 have k:M.length=b-a:=by
  rw[j.length_eq,zs8 E g i,zc0];omega
 obtain⟨l,n,o,p⟩:=za1c u (by omega) q k;refine⟨?_,l,n,p⟩;unfold Sg;rw[o];refine⟨?_,t⟩;rw[<-zs8 D g i];exact j.trans (r.1.append s.1)
theorem za9a {d:Nat->Nat->Bool} {c:Nat->Nat->Prop} {D E:List Nat} {a m b:Nat} (k:D.Pairwise (Agree d c)) (l:Sg c D E a m) (n:Sg c D E m b):∀x∈seg E a m,∀y∈seg E m b,Agree d c x y:=fun x hx y hy=>by
 obtain⟨i,f,_,o,rfl⟩:=za1d (l.1.subset hx);obtain⟨j,g,p,_,rfl⟩:=za1d (n.1.subset hy);exact List.pairwise_iff_getElem.1 k i j f g (by omega)
theorem zs9 {c:Nat->Nat->Prop} {D E:List Nat} {a b:Nat} (h:Sg c D E a b):∀x∈seg E a b,x∈D:=fun x hx=>by
 obtain⟨i,d,_,_,rfl⟩:=za1d (h.1.subset hx);exact List.getElem_mem _
end Go.Proofs.YtgckdomafbnmkaaGreatDoor
