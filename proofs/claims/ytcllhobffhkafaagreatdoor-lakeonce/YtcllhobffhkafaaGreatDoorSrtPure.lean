/- By an AI agent. -/
import Derived.Test.YtcllhobffhkafaaGreatDoorSortShelf
import Derived.Lib.OwnBridge
import Derived.Shelf.Abstract
set_option maxRecDepth 100000
set_option maxHeartbeats 16000000
open Go.Proofs.Tryz
open Bool renaming true->A,false->Qk,not_eq_true'->QA
open Go renaming World->I,Value->G,wpList_append_own->Qv,maxLen->Q0,wp_loop_rounds->Q1,rounds_succ->Q2
open Go.Ending renaming returned->V
open Go.IntKind renaming i64->U
open Go.Lib renaming compareBytes->Ql
open Go.Obj renaming cells->Qa
open Go.Op renaming bytesLess->Qo
open Go.Proofs renaming ltOf->Qc,intOf->Qt
open Go.Proofs.Tryz renaming prog->S,underlying35->Qr,func159->Qx,func17->Q3,ntmps17->Q4,func26->Q5,ntmps26->Q6,ntmps159->Q7
open Go.RowKit.Below renaming refl->Qe
open Go.Value renaming int->O,string->J,agg->Qb,slice->Qd,bool->Qi,ownBlock->Qs,pointer->Qw
open Go.World renaming ownsRow_nil->Qj
open List renaming getElem?_eq_getElem->Qm,mem_cons->Qp,pairwise_cons->Qy,getElem?_eq_none->Qz,mergeSort_perm->Q8,pairwise_mergeSort->Q9
open Nat renaming le_refl->Qg,le_trans->Qn,lt_or_ge->Qq,zero_add->Qu
open Option renaming some->Z,none->H
open Or renaming inr->Qf,inl->Qh
namespace Go.Proofs.YtcllhobffhkafaaGreatDoor
open Go.RowKit Go.Extern.Stop Go.Stop Go.Extern Go.Sort Go.Shelf Go.Lib
def A5 (xs:List Rw):List Rw:=xs.mergeSort fun x y=> !(Qc AM) y x
theorem Hi (xs:List Rw):(A5 xs).length=xs.length:=by simp[A5]
theorem Ej (xs:List Rw):(A5 xs).Perm xs:=Q8 _ _
theorem aT (c d b:Nat) (w:I):CmpLays S 104 #[] AN 3 AM c d b w :=
 fun _ _ _ _ x y=>Rj x y _
theorem aU {w:I} {base:Nat} {v:G} {n:Nat} {xs:List Rw} (h:w.ownsRow base 62 3 v n (A2 xs)) (s:v≠ Qd H 0 0) :
  ∃g cap,v=Qd (Z ⟨g,0,H⟩) xs.length cap/\base<=g/\g<w.heap.size/\HoldsK AN 3 w g 0 xs.toArray:=by
 obtain⟨o,h⟩:=h;have m:n=xs.length:=by rw[FA]at o;omega
 subst m;rcases h with⟨e,_⟩|⟨g,cap,l,rfl,q,b,_,_,_,r⟩
 ·exact absurd e s
 ·have f:g<w.heap.size:=by
   rcases Qq g w.heap.size with d | d
   ·exact d
   ·rw[Array.getElem?_eq_none d]at b;cases b
  refine⟨g,cap,rfl,q,f,?_⟩;unfold HoldsK;rw[Rv];intro j p;have c:j<xs.length*3:=by simpa [FA] using p
  refine⟨?_,by simp[World.frozen?,b]⟩;have i:(l.toList.take (xs.length*3))[j]? =(A2 xs)[j]? :=by rw[r]
  rw[List.getElem?_take,if_pos c,Array.getElem?_toList]at i;simp only[World.cell?,b,Qu];rw[i];have k:j<(A2 xs).length:=by rw[FA];exact c
  simp[Qm k]
theorem aV {w:I} {g:Nat} {xs:List Rw} (h:HoldsK AN 3 w g 0 xs.toArray):Ei w g 0 xs:=by
 refine Rt fun t u hu=>?_;have b:t<(A2 xs).length:=by
  rcases Qq t (A2 xs).length with c | c
  ·exact c
  ·rw[Qz c]at hu;cases hu
 unfold HoldsK at h;rw[Rv]at h;have:=(h t (by simpa using b)).1;rw[this];rw[Qm b]at hu;simpa [Qm b] using hu
theorem Tryz.rowInfo3:(Tryz.prog.info? 62).map (fun i=>(i.zero,i.size,i.bytes))=Z (Z (Qb #[J ⟨#[]⟩,O U 0,O U 0]),3,32):=by kernel_rfl
theorem Tryz.rowInfo:∃i0:TypeInfo,Tryz.prog.info? 62=Z i0/\i0.zero=Z (Qb #[J ⟨#[]⟩,O U 0,O U 0])/\i0.size=3/\i0.bytes=32:=by
 obtain⟨i,b,h⟩:=Option.map_eq_some_iff.1 Tryz.rowInfo3;simp only[Prod.mk.injEq]at h;exact⟨i,b,h.1,h.2.1,h.2.2⟩
theorem aW (g:Addr) (c:Nat) (w:I) :
  Calls S 102 #[Qd (Z g) 0 c] w fun e w'=> ∃v',e=V v'/\w'.ownsRow w.heap.size 62 3 v' ([]:List Rw).length (A2 [])/\BL w w':=by
 obtain⟨i,l,m,o,f⟩:=Tryz.rowInfo;have t:=fun w a n c n' c'=>Lib.run_eql_slice_nil w _ _ a n c n' c' Qr
 go_enter func102,ntmps102
 go_wp2_with (at_builtin;refine Qv _ rfl _ _ 35 rfl w.heap.size 62 i (Qb #[J ⟨#[]⟩,O U 0,O U 0]) 3 32 Qr l m o f rfl (by decide) _ _ _ rfl (World.ownsRow_made w #[] 0 (Qg _) (Nat.zero_le _) (by simp)) g 0 c [] rfl ?qc1 ?qc2 ?qc3 ?qc4 ?qc5 ?qc6 ?_)
 case qc1=>rfl
 case qc2=>intro j u p;simp at p
 case qc3=>intro u q;cases q
 case qc4=>decide
 case qc5=>decide
 case qc6=>simp
 intro v' v d b r;go_wp2;go_ret;refine⟨v',rfl,by simpa [A2] using d,?_⟩;exact((Qe _ w).alloc (Qg _) _).grown b (by simp) (by intro k s;simp[Qs]at s;omega)
theorem L6 (v:G) (xs:List Rw) (w:I) (h:Ar w v xs) (n:xs.length<=20000) :
  Calls S 102 #[v] w fun e w'=> ∃v',e=V v'/\w'.ownsRow w.heap.size 62 3 v' xs.length (A2 xs)/\BL w w':=by
 rcases h with⟨p,c,rfl,rfl⟩|⟨b,o,g,rfl,m⟩
 ·cases p with
  | none =>
   have d:=AnyE.slices_Clone_nil cloneRow 0 c w;change Calls S 102 _ _ _ at d;refine d.mono fun e w' ⟨he,hw⟩=>⟨_,he,?_,?_⟩
   ·exact Qj _ _ _ _
   ·subst hw;exact Qe _ _
  | some ad=>exact aW ad c w
 ·obtain⟨i,j,k,l,f⟩:=Tryz.rowInfo;have d:=AnyE.slices_Clone cloneRow i _ 3 32 j k l f rfl (by decide) sizeOf62 b o xs.length g (A2 xs) w (FA xs) (by unfold Q0;omega) (by omega) (L4 m) (L3 xs);change Calls S 102 _ _ _ at d;exact d.mono fun e w' ⟨v',he,ho,_,hb⟩=>⟨v',he,ho,hb⟩
theorem Nr (v:G) (xs:List Rw) (B:Nat) (w0 w:I) (r:Below B w0 w) (C:B<=w0.heap.size) (h:w.ownsRow B 62 3 v xs.length (A2 xs)) (E:xs.length<=20000) :
  Calls S 103 #[v,.func (.func 104) #[] #[]] w fun e w'=>e=V (.tuple #[])/\Ar w' v (A5 xs)/\Below B w0 w'/\∀(k:Nat) (d:Array G) (t:TypeId) (f:Nat×Nat),w.heap[k]? =Z (Qa d t f)->∃cs',w'.heap[k]? =Z (Qa cs' t f):=by
 by_cases l:v=Qd H 0 0
 ·subst l;have s:xs= []:=by
   rcases h.2 with⟨_,z⟩|⟨g,c,D,e,_⟩
   ·exact List.length_eq_zero_iff.1 z
   ·cases e
  subst s;have b:=AnyF.slices_SortFunc_none sortRow H 0 (.func (.func 104) #[] #[]) w;change Calls S 103 _ _ _ at b;refine b.mono fun e w' ⟨he,hw⟩=>⟨he,Qh ⟨H,0,rfl,by simp[A5]⟩,?_⟩;subst hw;exact⟨r,fun k d t f h=>⟨d,h⟩⟩
 ·obtain⟨g,c,rfl,p,i,q⟩:=aU h l;have u:=enters_of func104 (by kernel_rfl) rfl;have b:=AnyQ.slices_SortFunc_total sortRow 3 isAgg62 sizeOf62 AN Km IF AM Lt 104 #[] g 0 c xs.toArray w u (aT _ _ _ _) q i (by simp;omega) Ri;change Calls S 103 _ _ _ at b;rw[List.size_toArray]at b;refine b.mono fun e w' ⟨he,n,os,hw⟩=>⟨he,?_,?_,?_⟩
  ·subst hw;refine Qf ⟨g,0,c,by rw[Hi],aV ?_⟩;exact holdsK_sortWorldK AN 3 w g 0 n xs.toArray (A5 xs).toArray os i q (by simp[Hi])
  ·subst hw;have m:Below B w0 (putRowK AN 3 (Sort.ahead w n) g 0 (xs.toArray.toList.mergeSort fun x y=> !(Qc AM) y x).toArray):=below_putRow r p;exact m.trans ((Hg os).mono (Qn C m.size))
  ·subst hw;intro k d t f j;have o:=(Array.getElem?_eq_some_iff.1 j).1;simp only[sortWorldK,grow,putRowK,putRow,mapBlock,Sort.ahead];rw[Array.getElem?_append_left (by simpa using o),Array.getElem?_modify];split
   ·exact⟨_,by rw[j];rfl⟩
   ·exact⟨d,j⟩
theorem aX (v:G) (xs:List Rw) (w:I) (h:Ar w v xs) (d:xs.length<=20000) :
  Calls S 53 #[v] w fun e w'=> ∃v',e=V v'/\Ar w' v' (A5 xs)/\BL w w':=by
 have f:=L6 v xs w h d
 go_enter func53,ntmps53
 go_wp2_with (first
  | (go_at_call 102;refine f.mono ?_;rintro e i ⟨j,rfl,b,k⟩;have g:=Nr j xs w.heap.size w i k (Qg _) b d;clear b)
  | (go_at_call 103;refine g.mono ?_;rintro e m ⟨rfl,l,c,-⟩))
 go_ret;exact⟨_,rfl,l,c⟩
theorem ze0 (p q:Option Addr) (n m c d:Nat) (w:I) (f:n=0\/m=0) (g:n<=20000) (i:m<=20000) :
  Calls S 52 #[Qd p n c,Qd q m d] w fun e w'=>e=V (Qi (decide (n=m)))/\w'=w:=by
 by_cases e:n=m
 ·obtain rfl:n=0:=by omega
  subst e
  go_enter func52,ntmps52
  go_wp2;refine Q1 1 ?_;rw[Q2];go_wp2;go_ret;exact⟨rfl,rfl⟩
 ·have b:((n:Int) == (m:Int))=Qk:=by simp;omega
  go_enter func52,ntmps52
  go_wp2;go_ret;exact⟨by simp[e],rfl⟩
theorem aY (w:I) (q:Nat):BL w (w.drewN q):=⟨rfl,rfl,rfl,Qg _,fun _ _=>rfl⟩
theorem aZ (x y:Rw) (w:I) :
  Calls S 355 #[Qb #[J x.1,O U x.2.1,O U x.2.2],Qb #[J y.1,O U y.2.1,O U y.2.2]] w fun e w'=>e=V (Qi (Qc AM x y))/\BL w w':=by
 have c:=Rj x y;unfold Qc;obtain⟨d,f,g⟩:=x;obtain⟨i,j,k⟩:=y;have b:BL w ((w.alloc (Qa #[J d,O U f,O U g] 62)).alloc (Qa #[J i,O U j,O U k] 62)):=(Af _ _).alloc (by simp) _
 go_enter func355,ntmps355
 go_wp2_with (go_at_call 104;refine(c _).mono ?_;rintro e m ⟨rfl,q,l,n⟩)
 go_ret;refine⟨rfl,?_⟩;exact(AH b q).trans ((Hg l).mono (AH b q).size)
theorem bA {xs ys:List Rw} {n:Nat} (h:∀i,i<n->xs[i]? =ys[i]?) (e:xs[n]? =ys[n]?):∀i,i<n+1->xs[i]? =ys[i]? :=fun i hi=>by
 rcases Qq i n with b | b
 ·exact h i b
 ·obtain rfl:i=n:=by omega
  exact e
theorem bC (b o W X Y z:Nat) (xs ys:List Rw) (w:I) (hx:Ei w b o xs) (hy:Ei w W X ys) (hl:xs.length<=20000) (he:xs.length=ys.length) :
  Calls S 17 #[Qd (Z ⟨b,o,H⟩) xs.length Y,Qd (Z ⟨W,X,H⟩) ys.length z] w fun e w'=>e=V (Qi (decide (xs=ys)))/\∃n,w'=w.drewN n:=by
 rw[<-he];generalize Q:xs.length=L at hl ⊢;have B:Hid _:=Q;have C:Hid _:=he▸Q;generalize g:decide (xs=ys)=r;have D:Hid _:=g
 go_enter Q3,Q4
 go_wp2
 go_loopw [5] (fun k wr=> ∃n:Nat,n<=L/\(∀i,i<n->xs[i]? =ys[i]?)/\k=O U n/\∃m,wr=w.drewN m) (fun k _=>L-(Qt k).toNat)
 case atStart=>exact ⟨0,by omega,by omega,rfl,0,rfl⟩
 case round =>
  obtain⟨n,hn,ht,rfl,m,rfl⟩:=hrel;have E:Hid _:=ht;by_cases j:n<L
  ·have d:n<xs.length:=by rw[B.out];exact j
   have f:n<ys.length:=by rw[C.out];exact j
   obtain⟨h1,h2,h3⟩:=hx n d;obtain⟨k1,k2,k3⟩:=hy n f;have c:=Rl.1 xs[n] ys[n];have aa:=Rl.2;generalize R:xs[n]=x at h1 h2 h3 c;generalize T:ys[n]=y at k1 k2 k3 c;have F:Hid _:=R;have K:Hid _:=T;obtain⟨p,q,s⟩:=x;obtain⟨t,u,v⟩:=y;simp only[AN]at c;by_cases e:((p,q,s):Rw)=(t,u,v)
   ·have M:∀w,Sem.run S (binOp .neq 62 (Qb #[J p,O U q,O U s]) (Qb #[J t,O U u,O U v])) w= .ok (Qi Qk) w:=fun w=>by rw[c w,decide_eq_true e];rfl
    have l:Hid _:=e;go_wp2
    go_quiet (fail)
    go_wp2;go_roundw
    case rel=>exact ⟨n+1,by omega,bA E.out (by rw[Qm d,Qm f,F.out,K.out,l.out]),by go_num,_,rfl⟩
    case measure=>simp [Qt];omega
   ·have M:∀w,Sem.run S (binOp .neq 62 (Qb #[J p,O U q,O U s]) (Qb #[J t,O U u,O U v])) w= .ok (Qi A) w:=fun w=>by rw[c w,decide_eq_false e];rfl
    have l:Hid _:=e;have g:r=Qk:=by
     rw[<-D.out,decide_eq_false_iff_not];intro e';subst e';exact l.out (F.out.symm.trans K.out)
    subst g;go_wp2
    go_quiet (fail)
    go_wp2;go_ret;exact⟨rfl,_,World.drewN_drewN _ _ _⟩
  ·have g:r=A:=by
    rw[<-D.out,decide_eq_true_eq];refine List.ext_getElem? fun i=>?_;rcases Qq i n with P | P
    ·exact E.out i P
    ·rw[Qz (by rw[B.out];omega),Qz (by rw[C.out];omega)]
   subst g;have N:n=L:=by omega
   subst N;go_wp2;go_ret;exact⟨rfl,m,rfl⟩
theorem L9 (p q:Option Addr) (n m c d:Nat) (w:I) (f:n≠m\/n=0) (g:n<=20000) (i:m<=20000) :
  Calls S 17 #[Qd p n c,Qd q m d] w fun e w'=>e=V (Qi (decide (n=m)))/\w'=w:=by
 by_cases e:n=m
 ·obtain rfl:n=0:=by omega
  subst e
  go_enter Q3,Q4
  go_wp2;refine Q1 1 ?_;rw[Q2];go_wp2;go_ret;exact⟨rfl,rfl⟩
 ·have b:((n:Int) == (m:Int))=Qk:=by simp;omega
  go_enter Q3,Q4
  go_wp2;go_ret;exact⟨by simp[e],rfl⟩
theorem Ry (v v':G) (xs ys:List Rw) (w:I) (h:Ar w v xs) (t:Ar w v' ys) (n:xs.length<=20000) (j:ys.length<=20000) :
  Calls S 17 #[v,v'] w fun e w'=>e=V (Qi (decide (xs=ys)))/\BL w w':=by
 have k:∀zs:List Rw,decide (0=zs.length)=decide (([]:List Rw)=zs):=fun zs=>by cases zs<;>simp
 rcases h with⟨p,c,rfl,rfl⟩|⟨b,o,g,rfl,u⟩
 ·rcases t with⟨l,m,rfl,rfl⟩|⟨r,s,f,rfl,i⟩
  ·refine(L9 p l 0 0 c m w (Qf rfl) (by omega) (by omega)).mono fun e w' ⟨he,hw⟩=>⟨he,?_⟩;subst hw;exact Qe _ _
  ·refine(L9 p _ 0 ys.length c f w (Qf rfl) (by omega) j).mono fun e w' ⟨he,hw⟩=>⟨by rw[he,k],?_⟩;subst hw;exact Qe _ _
 ·rcases t with⟨l,m,rfl,rfl⟩|⟨r,s,f,rfl,i⟩
  ·refine(L9 _ l xs.length 0 g m w (by omega) n (by omega)).mono fun e w' ⟨he,hw⟩=>⟨?_,?_⟩
   ·rw[he];cases xs<;>simp
   ·subst hw;exact Qe _ _
  ·by_cases d:xs.length=ys.length
   ·refine(bC b o r s g f xs ys w u i n d).mono fun e w' ⟨he,q,hw⟩=>⟨he,?_⟩;subst hw;exact aY w q
   ·refine(L9 _ _ xs.length ys.length g f w (Qh d) n j).mono fun e w' ⟨he,hw⟩=>⟨?_,?_⟩
    ·rw[he];have:¬xs=ys:=fun e=>d (e▸rfl);simp[this,d]
    ·subst hw;exact Qe _ _
theorem Rz (v:G) (xs:List Rw) (w:I) (h:Ar w v xs) (F:xs.length<=20000) :
  Calls S 26 #[v] w fun e w'=> ∃v',e=V v'/\w'.ownsRow w.heap.size 62 3 v' xs.length (A2 xs)/\BL w w':=by
 rcases h with⟨p,c,rfl,rfl⟩|⟨b,o,y,rfl,D⟩
 ·cases p with
  | none =>
   go_enter Q5,Q6
   go_wp2;go_ret;exact⟨_,rfl,Qj _ _ _ _,Qe _ _⟩
  | some ad =>
   obtain⟨l,m,n,q,i⟩:=Tryz.rowInfo
   go_enter Q5,Q6
   go_wp2_with (at_builtin;refine Qv _ rfl _ _ 35 rfl w.heap.size 62 l (Qb #[J ⟨#[]⟩,O U 0,O U 0]) 3 32 Qr m n q i rfl (by decide) _ _ _ rfl (Qj w w.heap.size 62 3) ad 0 c [] rfl ?qc1 ?qc2 ?qc3 ?qc4 ?qc5 ?qc6 ?_)
   case qc1=>rfl
   case qc2=>intro j u r;simp at r
   case qc3=>intro u B;cases B
   case qc4=>decide
   case qc5=>decide
   case qc6=>exact Qg _
   intro v' C g f s;go_wp2;go_ret;refine⟨v',rfl,by simpa [A2] using g,?_⟩;exact(Qe _ w).grown f (Qg _) (by intro k t;simp[Qs]at t)
 ·obtain⟨l,m,n,q,i⟩:=Tryz.rowInfo;have d:Hid (Ei w b o xs):=D;generalize E:xs.length=L at F ⊢;have z:Hid (xs.length=L):=E
  go_enter Q5,Q6
  go_wp2_with (at_builtin;refine Qv _ rfl _ _ 35 rfl w.heap.size 62 l (Qb #[J ⟨#[]⟩,O U 0,O U 0]) 3 32 Qr m n q i rfl (by decide) _ _ _ rfl (Qj w w.heap.size 62 3) ⟨b,o,H⟩ L y (A2 xs) rfl ?qc1 ?qc2 ?qc3 ?qc4 ?qc5 ?qc6 ?_)
  case qc1=>rw [FA,z.out]
  case qc2 =>
   intro j u r;rw[Addr.add_lit];exact L4 d.out j u r
  case qc3=>exact L3 xs
  case qc4=>rw [Qu];unfold Q0;omega
  case qc5=>rw [Qu];omega
  case qc6=>exact Qg _
  intro v' C g f s;go_wp2;go_ret;refine⟨v',rfl,by simpa using g,?_⟩;exact(Qe _ w).grown f (Qg _) (by intro k t;simp[Qs]at t)
theorem E7 {w w':I} {base:Nat} {e:TypeId} {b:Nat} {v:G} {n:Nat} {xs:List G} (h:w.ownsRow base e b v n xs) (p:BL w w'):w'.ownsRow base e b v n xs:=by
 obtain⟨l,c⟩:=h;refine⟨l,?_⟩;rcases c with c | ⟨g,j,k,m,o,d,r⟩
 ·exact Qh c
 ·refine Qf ⟨g,j,k,m,o,?_,r⟩;have i:g<w.heap.size:=by
   rcases Qq g w.heap.size with f | f
   ·exact f
   ·rw[Array.getElem?_eq_none f]at d;cases d
  rw[p.block g i];exact d
theorem Ns (x:Rw):A2 [x]=AN x:=by simp[A2]
theorem Nt (p:Rw->Bool) (xs:List Rw) (n:Nat) (h:n<xs.length):(xs.take (n+1)).filter p=(xs.take n).filter p++if p xs[n] then [xs[n]] else []:=by
 rw[List.take_succ_eq_append_getElem h,List.filter_append];cases b:p xs[n]<;>simp [b]
def R0 (g:Nat) (cb:Array G) (p:Rw->Bool) (w:I):Prop :=
 ∀(x:Rw) (W:I),BL w W->Calls S g (#[Qb #[J x.1,O U x.2.1,O U x.2.2]]++cb) W fun e w'=>e=V (Qi (p x))/\BL W w'
theorem bE (b o af:Nat) (xs:List Rw) (g:Nat) (cb:Array G) (p:Rw->Bool) (w:I) (eg:∀args w,(callFunc g args).run S w= .ok (.enter g args) w) (hx:Ei w b o xs) (hl:xs.length<=20000) (hp:R0 g cb p w) :
  Calls S 49 #[Qd (Z ⟨b,o,H⟩) xs.length af,.func (.func g) #[] cb] w fun e w'=> ∃v',e=V v'/\w'.ownsRow w.heap.size 62 3 v' (xs.filter p).length (A2 (xs.filter p))/\BL w w':=by
 obtain⟨i0,ac,ad,ae,N⟩:=Tryz.rowInfo;generalize hL:xs.length=L at hl ⊢;have Q:Hid _:=hL
 go_enter func49,ntmps49
 go_wp2
 go_loopw [5,10] (fun kept k wr=> ∃n:Nat,n<=L/\k=O U n/\BL w wr/\wr.ownsRow w.heap.size 62 3 kept ((xs.take n).filter p).length (A2 ((xs.take n).filter p))) (fun _ k _=>L-(Qt k).toNat)
 case atStart=>exact ⟨0,by omega,rfl,Qe _ _,by simp[A2];exact Qj _ _ _ _⟩
 case round =>
  obtain⟨n,hn,rfl,D,q⟩:=hrel;by_cases R:n<L
  ·have z:n<xs.length:=by rw[Q.out];exact R
   obtain⟨h1,h2,h3⟩:=hx.below D n z;have T:=Nt p xs n z;generalize ak:xs[n]=x at h1 h2 h3 T;have W:Hid _:=T;obtain⟨f,i,l⟩:=x;have m:BL w (wr.alloc (Qa #[J f,O U i,O U l] 62)):=D.alloc D.size _;have r:=hp (f,i,l) _ m;have y:Hid _:=q;have M:((xs.take n).filter p).length<=n:=Qn (List.length_filter_le _ _) (List.length_take_le _ _);have B:Hid _:=M;have c0:(wr.alloc (Qa #[J f,O U i,O U l] 62)).cell? ⟨wr.heap.size,0,H⟩=Z (J f):=by simp
   have c1:(wr.alloc (Qa #[J f,O U i,O U l] 62)).cell? ⟨wr.heap.size,1,H⟩=Z (O U i):=by simp
   have c2:(wr.alloc (Qa #[J f,O U i,O U l] 62)).cell? ⟨wr.heap.size,2,H⟩=Z (O U l):=by simp
   have C:BL wr (wr.alloc (Qa #[J f,O U i,O U l] 62)):=Af _ _;cases v:p (f,i,l)
   ·rw[v]at r;have s:Hid ((xs.take (n+1)).filter p=(xs.take n).filter p):=by
     have:=W.out;rw[v]at this;simpa [Hid] using this
    go_wp2_with (go_at_fn g;refine r.mono ?_;rintro e P ⟨rfl,c⟩)
    have t:=Ad m c;have X:=Ad C c;go_roundw
    case rel=>exact ⟨n+1,by omega,by go_num,t,by rw[s.out];exact E7 y.out X⟩
    case measure=>simp [Qt];omega
   ·rw[v]at r;have s:Hid ((xs.take (n+1)).filter p=(xs.take n).filter p++ [(f,i,l)]):=by
     have:=W.out;rw[v]at this;simpa [Hid] using this
    generalize hK:(xs.take n).filter p=K at y B s
    go_wp2_with (first
     | (go_at_fn g;refine r.mono ?_;rintro e P ⟨rfl,c⟩;have d0:=Aa c c0;have d1:=Aa c c1;have d2:=Aa c c2)
     | (at_builtin;refine Qv _ rfl _ _ 35 rfl w.heap.size 62 i0 (Qb #[J ⟨#[]⟩,O U 0,O U 0]) 3 32 Qr ac ad ae N rfl (by decide) u5 K.length (A2 K) rfl ?qc0 ⟨P.heap.size,0,H⟩ 1 1 (AN (f,i,l)) rfl ?qc1 ?qc2 ?qc3 ?qc4 ?qc5 ?qc6 ?_))
    case qc0=>exact E7 y.out ((Ad C c).alloc (Qn C.size c.size) _)
    case qc1=>rfl
    case qc2 =>
     intro j u d;rw[Addr.add_lit,Qu]
     match j,d with
     | 0,d=>simp [AN]at d;subst d;simp
     | 1,d=>simp [AN]at d;subst d;simp
     | 2,d=>simp [AN]at d;subst d;simp
     | j+3,d=>simp [AN]at d
    case qc3=>exact IF _
    case qc4=>have:=B.out;unfold Q0;omega
    case qc5=>have:=B.out;omega
    case qc6=>exact Qn m.size (Qn c.size (by simp))
    intro v' w4 E F ag;have t:BL w (P.alloc (Qa #[J f,O U i,O U l] 62)):=(Ad m c).alloc (Qn m.size c.size) _;have Y:=t.grown F t.size (fun k hk=>by
     rcases y.out.2 with⟨e,_⟩|⟨g',ah,ai,e,aj,_⟩
     ·rw[e]at hk;simp[Qs]at hk
     ·rw[e]at hk;simp[Qs]at hk;omega)
    have aa:Hid _:=E;go_wp2;go_roundw
    case rel=>exact ⟨n+1,by omega,by go_num,Y,by rw[s.out,List.length_append,Kn,Ns];exact aa.out⟩
    case measure=>simp [Qt];omega
  ·have ab:n=L:=by omega
   subst ab;have ht:=List.take_of_length_le (by rw[Q.out];omega);rw[ht]at q;have y:Hid _:=q;go_wp2;go_ret;exact⟨u5,rfl,y.out,D⟩
theorem bF (v:G) (xs:List Rw) (g:Nat) (c:Array G) (p:Rw->Bool) (w:I) (k:∀args w,(callFunc g args).run S w= .ok (.enter g args) w) (l:Ar w v xs) (f:xs.length<=20000) (i:R0 g c p w) :
  Calls S 49 #[v,.func (.func g) #[] c] w fun e w'=> ∃v',e=V v'/\w'.ownsRow w.heap.size 62 3 v' (xs.filter p).length (A2 (xs.filter p))/\BL w w':=by
 rcases l with⟨m,n,rfl,rfl⟩|⟨b,o,d,rfl,j⟩
 ·clear i f
  go_enter func49,ntmps49
  go_wp2;refine Q1 1 ?_;rw[Q2];go_wp2;go_ret;exact⟨_,rfl,Qj _ _ _ _,Qe _ _⟩
 ·exact bE b o d xs g c p w k j f i
def Bj (lo hi:Int) (x:Rw):Bool:=decide (lo<=x.2.1) && decide (x.2.1<=hi)
theorem bG (x:Rw) (lo hi:Int) (a c:Addr) (w:I) (k:w.cell? a=Z (O U lo)) (l:w.cell? c=Z (O U hi)) :
  Calls S 159 #[Qb #[J x.1,O U x.2.1,O U x.2.2],Qw (Z a),Qw (Z c)] w fun e w'=>e=V (Qi (Bj lo hi x))/\BL w w':=by
 obtain⟨f,b,g⟩:=x;dsimp only;have m:(w.alloc (Qa #[J f,O U b,O U g] 62)).cell? a=Z (O U lo):=Aa (Af _ _) k;have n:(w.alloc (Qa #[J f,O U b,O U g] 62)).cell? c=Z (O U hi):=Aa (Af _ _) l;by_cases i:lo<=b
 ·by_cases j:b<=hi
  ·have d:Bj lo hi (f,b,g)=A:=by simp[Bj,i,j]
   rw[d]
   go_enter Qx,Q7
   go_wp2;go_ret;exact⟨rfl,Af _ _⟩
  ·have d:Bj lo hi (f,b,g)=Qk:=by simp[Bj,j]
   rw[d]
   go_enter Qx,Q7
   go_wp2;go_ret;exact⟨rfl,Af _ _⟩
 ·have d:Bj lo hi (f,b,g)=Qk:=by simp[Bj,i]
  rw[d]
  go_enter Qx,Q7
  go_wp2;go_ret;exact⟨rfl,Af _ _⟩
theorem bH (v:G) (xs:List Rw) (lo hi:Int) (w:I) (g:Ar w v xs) (i:xs.length<=20000) :
  Calls S 84 #[v,O U lo,O U hi] w fun e w'=> ∃v',e=V v'/\(∃B,B>=w.heap.size/\w'.ownsRow B 62 3 v' (xs.filter (Bj lo hi)).length (A2 (xs.filter (Bj lo hi))))/\BL w w':=by
 have b:BL w ((w.alloc (Qa #[O U lo] 3)).alloc (Qa #[O U hi] 3)):=(Af _ _).alloc (by simp) _;have d:=enters_of Qx (by kernel_rfl) rfl;have hcut:=bF v xs 159 #[Qw (Z ⟨w.heap.size,0,H⟩),Qw (Z ⟨w.heap.size+1,0,H⟩)] (Bj lo hi) _ d (g.below b) i
  (fun x W hW=>bG x lo hi ⟨w.heap.size,0,H⟩ ⟨w.heap.size+1,0,H⟩ W (Aa hW (by simp)) (Aa hW (by simp)))
 go_enter func84,ntmps84
 go_wp2_with (go_at_call 49;refine hcut.mono ?_;rintro e j ⟨k,rfl,f,c⟩)
 go_ret;exact⟨_,rfl,⟨_,b.size,f⟩,(Ad b c)⟩
theorem bI (v:G) (xs:List Rw) (lo hi:Int) (w:I) (b:Ar w v xs) (c:xs.length<=20000) :
  Calls S 84 #[v,O U lo,O U hi] w fun e w'=> ∃v',e=V v'/\Ar w' v' (xs.filter (Bj lo hi))/\BL w w' :=
 (bH v xs lo hi w b c).mono fun _ _ ⟨v',he,⟨_,_,ho⟩,hb⟩=>⟨v',he,(II ho).1,hb⟩
def A3 (w:I) (v:G) (zs:List Int):Prop :=
 (∃p c,v=Qd p 0 c/\zs= [])\/∃b o cap,v=Qd (Z ⟨b,o,H⟩) zs.length cap/\∀j (h:j<zs.length),w.cell? ⟨b,o+j,H⟩=Z (O U zs[j])
theorem A3.below {w w':I} {v:G} {zs:List Int} (h:A3 w v zs) (g:BL w w'):A3 w' v zs:=by
 rcases h with h | ⟨b,o,c,d,f⟩
 ·exact Qh h
 ·exact Qf ⟨b,o,c,d,fun j hj=>Aa g (f j hj)⟩
theorem R3 {zs:List Int} {j:Nat} (h:j<zs.length):zs.getD j 0=zs[j]:=by simp[List.getD,Qm h]
theorem R4 (v:G) (zs:List Int) (w:I) (h:A3 w v zs) (g:zs.length<=20000) :
  Calls S 45 #[v] w fun e w'=> ∃v',e=V v'/\w'.ownsRow w.heap.size 3 1 v' zs.length (zs.map (O U))/\BL w w':=by
 rcases h with⟨p,c,rfl,rfl⟩|⟨b,o,d,rfl,f⟩
 ·cases p with
  | none =>
   refine(slices_Clone_int_nil 0 c w).mono fun e w' ⟨he,hw⟩=>⟨_,he,Qj _ _ _ _,?_⟩;subst hw;exact Qe _ _
  | some ad=>exact (slices_Clone_int_zero ad c w).mono fun e w' ⟨v',he,ho,_,hb⟩=>⟨v',he,ho,hb⟩
 ·refine(slices_Clone_int b o zs.length d zs w (Qg _) (by omega) (fun j hj=>by rw[R3 hj];exact f j hj)).mono fun e w' ⟨v',he,ho,_,hb⟩=>⟨v',he,?_,hb⟩;rw[List.take_length]at ho;exact ho
def Ca (zs:List Int):List Int:=zs.mergeSort fun x y=>decide (x<=y)
theorem Nu (zs:List Int):(Ca zs).length=zs.length:=by simp[Ca]
theorem bJ (zs:List Int) (x:Int):x∈Ca zs↔x∈zs:=(Q8 _ _).mem_iff
theorem bK (zs:List Int):(Ca zs).Pairwise (· <= ·):=by
 have h:=Q9 (le:=fun x y:Int=>decide (x<=y)) (fun a b c h1 h2=>by simp at *;omega) (fun a b=>by simp;omega) zs;exact h.imp fun h=>by simpa using h
theorem bL (x y z:Rw) (b:(!(Qc AM) y x)=A) (c:(!(Qc AM) z y)=A):(!(Qc AM) z x)=A:=by
 simp only[QA]at *;exact Lt.ntrans z y x c b
theorem bM (x y:Rw):((!(Qc AM) y x) || (!(Qc AM) x y))=A:=by
 cases h:Qc AM y x
 ·rfl
 ·cases b:Qc AM x y
  ·rfl
  ·have:=Lt.trans x y x b h;rw[Lt.irrefl]at this;cases this
theorem LB (xs:List Rw):(A5 xs).Pairwise fun x y=>(!(Qc AM) y x)=A :=
 Q9 bL bM xs
theorem R5 {xs ys:List Rw} (h:xs.Perm ys):A5 xs=A5 ys:=by
 refine List.Perm.eq_of_pairwise (le:=fun x y=>(!(Qc AM) y x)=A) (fun a b _ _ h1 h2=>?_) (LB xs) (LB ys) (((Ej xs).trans h).trans (Ej ys).symm);simp only[QA]at h1 h2;exact Ri a b h2 h1
def Nv (x:Rw):Prop:= -9223372036854775808<=x.2.1/\x.2.1<=9223372036854775807
theorem bN (x:Rw) (h:Ay x=0):(Ik x).data.toList=F8 x:=by
 unfold Ik;rw[if_pos h];simp[F8,sp,Ab,ByteArray.data_append]
theorem R6 (wr:I) (c:ByteArray) (d f:Int) (j:Nat) (u:G) (b:(AN (c,d,f))[j]? =Z u):(wr.alloc (Qa #[J c,O U d,O U f] 62)).cell? ⟨wr.heap.size,j,H⟩=Z u:=by
 match j,b with
 | 0,b=>simp [AN]at b;subst b;simp
 | 1,b=>simp [AN]at b;subst b;simp
 | 2,b=>simp [AN]at b;subst b;simp
 | j+3,b=>simp [AN]at b
theorem R8:∀a b:List UInt8,Qo a b=decide (Ql a b<0)
 | [], []=>by simp[Qo,Ql]
 | [],_ :: _=>by simp[Qo,Ql]
 | _ :: _, []=>by simp[Qo,Ql]
 | a :: us,b :: vs=>by
  have g:=R8 us vs;unfold Qo Ql;by_cases c:a<b
  ·simp[c]
  ·by_cases d:b<a
   ·have f:¬a=b:=fun e=>by subst e;exact UInt8.lt_irrefl _ d
    simp[c,d,f]
   ·have f:a=b:=by
     rw[UInt8.lt_iff_toNat_lt]at c d;exact UInt8.toNat_inj.1 (by omega)
    subst f;simp[g]
def Bk (a b:ByteArray):Bool:=Qo a.toList b.toList
theorem LC (a b:ByteArray):Bk a b=decide (Ql a.data.toList b.data.toList<0):=by
 unfold Bk;rw[ByteArray.toList_eq,ByteArray.toList_eq,R8]
theorem R9 {a b c:ByteArray} (d:Bk a b=A) (f:Bk b c=A):Bk a c=A:=by
 rw[LC,decide_eq_true_eq]at *;exact(Ni _ _ _ (Int.le_of_lt d) (Int.le_of_lt f)).2 (Qh d)
theorem LD {a b:ByteArray} (h:Bk a b=A):a≠b:=fun e=>by
 subst e;rw[LC,Ng]at h;simp at h
theorem Nw {a b:ByteArray} (h:Bk a b=Qk) (c:a≠b):Bk b a=A:=by
 rw[LC,decide_eq_true_eq];rw[LC,decide_eq_false_iff_not]at h;have d:=Nh a.data.toList b.data.toList;have f:Ql a.data.toList b.data.toList≠0:=fun e=>c (Ii (Lr _ _ e));omega
def Gj (p:ByteArray):List ByteArray->Nat
 | []=>0
 | q :: r=>if Bk q p=A then Gj p r+1 else 0
def Hj (p:ByteArray):List ByteArray->List ByteArray
 | []=> [p]
 | q :: r=>if Bk q p=A then q :: Hj p r else p :: q :: r
theorem RA (p:ByteArray):∀l:List ByteArray,Hj p l=l.take (Gj p l)++ [p]++l.drop (Gj p l)
 | []=>rfl
 | q :: r=>by
  unfold Hj Gj;by_cases h:Bk q p=A
  ·rw[if_pos h,if_pos h,RA p r];rfl
  ·rw[if_neg h,if_neg h];rfl
theorem Nx {p x:ByteArray} :∀ {l:List ByteArray},x∈Hj p l↔x=p\/x∈l
 | []=>by simp[Hj]
 | q :: r=>by
  unfold Hj;split
  ·rw[Qp,Nx,Qp];constructor
   ·rintro(h | h | h)
    ·exact Qf (Qh h)
    ·exact Qh h
    ·exact Qf (Qf h)
   ·rintro(h | h | h)
    ·exact Qf (Qh h)
    ·exact Qh h
    ·exact Qf (Qf h)
  ·rw[Qp,Qp]
def GH (l:List ByteArray):Prop:=l.Pairwise fun a b=>Bk a b=A
theorem RB {p:ByteArray} :∀ {l:List ByteArray},GH l->p∉l->GH (Hj p l)
 | [],_,_=>List.pairwise_singleton _ _
 | q :: r,h,hn=>by
  unfold GH at h;rw[Qy]at h;rw[Qp,not_or]at hn;unfold Hj;by_cases e:Bk q p=A
  ·rw[if_pos e];refine Qy.2 ⟨fun x b=>?_,RB h.2 hn.2⟩;rcases Nx.1 b with rfl | b
   ·exact e
   ·exact h.1 x b
  ·rw[if_neg e];have c:Bk p q=A:=Nw (by simpa using e) (fun e=>hn.1 e.symm);refine Qy.2 ⟨fun x b=>?_,Qy.2 h⟩;rcases Qp.1 b with rfl | b
   ·exact c
   ·exact R9 c (h.1 x b)
end Go.Proofs.YtcllhobffhkafaaGreatDoor
