/- By an AI agent. -/
import Derived.Test.YtcllhobffhkafaaGreatDoorListFnd
import Derived.Lib.SliceRun
set_option maxRecDepth 100000
set_option maxHeartbeats 16000000
open Go.Proofs.Tryz
open Array renaming getElem?_setIfInBounds->Qp,getElem?_toList->QA
open Bool renaming false->A,true->Qb
open Go renaming World->J,Value->H,Calls->Qc,heap_setCell_same->Qj,callFunc->Qm,maxLen->Qo,Addr->Qr,cell_of_row->Qv,TypeId->Qy,lt_of_block->Q0,madeCells->Q5,frozen_of_row->Q8
open Go.Builtin renaming zeroCells->Qg,clear_->Qz
open Go.Ending renaming returned->Qd
open Go.IntKind renaming i64->O
open Go.IntWalk renaming i64_in->Q3
open Go.Obj renaming cells->Qa
open Go.Proofs.Tryz renaming prog->V,underlying38->Qx
open Go.RowKit renaming Hid->Z
open Go.Value renaming int->U,string->I,agg->Qf,cells->Qh,slice->Qi,bool->Ql,tuple->Qu,pointer->Q4
open List renaming getElem_mem->Qs,getElem?_eq_none->Qw,getElem?_eq_getElem->Q1,getElem?_take->Q2,any_eq_false->Q6,length_take->Q9
open Nat renaming not_lt_zero->Qn,lt_or_ge->Qq,le_refl->Qt,zero_le->Q7
open Option renaming some->S,none->G
open Or renaming inr->Qe,inl->Qk
namespace Go.Proofs.YtcllhobffhkafaaGreatDoor
open Go.RowKit Go.Extern.Stop Go.Stop Go.Extern Go.Sort Go.Shelf Go.Lib
def FW {β:Type} (p:β->Bool) (fs:List β) (i:Int):Prop:=(i= -1/\fs.any p=A)\/∃n:Nat,∃h:n<fs.length,i=n/\p fs[n]=Qb/\(∀j (hj:j<fs.length),j<n->p fs[j]=A)/\fs.any p=Qb
theorem Mr {β:Type} {p:β->Bool} {b:List β} {n:Nat} (h:∀j (h:j<b.length),j<n->p b[j]=A) (d:n<b.length) (e:p b[n]=A):∀j (h:j<b.length),j<n+1->p b[j]=A:=fun j hj hjn=>by
 by_cases c:j=n
 ·subst c;exact e
 ·exact h j hj (by omega)
theorem Ms {β:Type} {p:β->Bool} {b:List β} {n:Nat} (h:∀j (h:j<b.length),j<n->p b[j]=A) (c:n<b.length) (e:p b[n]=Qb):FW p b n:=Qe ⟨n,c,rfl,e,h,List.any_eq_true.2 ⟨_,Qs c,e⟩⟩
theorem Mt {β:Type} {p:β->Bool} {b:List β} (h:∀j (h:j<b.length),j<b.length->p b[j]=A):FW p b (-1):=Qk ⟨rfl,by
 rw[Q6];intro x d;obtain⟨j,c,rfl⟩:=List.mem_iff_getElem.1 d;rw[h j c c];simp⟩
def Jj (g:Nat) (cb:Array H) (p:Fl->Bool) (fs:List Fl) (w:J):Prop:= ∀f∈fs,∀W,BL w W->Qc V g (#[A1 f]++cb) W fun e w'=>e=Qd (Ql (p f))/\BL W w'
def Ou (g:Nat) (cb:Array H) (p:ByteArray->Bool) (fs:List ByteArray) (w:J):Prop:= ∀f∈fs,∀W,BL w W->Qc V g (#[I f]++cb) W fun e w'=>e=Qd (Ql (p f))/\BL W w'
theorem Ue (g:Nat) (z:Array H) (p:Fl->Bool) (v:H) (c:List Fl) (w:J) (hx:Ai w v c) (hl:c.length<=20000) (eg:∀args w,(Qm g args).run V w= .ok (.enter g args) w) (hp:Jj g z p c w) :
  Qc V 157 #[v,.func (.func g) #[] z] w fun e w'=> ∃i,e=Qd (U O i)/\FW p c i/\BL w w':=by
 obtain⟨q,K,rfl⟩:=hx.form;have B:Z (Ai w (Qi q c.length K) c):=hx;have HP:Z (Jj g z p c w):=hp;obtain⟨L,M⟩:∃L,c.length=L:=⟨_,rfl⟩;have C:Z (c.length=L):=M;rw[M]at hl ⊢
 go_enter func157,ntmps157
 go_wp2
 go_loopw [8] (fun k wr=> ∃n:Nat,n<=L/\k=U O n/\(∀j (h:j<c.length),j<n->p c[j]=A)/\BL w wr) (fun k _=>L-(intOf k).toNat)
 case atStart=>exact ⟨0,by omega,rfl,fun j h h'=>absurd h' (Qn _),Below.refl _ _⟩
 case round =>
  obtain⟨n,hn,rfl,N,r⟩:=hrel;have m:Z (∀j (h:j<c.length),j<n->p c[j]=A):=N;by_cases D:n<L
  ·have d:n<c.length:=by rw[C.out];exact D
   obtain⟨b,o,hq,hc⟩:=(B.out.below r).cells (fun e=>by rw[e]at d;simp at d);subst hq;obtain⟨P,Q,R,T,W,X⟩:=hc n d;have l:=HP.out c[n] (Qs _) wr r
   cases t:p c[n] with
   | true =>
    have u:Z _:=Ms m.out d t;rw[t]at l;generalize c[n]=f at P Q R T W X l;obtain⟨fp,fq,fn,Y,aa,y⟩:=f
    go_wp2_with (go_at_fn g;refine l.mono ?_;rintro e w2 ⟨rfl,s⟩)
    go_ret;exact⟨_,rfl,u.out,(Ad r s)⟩
   | false =>
    have E:Z _:=Mr m.out d t;rw[t]at l;generalize c[n]=f at P Q R T W X l;obtain⟨fp,fq,fn,Y,aa,y⟩:=f
    go_wp2_with (go_at_fn g;refine l.mono ?_;rintro e w2 ⟨rfl,s⟩)
    have F:=Ad r s;go_roundw
    case rel=>exact ⟨n+1,by omega,by go_num,E.out,F⟩
    case measure=>simp [intOf];omega
  ·obtain rfl:n=L:=by omega
   have u:Z (FW p c (-1)):=Mt (fun j hj _=>m.out j hj (by rw[<-C.out];exact hj));go_wp2;go_ret;exact⟨_,rfl,u.out,r⟩
theorem kI (g:Nat) (t:Array H) (p:ByteArray->Bool) (v:H) (c:List ByteArray) (w:J) (M:BS w v c) (Q:c.length<=20000) (X:∀args w,(Qm g args).run V w= .ok (.enter g args) w) (R:Ou g t p c w) :
  Qc V 165 #[v,.func (.func g) #[] t] w fun e w'=> ∃i,e=Qd (U O i)/\FW p c i/\BL w w':=by
 obtain⟨q,D,rfl⟩:=M.form;have u:Z (BS w (Qi q c.length D) c):=M;have N:Z (Ou g t p c w):=R;obtain⟨L,E⟩:∃L,c.length=L:=⟨_,rfl⟩;have y:Z (c.length=L):=E;rw[E]at Q ⊢
 go_enter func165,ntmps165
 go_wp2
 go_loopw [8] (fun k wr=> ∃n:Nat,n<=L/\k=U O n/\(∀j (h:j<c.length),j<n->p c[j]=A)/\BL w wr) (fun k _=>L-(intOf k).toNat)
 case atStart=>exact ⟨0,by omega,rfl,fun j h h'=>absurd h' (Qn _),Below.refl _ _⟩
 case round =>
  obtain⟨n,T,rfl,F,m⟩:=hrel;have l:Z (∀j (h:j<c.length),j<n->p c[j]=A):=F;by_cases z:n<L
  ·have d:n<c.length:=by rw[y.out];exact z
   obtain⟨b,P,W⟩:=(u.out.below m).cells (fun e=>by rw[e]at d;simp at d);subst P;have f:=N.out c[n] (Qs _) wr m
   cases r:p c[n] with
   | true =>
    have s:Z (FW p c n):=Ms l.out d r;rw[r]at f
    go_wp2_with (go_at_fn g;refine f.mono ?_;rintro e K ⟨rfl,o⟩)
    go_ret;exact⟨_,rfl,s.out,(Ad m o)⟩
   | false =>
    have B:Z (∀j (h:j<c.length),j<n+1->p c[j]=A):=Mr l.out d r;rw[r]at f
    go_wp2_with (go_at_fn g;refine f.mono ?_;rintro e K ⟨rfl,o⟩)
    have C:BL w K:=Ad m o;go_roundw
    case rel=>exact ⟨n+1,by omega,by go_num,B.out,C⟩
    case measure=>simp [intOf];omega
  ·obtain rfl:n=L:=by omega
   have s:Z (FW p c (-1)):=Mt (fun j hj _=>l.out j hj (by rw[<-y.out];exact hj));go_wp2;go_ret;exact⟨_,rfl,s.out,m⟩
theorem Ov (g:Nat) (f:Array H) (p:Fl->Bool) (v:H) (b:List Fl) (w:J) (m:Ai w v b) (r:b.length<=20000) (s:∀args w,(Qm g args).run V w= .ok (.enter g args) w) (t:Jj g f p b w) :
  Qc V 146 #[v,.func (.func g) #[] f] w fun e w'=>e=Qd (Ql (b.any p))/\BL w w':=by
 have j:=Ue g f p v b w m r s t;obtain⟨q,u,rfl⟩:=m.form
 go_enter func146,ntmps146
 go_wp2_with fail
 refine j.mono ?_;rintro e y ⟨i,rfl,o,l⟩;have k:Z _:=l;rcases o with⟨rfl,d⟩|⟨n,z,rfl,-,-,d⟩
 ·have c:Z _:=d;go_wp2;go_ret;exact⟨by rw[c.out];rfl,k.out⟩
 ·have c:Z _:=d;go_wp2;go_ret;exact⟨by rw[c.out];rfl,k.out⟩
theorem kJ (g:Nat) (f:Array H) (p:ByteArray->Bool) (v:H) (b:List ByteArray) (w:J) (m:BS w v b) (r:b.length<=20000) (s:∀args w,(Qm g args).run V w= .ok (.enter g args) w) (t:Ou g f p b w) :
  Qc V 279 #[v,.func (.func g) #[] f] w fun e w'=>e=Qd (Ql (b.any p))/\BL w w':=by
 have j:=kI g f p v b w m r s t;obtain⟨q,u,rfl⟩:=m.form
 go_enter func279,ntmps279
 go_wp2_with fail
 refine j.mono ?_;rintro e y ⟨i,rfl,o,l⟩;have k:Z _:=l;rcases o with⟨rfl,d⟩|⟨n,z,rfl,-,-,d⟩
 ·have c:Z _:=d;go_wp2;go_ret;exact⟨by rw[c.out];rfl,k.out⟩
 ·have c:Z _:=d;go_wp2;go_ret;exact⟨by rw[c.out];rfl,k.out⟩
theorem kK (v:H) (c:List ByteArray) (p:ByteArray) (w:J) (B:BS w v c) (K:c.length<=20000) :
  Qc V 314 #[v,I p] w fun e w'=> ∃i,e=Qd (U O i)/\FW (fun t=>decide (t=p)) c i/\w'=w:=by
 obtain⟨q,u,rfl⟩:=B.form;have m:Z (BS w (Qi q c.length u) c):=B;obtain⟨L,y⟩:∃L,c.length=L:=⟨_,rfl⟩;have o:Z (c.length=L):=y;rw[y]at K ⊢
 go_enter func314,ntmps314
 go_wp2
 go_loopw [8] (fun k wr=> ∃n:Nat,n<=L/\k=U O n/\(∀j (h:j<c.length),j<n->decide (c[j]=p)=A)/\wr=w) (fun k _=>L-(intOf k).toNat)
 case atStart=>exact ⟨0,by omega,rfl,fun j h h'=>absurd h' (Qn _),rfl⟩
 case round =>
  obtain⟨n,M,rfl,z,rfl⟩:=hrel;have f:Z (∀j (h:j<c.length),j<n->decide (c[j]=p)=A):=z;by_cases r:n<L
  ·have d:n<c.length:=by rw[o.out];exact r
   obtain⟨b,E,F⟩:=m.out.cells (fun e=>by rw[e]at d;simp at d);subst E;have C:=F n d;by_cases g:c[n]=p
   ·have l:Z _:=Ms (p:=fun t=>decide (t=p)) f.out d (decide_eq_true g);rw[g]at C;have D:(p.toList == p.toList)=Qb:=by simp
    go_wp2;go_ret;exact⟨_,rfl,l.out,rfl⟩
   ·have s:Z (∀j (h:j<c.length),j<n+1->decide (c[j]=p)=A):=Mr (p:=fun t=>decide (t=p)) f.out d (decide_eq_false g);have D:=K2 (fun e=>g (Ii e).symm);go_wp2;go_roundw
    case rel=>exact ⟨n+1,by omega,by go_num,s.out,by first | rfl | trivial⟩
    case measure=>simp [intOf];omega
  ·obtain rfl:n=L:=by omega
   have l:Z (FW (fun t=>decide (t=p)) c (-1)):=Mt (p:=fun t=>decide (t=p)) (fun j hj _=>f.out j hj (by rw[<-o.out];exact hj));go_wp2;go_ret;exact⟨_,rfl,l.out,rfl⟩
theorem Ow (v:H) (b:List ByteArray) (p:ByteArray) (w:J) (g:BS w v b) (k:b.length<=20000) :
  Qc V 234 #[v,I p] w fun e w'=>e=Qd (Ql (BI b p))/\w'=w:=by
 have f:=kK v b p w g k;unfold BI;obtain⟨q,l,rfl⟩:=g.form
 go_enter func234,ntmps234
 go_wp2_with fail
 refine f.mono ?_;rintro e m ⟨i,rfl,j,rfl⟩;rcases j with⟨rfl,d⟩|⟨n,o,rfl,-,-,d⟩
 ·have c:Z (_=_):=d;go_wp2;go_ret;exact⟨by rw[c.out];rfl,rfl⟩
 ·have c:Z (_=_):=d;go_wp2;go_ret;exact⟨by rw[c.out];rfl,rfl⟩
theorem Mu (v:H) (f:List Fl) (w:J) (r:Ai w v f) (M:f.length<=20000) :
  Qc V 39 #[v] w fun e w'=> ∃v',e=Qd v'/\w'.ownsRow w.heap.size 77 6 v' f.length (Aw f)/\BL w w':=by
 obtain⟨C,D,E,F,t⟩:=Tryz.fileInfo;have N:=fun w a n c n' c'=>Lib.run_eql_slice_nil w _ _ a n c n' c' Qx;obtain⟨q,l,rfl⟩:=r.form;have m:=gU r;have i:=fR f;have j:=Et f;have g:BL w (w.alloc (Qa #[] 77)):=Af _ _;have d:=m.below g
 cases q with
 | none =>
  have p:f= []:=by
   rcases r with⟨_,_,_,_,p⟩|⟨b,o,l,e,_⟩
   ·exact p
   ·injection e with e1;cases e1
  subst p
  go_enter func39,ntmps39
  go_wp2;go_ret;exact⟨_,rfl,World.ownsRow_nil _ _ _ _,Below.refl _ _⟩
 | some ad =>
  generalize P:Aw f=X at d i j ⊢;generalize f.length=L at M d j ⊢
  go_enter func39,ntmps39
  go_wp2_with (at_builtin;refine NX rfl _ _ 38 rfl w.heap.size 77 C (Qf #[I ⟨#[]⟩,I ⟨#[]⟩,U O 0,U O 0,U O 0,U O 0]) 6 64 Qx D E F t rfl (by decide) _ 0 [] rfl (World.ownsRow_made w #[] 0 (Qt _) (Q7 _) (by simp)) (S ad) L l X rfl ?qa1 ?qa2 ?qa3 ?qa4 ?qa5 ?qa6 ?_)
  case qa1=>exact j
  case qa2=>exact d
  case qa3=>exact i
  case qa4=>unfold Qo;omega
  case qa5=>omega
  case qa6=>exact g.size
  intro K u y z _;have s:=g.grown z g.size (fun k hk=>by simp[Value.ownBlock]at hk;omega);have B:Z (u.ownsRow w.heap.size 77 6 K L X):=by
   show u.ownsRow _ _ _ _ _ _;simpa using y
  go_wp2;go_ret;exact⟨_,rfl,B.out,s⟩
def Jk (W:J) (g x:Nat) (f:Fl):J:=(((((W.setCell ⟨g,x,G⟩ (I f.1)).setCell ⟨g,x+1,G⟩ (I f.2.1)).setCell ⟨g,x+2,G⟩ (U O f.2.2.1)).setCell ⟨g,x+3,G⟩ (U O f.2.2.2.1)).setCell ⟨g,x+4,G⟩ (U O f.2.2.2.2.1)).setCell ⟨g,x+5,G⟩ (U O f.2.2.2.2.2)
def set6 (cur:Array H) (x:Nat) (f:Fl):Array H:=(((((cur.setIfInBounds x (I f.1)).setIfInBounds (x+1) (I f.2.1)).setIfInBounds (x+2) (U O f.2.2.1)).setIfInBounds (x+3) (U O f.2.2.2.1)).setIfInBounds (x+4) (U O f.2.2.2.2.1)).setIfInBounds (x+5) (U O f.2.2.2.2.2)
theorem kM {W:J} {g x:Nat} {f:Fl} {b:Array H} {T:Qy} (h:W.heap[g]? =S (Qa b T (0,0))):(Jk W g x f).heap[g]? =S (Qa (set6 b x f) T (0,0)) :=
 Qj _ _ _ _ _ _ (Qj _ _ _ _ _ _ (Qj _ _ _ _ _ _ (Qj _ _ _ _ _ _ (Qj _ _ _ _ _ _ (Qj _ _ _ _ _ _ h)))))
theorem kN {c W:J} {B g x:Nat} {f:Fl} (h:Below B c W) (b:B<=g):Below B c (Jk W g x f):=(((((h.setCell b _).setCell b _).setCell b _).setCell b _).setCell b _).setCell b _
theorem kO (b:Array H) (x:Nat) (f:Fl):(set6 b x f).size=b.size:=by simp[set6]
theorem kP (b:Array H) (x:Nat) (f:Fl) (c:Nat) (d:c<6) (g:x+6<=b.size):(set6 b x f)[x+c]? =(Bl f)[c]? :=by
 obtain rfl | rfl | rfl | rfl | rfl | rfl:c=0\/c=1\/c=2\/c=3\/c=4\/c=5:=by omega
 all_goals
  simp only[set6,Qp,Array.size_setIfInBounds,Bl];simp
  try omega
theorem Uf (b:Array H) (x:Nat) (f:Fl) (y:Nat) (c:y<x\/x+6<=y):(set6 b x f)[y]? =b[y]? :=by
 simp only[set6,Qp];rw[if_neg (by omega),if_neg (by omega),if_neg (by omega),if_neg (by omega),if_neg (by omega),if_neg (by omega)]
theorem kQ (z:Array H) (n:Nat) (h:∀v∈z,v.oneCell'=Qb) (d:0<z.size):∀v∈(Qg z n).toList,v.oneCell'=Qb:=by
 intro v c;simp only[Qg,Array.toList_map,List.mem_map]at c;obtain⟨i,_,rfl⟩:=c;have b:i % z.size<z.size:=Nat.mod_lt _ d;rw[getElem!_pos z _ b];exact h _ (Array.getElem_mem b)
theorem kR (w:J) (l:Qy) (b o n c:Nat) (u:0<n) (p:∀j,j<n*6->(w.cell? ⟨b,o+j,G⟩).isSome=Qb) (q:∀j,w.frozen? ⟨b,j,G⟩=A) :
  (Qz #[38] l #[Qi (S ⟨b,o,G⟩) n c]).run V w= .ok (Qu #[]) (w.setCells b o (Qg (Qh (Qf #[I ⟨#[]⟩,I ⟨#[]⟩,U O 0,U O 0,U O 0,U O 0])) n).toList):=by
 obtain⟨s,i,k,t,r⟩:=Tryz.fileInfo;have d:∀w,(zeroValue 77).run V w= .ok (Qf #[I ⟨#[]⟩,I ⟨#[]⟩,U O 0,U O 0,U O 0,U O 0]) w:=fun w=>by simp[zeroValue,typeInfo,i,k]
 have f:(Qg (Qh (Qf #[I ⟨#[]⟩,I ⟨#[]⟩,U O 0,U O 0,U O 0,U O 0])) n).toList.length=n*6:=by
  rw[Array.length_toList,size_zeroCells];rfl
 have g:=run_storeCells_cells (P:=V) b o (Qg (Qh (Qf #[I ⟨#[]⟩,I ⟨#[]⟩,U O 0,U O 0,U O 0,U O 0])) n).toList 0 w (by rw[f];simpa using p) (fun j _=>q _) (kQ _ _ (by intro v d;simp[Qh]at d;rcases d with rfl | rfl<;>rfl) (by decide))
 obtain⟨m,rfl⟩:∃m,n=m+1:=⟨n-1,by omega⟩;simp[Qz,run_underlying Qx,d,g]
theorem Ug {T:Qy} {b:Nat} :∀(vs:List H) (o:Nat) (w:J) (cur:Array H),w.heap[b]? =S (Qa cur T (0,0))->∃cur',(w.setCells b o vs).heap[b]? =S (Qa cur' T (0,0))/\cur'.size=cur.size/\∀y,y<o->cur'[y]? =cur[y]?
 | [],_,_,cur,h=>⟨cur,h,rfl,fun _ _=>rfl⟩
 | v :: r,o,w,cur,h=>by
  obtain⟨cur',c,d,f⟩:=Ug r (o+1) (w.setCell ⟨b,o,G⟩ v) _ (Qj w b o cur T v h);refine⟨cur',c,by rw[d];simp,fun y hy=>?_⟩;rw[f y (by omega),Qp,if_neg (by omega)]
theorem Uh {b B:Nat} :∀(vs:List H) (o:Nat) (W0 w:J),Below B W0 w->B<=b->Below B W0 (w.setCells b o vs)
 | [],_,_,_,h,_=>h
 | _ :: r,o,W0,_,h,hb=>Uh r (o+1) W0 _ (h.setCell hb _) hb
def CK (W:J) (g C:Nat) (P:Fl->Bool) (fs:List Fl) (i j:Nat):Prop :=
 ∃cur:Array H,W.heap[g]? =S (Qa cur 77 (0,0))/\cur.size=C/\i=(kept P fs j).length/\(∀(t:Nat) (u:H),(Aw (kept P fs j))[t]? =S u->cur[t]? =S u)/\∀(t:Nat) (u:H),j*6<=t->(Aw fs)[t]? =S u->cur[t]? =S u
theorem CK.below {W d:J} {g C:Nat} {P:Fl->Bool} {f:List Fl} {i j:Nat} (h:CK W g C P f i j) (l:BL W d):CK d g C P f i j:=by
 obtain⟨b,c,k⟩:=h;exact⟨b,(l.block g (Q0 c)).trans c,k⟩
theorem CK.skip {W:J} {g C:Nat} {P:Fl->Bool} {b:List Fl} {i j:Nat} (h:CK W g C P b i j) (n:j<b.length) (o:P b[j]=A):CK W g C P b i (j+1):=by
 obtain⟨c,d,f,k,l,m⟩:=h;have e:kept P b (j+1)=kept P b j:=by rw[K6 P b j n,if_neg (by rw[o];simp)]
 exact⟨c,d,f,by rw[e];exact k,by rw[e];exact l,fun t u ht=>m t u (by omega)⟩
theorem CK.cell {W:J} {g C:Nat} {P:Fl->Bool} {b:List Fl} {i j:Nat} (h:CK W g C P b i j) (m:j<b.length) (c:Nat) (d:c<6):W.cell? ⟨g,j*6+c,G⟩=(Bl b[j])[c]? :=by
 obtain⟨n,k,o,p,q,l⟩:=h;have e:=K5 b j c m d;have f:c<(Bl b[j]).length:=by rw[JG];exact d
 rw[Q1 f]at e ⊢;rw[Qv _ _ _ _ _ _ k];exact l _ _ (by omega) e
theorem CK.old {W:J} {g C:Nat} {P:Fl->Bool} {c:List Fl} {i j:Nat} (h:CK W g C P c i j) (x:Nat) (k:x<C):∃u,W.cell? ⟨g,x,G⟩=S u:=by
 obtain⟨d,b,f,_⟩:=h;rw[Qv _ _ _ _ _ _ b];exact⟨_,Array.getElem?_eq_getElem (by omega)⟩
theorem CK.fz {W:J} {g C:Nat} {P:Fl->Bool} {c:List Fl} {i j:Nat} (h:CK W g C P c i j) (x:Nat):W.frozen? ⟨g,x,G⟩=A:=by
 obtain⟨d,b,_⟩:=h;exact Q8 _ _ _ _ _ b
theorem CK.le {W:J} {g C:Nat} {P:Fl->Bool} {c:List Fl} {i j:Nat} (h:CK W g C P c i j):i<=j:=by
 obtain⟨d,f,k,b,_⟩:=h;rw[b];exact SQ _ _ _
theorem CK.keep {W:J} {g C:Nat} {P:Fl->Bool} {b:List Fl} {i j:Nat} (h:CK W g C P b i j) (s:j<b.length) (z:b.length*6<=C) (v:P b[j]=Qb):CK (Jk W g (i*6) b[j]) g C P b (i+1) (j+1):=by
 have y:=h.le;obtain⟨c,o,p,k,q,r⟩:=h;have e:kept P b (j+1)=kept P b j++ [b[j]]:=by rw[K6 P b j s,if_pos v]
 refine⟨set6 c (i*6) b[j],kM o,by rw[kO];exact p,by rw[e,List.length_append,<-k];rfl,fun t u hu=>?_,fun t u ht hu=>?_⟩
 ·rw[e,Hv]at hu;have m:(Aw (kept P b j)).length=i*6:=by rw[Et,<-k]
  rcases Qq t (i*6) with l | l
  ·rw[Uf _ _ _ _ (Qk l)];rw[List.getElem?_append_left (by omega)]at hu;exact q t u hu
  ·rw[List.getElem?_append_right (by omega),m]at hu;have f:t-i*6<6:=by
    rcases Qq (t-i*6) 6 with d | d
    ·exact d
    ·rw[Qw (by simp[Aw,Bl];omega)]at hu;cases hu
   have n:Aw [b[j]]=Bl b[j]:=by simp[Aw]
   rw[n]at hu;have:=kP c (i*6) b[j] (t-i*6) f (by omega);rw[show i*6+(t-i*6)=t by omega]at this;rw[this];exact hu
 ·rw[Uf _ _ _ _ (Qe (by omega))];exact r t u (by omega) hu
theorem kS (b:List Fl) (n:Nat) (d:n<=b.length):(Aw b).take (n*6)=Aw (b.take n):=by
 have e:b=b.take n++b.drop n:=(List.take_append_drop n b).symm
 conv=>lhs;rw[e,Hv]
 have c:(Aw (b.take n)).length=n*6:=by rw[Et,Q9,Nat.min_eq_left d]
 rw[<-c,List.take_left]
theorem Ui {P:Fl->Bool} {b:List Fl} :∀n,n<=b.length->(∀j (h:j<b.length),j<n->P b[j]=Qb)->kept P b n=b.take n
 | 0,_,_=>by simp[kept]
 | n+1,hn,h=>by
  rw[K6 P b n (by omega),if_pos (h n (by omega) (by omega)),Ui n (by omega) (fun j hj hjn=>h j hj (by omega)),List.take_succ_eq_append_getElem (by omega)]
theorem kT {W:J} {g f:Nat} {c:Array H} {P:Fl->Bool} {b:List Fl} {k:Nat} (m:W.heap[g]? =S (Qa c 77 (0,0))) (n:c.size=f*6) (o:c.toList.take (b.length*6)=Aw b) (p:k<b.length) (q:∀j (h:j<b.length),j<k->P b[j]=Qb) (r:P b[k]=A) :
  CK W g (f*6) P b k (k+1):=by
 have d:∀t u,(Aw b)[t]? =S u->c[t]? =S u:=fun t u hu=>by
  have l:t<b.length*6:=by
   rw[<-Et];rcases Qq t (Aw b).length with i | i
   ·exact i
   ·rw[Qw i]at hu;cases hu
  rw[<-o,Q2,if_pos l,QA]at hu;exact hu
 have e:kept P b (k+1)=b.take k:=by rw[K6 P b k p,if_neg (by rw[r];simp),Ui k (by omega) q]
 refine⟨c,m,n,by rw[e,Q9];omega,fun t u hu=>?_,fun t u _ hu=>d t u hu⟩;rw[e,<-kS b k (by omega)]at hu;rw[Q2]at hu;split at hu
 ·exact d t u hu
 ·cases hu
theorem kU {W:J} {B g b:Nat} {P:Fl->Bool} {d:List Fl} {i:Nat} {c:Array H} (l:B<=g) (m:W.heap[g]? =S (Qa c 77 (0,0))) (n:c.size=b*6) (o:b<=Qo) (hi:i=(d.filter P).length) (p:i<=b) (j:∀(t:Nat) (u:H),(Aw (d.filter P))[t]? =S u->c[t]? =S u) :
  W.ownsRow B 77 6 (Qi (S ⟨g,0,G⟩) i b) (d.filter P).length (Aw (d.filter P)):=by
 refine⟨by rw[Et],Qe ⟨g,b,c,by rw[hi],l,m,by omega,o,n,?_⟩⟩;apply List.ext_getElem?;intro t;rw[Q2,QA];by_cases f:t<(d.filter P).length*6
 ·rw[if_pos f];have k:t<(Aw (d.filter P)).length:=by rw[Et];exact f
  rw[Q1 k];exact j t _ (Q1 k)
 ·rw[if_neg f,Qw (by rw[Et];omega)]
theorem Jj.later {g:Nat} {b:Array H} {p:Fl->Bool} {c:List Fl} {w w':J} (h:Jj g b p c w) (d:BL w w'):Jj g b p c w':=fun f hf W hW=>h f hf W (Ad d hW)
theorem Uj (g:Nat) (cb:Array H) (p:Fl->Bool) (v:H) (d:List Fl) (w0 w:J) (an:BL w0 w) (ho:w.ownsRow w0.heap.size 77 6 v d.length (Aw d)) (hl:d.length<=20000) (eg:∀args w,(Qm g args).run V w= .ok (.enter g args) w) (hp:Jj g cb p d w0) :
  Qc V 232 #[v,.func (.func g) #[] cb] w fun e w'=> ∃v',e=Qd v'/\w'.ownsRow w0.heap.size 77 6 v' (d.filter fun f=> !p f).length (Aw (d.filter fun f=> !p f))/\BL w0 w':=by
 have hx:=(Gt ho).1;have ae:=Ue g cb p v d w hx hl eg (hp.later an);have af:Z _:=ho;have ag:Z _:=an;have HP:Z _:=hp;have au:Z (d.any p=A->(d.filter fun f=> !p f)=d):=fun h=>List.filter_eq_self.2 fun f hf=>by
  have:=Q6.1 h f hf;simpa using this
 obtain⟨q,l,rfl⟩:=hx.form;obtain⟨L,hL⟩:∃L,d.length=L:=⟨_,rfl⟩;have Q:Z _:=hL;rw[hL]at ae hl ⊢;obtain⟨RS,ak⟩:∃R,(d.filter fun f=> !p f)=R:=⟨_,rfl⟩;have X:Z _:=ak;rw[ak]
 go_enter func232,ntmps232
 go_wp2_with fail
 refine ae.mono ?_;rintro e w1 ⟨i,rfl,hi,am⟩;have ah:Z _:=am;have Y:Z _:=ag.out.trans (am.mono ag.out.size);rcases hi with⟨rfl,ha⟩|⟨k,hk,rfl,a2,a3,-⟩
 ·have HA:Z (RS=d):=by show _=_;rw[<-X.out];exact au.out ha
  go_wp2;go_ret;refine⟨_,rfl,?_,Y.out⟩;rw[HA.out];have h:=AO (P:=fun _=>False) af.out (Ac.of_below ah.out) (fun _ _ h=>h);rw[Q.out]at h ⊢;exact h
 ·obtain⟨b,y,rfl,hb,hg,bf,az,a0,a1⟩:∃b y,q=S ⟨b,0,G⟩/\w0.heap.size<=b/\w1.heap[b]? =S (Qa y 77 (0,0))/\L<=l/\l<=Qo/\y.size=l*6/\y.toList.take (d.length*6)=Aw d:=by
   rcases af.out.2 with⟨e,h0⟩|⟨b,c,y,e,hb,hg,h1,h2,T,h4⟩
   ·rw[h0]at hk;exact absurd hk (Qn _)
   ·injection e with e1 e2 e3;subst e3;exact⟨b,y,e1,hb,(ah.out.block b (Q0 hg)).trans hg,by rw[<-Q.out];exact h1,h2,T,h4⟩
  have av:Z (CK w1 b (l*6) (fun f=> !p f) d k (k+1)):=kT hg a0 a1 hk (fun j hj hjk=>by simpa using a3 j hj hjk) (by simpa using a2);have aw:k<L:=by rw[<-Q.out];exact hk
  have ao:((k:Int) == -1)=A:=beq_eq_false_iff_ne.2 (by omega);have aa:Z _:=hb;have ax:Z _:=az;have ay:IntKind.i64.wrap ((k:Int)+1)=(k:Int)+1:=Q3 _ (by omega)
  go_wp2_with fail
  go_loopg [5,6,7] L (fun gg s5 s6 _ wr=> ∃(i j:Nat),s5=U O i/\s6=U O j/\j<=L/\L-j<=gg/\i<j/\BL w0 wr/\CK wr b (l*6) (fun f=> !p f) d i j)
  case atStart=>exact ⟨k,k+1,rfl,by go_num,by omega,by omega,by omega,Y.out,av.out⟩
  case round =>
   clear ao ay aw;obtain⟨i,j,rfl,rfl,bg,bh,bi,al,hD⟩:=hrel;have z:Z (CK wr b (l*6) (fun f=> !p f) d i j):=hD;have E:Z (BL w0 wr):=al;clear hD;by_cases ai:j<L
   ·have m:j<d.length:=by rw[Q.out];exact ai
    have ap:(j:Int)<(L:Int):=by omega
    have c0:=z.out.cell m 0 (by omega);have c1:=z.out.cell m 1 (by omega);have c2:=z.out.cell m 2 (by omega);have c3:=z.out.cell m 3 (by omega);have c4:=z.out.cell m 4 (by omega);have c5:=z.out.cell m 5 (by omega);have C:=Ja wr d[j];have r:=Ir wr d[j];have n:=HP.out d[j] (Qs _) (GR wr d[j]) (Ad al r);unfold GR at C r n;have aj:Z (p d[j]=Qb->∀W,BL wr W->CK W b (l*6) (fun f=> !p f) d i (j+1)):=fun h W hW=>(z.out.below hW).skip m (by simp[h]);have ab:Z (p d[j]=A->∀W,BL wr W->CK (Jk W b (i*6) d[j]) b (l*6) (fun f=> !p f) d (i+1) (j+1)):=fun h W hW=>(z.out.below hW).keep m (by rw[Q.out];omega) (by simp[h]);simp only[Bl,List.getElem?_cons_succ,List.getElem?_cons_zero]at c0 c1 c2 c3 c4 c5;generalize d[j]=f at c0 c1 c2 c3 c4 c5 C r n aj ab;clear m;unfold A1 at n;obtain⟨fp,fq,fn,M,N,D⟩:=f;dsimp only at c0 c1 c2 c3 c4 c5 C r n ab;have a4:(0:Int)<=(j:Int):=by omega
    have a7:(i:Int)<(L:Int):=by omega
    have a5:(0:Int)<=(i:Int):=by omega
    have a8:IntKind.i64.wrap ((j:Int)+1)=(j:Int)+1:=Q3 _ (by omega);have a9:IntKind.i64.wrap ((i:Int)+1)=(i:Int)+1:=Q3 _ (by omega);rw[Nat.add_zero]at c0
    go_upto_region 8 with fail
    generalize wr.alloc (Qa #[I fp,I fq,U O fn,U O M,U O N,U O D] 77)=W5 at C r n ⊢;obtain⟨b0,b1,b2,b3,b4,b5,-⟩:=C.cells;dsimp only at b0 b1 b2 b3 b4 b5
    cases hq:p (fp,fq,fn,M,N,D) with
    | true =>
     rw[hq]at n;have aq:=aj.out hq;have K:Z _:=aq
     go_wp2_with (go_at_fn g;refine n.mono ?_;rintro e w6 ⟨rfl,o⟩)
     have B:=Ad r o
     go_roundg (L-(j+1))
     case measure=>omega
     case rel=>exact ⟨i,j+1,rfl,by go_num,by omega,Qt _,by omega,E.out.trans (B.mono E.out.size),K.out w6 B⟩
    | false =>
     rw[hq]at n;have ar:=ab.out hq;have K:Z _:=ar
     go_upto_region 9 with(go_at_fn g;refine n.mono ?_;rintro e w6 ⟨rfl,o⟩)
     have B:=Ad r o;have s:=z.out.below B;have d0:=Aa o b0;have d1:=Aa o b1;have d2:=Aa o b2;have d3:=Aa o b3;have d4:=Aa o b4;have d5:=Aa o b5;obtain⟨u0,o0⟩:=s.old (i*6) (by omega);obtain⟨u1,o1⟩:=s.old (i*6+1) (by omega);obtain⟨u2,o2⟩:=s.old (i*6+2) (by omega);obtain⟨u3,o3⟩:=s.old (i*6+3) (by omega);obtain⟨u4,o4⟩:=s.old (i*6+4) (by omega);obtain⟨u5,o5⟩:=s.old (i*6+5) (by omega);have fz:=fun x=>s.fz x;have ac:Z (CK (Jk w6 b (i*6) (fp,fq,fn,M,N,D)) b (l*6) (fun f=> !p f) d (i+1) (j+1)):=K.out w6 B;have ad:Z (BL w0 (Jk w6 b (i*6) (fp,fq,fn,M,N,D))):=kN (E.out.trans (B.mono E.out.size)) aa.out;unfold Jk at ac ad;dsimp only at ac ad;clear b0 b1 b2 b3 b4 b5 n o B s K C r;go_wp2
     go_roundg (L-(j+1))
     case measure=>omega
     case rel=>exact ⟨i+1,j+1,by go_num,by go_num,by omega,Qt _,by omega,ad.out,ac.out⟩
   ·obtain rfl:j=L:=by omega
    have ap:¬(j:Int)<(j:Int):=by omega
    have ba:¬l=i:=by omega
    have bb:(i:Int)<=(j:Int):=by omega
    have bc:(0:Int)<=(i:Int):=by omega
    have bd:(j:Int)<=(l:Int):=by omega
    have be:(i:Int)<=(l:Int):=by omega
    have n:∀ty,(Qz #[38] ty #[Qi (S ⟨b,i*6,G⟩) (j-i) (l-i)]).run V wr= .ok (Qu #[]) (wr.setCells b (i*6) (Qg (Qh (Qf #[I ⟨#[]⟩,I ⟨#[]⟩,U O 0,U O 0,U O 0,U O 0])) (j-i)).toList) :=
     fun ty=>kR wr ty b (i*6) (j-i) (l-i) (by omega) (fun t ht=>by
      obtain⟨u,hu⟩:=z.out.old (i*6+t) (by omega);rw[hu];rfl) (fun t=>z.out.fz t)
    have F:Z (BL w0 (wr.setCells b (i*6) (Qg (Qh (Qf #[I ⟨#[]⟩,I ⟨#[]⟩,U O 0,U O 0,U O 0,U O 0])) (j-i)).toList)/\(wr.setCells b (i*6) (Qg (Qh (Qf #[I ⟨#[]⟩,I ⟨#[]⟩,U O 0,U O 0,U O 0,U O 0])) (j-i)).toList).ownsRow w0.heap.size 77 6 (Qi (S ⟨b,0,G⟩) i l) RS.length (Aw RS)):=by
     refine⟨Uh _ _ _ _ E.out aa.out,?_⟩;obtain⟨y,h1,h2,T,h4,_⟩:=z.out;obtain⟨a6,g1,g2,g3⟩:=Ug (Qg (Qh (Qf #[I ⟨#[]⟩,I ⟨#[]⟩,U O 0,U O 0,U O 0,U O 0])) (j-i)).toList (i*6) wr y h1;have e:kept (fun f=> !p f) d j=RS:=by rw[<-Q.out,SR];exact X.out
     rw[e]at T h4;rw[<-X.out]at T h4 ⊢;refine kU aa.out g1 (g2.trans h2) ax.out T (by omega) (fun t u hu=>?_);have ai:t<i*6:=by
      rw[T,<-Et];rcases Qq t (Aw (d.filter fun f=> !p f)).length with h' | h'
      ·exact h'
      ·rw[Qw h']at hu;cases hu
     rw[g3 t (by omega)];exact h4 t u hu
    generalize wr.setCells b (i*6) (Qg (Qh (Qf #[I ⟨#[]⟩,I ⟨#[]⟩,U O 0,U O 0,U O 0,U O 0])) (j-i)).toList=WE at n F;go_wp2;go_ret;exact⟨_,rfl,F.out.2,F.out.1⟩
def Ox (w:J) (a:Nat->Qr) (D:List Int×Nat) (e:Ending) (w':J):Prop :=
 BL w w'/\((D.2=0/\∃v,e=Qd (Qu #[v,.nilIface])/\A3 w' v D.1) \/
  (D.2≠0/\∃ev,e=Qd (Qu #[Qi G 0 0,ev])/\(ev=Ae a D.2\/∃fb,ev= .iface 140 (Q4 (S ⟨fb,0,G⟩))/\w'.cell? ⟨fb,1,G⟩=S (Ae a D.2))))
theorem kV (s:ByteArray) (w:J) (a:Nat->Qr) (h:DM w a) (t:s.size<=Qo) :
  Qc V 239 #[I (Ab (AE Qb)),I s] w fun e w'=>Ox w a (Bf Qb s.data.toList) e w':=by
 have d:=NP s w a h t;have i:Bf Qb s.data.toList=((B4 s.data.toList).1,(B4 s.data.toList).2.1):=rfl;rw[i];generalize B4 s.data.toList=D at d ⊢;have y:=CG (s:=Ab (AE Qb)) (l:= [103,111,110,101]) (by rw[BQ];rfl)
 go_enter func239,ntmps239
 go_wp2_with fail
 refine d.mono ?_;rintro e z ⟨b,f⟩;rcases f with⟨c,v,rfl,n,_⟩|⟨c,o,p,rfl⟩|⟨c,o,u,p,q,rfl,B,r⟩
 ·have j:Z _:=n;go_wp2;go_ret2;exact⟨b,Qk ⟨c,v,rfl,j.out⟩⟩
 ·obtain⟨E,g⟩:∃E,D.2.1=E+1:=⟨D.2.1-1,by omega⟩;have k:Z _:=g;rw[g];go_wp2;go_ret2;exact⟨b,Qe ⟨c,_,rfl,Qk (by dsimp only;rw[k.out];rfl)⟩⟩
 ·have m:Z _:=r;go_wp2;go_ret2;exact⟨b,Qe ⟨c,_,rfl,Qe ⟨q,rfl,m.out⟩⟩⟩
theorem Uk (l:List UInt8):(Bq l).2<=12:=by
 unfold Bq;split
 ·split
  ·split
   ·exact Q7 _
   ·dsimp only;unfold Ay;split
    ·split<;>omega
    ·omega
  ·exact(by decide:(1:Nat)<=12)
 ·exact(by decide:(1:Nat)<=12)
theorem KK (xs:List Rw):(BB xs).length=xs.length:=by simp[A6]
theorem kW (xs:List Rw) (j:Nat) (h:j<xs.length) (b:j<(BB xs).length):(BB xs)[j]=xs[j].2.1:=by simp[A6,CD]
theorem kX (s:ByteArray) (w:J) (a:Nat->Qr) (h:DE w a) (hs:s.size<=Qo) :
  Qc V 239 #[I (Ab (AE A)),I s] w fun e w'=>Ox w a (Bf A s.data.toList) e w':=by
 have N:=SF s w a h hs;have z:=(LI CD Uk s.data.toList).2;have eK:Bf A s.data.toList=(BB (Bw s.data.toList).1,(Bw s.data.toList).2.1):=rfl;have e0:Bw s.data.toList=BP CD s.data.toList:=rfl;rw[eK];rw[<-e0]at z;generalize Bw s.data.toList=D at N z ⊢;have d1:=BH (s:=Ab (AE A)) (l:= [103,111,110,101]) (by rw[BQ];decide)
 go_enter func239,ntmps239
 go_wp2_with fail
 refine N.mono ?_;rintro e f ⟨K,ac⟩;rcases ac with⟨y,v,rfl,hv⟩|⟨y,h1,h2,rfl⟩|⟨y,h1,av,h2,fb,rfl,c0,c1⟩
 ·obtain⟨q,au,rfl⟩:=hv.form;obtain⟨i,d2⟩:=D;obtain⟨L,hL⟩:∃L,i.length=L:=⟨_,rfl⟩;have HV:Z _:=hv;have Y:Z _:=hL;have H0:Z _:=y;rw[hL]at z ⊢;clear hv hL y;have ap:=fun W=>run_make_row' (P:=V) 32 3 (U O 0) 8 underlying32 Tryz.numsInfo rfl O O L (by omega) (by omega) W;have ad:BL f (f.alloc (Qa (Q5 #[U O 0] L) 3)):=Af _ _;have aa:=heap_alloc_new f (Qa (Q5 #[U O 0] L) 3);have MD:Z (∀j,j<L->(Q5 #[U O 0] L)[j]? =S (U O 0)):=fun j hj=>Rs _ _ _ hj;go_wp2
  go_loopw [30] (fun k wr=> ∃(n:Nat) (d:Array H),n<=L/\k=U O n/\BL f wr/\wr.heap[f.heap.size]? =S (Qa d 3 (0,0))/\(∀j,j<L->∃u,d[j]? =S u)/\∀j (h:j<i.length),j<n->d[j]? =S (U O i[j].2.1)) (fun k _=>L-(intOf k).toNat)
  case atStart=>exact ⟨0,_,by omega,rfl,ad,aa,fun j hj=>⟨_,MD.out j hj⟩,fun j h M=>absurd M (Qn _)⟩
  case round =>
   obtain⟨n,d,hn,rfl,F,al,am,an⟩:=hrel;have HB:Z (wr.heap[f.heap.size]? =S (Qa d 3 (0,0))):=al;have Q:Z (∀j,j<L->∃u,d[j]? =S u):=am;have R:Z (∀j (h:j<i.length),j<n->d[j]? =S (U O i[j].2.1)):=an;by_cases T:n<L
   ·have B:n<i.length:=by rw[Y.out];exact T
    have ae:=HV.out;rcases ae with⟨p,c,e,rfl⟩|⟨b,o,cp,e,hc⟩
    ·simp at B
    ·simp only[Value.slice.injEq]at e;obtain⟨rfl,_,rfl⟩:=e;obtain⟨c0,c1,c2⟩:=hc n B;have af:=Aa F c0;have ag:=Aa F c1;have ah:=Aa F c2;generalize ao:i[n]=x at af ag ah;have ai:Z (i[n]=x):=ao;obtain⟨r,g,t⟩:=x;have X:BL wr (wr.alloc (Qa #[I r,U O g,U O t] 62)):=Af _ _;have aj:BL f (wr.alloc (Qa #[I r,U O g,U O t] 62)):=Ad F X;have m:(wr.alloc (Qa #[I r,U O g,U O t] 62)).heap[f.heap.size]? =S (Qa d 3 (0,0)):=(X.block _ (Q0 HB.out)).trans HB.out;obtain⟨u,hu⟩:=Q.out n T;have aq:(wr.alloc (Qa #[I r,U O g,U O t] 62)).cell? ⟨f.heap.size,n,G⟩=S u:=by rw[Qv _ _ _ _ _ _ m];exact hu
     have ar:(wr.alloc (Qa #[I r,U O g,U O t] 62)).frozen? ⟨f.heap.size,n,G⟩=A:=Q8 _ _ _ _ _ m;have ab:Z (((wr.alloc (Qa #[I r,U O g,U O t] 62)).setCell ⟨f.heap.size,n,G⟩ (U O g)).heap[f.heap.size]? =S (Qa (d.setIfInBounds n (U O g)) 3 (0,0))):=Qj _ f.heap.size n d 3 (U O g) m;have HN:Z (n<d.size):=by
      show n<d.size;rcases Qq n d.size with M | M
      ·exact M
      ·rw[Array.getElem?_eq_none M]at hu;cases hu
     have ak:BL f ((wr.alloc (Qa #[I r,U O g,U O t] 62)).setCell ⟨f.heap.size,n,G⟩ (U O g)):=aj.setCell (Qt _) _;go_wp2;go_roundw
     case rel =>
      refine⟨n+1,_,by omega,by go_num,ak,ab.out,fun j hj=>?_,fun j hj hjn=>?_⟩
      ·rw[Qp];split
       ·rw[if_pos HN.out];exact⟨_,rfl⟩
       ·exact Q.out j hj
      ·rw[Qp];split
       ·rename_i e;subst e;rw[if_pos HN.out,ai.out]
       ·rename_i e;exact R.out j hj (by omega)
     case measure=>simp [intOf];omega
   ·obtain rfl:n=L:=by omega
    go_wp2;go_ret2;refine⟨(Ad K F),Qk ⟨H0.out,_,rfl,Qe ⟨f.heap.size,0,n,by rw[KK,Y.out];rfl,fun j hj=>?_⟩⟩⟩;have C:j<i.length:=by rw[KK]at hj;exact hj
    rw[Nat.zero_add,Qv _ _ _ _ _ _ HB.out,R.out j C (by rw[<-Y.out];exact C),kW _ _ C hj]
 ·obtain⟨E,hE⟩:∃E,D.2.1=E+1:=⟨D.2.1-1,by omega⟩;have HE:Z _:=hE;rw[hE];simp only[Ae];go_wp2;go_ret2;exact⟨K,Qe ⟨y,_,rfl,Qk (by dsimp only;rw[HE.out];rfl)⟩⟩
 ·have C1:Z _:=c1;go_wp2;go_ret2;exact⟨K,Qe ⟨y,_,rfl,Qe ⟨fb,rfl,C1.out⟩⟩⟩
theorem kY (n:Nat) (w:J) (a:Nat->Qr) (h:Fj w) :
  Qc V 134 #[Ae a (n+1)] w fun e w'=>e=Qd (Ae a (n+1))/\BL w w':=by
 have b:BL w (w.alloc (Qa #[Q4 G] 140)):=Af _ _;have f:=gF (a n) ⟨w.heap.size,0,G⟩ _ (h.below b)
 go_enter func134,ntmps134
 go_wp2_with fail
 refine f.mono ?_;rintro e g ⟨rfl,d⟩;have c:BL w g:=Ad b d;go_wp2;go_ret;exact⟨rfl,c⟩
theorem kZ (c:Nat) (n:Nat) (w:J) (a:Nat->Qr) (h:Fj w) (f:w.cell? ⟨c,1,G⟩=S (Ae a (n+1))) :
  Qc V 134 #[.iface 140 (Q4 (S ⟨c,0,G⟩))] w fun e w'=>e=Qd (Ae a (n+1))/\BL w w':=by
 have d:=gG ⟨c,0,G⟩ w h
 go_enter func134,ntmps134
 go_wp2_with fail
 refine d.mono ?_;rintro e i ⟨rfl,b,j⟩;have g:=Aa b f;go_wp2;go_ret;exact⟨rfl,b⟩
end Go.Proofs.YtcllhobffhkafaaGreatDoor
