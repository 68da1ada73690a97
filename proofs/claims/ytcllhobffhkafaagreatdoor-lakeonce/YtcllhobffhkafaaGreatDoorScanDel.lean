/- By an AI agent. -/
import Derived.Test.YtcllhobffhkafaaGreatDoorScanCt
set_option maxRecDepth 100000
set_option maxHeartbeats 16000000
open Go.Proofs.Tryz
open Array renaming getElem?_setIfInBounds_ne->Qc,getElem?_eq_some_iff->Qk,getElem?_setIfInBounds_self_of_lt->Qy,getElem?_eq_getElem->Q0,length_toList->QA
open Bool renaming false->Qb,true->Qd
open Go renaming World->G,Calls->Qe,cell_of_row->Qg,TypeId->Qm,Addr->Qn,maxLen->Qo,heap_alloc_new->Qr,setRow_heap->Qu,setCell_eq_setRow->Qz
open Go.Builtin renaming zeroCells->Qi,max_->Q1,clear_->Q9,append->QC,append_->QD,max2->QE
open Go.Ending renaming returned->Qf
open Go.IntKind renaming i64->Z
open Go.Obj renaming cells->S
open Go.Proofs.Tryz renaming prog->V
open Go.Region renaming wanted->Qv
open Go.RowKit renaming Hid->I
open Go.Value renaming int->U,string->J,agg->Qa,nilIface->Qj,slice->Ql,tuple->Qw
open List renaming getElem_mem->Qq,length_take->Qs,length_append->Qx,append_assoc->Q2,take_of_length_le->Q3,findIdx?_eq_some_iff_getElem->Q4,findIdx?_eq_none_iff->Q5,getElem_of_mem->Q6,mem_take_iff_getElem->Q7,filter_eq_self->QB
open Nat renaming le_trans->Qp,le_refl->Q8
open Option renaming some->O,none->A
open Or renaming inl->Qh,inr->Qt
namespace Go.Proofs.YtcllhobffhkafaaGreatDoor
open Go.RowKit Go.Extern.Stop Go.Stop Go.Extern Go.Sort Go.Shelf Go.Lib
theorem nA {P:Program} {b:Array Oper} {o:Oper} {a:Act} {w w':G} {K:Act->G->Prop} {Q:Exit->Act->G->Prop} {E:Prop}
  (g:o.guard=A) (s x:Operand) (t:Qm) (d:o.op=Op.call { callee:=Callee.builtin QC,args:=#[s,x],argTypes:=#[t,t] }) (v u v':Value) (i:a.eval s=v) (j:a.eval x=u)
  (c:(QD #[t,t] o.type #[v,u]).run P w= .ok v' w') (k:K (a.put o.dst v') w'):if Qv o (yielded b a.tmps)=Qd then Oper.wp P o a w K Q else E:=by
 have f:Qv o (yielded b a.tmps)=Qd:=by simp[Qv,g]
 rw[if_pos f];unfold Oper.wp;simp[execOp,d,resolve,invoke,builtin,i,j,c,Result.andThen];exact k
abbrev G2 (b1 b2:Nat):Value:=Qa #[.map (O b1),.map (O b2)]
theorem nB (w:G):Qe V 80 #[] w fun e w'=> ∃b1 b2,e=Qf (G2 b1 b2)/\w.heap.size<=b1/\w.heap.size<=b2/\b1<w'.heap.size/\b2<w'.heap.size/\(∀base,b1<base->b2<base->B2 w' base b1 b2 ([], []) [])/\BL w w':=by
 have l:=@run_makeMap V;have f:BL w (((w.alloc (S #[.map (O (w.heap.size+1)),.map (O (w.heap.size+1+1))] 136)).alloc (.map #[] 0)).alloc (.map #[] 0)):=((Af _ _).alloc (by simp) _).alloc (by simp;omega) _;have g:I _:=f;have i:I (∀base,w.heap.size+1<base->w.heap.size+1+1<base->B2 (((w.alloc (S #[.map (O (w.heap.size+1)),.map (O (w.heap.size+1+1))] 136)).alloc (.map #[] 0)).alloc (.map #[] 0)) base (w.heap.size+1) (w.heap.size+1+1) ([], []) []):=fun base h1 h2=>by
  have b:=World.ownsMap_made (w.alloc (S #[.map (O (w.heap.size+1)),.map (O (w.heap.size+1+1))] 136)) V 3 C9;have c:=World.ownsMap_made ((w.alloc (S #[.map (O (w.heap.size+1)),.map (O (w.heap.size+1+1))] 136)).alloc (.map #[] 0)) V 3 (plainElem (H:=Unit) V 3);have j:(w.alloc (S #[.map (O (w.heap.size+1)),.map (O (w.heap.size+1+1))] 136)).heap.size=w.heap.size+1:=by simp
  have k:((w.alloc (S #[.map (O (w.heap.size+1)),.map (O (w.heap.size+1+1))] 136)).alloc (.map #[] 0)).heap.size=w.heap.size+1+1:=by simp
  rw[j]at b;rw[k]at c;refine⟨⟨_,_,E4.made _ _ base (b.alloc _) h1⟩,⟨_,ES.made _ _ c⟩,h2,by omega⟩
 have d:I ((((w.alloc (S #[.map (O (w.heap.size+1)),.map (O (w.heap.size+1+1))] 136)).alloc (.map #[] 0)).alloc (.map #[] 0)).heap.size=w.heap.size+3):=by show _=_;simp
 go_enter func80,ntmps80
 go_wp2;refine bodyPost_ret (v:=G2 (w.heap.size+1) (w.heap.size+1+1)) (by simp[results,results80,go_sem]) rfl ?_;exact⟨_,_,rfl,by omega,by omega,by rw[d.out];omega,by rw[d.out];omega,i.out,g.out⟩
theorem nC (W:G) (a:Nat->Qn) (hE:DE W a) (base b d:Nat) (c:Ct) (p:List Int) (q:Int) (t:ByteArray) (h:B2 W base b d c p) (s:base<=W.heap.size) (hq:1<=q/\q<=1073741824) (ht:t.size<=Qo) (C:(Bw t.data.toList).2.1=0) (z:(Bw t.data.toList).1≠ []) (Q:p.length<1000000) (R:c.1.length+(Bw t.data.toList).1.length<=1000000) :
  Qe V 244 #[G2 b d,U Z q,J t] W fun e w'=>e= .returned Qj/\B2 w' base b d (c.1++(Bw t.data.toList).1.map (fun r=>(r,q)),c.2) (q :: p)/\Ac (CZ W base b d) W w':=by
 have k:BL W (W.alloc (S #[.map (O b),.map (O d)] 136)):=Af _ _;have i:(W.alloc (S #[.map (O b),.map (O d)] 136)).heap[W.heap.size]? =O (S #[.map (O b),.map (O d)] 136 (0,0)):=Qr _ _;have y:=SF t (W.alloc (S #[.map (O b),.map (O d)] 136)) a (hE.below k) ht;generalize hD:Bw t.data.toList=D at y C z R ⊢;have T:I _:=h.below k;have E:=Qp s k.size
 go_enter func244,ntmps244
 go_upto_region 1 with fail
 have F:I _:=k;generalize W.alloc (S #[.map (O b),.map (O d)] 136)=W1 at *;generalize W.heap.size=n at i ⊢
 go_wp2_with fail
 refine y.mono ?_;rintro e f ⟨m,j⟩;obtain⟨-,v,rfl,K⟩:D.2.1=0/\∃v,e=Qf (Qw #[v,Qj])/\Ar f v D.1:=by
  rcases j with j | j | j
  ·exact j
  ·exact absurd C j.1
  ·exact absurd C j.1
 obtain⟨sq,sc,rfl⟩:=K.form;have l:BL f f.drew:=(Below.refl _ _).drew;have g:f.drew.heap[n]? =O (S #[.map (O b),.map (O d)] 136 (0,0)):=(m.block n (Qk.1 i).1).trans i;obtain⟨u,u',Y,L,r1,⟨uq,un,uc,rfl⟩,⟨vq,vn,vc,rfl⟩,r2,r3,M,N,P⟩:=((T.out.below m).below l).addRows (q:=q) (Qp E (Qp m.size l.size)) (by omega) (by omega) (K.below l) z Q R;have o:=M _ _ _ _ g (by decide);have B:I (B2 L base b d (c.1++D.1.map (fun r=>(r,q)),c.2) (q :: p)/\Ac (CZ f.drew base b d) f.drew L/\BL W1 f.drew):=⟨N,P,(Ad m l)⟩;have k0:f.cell? ⟨n,0,A⟩=O (.map (O b)):=by
  rw[Qg _ _ _ _ _ _ (show f.heap[n]? =_ from g)];rfl
 have k1:f.drew.cell? ⟨n,0,A⟩=O (.map (O b)):=by
  rw[Qg _ _ _ _ _ _ g];rfl
 have k2:Y.cell? ⟨n,0,A⟩=O (.map (O b)):=by
  rw[Qg _ _ _ _ _ _ o];rfl
 go_wp2
 go_region_law (refine nA (by rfl) _ _ _ (by rfl) _ _ _ (by rfl) (by rfl) r2 ?_)
 all_goals go_wp2
 all_goals go_ret
 all_goals
  refine⟨rfl,B.out.1,?_⟩;have X:Ac (CZ W base b d) W f.drew:=Ac.of_below (F.out.trans (B.out.2.2.mono F.out.size));exact Jo X B.out.2.1
theorem nD (x y:Int) (w:G):(Q1 #[3,3] 3 #[U Z x,U Z y]).run V w= .ok (U Z (max x y)) w:=by
 have e:max x y=if y > x then y else x:=by split<;>omega
 rw[e];simp[Q1,QE]
theorem nE (b:List Int) (q:Int) (n:Nat) (h:n<b.length):(b.take (n+1)).map (fun z=>(z,q))=(b.take n).map (fun z=>(z,q))++ [(b[n],q)]:=by
 rw[List.take_succ_eq_append_getElem h,List.map_append];rfl
theorem nF (W:G) (a:Nat->Qn) (hE:DM W a) (base g d:Nat) (c:Ct) (B:List Int) (q:Int) (t:ByteArray) (h:B2 W base g d c B) (hq:1<=q/\q<=1073741824) (ht:t.size<=Qo) (h0:(B4 t.data.toList).2.1=0) (F:∀z∈(B4 t.data.toList).1,-9223372036854775808<=z/\z<=9223372036854775807) (hc:c.2.length+(B4 t.data.toList).1.length<=1000000) :
  Qe V 243 #[G2 g d,U Z q,J t] W fun e w'=>e= .returned Qj/\B2 w' base g d (c.1,c.2++(B4 t.data.toList).1.map fun z=>(z,q)) B/\Ac (CZ W base g d) W w':=by
 have C:BL W (W.alloc (S #[.map (O g),.map (O d)] 136)):=Af _ _;have l:(W.alloc (S #[.map (O g),.map (O d)] 136)).heap[W.heap.size]? =O (S #[.map (O g),.map (O d)] 136 (0,0)):=Qr _ _;have M:=NP t (W.alloc (S #[.map (O g),.map (O d)] 136)) a (hE.below C) ht;generalize hD:B4 t.data.toList=D at M h0 F hc ⊢;obtain⟨f,E0⟩:=D;have HC:I _:=h.below C
 go_enter func243,ntmps243
 go_upto_region 1 with fail
 have HA:I _:=C;generalize W.alloc (S #[.map (O g),.map (O d)] 136)=W1 at *;generalize W.heap.size=K at l ⊢
 go_wp2_with fail
 refine M.mono ?_;rintro e j ⟨y,r⟩;obtain⟨-,v,rfl,hv,-⟩:E0.1=0/\∃v,e=Qf (Qw #[v,Qj])/\A3 j v f/\NO W1 v:=by
  rcases r with r | r | r
  ·exact r
  ·exact absurd h0 r.1
  ·exact absurd h0 r.1
 obtain⟨kq,kc,rfl⟩:=hv.form;have E:=HC.out.below y;have s:j.heap[K]? =O (S #[.map (O g),.map (O d)] 136 (0,0)):=(y.block K (Qk.1 l).1).trans l;have k0:j.cell? ⟨K,1,A⟩=O (.map (O d)):=by
  rw[Qg _ _ _ _ _ _ s];rfl
 have N:I (A3 j (Ql kq f.length kc) f):=hv;have aa:I (BL W1 j):=y;have ab:I (∀z∈f,-9223372036854775808<=z/\z<=9223372036854775807):=F;have X:=(E.noCell k0).2;obtain⟨L,hL⟩:∃L,f.length=L:=⟨_,rfl⟩;have Y:I (f.length=L):=hL;rw[hL]at N hc ⊢;have P:I (B2 j base g d c B):=E;clear hL hv y F E l s HC;go_wp2
 go_loopw [18] (fun k wr=> ∃n:Nat,n<=L/\k=U Z n/\B2 wr base g d (c.1,c.2++(f.take n).map fun z=>(z,q)) B/\Ac (fun k=>k=d) j wr) (fun k _=>L-(intOf k).toNat)
 case atStart=>exact ⟨0,by omega,rfl,by simpa using P.out,Ac.refl _ _⟩
 case round =>
  obtain⟨n,hn,rfl,T,u⟩:=hrel;have Q:I (B2 wr base g d (c.1,c.2++(f.take n).map fun z=>(z,q)) B):=T;have ac:I (Ac (fun k=>k=d) j wr):=u;have k1:wr.cell? ⟨K,1,A⟩=O (.map (O d)):=u.keep X k0;by_cases ad:n<L
  ·have p:n<f.length:=by rw[Y.out];exact ad
   rcases N.out with⟨_,_,e,e'⟩|⟨b,o,ah,e,m⟩
   ·exfalso;have:=Y.out;rw[e']at this;simp at this;omega
   injection e with e1 e2 e3;subst e1;have c1:wr.cell? ⟨b,o+n,A⟩=O (U Z f[n]):=u.keep (P.out.noCell (m n p)).2 (m n p);obtain⟨z1,z2⟩:=ab.out f[n] (Qq _);obtain⟨w4,r1,r2,af,ag⟩:=T.addKey (z:=f[n]) (q:=q) z1 z2 (by simp only[Qx,List.length_map,Qs];omega) (by omega);have R:I (B2 w4 base g d (c.1,c.2++(f.take (n+1)).map fun z=>(z,q)) B/\Ac (fun k=>k=d) j w4):=⟨by
    rw[nE f q n p,<-Q2];exact af,u.trans ag fun _ e _=>e⟩
   have ae:=fun W=>nD (Bv (c.2++(f.take n).map fun z=>(z,q)) f[n]) q W;generalize Bv (c.2++(f.take n).map fun z=>(z,q)) f[n]=lc at r1 r2 ae;go_wp2;go_roundw
   case rel=>exact ⟨n+1,by omega,by go_num,R.out.1,R.out.2⟩
   case measure=>simp [intOf];omega
  ·obtain rfl:n=L:=by omega
   rw[Q3 (by rw[Y.out];omega)]at Q;go_wp2;go_ret;refine⟨rfl,Q.out,?_⟩;have h1:Ac (CZ W base g d) W j:=Ac.of_below (HA.out.trans (aa.out.mono HA.out.size));exact h1.trans ac.out fun i e _=>Qt (Qh e)
def FZ (x:Fl) (qs:List Int):List Int:=if x.2.1.data.toList≠ [45] then x.2.2.2.2.2 :: qs else qs
theorem OA {obs:List Ob} {x:Fl} (h:(Aj obs x).1=0):∃g n,A7 x.1.data.toList=O (g,n)/\(x.2.1.data.toList= [45]↔g=Qd)/\At x=0/\(Bf g (Aj obs x).2.data.toList).2=0/\1<=(Bf g (Aj obs x).2.data.toList).1.length/\(Bf g (Aj obs x).2.data.toList).1.length<=40/\∀k∈(Bf g (Aj obs x).2.data.toList).1,-1073741824<=k/\k<=1073741824:=by
 have b:=Uy h;obtain⟨g,n,d,m,f,i⟩:=Uz h;generalize (Aj obs x).2.data.toList=t at b i ⊢;rw[Mv d]at b;split at b
 ·rename_i c;unfold DZ at b;split at b
  ·rename_i l;obtain⟨j,_⟩:=Prod.mk.inj b;rw[j]at l;have o:x.2.2.1=(Bf g t).1.length:=by rw[<-j]
   unfold De at f;simp only[Bool.and_eq_true,decide_eq_true_eq,Ao]at f;refine⟨g,n,d,KR m,l,c,by omega,by omega,fun k hk'=>?_⟩;have:=i k hk';omega
  ·cases b
 ·rename_i c;exact absurd (Prod.mk.inj b).2 c
theorem nG (W:G) (a:Nat->Qn) (hE:Gs W a) (obs:List Ob) (base b d:Nat) (c:Ct) (f:List Int) (x:Fl) (h:B2 W base b d c f) (K:base<=W.heap.size) (hx:(Aj obs x).1=0) (hp:x.1.size<=100000) (ht:(Aj obs x).2.size<=Qo) (ae:f.length<=100) (af:c.1.length<=10000) (ag:c.2.length<=10000) :
  Qe V 156 #[G2 b d,A1 x,J (Aj obs x).2] W fun e w'=>e= .returned Qj/\B2 w' base b d (E3 x (Aj obs x).2 c) (FZ x f)/\Ac (CZ W base b d) W w':=by
 obtain⟨g,n,E,m,ab,B,ac,T,X⟩:=OA hx;have L:=O8 ab;generalize (Aj obs x).2=t at ht B ac T X ⊢;have p:BL W ((W.alloc (S #[.map (O b),.map (O d)] 136)).alloc (S #[J x.1,J x.2.1,U Z x.2.2.1,U Z x.2.2.2.1,U Z x.2.2.2.2.1,U Z x.2.2.2.2.2] 77)):=(Af _ _).alloc (by simp) _;have q:Az ((W.alloc (S #[.map (O b),.map (O d)] 136)).alloc (S #[J x.1,J x.2.1,U Z x.2.2.1,U Z x.2.2.2.1,U Z x.2.2.2.2.1,U Z x.2.2.2.2.2] 77)) (W.heap.size+1) x:=by
  have:=Az.new (W.alloc (S #[.map (O b),.map (O d)] 136)) x;simpa using this
 have j:((W.alloc (S #[.map (O b),.map (O d)] 136)).alloc (S #[J x.1,J x.2.1,U Z x.2.2.1,U Z x.2.2.2.1,U Z x.2.2.2.2.1,U Z x.2.2.2.2.2] 77)).heap[W.heap.size]? =O (S #[.map (O b),.map (O d)] 136 (0,0)):=(Below.heap_alloc _ _ _ (by simp)).trans (Qr _ _);have M:=Iz x _ a (hE.below p).data.env.n hp;have e0:Ck x.1=g:=by unfold Ck;rw[E]
 rw[e0]at M;have HC:I _:=h.below p;have HE:I _:=hE;unfold A1
 go_enter func156,ntmps156
 go_upto_region 1 with fail
 have HA:I _:=p;generalize W.heap.size+1=xb at q ⊢;generalize ad:W.heap.size=cb at j ⊢;obtain⟨d0,d1,d2,d3,d4,d5,-⟩:=q.cells
 go_wp2_with fail
 refine M.mono ?_;rintro e F ⟨rfl,o⟩;have s:=HA.out.trans (o.mono HA.out.size);have aa:=q.below o;have N:=HC.out.below o;have P:=HE.out.below s;have l:=(o.block cb (Qk.1 j).1).trans j;have k0:F.cell? ⟨cb,0,A⟩=O (.map (O b)):=by
  rw[Qg _ _ _ _ _ _ l];rfl
 have k1:F.cell? ⟨cb,1,A⟩=O (.map (O d)):=by
  rw[Qg _ _ _ _ _ _ l];rfl
 obtain⟨d0,d1,d2,d3,d4,d5,-⟩:=aa.cells;have Q:I _:=s;have Y:=Qp K s.size
 cases g with
 | true =>
  have i:=m.2 rfl;have u:=nF F a P.data.weak base b d c f x.2.2.2.2.2 t N L ht B (fun z hz=>by have:=X z hz;omega) (by have:(B4 t.data.toList).1.length<=40:=T;omega);have v:I (E3 x t c=(c.1,c.2++(B4 t.data.toList).1.map fun k=>(k,x.2.2.2.2.2))):=M0 i;have y:I (FZ x f=f):=by show _=_;unfold FZ;rw[if_neg (by simpa using i)]
  go_wp2_with fail
  refine u.mono ?_;rintro e w3 ⟨rfl,C,D⟩;go_wp2;go_ret;refine⟨rfl,?_,?_⟩
  ·rw[v.out,y.out];exact C
  ·exact Jo (Ac.of_below Q.out) D
 | false =>
  have i:x.2.1.data.toList≠ [45]:=fun e=>by cases m.1 e
  have R:(Bw t.data.toList).1.length=(Bf Qb t.data.toList).1.length:=by
   show _=(BB (Bw t.data.toList).1).length;rw[KK]
  have u:=nC F a P.data base b d c f x.2.2.2.2.2 t N Y L ht B (fun e=>by rw[e]at R;simp at R;omega) (by omega) (by omega);have v:I (E3 x t c=(c.1++(Bw t.data.toList).1.map (fun r=>(r,x.2.2.2.2.2)),c.2)):=KS i;have y:I (FZ x f=x.2.2.2.2.2 :: f):=by show _=_;unfold FZ;rw[if_pos i]
  go_wp2_with fail
  refine u.mono ?_;rintro e w3 ⟨rfl,C,D⟩;go_wp2;go_ret;refine⟨rfl,?_,?_⟩
  ·rw[v.out,y.out];exact C
  ·exact Jo (Ac.of_below Q.out) D
def nH (a:Nat->Qn) (W:G) (obs:List Ob) (base b1 b2:Nat) (c:Ct) (qs:List Int) (x:Fl) (e:Ending) (w':G):Prop :=
 ((Aj obs x).1≠0/\e=Qf (Ae a (Aj obs x).1)/\BL W w')\/((Aj obs x).1=0/\e= .returned Qj/\B2 w' base b1 b2 (E3 x (Aj obs x).2 c) (FZ x qs)/\Ac (CZ W base b1 b2) W w')
section
variable {a : Nat → Qn} {B : Nat} {EM : G → Prop} {SAt : G → Value → (Nat → Prop) → St → Prop}
theorem nI (K:AJ a B EM SAt) (HV:∀W,EM W->Gs W a/\Fj W) (W:G) (hE:EM W) (v:Value) (FP:Nat->Prop) (d:St) (ai:SAt W v FP d) (ks:AR d) (base k l:Nat) (c:Ct) (qs:List Int) (x:Fl) (h:B2 W base k l c qs) (aa:base<=W.heap.size) (aw:x.1.size<=1000) (a2:x.2.1.size<=1000) (ax:qs.length<=100) (ay:c.1.length<=10000) (az:c.2.length<=10000) :
  Qe V 82 #[G2 k l,v,A1 x] W (nH a W d.obs base k l c qs x):=by
 have D:BL W ((W.alloc (S #[.map (O k),.map (O l)] 136)).alloc (S #[J x.1,J x.2.1,U Z x.2.2.1,U Z x.2.2.2.1,U Z x.2.2.2.2.1,U Z x.2.2.2.2.2] 77)):=(Af _ _).alloc (by simp) _;have E:Az ((W.alloc (S #[.map (O k),.map (O l)] 136)).alloc (S #[J x.1,J x.2.1,U Z x.2.2.1,U Z x.2.2.2.1,U Z x.2.2.2.2.1,U Z x.2.2.2.2.2] 77)) (W.heap.size+1) x:=by
  have:=Az.new (W.alloc (S #[.map (O k),.map (O l)] 136)) x;simpa using this
 have n:((W.alloc (S #[.map (O k),.map (O l)] 136)).alloc (S #[J x.1,J x.2.1,U Z x.2.2.1,U Z x.2.2.2.1,U Z x.2.2.2.2.1,U Z x.2.2.2.2.2] 77)).heap[W.heap.size]? =O (S #[.map (O k),.map (O l)] 136 (0,0)):=(Below.heap_alloc _ _ _ (by simp)).trans (Qr _ _);obtain⟨pt,rfl⟩:=K.ptr _ _ _ _ ai;have aj:=K.size W hE;have ab:I _:=fun X (hX:BL W X)=>K.below W X hE (hX.mono aj);have ak:I _:=fun X (hX:BL W X)=>K.keep _ X _ _ (fun _=>False) _ ai (Ac.of_below hX) (fun _ _ h=>h);have g:=K.get _ _ _ _ x.1 (ab.out _ D) (ak.out _ D) ks aw;have ac:=mV ks x.1;have HC:I _:=fun X (hX:BL W X)=>h.below hX;have q:I _:=fun X (hX:BL W X)=>HV X (ab.out X hX);have al:I _:=fun X (hX:BL W X) (h0:(Aj d.obs x).1=0) (hz:(Aj d.obs x).2.size<=20000) =>
  nG X a (q.out X hX).1 d.obs base k l c qs x (HC.out X hX) (Qp aa hX.size) h0 (by omega) (by unfold Qo;omega) ax ay az
 unfold A1 G2 at *
 go_enter func82,ntmps82
 go_upto_region 1 with fail
 have Q:I _:=D;generalize W.heap.size+1=xb at E ⊢;generalize a0:W.heap.size=cb at n ⊢;obtain⟨d0,d1,d2,d3,d4,d5,-⟩:=E.cells;rcases mU d.obs x.1 with C | C
 case inr =>
  have f:I ((Aj d.obs x).1=6):=by
   show _=_;rw[mW (x:=x) (obs:=d.obs) (by rw[C];simp),C]
  rw[C]at g;simp only[Ae]at g
  go_wp2_with fail
  refine g.mono ?_;rintro e w2 ⟨rfl,m⟩;go_wp2;go_ret;exact Qh ⟨by rw[f.out];decide,by rw[f.out];rfl,Q.out.trans (m.mono Q.out.size)⟩
 have i:=mX (x:=x) C;rw[C]at g;have e0:Ae a 0=Qj:=rfl;rw[e0]at g;obtain⟨tx,ar⟩:∃t,(AV d.obs x.1).1=t:=⟨_,rfl⟩;rw[ar]at g i ac;have F:I _:=fun X (hX:BL W X) =>
  Ul x.1 x.2.1 tx x.2.2.2.2.2 X a (q.out X hX).1 (fun _ _ _ _=>(q.out X hX).2) (by omega) (by omega) (by unfold Qo;omega)
 obtain⟨Y,hY⟩:∃Y,Bx x.1 x.2.1 tx.data.toList x.2.2.2.2.2=Y:=⟨_,rfl⟩;rw[hY]at F i;obtain⟨y,T⟩:=Y;unfold A1 at F
 go_wp2_with fail
 refine g.mono ?_;rintro e w2 ⟨rfl,m⟩;have L:=Q.out.trans (m.mono Q.out.size);have ad:=E.below m;have r:=(m.block cb (Qk.1 n).1).trans n;have s:=F.out w2 L;obtain⟨d0,d1,d2,d3,d4,d5,-⟩:=ad.cells;by_cases ae:T=0
 case neg =>
  have f:I ((Aj d.obs x).1=T):=by
   show _=_;rw[if_pos ae]at i;rw[i]
  obtain⟨j,rfl⟩:∃j,T=j+1:=⟨T-1,by omega⟩;simp only[Ae]at s
  go_wp2_with fail
  refine s.mono ?_;rintro e p ⟨rfl,P⟩;have o:BL p (p.alloc (S #[J y.1,J y.2.1,U Z y.2.2.1,U Z y.2.2.2.1,U Z y.2.2.2.2.1,U Z y.2.2.2.2.2] 77)):=Af _ _;have am:=Ad L P;go_wp2;go_ret;exact Qh ⟨by rw[f.out];omega,by rw[f.out];rfl,(Ad am o)⟩
 subst ae;rw[e0]at s
 go_wp2_with fail
 refine s.mono ?_;rintro e p ⟨rfl,P⟩;have o:BL p (p.alloc (S #[J y.1,J y.2.1,U Z y.2.2.1,U Z y.2.2.2.1,U Z y.2.2.2.2.1,U Z y.2.2.2.2.2] 77)):=Af _ _;have M:=Ad P o;have N:=Ad L M;have an:=Az.new p y;have ao:=ad.below M;have u:=(M.block cb (Qk.1 r).1).trans r
 go_upto_region 5 with fail
 generalize p.alloc (S #[J y.1,J y.2.1,U Z y.2.2.1,U Z y.2.2.2.1,U Z y.2.2.2.2.1,U Z y.2.2.2.2.2] 77)=w4 at *;have af:I _:=N;obtain⟨d0,d1,d2,d3,d4,d5,-⟩:=ao.cells;obtain⟨f0,f1,f2,f3,f4,f5,-⟩:=an.cells;have a1:=(q.out w4 N).1.data.shape;by_cases z:y=x
 case neg =>
  have f:I ((Aj d.obs x).1=3):=by
   show _=_;rw[if_neg (by simp),if_pos z]at i;rw[i]
  have ap:=fun W=>fU y x z W;have aq:=fun bo a b w=>fV bo a b y x w;unfold A1 at ap aq;go_wp2;go_ret;exact Qh ⟨by rw[f.out];decide,by rw[f.out];rfl,af.out⟩
 have R:Aj d.obs x=(0,tx):=by rw[i,if_neg (by simp),if_neg (by simpa using z)]
 obtain rfl:x=y:=z.symm;have ag:=al.out w4 N (by rw[R]) (by rw[R];exact ac);have k0:w4.cell? ⟨cb,0,A⟩=O (.map (O k)):=by
  rw[Qg _ _ _ _ _ _ u];rfl
 have k1:w4.cell? ⟨cb,1,A⟩=O (.map (O l)):=by
  rw[Qg _ _ _ _ _ _ u];rfl
 have ah:I _:=R;rw[R]at ag
 go_wp2_with fail
 refine ag.mono ?_;rintro e w5 ⟨rfl,au,av⟩;go_wp2;go_ret;refine Qt ⟨by rw[ah.out],rfl,by rw[ah.out];exact au,?_⟩;exact Jo (Ac.of_below af.out) av
end
def OC (fn:Nat) (cb:Array Value) (xs:List Rw) (p:Rw->Bool) (P:Nat->Prop) (w:G):Prop :=
 ∀(x:Rw) (W:G),x∈xs->Ac P w W->Qe V fn (#[Qa #[J x.1,U Z x.2.1,U Z x.2.2]]++cb) W fun e w'=>e=Qf (.bool (p x))/\BL W w'
def G3 (p:Rw->Bool) (xs:List Rw):Int:=match xs.findIdx? p with
 | some i=>i
 | none=> -1
theorem nJ {p:Rw->Bool} {xs:List Rw} {n:Nat} (b:n<xs.length) (h:∀j (h:j<xs.length),j<n->p xs[j]=Qb) (e:p xs[n]=Qd):G3 p xs=n:=by
 unfold G3;have:xs.findIdx? p=O n:=by
  rw[Q4];exact⟨b,e,fun j hj=>by simpa using h j (by omega) hj⟩
 rw[this]
theorem nK {p:Rw->Bool} {xs:List Rw} (h:∀j (h:j<xs.length),p xs[j]=Qb):G3 p xs= -1:=by
 unfold G3;have:xs.findIdx? p=A:=by
  rw[Q5];intro x c;obtain⟨j,b,rfl⟩:=Q6 c;exact h j b
 rw[this]
theorem nL (p:Rw->Bool) (xs:List Rw):(G3 p xs= -1/\∀j (h:j<xs.length),p xs[j]=Qb)\/∃n:Nat,∃hn:n<xs.length,G3 p xs=n/\p xs[n]=Qd/\∀j (h:j<xs.length),j<n->p xs[j]=Qb:=by
 unfold G3
 cases b:xs.findIdx? p with
 | none =>
  rw[Q5]at b;exact Qh ⟨rfl,fun j hj=>b _ (Qq _)⟩
 | some n =>
  rw[Q4]at b;obtain⟨hn,e,h⟩:=b;exact Qt ⟨n,hn,rfl,e,fun j hj hlt=>by simpa using h j hlt⟩
theorem U9 (v:Value) (xs:List Rw) (d:Nat) (z:Array Value) (p:Rw->Bool) (w:G) (eg:∀args w,(callFunc d args).run V w= .ok (.enter d args) w) (X:Ar w v xs) (hl:xs.length<=20000) (hp:∀(x:Rw) (W:G),x∈xs->BL w W->Qe V d (#[Qa #[J x.1,U Z x.2.1,U Z x.2.2]]++z) W fun e w'=>e=Qf (.bool (p x))/\BL W w') :
  Qe V 246 #[v,.func (.func d) #[] z] w fun e w'=>e=Qf (U Z (G3 p xs))/\BL w w':=by
 obtain⟨q,F,rfl⟩:=X.form;have u:I (Ar w (Ql q xs.length F) xs):=X;obtain⟨L,K⟩:∃L,xs.length=L:=⟨_,rfl⟩;have y:I (xs.length=L):=K;rw[K]at hl u ⊢;generalize hR:G3 p xs=R;have B:I (G3 p xs=R):=hR;have Y:I (∀(x:Rw) (W:G),x∈xs->BL w W->Qe V d (#[Qa #[J x.1,U Z x.2.1,U Z x.2.2]]++z) W fun e w'=>e=Qf (.bool (p x))/\BL W w'):=hp
 go_enter func246,ntmps246
 go_wp2
 go_loopw [8] (fun k wr=> ∃n:Nat,n<=L/\k=U Z n/\(∀j (h:j<xs.length),j<n->p xs[j]=Qb)/\BL w wr) (fun k _=>L-(intOf k).toNat)
 case atStart=>exact ⟨0,by omega,rfl,fun j h h'=>absurd h' (Nat.not_lt_zero _),Below.refl _ _⟩
 case round =>
  obtain⟨n,hn,rfl,M,m⟩:=hrel;have g:I (∀j (h:j<xs.length),j<n->p xs[j]=Qb):=M;by_cases C:n<L
  ·have i:n<xs.length:=by rw[y.out];exact C
   rcases u.out.below m with⟨_,_,e,e'⟩|⟨b,o,aa,e,s⟩
   ·exfalso;have:=y.out;rw[e']at this;simp at this;omega
   injection e with e1 e2 e3;subst e1;clear e2 e3;obtain⟨N,P,Q⟩:=s n i;have c:=Y.out xs[n] wr (Qq _) m;cases t:p xs[n]
   ·have D:I (∀j (h:j<xs.length),j<n+1->p xs[j]=Qb):=fun j hj hjn=>by
     by_cases e:j=n
     ·subst e;exact t
     ·exact g.out j hj (by omega)
    rw[t]at c;generalize xs[n]=f at N P Q c;obtain⟨fp,fk,fv⟩:=f
    go_wp2_with (go_at_fn d;refine c.mono ?_;rintro e T ⟨rfl,r⟩)
    have E:BL w T:=Ad m r;go_roundw
    case rel=>exact ⟨n+1,by omega,by go_num,D.out,E⟩
    case measure=>simp [intOf];omega
   ·have l:R=n:=by rw[<-B.out];exact nJ i g.out t
    subst l;rw[t]at c;generalize xs[n]=f at N P Q c;obtain⟨fp,fk,fv⟩:=f
    go_wp2_with (go_at_fn d;refine c.mono ?_;rintro e T ⟨rfl,r⟩)
    go_ret;exact⟨rfl,(Ad m r)⟩
  ·obtain rfl:n=L:=by omega
   have l:R= -1:=by rw[<-B.out];exact nK (fun j hj=>g.out j hj (by rw[<-y.out];exact hj))
   subst l;go_wp2;go_ret;exact⟨rfl,m⟩
def ET (cur:Array Value) (t:Nat) (r:Rw):Prop:=cur[t*3]? =O (J r.1)/\cur[t*3+1]? =O (U Z r.2.1)/\cur[t*3+2]? =O (U Z r.2.2)
def I0 (cur:Array Value) (t:Nat) (r:Rw):Array Value:=((cur.setIfInBounds (t*3) (J r.1)).setIfInBounds (t*3+1) (U Z r.2.1)).setIfInBounds (t*3+2) (U Z r.2.2)
theorem nM (b:Array Value) (t:Nat) (r:Rw):(I0 b t r).size=b.size:=by simp[I0]
theorem nN {b:Array Value} {t:Nat} {r:Rw} (h:t*3+2<b.size):ET (I0 b t r) t r:=by
 unfold ET I0;refine⟨?_,?_,?_⟩
 ·rw[Qc (by omega),Qc (by omega),Qy (by omega)]
 ·rw[Qc (by omega),Qy (by simp;omega)]
 ·rw[Qy (by simp;omega)]
theorem UA {b:Array Value} {t s:Nat} {r x:Rw} (h:s≠t) (g:ET b s x):ET (I0 b t r) s x:=by
 unfold ET I0 at *;obtain⟨c,d,f⟩:=g;refine⟨?_,?_,?_⟩
 ·rw[Qc (by omega),Qc (by omega),Qc (by omega)];exact c
 ·rw[Qc (by omega),Qc (by omega),Qc (by omega)];exact d
 ·rw[Qc (by omega),Qc (by omega),Qc (by omega)];exact f
structure GX (xs:List Rw) (p:Rw->Bool) (n:Nat) (cur:Array Value):Prop where
 kept:∀t (h:t<((xs.take n).filter fun x=> !p x).length),ET cur t ((xs.take n).filter fun x=> !p x)[t]
 rest:∀t (h:t<xs.length),n<=t->ET cur t xs[t]
theorem nP {xs:List Rw} {p:Rw->Bool} {n m:Nat} (i:m<n) (j:m<xs.length) (h:p xs[m]=Qd):((xs.take n).filter fun x=> !p x).length<n:=by
 rcases Nat.lt_or_ge ((xs.take n).filter fun x=> !p x).length n with d | d
 ·exact d
 ·exfalso;have f:(xs.take n).length<=n:=List.length_take_le _ _;have g:=List.length_filter_le (fun x=> !p x) (xs.take n);have b:((xs.take n).filter fun x=> !p x).length=(xs.take n).length:=by omega
  rw[List.length_filter_eq_length_iff]at b;have c:=b xs[m] (by
   rw[Q7];exact⟨m,by omega,rfl⟩)
  rw[h]at c;cases c
theorem GX.skip {xs:List Rw} {p:Rw->Bool} {n:Nat} {b:Array Value} (h:GX xs p n b) (c:n<xs.length) (d:p xs[n]=Qd):((xs.take (n+1)).filter fun x=> !p x)=((xs.take n).filter fun x=> !p x)/\GX xs p (n+1) b:=by
 have e:((xs.take (n+1)).filter fun x=> !p x)=((xs.take n).filter fun x=> !p x):=by
  rw[Nt (fun x=> !p x) xs n c];simp[d]
 exact⟨e,⟨by rw[e];exact h.kept,fun t ht hle=>h.rest t ht (by omega)⟩⟩
theorem GX.step {xs:List Rw} {p:Rw->Bool} {n:Nat} {b:Array Value} (h:GX xs p n b) (g:n<xs.length) (i:p xs[n]=Qb) (k:xs.length*3<=b.size) (j:((xs.take n).filter fun x=> !p x).length<n):((xs.take (n+1)).filter fun x=> !p x).length=((xs.take n).filter fun x=> !p x).length+1/\GX xs p (n+1) (I0 b ((xs.take n).filter fun x=> !p x).length xs[n]):=by
 have e:((xs.take (n+1)).filter fun x=> !p x)=((xs.take n).filter fun x=> !p x)++ [xs[n]]:=by
  rw[Nt (fun x=> !p x) xs n g];simp[i]
 refine⟨by rw[e,Qx];rfl,⟨?_,fun t c hle=>?_⟩⟩
 ·rw[e];intro t c;by_cases d:t<((xs.take n).filter fun x=> !p x).length
  ·rw[List.getElem_append_left d];exact UA (by omega) (h.kept t d)
  ·rw[Qx,List.length_singleton]at c;have f:t=((xs.take n).filter fun x=> !p x).length:=by omega
   subst f;rw[List.getElem_append_right (Q8 _)];simp only[Nat.sub_self,List.getElem_cons_zero];exact nN (by omega)
 ·exact UA (by omega) (h.rest t c (by omega))
theorem H8 {w:G} {g o:Nat} {b:Array Value} {t:Qm} {f:Nat×Nat} {v:Value} (h:w.heap[g]? =O (S b t f)) (c:b[o]? =O v):w.cell? ⟨g,o,A⟩=O v:=by
 simp[World.cell?,h,c]
theorem OD {w:G} {g o:Nat} {b:Array Value} {t:Qm} (h:w.heap[g]? =O (S b t (0,0))):w.frozen? ⟨g,o,A⟩=Qb:=by
 simp[World.frozen?,h]
theorem nQ {w:G} {g n:Nat} {b:Array Value} {t:Qm} (r:Rw) (h:w.heap[g]? =O (S b t (0,0))):(((w.setCell ⟨g,n*3,A⟩ (J r.1)).setCell ⟨g,n*3+1,A⟩ (U Z r.2.1)).setCell ⟨g,n*3+2,A⟩ (U Z r.2.2)).heap[g]? =O (S (I0 b n r) t (0,0)):=by
 have i:=Qz w g (n*3) b t (0,0) (J r.1) h;have c:=Qu w g b (b.setIfInBounds (n*3) (J r.1)) t (0,0) h;rw[<-i]at c;have j:=Qz _ g (n*3+1) _ t (0,0) (U Z r.2.1) c;have d:=Qu _ g _ ((b.setIfInBounds (n*3) (J r.1)).setIfInBounds (n*3+1) (U Z r.2.1)) t (0,0) c;rw[<-j]at d;have k:=Qz _ g (n*3+2) _ t (0,0) (U Z r.2.2) d;have f:=Qu _ g _ (((b.setIfInBounds (n*3) (J r.1)).setIfInBounds (n*3+1) (U Z r.2.1)).setIfInBounds (n*3+2) (U Z r.2.2)) t (0,0) d;rw[<-k]at f;exact f
theorem nR {w:G} {g i m c:Nat} {d:Array Value} (h:w.heap[g]? =O (S d 62 (0,0))) (z:0<m) (B:(i+m)*3<=d.size) :
  ∃cur',(∀ty,(Q9 #[35] ty #[Ql (O ⟨g,i*3,A⟩) m c]).run V w= .ok (Qw #[]) (w.setRow g cur'))/\∀t r,t<i->ET d t r->ET cur' t r:=by
 obtain⟨k,rfl⟩:∃k,m=k+1:=⟨m-1,by omega⟩;have q:(Qi (Qa #[J ⟨#[]⟩,U Z 0,U Z 0]).cells (k+1)).size=(k+1)*3:=by rw[size_zeroCells];rfl
 have s:∀v∈(Qi (Qa #[J ⟨#[]⟩,U Z 0,U Z 0]).cells (k+1)).toList,v.oneCell'=Qd:=by
  intro v p;simp only[Qi,Array.toList_map,List.mem_map]at p;obtain⟨j,_,rfl⟩:=p;have f:j % (Qa #[J ⟨#[]⟩,U Z 0,U Z 0]).cells.size=0\/j % (Qa #[J ⟨#[]⟩,U Z 0,U Z 0]).cells.size=1\/j % (Qa #[J ⟨#[]⟩,U Z 0,U Z 0]).cells.size=2:=by
   have e:(Qa #[J ⟨#[]⟩,U Z 0,U Z 0]).cells.size=3:=rfl;rw[e];omega
  rcases f with f | f | f<;>rw [f]<;>rfl
 have n:=run_storeCells_at (P:=V) g (i*3) 62 (Qi (Qa #[J ⟨#[]⟩,U Z 0,U Z 0]).cells (k+1)).toList 0 d w h (by rw[QA,q];omega) s;refine⟨(d.toList.take (i*3)++(Qi (Qa #[J ⟨#[]⟩,U Z 0,U Z 0]).cells (k+1)).toList++d.toList.drop (i*3+(Qi (Qa #[J ⟨#[]⟩,U Z 0,U Z 0]).cells (k+1)).toList.length)).toArray,fun ty=>?_,fun t r ht hr=>?_⟩
 ·generalize y:Qi (Qa #[J ⟨#[]⟩,U Z 0,U Z 0]).cells (k+1)=b at n ⊢;simp[Q9,run_underlying underlying35,y,n]
 ·generalize (Qi (Qa #[J ⟨#[]⟩,U Z 0,U Z 0]).cells (k+1)).toList=b;have l:∀o,o<i*3->((d.toList.take (i*3)++b++d.toList.drop (i*3+b.length)).toArray)[o]? =d[o]? :=fun o ho=>by
   have u:o<(d.toList.take (i*3)).length:=by
    rw[Qs,QA];omega
   rw[List.getElem?_toArray,Q2,List.getElem?_append_left u,List.getElem?_take,if_pos ho,Array.getElem?_toList]
  unfold ET at *;rw[l _ (by omega),l _ (by omega),l _ (by omega)];exact hr
def UB (g cap:Nat) (ys:List Rw) (w:G) (e:Ending) (w':G):Prop:=e=Qf (Ql (O ⟨g,0,A⟩) ys.length cap)/\Ei w' g 0 ys/\Ac (fun k=>k=g) w w'
theorem OE {w:G} {g:Nat} {b:Array Value} {t:Qm} {f:Nat×Nat} {ys:List Rw} (h:w.heap[g]? =O (S b t f)) (k:∀j (h:j<ys.length),ET b j ys[j]):Ei w g 0 ys:=fun j hj=>by
 obtain⟨c,d,i⟩:=k j hj;rw[Nat.zero_add];exact⟨H8 h c,H8 h d,H8 h i⟩
theorem nS {w:G} (g:Nat) (b:Array Value):Ac (fun k=>k=g) w (w.setRow g b):=⟨rfl,rfl,rfl,by simp,fun k _ hk=>setRow_other w g k b hk⟩
theorem nT (g s:Nat) (xs:List Rw) (R:Nat) (cb:Array Value) (p:Rw->Bool) (l:Array Value) (w:G) (eg:∀args w,(callFunc R args).run V w= .ok (.enter R args) w) (hg:w.heap[g]? =O (S l 62 (0,0))) (D:∀t (h:t<xs.length),ET l t xs[t]) (ak:xs.length*3<=l.size) (am:xs.length<=s) (hl:xs.length<=20000) (hp:OC R cb xs p (fun k=>k=g) w) :
  Qe V 162 #[Ql (O ⟨g,0,A⟩) xs.length s,.func (.func R) #[] cb] w (UB g s (xs.filter fun x=> !p x) w):=by
 have E:=U9 (Ql (O ⟨g,0,A⟩) xs.length s) xs R cb p w eg (Qt ⟨g,0,s,rfl,OE hg D⟩) hl (fun x W D hb=>hp x W D (Ac.of_below hb));have HP:I _:=hp;have HG:I _:=hg;have ac:=(Qk.1 hg).1;have Y:I _:=D;obtain⟨L,hL⟩:∃L,xs.length=L:=⟨_,rfl⟩;have HL:I _:=hL;rw[hL]at E ak am hl ⊢;rcases nL p xs with⟨hi,av⟩|⟨m,hm,hi,ai,aw⟩
 ·have HF:I (xs.filter (fun x=> !p x)=xs):=by
   show _=_;rw[QB];intro x D;obtain⟨j,hj,rfl⟩:=Q6 D;rw[av j hj];rfl
  rw[hi]at E
  go_enter func162,ntmps162
  go_wp2_with fail
  refine E.mono ?_;rintro e w1 ⟨rfl,M⟩;go_wp2;go_ret;unfold UB;rw[HF.out];refine⟨by rw[HL.out];rfl,OE ((M.block g ac).trans HG.out) Y.out,Ac.of_below M⟩
 ·rw[hi]at E;have az:m<L:=by rw[<-HL.out];exact hm
  have HM:I (∃hm:m<xs.length,p xs[m]=Qd):=⟨hm,ai⟩;have ad:I (GX xs p (m+1) l/\((xs.take (m+1)).filter fun x=> !p x).length=m):=by
   have e0:(xs.take m).filter (fun x=> !p x)=xs.take m:=by
    rw[QB];intro x D;rw[Q7]at D;obtain⟨j,hj,rfl⟩:=D;rw[aw j (by omega) (by omega)];rfl
   have h0:GX xs p m l:=⟨by
    rw[e0];intro t P;rw[List.getElem_take];exact Y.out t (by rw[Qs]at P;omega),fun t P _=>Y.out t P⟩
   obtain⟨e1,h1⟩:=h0.skip hm ai;refine⟨h1,?_⟩;rw[e1,e0,Qs];omega
  have a0:((m:Int) == -1)=Qb:=by simp
  go_enter func162,ntmps162
  go_wp2_with fail
  refine E.mono ?_;rintro e w1 ⟨rfl,M⟩;have an:I _:=(M.block g ac).trans HG.out;have ao:I (Ac (fun k=>k=g) w w1):=Ac.of_below M;go_wp2
  go_loopw [5,6] (fun i j wr=> ∃n:Nat,m<n/\n<=L/\j=U Z n/\i=U Z ((xs.take n).filter fun x=> !p x).length/\∃b,wr.heap[g]? =O (S b 62 (0,0))/\b.size=l.size/\GX xs p n b/\Ac (fun k=>k=g) w wr) (fun _ j _=>L-(intOf j).toNat)
  case atStart=>exact ⟨m+1,by omega,by omega,by go_num,by rw[ad.out.2],l,an.out,rfl,ad.out.1,ao.out⟩
  case round =>
   obtain⟨n,ar,hn,rfl,rfl,b,r,T,hI,K⟩:=hrel;have ae:((xs.take n).filter fun x=> !p x).length<n:=by
    obtain⟨au,al⟩:=HM.out;exact nP ar au al
   have HI:I _:=hI;by_cases ap:n<L
   ·have N:n<xs.length:=by rw[HL.out];exact ap
    obtain⟨a1,a2,a3⟩:=hI.rest n N (Q8 _);have c1:=H8 r a1;have c2:=H8 r a2;have c3:=H8 r a3;have hi:(n:Int)<(L:Int):=by omega
    have ay:(0:Int)<=(n:Int):=by omega
    have aa:=(Qk.1 r).1;cases X:p xs[n]
    case true =>
     have HS:=HI.out.skip N X;have d:=HP.out xs[n] (wr.alloc (S #[J xs[n].1,U Z xs[n].2.1,U Z xs[n].2.2] 62)) (Qq _) (K.trans (Q:=fun _=>False) (Ac.of_below (Af _ _)) (fun _ h=>h.elim));rw[X]at d;have z:I (((xs.take (n+1)).filter fun x=> !p x).length=((xs.take n).filter fun x=> !p x).length/\GX xs p (n+1) b):=⟨by rw[HS.1],HS.2⟩;generalize ((xs.take n).filter fun x=> !p x).length=q at *;generalize xs[n]=f at c1 c2 c3 d;obtain⟨u,fk,v⟩:=f;dsimp only at c1 c2 c3 d;have ab:BL wr (wr.alloc (S #[J u,U Z fk,U Z v] 62)):=Af _ _;have d1:(wr.alloc (S #[J u,U Z fk,U Z v] 62)).cell? ⟨wr.heap.size,0,A⟩=O (J u):=by simp
     have d2:(wr.alloc (S #[J u,U Z fk,U Z v] 62)).cell? ⟨wr.heap.size,1,A⟩=O (U Z fk):=by simp
     have d3:(wr.alloc (S #[J u,U Z fk,U Z v] 62)).cell? ⟨wr.heap.size,2,A⟩=O (U Z v):=by simp
     go_wp2_with (go_at_fn R;refine d.mono ?_;rintro e w2 ⟨rfl,B⟩)
     have F:=Ad ab B;go_roundw
     case rel=>exact ⟨n+1,by omega,by omega,by go_num,by rw[z.out.1],b,(F.block g aa).trans r,T,z.out.2,K.trans (Q:=fun _=>False) (Ac.of_below F) (fun _ h=>h.elim)⟩
     case measure=>simp [intOf];omega
    case false =>
     have HS:=HI.out.step N X (by rw[HL.out,T];exact ak) ae;have d:=HP.out xs[n] (wr.alloc (S #[J xs[n].1,U Z xs[n].2.1,U Z xs[n].2.2] 62)) (Qq _) (K.trans (Q:=fun _=>False) (Ac.of_below (Af _ _)) (fun _ h=>h.elim));rw[X]at d;have z:I _:=HS;generalize ((xs.take n).filter fun x=> !p x).length=q at *;generalize xs[n]=f at c1 c2 c3 d z;obtain⟨u,fk,v⟩:=f;dsimp only at c1 c2 c3 d;have ab:BL wr (wr.alloc (S #[J u,U Z fk,U Z v] 62)):=Af _ _;have d1:(wr.alloc (S #[J u,U Z fk,U Z v] 62)).cell? ⟨wr.heap.size,0,A⟩=O (J u):=by simp
     have d2:(wr.alloc (S #[J u,U Z fk,U Z v] 62)).cell? ⟨wr.heap.size,1,A⟩=O (U Z fk):=by simp
     have d3:(wr.alloc (S #[J u,U Z fk,U Z v] 62)).cell? ⟨wr.heap.size,2,A⟩=O (U Z v):=by simp
     have a4:(q:Int)<(L:Int):=by omega
     have a5:(0:Int)<=(q:Int):=by omega
     go_wp2_with (go_at_fn R;refine d.mono ?_;rintro e w2 ⟨rfl,B⟩;have F:BL wr w2:=(Ad ab B);have y:=(F.block g aa).trans r;have f1:=Aa B d1;have f2:=Aa B d2;have f3:=Aa B d3;have o1:=H8 y (Q0 (by omega:q*3<b.size));have o2:=H8 y (Q0 (by omega:q*3+1<b.size));have o3:=H8 y (Q0 (by omega:q*3+2<b.size));have z1:=OD (o:=q*3) y;have z2:=OD (o:=q*3+1) y;have z3:=OD (o:=q*3+2) y)
     have hw:=nQ (n:=q) (u,fk,v) y;dsimp only at hw;go_roundw
     case rel=>exact ⟨n+1,by omega,by omega,by go_num,by rw[z.out.1];go_num,_,hw,by rw[nM];exact T,z.out.2,(((K.trans (Q:=fun _=>False) (Ac.of_below F) (fun _ h=>h.elim)).setCell (Qh rfl) _).setCell (Qh rfl) _).setCell (Qh rfl) _⟩
     case measure=>simp [intOf];omega
   ·obtain rfl:n=L:=by omega
    have P:xs.take n=xs:=Q3 (by rw[HL.out];omega);have af:∀t (h:t<(xs.filter fun x=> !p x).length),ET b t (xs.filter fun x=> !p x)[t]:=by
     have:=hI.kept;rw[P]at this;exact this
    rw[P]at ae ⊢;obtain⟨C,d,ah⟩:=nR (i:=(xs.filter fun x=> !p x).length) (m:=n-(xs.filter fun x=> !p x).length) (c:=s-(xs.filter fun x=> !p x).length) r (by omega) (by rw[T];omega);have HE:I (Ei (wr.setRow g C) g 0 (xs.filter fun x=> !p x)):=OE (Qu wr g b C _ _ r) fun j hj=>ah j _ hj (af j hj);have HB:I (Ac (fun k=>k=g) w (wr.setRow g C)):=K.trans (nS g C) fun _ e _=>e;clear hI HI af ah P;generalize aj:xs.filter (fun x=> !p x)=ys at *;have ag:I (xs.filter (fun x=> !p x)=ys):=aj;clear aj;generalize ax:ys.length=q at *;have aq:I _:=ax;have a6:¬s=q:=by omega
    have a7:(q:Int)<=(n:Int):=by omega
    have a8:(q:Int)<=(s:Int):=by omega
    go_wp2;go_ret;exact⟨by rw[ag.out,aq.out];rfl,by rw[ag.out];exact HE.out,HB.out⟩
end Go.Proofs.YtcllhobffhkafaaGreatDoor
