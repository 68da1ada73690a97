/- By an AI agent. -/
import Derived.Test.YtcllhobffhkafaaGreatDoorScanLw
set_option maxRecDepth 100000
set_option maxHeartbeats 16000000
open Go.Proofs.Tryz
open Bool renaming false->V,true->Qe
open Go renaming World->J,Value->A,Calls->Qh,cell_of_row->Qr,heap_setCell_same->Qs,maxLen->Qv,bodyPost_ret->Q0,lt_of_block->Q2,frozen_of_row->Q3
open Go.Ending renaming returned->Qg
open Go.IntKind renaming i64->I
open Go.IntWalk renaming i64_in->Qf
open Go.Obj renaming cells->Qb
open Go.Proofs renaming intOf->Qc
open Go.RowKit renaming Hid->S
open Go.RowKit.Below renaming refl->Qj,drew->Qn
open Go.Value renaming int->Z,string->H,pointer->Qa,slice->Qd,tuple->Qi,bool->Qm,nilIface->Q1,ownBlock->Q6
open List renaming getElem_mem->Qk,length_map->Qo,getElem_set->Qp,map_append->Qq,length_set->Qt,mem_singleton->Qu,getElem?_eq_some_iff->Qw,getElem?_eq_getElem->Qx,take_succ_eq_append_getElem->Qy,filter_append->Qz,getElem?_take->Q4,pairwise_iff_getElem->Q5
open Option renaming some->O,none->U
open Option.some renaming injEq->Ql
namespace Go.Proofs.YtcllhobffhkafaaGreatDoor
open Go.RowKit Go.Extern.Stop Go.Stop Go.Extern Go.Sort Go.Shelf Go.Lib
theorem uV (g f:Fl) (b:Nat) (w:J) (a:Nat->Addr) (h:CT w a) (n:Az w b g) (o:f.1.size<=100000) :
  Qh prog 145 #[A1 f,Qa (O ⟨b,0,U⟩)] w fun e w'=>e=Qg (Qm (J0 g f))/\BL w w':=by
 have c:BL w (w.alloc (Qb #[H f.1,H f.2.1,Z I f.2.2.1,Z I f.2.2.2.1,Z I f.2.2.2.2.1,Z I f.2.2.2.2.2] 77)):=Af _ _;have j:=Az.new w f;have d:=Iz f (w.alloc (Qb #[H f.1,H f.2.1,Z I f.2.2.1,Z I f.2.2.2.1,Z I f.2.2.2.2.1,Z I f.2.2.2.2.2] 77)) a (h.below c) o;have m:=n.below c;unfold A1 at d ⊢;unfold J0;generalize Ck f.1=G at d ⊢
 go_enter func145,ntmps145
 go_upto_region 1 with fail
 obtain⟨u,v,y,q,r,l⟩:=f;obtain⟨z,B,C,D,E,F,-⟩:=j.cells
 go_wp2_with fail
 refine d.mono ?_;rintro e K ⟨rfl,i⟩;have s:=(j.below i).cells.2.2.2.2.2.1;have t:=(m.below i).cells.2.2.2.2.2.1;have k:=Ad c i;cases G
 ·by_cases p:l<g.2.2.2.2.2
  ·go_wp2;go_ret;exact⟨by simp,k⟩
  ·go_wp2;go_ret;exact⟨by simp,k⟩
 ·go_wp2;go_ret;exact⟨by simp,k⟩
def VH (w:J) (a:Nat->Addr) (fs:List Fl) (e:Ending) (w':J):Prop :=
 ∃v ev,e=Qg (Qi #[v,ev])/\AU w' a ev (BF fs)/\BL w w'/\((BF fs).1≠0->v=Qd U 0 0)/\((BF fs).1=0->w'.ownsRow w.heap.size 9 1 v (GA fs).length ((GA fs).map H))
def Dc (fs:List Fl) (n:Nat):List ByteArray:=((fs.take n).filter (G9 fs)).map (·.1)
theorem uW {b:List Fl} {n:Nat} (h:n<b.length) (e:G9 b b[n]=Qe):Dc b (n+1)=Dc b n++ [b[n].1]:=by
 unfold Dc;rw[Qy h,Qz,Qq];simp[e]
theorem uX {b:List Fl} {n:Nat} (h:n<b.length) (e:G9 b b[n]=V):Dc b (n+1)=Dc b n:=by
 unfold Dc;rw[Qy h,Qz,Qq];simp[e]
theorem uY (b:List Fl) (n:Nat):(Dc b n).length<=b.length:=by
 unfold Dc;rw[Qo];have c:=List.length_filter_le (G9 b) (b.take n);have d:=List.length_take_le' n b;omega
theorem uZ (v:A) (c:List Fl) (w:J) (a:Nat->Addr) (h:D4 w a) (hx:Ai w v c) (hl:c.length<=100) (af:Eb c) :
  Qh prog 73 #[v] w fun e w'=>VH w a c e w':=by
 have eg:=enters_of func145 (by kernel_rfl) rfl;have D:=KI v c w a h hx (by omega) af;have E:S _:=fun W (d:BL w W)=>h.file.env.below d;have HX:S _:=fun W (d:BL w W)=>hx.below d;have F:S (∀f∈c,f.1.size<=100000):=fun f hf=>by have:=(af f hf).1;omega
 have ai:S (∀f∈c,∀W,BL w W->Qh prog 139 #[A1 f] W fun e w'=>e=Qg (Qm (Ck f.1))/\BL W w'):=fun f hf W d=>Iz f W a (E.out W d) (F.out f hf);have K:S _:=fun g b W (d:BL w W) (hg:Az W b g)=>Ov 145 #[Qa (O ⟨b,0,U⟩)] (J0 g) v c W (HX.out W d) (by omega) eg (fun f hf X hX=>uV g f b X a (E.out X (Ad d hX)) (hg.below hX) (F.out f hf));obtain⟨q,ar,rfl⟩:=hx.form;obtain⟨L,hL⟩:∃L,c.length=L:=⟨_,rfl⟩;have HL:S _:=hL;have aj:S (Dc c L=GA c):=by
  show _=_;unfold Dc GA;rw[<-hL,List.take_length]
 rw[hL]at D HX K ⊢
 go_enter func73,ntmps73
 go_wp2_with fail
 refine D.mono ?_;rintro e w1 ⟨ev,rfl,y,ae⟩;by_cases m:(BF c).1=0
 case neg =>
  have HP:S (VH w a c (Qg (Qi #[Qd U 0 0,ev])) w1):=⟨_,_,rfl,y,ae,fun _=>rfl,fun e=>absurd e m⟩;obtain⟨tt,uu,rfl⟩:=y.bad m;go_wp2;refine Q0 (v:=Qi #[Qd U 0 0,.iface tt uu]) (by simp[results,results73,go_sem]) rfl ?_;exact HP.out
 case pos =>
 have HE:S _:=m;have HT:S (∀W,AU W a Q1 (BF c)):=fun W=>by
  cases hc:BF c with
  | mk n o =>
   rw[hc]at y m;obtain rfl:n=0:=m
   cases o with
   | none=>rfl
   | some j=>exact absurd rfl y.1
 obtain rfl:=y.ok m
 go_wp2_with fail
 go_loopw [5,16] (fun u k wr=> ∃n:Nat,n<=L/\k=Z I n/\wr.ownsRow w.heap.size 9 1 u (Dc c n).length ((Dc c n).map H)/\BL w wr) (fun _ k _=>L-(Qc k).toNat)
 case atStart=>exact ⟨0,by omega,rfl,World.ownsRow_nil _ _ _ _,ae⟩
 case round =>
 obtain⟨n,hn,rfl,ho,d⟩:=hrel;have HO:S _:=ho;by_cases ak:n<L
 case neg =>
  obtain rfl:n=L:=by omega
  have al:S (wr.ownsRow w.heap.size 9 1 u5 (GA c).length ((GA c).map H)):=by
   have C:=HO.out;rw[aj.out]at C;exact C
  go_wp2;refine Q0 (v:=Qi #[u5,Q1]) (by simp[results,results73,go_sem]) rfl ?_;exact⟨_,_,rfl,HT.out _,d,fun e=>absurd HE.out e,fun _=>al.out⟩
 case pos =>
  have i:n<c.length:=by rw[HL.out];exact ak
  obtain⟨b,o,hq,hc⟩:=(HX.out wr d).cells (fun e=>by rw[e]at i;simp at i);subst hq;obtain⟨c0,c1,c2,c3,c4,c5⟩:=hc n i;have M:S (G9 c c[n]=Qe->Dc c (n+1)=Dc c n++ [c[n].1]):=fun e=>uW i e;have p:S (G9 c c[n]=V->Dc c (n+1)=Dc c n):=fun e=>uX i e;have am:S ((Dc c n).length<=100):=by
   have C:=uY c n;rw[HL.out]at C;show _<=_;omega
  have N:=ai.out c[n] (Qk _);generalize c[n]=g at c0 c1 c2 c3 c4 c5 M p N;have Q:BL wr (wr.alloc (Qb #[H g.1,H g.2.1,Z I g.2.2.1,Z I g.2.2.2.1,Z I g.2.2.2.2.1,Z I g.2.2.2.2.2] 77)):=Af _ _;have R:=Az.new wr g;have T:=Ad d Q;have an:S _:=AO (P:=fun _=>False) HO.out (Ac.of_below Q) (fun _ _ h=>h)
  go_upto_region 8 with fail
  generalize wr.alloc (Qb #[H g.1,H g.2.1,Z I g.2.2.1,Z I g.2.2.2.1,Z I g.2.2.2.2.1,Z I g.2.2.2.2.2] 77)=W2 at *;generalize wr.heap.size=gb at *;obtain⟨d0,d1,d2,d3,d4,d5,-⟩:=R.cells;have ag:=N W2 T
  go_upto_region 9 with fail
  go_wp2_with fail
  refine ag.mono ?_;rintro e w3 ⟨rfl,z⟩;have r:=Ad T z;have Y:=R.below z;have aa:S _:=AO (P:=fun _=>False) an.out (Ac.of_below z) (fun _ _ h=>h);cases hG:Ck g.1
  case false =>
   have HS:S _:=p.out (by unfold G9;rw[hG];rfl);go_wp2;go_roundw
   case rel=>exact ⟨n+1,by omega,by go_num,by rw[HS.out];exact aa.out,r⟩
   case measure=>simp [Qc];omega
  case true =>
   have ab:=K.out g gb w3 r Y;have ac:S (c.any (J0 g)=Qe->Dc c (n+1)=Dc c n):=fun e=>p.out (by unfold G9;rw[hG,e];rfl);have ad:S (c.any (J0 g)=V->Dc c (n+1)=Dc c n++ [g.1]):=fun e=>M.out (by unfold G9;rw[hG,e];rfl);generalize c.any (J0 g)=OB at ab ac ad
   go_wp2_with fail
   refine ab.mono ?_;rintro e w4 ⟨rfl,B⟩;have l:=Ad r B;have ao:=Y.below B;have s:S _:=AO (P:=fun _=>False) aa.out (Ac.of_below B) (fun _ _ h=>h);cases OB
   case true =>
    have HS:=ac.out rfl;have t:S _:=HS;go_wp2;go_roundw
    case rel=>exact ⟨n+1,by omega,by go_num,by rw[t.out];exact s.out,l⟩
    case measure=>simp [Qc];omega
   case false =>
    have t:S _:=ad.out rfl;have z0:=ao.cells.1;obtain⟨v',W6,hr,aq,ah,-⟩:=KM s.out l.size g.1 rfl (by have:=am.out;omega);have ap:=l.trans (ah.below l.size (fun k hk=>(AF s.out hk).1));have HR:S (W6.ownsRow w.heap.size 9 1 v' (Dc c (n+1)).length ((Dc c (n+1)).map H)):=by
     show World.ownsRow _ _ _ _ _ _ _;rw[t.out];exact aq
    go_wp2_with (at_builtin;refine wpList_append_run (by rfl) _ _ _ (by rfl) _ _ _ (by rfl) (by rfl) hr ?_)
    go_roundw
    case rel=>exact ⟨n+1,by omega,by go_num,HR.out,ap⟩
    case measure=>simp [Qc];omega
abbrev Gp:=ByteArray×Int×List ByteArray
def Ch (f:Fl) (g:Gp):Bool:=decide (g.1=f.2.1) && decide (g.2.1+f.2.2.1<=40)
def CA (f:Fl) (g:Gp):Gp:=(g.1,g.2.1+f.2.2.1,g.2.2++ [f.1])
def Cl (f:Fl):List Gp->List Gp
 | []=> [CA f (f.2.1,0, [])]
 | g :: r=>if Ch f g=Qe then CA f g :: r else g :: Cl f r
theorem VI (f:Fl):∀ {gs:List Gp},gs.any (Ch f)=V->Cl f gs=gs++ [CA f (f.2.1,0, [])]
 | [],_=>rfl
 | g :: r,h=>by
  rw[List.any_cons,Bool.or_eq_false_iff]at h;unfold Cl;rw[if_neg (by rw[h.1];simp),VI f h.2];rfl
theorem VJ (f:Fl):∀ {gs:List Gp} {n:Nat} (h:n<gs.length),Ch f gs[n]=Qe->(∀j (hj:j<gs.length),j<n->Ch f gs[j]=V)->Cl f gs=gs.set n (CA f gs[n])
 | [],n,h,_,_=>by simp at h
 | g :: r,0,_,h1,_=>by
  unfold Cl;rw[if_pos (show Ch f g=Qe from h1)];rfl
 | g :: r,n+1,h,h1,h2=>by
  have b:=h2 0 (by simp) (by omega);unfold Cl;rw[if_neg (by rw[show Ch f g=V from b];simp),VJ f (n:=n) (by simpa using h) h1 (fun j hj hjn=>h2 (j+1) (by simpa using hj) (by omega))];rfl
def Cm (W:J) (gb:Nat) (g:Gp) (vp:A):Prop:=W.heap[gb]? =O (Qb #[H g.1,Z I g.2.1,vp] 205 (0,0))
theorem Cm.lt {W:J} {b:Nat} {g:Gp} {c:A} (h:Cm W b g c):b<W.heap.size:=Q2 h
theorem Cm.cells {W:J} {b:Nat} {g:Gp} {c:A} (h:Cm W b g c):W.cell? ⟨b,0,U⟩=O (H g.1)/\W.cell? ⟨b,1,U⟩=O (Z I g.2.1)/\W.cell? ⟨b,2,U⟩=O c/\∀o,W.frozen? ⟨b,o,U⟩=V:=by
 refine⟨?_,?_,?_,fun o=>Q3 _ _ _ _ _ h⟩<;>rw [Qr _ _ _ _ _ _ h]<;>rfl
theorem Cm.but {P:Nat->Prop} {W c:J} {b:Nat} {g:Gp} {d:A} (h:Cm W b g d) (f:Ac P W c) (i:¬P b):Cm c b g d:=(f.block b h.lt i).trans h
theorem Cm.below {W c:J} {b:Nat} {g:Gp} {d:A} (h:Cm W b g d) (f:BL W c):Cm c b g d:=(f.block b h.lt).trans h
theorem Cm.set1 {W:J} {b:Nat} {g:Gp} {c:A} (h:Cm W b g c) (n:Int):Cm (W.setCell ⟨b,1,U⟩ (Z I n)) b (g.1,n,g.2.2) c:=by
 unfold Cm at *;rw[Qs _ _ _ _ _ _ h];rfl
theorem Cm.set2 {W:J} {b:Nat} {g:Gp} {c:A} (h:Cm W b g c) (v:A) (ps:List ByteArray):Cm (W.setCell ⟨b,2,U⟩ v) b (g.1,g.2.1,ps) v:=by
 unfold Cm at *;rw[Qs _ _ _ _ _ _ h];rfl
theorem vA (f:Fl) (g:Gp) (o:Nat) (u:A) (w:J) (v:Cm w o g u) (W:0<=g.2.1/\g.2.1<=1000000) (X:0<=f.2.2.1/\f.2.2.1<=1000000) :
  Qh prog 227 #[Qa (O ⟨o,0,U⟩),A1 f] w fun e w'=>e=Qg (Qm (Ch f g))/\BL w w':=by
 have c:BL w (w.alloc (Qb #[H f.1,H f.2.1,Z I f.2.2.1,Z I f.2.2.2.1,Z I f.2.2.2.2.1,Z I f.2.2.2.2.2] 77)):=Af _ _;have l:=Az.new w f;have m:=v.below c;have y:IntKind.i64.wrap (g.2.1+f.2.2.1)=g.2.1+f.2.2.1:=Qf _ (by omega);have d:S (Ch f g=(decide (g.1=f.2.1) && decide (g.2.1+f.2.2.1<=40))):=rfl;generalize Ch f g=R at d ⊢;unfold A1
 go_enter func227,ntmps227
 go_upto_region 1 with fail
 obtain⟨C,q,r,z,B,s⟩:=f;obtain⟨k,t,D⟩:=g;obtain⟨E,F,K,L,M,N,-⟩:=l.cells;obtain⟨P,Q,T,-⟩:=m.cells;by_cases i:k=q
 ·subst i;have p:(k.toList == k.toList)=Qe:=by simp
  by_cases n:t+r<=40
  ·have j:=decide_eq_true n;have b:S (R=Qe):=by show _=_;rw[d.out,j];simp
   go_quiet (fail)
   go_wp2;go_ret;exact⟨by rw[b.out];rfl,AH c _⟩
  ·have j:=decide_eq_false n;have b:S (R=V):=by show _=_;rw[d.out,j];simp
   go_quiet (fail)
   go_wp2;go_ret;exact⟨by rw[b.out];rfl,AH c _⟩
 ·have p:=K2 (fun e=>i (Ii e));have b:S (R=V):=by show _=_;rw[d.out,decide_eq_false i];rfl
  go_quiet (fail)
  go_wp2;go_ret;exact⟨by rw[b.out];rfl,AH c _⟩
def Lh (B:Nat) (w:J) (gb:Nat) (vp:A) (g:Gp) (w':J):Prop :=
 ∃v',Cm w' gb g v'/\w'.ownsRow B 9 1 v' g.2.2.length (g.2.2.map H)/\Ac (fun k=>k=gb\/vp.ownBlock=O k) w w'/\(v'.ownBlock=vp.ownBlock\/∃k,v'.ownBlock=O k/\w.heap.size<=k/\k<w'.heap.size)
theorem VK (B:Nat) (f:Fl) (g:Gp) (b:Nat) (o:A) (w:J) (hg:Cm w b g o) (ho:w.ownsRow B 9 1 o g.2.2.length (g.2.2.map H)) (hB:B<=w.heap.size) (h1:0<=g.2.1/\g.2.1<=1000000) (h2:0<=f.2.2.1/\f.2.2.1<=1000000) (al:g.2.2.length<=1000) :
  Qh prog 228 #[Qa (O ⟨b,0,U⟩),A1 f] w fun e w'=>e=Qg (Qi #[])/\Lh B w b o (CA f g) w':=by
 have t:BL w (w.alloc (Qb #[H f.1,H f.2.1,Z I f.2.2.1,Z I f.2.2.2.1,Z I f.2.2.2.2.1,Z I f.2.2.2.2.2] 77)):=Af _ _;have u:=Az.new w f;have v:=hg.below t;have L:=AO (P:=fun _=>False) ho (Ac.of_below t) (fun _ _ h=>h);have am:IntKind.i64.wrap (g.2.1+f.2.2.1)=g.2.1+f.2.2.1:=Qf _ (by omega);have an:=hg.lt;obtain⟨qp,cp,ai⟩:=CY ho;unfold A1 CA
 go_enter func228,ntmps228
 go_upto_region 1 with fail
 obtain⟨p,fq,d,ad,ae,Q⟩:=f;obtain⟨gp,i,X⟩:=g;generalize w.alloc (Qb #[H p,H fq,Z I d,Z I ad,Z I ae,Z I Q] 77)=l at t u v L ⊢;obtain⟨c0,c1,c2,c3,c4,c5,-⟩:=u.cells;obtain⟨d0,d1,d2,dz⟩:=v.cells;have y:∀k,o.ownBlock=O k->k≠b:=fun k hk e=>by
  obtain⟨_,_,ao,hc⟩:=AF L hk;subst e;have:=v.symm.trans hc;simp only[Ql,Obj.cells.injEq]at this;exact absurd this.2.1 (by decide)
 have M:Ac (fun k=>k=b) l ((l.setCell ⟨b,1,U⟩ (Z I (i+d))).drew):=by
  have h':Ac (fun k=>k=b) l (l.setCell ⟨b,1,U⟩ (Z I (i+d))):=(Ac.refl (fun k=>k=b) l).setCell (Or.inl (Eq.refl b)) _;exact h'.trans (Ac.of_below (Qn (Qj _ _))) (fun _ h _=>h)
 have z:Cm ((l.setCell ⟨b,1,U⟩ (Z I (i+d))).drew) b (gp,i+d,X) o:=(v.set1 (i+d)).below (Qn (Qj _ _));have Y:=AO L M y;have aa:Az ((l.setCell ⟨b,1,U⟩ (Z I (i+d))).drew) w.heap.size (p,fq,d,ad,ae,Q):=(M.block w.heap.size (Q2 u) (by omega)).trans u;have C:S (Ac (fun k=>k=b\/o.ownBlock=O k) w ((l.setCell ⟨b,1,U⟩ (Z I (i+d))).drew)):=(Ac.of_below t).trans (M.mono fun _ h=>Or.inl h) (fun _ h _=>h)
 go_region
 go_upto_region 2 with fail
 generalize (l.setCell ⟨b,1,U⟩ (Z I (i+d))).drew=m at *;have ag:B<=m.heap.size:=Nat.le_trans hB C.out.size;have D:BL m m.drew:=(Qj _ _).drew;have ab:BL m (m.alloc (Qb #[H p] 9)):=Af _ _;have ac:=AO (P:=fun _=>False) Y (Ac.of_below D) (fun _ _ h=>h);obtain⟨r,K,hr,R,T,W⟩:=KM ac ag p rfl (by omega);have E:Cm K b (gp,i+d,X) o:=(z.below D).but T (fun e=>y b e rfl);have N:∀k,r.ownBlock=O k->k≠b:=fun k hk e=>by
  rcases W with s | ⟨j,s,hj,_⟩
  ·exact y k (s.symm.trans hk) e
  ·rw[s]at hk;injection hk with hk;have h5:m.drew.heap.size=m.heap.size:=rfl;have:=z.lt;omega
 obtain⟨q',n',c',aj⟩:∃q n c,r=Qd q n c:=by
  obtain⟨q,c,h⟩:=CY R;exact⟨q,_,c,h⟩
 have F:Ac (fun k=>k=b) K (K.setCell ⟨b,2,U⟩ r):=(Ac.refl (fun k=>k=b) K).setCell (Or.inl (Eq.refl b)) _;have af:S (Lh B w b o (gp,i+d,X++ [p]) (K.setCell ⟨b,2,U⟩ r)):=by
  refine⟨r,E.set2 r (X++ [p]),AO R F N,(C.out.trans ((Ac.of_below D).trans (T.mono fun _ h=>Or.inr h) (fun _ h _=>h)) (fun _ h _=>h)).trans (F.mono fun _ h=>Or.inl h) (fun _ h _=>h),?_⟩;rcases W with s | ⟨j,s,hj,ak⟩
  ·exact Or.inl s
  ·exact Or.inr ⟨j,s,Nat.le_trans C.out.size hj,Nat.lt_of_lt_of_le ak F.size⟩
 have ah:(Builtin.append_ #[82,82] 82 #[o,Qd (O ⟨m.heap.size,0,U⟩) 1 1]).run prog (m.alloc (Qb #[H p] 9)).drew= .ok r K:=hr;have k0:=aa.cells.1;have m0:=z.cells.2.2.1;have m2:=Aa ab m0;have y0:=E.cells.2.2.1;have y1:=E.cells.2.2.2;subst aj;clear hr ac D ab aa z E Y R T W F y N C ai
 go_region_law (refine Oz (by rfl) _ _ _ (by rfl) _ _ _ (by rfl) (by rfl) ah ?_)
 all_goals go_wp2
 all_goals go_end0
 all_goals exact⟨rfl,af.out⟩
abbrev Gx:=Nat×A×Gp
def EW (x:Gx):A:=Qa (O ⟨x.1,0,U⟩)
structure BA (B:Nat) (W:J) (v:A) (xs:List Gx):Prop where
 row:W.ownsRow B 202 1 v xs.length (xs.map EW)
 cell:∀x∈xs,Cm W x.1 x.2.2 x.2.1/\B<=x.1/\W.ownsRow B 9 1 x.2.1 x.2.2.2.2.length (x.2.2.2.2.map H)
 ap:xs.Pairwise fun x y=>x.1≠y.1/\∀k,x.2.1.ownBlock=O k->y.2.1.ownBlock≠O k
theorem Hb {W:J} {j k:Nat} {d f:Array A} {b c:TypeId} (g:W.heap[j]? =O (Qb d b (0,0))) (i:W.heap[k]? =O (Qb f c (0,0))) (l:b≠c):j≠k:=fun e=>by
 subst e;have:=g.symm.trans i;simp only[Ql,Obj.cells.injEq]at this;exact l this.2.1
theorem BA.but {P:Nat->Prop} {B:Nat} {W c:J} {v:A} {xs:List Gx} (h:BA B W v xs) (b:Ac P W c) (f:∀k,v.ownBlock=O k->¬P k) (d:∀x∈xs,¬P x.1/\∀k,x.2.1.ownBlock=O k->¬P k):BA B c v xs :=
 ⟨AO h.row b f,fun x hx=>⟨(h.cell x hx).1.but b (d x hx).1,(h.cell x hx).2.1,AO (h.cell x hx).2.2 b (d x hx).2⟩,h.ap⟩
theorem BA.below {B:Nat} {W b:J} {v:A} {xs:List Gx} (h:BA B W v xs) (c:BL W b):BA B b v xs :=
 h.but (Ac.of_below (P:=fun _=>False) c) (fun _ _ h=>h) (fun _ _=>⟨fun h=>h,fun _ _ h=>h⟩)
theorem BA.nil (B:Nat) (W:J):BA B W (Qd U 0 0) []:=⟨World.ownsRow_nil _ _ _ _,fun _ h=>absurd h (List.not_mem_nil),List.Pairwise.nil⟩
theorem BA.at_ {B:Nat} {W:J} {q:Option Addr} {n c:Nat} {xs:List Gx} (h:BA B W (Qd q n c) xs) (i:xs≠ []):∃b,q=O ⟨b,0,U⟩/\∀j (hj:j<xs.length),W.cell? ⟨b,j,U⟩=O (EW xs[j]):=by
 rcases h.row.2 with⟨_,k⟩|⟨g,o,d,f,_,l,p,_,_,m⟩
 ·exact absurd (List.length_eq_zero_iff.1 k) i
 ·simp only[Value.slice.injEq]at f;refine⟨g,f.1,fun j hj=>?_⟩;rw[Qr _ _ _ _ _ _ l];have e:(d.toList.take (xs.length*1))[j]? =(xs.map EW)[j]? :=by rw[m]
  rw[Q4,if_pos (by omega),Array.getElem?_toList]at e;rw[e];simp[hj]
theorem BA.took {B:Nat} {W L:J} {v:A} {xs:List Gx} (h:BA B W v xs) {n:Nat} (t:n<xs.length) {g:Gp} (Q:Lh B W xs[n].1 xs[n].2.1 g L):∃v',BA B L v (xs.set n (xs[n].1,v',g)):=by
 obtain⟨v',M,N,z,P⟩:=Q;have m:=h.cell xs[n] (Qk _);have c:=Q5.1 h.ap;have y:∀k,v.ownBlock=O k->¬(k=xs[n].1\/xs[n].2.1.ownBlock=O k):=fun k hk e=>by
  obtain⟨_,_,R,d⟩:=AF h.row hk;rcases e with e | e
  ·exact Hb d m.1 (by decide) e
  ·obtain⟨_,_,K,f⟩:=AF m.2.2 e;exact Hb d f (by decide) rfl
 have o:∀j (b:j<xs.length),j≠n->¬(xs[j].1=xs[n].1\/xs[n].2.1.ownBlock=O xs[j].1)/\∀k,xs[j].2.1.ownBlock=O k->¬(k=xs[n].1\/xs[n].2.1.ownBlock=O k):=fun j b hne=>by
  have l:=h.cell xs[j] (Qk _);have u:xs[j].1≠xs[n].1/\∀k,xs[j].2.1.ownBlock=O k->xs[n].2.1.ownBlock≠O k:=by
   rcases Nat.lt_or_gt_of_ne hne with D | D
   ·exact c j n b t D
   ·obtain⟨q,C⟩:=c n j t b D;exact⟨fun e=>q e.symm,fun k d f=>C k f d⟩
  refine⟨fun e=>?_,fun k hk e=>?_⟩
  ·rcases e with e | e
   ·exact u.1 e
   ·obtain⟨_,_,K,f⟩:=AF m.2.2 e;exact Hb l.1 f (by decide) rfl
  ·rcases e with e | e
   ·obtain⟨_,_,K,f⟩:=AF l.2.2 hk;exact Hb m.1 f (by decide) e.symm
   ·exact u.2 k hk e
 have p:∀j (b:j<xs.length),j≠n->∀k,xs[j].2.1.ownBlock=O k->v'.ownBlock≠O k:=fun j b hne k hk e=>by
  rcases P with E | ⟨i,E,r,_⟩
  ·exact(o j b hne).2 k hk (Or.inr (E.symm.trans e))
  ·rw[E]at e;injection e with e;have:=(AF (h.cell xs[j] (Qk _)).2.2 hk).2.1;omega
 refine⟨v',?_,fun x hxm=>?_,?_⟩
 ·have d:(xs.set n (xs[n].1,v',g)).map EW=xs.map EW:=by
   apply List.ext_getElem (by simp);intro j _ _;simp only[List.getElem_map,Qp];split
   ·rename_i e;subst e;rfl
   ·rfl
  rw[d,Qt];exact AO h.row z y
 ·obtain⟨j,b,rfl⟩:=List.mem_iff_getElem.1 hxm;rw[Qt]at b;rw[Qp];split
  ·rename_i e;exact⟨M,m.2.1,N⟩
  ·rename_i e;have l:=h.cell xs[j] (Qk _);have F:=o j b (fun e'=>e e'.symm);exact⟨l.1.but z F.1,l.2.1,AO l.2.2 z F.2⟩
 ·rw[Q5];intro i j r b s;rw[Qt]at r b;rw[Qp,Qp];split
  ·rename_i e;subst e;rw[if_neg (by omega)];obtain⟨q,C⟩:=c n j t b s;exact⟨q,fun k hk e=>p j b (by omega) k e hk⟩
  ·split
   ·rename_i d e;subst e;obtain⟨q,C⟩:=c i n r t s;exact⟨q,fun k hk e=>p i r (by omega) k hk e⟩
   ·exact c i j r b s
theorem Tryz.grpInfo3:(Tryz.prog.info? 202).map (fun i=>(i.zero,i.size,i.bytes))=O (O (Qa U),1,8):=by kernel_rfl
theorem Tryz.grpInfo:∃i0:TypeInfo,Tryz.prog.info? 202=O i0/\i0.zero=O (Qa U)/\i0.size=1/\i0.bytes=8:=by
 have h:=Tryz.grpInfo3
 cases b:Tryz.prog.info? 202 with
 | none=>rw [b]at h;simp at h
 | some i =>
  rw[b]at h;simp only[Option.map_some,Ql,Prod.mk.injEq]at h;exact⟨i,rfl,h.1,h.2.1,h.2.2⟩
theorem BA.more {B:Nat} {W d i:J} {v:A} {xs:List Gx} (h:BA B W v xs) (K:B<=W.heap.size) (g:ByteArray) (p:d=W.alloc (Qb #[H g,Z I 0,Qd U 0 0] 205)) (r:i=d.alloc (Qb #[Qa (O ⟨W.heap.size,0,U⟩)] 202)) (hl:xs.length<=1000) :
  ∃v' W2,(Builtin.append_ #[198,198] 198 #[v,Qd (O ⟨W.heap.size+1,0,U⟩) 1 1]).run prog i= .ok v' W2/\BA B W2 v' (xs++ [(W.heap.size,Qd U 0 0,(g,0, []))])/\Ac (fun k=>v.ownBlock=O k) W W2:=by
 obtain⟨L,M,N,Q,E⟩:=Tryz.grpInfo;have s:BL W d:=by rw[p];exact Af _ _
 have t:d.heap.size=W.heap.size+1:=by rw[p];simp
 have j:BL d i:=by rw[r];exact Af _ _
 have D:Cm d W.heap.size (g,0, []) (Qd U 0 0):=by rw[p];exact heap_alloc_new _ _
 have q:=D.below j;have l:=Ad s j;have z:=h.below l;have C:CU i (O ⟨W.heap.size+1,0,U⟩) 1 1 [Qa (O ⟨W.heap.size,0,U⟩)]:=by
  rw[<-t,r];exact Iq d [Qa (O ⟨W.heap.size,0,U⟩)] 202 1 1
 obtain⟨v',W2,R,T,X,hv⟩:=FO (P:=prog) i B 198 198 202 L (Qa U) 1 8 underlying198 M N Q E rfl (by decide) v xs.length (xs.map EW) z.row (O ⟨W.heap.size+1,0,U⟩) 1 1 [Qa (O ⟨W.heap.size,0,U⟩)] rfl C (by intro u F;rw[Qu]at F;subst F;rfl) (by unfold Qv;omega) (by omega) (Nat.le_trans K l.size);have b:=Ac.grown X;have m:∀k,v.ownBlock=O k->∃c,i.heap[k]? =O (Qb c 202 (0,0)):=fun k hk=>(AF z.row hk).2.2;refine⟨v',W2,R,⟨?_,fun x f=>?_,?_⟩,(Ac.of_below l).trans b (fun _ h _=>h)⟩
 ·rw[List.length_append,Qq];exact T
 ·rw[List.mem_append,Qu]at f;rcases f with f | rfl
  ·have n:=z.cell x f;refine⟨n.1.but b (fun e=>?_),n.2.1,AO n.2.2 b (fun k hk e=>?_)⟩
   ·obtain⟨c,o⟩:=m _ e;exact Hb n.1 o (by decide) rfl
   ·obtain⟨c,o⟩:=m _ e;obtain⟨_,_,c1,Y⟩:=AF n.2.2 hk;exact Hb Y o (by decide) rfl
  ·refine⟨q.but b (fun e=>?_),K,World.ownsRow_nil _ _ _ _⟩;obtain⟨c,o⟩:=m _ e;exact Hb q o (by decide) rfl
 ·rw[List.pairwise_append];refine⟨h.ap,List.pairwise_singleton _ _,fun x f y hy=>?_⟩;rw[Qu]at hy;subst hy;refine⟨fun e=>?_,fun k _ e=>by simp[Q6]at e⟩;have:=(h.cell x f).1.lt;omega
def PB (xs:List Gx):Prop:= ∀x∈xs,0<=x.2.2.2.1/\x.2.2.2.1<=1000000
theorem vB (f:Fl) (x:Gx) (d:Nat) (w:J) (g:Az w d f) (i:Cm w x.1 x.2.2 x.2.1) (j:0<=x.2.2.2.1/\x.2.2.2.1<=1000000) (k:0<=f.2.2.1/\f.2.2.1<=1000000) :
  Qh prog 226 #[EW x,Qa (O ⟨d,0,U⟩)] w fun e w'=>e=Qg (Qm (Ch f x.2.2))/\BL w w':=by
 have b:=vA f x.2.2 x.1 x.2.1 w i j k;obtain⟨l,m,n,o,p,q,-⟩:=g.cells;unfold EW
 go_enter func226,ntmps226
 go_wp2_with fail
 refine b.mono ?_;rintro e r ⟨rfl,c⟩;go_wp2;go_ret;exact⟨rfl,c⟩
theorem vC (B:Nat) (f:Fl) (m:Nat) (v:A) (xs:List Gx) (w:J) (u:BA B w v xs) (T:Az w m f) (P:PB xs) (X:0<=f.2.2.1/\f.2.2.1<=1000000) (Y:xs.length<=20000) :
  Qh prog 225 #[v,.func (.func 226) #[] #[Qa (O ⟨m,0,U⟩)]] w fun e w'=> ∃i,e=Qg (Z I i)/\FW (fun x:Gx=>Ch f x.2.2) xs i/\BL w w':=by
 have s:S (∀x∈xs,∀W,BL w W->Qh prog 226 #[EW x,Qa (O ⟨m,0,U⟩)] W fun e w'=>e=Qg (Qm (Ch f x.2.2))/\BL W w'):=fun x hxm W d=>vB f x m W (T.below d) ((u.cell x hxm).1.below d) (P x hxm) X;obtain⟨q,aa,rfl⟩:=CY u.row;have o:S _:=fun W (d:BL w W)=>u.below d;obtain⟨L,K⟩:∃L,xs.length=L:=⟨_,rfl⟩;have y:S _:=K;rw[K]at Y o ⊢
 go_enter func225,ntmps225
 go_wp2
 go_loopw [8] (fun k wr=> ∃n:Nat,n<=L/\k=Z I n/\(∀j (h:j<xs.length),j<n->Ch f xs[j].2.2=V)/\BL w wr) (fun k _=>L-(Qc k).toNat)
 case atStart=>exact ⟨0,by omega,rfl,fun j h h'=>absurd h' (Nat.not_lt_zero _),Qj _ _⟩
 case round =>
  obtain⟨n,hn,rfl,M,d⟩:=hrel;have g:S _:=M;by_cases z:n<L
  ·have c:n<xs.length:=by rw[y.out];exact z
   obtain⟨b,Q,hc⟩:=(o.out wr d).at_ (fun e=>by rw[e]at c;simp at c);subst Q;have l:=s.out xs[n] (Qk _) wr d;have C:S (Ch f xs[n].2.2=Qe->FW (fun x:Gx=>Ch f x.2.2) xs n):=fun e=>Ms (p:=fun x:Gx=>Ch f x.2.2) g.out c e;have D:S (Ch f xs[n].2.2=V->∀j (h:j<xs.length),j<n+1->Ch f xs[j].2.2=V):=fun e=>Mr (p:=fun x:Gx=>Ch f x.2.2) g.out c e;generalize Ch f xs[n].2.2=R at l C D
   go_wp2_with fail
   refine l.mono ?_;rintro e w1 ⟨rfl,N⟩;have r:=Ad d N;cases R
   ·have E:=D.out rfl;have F:S _:=E;go_wp2;go_roundw
    case rel=>exact ⟨n+1,by omega,by go_num,F.out,r⟩
    case measure=>simp [Qc];omega
   ·have t:S _:=C.out rfl;go_wp2;go_ret;exact⟨_,rfl,t.out,r⟩
  ·obtain rfl:n=L:=by omega
   have t:S (FW (fun x:Gx=>Ch f x.2.2) xs (-1)):=Mt (p:=fun x:Gx=>Ch f x.2.2) (fun j hj _=>g.out j hj (by rw[<-y.out];exact hj));go_wp2;go_ret;exact⟨_,rfl,t.out,d⟩
def pN (x:Nat):A:=Qa (O ⟨x,0,U⟩)
def CB (B:Nat) (W:J) (b L cap:Nat) (D:List Nat):Prop:=W.ownsRow B 202 1 (Qd (O ⟨b,0,U⟩) L cap) L (D.map pN)
theorem CB.len {B:Nat} {W:J} {b L c:Nat} {D:List Nat} (h:CB B W b L c D):D.length=L:=by
 have:=h.1;rw[Qo]at this;omega
theorem CB.blk {B:Nat} {W:J} {b L c:Nat} {D:List Nat} (h:CB B W b L c D):∃cur,W.heap[b]? =O (Qb cur 202 (0,0))/\L<=c/\c<=Qv/\cur.size=c/\cur.toList.take L=D.map pN/\B<=b:=by
 rcases h.2 with⟨d,_⟩|⟨g,f,cur,d,i,j,k,l,n,m⟩
 ·simp at d
 ·simp only[Value.slice.injEq,Ql,Addr.mk.injEq]at d;obtain⟨⟨rfl,_⟩,_,rfl⟩:=d;exact⟨cur,j,k,l,by omega,by rw[<-m,Nat.mul_one],i⟩
theorem CB.of {B:Nat} {W:J} {b L c:Nat} {D:List Nat} {d:Array A} (g:W.heap[b]? =O (Qb d 202 (0,0))) (i:L<=c) (j:c<=Qv) (m:d.size=c) (f:d.toList.take L=D.map pN) (k:B<=b):CB B W b L c D:=by
 have l:D.length=L:=by
  have:=congrArg List.length f;rw[Qo,List.length_take,Array.length_toList]at this;omega
 exact⟨by rw[Qo];omega,Or.inr ⟨b,c,d,rfl,k,g,i,j,by omega,by rw[Nat.mul_one];exact f⟩⟩
theorem CB.but {P:Nat->Prop} {B:Nat} {W d:J} {b L c:Nat} {D:List Nat} (h:CB B W b L c D) (f:Ac P W d) (g:¬P b):CB B d b L c D:=AO h f (fun k hk e=>g (by simp only[Q6,Ql]at hk;rw[hk];exact e))
theorem CB.below {B:Nat} {W d:J} {b L c:Nat} {D:List Nat} (h:CB B W b L c D) (f:BL W d):CB B d b L c D:=h.but (Ac.of_below (P:=fun _=>False) f) (fun h=>h)
theorem CB.cell {B:Nat} {W:J} {b L d:Nat} {D:List Nat} (h:CB B W b L d D) {j x:Nat} (f:D[j]? =O x):W.cell? ⟨b,j,U⟩=O (pN x):=by
 obtain⟨c,g,_,_,_,i,_⟩:=h.blk;have l:=h.len;have k:j<D.length:=(Qw.1 f).1;rw[Qr _ _ _ _ _ _ g];have e:(c.toList.take L)[j]? =(D.map pN)[j]? :=by rw[i]
 rw[Q4,if_pos (by omega),Array.getElem?_toList,List.getElem?_map,f]at e;exact e
theorem CB.fz {B:Nat} {W:J} {b L c:Nat} {D:List Nat} (h:CB B W b L c D) (j:Nat):W.frozen? ⟨b,j,U⟩=V:=by
 obtain⟨f,d,_⟩:=h.blk;exact Q3 _ _ _ _ _ d
theorem CB.set {B:Nat} {W:J} {b L c:Nat} {D:List Nat} (h:CB B W b L c D) (j x:Nat):CB B (W.setCell ⟨b,j,U⟩ (pN x)) b L c (D.set j x):=by
 obtain⟨d,g,i,k,l,m,n⟩:=h.blk;have f:(W.setCell ⟨b,j,U⟩ (pN x)).heap[b]? =O (Qb (d.setIfInBounds j (pN x)) 202 (0,0)):=Qs _ _ _ _ _ _ g;refine CB.of f i k (by rw[Array.size_setIfInBounds];exact l) ?_ n;rw[Array.toList_setIfInBounds,List.map_set,<-m,List.take_set]
theorem VL (W:J) (b j:Nat) (v:A):Ac (fun k=>k=b) W (W.setCell ⟨b,j,U⟩ v):=(Ac.refl (fun k=>k=b) W).setCell (Or.inl (Eq.refl b)) _
theorem vD {P:Nat->Prop} {W b:J} (h:Ac P W b):Ac P W b.drew:=h.trans (Ac.of_below (Qn (Qj _ _))) (fun _ h _=>h)
theorem vE {E:List Nat} {i j x y:Nat} (f:E[i]? =O x) (g:E[j]? =O y):((E.set i y).set j x).Perm E:=by
 obtain⟨c,rfl⟩:=Qw.1 f;obtain⟨d,rfl⟩:=Qw.1 g;have h:=Array.swap_perm (xs:=E.toArray) (i:=i) (j:=j) (by simpa using c) (by simpa using d);have b:=h.toList;simpa [Array.swap] using b
def Pm (B b L cap:Nat) (D:List Nat) (w W:J):Prop:=(∃E,CB B W b L cap E/\E.Perm D)/\Ac (fun k=>k=b) w W
section
variable {B b L cap : Nat} {D : List Nat} {w W W' : J}
theorem Pm.below (h:Pm B b L cap D w W) (c:BL W W'):Pm B b L cap D w W':=by
 obtain⟨⟨E,d,f⟩,g⟩:=h;exact⟨⟨E,d.below c,f⟩,g.trans (Ac.of_below c) (fun _ h _=>h)⟩
theorem Pm.at_ (h:Pm B b L cap D w W) {i:Nat} (hi:i<L):∃x∈D,W.cell? ⟨b,i,U⟩=O (pN x):=by
 obtain⟨⟨E,c,d⟩,-⟩:=h;have f:=c.len;exact⟨E[i],d.subset (Qk _),c.cell (Qx _)⟩
theorem Pm.swap (h:Pm B b L cap D w W) {i j x y:Nat} (m:i≠j) (hi:i<L) (t:j<L) (u:W.cell? ⟨b,i,U⟩=O (pN x)) (v:W.cell? ⟨b,j,U⟩=O (pN y)) :
  (∀o,W.frozen? ⟨b,o,U⟩=V)/\(W.setCell ⟨b,i,U⟩ (pN y)).cell? ⟨b,j,U⟩=O (pN y)/\(∀o,(W.setCell ⟨b,i,U⟩ (pN y)).frozen? ⟨b,o,U⟩=V)/\Pm B b L cap D w (((W.setCell ⟨b,i,U⟩ (pN y)).setCell ⟨b,j,U⟩ (pN x)).drew):=by
 obtain⟨⟨E,c,r⟩,s⟩:=h;have C:=c.len;have d:∀ {k z},k<L->W.cell? ⟨b,k,U⟩=O (pN z)->E[k]? =O z:=fun {k z} hk e=>by
  have n:=c.cell (j:=k) (x:=E[k]'(by omega)) (Qx _);have f:=n.symm.trans e;unfold pN at f;simp only[Ql,Value.pointer.injEq,Addr.mk.injEq,and_true]at f;rw[Qx (by omega:k<E.length),f]
 have p:=d hi u;have l:=d t v;have g:=c.set i y;have q:=g.set j x;refine⟨c.fz,g.cell (by rw[List.getElem?_set_ne m];exact l),g.fz,⟨_,q.below (Qn (Qj _ _)),(vE p l).trans r⟩,vD ((s.trans (VL _ _ _ _) (fun _ h _=>h)).trans (VL _ _ _ _) (fun _ h _=>h))⟩
theorem Pm.start (h:CB B w b L cap D):Pm B b L cap D w w:=⟨⟨D,h,List.Perm.refl _⟩,Ac.refl _ _⟩
theorem PC (h:Pm B b L cap D w W) (P:L<=10000) (p m u:Nat) (o:A) (Q:p+u<=m) (R:m+u<=L) :
  Qh prog 379 #[Qd (O ⟨b,0,U⟩) L cap,Z I (p:Nat),Z I (m:Nat),Z I (u:Nat),o] W fun e w'=>e=Qg (Qi #[])/\Pm B b L cap D w w':=by
 have c:S (Pm B b L cap D w W):=h;clear h
 go_enter func379,ntmps379
 go_wp2
 go_loopw [10] (fun k wr=> ∃i:Nat,i<=u/\k=Z I i/\Pm B b L cap D w wr) (fun k _=>u-(Qc k).toNat)
 case atStart=>exact ⟨0,by omega,rfl,c.out⟩
 case round =>
  clear c;obtain⟨i,F,rfl,d⟩:=hrel;by_cases q:i<u
  ·obtain⟨x,-,f⟩:=d.at_ (i:=p+i) (by omega);obtain⟨y,-,g⟩:=d.at_ (i:=m+i) (by omega);obtain⟨K,n,j,l⟩:=d.swap (by omega:p+i≠m+i) (by omega) (by omega) f g;have c:S (Pm B b L cap D w (((wr.setCell ⟨b,p+i,U⟩ (pN y)).setCell ⟨b,m+i,U⟩ (pN x)).drew)):=l;have s:IntKind.i64.wrap ((p:Int)+(i:Int))=((p+i:Nat):Int):=by rw[Qf _ (by omega)];omega
   have t:IntKind.i64.wrap ((m:Int)+(i:Int))=((m+i:Nat):Int):=by rw[Qf _ (by omega)];omega
   have v:((p+i:Nat):Int)<(L:Int):=by omega
   have z:((m+i:Nat):Int)<(L:Int):=by omega
   have C:(0:Int)<=((p+i:Nat):Int):=by omega
   have E:(0:Int)<=((m+i:Nat):Int):=by omega
   have r:p+i≠m+i:=by omega
   clear l d;generalize p+i=M at *;generalize m+i=N at *;unfold pN at f g n c j
   go_upto_region 3 with fail
   go_region
   go_wp2;go_roundw
   case rel=>exact ⟨i+1,by omega,by go_num,c.out⟩
   case measure=>simp [Qc];omega
  ·have c:S (Pm B b L cap D w wr):=d;obtain rfl:i=u:=by omega
   clear d;go_wp2;go_end0;exact⟨rfl,c.out⟩
theorem vF (h:Pm B b L cap D w W) (o:L<=10000) (p m q:Nat) (l:A) (T:p<m) (X:m<q) (Y:q<=L) :
  Qh prog 352 #[Qd (O ⟨b,0,U⟩) L cap,Z I (p:Nat),Z I (m:Nat),Z I (q:Nat),l] W fun e w'=>e=Qg (Qi #[])/\Pm B b L cap D w w':=by
 have d:S (Pm B b L cap D w W):=h;have r:IntKind.i64.wrap ((m:Int)-(p:Int))=((m-p:Nat):Int):=by rw[Qf _ (by omega)];omega
 have s:IntKind.i64.wrap ((q:Int)-(m:Int))=((q-m:Nat):Int):=by rw[Qf _ (by omega)];omega
 have g:0<m-p/\m-p<=m/\0<q-m/\m+(q-m)<=L:=by omega
 generalize m-p=x at *;generalize q-m=y at *;clear h
 go_enter func352,ntmps352
 go_wp2
 go_loopw [10,11] (fun i j wr=> ∃u v:Nat,0<u/\0<v/\u<=m/\m+v<=L/\i=Z I (u:Nat)/\j=Z I (v:Nat)/\Pm B b L cap D w wr) (fun i j _=>(Qc i).toNat+(Qc j).toNat)
 case atStart=>exact ⟨x,y,g.1,g.2.2.1,g.2.1,g.2.2.2,rfl,rfl,d.out⟩
 case round =>
  clear d r s g;obtain⟨u,v,M,N,C,E,rfl,rfl,c⟩:=hrel;have r:IntKind.i64.wrap ((m:Int)-((u:Nat):Int))=((m-u:Nat):Int):=by rw[Qf _ (by omega)];omega
  rcases Nat.lt_trichotomy u v with h | h | h
  ·have f:=PC c o (m-u) (m+v-u) u l (by omega) (by omega);have n:((u:Int) == (v:Int))=V:=by simp;omega
   have t:¬(v:Int)<(u:Int):=by omega
   have s:IntKind.i64.wrap ((m:Int)+(v:Int))=((m+v:Nat):Int):=by rw[Qf _ (by omega)];omega
   have P:IntKind.i64.wrap (((m+v:Nat):Int)-(u:Int))=((m+v-u:Nat):Int):=by rw[Qf _ (by omega)];omega
   have K:IntKind.i64.wrap ((v:Int)-(u:Int))=((v-u:Nat):Int):=by rw[Qf _ (by omega)];omega
   have z:S (m+(v-u)<=L):=by show _<=_;omega
   clear c;generalize m+v-u=Q at *;generalize m+v=R at *;generalize m-u=F at *
   go_wp2_with fail
   refine f.mono ?_;rintro e k ⟨rfl,c⟩;have d:S (Pm B b L cap D w k):=c;clear f c;go_wp2;go_roundw
   case rel=>exact ⟨u,v-u,M,by omega,C,z.out,rfl,rfl,d.out⟩
   case measure=>simp [Qc];omega
  ·subst h;have f:=PC c o (m-u) m u l (by omega) (by omega);have n:((u:Int) == (u:Int))=Qe:=by simp
   clear c;generalize m-u=F at *
   go_wp2_with fail
   refine f.mono ?_;rintro e k ⟨rfl,c⟩;have d:S (Pm B b L cap D w k):=c;clear f c;go_wp2;go_end0;exact⟨rfl,d.out⟩
  ·have f:=PC c o (m-u) m v l (by omega) (by omega);have n:((u:Int) == (v:Int))=V:=by simp;omega
   have t:(v:Int)<(u:Int):=by omega
   have K:IntKind.i64.wrap ((u:Int)-(v:Int))=((u-v:Nat):Int):=by rw[Qf _ (by omega)];omega
   clear c;generalize m-u=F at *
   go_wp2_with fail
   refine f.mono ?_;rintro e k ⟨rfl,c⟩;have d:S (Pm B b L cap D w k):=c;clear f c;go_wp2;go_roundw
   case rel=>exact ⟨u-v,v,by omega,N,by omega,E,rfl,rfl,d.out⟩
   case measure=>simp [Qc];omega
def Fy (b:Nat) (D:List Nat) (w:J):Prop:= ∀x∈D,∀y∈D,∀W,Ac (fun k=>k=b) w W->Qh prog 142 #[pN x,pN y] W fun e w'=> ∃z:Int,e=Qg (Z I z)/\BL W w'
theorem MZ:∀args w,(callFunc 142 args).run prog w= .ok (.enter 142 args) w:=enters_of func142 (by kernel_rfl) rfl
theorem VM (h:Pm B b L cap D w W) (R:Fy b D w) (hL:L<=10000) (p q:Nat) (h1:p<=q) (h2:q<=L) :
  Qh prog 311 #[Qd (O ⟨b,0,U⟩) L cap,Z I (p:Nat),Z I (q:Nat),.func (.func 142) #[] #[]] W fun e w'=>e=Qg (Qi #[])/\Pm B b L cap D w w':=by
 have eg:=MZ;have f:S (Pm B b L cap D w W):=h;have T:S (Fy b D w):=R;have X:IntKind.i64.wrap ((p:Int)+1)=((p+1:Nat):Int):=by rw[Qf _ (by omega)];omega
 clear h R
 go_enter func311,ntmps311
 go_wp2
 go_loopw [8,9] (fun i _ wr=> ∃k:Nat,p<k/\i=Z I (k:Nat)/\Pm B b L cap D w wr) (fun i _ _=>q-(Qc i).toNat)
 case atStart=>exact ⟨p+1,by omega,rfl,f.out⟩
 case round =>
 clear f X;obtain⟨i,ae,rfl,d⟩:=hrel;have f:S (Pm B b L cap D w wr):=d;clear d;by_cases aa:i<q
 case neg =>
  have ab:¬(i:Int)<(q:Int):=by omega
  go_wp2;go_end0;exact⟨rfl,f.out⟩
 case pos =>
 have g0:(i:Int)<(q:Int):=by omega
 have a2:IntKind.i64.wrap ((i:Int)+1)=(i:Int)+1:=Qf _ (by omega)
 go_upto_region 3 with fail
 go_wp2
 go_loopw [9] (fun j wx=> ∃k:Nat,p<=k/\k<=i/\j=Z I (k:Nat)/\Pm B b L cap D w wx) (fun j _=>(Qc j).toNat)
 case atStart=>exact ⟨i,by omega,Nat.le_refl _,rfl,f.out⟩
 case round =>
 clear f;obtain⟨j,E,F,rfl,d⟩:=hrel;by_cases u:p<j
 case neg =>
  obtain rfl:j=p:=by omega
  have v:decide ((j:Int)<(j:Int))=V:=by simp
  have y:S (∀k,Pm B b L cap D w (wr.drewN k)):=fun k=>d.below (AH (Qj _ _) k);clear d
  go_upto_region 4 with fail
  go_quiet (fail)
  go_wp2;go_roundw
  case rel=>exact ⟨i+1,by omega,by go_num,y.out _⟩
  case measure=>simp [Qc];omega
 case pos =>
 obtain⟨k,rfl⟩:∃k,j=k+1:=⟨j-1,by omega⟩;obtain⟨x,K,r⟩:=d.at_ (i:=k+1) (by omega);obtain⟨z,o,s⟩:=d.at_ (i:=k) (by omega);have l:=fun c (hV:BL wr c)=>T.out x K z o c (d.2.trans (Ac.of_below hV) (fun _ h _=>h));have Y:S (∀c,BL wr c->Pm B b L cap D w c/\c.cell? ⟨b,k+1,U⟩=O (pN x)/\c.cell? ⟨b,k,U⟩=O (pN z)):=fun c hV=>⟨d.below hV,Aa hV r,Aa hV s⟩;have C:BL wr wr:=Qj _ _;have a3:IntKind.i64.wrap (((k+1:Nat):Int)-1)=(k:Int):=by rw[Qf _ (by omega)];omega
 have g1:((k+1:Nat):Int)<(L:Int):=by omega
 have g2:(k:Int)<(L:Int):=by omega
 have g3:(0:Int)<=((k+1:Nat):Int):=by omega
 have g4:(0:Int)<=(k:Int):=by omega
 have g5:(p:Int)<((k+1:Nat):Int):=by omega
 have v:decide ((p:Int)<((k+1:Nat):Int))=Qe:=decide_eq_true g5;have ac:decide (p<k+1)=Qe:=decide_eq_true u;have ad:k<k+1:=Nat.lt_succ_self k;have g:S (p<=k/\k<=i/\k+1≠k/\k+1<L/\k<L):=by show _/\_;omega
 clear d E F u K o;generalize k+1=j at *;unfold pN at r s l
 go_upto_region 4 with fail
 go_region_held3 (fun w'=>w'.cell? ⟨b,j,U⟩=O (Qa (O ⟨x,0,U⟩))/\w'.cell? ⟨b,k,U⟩=O (Qa (O ⟨z,0,U⟩))/\BL wr w')
  (first
   | (go_split_ands;with_reducible exact⟨Aa m (by assumption),Aa m (by assumption),Below.trans (by assumption) (m.mono (Below.size (by assumption)))⟩)
   | (go_split_ands;exact⟨by go_keep,by go_keep,by assumption⟩)
   | (go_split_ands;exact⟨by go_keep,by go_keep,Qn (by assumption)⟩))
  (first
   | (go_at_call 142;(with_reducible refine(l _ (by go_split_ands;assumption)).mono ?_);rintro e t ⟨zc,rfl,m⟩))
 all_goals go_split_ands
 obtain⟨d,M,N⟩:=Y.out t (by assumption);obtain⟨fz,d3,P,Q⟩:=d.swap g.out.2.2.1 g.out.2.2.2.1 g.out.2.2.2.2 M N;have n:S (Pm B b L cap D w t):=d;have f:S (Pm B b L cap D w (((t.setCell ⟨b,j,U⟩ (pN z)).setCell ⟨b,k,U⟩ (pN x)).drew)):=Q;clear l C r s d Q;unfold pN at M N d3 P f;by_cases o:zc<0
 ·clear n
  go_wp2_with fail
  go_upto_region 6 with fail
  go_region
  go_wp2;go_roundw
  case rel=>exact ⟨k,g.out.1,g.out.2.1,rfl,f.out⟩
  case measure=>simp [Qc];omega
 ·go_wp2;go_roundw
  case rel=>exact ⟨i+1,by omega,by go_num,n.out⟩
  case measure=>simp [Qc];omega
end
end Go.Proofs.YtcllhobffhkafaaGreatDoor
