/- By an AI agent. -/
import Derived.Test.YtcllhobffhkafaaGreatDoorPackSev
set_option maxRecDepth 100000
set_option maxHeartbeats 16000000
open Go.Proofs.Tryz
open Bool renaming true->V,false->Qe,and_eq_true->Qr
open Go renaming Calls->Qa,World->Qb,Value->Qf,Addr->Qt,bodyPost_ret->Q0,results->Q1
open Go.Ending renaming returned->Qc
open Go.IntKind renaming i64->U
open Go.Obj renaming cells->A
open Go.RowKit renaming Hid->Z
open Go.Value renaming int->O,slice->I,string->H,nilIface->Qh,tuple->Qk,pointer->Qn,bool->Qu
open List renaming flatMap_cons->Qd,map_cons->Qg,mem_filter->Qi,mem_cons_of_mem->Qj,mem_cons->Ql,getElem_mem->Qm,filter_append->Qo,mem_singleton->Qp,mem_cons_self->Qq,mem_map->Qs,length_map->Qv,take_succ_eq_append_getElem->Qw,length_cons->Qx,length_append->Qy,map_map->Qz,map_append->Q2,mem_append->Q3,append_assoc->Q4,length_filter_le->Q5,nil_append->Q6,foldl_append->Q7,length_singleton->Q8,map_nil->Q9,filter_congr->QA
open Option renaming none->S,some->J
namespace Go.Proofs.YtcllhobffhkafaaGreatDoor
open Go.RowKit Go.Extern.Stop Go.Stop Go.Extern Go.Sort Go.Shelf Go.Lib
def Eg (least:Int) (f:Fl):Bool:= !Ck f.1 && decide (f.2.2.1<least)
def CM (fs:List Fl) (least:Int) (n:Nat):List Gp:=((fs.take n).filter (Eg least)).foldl (fun gs f=>Cl f gs) []
theorem PD {b:List Fl} {least:Int} {n:Nat} (h:n<b.length) (e:Eg least b[n]=V):CM b least (n+1)=Cl b[n] (CM b least n):=by
 unfold CM;rw[Qw h,Qo,Q7];simp[e]
theorem PF {b:List Fl} {least:Int} {n:Nat} (h:n<b.length) (e:Eg least b[n]=Qe):CM b least (n+1)=CM b least n:=by
 unfold CM;rw[Qw h,Qo,Q7];simp[e]
def J1 (n:Nat) (gs:List Gp):Prop:=gs.length<=n/\∀g∈gs,(0<=g.2.1/\g.2.1<=40)/\g.2.2.length<=n
theorem J1.mono {n:Nat} {gs:List Gp} (h:J1 n gs):J1 (n+1) gs:=⟨by have:=h.1;omega,fun g hg=>⟨(h.2 g hg).1,by have:=(h.2 g hg).2;omega⟩⟩
theorem vW {f:Fl} (d:0<=f.2.2.1/\f.2.2.1<=40):∀ {n:Nat} {gs:List Gp},J1 n gs->J1 (n+1) (Cl f gs)
 | n, [],_=>⟨by simp[Cl],fun g b=>by
  rw[Cl,Qp]at b;subst b;unfold CA;exact⟨by simpa using d,by simp⟩⟩
 | n,g :: r,h=>by
  have b:=h.2 g Qq;unfold Cl;by_cases e:Ch f g=V
  ·rw[if_pos e];refine⟨by have:=h.1;simpa using Nat.le_succ_of_le this,fun x c=>?_⟩;rcases Ql.1 c with rfl | c
   ·unfold Ch at e;rw[Qr,decide_eq_true_eq,decide_eq_true_eq]at e;unfold CA;exact⟨⟨by show 0<=g.2.1+f.2.2.1;omega,e.2⟩,by simp only[Qy,Q8];omega⟩
   ·have:=h.2 x (Qj _ c);exact⟨this.1,by omega⟩
  ·rw[if_neg e];have l:r.length+1<=n:=by have:=h.1;simpa using this
   obtain⟨k,rfl⟩:∃k,n=k+1:=⟨n-1,by omega⟩;have m:=putG_len f r;have i:=putG_mem (f:=f) (n:=k+1) d r (fun x c=>h.2 x (Qj _ c));refine⟨by simp only[Qx];omega,fun x c=>?_⟩;rcases Ql.1 c with rfl | c
   ·exact⟨b.1,by omega⟩
   ·exact i x c
 where
 putG_len (f:Fl):∀gs:List Gp,(Cl f gs).length<=gs.length+1
  | []=>by simp[Cl]
  | g :: r=>by
   unfold Cl;split
   ·simp
   ·have:=putG_len f r;simp only[Qx];omega
 putG_mem {f:Fl} {n:Nat} (d:0<=f.2.2.1/\f.2.2.1<=40):∀gs:List Gp,(∀g∈gs,(0<=g.2.1/\g.2.1<=40)/\g.2.2.length<=n)->∀g∈Cl f gs,(0<=g.2.1/\g.2.1<=40)/\g.2.2.length<=n+1
  | [],_,g,b=>by
   rw[Cl,Qp]at b;subst b;unfold CA;exact⟨by simpa using d,by simp⟩
  | a :: r,h,g,b=>by
   have j:=h a Qq;unfold Cl at b;by_cases e:Ch f a=V
   ·rw[if_pos e]at b;rcases Ql.1 b with rfl | b
    ·unfold Ch at e;rw[Qr,decide_eq_true_eq,decide_eq_true_eq]at e;unfold CA;exact⟨⟨by show 0<=a.2.1+f.2.2.1;omega,e.2⟩,by simp only[Qy,Q8];omega⟩
    ·have:=h g (Qj _ b);exact⟨this.1,by omega⟩
   ·rw[if_neg e]at b;rcases Ql.1 b with rfl | b
    ·exact⟨j.1,by omega⟩
    ·exact putG_mem d r (fun x c=>h x (Qj _ c)) g b
theorem VP {b:List Fl} {least:Int} (c:∀f∈b,0<=f.2.2.1/\f.2.2.1<=40):∀n,n<=b.length->J1 n (CM b least n)
 | 0,_=>⟨by simp[CM],fun g hg=>by simp[CM]at hg⟩
 | n+1,h=>by
  have d:=VP (least:=least) c n (by omega)
  cases e:Eg least (b[n]'(by omega)) with
  | true=>rw [PD (by omega) e];exact vW (c _ (Qm _)) d
  | false=>rw [PF (by omega) e];exact d.mono
theorem VQ {f:Fl} (h:At f=0):0<=f.2.2.1/\f.2.2.1<=40:=by
 obtain⟨_,_,_,_,b⟩:=D0 h;unfold De at b;simp only[Qr,decide_eq_true_eq]at b;omega
theorem vX (d f:Gp) (x y:Nat) (l m:Qf) (w:Qb) (g:Cm w x d l) (i:Cm w y f m) :
  Qa prog 142 #[pN x,pN y] w fun e w'=>e=Qc (O U (Lib.compareBytes d.1.data.toList f.1.data.toList))/\BL w w':=by
 have j:=g.cells.1;have k:=i.cells.1;have c:=strings_Compare d.1 f.1;unfold pN;generalize d.1=a at j c ⊢;generalize f.1=b at k c ⊢;generalize Lib.compareBytes a.data.toList b.data.toList=n at c ⊢;clear g i
 go_enter func142,ntmps142
 go_upto_region 1 with fail
 go_quiet (first | (go_at_call 143;exact Calls.quiet_of_same (c _)))
 go_wp2;go_ret;exact⟨rfl,AH (Below.refl _ _) _⟩
theorem BA.dist {B:Nat} {W:Qb} {v:Qf} {xs:List Gx} (h:BA B W v xs):xs.Pairwise fun x y=>x.1≠y.1:=h.ap.imp fun h=>h.1
theorem vY {B:Nat} {W:Qb} {b L c:Nat} {xs:List Gx} (h:BA B W (I (J ⟨b,0,S⟩) L c) xs) (f:xs.length=L):CB B W b L c (xs.map (·.1)):=by
 have d:=h.row;rw[f]at d;have e:xs.map EW=(xs.map (·.1)).map pN:=by rw[Qz];rfl
 unfold CB;rw[<-e];exact d
theorem PG {B:Nat} {W:Qb} {b L i:Nat} {xs:List Gx} (h:BA B W (I (J ⟨b,0,S⟩) L i) xs):∀x∈xs,x.1≠b/\∀k,x.2.1.ownBlock=J k->k≠b:=fun x hx=>by
 obtain⟨_,_,c,f⟩:=AF h.row (k:=b) rfl;have d:=h.cell x hx;refine⟨Hb d.1 f (by decide),fun k hk=>?_⟩;obtain⟨_,_,j,g⟩:=AF d.2.2 hk;exact Hb g f (by decide)
theorem vZ {B:Nat} {W:Qb} {b L i:Nat} {xs:List Gx} (h:BA B W (I (J ⟨b,0,S⟩) L i) xs):Fy b (xs.map (·.1)) W:=fun x hx y hy W' hW=>by
 obtain⟨g,f,rfl⟩:=Qs.1 hx;obtain⟨c,d,rfl⟩:=Qs.1 hy;exact(vX g.2.2 c.2.2 g.1 c.1 g.2.1 c.2.1 W' ((h.cell g f).1.but hW (PG h g f).1) ((h.cell c d).1.but hW (PG h c d).1)).mono fun e w' ⟨he,hb⟩=>⟨_,he,hb⟩
theorem VR {α β:Type} {f:α->β} {d g:List β} (h:d.Perm g):∀zs:List α,zs.map f=g->∃ys:List α,ys.Perm zs/\ys.map f=d:=by
 induction h with
 | nil=>exact fun zs e=>⟨zs,List.Perm.refl _,e⟩
 | cons x h ih =>
  intro zs e
  cases zs with
  | nil=>simp at e
  | cons z r =>
   rw[Qg]at e;injection e with e1 e2;obtain⟨ys,b,c⟩:=ih r e2;exact⟨z :: ys,b.cons z,by rw[Qg,c,e1]⟩
 | swap x y l =>
  intro zs e
  match zs,e with
  | z1 :: z2 :: r,e =>
   simp only[Qg]at e;injection e with e1 e2;injection e2 with e2 e3;exact⟨z2 :: z1 :: r,List.Perm.swap _ _ _,by simp only[Qg];rw[e1,e2,e3]⟩
  | [_],e=>simp at e
  | [],e=>simp at e
 | trans b c ih1 ih2 =>
  intro zs e;obtain⟨ys,i,j⟩:=ih2 zs e;obtain⟨k,m,n⟩:=ih1 ys j;exact⟨k,m.trans i,n⟩
theorem wA {B:Nat} {W l:Qb} {b L d:Nat} {xs:List Gx} (h:BA B W (I (J ⟨b,0,S⟩) L d) xs) (o:xs.length=L) (p:Pm B b L d (xs.map (·.1)) W l):∃ys,BA B l (I (J ⟨b,0,S⟩) L d) ys/\ys.Perm xs:=by
 obtain⟨⟨E,m,n⟩,j⟩:=p;obtain⟨ys,c,rfl⟩:=VR (f:=fun x:Gx=>x.1) n xs rfl;refine⟨ys,⟨?_,fun x hx=>?_,(c.pairwise_iff (fun {x y} hxy=>⟨fun e=>hxy.1 e.symm,fun k hk e=>hxy.2 k e hk⟩)).2 h.ap⟩,c⟩
 ·have e:ys.map EW=(ys.map (·.1)).map pN:=by rw[Qz];rfl
  rw[e,c.length_eq,o];exact m
 ·have g:=h.cell x (c.subset hx);have i:=PG h x (c.subset hx);exact⟨g.1.but j i.1,g.2.1,AO g.2.2 j i.2⟩
theorem wC (v:Qf) (c:List Fl) (least:Int) (w:Qb) (a:Nat->Qt) (h:D4 w a) (t:Ai w v c) (hl:c.length<=100) (am:Eb c) (hE:(BF c).1=0) (bc:0<=least) (bd:least<=41) :
  Qa prog 72 #[v,O U least] w fun e w'=> ∃v' gs,e=Qc (Qk #[v',Qh])/\GB w' v' (I3 gs)/\gs.Perm (CM c least c.length)/\BL w w':=by
 have ac:=KI v c w a h t (by omega) am;have ao:Z _:=fun W (p:BL w W)=>h.file.env.below p;have HX:Z _:=fun W (p:BL w W)=>t.below p;have ad:Z (∀f∈c,0<=f.2.2.1/\f.2.2.1<=40):=fun f hf=>VQ ((GJ.1 hE).2.1 f hf).1;have ap:Z (∀f∈c,∀W,BL w W->Qa prog 139 #[A1 f] W fun e w'=>e=Qc (Qu (Ck f.1))/\BL W w'):=fun f hf W p=>Iz f W a (ao.out W p) (by have:=(am f hf).1;omega);obtain⟨q,bb,rfl⟩:=t.form;obtain⟨L,hL⟩:∃L,c.length=L:=⟨_,rfl⟩;have HL:Z _:=hL;have F:Z (∀n,n<=L->J1 n (CM c least n)):=fun n hn=>VP ad.out n (by omega);have a7:L<=100:=by omega
 rw[hL]at ac HX ⊢
 go_enter func72,ntmps72
 go_wp2_with fail
 refine ac.mono ?_;rintro e w1 ⟨ev,rfl,ht,an⟩;obtain rfl:=ht.ok hE
 go_wp2_with fail
 go_loopw [7,24] (fun u k wr=> ∃(n:Nat) (d:List Gx),n<=L/\k=O U n/\BA w.heap.size wr u d/\d.map (·.2.2)=CM c least n/\BL w wr) (fun _ k _=>L-(intOf k).toNat)
 case atStart=>exact ⟨0, [],by omega,rfl,BA.nil _ _,rfl,an⟩
 case round =>
 obtain⟨n,d,hn,rfl,hG,hm,p⟩:=hrel;have B:Z _:=hm;have E:Z _:=hG;by_cases aq:n<L
 case neg =>
  obtain rfl:n=L:=by omega
  have a8:¬(n:Int)<(n:Int):=by omega
  have ar:d.length<=100:=by
   have e:=congrArg List.length B.out;rw[Qv]at e;have:=(F.out n (Nat.le_refl _)).1;omega
  obtain⟨q7,c7,ax⟩:=CY E.out.row;subst ax;by_cases C:d.length<=1
  ·have y:=VO w.heap.size _ d wr E.out (by omega);rw[B.out]at y;have K:=fun cv=>vV q7 d.length c7 cv C wr;generalize d.length=XL at *
   go_upto_region 13 with fail
   go_wp2_with fail
   refine(K _).mono ?_;rintro e w2 ⟨rfl,rfl⟩
   go_wp2_with fail
   refine y.mono ?_;rintro e w3 ⟨v3,rfl,aa,r⟩;have M:Z _:=aa;have j:=Ad p r;go_wp2;refine Q0 (v:=Qk #[v3,Qh]) (by simp[Q1,results72,go_sem]) rfl ?_;exact⟨_,_,rfl,M.out,List.Perm.refl _,j⟩
  ·obtain⟨b7,ay,_⟩:=E.out.at_ (fun e=>by rw[e]at C;simp at C);subst ay;obtain⟨XL,z⟩:∃k,d.length=k:=⟨_,rfl⟩;have au:Z (d.length=XL/\XL<=100):=⟨z,by omega⟩;have s:=E.out;rw[z]at s ⊢;have K:=vK (vY s z) (vZ s) (by omega);have av:Z (∀W',Pm w.heap.size b7 XL c7 (d.map (·.1)) wr W'->∃i,BA w.heap.size W' (I (J ⟨b7,0,S⟩) XL c7) i/\i.Perm d/\Ac (fun k=>k=b7) wr W'/\w.heap.size<=b7):=fun W' hp=>by
    obtain⟨i,h1,h2⟩:=wA s z hp;exact⟨i,h1,h2,hp.2,(AF s.row (k:=b7) rfl).1⟩
   clear s E ar F C z
   go_upto_region 13 with fail
   go_wp2_with fail
   refine K.mono ?_;rintro e w2 ⟨rfl,a2⟩;obtain⟨i,az,al,a0,a1⟩:=av.out w2 a2;have D:=p.trans (a0.below p.size (fun k hk=>by rw[hk];exact a1));have y:=VO w.heap.size _ i w2 az (by have:=au.out;rw[al.length_eq];omega);have ae:Z ((i.map (·.2.2)).Perm (CM c least n)):=by
    have h:=al.map (·.2.2);rw[B.out]at h;exact h
   generalize i.map (·.2.2)=gs at y ae
   go_wp2_with fail
   refine y.mono ?_;rintro e w3 ⟨v3,rfl,aa,r⟩;have M:Z _:=aa;have j:=Ad D r;go_wp2;refine Q0 (v:=Qk #[v3,Qh]) (by simp[Q1,results72,go_sem]) rfl ?_;exact⟨_,gs,rfl,M.out,ae.out,j⟩
 case pos =>
  have l:n<c.length:=by rw[HL.out];exact aq
  obtain⟨b,o,hq,hc⟩:=(HX.out wr p).cells (fun e=>by rw[e]at l;simp at l);subst hq;obtain⟨c0,c1,c2,c3,c4,c5⟩:=hc n l;have a9:(n:Int)<(L:Int):=by omega
  have ba:(0:Int)<=(n:Int):=by omega
  have af:Z (Eg least c[n]=V->CM c least (n+1)=Cl c[n] (CM c least n)):=fun e=>PD l e;have N:Z (Eg least c[n]=Qe->CM c least (n+1)=CM c least n):=fun e=>PF l e;have ag:=ad.out c[n] (Qm _);have ah:=ap.out c[n] (Qm _);have P:=F.out n (by omega);have Q:Z (PB d/\d.length<=900/\∀x∈d,x.2.2.2.2.length<=900):=by
   have e:=B.out;have el:d.length=(CM c least n).length:=by rw[<-e,Qv]
   have em:∀x∈d,x.2.2∈CM c least n:=fun x t=>by rw[<-e];exact Qs.2 ⟨x,t,rfl⟩
   exact⟨fun x t=>by have:=(P.2 _ (em x t)).1;omega,by have:=P.1;omega,fun x t=>by have:=(P.2 _ (em x t)).2;omega⟩
  generalize c[n]=g at c0 c1 c2 c3 c4 c5 af N ah ag;have ai:BL wr (wr.alloc (A #[H g.1,H g.2.1,O U g.2.2.1,O U g.2.2.2.1,O U g.2.2.2.2.1,O U g.2.2.2.2.2] 77)):=Af _ _;have aj:=Az.new wr g;have D:=Ad p ai;have aw:Z _:=E.out.below ai
  go_upto_region 10 with fail
  generalize wr.alloc (A #[H g.1,H g.2.1,O U g.2.2.1,O U g.2.2.2.1,O U g.2.2.2.2.1,O U g.2.2.2.2.2] 77)=W2 at *;generalize wr.heap.size=gb at *;obtain⟨d0,d1,d2,d3,d4,d5,-⟩:=aj.cells;have R:=ah W2 D;unfold A1 at R
  go_wp2_with fail
  refine R.mono ?_;rintro e w3 ⟨rfl,r⟩;have j:=Ad D r;have T:Z _:=aw.out.below r;obtain⟨d0,d1,d2,d3,d4,d5,-⟩:=(aj.below r).cells;cases ab:Ck g.1
  case true =>
   have X:Z _:=N.out (by unfold Eg;rw[ab];rfl);go_wp2;go_roundw
   case rel=>exact ⟨n+1,d,by omega,by go_num,T.out,by rw[X.out];exact B.out,j⟩
   case measure=>simp [intOf];omega
  case false =>
   by_cases ak:g.2.2.1<least
   ·have X:Z _:=af.out (by unfold Eg;rw[ab,decide_eq_true ak];rfl);have Y:=vL w.heap.size g u7 d w3 T.out j.size Q.out.1 ⟨ag.1,by omega⟩ Q.out.2.1 Q.out.2.2;rw[B.out,<-X.out]at Y;unfold A1 at Y
    go_wp2_with fail
    refine Y.mono ?_;rintro e w4 ⟨v4,a3,rfl,a4,a5,a6⟩;have HR:Z (∃(m:Nat) (i:List Gx),m<=L/\O U ((n:Int)+1)=O U m/\BA w.heap.size w4 v4 i/\i.map (·.2.2)=CM c least m/\BL w w4):=⟨n+1,a3,by omega,by go_num,a4,a5,j.trans a6⟩;go_wp2;go_roundw
    case rel =>
     obtain⟨m,i,g1,g2,g3,g4,g5⟩:=HR.out;exact⟨m,i,g1,g2,g3,g4,g5⟩
    case measure=>simp [intOf];omega
   ·have X:Z _:=N.out (by unfold Eg;rw[ab,decide_eq_false ak];rfl);go_wp2;go_roundw
    case rel=>exact ⟨n+1,d,by omega,by go_num,T.out,by rw[X.out];exact B.out,j⟩
    case measure=>simp [intOf];omega
theorem wD {b:List Fl} {p:ByteArray} :∀j (hj:j<b.length),b[j].1=p->∃i,∃hi:i<b.length,b[i].1=p/\∀k (hk:k<b.length),k<i->b[k].1≠p:=by
 intro j
 induction j using Nat.strongRecOn with
 | ind j ih =>
  intro hj e;by_cases h:∃k,∃hk:k<b.length,k<j/\b[k].1=p
  ·obtain⟨k,hk,c,d⟩:=h;exact ih k c hk d
  ·exact⟨j,hj,e,fun k hk c d=>h ⟨k,hk,c,d⟩⟩
theorem VS {b:List Fl} {f:Fl} (l:f∈b):∃n,∃hn:n<b.length,Df b f.1=n/\b[n].1=f.1:=by
 obtain⟨j,g,rfl⟩:=List.mem_iff_getElem.1 l;obtain⟨i,c,e,d⟩:=wD j g rfl;exact⟨i,c,Mg c (fun k hk hki=>d k hk hki) e,e⟩
def VT (fs:List Fl) (p:ByteArray):Prop:= ∃f∈fs,f.1=p/\Ck p=Qe
theorem wE (v:Qf) (c:List Fl) (p:ByteArray) (w:Qb) (a:Nat->Qt) (h:CT w a) (l:Ai w v c) (hl:c.length<=1000) (K:∀f∈c,f.1.size<=100000) (M:VT c p) :
  Qa prog 231 #[v,H p] w fun e w'=>e=Qc (Qu V)/\BL w w':=by
 have d:=JT v c p w l (by omega);obtain⟨n,i,s,t⟩:∃n,∃s:n<c.length,Df c p=n/\c[n].1=p:=by
  obtain⟨f,N,e,_⟩:=M;have g:=VS N;rw[e]at g;exact g
 have k:Z (∀W,BL w W->Qa prog 139 #[A1 c[n]] W fun e w'=>e=Qc (Qu Qe)/\BL W w'):=fun W hb=>by
  have g:=Iz c[n] W a (h.below hb) (K _ (Qm _));obtain⟨_,_,_,P⟩:=M;rw[t,P]at g;exact g
 obtain⟨q,X,rfl⟩:=l.form;rw[s]at d;obtain⟨L,Q⟩:∃L,c.length=L:=⟨_,rfl⟩;obtain⟨b,o,R,T⟩:=l.cells (fun e=>by rw[e]at i;simp at i);subst R;have m:Z (∀W,BL w W->W.cell? ⟨b,o+n*6,S⟩=J (H c[n].1)/\W.cell? ⟨b,o+n*6+1,S⟩=J (H c[n].2.1)/\W.cell? ⟨b,o+n*6+2,S⟩=J (O U c[n].2.2.1)/\W.cell? ⟨b,o+n*6+3,S⟩=J (O U c[n].2.2.2.1)/\W.cell? ⟨b,o+n*6+4,S⟩=J (O U c[n].2.2.2.2.1)/\W.cell? ⟨b,o+n*6+5,S⟩=J (O U c[n].2.2.2.2.2)):=fun W hb=>by
  obtain⟨u,y,z,B,C,D⟩:=T n i;exact⟨Aa hb u,Aa hb y,Aa hb z,Aa hb B,Aa hb C,Aa hb D⟩
 generalize c[n]=f at k m;rw[Q]at d ⊢
 go_enter func231,ntmps231
 go_wp2_with fail
 refine d.mono ?_;rintro e E ⟨rfl,j⟩;obtain⟨u,y,z,B,C,D⟩:=m.out E j;have r:=k.out E j
 go_wp2_with fail
 refine r.mono ?_;rintro e Y ⟨rfl,F⟩;go_wp2;go_ret;exact⟨rfl,(Ad j F)⟩
def C6 (ps:List ByteArray) (f:Fl):Bool:= !Ck f.1 && !BI ps f.1
theorem wF (ps:List ByteArray) (l:Qf) (f:Fl) (p:Nat) (w:Qb) (a:Nat->Qt) (h:CT w a) (u:w.cell? ⟨p,0,S⟩=J l) (r:BS w l ps) (T:ps.length<=1000) (v:f.1.size<=100000) :
  Qa prog 233 #[A1 f,Qn (J ⟨p,0,S⟩)] w fun e w'=>e=Qc (Qu (C6 ps f))/\BL w w':=by
 have b:BL w (w.alloc (A #[H f.1,H f.2.1,O U f.2.2.1,O U f.2.2.2.1,O U f.2.2.2.2.1,O U f.2.2.2.2.2] 77)):=Af _ _;have i:=Az.new w f;have d:=Iz f _ a (h.below b) v;have m:=Aa b u;have n:Z _:=fun W (hW:BL w W)=>Ow l ps f.1 W (r.below hW) (by omega);have j:Z (C6 ps f=(!Ck f.1 && !BI ps f.1)):=rfl;obtain⟨q,c,rfl⟩:=r.form;generalize Ck f.1=G at d j;unfold A1 at d ⊢
 go_enter func233,ntmps233
 go_upto_region 1 with fail
 obtain⟨D,E,F,y,z,s⟩:=f;obtain⟨K,L,M,N,P,Q,-⟩:=i.cells
 go_wp2_with fail
 refine d.mono ?_;rintro e t ⟨rfl,g⟩;have k:=Ad b g;have B:=(i.below g).cells.1;have C:=Aa g m;cases G
 ·have o:=n.out t k
  go_wp2_with fail
  refine o.mono ?_;rintro e R ⟨rfl,rfl⟩;go_wp2;go_ret;exact⟨by rw[j.out];simp,k⟩
 ·go_wp2;go_ret;exact⟨by rw[j.out];simp,k⟩
section
variable {a : Nat → Qt} {B : Nat} {EM : Qb → Prop} {SAt : Qb → Qf → (Nat → Prop) → St → Prop}
theorem wG (X:Qb) (pt:Qt) (s:Sn) (vf:Qf) (T:Ai X vf s.2.2.2.2.2.2) (hl:s.2.2.2.2.2.2.length<=100) (M:Eb s.2.2.2.2.2.2) (vp:Qf) (ps:List ByteArray) (hp:BS X vp ps) (bb:ps.length<=1000) (hE:(Am s).1=0) (hd:∀p∈ps,VT s.2.2.2.2.2.2 p) (RR:List Rw) (N:Qf->Prop) (bc:∀W,BL X W->D4 W a)
  (bd:∀W v,BL X W->Ai W v (s.2.2.2.2.2.2.filter fun f=> !C6 ps f)->Qa prog 40 #[Qn (J pt),A9 (Ha s (s.2.2.2.2.2.2.filter fun f=> !C6 ps f)) v,O U (-1073741824),O U 1073741824] W fun e w'=> ∃v',e=Qc (Qk #[v',Qh])/\Ar w' v' RR/\N v'/\BL W w') :
  Qa prog 147 #[Qn (J pt),A9 s vf,vp] X fun e w'=> ∃v',e=Qc (Qk #[v',Qh])/\Ar w' v' RR/\N v'/\BL X w':=by
 have eg:∀args w,(callFunc 233 args).run prog w= .ok (.enter 233 args) w:=enters_of func233 (by kernel_rfl) rfl;have aa:Z (∀W,BL X W->D4 W a):=bc;have D:Z (∀W v,BL X W->Ai W v (s.2.2.2.2.2.2.filter fun f=> !C6 ps f)->Qa prog 40 #[Qn (J pt),A9 (Ha s (s.2.2.2.2.2.2.filter fun f=> !C6 ps f)) v,O U (-1073741824),O U 1073741824] W fun e w'=> ∃v',e=Qc (Qk #[v',Qh])/\Ar w' v' RR/\N v'/\BL W w'):=bd;have HX:Z (∀W,BL X W->Ai W vf s.2.2.2.2.2.2):=fun W c=>T.below c;have HP:Z (∀W,BL X W->BS W vp ps):=fun W c=>hp.below c;have al:Z (∀W,BL X W->Qa prog 79 #[A9 s vf] W fun e w'=>e= .returned Qh/\BL W w'):=fun W c=>(Ji s vf W a (aa.out W c) (T.below c) (by omega) M).mono fun e w' ⟨ev,he,ht,hb'⟩=>⟨by rw[he,ht.ok hE],hb'⟩;have be:Z (∀W,BL X W->∀p∈ps,Qa prog 231 #[vf,H p] W fun e w'=>e=Qc (Qu V)/\BL W w'):=fun W c p hpm=>wE vf s.2.2.2.2.2.2 p W a (aa.out W c).file.env (T.below c) (by omega) (fun f hf=>by have:=(M f hf).1;omega) (hd p hpm);have bf:Z (∀W,BL X W->Qa prog 39 #[vf] W fun e w'=> ∃v',e=Qc v'/\w'.ownsRow W.heap.size 77 6 v' s.2.2.2.2.2.2.length (Aw s.2.2.2.2.2.2)/\BL W w'):=fun W c=>Mu vf s.2.2.2.2.2.2 W (T.below c) (by omega);have am:Z (∀W0 W v C,BL X W0->W0.cell? ⟨C,0,S⟩=J vp->BL W0 W->W.ownsRow W0.heap.size 77 6 v s.2.2.2.2.2.2.length (Aw s.2.2.2.2.2.2)->Qa prog 232 #[v,.func (.func 233) #[] #[Qn (J ⟨C,0,S⟩)]] W fun e w'=> ∃v',e=Qc v'/\Ai w' v' (s.2.2.2.2.2.2.filter fun f=> !C6 ps f)/\BL W0 w'):=fun W0 W v C hb0 hc c ho=>(Uj 233 #[Qn (J ⟨C,0,S⟩)] (C6 ps) v s.2.2.2.2.2.2 W0 W c ho (by omega) eg (fun f hf Y hY=>wF ps vp f C Y a (aa.out Y (Ad hb0 hY)).file.env (Aa hY hc) ((hp.below hb0).below hY) bb (by have:=(M f hf).1;omega))).mono fun e w' ⟨v',he,ho',hb'⟩=>⟨v',he,(Gt ho').1,hb'⟩;obtain⟨r,t,a0⟩:=T.form;obtain⟨qp,cp,a1⟩:=hp.form;obtain⟨L,hL⟩:∃L,s.2.2.2.2.2.2.length=L:=⟨_,rfl⟩;obtain⟨o,ai⟩:∃k,ps.length=k:=⟨_,rfl⟩;have bg:Z (ps.length=o):=ai;rw[hL]at a0;rw[ai]at a1;have bl:o<=1000:=by omega
 subst a0 a1;generalize (s.2.2.2.2.2.2.filter fun f=> !C6 ps f)=FF at D am;have hS:Al (X.alloc (A #[O U s.1,O U s.2.1,O U s.2.2.1,O U s.2.2.2.1,O U s.2.2.2.2.1,H s.2.2.2.2.2.1,I r L t] 40)) X.heap.size s (I r L t):=Al.new X s _;have an:BL X (X.alloc (A #[O U s.1,O U s.2.1,O U s.2.2.1,O U s.2.2.2.1,O U s.2.2.2.2.1,H s.2.2.2.2.2.1,I r L t] 40)):=Af _ _;clear T hp hE hd hl M bb hL ai eg bc bd;unfold A9 at al D ⊢;unfold Ha at D;obtain⟨l,d,g,i,j,m,bm⟩:=s;dsimp only at *
 go_enter func147,ntmps147
 have ab:Below (X.alloc (A #[O U l,O U d,O U g,O U i,O U j,H m,I r L t] 40)).heap.size (X.alloc (A #[O U l,O U d,O U g,O U i,O U j,H m,I r L t] 40)) ((X.alloc (A #[O U l,O U d,O U g,O U i,O U j,H m,I r L t] 40)).alloc (A #[I qp o cp] 82)):=Af _ _;have E:=hS.below ab;have ac:=Ad an ab;have ad:((X.alloc (A #[O U l,O U d,O U g,O U i,O U j,H m,I r L t] 40)).alloc (A #[I qp o cp] 82)).cell? ⟨X.heap.size+1,0,S⟩=J (I qp o cp):=by
  have e:(X.alloc (A #[O U l,O U d,O U g,O U i,O U j,H m,I r L t] 40)).heap.size=X.heap.size+1:=by simp
  have h:=cell_of_row ((X.alloc (A #[O U l,O U d,O U g,O U i,O U j,H m,I r L t] 40)).alloc (A #[I qp o cp] 82)) (X.alloc (A #[O U l,O U d,O U g,O U i,O U j,H m,I r L t] 40)).heap.size 0 _ _ _ (heap_alloc_new _ _);rw[e]at h;rw[h];rfl
 clear hS an ab
 go_upto_region 1 with fail
 generalize ((X.alloc (A #[O U l,O U d,O U g,O U i,O U j,H m,I r L t] 40)).alloc (A #[I qp o cp] 82))=W1 at *;obtain⟨B,aj⟩:∃k,X.heap.size=k:=⟨_,rfl⟩;obtain⟨C,a2⟩:∃k,X.heap.size+1=k:=⟨_,rfl⟩;have bh:Z (X.heap.size=B):=aj;rw[a2]at ad ⊢;rw[aj]at E ⊢;clear aj a2;obtain⟨z0,z1,z2,z3,z4,z5,q⟩:=E.cells;dsimp only at z0 z1 z2 z3 z4 z5 q;have ao:=al.out W1 ac
 go_wp2_with fail
 refine ao.mono ?_;rintro e w2 ⟨rfl,F⟩;have ae:=E.below F;have ap:=Aa F ad;have aq:=Ad ac F;clear ao E ad ac F z0 z1 z2 z3 z4 z5 q
 go_wp2_with fail
 go_loopw [9,10,23] (fun _ _ k wr=> ∃n:Nat,n<=o/\k=O U n/\BL w2 wr) (fun _ _ k _=>o-(intOf k).toNat)
 case atStart=>exact ⟨0,by omega,rfl,Below.refl _ _⟩
 case round =>
 obtain⟨n,hn,rfl,c⟩:=hrel;have u:=Ad aq c;by_cases bi:n<o
 case pos =>
  have y:n<ps.length:=by rw[bg.out];exact bi
  obtain⟨b,hq,hc⟩:=(HP.out wr u).cells (fun e=>by rw[e]at y;simp at y);subst hq;have c0:=hc n y;have af:=be.out wr u ps[n] (Qm _);have q:=(ae.below c).cells.2.2.2.2.2.2
  try dsimp only at q
  generalize ps[n]=p at c0 af;have g1:(n:Int)<(o:Int):=by omega
  have g2:(0:Int)<=(n:Int):=by omega
  clear hc y
  go_wp2_with fail
  refine af.mono ?_;rintro e w3 ⟨rfl,a5⟩;have bj:Z (BL w2 w3):=Ad c a5;clear af a5 c0 q;go_wp2;go_roundw
  case rel=>exact ⟨n+1,by omega,by go_num,bj.out⟩
  case measure=>simp [intOf];omega
 case neg =>
 have g1:¬(n:Int)<(o:Int):=by omega
 have ag:=ae.below c;have ar:=Aa c ap;have q:=ag.cells.2.2.2.2.2.2
 try dsimp only at q
 have au:=bf.out wr u;clear ae ap c aq
 go_wp2_with fail
 refine au.mono ?_;rintro e w4 ⟨v4,rfl,a6,a7⟩;have av:=am.out wr w4 v4 C u ar a7 a6;clear au a6 q
 go_wp2_with fail
 refine av.mono ?_;rintro e w5 ⟨v5,rfl,K,ak⟩;have z:=ag.below ak;have aw:=Ad u ak;obtain⟨P,Q,a3⟩:=K.form;obtain⟨R,a4⟩:∃k,FF.length=k:=⟨_,rfl⟩;rw[a4]at a3;subst a3;have ax:Al (w5.setCell ⟨B,6,S⟩ (I P R Q)) B (l,d,g,i,j,m,FF) (I P R Q):=Al.set6 z;have ay:Ai (w5.setCell ⟨B,6,S⟩ (I P R Q)) (I P R Q) FF:=K.set_off (IZ z K) 6 _;have ah:BL X (w5.setCell ⟨B,6,S⟩ (I P R Q)):=aw.setCell (p:=⟨B,6,S⟩) (by rw[bh.out];exact Nat.le_refl _) _;have y6:=z.cells.2.2.2.2.2.2;have yf:w5.frozen? ⟨B,6,S⟩=Qe:=frozen_of_row _ _ _ _ _ z
 try dsimp only at y6
 clear av K a7 ak ag ar z aw u a4
 go_upto_region 13 with fail
 clear y6 yf;generalize w5.setCell ⟨B,6,S⟩ (I P R Q)=w6 at *;have az:=D.out w6 _ ah ay;obtain⟨z0,z1,z2,z3,z4,z5,q⟩:=ax.cells;dsimp only at z0 z1 z2 z3 z4 z5 q
 go_wp2_with fail
 refine az.mono ?_;rintro e w7 ⟨v7,rfl,a8,a9,ba⟩;have bk:Z (Ar w7 v7 RR/\N v7/\BL X w7):=⟨a8,a9,(Ad ah ba)⟩;clear az a8 a9 ba ax ay ah z0 z1 z2 z3 z4 z5 q;go_wp2;refine Q0 (v:=Qk #[v7,Qh]) (by simp[Q1,results147,go_sem]) rfl ?_;exact⟨v7,rfl,bk.out⟩
end
structure Li (g:Gp) (F:List Fl):Prop where
 paths:g.2.2=F.map (·.1)
 sum:g.2.1=(F.map (·.2.2.1)).sum
 part:∀f∈F,f.2.1=g.1
 room:g.2.1<=40
abbrev Gz:=Gp×List Fl
def Hc (f:Fl):List Gz->List Gz
 | []=> [(CA f (f.2.1,0, []), [f])]
 | z :: r=>if Ch f z.1=V then (CA f z.1,z.2++ [f]) :: r else z :: Hc f r
theorem VU (f:Fl):∀zs:List Gz,(Hc f zs).map (·.1)=Cl f (zs.map (·.1))
 | []=>rfl
 | z :: r=>by
  unfold Hc;rw[Qg]
  conv=>rhs;unfold Cl
  split
  ·rw[Qg]
  ·rw[Qg,VU f r]
theorem VV (f:Fl) (i:f.2.2.1<=40):∀zs:List Gz,(∀z∈zs,Li z.1 z.2)->∀z∈Hc f zs,Li z.1 z.2
 | [],_,z,b=>by
  rw[Hc,Qp]at b;subst b;exact⟨rfl,by simp[CA],by simp[CA],by simpa [CA] using i⟩
 | y :: r,h,z,b=>by
  unfold Hc at b;by_cases e:Ch f y.1=V
  ·rw[if_pos e]at b;rcases Ql.1 b with rfl | b
   ·have d:=h y Qq;unfold Ch at e;rw[Qr,decide_eq_true_eq,decide_eq_true_eq]at e;refine⟨?_,?_,fun g c=>?_,e.2⟩
    ·simp only[CA,Q2,Qg,Q9,d.paths]
    ·simp only[CA,Q2,Qg,Q9,List.sum_append,List.sum_cons,List.sum_nil,d.sum];omega
    ·rw[Q3,Qp]at c;rcases c with c | rfl
     ·exact d.part g c
     ·exact e.1.symm
   ·exact h z (Qj _ b)
  ·rw[if_neg e]at b;rcases Ql.1 b with rfl | b
   ·exact h z Qq
   ·exact VV f i r (fun x hx=>h x (Qj _ hx)) z b
theorem VW (f:Fl):∀zs:List Gz,((Hc f zs).flatMap (·.2)).Perm (zs.flatMap (·.2)++ [f])
 | []=>by simp[Hc]
 | z :: r=>by
  unfold Hc;split
  ·rw[Qd,Qd];show ((z.2++ [f])++r.flatMap (·.2)).Perm ((z.2++r.flatMap (·.2))++ [f]);rw[Q4,Q4];exact List.perm_append_comm.append_left z.2
  ·rw[Qd,Qd,Q4];exact(VW f r).append_left z.2
theorem VX {b:List Fl} {least:Int} (d:∀f∈b,f.2.2.1<=40):∀n,n<=b.length->∃zs:List Gz,zs.map (·.1)=CM b least n/\(∀z∈zs,Li z.1 z.2)/\(zs.flatMap (·.2)).Perm ((b.take n).filter (Eg least))
 | 0,_=>⟨[],by simp[CM],by simp,by simp⟩
 | n+1,h=>by
  obtain⟨zs,i,j,k⟩:=VX (least:=least) d n (by omega);have c:n<b.length:=by omega
  cases e:Eg least b[n] with
  | true =>
   refine⟨Hc b[n] zs,?_,VV _ (d _ (Qm _)) zs j,?_⟩
   ·rw[VU,i,PD c e]
   ·refine(VW b[n] zs).trans ?_;rw[Qw c,Qo];have g: [b[n]].filter (Eg least)= [b[n]]:=by simp[e]
    rw[g];exact k.append_right _
  | false =>
   refine⟨zs,by rw[i,PF c e],j,?_⟩;rw[Qw c,Qo];have g: [b[n]].filter (Eg least)= []:=by simp[e]
   rw[g,List.append_nil];exact k
structure Kf (fs:List Fl) (least:Int) (ws:List Gz):Prop where
 grp:∀z∈ws,Li z.1 z.2/\1<z.2.length
 mem:∀f∈ws.flatMap (·.2),f∈fs/\Eg least f=V
 nd:((ws.flatMap (·.2)).map (·.1)).Pairwise fun p q=>p≠q
 len:(ws.flatMap (·.2)).length<=fs.length
theorem wH {j:List Fl} {least:Int} {gs:List Gp} (t:Fc 0 j) (D:gs.Perm (CM j least j.length)):∃ws:List Gz,Kf j least ws/\I3 gs=ws.map fun z=>z.2.map (·.1):=by
 obtain⟨u,v,B,o⟩:=VX (least:=least) (fun f hf=>(VQ (t.1 f hf).1).2) j.length (Nat.le_refl _);rw[List.take_length]at o;obtain⟨i,s,C⟩:=VR (f:=fun z:Gz=>z.1) D u v;have k:∀z∈i,Li z.1 z.2:=fun z c=>B z (s.subset c);have d:((i.filter fun z=>decide (1<z.2.length)).flatMap (·.2)).Sublist (i.flatMap (·.2)):=by
  generalize i=l
  induction l with
  | nil=>exact List.Sublist.refl _
  | cons z r ih =>
   rw[List.filter_cons];split
   ·rw[Qd,Qd];exact List.Sublist.append (List.Sublist.refl _) ih
   ·rw[Qd];exact ih.trans (List.sublist_append_right _ _)
 have b:=(s.flatMap_right (f:=fun z:Gz=>z.2)).trans o;refine⟨i.filter fun z=>decide (1<z.2.length),⟨fun z c=>⟨k z (Qi.1 c).1,of_decide_eq_true (Qi.1 c).2⟩,fun f hf=>?_,?_,Nat.le_trans d.length_le (by rw[b.length_eq];exact Q5 _ _)⟩,?_⟩
 ·have:=b.subset (d.subset hf);exact Qi.1 this
 ·have n:((j.filter (Eg least)).map (·.1)).Pairwise fun p q=>p≠q:=by
   rw[List.pairwise_map];refine(t.2.sublist List.filter_sublist).imp ?_;intro f g h e;have E:fk f=fk g:=by unfold fk;rw[e]
   omega
  have m:=((b.map (·.1)).pairwise_iff (fun {x y} h e=>h e.symm)).2 n;exact m.sublist (d.map _)
 ·unfold I3;rw[<-C,List.filter_map,Qz];have e:(i.filter ((fun g:Gp=>decide (1<g.2.2.length)) ∘ fun z:Gz=>z.1))=i.filter fun z=>decide (1<z.2.length):=by
   apply QA;intro z c;show decide (1<z.1.2.2.length)=_;rw[(k z c).paths,Qv]
  rw[e];apply List.map_congr_left;intro z c;exact(k z (Qi.1 c).1).paths
def I4 (obs:List Ob) (fs:List Fl) (x:Fl):List Rw:=((Da obs x).filter fun p=>Bj Bt Bu p.1 && !BM (fs.flatMap (BX obs)) p).map (·.1)
theorem wI {obs:List Ob} {b:List Fl} {x:Fl} (h:x.2.1.data.toList= [45]):I4 obs b x= []:=by
 unfold I4 Da;rw[if_neg (by simpa using h)];rfl
theorem VY {obs:List Ob} {x:Fl} (h:x.2.1.data.toList≠ [45]):BX obs x= []:=by
 unfold BX;rw[if_pos h]
theorem PH {α β:Type} {p:α->Bool} {f:α->List β} :∀ {l:List α},(∀x∈l,p x=Qe->f x= [])->(l.filter p).flatMap f=l.flatMap f
 | [],_=>rfl
 | x :: r,h=>by
  have b:=PH (p:=p) (f:=f) (l:=r) (fun y hy=>h y (Qj _ hy))
  cases e:p x with
  | true=>rw [List.filter_cons_of_pos e,Qd,Qd,b]
  | false=>rw [List.filter_cons_of_neg (by rw[e];simp),Qd,h x Qq e,Q6,b]
theorem PJ {obs:List Ob} {G:List (Int×Int)} :∀l:List Fl,((l.flatMap (Da obs)).filter fun p=>Bj Bt Bu p.1 && !BM G p).map (·.1)=l.flatMap fun x=>((Da obs x).filter fun p=>Bj Bt Bu p.1 && !BM G p).map (·.1)
 | []=>rfl
 | x :: r=>by rw[Qd,Qo,Q2,PJ r,Qd]
theorem PK {obs:List Ob} {s:Sn} (c:(Am s).1=0) (h:∀x∈s.2.2.2.2.2.2,(Aj obs x).1=0):Bo obs s Bt Bu=(A5 (s.2.2.2.2.2.2.flatMap (I4 obs s.2.2.2.2.2.2)),0,S):=by
 have d:=(FY c).2;have b:=UV fun x hx=>(d.1 x hx).1;rw[pY c (by rw[b];exact h),b,UU];unfold ED;dsimp only;rw[Q6,Q6,PJ];rfl
theorem wJ {obs:List Ob} {s:Sn} (h:(Bo obs s Bt Bu).2.1=0) (ps:List ByteArray):Bo obs (Ha s (s.2.2.2.2.2.2.filter fun f=> !C6 ps f)) Bt Bu=(A5 ((s.2.2.2.2.2.2.filter fun f=> !Ck f.1 && BI ps f.1).flatMap (I4 obs s.2.2.2.2.2.2)),0,S):=by
 obtain⟨g,d⟩:=pX h;have i:=(FY g).2;have b:∀f∈s.2.2.2.2.2.2,At f=0:=fun f hf=>(i.1 f hf).1;rw[UV b]at d;have j:=VG g fun f=> !C6 ps f;rw[PK j (fun x hx=>d x (Qi.1 hx).1)];have k:(Ha s (s.2.2.2.2.2.2.filter fun f=> !C6 ps f)).2.2.2.2.2.2=s.2.2.2.2.2.2.filter fun f=> !C6 ps f:=rfl;rw[k];have m:(s.2.2.2.2.2.2.filter fun f=> !C6 ps f).flatMap (BX obs)=s.2.2.2.2.2.2.flatMap (BX obs):=PH fun x hx e=>by
  refine VY fun e2=>?_;have c:=Mw (b x hx);rw[decide_eq_true e2]at c;unfold C6 at e;rw[c]at e;simp at e
 have n:I4 obs (s.2.2.2.2.2.2.filter fun f=> !C6 ps f)=I4 obs s.2.2.2.2.2.2:=by
  funext x;unfold I4;rw[m]
 rw[n];have o:(s.2.2.2.2.2.2.filter fun f=> !Ck f.1 && BI ps f.1)=(s.2.2.2.2.2.2.filter fun f=> !C6 ps f).filter fun f=> !Ck f.1:=by
  rw[List.filter_filter];apply QA;intro x _;unfold C6;cases Ck x.1<;>cases BI ps x.1<;>rfl
 rw[o,PH (p:=fun f=> !Ck f.1) (l:=s.2.2.2.2.2.2.filter fun f=> !C6 ps f) fun x hx e=>wI (by
  have c:=Mw (b x (Qi.1 hx).1);rw[Bool.not_eq_false']at e;rw[e]at c;exact of_decide_eq_true c.symm)]
theorem VZ {β:Type} (k:FK β) (P:β->Prop) (d:∀l,(k.rd l).2=0->P (k.rd l).1):∀(ls:List (List UInt8)) (n:Nat) (acc:List β),(∀x∈acc,P x)->∀x∈(AP k ls n acc).1,P x
 | [],n,acc,h=>h
 | [l],n,acc,h=>by
  intro x b;rw[Kr]at b;split at b
  ·exact h x b
  ·simp at b
 | l :: l2 :: r,n,acc,h=>by
  intro x b;rw[J9]at b;split at b
  ·simp at b
  ·rename_i f;split at b
   ·simp at b
   ·refine VZ k P d (l2 :: r) (n+1) _ (fun y c=>?_) x b;rcases Q3.1 c with c | c
    ·exact h y c
    ·rw[Qp.1 c];exact d l (by simpa using f)
theorem Wa (s:List UInt8):∀x∈(Bw s).1,Ay x=0:=by
 intro x b;change x∈(BP CD s).1 at b;unfold BP at b;split at b
 ·simp at b
 ·split at b
  ·simp at b
  ·split at b
   ·simp at b
   ·split at b
    ·simp at b
    ·unfold GI at b;split at b
     ·simp at b
     ·split at b
      ·simp at b
      ·split at b
       ·refine VZ CD (fun x=>Ay x=0) (fun l hl=>?_) _ 0 [] (by simp) x b;change (Bq l).2=0 at hl;change Ay (Bq l).1=0;unfold Bq at hl ⊢;split at hl
        ·split at hl
         ·split at hl
          ·rename_i c;rw[if_pos c];exact c
          ·rename_i c;exact absurd hl c
         ·cases hl
        ·cases hl
       ·simp at b
theorem wK (s:List UInt8):(Bw s).1.length<=40:=(LI CD (fun l=>by
 show (Bq l).2<=12;unfold Bq;split
 ·split
  ·split
   ·exact Nat.zero_le _
   ·show Ay _<=12;unfold Ay
    repeat' split
    all_goals omega
  ·show 1<=12;omega
 ·show 1<=12;omega) s).2
theorem wL {lo hi:Int} {x:Fl} {t:ByteArray} {b:List (Rw×Int)} (h:∀p∈b,Ay p.1=0):(∀p∈E2 lo hi x t b,Ay p.1=0)/\(E2 lo hi x t b).length<=b.length+40:=by
 by_cases d:x.2.1.data.toList≠ [45]
 ·rw[Jl d];refine⟨fun p c=>?_,?_⟩
  ·rcases Q3.1 c with c | c
   ·exact h p c
   ·obtain⟨r,f,rfl⟩:=Qs.1 c;exact Wa _ r (Qi.1 f).1
  ·rw[Qy,Qv];have g:=Q5 (Bj lo hi) (Bw t.data.toList).1;have i:=wK t.data.toList;omega
 ·rw[Jm (by simpa using d)];refine⟨fun p c=>h p (Qi.1 c).1,?_⟩;have:=Q5 (fun p:Rw×Int=> !((B4 t.data.toList).1.contains p.1.2.1 && decide (p.2<x.2.2.2.2.2))) b;omega
theorem PM {obs:List Ob} {lo hi:Int} :∀(fs:List Fl) (i:Nat) (acc:List (Rw×Int)),(∀p∈acc,Ay p.1=0)->(∀p∈(Cg obs lo hi fs i acc).1,Ay p.1=0)/\(Cg obs lo hi fs i acc).1.length<=acc.length+40*fs.length
 | [],i,acc,h=>⟨h,by simp[Cg]⟩
 | x :: r,i,acc,h=>by
  unfold Cg;split
  ·have b:=PM (obs:=obs) (lo:=lo) (hi:=hi) r (i+1) acc h;refine⟨b.1,?_⟩;rw[Qx];omega
  ·split
   ·simp
   ·have c:=wL (lo:=lo) (hi:=hi) (x:=x) (t:=(Aj obs x).2) h;have b:=PM (obs:=obs) (lo:=lo) (hi:=hi) r (i+1) _ c.1;refine⟨b.1,?_⟩;rw[Qx];have:=c.2;omega
theorem Wb {obs:List Ob} {s:Sn} {lo hi:Int} :(∀r∈(Bo obs s lo hi).1,Ay r=0)/\(Bo obs s lo hi).1.length<=40*s.2.2.2.2.2.2.length:=by
 have h:=PM (obs:=obs) (lo:=lo) (hi:=hi) s.2.2.2.2.2.2 0 [] (by simp);unfold Bo;split
 ·simp
 ·split
  ·simp
  ·refine⟨fun r hr=>?_,?_⟩
   ·obtain⟨p,b,rfl⟩:=Qs.1 ((Ej _).mem_iff.1 hr);exact h.1 p b
   ·show (A5 _).length<=_;rw[(Ej _).length_eq,Qv];simpa using h.2
theorem wM {x:Rw} (h:Ay x=0):x.1.size<=30:=by
 have b:=Kq h;unfold Fa at b;simp only[Qr,decide_eq_true_eq]at b;have e:x.1.data.toList.length=x.1.size:=rfl;omega
def Dx (obs:List Ob) (x:Sn) (ps:List ByteArray):List Rw:=(Bo obs (Ha x (x.2.2.2.2.2.2.filter fun f=> !C6 ps f)) Bt Bu).1
def Ie (obs:List Ob) (x:Sn) (nm:ByteArray) (ps:List ByteArray):List Dr:=if Dx obs x ps= [] then [] else [Db nm (Dx obs x ps)]
def DW (obs:List Ob) (x:Sn) (ws:List Gz):List Dr:=ws.flatMap fun z=>Ie obs x z.1.1 (z.2.map (·.1))
def Eh (fs:List Fl) (ws:List Gz):List ByteArray:=GA fs++(ws.flatMap (·.2)).map (·.1)
end Go.Proofs.YtcllhobffhkafaaGreatDoor
