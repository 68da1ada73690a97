/- By an AI agent. -/
import Derived.Test.YtcllhobffhkafaaGreatDoorLkbPure
set_option maxRecDepth 100000
set_option maxHeartbeats 16000000
open Go.Proofs.Tryz
open Bool renaming true->Qg,false->Qo,eq_iff_iff->Qw,and_eq_true->Qz,not_eq_true'->Q9
open Go renaming Value->Qb,Calls->Qc,World->Qd,cell_of_row->Qi,maxLen->Qn,Addr->Qp,lt_of_block->QD
open Go.Ending renaming returned->Qa
open Go.IntKind renaming i64->S
open Go.Proofs.Tryz renaming prog->H
open Go.RowKit renaming Hid->U
open Go.RowKit.Below renaming refl->Qr
open Go.Value renaming int->I,pointer->J,slice->A,string->Qe,nilIface->Qh,bool->Qj,tuple->Qm,iface->Qv,ownBlock->Q3
open List renaming mem_flatMap->Qk,mem_filter->Ql,flatMap_cons->Qq,mem_map->Qt,flatMap_append->Qu,mem_append->Q0,length_append->Q1,take_length->Q2,mem_cons_self->Q5,mem_cons_of_mem->Q6,filter_congr->Q8,append_of_mem->QA,map_append->QB,pairwise_append->QC
open List.Perm renaming refl->Qs,append->Q7
open Nat renaming le_refl->Qx,le_trans->Qy,lt_or_ge->Q4
open Option renaming some->O,none->Z
open Or renaming inr->V,inl->Qf
namespace Go.Proofs.YtcllhobffhkafaaGreatDoor
open Go.Extern Go.Extern.Stop Go.RowKit Go.Stop
section
open Go.Lib Go.Shelf Go.Sort
theorem ze8 (zs:List Int) (x:Int):(Bt zs).contains x=zs.contains x:=by
 rw[Qw];simp[Sg]
theorem ze9 (v:Qb) (zs:List Int) (x:Int) (w:Qd) (h:A4 w v (Bt zs)) (l:zs.length<=20000) :
  Qc H 51 #[v,I S x] w fun e w'=>(∃i,e=Qa (Qm #[I S i,Qj (zs.contains x)]))/\BL w w':=by
 rcases h with⟨p,c,rfl,g⟩|⟨b,o,f,rfl,k⟩
 ·have d:zs= []:=List.length_eq_zero_iff.1 (by rw[<-Jd,g];rfl);subst d;refine(slices_BinarySearch_int_empty p c x w).mono fun e w' ⟨he,hw⟩=>⟨⟨0,he⟩,?_⟩;subst hw;exact Qr _ _
 ·refine(slices_BinarySearch_int b o (Bt zs).length f (Bt zs) x w (Qx _) (by rw[Jd];omega) (fun j hj=>by rw[KH hj];exact k j hj) (by rw[Q2];exact Sh zs)).mono fun e w' ⟨he,q,hw⟩=>?_;rw[Q2,ze8]at he;subst hw;exact⟨⟨_,he⟩,NV w q⟩
theorem zf0 (x:Rw) (v:Qb) (zs:List Int) (a:Qp) (w:Qd) (g:w.cell? a=O v) (j:A4 w v (Bt zs)) (m:zs.length<=20000) :
  Qc H 50 #[.agg #[Qe x.1,I S x.2.1,I S x.2.2],J (O a)] w fun e w'=>e=Qa (Qj (Ga zs x))/\BL w w':=by
 obtain⟨k,c,l⟩:=x;dsimp only;have b:BL w (w.alloc (.cells #[Qe k,I S c,I S l] 62)):=Af _ _;have n:=Aa b g;have d:=ze9 v zs c _ (j.below b) m;unfold Ga;dsimp only;generalize zs.contains c=r at d ⊢;clear j g
 go_enter func50,ntmps50
 go_wp2_with (go_at_call 51;refine d.mono ?_;rintro e o ⟨⟨i,rfl⟩,f⟩)
 go_ret;exact⟨rfl,(Ad b f)⟩
theorem bL {W:Qd} {B D:Nat} {e:TypeId} {z:Nat} {v:Qb} {n:Nat} {xs:List Qb} (h:W.ownsRow B e z v n xs) (k:D<=B):W.ownsRow D e z v n xs:=by
 obtain⟨f,b⟩:=h;refine⟨f,?_⟩;rcases b with b | ⟨g,c,d,i,j,r⟩
 ·exact Qf b
 ·exact V ⟨g,c,d,i,Qy k j,r⟩
theorem zf1 (v u:Qb) (xs:List Rw) (zs:List Int) (w:Qd) (L:Ap w v xs) (M:A4 w u zs) (R:xs.length<=20000) (m:zs.length<=20000) :
  Qc H 19 #[v,u] w fun e w'=> ∃v',e=Qa v'/\w'.ownsRow w.heap.size 62 3 v' (xs.filter (Ga zs)).length (Az (xs.filter (Ga zs)))/\BL w w':=by
 have d:=LY u zs w M m;have y:∀args w,(callFunc 50 args).run H w= .ok (.enter 50 args) w:=enters_of func50 (by kernel_rfl) rfl
 go_enter func19,ntmps19
 go_wp2_with fail
 refine d.mono ?_;rintro e b ⟨N,rfl,o,r⟩;obtain⟨i,j,k,rfl⟩:∃p n c,N=A p n c:=by
  rcases o.2 with⟨e,_⟩|⟨g,E,F,e,_⟩
  ·exact⟨_,_,_,e⟩
  ·exact⟨_,_,_,e⟩
 have z:BL w (b.alloc (.cells #[A i j k] 32)):=r.alloc r.size _;have B:BL b (b.alloc (.cells #[A i j k] 32)):=Af _ _;have q:(A i j k).ownBlock≠O b.heap.size:=by
  rcases o.2 with⟨e,_⟩|⟨g,E,F,e,_,K,_⟩
  ·rw[e];simp[Q3]
  ·rw[e];have T:g<b.heap.size:=by
    rcases Q4 g b.heap.size with t | t
    ·exact t
    ·rw[Array.getElem?_eq_none t]at K;cases K
   simp[Q3];omega
 have f:=dS (A i j k) zs w.heap.size w _ z (Qx _) (Eu o B) m b.heap.size (A i j k) (by simp) q;clear o q d M
 go_wp2_with fail
 refine f.mono ?_;rintro e P ⟨rfl,s,l,C⟩;have hcut:=Sf v xs 50 #[J (O ⟨b.heap.size,0,Z⟩)] (Ga zs) P y (L.below l) (Qy R (by decide))
  (fun x W hW=>zf0 x (A i j k) zs ⟨b.heap.size,0,Z⟩ W (Aa hW C) (s.below hW) m)
 clear s f L y
 go_wp2_with (go_at_call 49;refine hcut.mono ?_;rintro e X ⟨Y,rfl,Q,D⟩)
 go_ret;exact⟨_,rfl,bL Q l.size,(Ad l D)⟩
end
theorem zf2 {b c:Nat->Int} {n:Nat} (h:∀i,i<n->b i=c i) (e:b n=c n):∀i,i<n+1->b i=c i:=fun i hi=>by
 rcases Q4 i n with d | d
 ·exact h i d
 ·obtain rfl:i=n:=by omega
  exact e
theorem zf3 (w:Qd) (b o C D E t L:Nat) (c d:Nat->Int) (M:L<=Qn)
  (l:∀i,i<L->w.cell? ⟨b,o+i,Z⟩=O (I S (c i))) (s:∀i,i<L->w.cell? ⟨C,D+i,Z⟩=O (I S (d i))) :
  Qc H 23 #[A (O ⟨b,o,Z⟩) L E,A (O ⟨C,D,Z⟩) L t] w fun e w'=>(∃r:Bool,e=Qa (Qj r)/\(r=Qg↔∀i,i<L->c i=d i))/\∃n,w'=w.drewN n:=by
 unfold Qn at M
 go_enter func23,ntmps23
 go_wp2
 go_loopw [5] (fun k wr=> ∃n:Nat,n<=L/\(∀i,i<n->c i=d i)/\k=I S n/\∃m,wr=w.drewN m) (fun k _=>L-(intOf k).toNat)
 case atStart=>exact ⟨0,by omega,by omega,rfl,0,rfl⟩
 case round =>
  obtain⟨n,P,B,rfl,m,rfl⟩:=hrel;have u:U (∀i,i<n->c i=d i):=B;clear B;by_cases f:n<L
  ·have F:=l n f;have K:=s n f;have N:(n:Int)<(L:Int):=by omega
   generalize g:c n=p at F;generalize j:d n=q at K;have v:U (c n=p):=g;have y:U (d n=q):=j;clear g j l s;by_cases e:p=q
   ·subst e;go_wp2
    go_quiet (fail)
    go_wp2;go_roundw
    case rel=>exact ⟨n+1,by omega,zf2 u.out (v.out.trans y.out.symm),by go_num,_,rfl⟩
    case measure=>simp [intOf];omega
   ·go_wp2
    go_quiet (fail)
    go_wp2;go_ret;exact⟨⟨Qo,rfl,by simp;exact⟨n,f,by rw[v.out,y.out];exact e⟩⟩,_,World.drewN_drewN _ _ _⟩
  ·have z:n=L:=by omega
   subst z;go_wp2;go_ret;exact⟨⟨Qg,rfl,by simpa using u.out⟩,m,rfl⟩
section
open Go.Lib Go.Shelf Go.Sort
theorem zf4 (v v':Qb) (zs:List Int) (w:Qd) (h:A4 w v zs) (g:A4 w v' zs) (t:zs.length<=20000) :
  Qc H 23 #[v,v'] w fun e w'=>e=Qa (Qj Qg)/\BL w w':=by
 by_cases d:zs= []
 ·subst d;obtain⟨q,c,rfl⟩:=h.form;obtain⟨u,y,rfl⟩:=g.form;simp only[List.length_nil];clear h g t
  go_enter func23,ntmps23
  go_wp2;refine wp_loop_rounds 1 ?_;rw[rounds_succ];go_wp2;go_ret;exact⟨rfl,Qr _ _⟩
 ·rcases h with⟨_,_,_,e⟩|⟨b,o,j,rfl,m⟩
  ·exact absurd e d
  rcases g with⟨_,_,_,e⟩|⟨p,s,f,rfl,k⟩
  ·exact absurd e d
  have l:=zf3 w b o p s j f zs.length (fun i=>zs.getD i 0) (fun i=>zs.getD i 0) (by unfold Qn;omega) (fun i hi=>by rw[KH hi];exact m i hi) (fun i hi=>by rw[KH hi];exact k i hi);refine l.mono fun e w' ⟨⟨r,he,hr⟩,n,hw⟩=>⟨?_,?_⟩
  ·rw[he,hr.2 (fun _ _=>rfl)]
  ·rw[hw];exact AK (Qr _ _) n
theorem bM {α β:Type} {f g:α->List β} :∀ {l:List α},(∀x∈l,(f x).Perm (g x))->(l.flatMap f).Perm (l.flatMap g)
 | [],_=>Qs _
 | a :: r,h=>by
  rw[Qq,Qq];exact(h a Q5).append (bM fun x hx=>h x (Q6 _ hx))
theorem bN {obs:List Ob} {x:Sn} :∀ {ws:List Gz},(∀z∈ws,Cq obs x (z.2.map (·.1))= []\/DM (Cq obs x (z.2.map (·.1))))->((CM obs x ws).flatMap fun d=>(Bn d.2.2.data.toList).1).Perm (ws.flatMap fun z=>Cq obs x (z.2.map (·.1)))
 | [],_=>Qs _
 | z :: r,h=>by
  have e:CM obs x (z :: r)=G1 obs x z.1.1 (z.2.map (·.1))++CM obs x r:=by unfold CM;rw[Qq]
  rw[e,Qu,Qq];refine Q7 ?_ (bN fun y hy=>h y (Q6 _ hy));unfold G1;split
  ·rename_i b;rw[b];exact Qs _
  ·rename_i b;rw[List.flatMap_singleton];have:=aU ((h z Q5).resolve_left b);rw[show (Bn (CX z.1.1 (Cq obs x (z.2.map (·.1)))).2.2.data.toList).1=_ from this];exact Dy _
theorem zf5 {obs:List Ob} {x:Sn} {ws:List Gz} :∀d∈CM obs x ws,d.1=⟨#[100,97,116,97,47]⟩:=fun d b=>by
 obtain⟨z,-,b⟩:=Qk.1 b;unfold G1 at b;split at b
 ·cases b
 ·rw[List.mem_singleton.1 b];rfl
theorem zf6 {obs:List Ob} {c b:List Fl} (r:Eh 0 c) (L:∀f∈b,f∈c/\AL f.1=Qo):DO obs (c.filter fun f=> !AQ (Em c++b.map (·.1)) f.1)=(c.filter fun f=> !AL f.1 && !AQ (b.map (·.1)) f.1).flatMap (EU obs c):=by
 have k:∀x∈c,AL x.1=decide (x.2.1.data.toList= [45]):=fun x d=>Ky (r.1 x d).1;have u:∀x∈c,AL x.1=Qg->Ck obs x= []:=fun x d h=>by
  unfold Ck;rw[k x d,decide_eq_true_eq]at h;rw[if_neg (by simpa using h)]
 have s:∀x∈c,x.1∈Em c↔EG c x=Qg:=fun x d=>by
  unfold Em;constructor
  ·intro h;obtain⟨y,i,e⟩:=Qt.1 h;obtain⟨E,F⟩:=Ql.1 i;rw[<-Ns r E d e];exact F
  ·exact fun h=>Qt.2 ⟨x,Ql.2 ⟨d,h⟩,rfl⟩
 have v:∀x,EG c x=Qg->AL x.1=Qg:=fun x h=>by
  unfold EG at h;simp only[Qz]at h;exact h.1
 have z:∀x∈c,AL x.1=Qg->x.1∉b.map (·.1):=fun x d h hm=>by
  obtain⟨y,i,e⟩:=Qt.1 hm;have:=Ns r (L y i).1 d e;rw[<-this,(L y i).2]at h;cases h
 have M:(c.filter fun f=> !AQ (Em c++b.map (·.1)) f.1).flatMap (Ck obs)=(c.filter fun f=> !AL f.1 && !AQ (b.map (·.1)) f.1).flatMap (Ck obs):=by
  rw[<-LB (p:=fun f=> !AL f.1) (l:=c.filter fun f=> !AQ (Em c++b.map (·.1)) f.1) fun x d m=>u x (Ql.1 d).1 (by simpa using m),List.filter_filter];rw[Q8 fun x d=>?_];rw[Qw];simp only[Qz,Q9,Kn,Q0,not_or];constructor
  ·exact fun h=>⟨h.1,h.2.2⟩
  ·exact fun h=>⟨h.1,(fun hm=>by have:=v x ((s x d).1 hm);rw[h.1]at this;cases this),h.2⟩
 have N:=Nw (obs:=obs) (G:=c.flatMap (BI obs)) (c.filter fun f=> !AL f.1 && !AQ (b.map (·.1)) f.1);rw[show (c.filter fun f=> !AL f.1 && !AQ (b.map (·.1)) f.1).flatMap (EU obs c)=_ from N.symm];unfold DO;rw[M,Q8 fun p m=>?_];obtain⟨x,d,m⟩:=Qk.1 m;obtain⟨o,W⟩:=Ql.1 d;obtain⟨P,q,Q⟩:=LJ m;have B:0<=p.2:=by
  rw[q];obtain⟨g,n,-,-,q⟩:=D0 (r.1 x o).1;unfold Db Do at q;simp only[Qz,decide_eq_true_eq]at q;omega
 have C:AL x.1=Qo:=by
  rw[k x o];exact decide_eq_false Q
 rw[aP P,Bool.true_and];congr 1;rw[Qw,JR B,JR B];constructor
 ·rintro⟨e,j,t⟩;obtain⟨y,i,j⟩:=Qk.1 j;exact⟨e,Qk.2 ⟨y,(Ql.1 i).1,j⟩,t⟩
 ·rintro⟨e,j,t,K⟩;obtain⟨y,i,j⟩:=Qk.1 j;obtain⟨R,T⟩:=aQ j;have D:AL y.1=Qg:=by rw[k y i];exact decide_eq_true T
  refine⟨e,Qk.2 ⟨y,Ql.2 ⟨i,?_⟩,j⟩,t,K⟩;rw[Q9,Kn,Q0,not_or];refine⟨fun hm=>?_,z y i D⟩;exact xK ((s y i).1 hm) o C (by rw[<-R,<-q];exact K)
theorem zf7 {k i:Lk} {least q:Int} {ws:List Gz} (hi:Av k) (h:Fm k i (CM k.st.obs k.now ws) (CZ k.now.2.2.2.2.2.2 ws) q) (o:IL k i) (m:JO k.now.2.2.2.2.2.2 least ws) (hG:∀z∈ws,Cq k.st.obs k.now (z.2.map (·.1))= []\/DM (Cq k.st.obs k.now (z.2.map (·.1)))):(AU i).Perm (AU k)/\i.now.2.2.2.2.1=q:=by
 obtain⟨s1,ps,c,v,b,W,X,y,-,-,-,-,L,-⟩:=h;obtain⟨-,-,-,-,M⟩:=Jz X;rw[M]at y;have B:=(Fg hi.now.fine).2;have s:∀f∈ws.flatMap (·.2),f∈k.now.2.2.2.2.2.2/\AL f.1=Qo:=fun f b=>⟨(m.mem f b).1,aH (m.mem f b).2⟩;have p:∀f∈c,f.2.1.data.toList≠ [45]:=fun f hff=>by
  obtain⟨d,j,n,e⟩:=R6 v b f hff;exact(R7 (W.adds f hff) (r:=(Ab (itoa n)).data.toList)).1 (by rw[e,N5,zf5 d j])
 have C:i.now.2.2.2.2.2.2.Perm ((k.now.2.2.2.2.2.2.filter fun f=> !AQ (Em k.now.2.2.2.2.2.2++(ws.flatMap (·.2)).map (·.1)) f.1)++c.map fun f=>Bk f k.now.2.2.1):=by
  have D:(CH (k.now,c,CZ k.now.2.2.2.2.2.2 ws) k.now).Perm (BA (k.now,c,CZ k.now.2.2.2.2.2.2 ws) k.now++Bd (k.now,c,CZ k.now.2.2.2.2.2.2 ws) k.now):=Jw _ _;have N:Bd (k.now,c,CZ k.now.2.2.2.2.2.2 ws) k.now=c.map fun f=>Bk f k.now.2.2.1:=by
   unfold Bd;refine List.map_congr_left fun f hff=>?_;have u:0<(CZ k.now.2.2.2.2.2.2 ws).length:=by
    obtain⟨d,j,-⟩:=R6 v b f hff;obtain⟨z,l,-⟩:=Qk.1 j;have:=(m.grp z l).2;unfold CZ;obtain⟨Y,l2,rfl⟩:=QA l;simp only[Q1,List.length_map,Qu,Qq];omega
   unfold I7;rw[if_pos ⟨u,p f hff⟩]
  rw[N]at D;rw[y];exact D
 refine⟨?_,by rw[y];rfl⟩;have P:=JS o.lki;have E:=FV hi;have F:(AR k.st.obs k.now Be Bf).2.1=0:=by rw[E.1]
 have Q:(DO i.st.obs i.now.2.2.2.2.2.2).Perm (((k.now.2.2.2.2.2.2.filter fun f=> !AL f.1 && !AQ ((ws.flatMap (·.2)).map (·.1)) f.1)++ws.flatMap (·.2)).flatMap (EU k.st.obs k.now.2.2.2.2.2.2)):=by
  refine(R4 C fun f b=>(P f b).1).trans ?_;rw[aR (n:=k.now.2.2.1) (fun f b=>IJ o.old (hi.now.files f (Ql.1 b).1)) (fun f b=>(JS hi f (Ql.1 b).1).2) (RA hi) ?_]
  ·rw[zf6 B s,Qu];refine Q7 (Qs _) ?_;have R:((c.map fun f=>Bk f k.now.2.2.1).flatMap fun f=>(Bn (Aj i.st.obs f).2.data.toList).1)=(CM k.st.obs k.now ws).flatMap fun d=>(Bn d.2.2.data.toList).1:=by
    rw[<-aS (fun t=>(Bn t.data.toList).1) v hi.good aK b L,List.flatMap_map];refine EV fun f b=>?_;rw[R9 (o.lki.now.files _ (C.mem_iff.2 (Q0.2 (V (Qt.2 ⟨f,b,rfl⟩)))))];rfl
   rw[R,List.flatMap_assoc];refine(bN hG).trans (bM fun z l=>?_);unfold Cq;rw[WN F];refine(Dy _).trans ?_;have K:∀f∈z.2,f∈ws.flatMap (·.2):=fun f b=>Qk.2 ⟨z,l,b⟩;refine(WO B (fun f b=>s f (K f b)) ?_).flatMap_right _;obtain⟨Y,l2,e⟩:=QA l;have:=m.nd;rw[e,Qu,Qq,QB,QB,QC,QC]at this;exact this.2.1.1
  ·intro f b;obtain⟨g,hg,rfl⟩:=Qt.1 b;exact⟨p g hg,Int.le_refl _⟩
 have T:=(yZ F s m.nd Q).1;rw[(FV o.lki).2,T,Je (show (AR k.st.obs k.now Be Bf).1.Perm (AU k) from Qs _)];exact Dy _
theorem zf8 {k b:Lk} {x:Ak} {p:Qb} (hi:Av k) (u:∀r∈x.2.2.2.1,r.1.size<=30) (h:FU k b x p) :
  (x.1=Cs/\p=Qh/\k.now.2.2.2.2.1<x.2.1/\(AU b).Perm (AU k++x.2.2.2.1)/\b.now.2.2.2.2.1=x.2.1) \/
  (x.1=C3/\p=Qh/\k.now.2.2.2.2.1<x.2.1/\(AU b).Perm ((AU k).filter (Ga x.2.2.2.2))/\b.now.2.2.2.2.1=x.2.1) \/
  ((x.1=Cs\/x.1=C3->p=Qh->x.2.1<=k.now.2.2.2.2.1)/\(AU b).Perm (AU k)/\b.now.2.2.2.2.1=k.now.2.2.2.2.1):=by
 rcases h with⟨q,t⟩|⟨i,j,l,c,v,o,m,n⟩|⟨i,j,l,c,o,m,n⟩|⟨i,j,m,s,y,l,c,n⟩
 ·exact V (V ⟨t,by rw[bJ q hi],by rw[q.now]⟩)
 ·obtain⟨f,g⟩:=aW hi n m (fun d hd=>((Nz o c u).2 d hd).2.1) o c;exact Qf ⟨i,j,l,f,g⟩
 ·obtain⟨f,g⟩:=aX hi n m c o;exact V (Qf ⟨i,j,l,f,g⟩)
 ·obtain⟨f,g⟩:=zf7 hi n m l c;exact V (V ⟨fun h=>absurd h (by simp[i,j]),f,g⟩)
theorem zf9 {k:Lk} {n:Int} (hi:Av k) (h:k.now=Dl n):AU k= []:=by
 rw[(FV hi).2,h];simp[DO,Dl,A3]
def IW (X:Qd) (D:Nat) (v:Qb) (R:List Rw):Prop:=X.ownsRow D 62 3 v R.length (Az R)
theorem zg0 {W:Qd} {q:Option Qp} {c:Nat} {l:List Rw} (h:Ap W (A q l.length c) l) (d:q=Z->c=0):CR W q l.length c (Az l):=by
 by_cases b:l= []
 ·subst b;exact Qf ⟨rfl,d⟩
 ·exact(Vi h b).2
theorem zg1 {D:Nat} {W:Qd} {v:Qb} {R ys:List Rw} (r:IW W D v R) (s:D<=W.heap.size) {q:Option Qp} {n c:Nat} (t:n=ys.length) (u:Ap W (A q n c) ys) (y:q=Z->c=0) (z:R.length+ys.length<=20000) :
  ∃v' W2,(Builtin.append_ #[35,35] 35 #[v,A q n c]).run H W= .ok v' W2/\IW W2 D v' (R++ys)/\Ac (fun k=>v.ownBlock=O k) W W2/\(v'.ownBlock=v.ownBlock\/v'.ownBlock=O W.heap.size):=by
 obtain⟨f,g,i,j,d⟩:=Tryz.rowInfo;subst t;obtain⟨v',W2,l,m,o,p⟩:=Fc (P:=H) W D 35 35 62 f (.agg #[Qe ⟨#[]⟩,I S 0,I S 0]) 3 32 underlying35 g i j d rfl (by decide) v R.length (Az R) r q ys.length c (Az ys) (Ft ys) (zg0 u y) (KD ys) (by unfold Qn;omega) (by omega) s;have b:IW W2 D v' (R++ys):=by
  unfold IW;rw[Q1,show Az (R++ys)=Az R++Az ys by simp[Az]];exact m
 exact⟨v',W2,l,b,Ac.grown o,p⟩
structure D6 (W X:Qd) (kb:Nat) (vs:Qb) (k:Lk) (v:Qb) (R:List Rw):Prop where
 bes:Cc W X kb vs k fun j=>v.ownBlock=O j
 own:IW X W.heap.size v R
section
variable {a : Nat → Qp} {B : Nat} {EM : Qd → Prop} {W X Y : Qd} {kb : Nat} {vs : Qb} {k : Lk} {v : Qb} {R : List Rw}
theorem D6.rows (h:D6 W X kb vs k v R):Ap X v R:=(I0 h.own).1
theorem D6.quiet (K:A2 a B EM An) (h:D6 W X kb vs k v R) (b:BL X Y):D6 W Y kb vs k v R:=⟨h.bes.quiet K b,AG (P:=fun _=>False) h.own (Ac.of_below b) (fun _ _ h=>h)⟩
theorem D6.ply (K:A2 a B EM An) (o:∀X,EM X->AX X a) (c:B<=W.heap.size) (p:EM Y) (h:D6 W X kb vs k v R) (d:BL X Y) {b:Nat} (r:X.heap.size<=b) (f:b<Y.heap.size) (g:k.spec.size<=30) (i:(A5 k.spec.data.toList).1=0) {l m:Qb} {x:Ak} (q:JP Y l m x) :
  Qc H 10 #[J (O ⟨kb,0,Z⟩),Qe k.spec,CF x l m] Y fun e w'=> ∃kb' k' ev,e=Qa (Qm #[J (O ⟨kb',0,Z⟩),ev])/\(ev=Qh\/∃t u,ev=Qv t u)/\D6 W w' kb' vs k' v R/\FU k k' x ev/\w'.heap[b]? =Y.heap[b]? :=by
 have n:Cc W Y kb vs k fun j=>v.ownBlock=O j\/j=b:=h.bes.more K d fun _ hj=>hj.elim Qf (fun e=>V ⟨by omega,by omega⟩);refine(n.ply K o c p g i q).mono fun e w' ⟨kb',k',ev,he,h3,h4,h5,P,h6,h7⟩=>?_;exact⟨kb',k',ev,he,h3,⟨h4.more K (Qr _ _) fun _ hj=>Qf (Qf hj),AG (AG (P:=fun _=>False) h.own (Ac.of_below d) (fun _ _ h=>h)) h6 (fun j hj=>h7 j (Qf hj))⟩,h5,h6.block b f (h7 b (V rfl))⟩
theorem D6.app (K:A2 a B EM An) (h:D6 W X kb vs k v R) {ys:List Rw} {q:Option Qp} {n c:Nat} (l:n=ys.length) (m:Ap X (A q n c) ys) (o:q=Z->c=0) (b:R.length+ys.length<=20000) :
  ∃v' W2,(Builtin.append_ #[35,35] 35 #[v,A q n c]).run H X= .ok v' W2/\D6 W W2 kb vs k v' (R++ys)/\Ac (fun j=>v.ownBlock=O j) X W2:=by
 obtain⟨v',W2,g,d,f,i⟩:=zg1 h.own h.bes.frame.size l m o b;refine⟨v',W2,g,⟨h.bes.turn K f (fun _ hj=>(A7 h.own hj).1) fun j hj=>?_,d⟩,f⟩;rcases i with e | e
 ·exact Qf (e▸hj)
 ·have:=(A7 d hj).2.1;rw[e]at hj;injection hj with hj;exact V ⟨by omega,this⟩
theorem D6.set (K:A2 a B EM An) (h:D6 W X kb vs k v R) (c:BL X Y) {v':Qb} {R':List Rw} (b:IW Y X.heap.size v' R'):D6 W Y kb vs k v' R' :=
 ⟨h.bes.more K c fun _ hj=>V ⟨(A7 b hj).1,(A7 b hj).2.1⟩,bL b h.bes.frame.size⟩
theorem D6.start (h:Es W.heap.size X kb vs k) (l:BL W X):D6 W X kb vs k (A Z 0 0) []:=by
 obtain⟨b,c,d,f,g,i,j⟩:=h;exact⟨⟨b,⟨c,d,f,g,j,fun _ h=>by cases h⟩,i,l⟩,World.ownsRow_nil _ _ _ _⟩
def IX (W X:Qd) (kb' kb:Nat) (vs:Qb) (k' k2:Lk) (v:Qb) (R:List Rw):Prop:=Cc W X kb' vs k' (fun j=>v.ownBlock=O j)/\Cc W X kb vs k2 (fun j=>v.ownBlock=O j)/\IW X W.heap.size v R/\k'.now=k2.now/\k'.ids=k2.ids/\(AU k').Perm R/\R.length<=2400
theorem IX.quiet {b:Nat} {d f:Lk} (K:A2 a B EM An) (h:IX W X b kb vs d f v R) (c:BL X Y):IX W Y b kb vs d f v R:=⟨h.1.quiet K c,h.2.1.quiet K c,AG (P:=fun _=>False) h.2.2.1 (Ac.of_below c) (fun _ _ h=>h),h.2.2.2⟩
theorem IX.same {b:Nat} {c d:Lk} (h:IX W X b kb vs c d v R) {v':Qb} (f:Ap X v' (AU c)):Qc H 20 #[v',v] X fun e w'=>e=Qa (Qj Qg)/\BL X w':=by
 have g:=h.2.2.2.2.2.2;have:=Sc v' v _ R X f (I0 h.2.2.1).1 (by rw[h.2.2.2.2.2.1.length_eq];omega) (by omega);rw[decide_eq_true (Je h.2.2.2.2.2.1)]at this;exact this
end
attribute [local go_sem] Oper.semAt_some
theorem zg2 (c d f g b:Int) (i:ByteArray) (j:Qb) (w:Qd):(Instr.field 40 (.agg #[I S c,I S d,I S f,I S g,I S b,Qe i,j]) 4).run H w= .ok (I S b) w:=by kernel_rfl
section
variable {a : Nat → Qp} {B : Nat} {EM : Qd → Prop}
def DP (W X:Qd) (kb:Nat) (vs:Qb) (k:Lk) (v:Qb) (R:List Rw) (spec:ByteArray) (n:Int) (m:Nat):Prop:=D6 W X kb vs k v R/\k.spec=spec/\(AU k).Perm R/\k.now.2.2.2.2.1=n/\R.length<=m*60
theorem zg3 (K:A2 a B EM An) (HL:∀X,EM X→AX X a) {W:Qd} (hE:EM W) (d:ByteArray) (dx:d.size≤Qn) {vl:Qb} {l:List Ak} (hl:Er W vl l) (bw:l.length≤Qn) (c5:∀x∈l,JQ x) :
   Qc H 4 #[Qe d,vl] W fun e w'=>e=Qa (Qj Qg)∧BL W w':=by
 have ap:=K.size _ hE
 have aj:U (∀X,BL W X→EM X):=fun X hb=>K.below _ _ hE (hb.mono ap)
 have bx:=bI K HL hE
 have bz:U (∀X,BL W X→Qc H 7 #[vl,I S 40] X fun e w'=>e=Qa (Qj (Ec 40 l))∧w'=X):=fun X hX=>aN vl l 40 (by omega) X (hl.below hX) bw c5
 have b0:U (∀X,BL W X→Qc H 9 #[] X fun e w'=> ∃v FP,e=Qa v∧An w' v FP E1∧(∀k,FP k→X.heap.size≤k)∧BL X w'):=fun X hX=>K.new X (aj.out X hX)
 have b1:U (∀X p SP,BL W X→An X p SP E1→(∀j,SP j→W.heap.size≤j)→d.size≤30→Qc H 8 #[p,Qe d] X fun e w'=>(∃t u,e=Qa (Qm #[J Z,Qv t u])∧BL W w')∨∃f k,e=Qa (Qm #[J (O ⟨f,0,Z⟩),Qh])∧DP W w' f p k (A Z 0 0) [] d 0 0∧(A5 d.data.toList).1=0):=fun X p SP hX h1 h2 h3=>(bK K HL ap (aj.out X hX) hX h1 h2 d h3).mono fun e w' h=>h.imp_right fun ⟨f,k,q,g2,g3,g4,g5,g6,_⟩=>⟨f,k,q,⟨D6.start g2 g3,g4,by obtain⟨-,-,-,-,-,hi,-⟩:=g2;rw[zf9 hi g6],by rw[g6];rfl,Nat.zero_le _⟩,g5⟩
 have da:U (∀X Y f p k v R n m xb vr vz x,DP W X f p k v R d n m→d.size≤30→(A5 d.data.toList).1=0→BL X Y→X.heap.size≤xb→xb<Y.heap.size→JP Y vr vz x→Qc H 10 #[J (O ⟨f,0,Z⟩),Qe d,CF x vr vz] Y fun e w'=> ∃Q k' ev,e=Qa (Qm #[J (O ⟨Q,0,Z⟩),ev])∧(ev=Qh∨∃t u,ev=Qv t u)∧D6 W w' Q p k' v R∧k'.spec=d∧w'.heap[xb]? =Y.heap[xb]? ∧((x.1=Cs∧ev=Qh∧n<x.2.1∧(AU k').Perm (R++x.2.2.2.1)∧k'.now.2.2.2.2.1=x.2.1)∨(x.1=C3∧ev=Qh∧n<x.2.1∧(AU k').Perm (R.filter (Ga x.2.2.2.2))∧k'.now.2.2.2.2.1=x.2.1)∨((x.1=Cs∨x.1=C3→ev=Qh→x.2.1≤n)∧(AU k').Perm R∧k'.now.2.2.2.2.1=n))):=fun X Y f p k v R n m xb vr vz x h h3 h4 hb h5 h6 hx=>by
   obtain⟨q,rfl,g3,rfl,-⟩:=h
   refine(q.ply K HL ap (aj.out Y (q.bes.frame.trans (hb.mono q.bes.frame.size))) hb h5 h6 h3 h4 hx).mono fun e w' ⟨Q,k',ev,e1,e2,e3,e4,e5⟩=>⟨Q,k',ev,e1,e2,e3,e4.lki.2,e5,?_⟩
   rcases zf8 q.bes.lki hx.parts e4 with⟨f1,f2,f3,f4,f5⟩|⟨f1,f2,f3,f4,f5⟩|⟨f1,f4,f5⟩
   · exact Qf ⟨f1,f2,f3,f4.trans (g3.append_right _),f5⟩
   · exact V (Qf ⟨f1,f2,f3,f4.trans (g3.filter _),f5⟩)
   · exact V (V ⟨f1,f4.trans g3,f5⟩)
 have db:U (∀X f p k v R n m,DP W X f p k v R d n m→Qc H 12 #[J (O ⟨f,0,Z⟩),I S (-9223372036854775808),I S 9223372036854775807] X fun e w'=> ∃v',e=Qa (Qm #[v',Qh])∧Ap w' v' (AU k)∧DP W w' f p k v R d n m):=fun X f p k v R n m h=>(h.1.bes.rows K HL (aj.out X h.1.bes.frame)).mono fun e w' ⟨v',q,g2,_,g3⟩=>⟨v',q,g2,h.1.quiet K g3,h.2⟩
 have dc:U (∀X f p k v R n m v',m≤41→DP W X f p k v R d n m→Ap X v' (AU k)→Qc H 20 #[v',v] X fun e w'=>e=Qa (Qj Qg)∧DP W w' f p k v R d n m):=fun X f p k v R n m v' hm h hv=>by
   have hl:R.length≤2460:=by have:=h.2.2.2.2;omega
   have:=Sc v' v _ R X hv h.1.rows (by rw[h.2.2.1.length_eq];omega) (by omega)
   rw[decide_eq_true (Je h.2.2.1)]at this
   exact this.mono fun e w' ⟨q,g3⟩=>⟨q,h.1.quiet K g3,h.2⟩
 have dd:U (∀X f p k v R n m,DP W X f p k v R d n m→Qc H 11 #[J (O ⟨f,0,Z⟩)] X fun e w'=> ∃i1 i2 i3 i4 sx vg,e=Qa (.agg #[I S i1,I S i2,I S i3,I S i4,I S n,Qe sx,vg])∧DP W w' f p k v R d n m):=fun X f p k v R n m h=>(h.1.bes.nowS K).mono fun e w' ⟨vg,q,_,g3⟩=>by
   have e1:=h.2.2.2.1
   subst e1
   exact⟨_,_,_,_,_,vg,q,h.1.quiet K g3,h.2⟩
 have de:U (∀X f p k v R n m,DP W X f p k v R d n m→Qc H 21 #[J (O ⟨f,0,Z⟩)] X fun e w'=>e=Qa p∧w'=X):=fun X f p k v R n m h=>h.1.bes.store K
 have df:U (∀X f p k v R n m,m≤40→DP W X f p k v R d n m→d.size≤30→(A5 d.data.toList).1=0→Qc H 8 #[p,Qe d] X fun e w'=> ∃Q k' k2,e=Qa (Qm #[J (O ⟨Q,0,Z⟩),Qh])∧IX W w' Q f p k' k2 v R):=fun X f p k v R n m hm h h3 h4=>by
   obtain⟨q,rfl,g2,g3,g4⟩:=h
   exact(q.bes.open K HL ap (aj.out X q.bes.frame) h3 h4).mono fun e w' ⟨Q,k',e1,e2,e3,e4,e5,e6,P,e7,e8⟩=>⟨Q,k',_,e1,e2,e3,AG q.own e7 e8,e5,e4,by rw[e6];exact g2,by omega⟩
 have dg:U (Er W vl l):=hl
 obtain⟨lq,lc,ch⟩:=hl.form
 obtain⟨L,hL⟩:∃L,l.length=L:=⟨_,rfl⟩
 have b2:U (l.length=L):=hL
 rw[hL]at ch bw
 subst ch
 have HK:U (A2 a B EM An∧(∀X,EM X→AX X a)∧B≤W.heap.size):=⟨K,HL,ap⟩
 unfold Qn at dx bw
 obtain⟨LG,ci⟩:∃b,(decide (30<d.size) || Ec 40 l)=b:=⟨_,rfl⟩
 have aw:U ((decide (30<d.size) || Ec 40 l)=LG):=ci
 clear K HL hE hl c5 ap hL ci
 go_enter func4,ntmps4
 go_wp2_with fail
 refine bx.mono ?_
 rintro e w1 ⟨rfl,au⟩
 have ax:=bz.out w1 au
 clear bx bz
 go_upto_region 2 with fail
 go_cut [29] from 19 to 29 (fun c wx=>c=Qj LG∧wx=w1)
 case first =>
   by_cases q:30<d.size
   · have e:LG=Qg:=by rw[←aw.out];simp[q]
     have dh:(30:Int)<(d.size:Int):=by omega
     subst e
     clear ax
     go_wp2
     go_meet
     case rel=>exact ⟨by first | rfl | (simp;omega),rfl⟩
   have dh:¬(30:Int)<(d.size:Int):=by omega
   have e:Ec 40 l=LG:=by rw[←aw.out];simp[q]
   rw[e]at ax
   clear aw
   go_wp2_with fail
   refine ax.mono ?_
   rintro e wa ⟨rfl,rfl⟩
   clear ax
   go_wp2
   go_meet
   case rel=>exact ⟨by first | rfl | (cases LG<;>rfl),rfl⟩
 case rest =>
 obtain⟨rfl,rfl⟩:=hcut
 clear ax
 cases LG
 case true =>
   go_wp2
   go_ret
   exact⟨rfl,au⟩
 have bh:d.size≤30∧Ec 40 l=Qo:=by
   have:=aw.out
   simp only[Bool.or_eq_false_iff,decide_eq_false_iff_not]at this
   exact⟨by omega,this.2⟩
 have a5:=bh.1
 have a6:=aM bh.2
 have c7:L≤40:=by have:=a6.1;have:=b2.out;omega
 have di:U (∀x∈l,x.2.2.2.1.length≤60∧(∀r∈x.2.2.2.1,r.1.size≤30)∧x.2.2.2.2.length≤50):=a6.2
 clear bh a6 aw
 have b3:=b0.out _ au
 go_wp2_with fail
 refine b3.mono ?_
 rintro e w2 ⟨p,FP,rfl,br,cn,co⟩
 obtain⟨pt,rfl⟩:=HK.out.1.ptr _ _ _ _ br
 have b4:=b1.out w2 _ FP (Ad au co) br (fun j hj=>Qy au.size (cn j hj)) a5
 clear b3 br cn co b0 b1 au
 go_wp2_with fail
 refine b4.mono ?_
 rintro e w3 dr
 clear b4
 rcases dr with⟨t,u,rfl,dw⟩|⟨cy,k0,rfl,a4,cz⟩
 case inl =>
   go_wp2
   go_ret
   exact⟨rfl,dw⟩
 case inr =>
 have bi:U ((A5 d.data.toList).1=0):=cz
 have b5:U (DP W w3 cy (J (O pt)) k0 (A Z 0 0) [] d 0 0):=a4
 clear a4 cz
 go_wp2_with fail
 go_loopw [6,8,9,10,11,12,13,14] (fun k6 v8 x9 i _ _ _ _ wr=> ∃m:Nat,m≤L∧i=I S m∧∃f k R n,k6=J (O ⟨f,0,Z⟩)∧x9=I S n∧DP W wr f (J (O pt)) k v8 R d n m) (fun _ _ _ i _ _ _ _ _=>L-(intOf i).toNat)
 case atStart=>exact ⟨0,by omega,rfl,cy,k0, [],0,rfl,rfl,b5.out⟩
 case round =>
 clear b5
 obtain⟨m,hm,rfl,f,k,R,n,rfl,rfl,ag⟩:=hrel
 by_cases dj:m<L
 case pos =>
   have ak:m<l.length:=by rw[b2.out];exact dj
   obtain⟨g,o,hq,hc⟩:=dg.out.cells (fun e=>by rw[e]at ak;simp at ak)
   subst hq
   obtain⟨ur,uk,ai⟩:=hc m ak
   have ay:=di.out _ (List.getElem_mem ak)
   generalize l[m]=x at ai ay
   have hi:(m:Int)<(L:Int):=by omega
   have dy:(0:Int)≤(m:Int):=by omega
   have bj:=ag.1.bes.frame
   have hp:=ai.below bj
   obtain⟨c0,c1,c2,c3,c4,-⟩:=hp
   have aq:BL wr (wr.alloc (.cells #[Qe x.1,I S x.2.1,I S x.2.2.1,ur,uk] 37)):=Af _ _
   have ae:=heap_alloc_new wr (.cells #[Qe x.1,I S x.2.1,I S x.2.2.1,ur,uk] 37)
   have al:=da.out wr _ f (J (O pt)) k _ R n m wr.heap.size ur uk x ag a5 bi.out aq (Qx _) (QD ae) (Er.act (ai.below (Ad bj aq)) ay)
   have ar:U (∀j,u8.ownBlock=O j→j≠wr.heap.size):=fun j hj e=>by
     have:=(A7 ag.1.own hj).2.1
     omega
   have am:U (R.length≤m*60):=ag.2.2.2.2
   have an:U (∀X,BL W X→Ap X ur x.2.2.2.1∧A4 X uk x.2.2.2.2):=fun X hX=>⟨(ai.below hX).rows,(ai.below hX).keys⟩
   have ah:U (x.2.2.2.1.length≤60∧x.2.2.2.2.length≤50):=⟨ay.1,ay.2.2⟩
   obtain⟨kd,F,xm,xr,xk⟩:=x
   obtain⟨bc,bd,bl,bm⟩:=ai.formr
   obtain⟨a0,a1,bn,bo⟩:=ai.form
   have HF:U ((bc=Z→bd=0)∧(a0=Z→a1=0)):=⟨bm,bo⟩
   dsimp only at c0 c1 c2 aq ae al an ah bl bn
   obtain⟨N1,bp⟩:∃N,xr.length=N:=⟨_,rfl⟩
   obtain⟨N2,bq⟩:∃N,xk.length=N:=⟨_,rfl⟩
   have az:U (N1=xr.length∧N2=xk.length):=⟨bp.symm,bq.symm⟩
   rw[bp]at bl
   rw[bq]at bn
   subst bl bn
   unfold CF at al
   dsimp only at al
   clear hc ak ai ag bj ay bp bq bm bo
   go_upto_region 13 with fail
   clear c0 c1 c2 c3 c4
   generalize wr.alloc (.cells #[Qe kd,I S F,I S xm,A bc N1 bd,A a0 N2 a1] 37)=WA at aq ae al ⊢
   generalize wr.heap.size=xb at aq ae al ar ⊢
   have z0:WA.cell? ⟨xb,0,Z⟩=O (Qe kd):=by rw[Qi _ _ _ _ _ _ ae];rfl
   have z1:WA.cell? ⟨xb,1,Z⟩=O (I S F):=by rw[Qi _ _ _ _ _ _ ae];rfl
   have z2:WA.cell? ⟨xb,2,Z⟩=O (I S xm):=by rw[Qi _ _ _ _ _ _ ae];rfl
   have z3:WA.cell? ⟨xb,3,Z⟩=O (A bc N1 bd):=by rw[Qi _ _ _ _ _ _ ae];rfl
   have z4:WA.cell? ⟨xb,4,Z⟩=O (A a0 N2 a1):=by rw[Qi _ _ _ _ _ _ ae];rfl
   go_wp2_with fail
   refine al.mono ?_
   rintro e w4 ⟨aa,D,ev,rfl,cp,a3,cq,cr,a8⟩
   have af:=cr.trans ae
   have M:U (D6 W w4 aa (J (O pt)) D u8 R∧D.spec=d):=⟨a3,cq⟩
   clear al aq ae cr a3 cq z0 z1 z2 z3 z4
   have z0:w4.cell? ⟨xb,0,Z⟩=O (Qe kd):=by rw[Qi _ _ _ _ _ _ af];rfl
   have z1:w4.cell? ⟨xb,1,Z⟩=O (I S F):=by rw[Qi _ _ _ _ _ _ af];rfl
   have z3:w4.cell? ⟨xb,3,Z⟩=O (A bc N1 bd):=by rw[Qi _ _ _ _ _ _ af];rfl
   have z4:w4.cell? ⟨xb,4,Z⟩=O (A a0 N2 a1):=by rw[Qi _ _ _ _ _ _ af];rfl
   have c9:(kd=Cs∧ev=Qh∧n<F∧(AU D).Perm (R++xr)∧D.now.2.2.2.2.1=F)∨(kd=C3∧ev=Qh∧n<F∧(AU D).Perm (R.filter (Ga xk))∧D.now.2.2.2.2.1=F)∨(ev=Qh∧n<F∧kd.data.toList≠ [97,112,112,101,110,100]∧kd.data.toList≠ [100,101,108,101,116,101]∧(AU D).Perm R∧D.now.2.2.2.2.1=n)∨(ev=Qh∧¬n<F∧(AU D).Perm R∧D.now.2.2.2.2.1=n)∨((∃t u,ev=Qv t u)∧(AU D).Perm R∧D.now.2.2.2.2.1=n):=by
     rcases a8 with h | h | ⟨h1,h2,h3⟩
     · exact Qf h
     · exact V (Qf h)
     · rcases cp with rfl | he
       · by_cases g:n<F
         · exact V (V (Qf ⟨rfl,g,fun e=>by have:=h1 (Qf (Hs (y:=Cs) e)) rfl;omega,fun e=>by have:=h1 (V (Hs (y:=C3) e)) rfl;omega,h2,h3⟩))
         · exact V (V (V (Qf ⟨rfl,g,h2,h3⟩)))
       · exact V (V (V (V ⟨he,h2,h3⟩)))
   have ad:U (∀X T R5 n5,D6 W X aa (J (O pt)) D T R5→(AU D).Perm R5→D.now.2.2.2.2.1=n5→R5.length≤R.length+60→DP W X aa (J (O pt)) D T R5 d n5 (m+1)):=fun X T R5 n5 h1 h2 h3 h4=>⟨h1,M.out.2,h2,h3,by have:=am.out;omega⟩
   clear a8 cp
   rcases c9 with⟨rfl,rfl,gA,ab,ac⟩|⟨rfl,rfl,gB,ab,ac⟩|⟨rfl,gC,h0,h1,ab,ac⟩|⟨rfl,gD,ab,ac⟩|⟨⟨t,u,rfl⟩,ab,ac⟩
   all_goals first
     | (have q:=gA
        obtain⟨T,w5,hr,cj,ck⟩:=M.out.1.app HK.out.1 az.out.1 (an.out w4 M.out.1.bes.frame).1 HF.out.1 (by have:=am.out;have:=ah.out;omega)
        have ao:=(ck.block xb (QD af) (fun e=>ar.out xb e rfl)).trans af
        have y0:w5.cell? ⟨xb,0,Z⟩=O (Qe Cs):=by rw[Qi _ _ _ _ _ _ ao];rfl
        have y1:w5.cell? ⟨xb,1,Z⟩=O (I S F):=by rw[Qi _ _ _ _ _ _ ao];rfl
        have E:U (DP W w5 aa (J (O pt)) D T (R++xr) d F (m+1)):=ad.out w5 T (R++xr) F cj ab ac (by have:=ah.out;rw[Q1];omega)
        generalize R++xr=R5 at E
        have g2:¬F<F:=by omega
        clear af ao ck cj ab ac ad M an HF ah az ar am
        unfold Cs at z0 y0
        go_upto_region 23 with(at_builtin;refine wpList_append_run (by rfl) _ _ _ (by rfl) _ _ _ (by rfl) (by rfl) hr ?_)
        clear hr y0 y1 q gA g2 z0 z1 z3 z4
        generalize F=n5 at *)
     | (have q:=gB
        have bk:=zf1 u8 (A a0 N2 a1) R xk w4 M.out.1.rows (an.out w4 M.out.1.bes.frame).2 (by have:=am.out;omega) (by have:=ah.out;omega)
        have E:U (∀X T,IW X w4.heap.size T (R.filter (Ga xk))→BL w4 X→DP W X aa (J (O pt)) D T (R.filter (Ga xk)) d F (m+1)):=fun X T h1 h2=>ad.out X T _ F (M.out.1.set HK.out.1 h2 h1) ab ac (by have:=List.length_filter_le (Ga xk) R;omega)
        have g2:¬F<F:=by omega
        obtain⟨q8,c8,be⟩:=M.out.1.rows.form
        generalize R.filter (Ga xk)=R5 at E bk
        clear af ab ac ad M an HF ah az ar am
        unfold C3 at z0
        subst be
        go_upto_region 21 with fail
        go_wp2_with fail
        refine bk.mono ?_
        rintro e w5 ⟨T,rfl,cs,ao⟩
        replace E:U (DP W w5 aa (J (O pt)) D T R5 d F (m+1)):=E.out w5 T cs ao
        have y1:=Aa ao z1
        clear bk cs ao
        go_upto_region 23 with fail
        clear y1 q gB g2 z0 z1 z3 z4
        generalize F=n5 at *)
     | (have q:=gC
        have d0:(kd.toList == [97,112,112,101,110,100])=Qo:=BD h0
        have d1:(kd.toList == [100,101,108,101,116,101])=Qo:=BD h1
        have E:U (DP W w4 aa (J (O pt)) D u8 R d n (m+1)):=ad.out w4 u8 R n M.out.1 ab ac (by omega)
        generalize w4=w5 at *
        generalize R=R5 at E
        generalize u8=T at E ⊢
        generalize n=n5 at *
        clear af ab ac ad M an HF ah az ar am
        go_upto_region 23 with fail
        clear q gC h0 h1 d0 d1 z0 z1 z3 z4)
     | (have q:=gD
        have E:U (DP W w4 aa (J (O pt)) D u8 R d n (m+1)):=ad.out w4 u8 R n M.out.1 ab ac (by omega)
        generalize w4=w5 at *
        generalize R=R5 at E
        generalize u8=T at E ⊢
        generalize n=n5 at *
        clear af ab ac ad M an HF ah az ar am
        go_upto_region 23 with fail
        clear q gD z0 z1 z3 z4)
     | (have E:U (DP W w4 aa (J (O pt)) D u8 R d n (m+1)):=ad.out w4 u8 R n M.out.1 ab ac (by omega)
        generalize w4=w5 at *
        generalize R=R5 at E
        generalize u8=T at E ⊢
        generalize n=n5 at *
        go_upto_region 23 with fail
        clear z0 z1 z3 z4)
   all_goals
     have dk:=db.out w5 aa _ D T R5 n5 (m+1) E.out
     go_wp2_with fail
     refine dk.mono ?_
     rintro e w6 ⟨v6,rfl,bg,ds⟩
     have a7:=dc.out w6 aa _ D T R5 n5 (m+1) v6 (by omega) ds bg
     go_wp2_with fail
     refine a7.mono ?_
     rintro e w7 ⟨rfl,dt⟩
     have dl:=dd.out w7 aa _ D T R5 n5 (m+1) dt
     go_wp2_with fail
     refine dl.mono ?_
     rintro e w8 ⟨i1,i2,i3,i4,sx,vg,rfl,du⟩
     have dm:U _:=du
     have dz:=zg2
     go_wp2
     go_roundw
     case rel=>exact ⟨m+1,by omega,by go_num,aa,D,R5,n5,rfl,rfl,dm.out⟩
     case measure=>simp [intOf];omega
 case neg =>
 obtain rfl:m=L:=by omega
 have gm:¬(m:Int)<(m:Int):=by omega
 have a8:=de.out wr f _ k u8 R n m ag
 have b6:=df.out wr f _ k u8 R n m c7 ag a5 bi.out
 have HB:U _:=ag.1.bes.frame
 obtain⟨q8,c8,be⟩:=ag.1.rows.form
 obtain⟨N8,cl⟩:∃N,R.length=N:=⟨_,rfl⟩
 have d2:U _:=cl
 rw[cl]at be
 subst be
 go_wp2_with fail
 refine a8.mono ?_
 rintro e w4 ⟨rfl,rfl⟩
 go_wp2_with fail
 refine b6.mono ?_
 rintro e w5 ⟨Q,k',k2,rfl,h2⟩
 clear b6
 have H2:U (IX W w5 Q f (J (O pt)) k' k2 (A q8 N8 c8) R):=h2
 clear h2
 have dn:=H2.out.1.rows HK.out.1 HK.out.2.1 (aj.out w5 H2.out.1.frame)
 go_wp2_with fail
 refine dn.mono ?_
 rintro e w6 ⟨v6,rfl,bg,-,dv⟩
 have H6:U (IX W w6 Q f (J (O pt)) k' k2 (A q8 N8 c8) R):=H2.out.quiet HK.out.1 dv
 have a7:=H6.out.same bg
 obtain⟨q6,c6,cm⟩:=bg.form
 generalize (AU k').length=N6 at cm
 subst cm
 go_wp2_with fail
 refine a7.mono ?_
 rintro e w7 ⟨rfl,ct⟩
 have H7:U _:=H6.out.quiet HK.out.1 ct
 clear a7 ct H6
 go_upto_region 32 with fail
 obtain⟨sn,bf⟩:∃s,k'.now=s:=⟨_,rfl⟩
 obtain⟨a2,av⟩:∃z,k'.ids=z:=⟨_,rfl⟩
 have C:BL w7 w7:=Qr _ _
 have a9:U (∀X,BL w7 X→Qc H 11 #[J (O ⟨Q,0,Z⟩)] X fun e w'=> ∃vg,e=Qa (A8 sn vg)∧Ai w' vg sn.2.2.2.2.2.2∧BL X w'):=fun X hX=>by
   have:=(H7.out.1.quiet HK.out.1 hX).nowS HK.out.1
   rw[bf]at this
   exact this
 have ba:U (∀X,BL w7 X→Qc H 11 #[J (O ⟨f,0,Z⟩)] X fun e w'=> ∃vg,e=Qa (A8 sn vg)∧Ai w' vg sn.2.2.2.2.2.2∧BL X w'):=fun X hX=>by
   have:=(H7.out.2.1.quiet HK.out.1 hX).nowS HK.out.1
   rw[←H7.out.2.2.2.1,bf]at this
   exact this
 have bb:U (∀X va vb,Ai X va sn.2.2.2.2.2.2→Ai X vb sn.2.2.2.2.2.2→Qc H 22 #[A8 sn va,A8 sn vb] X fun e w'=>e=Qa (Qj Qg)∧BL X w'):=fun X va vb h1 h2=>kF sn va vb X h1 h2 (by have:=(Fg H7.out.1.lki.now.fine).1;rw[bf]at this;omega)
 have b7:U (∀X,BL w7 X→Qc H 15 #[J (O ⟨Q,0,Z⟩)] X fun e w'=> ∃v',e=Qa v'∧A4 w' v' a2∧BL X w'):=fun X hX=>by
   have:=(H7.out.1.quiet HK.out.1 hX).snaps HK.out.1
   rw[av]at this
   exact this
 have b8:U (∀X,BL w7 X→Qc H 15 #[J (O ⟨f,0,Z⟩)] X fun e w'=> ∃v',e=Qa v'∧A4 w' v' a2∧BL X w'):=fun X hX=>by
   have:=(H7.out.2.1.quiet HK.out.1 hX).snaps HK.out.1
   rw[←H7.out.2.2.2.2.1,av]at this
   exact this
 have b9:U (a2.length≤20000):=by have:=(DA.1 H7.out.1.lki.ids).2.1;rw[av]at this;show a2.length≤20000;omega
 have ca:U (BL W w7):=H7.out.1.frame
 obtain⟨s1,s2,s3,s4,s5,s6,sf⟩:=sn
 unfold A8 at a9 ba bb
 dsimp only at a9 ba bb
 clear bf av H7 HB HK aj bi
 have cb:=a9.out _ C
 go_wp2_with fail
 refine cb.mono ?_
 rintro e wA ⟨v1,rfl,bs,cu⟩
 obtain⟨q1,c1,dp⟩:=bs.form
 subst dp
 replace C:=Ad C cu
 have cc:=ba.out _ C
 clear cb a9 ba
 go_wp2_with fail
 refine cc.mono ?_
 rintro e wB ⟨v2,rfl,bt,bu⟩
 have cd:=bb.out wB _ _ (bs.below bu) bt
 obtain⟨q2,c2,dq⟩:=bt.form
 subst dq
 replace C:=Ad C bu
 clear cc bs bt cu bu bb
 go_wp2_with fail
 refine cd.mono ?_
 rintro e wC ⟨rfl,cv⟩
 replace C:=Ad C cv
 have ce:=b7.out _ C
 clear cd cv b7
 go_wp2_with fail
 refine ce.mono ?_
 rintro e wD ⟨v3,rfl,a4,cw⟩
 replace C:=Ad C cw
 have cf:=b8.out _ C
 clear ce b8
 go_wp2_with fail
 refine cf.mono ?_
 rintro e wE ⟨v4,rfl,a3,bv⟩
 replace C:=Ad C bv
 have cg:=zf4 v3 v4 a2 wE (a4.below bv) a3 b9.out
 clear cf a4 a3 cw bv b9
 go_wp2_with fail
 refine cg.mono ?_
 rintro e wF ⟨rfl,cx⟩
 replace C:=Ad C cx
 clear cg cx
 go_wp2
 go_ret
 exact⟨rfl,ca.out.trans (C.mono ca.out.size)⟩
end
end
end Go.Proofs.YtcllhobffhkafaaGreatDoor
