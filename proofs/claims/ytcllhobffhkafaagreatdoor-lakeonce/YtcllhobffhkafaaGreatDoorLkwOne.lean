/- By an AI agent. -/
import Derived.Test.YtcllhobffhkafaaGreatDoorLkwPlay
set_option maxRecDepth 100000
set_option maxHeartbeats 16000000
open Go.Proofs.Tryz
open Bool renaming false->A,true->Qf,and_eq_true->Qm,not_eq_true->Qq,or_eq_false_iff->Q0,eq_iff_iff->Q3,not_eq_true'->Q6
open Go renaming Value->J,World->V,Calls->Qc,maxLen->Qp,cell_of_row->Q8,heap_alloc_new->Q9
open Go.Ending renaming returned->Qa
open Go.IntKind renaming i64->Z
open Go.Obj renaming cells->Qb
open Go.Proofs.Tryz renaming prog->Qd,func10->Qw,ntmps10->Qx
open Go.RowKit.Below renaming drew->Qi
open Go.Value renaming int->U,pointer->I,string->H,tuple->Qg,slice->Qj,nilIface->Qv
open List renaming mem_map->Qh,flatMap_append->Qk,mem_append->Ql,mem_singleton->Qn,mem_flatMap->Qr,flatMap_cons->Qs,flatMap_singleton->Qt,flatMap_map->Qu,mem_cons_self->Qy,filter_congr->Qz,any_eq_false->Q1,mem_cons_of_mem->Q2,append_nil->Q4,filter_eq_self->Q5,contains_iff_mem->Q7,getElem_mem->QA
open Option renaming some->O,none->S
open Or renaming inl->Qe,inr->Qo
namespace Go.Proofs.YtcllhobffhkafaaGreatDoor
open Go.Extern Go.Extern.Stop Go.Lib Go.RowKit Go.Shelf Go.Sort Go.Stop
section
attribute [local go_sem] Oper.semAt_some
section
variable {a : Nat → Addr} {B : Nat} {EM : V → Prop}
theorem PY {W X w':V} {b:Nat} {d m vf:J} {f:Nat->Prop} {k:Lk} {g:St} {x:Ak} (c:J) (n:c=Qv\/∃t u,c= .iface t u) (h:An X b d f k.st.head m vf k) (hi:Ax k) (i:BL W X) (o:Gw k.st g) (s:Dh A0 X d f g w') (v:x.1≠D9/\x.1≠DA) (y:b<W.heap.size):BO W b d f k x (Qa (Qg #[I (O ⟨b,0,S⟩),c])) w':=by
 obtain⟨l,p,q,r⟩:=h.post s;refine⟨b,l,m,vf, { k with st:=g },c,rfl,n,(Ac.of_below i).trans q (fun _ h _=>Qe h),fun j hj=>(r j hj).imp_right (Nat.le_trans i.size),Qe rfl,⟨?_,h.owt.low i y⟩,Ln (Cu.gw hi o) (Qe v)⟩;rw[o.head];exact p
theorem yO (K:AJ a B EM A0) {W:V} {d:Nat} {u:J} {g:Nat->Prop} {E vf:J} {k:Lk} (r:EM W) (h:An W d u g k.st.head E vf k) (hi:Ax k) (n m:Int) (F: -9223372036854775808<=n/\n<=9223372036854775807) {j l:J} {c:List Rw} {zs:List Int} :
  Qc Qd 10 #[I (O ⟨d,0,S⟩),H k.spec,Dl (⟨#[100,97,121,115]⟩,n,m,c,zs) j l] W (BO W d u g k (⟨#[100,97,121,115]⟩,n,m,c,zs)):=by
 have o:(⟨#[100,97,121,115]⟩:ByteArray)≠D9/\(⟨#[100,97,121,115]⟩:ByteArray)≠DA:=⟨Gh (by decide),Gh (by decide)⟩;obtain⟨i,rfl⟩:=h.ptr K;have p:Hid (∀X,BL W X->Qc Qd 21 #[I (O ⟨d,0,S⟩)] X fun e w'=>e=Qa (I (O i))/\w'=X):=fun X hX=>MW K (h.quiet K hX);have f:Hid (∀X,BL W X->Qc Qd 36 #[I (O i),U Z n] X fun e w'=> ∃z q,e=Qa (Qg #[U Z z,q])/\BO W d (I (O i)) g k (⟨#[100,97,121,115]⟩,n,m,c,zs) (Qa (Qg #[I (O ⟨d,0,S⟩),q])) w'):=fun X hX=>(K.next X _ g k.st n (K.below _ _ r (hX.mono (K.size _ r))) (h.quiet K hX).st hi.good.keeps F).mono fun e w' ⟨he,hp⟩=>⟨_,_,he,PY _ (Wt a _) (h.quiet K hX) hi hX (yD hi.good n) hp o h.blk.lt⟩;generalize t:BO W d (I (O i)) g k (⟨#[100,97,121,115]⟩,n,m,c,zs)=D at f ⊢;clear K r h hi t o;unfold Dl;dsimp only;have b:BL W (W.alloc (Qb #[H ⟨#[100,97,121,115]⟩,U Z n,U Z m,j,l] 37)):=Af _ _;have s:(W.alloc (Qb #[H ⟨#[100,97,121,115]⟩,U Z n,U Z m,j,l] 37)).cell? ⟨W.heap.size,1,S⟩=O (U Z n):=by rw[Q8 _ _ _ _ _ _ (Q9 _ _)];rfl
 go_enter Qw,Qx
 go_upto_region 18 with fail
 generalize (W.alloc (Qb #[H ⟨#[100,97,121,115]⟩,U Z n,U Z m,j,l] 37))=L at b s ⊢
 go_cut [18,19] from 89 to 96 (fun _ c9 wx=>D (Qa (Qg #[I (O ⟨d,0,S⟩),c9])) wx)
 case first =>
  first
   | (go_region_with (first
    | (go_at_call 21;(with_reducible refine(p.out _ (by with_reducible first | exact b | exact Qi b | exact Qi (Qi b))).mono ?_);rintro e y ⟨rfl,rfl⟩)
    | (go_at_call 36;(with_reducible refine(f.out _ (by with_reducible first | exact b | exact Qi b)).mono ?_);rintro e y ⟨z,q,rfl,C⟩)))
   | fail
  all_goals
   go_wp2;go_meet
   case rel=>exact C
 case rest =>
 have v:Hid _:=hcut;clear hcut s b p f;go_wp2;exact v.out
theorem yP (K:AJ a B EM A0) {W:V} {c:Nat} {v:J} {g:Nat->Prop} {E vf:J} {k:Lk} (r:EM W) (h:An W c v g k.st.head E vf k) (hi:Ax k) (n m:Int) (F: -9223372036854775808<=n/\n<=9223372036854775807) {j l:J} {d:List Rw} {zs:List Int} :
  Qc Qd 10 #[I (O ⟨c,0,S⟩),H k.spec,Dl (⟨#[99,117,116]⟩,n,m,d,zs) j l] W (BO W c v g k (⟨#[99,117,116]⟩,n,m,d,zs)):=by
 have o:(⟨#[99,117,116]⟩:ByteArray)≠D9/\(⟨#[99,117,116]⟩:ByteArray)≠DA:=⟨Gh (by decide),Gh (by decide)⟩;obtain⟨i,rfl⟩:=h.ptr K;have p:Hid (∀X,BL W X->Qc Qd 21 #[I (O ⟨c,0,S⟩)] X fun e w'=>e=Qa (I (O i))/\w'=X):=fun X hX=>MW K (h.quiet K hX);have f:Hid (∀X,BL W X->Qc Qd 37 #[I (O i),U Z n] X fun e w'=> ∃q,e=Qa q/\BO W c (I (O i)) g k (⟨#[99,117,116]⟩,n,m,d,zs) (Qa (Qg #[I (O ⟨c,0,S⟩),q])) w'):=fun X hX=>(K.cut X _ g k.st n (K.below _ _ r (hX.mono (K.size _ r))) (h.quiet K hX).st hi.good.keeps F).mono fun e w' ⟨he,hp⟩=>⟨_,he,PY _ (Wt a _) (h.quiet K hX) hi hX (yE hi.good n) hp o h.blk.lt⟩;generalize u:BO W c (I (O i)) g k (⟨#[99,117,116]⟩,n,m,d,zs)=D at f ⊢;clear K r h hi u o;unfold Dl;dsimp only;have b:BL W (W.alloc (Qb #[H ⟨#[99,117,116]⟩,U Z n,U Z m,j,l] 37)):=Af _ _;have s:(W.alloc (Qb #[H ⟨#[99,117,116]⟩,U Z n,U Z m,j,l] 37)).cell? ⟨W.heap.size,1,S⟩=O (U Z n):=by rw[Q8 _ _ _ _ _ _ (Q9 _ _)];rfl
 go_enter Qw,Qx
 go_upto_region 21 with fail
 generalize (W.alloc (Qb #[H ⟨#[99,117,116]⟩,U Z n,U Z m,j,l] 37))=L at b s ⊢
 go_cut [6,7] from 101 to 106 (fun c6 c9 wx=>c6=I (O ⟨c,0,S⟩)/\D (Qa (Qg #[I (O ⟨c,0,S⟩),c9])) wx)
 case first =>
  first
   | (go_region_with (first
    | (go_at_call 21;(with_reducible refine(p.out _ (by with_reducible first | exact b | exact Qi b | exact Qi (Qi b))).mono ?_);rintro e z ⟨rfl,rfl⟩)
    | (go_at_call 37;(with_reducible refine(f.out _ (by with_reducible first | exact b | exact Qi b)).mono ?_);rintro e z ⟨q,rfl,C⟩)))
   | fail
  all_goals
   go_wp2;go_meet
   case rel=>exact ⟨rfl,C⟩
 case rest =>
 obtain⟨rfl,t⟩:=hcut;have y:Hid _:=t;clear t s b p f;go_wp2;exact y.out
theorem yQ (K:AJ a B EM A0) (F:∀X,EM X->Bg X a) {W:V} {f:Nat} {L:J} {p:Nat->Prop} {vi vf:J} {k:Lk} (u:EM W) (h:An W f L p k.st.head vi vf k) (hi:Ax k) (M:B<=f/\∀j,p j->B<=j) (N:k.spec.size<=30) (t:(A8 k.spec.data.toList).1=0) (n m:Int) {i l:J} {d:List Rw} {zs:List Int} :
  Qc Qd 10 #[I (O ⟨f,0,S⟩),H k.spec,Dl (⟨#[97,103,97,105,110]⟩,n,m,d,zs) i l] W (BO W f L p k (⟨#[97,103,97,105,110]⟩,n,m,d,zs)):=by
 have s:(⟨#[97,103,97,105,110]⟩:ByteArray)≠D9/\(⟨#[97,103,97,105,110]⟩:ByteArray)≠DA:=⟨Gh (by decide),Gh (by decide)⟩;obtain⟨q,rfl⟩:=h.ptr K;have b:BL W (W.alloc (Qb #[H ⟨#[97,103,97,105,110]⟩,U Z n,U Z m,i,l] 37)):=Af _ _;have o:Qc Qd 21 #[I (O ⟨f,0,S⟩)] (W.alloc (Qb #[H ⟨#[97,103,97,105,110]⟩,U Z n,U Z m,i,l] 37)) fun e r=>e=Qa (I (O q))/\r=(W.alloc (Qb #[H ⟨#[97,103,97,105,110]⟩,U Z n,U Z m,i,l] 37)):=MW K (h.quiet K b);have g:Qc Qd 8 #[I (O q),H k.spec] (W.alloc (Qb #[H ⟨#[97,103,97,105,110]⟩,U Z n,U Z m,i,l] 37)) fun e r=> ∃c,e=Qa (Qg #[I (O ⟨c,0,S⟩),Qv])/\BO W f (I (O q)) p k (⟨#[97,103,97,105,110]⟩,n,m,d,zs) (Qa (Qg #[I (O ⟨c,0,S⟩),Qv])) r:=by
  refine(Pu K F (K.below _ _ u (b.mono (K.size _ u))) (h.quiet K b).st hi.good M.2 k.spec (by omega) (Qo ⟨k,rfl,hi⟩)).mono ?_;rintro e r ⟨n',vk,rfl,⟨-,-,v,-⟩|⟨rfl,y,c,z,C,Q,rfl,R,T,Y,⟨h4,h8⟩,h5,h6,h7⟩⟩
  ·exact absurd ⟨t,fun e=>absurd e (Ps hi)⟩ v
  ·exact⟨c,rfl,c,y,z,C,Q,_,rfl,Qe rfl,(Ac.of_below b).trans R (fun _ h _=>Qe h),fun j hj=>(T j hj).imp_right (Nat.le_trans b.size),Qo (Nat.le_trans b.size Y),⟨h4,fun j hj=>Qe (Nat.le_trans b.size (h8 j (hj.imp_right And.right)))⟩,Ln (Cu.open hi h5 h7) (Qe s)⟩
 generalize E:BO W f (I (O q)) p k (⟨#[97,103,97,105,110]⟩,n,m,d,zs)=PQ at g ⊢;clear K F u h hi M E s N t;unfold Dl;dsimp only
 go_enter Qw,Qx
 go_wp2_with fail
 generalize (W.alloc (Qb #[H ⟨#[97,103,97,105,110]⟩,U Z n,U Z m,i,l] 37))=W1 at o g ⊢;refine o.mono ?_;rintro e w2 ⟨rfl,rfl⟩
 go_wp2_with fail
 refine g.mono ?_;rintro e w3 ⟨c,rfl,D⟩;have P:Hid _:=D;clear o g D b;go_wp2;exact P.out
theorem yR (K:AJ a B EM A0) {W:V} {f:Nat} {y:J} {o:Nat->Prop} {N vf:J} {k:Lk} (r:EM W) (h:An W f y o k.st.head N vf k) (hi:Ax k) (b:ByteArray) (s:b.data.toList≠ [97,112,112,101,110,100]) (t:b.data.toList≠ [100,101,108,101,116,101]) (z:b.data.toList≠ [112,97,99,107]) (C:b.data.toList≠ [101,120,112,105,114,101]) (D:b.data.toList≠ [99,108,101,97,110]) (E:b.data.toList≠ [100,97,121,115]) (F:b.data.toList≠ [99,117,116]) (L:b.data.toList≠ [97,103,97,105,110]) (n m:Int) {i j:J} {d:List Rw} {zs:List Int} :
  Qc Qd 10 #[I (O ⟨f,0,S⟩),H k.spec,Dl (b,n,m,d,zs) i j] W (BO W f y o k (b,n,m,d,zs)):=by
 have q:b≠D9/\b≠DA:=⟨fun e=>s (by rw[e];rfl),fun e=>t (by rw[e];rfl)⟩;obtain⟨p,rfl⟩:=h.ptr K;have c:BL W (W.alloc (Qb #[H b,U Z n,U Z m,i,j] 37)):=Af _ _;have l:Qc Qd 21 #[I (O ⟨f,0,S⟩)] (W.alloc (Qb #[H b,U Z n,U Z m,i,j] 37)) fun e w'=>e=Qa (I (O p))/\w'=(W.alloc (Qb #[H b,U Z n,U Z m,i,j] 37)):=MW K (h.quiet K c);have g:Qc Qd 30 #[I (O p)] (W.alloc (Qb #[H b,U Z n,U Z m,i,j] 37)) fun e w'=>e=Qa (Qg #[])/\BO W f (I (O p)) o k (b,n,m,d,zs) (Qa (Qg #[I (O ⟨f,0,S⟩),Qv])) w':=(K.on _ _ o k.st (K.below _ _ r (c.mono (K.size _ r))) (h.quiet K c).st hi.good.keeps).mono fun e w' ⟨he,hp⟩=>⟨he,PY _ (Qe rfl) (h.quiet K c) hi c (Wr hi.good) hp q h.blk.lt⟩;have P:(b.toList == [97,112,112,101,110,100])=A:=BH s;have Q:(b.toList == [100,101,108,101,116,101])=A:=BH t;have R:(b.toList == [112,97,99,107])=A:=BH z;have T:(b.toList == [101,120,112,105,114,101])=A:=BH C;have X:(b.toList == [99,108,101,97,110])=A:=BH D;have Y:(b.toList == [100,97,121,115])=A:=BH E;have d6:(b.toList == [99,117,116])=A:=BH F;have d7:(b.toList == [97,103,97,105,110])=A:=BH L;generalize v:BO W f (I (O p)) o k (b,n,m,d,zs)=PQ at g ⊢;clear K r h hi v q s t z C D E F L;unfold Dl;dsimp only
 go_enter Qw,Qx
 go_wp2_with fail
 generalize (W.alloc (Qb #[H b,U Z n,U Z m,i,j] 37))=W1 at l g ⊢;refine l.mono ?_;rintro e w2 ⟨rfl,rfl⟩
 go_wp2_with fail
 refine g.mono ?_;rintro e w3 ⟨rfl,u⟩;have M:Hid _:=u;clear l g u c;go_wp2;exact M.out
end
end
section
theorem I9 {x y:ByteArray} (h:x.data.toList=y.data.toList):x=y:=by rw[<-Dy x,h,Dy]
structure Ne (W:V) (vr vz:J) (x:Ak):Prop where
 rows:Ar W vr x.2.2.2.1
 len:x.2.2.2.1.length<=60
 parts:∀r∈x.2.2.2.1,r.1.size<=30
 keys:A3 W vz x.2.2.2.2
 form:∃q c,vz=Qj q x.2.2.2.2.length c/\(q=S->c=0)
 few:x.2.2.2.2.length<=50
 num: -9223372036854775808<=x.2.1/\x.2.1<=9223372036854775807
section
variable {a : Nat → Addr} {B : Nat} {EM : V → Prop}
theorem yS (K:AJ a B EM A0) (d:∀X,EM X->Bg X a) {W:V} {g:Nat} {C:J} {l:Nat->Prop} {Y vf:J} {k:Lk} (c:EM W) (h:An W g C l k.st.head Y vf k) (hi:Ax k) (f:B<=g/\∀j,l j->B<=j) (i:k.spec.size<=30) (D:(A8 k.spec.data.toList).1=0) {E F:J} {x:Ak} (hx:Ne W E F x) :
  Qc Qd 10 #[I (O ⟨g,0,S⟩),H k.spec,Dl x E F] W (BO W g C l k x):=by
 obtain⟨b,n,m,L,zs⟩:=x;obtain⟨M,N,P,Q,R,T,z⟩:=hx;by_cases o:b.data.toList= [97,112,112,101,110,100]
 ·obtain rfl:=I9 (y:=D9) o;exact yJ K d c h hi f i n m M N P
 by_cases p:b.data.toList= [100,101,108,101,116,101]
 ·obtain rfl:=I9 (y:=DA) p;exact yK K d c h hi f n m Q R T
 by_cases q:b.data.toList= [112,97,99,107]
 ·obtain rfl:=I9 (y:=⟨#[112,97,99,107]⟩) q;exact yL K d c h hi f n m
 by_cases r:b.data.toList= [101,120,112,105,114,101]
 ·obtain rfl:=I9 (y:=⟨#[101,120,112,105,114,101]⟩) r;exact yM K d c h hi f n m
 by_cases s:b.data.toList= [99,108,101,97,110]
 ·obtain rfl:=I9 (y:=⟨#[99,108,101,97,110]⟩) s;exact yN K d c h hi f n m
 by_cases t:b.data.toList= [100,97,121,115]
 ·obtain rfl:=I9 (y:=⟨#[100,97,121,115]⟩) t;exact yO K c h hi n m z
 by_cases u:b.data.toList= [99,117,116]
 ·obtain rfl:=I9 (y:=⟨#[99,117,116]⟩) u;exact yP K c h hi n m z
 by_cases v:b.data.toList= [97,103,97,105,110]
 ·obtain rfl:=I9 (y:=⟨#[97,103,97,105,110]⟩) v;exact yQ K d c h hi f i D n m
 exact yR K c h hi b o p q r s t u v n m
end
structure Kh (w:V) (b o:Nat) (vr vk:J) (x:Ak):Prop where
 kind:w.cell? ⟨b,o,S⟩=O (H x.1)
 n:w.cell? ⟨b,o+1,S⟩=O (U Z x.2.1)
 m:w.cell? ⟨b,o+2,S⟩=O (U Z x.2.2.1)
 crow:w.cell? ⟨b,o+3,S⟩=O vr
 ckey:w.cell? ⟨b,o+4,S⟩=O vk
 rows:Ar w vr x.2.2.2.1
 keys:A3 w vk x.2.2.2.2
 form:∃q c,vk=Qj q x.2.2.2.2.length c/\(q=S->c=0)
 formr:∃q c,vr=Qj q x.2.2.2.1.length c/\(q=S->c=0)
 num: -9223372036854775808<=x.2.1/\x.2.1<=9223372036854775807
theorem Kh.below {w w':V} {b o:Nat} {d f:J} {p:Ak} (h:Kh w b o d f p) (c:BL w w'):Kh w' b o d f p :=
 ⟨Aa c h.kind,Aa c h.n,Aa c h.m,Aa c h.crow,Aa c h.ckey,h.rows.below c,h.keys.below c,h.form,h.formr,h.num⟩
def Fz (w:V) (v:J) (l:List Ak):Prop :=
 (∃p c,v=Qj p 0 c/\l= [])\/∃b o cap,v=Qj (O ⟨b,o,S⟩) l.length cap/\∀j (h:j<l.length),∃vr vk,Kh w b (o+j*5) vr vk l[j]
theorem Fz.below {w w':V} {v:J} {l:List Ak} (h:Fz w v l) (k:BL w w'):Fz w' v l:=by
 rcases h with h | ⟨b,o,c,g,i⟩
 ·exact Qe h
 ·exact Qo ⟨b,o,c,g,fun j hj=>by
   obtain⟨d,f,h⟩:=i j hj;exact⟨d,f,h.below k⟩⟩
theorem Fz.form {w:V} {v:J} {l:List Ak} (h:Fz w v l):∃p c,v=Qj p l.length c:=by
 rcases h with⟨p,c,rfl,rfl⟩|⟨b,o,d,rfl,_⟩
 ·exact⟨_,_,rfl⟩
 ·exact⟨_,_,rfl⟩
theorem Fz.cells {w:V} {q:Option Addr} {n c:Nat} {l:List Ak} (h:Fz w (Qj q n c) l) (d:l≠ []):∃b o,q=O ⟨b,o,S⟩/\∀j (h:j<l.length),∃vr vk,Kh w b (o+j*5) vr vk l[j]:=by
 rcases h with⟨_,_,_,e⟩|⟨b,o,g,e,f⟩
 ·exact absurd e d
 ·simp only[Value.slice.injEq]at e;exact⟨b,o,e.1,f⟩
def IA (x:Ak):Bool:=DB 60 x.2.2.2.1 || (decide (50<x.2.2.2.2.length) || decide (20<x.1.size))
def GE (m:Int) (l:List Ak):Bool:=decide (m<l.length) || l.any IA
theorem yT {m:Int} {l:List Ak} (h:GE m l=A):(l.length:Int)<=m/\∀x∈l,x.2.2.2.1.length<=60/\(∀r∈x.2.2.2.1,r.1.size<=30)/\x.2.2.2.2.length<=50:=by
 unfold GE at h;simp only[Q0,decide_eq_false_iff_not,Q1]at h;refine⟨by omega,fun x hx=>?_⟩;have:=h.2 x hx;unfold IA DB at this;simp only[Qq,Q0,decide_eq_false_iff_not,Q1,decide_eq_true_eq]at this;obtain⟨⟨c,b⟩,d,-⟩:=this;exact⟨by omega,fun r hr=>by have:=b r hr;omega,by omega⟩
theorem Fz.act {w:V} {b o:Nat} {d f:J} {x:Ak} (h:Kh w b o d f x) (c:x.2.2.2.1.length<=60/\(∀r∈x.2.2.2.1,r.1.size<=30)/\x.2.2.2.2.length<=50):Ne w d f x:=⟨h.rows,c.1,c.2.1,h.keys,h.form,c.2.2,h.num⟩
def Ki (x:Ak):Prop:=x.1.size<=Qp/\x.2.2.2.1.length<=Qp/\x.2.2.2.2.length<=Qp
theorem yU (v:J) (l:List Ak) (b:Int) (ac:0<=b/\b<=1000) (w:V) (h:Fz w v l) (hl:l.length<=Qp) (hz:∀p∈l,Ki p) :
  Qc Qd 7 #[v,U Z b] w fun e w'=>e=Qa (.bool (GE b l))/\w'=w:=by
 obtain⟨q,N,rfl⟩:=h.form;have X:Hid (Fz w (Qj q l.length N) l):=h;have Y:Hid (∀p∈l,Ki p):=hz;obtain⟨L,P⟩:∃L,l.length=L:=⟨_,rfl⟩;have n:Hid (l.length=L):=P;rw[P]at hl ⊢;generalize hR:GE b l=R;have u:Hid (GE b l=R):=hR;by_cases D:b<(L:Int)
 ·have e:R=Qf:=by rw[<-u.out];unfold GE;rw[n.out];simp[D]
  subst e
  go_enter func7,ntmps7
  go_wp2;go_ret;exact⟨rfl,rfl⟩
 go_enter func7,ntmps7
 go_wp2
 go_loop [5] (fun k=> ∃m:Nat,m<=L/\k=U Z m/\∀i (h:i<l.length),i<m->IA l[i]=A) (fun k=>L-(intOf k).toNat)
 case atStart=>exact ⟨0,by omega,rfl,fun i h h'=>absurd h' (Nat.not_lt_zero _)⟩
 case round =>
  obtain⟨m,hm,rfl,Q⟩:=hrel;have t:Hid (∀i (h:i<l.length),i<m->IA l[i]=A):=Q;by_cases E:m<L
  ·have c:m<l.length:=by rw[n.out];exact E
   obtain⟨g,o,hq,hc⟩:=X.out.cells (fun e=>by rw[e]at c;simp at c);subst hq;obtain⟨vr,vk,j⟩:=hc m c;have F:=Y.out _ (QA c);have f:(m:Int)<(L:Int):=by omega
   have y:Hid (IA l[m]=Qf->R=Qf):=fun e=>by
    show R=Qf;rw[<-u.out];unfold GE;rw[Bool.or_eq_true];exact Qo (List.any_eq_true.2 ⟨_,QA c,e⟩)
   have HF:Hid (IA l[m]=A->∀i (h:i<l.length),i<m+1->IA l[i]=A):=fun e i f him=>by
    by_cases e':i=m
    ·subst e';exact e
    ·exact t.out i f (by omega)
   generalize l[m]=p at *;obtain⟨z1,z2,z3⟩:=F;unfold Qp at z1 z2 z3;have r:Hid (IA p=(DB 60 p.2.2.2.1 || (decide (50<p.2.2.2.2.length) || decide (20<p.1.size)))):=rfl;have c0:=j.kind;have c3:=j.crow;have c4:=j.ckey;have d:=Rn vr p.2.2.2.1 60 w j.rows (by unfold Qp;omega) (by omega);obtain⟨kq,kc,hk,-⟩:=j.form;subst hk;generalize p.2.2.2.2.length=T at *;generalize p.1=W at *;generalize p.2.2.2.1=rs at *;cases s:DB 60 rs
   ·have z:=Lv s;rw[z]at d;by_cases K:50<T
    ·have aa:(50:Int)<(T:Int):=by omega
     have e:=y.out (by rw[r.out];simp[K]);subst e
     go_wp2_with fail
     refine d.mono ?_;rintro e C ⟨rfl,rfl⟩;go_wp2;go_ret;exact⟨rfl,rfl⟩
    by_cases M:20<W.size
    ·have ab:(20:Int)<(W.size:Int):=by omega
     have e:=y.out (by rw[r.out];simp[M]);subst e
     go_wp2_with fail
     refine d.mono ?_;rintro e C ⟨rfl,rfl⟩;go_wp2;go_ret;exact⟨rfl,rfl⟩
    have B:=HF.out (by rw[r.out,s];simp[K,M]);have B:Hid _:=B
    go_wp2_with fail
    refine d.mono ?_;rintro e C ⟨rfl,rfl⟩;go_wp2;go_round
    case rel=>exact ⟨m+1,by omega,by go_num,B.out⟩
    case measure=>simp [intOf];omega
   ·have z:=Lu s;rw[z]at d;have e:=y.out (by rw[r.out,s];rfl);subst e
    go_wp2_with fail
    refine d.mono ?_;rintro e C ⟨rfl,rfl⟩;go_wp2;go_ret;exact⟨rfl,rfl⟩
  ·obtain rfl:m=L:=by omega
   have e:R=A:=by
    rw[<-u.out];unfold GE;rw[n.out,Q0];refine⟨by simp;omega,?_⟩;rw[Q1];intro x hx;obtain⟨i,f,rfl⟩:=List.mem_iff_getElem.1 hx;rw[t.out i f (by rw[n.out]at f;exact f)];simp
   subst e;go_wp2;go_ret;exact⟨rfl,rfl⟩
theorem Wu {k q:Int} (n:0<=q):∀l:List (Int×Int),q<Bv l k↔∃e∈l,e.1=k/\q<e.2
 | []=>by
  have:Bv [] k=0:=rfl;simp[this];omega
 | x :: r=>by
  have g:Bv (x :: r) k=max (Bv [x] k) (Bv r k):=pW [x] r k;have i:Bv [x] k=if x.1=k then max 0 x.2 else 0:=rfl;have d:=Wu n (k:=k) r;rw[g,i];constructor
  ·intro h;by_cases f:x.1=k
   ·rw[if_pos f]at h;by_cases j:q<x.2
    ·exact⟨x,Qy,f,j⟩
    ·obtain⟨e,b,c⟩:=d.1 (by omega);exact⟨e,Q2 _ b,c⟩
   ·rw[if_neg f]at h;obtain⟨e,b,c⟩:=d.1 (by omega);exact⟨e,Q2 _ b,c⟩
  ·rintro⟨e,b,c,m⟩;rcases List.mem_cons.1 b with rfl | b
   ·rw[if_pos c];omega
   ·have:=d.2 ⟨e,b,c,m⟩;omega
theorem Lo {l:List (Int×Int)} {p:Rw×Int} (b:0<=p.2):BM l p=Qf↔∃e∈l,e.1=p.1.2.1/\p.2<e.2:=by
 unfold BM;rw[decide_eq_true_eq];exact Wu b l
def EY (obs:List Ob) (fs:List Fl):List Rw:=((fs.flatMap (Da obs)).filter fun p=> !BM (fs.flatMap (BX obs)) p).map (·.1)
theorem yV {r:Rw} (h:Ay r=0):Bj Bt Bu r=Qf:=by
 have:=LX h;unfold Bj Bt Bu;simp only[Qm,decide_eq_true_eq];omega
theorem Nf {obs:List Ob} {x:Fl} {p:Rw×Int} (h:p∈Da obs x):Ay p.1=0/\p.2=x.2.2.2.2.2/\x.2.1.data.toList≠ [45]:=by
 unfold Da at h;split at h
 ·rename_i c;obtain⟨r,b,rfl⟩:=Qh.1 h;exact⟨Wa _ r b,rfl,c⟩
 ·cases h
theorem yW {obs:List Ob} {x:Fl} {e:Int×Int} (h:e∈BX obs x):e.2=x.2.2.2.2.2/\x.2.1.data.toList= [45]:=by
 unfold BX at h;split at h
 ·cases h
 ·rename_i b;obtain⟨r,c,rfl⟩:=Qh.1 h;exact⟨rfl,by simpa using b⟩
theorem yX {obs:List Ob} {s:Sn} (c:(Am s).1=0) (h:∀x∈s.2.2.2.2.2.2,(Aj obs x).1=0):Bo obs s Bt Bu=(A5 (EY obs s.2.2.2.2.2.2),0,S):=by
 have e:=PJ (obs:=obs) (G:=s.2.2.2.2.2.2.flatMap (BX obs)) s.2.2.2.2.2.2;rw[PK c h,show s.2.2.2.2.2.2.flatMap (I4 obs s.2.2.2.2.2.2)=_ from e.symm];unfold EY;rw[Qz (p:=fun p=>Bj Bt Bu p.1 && !BM (s.2.2.2.2.2.2.flatMap (BX obs)) p) (q:=fun p=> !BM (s.2.2.2.2.2.2.flatMap (BX obs)) p) fun p b=>?_];obtain⟨x,d,b⟩:=Qr.1 b;rw[yV (Nf b).1,Bool.true_and]
theorem Wv {obs:List Ob} {L b:List Fl} (h:L.Perm b) (j:∀f∈L,0<=f.2.2.2.2.2):(EY obs L).Perm (EY obs b):=by
 unfold EY;refine List.Perm.map _ ?_;have d:(L.flatMap (BX obs)).Perm (b.flatMap (BX obs)):=h.flatMap_right _;rw[Qz (q:=fun p=> !BM (b.flatMap (BX obs)) p) fun p c=>?_]
 ·exact(h.flatMap_right _).filter _
 ·obtain⟨x,i,c⟩:=Qr.1 c;have g:0<=p.2:=by rw[(Nf c).2.1];exact j x i
  congr 1;rw[Q3,Lo g,Lo g];exact⟨fun ⟨e,he,h1⟩=>⟨e,d.mem_iff.1 he,h1⟩,fun ⟨e,he,h1⟩=>⟨e,d.mem_iff.2 he,h1⟩⟩
theorem Gi {α β:Type} {f g:α->List β} :∀ {l:List α},(∀x∈l,f x=g x)->l.flatMap f=l.flatMap g
 | [],_=>rfl
 | a :: r,h=>by
  rw[Qs,Qs,h a Qy,Gi fun x hx=>h x (Q2 _ hx)]
theorem IB {obs b:List Ob} {x:Fl} (h:Aj b x=Aj obs x):Da b x=Da obs x/\BX b x=BX obs x:=by
 unfold Da BX;rw[h];exact⟨rfl,rfl⟩
theorem yY {obs b:List Ob} {i c:List Fl} {n:Int} (o:∀f∈i,Aj b f=Aj obs f) (s:∀f∈i,f.2.2.2.2.2<=n) (t:0<=n) (m:∀f∈c,f.2.1.data.toList≠ [45]/\n<=f.2.2.2.2.2):EY b (i++c)=EY obs i++c.flatMap fun f=>(Bw (Aj b f).2.data.toList).1:=by
 have q:c.flatMap (BX b)= []:=by
  rw[List.flatMap_eq_nil_iff];exact fun f hf=>VY (m f hf).1
 unfold EY;rw[Qk,Qk,q,Q4,List.filter_append,List.map_append,Gi (f:=BX b) (g:=BX obs) fun x d=>(IB (o x d)).2,Gi (f:=Da b) (g:=Da obs) (l:=i) fun x d=>(IB (o x d)).1];congr 1;rw[Q5.2 fun p j=>?_]
 ·rw[List.map_flatMap];refine Gi fun f hf=>?_;unfold Da;rw[if_pos (m f hf).1,List.map_map];exact List.map_id' _
 ·obtain⟨x,d,j⟩:=Qr.1 j;have u:=(Nf j).2.1;have v:=(m x d).2;rw[Q6,<-Qq,Lo (by omega)];rintro⟨e,k,-,C⟩;obtain⟨y,r,k⟩:=Qr.1 k;have z:=(yW k).1;have B:=s y r;omega
theorem yZ {obs b:List Ob} {i:List Fl} {g:Fl} {n:Int} (q:∀f∈i,Aj b f=Aj obs f) (C:∀f∈i,0<=f.2.2.2.2.2/\f.2.2.2.2.2<=n) (s:g.2.1.data.toList= [45]/\n<g.2.2.2.2.2):EY b (i++ [g])=(EY obs i).filter fun r=> !(B4 (Aj b g).2.data.toList).1.contains r.2.1:=by
 have t:Da b g= []:=by unfold Da;rw[if_neg (by simpa using s.1)]
 have u:BX b g=(B4 (Aj b g).2.data.toList).1.map fun k=>(k,g.2.2.2.2.2):=by unfold BX;rw[if_neg (by simpa using s.1)]
 unfold EY;rw[Qk,Qk,Qt,Qt,t,Q4,u,Gi (f:=BX b) (g:=BX obs) fun x d=>(IB (q x d)).2,Gi (f:=Da b) (g:=Da obs) (l:=i) fun x d=>(IB (q x d)).1,List.filter_map,List.filter_filter];congr 1;refine Qz fun p j=>?_;obtain⟨x,d,j⟩:=Qr.1 j;have D:=(Nf j).2.1;have E:=C x d;rw[Function.comp_def];dsimp only;rw[Q3];simp only[Qm,Q6,<-Qq,Q7];rw[Lo (by omega),Lo (by omega)];constructor
 ·intro h;exact⟨fun hm=>h ⟨_,Ql.2 (Qo (Qh.2 ⟨_,hm,rfl⟩)),rfl,by show _<_;omega⟩,fun ⟨e,c,m⟩=>h ⟨e,Ql.2 (Qe c),m⟩⟩
 ·rintro⟨m,y⟩ ⟨e,c,o,B⟩;rcases Ql.1 c with c | c
  ·exact y ⟨e,c,o,B⟩
  ·obtain⟨z,v,rfl⟩:=Qh.1 c;exact m (by rw[<-o];exact v)
theorem zA {β:Type} (φ:ByteArray->List β) {s m:St} {ds:List Dr} {ps:List ByteArray} (o:Puts s ds m ps) (p:B3 s):(∀d∈ds,Bp d.1)->∀ {fs:List Fl},Fils ds ps fs->∀ {s2:St},(∀x t,AK m x t->AK s2 x t)->(fs.flatMap fun f=>φ (AV s2.obs f.1).1)=ds.flatMap fun d=>φ d.2.2:=by
 induction o with
 | nil =>
  intro _ fs j s2 _;rw[Lf j];rfl
 | @step ds t ps d h1 h2 ih =>
  intro g fs j s2 i;obtain⟨q,rfl,l,n⟩:=MU j;have b:∀d∈ds,Bp d.1:=fun x hx=>g x (Ql.2 (Qe hx));have c:=(h1.gw p b).good;have k:Bp (d.1++Ab (itoa (Ag t))):=Jr _ _ (g d (by simp));rw[Qk,Qk,ih b l (fun x u hx=>i x u ((Jp c d.2.2 k).old _ _ hx)),Qt,Qt,(Lg n).1];have:=i _ _ (JY c h2).1;rw[this]
theorem zB {s l:St} {ds:List Dr} {ps:List ByteArray} (m:Puts s ds l ps):∀ {fs:List Fl},Fils ds ps fs->∀f∈fs,∃d∈ds,∃n,f.1=d.1++Ab (itoa n):=by
 induction m with
 | nil =>
  intro fs c f b;rw[Lf c]at b;cases b
 | @step ds t ps d h1 h2 ih =>
  intro fs c f b;obtain⟨o,rfl,i,j⟩:=MU c;rcases Ql.1 b with b | b
  ·obtain⟨e,k,g⟩:=ih i f b;exact⟨e,Ql.2 (Qe k),g⟩
  ·rw[Qn]at b;subst b;exact⟨d,by simp,Ag t,(Lg j).1⟩
theorem Ww {f:Fl} (h:At f=0) {r:List UInt8} :(f.1.data.toList= [100,97,116,97,47]++r->f.2.1.data.toList≠ [45])/\(f.1.data.toList= [103,111,110,101,47]++r->f.2.1.data.toList= [45]):=by
 obtain⟨g,n,d,i,-⟩:=D0 h;have b:=(El d).1;have c:=KR i;constructor
 ·intro e;rw[e]at b
  cases g with
  | false=>intro j;have:=c.1 j;cases this
  | true=>simp [AE,DY]at b
 ·intro e;rw[e]at b
  cases g with
  | true=>exact c.2 rfl
  | false=>simp [AE,DX]at b
theorem PZ (a b:ByteArray):(a++b).data.toList=a.data.toList++b.data.toList:=by simp
theorem Ra {k b:Lk} {ds:List Dr} {c:Int} (hi:Ax k) (h:Fw k b ds [] c) (o:∀d∈ds,Bp d.1):∃fs:List Fl,b.now.2.2.2.2.2.2.Perm (k.now.2.2.2.2.2.2++fs.map fun f=>Bn f (k.now.2.2.1+1))/\(∀f∈fs,At f=0/\∃d∈ds,∃n,f.1=d.1++Ab (itoa n))/\(∀ {β:Type} (φ:ByteArray->List β),(fs.flatMap fun f=>φ (AV b.st.obs f.1).1)=ds.flatMap fun d=>φ d.2.2)/\b.now.2.2.2.2.1=c:=by
 obtain⟨u,v,fs,i,j,s,t,g,-,-,-,-,l,-⟩:=h;obtain⟨-,-,-,-,m⟩:=JM t;rw[m]at g;have p:b.now.2.2.2.2.2.2=CH (k.now,fs, []) k.now:=by rw[g];rfl
 refine⟨fs,?_,fun f hff=>⟨s.adds f hff,zB i j f hff⟩,fun φ=>zA φ i hi.good o j l,by rw[g];rfl⟩;rw[p];have q:B8 (k.now,fs, []) k.now=k.now.2.2.2.2.2.2:=Q5.2 fun f _=>rfl;have r:Bc (k.now,fs, []) k.now=fs.map fun f=>Bn f (k.now.2.2.1+1):=rfl;have:(CH (k.now,fs, []) k.now).Perm (B8 (k.now,fs, []) k.now++Bc (k.now,fs, []) k.now):=JL (Bc (k.now,fs, []) k.now) (B8 (k.now,fs, []) k.now);rw[q,r]at this;exact this
theorem Wx {obs:List Ob} {f:Fl} (h:(Aj obs f).1=0):(Aj obs f).2=(AV obs f.1).1:=by
 unfold Aj at h ⊢
 repeat' split at h
 all_goals first | (rename_i b c d;rw[if_neg b,if_neg c,if_neg d]) | skip
 all_goals simp_all
theorem Wy {β:Type} (l:List β):∀n:Nat,((List.range n).flatMap fun i=>(l.drop (i*40)).take 40)=l.take (n*40)
 | 0=>by simp
 | n+1=>by
  rw[List.range_succ,Qk,Wy l n,Qt,Nat.add_mul,Nat.one_mul,List.take_add]
theorem zC (gs:List Gk):((Cn gs).flatMap (·.2)).Perm (gs.flatMap fun g=>g.2.2):=by
 induction gs with
 | nil=>exact List.Perm.refl _
 | cons g r ih =>
  have e:Cn (g :: r)=((DH ((g.2.2.length+39) / 40)).map fun i=>(g.1,((A5 g.2.2).drop i).take 40))++Cn r:=rfl;rw[e,Qk,Qs];refine List.Perm.append ?_ ih;have b:(((DH ((g.2.2.length+39) / 40)).map fun i=>(g.1,((A5 g.2.2).drop i).take 40)).flatMap (·.2))=A5 g.2.2:=by
   unfold DH;rw[Qu,Qu];rw[Wy (A5 g.2.2) ((g.2.2.length+39) / 40)];exact List.take_of_length_le (by rw[Hi];omega)
  rw[b];exact Ej _
theorem zD {xs:List Rw} (h:Ed xs):(Bw (Ab (EK (A5 xs))).data.toList).1=A5 xs:=by
 rw[BQ,RU (A5 xs) (fun x hx=>h.2 x ((Ej xs).mem_iff.1 hx)) (by rw[Hi];exact h.1) (S3 xs)]
theorem Wz:∀cs:List (ByteArray×List Rw),(cs.flatMap fun c=>A5 c.2).Perm (cs.flatMap (·.2))
 | []=>List.Perm.refl _
 | c :: r=>by
  rw[Qs,Qs];exact(Ej _).append (Wz r)
theorem zE {b:ByteArray} {xs:List Rw} {ds:List Dr} (h:I6 b xs ds) (o:Gg b xs):(ds.flatMap fun d=>(Bw d.2.2.data.toList).1).Perm xs/\∀d∈ds,d.1=⟨#[100,97,116,97,47]⟩:=by
 obtain⟨f,i,j,rfl⟩:=h;constructor
 ·rw[Qu];rw[Gi (g:=fun c:ByteArray×List Rw=>A5 c.2) fun c hc=>?_]
  ·refine(Wz _).trans ((zC _).trans ?_);rw[Qu];exact Wh _ xs f i j
  ·obtain⟨g,k,q,l,m⟩:=Wn hc;obtain⟨r,p,rfl⟩:=Qh.1 k;exact zD ⟨m,fun x hx=>o.2 x (List.mem_filter.1 (l x hx)).1⟩
 ·intro d n;obtain⟨c,-,rfl⟩:=Qh.1 n;rfl
def Bi (k:Lk):List Rw:=(Bo k.st.obs k.now Bt Bu).1
theorem Ih {k:Lk} (hi:Ax k):Bo k.st.obs k.now Bt Bu=(Bi k,0,S)/\Bi k=A5 (EY k.st.obs k.now.2.2.2.2.2.2):=by
 unfold Bi;rw[yX hi.now.fine hi.now.files];exact⟨rfl,rfl⟩
theorem Lp {k:Lk} (hi:Ax k):∀f∈k.now.2.2.2.2.2.2,0<=f.2.2.2.2.2/\f.2.2.2.2.2<=k.now.2.2.1:=fun f hf=>by
 have c:=(KX.1 hi.now.fine).2.2.2 f hf;obtain⟨g,n,-,-,b⟩:=D0 ((FY hi.now.fine).2.1 f hf).1;unfold De Dn at b;simp only[Qm,decide_eq_true_eq]at b;omega
theorem WC {k:Lk} (hi:Ax k):0<=k.now.2.2.1:=by
 have h:=(KX.1 hi.now.fine).1;unfold Em at h;simp only[Qm,decide_eq_true_eq]at h;omega
theorem WD {k c:Lk} {ds:List Dr} {j:Int} {xs:List Rw} (hi:Ax k) (h:Fw k c ds [] j) (i:Ke k c) (o:∀d∈ds,Bp d.1) (E:I6 k.spec xs ds) (F:Gg k.spec xs):(Bi c).Perm (Bi k++xs)/\c.now.2.2.2.2.1=j:=by
 obtain⟨q,l,s,u,v⟩:=Ra hi h o;obtain⟨y,z⟩:=zE E F;refine⟨?_,v⟩;rw[(Ih i.lki).2,(Ih hi).2];have p:=Lp i.lki;refine(Ej _).trans ((Wv l fun f b=>(p f b).1).trans ?_);rw[yY (n:=k.now.2.2.1) (fun f b=>Jq i.old (hi.now.files f b)) (fun f b=>(Lp hi f b).2) (WC hi) ?_]
 ·refine(Ej _).symm.append ?_;have e:((q.map fun f=>Bn f (k.now.2.2.1+1)).flatMap fun f=>(Bw (Aj c.st.obs f).2.data.toList).1)=ds.flatMap fun d=>(Bw d.2.2.data.toList).1:=by
   rw[<-u fun t=>(Bw t.data.toList).1,Qu];refine Gi fun f b=>?_;rw[Wx (i.lki.now.files _ (l.mem_iff.2 (Ql.2 (Qo (Qh.2 ⟨f,b,rfl⟩)))))];rfl
  rw[e];exact y
 ·intro f b;obtain⟨g,B,rfl⟩:=Qh.1 b;obtain⟨C,d,m,n,D⟩:=s g B;refine⟨(Ww C (r:=(Ab (itoa n)).data.toList)).1 (by rw[D,PZ,z d m]),?_⟩;show _<=k.now.2.2.1+1;omega
theorem zF {k b:Lk} {m:Int} {zs:List Int} (hi:Ax k) (h:Fw k b (DV zs) [] m) (c:Ke k b) (Q:∀z∈zs,Ao z=Qf) (v:(A4 zs).length<=40):(Bi b).Perm ((Bi k).filter fun r=> !zs.contains r.2.1)/\b.now.2.2.2.2.1=m:=by
 obtain⟨j,u,p,K,L⟩:=Ra hi h Nd;refine⟨?_,L⟩;rw[(Ih c.lki).2,(Ih hi).2,<-Ux];have y:=Lp c.lki;refine(Ej _).trans ((Wv u fun f hf=>(y f hf).1).trans ?_);refine List.Perm.trans ?_ (Ej _).symm;by_cases o:A4 zs= []
 ·have B:j= []:=by
   rcases j with _ | ⟨f,r⟩
   ·rfl
   ·obtain⟨-,d,q,-⟩:=p f Qy;unfold DV at q;rw[if_pos o]at q;cases q
  have C:∀r:Rw,zs.contains r.2.1=A:=fun r=>by
   rw[<-Qq,Q7,<-Kt zs,o];simp
  rw[B,List.map_nil,Q4,Q5.2 fun r _=>by rw[C];rfl];unfold EY;rw[Gi (f:=BX b.st.obs) (g:=BX k.st.obs) fun x hx=>(IB (Jq c.old (hi.now.files x hx))).2,Gi (f:=Da b.st.obs) (g:=Da k.st.obs) fun x hx=>(IB (Jq c.old (hi.now.files x hx))).1]
 ·have D:DV zs= [(⟨#[103,111,110,101,47]⟩,⟨#[45]⟩,Ab (DK (A4 zs)))]:=by unfold DV;rw[if_neg o]
  have i:=K fun t=> [t];rw[D]at i p;obtain⟨f,rfl,M⟩:∃f,j= [f]/\(AV b.st.obs f.1).1=Ab (DK (A4 zs)):=by
   rcases j with _ | ⟨f,_ | ⟨g,r⟩⟩
   ·simp at i
   ·exact⟨f,rfl,by simpa using i⟩
   ·simp at i
  obtain⟨N,d,l,n,P⟩:=p f Qy;rw[Qn]at l;subst l;have E:f.2.1.data.toList= [45]:=(Ww N (r:=(Ab (itoa n)).data.toList)).2 (by rw[P,PZ]);have s:=c.lki.now.files (Bn f (k.now.2.2.1+1)) (u.mem_iff.2 (by simp));rw[List.map_singleton,yZ (g:=Bn f (k.now.2.2.1+1)) (n:=k.now.2.2.1) (fun f hf=>Jq c.old (hi.now.files f hf)) (Lp hi) ⟨E,by show k.now.2.2.1<k.now.2.2.1+1;omega⟩,Wx s];have F:(B4 (AV b.st.obs (Bn f (k.now.2.2.1+1)).1).1.data.toList).1=A4 zs:=by
   rw[show (AV b.st.obs (Bn f (k.now.2.2.1+1)).1).1=Ab (DK (A4 zs)) from M,BQ,(MV Q v).2]
  rw[F];rw[Qz fun r hr=>?_];rw[Q3];simp only[Q6,<-Qq,Q7];rw[Kt]
theorem zG {s f:St} {d:Dr} {ps:List ByteArray} (h:Puts s [d] f ps):f=B0 s (d.1++Ab (itoa (Ag s))) d.2.2/\ps= [d.1++Ab (itoa (Ag s))]/\BG s (d.1++Ab (itoa (Ag s))) d.2.2=0:=by
 generalize b: [d]=D at h
 cases h with
 | nil=>simp at b
 | @step ds t ps d' h1 h2 =>
  obtain⟨g,i⟩:=List.append_inj' (s₁:= []) (t₁:= [d]) b rfl;cases i
  subst g;generalize c:([]:List Dr)=D at h1
  cases h1 with
  | nil=>exact ⟨rfl,rfl,h2⟩
  | step d h1 h2=>simp at c
theorem zH {d:Dr} {p:ByteArray} {b:List Fl} (h:Fils [d] [p] b):b= [(Cs p d).1]/\(Cs p d).2=0:=by
 obtain⟨g,rfl,c,f⟩:=MU (ds:= []) (ps:= []) h;rw[Lf c];exact⟨rfl,f⟩
theorem WG {f:Fl} (h:At f=0) {n:Int} (i:1<=n) (j:n<=1073741824):At (Bn f n)=0:=by
 obtain⟨g,m,c,d,b⟩:=D0 h;unfold At;rw[show (Bn f n).1=f.1 from rfl,c];dsimp only;rw[if_pos (show Do g (Bn f n).2.1.data.toList=Qf from d)];unfold De Dn at b ⊢;rw[if_pos ?_];show (decide (1<=f.2.2.1) && decide (f.2.2.1<=40) && Ao f.2.2.2.1 && Ao f.2.2.2.2.1 && decide (f.2.2.2.1<=f.2.2.2.2.1) && (decide (1<=n) && decide (n<=1073741824)))=Qf;simp only[Qm,decide_eq_true_eq]at b ⊢;exact⟨b.1,i,j⟩
theorem WH {k:Lk} {d:Dr} {q:Int} (hi:Ax k) (X:Rm 3 k.st) (c:DU d.1) (ht:d.2.2.size<=20000) (ae:Bp d.1) (D:(Cs (d.1++Ab (itoa (Ag k.st))) d).2=0) (hl:k.now.2.2.2.2.2.2.length<=59) (al:k.ids.length<=39) (hs:k.now.2.2.1<=1000) (hx:0<=q/\q<=1073741824):Jv k [d] [] q:=by
 obtain⟨P,B⟩:∃p,d.1++Ab (itoa (Ag k.st))=p:=⟨_,rfl⟩;rw[B]at D;obtain⟨F,C⟩:∃f,(Cs P d).1=f:=⟨_,rfl⟩;have s:At F=0:=by
  obtain⟨g,m,-,-,-,h4⟩:=Le D;rw[<-C];exact h4
 have Y:F.1=P:=by rw[<-C];exact(Lg D).1
 have ah:F.2.2.2.2.2=1:=by
  obtain⟨g,m,-,-,v,-⟩:=Le D;rw[<-C,show (Cs P d).1=_ from v]
 have j:=WC hi;have ai:=Id k.st;have ag:=X.num;have t:Gb P=Ag k.st:=by
  rw[<-B];exact Pc c (E6 _ (by omega) (by omega))
 have E:∀g∈k.now.2.2.2.2.2.2,g.1≠F.1:=fun g W e=>by
  obtain⟨o,R,r⟩:=Pd (MH (hi.now.files g W));have b:=KY R;rw[r,e,Y,t]at b;omega
 have af:k.now.1<Ag k.st:=KZ hi.good.keeps ML hi.now.has;refine⟨X,fun e he=>by rw[Qn.1 he];exact⟨c,ht⟩,fun s1 ps hp=>?_⟩;obtain⟨r,T,e3⟩:=zG hp;rw[B]at r T e3;have aa:Bp P:=by rw[<-B];exact Jr _ _ ae
 have ab:Gw k.st s1:=by rw[r];exact Jp hi.good d.2.2 aa
 have ac:Rm 2 s1:=by
  have:=(La (n:=2) X c ht).2;rw[B,<-r]at this;exact this
 have aj:Ag k.st<Ag s1:=by
  have b:AK s1 P d.2.2:=by rw[r];exact(JY hi.good e3).1
  obtain⟨o,R,e4⟩:=Pd b;have:=KY R;rw[e4,t]at this;exact this
 have ak:=ac.num;refine⟨⟨rfl,fun i fs d' p' b L v=>?_⟩,fun fs hfs=>?_⟩
 ·rw[T]at L v
  cases i with
  | zero =>
   simp only[List.getElem?_cons_zero,Option.some.injEq]at b L;subst b L;have:fs= []:=Lf (by simpa using v);subst this;refine⟨D,?_⟩;rw[C];unfold Fk;rw[if_neg (by rw[WG s (by omega) (by omega)];simp)];rfl
  | succ i=>simp at b
 ·rw[T]at hfs;obtain⟨rfl,-⟩:=zH hfs;rw[C];have M:Fn (k.now, [F], []) k.now=A:=by
   unfold Fn;simp only[List.any_cons,List.any_nil,Bool.or_false];exact Oa.2 E
  have N:Cj (k.now, [F], []):=⟨hi.now.fine,fun f c=>by rw[Qn.1 c];exact s,by simp,by simp,by simp⟩;have ad:=Tn N hi.now.fine M;have l:∀f∈CH (k.now, [F], []) k.now,At f=0/\f.2.2.2.2.2<=k.now.2.2.1+1:=fun f c=>by
   rcases Of.1 c with⟨b,-⟩ | b
   ·have:=Lp hi f b;exact⟨((FY hi.now.fine).2.1 f b).1,by omega⟩
   ·obtain⟨g,W,rfl⟩:=Qh.1 b;rw[Qn.1 W];exact⟨WG s (by show 1<=k.now.2.2.1+1;omega) (by show k.now.2.2.1+1<=1073741824;omega),Int.le_refl _⟩
  have Q:(CH (k.now, [F], []) k.now).length<=60:=by
   have:=iT N hi.now.fine (by rfl);simp only[List.length_nil,List.length_cons]at this;omega
  have u:=ab.good.keeps;have K:(Am (Fm (k.now, [F], []) k.now (Ag s1) s1.day q)).1=0:=by
   refine KX.2 ⟨?_,?_,GJ.2 ⟨Q,fun f c=>⟨(l f c).1,?_⟩,ad⟩,fun f c=>(l f c).2⟩
   ·unfold Em Fm;dsimp only;simp only[Qm,decide_eq_true_eq];have b:=(MQ hi.now.fine);have L:=u.day0;have v:=u.day1;omega
   ·unfold Cp Fm Is;dsimp only;rw[if_neg (by simp)];split
    ·decide
    ·decide
   ·exact Sc (by obtain⟨g,n,b,-⟩:=D0 (l f c).1;rw[b];simp)
  constructor
  ·unfold CV;rw[if_neg (by rw[hi.now.fine];simp),if_neg (by simp[Je]),if_neg (by rw[M];simp)];exact K
  ·unfold Ey;rw[if_neg (by rw[hi.ids];simp)];obtain⟨g1,g2,g3,g4⟩:=DO.1 hi.ids;refine DO.2 ⟨by simp,by simp;omega,fun z j=>?_,?_⟩
   ·rcases Ql.1 j with j | j
    ·exact g3 z j
    ·rw[Qn.1 j];unfold CI;simp only[Qm,decide_eq_true_eq];omega
   ·rw[List.pairwise_append];refine⟨g4,by simp,fun z j y hy=>?_⟩;rw[Qn.1 hy];obtain⟨x,hx⟩:=hi.snaps z j;have:=KZ hi.good.keeps ML hx.has;omega
end
end Go.Proofs.YtcllhobffhkafaaGreatDoor
