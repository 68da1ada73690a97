/- By an AI agent. -/
import Derived.Test.YtcllhobffhkafaaGreatDoorMetaPush
set_option maxRecDepth 100000
set_option maxHeartbeats 16000000
open Go.Proofs.Tryz
open Go renaming World->G,Calls->V,Value->Qa,Addr->Qe,Ending->Qi,cell_of_row->Qk,maxLen->Qo,heap_alloc_new->Qs,lt_of_block->Qt
open Go.Ending renaming returned->A
open Go.IntKind renaming i64->J
open Go.Lib renaming hasSuffix->Ql,trimSuffix->Qm
open Go.RowKit renaming Hid->U
open Go.RowKit.Below renaming size->Qg,refl->Qp,drew->Qu,alloc->Qv
open Go.Value renaming slice->I,int->S,pointer->H,string->Qh,tuple->Qn,ownBlock->Qr,nilIface->Qy
open List renaming length_map->Qq,getElem?_map->Qw,length_cons->Qx
open Nat renaming le_trans->Qc,lt_of_lt_of_le->Qf
open Option renaming some->O,none->Z
open Option.some renaming inj->Qj
open Or renaming inl->Qb,inr->Qd
namespace Go.Proofs.YtcllhobffhkafaaGreatDoor
open Go.RowKit Go.Extern.Stop Go.Stop Go.Extern Go.Sort Go.Shelf Go.Lib
section
variable {a : Nat → Qe} {B : Nat} {EM : G → Prop}
theorem sM (c:Nat×Option Nat) (b:Qa) (w:G) (h:Fj w) (d:AU w a b c) (i:c.1≠0) :
  V prog 67 #[b] w fun e w'=>e=A (Ae a c.1)/\BL w w':=by
 obtain⟨n,o⟩:=c;obtain⟨m,rfl⟩:∃m,n=m+1:=⟨n-1,by dsimp only at i;omega⟩;have f:=Oy m b w a h (by
  cases o with
  | none=>exact Qb d
  | some j =>
   obtain⟨_,k,l,_,p⟩:=d;exact Qd ⟨k,l,p⟩)
 clear h d i
 go_enter func67,ntmps67
 go_wp2_with fail
 refine f.mono ?_;rintro e q ⟨rfl,g⟩;clear f;go_wp2;go_ret;exact⟨rfl,g⟩
def Fw (k k':Lk) (ds:List Dr) (rem:List ByteArray) (idx:Int):Prop :=
 ∃s1 ps fs,Puts k.st ds s1 ps/\Fils ds ps fs/\Cj (k.now,fs,rem)/\(CV (k.now,fs,rem) k.now (Ag s1) s1.day idx).1=0/\k'.now=Dg (k.now,fs,rem) k.now (Ag s1) s1.day idx/\k'.ids=k.ids++ [Ag s1]/\(AD k'.ids).1=0/\k'.spec=k.spec/\B3 k'.st/\(∀x t,AK s1 x t->AK k'.st x t)/\(∃m,k'.st.head=AG m/\CF (AG m).data.toList=true/\AK k'.st (AG m) (Ab (B6 k'.ids))/\Ag s1<m)/\AK k'.st (Cd (Ag s1)) (Ab (BC k'.now))/\∀n,Rm (n+2) s1->Rm n k'.st
def Jv (k:Lk) (ds:List Dr) (rem:List ByteArray) (idx:Int):Prop :=
 Rm (ds.length+2) k.st/\(∀d∈ds,DU d.1/\d.2.2.size<=20000)/\∀s1 ps,Puts k.st ds s1 ps->MP k.now ds ps rem/\∀fs,Fils ds ps fs->(CV (k.now,fs,rem) k.now (Ag s1) s1.day idx).1=0/\(Ey k.ids (Ag s1)).1=0
theorem Rm.le {n m:Nat} {s:St} (h:Rm n s) (f:m<=n):Rm m s:=by
 obtain⟨b,c,g,d,i⟩:=h;exact⟨b,c,by omega,Qc (Nat.add_le_add_left (Nat.mul_le_mul_right _ f) _) d,by omega⟩
def Du (a:Nat->Qe) (W:G) (kb:Nat) (vs:Qa) (SP:Nat->Prop) (vi:Qa) (k:Lk) (ds:List Dr) (rem:List ByteArray) (idx:Int) (e:Qi) (w':G):Prop :=
 ∃n SP' vi' vf' k',e=A (Ae a n)/\Ac (fun j=>SP j\/j=kb) W w'/\(∀j,SP' j->SP j\/W.heap.size<=j)/\((vi'=vi\/∀j,vi'.ownBlock=O j->W.heap.size<=j)/\Ft W kb k vi' vf' k')/\An w' kb vs SP' k'.st.head vi' vf' k'/\((n≠0/\¬Jv k ds rem idx/\∃s',Gw k.st s'/\k'= { k with st:=s' })\/(n=0/\Fw k k' ds rem idx))
theorem Du.bad {W w':G} {f:Nat} {l:Qa} {m b:Nat->Prop} {c vf:Qa} {k:Lk} {ds:List Dr} {g:List ByteArray} {i:Int} {n:Nat} {d:St} (p:n≠0) (q:Ac m W w') (r:∀j,b j->m j\/W.heap.size<=j) (s:An w' f l b k.st.head c vf { k with st:=d }) (o:Gw k.st d) (t:Ft W f k c vf k) (u:¬Jv k ds g i):Du a W f l m c k ds g i (A (Ae a n)) w' :=
 ⟨n,b,c,vf, { k with st:=d },rfl,q.mono (fun _ h=>Qb h),r,⟨Qb rfl,t⟩,by show An w' f l b d.head c vf _;rw[o.head];exact s,Qb ⟨p,u,d,o,rfl⟩⟩
theorem Dk.done {W W5 w':G} {i:Nat} {q:Qa} {o SY:Nat->Prop} {p vf r s:Qa} {k:Lk} {b:St} {ds:List Dr} {ps c:List ByteArray} {f:List Fl} {d:Int} {e:Qi} (h:Dk a W5 i q SY p vf { k with st:=b } r s (k.ids++ [Ag b]) (Dg (k.now,f,c) k.now (Ag b) b.day d) (Ge { k with st:=b } (Dg (k.now,f,c) k.now (Ag b) b.day d)) (Fv { k with st:=b } (Dg (k.now,f,c) k.now (Ag b) b.day d)) e w') (hb:Ac o W W5) (hS:∀j,SY j->o j\/W.heap.size<=j) (hg:Gw k.st b) (h1:Puts k.st ds b ps) (h2:Fils ds ps f) (h3:Cj (k.now,f,c)) (h4:(CV (k.now,f,c) k.now (Ag b) b.day d).1=0) (h5:(AD (k.ids++ [Ag b])).1=0) (h0:Ft W i k p vf k) (y:∀j,r.ownBlock=O j->W.heap.size<=j) (aa:DP W s):Du a W i q o p k ds c d e w':=by
 obtain⟨n,l,L,z,M,B⟩:=h;have E:Ac (fun j=>o j\/j=i) W w':=(hb.mono (fun _ h=>Qb h)).trans z (fun j hj hjl=>hj.elim (fun h=>(hS j h).elim Qb (fun e=>absurd hjl (by omega))) Qd);have t:∀j,l j->o j\/W.heap.size<=j:=fun j hj=>(M j hj).elim (hS j) (fun e=>Qd (Qc hb.size e));have F:(Dg (k.now,f,c) k.now (Ag b) b.day d).1=Ag b:=by rw[(JM h4).2.2.2.2];rfl
 unfold Ge Fv at B;rw[F]at B;rcases B with⟨C,hG,g,u,D⟩|⟨C,g,m,N,P,v,Q,R,⟨T,X,Y⟩,D⟩
 ·have K:=hg.trans u;refine⟨n,l,p,vf, { k with st:=g },L,E,t,⟨Qb rfl,h0⟩,?_,Qb ⟨C,fun h=>hG ⟨rfl,h1.rm h.1 h.2.1⟩,g,K,rfl⟩⟩;show An w' i q l g.head p vf _;rw[u.head];exact D
 ·refine⟨n,l,r,s, { k with st:=g,ids:=k.ids++ [Ag b],now:=Dg (k.now,f,c) k.now (Ag b) b.day d },L,E,t,⟨Qd y,fun j hj=>Qb (hj.elim (y j) (fun h=>aa j h.2))⟩,?_,Qd ⟨C,b,ps,f,h1,h2,h3,h4,rfl,rfl,h5,rfl,N,P,⟨m,v,Q,R,X⟩,T,Y rfl⟩⟩;show An w' i q l g.head r s _;rw[v];exact D
theorem sN {W d:G} {a:Nat->Qe} {f:Qa} {c:Nat×Option Nat} (b:AU W a f c) (g:BL W d):AU d a f c:=by
 unfold AU at *;split at b
 ·exact b
 ·obtain⟨i,j,k,l,m⟩:=b;exact⟨i,j,k,Aa g l,Aa g m⟩
theorem sO {X:G} {b:Nat} {p:Qa} (q:Al X b AC p) {a:Nat->Qe} {j:Qa} {c:Nat×Option Nat} (g:AU X a j c) {r s t u v y z:Qa} :AU (((((((X.setCell ⟨b,0,Z⟩ r).setCell ⟨b,1,Z⟩ s).setCell ⟨b,2,Z⟩ t).setCell ⟨b,3,Z⟩ u).setCell ⟨b,4,Z⟩ v).setCell ⟨b,5,Z⟩ y).setCell ⟨b,6,Z⟩ z) a j c:=by
 unfold AU at *;split at g
 ·exact g
 ·obtain⟨k,i,l,m,f⟩:=g;have d:i≠b:=fun e=>by
   subst e;have:=q.cells.2.1;rw[this]at f;have:=Qj f;obtain⟨n,o⟩:∃n,c.1=n+1:=⟨c.1-1,by omega⟩;rw[o]at this;cases this
  exact⟨k,i,l,Fu m d,Fu f d⟩
theorem sP {W f:G} {P:Nat->Prop} {v:Qa} {g:List ByteArray} (h:BS W v g) (l:Ac P W f) (m:∀j,v.ownBlock=O j->¬P j):BS f v g:=by
 rcases h with h | ⟨b,c,d,i,k⟩
 ·exact Qb h
 ·exact Qd ⟨b,c,d,i,fun j hj=>l.keep (m b (by rw[d];rfl)) (k j hj)⟩
theorem sQ {s:St} {n t:ByteArray} (c:BG s n t=0):CF n.data.toList=true:=by
 unfold BG at c;split at c
 ·rename_i b;exact absurd c b
 ·rename_i b;exact(OT (by simpa using b)).2.2
theorem Puts.names {s c:St} {ds:List Dr} {ps:List ByteArray} (h:Puts s ds c ps) (f:∀d∈ds,d.1.size<=100):∀p∈ps,p.size<=1000:=by
 induction h with
 | nil=>intro p b;cases b
 | step d h0 hc ih =>
  intro p b;rcases List.mem_append.1 b with b | b
  ·exact ih (fun e he=>f e (List.mem_append_left _ he)) p b
  ·rw[List.mem_singleton]at b;have:=G5 (sQ hc);rw[b];omega
theorem Pn (K:AJ a B EM A0) (HL:∀X,EM X->Bg X a) {W:G} {l:Nat} {vs:Qa} {t:Nat->Prop} {vi vf:Qa} {k:Lk} (hE:EM W) (h:An W l vs t k.st.head vi vf k) (hi:Ax k) (hB:B<=l/\∀j,t j->B<=j) {D:Nat} {vd vr:Qa} {ds:List Dr} {b:List ByteArray} (hd:AZ W D vd ds) (hr:BS W vr b) (b7:∀j,vd.ownBlock=O j->¬t j) (cs:∀j,vr.ownBlock=O j->¬t j) (dp:ds.length<=100) (b8:b.length<=1000) (aj:∀d∈ds,Bp d.1/\d.1.size<=100/\d.2.1.size<=1000/\d.2.2.size<=100000) (g:Int) :
  V prog 60 #[H (O ⟨l,0,Z⟩),.agg #[vd,vr],S J g] W (Du a W l vs t vi k ds b g):=by
 have b9:k.st.head.size<=1000:=by
  obtain⟨m,e,h1,-⟩:=hi.head;rw[e];have:=G5 h1;omega
 have ca:U (B<=W.heap.size/\l<W.heap.size):=⟨K.size _ hE,h.blk.lt⟩;obtain⟨db,cm⟩:=Ju hi.now.fine;obtain⟨-,dc,-,-⟩:=DO.1 hi.ids;have a2:U (Ft W l k vi vf k):=h.owt
 -- the four calls,each where it is met
 have ag:U (∀X,Ac t W X->EM X):=fun X hb=>K.below _ _ hE (hb.below ca.out.1 hB.2);have aa:U (∀X,BL W X->V prog 110 #[H (O ⟨l,0,Z⟩),vd] X (MO a X l vs t k.st.head vi vf k ds)):=fun X hb=>qW K HL (ag.out X (Ac.of_below hb)) (h.quiet K hb) hi.good hB.2 (hd.below hb) (fun d hd=>⟨(aj d hd).1,(aj d hd).2.1,(aj d hd).2.2.2⟩) b7 (by omega);have bd:U (∀X SX s vp ps,Ac t W X->An X l vs SX k.st.head vi vf { k with st:=s } ->BS X vp ps->Puts k.st ds s ps->V prog 111 #[H (O ⟨l,0,Z⟩),.agg #[vd,vr],vp] X (Kc a X k.now ds ps b)):=fun X SX s vp ps hb hQ hvp av=>sC K HL (ag.out X hb) hQ hi.now.fine (hd.but hb b7) (sP hr hb cs) hvp av.len.symm (by omega) b8 (fun d hd=>⟨(aj d hd).2.2.1,by unfold Qo;have:=(aj d hd).2.2.2;omega⟩) (av.names (fun d hd=>(aj d hd).2.1));have be:U (∀X ev c,Ac t W X->AU X a ev c->c.1≠0->V prog 67 #[ev] X fun e w'=>e=A (Ae a c.1)/\BL X w'):=fun X ev c hb ht h0=>sM c ev X (HL X (ag.out X hb)).x.hand ht h0;have cc:U (∀X SX s,Ac t W X->B3 s->An X l vs SX k.st.head vi vf { k with st:=s } ->V prog 70 #[vs] X fun e w'=>e=A (S J (Ag s))/\BL X w'):=fun X SX s hb hg hQ=>MI K (fun Y hY=>(HL Y hY).s) X _ SX s (ag.out X hb) hQ.st hg.keeps (fun o ho=>by have:=G5 (hg.keeps.names o ho);omega) hg.slb;have ce:U (∀X SX s,Ac t W X->B3 s->An X l vs SX k.st.head vi vf { k with st:=s } ->V prog 77 #[vs] X fun e w'=>e=A (S J s.day)/\BL X w'):=fun X SX s hb hg hQ=>K.day X _ SX s (ag.out X hb) hQ.st hg.keeps;have cg:U (∀X D v FP C id day,Ac t W X->Ai X vf k.now.2.2.2.2.2.2->CJ 312 D X v FP (k.now,C,b)->Cj (k.now,C,b)->C.length=ds.length->V prog 112 #[v,A9 k.now vf,S J id,S J day,S J g] X fun e w'=>Ka X a (CV (k.now,C,b) k.now id day g) (Dg (k.now,C,b) k.now id day g) e w'):=fun X D v FP C id day hb hx hT aw hl=>rX D v FP (k.now,C,b) k.now vf id day g X a (HL X (ag.out X hb)).x hT aw hx (by omega) cm (by show C.length<=100;omega) b8;have bp:U (∀X z,Ac t W X->C4 X vi k.ids->V prog 113 #[vi,S J z] X fun e w'=>Kd X a (Fq k.ids z) (Ey k.ids z) e w'):=fun X z hb M=>sL vi k.ids z X a (HL X (ag.out X hb)).m M (by omega);have bq:U (∀X SX s vj vg ids now,Ac t W X->(∀j,SX j->t j\/W.heap.size<=j)->Gw k.st s->An X l vs SX k.st.head vi vf { k with st:=s } ->C4 X vj ids->(AD ids).1=0->DS vj ids l SX->Ai X vg now.2.2.2.2.2.2->DS vg now.2.2.2.2.2.2 l SX->(Am now).1=0->V prog 71 #[H (O ⟨l,0,Z⟩),A9 now vg,vj] X (Dk a X l vs SX vi vf { k with st:=s } vj vg ids now (Ge { k with st:=s } now) (Fv { k with st:=s } now))):=fun X SX s vj vg ids now hb hS hg hQ hj hje hjo hv hvo hne=>by
  have cw:An X l vs SX ({ k with st:=s } :Lk).st.head vi vf { k with st:=s } :=by
   show An X l vs SX s.head vi vf _;rw[hg.head];exact hQ
  exact Vs K HL (ag.out X hb) cw hg.good ⟨hB.1,fun j hj=>(hS j hj).elim (hB.2 j) (fun e=>Qc ca.out.1 e)⟩ (by show s.head.size<=1000;rw[hg.head];exact b9) vj vg ids now hj hje hjo hv hvo hne
 have cx:U (An W l vs t k.st.head vi vf k):=h;have dq:U (B3 k.st/\∀d∈ds,Bp d.1):=⟨hi.good,fun d hd=>(aj d hd).1⟩;have cy:U ((AD k.ids).1=0):=hi.ids;obtain⟨pt,bg⟩:=h.ptr K;have ak:BL W (W.alloc (.cells #[vd,vr] 100)):=Af _ _;have ab:=Qs W (.cells #[vd,vr] 100);obtain⟨qd,cd,dd,-⟩:=hd.at;obtain⟨qr,cr,de⟩:=hr.form;obtain⟨qf,cf,df⟩:=h.fls.form;obtain⟨qi,ci,bh⟩:=h.ids.1.form;subst dd de bg df bh;have br:U (¬t W.heap.size):=fun e=>absurd ((h.sizes K).2 _ e) (by omega);clear hE h hi hB hd hr b7 cs aj b9 db cm dc;generalize ds.length=L at dp ak ab aa bd ⊢;generalize b.length=R at b8 ak ab bd ⊢
 go_enter func60,ntmps60
 go_upto_region 1 with fail
 generalize W.alloc (.cells #[I qd L cd,I qr R cr] 100)=WA at ak ab ⊢;obtain⟨cb,bc⟩:∃n,W.heap.size=n:=⟨_,rfl⟩;have dr:U (W.heap.size=cb):=bc;rw[bc]at ab br ⊢;clear bc;have a0:WA.cell? ⟨cb,0,Z⟩=O (I qd L cd):=by rw[Qk _ _ _ _ _ _ ab];rfl
 have ch:=aa.out WA ak
 go_wp2_with fail
 refine ch.mono ?_;rintro e w2 ⟨v2,n2,af,f,rfl,b1,b2,ai,bb,bm,b3⟩;have ct:U (n2≠0->¬MN k.st ds):=bm;clear bm;have a3:Ac t W w2:=(Ac.of_below ak).trans b1 (fun _ h _=>h);have an:∀j,af j->t j\/W.heap.size<=j:=fun j hj=>(b2 j hj).imp_right (Qc ak.size);have ax:=(b1.block cb (Qt ab) br.out).trans ab;have dt:U (¬af cb):=fun e=>(b2 cb e).elim br.out (fun e'=>absurd (Qt ab) (by omega));clear ch a0 ab b1 b2 aa ak;by_cases ac:n2=0
 case neg =>
  have N:U (Du a W l (H (O pt)) t (I qi k.ids.length ci) k ds b g (A (Ae a n2)) w2):=Du.bad ac a3 an bb ai a2.out (fun h=>ct.out ac ⟨h.1.le (by omega),h.2.1⟩);obtain⟨i,rfl⟩:∃i,n2=i+1:=⟨n2-1,by omega⟩;simp only[Ae]at N ⊢;clear bb b3 ac a3 ax;go_wp2;go_ret;exact N.out
 case pos =>
 subst ac;obtain⟨ps,av,bx⟩:=b3 rfl;have bs:=Iw bx;obtain⟨qv,cv,rfl⟩:=bs.form;have ay:U (Puts k.st ds f ps):=av;have bt:=bd.out w2 af f _ ps a3 bb bs av;have a0:w2.cell? ⟨cb,0,Z⟩=O (I qd L cd):=by rw[Qk _ _ _ _ _ _ ax];rfl
 have a1:w2.cell? ⟨cb,1,Z⟩=O (I qr R cr):=by rw[Qk _ _ _ _ _ _ ax];rfl
 generalize ps.length=PL at bt ⊢;simp only[Ae];clear b3 bx bs av bd ax
 go_wp2_with fail
 refine bt.mono ?_;rintro e Q ⟨v3,n3,rfl,b4,bn,b5⟩;have cu:U (n3≠0->¬MP k.now ds ps b):=bn;clear bn;have T:Ac t W Q:=a3.trans (Ac.of_below (P:=fun _=>False) b4) (fun _ h _=>h.elim);have ad:=bb.quiet K b4;clear bt a0 a1 b4 bb a3;by_cases a4:n3=0
 case neg =>
  have E:=be.out Q (Ae a n3) (n3,Z) T rfl a4;obtain⟨i,rfl⟩:∃i,n3=i+1:=⟨n3-1,by omega⟩;have N:U (∀X,BL Q X->Du a W l (H (O pt)) t (I qi k.ids.length ci) k ds b g (A (Ae a (i+1))) X):=fun X hX=>Du.bad a4 (T.trans (Ac.of_below (P:=fun _=>False) hX) (fun _ h _=>h.elim)) an (ad.quiet K hX) ai a2.out (fun h=>cu.out a4 (h.2.2 f ps ay.out).1);simp only[Ae]at N E ⊢;clear ad b5 a4 T
  go_wp2_with fail
  refine E.mono ?_;rintro e w4 ⟨rfl,am⟩;clear E;go_wp2;go_ret;exact N.out _ am
 case pos =>
 subst a4;obtain⟨C,FP,D,bi,hT,dg,aw,cn⟩:=b5 rfl;simp only[Ae];have cz:U (Fils ds ps C/\Cj (k.now,C,b)):=⟨bi,aw⟩;have cj:U (∀X,BL Q X->V prog 70 #[H (O pt)] X fun e w'=>e=A (S J (Ag f))/\BL X w'):=fun X hX=>cc.out X af f (T.trans (Ac.of_below (P:=fun _=>False) hX) (fun _ h _=>h.elim)) ai.good (ad.quiet K hX);have ck:U (∀X,BL Q X->V prog 77 #[H (O pt)] X fun e w'=>e=A (S J f.day)/\BL X w'):=fun X hX=>ce.out X af f (T.trans (Ac.of_below (P:=fun _=>False) hX) (fun _ h _=>h.elim)) ai.good (ad.quiet K hX);have a5:U (∀X,BL Q X->V prog 112 #[v3,A9 k.now (I qf k.now.2.2.2.2.2.2.length cf),S J (Ag f),S J f.day,S J g] X fun e w'=>Ka X a (CV (k.now,C,b) k.now (Ag f) f.day g) (Dg (k.now,C,b) k.now (Ag f) f.day g) e w'):=fun X hX=>cg.out X D v3 FP C _ _ (T.trans (Ac.of_below (P:=fun _=>False) hX) (fun _ h _=>h.elim)) (ad.fls.below hX) (hT.below hX) aw cn;have a6:U ((CV (k.now,C,b) k.now (Ag f) f.day g).1=0->(Am (Dg (k.now,C,b) k.now (Ag f) f.day g)).1=0/\(Dg (k.now,C,b) k.now (Ag f) f.day g).1=Ag f):=fun h0=>by
  obtain⟨-,-,-,h4,h5⟩:=JM h0;rw[h5];exact⟨h4,rfl⟩
 have a7:U (∀SY W5 vj vg e w',Dk a W5 l (H (O pt)) SY (I qi k.ids.length ci) (I qf k.now.2.2.2.2.2.2.length cf) { k with st:=f } vj vg (k.ids++ [Ag f]) (Dg (k.now,C,b) k.now (Ag f) f.day g) (Ge { k with st:=f } (Dg (k.now,C,b) k.now (Ag f) f.day g)) (Fv { k with st:=f } (Dg (k.now,C,b) k.now (Ag f) f.day g)) e w'->Ac t W W5->(∀j,SY j->t j\/W.heap.size<=j)->(CV (k.now,C,b) k.now (Ag f) f.day g).1=0->(AD (k.ids++ [Ag f])).1=0->(∀j,vj.ownBlock=O j->W.heap.size<=j)->DP W vg->Du a W l (H (O pt)) t (I qi k.ids.length ci) k ds b g e w'):=fun SY W5 vj vg e w' h1 h2 h3 h4 h5 h6 h7=>h1.done h2 h3 ai ay.out bi aw h4 h5 a2.out h6 h7;have bu:U (Jv k ds b g->(CV (k.now,C,b) k.now (Ag f) f.day g).1=0/\(Ey k.ids (Ag f)).1=0):=fun h=>(h.2.2 f ps ay.out).2 C bi;generalize Dg (k.now,C,b) k.now (Ag f) f.day g=u at a5 a6 a7;generalize CV (k.now,C,b) k.now (Ag f) f.day g=TE at a5 a6 a7 bu;obtain⟨k0,-,-,-,k4,k5,k6,k7,k8,k9,co,-⟩:=ad.blk.cells;dsimp only at k4 k5 k6 k7 k8 k9 co;unfold Ka A9 at a5;clear b5 hT bi aw cn dg cc ce cg
 go_upto_region 7 with fail
 go_cut [8,10] from 33 to 52 (fun c8 c10 wx=> ∃xb v2 ev,c10=H (O ⟨xb,0,Z⟩)/\c8=ev/\Al wx xb u v2/\Ai wx v2 u.2.2.2.2.2.2/\DP Q v2/\AU wx a ev TE/\BL Q wx)
 case first =>
  have du:BL Q Q:=Qp _ _;have F:l<Q.heap.size:=BD k0;obtain⟨T1,T2,T3,T4,T5,T6,Tf⟩:=u;clear ad T a6 a7 cz ay bq bp be cx
  go_region_held3 (fun w'=>BL Q w'/\w'.cell? ⟨l,0,Z⟩=O (H (O pt))/\w'.cell? ⟨l,4,Z⟩=O (S J k.now.1)/\w'.cell? ⟨l,5,Z⟩=O (S J k.now.2.1)/\w'.cell? ⟨l,6,Z⟩=O (S J k.now.2.2.1)/\w'.cell? ⟨l,7,Z⟩=O (S J k.now.2.2.2.1)/\w'.cell? ⟨l,8,Z⟩=O (S J k.now.2.2.2.2.1)/\w'.cell? ⟨l,9,Z⟩=O (Qh k.now.2.2.2.2.2.1)/\w'.cell? ⟨l,10,Z⟩=O (I qf k.now.2.2.2.2.2.2.length cf))
   (first
    | (go_split_ands;with_reducible exact⟨Below.trans (by with_reducible assumption) (r.mono (Qg (by with_reducible assumption))),Aa r (by with_reducible assumption),Aa r (by with_reducible assumption),Aa r (by with_reducible assumption),Aa r (by with_reducible assumption),Aa r (by with_reducible assumption),Aa r (by with_reducible assumption),Aa r (by with_reducible assumption),Aa r (by with_reducible assumption)⟩)
    | (go_split_ands;with_reducible exact⟨Lc (by with_reducible assumption) y y,Dj (by with_reducible assumption) (Qf F y),Dj (by with_reducible assumption) (Qf F y),Dj (by with_reducible assumption) (Qf F y),Dj (by with_reducible assumption) (Qf F y),Dj (by with_reducible assumption) (Qf F y),Dj (by with_reducible assumption) (Qf F y),Dj (by with_reducible assumption) (Qf F y),Dj (by with_reducible assumption) (Qf F y)⟩)
    | (go_split_ands;with_reducible refine⟨Pe (by with_reducible assumption) ?_,Fu (by with_reducible assumption) ?_,Fu (by with_reducible assumption) ?_,Fu (by with_reducible assumption) ?_,Fu (by with_reducible assumption) ?_,Fu (by with_reducible assumption) ?_,Fu (by with_reducible assumption) ?_,Fu (by with_reducible assumption) ?_,Fu (by with_reducible assumption) ?_⟩;all_goals omega)
    | (go_split_ands;with_reducible refine⟨Qu (by with_reducible assumption),?_,?_,?_,?_,?_,?_,?_,?_⟩;all_goals go_keep)
    | (go_split_ands;with_reducible refine⟨Qv (by with_reducible assumption) (Qg (by with_reducible assumption)) _,?_,?_,?_,?_,?_,?_,?_,?_⟩;all_goals go_keep)
    | (go_split_ands;with_reducible refine⟨Qu (Qv (by with_reducible assumption) (Qg (by with_reducible assumption)) _),?_,?_,?_,?_,?_,?_,?_,?_⟩;all_goals go_keep)
    | (go_split_ands;with_reducible exact⟨by assumption,by assumption,by assumption,by assumption,by assumption,by assumption,by assumption,by assumption,by assumption⟩))
   (first
    | (go_at_call 70;with_reducible refine(cj.out _ (by go_split_ands;with_reducible assumption)).mono ?_;rintro e wX ⟨rfl,r⟩;have y:Q.heap.size<=wX.heap.size:=(by go_split_ands;exact Qc (Qg (by with_reducible assumption)) r.size);(first | (with_reducible have M:=Al.below (Ld _) r) | (with_reducible have M:=Al.below (JZ _) r) | (with_reducible have M:=Al.below M r) | skip))
    | (go_at_call 77;with_reducible refine(ck.out _ (by go_split_ands;with_reducible assumption)).mono ?_;rintro e wX ⟨rfl,r⟩;have y:Q.heap.size<=wX.heap.size:=(by go_split_ands;exact Qc (Qg (by with_reducible assumption)) r.size);(first | (with_reducible have M:=Al.below (Ld _) r) | (with_reducible have M:=Al.below (JZ _) r) | (with_reducible have M:=Al.below M r) | skip))
    | (go_at_call 112;with_reducible refine(a5.out _ (by go_split_ands;with_reducible assumption)).mono ?_;rintro e wX ⟨v2,ev,rfl,b6,ac,cq,r⟩;have ac:DP Q v2:=DP.low ac (by go_split_ands;exact Qg (by with_reducible assumption));have y:Q.heap.size<=wX.heap.size:=(by go_split_ands;exact Qc (Qg (by with_reducible assumption)) r.size);obtain⟨q2,c2,rfl⟩:=b6.form;(first | (with_reducible have M:=Al.below (Ld _) r) | (with_reducible have M:=Al.below (JZ _) r) | (with_reducible have M:=Al.below M r) | skip);(first | (obtain⟨y0,y1,y2,y3,y4,y5,y6,yf⟩:=M.zeros) | skip)))
  all_goals go_split_ands
  all_goals go_wp2
  all_goals go_meet
  all_goals first
   | (with_reducible exact⟨_,_,_,rfl,rfl,Pf _ _ _ _ _ _ _ _ _,Ai.below b6 (Af _ _),ac,sN cq (Af _ _),by assumption⟩)
   | (with_reducible exact⟨_,_,_,rfl,rfl,Pg M _ _ _ _ _ _ _ _,Ph M _ _ _ _ _ _ _ b6,ac,sO M cq,by assumption⟩)
 case rest =>
 obtain⟨xb,v2,ev,rfl,rfl,bj,bz,cp,ht,am⟩:=hcut;have c0:U (DP W v2):=fun j hj=>Qc T.size (cp j hj);clear cp;obtain⟨W4,dh⟩:∃X,X=wc:=⟨_,rfl⟩;subst dh;have al:Ac t W W4:=T.trans (Ac.of_below (P:=fun _=>False) am) (fun _ h _=>h.elim);have ae:=ad.quiet K am;clear ad T am k0 k4 k5 k6 k7 k8 k9 co cj ck a5;by_cases hE:TE.1=0
 case neg =>
  have E:=be.out W4 _ TE al ht hE;obtain⟨tt,uu,rfl⟩:=ht.bad hE;have N:U (∀X,BL W4 X->Du a W l (H (O pt)) t (I qi k.ids.length ci) k ds b g (A (Ae a TE.1)) X):=fun X hX=>Du.bad hE (al.trans (Ac.of_below (P:=fun _=>False) hX) (fun _ h _=>h.elim)) an (ae.quiet K hX) ai a2.out (fun h=>hE (bu.out h).1);obtain⟨i,hi⟩:∃i,TE.1=i+1:=⟨TE.1-1,by omega⟩;rw[hi]at N E;simp only[Ae]at N E ⊢;clear ae bj bz ht hE hi al
  go_wp2_with fail
  refine E.mono ?_;rintro e w4 ⟨rfl,am⟩;clear E;go_wp2;go_ret;exact N.out _ am
 case pos =>
 obtain rfl:=ht.ok hE;have bf:U ((Am u).1=0/\u.1=Ag f):=a6.out hE;have c1:U (TE.1=0):=hE;have aa:U (∀X,BL W4 X->V prog 113 #[I qi k.ids.length ci,S J u.1] X fun e w'=>Kd X a (Fq k.ids u.1) (Ey k.ids u.1) e w'):=fun X hX=>bp.out X _ (al.trans (Ac.of_below (P:=fun _=>False) hX) (fun _ h _=>h.elim)) ⟨ae.ids.1.below hX,ae.ids.2⟩;have bv:U ((Ey k.ids u.1).1=0->Fq k.ids u.1=k.ids++ [u.1]/\(AD (k.ids++ [u.1])).1=0):=fun h0=>by
  refine⟨by unfold Fq;rw[if_pos h0],?_⟩;unfold Ey at h0;rw[if_neg (by rw[cy.out];simp)]at h0;exact h0
 have cl:U (Jv k ds b g->(Ey k.ids u.1).1=0):=fun h=>by
  show _=_;rw[bf.out.2];exact(bu.out h).2
 unfold Kd at aa;generalize Fq k.ids u.1=PI at aa bv;generalize Ey k.ids u.1=PE at aa bv cl;have ao:BL W4 W4.drew:=(Qp _ _).drew;obtain⟨-,-,-,c3,-⟩:=ae.blk.cells;have c4:=Aa ao c3;have x0:=bj.cells.1;have c6:=Aa ao x0;clear ht hE a6 bp
 go_upto_region 10 with fail
 go_cut [8,11] from 57 to 66 (fun c8 c11 wx=> ∃v5 a8,v5=c11/\a8=c8/\C4 wx v5 PI/\Iy W4 v5/\AU wx a a8 PE/\BL W4 wx)
 case first =>
  go_region_with ((go_at_call 113;(with_reducible refine(aa.out _ ao).mono ?_);rintro e wZ ⟨v5,a8,rfl,dj,dk,dl,dm⟩))
  all_goals
   go_wp2;go_meet
   case rel=>exact ⟨v5,a8,rfl,rfl,dj,fun j hj=>Qc ao.size (dk j hj),dl,(Ad ao dm)⟩
 case rest =>
 obtain⟨v5,a8,rfl,rfl,bk,bl,a9,ba⟩:=hcut;have ap:Ac t W wc:=al.trans (Ac.of_below (P:=fun _=>False) ba) (fun _ h _=>h.elim);have aq:=ae.quiet K ba;have bw:=bj.below ba;have ar:=bz.below ba;have c7:U (∀j,v5.ownBlock=O j->W.heap.size<=j):=fun j hj=>Qc al.size (bl j hj);have c9:U (∀j,v5.ownBlock=O j->j≠l/\¬af j):=fun j hj=>⟨fun e=>by have:=bl j hj;have:=ae.blk.lt;omega,fun e=>by have:=bl j hj;have:=(ae.sizes K).2 j e;omega⟩;clear ae bj bz al bl ba c3 c4 x0 c6 ao aa;by_cases ah:PE.1=0
 case neg =>
  have E:=be.out wc _ PE ap a9 ah;obtain⟨tt,uu,rfl⟩:=a9.bad ah;have N:U (∀X,BL wc X->Du a W l (H (O pt)) t (I qi k.ids.length ci) k ds b g (A (Ae a PE.1)) X):=fun X hX=>Du.bad ah (ap.trans (Ac.of_below (P:=fun _=>False) hX) (fun _ h _=>h.elim)) an (aq.quiet K hX) ai a2.out (fun h=>ah (cl.out h));obtain⟨i,hi⟩:∃i,PE.1=i+1:=⟨PE.1-1,by omega⟩;rw[hi]at N E;simp only[Ae]at N E ⊢;clear aq bw ar bk a9 ah hi ap
  go_wp2_with fail
  refine E.mono ?_;rintro e w6 ⟨rfl,dn⟩;clear E;go_wp2;go_ret;exact N.out _ dn
 case pos =>
 obtain rfl:=a9.ok ah;obtain⟨di,b0⟩:=bv.out ah;subst di;obtain⟨q5,c5,rfl⟩:=bk.1.form;obtain⟨q2,c2,rfl⟩:=ar.form;have bg:∃p,(H (O pt))=H p:=⟨_,rfl⟩;have bh:∃q n c,(I qi k.ids.length ci)=I q n c:=⟨_,_,_,rfl⟩;have au:=bq.out wc af f (I q5 (k.ids++ [u.1]).length c5) (I q2 u.2.2.2.2.2.2.length c2) (k.ids++ [u.1]) u ap an ai aq bk b0 (fun _ j hj=>c9.out j hj) ar (fun hne j hj=>⟨jT aq.blk bg bh ar hne hj,jS aq.st ar hne hj⟩) bf.out.1;have az:U (∀e w',Dk a wc l (H (O pt)) af (I qi k.ids.length ci) (I qf k.now.2.2.2.2.2.2.length cf) { k with st:=f } (I q5 (k.ids++ [u.1]).length c5) (I q2 u.2.2.2.2.2.2.length c2) (k.ids++ [u.1]) u (Ge { k with st:=f } u) (Fv { k with st:=f } u) e w'->Du a W l (H (O pt)) t (I qi k.ids.length ci) k ds b g e w'):=fun e w' bo=>by
  have h1:=bf.out.2;have h2:=b0;rw[h1]at h2;refine a7.out af wc (I q5 (k.ids++ [u.1]).length c5) (I q2 u.2.2.2.2.2.2.length c2) e w' ?_ ap an c1.out h2 c7.out c0.out;rw[<-h1];rw[<-h1]at h2;exact bo
 generalize (k.ids++ [u.1]).length=L5 at au az ⊢;obtain⟨T1,T2,T3,T4,T5,T6,Tf⟩:=u;obtain⟨x0,x1,x2,x3,x4,x5,x6⟩:=bw.cells;dsimp only at x0 x1 x2 x3 x4 x5 x6 au az ⊢;unfold A9 at au;dsimp only at au;clear aq bw ar bk a9 ah ap bq a7 bg bh b0 bf
 go_wp2_with fail
 refine au.mono ?_;rintro e w7 bo;have N:=az.out e w7 bo;have da:U (Du a W l (H (O pt)) t (I qi k.ids.length ci) k ds b g e w7):=N;obtain⟨n,SZ,dv,dw,k',rfl,-⟩:=N;clear au bo az;go_wp2;go_ret;exact da.out
end
section
variable {a : Nat → Qe} {B : Nat} {EM : G → Prop}
def Dv (n:Int):Sn:=(n,0,0,0,0,⟨#[115,116,97,114,116]⟩, [])
theorem sR (K:AJ a B EM A0) (HL:∀X,EM X->Bg X a) {W:G} {g:Nat} {vs:Qa} {i:Nat->Prop} {E vf:Qa} {k:Lk} (hE:EM W) (h:An W g vs i k.st.head E vf k) (F:B3 k.st) (hB:B<=g/\∀j,i j->B<=j) (ac:k.st.head.size<=1000) (ad:(Am (Dv (Ag k.st))).1=0) (ae:(AD [Ag k.st]).1=0) :
  V prog 33 #[H (O ⟨g,0,Z⟩)] W fun e w'=> ∃vj,(∀j,vj.ownBlock=O j->W.heap.size<=j)/\Dk a W g vs i E vf k vj (I Z 0 0) [Ag k.st] (Dv (Ag k.st)) (Ge k (Dv (Ag k.st))) (Fv k (Dv (Ag k.st))) e w':=by
 obtain⟨L,rfl⟩:=h.ptr K;have P:U (∀X,BL W X->EM X):=fun X hb=>K.below _ _ hE (hb.mono (K.size _ hE));have HQ:U (∀X,BL W X->An X g (H (O L)) i k.st.head E vf k):=fun X hb=>h.quiet K hb;have Q:U (∀X,BL W X->V prog 70 #[H (O L)] X fun e w'=>e=A (S J (Ag k.st))/\BL X w'):=fun X hb=>MI K (fun Y hY=>(HL Y hY).s) X _ i k.st (P.out X hb) (HQ.out X hb).st F.keeps (fun o ho=>by have:=G5 (F.keeps.names o ho);omega) F.slb;have t:U (∀X vj,BL W X->C4 X vj [Ag k.st]->(∀j,vj.ownBlock=O j->W.heap.size<=j)->V prog 71 #[H (O ⟨g,0,Z⟩),A9 (Dv (Ag k.st)) (I Z 0 0),vj] X (fun e w'=> ∃M,e=A M/\∃vj,(∀j,vj.ownBlock=O j->W.heap.size<=j)/\Dk a W g (H (O L)) i E vf k vj (I Z 0 0) [Ag k.st] (Dv (Ag k.st)) (Ge k (Dv (Ag k.st))) (Fv k (Dv (Ag k.st))) (A M) w')):=fun X vj hb hj hnj=>(Vs K HL (P.out X hb) (HQ.out X hb) F hB ac vj (I Z 0 0) [Ag k.st] (Dv (Ag k.st)) hj ae (fun _ j hv=>⟨fun e=>by have:=hnj j hv;have:=h.blk.lt;omega,fun e=>by have:=hnj j hv;have:=(h.sizes K).2 j e;omega⟩) (Qb ⟨Z,0,rfl,fun _=>rfl,rfl⟩) (DS.nil _ _ _) ad).mono fun e w' ⟨n,SP',e1,h1,h2,h3⟩=>⟨_,e1,vj,hnj,n,SP',rfl,(Ac.of_below hb).trans h1 (fun _ h _=>h),fun j hj=>(h2 j hj).imp_right (Qc hb.size),h3⟩;obtain⟨c0,-⟩:=h.blk.cells;have u:=kD W;have ah:U (1<=Ag k.st/\Ag k.st<=1000000000000000000):=Id k.st;generalize Ge k (Dv (Ag k.st))=TX at *;generalize Fv k (Dv (Ag k.st))=TG at *;generalize Ag k.st=d at *;unfold A9 JK at u;unfold A9 Dv at t;clear hE h F hB ac ad ae
 go_enter func33,ntmps33
 go_wp2_with fail
 refine u.mono ?_;rintro e r ⟨rfl,z⟩;have f:=Al.new r JK (I Z 0 0);have b:BL r (r.alloc (.cells #[S J 1,S J 0,S J 0,S J 0,S J 0,Qh ⟨#[115,116,97,114,116]⟩,I Z 0 0] 40)):=Af _ _;unfold JK at f;clear u
 go_upto_region 2 with fail
 generalize r.alloc (.cells #[S J 1,S J 0,S J 0,S J 0,S J 0,Qh ⟨#[115,116,97,114,116]⟩,I Z 0 0] 40)=WA at f b ⊢;have m:=Ad z b;have R:U (W.heap.size<=r.heap.size):=z.size;generalize r.heap.size=N at f R ⊢;have af:=Aa m c0;have T:=Q.out WA m;clear z b c0 Q
 go_wp2_with fail
 refine T.mono ?_;rintro e w2 ⟨rfl,C⟩;have ag:=Ad m C;have p:=f.below C;have x0:=p.cells.1;have xf:=p.fz 0;dsimp only at x0;have v:Al (w2.setCell ⟨N,0,Z⟩ (S J d)) N (d,0,0,0,0,⟨#[115,116,97,114,116]⟩, []) (I Z 0 0):=by
  unfold Al at *;rw[heap_setCell_same _ _ _ _ _ _ p];rfl
 have y:BL W (w2.setCell ⟨N,0,Z⟩ (S J d)):=ag.setCell R.out _;clear T C f p af m
 go_upto_region 3 with fail
 generalize w2.setCell ⟨N,0,Z⟩ (S J d)=D at v y ⊢;obtain⟨x0,x1,x2,x3,x4,x5,x6⟩:=v.cells;dsimp only at x0 x1 x2 x3 x4 x5 x6;have b:BL D (D.alloc (.cells #[S J d] 3)):=Af _ _;have aa:=Qs D (.cells #[S J d] 3);have ab:=t.out (D.alloc (.cells #[S J d] 3)) (I (O ⟨D.heap.size,0,Z⟩) 1 1) (Ad y b) ⟨Qd ⟨_,0,1,rfl,fun j hj=>by
  have:j=0:=by simp at hj;omega
  subst this;rw[Qk _ _ _ _ _ _ aa];rfl⟩,fun q l c e=>by injection e with _ e1 e2;omega⟩ (fun j hj=>by injection hj with hj;rw[<-hj];exact y.size)
 clear b aa t v xf
 go_wp2_with fail
 refine ab.mono ?_;rintro e w4 ⟨M,rfl,hP⟩;have HP:U (∃vj,(∀j,vj.ownBlock=O j->W.heap.size<=j)/\Dk a W g (H (O L)) i E vf k vj (I Z 0 0) [d] (Dv d) TX TG (A M) w4):=hP;clear ab hP;go_wp2;go_ret;exact HP.out
end
theorem Po (W:G):A3 W (I Z 0 0) []:=Qb ⟨Z,0,rfl,rfl⟩
theorem Vu:∀l:List UInt8,(AY l).length<=l.length+1
 | []=>by simp[AY]
 | c :: r=>by
  have:=Vu r;unfold AY;split
  ·simp;omega
  ·split
   ·simp
   ·rename_i e;rw[e]at this;simp at this ⊢;omega
theorem sS (l:List UInt8):AY l≠ []:=by
 cases l with
 | nil=>simp [AY]
 | cons c r =>
  unfold AY;split
  ·simp
  ·split<;>simp
theorem Pp:∀ {ws:List (List UInt8)} {zs:List Int},Ew ws=O zs->zs.length=ws.length
 | [],zs,h=>by
  obtain rfl: []=zs:=Qj h;rfl
 | w :: r,zs,h=>by
  unfold Ew at h;split at h
  ·rename_i z c _ b;obtain rfl:=Qj h;simp[Pp b]
  ·cases h
theorem Vv (l:List UInt8):Ql l [10]=true↔l.getLast? =O 10:=by
 unfold Ql;rw[List.isSuffixOf_iff_suffix];constructor
 ·rintro⟨t,rfl⟩;simp
 ·intro h;obtain⟨b,c⟩:=List.getLast?_eq_some_iff.1 h;exact⟨b,c.symm⟩
theorem sT {l:List UInt8} (h:Ql l [10]=true):Qm l [10]=l.dropLast:=by
 unfold Qm;rw[if_pos h,List.dropLast_eq_take];rfl
theorem Vw {B:Nat} {W:G} {d:List ByteArray} {e:Qi} (h:Kl B W e d):(∃(zs:List Int) (g:Nat),e=A (Qn #[I (O ⟨g,0,Z⟩) zs.length zs.length,.bool true])/\Ew (d.map (·.data.toList))=O zs/\C4 W (I (O ⟨g,0,Z⟩) zs.length zs.length) zs/\B<=g)\/(e=A (Qn #[I Z 0 0,.bool false])/\Ew (d.map (·.data.toList))=Z):=by
 rcases h with⟨zs,g,b,f,i,k,m⟩|⟨j,t,b,f,i⟩
 ·refine Qb ⟨zs,g,by rw[b];exact i,T8 (by rw[Qq];exact b) (fun j t ht=>?_),⟨Qd ⟨g,0,zs.length,rfl,fun j hj=>by rw[Nat.zero_add];exact k j hj⟩,fun q l c e=>by injection e with _ e1 e2;omega⟩,m⟩;rw[Qw]at ht
  cases e:d[j]? with
  | none=>rw [e]at ht;cases ht
  | some u =>
   rw[e]at ht;obtain rfl:u.data.toList=t:=Qj ht;exact f j u e
 ·exact Qd ⟨i,Tz (j:=j) (t:=t.data.toList) (by rw[Qw,b];rfl) f⟩
def Vx (w:G) (a:Nat->Qe) (R:List Int×Nat×Option Nat) (e:Qi) (w':G):Prop:= ∃v ev,e=A (Qn #[v,ev])/\A3 w' v R.1/\AU w' a ev R.2/\BL w w'/\Oo v/\Iy w v
theorem MT {w:G} {a:Nat->Qe} {R:List Int×Nat×Option Nat} {W:G} (b:R=([],1,Z)) (c:BL w W):Vx w a R (A (Qn #[I Z 0 0,.iface 410 (H (O (a 0)))])) W:=by
 subst b;exact⟨_,_,rfl,Po _,rfl,c,KG,fun k hk=>by simp[Qr]at hk⟩
theorem sU (s:ByteArray) (w:G) (a:Nat->Qe) (h:FV w a) (hs:s.size<=10000) :
  V prog 66 #[Qh s] w fun e w'=>Vx w a (Hz s.data.toList) e w':=by
 have C:=strings_CutSuffix s ⟨#[10]⟩ w (by omega);have eS:(⟨#[10]⟩:ByteArray).data.toList= [10]:=rfl;rw[eS]at C;have a2:s.data.toList.length<=10000:=by rw[AA];exact hs
 have L:U _:=fun W (hb:BL w W)=>h.below hb;have a1:=h.text
 cases hS:Ql s.data.toList [10] with
 | false =>
  have y:U (Hz s.data.toList=([],1,Z)):=by
   show _=_;have hn:s.data.toList.getLast? ≠O 10:=fun e=>by rw[(Vv _).2 e]at hS;cases hS
   unfold Hz;split
   ·rw[if_neg (by rintro⟨h',_⟩;exact hn h')]
   ·rfl
  rw[hS]at C;have au:Qm s.data.toList [10]=s.data.toList:=by unfold Qm;rw[if_neg (by rw[hS];simp)]
  rw[au]at C;have P:=J5 ⟨s.data.toList.toArray⟩ w a h.weak (by rw[<-AA];simp;omega);generalize Hz s.data.toList=R at y ⊢;generalize (⟨s.data.toList.toArray⟩:ByteArray)=ar at C P
  go_enter func66,ntmps66
  go_wp2_with fail
  refine C.mono ?_;rintro e w1 ⟨rfl,rfl⟩
  go_wp2_with fail
  refine P.mono ?_;rintro e M ⟨v,ts,rfl,-,-,r⟩;have ac:=(L.out M r).text;go_wp2
  go_quiet (fail)
  go_wp2;go_ret2;exact MT y.out (AH r nq)
 | true =>
  rw[hS,sT hS]at C;have av:=(Vv _).1 hS;have P:=J5 ⟨s.data.toList.dropLast.toArray⟩ w a h.weak (by rw[<-AA];simp;omega);have aw:s.data.toList.dropLast.length<=10000:=by simp;omega
  have ad:U (∀(k:List UInt8) (ws:List (List UInt8)),AY s.data.toList.dropLast=k :: ws->Hz s.data.toList=if k=Ec then match Ew ws with
    | some d=>if (AD d).1≠0 then ([],AD d) else (d,0,Z)
    | none=>([],1,Z)
   else ([],1,Z)):=fun k ws e=>by
    unfold Hz;rw[e];dsimp only;by_cases n:k=Ec
    ·rw[if_pos ⟨av,n⟩,if_pos n];cases Ew ws<;>rfl
    ·rw[if_neg (fun h'=>n h'.2),if_neg n]
  have eD:(⟨s.data.toList.dropLast.toArray⟩:ByteArray).data.toList=s.data.toList.dropLast:=by simp
  rw[eD]at P;generalize Hz s.data.toList=R at ad ⊢;generalize s.data.toList.dropLast=l at C P ad aw;generalize (⟨l.toArray⟩:ByteArray)=ar at C P
  go_enter func66,ntmps66
  go_wp2_with fail
  refine C.mono ?_;rintro e w1 ⟨rfl,rfl⟩
  go_wp2_with fail
  refine P.mono ?_;rintro e M ⟨v,ts,rfl,⟨b,rfl,ao⟩,ap,r⟩;have ac:=(L.out M r).text;have ai:=Vu l;have aj:=sS l;have ak:=J4 l;rw[<-ap]at ai aj ak
  cases ts with
  | nil=>exact absurd rfl aj
  | cons t0 tr =>
  have Y:=ad.out t0.data.toList (tr.map (·.data.toList)) (by rw[<-ap];rfl);have c0:=ao 0 (by simp);have ax:U (∀W,BL M W->∀j (h:j<tr.length),W.cell? ⟨b,1+j,Z⟩=O (Qh tr[j])):=fun W hb j hj=>by
   have:=Aa hb (ao (j+1) (by simp;omega));rw[Nat.add_comm 1 j];simpa using this
  have ay:U (∀t∈tr,t.size<=Qo):=fun t F=>by
   have:=ak t.data.toList (by simp;exact Qd ⟨t,F,rfl⟩);rw[AA]at this;unfold Qo;omega
  have az:tr.length<=10000:=by simp at ai;omega
  simp only[List.getElem_cons_zero]at c0;by_cases n:t0.data.toList=Ec
  case neg =>
   rw[if_neg n]at Y;have y:U _:=Y;have d0:=BH n;simp only[Ec]at d0;simp only[Qx];have al:(0:Int)<((tr.length+1:Nat):Int):=by omega
   generalize tr.length+1=N at al ⊢;go_wp2
   all_goals
    go_quiet (fail)
    go_wp2;go_ret2;exact MT y.out (AH r nq)
  case pos =>
  rw[if_pos n]at Y;have d0:=CG n;simp only[Ec]at d0;have z:∃q,q=(if tr.length=0 then O (⟨b,0,Z⟩:Qe) else O ⟨b,1,Z⟩)/\V prog 132 #[I q tr.length tr.length] M fun e w'=>Kl M.heap.size w' e tr/\BL M w':=by
   by_cases h0:tr.length=0
   ·refine⟨_,rfl,?_⟩;rw[if_pos h0];obtain rfl:tr= []:=List.length_eq_zero_iff.1 h0;exact L0 b 0 0 [] M a (L.out M r).weak (fun j hj=>absurd hj (Nat.not_lt_zero _)) (fun t F=>by simp at F) (by simp)
   ·refine⟨_,rfl,?_⟩;rw[if_neg h0];exact L0 b 1 tr.length tr M a (L.out M r).weak (ax.out M (Qp _ _)) ay.out (by omega)
  obtain⟨q,hq,z⟩:=z;have HM:U (∀o,Ew (tr.map (·.data.toList))=o->R=match o with
    | some d=>if (AD d).1≠0 then ([],AD d) else (d,0,Z)
    | none=>([],1,Z)):=fun o e=>by rw[<-e];exact Y
  simp only[Qx];generalize a0:tr.length=K at hq z az ⊢;have am:U _:=a0;have al:(0:Int)<((K+1:Nat):Int):=by omega
  have a3:(1:Int)<=((K+1:Nat):Int):=by omega
  by_cases an:K=0
  ·subst an;rw[if_pos rfl]at hq;subst hq
   go_wp2_with fail
   refine z.mono ?_;rintro e w3 ⟨T,aa⟩;have p:=Ad r aa;clear z c0 ac;rcases Vw T with⟨d,g,rfl,X,B,ab⟩|⟨rfl,ah⟩
   ·have y:U (R=if (AD d).1≠0 then ([],AD d) else (d,0,Z)):=HM.out (O d) X;have f:=KH _ d w3 a (L.out w3 p) B (by have:=Pp X;rw[Qq,am.out]at this;omega);have Q:U (∀W,BL w3 W->A3 W (I (O ⟨g,0,Z⟩) d.length d.length) d):=fun W hb=>B.1.below hb;generalize d.length=ZL at f Q ⊢;have ae:U (w1.heap.size<=g):=Qc r.size ab;clear B X T aa HM ab;by_cases i:(AD d).1=0
    ·have m:U (R=(d,0,Z)):=by
      show _=_;rw[y.out,if_neg (by simpa using i)]
     rw[K7 i]at f;clear y i
     go_wp2_with fail
     refine f.mono ?_;rintro e w4 ⟨ev,rfl,F,D⟩;clear f;obtain rfl:ev=Qy:=F;have af:U (A3 w4 (I (O ⟨g,0,Z⟩) ZL ZL) d):=Q.out w4 D;clear Q;go_wp2;go_ret2;refine⟨_,_,rfl,?_,?_,(Ad p D),fun q l c e=>by injection e with _ e1 e2;omega,fun k n=>by have e:O g=O k:=n;injection e with e;rw[<-e];exact ae.out⟩
     ·rw[m.out];exact af.out
     ·rw[m.out];rfl
    ·have m:U (R=([],AD d)):=by
      show _=_;rw[y.out,if_pos i]
     generalize AD d=E at f i m
     go_wp2_with fail
     refine f.mono ?_;rintro e w4 ⟨ev,rfl,F,D⟩;obtain⟨t,u,rfl⟩:=F.bad i;have ag:U _:=F;go_wp2;go_ret2;refine⟨_,_,rfl,?_,?_,(Ad p D),KG,fun k n=>by simp[Qr]at n⟩
     ·rw[m.out];exact Po _
     ·rw[m.out];exact ag.out
   ·have y:U _:=HM.out Z ah;have aq:=(L.out w3 p).text;go_wp2
    go_quiet (fail)
    go_wp2;go_ret2;exact MT y.out (AH p nq)
  ·rw[if_neg an]at hq;subst hq
   go_wp2_with fail
   refine z.mono ?_;rintro e w3 ⟨T,aa⟩;have p:=Ad r aa;clear z c0 ac;rcases Vw T with⟨d,g,rfl,X,B,ab⟩|⟨rfl,ah⟩
   ·have y:U (R=if (AD d).1≠0 then ([],AD d) else (d,0,Z)):=HM.out (O d) X;have f:=KH _ d w3 a (L.out w3 p) B (by have:=Pp X;rw[Qq,am.out]at this;omega);have Q:U (∀W,BL w3 W->A3 W (I (O ⟨g,0,Z⟩) d.length d.length) d):=fun W hb=>B.1.below hb;generalize d.length=ZL at f Q ⊢;have ae:U (w1.heap.size<=g):=Qc r.size ab;clear B X T aa HM ab;by_cases i:(AD d).1=0
    ·have m:U (R=(d,0,Z)):=by
      show _=_;rw[y.out,if_neg (by simpa using i)]
     rw[K7 i]at f;clear y i
     go_wp2_with fail
     refine f.mono ?_;rintro e w4 ⟨ev,rfl,F,D⟩;clear f;obtain rfl:ev=Qy:=F;have af:U (A3 w4 (I (O ⟨g,0,Z⟩) ZL ZL) d):=Q.out w4 D;clear Q;go_wp2;go_ret2;refine⟨_,_,rfl,?_,?_,(Ad p D),fun q l c e=>by injection e with _ e1 e2;omega,fun k n=>by have e:O g=O k:=n;injection e with e;rw[<-e];exact ae.out⟩
     ·rw[m.out];exact af.out
     ·rw[m.out];rfl
    ·have m:U (R=([],AD d)):=by
      show _=_;rw[y.out,if_pos i]
     generalize AD d=E at f i m
     go_wp2_with fail
     refine f.mono ?_;rintro e w4 ⟨ev,rfl,F,D⟩;obtain⟨t,u,rfl⟩:=F.bad i;have ag:U _:=F;go_wp2;go_ret2;refine⟨_,_,rfl,?_,?_,(Ad p D),KG,fun k n=>by simp[Qr]at n⟩
     ·rw[m.out];exact Po _
     ·rw[m.out];exact ag.out
   ·have y:U _:=HM.out Z ah;have aq:=(L.out w3 p).text;go_wp2
    go_quiet (fail)
    go_wp2;go_ret2;exact MT y.out (AH p nq)
end Go.Proofs.YtcllhobffhkafaaGreatDoor
