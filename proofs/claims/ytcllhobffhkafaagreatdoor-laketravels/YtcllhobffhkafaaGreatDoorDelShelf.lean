/- By an AI agent. -/
import Derived.Test.YtcllhobffhkafaaGreatDoorLkp3
import Derived.Lib.AppendZerosOnto
set_option maxRecDepth 100000
set_option maxHeartbeats 16000000
open Go.Proofs.Tryz
open Bool renaming true->Qj,false->Qo
open ByteArray renaming size_append->QG,size->QW,data_append->QX
open Go renaming World->Qb,Value->Qc,Calls->Qd,Addr->Qn,cell_of_row->Qv,Ending->Qx,maxLen->Qy,grownCap->Q1,heap_alloc_new->Q2,lt_of_block->QI,frozen_of_row->QU
open Go.Builtin renaming zeroCells->Qt,append_->QL,firstCells->QV
open Go.Ending renaming returned->V
open Go.IntKind renaming i64->S
open Go.Lib renaming itoa->Qs,hasSuffix->QE,trimSuffix->QF,hasPrefix->QK,trimPrefix->QR
open Go.Obj renaming cells->Qg
open Go.Proofs.Tryz renaming prog->Qa,func113->QA,ntmps113->QB,underlying32->QM
open Go.RowKit renaming Hid->U
open Go.RowKit.Below renaming refl->Qm,size->Qp,drew->QC,alloc->QD,trans->QP
open Go.Value renaming slice->I,int->J,pointer->A,string->Qe,tuple->Qh,nilIface->Ql,ownBlock->Qq,iface->Qr,cells->Qu,bool->Q3,agg->Q7
open List renaming length_append->Qz,mem_append->Q5,mem_singleton->Q6,length_map->Q9,mem_map->QH,length_cons->QJ,flatten_append->QN,length->QO,getElem?_map->QQ,mem_filter->QS,append_inj'->QT
open Nat renaming le_trans->Qi,lt_of_lt_of_le->Qw,le_refl->Q0,zero_add->Q8
open Option renaming some->O,none->Z
open Option.some renaming inj->Q4
open Or renaming inl->Qf,inr->Qk
namespace Go.Proofs.YtcllhobffhkafaaGreatDoor
open Go.RowKit Go.Extern.Stop Go.Stop Go.Extern Go.Sort Go.Shelf Go.Lib
section
variable {a : Nat → Qn} {B : Nat} {EM : Qb → Prop}
theorem Dw.then {W r w':Qb} {s:Nat} {u:Qc} {o v:Nat->Prop} {y vf:Qc} {k:Lk} {p:St} {z B:Qc} {d:List Int} {f:Sn} {X Y:Int->St->Prop} {G H:Prop} {e:Qx} (h:Dw a r s u v y vf { k with st:=p } z B d f Y H e w') (C:Ac o W r) (D:∀j,v j->o j\/W.heap.size<=j) (q:Gw k.st p) (hX:∀m s',Y m s'->(∀x t,AN p x t->AN s' x t)->X m s') (hG:G->H):Dw a W s u o y vf k z B d f X G e w':=by
 obtain⟨n,E,F,K,L,M⟩:=h;refine⟨n,E,F,(C.mono (fun _ h=>Qf h)).trans K (fun j b hjl=>?_),fun j b=>(L j b).elim (D j) (fun e=>Qk (Qi C.size e)),?_⟩
 ·rcases b with b | b
  ·exact(D j b).elim Qf (fun e=>absurd hjl (by omega))
  ·exact Qk b
 ·rcases M with⟨i,N,s',l,c⟩|⟨i,s',m,l,c,P,Q,R,T,h9⟩
  ·refine Qf ⟨i,fun g=>N (hG g),s',q.trans l,?_⟩;rw[<-q.head];exact c
  ·exact Qk ⟨i,s',m,l,fun x t hx=>c x t (q.old x t hx),P,Q,R,hX m s' T c,h9⟩
theorem JG {x:Sn} (h:(Am x).1=0):x.2.2.2.2.2.2.length<=60/\Ej x.2.2.2.2.2.2:=by
 obtain⟨b,c,_⟩:=Jy h;exact⟨b,fun g hg=>K5 (c g hg).1⟩
theorem Ng {x:Sn} (h:(Am x).1=0):1<=x.1/\x.1<=1073741824:=(I1.1 (GX h).1).1.1
def Gy (k:Lk) (now:Sn) (m:Int) (s:St):Prop:=AN s (Cg now.1) (Ab (BH now))/\now.1<m/\(now.1=Ag k.st->∀n,Rm (n+2) k.st->Rm n s)
def FR (k:Lk) (now:Sn):Prop:=now.1=Ag k.st/\Rm 2 k.st
theorem VQ (K:A2 a B EM An) (HL:∀X,EM X->AX X a) {W:Qb} {l:Nat} {vs:Qc} {g:Nat->Prop} {t vf:Qc} {k:Lk} (hE:EM W) (h:Al W l vs g k.st.head t vf k) (P:B7 k.st) (hB:B<=l/\∀j,g j->B<=j) (a7:k.st.head.size<=1000) (vj vg:Qc) (i:List Int) (b:Sn) (q:CA W vj i) (a8:(AF i).1=0) (aq:DY vj i l g) (hv:Ai W vg b.2.2.2.2.2.2) (ar:DY vg b.2.2.2.2.2.2 l g) (d:(Am b).1=0) :
  Qd Qa 71 #[.pointer (O ⟨l,0,Z⟩),A8 b vg,vj] W (Dw a W l vs g t vf k vj vg i b (Gy k b) (FR k b)):=by
 obtain⟨z,rfl⟩:=h.ptr K;obtain⟨qj,cj,rfl⟩:=q.1.form;obtain⟨C,D,rfl⟩:=hv.form;obtain⟨i1,i2⟩:=Ng d;have u:BL W (W.alloc (Qg #[.int .i64 b.1,.int .i64 b.2.1,.int .i64 b.2.2.1,.int .i64 b.2.2.2.1,.int .i64 b.2.2.2.2.1,.string b.2.2.2.2.2.1,.slice C b.2.2.2.2.2.2.length D] 40)):=Af _ _;have v:=Ao.new W b (.slice C b.2.2.2.2.2.2.length D);have Q:U _:=fun X (hb:BL W X)=>K.below _ _ hE (hb.mono (K.size _ hE));have R:U (∀X,BL W X->Qd Qa 136 #[A8 b (.slice C b.2.2.2.2.2.2.length D)] X fun e w'=>e=V (Qh #[.string (Ab (BH b)),Ql])/\BL X w'):=fun X hb=>by
  obtain⟨f1,f2⟩:=JG d;have:=mT b _ X a (HL X (Q.out X hb)).p.text (hv.below hb) (by omega) f2;rw[if_pos d]at this;refine this.mono fun e w' ⟨ev,h1,h2,h3⟩=>?_;obtain rfl:=h2.ok d;exact⟨h1,h3⟩
 have ac:U (∀X,BL W X->Qd Qa 96 #[.string ⟨#[115,110,97,112,47]⟩,.int .i64 b.1] X fun e w'=>e=V (.string (Cg b.1))/\BL X w'):=fun X hb=>MZ ⟨#[115,110,97,112,47]⟩ _ X (HL X (Q.out X hb)).s (by decide) (by omega);have a9:(Cg b.1).size<=100:=by
  unfold Cg;rw[QG,EK];have:=itoa_length_le b.1 (by omega) (by omega);have h5:(⟨#[115,110,97,112,47]⟩:ByteArray).size=5:=rfl;omega
 have ad:U (∀X,BL W X->Qd Qa 137 #[.pointer (O z),.string (Cg b.1),.string (Ab (BH b))] X fun e w'=>e=V (Ae a (BM k.st (Cg b.1) (Ab (BH b))))/\∃f,Al w' l (.pointer (O z)) f k.st.head t vf { k with st:=B3 k.st (Cg b.1) (Ab (BH b)) } /\Ac g X w'/\∀j,f j->g j\/W.heap.size<=j):=fun X hb=>by
  have ae:=h.quiet K hb;refine(K.put X _ g k.st _ _ (Q.out X hb) ae.st P.keeps (by omega) (by have:=P8 d;omega)).mono fun e w' ⟨h1,h2⟩=>?_;obtain⟨f,h3,h4,h5⟩:=ae.post h2;exact⟨h1,f,h3,h4,fun j q=>(h5 j q).imp_right (Qi hb.size)⟩
 have af:U (Gw k.st (B3 k.st (Cg b.1) (Ab (BH b)))):=JC P _ (sH _);have au:U (BM k.st (Cg b.1) (Ab (BH b))=0->AN (B3 k.st (Cg b.1) (Ab (BH b))) (Cg b.1) (Ab (BH b))):=fun h0=>(K2 P h0).1;have ag:U (∀X f o,Ac g W X->(∀j,f j->g j\/W.heap.size<=j)->Gw k.st o->Al X l (.pointer (O z)) f k.st.head t vf { k with st:=o } ->AN o (Cg b.1) (Ab (BH b))->(b.1=Ag k.st->∀n,Rm (n+2) k.st->Rm (n+1) o)->Qd Qa 78 #[.pointer (O ⟨l,0,Z⟩),A8 b (.slice C b.2.2.2.2.2.2.length D),.slice qj i.length cj] X (Dw a W l (.pointer (O z)) g t vf k (.slice qj i.length cj) (.slice C b.2.2.2.2.2.2.length D) i b (Gy k b) (FR k b))):=fun X f o hb hS hgw hQ hh hR=>by
  have av:=K.below _ _ hE (hb.below (K.size _ hE) hB.2);have aw:Al X l (.pointer (O z)) f ({ k with st:=o } :Lk).st.head t vf { k with st:=o } :=by
   show Al X l (.pointer (O z)) f o.head t vf { k with st:=o };rw[hgw.head];exact hQ
  exact(VP K HL av aw hgw.good ⟨hB.1,fun j q=>(hS j q).elim (hB.2 j) (fun e=>Qi (K.size _ hE) e)⟩ (by show o.head.size<=1000;rw[hgw.head];exact a7) _ _ i b ⟨Kr q.1 (fun d j q=>(aq d j q).2) hb,q.2⟩ a8 (aq.up (fun d j e=>J6 q.1 d e) hS) (Ks hv (fun d j q=>(ar d j q).2) hb) (ar.up (fun d j e=>J5 hv d e) hS)).mono fun e w' hp=>hp.then hb hS hgw (fun m s' hY ho=>⟨ho _ _ hh,by rw[hY.1];exact Lx hgw.good.keeps Nb hh,fun he n hn=>hY.2 n (hR he n hn)⟩) (fun P=>hR P.1 0 P.2)
 have ah:U (b.1=Ag k.st->∀n,Rm (n+2) k.st->BM k.st (Cg b.1) (Ab (BH b))=0/\Rm (n+1) (B3 k.st (Cg b.1) (Ab (BH b)))):=fun he n hn=>by
  have:=Ly (n:=n+1) hn Nb (P8 d);rw[<-he]at this;exact this
 have ai:U (FR k b->b.1=Ag k.st/\Rm 2 k.st):=fun h=>h;have aj:U (l<W.heap.size/\¬g W.heap.size):=⟨h.blk.lt,fun e=>absurd ((h.sizes K).2 _ e) (by omega)⟩;have ax:=h.blk.cells.1;generalize B3 k.st (Cg b.1) (Ab (BH b))=o at *;generalize BM k.st (Cg b.1) (Ab (BH b))=N at *;generalize Gy k b=a5 at *;generalize FR k b=TG at *;generalize Ab (BH b)=TX at *;generalize Cg b.1=NB at *;unfold A8 at R ag ⊢
 go_enter func71,ntmps71
 go_upto_region 1 with fail
 generalize W.alloc (Qg #[.int .i64 b.1,.int .i64 b.2.1,.int .i64 b.2.2.1,.int .i64 b.2.2.2.1,.int .i64 b.2.2.2.2.1,.string b.2.2.2.2.2.1,.slice C b.2.2.2.2.2.2.length D] 40)=WA at u v ⊢;have ak:=R.out WA u;have al:=Aa u ax;generalize a6:W.heap.size=nb at v aj ⊢;have ba:U _:=a6.symm;obtain⟨n1,n2,n3,n4,n5,n6,L⟩:=b;dsimp only at *;obtain⟨E,x1,x2,x3,x4,x5,x6⟩:=v.cells;dsimp only at E x1 x2 x3 x4 x5 x6
 go_wp2_with fail
 refine ak.mono ?_;rintro e w1 ⟨rfl,M⟩;have T:=Ad u M;have F:=v.below M;have c0:=Aa M al;clear ak u v M al E x1 x2 x3 x4 x5 x6 R;obtain⟨E,-⟩:=F.cells;dsimp only at E;have y:BL w1 w1.drew:=(Qm _ _).drew;have am:=Aa y c0;have ay:=Aa y E;have Y:=Ad T y
 go_upto_region 4 with fail
 go_cut [9] from 19 to 27 (fun c wx=> ∃f,c=Ae a N/\Al wx l (.pointer (O z)) f k.st.head t vf { k with st:=o } /\Ac g w1 wx/\∀j,f j->g j\/W.heap.size<=j)
 case first =>
  first
   | (go_region_with (first
    | (go_at_call 96;(with_reducible refine(ac.out _ Y).mono ?_);rintro e wX ⟨rfl,ab⟩;have bb:=Aa ab am;have az:=(Ad Y ab);have a0:=Ad y ab)
    | (go_at_call 137;(with_reducible refine(ad.out _ az).mono ?_);rintro e wZ ⟨rfl,f,a2,a3,a4⟩)))
   | fail
  all_goals
   go_wp2;go_meet
   case rel=>exact ⟨f,rfl,a2,(Ac.of_below a0).trans a3 (fun _ h _=>h),a4⟩
 case rest =>
 obtain⟨f,rfl,aa,r,ap⟩:=hcut;have an:Ao wc nb (n1,n2,n3,n4,n5,n6,L) (.slice C L.length D):=(r.block nb F.lt aj.out.2).trans F;have ao:U (Ac g W wc):=(Ac.of_below T).trans r (fun _ h _=>h);clear F c0 E y am ay Y ad ac r T;by_cases hC:N=0
 case neg =>
  have HP:U (Dw a W l (.pointer (O z)) g t vf k (.slice qj i.length cj) (.slice C L.length D) i (n1,n2,n3,n4,n5,n6,L) a5 TG (V (Ae a N)) wc):=⟨N,f,rfl,ao.out.mono (fun _ h=>Qf h),ap,Qf ⟨hC,fun h=>hC (ah.out (ai.out h).1 0 (ai.out h).2).1,o,af.out,aa⟩⟩;obtain⟨n,rfl⟩:∃n,N=n+1:=⟨N-1,by omega⟩;simp only[Ae]at HP ⊢;clear aa an hC;go_wp2;go_ret;exact HP.out
 case pos =>
 subst hC;simp only[Ae];have a1:=ag.out wc f o ao.out ap af.out aa (au.out rfl) (fun he n hn=>(ah.out he n hn).2);obtain⟨E,x1,x2,x3,x4,x5,x6⟩:=an.cells;dsimp only at E x1 x2 x3 x4 x5 x6
 go_wp2_with fail
 refine a1.mono ?_;rintro e w6 hP;have HP:U _:=hP;obtain⟨n,SZ,rfl,-⟩:=hP;go_wp2;go_ret;exact HP.out
end
theorem PJ {W:Qb} {base:Nat} {e:TypeId} {b:Nat} {v:Qc} {n:Nat} {xs:List Qc} (h:W.ownsRow base e b v n xs):∃q c,v=I q n c/\n<=c/\(q=Z->c=0)/\∀k,v.ownBlock=O k->base<=k:=by
 rcases h.2 with⟨rfl,rfl⟩|⟨g,f,i,rfl,j,_,d,_⟩
 ·exact⟨Z,0,rfl,Q0 _,fun _=>rfl,fun k hk=>by simp[Qq]at hk⟩
 ·exact⟨_,_,rfl,d,fun e=>by simp at e,fun k hk=>by simp[Qq]at hk;omega⟩
theorem uM {W:Qb} {base:Nat} {v:Qc} {zs:List Int} (h:W.ownsRow base 3 1 v zs.length (zs.map Fb)):CA W v zs:=by
 refine⟨Mw h,fun q l c e=>?_⟩;obtain⟨b,d,rfl,f,_⟩:=PJ h;injection e with _ e1 e2;omega
theorem uN (n:Nat) (w:Qb) (u:n<=100000) :
  Qd Qa 288 #[I Z 0 0,J S n] w fun e w'=> ∃v',e=V v'/\w'.ownsRow w.heap.size 3 1 v' 0 []/\BL w w':=by
 obtain⟨g,m,o,r,b⟩:=Tryz.numInfo;by_cases p:n=0
 ·subst p
  go_enter func288,ntmps288
  go_wp2;go_ret;exact⟨_,rfl,World.ownsRow_nil _ _ _ _,Qm _ _⟩
 ·have s:¬((n:Int)<0):=by omega
  have f:(QV g.size 0 (I Z 0 0)).run Qa w.drew= .ok ([]:List Qc).toArray w.drew:=run_firstCells_none w.drew g.size 0 0 0;have c:∀ty,(QL #[32,3] ty #[I Z 0 0,J S (n:Int)]).run Qa w= .ok (I (O ⟨w.heap.size,0,Z⟩) n (Q1 w n 0 3)) (w.drew.alloc (Qg (([]:List Qc).toArray++Qt (Qu (J S 0)) n++Qt (Qu (J S 0)) (Q1 w n 0 3-n)) 3)):=fun ty=>by
   have h:=Lib.run_append_grow_zeros w 32 3 ty 3 g _ S S QM underlying3 m o Z 0 0 [] f n (by omega) (by omega) (by omega) (by omega) (by rw[b];omega) (by rw[Q8,b];exact growslice_fits (by omega) (by omega));rw[Q8]at h;exact h
  have q:n<=Q1 w n 0 3:=grownCap_ge w _ _ _;have i:=grownCap_le_maxLen w n 0 3 (by unfold Qy;omega);have j:BL w (w.drew.alloc (Qg (([]:List Qc).toArray++Qt (Qu (J S 0)) n++Qt (Qu (J S 0)) (Q1 w n 0 3-n)) 3)):=(Qm _ _).drew.alloc (Q0 _) _;have d:(w.drew.alloc (Qg (([]:List Qc).toArray++Qt (Qu (J S 0)) n++Qt (Qu (J S 0)) (Q1 w n 0 3-n)) 3)).ownsRow w.heap.size 3 1 (I (O ⟨w.heap.size,0,Z⟩) 0 (Q1 w n 0 3)) 0 []:=by
   refine⟨rfl,Qk ⟨w.heap.size,_,_,rfl,Q0 _,Q2 w.drew _,Nat.zero_le _,i,?_,by simp⟩⟩;have l:∀k,(Qt (Qu (J S 0)) k).size=k*1:=fun k=>by
    rw[size_zeroCells];rfl
   simp only[Array.size_append,l];simp;omega
  generalize w.drew.alloc (Qg (([]:List Qc).toArray++Qt (Qu (J S 0)) n++Qt (Qu (J S 0)) (Q1 w n 0 3-n)) 3)=t at c j d
  go_enter func288,ntmps288
  go_wp2_with (at_builtin;refine Lib.wpList_append_run _ rfl _ _ _ _ rfl _ _ rfl rfl _ _ (c _) ?_)
  all_goals
   go_ret;exact⟨_,rfl,d,j⟩
def Nh (w:Qb) (b:Nat) (gs:List (List Int)):Prop:= ∀j (h:j<gs.length),∃q c,w.cell? ⟨b,j,Z⟩=O (I q gs[j].length c)/\A4 w (I q gs[j].length c) gs[j]/\(q=Z->c=0)
theorem Nh.below {w w':Qb} {b:Nat} {gs:List (List Int)} (h:Nh w b gs) (d:BL w w'):Nh w' b gs:=fun j hj=>by
 obtain⟨q,c,f,g,i⟩:=h j hj;exact⟨q,c,Aa d f,g.below d,i⟩
theorem PK (gs:List (List Int)) (n:Nat) (h:n<gs.length):(gs.take (n+1)).flatten=(gs.take n).flatten++gs[n]:=by
 rw[<-List.take_append_getElem h,QN];simp
theorem uO (gs:List (List Int)) (n:Nat):(gs.take n).flatten.length<=gs.flatten.length:=by
 conv=>rhs;rw[<-List.take_append_drop n gs,QN,Qz]
 omega
theorem uP (b:Nat) (gs:List (List Int)) (w:Qb) (hp:Nh w b gs) (o:gs.length<=10) (hl:gs.flatten.length<=1000) :
  Qd Qa 201 #[I (O ⟨b,0,Z⟩) gs.length gs.length] w fun e w'=> ∃v',e=V v'/\w'.ownsRow w.heap.size 3 1 v' gs.flatten.length (gs.flatten.map Fb)/\BL w w':=by
 obtain⟨i0,aj,ak,al,P⟩:=Tryz.numInfo;have T:U _:=fun W (j:BL w W)=>hp.below j;have l:U _:=fun n=>Qi (uO gs n) hl;obtain⟨K,hK⟩:∃K,gs.length=K:=⟨_,rfl⟩;have N:U _:=hK;rw[hK]at o ⊢
 go_enter func201,ntmps201
 go_wp2
 go_loop [3,11] (fun s k=> ∃n:Nat,n<=K/\s=J S (gs.take n).flatten.length/\k=J S n) (fun _ k=>K-(intOf k).toNat)
 case atStart=>exact ⟨0,by omega,rfl,rfl⟩
 case round =>
  obtain⟨n,hn,rfl,rfl⟩:=hrel;have X:=l.out n;have h2:=l.out (n+1);by_cases Y:n<K
  ·have p:n<gs.length:=by rw[N.out];exact Y
   obtain⟨q,c,D,-⟩:=T.out w (Qm _ _) n p;have i:=congrArg QO (PK gs n p);rw[Qz]at i;have hi:(n:Int)<(K:Int):=by omega
   have ar:(0:Int)<=(n:Int):=by omega
   have z:U _:=i;generalize (gs.take n).flatten.length=f at X z ⊢;generalize gs[n].length=B at D z;have av:f+B<=1000:=by rw[<-z.out];exact h2
   go_wp2;go_round
   case rel=>exact ⟨n+1,by omega,by rw[z.out];go_num,by go_num⟩
   case measure=>simp [intOf];omega
  ·obtain rfl:n=K:=by omega
   have aa:=List.take_of_length_le (by rw[N.out];exact Q0 _);have ab:U _:=aa;have E:=uN (gs.take n).flatten.length w (by omega);generalize (gs.take n).flatten.length=d at X E ⊢
   go_wp2_with fail
   refine E.mono ?_;rintro e w1 ⟨v1,rfl,M,ao⟩;obtain⟨q1,c1,rfl,-⟩:=PJ M;have ac:U (w1.ownsRow w.heap.size 3 1 (I q1 0 c1) (gs.take 0).flatten.length ((gs.take 0).flatten.map Fb)):=by
    show w1.ownsRow _ _ _ _ _ _;simpa using M
   go_wp2
   go_loopw [6,27] (fun v k wr=> ∃m:Nat,m<=n/\k=J S m/\wr.ownsRow w.heap.size 3 1 v (gs.take m).flatten.length ((gs.take m).flatten.map Fb)/\BL w wr) (fun _ k _=>n-(intOf k).toNat)
   case atStart=>exact ⟨0,by omega,rfl,ac.out,ao⟩
   case round =>
    obtain⟨m,hm,rfl,Q,j⟩:=hrel;have r:U _:=Q;have g1:=l.out m;have g2:=l.out (m+1);by_cases ad:m<n
    ·have t:m<gs.length:=by rw[N.out];exact ad
     obtain⟨q,c,D,am,an⟩:=T.out wr j m t;have i:=congrArg QO (PK gs m t);rw[Qz]at i;have F:U _:=PK gs m t;have y:U _:=Vz am an;obtain⟨g,hg⟩:∃g,gs[m]=g:=⟨_,rfl⟩;rw[hg]at D i F y;obtain⟨B,hB⟩:∃B,g.length=B:=⟨_,rfl⟩;have HB:U _:=hB;rw[hB]at D i y;obtain⟨C,hC⟩:∃C,(gs.take m).flatten.length=C:=⟨_,rfl⟩;have ae:U _:=hC;rw[hC]at g1 i r;obtain⟨R,L⟩:∃R,(gs.take m).flatten.map Fb=R:=⟨_,rfl⟩;have af:U _:=L;rw[L]at r
     go_wp2_with (at_builtin;(refine O4 rfl _ _ 32 rfl w.heap.size 3 i0 (J S 0) 1 8 QM aj ak al P rfl (by decide) u6 C R rfl ?a0 q B c (g.map Fb) rfl ?a1 ?a2 ?a3 ?a4 ?a5 ?a6 ?_))
     case a0=>exact r.out
     case a1=>rw [Q9,HB.out];simp
     case a2=>exact y.out
     case a3=>intro u hu;obtain⟨x,_,rfl⟩:=QH.1 hu;rfl
     case a4=>unfold Qy;omega
     case a5=>omega
     case a6=>exact j.size
     intro v2 y2 ap aq _;have ag:=j.grown aq j.size (fun k o=>by
      rcases r.out.2 with⟨e,_⟩|⟨g',au,aw,e,ax,_⟩
      ·rw[e]at o;simp[Qq]at o
      ·rw[e]at o;simp[Qq]at o;omega)
     have ah:U (y2.ownsRow w.heap.size 3 1 v2 (gs.take (m+1)).flatten.length ((gs.take (m+1)).flatten.map Fb)):=by
      show y2.ownsRow _ _ _ _ _ _;rw[F.out,List.map_append,Qz,HB.out,ae.out,af.out];exact ap
     go_wp2;go_roundw
     case rel=>exact ⟨m+1,by omega,by go_num,ah.out,ag⟩
     case measure=>simp [intOf];omega
    ·obtain rfl:m=n:=by omega
     have ai:U (wr.ownsRow w.heap.size 3 1 u6 gs.flatten.length (gs.flatten.map Fb)):=by
      have h':=r.out;rw[ab.out]at h';exact h'
     go_wp2;go_ret;exact⟨_,rfl,ai.out,j⟩
theorem VR (z:Int):∀(zs:List Int) (p:Int) (i:Nat),(D3 p zs i).1=0->(D3 p (zs++ [z]) i).1=if CT z=Qo then 2 else if z<=zs.getLastD p then 9 else 0
 | [],p,i,_=>by
  show (D3 p [z] i).1=if CT z=Qo then 2 else if z<=p then 9 else 0;unfold D3;by_cases b:CT z=Qo
  ·rw[if_pos b,if_pos b]
  rw[if_neg b,if_neg b];by_cases c:z<=p
  ·rw[if_pos c,if_pos c]
  rw[if_neg c,if_neg c];rfl
 | y :: r,p,i,h=>by
  rw[List.cons_append];unfold D3 at h ⊢;by_cases b:CT y=Qo
  ·rw[if_pos b]at h;cases h
  rw[if_neg b]at h ⊢;by_cases c:y<=p
  ·rw[if_pos c]at h;cases h
  rw[if_neg c]at h ⊢;rw[VR z r y (i+1) h,List.getLastD_cons]
theorem uQ {zs:List Int} {z:Int} (h:(AF zs).1=0) (d:zs.length≠40):(AF (zs++ [z])).1=GB zs z:=by
 have b:=DA.1 h;have c:(D3 0 zs 0).1=0:=by
  unfold AF at h;rw[if_neg b.1,if_neg (by omega)]at h;exact h
 unfold AF;rw[if_neg (by simp),if_neg (by rw[Qz];simp;omega)];exact VR z zs 0 0 c
theorem uR {zs:List Int} {z:Int} (b:zs.length=40):(AF (zs++ [z])).1=8:=by
 unfold AF;rw[if_neg (by simp),if_pos (by rw[Qz];simp;omega)]
def K7 (w:Qb) (a:Nat->Qn) (zs:List Int) (E:Nat×Option Nat) (e:Qx) (w':Qb):Prop:= ∃v' ev,e=V (Qh #[v',ev])/\CA w' v' zs/\IE w v'/\AZ w' a ev E/\BL w w'
theorem Ni {w W:Qb} {a:Nat->Qn} {zs:List Int} {E:Nat×Option Nat} {b:Qc} (c:zs= []) (d:AZ W a b E) (f:BL w W):K7 w a zs E (V (Qh #[I Z 0 0,b])) W:=by
 subst c;exact⟨_,_,rfl,⟨Qf ⟨Z,0,rfl,rfl⟩,Lg⟩,fun k hk=>by simp[Qq]at hk,d,f⟩
theorem uS (v:Qc) (zs:List Int) (z:Int) (w:Qb) (a:Nat->Qn) (h:Gm w a) (P:CA w v zs) (hl:zs.length<=100) :
  Qd Qa 113 #[v,J S z] w fun e w'=>K7 w a (FH zs z) (E9 zs z) e w':=by
 have d:=Lh v zs w a h P (by omega);by_cases f:(AF zs).1=0
 case neg =>
  have p:E9 zs z=AF zs:=by unfold E9;rw[if_pos f]
  have C:U (FH zs z= []):=by show _=_;unfold FH;rw[p,if_neg f]
  rw[p]
  go_enter QA,QB
  go_wp2_with fail
  refine d.mono ?_;rintro e y ⟨B,rfl,n,c⟩;obtain⟨t,u,rfl⟩:=n.bad f;have D:U _:=n;go_wp2;go_ret2;exact Ni C.out D.out c
 case pos =>
 have N:=La f;rw[N]at d;have p:E9 zs z=((AF (zs++ [z])).1,Z):=by unfold E9;rw[if_neg (by simpa using f)]
 obtain⟨ai,-⟩:=DA.1 f;have Q:U _:=fun W (hb:BL w W)=>h.below hb;have R:U _:=fun W (hb:BL w W)=>P.1.below hb;obtain⟨q,l,rfl⟩:=P.1.shape;obtain⟨b,o,rfl,hc⟩:=P.1.at ai;by_cases s:zs.length=40
 ·have T:E9 zs z=(8,Z):=by rw[p,uR s]
  have C:U (FH zs z= []):=by show _=_;unfold FH;rw[T];rfl
  rw[T];rw[s]at d ⊢
  go_enter QA,QB
  go_wp2_with fail
  refine d.mono ?_;rintro e y ⟨B,rfl,n,c⟩;obtain rfl:B=Ql:=n;have am:=(Q.out y c).full;go_wp2
  go_quiet (fail)
  go_wp2;go_ret2;exact Ni C.out rfl (AK c nq)
 rw[uQ f s]at p;have F:U (FH zs z=if GB zs z=0 then zs++ [z] else []):=by
  show _=_;unfold FH;rw[p]
 rw[p];have g:=fun W (hb:BL w W)=>U3 _ zs z W a (Q.out W hb) (R.out W hb) (by omega);have i:=fun (W:Qb) (hb:BL w W)=>uP (W.heap.size+1) [zs, [z]] ((W.alloc (Qg #[J S z] 3)).alloc (Qg #[I (O ⟨b,o,Z⟩) zs.length l,I (O ⟨W.heap.size,0,Z⟩) 1 1] 32)) (fun j hj=>by
   have ac:=hj;have K:BL W ((W.alloc (Qg #[J S z] 3)).alloc (Qg #[I (O ⟨b,o,Z⟩) zs.length l,I (O ⟨W.heap.size,0,Z⟩) 1 1] 32)):=(Af _ _).alloc (by simp) _
   match j,ac with
   | 0,_ =>
    refine⟨O ⟨b,o,Z⟩,l,?_,(R.out W hb).below K,fun e=>by cases e⟩;have:W.heap.size+1=(W.alloc (Qg #[J S z] 3)).heap.size:=by simp
    rw[this,Qv _ _ _ _ _ _ (Q2 _ _)];rfl
   | 1,_ =>
    refine⟨O ⟨W.heap.size,0,Z⟩,1,?_,Qk ⟨W.heap.size,0,1,rfl,fun k hk=>?_⟩,fun e=>by cases e⟩
    ·have:W.heap.size+1=(W.alloc (Qg #[J S z] 3)).heap.size:=by simp
     rw[this,Qv _ _ _ _ _ _ (Q2 _ _)];rfl
    ·have ad:k=0:=by simp at hk;omega
     subst ad;have h2:=heap_alloc2_old W (Qg #[J S z] 3) (Qg #[I (O ⟨b,o,Z⟩) zs.length l,I (O ⟨W.heap.size,0,Z⟩) 1 1] 32);rw[Qv _ _ _ _ _ _ h2];rfl) (by simp) (by simp;omega)
 have ae:([zs, [z]]:List (List Int)).flatten=zs++ [z]:=by simp
 rw[ae]at i;obtain⟨L,hL⟩:∃L,zs.length=L:=⟨_,rfl⟩;rw[hL]at hl d s g i ⊢;have af:([zs, [z]]:List (List Int)).length=2:=rfl;rw[af]at i;generalize an:GB zs z=E at g F ⊢;have ag:E=0\/E≠0:=by omega
 rcases ag with rfl | al
 ·have ab:U _:=F.out;rw[ab.out];simp only[Ae]at g
  go_enter QA,QB
  go_wp2_with fail
  refine d.mono ?_;rintro e y ⟨B,rfl,n,c⟩;obtain rfl:B=Ql:=n;have r:=g y c
  go_wp2_with fail
  refine r.mono ?_;rintro e M ⟨rfl,rfl⟩;have ah:=i M c;have K:BL M ((M.alloc (Qg #[J S z] 3)).alloc (Qg #[I (O ⟨b,o,Z⟩) L l,I (O ⟨M.heap.size,0,Z⟩) 1 1] 32)):=(Af _ _).alloc (by simp) _;have X:=Ad c K
  go_wp2_with fail
  refine ah.mono ?_;rintro e w4 ⟨v4,rfl,aa,ak⟩;have Y:U (CA w4 v4 (zs++ [z])/\IE w v4):=by
   refine⟨uM aa,fun k hk=>?_⟩;obtain⟨_,_,_,_,_,aj⟩:=PJ aa;exact Qi X.size (aj k hk)
  go_wp2;go_ret2;exact⟨v4,Ql,rfl,Y.out.1,Y.out.2,rfl,(Ad X ak)⟩
 ·have C:U (FH zs z= []):=by
   show _=_;rw[F.out,if_neg al]
  obtain⟨m,rfl⟩:∃m,E=m+1:=⟨E-1,by omega⟩;have D:U (∀W,AZ W a (Qr 410 (A (O (a m)))) (m+1,Z)):=fun W=>rfl;simp only[Ae]at g
  go_enter QA,QB
  go_wp2_with fail
  refine d.mono ?_;rintro e y ⟨B,rfl,n,c⟩;obtain rfl:B=Ql:=n;have r:=g y c
  go_wp2_with fail
  refine r.mono ?_;rintro e M ⟨rfl,rfl⟩;go_wp2;go_ret2;exact Ni C.out (D.out _) c
section
variable {a : Nat → Qn} {B : Nat} {EM : Qb → Prop}
theorem uT (c:Nat×Option Nat) (b:Qc) (w:Qb) (h:F7 w) (d:AZ w a b c) (i:c.1≠0) :
  Qd Qa 67 #[b] w fun e w'=>e=V (Ae a c.1)/\BL w w':=by
 obtain⟨n,o⟩:=c;obtain⟨m,rfl⟩:∃m,n=m+1:=⟨n-1,by dsimp only at i;omega⟩;have f:=OX m b w a h (by
  cases o with
  | none=>exact Qf d
  | some j =>
   obtain⟨_,k,l,_,p⟩:=d;exact Qk ⟨k,l,p⟩)
 clear h d i
 go_enter func67,ntmps67
 go_wp2_with fail
 refine f.mono ?_;rintro e q ⟨rfl,g⟩;clear f;go_wp2;go_ret;exact⟨rfl,g⟩
def Fm (k k':Lk) (ds:List Dr) (rem:List ByteArray) (idx:Int):Prop :=
 ∃s1 ps fs,Puts k.st ds s1 ps/\Fils ds ps fs/\Cn (k.now,fs,rem)/\(Dg (k.now,fs,rem) k.now (Ag s1) s1.day idx).1=0/\k'.now=Dq (k.now,fs,rem) k.now (Ag s1) s1.day idx/\k'.ids=k.ids++ [Ag s1]/\(AF k'.ids).1=0/\k'.spec=k.spec/\B7 k'.st/\(∀x t,AN s1 x t->AN k'.st x t)/\(∃m,k'.st.head=AJ m/\CP (AJ m).data.toList=Qj/\AN k'.st (AJ m) (Ab (BB k'.ids))/\Ag s1<m)/\AN k'.st (Cg (Ag s1)) (Ab (BH k'.now))/\∀n,Rm (n+2) s1->Rm n k'.st
def JH (k:Lk) (ds:List Dr) (rem:List ByteArray) (idx:Int):Prop :=
 Rm (ds.length+2) k.st/\(∀d∈ds,Ea d.1/\d.2.2.size<=20000)/\∀s1 ps,Puts k.st ds s1 ps->Nf k.now ds ps rem/\∀fs,Fils ds ps fs->(Dg (k.now,fs,rem) k.now (Ag s1) s1.day idx).1=0/\(E9 k.ids (Ag s1)).1=0
theorem Rm.le {n m:Nat} {s:St} (h:Rm n s) (f:m<=n):Rm m s:=by
 obtain⟨b,c,g,d,i⟩:=h;exact⟨b,c,by omega,Qi (Nat.add_le_add_left (Nat.mul_le_mul_right _ f) _) d,by omega⟩
def D5 (a:Nat->Qn) (W:Qb) (kb:Nat) (vs:Qc) (SP:Nat->Prop) (vi:Qc) (k:Lk) (ds:List Dr) (rem:List ByteArray) (idx:Int) (e:Qx) (w':Qb):Prop :=
 ∃n SP' vi' vf' k',e=V (Ae a n)/\Ac (fun j=>SP j\/j=kb) W w'/\(∀j,SP' j->SP j\/W.heap.size<=j)/\((vi'=vi\/∀j,vi'.ownBlock=O j->W.heap.size<=j)/\FO W kb k vi' vf' k')/\Al w' kb vs SP' k'.st.head vi' vf' k'/\((n≠0/\¬JH k ds rem idx/\∃s',Gw k.st s'/\k'= { k with st:=s' })\/(n=0/\Fm k k' ds rem idx))
theorem D5.bad {W w':Qb} {f:Nat} {l:Qc} {m b:Nat->Prop} {c vf:Qc} {k:Lk} {ds:List Dr} {g:List ByteArray} {i:Int} {n:Nat} {d:St} (p:n≠0) (q:Ac m W w') (r:∀j,b j->m j\/W.heap.size<=j) (s:Al w' f l b k.st.head c vf { k with st:=d }) (o:Gw k.st d) (t:FO W f k c vf k) (u:¬JH k ds g i):D5 a W f l m c k ds g i (V (Ae a n)) w' :=
 ⟨n,b,c,vf, { k with st:=d },rfl,q.mono (fun _ h=>Qf h),r,⟨Qf rfl,t⟩,by show Al w' f l b d.head c vf _;rw[o.head];exact s,Qf ⟨p,u,d,o,rfl⟩⟩
theorem Dw.done {W W5 w':Qb} {i:Nat} {q:Qc} {o SY:Nat->Prop} {p vf r s:Qc} {k:Lk} {b:St} {ds:List Dr} {ps c:List ByteArray} {f:List Fl} {d:Int} {e:Qx} (h:Dw a W5 i q SY p vf { k with st:=b } r s (k.ids++ [Ag b]) (Dq (k.now,f,c) k.now (Ag b) b.day d) (Gy { k with st:=b } (Dq (k.now,f,c) k.now (Ag b) b.day d)) (FR { k with st:=b } (Dq (k.now,f,c) k.now (Ag b) b.day d)) e w') (hb:Ac o W W5) (hS:∀j,SY j->o j\/W.heap.size<=j) (hg:Gw k.st b) (h1:Puts k.st ds b ps) (h2:Fils ds ps f) (h3:Cn (k.now,f,c)) (h4:(Dg (k.now,f,c) k.now (Ag b) b.day d).1=0) (h5:(AF (k.ids++ [Ag b])).1=0) (h0:FO W i k p vf k) (y:∀j,r.ownBlock=O j->W.heap.size<=j) (aa:DV W s):D5 a W i q o p k ds c d e w':=by
 obtain⟨n,l,L,z,M,B⟩:=h;have E:Ac (fun j=>o j\/j=i) W w':=(hb.mono (fun _ h=>Qf h)).trans z (fun j hj hjl=>hj.elim (fun h=>(hS j h).elim Qf (fun e=>absurd hjl (by omega))) Qk);have t:∀j,l j->o j\/W.heap.size<=j:=fun j hj=>(M j hj).elim (hS j) (fun e=>Qk (Qi hb.size e));have F:(Dq (k.now,f,c) k.now (Ag b) b.day d).1=Ag b:=by rw[(Jz h4).2.2.2.2];rfl
 unfold Gy FR at B;rw[F]at B;rcases B with⟨C,hG,g,u,D⟩|⟨C,g,m,N,P,v,Q,R,⟨T,X,Y⟩,D⟩
 ·have K:=hg.trans u;refine⟨n,l,p,vf, { k with st:=g },L,E,t,⟨Qf rfl,h0⟩,?_,Qf ⟨C,fun h=>hG ⟨rfl,h1.rm h.1 h.2.1⟩,g,K,rfl⟩⟩;show Al w' i q l g.head p vf _;rw[u.head];exact D
 ·refine⟨n,l,r,s, { k with st:=g,ids:=k.ids++ [Ag b],now:=Dq (k.now,f,c) k.now (Ag b) b.day d },L,E,t,⟨Qk y,fun j hj=>Qf (hj.elim (y j) (fun h=>aa j h.2))⟩,?_,Qk ⟨C,b,ps,f,h1,h2,h3,h4,rfl,rfl,h5,rfl,N,P,⟨m,v,Q,R,X⟩,T,Y rfl⟩⟩;show Al w' i q l g.head r s _;rw[v];exact D
theorem uU {W d:Qb} {a:Nat->Qn} {f:Qc} {c:Nat×Option Nat} (b:AZ W a f c) (g:BL W d):AZ d a f c:=by
 unfold AZ at *;split at b
 ·exact b
 ·obtain⟨i,j,k,l,m⟩:=b;exact⟨i,j,k,Aa g l,Aa g m⟩
theorem uV {X:Qb} {b:Nat} {p:Qc} (q:Ao X b AE p) {a:Nat->Qn} {j:Qc} {c:Nat×Option Nat} (g:AZ X a j c) {r s t u v y z:Qc} :AZ (((((((X.setCell ⟨b,0,Z⟩ r).setCell ⟨b,1,Z⟩ s).setCell ⟨b,2,Z⟩ t).setCell ⟨b,3,Z⟩ u).setCell ⟨b,4,Z⟩ v).setCell ⟨b,5,Z⟩ y).setCell ⟨b,6,Z⟩ z) a j c:=by
 unfold AZ at *;split at g
 ·exact g
 ·obtain⟨k,i,l,m,f⟩:=g;have d:i≠b:=fun e=>by
   subst e;have:=q.cells.2.1;rw[this]at f;have:=Q4 f;obtain⟨n,o⟩:∃n,c.1=n+1:=⟨c.1-1,by omega⟩;rw[o]at this;cases this
  exact⟨k,i,l,FQ m d,FQ f d⟩
theorem uW {W f:Qb} {P:Nat->Prop} {v:Qc} {g:List ByteArray} (h:BV W v g) (l:Ac P W f) (m:∀j,v.ownBlock=O j->¬P j):BV f v g:=by
 rcases h with h | ⟨b,c,d,i,k⟩
 ·exact Qf h
 ·exact Qk ⟨b,c,d,i,fun j hj=>l.keep (m b (by rw[d];rfl)) (k j hj)⟩
theorem uX {s:St} {n t:ByteArray} (c:BM s n t=0):CP n.data.toList=Qj:=by
 unfold BM at c;split at c
 ·rename_i b;exact absurd c b
 ·rename_i b;exact(P1 (by simpa using b)).2.2
theorem Puts.names {s c:St} {ds:List Dr} {ps:List ByteArray} (h:Puts s ds c ps) (f:∀d∈ds,d.1.size<=100):∀p∈ps,p.size<=1000:=by
 induction h with
 | nil=>intro p b;cases b
 | step d h0 hc ih =>
  intro p b;rcases Q5.1 b with b | b
  ·exact ih (fun e he=>f e (List.mem_append_left _ he)) p b
  ·rw[Q6]at b;have:=GJ (uX hc);rw[b];omega
theorem PM (K:A2 a B EM An) (HL:∀X,EM X->AX X a) {W:Qb} {l:Nat} {vs:Qc} {t:Nat->Prop} {vi vf:Qc} {k:Lk} (hE:EM W) (h:Al W l vs t k.st.head vi vf k) (hi:Av k) (hB:B<=l/\∀j,t j->B<=j) {D:Nat} {vd vr:Qc} {ds:List Dr} {b:List ByteArray} (hd:Bg W D vd ds) (hr:BV W vr b) (b7:∀j,vd.ownBlock=O j->¬t j) (cs:∀j,vr.ownBlock=O j->¬t j) (dp:ds.length<=100) (b8:b.length<=1000) (aj:∀d∈ds,Bw d.1/\d.1.size<=100/\d.2.1.size<=1000/\d.2.2.size<=100000) (g:Int) :
  Qd Qa 60 #[A (O ⟨l,0,Z⟩),Q7 #[vd,vr],J S g] W (D5 a W l vs t vi k ds b g):=by
 have b9:k.st.head.size<=1000:=by
  obtain⟨m,e,h1,-⟩:=hi.head;rw[e];have:=GJ h1;omega
 have ca:U (B<=W.heap.size/\l<W.heap.size):=⟨K.size _ hE,h.blk.lt⟩;obtain⟨db,cm⟩:=JG hi.now.fine;obtain⟨-,dc,-,-⟩:=DA.1 hi.ids;have a2:U (FO W l k vi vf k):=h.owt
 -- the four calls,each where it is met
 have ag:U (∀X,Ac t W X->EM X):=fun X hb=>K.below _ _ hE (hb.below ca.out.1 hB.2);have aa:U (∀X,BL W X->Qd Qa 110 #[A (O ⟨l,0,Z⟩),vd] X (Ne a X l vs t k.st.head vi vf k ds)):=fun X hb=>tE K HL (ag.out X (Ac.of_below hb)) (h.quiet K hb) hi.good hB.2 (hd.below hb) (fun d hd=>⟨(aj d hd).1,(aj d hd).2.1,(aj d hd).2.2.2⟩) b7 (by omega);have bd:U (∀X SX s vp ps,Ac t W X->Al X l vs SX k.st.head vi vf { k with st:=s } ->BV X vp ps->Puts k.st ds s ps->Qd Qa 111 #[A (O ⟨l,0,Z⟩),Q7 #[vd,vr],vp] X (K6 a X k.now ds ps b)):=fun X SX s vp ps hb hQ hvp av=>uJ K HL (ag.out X hb) hQ hi.now.fine (hd.but hb b7) (uW hr hb cs) hvp av.len.symm (by omega) b8 (fun d hd=>⟨(aj d hd).2.2.1,by unfold Qy;have:=(aj d hd).2.2.2;omega⟩) (av.names (fun d hd=>(aj d hd).2.1));have be:U (∀X ev c,Ac t W X->AZ X a ev c->c.1≠0->Qd Qa 67 #[ev] X fun e w'=>e=V (Ae a c.1)/\BL X w'):=fun X ev c hb ht h0=>uT c ev X (HL X (ag.out X hb)).x.hand ht h0;have cc:U (∀X SX s,Ac t W X->B7 s->Al X l vs SX k.st.head vi vf { k with st:=s } ->Qd Qa 70 #[vs] X fun e w'=>e=V (J S (Ag s))/\BL X w'):=fun X SX s hb hg hQ=>MY K (fun Y hY=>(HL Y hY).s) X _ SX s (ag.out X hb) hQ.st hg.keeps (fun o ho=>by have:=GJ (hg.keeps.names o ho);omega) hg.slb;have ce:U (∀X SX s,Ac t W X->B7 s->Al X l vs SX k.st.head vi vf { k with st:=s } ->Qd Qa 77 #[vs] X fun e w'=>e=V (J S s.day)/\BL X w'):=fun X SX s hb hg hQ=>K.day X _ SX s (ag.out X hb) hQ.st hg.keeps;have cg:U (∀X D v FP C id day,Ac t W X->Ai X vf k.now.2.2.2.2.2.2->CU 312 D X v FP (k.now,C,b)->Cn (k.now,C,b)->C.length=ds.length->Qd Qa 112 #[v,A8 k.now vf,J S id,J S day,J S g] X fun e w'=>K4 X a (Dg (k.now,C,b) k.now id day g) (Dq (k.now,C,b) k.now id day g) e w'):=fun X D v FP C id day hb hx hT aw hl=>uE D v FP (k.now,C,b) k.now vf id day g X a (HL X (ag.out X hb)).x hT aw hx (by omega) cm (by show C.length<=100;omega) b8;have bp:U (∀X z,Ac t W X->CA X vi k.ids->Qd Qa 113 #[vi,J S z] X fun e w'=>K7 X a (FH k.ids z) (E9 k.ids z) e w'):=fun X z hb M=>uS vi k.ids z X a (HL X (ag.out X hb)).m M (by omega);have bq:U (∀X SX s vj vg ids now,Ac t W X->(∀j,SX j->t j\/W.heap.size<=j)->Gw k.st s->Al X l vs SX k.st.head vi vf { k with st:=s } ->CA X vj ids->(AF ids).1=0->DY vj ids l SX->Ai X vg now.2.2.2.2.2.2->DY vg now.2.2.2.2.2.2 l SX->(Am now).1=0->Qd Qa 71 #[A (O ⟨l,0,Z⟩),A8 now vg,vj] X (Dw a X l vs SX vi vf { k with st:=s } vj vg ids now (Gy { k with st:=s } now) (FR { k with st:=s } now))):=fun X SX s vj vg ids now hb hS hg hQ hj hje hjo hv hvo hne=>by
  have cw:Al X l vs SX ({ k with st:=s } :Lk).st.head vi vf { k with st:=s } :=by
   show Al X l vs SX s.head vi vf _;rw[hg.head];exact hQ
  exact VQ K HL (ag.out X hb) cw hg.good ⟨hB.1,fun j hj=>(hS j hj).elim (hB.2 j) (fun e=>Qi ca.out.1 e)⟩ (by show s.head.size<=1000;rw[hg.head];exact b9) vj vg ids now hj hje hjo hv hvo hne
 have cx:U (Al W l vs t k.st.head vi vf k):=h;have dq:U (B7 k.st/\∀d∈ds,Bw d.1):=⟨hi.good,fun d hd=>(aj d hd).1⟩;have cy:U ((AF k.ids).1=0):=hi.ids;obtain⟨pt,bg⟩:=h.ptr K;have ak:BL W (W.alloc (Qg #[vd,vr] 100)):=Af _ _;have ab:=Q2 W (Qg #[vd,vr] 100);obtain⟨qd,cd,dd,-⟩:=hd.at;obtain⟨qr,cr,de⟩:=hr.form;obtain⟨qf,cf,df⟩:=h.fls.form;obtain⟨qi,ci,bh⟩:=h.ids.1.form;subst dd de bg df bh;have br:U (¬t W.heap.size):=fun e=>absurd ((h.sizes K).2 _ e) (by omega);clear hE h hi hB hd hr b7 cs aj b9 db cm dc;generalize ds.length=L at dp ak ab aa bd ⊢;generalize b.length=R at b8 ak ab bd ⊢
 go_enter func60,ntmps60
 go_upto_region 1 with fail
 generalize W.alloc (Qg #[I qd L cd,I qr R cr] 100)=WA at ak ab ⊢;obtain⟨cb,bc⟩:∃n,W.heap.size=n:=⟨_,rfl⟩;have dr:U (W.heap.size=cb):=bc;rw[bc]at ab br ⊢;clear bc;have a0:WA.cell? ⟨cb,0,Z⟩=O (I qd L cd):=by rw[Qv _ _ _ _ _ _ ab];rfl
 have ch:=aa.out WA ak
 go_wp2_with fail
 refine ch.mono ?_;rintro e w2 ⟨v2,n2,af,f,rfl,b1,b2,ai,bb,bm,b3⟩;have ct:U (n2≠0->¬Nd k.st ds):=bm;clear bm;have a3:Ac t W w2:=(Ac.of_below ak).trans b1 (fun _ h _=>h);have an:∀j,af j->t j\/W.heap.size<=j:=fun j hj=>(b2 j hj).imp_right (Qi ak.size);have ax:=(b1.block cb (QI ab) br.out).trans ab;have dt:U (¬af cb):=fun e=>(b2 cb e).elim br.out (fun e'=>absurd (QI ab) (by omega));clear ch a0 ab b1 b2 aa ak;by_cases ac:n2=0
 case neg =>
  have N:U (D5 a W l (A (O pt)) t (I qi k.ids.length ci) k ds b g (V (Ae a n2)) w2):=D5.bad ac a3 an bb ai a2.out (fun h=>ct.out ac ⟨h.1.le (by omega),h.2.1⟩);obtain⟨i,rfl⟩:∃i,n2=i+1:=⟨n2-1,by omega⟩;simp only[Ae]at N ⊢;clear bb b3 ac a3 ax;go_wp2;go_ret;exact N.out
 case pos =>
 subst ac;obtain⟨ps,av,bx⟩:=b3 rfl;have bs:=IC bx;obtain⟨qv,cv,rfl⟩:=bs.form;have ay:U (Puts k.st ds f ps):=av;have bt:=bd.out w2 af f _ ps a3 bb bs av;have a0:w2.cell? ⟨cb,0,Z⟩=O (I qd L cd):=by rw[Qv _ _ _ _ _ _ ax];rfl
 have a1:w2.cell? ⟨cb,1,Z⟩=O (I qr R cr):=by rw[Qv _ _ _ _ _ _ ax];rfl
 generalize ps.length=PL at bt ⊢;simp only[Ae];clear b3 bx bs av bd ax
 go_wp2_with fail
 refine bt.mono ?_;rintro e Q ⟨v3,n3,rfl,b4,bn,b5⟩;have cu:U (n3≠0->¬Nf k.now ds ps b):=bn;clear bn;have T:Ac t W Q:=a3.trans (Ac.of_below (P:=fun _=>False) b4) (fun _ h _=>h.elim);have ad:=bb.quiet K b4;clear bt a0 a1 b4 bb a3;by_cases a4:n3=0
 case neg =>
  have E:=be.out Q (Ae a n3) (n3,Z) T rfl a4;obtain⟨i,rfl⟩:∃i,n3=i+1:=⟨n3-1,by omega⟩;have N:U (∀X,BL Q X->D5 a W l (A (O pt)) t (I qi k.ids.length ci) k ds b g (V (Ae a (i+1))) X):=fun X hX=>D5.bad a4 (T.trans (Ac.of_below (P:=fun _=>False) hX) (fun _ h _=>h.elim)) an (ad.quiet K hX) ai a2.out (fun h=>cu.out a4 (h.2.2 f ps ay.out).1);simp only[Ae]at N E ⊢;clear ad b5 a4 T
  go_wp2_with fail
  refine E.mono ?_;rintro e w4 ⟨rfl,am⟩;clear E;go_wp2;go_ret;exact N.out _ am
 case pos =>
 subst a4;obtain⟨C,FP,D,bi,hT,dg,aw,cn⟩:=b5 rfl;simp only[Ae];have cz:U (Fils ds ps C/\Cn (k.now,C,b)):=⟨bi,aw⟩;have cj:U (∀X,BL Q X->Qd Qa 70 #[A (O pt)] X fun e w'=>e=V (J S (Ag f))/\BL X w'):=fun X hX=>cc.out X af f (T.trans (Ac.of_below (P:=fun _=>False) hX) (fun _ h _=>h.elim)) ai.good (ad.quiet K hX);have ck:U (∀X,BL Q X->Qd Qa 77 #[A (O pt)] X fun e w'=>e=V (J S f.day)/\BL X w'):=fun X hX=>ce.out X af f (T.trans (Ac.of_below (P:=fun _=>False) hX) (fun _ h _=>h.elim)) ai.good (ad.quiet K hX);have a5:U (∀X,BL Q X->Qd Qa 112 #[v3,A8 k.now (I qf k.now.2.2.2.2.2.2.length cf),J S (Ag f),J S f.day,J S g] X fun e w'=>K4 X a (Dg (k.now,C,b) k.now (Ag f) f.day g) (Dq (k.now,C,b) k.now (Ag f) f.day g) e w'):=fun X hX=>cg.out X D v3 FP C _ _ (T.trans (Ac.of_below (P:=fun _=>False) hX) (fun _ h _=>h.elim)) (ad.fls.below hX) (hT.below hX) aw cn;have a6:U ((Dg (k.now,C,b) k.now (Ag f) f.day g).1=0->(Am (Dq (k.now,C,b) k.now (Ag f) f.day g)).1=0/\(Dq (k.now,C,b) k.now (Ag f) f.day g).1=Ag f):=fun h0=>by
  obtain⟨-,-,-,h4,h5⟩:=Jz h0;rw[h5];exact⟨h4,rfl⟩
 have a7:U (∀SY W5 vj vg e w',Dw a W5 l (A (O pt)) SY (I qi k.ids.length ci) (I qf k.now.2.2.2.2.2.2.length cf) { k with st:=f } vj vg (k.ids++ [Ag f]) (Dq (k.now,C,b) k.now (Ag f) f.day g) (Gy { k with st:=f } (Dq (k.now,C,b) k.now (Ag f) f.day g)) (FR { k with st:=f } (Dq (k.now,C,b) k.now (Ag f) f.day g)) e w'->Ac t W W5->(∀j,SY j->t j\/W.heap.size<=j)->(Dg (k.now,C,b) k.now (Ag f) f.day g).1=0->(AF (k.ids++ [Ag f])).1=0->(∀j,vj.ownBlock=O j->W.heap.size<=j)->DV W vg->D5 a W l (A (O pt)) t (I qi k.ids.length ci) k ds b g e w'):=fun SY W5 vj vg e w' h1 h2 h3 h4 h5 h6 h7=>h1.done h2 h3 ai ay.out bi aw h4 h5 a2.out h6 h7;have bu:U (JH k ds b g->(Dg (k.now,C,b) k.now (Ag f) f.day g).1=0/\(E9 k.ids (Ag f)).1=0):=fun h=>(h.2.2 f ps ay.out).2 C bi;generalize Dq (k.now,C,b) k.now (Ag f) f.day g=u at a5 a6 a7;generalize Dg (k.now,C,b) k.now (Ag f) f.day g=TE at a5 a6 a7 bu;obtain⟨k0,-,-,-,k4,k5,k6,k7,k8,k9,co,-⟩:=ad.blk.cells;dsimp only at k4 k5 k6 k7 k8 k9 co;unfold K4 A8 at a5;clear b5 hT bi aw cn dg cc ce cg
 go_upto_region 7 with fail
 go_cut [8,10] from 33 to 52 (fun c8 c10 wx=> ∃xb v2 ev,c10=A (O ⟨xb,0,Z⟩)/\c8=ev/\Ao wx xb u v2/\Ai wx v2 u.2.2.2.2.2.2/\DV Q v2/\AZ wx a ev TE/\BL Q wx)
 case first =>
  have du:BL Q Q:=Qm _ _;have F:l<Q.heap.size:=BF k0;obtain⟨T1,T2,T3,T4,T5,T6,Tf⟩:=u;clear ad T a6 a7 cz ay bq bp be cx
  go_region_held3 (fun w'=>BL Q w'/\w'.cell? ⟨l,0,Z⟩=O (A (O pt))/\w'.cell? ⟨l,4,Z⟩=O (J S k.now.1)/\w'.cell? ⟨l,5,Z⟩=O (J S k.now.2.1)/\w'.cell? ⟨l,6,Z⟩=O (J S k.now.2.2.1)/\w'.cell? ⟨l,7,Z⟩=O (J S k.now.2.2.2.1)/\w'.cell? ⟨l,8,Z⟩=O (J S k.now.2.2.2.2.1)/\w'.cell? ⟨l,9,Z⟩=O (Qe k.now.2.2.2.2.2.1)/\w'.cell? ⟨l,10,Z⟩=O (I qf k.now.2.2.2.2.2.2.length cf))
   (first
    | (go_split_ands;with_reducible exact⟨QP (by with_reducible assumption) (r.mono (Qp (by with_reducible assumption))),Aa r (by with_reducible assumption),Aa r (by with_reducible assumption),Aa r (by with_reducible assumption),Aa r (by with_reducible assumption),Aa r (by with_reducible assumption),Aa r (by with_reducible assumption),Aa r (by with_reducible assumption),Aa r (by with_reducible assumption)⟩)
    | (go_split_ands;with_reducible exact⟨L0 (by with_reducible assumption) y y,Dv (by with_reducible assumption) (Qw F y),Dv (by with_reducible assumption) (Qw F y),Dv (by with_reducible assumption) (Qw F y),Dv (by with_reducible assumption) (Qw F y),Dv (by with_reducible assumption) (Qw F y),Dv (by with_reducible assumption) (Qw F y),Dv (by with_reducible assumption) (Qw F y),Dv (by with_reducible assumption) (Qw F y)⟩)
    | (go_split_ands;with_reducible refine⟨PC (by with_reducible assumption) ?_,FQ (by with_reducible assumption) ?_,FQ (by with_reducible assumption) ?_,FQ (by with_reducible assumption) ?_,FQ (by with_reducible assumption) ?_,FQ (by with_reducible assumption) ?_,FQ (by with_reducible assumption) ?_,FQ (by with_reducible assumption) ?_,FQ (by with_reducible assumption) ?_⟩;all_goals omega)
    | (go_split_ands;with_reducible refine⟨QC (by with_reducible assumption),?_,?_,?_,?_,?_,?_,?_,?_⟩;all_goals go_keep)
    | (go_split_ands;with_reducible refine⟨QD (by with_reducible assumption) (Qp (by with_reducible assumption)) _,?_,?_,?_,?_,?_,?_,?_,?_⟩;all_goals go_keep)
    | (go_split_ands;with_reducible refine⟨QC (QD (by with_reducible assumption) (Qp (by with_reducible assumption)) _),?_,?_,?_,?_,?_,?_,?_,?_⟩;all_goals go_keep)
    | (go_split_ands;with_reducible exact⟨by assumption,by assumption,by assumption,by assumption,by assumption,by assumption,by assumption,by assumption,by assumption⟩))
   (first
    | (go_at_call 70;with_reducible refine(cj.out _ (by go_split_ands;with_reducible assumption)).mono ?_;rintro e wX ⟨rfl,r⟩;have y:Q.heap.size<=wX.heap.size:=(by go_split_ands;exact Qi (Qp (by with_reducible assumption)) r.size);(first | (with_reducible have M:=Ao.below (L1 _) r) | (with_reducible have M:=Ao.below (K3 _) r) | (with_reducible have M:=Ao.below M r) | skip))
    | (go_at_call 77;with_reducible refine(ck.out _ (by go_split_ands;with_reducible assumption)).mono ?_;rintro e wX ⟨rfl,r⟩;have y:Q.heap.size<=wX.heap.size:=(by go_split_ands;exact Qi (Qp (by with_reducible assumption)) r.size);(first | (with_reducible have M:=Ao.below (L1 _) r) | (with_reducible have M:=Ao.below (K3 _) r) | (with_reducible have M:=Ao.below M r) | skip))
    | (go_at_call 112;with_reducible refine(a5.out _ (by go_split_ands;with_reducible assumption)).mono ?_;rintro e wX ⟨v2,ev,rfl,b6,ac,cq,r⟩;have ac:DV Q v2:=DV.low ac (by go_split_ands;exact Qp (by with_reducible assumption));have y:Q.heap.size<=wX.heap.size:=(by go_split_ands;exact Qi (Qp (by with_reducible assumption)) r.size);obtain⟨q2,c2,rfl⟩:=b6.form;(first | (with_reducible have M:=Ao.below (L1 _) r) | (with_reducible have M:=Ao.below (K3 _) r) | (with_reducible have M:=Ao.below M r) | skip);(first | (obtain⟨y0,y1,y2,y3,y4,y5,y6,yf⟩:=M.zeros) | skip)))
  all_goals go_split_ands
  all_goals go_wp2
  all_goals go_meet
  all_goals first
   | (with_reducible exact⟨_,_,_,rfl,rfl,PD _ _ _ _ _ _ _ _ _,Ai.below b6 (Af _ _),ac,uU cq (Af _ _),by assumption⟩)
   | (with_reducible exact⟨_,_,_,rfl,rfl,PF M _ _ _ _ _ _ _ _,PG M _ _ _ _ _ _ _ b6,ac,uV M cq,by assumption⟩)
 case rest =>
 obtain⟨xb,v2,ev,rfl,rfl,bj,bz,cp,ht,am⟩:=hcut;have c0:U (DV W v2):=fun j hj=>Qi T.size (cp j hj);clear cp;obtain⟨W4,dh⟩:∃X,X=wc:=⟨_,rfl⟩;subst dh;have al:Ac t W W4:=T.trans (Ac.of_below (P:=fun _=>False) am) (fun _ h _=>h.elim);have ae:=ad.quiet K am;clear ad T am k0 k4 k5 k6 k7 k8 k9 co cj ck a5;by_cases hE:TE.1=0
 case neg =>
  have E:=be.out W4 _ TE al ht hE;obtain⟨tt,uu,rfl⟩:=ht.bad hE;have N:U (∀X,BL W4 X->D5 a W l (A (O pt)) t (I qi k.ids.length ci) k ds b g (V (Ae a TE.1)) X):=fun X hX=>D5.bad hE (al.trans (Ac.of_below (P:=fun _=>False) hX) (fun _ h _=>h.elim)) an (ae.quiet K hX) ai a2.out (fun h=>hE (bu.out h).1);obtain⟨i,hi⟩:∃i,TE.1=i+1:=⟨TE.1-1,by omega⟩;rw[hi]at N E;simp only[Ae]at N E ⊢;clear ae bj bz ht hE hi al
  go_wp2_with fail
  refine E.mono ?_;rintro e w4 ⟨rfl,am⟩;clear E;go_wp2;go_ret;exact N.out _ am
 case pos =>
 obtain rfl:=ht.ok hE;have bf:U ((Am u).1=0/\u.1=Ag f):=a6.out hE;have c1:U (TE.1=0):=hE;have aa:U (∀X,BL W4 X->Qd Qa 113 #[I qi k.ids.length ci,J S u.1] X fun e w'=>K7 X a (FH k.ids u.1) (E9 k.ids u.1) e w'):=fun X hX=>bp.out X _ (al.trans (Ac.of_below (P:=fun _=>False) hX) (fun _ h _=>h.elim)) ⟨ae.ids.1.below hX,ae.ids.2⟩;have bv:U ((E9 k.ids u.1).1=0->FH k.ids u.1=k.ids++ [u.1]/\(AF (k.ids++ [u.1])).1=0):=fun h0=>by
  refine⟨by unfold FH;rw[if_pos h0],?_⟩;unfold E9 at h0;rw[if_neg (by rw[cy.out];simp)]at h0;exact h0
 have cl:U (JH k ds b g->(E9 k.ids u.1).1=0):=fun h=>by
  show _=_;rw[bf.out.2];exact(bu.out h).2
 unfold K7 at aa;generalize FH k.ids u.1=PI at aa bv;generalize E9 k.ids u.1=PE at aa bv cl;have ao:BL W4 W4.drew:=(Qm _ _).drew;obtain⟨-,-,-,c3,-⟩:=ae.blk.cells;have c4:=Aa ao c3;have x0:=bj.cells.1;have c6:=Aa ao x0;clear ht hE a6 bp
 go_upto_region 10 with fail
 go_cut [8,11] from 57 to 66 (fun c8 c11 wx=> ∃v5 a8,v5=c11/\a8=c8/\CA wx v5 PI/\IE W4 v5/\AZ wx a a8 PE/\BL W4 wx)
 case first =>
  go_region_with ((go_at_call 113;(with_reducible refine(aa.out _ ao).mono ?_);rintro e wZ ⟨v5,a8,rfl,dj,dk,dl,dm⟩))
  all_goals
   go_wp2;go_meet
   case rel=>exact ⟨v5,a8,rfl,rfl,dj,fun j hj=>Qi ao.size (dk j hj),dl,(Ad ao dm)⟩
 case rest =>
 obtain⟨v5,a8,rfl,rfl,bk,bl,a9,ba⟩:=hcut;have ap:Ac t W wc:=al.trans (Ac.of_below (P:=fun _=>False) ba) (fun _ h _=>h.elim);have aq:=ae.quiet K ba;have bw:=bj.below ba;have ar:=bz.below ba;have c7:U (∀j,v5.ownBlock=O j->W.heap.size<=j):=fun j hj=>Qi al.size (bl j hj);have c9:U (∀j,v5.ownBlock=O j->j≠l/\¬af j):=fun j hj=>⟨fun e=>by have:=bl j hj;have:=ae.blk.lt;omega,fun e=>by have:=bl j hj;have:=(ae.sizes K).2 j e;omega⟩;clear ae bj bz al bl ba c3 c4 x0 c6 ao aa;by_cases ah:PE.1=0
 case neg =>
  have E:=be.out wc _ PE ap a9 ah;obtain⟨tt,uu,rfl⟩:=a9.bad ah;have N:U (∀X,BL wc X->D5 a W l (A (O pt)) t (I qi k.ids.length ci) k ds b g (V (Ae a PE.1)) X):=fun X hX=>D5.bad ah (ap.trans (Ac.of_below (P:=fun _=>False) hX) (fun _ h _=>h.elim)) an (aq.quiet K hX) ai a2.out (fun h=>ah (cl.out h));obtain⟨i,hi⟩:∃i,PE.1=i+1:=⟨PE.1-1,by omega⟩;rw[hi]at N E;simp only[Ae]at N E ⊢;clear aq bw ar bk a9 ah hi ap
  go_wp2_with fail
  refine E.mono ?_;rintro e w6 ⟨rfl,dn⟩;clear E;go_wp2;go_ret;exact N.out _ dn
 case pos =>
 obtain rfl:=a9.ok ah;obtain⟨di,b0⟩:=bv.out ah;subst di;obtain⟨q5,c5,rfl⟩:=bk.1.form;obtain⟨q2,c2,rfl⟩:=ar.form;have bg:∃p,(A (O pt))=A p:=⟨_,rfl⟩;have bh:∃q n c,(I qi k.ids.length ci)=I q n c:=⟨_,_,_,rfl⟩;have au:=bq.out wc af f (I q5 (k.ids++ [u.1]).length c5) (I q2 u.2.2.2.2.2.2.length c2) (k.ids++ [u.1]) u ap an ai aq bk b0 (fun _ j hj=>c9.out j hj) ar (fun hne j hj=>⟨mJ aq.blk bg bh ar hne hj,mI aq.st ar hne hj⟩) bf.out.1;have az:U (∀e w',Dw a wc l (A (O pt)) af (I qi k.ids.length ci) (I qf k.now.2.2.2.2.2.2.length cf) { k with st:=f } (I q5 (k.ids++ [u.1]).length c5) (I q2 u.2.2.2.2.2.2.length c2) (k.ids++ [u.1]) u (Gy { k with st:=f } u) (FR { k with st:=f } u) e w'->D5 a W l (A (O pt)) t (I qi k.ids.length ci) k ds b g e w'):=fun e w' bo=>by
  have h1:=bf.out.2;have h2:=b0;rw[h1]at h2;refine a7.out af wc (I q5 (k.ids++ [u.1]).length c5) (I q2 u.2.2.2.2.2.2.length c2) e w' ?_ ap an c1.out h2 c7.out c0.out;rw[<-h1];rw[<-h1]at h2;exact bo
 generalize (k.ids++ [u.1]).length=L5 at au az ⊢;obtain⟨T1,T2,T3,T4,T5,T6,Tf⟩:=u;obtain⟨x0,x1,x2,x3,x4,x5,x6⟩:=bw.cells;dsimp only at x0 x1 x2 x3 x4 x5 x6 au az ⊢;unfold A8 at au;dsimp only at au;clear aq bw ar bk a9 ah ap bq a7 bg bh b0 bf
 go_wp2_with fail
 refine au.mono ?_;rintro e w7 bo;have N:=az.out e w7 bo;have da:U (D5 a W l (A (O pt)) t (I qi k.ids.length ci) k ds b g e w7):=N;obtain⟨n,SZ,dv,dw,k',rfl,-⟩:=N;clear au bo az;go_wp2;go_ret;exact da.out
end
section
variable {a : Nat → Qn} {B : Nat} {EM : Qb → Prop}
def Dl (n:Int):Sn:=(n,0,0,0,0,⟨#[115,116,97,114,116]⟩, [])
theorem uY (K:A2 a B EM An) (HL:∀X,EM X->AX X a) {W:Qb} {g:Nat} {vs:Qc} {i:Nat->Prop} {E vf:Qc} {k:Lk} (hE:EM W) (h:Al W g vs i k.st.head E vf k) (F:B7 k.st) (hB:B<=g/\∀j,i j->B<=j) (ac:k.st.head.size<=1000) (ad:(Am (Dl (Ag k.st))).1=0) (ae:(AF [Ag k.st]).1=0) :
  Qd Qa 33 #[A (O ⟨g,0,Z⟩)] W fun e w'=> ∃vj,(∀j,vj.ownBlock=O j->W.heap.size<=j)/\Dw a W g vs i E vf k vj (I Z 0 0) [Ag k.st] (Dl (Ag k.st)) (Gy k (Dl (Ag k.st))) (FR k (Dl (Ag k.st))) e w':=by
 obtain⟨L,rfl⟩:=h.ptr K;have P:U (∀X,BL W X->EM X):=fun X hb=>K.below _ _ hE (hb.mono (K.size _ hE));have HQ:U (∀X,BL W X->Al X g (A (O L)) i k.st.head E vf k):=fun X hb=>h.quiet K hb;have Q:U (∀X,BL W X->Qd Qa 70 #[A (O L)] X fun e w'=>e=V (J S (Ag k.st))/\BL X w'):=fun X hb=>MY K (fun Y hY=>(HL Y hY).s) X _ i k.st (P.out X hb) (HQ.out X hb).st F.keeps (fun o ho=>by have:=GJ (F.keeps.names o ho);omega) F.slb;have t:U (∀X vj,BL W X->CA X vj [Ag k.st]->(∀j,vj.ownBlock=O j->W.heap.size<=j)->Qd Qa 71 #[A (O ⟨g,0,Z⟩),A8 (Dl (Ag k.st)) (I Z 0 0),vj] X (fun e w'=> ∃M,e=V M/\∃vj,(∀j,vj.ownBlock=O j->W.heap.size<=j)/\Dw a W g (A (O L)) i E vf k vj (I Z 0 0) [Ag k.st] (Dl (Ag k.st)) (Gy k (Dl (Ag k.st))) (FR k (Dl (Ag k.st))) (V M) w')):=fun X vj hb hj hnj=>(VQ K HL (P.out X hb) (HQ.out X hb) F hB ac vj (I Z 0 0) [Ag k.st] (Dl (Ag k.st)) hj ae (fun _ j hv=>⟨fun e=>by have:=hnj j hv;have:=h.blk.lt;omega,fun e=>by have:=hnj j hv;have:=(h.sizes K).2 j e;omega⟩) (Qf ⟨Z,0,rfl,fun _=>rfl,rfl⟩) (DY.nil _ _ _) ad).mono fun e w' ⟨n,SP',e1,h1,h2,h3⟩=>⟨_,e1,vj,hnj,n,SP',rfl,(Ac.of_below hb).trans h1 (fun _ h _=>h),fun j hj=>(h2 j hj).imp_right (Qi hb.size),h3⟩;obtain⟨c0,-⟩:=h.blk.cells;have u:=mR W;have ah:U (1<=Ag k.st/\Ag k.st<=1000000000000000000):=It k.st;generalize Gy k (Dl (Ag k.st))=TX at *;generalize FR k (Dl (Ag k.st))=TG at *;generalize Ag k.st=d at *;unfold A8 Km at u;unfold A8 Dl at t;clear hE h F hB ac ad ae
 go_enter func33,ntmps33
 go_wp2_with fail
 refine u.mono ?_;rintro e r ⟨rfl,z⟩;have f:=Ao.new r Km (I Z 0 0);have b:BL r (r.alloc (Qg #[J S 1,J S 0,J S 0,J S 0,J S 0,Qe ⟨#[115,116,97,114,116]⟩,I Z 0 0] 40)):=Af _ _;unfold Km at f;clear u
 go_upto_region 2 with fail
 generalize r.alloc (Qg #[J S 1,J S 0,J S 0,J S 0,J S 0,Qe ⟨#[115,116,97,114,116]⟩,I Z 0 0] 40)=WA at f b ⊢;have m:=Ad z b;have R:U (W.heap.size<=r.heap.size):=z.size;generalize r.heap.size=N at f R ⊢;have af:=Aa m c0;have T:=Q.out WA m;clear z b c0 Q
 go_wp2_with fail
 refine T.mono ?_;rintro e w2 ⟨rfl,C⟩;have ag:=Ad m C;have p:=f.below C;have x0:=p.cells.1;have xf:=p.fz 0;dsimp only at x0;have v:Ao (w2.setCell ⟨N,0,Z⟩ (J S d)) N (d,0,0,0,0,⟨#[115,116,97,114,116]⟩, []) (I Z 0 0):=by
  unfold Ao at *;rw[heap_setCell_same _ _ _ _ _ _ p];rfl
 have y:BL W (w2.setCell ⟨N,0,Z⟩ (J S d)):=ag.setCell R.out _;clear T C f p af m
 go_upto_region 3 with fail
 generalize w2.setCell ⟨N,0,Z⟩ (J S d)=D at v y ⊢;obtain⟨x0,x1,x2,x3,x4,x5,x6⟩:=v.cells;dsimp only at x0 x1 x2 x3 x4 x5 x6;have b:BL D (D.alloc (Qg #[J S d] 3)):=Af _ _;have aa:=Q2 D (Qg #[J S d] 3);have ab:=t.out (D.alloc (Qg #[J S d] 3)) (I (O ⟨D.heap.size,0,Z⟩) 1 1) (Ad y b) ⟨Qk ⟨_,0,1,rfl,fun j hj=>by
  have:j=0:=by simp at hj;omega
  subst this;rw[Qv _ _ _ _ _ _ aa];rfl⟩,fun q l c e=>by injection e with _ e1 e2;omega⟩ (fun j hj=>by injection hj with hj;rw[<-hj];exact y.size)
 clear b aa t v xf
 go_wp2_with fail
 refine ab.mono ?_;rintro e w4 ⟨M,rfl,hP⟩;have HP:U (∃vj,(∀j,vj.ownBlock=O j->W.heap.size<=j)/\Dw a W g (A (O L)) i E vf k vj (I Z 0 0) [d] (Dl d) TX TG (V M) w4):=hP;clear ab hP;go_wp2;go_ret;exact HP.out
end
theorem PO (W:Qb):A4 W (I Z 0 0) []:=Qf ⟨Z,0,rfl,rfl⟩
theorem VS:∀l:List UInt8,(Bc l).length<=l.length+1
 | []=>by simp[Bc]
 | c :: r=>by
  have:=VS r;unfold Bc;split
  ·simp;omega
  ·split
   ·simp
   ·rename_i e;rw[e]at this;simp at this ⊢;omega
theorem uZ (l:List UInt8):Bc l≠ []:=by
 cases l with
 | nil=>simp [Bc]
 | cons c r =>
  unfold Bc;split
  ·simp
  ·split<;>simp
theorem PP:∀ {ws:List (List UInt8)} {zs:List Int},E8 ws=O zs->zs.length=ws.length
 | [],zs,h=>by
  obtain rfl: []=zs:=Q4 h;rfl
 | w :: r,zs,h=>by
  unfold E8 at h;split at h
  ·rename_i z c _ b;obtain rfl:=Q4 h;simp[PP b]
  ·cases h
theorem VT (l:List UInt8):QE l [10]=Qj↔l.getLast? =O 10:=by
 unfold QE;rw[List.isSuffixOf_iff_suffix];constructor
 ·rintro⟨t,rfl⟩;simp
 ·intro h;obtain⟨b,c⟩:=List.getLast?_eq_some_iff.1 h;exact⟨b,c.symm⟩
theorem vA {l:List UInt8} (h:QE l [10]=Qj):QF l [10]=l.dropLast:=by
 unfold QF;rw[if_pos h,List.dropLast_eq_take];rfl
theorem VU {B:Nat} {W:Qb} {d:List ByteArray} {e:Qx} (h:KC B W e d):(∃(zs:List Int) (g:Nat),e=V (Qh #[I (O ⟨g,0,Z⟩) zs.length zs.length,Q3 Qj])/\E8 (d.map (·.data.toList))=O zs/\CA W (I (O ⟨g,0,Z⟩) zs.length zs.length) zs/\B<=g)\/(e=V (Qh #[I Z 0 0,Q3 Qo])/\E8 (d.map (·.data.toList))=Z):=by
 rcases h with⟨zs,g,b,f,i,k,m⟩|⟨j,t,b,f,i⟩
 ·refine Qf ⟨zs,g,by rw[b];exact i,Un (by rw[Q9];exact b) (fun j t ht=>?_),⟨Qk ⟨g,0,zs.length,rfl,fun j hj=>by rw[Q8];exact k j hj⟩,fun q l c e=>by injection e with _ e1 e2;omega⟩,m⟩;rw[QQ]at ht
  cases e:d[j]? with
  | none=>rw [e]at ht;cases ht
  | some u =>
   rw[e]at ht;obtain rfl:u.data.toList=t:=Q4 ht;exact f j u e
 ·exact Qk ⟨i,Um (j:=j) (t:=t.data.toList) (by rw[QQ,b];rfl) f⟩
def VV (w:Qb) (a:Nat->Qn) (R:List Int×Nat×Option Nat) (e:Qx) (w':Qb):Prop:= ∃v ev,e=V (Qh #[v,ev])/\A4 w' v R.1/\AZ w' a ev R.2/\BL w w'/\ON v/\IE w v
theorem Nj {w:Qb} {a:Nat->Qn} {R:List Int×Nat×Option Nat} {W:Qb} (b:R=([],1,Z)) (c:BL w W):VV w a R (V (Qh #[I Z 0 0,Qr 410 (A (O (a 0)))])) W:=by
 subst b;exact⟨_,_,rfl,PO _,rfl,c,Lg,fun k hk=>by simp[Qq]at hk⟩
theorem vB (s:ByteArray) (w:Qb) (a:Nat->Qn) (h:Gm w a) (hs:s.size<=10000) :
  Qd Qa 66 #[Qe s] w fun e w'=>VV w a (Ij s.data.toList) e w':=by
 have C:=strings_CutSuffix s ⟨#[10]⟩ w (by omega);have eS:(⟨#[10]⟩:ByteArray).data.toList= [10]:=rfl;rw[eS]at C;have a2:s.data.toList.length<=10000:=by rw[AC];exact hs
 have L:U _:=fun W (hb:BL w W)=>h.below hb;have a1:=h.text
 cases hS:QE s.data.toList [10] with
 | false =>
  have y:U (Ij s.data.toList=([],1,Z)):=by
   show _=_;have hn:s.data.toList.getLast? ≠O 10:=fun e=>by rw[(VT _).2 e]at hS;cases hS
   unfold Ij;split
   ·rw[if_neg (by rintro⟨h',_⟩;exact hn h')]
   ·rfl
  rw[hS]at C;have au:QF s.data.toList [10]=s.data.toList:=by unfold QF;rw[if_neg (by rw[hS];simp)]
  rw[au]at C;have P:=JX ⟨s.data.toList.toArray⟩ w a h.weak (by rw[<-AC];simp;omega);generalize Ij s.data.toList=R at y ⊢;generalize (⟨s.data.toList.toArray⟩:ByteArray)=ar at C P
  go_enter func66,ntmps66
  go_wp2_with fail
  refine C.mono ?_;rintro e w1 ⟨rfl,rfl⟩
  go_wp2_with fail
  refine P.mono ?_;rintro e M ⟨v,ts,rfl,-,-,r⟩;have ac:=(L.out M r).text;go_wp2
  go_quiet (fail)
  go_wp2;go_ret2;exact Nj y.out (AK r nq)
 | true =>
  rw[hS,vA hS]at C;have av:=(VT _).1 hS;have P:=JX ⟨s.data.toList.dropLast.toArray⟩ w a h.weak (by rw[<-AC];simp;omega);have aw:s.data.toList.dropLast.length<=10000:=by simp;omega
  have ad:U (∀(k:List UInt8) (ws:List (List UInt8)),Bc s.data.toList.dropLast=k :: ws->Ij s.data.toList=if k=Ek then match E8 ws with
    | some d=>if (AF d).1≠0 then ([],AF d) else (d,0,Z)
    | none=>([],1,Z)
   else ([],1,Z)):=fun k ws e=>by
    unfold Ij;rw[e];dsimp only;by_cases n:k=Ek
    ·rw[if_pos ⟨av,n⟩,if_pos n];cases E8 ws<;>rfl
    ·rw[if_neg (fun h'=>n h'.2),if_neg n]
  have eD:(⟨s.data.toList.dropLast.toArray⟩:ByteArray).data.toList=s.data.toList.dropLast:=by simp
  rw[eD]at P;generalize Ij s.data.toList=R at ad ⊢;generalize s.data.toList.dropLast=l at C P ad aw;generalize (⟨l.toArray⟩:ByteArray)=ar at C P
  go_enter func66,ntmps66
  go_wp2_with fail
  refine C.mono ?_;rintro e w1 ⟨rfl,rfl⟩
  go_wp2_with fail
  refine P.mono ?_;rintro e M ⟨v,ts,rfl,⟨b,rfl,ao⟩,ap,r⟩;have ac:=(L.out M r).text;have ai:=VS l;have aj:=uZ l;have ak:=JW l;rw[<-ap]at ai aj ak
  cases ts with
  | nil=>exact absurd rfl aj
  | cons t0 tr =>
  have Y:=ad.out t0.data.toList (tr.map (·.data.toList)) (by rw[<-ap];rfl);have c0:=ao 0 (by simp);have ax:U (∀W,BL M W->∀j (h:j<tr.length),W.cell? ⟨b,1+j,Z⟩=O (Qe tr[j])):=fun W hb j hj=>by
   have:=Aa hb (ao (j+1) (by simp;omega));rw[Nat.add_comm 1 j];simpa using this
  have ay:U (∀t∈tr,t.size<=Qy):=fun t F=>by
   have:=ak t.data.toList (by simp;exact Qk ⟨t,F,rfl⟩);rw[AC]at this;unfold Qy;omega
  have az:tr.length<=10000:=by simp at ai;omega
  simp only[List.getElem_cons_zero]at c0;by_cases n:t0.data.toList=Ek
  case neg =>
   rw[if_neg n]at Y;have y:U _:=Y;have d0:=BD n;simp only[Ek]at d0;simp only[QJ];have al:(0:Int)<((tr.length+1:Nat):Int):=by omega
   generalize tr.length+1=N at al ⊢;go_wp2
   all_goals
    go_quiet (fail)
    go_wp2;go_ret2;exact Nj y.out (AK r nq)
  case pos =>
  rw[if_pos n]at Y;have d0:=CQ n;simp only[Ek]at d0;have z:∃q,q=(if tr.length=0 then O (⟨b,0,Z⟩:Qn) else O ⟨b,1,Z⟩)/\Qd Qa 132 #[I q tr.length tr.length] M fun e w'=>KC M.heap.size w' e tr/\BL M w':=by
   by_cases h0:tr.length=0
   ·refine⟨_,rfl,?_⟩;rw[if_pos h0];obtain rfl:tr= []:=List.length_eq_zero_iff.1 h0;exact LU b 0 0 [] M a (L.out M r).weak (fun j hj=>absurd hj (Nat.not_lt_zero _)) (fun t F=>by simp at F) (by simp)
   ·refine⟨_,rfl,?_⟩;rw[if_neg h0];exact LU b 1 tr.length tr M a (L.out M r).weak (ax.out M (Qm _ _)) ay.out (by omega)
  obtain⟨q,hq,z⟩:=z;have HM:U (∀o,E8 (tr.map (·.data.toList))=o->R=match o with
    | some d=>if (AF d).1≠0 then ([],AF d) else (d,0,Z)
    | none=>([],1,Z)):=fun o e=>by rw[<-e];exact Y
  simp only[QJ];generalize a0:tr.length=K at hq z az ⊢;have am:U _:=a0;have al:(0:Int)<((K+1:Nat):Int):=by omega
  have a3:(1:Int)<=((K+1:Nat):Int):=by omega
  by_cases an:K=0
  ·subst an;rw[if_pos rfl]at hq;subst hq
   go_wp2_with fail
   refine z.mono ?_;rintro e w3 ⟨T,aa⟩;have p:=Ad r aa;clear z c0 ac;rcases VU T with⟨d,g,rfl,X,B,ab⟩|⟨rfl,ah⟩
   ·have y:U (R=if (AF d).1≠0 then ([],AF d) else (d,0,Z)):=HM.out (O d) X;have f:=Lh _ d w3 a (L.out w3 p) B (by have:=PP X;rw[Q9,am.out]at this;omega);have Q:U (∀W,BL w3 W->A4 W (I (O ⟨g,0,Z⟩) d.length d.length) d):=fun W hb=>B.1.below hb;generalize d.length=ZL at f Q ⊢;have ae:U (w1.heap.size<=g):=Qi r.size ab;clear B X T aa HM ab;by_cases i:(AF d).1=0
    ·have m:U (R=(d,0,Z)):=by
      show _=_;rw[y.out,if_neg (by simpa using i)]
     rw[La i]at f;clear y i
     go_wp2_with fail
     refine f.mono ?_;rintro e w4 ⟨ev,rfl,F,D⟩;clear f;obtain rfl:ev=Ql:=F;have af:U (A4 w4 (I (O ⟨g,0,Z⟩) ZL ZL) d):=Q.out w4 D;clear Q;go_wp2;go_ret2;refine⟨_,_,rfl,?_,?_,(Ad p D),fun q l c e=>by injection e with _ e1 e2;omega,fun k n=>by have e:O g=O k:=n;injection e with e;rw[<-e];exact ae.out⟩
     ·rw[m.out];exact af.out
     ·rw[m.out];rfl
    ·have m:U (R=([],AF d)):=by
      show _=_;rw[y.out,if_pos i]
     generalize AF d=E at f i m
     go_wp2_with fail
     refine f.mono ?_;rintro e w4 ⟨ev,rfl,F,D⟩;obtain⟨t,u,rfl⟩:=F.bad i;have ag:U _:=F;go_wp2;go_ret2;refine⟨_,_,rfl,?_,?_,(Ad p D),Lg,fun k n=>by simp[Qq]at n⟩
     ·rw[m.out];exact PO _
     ·rw[m.out];exact ag.out
   ·have y:U _:=HM.out Z ah;have aq:=(L.out w3 p).text;go_wp2
    go_quiet (fail)
    go_wp2;go_ret2;exact Nj y.out (AK p nq)
  ·rw[if_neg an]at hq;subst hq
   go_wp2_with fail
   refine z.mono ?_;rintro e w3 ⟨T,aa⟩;have p:=Ad r aa;clear z c0 ac;rcases VU T with⟨d,g,rfl,X,B,ab⟩|⟨rfl,ah⟩
   ·have y:U (R=if (AF d).1≠0 then ([],AF d) else (d,0,Z)):=HM.out (O d) X;have f:=Lh _ d w3 a (L.out w3 p) B (by have:=PP X;rw[Q9,am.out]at this;omega);have Q:U (∀W,BL w3 W->A4 W (I (O ⟨g,0,Z⟩) d.length d.length) d):=fun W hb=>B.1.below hb;generalize d.length=ZL at f Q ⊢;have ae:U (w1.heap.size<=g):=Qi r.size ab;clear B X T aa HM ab;by_cases i:(AF d).1=0
    ·have m:U (R=(d,0,Z)):=by
      show _=_;rw[y.out,if_neg (by simpa using i)]
     rw[La i]at f;clear y i
     go_wp2_with fail
     refine f.mono ?_;rintro e w4 ⟨ev,rfl,F,D⟩;clear f;obtain rfl:ev=Ql:=F;have af:U (A4 w4 (I (O ⟨g,0,Z⟩) ZL ZL) d):=Q.out w4 D;clear Q;go_wp2;go_ret2;refine⟨_,_,rfl,?_,?_,(Ad p D),fun q l c e=>by injection e with _ e1 e2;omega,fun k n=>by have e:O g=O k:=n;injection e with e;rw[<-e];exact ae.out⟩
     ·rw[m.out];exact af.out
     ·rw[m.out];rfl
    ·have m:U (R=([],AF d)):=by
      show _=_;rw[y.out,if_pos i]
     generalize AF d=E at f i m
     go_wp2_with fail
     refine f.mono ?_;rintro e w4 ⟨ev,rfl,F,D⟩;obtain⟨t,u,rfl⟩:=F.bad i;have ag:U _:=F;go_wp2;go_ret2;refine⟨_,_,rfl,?_,?_,(Ad p D),Lg,fun k n=>by simp[Qq]at n⟩
     ·rw[m.out];exact PO _
     ·rw[m.out];exact ag.out
   ·have y:U _:=HM.out Z ah;have aq:=(L.out w3 p).text;go_wp2
    go_quiet (fail)
    go_wp2;go_ret2;exact Nj y.out (AK p nq)
section
variable {a : Nat → Qn} {B : Nat} {EM : Qb → Prop}
theorem vC {f:ByteArray} (d:Ea f) {m:Int} (h:CP (f++Ab (Qs m)).data.toList=Qj):(Qs m).length<=11:=by
 have:=GJ h;obtain⟨g,b,c,-⟩:=d;have i:f.size=5:=by rw[<-AC,b,Qz,c];rfl
 rw[QG,EK]at this;omega
theorem vD (m:Int) (W:Qb) (h:DR W) (n:CP (AJ m).data.toList=Qj) :
  Qd Qa 64 #[Qe (AJ m)] W fun e w'=>e=V (Q3 Qj)/\BL W w':=by
 have f:=vC Nc n;have b:=strings_CutPrefix (AJ m) ⟨#[109,101,116,97,47]⟩ W;have d:(AJ m).data.toList= [109,101,116,97,47]++Qs m:=by
  unfold AJ;rw[show ((⟨#[109,101,116,97,47]⟩:ByteArray)++Ab (Qs m)).data.toList= [109,101,116,97,47]++(Ab (Qs m)).data.toList by simp,BT]
 have g:QK (AJ m).data.toList [109,101,116,97,47]=Qj:=by rw[d];simp[QK]
 have i:(⟨(QR (AJ m).data.toList [109,101,116,97,47]).toArray⟩:ByteArray)=Ab (Qs m):=by
  rw[d];simp[QR,QK,Ab]
 rw[show (⟨#[109,101,116,97,47]⟩:ByteArray).data.toList= [109,101,116,97,47] from rfl,g,i]at b;have c:=LQ (Ab (Qs m)) W h (by unfold Qy;rw[EK];omega);have j:Dn (Ab (Qs m)).data.toList=(J S m,Qj):=by
  unfold Dn At;rw[BT,if_pos f,Ja];simp
 rw[j]at c;generalize Ab (Qs m)=q at *;generalize AJ m=r at *;clear d g i j n f
 go_enter func64,ntmps64
 go_wp2_with fail
 refine b.mono ?_;rintro e o ⟨rfl,k⟩;rw[k];clear b k
 go_wp2_with fail
 refine c.mono ?_;rintro e p ⟨rfl,l⟩;clear c;go_wp2;go_ret;exact⟨rfl,l⟩
theorem vE (K:A2 a B EM An) (HL:∀X,EM X->AX X a) {W:Qb} {b:Nat} {vs:Qc} {l:Nat->Prop} {vi vf:Qc} {k:Lk} (hE:EM W) (h:Al W b vs l k.st.head vi vf { k with ids:= [],now:=AE }) (hi:Av k) :
  Qd Qa 32 #[A (O ⟨b,0,Z⟩)] W fun e w'=>e= .returned Ql/\Ac (fun j=>j=b) W w'/\∃vj vg,Al w' b vs l k.st.head vj vg k/\∀j,vj.ownBlock=O j\/vg.ownBlock=O j->W.heap.size<=j:=by
 obtain⟨z,rfl⟩:=h.ptr K;obtain⟨hm,bn,bd,-⟩:=DA.1 hi.ids;obtain⟨m,af,ag,a4⟩:=hi.head;have n:U (∀X,BL W X->EM X):=fun X hb=>K.below _ _ hE (hb.mono (K.size _ hE));have u:U (∀X,BL W X->Al X b (A (O z)) l k.st.head vi vf { k with ids:= [],now:=AE }):=fun X hb=>h.quiet K hb;have al:U (∀X,BL W X->Qd Qa 64 #[Qe (AJ m)] X fun e w'=>e=V (Q3 Qj)/\BL X w'):=fun X hb=>vD m X (HL X (n.out X hb)).s ag;have am:U (∀X,BL W X->Qd Qa 65 #[A (O z),Qe (AJ m)] X fun e w'=>e=V (Qh #[Qe (Ab (BB k.ids)),Ql])/\BL X w'):=fun X hb=>by
  have:=K.get X _ l k.st (AJ m) (n.out X hb) (u.out X hb).st hi.good.keeps (by have:=GJ ag;omega);rw[a4]at this;exact this
 have an:U (∀X,BL W X->Qd Qa 66 #[Qe (Ab (BB k.ids))] X fun e w'=> ∃v,e=V (Qh #[v,Ql])/\CA w' v k.ids/\IE X v/\BL X w'):=fun X hb=>by
  have:=vB (Ab (BB k.ids)) X a (HL X (n.out X hb)).m (VO hi.ids);rw[BT,OH hi.ids]at this;refine this.mono fun e w' ⟨v,ev,h1,h2,h3,h4,h5,h6⟩=>⟨v,?_,⟨h2,h5⟩,h6,h4⟩;rw[h1,AZ.ok h3 rfl]
 have ao:U (∀X v,CA X v k.ids->Qd Qa 68 #[v] X fun e w'=>e=V (J S k.now.1)/\w'=X):=fun X v q=>by
  have:=OO v k.ids X q.1 (by omega);rw[List.getLastD_eq_getLast?,hi.last]at this;exact this
 have a9:=Ng hi.now.fine;have ap:U (∀X,BL W X->Qd Qa 47 #[A (O z),J S k.now.1] X fun e w'=> ∃vg,e=V (Qh #[A8 k.now vg,Ql])/\Ai w' vg k.now.2.2.2.2.2.2/\F9 X vg/\BL X w'):=fun X hb=>P9 K HL X _ l k.st k.now.1 k.now (n.out X hb) (u.out X hb).st hi.good.keeps hi.now.has hi.now.fine (by omega);have aa:U (b<W.heap.size/\(∀j,l j->j<W.heap.size)/\¬l b):=⟨h.blk.lt,(h.sizes K).2,h.off⟩;have aq:=u.out W (Qm _ _);obtain⟨c0,-,g,-⟩:=aq.blk.cells;rw[af]at g;generalize AJ m=MB at *;generalize Ab (BB k.ids)=TX at *;generalize ak:k.ids=ids at *;have a7:U (k.ids=ids):=ak;have bk:U (k.st.head=MB):=af;clear hE h hi hm bd af ag a4 a9 aq ak
 go_enter func32,ntmps32
 have ar:=al.out W (Qm _ _)
 go_wp2_with fail
 refine ar.mono ?_;rintro e w1 ⟨rfl,T⟩;clear ar al;have au:=Aa T c0;have av:=Aa T g;have i:BL w1 w1.drew:=(Qm _ _).drew;have ba:=Aa i au;have bb:=Aa i av;have ab:=Ad T i;have aw:=am.out w1.drew ab
 go_upto_region 3 with fail
 go_cut [3,4] from 14 to 25 (fun c3 c4 wx=>c3=Qe TX/\c4=Ql/\BL W wx)
 case first =>
  first
   | (go_region_with (go_at_call 65;(with_reducible refine aw.mono ?_);rintro e wZ ⟨rfl,bi⟩))
   | fail
  all_goals
   go_wp2;go_meet
   case rel=>exact ⟨rfl,rfl,(Ad ab bi)⟩
 case rest =>
 obtain⟨rfl,rfl,N⟩:=hcut;obtain⟨W2,be⟩:∃X,X=wc:=⟨_,rfl⟩;subst be;clear T c0 g au av ba bb i ab aw am;have ax:=an.out W2 N
 go_wp2_with fail
 refine ax.mono ?_;rintro e d ⟨vj,rfl,c,a5,a6⟩;have f:=Ad N a6;have L:U (∀j,vj.ownBlock=O j->W.heap.size<=j):=fun j e=>Qi N.size (a5 j e);have ay:=u.out d f;obtain⟨k0,-⟩:=ay.blk.cells;have az:U (∀X,BL d X->Qd Qa 68 #[vj] X fun e w'=>e=V (J S k.now.1)/\w'=X):=fun X hb=>ao.out X vj (c.below hb);have ac:U (∀X,BL d X->Qd Qa 47 #[A (O z),J S k.now.1] X fun e w'=> ∃vg,e=V (Qh #[A8 k.now vg,Ql])/\Ai w' vg k.now.2.2.2.2.2.2/\(∀j,vg.ownBlock=O j->X.heap.size<=j)/\BL X w'):=fun X hb=>ap.out X (Ad f hb);have HJ:U (CA d vj ids):=c;obtain⟨C,D,bf⟩:=c.1.form;subst bf;clear ax an ap ao a6 a5 N c;generalize ids.length=E at *;unfold A8 at ac
 go_upto_region 9 with fail
 go_cut [4,6] from 38 to 48 (fun c4 c6 wx=> ∃xb Y,c6=A (O ⟨xb,0,Z⟩)/\c4=Ql/\Ao wx xb k.now Y/\Ai wx Y k.now.2.2.2.2.2.2/\(∀j,Y.ownBlock=O j->d.heap.size<=j)/\d.heap.size<=xb/\BL d wx)
 case first =>
  have bl:BL d d:=Qm _ _;have a8:b<d.heap.size:=BF k0;generalize k.now=TC at *;obtain⟨T1,T2,T3,T4,T5,T6,Tf⟩:=TC;clear ay f HJ L u n aa HL
  go_region_held3 (fun w'=>BL d w'/\w'.cell? ⟨b,0,Z⟩=O (A (O z)))
   (first
    | (go_split_ands;with_reducible exact⟨QP (by with_reducible assumption) (o.mono (Qp (by with_reducible assumption))),Aa o (by with_reducible assumption)⟩)
    | (go_split_ands;with_reducible exact⟨L0 (by with_reducible assumption) p p,Dv (by with_reducible assumption) (Qw a8 p)⟩)
    | (go_split_ands;with_reducible refine⟨PC (by with_reducible assumption) ?_,FQ (by with_reducible assumption) ?_⟩;all_goals omega)
    | (go_split_ands;with_reducible refine⟨QC (by with_reducible assumption),?_⟩;all_goals go_keep)
    | (go_split_ands;with_reducible refine⟨QD (by with_reducible assumption) (Qp (by with_reducible assumption)) _,?_⟩;all_goals go_keep)
    | (go_split_ands;with_reducible refine⟨QC (QD (by with_reducible assumption) (Qp (by with_reducible assumption)) _),?_⟩;all_goals go_keep)
    | (go_split_ands;with_reducible exact⟨by assumption,by assumption⟩))
   (first
    | (go_at_call 68;with_reducible refine(az.out _ (by go_split_ands;with_reducible assumption)).mono ?_;rintro e wX ⟨rfl,rfl⟩)
    | (go_at_call 47;with_reducible refine(ac.out _ (by go_split_ands;with_reducible assumption)).mono ?_;rintro e wX ⟨Y,rfl,aj,bj,o⟩;have p:d.heap.size<=wX.heap.size:=(by go_split_ands;exact Qi (Qp (by with_reducible assumption)) o.size);have a0:∀j,Y.ownBlock=O j->d.heap.size<=j:=(fun j c=>Qi (by go_split_ands;exact Qp (by with_reducible assumption)) (bj j c));obtain⟨t,g,rfl⟩:=aj.form;(first | (with_reducible have q:=Ao.below (L1 _) o) | (with_reducible have q:=Ao.below (K3 _) o) | (with_reducible have q:=Ao.below q o) | skip);(first | (obtain⟨y0,y1,y2,y3,y4,y5,y6,yf⟩:=q.zeros) | skip)))
  all_goals go_split_ands
  all_goals go_wp2
  all_goals go_meet
  all_goals first
   | ((with_reducible refine⟨_,_,rfl,rfl,PD _ _ _ _ _ _ _ _ _,Ai.below aj (Af _ _),a0,?_,by assumption⟩);exact p)
   | ((with_reducible refine⟨_,_,rfl,rfl,PF q _ _ _ _ _ _ _ _,PG q _ _ _ _ _ _ _ aj,a0,?_,by assumption⟩);exact Q0 _)
 case rest =>
 obtain⟨xb,Y,rfl,rfl,ah,Q,R,bg,ai⟩:=hcut;obtain⟨t,g,rfl⟩:=Q.form;generalize k.now.2.2.2.2.2.2.length=F at ah Q R;have ad:=Ad f ai;have r:=u.out wc ad;have ae:=HJ.out.below ai;have HP:U (Ac (fun j=>j=b) W (EO (wc.setCell ⟨b,3,Z⟩ (I C E D)) b k.now (I t F g)).drew/\∃vj vg,Al (EO (wc.setCell ⟨b,3,Z⟩ (I C E D)) b k.now (I t F g)).drew b (A (O z)) l k.st.head vj vg k/\∀j,vj.ownBlock=O j\/vg.ownBlock=O j->W.heap.size<=j):=by
  have y:CB (EO (wc.setCell ⟨b,3,Z⟩ (I C E D)) b k.now (I t F g)) b (A (O z)) k.spec k.st.head (I C E D) k.now (I t F g):=CB.setNow (r.blk.setIds _);have a1:Ac (fun j=>j=b) wc (EO (wc.setCell ⟨b,3,Z⟩ (I C E D)) b k.now (I t F g)):=((Ac.refl (fun j=>j=b) wc).setCell (Qf rfl) _).trans (U4 _ b k.now _) (fun _ h _=>h);generalize EO (wc.setCell ⟨b,3,Z⟩ (I C E D)) b k.now (I t F g)=W8 at y a1 ⊢;have i:BL W8 W8.drew:=(Qm _ _).drew;have M:Ac (fun j=>j=b) wc W8.drew:=a1.trans (Ac.of_below (P:=fun _=>False) i) (fun _ h _=>h.elim);have bc:=K.keep _ _ _ _ _ _ r.st M (fun j c e=>r.off (e▸c));have hk:=aa.out;have a2:∀j,(I C E D).ownBlock=O j->j≠b/\¬l j:=fun j c=>by
   have:=L.out j c;exact⟨fun e=>by omega,fun e=>by have:=hk.2.1 j e;omega⟩
  have a3:∀j,(I t F g).ownBlock=O j->j≠b/\¬l j:=fun j c=>by
   have:=R j c;have:=f.size;exact⟨fun e=>by omega,fun e=>by have:=hk.2.1 j e;omega⟩
  refine⟨(Ac.of_below ad).trans M (fun _ h _=>h),_,_,⟨y.keep (i.block b y.lt),bc,?_,Ks Q (fun _ j c=>(a3 j c).1) M,hk.2.2,fun _ j c=>a2 j c,fun _ j c=>a3 j c⟩,fun j c=>c.elim (L.out j) (fun e=>Qi f.size (R j e))⟩;rw[a7.out];exact⟨Kr ae.1 (fun _ j c=>(a2 j c).1) M,ae.2⟩
 unfold EO at HP;have bm:¬xb=b:=by have:=aa.out.1;have:=f.size;omega
 obtain⟨d0,d1,d2,d3,d4,d5,d6,d7,d8,d9,bh,dz⟩:=r.blk.cells;generalize k.now=TC at *;obtain⟨n1,n2,n3,n4,n5,n6,bo⟩:=TC;obtain⟨x0,x1,x2,x3,x4,x5,x6⟩:=ah.cells;unfold AE at d4 d5 d6 d7 d8 d9;dsimp only at x0 x1 x2 x3 x4 x5 x6 d3 d4 d5 d6 d7 d8 d9 bh HP;clear ah r Q ae ad ai R f u HJ L n ac az bg
 go_upto_region 12 with fail
 go_region
 go_wp2;go_ret;exact⟨rfl,HP.out⟩
end
structure Lw (N:List ByteArray) (s s':St):Prop where
 good:B7 s'
 old:∀n∈N,∀t,AN s n t->AN s' n t
 head:s'.head=s.head
theorem Lw.refl {N:List ByteArray} {s:St} (h:B7 s):Lw N s s:=⟨h,fun _ _ _ h=>h,rfl⟩
theorem Lw.trans {N:List ByteArray} {s t u:St} (h:Lw N s t) (k:Lw N t u):Lw N s u:=⟨k.good,fun n hn x hx=>k.old n hn x (h.old n hn x hx),k.head.trans h.head⟩
theorem vF {s:St} (h:B7 s) {N:List ByteArray} {n:ByteArray} (c:n∉N):Lw N s (E2 s n):=by
 refine⟨⟨gE h.keeps n,?_,?_⟩,fun m hm t ht=>?_,?_⟩
 ·intro o b;unfold E2 at b;split at b
  ·exact h.slb o b
  ·exact h.slb o (QS.1 b).1
 ·intro o b;unfold E2 at b;split at b
  ·exact h.aged o b
  ·exact h.aged o (QS.1 b).1
 ·unfold E2;split
  ·exact ht
  ·unfold AN Ba at *;dsimp only;rw[KQ h.keeps.rise,if_neg (show ¬m=n from fun e=>c (e▸hm))];exact ht
 ·unfold E2;split<;>rfl
theorem Nk {s:St} {d:Int} {x y:Sn} (h:Cy s d x) (f:Cy s d y):x=y:=by
 have e:=h.has.symm.trans f.has;injection e with e;have g:BH x=BH y:=by
  have:=congrArg (fun b:ByteArray=>b.data.toList) e;simpa [BT] using this
 have c:=Oh h.fine;rw[g,Oh f.fine]at c;exact(Prod.mk.inj c).1.symm
theorem Cy.lw {N:List ByteArray} {s d:St} {g:Int} {x:Sn} (h:Cy s g x) (i:Lw N s d) (j:∀n∈BE x,n∈N):Cy d g x:=by
 refine⟨i.old _ (j _ (by rw[<-h.id];exact List.mem_cons_self)) _ h.has,h.fine,h.id,fun f hf=>?_⟩;have b:=h.files f hf;have c:=MX b;have k:=i.old _ (j f.1 (List.mem_cons_of_mem _ (QH.2 ⟨f,hf,rfl⟩))) _ c;rw[P2 (k.trans c.symm)];exact b
theorem Av.lw {N:List ByteArray} {k:Lk} (h:Av k) {i:St} (b:Lw N k.st i) (c:∀id∈k.ids,∃x,Cy k.st id x/\∀n∈BE x,n∈N) (o:k.st.head∈N):Av { k with st:=i } :=by
 obtain⟨m,g,j,l⟩:=h.head;refine⟨b.good,h.ids,⟨m,b.head.trans g,j,b.old _ (g▸o) _ l⟩,fun id hid=>?_,?_,h.last⟩
 ·obtain⟨x,d,f⟩:=c id hid;exact⟨x,d.lw b f⟩
 ·obtain⟨x,d,f⟩:=c k.now.1 (List.mem_of_getLast? h.last);obtain rfl:=Nk d h.now;exact h.now.lw b f
def PR (s:St) (spec:ByteArray):Prop:=(A5 spec.data.toList).1=0/\(s.head=⟨#[]⟩->Rm 2 (Bq s))
def VW (s:St) (k:Lk):Prop:=Av k/\(∀k0,k0.st=s->Av k0->k.ids=k0.ids/\k.now=k0.now/\k.st=Bq s)/\(s.head=⟨#[]⟩->k.ids= [Ag (Bq s)]/\k.now=Dl (Ag (Bq s))/\(∃m,k.st.head=AJ m/\Ag (Bq s)<m)/\∀n,Rm (n+2) (Bq s)->Rm n k.st)
def JI (a:Nat->Qn) (W:Qb) (vs:Qc) (SP:Nat->Prop) (s:St) (spec:ByteArray) (e:Qx) (w':Qb):Prop :=
 ∃n vk,e=V (Qh #[vk,Ae a n])/\((n≠0/\vk=A Z/\¬PR s spec/\Ac SP W w')\/(n=0/\∃SP' kb vi vf k,vk=A (O ⟨kb,0,Z⟩)/\Ac SP W w'/\(∀j,SP' j->SP j\/W.heap.size<=j)/\W.heap.size<=kb/\(Al w' kb vs SP' k.st.head vi vf k/\∀j,vi.ownBlock=O j\/vf.ownBlock=O j->W.heap.size<=j)/\k.spec=spec/\(A5 spec.data.toList).1=0/\VW s k))
theorem Nl {k:Lk} (h:Av k):k.st.head≠⟨#[]⟩:=by
 obtain⟨m,e,-⟩:=h.head;rw[e];intro b;have:=congrArg QW b;unfold AJ at this;rw[QG,show (⟨#[109,101,116,97,47]⟩:ByteArray).size=5 from rfl,show (⟨#[]⟩:ByteArray).size=0 from rfl]at this;omega
theorem Av.on {k:Lk} (h:Av k):Av { k with st:=Bq k.st } :=h.up (MW h.good (Mm h.good.keeps) rfl rfl)
theorem JJ {m n:Int} (h:AJ m=AJ n):m=n:=by
 have e:(AJ m).data.toList=(AJ n).data.toList:=by rw[h]
 unfold AJ at e;simp only[QX,Array.toList_append,BT,List.append_cancel_left_eq]at e;have:=Ja m;rw[e,Ja]at this;exact(Q4 this).symm
theorem vG {k c:Lk} (h:Av k) (f:Av c) (e:k.st=c.st):k.ids=c.ids/\k.now=c.now:=by
 obtain⟨m,q,u,s⟩:=h.head;obtain⟨n,t,v,o⟩:=f.head;have i:=JJ (q.symm.trans ((congrArg St.head e).trans t));subst i;rw[<-e]at o;have g:=s.symm.trans o;injection g with g;have p:BB k.ids=BB c.ids:=by
  have:=congrArg (fun b:ByteArray=>b.data.toList) g;simpa [BT] using this
 have r:=OH h.ids;rw[p,OH f.ids]at r;have d:k.ids=c.ids:=(Prod.mk.inj r).1.symm;refine⟨d,?_⟩;have j:=h.last;rw[d,f.last]at j;have l:=f.now;rw[Q4 j,<-e]at l;exact Nk h.now l
theorem vH {n:Int} (h:1<=n/\n<=1073741824):(Am (Dl n)).1=0/\(AF [n]).1=0:=by
 have b:CT n=Qj:=by simp[CT,h.1,h.2]
 refine⟨?_,DA.2 ⟨by simp,by simp,by simpa using b,by simp⟩⟩;have c:Ey (Dl n)=Qj:=I1.2 (by show ((1<=n/\n<=1073741824)/\((0:Int)<=0/\0<n))/\(((0:Int)<=0/\(0:Int)<=1073741824)/\((0:Int)<=0/\(0:Int)<=100000))/\(0:Int)<=0/\(0:Int)<=1073741824;omega);unfold Am;rw[c,if_neg (by simp),if_neg (by show ¬Cv [115,116,97,114,116]=Qo;decide),if_neg (by show ¬(BK []).1≠0;decide)];rfl
section
variable {a : Nat → Qn} {B : Nat} {EM : Qb → Prop}
theorem Nn (K:A2 a B EM An) (HL:∀X,EM X->AX X a) {W:Qb} {vs:Qc} {d:Nat->Prop} {s:St} (hE:EM W) (Q:An W vs d s) (hg:B7 s) (hB:∀j,d j->B<=j) (b:ByteArray) (an:b.size<=1000) (hH:(s.head=⟨#[]⟩/\Ag s<=1073741824)\/∃k0:Lk,k0.st=s/\Av k0) :
  Qd Qa 8 #[vs,Qe b] W (JI a W vs d s b):=by
 obtain⟨g,rfl⟩:=K.ptr _ _ _ _ Q;have T:U (B<=W.heap.size/\∀j,d j->j<W.heap.size):=⟨K.size _ hE,fun j c=>K.lt _ _ _ _ j Q c⟩;have p:=mB b W a (HL W hE).f.data.env an;have ao:U (∀X,BL W X->Qd Qa 30 #[A (O g)] X fun e w'=>e=V (Qh #[])/\Dt An X (A (O g)) d (Bq s) w'):=fun X hb=>K.on X _ d s (K.below _ _ hE (hb.mono T.out.1)) (K.keep _ _ _ _ (fun _=>False) _ Q (Ac.of_below hb) (fun _ _ h=>h)) hg.keeps;have ap:U (∀X,Ac d W X->EM X):=fun X hb=>K.below _ _ hE (hb.below T.out.1 hB);have aq:U (∀X o,Ac d W X->An X (A (O g)) o (Bq s)->Qd Qa 31 #[A (O g)] X fun e w'=>e=V (Qe s.head)/\BL X w'):=fun X o hb h=>K.head X _ o (Bq s) (ap.out X hb) h (Mm hg.keeps);have a0:U (B7 (Bq s)):=MU hg (Mm hg.keeps) rfl;have HH:U ((s.head=⟨#[]⟩/\Ag s<=1073741824)\/∃k0:Lk,k0.st=s/\Av k0):=hH;have a1:U (∀j,d j->B<=j):=hB;by_cases E:(A5 b.data.toList).1=0
 case neg =>
  have a2:U (¬PR s b):=fun h=>E h.1;obtain⟨n,hn⟩:∃n,(A5 b.data.toList).1=n+1:=⟨(A5 b.data.toList).1-1,by omega⟩;rw[hn]at p;simp only[Ae]at p;clear hE Q hg hB an hH E hn
  go_enter func8,ntmps8
  go_wp2_with fail
  refine p.mono ?_;rintro e w1 ⟨rfl,u⟩;have a3:U (Ac d W w1):=Ac.of_below u;clear p u;go_wp2;go_ret2;exact⟨n+1,_,rfl,Qf ⟨by omega,rfl,a2.out,a3.out⟩⟩
 case pos =>
 have ar:U ((A5 b.data.toList).1=0):=E;rw[E]at p;simp only[Ae]at p;clear hE Q hg hB an hH E
 go_enter func8,ntmps8
 go_wp2_with fail
 refine p.mono ?_;rintro e w1 ⟨rfl,u⟩;have au:=ao.out w1 u;clear p ao
 go_wp2_with fail
 refine au.mono ?_;rintro e w2 ⟨rfl,o,ak,ac,al⟩;have ad:Ac d W w2:=(Ac.of_below u).trans ac (fun _ h _=>h);have F:U (∀j,o j->d j\/W.heap.size<=j):=fun j c=>(al j c).imp_right (Qi u.size);have av:=aq.out w2 o ad ak;clear au ac al u aq
 go_wp2_with fail
 refine av.mono ?_;rintro e r ⟨rfl,am⟩;clear av;have ae:Ac d W r:=ad.trans (Ac.of_below (P:=fun _=>False) am) (fun _ h _=>h.elim);have af:An r (A (O g)) o (Bq s):=K.keep _ _ _ _ (fun _=>False) _ ak (Ac.of_below am) (fun _ _ h=>h);clear am ak ad
 go_upto_region 8 with fail
 have Y:BL r (r.alloc (Qg #[A (O g),Qe b,Qe s.head,I Z 0 0,J S 0,J S 0,J S 0,J S 0,J S 0,Qe ⟨#[]⟩,I Z 0 0] 66)):=Af _ _;have L:CB (r.alloc (Qg #[A (O g),Qe b,Qe s.head,I Z 0 0,J S 0,J S 0,J S 0,J S 0,J S 0,Qe ⟨#[]⟩,I Z 0 0] 66)) r.heap.size (A (O g)) b s.head (I Z 0 0) AE (I Z 0 0):=Q2 _ _;have q:U (W.heap.size<=r.heap.size/\∀j,o j->j<r.heap.size):=⟨ae.size,fun j c=>K.lt _ _ _ _ j af c⟩;generalize r.alloc (Qg #[A (O g),Qe b,Qe s.head,I Z 0 0,J S 0,J S 0,J S 0,J S 0,J S 0,Qe ⟨#[]⟩,I Z 0 0] 66)=C at Y L ⊢;have ag:Ac d W C:=ae.trans (Ac.of_below (P:=fun _=>False) Y) (fun _ h _=>h.elim);have M:Al C r.heap.size (A (O g)) o s.head (I Z 0 0) (I Z 0 0) ⟨Bq s,b, [],AE⟩:=⟨L,K.keep _ _ _ _ (fun _=>False) _ af (Ac.of_below Y) (fun _ _ h=>h),⟨Qf ⟨Z,0,rfl,rfl⟩,Lg⟩,Qf ⟨Z,0,rfl,fun _=>rfl,rfl⟩,fun e=>by have:=q.out.2 _ e;omega,DY.nil _ _ _,DY.nil _ _ _⟩;have aa:EM C:=ap.out C ag;have z:U (Ac d W C):=ag;have aw:U (B<=r.heap.size/\∀j,o j->B<=j):=⟨Qi T.out.1 q.out.1,fun j c=>(F.out j c).elim (a1.out j) (fun e=>Qi T.out.1 e)⟩;generalize r.heap.size=D at L M q aw ⊢;obtain⟨-,-,c2,-⟩:=L.cells;clear Y L af ae ag;by_cases y:s.head=⟨#[]⟩
 case pos =>
  have hn:Ag s<=1073741824:=by
   rcases HH.out with h | ⟨k0,e,h⟩
   ·exact h.2
   ·exact absurd (e▸y) (Nl h)
  have ax:=It s;obtain⟨ab,ah⟩:=vH (n:=Ag (Bq s)) ⟨ax.1,hn⟩;have ay:=uY K HL aa (k:=⟨Bq s,b, [],AE⟩) M a0.out aw.out (by show s.head.size<=1000;rw[y];decide) ab ah;have t:U (∀e w',(∃vj,(∀j,vj.ownBlock=O j->C.heap.size<=j)/\Dw a C D (A (O g)) o (I Z 0 0) (I Z 0 0) ⟨Bq s,b, [],AE⟩ vj (I Z 0 0) [Ag (Bq s)] (Dl (Ag (Bq s))) (Gy ⟨Bq s,b, [],AE⟩ (Dl (Ag (Bq s)))) (FR ⟨Bq s,b, [],AE⟩ (Dl (Ag (Bq s)))) e w')->∃n,e=V (Ae a n)/\((n≠0/\JI a W (A (O g)) d s b (V (Qh #[A Z,Ae a n])) w')\/(n=0/\JI a W (A (O g)) d s b (V (Qh #[A (O ⟨D,0,Z⟩),Ql])) w'))):=fun e w' ⟨vj,hnj,n,SY,h1,h2,h3,h4⟩=>by
   refine⟨n,h1,?_⟩;rcases h4 with⟨N,a6,-⟩|⟨N,s',m,g1,g2,g3,g4,g5,⟨g6,g7,g8⟩,g9⟩
   ·refine Qf ⟨N,n,_,rfl,Qf ⟨N,rfl,fun h=>a6 ⟨rfl,h.2 y⟩,z.out.trans h2 (fun j c hjl=>?_)⟩⟩;rcases c with c | c
    ·exact(F.out j c).elim id (fun e=>absurd hjl (by omega))
    ·exact absurd hjl (by have:=q.out.1;omega)
   ·refine Qk ⟨N,0,_,rfl,Qk ⟨rfl,SY,D,vj,I Z 0 0,⟨s',b, [Ag (Bq s)],Dl (Ag (Bq s))⟩,rfl,z.out.trans h2 (fun j c hjl=>?_),fun j c=>(h3 j c).elim (F.out j) (fun e=>Qk (Qi z.out.size e)),q.out.1,⟨?_,fun j c=>c.elim (fun e=>Qi z.out.size (hnj j e)) (fun e=>by cases e)⟩,rfl,ar.out,?_⟩⟩
    ·rcases c with c | c
     ·exact(F.out j c).elim id (fun e=>absurd hjl (by omega))
     ·exact absurd hjl (by have:=q.out.1;omega)
    ·show Al _ _ _ _ s'.head _ _ _;rw[g3];exact g9
    ·refine⟨⟨g1,ah,⟨m,g3,g4,g5⟩,fun id hid=>?_,⟨g6,ab,rfl,fun f hf=>by cases hf⟩,rfl⟩,fun k0 e h=>absurd (e▸y) (Nl h),fun _=>⟨rfl,rfl,⟨m,g3,g7⟩,g8 rfl⟩⟩;rw[Q6]at hid;subst hid;exact⟨_,g6,ab,rfl,fun f hf=>by cases hf⟩
  rw[y]at c2;clear aa M y hn ax ab ah
  go_wp2_with fail
  refine ay.mono ?_;rintro e w5 v;obtain⟨n,rfl,a5⟩:=t.out e w5 v;clear ay v t;rcases a5 with⟨N,v⟩|⟨N,v⟩
  ·obtain⟨i,rfl⟩:∃i,n=i+1:=⟨n-1,by omega⟩;have R:U (JI a W (A (O g)) d s b (V (Qh #[A Z,Ae a (i+1)])) w5):=v;simp only[Ae]at R ⊢;clear v N;go_wp2;go_ret2;exact R.out
  ·subst N;have R:U (JI a W (A (O g)) d s b (V (Qh #[A (O ⟨D,0,Z⟩),Ql])) w5):=v;simp only[Ae];clear v;go_wp2;go_ret2;exact R.out
 case neg =>
 obtain⟨k0,ai,aj⟩:∃k0:Lk,k0.st=s/\Av k0:=HH.out.elim (fun h=>absurd h.1 y) id;have hi:Av ⟨Bq s,b,k0.ids,k0.now⟩:=by
  subst ai;have h:=aj.on;exact⟨h.good,h.ids,h.head,h.snaps,h.now,h.last⟩
 have az:=vE K HL aa (k:=⟨Bq s,b,k0.ids,k0.now⟩) M hi;have t:U (∀w',(Ac (fun j=>j=D) C w'/\∃vj vg,Al w' D (A (O g)) o (Bq s).head vj vg ⟨Bq s,b,k0.ids,k0.now⟩/\∀j,vj.ownBlock=O j\/vg.ownBlock=O j->C.heap.size<=j)->JI a W (A (O g)) d s b (V (Qh #[A (O ⟨D,0,Z⟩),Ql])) w'):=fun w' ⟨h1,vj,vg,h2,hnw⟩=>by
  refine⟨0,_,rfl,Qk ⟨rfl,o,D,vj,vg,⟨Bq s,b,k0.ids,k0.now⟩,rfl,z.out.trans h1 (fun j c hjl=>absurd hjl (by have:=q.out.1;omega)),F.out,q.out.1,⟨h2,fun j c=>Qi z.out.size (hnw j c)⟩,rfl,ar.out,hi,fun k1 e h=>?_,fun e=>absurd e y⟩⟩;obtain⟨e1,e2⟩:=vG aj h (ai.trans e.symm);exact⟨e1,e2,rfl⟩
 have a7:(s.head.toList == [])=Qo:=BD (l:= []) (fun e=>y (Ke e));clear aa M y hi aj ai
 go_wp2_with fail
 refine az.mono ?_;rintro e w5 ⟨rfl,v⟩;have R:=t.out w5 v;have a4:U (JI a W (A (O g)) d s b (V (Qh #[A (O ⟨D,0,Z⟩),Ql])) w5):=R;clear az v t R;go_wp2;go_ret2;exact a4.out
end
theorem Np {ds:List Dr} {d:Dr} {ps:List ByteArray} {p:ByteArray} {c:List Fl} (h:Fils (ds++ [d]) (ps++ [p]) c):∃gs,c=gs++ [(Cz p d).1]/\Fils ds ps gs/\(Cz p d).2=0:=by
 generalize b:ds++ [d]=D at h;generalize i:ps++ [p]=P at h
 cases h with
 | nil=>simp at b
 | step d' p' h1 h2 =>
  obtain⟨rfl,f⟩:=QT b rfl;obtain⟨rfl,g⟩:=QT i rfl;cases f
  cases g
  exact⟨_,rfl,h1,h2⟩
theorem L4 {b:List Fl} (h:Fils [] [] b):b= []:=by
 generalize c:([]:List Dr)=D at h;generalize f:([]:List ByteArray)=P at h
 cases h with
 | nil=>rfl
 | step d p h1 h2=>simp at c
theorem L6 {p:ByteArray} {d:Dr} (h:(Cz p d).2=0):(Cz p d).1.1=p/\(Cz p d).1.2.1=d.2.1:=by
 obtain⟨g,m,-,-,b,-⟩:=L3 h;have e:(Cz p d).1=_:=b;rw[e];exact⟨rfl,rfl⟩
theorem vI {s n:St} {ds:List Dr} {ps:List ByteArray} (u:Puts s ds n ps) (v:B7 s):(∀d∈ds,Bw d.1)->∀ {fs:List Fl},Fils ds ps fs->∀f∈fs,∃d∈ds,(Cz f.1 d).2=0/\(Cz f.1 d).1=f/\AN n f.1 d.2.2:=by
 induction u with
 | nil =>
  intro _ fs j f b;rw[L4 j]at b;cases b
 | @step ds t ps d h1 h2 ih =>
  intro i fs j f b;obtain⟨y,rfl,l,m⟩:=Np j;have c:∀d∈ds,Bw d.1:=fun x hx=>i x (Q5.2 (Qf hx));have g:=(h1.gw v c).good;have k:Bw (d.1++Ab (Qs (Ag t))):=JD _ _ (i d (by simp));rcases Q5.1 b with b | b
  ·obtain⟨e,o,p,q,r⟩:=ih c l f b;exact⟨e,Q5.2 (Qf o),p,q,(JC g d.2.2 k).old _ _ r⟩
  ·rw[Q6]at b;subst b;rw[(L6 m).1];exact⟨d,by simp,m,rfl,(K2 g h2).1⟩
theorem vJ {s:St} {f:Fl} {d:Dr} {n:Int} (g:(Cz f.1 d).2=0) (b:(Cz f.1 d).1=f) (l:AN s f.1 d.2.2) (m:Au (Bk f n)=0):Aj s.obs (Bk f n)=(0,d.2.2):=by
 have i:B1 f.1 d.2.1 d.2.2.data.toList n=(Bk f n,0):=by
  have:=uF (k:=n) g (by rw[show (B1 f.1 d.2.1 d.2.2.data.toList 1).1=f from b];exact m);rw[this,show (B1 f.1 d.2.1 d.2.2.data.toList 1).1=f from b]
 have c:f.2.1=d.2.1:=by
  have:=(L6 g).2;rw[b]at this;exact this
 have j:Ba s.obs f.1=(d.2.2,0):=l;show Aj s.obs (f.1,f.2.1,f.2.2.1,f.2.2.2.1,f.2.2.2.2.1,n)=_;unfold Aj;dsimp only;rw[j,c];dsimp only;rw[i];unfold Bk;rw[c];simp
structure IL (k k':Lk):Prop where
 lki:Av k'
 old:∀x t,AN k.st x t->AN k'.st x t
 ids:k'.ids=k.ids++ [k'.now.1]
 head:∃m,k'.st.head=AJ m/\k'.now.1<m
 new:∀m,k.st.head=AJ m->m<k'.now.1
 spec:k'.spec=k.spec
theorem Fm.all {k i:Lk} {ds:List Dr} {v:List ByteArray} {Y:Int} (h:Fm k i ds v Y) (hi:Av k) (y:∀d∈ds,Bw d.1):IL k i:=by
 obtain⟨s1,ps,fs,F,hf,ht,hc,r,l,K,L,hg,s,⟨m,u,M,N,P⟩,Q,-⟩:=h;have q:=F.gw hi.good y;have j:∀x t,AN k.st x t->AN i.st x t:=fun x t C=>s x t (q.old x t C);obtain⟨aa,-,-,R,T⟩:=Jz hc;rw[T]at r;have b:i.now.1=Ag s1:=by rw[r];rfl
 have o:(Am i.now).1=0:=by rw[r];exact R
 have p:Cy i.st i.now.1 i.now:=by
  refine⟨by rw[b];exact Q,o,rfl,fun f hff=>?_⟩;have D:=((Jy o).2.1 f hff).1;rw[r]at hff;rcases OC.1 (show f∈CH (k.now,fs,v) k.now from hff) with⟨c,-⟩ | c
  ·have E:=hi.now.files f c;rw[IJ j E];exact E
  ·obtain⟨g,W,rfl⟩:=QH.1 c;obtain⟨d,-,z,X,B⟩:=vI F hi.good y hf g W;rw[vJ z X (s _ _ B) D]
 refine⟨⟨hg,K,⟨m,u,M,N⟩,fun id hid'=>?_,p,by rw[l,b];simp⟩,j,by rw[b];exact l,⟨m,u,by rw[b];exact P⟩,fun n hn'=>?_,L⟩
 ·rw[l]at hid';rcases Q5.1 hid' with c | c
  ·obtain⟨x,C⟩:=hi.snaps id c;exact⟨x,C.up j⟩
  ·rw[Q6]at c;rw[c,<-b];exact⟨_,p⟩
 ·obtain⟨m0,z,X,B⟩:=hi.head;obtain rfl:m0=n:=JJ (z.symm.trans hn');rw[b];exact Lx q.good.keeps Nc (q.old _ _ B)
section
variable {a : Nat → Qn} {B : Nat} {EM : Qb → Prop}
theorem GN {W:Qb} {b:Nat} {c:Qn} (d:W.cell? ⟨b,0,Z⟩=O (A (O c))) :
  Qd Qa 38 #[A (O ⟨b,0,Z⟩)] W fun e w'=>e=V (Q3 Qo)/\w'=W:=by
 go_enter func38,ntmps38
 go_wp2;go_ret;exact⟨rfl,rfl⟩
def ET (n:Int):Bool:=decide (1<=n) && decide (n<=1073741824)
theorem VX (n:Int) (W:Qb) :
  Qd Qa 55 #[J S n] W fun e w'=>e=V (Q3 (ET n))/\w'=W:=by
 by_cases h:1<=n
 ·have b:ET n=decide (n<=1073741824):=by unfold ET;rw[decide_eq_true h];rfl
  rw[b]
  go_enter func55,ntmps55
  go_wp2;go_ret;exact⟨rfl,rfl⟩
 ·have b:ET n=Qo:=by unfold ET;rw[decide_eq_false h];rfl
  rw[b]
  go_enter func55,ntmps55
  go_wp2;go_ret;exact⟨rfl,rfl⟩
theorem PT {W:Qb} {b:Nat} {i n:Int} (c:W.cell? ⟨b,8,Z⟩=O (J S i)) :
  Qd Qa 57 #[A (O ⟨b,0,Z⟩),J S n] W fun e w'=>e=V (Q3 (decide (n<=i)))/\w'=W:=by
 go_enter func57,ntmps57
 go_wp2;go_ret;exact⟨rfl,rfl⟩
def Bh (W:Qb) (kb:Nat) (vs:Qc) (SP:Nat->Prop) (k:Lk) (Q:Lk->Int->Prop) (G:Prop) (e:Qx) (w':Qb):Prop :=
 ∃SP' vi' vf' k' m ev,e=V (Qh #[J S m,ev])/\Ac (fun j=>SP j\/j=kb) W w'/\(∀j,SP' j->SP j\/W.heap.size<=j)/\(Al w' kb vs SP' k'.st.head vi' vf' k'/\FO W kb k vi' vf' k')/\(((∃t u,ev=Qr t u)/\¬G/\∃s',Gw k.st s'/\k'= { k with st:=s' })\/(ev=Ql/\Q k' m))
theorem Bh.bad {W w':Qb} {c:Nat} {d:Qc} {b:Nat->Prop} {f vf:Qc} {k:Lk} {Q:Lk->Int->Prop} {G:Prop} {t:TypeId} {u:Qc} (h:Al W c d b k.st.head f vf k) (i:B7 k.st) (K:A2 a B EM An) (g:BL W w') (j:¬G):Bh W c d b k Q G (V (Qh #[J S 0,Qr t u])) w' :=
 ⟨b,f,vf,k,0,_,rfl,Ac.of_below g,fun _ h=>Qf h,⟨h.quiet K g,h.owt⟩,Qf ⟨⟨t,u,rfl⟩,j,k.st,Gw.refl i,rfl⟩⟩
theorem Bh.same {W w':Qb} {c:Nat} {d:Qc} {b:Nat->Prop} {f vf:Qc} {k:Lk} {Q:Lk->Int->Prop} {G:Prop} {m:Int} (h:Al W c d b k.st.head f vf k) (K:A2 a B EM An) (g:BL W w') (i:Q k m):Bh W c d b k Q G (V (Qh #[J S m,Ql])) w' :=
 ⟨b,f,vf,k,m,_,rfl,Ac.of_below g,fun _ h=>Qf h,⟨h.quiet K g,h.owt⟩,Qk ⟨rfl,i⟩⟩
def Eb (zs:List Int):List Dr:=if A9 zs= [] then [] else [(⟨#[103,111,110,101,47]⟩,⟨#[45]⟩,Ab (DS (A9 zs)))]
def FS (k:Lk) (idx:Int) (zs:List Int) (k':Lk) (m:Int):Prop :=
 ET idx=Qj/\(A9 zs).length<=40/\(∀z∈zs,Aq z=Qj)/\((idx<=k.now.2.2.2.2.1/\m=0/\k'=k)\/(k.now.2.2.2.2.1<idx/\m=(A9 zs).length/\Fm k k' (Eb zs) [] idx))
def G0 (k:Lk) (idx:Int) (zs:List Int):Prop:=ET idx=Qj/\(A9 zs).length<=40/\(∀z∈zs,Aq z=Qj)/\(idx<=k.now.2.2.2.2.1\/JH k (Eb zs) [] idx)
theorem Nq {zs:List Int} (d:∀z∈zs,Aq z=Qj) (c:(A9 zs).length<=40):(Ab (DS (A9 zs))).size<=100000/\B8 (DS (A9 zs))=(A9 zs,0,Z):=by
 have b:∀x∈A9 zs,AD.ok x:=fun x hx=>d x ((KN zs x).1 hx);refine⟨?_,S3 Jh _ b c (eU zs)⟩;rw[EK];have:(DS (A9 zs)).length<=1400:=Mf Jh (A9 zs) b c;omega
theorem Tryz.draftInfo3:(Tryz.prog.info? 111).map (fun i=>(i.zero,i.size,i.bytes))=O (O (Q7 #[Qe ⟨#[]⟩,Qe ⟨#[]⟩,Qe ⟨#[]⟩]),3,48):=by kernel_rfl
theorem VY {D:Nat} {W f:Qb} {v:Qc} {ds:List Dr} (y:Bg W D v ds) (z:D<=W.heap.size) (d:Dr) (g:f=W.alloc (Qg #[Qe d.1,Qe d.2.1,Qe d.2.2] 111)) (B:ds.length<=1000) :
  ∃v' W2,(QL #[98,98] 98 #[v,I (O ⟨W.heap.size,0,Z⟩) 1 1]).run Qa f= .ok v' W2/\Bg W2 D v' (ds++ [d])/\Ac (fun k=>v.ownBlock=O k) W W2/\(v'.ownBlock=v.ownBlock\/∃k,v'.ownBlock=O k/\W.heap.size<=k/\k<W2.heap.size):=by
 obtain⟨o,p,l⟩:=Option.map_eq_some_iff.1 Tryz.draftInfo3;simp only[Prod.mk.injEq]at l;obtain⟨q,r,m⟩:=l;have b:BL W f:=by rw[g];exact Af _ _
 have i:CR f (O ⟨W.heap.size,0,Z⟩) 1 1 (Gu d):=by
  rw[g];exact Ih W (Gu d) 111 1 1
 obtain⟨v',W2,s,n,t,c⟩:=Fc (P:=Qa) f D 98 98 111 o (Q7 #[Qe ⟨#[]⟩,Qe ⟨#[]⟩,Qe ⟨#[]⟩]) 3 48 underlying98 p q r m rfl (by decide) v ds.length (IK ds) (AG (P:=fun _=>False) y (Ac.of_below b) (fun _ _ h=>h)) (O ⟨W.heap.size,0,Z⟩) 1 1 (Gu d) rfl i (fun u hu=>by
   simp only[Gu,List.mem_cons,List.not_mem_nil,or_false]at hu;rcases hu with rfl | rfl | rfl<;>rfl) (by unfold Qy;omega) (by omega) (Qi z b.size)
 have j:Bg W2 D v' (ds++ [d]):=by
  unfold Bg;rw[Qz,show IK (ds++ [d])=IK ds++Gu d by simp[IK]];simpa using n
 refine⟨v',W2,s,j,(Ac.of_below b).trans (Ac.grown t) (fun _ h _=>h),?_⟩;rcases c with c | c
 ·exact Qf c
 ·exact Qk ⟨_,c,b.size,(A7 n c).2.1⟩
theorem VZ (K:A2 a B EM An) (HL:∀X,EM X->AX X a) {W:Qb} {g:Nat} {vs:Qc} {o:Nat->Prop} {vi vf:Qc} {k:Lk} (hE:EM W) (h:Al W g vs o k.st.head vi vf k) (hi:Av k) (hB:B<=g/\∀j,o j->B<=j) (b:Int) {vz:Qc} {zs:List Int} (hz:A4 W vz zs) (bo:zs.length<=1000) :
  Qd Qa 27 #[A (O ⟨g,0,Z⟩),J S b,vz] W (Bh W g vs o k (FS k b zs) (G0 k b zs)):=by
 obtain⟨C,rfl⟩:=h.ptr K;have ad:U (∀X,BL W X->EM X):=fun X l=>K.below _ _ hE (l.mono (K.size _ hE));have HQ:U (∀X,BL W X->Al X g (A (O C)) o k.st.head vi vf k):=fun X l=>h.quiet K l;have HG:U (B7 k.st):=hi.good;have a2:U (∀X,BL W X->Qd Qa 61 #[vz] X fun e w'=>((((A9 zs).length<=40/\∀z∈zs,Aq z=Qj)/\e=V (Qh #[Qe (Ab (DS (A9 zs))),Ql]))\/(¬((A9 zs).length<=40/\∀z∈zs,Aq z=Qj)/\∃s t u,e=V (Qh #[Qe s,Qr t u])))/\BL X w'):=fun X l=>by
  have y:DT X a:=(HL X (ad.out X l)).f.data.weak;by_cases ae:40<(A9 zs).length
  ·exact(iW vz zs X a y (hz.below l) bo ae).mono fun e w' ⟨p,h2⟩=>⟨Qk ⟨fun h=>absurd h.1 (by omega),_,_,_,p⟩,h2⟩
  ·obtain⟨m,hm,p,h2⟩:=Vy zs;refine(iX vz zs X a y (hz.below l) bo (by omega) m hm p h2).mono fun e w' ac=>?_;rcases ac with⟨he,h3,h4⟩|⟨b1,fb,h3,-,-,h4⟩
   ·refine⟨Qf ⟨⟨by omega,fun z hz=>?_⟩,h3⟩,h4⟩;obtain⟨i,hi,rfl⟩:=List.mem_iff_getElem.1 hz;exact p i hi (by omega)
   ·exact⟨Qk ⟨fun h=>(by have p:=h2 b1;rw[h.2 _ (List.getElem_mem _)]at p;cases p),_,_,_,h3⟩,h4⟩
 have a3:U ((A9 zs).length<=40->(∀z∈zs,Aq z=Qj)->∀X,BL W X->Qd Qa 62 #[Qe (Ab (DS (A9 zs)))] X fun e w'=> ∃v,e=V (Qh #[v,Ql])/\A4 w' v (A9 zs)/\BL X w'):=fun p h2 X l=>by
  obtain⟨g1,g2⟩:=Nq h2 p;refine(Oz (Ab (DS (A9 zs))) X a (HL X (ad.out X l)).f.data.weak (by unfold Qy;omega)).mono fun e w' P=>?_;unfold Tz at P;rw[BT,g2]at P;obtain⟨r,⟨-,v,E,e2,-⟩|⟨e0,-⟩|⟨e0,-⟩⟩:=P
  ·exact⟨v,E,e2,r⟩
  ·exact absurd rfl e0
  ·exact absurd rfl e0
 have a4:U (∀X D vd vr ds,BL W X->W.heap.size<=D->Bg X D vd ds->BV X vr []->(∀j,vr.ownBlock=O j->¬o j)->ds.length<=100->(∀d∈ds,Bw d.1/\d.1.size<=100/\d.2.1.size<=1000/\d.2.2.size<=100000)->Qd Qa 60 #[A (O ⟨g,0,Z⟩),Q7 #[vd,vr],J S b] X (D5 a X g (A (O C)) o vi k ds [] b)):=fun X D vd vr ds l hD y hr hro hl hds=>PM K HL (ad.out X l) (HQ.out X l) hi hB y hr (fun j hj e=>by have:=Jt y hj;have:=(h.sizes K).2 j e;omega) hro hl (by simp) hds b;obtain⟨qz,cz,bz⟩:=hz.form;subst bz;have a5:U (∀X,BL W X->X.cell? ⟨1,0,Z⟩=O (Qr 410 (A (O (a 1))))):=fun X l=>(HL X (ad.out X l)).m.bound;obtain⟨c0,-,-,-,-,-,-,-,c8,-⟩:=h.blk.cells;have a6:=GN c0;have a7:=VX b W;have ag:=PT (n:=b) c8;clear hE h hi hB hz
 go_enter func27,ntmps27
 go_wp2_with fail
 refine a6.mono ?_;rintro e w1 ⟨rfl,E⟩;rw[E];clear a6 E
 go_wp2_with fail
 refine a7.mono ?_;rintro e w1 ⟨rfl,E⟩;rw[E];clear a7 E
 cases l:ET b with
 | false =>
  have bp:U (ET b=Qo):=l;have Q:U (∀X,BL W X->Bh W g (A (O C)) o k (FS k b zs) (G0 k b zs) (V (Qh #[J S 0,Qr 410 (A (O (a 1)))])) X):=fun X hX=>Bh.bad (HQ.out W (Qm _ _)) HG.out K hX (fun h=>by have p:=h.1;rw[bp.out]at p;cases p);have b3:=a5.out W (Qm _ _);clear ag c0 c8;go_wp2
  go_quiet (fail)
  go_wp2;go_ret2;exact Q.out _ (AK (Qm _ _) nq)
 | true =>
 have a8:U (ET b=Qj):=l;have a9:=a2.out W (Qm _ _);clear l
 go_wp2_with fail
 refine a9.mono ?_;rintro e w2 ⟨ac,r⟩;clear a9;rcases ac with⟨⟨ae,bm⟩,rfl⟩|⟨bn,s,t,u,rfl⟩
 case inr =>
  have bq:U (¬((A9 zs).length<=40/\∀z∈zs,Aq z=Qj)):=bn;clear bn;have Q:U (Bh W g (A (O C)) o k (FS k b zs) (G0 k b zs) (V (Qh #[J S 0,Qr t u])) w2):=Bh.bad (HQ.out W (Qm _ _)) HG.out K r (fun h=>bq.out ⟨h.2.1,h.2.2.1⟩);clear ag c0 c8;go_wp2;go_ret2;exact Q.out
 case inl =>
 have T:U ((A9 zs).length<=40/\∀z∈zs,Aq z=Qj):=⟨ae,bm⟩;have ah:=PT (n:=b) (Aa r c8);clear ae bm ag c8
 go_wp2_with fail
 refine ah.mono ?_;rintro e w3 ⟨rfl,E⟩;rw[E];clear ah E;by_cases br:b<=k.now.2.2.2.2.1
 case pos =>
  have Q:U (Bh W g (A (O C)) o k (FS k b zs) (G0 k b zs) (V (Qh #[J S 0,Ql])) w2):=Bh.same (HQ.out W (Qm _ _)) K r ⟨a8.out,T.out.1,T.out.2,Qf ⟨br,rfl,rfl⟩⟩;clear c0;go_wp2;go_ret2;exact Q.out
 case neg =>
 have ba:U (k.now.2.2.2.2.1<b):=by show _<_;omega
 have ai:=a3.out T.out.1 T.out.2 w2 r;have bb:=Nq T.out.2 T.out.1;have aj:U (∀d∈Eb zs,Bw d.1/\d.1.size<=100/\d.2.1.size<=1000/\d.2.2.size<=100000):=fun d y=>by
  unfold Eb at y;split at y
  ·cases y
  ·rw[Q6]at y;subst y;exact⟨show (47:UInt8)∈(⟨#[103,111,110,101,47]⟩:ByteArray).data.toList by decide,show (⟨#[103,111,110,101,47]⟩:ByteArray).size<=100 by decide,show (⟨#[45]⟩:ByteArray).size<=1000 by decide,bb.1⟩
 have aa:U (Eb zs=if A9 zs= [] then [] else [(⟨#[103,111,110,101,47]⟩,⟨#[45]⟩,Ab (DS (A9 zs)))]):=rfl;have bs:U (g<W.heap.size):=(HQ.out W (Qm _ _)).blk.lt;have ak:U (∀X Y e,D5 a X g (A (O C)) o vi k (Eb zs) [] b e Y->BL W X->∃ev,e=V ev/\(((∃t u,ev=Qr t u)/\Bh W g (A (O C)) o k (FS k b zs) (G0 k b zs) (V (Qh #[J S 0,ev])) Y)\/(ev=Ql/\Bh W g (A (O C)) o k (FS k b zs) (G0 k b zs) (V (Qh #[J S (A9 zs).length,Ql])) Y))):=fun X Y e P hX=>by
  obtain⟨n,ax,ay,az,k',rfl,p,h2,⟨-,ho⟩,h3,h4⟩:=P;have bc:FO W g k ay az k':=ho.low hX bs.out;have bd:Ac (fun j=>o j\/j=g) W Y:=(Ac.of_below hX).trans p (fun _ h _=>h);have be:∀j,ax j->o j\/W.heap.size<=j:=fun j hj=>(h2 j hj).imp_right (Qi hX.size);rcases h4 with⟨hn,b2,s',hg,rfl⟩|⟨rfl,a1⟩
  ·obtain⟨i,rfl⟩:∃i,n=i+1:=⟨n-1,by omega⟩;exact⟨_,rfl,Qf ⟨⟨_,_,rfl⟩,ax,ay,az,_,0,_,rfl,bd,be,⟨h3,bc⟩,Qf ⟨⟨_,_,rfl⟩,fun h=>h.2.2.2.elim (fun e=>absurd e (by have:=ba.out;omega)) b2,s',hg,rfl⟩⟩⟩
  ·exact⟨_,rfl,Qk ⟨rfl,ax,ay,az,k',_,_,rfl,bd,be,⟨h3,bc⟩,Qk ⟨rfl,a8.out,T.out.1,T.out.2,Qk ⟨ba.out,rfl,a1⟩⟩⟩⟩
 have al:U ((Eb zs).length<=100):=by
  show _<=100;unfold Eb;split<;>simp
 generalize Eb zs=M at aj aa ak al;generalize Ab (DS (A9 zs))=TX at ai aa ⊢;clear bb a3 a2 a5 c0
 go_wp2_with fail
 refine ai.mono ?_;rintro e w4 ⟨v4,rfl,bk,bl⟩;have am:=Ad r bl;obtain⟨q4,c4,rfl⟩:=bk.form;have b4:U ((A9 zs).length<=40):=T.out.1;have bf:U (A9 zs= []↔(A9 zs).length=0):=List.length_eq_zero_iff.symm;clear ai bl bk r;have an:BL w4 (w4.alloc (Qg #[I Z 0 0,I Z 0 0] 100)):=Af _ _;have q:=Q2 w4 (Qg #[I Z 0 0,I Z 0 0] 100);obtain⟨R,hR⟩:∃R,(A9 zs).length=R:=⟨_,rfl⟩;have ao:U ((A9 zs).length=R):=hR;rw[hR];clear hR
 go_upto_region 14 with fail
 generalize w4.alloc (Qg #[I Z 0 0,I Z 0 0] 100)=W5 at an q ⊢;have ap:=Ad am an;have aq:w4.heap.size<W5.heap.size:=QI q;have ar:U (W.heap.size<=w4.heap.size):=am.size;generalize w4.heap.size=c at q aq ar ⊢;have k0:W5.cell? ⟨c,0,Z⟩=O (I Z 0 0):=by rw[Qv _ _ _ _ _ _ q];rfl
 have k1:W5.cell? ⟨c,1,Z⟩=O (I Z 0 0):=by rw[Qv _ _ _ _ _ _ q];rfl
 have bt:W5.frozen? ⟨c,0,Z⟩=Qo:=QU _ _ _ _ _ q;have bg:U (W5.heap[c]? =O (Qg #[I Z 0 0,I Z 0 0] 100 (0,0))):=q;clear an am q
 go_upto_if 41 with fail
 go_cut [] from 41 to 48 (fun wx=> ∃v,Bg wx W.heap.size v M/\wx.cell? ⟨c,0,Z⟩=O v/\wx.cell? ⟨c,1,Z⟩=O (I Z 0 0)/\BL W wx)
 case first =>
  by_cases af:R=0
  ·have hg:M= []:=by rw[aa.out,if_pos (bf.out.2 (ao.out.trans af))]
   have bu:U (Bg W5 W.heap.size (I Z 0 0) M):=by rw[hg];exact Bg.nil _ _
   have au:decide (0<R)=Qo:=decide_eq_false (by omega);rw[au];clear hg af;go_wp2;go_meet
   case rel=>exact ⟨_,bu.out,k0,k1,ap⟩
  ·have hg:M= []++ [(⟨#[103,111,110,101,47]⟩,⟨#[45]⟩,TX)]:=by rw[aa.out,if_neg (fun e=>af (ao.out.symm.trans (bf.out.1 e)))];rfl
   have au:decide (0<R)=Qj:=decide_eq_true (by omega);rw[au];obtain⟨v',N,hr,ho,a0,hv⟩:=VY (Bg.nil W5 W.heap.size) (Nat.le_of_lt (Nat.lt_of_le_of_lt ar.out aq)) (⟨#[103,111,110,101,47]⟩,⟨#[45]⟩,TX) rfl (by simp);have ab:BL W5 N:=a0.below (Q0 _) (fun j hj=>by simp[Qq]at hj);obtain⟨F,L,rfl,-⟩:=ho.at;have bh:U (Bg N W.heap.size (I F 1 L) M/\(∀j,(I F 1 L).ownBlock=O j->c≠j)):=⟨by rw[hg];exact ho,fun j hj=>by
    rcases hv with e | ⟨i,e,E,-⟩
    ·have:=e.symm.trans hj;cases this
    ·have:=e.symm.trans hj;injection this with this;omega⟩
   have bv:=Aa ab k0;have bw:=Aa ab k1;have b5:N.frozen? ⟨c,0,Z⟩=Qo:=by
    obtain⟨cs,t,b0⟩:∃cs t,W5.heap[c]? =O (Qg cs t (0,0)):=⟨_,_,bg.out⟩;exact QU _ _ _ _ _ ((ab.block c aq).trans b0)
   have bx:=Ad ap ab;have bi:BL W (N.setCell ⟨c,0,Z⟩ (I F 1 L)):=bx.setCell ar.out _;have bj:Bg (N.setCell ⟨c,0,Z⟩ (I F 1 L)) W.heap.size (I F 1 L) M:=bh.out.1.but ((Ac.refl (fun j=>j=c) N).setCell (Qf rfl) _) (fun j hj e=>bh.out.2 j hj e.symm);have HR:U (Bg (N.setCell ⟨c,0,Z⟩ (I F 1 L)) W.heap.size (I F 1 L) M/\BL W (N.setCell ⟨c,0,Z⟩ (I F 1 L))):=⟨bj,bi⟩;have HK:U ((N.setCell ⟨c,0,Z⟩ (I F 1 L)).cell? ⟨c,1,Z⟩=O (I Z 0 0)/\(N.setCell ⟨c,0,Z⟩ (I F 1 L)).cell? ⟨c,0,Z⟩=O (I F 1 L)):=⟨by rw[World.cell?_setCell_other _ _ _ _ (by simp)];exact bw,World.cell?_setCell_same _ _ _ bv⟩;simp only[List.nil_append,QJ,List.length_nil,Q8]at hr;clear hg af ho a0 hv ab bi bj
   go_wp2_with (at_builtin;refine wpList_append_run (by rfl) _ _ _ (by rfl) _ _ _ (by rfl) (by rfl) hr ?_)
   go_meet
   case rel=>exact ⟨_,HR.out.1,HK.out.2,HK.out.1,HR.out.2⟩
 case rest =>
 obtain⟨v,ho,k0,k1,hB⟩:=hcut;obtain⟨qv,cv,rfl,-⟩:=ho.at;have av:=a4.out wc W.heap.size (I qv M.length cv) (I Z 0 0) M hB (Q0 _) ho (Qf ⟨rfl,rfl⟩) (fun j hj=>by simp[Qq]at hj) al.out aj.out;have aw:U (∀Y e,D5 a wc g (A (O C)) o vi k M [] b e Y->_):=fun Y e P=>ak.out wc Y e P hB;generalize M.length=GL at av k0 ⊢;clear ho ap bt a4 ak aj aa al bg
 go_wp2_with fail
 refine av.mono ?_;rintro e w7 P;obtain⟨ev,rfl,ac⟩:=aw.out w7 e P;clear av P aw k0 k1;rcases ac with⟨⟨t,u,rfl⟩,hP⟩|⟨rfl,hP⟩
 ·have Q:U (Bh W g (A (O C)) o k (FS k b zs) (G0 k b zs) (V (Qh #[J S 0,Qr t u])) w7):=hP;clear hP;go_wp2;go_ret2;exact Q.out
 ·rw[ao.out]at hP;have Q:U (Bh W g (A (O C)) o k (FS k b zs) (G0 k b zs) (V (Qh #[J S R,Ql])) w7):=hP;clear hP;go_wp2;go_ret2;exact Q.out
end
end Go.Proofs.YtcllhobffhkafaaGreatDoor
namespace Go.Proofs
open Go.Shelf
def Tryz.delZ_ren:Go.Shelf.Ren:=⟨fun | 10=>148 | 6=>235 | n=>n,fun | 22=>32 | 23=>3 | 25=>94 | 3=>3 | 4=>4 | 0=>0 | n=>n,fun | n=>n⟩
theorem Tryz.delZ:Go.Proofs.SlLaysH.n10 Qa delZ_ren:= { laysNm225 with
 mixed:=by kernel_rfl
 f6:=⟨Tryz.f235.name,by decide,Tryz.lq func235 (by kernel_rfl)⟩
 f10:=⟨Tryz.f148.name,by decide,Tryz.lq func148 (by kernel_rfl)⟩
 a23:=isAgg3
 z23:=sizeOf3
 t25:=underlying94
 a25:=isAgg94
 z25:=sizeOf94
 v25:=zeroValue94 }
end Go.Proofs
