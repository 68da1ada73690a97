/- By an AI agent. -/
import Derived.Test.YtcllhobffhkafaaGreatDoorLkp3
import Derived.Lib.AppendZerosOnto
set_option maxRecDepth 100000
set_option maxHeartbeats 16000000
open Go.Proofs.Tryz
open Go renaming Value->A,World->Qa,Calls->Qf,grownCap->Qi,heap_alloc_new->Qu,cell_of_row->Qv
open Go.Builtin renaming zeroCells->Qd,firstCells->Q0,append_->Q1
open Go.Ending renaming returned->Qg
open Go.IntKind renaming i64->U
open Go.Obj renaming cells->V
open Go.Proofs.Tryz renaming prog->Qc,func113->Qr,ntmps113->Qs,underlying32->Qw
open Go.RowKit renaming Hid->O
open Go.RowKit.Below renaming refl->Qp
open Go.Value renaming int->Z,slice->I,pointer->Qb,cells->Qe,string->Qh,nilIface->Qn,ownBlock->Qo,tuple->Qt
open List renaming length_append->Qk,flatten_append->Qy,length->Qz
open Nat renaming le_trans->Qm,le_refl->Qq,zero_add->Qx
open Option renaming none->S,some->J
open Or renaming inl->Qj,inr->Ql
namespace Go.Proofs.YtcllhobffhkafaaGreatDoor
open Go.RowKit Go.Extern.Stop Go.Stop Go.Extern Go.Sort Go.Shelf Go.Lib
section
variable {a : Nat → Addr} {B : Nat} {EM : Qa → Prop}
theorem Dk.then {W r w':Qa} {s:Nat} {u:A} {o v:Nat->Prop} {y vf:A} {k:Lk} {p:St} {z B:A} {d:List Int} {f:Sn} {X Y:Int->St->Prop} {G H:Prop} {e:Ending} (h:Dk a r s u v y vf { k with st:=p } z B d f Y H e w') (C:Ac o W r) (D:∀j,v j->o j\/W.heap.size<=j) (q:Gw k.st p) (hX:∀m s',Y m s'->(∀x t,AK p x t->AK s' x t)->X m s') (hG:G->H):Dk a W s u o y vf k z B d f X G e w':=by
 obtain⟨n,E,F,K,L,M⟩:=h;refine⟨n,E,F,(C.mono (fun _ h=>Qj h)).trans K (fun j b hjl=>?_),fun j b=>(L j b).elim (D j) (fun e=>Ql (Qm C.size e)),?_⟩
 ·rcases b with b | b
  ·exact(D j b).elim Qj (fun e=>absurd hjl (by omega))
  ·exact Ql b
 ·rcases M with⟨i,N,s',l,c⟩|⟨i,s',m,l,c,P,Q,R,T,h9⟩
  ·refine Qj ⟨i,fun g=>N (hG g),s',q.trans l,?_⟩;rw[<-q.head];exact c
  ·exact Ql ⟨i,s',m,l,fun x t hx=>c x t (q.old x t hx),P,Q,R,hX m s' T c,h9⟩
theorem Ju {x:Sn} (h:(Am x).1=0):x.2.2.2.2.2.2.length<=60/\Eb x.2.2.2.2.2.2:=by
 obtain⟨b,c,_⟩:=Jf h;exact⟨b,fun g hg=>Kb (c g hg).1⟩
theorem MQ {x:Sn} (h:(Am x).1=0):1<=x.1/\x.1<=1073741824:=(IQ.1 (GK h).1).1.1
def Ge (k:Lk) (now:Sn) (m:Int) (s:St):Prop:=AK s (Cd now.1) (Ab (BC now))/\now.1<m/\(now.1=Ag k.st->∀n,Rm (n+2) k.st->Rm n s)
def Fv (k:Lk) (now:Sn):Prop:=now.1=Ag k.st/\Rm 2 k.st
theorem Vs (K:AJ a B EM A0) (HL:∀X,EM X->Bg X a) {W:Qa} {l:Nat} {vs:A} {g:Nat->Prop} {t vf:A} {k:Lk} (hE:EM W) (h:An W l vs g k.st.head t vf k) (P:B3 k.st) (hB:B<=l/\∀j,g j->B<=j) (a7:k.st.head.size<=1000) (vj vg:A) (i:List Int) (b:Sn) (q:C4 W vj i) (a8:(AD i).1=0) (aq:DS vj i l g) (hv:Ai W vg b.2.2.2.2.2.2) (ar:DS vg b.2.2.2.2.2.2 l g) (d:(Am b).1=0) :
  Qf Qc 71 #[Qb (J ⟨l,0,S⟩),A9 b vg,vj] W (Dk a W l vs g t vf k vj vg i b (Ge k b) (Fv k b)):=by
 obtain⟨z,rfl⟩:=h.ptr K;obtain⟨qj,cj,rfl⟩:=q.1.form;obtain⟨C,D,rfl⟩:=hv.form;obtain⟨i1,i2⟩:=MQ d;have u:BL W (W.alloc (V #[Z U b.1,Z U b.2.1,Z U b.2.2.1,Z U b.2.2.2.1,Z U b.2.2.2.2.1,Qh b.2.2.2.2.2.1,I C b.2.2.2.2.2.2.length D] 40)):=Af _ _;have v:=Al.new W b (I C b.2.2.2.2.2.2.length D);have Q:O _:=fun X (hb:BL W X)=>K.below _ _ hE (hb.mono (K.size _ hE));have R:O (∀X,BL W X->Qf Qc 136 #[A9 b (I C b.2.2.2.2.2.2.length D)] X fun e w'=>e=Qg (Qt #[Qh (Ab (BC b)),Qn])/\BL X w'):=fun X hb=>by
  obtain⟨f1,f2⟩:=Ju d;have:=kF b _ X a (HL X (Q.out X hb)).p.text (hv.below hb) (by omega) f2;rw[if_pos d]at this;refine this.mono fun e w' ⟨ev,h1,h2,h3⟩=>?_;obtain rfl:=h2.ok d;exact⟨h1,h3⟩
 have ac:O (∀X,BL W X->Qf Qc 96 #[Qh ⟨#[115,110,97,112,47]⟩,Z U b.1] X fun e w'=>e=Qg (Qh (Cd b.1))/\BL X w'):=fun X hb=>MJ ⟨#[115,110,97,112,47]⟩ _ X (HL X (Q.out X hb)).s (by decide) (by omega);have a9:(Cd b.1).size<=100:=by
  unfold Cd;rw[ByteArray.size_append,E9];have:=itoa_length_le b.1 (by omega) (by omega);have h5:(⟨#[115,110,97,112,47]⟩:ByteArray).size=5:=rfl;omega
 have ad:O (∀X,BL W X->Qf Qc 137 #[Qb (J z),Qh (Cd b.1),Qh (Ab (BC b))] X fun e w'=>e=Qg (Ae a (BG k.st (Cd b.1) (Ab (BC b))))/\∃f,An w' l (Qb (J z)) f k.st.head t vf { k with st:=B0 k.st (Cd b.1) (Ab (BC b)) } /\Ac g X w'/\∀j,f j->g j\/W.heap.size<=j):=fun X hb=>by
  have ae:=h.quiet K hb;refine(K.put X _ g k.st _ _ (Q.out X hb) ae.st P.keeps (by omega) (by have:=Pb d;omega)).mono fun e w' ⟨h1,h2⟩=>?_;obtain⟨f,h3,h4,h5⟩:=ae.post h2;exact⟨h1,f,h3,h4,fun j q=>(h5 j q).imp_right (Qm hb.size)⟩
 have af:O (Gw k.st (B0 k.st (Cd b.1) (Ab (BC b)))):=Jp P _ (pZ _);have au:O (BG k.st (Cd b.1) (Ab (BC b))=0->AK (B0 k.st (Cd b.1) (Ab (BC b))) (Cd b.1) (Ab (BC b))):=fun h0=>(JY P h0).1;have ag:O (∀X f o,Ac g W X->(∀j,f j->g j\/W.heap.size<=j)->Gw k.st o->An X l (Qb (J z)) f k.st.head t vf { k with st:=o } ->AK o (Cd b.1) (Ab (BC b))->(b.1=Ag k.st->∀n,Rm (n+2) k.st->Rm (n+1) o)->Qf Qc 78 #[Qb (J ⟨l,0,S⟩),A9 b (I C b.2.2.2.2.2.2.length D),I qj i.length cj] X (Dk a W l (Qb (J z)) g t vf k (I qj i.length cj) (I C b.2.2.2.2.2.2.length D) i b (Ge k b) (Fv k b))):=fun X f o hb hS hgw hQ hh hR=>by
  have av:=K.below _ _ hE (hb.below (K.size _ hE) hB.2);have aw:An X l (Qb (J z)) f ({ k with st:=o } :Lk).st.head t vf { k with st:=o } :=by
   show An X l (Qb (J z)) f o.head t vf { k with st:=o };rw[hgw.head];exact hQ
  exact(Vr K HL av aw hgw.good ⟨hB.1,fun j q=>(hS j q).elim (hB.2 j) (fun e=>Qm (K.size _ hE) e)⟩ (by show o.head.size<=1000;rw[hgw.head];exact a7) _ _ i b ⟨KD q.1 (fun d j q=>(aq d j q).2) hb,q.2⟩ a8 (aq.up (fun d j e=>KO q.1 d e) hS) (JP hv (fun d j q=>(ar d j q).2) hb) (ar.up (fun d j e=>JU hv d e) hS)).mono fun e w' hp=>hp.then hb hS hgw (fun m s' hY ho=>⟨ho _ _ hh,by rw[hY.1];exact KZ hgw.good.keeps ML hh,fun he n hn=>hY.2 n (hR he n hn)⟩) (fun P=>hR P.1 0 P.2)
 have ah:O (b.1=Ag k.st->∀n,Rm (n+2) k.st->BG k.st (Cd b.1) (Ab (BC b))=0/\Rm (n+1) (B0 k.st (Cd b.1) (Ab (BC b)))):=fun he n hn=>by
  have:=La (n:=n+1) hn ML (Pb d);rw[<-he]at this;exact this
 have ai:O (Fv k b->b.1=Ag k.st/\Rm 2 k.st):=fun h=>h;have aj:O (l<W.heap.size/\¬g W.heap.size):=⟨h.blk.lt,fun e=>absurd ((h.sizes K).2 _ e) (by omega)⟩;have ax:=h.blk.cells.1;generalize B0 k.st (Cd b.1) (Ab (BC b))=o at *;generalize BG k.st (Cd b.1) (Ab (BC b))=N at *;generalize Ge k b=a5 at *;generalize Fv k b=TG at *;generalize Ab (BC b)=TX at *;generalize Cd b.1=NB at *;unfold A9 at R ag ⊢
 go_enter func71,ntmps71
 go_upto_region 1 with fail
 generalize W.alloc (V #[Z U b.1,Z U b.2.1,Z U b.2.2.1,Z U b.2.2.2.1,Z U b.2.2.2.2.1,Qh b.2.2.2.2.2.1,I C b.2.2.2.2.2.2.length D] 40)=WA at u v ⊢;have ak:=R.out WA u;have al:=Aa u ax;generalize a6:W.heap.size=nb at v aj ⊢;have ba:O _:=a6.symm;obtain⟨n1,n2,n3,n4,n5,n6,L⟩:=b;dsimp only at *;obtain⟨E,x1,x2,x3,x4,x5,x6⟩:=v.cells;dsimp only at E x1 x2 x3 x4 x5 x6
 go_wp2_with fail
 refine ak.mono ?_;rintro e w1 ⟨rfl,M⟩;have T:=Ad u M;have F:=v.below M;have c0:=Aa M al;clear ak u v M al E x1 x2 x3 x4 x5 x6 R;obtain⟨E,-⟩:=F.cells;dsimp only at E;have y:BL w1 w1.drew:=(Qp _ _).drew;have am:=Aa y c0;have ay:=Aa y E;have Y:=Ad T y
 go_upto_region 4 with fail
 go_cut [9] from 19 to 27 (fun c wx=> ∃f,c=Ae a N/\An wx l (Qb (J z)) f k.st.head t vf { k with st:=o } /\Ac g w1 wx/\∀j,f j->g j\/W.heap.size<=j)
 case first =>
  first
   | (go_region_with (first
    | (go_at_call 96;(with_reducible refine(ac.out _ Y).mono ?_);rintro e wX ⟨rfl,ab⟩;have bb:=Aa ab am;have az:=(Ad Y ab);have a0:=Ad y ab)
    | (go_at_call 137;(with_reducible refine(ad.out _ az).mono ?_);rintro e wZ ⟨rfl,f,a2,a3,a4⟩)))
   | fail
  all_goals
   go_wp2;go_meet
   case rel=>exact ⟨f,rfl,a2,(Ac.of_below a0).trans a3 (fun _ h _=>h),a4⟩
 case rest =>
 obtain⟨f,rfl,aa,r,ap⟩:=hcut;have an:Al wc nb (n1,n2,n3,n4,n5,n6,L) (I C L.length D):=(r.block nb F.lt aj.out.2).trans F;have ao:O (Ac g W wc):=(Ac.of_below T).trans r (fun _ h _=>h);clear F c0 E y am ay Y ad ac r T;by_cases hC:N=0
 case neg =>
  have HP:O (Dk a W l (Qb (J z)) g t vf k (I qj i.length cj) (I C L.length D) i (n1,n2,n3,n4,n5,n6,L) a5 TG (Qg (Ae a N)) wc):=⟨N,f,rfl,ao.out.mono (fun _ h=>Qj h),ap,Qj ⟨hC,fun h=>hC (ah.out (ai.out h).1 0 (ai.out h).2).1,o,af.out,aa⟩⟩;obtain⟨n,rfl⟩:∃n,N=n+1:=⟨N-1,by omega⟩;simp only[Ae]at HP ⊢;clear aa an hC;go_wp2;go_ret;exact HP.out
 case pos =>
 subst hC;simp only[Ae];have a1:=ag.out wc f o ao.out ap af.out aa (au.out rfl) (fun he n hn=>(ah.out he n hn).2);obtain⟨E,x1,x2,x3,x4,x5,x6⟩:=an.cells;dsimp only at E x1 x2 x3 x4 x5 x6
 go_wp2_with fail
 refine a1.mono ?_;rintro e w6 hP;have HP:O _:=hP;obtain⟨n,SZ,rfl,-⟩:=hP;go_wp2;go_ret;exact HP.out
end
theorem Pj {W:Qa} {base:Nat} {e:TypeId} {b:Nat} {v:A} {n:Nat} {xs:List A} (h:W.ownsRow base e b v n xs):∃q c,v=I q n c/\n<=c/\(q=S->c=0)/\∀k,v.ownBlock=J k->base<=k:=by
 rcases h.2 with⟨rfl,rfl⟩|⟨g,f,i,rfl,j,_,d,_⟩
 ·exact⟨S,0,rfl,Qq _,fun _=>rfl,fun k hk=>by simp[Qo]at hk⟩
 ·exact⟨_,_,rfl,d,fun e=>by simp at e,fun k hk=>by simp[Qo]at hk;omega⟩
theorem sF {W:Qa} {base:Nat} {v:A} {zs:List Int} (h:W.ownsRow base 3 1 v zs.length (zs.map EO)):C4 W v zs:=by
 refine⟨NT h,fun q l c e=>?_⟩;obtain⟨b,d,rfl,f,_⟩:=Pj h;injection e with _ e1 e2;omega
theorem sG (n:Nat) (w:Qa) (u:n<=100000) :
  Qf Qc 288 #[I S 0 0,Z U n] w fun e w'=> ∃v',e=Qg v'/\w'.ownsRow w.heap.size 3 1 v' 0 []/\BL w w':=by
 obtain⟨g,m,o,r,b⟩:=Tryz.numInfo;by_cases p:n=0
 ·subst p
  go_enter func288,ntmps288
  go_wp2;go_ret;exact⟨_,rfl,World.ownsRow_nil _ _ _ _,Qp _ _⟩
 ·have s:¬((n:Int)<0):=by omega
  have f:(Q0 g.size 0 (I S 0 0)).run Qc w.drew= .ok ([]:List A).toArray w.drew:=run_firstCells_none w.drew g.size 0 0 0;have c:∀ty,(Q1 #[32,3] ty #[I S 0 0,Z U (n:Int)]).run Qc w= .ok (I (J ⟨w.heap.size,0,S⟩) n (Qi w n 0 3)) (w.drew.alloc (V (([]:List A).toArray++Qd (Qe (Z U 0)) n++Qd (Qe (Z U 0)) (Qi w n 0 3-n)) 3)):=fun ty=>by
   have h:=Lib.run_append_grow_zeros w 32 3 ty 3 g _ U U Qw underlying3 m o S 0 0 [] f n (by omega) (by omega) (by omega) (by omega) (by rw[b];omega) (by rw[Qx,b];exact growslice_fits (by omega) (by omega));rw[Qx]at h;exact h
  have q:n<=Qi w n 0 3:=grownCap_ge w _ _ _;have i:=grownCap_le_maxLen w n 0 3 (by unfold maxLen;omega);have j:BL w (w.drew.alloc (V (([]:List A).toArray++Qd (Qe (Z U 0)) n++Qd (Qe (Z U 0)) (Qi w n 0 3-n)) 3)):=(Qp _ _).drew.alloc (Qq _) _;have d:(w.drew.alloc (V (([]:List A).toArray++Qd (Qe (Z U 0)) n++Qd (Qe (Z U 0)) (Qi w n 0 3-n)) 3)).ownsRow w.heap.size 3 1 (I (J ⟨w.heap.size,0,S⟩) 0 (Qi w n 0 3)) 0 []:=by
   refine⟨rfl,Ql ⟨w.heap.size,_,_,rfl,Qq _,Qu w.drew _,Nat.zero_le _,i,?_,by simp⟩⟩;have l:∀k,(Qd (Qe (Z U 0)) k).size=k*1:=fun k=>by
    rw[size_zeroCells];rfl
   simp only[Array.size_append,l];simp;omega
  generalize w.drew.alloc (V (([]:List A).toArray++Qd (Qe (Z U 0)) n++Qd (Qe (Z U 0)) (Qi w n 0 3-n)) 3)=t at c j d
  go_enter func288,ntmps288
  go_wp2_with (at_builtin;refine Lib.wpList_append_run _ rfl _ _ _ _ rfl _ _ rfl rfl _ _ (c _) ?_)
  all_goals
   go_ret;exact⟨_,rfl,d,j⟩
def MR (w:Qa) (b:Nat) (gs:List (List Int)):Prop:= ∀j (h:j<gs.length),∃q c,w.cell? ⟨b,j,S⟩=J (I q gs[j].length c)/\A3 w (I q gs[j].length c) gs[j]/\(q=S->c=0)
theorem MR.below {w w':Qa} {b:Nat} {gs:List (List Int)} (h:MR w b gs) (d:BL w w'):MR w' b gs:=fun j hj=>by
 obtain⟨q,c,f,g,i⟩:=h j hj;exact⟨q,c,Aa d f,g.below d,i⟩
theorem Pk (gs:List (List Int)) (n:Nat) (h:n<gs.length):(gs.take (n+1)).flatten=(gs.take n).flatten++gs[n]:=by
 rw[<-List.take_append_getElem h,Qy];simp
theorem sH (gs:List (List Int)) (n:Nat):(gs.take n).flatten.length<=gs.flatten.length:=by
 conv=>rhs;rw[<-List.take_append_drop n gs,Qy,Qk]
 omega
theorem sI (b:Nat) (gs:List (List Int)) (w:Qa) (hp:MR w b gs) (o:gs.length<=10) (hl:gs.flatten.length<=1000) :
  Qf Qc 201 #[I (J ⟨b,0,S⟩) gs.length gs.length] w fun e w'=> ∃v',e=Qg v'/\w'.ownsRow w.heap.size 3 1 v' gs.flatten.length (gs.flatten.map EO)/\BL w w':=by
 obtain⟨i0,aj,ak,al,P⟩:=Tryz.numInfo;have T:O _:=fun W (j:BL w W)=>hp.below j;have l:O _:=fun n=>Qm (sH gs n) hl;obtain⟨K,hK⟩:∃K,gs.length=K:=⟨_,rfl⟩;have N:O _:=hK;rw[hK]at o ⊢
 go_enter func201,ntmps201
 go_wp2
 go_loop [3,11] (fun s k=> ∃n:Nat,n<=K/\s=Z U (gs.take n).flatten.length/\k=Z U n) (fun _ k=>K-(intOf k).toNat)
 case atStart=>exact ⟨0,by omega,rfl,rfl⟩
 case round =>
  obtain⟨n,hn,rfl,rfl⟩:=hrel;have X:=l.out n;have h2:=l.out (n+1);by_cases Y:n<K
  ·have p:n<gs.length:=by rw[N.out];exact Y
   obtain⟨q,c,D,-⟩:=T.out w (Qp _ _) n p;have i:=congrArg Qz (Pk gs n p);rw[Qk]at i;have hi:(n:Int)<(K:Int):=by omega
   have ar:(0:Int)<=(n:Int):=by omega
   have z:O _:=i;generalize (gs.take n).flatten.length=f at X z ⊢;generalize gs[n].length=B at D z;have av:f+B<=1000:=by rw[<-z.out];exact h2
   go_wp2;go_round
   case rel=>exact ⟨n+1,by omega,by rw[z.out];go_num,by go_num⟩
   case measure=>simp [intOf];omega
  ·obtain rfl:n=K:=by omega
   have aa:=List.take_of_length_le (by rw[N.out];exact Qq _);have ab:O _:=aa;have E:=sG (gs.take n).flatten.length w (by omega);generalize (gs.take n).flatten.length=d at X E ⊢
   go_wp2_with fail
   refine E.mono ?_;rintro e w1 ⟨v1,rfl,M,ao⟩;obtain⟨q1,c1,rfl,-⟩:=Pj M;have ac:O (w1.ownsRow w.heap.size 3 1 (I q1 0 c1) (gs.take 0).flatten.length ((gs.take 0).flatten.map EO)):=by
    show w1.ownsRow _ _ _ _ _ _;simpa using M
   go_wp2
   go_loopw [6,27] (fun v k wr=> ∃m:Nat,m<=n/\k=Z U m/\wr.ownsRow w.heap.size 3 1 v (gs.take m).flatten.length ((gs.take m).flatten.map EO)/\BL w wr) (fun _ k _=>n-(intOf k).toNat)
   case atStart=>exact ⟨0,by omega,rfl,ac.out,ao⟩
   case round =>
    obtain⟨m,hm,rfl,Q,j⟩:=hrel;have r:O _:=Q;have g1:=l.out m;have g2:=l.out (m+1);by_cases ad:m<n
    ·have t:m<gs.length:=by rw[N.out];exact ad
     obtain⟨q,c,D,am,an⟩:=T.out wr j m t;have i:=congrArg Qz (Pk gs m t);rw[Qk]at i;have F:O _:=Pk gs m t;have y:O _:=UQ am an;obtain⟨g,hg⟩:∃g,gs[m]=g:=⟨_,rfl⟩;rw[hg]at D i F y;obtain⟨B,hB⟩:∃B,g.length=B:=⟨_,rfl⟩;have HB:O _:=hB;rw[hB]at D i y;obtain⟨C,hC⟩:∃C,(gs.take m).flatten.length=C:=⟨_,rfl⟩;have ae:O _:=hC;rw[hC]at g1 i r;obtain⟨R,L⟩:∃R,(gs.take m).flatten.map EO=R:=⟨_,rfl⟩;have af:O _:=L;rw[L]at r
     go_wp2_with (at_builtin;(refine NX rfl _ _ 32 rfl w.heap.size 3 i0 (Z U 0) 1 8 Qw aj ak al P rfl (by decide) u6 C R rfl ?a0 q B c (g.map EO) rfl ?a1 ?a2 ?a3 ?a4 ?a5 ?a6 ?_))
     case a0=>exact r.out
     case a1=>rw [List.length_map,HB.out];simp
     case a2=>exact y.out
     case a3=>intro u hu;obtain⟨x,_,rfl⟩:=List.mem_map.1 hu;rfl
     case a4=>unfold maxLen;omega
     case a5=>omega
     case a6=>exact j.size
     intro v2 y2 ap aq _;have ag:=j.grown aq j.size (fun k o=>by
      rcases r.out.2 with⟨e,_⟩|⟨g',au,aw,e,ax,_⟩
      ·rw[e]at o;simp[Qo]at o
      ·rw[e]at o;simp[Qo]at o;omega)
     have ah:O (y2.ownsRow w.heap.size 3 1 v2 (gs.take (m+1)).flatten.length ((gs.take (m+1)).flatten.map EO)):=by
      show y2.ownsRow _ _ _ _ _ _;rw[F.out,List.map_append,Qk,HB.out,ae.out,af.out];exact ap
     go_wp2;go_roundw
     case rel=>exact ⟨m+1,by omega,by go_num,ah.out,ag⟩
     case measure=>simp [intOf];omega
    ·obtain rfl:m=n:=by omega
     have ai:O (wr.ownsRow w.heap.size 3 1 u6 gs.flatten.length (gs.flatten.map EO)):=by
      have h':=r.out;rw[ab.out]at h';exact h'
     go_wp2;go_ret;exact⟨_,rfl,ai.out,j⟩
theorem Vt (z:Int):∀(zs:List Int) (p:Int) (i:Nat),(Dq p zs i).1=0->(Dq p (zs++ [z]) i).1=if CI z=false then 2 else if z<=zs.getLastD p then 9 else 0
 | [],p,i,_=>by
  show (Dq p [z] i).1=if CI z=false then 2 else if z<=p then 9 else 0;unfold Dq;by_cases b:CI z=false
  ·rw[if_pos b,if_pos b]
  rw[if_neg b,if_neg b];by_cases c:z<=p
  ·rw[if_pos c,if_pos c]
  rw[if_neg c,if_neg c];rfl
 | y :: r,p,i,h=>by
  rw[List.cons_append];unfold Dq at h ⊢;by_cases b:CI y=false
  ·rw[if_pos b]at h;cases h
  rw[if_neg b]at h ⊢;by_cases c:y<=p
  ·rw[if_pos c]at h;cases h
  rw[if_neg c]at h ⊢;rw[Vt z r y (i+1) h,List.getLastD_cons]
theorem sJ {zs:List Int} {z:Int} (h:(AD zs).1=0) (d:zs.length≠40):(AD (zs++ [z])).1=Gu zs z:=by
 have b:=DO.1 h;have c:(Dq 0 zs 0).1=0:=by
  unfold AD at h;rw[if_neg b.1,if_neg (by omega)]at h;exact h
 unfold AD;rw[if_neg (by simp),if_neg (by rw[Qk];simp;omega)];exact Vt z zs 0 0 c
theorem sK {zs:List Int} {z:Int} (b:zs.length=40):(AD (zs++ [z])).1=8:=by
 unfold AD;rw[if_neg (by simp),if_pos (by rw[Qk];simp;omega)]
def Kd (w:Qa) (a:Nat->Addr) (zs:List Int) (E:Nat×Option Nat) (e:Ending) (w':Qa):Prop:= ∃v' ev,e=Qg (Qt #[v',ev])/\C4 w' v' zs/\Iy w v'/\AU w' a ev E/\BL w w'
theorem MS {w W:Qa} {a:Nat->Addr} {zs:List Int} {E:Nat×Option Nat} {b:A} (c:zs= []) (d:AU W a b E) (f:BL w W):Kd w a zs E (Qg (Qt #[I S 0 0,b])) W:=by
 subst c;exact⟨_,_,rfl,⟨Qj ⟨S,0,rfl,rfl⟩,KG⟩,fun k hk=>by simp[Qo]at hk,d,f⟩
theorem sL (v:A) (zs:List Int) (z:Int) (w:Qa) (a:Nat->Addr) (h:FV w a) (P:C4 w v zs) (hl:zs.length<=100) :
  Qf Qc 113 #[v,Z U z] w fun e w'=>Kd w a (Fq zs z) (Ey zs z) e w':=by
 have d:=KH v zs w a h P (by omega);by_cases f:(AD zs).1=0
 case neg =>
  have p:Ey zs z=AD zs:=by unfold Ey;rw[if_pos f]
  have C:O (Fq zs z= []):=by show _=_;unfold Fq;rw[p,if_neg f]
  rw[p]
  go_enter Qr,Qs
  go_wp2_with fail
  refine d.mono ?_;rintro e y ⟨B,rfl,n,c⟩;obtain⟨t,u,rfl⟩:=n.bad f;have D:O _:=n;go_wp2;go_ret2;exact MS C.out D.out c
 case pos =>
 have N:=K7 f;rw[N]at d;have p:Ey zs z=((AD (zs++ [z])).1,S):=by unfold Ey;rw[if_neg (by simpa using f)]
 obtain⟨ai,-⟩:=DO.1 f;have Q:O _:=fun W (hb:BL w W)=>h.below hb;have R:O _:=fun W (hb:BL w W)=>P.1.below hb;obtain⟨q,l,rfl⟩:=P.1.shape;obtain⟨b,o,rfl,hc⟩:=P.1.at ai;by_cases s:zs.length=40
 ·have T:Ey zs z=(8,S):=by rw[p,sK s]
  have C:O (Fq zs z= []):=by show _=_;unfold Fq;rw[T];rfl
  rw[T];rw[s]at d ⊢
  go_enter Qr,Qs
  go_wp2_with fail
  refine d.mono ?_;rintro e y ⟨B,rfl,n,c⟩;obtain rfl:B=Qn:=n;have am:=(Q.out y c).full;go_wp2
  go_quiet (fail)
  go_wp2;go_ret2;exact MS C.out rfl (AH c nq)
 rw[sJ f s]at p;have F:O (Fq zs z=if Gu zs z=0 then zs++ [z] else []):=by
  show _=_;unfold Fq;rw[p]
 rw[p];have g:=fun W (hb:BL w W)=>TV _ zs z W a (Q.out W hb) (R.out W hb) (by omega);have i:=fun (W:Qa) (hb:BL w W)=>sI (W.heap.size+1) [zs, [z]] ((W.alloc (V #[Z U z] 3)).alloc (V #[I (J ⟨b,o,S⟩) zs.length l,I (J ⟨W.heap.size,0,S⟩) 1 1] 32)) (fun j hj=>by
   have ac:=hj;have K:BL W ((W.alloc (V #[Z U z] 3)).alloc (V #[I (J ⟨b,o,S⟩) zs.length l,I (J ⟨W.heap.size,0,S⟩) 1 1] 32)):=(Af _ _).alloc (by simp) _
   match j,ac with
   | 0,_ =>
    refine⟨J ⟨b,o,S⟩,l,?_,(R.out W hb).below K,fun e=>by cases e⟩;have:W.heap.size+1=(W.alloc (V #[Z U z] 3)).heap.size:=by simp
    rw[this,Qv _ _ _ _ _ _ (Qu _ _)];rfl
   | 1,_ =>
    refine⟨J ⟨W.heap.size,0,S⟩,1,?_,Ql ⟨W.heap.size,0,1,rfl,fun k hk=>?_⟩,fun e=>by cases e⟩
    ·have:W.heap.size+1=(W.alloc (V #[Z U z] 3)).heap.size:=by simp
     rw[this,Qv _ _ _ _ _ _ (Qu _ _)];rfl
    ·have ad:k=0:=by simp at hk;omega
     subst ad;have h2:=heap_alloc2_old W (V #[Z U z] 3) (V #[I (J ⟨b,o,S⟩) zs.length l,I (J ⟨W.heap.size,0,S⟩) 1 1] 32);rw[Qv _ _ _ _ _ _ h2];rfl) (by simp) (by simp;omega)
 have ae:([zs, [z]]:List (List Int)).flatten=zs++ [z]:=by simp
 rw[ae]at i;obtain⟨L,hL⟩:∃L,zs.length=L:=⟨_,rfl⟩;rw[hL]at hl d s g i ⊢;have af:([zs, [z]]:List (List Int)).length=2:=rfl;rw[af]at i;generalize an:Gu zs z=E at g F ⊢;have ag:E=0\/E≠0:=by omega
 rcases ag with rfl | al
 ·have ab:O _:=F.out;rw[ab.out];simp only[Ae]at g
  go_enter Qr,Qs
  go_wp2_with fail
  refine d.mono ?_;rintro e y ⟨B,rfl,n,c⟩;obtain rfl:B=Qn:=n;have r:=g y c
  go_wp2_with fail
  refine r.mono ?_;rintro e M ⟨rfl,rfl⟩;have ah:=i M c;have K:BL M ((M.alloc (V #[Z U z] 3)).alloc (V #[I (J ⟨b,o,S⟩) L l,I (J ⟨M.heap.size,0,S⟩) 1 1] 32)):=(Af _ _).alloc (by simp) _;have X:=Ad c K
  go_wp2_with fail
  refine ah.mono ?_;rintro e w4 ⟨v4,rfl,aa,ak⟩;have Y:O (C4 w4 v4 (zs++ [z])/\Iy w v4):=by
   refine⟨sF aa,fun k hk=>?_⟩;obtain⟨_,_,_,_,_,aj⟩:=Pj aa;exact Qm X.size (aj k hk)
  go_wp2;go_ret2;exact⟨v4,Qn,rfl,Y.out.1,Y.out.2,rfl,(Ad X ak)⟩
 ·have C:O (Fq zs z= []):=by
   show _=_;rw[F.out,if_neg al]
  obtain⟨m,rfl⟩:∃m,E=m+1:=⟨E-1,by omega⟩;have D:O (∀W,AU W a (.iface 410 (Qb (J (a m)))) (m+1,S)):=fun W=>rfl;simp only[Ae]at g
  go_enter Qr,Qs
  go_wp2_with fail
  refine d.mono ?_;rintro e y ⟨B,rfl,n,c⟩;obtain rfl:B=Qn:=n;have r:=g y c
  go_wp2_with fail
  refine r.mono ?_;rintro e M ⟨rfl,rfl⟩;go_wp2;go_ret2;exact MS C.out (D.out _) c
end Go.Proofs.YtcllhobffhkafaaGreatDoor
