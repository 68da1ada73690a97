/- By an AI agent. -/
import Derived.Test.YtcllhobffhkafaaGreatDoorLkwOne
set_option maxRecDepth 100000
set_option maxHeartbeats 16000000
open Go.Proofs.Tryz
open Go renaming Value->Z,World->J,Calls->Qc,cell_of_row->Qi,heap_alloc_new->Qj,Ending->Qm
open Go.Ending renaming returned->A
open Go.IntKind renaming i64->U
open Go.Obj renaming cells->Qf
open Go.Value renaming int->O,slice->S,string->V,pointer->Qa,tuple->Qb,nilIface->Qd,iface->Qk
open List renaming mem_singleton->Ql,mem_cons_self->Qn
open Nat renaming le_trans->Qe
open Option renaming none->I,some->H
open Or renaming inr->Qg,inl->Qh
namespace Go.Proofs.YtcllhobffhkafaaGreatDoor
open Go.Extern Go.Extern.Stop Go.Lib Go.RowKit Go.Shelf Go.Sort Go.Stop
section
abbrev Lq:ByteArray:=⟨#[112,97,114,116]⟩
theorem Rb:A8 Lq.data.toList=(0,0,0):=by decide
theorem WI {n:Nat} (h:n<=13):Rm n (Br Ff):=⟨rfl,rfl,by show 0+n<=200;omega,by show 0+n*20000<=262144;omega,by show (1:Int)+n<=1000000;omega⟩
theorem zI:Pr Ff Lq:=⟨by rw[Rb],fun _=>WI (by omega)⟩
theorem WJ {n:Int} (c:1<=n) (d:n<=1073741824) (g:Bool) {f:ByteArray} (b:f.data.toList=AE g++ [47]):A7 (f++Ab (itoa n)).data.toList=H (g,n):=by
 have h:=LM g (itoa n);have e:(f++Ab (itoa n)).data.toList=AE g++47 :: itoa n:=by rw[PZ,b,BQ];simp
 rw[e,h];unfold Ek Dn;rw[EJ n (by omega) (by omega)];dsimp only;rw[if_pos (by simp only[Bool.and_eq_true,decide_eq_true_eq];omega)];rfl
theorem WK:Ed BU:=⟨by decide,P9⟩
theorem zJ {n:Int} (d:1<=n) (g:n<=1073741824):(Cs ((Db Ef BU).1++Ab (itoa n)) (Db Ef BU)).2=0:=by
 have b:=WJ d g false (f:=⟨#[100,97,116,97,47]⟩) rfl;show (Bx (⟨#[100,97,116,97,47]⟩++Ab (itoa n)) Ef (Ab (EK (A5 BU))).data.toList 1).2=0;have c:Bf false (Ab (EK (A5 BU))).data.toList=([1,2],0):=by
  show (BB (Bw (Ab (EK (A5 BU))).data.toList).1,(Bw (Ab (EK (A5 BU))).data.toList).2.1)=_;rw[BQ,PA,RU BU P9 (by decide) (by have:=S3 BU;rw[PA]at this;exact this)];rfl
 rw[Mv b,c,if_pos rfl];unfold DZ;rw[if_pos];unfold At;dsimp only;rw[b];rfl
theorem zK {n:Int} (d:1<=n) (g:n<=1073741824) {t:ByteArray} (i:B4 t.data.toList=([2],0,I)):(Cs ((⟨#[103,111,110,101,47]⟩:ByteArray)++Ab (itoa n)) (⟨#[103,111,110,101,47]⟩,P8,t)).2=0:=by
 have b:=WJ d g true (f:=⟨#[103,111,110,101,47]⟩) rfl;show (Bx (⟨#[103,111,110,101,47]⟩++Ab (itoa n)) P8 t.data.toList 1).2=0;have c:Bf true t.data.toList=([2],0):=by
  show ((B4 t.data.toList).1,(B4 t.data.toList).2.1)=_;rw[i]
 rw[Mv b,c,if_pos rfl];unfold DZ;rw[if_pos];unfold At;dsimp only;rw[b];rfl
theorem WL {ds:List Dr} (h:I6 Lq BU ds):ds= [Db Ef BU]:=by
 obtain⟨c,g,i,rfl⟩:=h;rw[Rb]at i ⊢;have f:∀nm:List UInt8,grp (Dp 0 0) BU nm=if nm= [97] then BU else []:=fun nm=>by
  unfold grp;by_cases e:nm= [97]
  ·subst e;rw[if_pos rfl];rfl
  ·rw[if_neg e];rw[List.filter_eq_nil_iff];intro x d;have:Dp 0 0 x=Ef:=by
    rcases List.mem_cons.1 d with rfl | d
    ·rfl
    ·rw[Ql.1 d];rfl
   rw[this];simp only[decide_eq_true_eq];exact fun e'=>e e'.symm
 have j:c= [[97]]:=by
  have b:∀nm,nm∈c↔nm= [97]:=fun nm=>by
   rw[i,f];split
   ·rename_i e;simp[e]
   ·rename_i e;simp[e]
  rcases c with _ | ⟨t,_ | ⟨u,r⟩⟩
  ·have:=(b [97]).2 rfl;simp at this
  ·rw[(b t).1 Qn]
  ·have k:=(b t).1 Qn;have l:=(b u).1 (by simp);rw[k,l]at g;simp at g
 subst j;rw[List.map_singleton,f,if_pos rfl];unfold Cn DH;simp only[List.flatMap_singleton];rw[PA];rfl
theorem zL {k b:Lk} {ds:List Dr} {j:Int} (hi:Ax k) (h:Fw k b ds [] j) (c:∀d∈ds,Bp d.1/\DU d.1/\d.2.2.size<=20000):b.now.2.2.2.2.2.2.length=k.now.2.2.2.2.2.2.length+ds.length/\b.now.2.2.1=k.now.2.2.1+1/\∀n,Rm (ds.length+(n+2)) k.st->Rm n b.st:=by
 obtain⟨q,l,-,m,-⟩:=Ra hi h fun d hd=>(c d hd).1;obtain⟨r,s,u,o,v,y,p,f,-,-,-,-,-,-,-,g⟩:=h;obtain⟨-,-,-,-,i⟩:=JM p;rw[i]at f;refine⟨?_,by rw[f];rfl,fun n hr=>g n (o.rm hr fun d hd=>(c d hd).2)⟩;have e:=congrArg List.length (m fun t=> [t]);simp only[List.length_flatMap,List.length_singleton,List.map_const',List.sum_replicate_nat,Nat.mul_one]at e;rw[l.length_eq,List.length_append,List.length_map,e]
theorem zM {k:Lk} (hi:Ax k) (i:k.ids.length=1) (j:k.now.2.2.2.2.2.2= []) (p:k.now.2.2.1=0) (b:k.spec=Lq) (c:Rm 11 k.st):Ig k 1 BU:=by
 refine⟨rfl,⟨by rw[b,Rb],P9⟩,Qg fun ds hd=>?_⟩;rw[b]at hd;rw[WL hd];have d:=Id k.st;have l:=c.num;obtain⟨f,g,m,n,o⟩:=PW (nm:=Ef) (by decide) WK;exact WH hi (c.le (by omega)) f (by omega) g (zJ d.1 (by omega)) (by rw[j];simp) (by omega) (by omega) (by omega)
theorem zN {k f:Lk} {m:Int} (hi:Ax k) (M:k.ids.length=1) (B:k.now.2.2.2.2.2.2= []) (hs:k.now.2.2.1=0) (C:k.now.2.2.2.2.1=0) (i:k.spec=Lq) (N:Rm 11 k.st) (h:GC k 1 BU f m):m=2/\Ax f/\Gf f 2 [2]/\(Bi f).Perm BU/\f.now.2.2.2.2.1=1:=by
 obtain⟨-,u,⟨Q,-⟩|⟨-,F,R,g,p⟩⟩:=h
 ·omega
 have j:=fun d hd'=>((Lm g u (by decide)).2 d hd').2.1;have b:=p.all hi j;have c:=WD hi p b j g u;rw[i]at g;have l:=WL g;obtain⟨K,L,T,W,X⟩:=PW (nm:=Ef) (by decide) WK;obtain⟨v,Y,y⟩:=zL hi p (fun d hd'=>by rw[l,Ql]at hd';rw[hd'];exact⟨L,K,by omega⟩);rw[l]at v y;have n:Rm 8 f.st:=y 8 N;have D:Bi k= []:=by
  rw[(Ih hi).2,B];exact List.length_eq_zero_iff.1 (by rw[Hi];rfl)
 rw[D,List.nil_append]at c;have q:∀z∈ [(2:Int)],Ao z=true:=by decide
 have o:(A4 [2]).length<=40:=by rw[MY];decide
 refine⟨by rw[F];rfl,b.lki,⟨rfl,o,q,Qg ?_⟩,c.1,c.2⟩;have r:DV [2]= [(⟨#[103,111,110,101,47]⟩,P8,Ab (DK [2]))]:=by
  unfold DV;rw[MY,if_neg (by simp)]
 rw[r];have E:=Id f.st;have P:=n.num;have s:=MV q o;rw[MY]at s;have t:(Ab (DK [2])).size<=20000:=by
  rw[E9];have:=LK IL [2] (fun x C=>by rw[Ql.1 C];show Ao 2=true;decide) (by decide);have e:(DK [2]).length<=1400:=this;omega
 exact WH b.lki (n.le (by omega)) qS t (Nd (zs:= [2]) _ (by rw[r];exact Ql.2 rfl)) (zK E.1 (by omega) (by rw[BQ];exact s.2)) (by rw[v,B];simp) (by rw[b.ids];simp;omega) (by omega) (by omega)
theorem WM {k c:Lk} {m:Int} (hi:Ax k) (q:k.now.2.2.2.2.1=1) (o:(Bi k).Perm BU) (h:Fx k 2 [2] c m):m=1/\Ax c/\Bo c.st.obs c.now 0 9=([(Ef,1,5)],0,I):=by
 obtain⟨-,g,l,⟨p,-⟩|⟨-,n,i⟩⟩:=h
 ·omega
 have b:=i.all hi Nd;have d:=(zF hi i b l g).1.trans (o.filter _);have j:Bi c= [(Ef,1,5)]:=List.perm_singleton.1 d;have f:=(Ih b.lki).1;refine⟨by rw[n,MY];rfl,b.lki,?_⟩;rw[mF (by unfold Bt;omega) (by unfold Bu;omega) (by rw[f])];rw[f,j];rfl
attribute [local go_sem] Oper.semAt_some
theorem WN:B3 Ff:=⟨cY,fun _ h=>(nomatch h),lS⟩
theorem zO (w:J):Ar (w.alloc (Qf #[V ⟨#[97]⟩,O U 1,O U 5,V ⟨#[97]⟩,O U 2,O U 6] 62)) (S (H ⟨w.heap.size,0,I⟩) 2 2) BU:=by
 refine Qg ⟨w.heap.size,0,2,rfl,fun j hj=>?_⟩;rw[Qi _ _ _ _ _ _ (Qj _ _),Qi _ _ _ _ _ _ (Qj _ _),Qi _ _ _ _ _ _ (Qj _ _)]
 match j,hj with
 | 0,_=>exact ⟨rfl,rfl,rfl⟩
 | 1,_=>exact ⟨rfl,rfl,rfl⟩
theorem zP (w:J):Ar (w.alloc (Qf #[V ⟨#[97]⟩,O U 1,O U 5] 62)) (S (H ⟨w.heap.size,0,I⟩) 1 1) [(Ef,1,5)]:=by
 refine Qg ⟨w.heap.size,0,1,rfl,fun j hj=>?_⟩;rw[Qi _ _ _ _ _ _ (Qj _ _),Qi _ _ _ _ _ _ (Qj _ _),Qi _ _ _ _ _ _ (Qj _ _)]
 match j,hj with
 | 0,_=>exact ⟨rfl,rfl,rfl⟩
theorem zQ (w:J):A3 (w.alloc (Qf #[O U 2] 3)) (S (H ⟨w.heap.size,0,I⟩) 1 1) [2]:=by
 refine Qg ⟨w.heap.size,0,1,rfl,fun j hj=>?_⟩;rw[Qi _ _ _ _ _ _ (Qj _ _)]
 match j,hj with
 | 0,_=>rfl
section
variable {a : Nat → Addr} {B : Nat} {EM : J → Prop}
def Cv (D:Nat) (X:J) (kb:Nat) (vs:Z) (k:Lk):Prop:=D<=kb/\∃SP vi vf,An X kb vs SP k.st.head vi vf k/\Ax k/\∀j,SP j->D<=j
theorem Cv.quiet (K:AJ a B EM A0) {D:Nat} {X Y:J} {b:Nat} {c:Z} {k:Lk} (h:Cv D X b c k) (n:BL X Y):Cv D Y b c k:=by
 obtain⟨d,f,g,i,j,l,m⟩:=h;exact⟨d,f,g,i,j.quiet K n,l,m⟩
theorem Cv.op {D:Nat} {W X w':J} {c:Nat} {l:Z} {n:Nat->Prop} {k:Lk} {Q:Lk->Int->Prop} {G:Prop} {e:Qm} (t:D<=X.heap.size) (u:Below D W X) (o:D<=c) (b:∀j,n j->D<=j) (h:AX X c l n k Q G e w') (v:∀k' m,Q k' m->Ax k') (y:G):∃k' m,e=A (Qb #[O U m,Qd])/\Q k' m/\Cv D w' c l k'/\Below D W w':=by
 obtain⟨d,f,g,k',m,z,rfl,p,q,⟨r,-⟩,⟨-,s,-⟩|⟨rfl,i⟩⟩:=h
 ·exact absurd y s
 ·exact⟨k',m,rfl,i,⟨o,d,f,g,r,v _ _ i,fun j hj=>(q j hj).elim (b j) (fun h=>by omega)⟩,u.trans (p.below t (fun j hj=>hj.elim (b j) (fun e=>by omega)))⟩
theorem zR (K:AJ a B EM A0) (T:∀X,EM X->Bg X a) {W:J} (Y:EM W) :
  Qc prog 6 #[] W fun e w'=>e=A (.bool true)/\BL W w':=by
 have t:Hid (∀X,BL W X->EM X):=fun X hb=>K.below _ _ Y (hb.mono (K.size _ Y));have u:=K.size _ Y;have aa:=K.new W Y;have ab:Hid (∀X d z,BL W X->A0 X d z Ff->(∀j,z j->W.heap.size<=j)->Qc prog 8 #[d,V ⟨#[112,97,114,116]⟩] X fun e w'=> ∃b k,e=A (Qb #[Qa (H ⟨b,0,I⟩),Qd])/\Cv W.heap.size w' b d k/\BL W w'/\k.spec.size<=1000/\Ig k 1 BU/\∀k' m,GC k 1 BU k' m->m=2/\Ax k'/\Gf k' 2 [2]/\(Bi k').Perm BU/\k'.now.2.2.2.2.1=1):=fun X d z hX p g=>by
  refine(Pu K T (t.out X hX) p WN (fun j hj=>Qe u (g j hj)) ⟨#[112,97,114,116]⟩ (by decide) (Qh ⟨rfl,by decide⟩)).mono ?_;rintro e w' ⟨n,vk,rfl,⟨-,-,a0,-⟩|⟨rfl,a1,b,vi,vf,k,rfl,i,f,s,⟨o,-⟩,h5,-,h6,-,h7⟩⟩
  ·exact absurd zI a0
  ·obtain⟨g1,y,-,g4⟩:=h7 rfl;have hr:Rm 11 k.st:=g4 11 (WI (by omega));have e1:k.ids.length=1:=by rw[g1];rfl
   have e2:k.now.2.2.2.2.2.2= []:=by rw[y];rfl
   have e3:k.now.2.2.1=0:=by rw[y];rfl
   have e4:k.now.2.2.2.2.1=0:=by rw[y];rfl
   exact⟨b,k,rfl,⟨Qe hX.size s,a1,vi,vf,o,h6,fun j hj=>(f j hj).elim (g j) (Qe hX.size)⟩,hX.trans (i.below hX.size g),by rw[h5];decide,zM h6 e1 e2 e3 h5 hr,fun k' m c=>zN h6 e1 e2 e3 e4 h5 hr c⟩
 have ac:Hid (∀X b d k vx,BL W X->Cv W.heap.size X b d k->k.spec.size<=1000->Ig k 1 BU->(∀k' m,GC k 1 BU k' m->Ax k')->Ar X vx BU->Qc prog 25 #[Qa (H ⟨b,0,I⟩),O U 1,vx] X fun e w'=> ∃k' m,e=A (Qb #[O U m,Qd])/\GC k 1 BU k' m/\Cv W.heap.size w' b d k'/\BL W w'):=fun X b d k vx hX hk hs hg c hx=>by
  obtain⟨i,z,vi,vf,f,s,o⟩:=hk;exact(Nc K T (t.out X hX) f s ⟨by omega,fun j hj=>Qe u (o j hj)⟩ hs 1 hx (by decide) (by decide)).mono fun e w' ho=>Cv.op hX.size hX i o ho c hg
 have ad:Hid (∀X b d k vx,BL W X->Cv W.heap.size X b d k->Gf k 2 [2]->(∀k' m,Fx k 2 [2] k' m->Ax k')->A3 X vx [2]->Qc prog 27 #[Qa (H ⟨b,0,I⟩),O U 2,vx] X fun e w'=> ∃k' m,e=A (Qb #[O U m,Qd])/\Fx k 2 [2] k' m/\Cv W.heap.size w' b d k'/\BL W w'):=fun X b d k vx hX hk hg c hx=>by
  obtain⟨i,z,vi,vf,f,s,o⟩:=hk;exact(Pw K T (t.out X hX) f s ⟨by omega,fun j hj=>Qe u (o j hj)⟩ 2 hx (by decide)).mono fun e w' ho=>Cv.op hX.size hX i o ho c hg
 have ae:Hid (∀X b d k,BL W X->Cv W.heap.size X b d k->Bo k.st.obs k.now 0 9=([(Ef,1,5)],0,I)->Qc prog 12 #[Qa (H ⟨b,0,I⟩),O U 0,O U 9] X fun e w'=> ∃l,e=A (Qb #[l,Qd])/\Ar w' l [(Ef,1,5)]/\BL W w'):=fun X b d k hX hk hr=>by
  obtain⟨i,z,vi,vf,f,s,o⟩:=hk;refine(V3 K T (t.out X hX) f s 0 9).mono ?_;rintro e w' ⟨⟨l,ev,rfl,g1,y,g3⟩,-⟩;rw[hr]at g1 y;have:=y.ok rfl;subst this;exact⟨l,rfl,g1,(Ad hX g3)⟩
 have ax:Hid (∀X v l,Ar X v [(Ef,1,5)]->Ar X l [(Ef,1,5)]->Qc prog 17 #[v,l] X fun e w'=>e=A (.bool true)/\BL X w'):=fun X v l i f=>(Ry v l _ _ X i f (by decide) (by decide)).mono fun e w' ⟨i,f⟩=>⟨by rw[i];rfl,f⟩;have HK:Hid (AJ a B EM A0):=K;clear K T Y u
 go_enter func6,ntmps6
 go_wp2_with fail
 refine aa.mono ?_;rintro e w1 ⟨d,FP,rfl,p,an,ao⟩;obtain⟨pt,rfl⟩:=HK.out.ptr _ _ _ _ p;have af:=ab.out w1 _ FP ao p an;clear aa p an ao
 go_wp2_with fail
 refine af.mono ?_;rintro e L ⟨b,k,rfl,M,N,g,P,Q⟩;have a2:Hid (Cv W.heap.size L b (Qa (H pt)) k/\BL W L/\k.spec.size<=1000/\Ig k 1 BU):=⟨M,N,g,P⟩;have ay:Hid (∀k' m,GC k 1 BU k' m->m=2/\Ax k'/\Gf k' 2 [2]/\(Bi k').Perm BU/\k'.now.2.2.2.2.1=1):=Q;have C:BL L (L.alloc (Qf #[V ⟨#[97]⟩,O U 1,O U 5,V ⟨#[97]⟩,O U 2,O U 6] 62)):=Af _ _;have ag:=ac.out _ b _ k _ (Ad N C) (M.quiet HK.out C) g P (fun k' m c=>(Q k' m c).2.1) (zO L);clear af M N g P Q C ab ac
 go_wp2_with fail
 refine ag.mono ?_;rintro e w3 ⟨k3,m3,rfl,c,ap,aq⟩;obtain⟨rfl,D,al,E,F⟩:=ay.out _ _ c;have q:BL w3 (w3.alloc (Qf #[O U 2] 3)):=Af _ _;have ah:=ad.out _ b _ k3 _ (Ad aq q) (ap.quiet HK.out q) al (fun k' m c=>(WM D F E c).2.1) (zQ w3);have az:Hid (∀k' m,Fx k3 2 [2] k' m->m=1/\Ax k'/\Bo k'.st.obs k'.now 0 9=([(Ef,1,5)],0,I)):=fun k' m c=>WM D F E c;clear ag c ap aq D al E F q ad
 go_wp2_with fail
 refine ah.mono ?_;rintro e w4 ⟨k4,m4,rfl,c,ar,au⟩;obtain⟨rfl,-,am⟩:=az.out _ _ c;have ai:=ae.out w4 b _ k4 au ar am;clear ah c ar au am ae
 go_wp2_with fail
 refine ai.mono ?_;rintro e w5 ⟨v5,rfl,R,av⟩;have r:BL w5 (w5.alloc (Qf #[V ⟨#[97]⟩,O U 1,O U 5] 62)):=Af _ _;have aj:=ax.out _ v5 _ (R.below r) (zP w5);have ak:Hid (BL W (w5.alloc (Qf #[V ⟨#[97]⟩,O U 1,O U 5] 62))):=Ad av r;obtain⟨q5,c5,rfl⟩:=R.form;clear ai R av r
 go_wp2_with fail
 refine aj.mono ?_;rintro e w6 ⟨rfl,aw⟩;have HP:Hid (BL W w6):=ak.out.trans (aw.mono ak.out.size);clear aj aw;go_wp2;go_ret;exact⟨rfl,HP.out⟩
end
end
section
section
variable {a : Nat → Addr} {B : Nat} {EM : J → Prop}
theorem WO (K:AJ a B EM A0) {W:J} {kb:Nat} {vs:Z} {SP:Nat->Prop} {hd:ByteArray} {vi vf:Z} {k:Lk} (h:An W kb vs SP hd vi vf k) (hi:Ax k) :
  Qc prog 11 #[Qa (H ⟨kb,0,I⟩)] W fun e w'=> ∃vg,e=A (A9 k.now vg)/\Ai w' vg k.now.2.2.2.2.2.2/\FS W vg/\BL W w':=by
 obtain⟨pt,rfl⟩:=h.ptr K;have ad:=(Ju hi.now.fine).1;obtain⟨q,c,ak⟩:=h.fls.form;subst ak;have ae:Hid (∀X,BL W X->Qc prog 39 #[S q k.now.2.2.2.2.2.2.length c] X fun e w'=> ∃v',e=A v'/\Ai w' v' k.now.2.2.2.2.2.2/\FS X v'/\BL X w'):=fun X hb=>(Mu _ k.now.2.2.2.2.2.2 X (h.fls.below hb) (by omega)).mono fun e w' ⟨v',e1,e2,e3⟩=>⟨v',e1,(Gt e2).1,fun j hj=>(AF e2 hj).1,e3⟩;obtain⟨c0,-,-,-,c4,d,c6,c7,c8,c9,R,-⟩:=h.blk.cells;generalize k.now=x at *;obtain⟨m,n,o,p,r,t,f⟩:=x;generalize hL:f.length=L at *;clear h hi ad hL;have b:BL W (W.alloc (Qf #[O U 0,O U 0,O U 0,O U 0,O U 0,V ⟨#[]⟩,S I 0 0] 40)):=Af _ _;have D:Al (W.alloc (Qf #[O U 0,O U 0,O U 0,O U 0,O U 0,V ⟨#[]⟩,S I 0 0] 40)) W.heap.size AC (S I 0 0):=Al.new W AC (S I 0 0)
 go_enter func11,ntmps11
 go_upto_region 1 with fail
 generalize W.alloc (Qf #[O U 0,O U 0,O U 0,O U 0,O U 0,V ⟨#[]⟩,S I 0 0] 40)=u at b D ⊢;replace c0:=Aa b c0;replace c4:=Aa b c4;replace d:=Aa b d;replace c6:=Aa b c6;replace c7:=Aa b c7;replace c8:=Aa b c8;replace c9:=Aa b c9;replace R:=Aa b R;have af:=I2 c0
 go_wp2_with fail
 refine af.mono ?_;rintro e w1 ⟨rfl,e1⟩;rw[e1];have y:=Al.new u (m,n,o,p,r,t,f) (S q L c);have l:BL u (u.alloc (Qf #[O U m,O U n,O U o,O U p,O U r,V t,S q L c] 40)):=Af _ _;have T:¬u.heap.size=W.heap.size:=by have:=D.lt;omega
 go_upto_region 4 with fail
 generalize u.alloc (Qf #[O U m,O U n,O U o,O U p,O U r,V t,S q L c] 40)=WB at y l ⊢;have E:W.heap.size<=u.heap.size:=b.size;have ag:=D.below l;have F:BL W WB:=b.trans (l.mono E);generalize u.heap.size=xb at y T E ⊢;have ah:=ae.out WB F;obtain⟨r0,r1,r2,r3,r4,r5,r6⟩:=y.cells
 go_wp2_with fail
 refine ah.mono ?_;rintro e w5 ⟨v5,rfl,P,al,Q⟩;obtain⟨g,d,rfl⟩:=P.form;have z:=y.below Q;have ai:=ag.below Q;have s6:=z.cells.2.2.2.2.2.2;have sf:=z.fz;have Y:=z.setF6 (S g f.length d);have C:Al (w5.setCell ⟨xb,6,I⟩ (S g f.length d)) W.heap.size AC (S I 0 0):=Tc ai T 6 _;have N:=P.set_off (IZ z P) 6 (S g f.length d);have aa:BL W (w5.setCell ⟨xb,6,I⟩ (S g f.length d)):=(Ad F Q).setCell E _;have aj:Hid (FS W (S g f.length d)):=fun j hj=>Qe F.size (al j hj);generalize f.length=M at *
 go_upto_region 5 with fail
 generalize w5.setCell ⟨xb,6,I⟩ (S g M d)=W6 at Y C N aa ⊢;obtain⟨p0,p1,p2,p3,p4,p5,p6⟩:=Y.cells;obtain⟨y0,y1,y2,y3,y4,y5,y6,yf⟩:=C.zero;have i:=IZ C N;have ab:Hid (Ai (FR W6 W.heap.size (m,n,o,p,r,t,f) (S g M d)) (S g M d) f):=(((((((N.set_off i 0 _).set_off i 1 _).set_off i 2 _).set_off i 3 _).set_off i 4 _).set_off i 5 _).set_off i 6 _);obtain⟨u0,u1,u2,u3,u4,u5,u6⟩:=(C.set (m,n,o,p,r,t,f) (S g M d)).cells;have ac:=Mh (s:=(m,n,o,p,r,t,f)) (vf:=S g M d) aa (Nat.le_refl W.heap.size);unfold FR at u0 u1 u2 u3 u4 u5 u6 ac ab;go_wp2;refine bodyPost_ret (v:=.agg #[O U m,O U n,O U o,O U p,O U r,V t,S g M d]) (by simp[results,results11,go_sem,u0,u1,u2,u3,u4,u5,u6]) rfl ?_;exact⟨S g M d,rfl,ab.out,aj.out,ac⟩
end
theorem zS {k b:Lk} (h:Cu k b) (hi:Ax k):Bi b=Bi k:=by
 have c:k.now.1∈b.ids:=by
  rw[<-h.now];exact List.mem_of_getLast? h.lki.last
 have d:=(h.snaps _ c k.now hi.now).2;rw[(Ih h.lki).2,(Ih hi).2,h.now];unfold EY;rw[Gi (f:=BX b.st.obs) (g:=BX k.st.obs) fun x hx=>(IB (d x hx)).2,Gi (f:=Da b.st.obs) (g:=Da k.st.obs) fun x hx=>(IB (d x hx)).1]
section
variable {a : Nat → Addr} {B : Nat} {EM : J → Prop}
theorem BO.lkn {D:Nat} {W X w':J} {i:Nat} {l:Z} {m:Nat->Prop} {k:Lk} {x:Ak} {e:Qm} (h:BO X i l m k x e w') (s:D<=X.heap.size) (v:Below D W X) (y:D<=i) (b:∀j,m j->D<=j):∃kb' k' ev,e=A (Qb #[Qa (H ⟨kb',0,I⟩),ev])/\(ev=Qd\/∃t u,ev=Qk t u)/\Cv D w' kb' l k'/\GD k k' x ev/\Below D W w':=by
 obtain⟨kb',c,d,f,k',ev,rfl,n,o,p,q,⟨r,-⟩,g⟩:=h;exact⟨kb',k',ev,rfl,n,⟨q.elim (fun e=>by omega) (fun h=>by omega),c,d,f,r,g.lki.1,fun j hj=>(p j hj).elim (b j) (fun h=>by omega)⟩,g,v.trans (o.below s (fun j hj=>hj.elim (b j) (fun e=>by omega)))⟩
theorem zT (K:AJ a B EM A0) (r:∀X,EM X->Bg X a) {W X:J} (c:B<=W.heap.size) (s:EM X) (d:BL W X) {f:Nat} {g:Z} {k:Lk} (h:Cv W.heap.size X f g k) (i:k.spec.size<=30) (l:(A8 k.spec.data.toList).1=0) {m n:Z} {x:Ak} (v:Ne X m n x) :
  Qc prog 10 #[Qa (H ⟨f,0,I⟩),V k.spec,Dl x m n] X fun e w'=> ∃kb' k' ev,e=A (Qb #[Qa (H ⟨kb',0,I⟩),ev])/\(ev=Qd\/∃t u,ev=Qk t u)/\Cv W.heap.size w' kb' g k'/\GD k k' x ev/\BL W w':=by
 obtain⟨o,y,z,C,p,q,b⟩:=h;exact(yS K r s p q ⟨by omega,fun j hj=>Qe c (b j hj)⟩ i l v).mono fun e w' hp=>hp.lkn d.size d o b
theorem zU (K:AJ a B EM A0) (Q:∀X,EM X->Bg X a) {W X:J} (p:B<=W.heap.size) (R:EM X) (d:BL W X) {f:Z} {q:Nat->Prop} (r:A0 X f q Ff) (c:∀j,q j->W.heap.size<=j) (b:ByteArray) (hs:b.size<=30) :
  Qc prog 8 #[f,V b] X fun e w'=>(∃t u,e=A (Qb #[Qa I,Qk t u])/\BL W w')\/∃kb k,e=A (Qb #[Qa (H ⟨kb,0,I⟩),Qd])/\Cv W.heap.size w' kb f k/\BL W w'/\k.spec=b/\(A8 b.data.toList).1=0/\k.now=Dv (Ag (Br Ff))/\∀m,k.st.head=AG m->k.now.1<m:=by
 refine(Pu K Q R r WN (fun j hj=>Qe p (c j hj)) b (by omega) (Qh ⟨rfl,by decide⟩)).mono ?_;rintro e w' ⟨n,Y,rfl,⟨hn,rfl,-,z⟩|⟨rfl,g,kb,C,D,k,rfl,E,F,L,⟨M,-⟩,N,l,P,-,o⟩⟩
 ·obtain⟨i,rfl⟩:∃i,n=i+1:=⟨n-1,by omega⟩;exact Qh ⟨_,_,rfl,d.trans (z.below d.size c)⟩
 ·exact Qg ⟨kb,k,rfl,⟨Qe d.size L,g,C,D,M,P,fun j hj=>(F j hj).elim (c j) (Qe d.size)⟩,d.trans (E.below d.size c),N,l,(o rfl).2.1,fun m hm=>by obtain⟨-,s,⟨T,v,y⟩,-⟩:=o rfl;rw[s,Pt (hm.symm.trans v)];exact y⟩
structure CN (W X:J) (kb:Nat) (vs:Z) (SP:Nat->Prop) (k:Lk) (R:List Rw) (s:Sn) (vr:Z) (nb:Nat) (vg:Z):Prop where
 lek:W.heap.size<=kb
 pl:∃vi vf,An X kb vs SP k.st.head vi vf k
 lki:Ax k
 sp:∀j,SP j->W.heap.size<=j
 frame:BL W X
 rows:Ar X vr R
 snap:Al X nb s vg
 fls:Ai X vg s.2.2.2.2.2.2
 off:∀j,(R≠ []/\vr.ownBlock=H j)\/j=nb\/(s.2.2.2.2.2.2≠ []/\vg.ownBlock=H j)->¬SP j/\j≠kb
 low:W.heap.size<=nb
 now:k.now=s
 have_:Bi k=R
theorem zV {W c:J} {P:Nat->Prop} {b:Nat} {s:Sn} {v:Z} (h:Al W b s v) (d:Ac P W c) (f:¬P b):Al c b s v:=(d.block b h.lt f).trans h
theorem CN.quiet (K:AJ a B EM A0) {W X Y:J} {c:Nat} {d:Z} {f:Nat->Prop} {k:Lk} {R:List Rw} {s:Sn} {g:Z} {i:Nat} {j:Z} (h:CN W X c d f k R s g i j) (b:BL X Y):CN W Y c d f k R s g i j:=by
 obtain⟨l,m,n⟩:=h.pl;exact⟨h.lek,⟨l,m,n.quiet K b⟩,h.lki,h.sp,h.frame.trans (b.mono h.frame.size),h.rows.below b,h.snap.below b,h.fls.below b,h.off,h.low,h.now,h.have_⟩
theorem CN.op {W X w':J} {f:Nat} {q:Z} {r:Nat->Prop} {k:Lk} {R:List Rw} {s:Sn} {v:Z} {g:Nat} {y:Z} (h:CN W X f q r k R s v g y) {Q:Lk->Int->Prop} {G:Prop} {e:Qm} (K:AX X f q r k Q G e w') (E:∀k' m,Q k' m->m=0/\Cu k k'):∃SP' k' m ev,e=A (Qb #[O U m,ev])/\((∃t u,ev=Qk t u/\¬G)\/(ev=Qd/\m=0))/\CN W w' f q SP' k' R s v g y/\k'.spec=k.spec/\BL W w'/\X.heap.size<=w'.heap.size:=by
 obtain⟨SP',z,B,k',m,ev,rfl,c,C,⟨F,-⟩,D⟩:=K;have d:Cu k k':=by
  rcases D with⟨-,-,L,n,rfl⟩|⟨-,o⟩
  ·exact Cu.gw h.lki n
  ·exact(E _ _ o).2
 have l:∀j,(R≠ []/\v.ownBlock=H j)\/j=g\/(s.2.2.2.2.2.2≠ []/\y.ownBlock=H j)->¬(r j\/j=f):=fun j b e=>e.elim (h.off j b).1 (h.off j b).2;have i:=h.frame.trans (c.below h.frame.size (fun j b=>b.elim (h.sp j) (fun e=>by have:=h.lek;omega)));refine⟨SP',k',m,ev,rfl,?_,⟨h.lek,⟨z,B,F⟩,d.lki,fun j b=>(C j b).elim (h.sp j) (fun e=>by have:=h.frame.size;omega),i,h.rows.but c (fun hne j b=>l j (Qh ⟨hne,b⟩)),zV h.snap c (l g (Qg (Qh rfl))),JP h.fls (fun hne j b=>l j (Qg (Qg ⟨hne,b⟩))) c,fun j b=>⟨fun e=>(C j e).elim (h.off j b).1 (fun e=>?_),(h.off j b).2⟩,h.low,d.now.trans h.now,(zS d h.lki).trans h.have_⟩,d.spec,i,c.size⟩
 ·rcases D with⟨⟨t,u,p⟩,n,-⟩|⟨p,o⟩
  ·exact Qh ⟨t,u,p,n⟩
  ·exact Qg ⟨p,(E _ _ o).1⟩
 ·rcases b with b | rfl | b
  ·have:=mB h.rows b.1 b.2;omega
  ·have:=h.snap.lt;omega
  ·have:=JU h.fls b.1 b.2;omega
theorem zW (K:AJ a B EM A0) (F:∀X,EM X->Bg X a) {W X:J} (g:B<=W.heap.size) (L:EM X) {d:Nat} {l:Z} {M:Nat->Prop} {k:Lk} {R:List Rw} {s:Sn} {n:Z} {o:Nat} {p:Z} (h:CN W X d l M k R s n o p) (T:k.spec.size<=30) {i:Int} {b:List Rw} (hi:Dw i=true) (N:Gg k.spec b) (c:i<=s.2.2.2.2.1) {q:Z} (P:Ar X q b) (Y:b.length<=30) (v:∀r∈b,r.1.size<=30) :
  Qc prog 25 #[Qa (H ⟨d,0,I⟩),O U i,q] X fun e w'=> ∃SP' k',e=A (Qb #[O U 0,Qd])/\CN W w' d l SP' k' R s n o p/\k'.spec=k.spec:=by
 obtain⟨vi,vf,y⟩:=h.pl;rw[<-h.now]at c;refine(Nc K F L y h.lki ⟨by have:=h.lek;omega,fun j hj=>Qe g (h.sp j hj)⟩ (by omega) i P (by omega) v).mono fun e w' ho=>?_;obtain⟨SP',k',m,ev,rfl,z,C,D,-⟩:=h.op ho fun k' m hq=>by
  obtain⟨-,-,⟨-,E,rfl⟩|⟨Q,-⟩⟩:=hq
  ·exact⟨E,Cu.same h.lki⟩
  ·omega
 rcases z with⟨t,u,-,f⟩|⟨rfl,rfl⟩
 ·exact absurd ⟨hi,N,Qh c⟩ f
 ·exact⟨SP',k',rfl,C,D⟩
theorem zX (K:AJ a B EM A0) (C:∀X,EM X->Bg X a) {W X:J} (c:B<=W.heap.size) (D:EM X) {b:Nat} {d:Z} {E:Nat->Prop} {k:Lk} {R:List Rw} {s:Sn} {f:Z} {g:Nat} {l:Z} (h:CN W X b d E k R s f g l) {i:Int} {zs:List Int} (n:i<=s.2.2.2.2.1) {o:Z} (F:A3 X o zs) (p:zs.length<=1000) :
  Qc prog 27 #[Qa (H ⟨b,0,I⟩),O U i,o] X fun e w'=> ∃SP' k' m ev,e=A (Qb #[O U m,ev])/\((∃t u,ev=Qk t u)\/(ev=Qd/\m=0))/\CN W w' b d SP' k' R s f g l/\k'.spec=k.spec:=by
 obtain⟨M,N,q⟩:=h.pl;rw[<-h.now]at n;refine(Pw K C D q h.lki ⟨by have:=h.lek;omega,fun j hj=>Qe c (h.sp j hj)⟩ i F p).mono fun e w' ho=>?_;obtain⟨SP',k',m,ev,rfl,r,v,y,-⟩:=h.op ho fun k' m hq=>by
  obtain⟨-,-,-,⟨-,z,rfl⟩|⟨L,-⟩⟩:=hq
  ·exact⟨z,Cu.same h.lki⟩
  ·omega
 exact⟨SP',k',m,ev,rfl,r.imp_left fun ⟨t,u,e,_⟩=>⟨t,u,e⟩,v,y⟩
theorem WP (K:AJ a B EM A0) (j:∀X,EM X->Bg X a) {X:J} (l:EM X) {d:Nat} {m:Z} {n:Nat->Prop} {k:Lk} {o vf:Z} (p:An X d m n k.st.head o vf k) (hi:Ax k) :
  Qc prog 12 #[Qa (H ⟨d,0,I⟩),O U (-9223372036854775808),O U 9223372036854775807] X fun e w'=> ∃v',e=A (Qb #[v',Qd])/\Ar w' v' (Bi k)/\FQ X v'/\BL X w':=by
 refine(V3 K j l p hi (-9223372036854775808) 9223372036854775807).mono ?_;rintro e w' ⟨⟨v',q,rfl,b,c,g⟩,i⟩;have f:=(Ih hi).1;rw[f]at b c;have:=c.ok rfl;subst this;exact⟨v',rfl,b,i _ _ rfl,g⟩
theorem zY {k:Lk} (hi:Ax k):(Bi k).length<=20000:=by
 have:=(Wb (obs:=k.st.obs) (s:=k.now) (lo:=Bt) (hi:=Bu)).2;have:=(FY hi.now.fine).1;show (Bo k.st.obs k.now Bt Bu).1.length<=20000;omega
structure zZ (W X:J) (kb:Nat) (vs:Z) (k:Lk) (spec:ByteArray) (rows:List Rw) (i:Int):Prop where
 at_:Cv W.heap.size X kb vs k
 frame:BL W X
 sp_:k.spec=spec
 idx:Dw i=true
 app_:Gg spec rows
 le:i<=k.now.2.2.2.2.1
theorem za0 (K:AJ a B EM A0) (HL:∀X,EM X->Bg X a) {W X:J} (R:B<=W.heap.size) (hE:EM X) (E:BL W X) {F:Nat} {T:Z} {k:Lk} (h:Cv W.heap.size X F T k) {f:ByteArray} (g:k.spec=f) (aa:f.size<=30) (i:Int) {b:List Rw} {Y:Z} (hx:Ar X Y b) (ab:b.length<=30) (s:∀r∈b,r.1.size<=30) :
  Qc prog 25 #[Qa (H ⟨F,0,I⟩),O U i,Y] X fun e w'=> ∃m ev,e=A (Qb #[O U m,ev])/\BL W w'/\((∃t u,ev=Qk t u)\/(ev=Qd/\∃k',zZ W w' F T k' f b i)):=by
 obtain⟨L,SP,vi,vf,h2,v,C⟩:=h;refine(Nc K HL hE h2 v ⟨by omega,fun j hj=>Qe R (C j hj)⟩ (by rw[g];omega) i hx (by omega) s).mono fun e w' ho=>?_;obtain⟨q,y,z,k',m,ev,rfl,g1,g2,⟨M,-⟩,g4⟩:=ho;have o:=E.trans (g1.below E.size (fun j hj=>hj.elim (C j) (fun e=>by omega)));refine⟨m,ev,rfl,o,?_⟩;rcases g4 with⟨⟨t,u,rfl⟩,-⟩|⟨rfl,N,n,P⟩
 ·exact Qh ⟨t,u,rfl⟩
 ·rw[g]at n;have p:∀j,q j->W.heap.size<=j:=fun j hj=>(g2 j hj).elim (C j) (fun e=>by have:=E.size;omega);refine Qg ⟨rfl,k',?_⟩;rcases P with⟨Q,-,rfl⟩|⟨-,-,ds,D,l⟩
  ·exact⟨⟨L,q,y,z,M,v,p⟩,o,g,N,n,Q⟩
  ·have c:=l.all v (fun d hd'=>((Lm D (by rw[g];exact n) s).2 d hd').2.1);have hx:=(WD v l c (fun d hd'=>((Lm D (by rw[g];exact n) s).2 d hd').2.1) D (by rw[g];exact n)).2;exact⟨⟨L,q,y,z,M,c.lki,p⟩,o,c.spec.trans g,N,n,by omega⟩
end
end
end Go.Proofs.YtcllhobffhkafaaGreatDoor
