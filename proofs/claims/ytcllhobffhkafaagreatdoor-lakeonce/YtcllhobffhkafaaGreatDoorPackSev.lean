/- By an AI agent. -/
import Derived.Test.YtcllhobffhkafaaGreatDoorStpMem
set_option maxRecDepth 100000
set_option maxHeartbeats 16000000
open Go.Proofs.Tryz
open Bool renaming false->Qa,true->Qb,decide_and->Qu
open Go renaming Value->G,World->V,Calls->Qc,wp_loop_rounds->Qr,rounds_succ->Qs,bodyPost_ret->Qt
open Go.Ending renaming returned->Qd
open Go.IntKind renaming i64->I
open Go.IntWalk renaming i64_in->H
open Go.Proofs renaming intOf->A
open Go.RowKit renaming Hid->O
open Go.RowKit.Below renaming refl->Qj,trans->Qm,size->Qn,drew->Qo
open Go.Value renaming int->Z,slice->J,tuple->Qe,pointer->Qi,string->Qk
open List renaming getElem_mem->Qg,length_map->Ql,map_append->Qp,length_append->Qq,mem_singleton->Qv,map_set->Qw,take_succ_eq_append_getElem->Qx,filter_append->Qy
open Nat renaming le_trans->Qf,le_refl->Qh
open Option renaming none->U,some->S
namespace Go.Proofs.YtcllhobffhkafaaGreatDoor
open Go.RowKit Go.Extern.Stop Go.Stop Go.Extern Go.Sort Go.Shelf Go.Lib
section
variable {B b L cap : Nat} {D : List Nat} {w W : V}
theorem vG (h:Pm B b L cap D w W) (hk:Fy b D w) (hL:L<=10000) (p q:Nat) (h1:p+1<q) (h2:q<=L) :
  Qc prog 312 #[J (S ⟨b,0,U⟩) L cap,Z I (p:Nat),Z I ((p+1:Nat):Int),Z I (q:Nat),.func (.func 142) #[] #[]] W fun e w'=>e=Qd (Qe #[])/\Pm B b L cap D w w':=by
 have eg:=MZ;have g:O (Pm B b L cap D w W):=h;have HK:O (Fy b D w):=hk;have M:IntKind.i64.wrap (((p+1:Nat):Int)-(p:Int))=1:=by rw[H _ (by omega)];omega
 obtain⟨m,K⟩:∃m,p+1=m:=⟨_,rfl⟩;have F:O (p+1=m):=K;rw[K]at M h1 ⊢;clear h hk K
 go_enter func312,ntmps312
 go_upto_region 3 with fail
 go_loopw [10,11,12] (fun i j _ wr=> ∃s t:Nat,m<=s/\s<=t/\t<=q/\i=Z I (s:Nat)/\j=Z I (t:Nat)/\Pm B b L cap D w wr) (fun i j _ _=>(A j).toNat-(A i).toNat)
 case atStart=>exact ⟨m,q,Qh _,by omega,Qh _,rfl,rfl,g.out⟩
 case round =>
 clear g M;obtain⟨i,j,z,C,E,rfl,rfl,f⟩:=hrel;by_cases N:i<j
 case pos =>
  have P:(i:Int)<(j:Int):=by omega
  have a1:IntKind.i64.wrap ((i:Int)+(j:Int))=(i:Int)+(j:Int):=H _ (by omega);obtain⟨h,hh⟩:∃h,(i+j) / 2=h:=⟨_,rfl⟩;have l:O (i<=h/\h<j/\m<=i/\j<=q):=by show _/\_;omega
  have a2:((i:Int)+(j:Int)) / 2=(h:Int):=by omega
  obtain⟨y,Y,cy⟩:=f.at_ (i:=h) (by omega);obtain⟨x,hx,cx⟩:=f.at_ (i:=p) (by have:=F.out;omega);have n:=fun d (hV:BL wr d)=>HK.out y Y x hx d (f.2.trans (Ac.of_below hV) (fun _ h _=>h));have Q:O (∀d,BL wr d->Pm B b L cap D w d):=fun d hV=>f.below hV;have g2:(h:Int)<(L:Int):=by omega
  have g3:(0:Int)<=(h:Int):=by omega
  have g4:(p:Int)<(L:Int):=by have:=F.out;omega
  have g5:(0:Int)<=(p:Int):=by omega
  have a3:IntKind.i64.wrap ((h:Int)+1)=(h:Int)+1:=H _ (by omega);have R:BL wr wr:=Qj _ _;unfold pN at cy cx n;clear hh f hx Y C z E
  go_upto_region 5 with fail
  go_region_held3 (fun w'=>w'.cell? ⟨b,h,U⟩=S (Qi (S ⟨y,0,U⟩))/\w'.cell? ⟨b,p,U⟩=S (Qi (S ⟨x,0,U⟩))/\BL wr w')
   (first
    | (go_split_ands;with_reducible exact⟨Aa r (by assumption),Aa r (by assumption),Qm (by assumption) (r.mono (Qn (by assumption)))⟩)
    | (go_split_ands;exact⟨by go_keep,by go_keep,by assumption⟩)
    | (go_split_ands;exact⟨by go_keep,by go_keep,Qo (by assumption)⟩))
   (first
    | (go_at_call 142;(with_reducible refine(n _ (by go_split_ands;assumption)).mono ?_);rintro e wX ⟨zc,rfl,r⟩))
  all_goals go_split_ands
  have g:O (Pm B b L cap D w wX):=Q.out wX (by assumption);clear n R cy cx a2 a1 Q;by_cases hz:zc<0
  ·go_wp2;go_roundw
   case rel=>exact ⟨h+1,j,by have:=l.out;omega,by have:=l.out;omega,l.out.2.2.2,by go_num,rfl,g.out⟩
   case measure=>have:=l.out;simp[A];omega
  ·go_wp2;go_roundw
   case rel=>exact ⟨i,h,l.out.2.2.1,l.out.1,by have:=l.out;omega,rfl,rfl,g.out⟩
   case measure=>have:=l.out;simp[A];omega
 case neg =>
 have g:O (Pm B b L cap D w wr):=f;have ac:¬(i:Int)<(j:Int):=by omega
 have a4:IntKind.i64.wrap ((i:Int)-1)=(i:Int)-1:=H _ (by omega);have T:O (m<=i/\i<=q):=by show _/\_;omega
 clear f z C E N
 go_upto_region 9 with fail
 go_loopw [13] (fun k wr=> ∃c:Nat,c<i/\k=Z I (c:Nat)/\Pm B b L cap D w wr) (fun k _=>i-(A k).toNat)
 case atStart=>exact ⟨p,by have:=T.out;have:=F.out;omega,rfl,g.out⟩
 case round =>
 clear g;obtain⟨k,aa,rfl,f⟩:=hrel;have X:=T.out;by_cases o:k+1<i
 ·obtain⟨x,-,c1⟩:=f.at_ (i:=k) (by omega);obtain⟨y,-,c2⟩:=f.at_ (i:=k+1) (by omega);obtain⟨fz,c3,ab,h4⟩:=f.swap (by omega:k≠k+1) (by omega) (by omega) c1 c2;have g:O (Pm B b L cap D w (((wr.setCell ⟨b,k,U⟩ (pN y)).setCell ⟨b,k+1,U⟩ (pN x)).drew)):=h4;have P:(k:Int)<(i:Int)-1:=by omega
  have a5:IntKind.i64.wrap ((k:Int)+1)=((k+1:Nat):Int):=by rw[H _ (by omega)];omega
  have g2:((k+1:Nat):Int)<(L:Int):=by omega
  have g3:(0:Int)<=((k+1:Nat):Int):=by omega
  have g4:(k:Int)<(L:Int):=by omega
  have g5:(0:Int)<=(k:Int):=by omega
  have u:O (k+1<i/\k<k+1):=⟨o,by omega⟩;clear f h4 aa X o;generalize k+1=k1 at *;unfold pN at c1 c2 c3 g ab
  go_upto_region 11 with fail
  go_region
  go_wp2;go_roundw
  case rel=>exact ⟨k1,u.out.1,rfl,g.out⟩
  case measure=>have:=u.out;simp[A];omega
 ·have g:O (Pm B b L cap D w wr):=f;have P:¬(k:Int)<(i:Int)-1:=by omega
  clear f;go_wp2;refine Qt (v:=Qe #[]) (by simp[results,results312,go_sem]) rfl ?_;exact⟨rfl,g.out⟩
theorem vH (h:Pm B b L cap D w W) (hk:Fy b D w) (hL:L≤10000) (p m:Nat) (h1:p+1<m) (h2:m+1≤L) :
   Qc prog 312 #[J (S ⟨b,0,U⟩) L cap,Z I (p:Nat),Z I (m:Nat),Z I ((m+1:Nat):Int),.func (.func 142) #[] #[]] W fun e w'=>e=Qd (Qe #[])∧Pm B b L cap D w w':=by
 have eg:=MZ
 have o:O (Pm B b L cap D w W):=h
 have HK:O (Fy b D w):=hk
 obtain⟨n,hn⟩:∃n,m-p=n:=⟨_,rfl⟩
 have a0:IntKind.i64.wrap ((m:Int)-(p:Int))=(n:Int):=by rw[H _ (by omega)];omega
 have e0:((n:Int) == 1)=Qa:=by simp;omega
 have Q:IntKind.i64.wrap (((m+1:Nat):Int)-(m:Int))=1:=by rw[H _ (by omega)];omega
 obtain⟨q,P⟩:∃q,m+1=q:=⟨_,rfl⟩
 rw[P]at Q h2 ⊢
 have HQ:O (m+1=q∧p+1<m):=⟨P,h1⟩
 clear h hk hn P
 go_enter func312,ntmps312
 go_upto_region 15 with fail
 go_loopw [14,15,16] (fun i j _ wr=> ∃s t:Nat,s≤t∧t≤m∧i=Z I (s:Nat)∧j=Z I (t:Nat)∧Pm B b L cap D w wr) (fun i j _ _=>(A j).toNat-(A i).toNat)
 case atStart=>exact ⟨p,m,by omega,Qh _,rfl,rfl,o.out⟩
 case round =>
 clear o a0 Q e0
 obtain⟨i,j,K,M,rfl,rfl,l⟩:=hrel
 have F:=HQ.out
 by_cases R:i<j
 case pos =>
   have T:(i:Int)<(j:Int):=by omega
   have a1:IntKind.i64.wrap ((i:Int)+(j:Int))=(i:Int)+(j:Int):=H _ (by omega)
   obtain⟨h,E⟩:∃h,(i+j) / 2=h:=⟨_,rfl⟩
   have u:O (i≤h∧h<j∧j≤m):=by show _∧_;omega
   have a2:((i:Int)+(j:Int)) / 2=(h:Int):=by omega
   obtain⟨x,hx,cx⟩:=l.at_ (i:=h) (by omega)
   obtain⟨y,hy,cy⟩:=l.at_ (i:=m) (by omega)
   have r:=fun d (hV:BL wr d)=>HK.out y hy x hx d (l.2.trans (Ac.of_below hV) (fun _ h _=>h))
   have X:O (∀d,BL wr d→Pm B b L cap D w d):=fun d hV=>l.below hV
   have g2:(h:Int)<(L:Int):=by omega
   have g3:(0:Int)≤(h:Int):=by omega
   have g4:(m:Int)<(L:Int):=by omega
   have g5:(0:Int)≤(m:Int):=by omega
   have a3:IntKind.i64.wrap ((h:Int)+1)=(h:Int)+1:=H _ (by omega)
   have Y:BL wr wr:=Qj _ _
   unfold pN at cy cx r
   clear E l hx hy K M F
   go_upto_region 17 with fail
   go_region_held3 (fun w'=>w'.cell? ⟨b,m,U⟩=S (Qi (S ⟨y,0,U⟩))∧w'.cell? ⟨b,h,U⟩=S (Qi (S ⟨x,0,U⟩))∧BL wr w')
     (first
       | (go_split_ands;with_reducible exact⟨Aa C (by assumption),Aa C (by assumption),Qm (by assumption) (C.mono (Qn (by assumption)))⟩)
       | (go_split_ands;exact⟨by go_keep,by go_keep,by assumption⟩)
       | (go_split_ands;exact⟨by go_keep,by go_keep,Qo (by assumption)⟩))
     (first
       | (go_at_call 142;(with_reducible refine(r _ (by go_split_ands;assumption)).mono ?_);rintro e wX ⟨zc,rfl,C⟩))
   all_goals go_split_ands
   have o:O (Pm B b L cap D w wX):=X.out wX (by assumption)
   clear r Y cy cx a2 a1 X
   obtain⟨g,hg⟩:∃g,decide (zc<0)=g:=⟨_,rfl⟩
   cases g
   all_goals go_wp2
   all_goals first
     | (exfalso;rename_i E;rw[hg]at E;exact absurd E (by decide))
     | (go_roundw
        case rel=>first | exact⟨i,h,u.out.1,by have:=u.out;omega,rfl,rfl,o.out⟩ | exact⟨h+1,j,by have:=u.out;omega,u.out.2.2,by go_num,rfl,o.out⟩
        case measure=>have:=u.out;simp[A];omega)
 case neg =>
 have o:O (Pm B b L cap D w wr):=l
 have ae:¬(i:Int)<(j:Int):=by omega
 have HI:O (i≤m∧m<L∧L≤10000):=by show _∧_;omega
 clear l K M R F
 go_upto_region 21 with fail
 go_loopw [17] (fun k wr=> ∃c:Nat,i≤c∧c≤m∧k=Z I (c:Nat)∧Pm B b L cap D w wr) (fun k _=>(A k).toNat)
 case atStart=>exact ⟨m,HI.out.1,Qh _,rfl,o.out⟩
 case round =>
 clear o
 obtain⟨k,ab,ac,rfl,l⟩:=hrel
 have aa:=HI.out
 by_cases N:i<k
 · obtain⟨f,rfl⟩:∃c,k=c+1:=⟨k-1,by omega⟩
   obtain⟨x,-,c1⟩:=l.at_ (i:=f+1) (by omega)
   obtain⟨y,-,c2⟩:=l.at_ (i:=f) (by omega)
   obtain⟨fz,c3,ad,h4⟩:=l.swap (by omega:f+1≠f) (by omega) (by omega) c1 c2
   have o:O (Pm B b L cap D w (((wr.setCell ⟨b,f+1,U⟩ (pN y)).setCell ⟨b,f,U⟩ (pN x)).drew)):=h4
   have T:(i:Int)<((f+1:Nat):Int):=by omega
   have a5:IntKind.i64.wrap (((f+1:Nat):Int)-1)=(f:Int):=by rw[H _ (by omega)];omega
   have g2:((f+1:Nat):Int)<(L:Int):=by omega
   have g3:(0:Int)≤((f+1:Nat):Int):=by omega
   have g4:(f:Int)<(L:Int):=by omega
   have g5:(0:Int)≤(f:Int):=by omega
   have z:O (i≤f∧f≤m∧f<f+1):=by show _∧_;omega
   clear l h4 ab ac aa N
   generalize f+1=k1 at *
   unfold pN at c1 c2 c3 o ad
   go_upto_region 23 with fail
   go_region
   go_wp2
   go_roundw
   case rel=>exact ⟨f,z.out.1,z.out.2.1,rfl,o.out⟩
   case measure=>have:=z.out;simp[A];omega
 · have o:O (Pm B b L cap D w wr):=l
   have T:¬(i:Int)<(k:Int):=by omega
   clear l
   go_wp2
   refine Qt (v:=Qe #[]) (by simp[results,results312,go_sem]) rfl ?_
   exact⟨rfl,o.out⟩
def Na (B b L cap:Nat) (D:List Nat) (w:V) (n:Nat):Prop:= ∀W,Pm B b L cap D w W->∀p m q:Nat,p<m->m<q->q<=L->q-p<=n->Qc prog 312 #[J (S ⟨b,0,U⟩) L cap,Z I (p:Nat),Z I (m:Nat),Z I (q:Nat),.func (.func 142) #[] #[]] W fun e w'=>e=Qd (Qe #[])/\Pm B b L cap D w w'
theorem vI (h:Pm B b L cap D w W) (hk:Fy b D w) (hL:L≤10000) (k0:Nat) (IH:Na B b L cap D w k0) (p m q:Nat) (h1:p+1<m) (h2:m+1<q) (h3:q≤L) (h4:q-p≤k0+1) :
   Qc prog 312 #[J (S ⟨b,0,U⟩) L cap,Z I (p:Nat),Z I (m:Nat),Z I (q:Nat),.func (.func 142) #[] #[]] W fun e w'=>e=Qd (Qe #[])∧Pm B b L cap D w w':=by
 have eg:=MZ
 have r:O (Pm B b L cap D w W):=h
 have HK:O (Fy b D w):=hk
 have ae:O (Na B b L cap D w k0):=IH
 obtain⟨nx,ao⟩:∃n,m-p=n:=⟨_,rfl⟩
 obtain⟨ny,ap⟩:∃n,q-m=n:=⟨_,rfl⟩
 obtain⟨l,aj⟩:∃k,(p+q) / 2=k:=⟨_,rfl⟩
 obtain⟨n,hn⟩:∃n,l+m=n:=⟨_,rfl⟩
 have HQ:O (p+1<m∧m+1<q∧q≤L∧q-p≤k0+1∧2*l≤p+q∧p+q≤2*l+1∧l+m=n):=by show _∧_;omega
 have a0:IntKind.i64.wrap ((m:Int)-(p:Int))=(nx:Int):=by rw[H _ (by omega)];omega
 have e0:((nx:Int) == 1)=Qa:=by simp;omega
 have a9:IntKind.i64.wrap ((q:Int)-(m:Int))=(ny:Int):=by rw[H _ (by omega)];omega
 have e9:((ny:Int) == 1)=Qa:=by simp;omega
 have b1:IntKind.i64.wrap ((p:Int)+(q:Int))=(p:Int)+(q:Int):=H _ (by omega)
 have b2:((p:Int)+(q:Int)) / 2=(l:Int):=by omega
 have b3:IntKind.i64.wrap ((l:Int)+(m:Int))=(n:Int):=by rw[H _ (by omega)];omega
 obtain⟨v,F,ab⟩:∃v F:Nat,(l<m∧v+q=n∧F=l)∨(m≤l∧v=p∧F=m):=by
   by_cases h:l<m
   · exact⟨n-q,l,Or.inl ⟨h,by omega,rfl⟩⟩
   · exact⟨p,m,Or.inr ⟨by omega,rfl,rfl⟩⟩
 have Y:O ((l<m∧v+q=n∧F=l)∨(m≤l∧v=p∧F=m)):=ab
 obtain⟨pp,af⟩:∃k,n-1=k:=⟨_,rfl⟩
 have b4:IntKind.i64.wrap ((n:Int)-1)=(pp:Int):=by rw[H _ (by omega)];omega
 have ak:O (n-1=pp):=af
 have ar:n≤30000:=by omega
 clear h hk ao ap aj hn IH ab h4 af
 go_enter func312,ntmps312
 go_upto_if 140 with fail
 go_cut [20,21] from 140 to 146 (fun x y wx=>x=Z I (v:Int)∧y=Z I (F:Int)∧W=wx)
 case first =>
   rcases Y.out with⟨h1,h2,h3⟩|⟨h1,h2,h3⟩
   · have K:(l:Int)<(m:Int):=by omega
     have P:IntKind.i64.wrap ((n:Int)-(q:Int))=(v:Int):=by rw[H _ (by omega)];omega
     have aa:decide (l<m)=Qb:=decide_eq_true h1
     have HR:O ((F:Int)=(l:Int)):=by show _=_;omega
     first | rw[aa] | skip
     clear h1 h2 h3 a0 a9 b1 b2 b3 b4 e0 e9
     go_wp2
     go_meet
     case rel=>exact ⟨rfl,by rw[HR.out],rfl⟩
   · have K:¬(l:Int)<(m:Int):=by omega
     have aa:decide (l<m)=Qa:=decide_eq_false (by omega)
     have HR:O ((F:Int)=(m:Int)∧(v:Int)=(p:Int)):=⟨by omega,by omega⟩
     first | rw[aa] | skip
     clear h1 h2 h3 a0 a9 b1 b2 b3 b4 e0 e9
     go_wp2
     go_meet
     case rel=>exact ⟨by rw[HR.out.2],by rw[HR.out.1],rfl⟩
 case rest =>
 obtain⟨rfl,rfl,rfl⟩:=hcut
 go_upto_region 33 with fail
 clear a0 a9 b1 b2 b3 b4 e0 e9
 go_loopw [20,21,23] (fun i j _ wr=> ∃s t:Nat,v≤s∧s≤t∧t≤F∧i=Z I (s:Int)∧j=Z I (t:Int)∧Pm B b L cap D w wr) (fun i j _ _=>(A j).toNat-(A i).toNat)
 case atStart=>exact ⟨v,F,by omega,by have:=HQ.out;rcases Y.out with h | h<;>omega,by omega,rfl,rfl,r.out⟩
 case round =>
 clear r
 obtain⟨s,t,ag,ah,ai,rfl,rfl,z⟩:=hrel
 have hq:=HQ.out
 by_cases al:s<t
 case pos =>
   have K:(s:Int)<(t:Int):=by omega
   obtain⟨c,M⟩:∃c,(s+t) / 2=c:=⟨_,rfl⟩
   obtain⟨d,hd⟩:∃d,pp-c=d:=⟨_,rfl⟩
   have am:p≤c∧c<m∧m≤d∧d<q∧s≤c∧c<t∧d+c=pp:=by
     have g:=ak.out
     rcases Y.out with h | h<;>omega
   have a1:IntKind.i64.wrap ((s:Int)+(t:Int))=(s:Int)+(t:Int):=H _ (by omega)
   have a2:((s:Int)+(t:Int)) / 2=(c:Int):=by omega
   have a4:IntKind.i64.wrap ((pp:Int)-(c:Int))=(d:Int):=by rw[H _ (by omega)];omega
   obtain⟨y,hy,cy⟩:=z.at_ (i:=d) (by omega)
   obtain⟨x,hx,cx⟩:=z.at_ (i:=c) (by omega)
   have Q:=fun f (hV:BL wr f)=>HK.out y hy x hx f (z.2.trans (Ac.of_below hV) (fun _ h _=>h))
   have HS:O (∀f,BL wr f→Pm B b L cap D w f):=fun f hV=>z.below hV
   have P:(c:Int)<(L:Int):=by omega
   have g3:(0:Int)≤(c:Int):=by omega
   have g4:(d:Int)<(L:Int):=by omega
   have g5:(0:Int)≤(d:Int):=by omega
   have a3:IntKind.i64.wrap ((c:Int)+1)=(c:Int)+1:=H _ (by omega)
   have an:BL wr wr:=Qj _ _
   have R:O (s≤c∧c<t∧v≤s∧t≤F):=by show _∧_;omega
   unfold pN at cy cx Q
   clear M hd am z hx hy ag ah ai hq
   go_upto_region 35 with fail
   go_region_held3 (fun w'=>w'.cell? ⟨b,d,U⟩=S (Qi (S ⟨y,0,U⟩))∧w'.cell? ⟨b,c,U⟩=S (Qi (S ⟨x,0,U⟩))∧BL wr w')
     (first
       | (go_split_ands;with_reducible exact⟨Aa ad (by assumption),Aa ad (by assumption),Qm (by assumption) (ad.mono (Qn (by assumption)))⟩)
       | (go_split_ands;exact⟨by go_keep,by go_keep,by assumption⟩)
       | (go_split_ands;exact⟨by go_keep,by go_keep,Qo (by assumption)⟩))
     (first
       | (go_at_call 142;(with_reducible refine(Q _ (by go_split_ands;assumption)).mono ?_);rintro e wX ⟨zc,rfl,ad⟩))
   all_goals go_split_ands
   have r:O (Pm B b L cap D w wX):=HS.out wX (by assumption)
   clear Q an cy cx a2 a1 HS
   obtain⟨g,u⟩:∃g,decide (zc<0)=g:=⟨_,rfl⟩
   cases g
   all_goals go_wp2
   all_goals first
     | (exfalso;rename_i hh;rw[u]at hh;exact absurd hh (by decide))
     | (go_roundw
        case rel=>first | exact⟨s,c,R.out.2.2.1,R.out.1,by have:=R.out;omega,rfl,rfl,r.out⟩ | exact⟨c+1,t,by have:=R.out;omega,by have:=R.out;omega,R.out.2.2.2,by go_num,rfl,r.out⟩
        case measure=>have:=R.out;simp[A];omega)
 case neg =>
 obtain rfl:s=t:=by omega
 obtain⟨o,aq⟩:∃k,n-s=k:=⟨_,rfl⟩
 have N:O (p≤s∧s≤m∧m≤o∧o≤q∧s≤l∧l≤o∧q≤L∧(s<l→p<l)∧l-p≤k0∧q-l≤k0):=by
   show _∧_
   rcases Y.out with h | h<;>omega
 have r:O (Pm B b L cap D w wr):=z
 have b5:IntKind.i64.wrap ((n:Int)-(s:Int))=(o:Int):=by
   have:=N.out
   rw[H _ (by omega)];omega
 have au:¬(s:Int)<(s:Int):=by omega
 clear z ag ah ai hq al aq
 -- each of the three tests,decided
 go_upto_region 39 with fail
 go_cut [185] from 178 to 184 (fun x wx=>x= .bool (decide (s<m) && decide (m<o))∧wr=wx)
 case first =>
   by_cases C:s<m
   · have K:(s:Int)<(m:Int):=by omega
     have T:decide (s<m)=Qb:=decide_eq_true C
     by_cases E:m<o
     · have P:(m:Int)<(o:Int):=by omega
       have X:decide (m<o)=Qb:=decide_eq_true E
       go_wp2
       go_meet
       case rel=>exact ⟨by first | rfl | (simp;omega),rfl⟩
     · have P:¬(m:Int)<(o:Int):=by omega
       have X:decide (m<o)=Qa:=decide_eq_false E
       go_wp2
       go_meet
       case rel=>exact ⟨by first | rfl | (simp;omega),rfl⟩
   · have K:¬(s:Int)<(m:Int):=by omega
     have T:decide (s<m)=Qa:=decide_eq_false C
     go_wp2
     go_meet
     case rel=>exact ⟨by first | rfl | (simp;omega),rfl⟩
 case rest =>
 obtain⟨rfl,ac⟩:=hcut
 subst ac
 go_upto_if 185 with fail
 go_cut [185] from 186 to 191 (fun _ wx=>Pm B b L cap D w wx)
 case first =>
   by_cases u:s<m∧m<o
   · have M:=vF r.out hL s m o (.func (.func 142) #[] #[]) u.1 u.2 (by have:=N.out;omega)
     have K:(s:Int)<(m:Int):=by omega
     have P:(m:Int)<(o:Int):=by omega
     have T:decide (s<m)=Qb:=decide_eq_true u.1
     have X:decide (m<o)=Qb:=decide_eq_true u.2
     clear u r
     go_wp2_with fail
     refine M.mono ?_
     rintro e w1 ⟨rfl,z⟩
     have r:O (Pm B b L cap D w w1):=z
     clear M z
     go_wp2
     go_meet
     case rel=>exact r.out
   · have d0:(decide (s<m) && decide (m<o))=Qa:=by
       rw[←Qu]
       exact decide_eq_false u
     rw[d0]
     clear u
     go_wp2
     go_meet
     case rel=>exact r.out
 case rest =>
 replace r:O (Pm B b L cap D w wc):=hcut
 clear hcut
 generalize wc=w2 at *
 go_upto_region 41 with fail
 go_cut [199] from 192 to 198 (fun x wx=>x= .bool (decide (p<s) && decide (s<l))∧w2=wx)
 case first =>
   by_cases C:p<s
   · have K:(p:Int)<(s:Int):=by omega
     have T:decide (p<s)=Qb:=decide_eq_true C
     by_cases E:s<l
     · have P:(s:Int)<(l:Int):=by omega
       have X:decide (s<l)=Qb:=decide_eq_true E
       go_wp2
       go_meet
       case rel=>exact ⟨by first | rfl | (simp;omega),rfl⟩
     · have P:¬(s:Int)<(l:Int):=by omega
       have X:decide (s<l)=Qa:=decide_eq_false E
       go_wp2
       go_meet
       case rel=>exact ⟨by first | rfl | (simp;omega),rfl⟩
   · have K:¬(p:Int)<(s:Int):=by omega
     have T:decide (p<s)=Qa:=decide_eq_false C
     go_wp2
     go_meet
     case rel=>exact ⟨by first | rfl | (simp;omega),rfl⟩
 case rest =>
 obtain⟨rfl,ac⟩:=hcut
 subst ac
 go_upto_if 199 with fail
 go_cut [199] from 200 to 205 (fun _ wx=>Pm B b L cap D w wx)
 case first =>
   by_cases u:p<s∧s<l
   · have M:=ae.out w2 r.out p s l u.1 u.2 (by have:=N.out;omega) (by have:=N.out;omega)
     have K:(p:Int)<(s:Int):=by omega
     have P:(s:Int)<(l:Int):=by omega
     have T:decide (p<s)=Qb:=decide_eq_true u.1
     have X:decide (s<l)=Qb:=decide_eq_true u.2
     clear u r
     go_wp2_with fail
     refine M.mono ?_
     rintro e w1 ⟨rfl,z⟩
     have r:O (Pm B b L cap D w w1):=z
     clear M z
     go_wp2
     go_meet
     case rel=>exact r.out
   · have d0:(decide (p<s) && decide (s<l))=Qa:=by
       rw[←Qu]
       exact decide_eq_false u
     rw[d0]
     clear u
     go_wp2
     go_meet
     case rel=>exact r.out
 case rest =>
 replace r:O (Pm B b L cap D w wc):=hcut
 clear hcut
 generalize wc=w3 at *
 by_cases C:l<o
 case neg =>
   have K:¬(l:Int)<(o:Int):=by omega
   have T:decide (l<o)=Qa:=decide_eq_false C
   go_wp2
   go_end0
   exact⟨rfl,r.out⟩
 case pos =>
 have K:(l:Int)<(o:Int):=by omega
 have T:decide (l<o)=Qb:=decide_eq_true C
 by_cases E:o<q
 · have M:=ae.out w3 r.out l o q C E (by have:=N.out;omega) (by have:=N.out;omega)
   have P:(o:Int)<(q:Int):=by omega
   have X:decide (o<q)=Qb:=decide_eq_true E
   clear r C E
   go_wp2_with fail
   refine M.mono ?_
   rintro e w1 ⟨rfl,z⟩
   have r:O (Pm B b L cap D w w1):=z
   clear M z
   go_wp2
   go_end0
   exact⟨rfl,r.out⟩
 · have P:¬(o:Int)<(q:Int):=by omega
   have X:decide (o<q)=Qa:=decide_eq_false E
   go_wp2
   go_end0
   exact⟨rfl,r.out⟩
theorem VN (c:Fy b D w) (d:L<=10000):∀n,Na B b L cap D w n
 | 0=>fun _ _ p m q h1 h2 h3 h4=>by omega
 | n+1=>fun W h p m q h1 h2 h3 h4=>by
  have f:=VN c d n;by_cases g:p+1=m
  ·subst g;exact vG h c d p q h2 h3
  ·by_cases i:m+1=q
   ·subst i;exact vH h c d p m (by omega) h3
   ·exact vI h c d n f p m q (by omega) (by omega) h3 h4
end
section
variable {B b L cap : Nat} {D : List Nat} {w W : V}
theorem vJ (d:Pm B b L cap D w w) (E:Fy b D w) (F:L<=10000) :
  Qc prog 229 #[J (S ⟨b,0,U⟩) L cap,Z I (L:Int),.func (.func 142) #[] #[]] w fun e w'=>e=Qd (Qe #[])/\Pm B b L cap D w w':=by
 have K:O (Fy b D w):=E;have M:O (Na B b L cap D w L):=VN E F L;have f:O (Pm B b L cap D w w):=d;clear E d
 go_enter func229,ntmps229
 go_wp2
 go_loopw [7,8] (fun x y wr=> ∃a:Nat,a<=L/\x=Z I (a:Int)/\y=Z I ((a+20:Nat):Int)/\Pm B b L cap D w wr) (fun x _ _=>L-(A x).toNat)
 case atStart=>exact ⟨0,by omega,rfl,rfl,f.out⟩
 case round =>
 clear f;obtain⟨a,P,rfl,rfl,d⟩:=hrel;obtain⟨c,o⟩:∃c,a+20=c:=⟨_,rfl⟩;rw[o];by_cases n:c<=L
 case pos =>
  have i:=VM d K.out F a c (by omega) n;have u:(c:Int)<=(L:Int):=by omega
  have Q:IntKind.i64.wrap ((c:Int)+20)=((c+20:Nat):Int):=by rw[H _ (by omega)];omega
  have R:O (a+20=c):=o;clear o d
  go_wp2_with fail
  refine i.mono ?_;rintro e Y ⟨rfl,d⟩;have f:O (Pm B b L cap D w Y):=d;clear i d;go_wp2;go_roundw
  case rel=>exact ⟨c,n,rfl,rfl,f.out⟩
  case measure=>have:=R.out;simp[A];omega
 case neg =>
 have i:=VM d K.out F a L P (Qh _);have u:¬(c:Int)<=(L:Int):=by omega
 clear o d
 go_wp2_with fail
 refine i.mono ?_;rintro e w2 ⟨rfl,d⟩;have f:O (Pm B b L cap D w w2):=d;clear i d n u;go_wp2
 go_loopw [6,7,8,9] (fun x _ _ _ wr=> ∃z:Nat,0<z/\z<=2*L+20/\x=Z I (z:Int)/\Pm B b L cap D w wr) (fun x _ _ _ _=>L-(A x).toNat)
 case atStart=>exact ⟨20,by omega,by omega,rfl,f.out⟩
 case round =>
 clear f;obtain⟨z,ac,ad,rfl,d⟩:=hrel;have f:O (Pm B b L cap D w wr):=d;clear d;by_cases n:z<L
 case neg =>
  have u:¬(z:Int)<(L:Int):=by omega
  go_wp2;go_end0;exact⟨rfl,f.out⟩
 case pos =>
 have u:(z:Int)<(L:Int):=by omega
 obtain⟨g,l⟩:∃k,2*z=k:=⟨_,rfl⟩;have N:O (2*z=g):=l;have Q:IntKind.i64.wrap (2*(z:Int))=(g:Int):=by rw[H _ (by omega)];omega
 have aa:IntKind.i64.wrap ((z:Int)*2)=(g:Int):=by rw[H _ (by omega)];omega
 clear l
 go_upto_region 9 with fail
 go_loopw [7,8] (fun x y wr=> ∃a:Nat,a<=L/\x=Z I (a:Int)/\y=Z I ((a+g:Nat):Int)/\Pm B b L cap D w wr) (fun x _ _=>L-(A x).toNat)
 case atStart=>exact ⟨0,by omega,rfl,by rw[Nat.zero_add],f.out⟩
 case round =>
 clear f;obtain⟨q,X,rfl,rfl,d⟩:=hrel;have l:=N.out;obtain⟨m,p⟩:∃c,q+g=c:=⟨_,rfl⟩;obtain⟨r,t⟩:∃c,q+z=c:=⟨_,rfl⟩;have j:O (q+g=m/\0<g/\g<=2*L+20/\z<g):=by show _/\_;omega
 have ab:IntKind.i64.wrap ((q:Int)+(z:Int))=(r:Int):=by rw[H _ (by omega)];omega
 rw[p];by_cases s:m<=L
 ·have i:=M.out wr d q r m (by omega) (by omega) s (by omega);have T:(m:Int)<=(L:Int):=by omega
  have a3:IntKind.i64.wrap ((m:Int)+(g:Int))=((m+g:Nat):Int):=by rw[H _ (by omega)];omega
  clear d l p t
  go_wp2_with fail
  refine i.mono ?_;rintro e C ⟨rfl,d⟩;have f:O (Pm B b L cap D w C):=d;clear i d;go_wp2;go_roundw
  case rel=>exact ⟨m,s,rfl,rfl,f.out⟩
  case measure=>have:=j.out;simp[A];omega
 ·have T:¬(m:Int)<=(L:Int):=by omega
  by_cases v:r<L
  ·have i:=M.out wr d q r L (by omega) v (Qh _) (by omega);have W:(r:Int)<(L:Int):=by omega
   clear d l p t v
   go_wp2_with fail
   refine i.mono ?_;rintro e C ⟨rfl,d⟩;have f:O (Pm B b L cap D w C):=d;clear i d;go_wp2;go_roundw
   case rel=>exact ⟨g,j.out.2.1,j.out.2.2.1,rfl,f.out⟩
   case measure=>have:=j.out;simp[A];omega
  ·have f:O (Pm B b L cap D w wr):=d;have W:¬(r:Int)<(L:Int):=by omega
   clear d l p t v;go_wp2;go_roundw
   case rel=>exact ⟨g,j.out.2.1,j.out.2.2.1,rfl,f.out⟩
   case measure=>have:=j.out;simp[A];omega
theorem vK (d:CB B w b L cap D) (f:Fy b D w) (i:L<=10000) :
  Qc prog 141 #[J (S ⟨b,0,U⟩) L cap,.func (.func 142) #[] #[]] w fun e w'=>e=Qd (Qe #[])/\Pm B b L cap D w w':=by
 have c:=vJ (Pm.start d) f i;clear f d
 go_enter func141,ntmps141
 go_wp2_with fail
 refine c.mono ?_;rintro e j ⟨rfl,g⟩;go_wp2;go_end0;exact⟨rfl,g⟩
end
theorem vL (B:Nat) (f:Fl) (v:G) (xs:List Gx) (w:V) (K:BA B w v xs) (hB:B<=w.heap.size) (av:PB xs) (h2:0<=f.2.2.1/\f.2.2.1<=1000000) (hl:xs.length<=900) (aw:∀x∈xs,x.2.2.2.2.length<=900) :
  Qc prog 140 #[v,A1 f] w fun e w'=> ∃v' xs',e=Qd v'/\BA B w' v' xs'/\xs'.map (·.2.2)=Cl f (xs.map (·.2.2))/\Below B w w':=by
 have M:BL w (w.alloc (.cells #[Qk f.1,Qk f.2.1,Z I f.2.2.1,Z I f.2.2.2.1,Z I f.2.2.2.2.1,Z I f.2.2.2.2.2] 77)):=Af _ _;have N:=Az.new w f;have ad:=K.below M;have ae:=vC B f w.heap.size v xs _ ad N av h2 (by omega);obtain⟨q,ay,hv⟩:=CY K.row;have D:O _:=av;have E:O _:=aw;obtain⟨L,hL⟩:∃L,xs.length=L:=⟨_,rfl⟩;have HL:O _:=hL;rw[hL]at hv;subst hv;clear K av aw;unfold A1
 go_enter func140,ntmps140
 go_upto_region 1 with fail
 generalize w.alloc (.cells #[Qk f.1,Qk f.2.1,Z I f.2.2.1,Z I f.2.2.2.1,Z I f.2.2.2.2.1,Z I f.2.2.2.2.2] 77)=WA at M N ad ae ⊢;generalize w.heap.size=fb at N ae ⊢
 go_wp2_with fail
 refine ae.mono ?_;rintro e o ⟨i,rfl,hi,ab⟩;clear ae;have z:=ad.below ab;have C:=N.below ab;have ag:=Qf hB M.size;have t:=Qf ag ab.size;have ah:Below B w o:=(M.mono hB).trans (ab.mono ag);clear M N ad ab ag;rcases hi with⟨rfl,a0⟩|⟨n,hn,rfl,ar,au,-⟩
 ·have ai:O (Cl f (xs.map (·.2.2))=xs.map (·.2.2)++ [CA f (f.2.1,0, [])]):=VI f (by rw[List.any_map];exact a0);clear a0;have z1:=C.cells.2.1;obtain⟨v2,X,hr,u,F⟩:=z.more t f.2.1 rfl rfl (by omega);have a1:Az X fb f:=(F.block fb (lt_of_block C) (fun e=>by
   obtain⟨_,_,c,e2⟩:=AF z.row e;exact Hb C e2 (by decide) rfl)).trans C
  have aj:B<=X.heap.size:=Qf t F.size;have a2:Below B w X:=ah.trans (F.below t (fun k r=>(AF z.row r).1));have ax:(Builtin.append_ #[198,198] 198 #[J q L ay,J (S ⟨o.heap.size+1,0,U⟩) 1 1]).run prog ((o.alloc (.cells #[Qk f.2.1,Z I 0,J U 0 0] 205)).alloc (.cells #[Qi (S ⟨o.heap.size,0,U⟩)] 202))= .ok v2 X:=hr;have ak:O (∀y∈xs++ [(o.heap.size,J U 0 0,((f.2.1,0, []):Gp))],(0<=y.2.2.2.1/\y.2.2.2.1<=1000000)/\y.2.2.2.2.length<=1000):=fun y P=>by
   rw[List.mem_append,Qv]at P;rcases P with P | rfl
   ·exact⟨D.out y P,by have:=E.out y P;omega⟩
   ·exact⟨⟨by simp,by simp⟩,by simp⟩
  have al:O (((xs++ [(o.heap.size,J U 0 0,((f.2.1,0, []):Gp))]).map (·.2.2)).set L (CA f (f.2.1,0, []))=Cl f (xs.map (·.2.2))):=by
   show _=_;rw[ai.out,Qp];have e:L=(xs.map (·.2.2)).length:=by rw[Ql,HL.out]
   rw[e,List.set_append_right _ _ (Qh _)];simp
  have hnx:L<(xs++ [(o.heap.size,J U 0 0,((f.2.1,0, []):Gp))]).length:=by rw[Qq,HL.out];simp
  have P:(xs++ [(o.heap.size,J U 0 0,((f.2.1,0, []):Gp))])[L]'hnx=(o.heap.size,J U 0 0,(f.2.1,0, [])):=by
   have e:L=xs.length:=HL.out.symm;subst e;simp
  have af:(xs++ [(o.heap.size,J U 0 0,((f.2.1,0, []):Gp))]).length=L+1:=by rw[Qq,HL.out];rfl
  generalize a3:xs++ [(o.heap.size,J U 0 0,((f.2.1,0, []):Gp))]=s at *;have Q:O ((s.map (·.2.2)).set L (CA f s[L].2.2)=Cl f (xs.map (·.2.2))):=by
   show _=_;rw[P];exact al.out
  have R:O (∀x∈s,0<=x.2.2.2.1/\x.2.2.2.1<=1000000):=fun x K=>(ak.out x K).1;have T:O (∀x∈s,x.2.2.2.2.length<=1000):=fun x K=>(ak.out x K).2;obtain⟨q2,c2,am⟩:=CY u.row;rw[af]at am;obtain⟨L2,az⟩:∃k,L+1=k:=⟨_,rfl⟩;rw[az]at am;have a4:(L:Int)<(L2:Int):=by omega
  have a5:(0:Int)<=(L:Int):=by omega
  subst am;clear hr a3 F ai al D E ak P af az z ah C t
  go_upto_region 5 with(at_builtin;refine wpList_append_run (by rfl) _ _ _ (by rfl) _ _ _ (by rfl) (by rfl) ax ?_)
  clear ax;have d:BL X X.drew:=(Qj _ _).drew;have p:=u.below d;obtain⟨b,hq,hc⟩:=p.at_ (fun e=>by rw[e]at hnx;simp at hnx);obtain⟨b',Y,aa⟩:=u.at_ (fun e=>by rw[e]at hnx;simp at hnx);obtain rfl:b'=b:=by
   rw[hq]at Y;injection Y with e;injection e with e1 e2 e3;exact e1.symm
  subst hq;have c0:=hc _ hnx;have W:=aa _ hnx;have l:=p.cell _ (Qg hnx);have m:=VK B f s[L].2.2 s[L].1 s[L].2.1 X.drew l.1 l.2.2 (Qf aj d.size) (R.out _ (Qg _)) h2 (T.out _ (Qg _));have g:O (∀w',Lh B X.drew s[L].1 s[L].2.1 (CA f s[L].2.2) w'->∃xs',BA B w' (J (S ⟨b',0,U⟩) L2 c2) xs'/\xs'.map (·.2.2)=Cl f (xs.map (·.2.2))/\Below B w w'):=fun w' hp=>by
   obtain⟨v2,u⟩:=p.took hnx hp;refine⟨_,u,?_,?_⟩
   ·rw[Qw];exact Q.out
   ·obtain⟨_,_,_,an,_⟩:=hp;exact(a2.trans (d.mono aj)).trans (an.below (Qf aj d.size) (fun k r=>by
     rcases r with r | r
     ·rw[r];exact l.2.1
     ·exact(AF l.2.2 r).1))
  generalize CA f s[L].2.2=TG at m g;generalize s[L]=x at c0 W m g;unfold EW at c0 W;unfold A1 at m;obtain⟨d0,d1,d2,d3,d4,d5,-⟩:=a1.cells;have s0:=Aa d d0;have s1:=Aa d d1;have s2:=Aa d d2;have s3:=Aa d d3;have s4:=Aa d d4;have s5:=Aa d d5;clear p hc aa l hnx d Q R T
  first
   | (go_region_with (first | (go_at_call 228;refine m.mono ?_;rintro e w9 ⟨rfl,ac⟩)))
   | fail
  all_goals obtain⟨xs',ao,ap,aq⟩:=g.out w9 ac
  all_goals clear m g ac
  all_goals go_wp2
  all_goals go_ret
  all_goals exact⟨_,xs',rfl,ao,ap,aq⟩
 ·have hnx:n<xs.length:=hn;have Q:O ((xs.map (·.2.2)).set n (CA f xs[n].2.2)=Cl f (xs.map (·.2.2))):=by
   show _=_;rw[VJ f (gs:=xs.map (·.2.2)) (n:=n) (by simpa using hn) (by simpa using ar) (fun j hj hjn=>by have:=au j (by simpa using hj) hjn;simpa using this)];simp
  have R:O (∀x∈xs,0<=x.2.2.2.1/\x.2.2.2.1<=1000000):=D.out;have T:O (∀x∈xs,x.2.2.2.2.length<=1000):=fun x K=>by have:=E.out x K;omega
  have a4:(n:Int)<(L:Int):=by rw[HL.out]at hn;omega
  have a5:(0:Int)<=(n:Int):=by omega
  clear ar au D E
  go_upto_region 5 with fail
  have d:BL o o.drew:=(Qj _ _).drew;have p:=z.below d;obtain⟨b,hq,hc⟩:=p.at_ (fun e=>by rw[e]at hnx;simp at hnx);obtain⟨b',Y,aa⟩:=z.at_ (fun e=>by rw[e]at hnx;simp at hnx);obtain rfl:b'=b:=by
   rw[hq]at Y;injection Y with e;injection e with e1 e2 e3;exact e1.symm
  subst hq;have c0:=hc _ hnx;have W:=aa _ hnx;have l:=p.cell _ (Qg hnx);have m:=VK B f xs[n].2.2 xs[n].1 xs[n].2.1 o.drew l.1 l.2.2 (Qf t d.size) (R.out _ (Qg _)) h2 (T.out _ (Qg _));have g:O (∀w',Lh B o.drew xs[n].1 xs[n].2.1 (CA f xs[n].2.2) w'->∃xs',BA B w' (J (S ⟨b',0,U⟩) L ay) xs'/\xs'.map (·.2.2)=Cl f (xs.map (·.2.2))/\Below B w w'):=fun w' hp=>by
   obtain⟨v2,u⟩:=p.took hnx hp;refine⟨_,u,?_,?_⟩
   ·rw[Qw];exact Q.out
   ·obtain⟨_,_,_,an,_⟩:=hp;exact(ah.trans (d.mono t)).trans (an.below (Qf t d.size) (fun k r=>by
     rcases r with r | r
     ·rw[r];exact l.2.1
     ·exact(AF l.2.2 r).1))
  generalize CA f xs[n].2.2=TG at m g;generalize xs[n]=x at c0 W m g;unfold EW at c0 W;unfold A1 at m;obtain⟨d0,d1,d2,d3,d4,d5,-⟩:=C.cells;have s0:=Aa d d0;have s1:=Aa d d1;have s2:=Aa d d2;have s3:=Aa d d3;have s4:=Aa d d4;have s5:=Aa d d5;clear p hc aa l hnx d Q R T
  first
   | (go_region_with (first | (go_at_call 228;refine m.mono ?_;rintro e w9 ⟨rfl,ac⟩)))
   | fail
  all_goals obtain⟨xs',ao,ap,aq⟩:=g.out w9 ac
  all_goals clear m g ac
  all_goals go_wp2
  all_goals go_ret
  all_goals exact⟨_,xs',rfl,ao,ap,aq⟩
def I3 (gs:List Gp):List (List ByteArray):=(gs.filter fun g=>decide (1<g.2.2.length)).map (·.2.2)
def GB (W:V) (v:G) (ls:List (List ByteArray)):Prop :=
 ∃vs:List G,vs.length=ls.length/\((v=J U 0 0/\ls= [])\/∃b cap,v=J (S ⟨b,0,U⟩) ls.length cap/\∀j (h:j<vs.length),W.cell? ⟨b,j,U⟩=S vs[j])/\∀j (h:j<vs.length) (h':j<ls.length),BS W vs[j] ls[j]
theorem GB.form {W:V} {v:G} {d:List (List ByteArray)} (h:GB W v d):∃q c,v=J q d.length c:=by
 obtain⟨_,_,⟨rfl,rfl⟩|⟨b,f,rfl,_⟩,_⟩:=h
 ·exact⟨_,_,rfl⟩
 ·exact⟨_,_,rfl⟩
theorem GB.below {W f:V} {v:G} {g:List (List ByteArray)} (h:GB W v g) (i:BL W f):GB f v g:=by
 obtain⟨k,l,c,m⟩:=h;refine⟨k,l,?_,fun j a b=>(m j a b).below i⟩;rcases c with c | ⟨b,d,e,n⟩
 ·exact Or.inl c
 ·exact Or.inr ⟨b,d,e,fun j h=>Aa i (n j h)⟩
def D7 (xs:List Gx) (n:Nat):List G:=((xs.take n).filter fun x=>decide (1<x.2.2.2.2.length)).map (·.2.1)
theorem vM {xs:List Gx} {n:Nat} (h:n<xs.length) (e:1<xs[n].2.2.2.2.length):D7 xs (n+1)=D7 xs n++ [xs[n].2.1]:=by
 unfold D7;rw[Qx h,Qy,Qp];simp[e]
theorem vO {xs:List Gx} {n:Nat} (h:n<xs.length) (e:¬1<xs[n].2.2.2.2.length):D7 xs (n+1)=D7 xs n:=by
 unfold D7;rw[Qx h,Qy,Qp];simp[e]
theorem vP (xs:List Gx) (n:Nat):(D7 xs n).length<=xs.length:=by
 unfold D7;rw[Ql];have b:=List.length_filter_le (fun x:Gx=>decide (1<x.2.2.2.2.length)) (xs.take n);have c:=List.length_take_le' n xs;omega
theorem vQ (xs:List Gx):I3 (xs.map (·.2.2))=((xs.filter fun x=>decide (1<x.2.2.2.2.length))).map (fun x=>x.2.2.2.2):=by
 unfold I3;rw[List.filter_map,List.map_map];rfl
theorem Tryz.txsInfo3:(Tryz.prog.info? 82).map (fun i=>(i.zero,i.size,i.bytes))=S (S (J U 0 0),1,24):=by kernel_rfl
theorem Tryz.txsInfo:∃i0:TypeInfo,Tryz.prog.info? 82=S i0/\i0.zero=S (J U 0 0)/\i0.size=1/\i0.bytes=24:=by
 have h:=Tryz.txsInfo3
 cases b:Tryz.prog.info? 82 with
 | none=>rw [b]at h;simp at h
 | some i =>
  rw[b]at h;simp only[Option.map_some,Option.some.injEq,Prod.mk.injEq]at h;exact⟨i,rfl,h.1,h.2.1,h.2.2⟩
theorem vR {B:Nat} {W d:V} {v:G} {b:List G} (s:W.ownsRow B 82 1 v b.length b) (t:B<=W.heap.size) (u:G) (y:u.oneCell'=Qb) (f:d=W.alloc (.cells #[u] 82)) (z:b.length<=1000) :
  ∃v' W2,(Builtin.append_ #[122,122] 122 #[v,J (S ⟨W.heap.size,0,U⟩) 1 1]).run prog d= .ok v' W2/\W2.ownsRow B 82 1 v' (b++ [u]).length (b++ [u])/\Ac (fun k=>v.ownBlock=S k) W W2:=by
 obtain⟨l,m,n,o,i⟩:=Tryz.txsInfo;have c:BL W d:=by rw[f];exact Af _ _
 have g:CU d (S ⟨W.heap.size,0,U⟩) 1 1 [u]:=by
  rw[f];exact Iq W [u] 82 1 1
 obtain⟨v',W2,p,q,r,C⟩:=FO (P:=prog) d B 122 122 82 l (J U 0 0) 1 24 underlying122 m n o i rfl (by decide) v b.length b (AO (P:=fun _=>False) s (Ac.of_below c) (fun _ _ h=>h)) (S ⟨W.heap.size,0,U⟩) 1 1 [u] rfl g (by intro D j;rw[Qv]at j;subst j;exact y) (by unfold maxLen;omega) (by omega) (Qf t c.size);refine⟨v',W2,p,?_,(Ac.of_below c).trans (Ac.grown r) (fun _ h _=>h)⟩;rw[Qq];exact q
theorem vS {B:Nat} {W:V} {v:G} {xs:List Gx} {o:Nat} {p:G} (i:W.ownsRow B 82 1 v (D7 xs xs.length).length (D7 xs xs.length)) (q:BA o W p xs):GB W v (I3 (xs.map (·.2.2))):=by
 have k:D7 xs xs.length=(xs.filter fun x=>decide (1<x.2.2.2.2.length)).map (·.2.1):=by unfold D7;rw[List.take_length]
 rw[k]at i;rw[vQ];refine⟨(xs.filter fun x=>decide (1<x.2.2.2.2.length)).map (·.2.1),by simp,?_,fun j h h'=>?_⟩
 ·rcases i.2 with⟨b,c⟩|⟨g,d,f,b,_,m,r,_,_,n⟩
  ·refine Or.inl ⟨b,?_⟩;rw[Ql]at c;rw[List.length_eq_zero_iff.1 c];rfl
  ·rw[Ql]at b;refine Or.inr ⟨g,d,by rw[b,Ql],fun j hj=>?_⟩;rw[cell_of_row _ _ _ _ _ _ m];have e:(f.toList.take (((xs.filter fun x=>decide (1<x.2.2.2.2.length)).map (·.2.1)).length*1))[j]? =((xs.filter fun x=>decide (1<x.2.2.2.2.length)).map (·.2.1))[j]? :=by rw[n]
   rw[List.getElem?_take,if_pos (by omega),Array.getElem?_toList]at e;rw[e,List.getElem?_eq_getElem hj]
 ·simp only[List.getElem_map];have l:(xs.filter fun x=>decide (1<x.2.2.2.2.length))[j]'(by simpa using h)∈xs:=(List.mem_filter.1 (Qg _)).1;exact Iw (q.cell _ l).2.2
theorem VO (B:Nat) (v:G) (xs:List Gx) (w:V) (p:BA B w v xs) (P:xs.length<=900) :
  Qc prog 144 #[v] w fun e w'=> ∃v',e=Qd v'/\GB w' v' (I3 (xs.map (·.2.2)))/\BL w w':=by
 obtain⟨q,aa,rfl⟩:=CY p.row;have g:O _:=fun W (f:BL w W)=>p.below f;have r:O (∀x∈xs,∃q c,x.2.1=J q x.2.2.2.2.length c):=fun x hxm=>CY (p.cell x hxm).2.2;have s:O _:=fun n=>Qf (vP xs n) P;obtain⟨L,K⟩:∃L,xs.length=L:=⟨_,rfl⟩;have t:O _:=K;rw[K]at P g ⊢
 go_enter func144,ntmps144
 go_wp2
 go_loopw [3,8] (fun u k wr=> ∃n:Nat,n<=L/\k=Z I n/\wr.ownsRow w.heap.size 82 1 u (D7 xs n).length (D7 xs n)/\BL w wr) (fun _ k _=>L-(A k).toNat)
 case atStart=>exact ⟨0,by omega,rfl,World.ownsRow_nil _ _ _ _,Qj _ _⟩
 case round =>
  obtain⟨n,hn,rfl,ho,f⟩:=hrel;have i:O _:=ho;by_cases y:n<L
  ·have d:n<xs.length:=by rw[t.out];exact y
   obtain⟨b,hq,M⟩:=(g.out wr f).at_ (fun e=>by rw[e]at d;simp at d);subst hq;have z:=M n d;have l:=(g.out wr f).cell xs[n] (Qg _);have Q:=l.1.cells.2.2.1;obtain⟨pq,pc,m⟩:=r.out xs[n] (Qg _);have C:O (1<xs[n].2.2.2.2.length->D7 xs (n+1)=D7 xs n++ [xs[n].2.1]):=fun e=>vM d e;have D:O (¬1<xs[n].2.2.2.2.length->D7 xs (n+1)=D7 xs n):=fun e=>vO d e;generalize xs[n]=x at z Q m C D;unfold EW at z;clear M d l;obtain⟨xb,xv,xg⟩:=x;dsimp only at *;subst m;generalize xg.2.2.length=j at *;by_cases E:1<j
   ·have R:(1:Int)<(j:Int):=by omega
    obtain⟨v',W6,hr,N,o⟩:=vR i.out f.size (J pq j pc) rfl rfl (by have:=s.out n;omega);have F:=f.trans (o.below f.size (fun k hk=>(AF i.out hk).1));have T:O (W6.ownsRow w.heap.size 82 1 v' (D7 xs (n+1)).length (D7 xs (n+1))):=by
     show World.ownsRow _ _ _ _ _ _ _;rw[C.out E];exact N
    go_wp2_with (at_builtin;refine wpList_append_run (by rfl) _ _ _ (by rfl) _ _ _ (by rfl) (by rfl) hr ?_)
    go_roundw
    case rel=>exact ⟨n+1,by omega,by go_num,T.out,F⟩
    case measure=>simp [A];omega
   ·have R:¬(1:Int)<(j:Int):=by omega
    have X:O _:=D.out E;go_wp2;go_roundw
    case rel=>exact ⟨n+1,by omega,by go_num,by rw[X.out];exact i.out,f⟩
    case measure=>simp [A];omega
  ·obtain rfl:n=L:=by omega
   have Y:O _:=vS (by rw[t.out];exact i.out) (g.out wr f);go_wp2;go_ret;exact⟨_,rfl,Y.out,f⟩
theorem vT (q:Option Addr) (n c:Nat) (b:G) (h:n<=1) (w:V) :
  Qc prog 311 #[J q n c,Z I 0,Z I n,b] w fun e w'=>e=Qd (Qe #[])/\w'=w:=by
 go_enter func311,ntmps311
 go_wp2;refine Qr 1 ?_;rw[Qs];go_wp2;go_end0;exact⟨rfl,rfl⟩
theorem vU (q:Option Addr) (n c:Nat) (d:G) (h:n<=1) (w:V) :
  Qc prog 229 #[J q n c,Z I n,d] w fun e w'=>e=Qd (Qe #[])/\w'=w:=by
 have b:=vT q n c d h w
 go_enter func229,ntmps229
 go_wp2;refine Qr 1 ?_;rw[Qs]
 go_wp2_with fail
 refine b.mono ?_;rintro e f ⟨rfl,rfl⟩;go_wp2;refine Qr 1 ?_;rw[Qs];go_wp2;go_end0;exact⟨rfl,rfl⟩
theorem vV (q:Option Addr) (n c:Nat) (d:G) (h:n<=1) (w:V) :
  Qc prog 141 #[J q n c,d] w fun e w'=>e=Qd (Qe #[])/\w'=w:=by
 have b:=vU q n c d h w
 go_enter func141,ntmps141
 go_wp2_with fail
 refine b.mono ?_;rintro e f ⟨rfl,rfl⟩;go_wp2;go_end0;exact⟨rfl,rfl⟩
end Go.Proofs.YtcllhobffhkafaaGreatDoor
