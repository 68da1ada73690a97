/- By an AI agent. -/
import Derived.Test.YtcllhobffhkafaaGreatDoorLkwHld
import Derived.Test.YtcllhobffhkafaaGreatDoorLkoFact
import Derived.Deep.Strs
import Derived.HandedShaped
set_option maxRecDepth 100000
set_option maxHeartbeats 16000000
open Go.Proofs.Tryz
open Bool renaming true->Qa,false->Qp,or_eq_false_iff->Q2
open Go renaming Value->V,Calls->Qd,maxLen->Qg,World->Qi,DataW->Qk,MemPlace->Ql,TypeId->Qy
open Go.Addr renaming add_lit->Qs,add->Q0
open Go.DataW renaming trod->Qf,trod_int->Qq,trod_string->Q4
open Go.Ending renaming returned->Qc
open Go.IntKind renaming i64->O,min->QA,max->QB,signed->QC,bits->QD
open Go.OpenSpec renaming ofChange->Qx
open Go.Proofs.Tryz renaming prog->A,underlying3->Qr,underlying9->Q5,underlying35->Q6,underlying32->Q9
open Go.RowKit renaming Hid->I
open Go.RowKit.Below renaming drew->Qb,refl->Qv
open Go.Value renaming int->U,slice->S,pointer->J,string->Qe,bool->Qj,tuple->Qm,agg->Qn,nilIface->Qo,iface->Qw
open List renaming range->Q1,mem_map->Q7,mem_range->Q8
open List.cons renaming injEq->Qh
open Nat renaming add_assoc->Qt,le_trans->Qu,eq_zero_or_pos->Qz
open Option renaming some->Z,none->G
namespace Go.Proofs.YtcllhobffhkafaaGreatDoor
section
open Go.Extern Go.Extern.Stop Go.Lib Go.RowKit Go.Shelf Go.Sort Go.Stop
attribute [local go_sem] Oper.semAt_some
section
variable {a : Nat → Addr} {B : Nat} {EM : Qi → Prop}
theorem za1 (K:AJ a B EM A0) (HL:∀X,EM X->Bg X a) {W:Qi} (hE:EM W) (s:ByteArray) (em:s.size<=Qg) {vl:V} {l:List Ak} (hl:Fz W vl l) (cf:l.length<=Qg) (d2:∀x∈l,Ki x) (n:Int) (hn: -9223372036854775808<=n/\n<=9223372036854775807) {vr vz:V} {y:List Rw} {zs:List Int} (hr:Ar W vr y) (cg:y.length<=Qg) (hz:A3 W vz zs) (en:∃q c,vz=S q zs.length c/\(q=G->c=0)) (d3:zs.length<=Qg) :
  Qd A 5 #[Qe s,vl,U O n,vr,vz] W fun e w'=>e=Qc (Qj Qa)/\BL W w':=by
 have aq:=K.size _ hE;have ac:I _:=fun X (hb:BL W X)=>K.below _ _ hE (hb.mono aq);have ch:=zR K HL hE;have ci:I _:=fun X (hX:BL W X)=>yU vl l 20 (by omega) X (hl.below hX) cf d2;have cj:I _:=fun X (hX:BL W X)=>Rn vr y 30 X (hr.below hX) cg (by omega);have cl:I _:=fun X (hX:BL W X)=>K.new X (ac.out X hX);have cm:I (∀X vs D,BL W X->A0 X vs D Ff->(∀j,D j->W.heap.size<=j)->s.size<=30->Qd A 8 #[vs,Qe s] X fun e w'=>(∃t u,e=Qc (Qm #[J G,Qw t u])/\BL W w')\/∃v k,e=Qc (Qm #[J (Z ⟨v,0,G⟩),Qo])/\Cv W.heap.size w' v vs k/\BL W w'/\k.spec=s/\(A8 s.data.toList).1=0):=fun X vs D hX h1 h2 h3=>(zU K HL aq (ac.out X hX) hX h1 h2 s h3).mono fun e w' h=>h.imp_right fun ⟨v,k,g1,g2,g3,g4,g5,_⟩=>⟨v,k,g1,g2,g3,g4,g5⟩;have cn:I (∀X v vs k vr vz x,BL W X->Cv W.heap.size X v vs k->k.spec=s->s.size<=30->(A8 s.data.toList).1=0->Ne X vr vz x->Qd A 10 #[J (Z ⟨v,0,G⟩),Qe s,Dl x vr vz] X fun e w'=> ∃kb' k' ev,e=Qc (Qm #[J (Z ⟨kb',0,G⟩),ev])/\(ev=Qo\/∃t u,ev=Qw t u)/\Cv W.heap.size w' kb' vs k'/\GD k k' x ev/\BL W w'):=fun X v vs k vr vz x hX h1 h2 h3 N h5=>by
  subst h2;exact zT K HL aq (ac.out X hX) hX h1 h3 N h5
 have co:I _:=fun X (hX:BL W X)=>hl.below hX;obtain⟨lq,lc,c6⟩:=hl.form;obtain⟨rq,rc,c9⟩:=hr.form;obtain⟨zq,zc,br,bs⟩:=en;have eq:I _:=fun X (hX:BL W X)=>hr.below hX;have er:I _:=fun X (hX:BL W X)=>hz.below hX;have es:I _:=bs;have al:I (∀X,BL W X->y.length<=30->Qd A 26 #[vr] X fun e w'=> ∃q c,e=Qc (S q y.length c)/\Ar w' (S q y.length c) y/\BL X w'):=fun X hX h30=>(Rz vr y X (hr.below hX) (by omega)).mono fun e w' ⟨v',h1,h2,h3⟩=>by
  have N:=(II h2).1;obtain⟨q,c,rfl⟩:=N.form;exact⟨q,c,h1,N,h3⟩
 have bf:I (∀X,BL W X->zs.length<=30->Qd A 28 #[vz] X fun e w'=> ∃v',e=Qc v'/\A3 w' v' zs/\BL X w'):=fun X hX h30=>by
  subst br;exact(Ws zq zc zs X (hz.below hX) bs (by omega)).mono fun e w' ⟨v',h1,h2,h3⟩=>⟨v',h1,NT h2,h3⟩
 obtain⟨L,hL⟩:∃L,l.length=L:=⟨_,rfl⟩;obtain⟨RL,bt⟩:∃L,y.length=L:=⟨_,rfl⟩;obtain⟨ZL,bu⟩:∃L,zs.length=L:=⟨_,rfl⟩;have bg:I (l.length=L/\y.length=RL/\zs.length=ZL):=⟨hL,bt,bu⟩;rw[hL]at c6 cf;rw[bt]at c9 cg al;rw[bu]at br d3 bf;subst c6 c9 br;have d5:I (ZL<=30->zs.length<=1000):=fun h=>by omega
 have C:I (AJ a B EM A0/\(∀X,EM X->Bg X a)/\B<=W.heap.size):=⟨K,HL,aq⟩;have HN:I _:=hn;unfold Qg at em cf cg d3;obtain⟨LG,da⟩:∃b,(decide (30<s.size) || (GE 20 l || (DB 30 y || decide (30<ZL))))=b:=⟨_,rfl⟩;have af:I _:=da;clear K HL hE hl d2 hr hz bs aq hn hL bt bu da
 go_enter func5,ntmps5
 go_wp2_with fail
 refine ch.mono ?_;rintro e w1 ⟨rfl,ai⟩;have Q:=ci.out w1 ai;have T:=cj.out w1 ai;clear ch ci cj
 go_upto_region 2 with fail
 go_cut [50] from 30 to 50 (fun c wx=>c=Qj LG/\wx=w1)
 case first =>
  by_cases g1:30<s.size
  ·have e:LG=Qa:=by rw[<-af.out];simp[g1]
   have d6:(30:Int)<(s.size:Int):=by omega
   subst e;clear Q T;go_wp2;go_meet
   case rel=>exact ⟨by first | rfl | (simp;omega),rfl⟩
  have d6:¬(30:Int)<(s.size:Int):=by omega
  cases gA:GE 20 l
  ·rw[gA]at Q;cases gB:DB 30 y
   ·rw[Lv gB]at T;by_cases g3:30<ZL
    ·have e:LG=Qa:=by rw[<-af.out];simp[g3]
     have d7:(30:Int)<(ZL:Int):=by omega
     subst e;clear gA gB
     go_wp2_with fail
     refine Q.mono ?_;rintro e wa ⟨rfl,rfl⟩
     go_wp2_with fail
     refine T.mono ?_;rintro e wb ⟨rfl,rfl⟩;clear Q T;go_wp2;go_meet
     case rel=>exact ⟨by first | rfl | (simp;omega),rfl⟩
    have e:LG=Qp:=by rw[<-af.out,gA,gB];simp;omega
    have d7:¬(30:Int)<(ZL:Int):=by omega
    subst e;clear gA gB
    go_wp2_with fail
    refine Q.mono ?_;rintro e wa ⟨rfl,rfl⟩
    go_wp2_with fail
    refine T.mono ?_;rintro e wb ⟨rfl,rfl⟩;clear Q T;go_wp2;go_meet
    case rel=>exact ⟨by first | rfl | (simp;omega),rfl⟩
   ·rw[Lu gB]at T;have e:LG=Qa:=by rw[<-af.out,gB];simp
    subst e;clear gA gB
    go_wp2_with fail
    refine Q.mono ?_;rintro e wa ⟨rfl,rfl⟩
    go_wp2_with fail
    refine T.mono ?_;rintro e wb ⟨rfl,rfl⟩;clear Q T;go_wp2;go_meet
    case rel=>exact ⟨by first | rfl | (simp;omega),rfl⟩
  ·rw[gA]at Q;have e:LG=Qa:=by rw[<-af.out,gA];simp
   subst e;clear gA T
   go_wp2_with fail
   refine Q.mono ?_;rintro e wa ⟨rfl,rfl⟩;clear Q;go_wp2;go_meet
   case rel=>exact ⟨by first | rfl | (simp;omega),rfl⟩
 case rest =>
 obtain⟨rfl,rfl⟩:=hcut;clear Q T;cases LG
 case true =>
  go_wp2;go_ret;exact⟨rfl,ai⟩
 have ar:s.size<=30/\GE 20 l=Qp/\DB 30 y=Qp/\ZL<=30:=by
  have:=af.out;simp only[Q2,decide_eq_false_iff_not]at this;exact⟨by omega,this.2.1,this.2.2.1,by omega⟩
 have ap:=ar.1;have bd:=yT ar.2.1;have eo:L<=20:=by have:=bd.1;have:=bg.out.1;omega
 have cp:I _:=bd.2;have bm:=ar.2.2.2;have au:I (y.length<=30/\∀r∈y,r.1.size<=30):=by
  have h:=ar.2.2.1;refine⟨?_,aE h⟩;unfold DB at h;simp only[Q2,decide_eq_false_iff_not]at h;omega
 clear ar bd af;have cq:=cl.out _ ai
 go_wp2_with fail
 refine cq.mono ?_;rintro e w2 ⟨vs,FP,rfl,b2,dh,di⟩;obtain⟨P,rfl⟩:=C.out.1.ptr _ _ _ _ b2;have cr:=cm.out w2 _ FP (Ad ai di) b2 (fun j hj=>Qu ai.size (dh j hj)) ap;clear cq b2 dh di cl cm ai
 go_wp2_with fail
 refine cr.mono ?_;rintro e w3 b3;clear cr;rcases b3 with⟨t,u,rfl,bl⟩|⟨dz,k0,rfl,d0,bl,ce,d1⟩
 case inl =>
  go_wp2;go_ret;exact⟨rfl,bl⟩
 case inr =>
 have d8:I _:=d1;have bh:I (Cv W.heap.size w3 dz (J (Z P)) k0/\BL W w3/\k0.spec=s):=⟨d0,bl,ce⟩;clear d0 bl ce d1
 go_wp2_with fail
 go_loopw [12,14,15,16] (fun k12 i _ _ wr=> ∃m:Nat,m<=L/\i=U O m/\∃v k,k12=J (Z ⟨v,0,G⟩)/\Cv W.heap.size wr v (J (Z P)) k/\k.spec=s/\BL W wr) (fun _ i _ _ _=>L-(intOf i).toNat)
 case atStart=>exact ⟨0,by omega,rfl,dz,k0,rfl,bh.out.1,bh.out.2.2,bh.out.2.1⟩
 case round =>
 clear bh;obtain⟨m,hm,rfl,v,k,rfl,bi,z,ao⟩:=hrel;by_cases d9:m<L
 case pos =>
  have ag:m<l.length:=by rw[bg.out.1];exact d9
  obtain⟨g,o,hq,hc⟩:=(co.out _ ao).cells (fun e=>by rw[e]at ag;simp at ag);subst hq;obtain⟨ur,uk,hp⟩:=hc m ag;have hi:(m:Int)<(L:Int):=by omega
  have et:(0:Int)<=(m:Int):=by omega
  have av:=cn.out wr v _ k ur uk l[m] ao bi z ap d8.out (Fz.act hp (cp.out _ (List.getElem_mem ag)));generalize l[m]=x at hp av;obtain⟨kd,xn,xm,xr,xk⟩:=x;have c0:=hp.kind;have c1:=hp.n;have c2:=hp.m;have c3:=hp.crow;have c4:=hp.ckey;obtain⟨ex,ey,bv⟩:=hp.rows.form;obtain⟨ez,e0,bw,-⟩:=hp.form;dsimp only at c0 c1 c2 c3 c4 bv bw;generalize xr.length=N1 at bv;generalize xk.length=N2 at bw;subst bv bw;unfold Dl at av;dsimp only at av;have ea:I (k.spec=s):=z;clear hc ag hp bi z ao
  go_wp2_with fail
  refine av.mono ?_;rintro e w4 ⟨b4,k4,ev,rfl,bj,dj,dk,dl⟩;have H4:I (Cv W.heap.size w4 b4 (J (Z P)) k4/\k4.spec=s/\BL W w4):=⟨dj,dk.lki.2.trans ea.out,dl⟩;clear av dj dk dl c0 c1 c2 c3 c4;rcases bj with rfl | ⟨t,u,rfl⟩
  ·go_wp2;go_roundw
   case rel=>exact ⟨m+1,by omega,by go_num,b4,k4,rfl,H4.out⟩
   case measure=>simp [intOf];omega
  ·go_wp2;go_roundw
   case rel=>exact ⟨m+1,by omega,by go_num,b4,k4,rfl,H4.out⟩
   case measure=>simp [intOf];omega
 case neg =>
 obtain rfl:m=L:=by omega
 have gm:¬(m:Int)<(m:Int):=by omega
 have be:RL<=30:=by have:=au.out.1;have:=bg.out.2.1;omega
 have ae:=al.out wr ao be;have aw:I (Cv W.heap.size wr v (J (Z P)) k/\k.spec=s/\BL W wr):=⟨bi,z,ao⟩;clear bi z ao cn co bg cp
 go_wp2_with fail
 refine ae.mono ?_;rintro e w5 ⟨q5,c5,rfl,dm,b5⟩;have bn:=aw.out.2.2.trans (b5.mono aw.out.2.2.size);have cs:=za0 C.out.1 C.out.2.1 C.out.2.2 (ac.out w5 bn) bn (aw.out.1.quiet C.out.1 b5) aw.out.2.1 ap n dm au.out.1 au.out.2;clear ae dm b5 bn aw
 go_wp2_with fail
 refine cs.mono ?_;rintro e w6 ⟨m6,ev,rfl,bk,b3⟩;clear cs;rcases b3 with⟨t,u,rfl⟩|⟨rfl,f,d4⟩
 case inl =>
  go_wp2;go_ret;exact⟨rfl,bk⟩
 case inr =>
 obtain⟨⟨db,D,vi,vf,bx,bz,b0⟩,-,z,dc,dd,de⟩:=d4;have ct:=WP C.out.1 C.out.2.1 (ac.out w6 bk) bx bz;have H6:I (An w6 v (J (Z P)) D f.st.head vi vf f/\(∀j,D j->W.heap.size<=j)/\BL W w6):=⟨bx,b0,bk⟩;have aa:I (Ax f/\W.heap.size<=v/\f.spec=s/\Dw n=Qa/\Gg s y/\n<=f.now.2.2.2.2.1):=⟨bz,db,z,dc,dd,de⟩;clear db bx bz b0 z dc dd de bk
 go_wp2_with fail
 refine ct.mono ?_;rintro e w7 ⟨v7,rfl,b6,dn,b7⟩;have cu:=WO C.out.1 (H6.out.1.quiet C.out.1 b7) aa.out.1;have H7:I (Ar w7 v7 (Bi f)/\FQ w6 v7/\BL w6 w7):=⟨b6,dn,b7⟩;obtain⟨q7,c7,eb⟩:=b6.form;subst eb;clear ct b6 dn b7
 go_wp2_with fail
 refine cu.mono ?_;rintro e w8 ⟨vg,rfl,b8,dp,b9⟩;obtain⟨F,M,ec⟩:=b8.form;subst ec;have ax:BL w8 (w8.alloc (.cells #[U O f.now.1,U O f.now.2.1,U O f.now.2.2.1,U O f.now.2.2.2.1,U O f.now.2.2.2.2.1,Qe f.now.2.2.2.2.2.1,S F f.now.2.2.2.2.2.2.length M] 40)):=Af _ _;have cv:=Al.new w8 f.now (S F f.now.2.2.2.2.2.2.length M);have ay:I (CN W (w8.alloc (.cells #[U O f.now.1,U O f.now.2.1,U O f.now.2.2.1,U O f.now.2.2.2.1,U O f.now.2.2.2.2.1,Qe f.now.2.2.2.2.2.1,S F f.now.2.2.2.2.2.2.length M] 40)) v (J (Z P)) D f (Bi f) f.now (S q7 (Bi f).length c7) w8.heap.size (S F f.now.2.2.2.2.2.2.length M)):=by
  obtain⟨g1,g2,g3⟩:=H6.out;obtain⟨g4,g5,g6⟩:=H7.out;have g7:=Ad g6 b9;have hz:=g1.sizes C.out.1;refine⟨aa.out.2.1,⟨vi,vf,(g1.quiet C.out.1 g7).quiet C.out.1 ax⟩,aa.out.1,g2,(Ad g3 g7).trans (ax.mono (Qu g3.size g7.size)),(g4.below b9).below ax,cv,b8.below ax,fun j hj=>?_,Qu g3.size g7.size,rfl,rfl⟩;have ep:w6.heap.size<=j:=by
   rcases hj with⟨-,hj⟩ | rfl | ⟨-,hj⟩
   ·exact g5 j hj
   ·exact g7.size
   ·exact Qu g6.size (dp j hj)
  exact⟨fun e=>by have:=hz.2 j e;omega,fun e=>by have:=hz.1;omega⟩
 clear cu b8 dp b9 ax cv H6 H7;have am:I (∀X i vx D k,i<=f.now.2.2.2.2.1->Dw i=Qa->k.spec=s->CN W X v (J (Z P)) D k (Bi f) f.now (S q7 (Bi f).length c7) w8.heap.size (S F f.now.2.2.2.2.2.2.length M)->Ar X vx y->Qd A 25 #[J (Z ⟨v,0,G⟩),U O i,vx] X fun e w'=> ∃SP' k',e=Qc (Qm #[U O 0,Qo])/\CN W w' v (J (Z P)) SP' k' (Bi f) f.now (S q7 (Bi f).length c7) w8.heap.size (S F f.now.2.2.2.2.2.2.length M)/\k'.spec=s):=fun X i vx D k h1 h2 h3 N h5=>by
  subst h3;exact zW C.out.1 C.out.2.1 C.out.2.2 (ac.out X N.frame) N ap h2 aa.out.2.2.2.2.1 h1 h5 au.out.1 au.out.2
 have az:I (∀X vx D k,k.spec=s->CN W X v (J (Z P)) D k (Bi f) f.now (S q7 (Bi f).length c7) w8.heap.size (S F f.now.2.2.2.2.2.2.length M)->A3 X vx zs->Qd A 27 #[J (Z ⟨v,0,G⟩),U O n,vx] X fun e w'=> ∃SP' k' m ev,e=Qc (Qm #[U O m,ev])/\((∃t u,ev=Qw t u)\/(ev=Qo/\m=0))/\CN W w' v (J (Z P)) SP' k' (Bi f) f.now (S q7 (Bi f).length c7) w8.heap.size (S F f.now.2.2.2.2.2.2.length M)/\k'.spec=s):=fun X vx D k h3 N h5=>by
  subst h3;exact zX C.out.1 C.out.2.1 C.out.2.2 (ac.out X N.frame) N aa.out.2.2.2.2.2 h5 (d5.out bm)
 have an:I (∀X D k,CN W X v (J (Z P)) D k (Bi f) f.now (S q7 (Bi f).length c7) w8.heap.size (S F f.now.2.2.2.2.2.2.length M)->Qd A 12 #[J (Z ⟨v,0,G⟩),U O (-9223372036854775808),U O 9223372036854775807] X fun e w'=> ∃v',e=Qc (Qm #[v',Qo])/\Ar w' v' (Bi f)/\BL X w'):=fun X D k N=>by
  obtain⟨ed,ee,hp⟩:=N.pl;have:=WP C.out.1 C.out.2.1 (ac.out X N.frame) hp N.lki;rw[N.have_]at this;exact this.mono fun e w' ⟨v',g1,g2,_,g3⟩=>⟨v',g1,g2,g3⟩
 have ah:I (∀X D k,CN W X v (J (Z P)) D k (Bi f) f.now (S q7 (Bi f).length c7) w8.heap.size (S F f.now.2.2.2.2.2.2.length M)->Qd A 11 #[J (Z ⟨v,0,G⟩)] X fun e w'=> ∃vg,e=Qc (A9 f.now vg)/\Ai w' vg f.now.2.2.2.2.2.2/\BL X w'):=fun X D k N=>by
  obtain⟨ed,ee,hp⟩:=N.pl;have:=WO C.out.1 hp N.lki;rw[N.now]at this;exact this.mono fun e w' ⟨v',g1,g2,_,g3⟩=>⟨v',g1,g2,g3⟩
 have a0:I (∀X va E,Ai X va f.now.2.2.2.2.2.2->Ai X E f.now.2.2.2.2.2.2->Qd A 22 #[A9 f.now va,A9 f.now E] X fun e w'=>e=Qc (Qj Qa)/\BL X w'):=fun X va E h1 h2=>gT f.now va E X h1 h2 (by have:=(FY aa.out.1.now.fine).1;omega);have a1:I (∀X va E,Ar X va (Bi f)->Ar X E (Bi f)->Qd A 17 #[va,E] X fun e w'=>e=Qc (Qj Qa)/\BL X w'):=fun X va E h1 h2=>by
  have hl:=zY aa.out.1;have:=Ry va E _ _ X h1 h2 hl hl;rw[decide_eq_true rfl]at this;exact this
 have ab:I (∀X D k,CN W X v (J (Z P)) D k (Bi f) f.now (S q7 (Bi f).length c7) w8.heap.size (S F f.now.2.2.2.2.2.2.length M)->∀Y,BL X Y->CN W Y v (J (Z P)) D k (Bi f) f.now (S q7 (Bi f).length c7) w8.heap.size (S F f.now.2.2.2.2.2.2.length M)):=fun X D k h Y hb=>h.quiet C.out.1 hb;have a2:I (Dw n=Qa/\n<=f.now.2.2.2.2.1/\f.spec=s):=⟨aa.out.2.2.2.1,aa.out.2.2.2.2.2,aa.out.2.2.1⟩;unfold A9 at ah a0 ⊢;obtain⟨R7,df⟩:∃R,Bi f=R:=⟨_,rfl⟩;rw[df]at ay am az an a1 ab ah ⊢;clear df C aa;generalize f.now=d at *;obtain⟨s1,s2,s3,s4,s5,s6,sf⟩:=d;dsimp only at *;generalize sf.length=L8 at *;generalize R7.length=L7 at *
 go_upto_region 19 with fail
 generalize el:(w8.alloc (.cells #[U O s1,U O s2,U O s3,U O s4,U O s5,Qe s6,S F L8 M] 40))=w9 at *;obtain⟨nb,dg⟩:∃n,w8.heap.size=n:=⟨_,rfl⟩;rw[dg]at ay am az an ah ab ⊢;clear el dg;have ae:=al.out w9 ay.out.frame be
 go_wp2_with fail
 refine ae.mono ?_;rintro e eg ⟨qa,ca,rfl,dq,dr⟩;have a3:=am.out eg n _ _ _ a2.out.2.1 a2.out.1 a2.out.2.2 (ab.out _ _ _ ay.out _ dr) dq;clear ae dq dr ay
 go_wp2_with fail
 refine a3.mono ?_;rintro e ds ⟨eh,ka,rfl,hh,z⟩;have cw:=bf.out ds hh.frame bm;have bo:I (CN W ds v (J (Z P)) eh ka R7 (s1,s2,s3,s4,s5,s6,sf) (S q7 L7 c7) nb (S F L8 M)/\ka.spec=s):=⟨hh,z⟩;clear a3 hh z
 go_wp2_with fail
 refine cw.mono ?_;rintro e ei ⟨va,rfl,cc,dt⟩;have cx:=az.out ei va _ _ bo.out.2 (ab.out _ _ _ bo.out.1 _ dt) cc;obtain⟨qk,ck,ef⟩:∃q c,va=S q zs.length c:=by
  rcases cc with⟨q,c,h1,h2⟩|⟨b,o,c,h1,_⟩
  ·exact⟨q,c,by rw[h1,h2];rfl⟩
  ·exact⟨_,_,h1⟩
 subst ef;clear cw cc dt bo
 go_wp2_with fail
 refine cx.mono ?_;rintro e du ⟨dv,kc,e1,ev,rfl,bj,hh,z⟩;have a4:I (CN W du v (J (Z P)) dv kc R7 (s1,s2,s3,s4,s5,s6,sf) (S q7 L7 c7) nb (S F L8 M)/\kc.spec=s):=⟨hh,z⟩;clear cx hh z
 go_upto_region 21 with fail
 go_cut [127] from 114 to 127 (fun c wx=>c=Qj Qp/\wx=du)
 case first =>
  rcases bj with⟨t,u,rfl⟩|⟨rfl,rfl⟩
  ·go_wp2;go_meet
   case rel=>exact ⟨by first | rfl | simp,rfl⟩
  ·go_wp2;go_meet
   case rel=>exact ⟨by first | rfl | simp,rfl⟩
 case rest =>
 obtain⟨rfl,rfl⟩:=hcut;clear bj;by_cases eu:1<n
 case pos =>
  have ew:IntKind.i64.wrap (n-1)=n-1:=IntWalk.i64_in _ (by have:=HN.out;omega);have ae:=al.out _ a4.out.1.frame be
  go_wp2_with fail
  refine ae.mono ?_;rintro e ej ⟨qd,cd,rfl,dw,dx⟩;have a3:=am.out ej (n-1) _ _ _ (by have:=a2.out.2.1;omega) (by have:=a2.out.1;unfold Dw at this ⊢;simp only[Bool.and_eq_true,decide_eq_true_eq]at this ⊢;omega) a4.out.2 (ab.out _ _ _ a4.out.1 _ dx) dw;clear ae dw dx
  go_wp2_with fail
  refine a3.mono ?_;rintro e ek ⟨dy,ke,rfl,hh,z⟩;have cz:I (CN W ek v (J (Z P)) dy ke R7 (s1,s2,s3,s4,s5,s6,sf) (S q7 L7 c7) nb (S F L8 M)/\ke.spec=s):=⟨hh,z⟩;clear a3 hh z;have a5:=an.out _ _ _ cz.out.1
  go_wp2_with fail
  refine a5.mono ?_;rintro e wy ⟨vy,rfl,aj,a9⟩;have HY:I (CN W wy v (J (Z P)) dy ke R7 (s1,s2,s3,s4,s5,s6,sf) (S q7 L7 c7) nb (S F L8 M)/\Ar wy vy R7):=⟨ab.out _ _ _ cz.out.1 _ a9,aj⟩;obtain⟨qy,cy,a7⟩:=aj.form;obtain⟨Ly,a8⟩:∃n,R7.length=n:=⟨_,rfl⟩;rw[a8]at a7;subst a7;clear a5 a9 aj a8;have p:BL wy wy:=Qv _ _;have bp:I (∀X,BL wy X->Qd A 11 #[J (Z ⟨v,0,G⟩)] X fun e w'=> ∃vg,e=Qc (Qn #[U O s1,U O s2,U O s3,U O s4,U O s5,Qe s6,vg])/\Ai w' vg sf/\BL X w'):=fun X hX=>ah.out X _ _ (ab.out _ _ _ HY.out.1 _ hX);have bq:I (∀X E,BL wy X->Ai X E sf->Qd A 22 #[Qn #[U O s1,U O s2,U O s3,U O s4,U O s5,Qe s6,S F L8 M],Qn #[U O s1,U O s2,U O s3,U O s4,U O s5,Qe s6,E]] X fun e w'=>e=Qc (Qj Qa)/\BL X w'):=fun X E hX hf=>a0.out X _ E (HY.out.1.fls.below hX) hf;obtain⟨z0,z1,z2,z3,z4,z5,z6⟩:=HY.out.1.snap.cells
  try dsimp only at z0 z1 z2 z3 z4 z5 z6
  go_upto_region 28 with fail
  go_cut [28] from 150 to 153 (fun c wx=>c=Qj Qa/\BL wy wx)
  case first =>
   clear an ab a1 ah a0 am az al bf HY ac
   first
    | (go_region_with (first
      | (go_at_call 11;(with_reducible refine(bp.out _ (by with_reducible first | exact p | exact Qb p | exact Qb (Qb p))).mono ?_);rintro e wX ⟨E,rfl,ak,ba⟩;(first | (with_reducible have p:=Ad p ba) | (with_reducible have p:=(Qb p).trans (ba.mono (Qb p).size)));have z0:=Aa p z0;have z1:=Aa p z1;have z2:=Aa p z2;have z3:=Aa p z3;have z4:=Aa p z4;have z5:=Aa p z5;have z6:=Aa p z6;obtain⟨qb,cb,b1⟩:=ak.form;subst b1)
      | (go_at_call 22;(with_reducible refine(bq.out _ _ (by with_reducible first | exact p | exact Qb p) (by with_reducible first | exact ak | exact ak.below (Qb (Qv _ _)))).mono ?_);rintro e wX ⟨rfl,bb⟩)))
    | fail
   all_goals
    go_wp2;go_meet
    case rel=>exact ⟨rfl,by with_reducible first | exact(Ad p bb) | exact(Qb p).trans (bb.mono (Qb p).size)⟩
  case rest =>
  obtain⟨rfl,ad⟩:=hcut;have a6:=a1.out wc _ _ (HY.out.1.rows.below ad) (HY.out.2.below ad);have HB:I (BL W wc):=HY.out.1.frame.trans (ad.mono HY.out.1.frame.size);clear z0 z1 z2 z3 z4 z5 z6 p ad
  go_wp2_with fail
  refine a6.mono ?_;rintro e wq ⟨rfl,bc⟩;have HP:I (BL W wq):=HB.out.trans (bc.mono HB.out.size);clear a6 bc;go_wp2;go_ret;exact⟨rfl,HP.out⟩
 case neg =>
 have a5:=an.out _ _ _ a4.out.1
 go_wp2_with fail
 refine a5.mono ?_;rintro e wy ⟨vy,rfl,aj,a9⟩;have HY:I (CN W wy v (J (Z P)) dv kc R7 (s1,s2,s3,s4,s5,s6,sf) (S q7 L7 c7) nb (S F L8 M)/\Ar wy vy R7):=⟨ab.out _ _ _ a4.out.1 _ a9,aj⟩;obtain⟨qy,cy,a7⟩:=aj.form;obtain⟨Ly,a8⟩:∃n,R7.length=n:=⟨_,rfl⟩;rw[a8]at a7;subst a7;clear a5 a9 aj a8;have p:BL wy wy:=Qv _ _;have bp:I (∀X,BL wy X->Qd A 11 #[J (Z ⟨v,0,G⟩)] X fun e w'=> ∃vg,e=Qc (Qn #[U O s1,U O s2,U O s3,U O s4,U O s5,Qe s6,vg])/\Ai w' vg sf/\BL X w'):=fun X hX=>ah.out X _ _ (ab.out _ _ _ HY.out.1 _ hX);have bq:I (∀X E,BL wy X->Ai X E sf->Qd A 22 #[Qn #[U O s1,U O s2,U O s3,U O s4,U O s5,Qe s6,S F L8 M],Qn #[U O s1,U O s2,U O s3,U O s4,U O s5,Qe s6,E]] X fun e w'=>e=Qc (Qj Qa)/\BL X w'):=fun X E hX hf=>a0.out X _ E (HY.out.1.fls.below hX) hf;obtain⟨z0,z1,z2,z3,z4,z5,z6⟩:=HY.out.1.snap.cells
 try dsimp only at z0 z1 z2 z3 z4 z5 z6
 go_upto_region 28 with fail
 go_cut [28] from 150 to 153 (fun c wx=>c=Qj Qa/\BL wy wx)
 case first =>
  clear an ab a1 ah a0 am az al bf HY ac
  first
   | (go_region_with (first
     | (go_at_call 11;(with_reducible refine(bp.out _ (by with_reducible first | exact p | exact Qb p | exact Qb (Qb p))).mono ?_);rintro e wX ⟨E,rfl,ak,ba⟩;(first | (with_reducible have p:=Ad p ba) | (with_reducible have p:=(Qb p).trans (ba.mono (Qb p).size)));have z0:=Aa p z0;have z1:=Aa p z1;have z2:=Aa p z2;have z3:=Aa p z3;have z4:=Aa p z4;have z5:=Aa p z5;have z6:=Aa p z6;obtain⟨qb,cb,b1⟩:=ak.form;subst b1)
     | (go_at_call 22;(with_reducible refine(bq.out _ _ (by with_reducible first | exact p | exact Qb p) (by with_reducible first | exact ak | exact ak.below (Qb (Qv _ _)))).mono ?_);rintro e wX ⟨rfl,bb⟩)))
   | fail
  all_goals
   go_wp2;go_meet
   case rel=>exact ⟨rfl,by with_reducible first | exact(Ad p bb) | exact(Qb p).trans (bb.mono (Qb p).size)⟩
 case rest =>
 obtain⟨rfl,ad⟩:=hcut;have a6:=a1.out wc _ _ (HY.out.1.rows.below ad) (HY.out.2.below ad);have HB:I (BL W wc):=HY.out.1.frame.trans (ad.mono HY.out.1.frame.size);clear z0 z1 z2 z3 z4 z5 z6 p ad
 go_wp2_with fail
 refine a6.mono ?_;rintro e wq ⟨rfl,bc⟩;have HP:I (BL W wq):=HB.out.trans (bc.mono HB.out.size);clear a6 bc;go_wp2;go_ret;exact⟨rfl,HP.out⟩
end
end
section
open Go.ChangeAt Go.ChangeShapes Go.Deep Go.RowKit Go.WideShapes
theorem Tryz.cellsRow:Tryz.prog.cellsOf 62=3:=by kernel_rfl
theorem Tryz.cellsInt:Tryz.prog.cellsOf 3=1:=by kernel_rfl
theorem Tryz.cellsString:Tryz.prog.cellsOf 9=1:=by kernel_rfl
theorem Rc {W:Qi} {a:Addr} {v:V} (h:W.cell? a=Z v):a.spot=G:=by
 unfold World.cell? at h;split at h
 ·split at h
  ·cases h
  ·rename_i b;simpa using b
 ·cases h
theorem Rd {n:Int} (h:(Lit.int O n).wf=Qa): -9223372036854775808<=n/\n<=9223372036854775807:=by
 simpa [Lit.wf,QA,QB,QC,QD] using h
section
variable {H : Type} {enc : Qy × V → H} {W : Qi} {base : Nat} {spare : Nat → Bool} {held : Bool}
theorem zb1 {b:Nat} {c:List V} {x:Qk H×List Ql} (h:Qf enc A W base spare held b 62 c=Z x) :
  ∃r:Rw,c= [Qe r.1,U O r.2.1,U O r.2.2]/\r.1.size<=Qg/\Nv r:=by
 obtain⟨q,t,u,n,_,d,f,g,i⟩:=trod_struct3 underlying62 h;rw[Tryz.cellsRow]at d
 match c,d with
 | [c0,c1,c2],_ =>
  simp only[Tryz.cellsInt,Tryz.cellsString,List.drop_zero,List.drop_succ_cons,List.take_succ_cons,List.take_zero]at f g i;obtain⟨s,j,_,o⟩:=Q4 Q5 f;obtain⟨k,l,_,p⟩:=Qq Qr g;obtain⟨v,m,_,_⟩:=Qq Qr i;simp only[Qh,and_true]at j l m;exact⟨(s,k,v),by rw[j,l,m],o,Rd p⟩
theorem WR {t:Nat} {v:V} {x:Qk H×List Ql} (h:Qf enc A W base spare held t 35 [v]=Z x) :
  ∃xs:List Rw,Ar W v xs/\xs.length<=Qg/\∀r∈xs,Nv r:=by
 rcases open_slice Q6 h with⟨e,_⟩|⟨a,d,F,m,n,D,X,e,_,Y,hm,K,_,L⟩
 ·simp only[Qh,and_true]at e;exact⟨[],Or.inl ⟨G,0,e,rfl⟩,by decide,fun _ h=>by cases h⟩
 ·simp only[Qh,and_true]at e;rw[Tryz.cellsRow]at L;have R:d<=m:=by rw[K];split<;>omega
  have l:∀i,i<d->∃r:Rw,(W.cell? (a.add (i*3))=Z (Qe r.1)/\W.cell? (a.add (i*3+1))=Z (U O r.2.1)/\W.cell? (a.add (i*3+2))=Z (U O r.2.2))/\Nv r:=fun i E=>by
   obtain⟨T,M,N⟩:=L i (by omega);obtain⟨_,_,c⟩:=World.cells?_some M;obtain⟨r,g,_,P⟩:=zb1 N;subst g;have u:=c 0 (by omega);have y:=c 1 (by omega);have z:=c 2 (by omega);rw[add_add]at u y z;exact⟨r,⟨by simpa using u,by simpa using y,by simpa using z⟩,P⟩
  obtain⟨f,q⟩:=choose_lt l;rcases Qz d with Q | s
  ·subst Q;exact⟨[],Or.inl ⟨_,_,e,rfl⟩,by decide,fun _ h=>by cases h⟩
  ·have B:=Rc (q 0 s).1.1;have p:a.spot=G:=by
    cases a with | mk b o k=>cases k<;>simp [Q0]at B ⊢
   obtain⟨b,o,k⟩:=a;subst p;refine⟨(Q1 d).map f,Or.inr ⟨b,o,F,by simpa using e,fun j hj=>?_⟩,by simp;omega,fun r g=>?_⟩
   ·have C:j<d:=by simpa using hj
    have:=(q j C).1;rw[Qs,Qs,Qs]at this;simpa [Qt] using this
   ·simp only[Q7,Q8]at g;obtain⟨i,E,rfl⟩:=g;exact(q i E).2
theorem zb2 {r:Nat} {v:V} {x:Qk H×List Ql} (h:Qf enc A W base spare held r 32 [v]=Z x) :
  ∃zs:List Int,A3 W v zs/\zs.length<=Qg:=by
 rcases open_slice1 Q9 Tryz.cellsInt h with⟨e,_⟩|⟨a,d,B,m,n,c,D,N,e,_,P,Q,C,_,K⟩
 ·simp only[Qh,and_true]at e;exact⟨[],Or.inl ⟨G,0,e,rfl⟩,by decide⟩
 ·simp only[Qh,and_true]at e;have M:d<=m:=by rw[C];split<;>omega
  have l:∀i,i<d->∃z:Int,W.cell? (a.add i)=Z (U O z):=fun i hi=>by
   obtain⟨E,F⟩:=K i (by omega);obtain⟨k,u,_,_⟩:=Qq Qr F;simp only[Qh,and_true]at u;exact⟨k,by rw[E,u]⟩
  obtain⟨f,y⟩:=choose_lt l;rcases Qz d with L | q
  ·subst L;exact⟨[],Or.inl ⟨_,_,e,rfl⟩,by decide⟩
  ·have s:=Rc (y 0 q);have p:a.spot=G:=by
    cases a with | mk b o g=>cases g<;>simp [Q0]at s ⊢
   obtain⟨b,o,g⟩:=a;subst p;refine⟨(Q1 d).map f,Or.inr ⟨b,o,B,by simpa using e,fun j hj=>?_⟩,by simp;omega⟩;have t:j<d:=by simpa using hj
   have:=y j t;rw[Qs]at this;simpa using this
end
theorem zb3 {H:Type} {enc:Qy×V->H} {a:Assume} {C:Checked} {os:Os} {f:FuncId} {d:Func} {s:ChangeSpec} {k:List PathCond} {b l c m:Bool} {X:Qi->Array V->Prop}
  (F:∀(w w':Qi) (args:Array V),w.heap=w'.heap->X w args->X w' args)
  (z:ownKnob C.prog.godebug=G) (n:os.Started) (p:C.prog.inits.idxOf? f=G) (B:C.prog.funcs[f]? =Z d)
  (o:∃(w:Qi) (tape:Tape) (i:Input),w.os=os/\(w.forCall tape i).Shaped C.prog/\i.vars= []/\Input.okWide C.prog (w.forCall tape i) .any w.heap.size f i /\
   ((s.pre enc C.prog d k b (w.forCall tape i).memory i.args/\X (w.forCall tape i).memory i.args)/\sizedMet enc C.prog d (Qx s) b (w.forCall tape i).memory i.args)/\a.holds C.prog (lone (Frame.enter C.prog f i.args .normal) [] (w.forCall tape i)))
  (g:∀(W:Qi) (base:Nat) (args:Array V) (ds gs:List (Qk H)) (before:List Ql),
   (∀(j:Nat) t v,d.params[j]? =Z t->args[j]? =Z v->Value.okWide C.prog W .any base t v) ->
   DataW.Whole enc C.prog d.params.toList s.vars b W args.toList ds gs before->W.ShapedOpen C.prog->X W args ->
   Qd C.prog f args W fun e W'=> ∃v,e=Qc v/\s.post enc C.prog d b l c m W args v W') :
  ReturnsInHanded a C os f .any (fun w args=>(s.pre enc C.prog d k b w args/\X w args)/\sizedMet enc C.prog d (Qx s) b w args) (s.post enc C.prog d b l c m):=by
 refine returnsInHanded_of_calls z n p o fun w tape i _ hsh _ hok hpre _=>?_;obtain⟨_,_,_,K,q,_,_,_,_,r⟩:=hok;cases Option.some.inj (q.symm.trans B)
 obtain⟨⟨⟨ds,gs,before,D,_⟩,E⟩,_⟩:=hpre;have u:=DataW.Whole.of_heap (w':=w.forCall tape i) (by rfl) D;have y:=F _ (w.forCall tape i) _ (by rfl) E;refine(g (w.forCall tape i) w.heap.size i.args ds gs before r u hsh y).mono fun e W' ⟨v,he,hp⟩=>?_;subst he;exact ChangeSpec.post_blind hp
end
section
open Go.ChangeAt Go.ChangeShapes Go.Deep Go.Lib Go.RowKit Go.Shelf Go.WideShapes
theorem Tryz.cellsAk:Tryz.prog.cellsOf 37=5:=by kernel_rfl
theorem Tryz.cellsRowsL:Tryz.prog.cellsOf 35=1:=by kernel_rfl
theorem Tryz.cellsKeysL:Tryz.prog.cellsOf 32=1:=by kernel_rfl
theorem WS {α:Type} {l:List α} (h:l.length=5):∃a b c d e,l= [a,b,c,d,e]:=by
 match l,h with
 | [a,b,c,d,e],_=>exact ⟨a,b,c,d,e,rfl⟩
def Re (vr vk:V) (p:Ak):List V:= [Qe p.1,U O p.2.1,U O p.2.2.1,vr,vk]
section
variable {H : Type} {enc : Qy × V → H} {W : Qi} {base : Nat} {spare : Nat → Bool} {held : Bool}
theorem WT {f:Nat} {v:V} {x:Qk H×List Ql} (h:Qf enc A W base spare held f 32 [v]=Z x) :
  ∃zs:List Int,A3 W v zs/\zs.length<=Qg/\∃q c,v=S q zs.length c/\(q=G->c=0):=by
 obtain⟨zs,g,i⟩:=zb2 h;obtain⟨q,c,e⟩:=g.form;refine⟨zs,g,i,q,c,e,fun e2=>?_⟩;subst e2;rcases Go.Deep.open_slice1 Q9 Tryz.cellsInt h with⟨d,_⟩|⟨a,j,k,m,n,b,D,l,d,_⟩
 ·rw[e]at d;simp only[Qh,and_true,Value.slice.injEq,true_and]at d;exact d.2
 ·rw[e]at d;simp at d
theorem zb4 {d:Nat} {v:V} {x:Qk H×List Ql} (h:Qf enc A W base spare held d 35 [v]=Z x) :
  ∃xs:List Rw,Ar W v xs/\xs.length<=Qg/\∃q c,v=S q xs.length c/\(q=G->c=0):=by
 obtain⟨xs,f,g,_⟩:=WR h;obtain⟨q,c,e⟩:=f.form;refine⟨xs,f,g,q,c,e,fun e2=>?_⟩;subst e2;rcases open_slice Q6 h with⟨b,_⟩|⟨a,i,j,m,n,D,k,b,_⟩
 ·rw[e]at b;simp only[Qh,and_true,Value.slice.injEq,true_and]at b;exact b.2
 ·rw[e]at b;simp at b
theorem zb5 {f:Nat} {t:List V} {x:Qk H×List Ql} (h:Qf enc A W base spare held f 37 t=Z x):∃(p:Ak) (vr vk:V),t=Re vr vk p/\Ar W vr p.2.2.2.1/\A3 W vk p.2.2.2.2/\(∃q c,vk=S q p.2.2.2.2.length c/\(q=G->c=0))/\(∃q c,vr=S q p.2.2.2.1.length c/\(q=G->c=0))/\(-9223372036854775808<=p.2.1/\p.2.1<=9223372036854775807)/\Ki p:=by
 obtain⟨C,n,_,_,D,d,b⟩:=DataW.trod_struct underlying37 h;obtain⟨E,F,K,g,i,rfl⟩:=WS (D.trans Tryz.cellsAk);obtain⟨L,M,N,P,Q,rfl⟩:=WS (show C.length=5 from d);have u:Qf enc A W base spare held n 9 [E]=Z L:=by simpa [Tryz.cellsString] using b 0 _ rfl
 have v:Qf enc A W base spare held n 3 [F]=Z M:=by simpa [Tryz.cellsInt] using b 1 _ rfl
 have y:Qf enc A W base spare held n 3 [K]=Z N:=by simpa [Tryz.cellsInt] using b 2 _ rfl
 have z:Qf enc A W base spare held n 35 [g]=Z P:=by simpa [Tryz.cellsRowsL] using b 3 _ rfl
 have B:Qf enc A W base spare held n 32 [i]=Z Q:=by simpa [Tryz.cellsKeysL] using b 4 _ rfl
 obtain⟨R,j,_,T⟩:=Q4 Q5 u;obtain⟨X,k,_,Y⟩:=Qq Qr v;obtain⟨k2,l,_,_⟩:=Qq Qr y;obtain⟨rs,hr,m,o⟩:=zb4 z;obtain⟨zs,hz,r,s⟩:=WT B;simp only[Qh,and_true]at j k l;exact⟨(R,X,k2,rs,zs),g,i,by rw[j,k,l];rfl,hr,hz,s,o,Rd Y,T,m,r⟩
theorem zb6 {K:Nat} {v:V} {x:Qk H×List Ql} (h:Qf enc A W base spare held K 22 [v]=Z x) :
  ∃l:List Ak,Fz W v l/\l.length<=Qg/\∀p∈l,Ki p:=by
 rcases open_slice underlying22 h with⟨e,_⟩|⟨a,d,aa,m,n,D,Pl,e,_,hl,hm,ab,_,hx⟩
 ·simp only[Qh,and_true]at e;exact⟨[],Or.inl ⟨G,0,e,rfl⟩,by decide,fun _ h=>by cases h⟩
 ·simp only[Qh,and_true]at e;rw[Tryz.cellsAk]at hx;have ac:d<=m:=by rw[ab];split<;>omega
  have z:∀i,i<d->∃f:Ak×V×V,(∀c u,(Re f.2.1 f.2.2 f.1)[c]? =Z u->W.cell? (a.add (i*5+c))=Z u)/\Ar W f.2.1 f.1.2.2.2.1/\A3 W f.2.2 f.1.2.2.2.2/\(∃q c,f.2.2=S q f.1.2.2.2.2.length c/\(q=G->c=0))/\(∃q c,f.2.1=S q f.1.2.2.2.1.length c/\(q=G->c=0))/\(-9223372036854775808<=f.1.2.1/\f.1.2.1<=9223372036854775807)/\Ki f.1:=fun i Y=>by
   obtain⟨ad,h1,h2⟩:=hx i (by omega);obtain⟨_,_,s⟩:=World.cells?_some h1;obtain⟨p,vr,vk,t,g⟩:=zb5 h2;subst t;refine⟨(p,vr,vk),fun c u hu=>?_,g⟩;have k:c<5:=by
    rcases Nat.lt_or_ge c 5 with E | E
    ·exact E
    ·rw[List.getElem?_eq_none (by simp[Re];exact E)]at hu;cases hu
   have L:=s c k;rw[add_add]at L;rw[L];exact hu
  obtain⟨f,C⟩:=choose_lt z;rcases Qz d with h0 | F
  ·subst h0;exact⟨[],Or.inl ⟨_,_,e,rfl⟩,by decide,fun _ h=>by cases h⟩
  ·have M:=Rc ((C 0 F).1 0 _ rfl);have B:a.spot=G:=by
    cases a with | mk b o y=>cases y<;>simp [Q0]at M ⊢
   obtain⟨b,o,y⟩:=a;subst B;refine⟨(Q1 d).map fun i=>(f i).1,Or.inr ⟨b,o,aa,by simpa using e,fun j hj=>?_⟩,by simp;omega,fun r t=>?_⟩
   ·have N:j<d:=by simpa using hj
    obtain⟨k,g1,g2,g3,g4,g5,_⟩:=C j N;have P:=k 0 _ rfl;have Q:=k 1 _ rfl;have R:=k 2 _ rfl;have T:=k 3 _ rfl;have X:=k 4 _ rfl;rw[Qs]at P Q R T X;simp only[List.getElem_map,List.getElem_range];exact⟨(f j).2.1,(f j).2.2,P,by rw[Qt];exact Q,by rw[Qt];exact R,by rw[Qt];exact T,by rw[Qt];exact X,g1,g2,g3,g4,g5⟩
   ·simp only[Q7,Q8]at t;obtain⟨i,Y,rfl⟩:=t;exact(C i Y).2.2.2.2.2.2
end
end
end Go.Proofs.YtcllhobffhkafaaGreatDoor
