/- By an AI agent. -/
import Derived.Test.YtcllhobffhkafaaGreatDoorListRd
import Derived.Test.YtcllhobffhkafaaGreatDoorLkp1
set_option maxRecDepth 100000
set_option maxHeartbeats 16000000
open Go.Proofs.Tryz
open ByteArray renaming size_append->Qt
open Go renaming World->Qb,Value->Qd,Calls->Qe,bodyPost_ret->Qh,results->Qj,Addr->Qn,maxLen->Qp,below_regrown->Qx,cell_of_row->Q7,cell_regrown->Q8
open Go.Ending renaming returned->Qc
open Go.IntKind renaming i64->U
open Go.Lib renaming itoa->A,cut->Ql,itoa_length_le->Qy
open Go.Obj renaming cells->G
open Go.Proofs.Tryz renaming prog->Qf,results97->Qk
open Go.RowKit renaming Hid->J
open Go.Value renaming int->O,string->I,slice->S,pointer->V,tuple->Qa,agg->Qg,iface->Qi,nilIface->Qm
open List renaming length_append->Qo,length_cons->Qs,getElem_mem->Qu,length_take->Qv,foldl_cons->Qw,take_of_length_le->Qz,take_append_getElem->Q0,sum_append->Q1,map_append->Q2,flatMap_cons->Q4,mem_append_left->Q5,mem_of_mem_take->Q6
open Nat renaming le_trans->Qq,le_refl->Qr,lt_irrefl->Q3
open Option renaming none->Z,some->H
namespace Go.Proofs.YtcllhobffhkafaaGreatDoor
open Go.RowKit Go.Extern.Stop Go.Stop Go.Extern Go.Sort Go.Shelf Go.Lib
def Pa (w:Qb) (a:Nat->Qn) (R:Sn×Nat×Option Nat) (e:Ending) (w':Qb):Prop:= ∃vf ev,e=Qc (Qa #[A9 R.1 vf,ev])/\Ai w' vf R.1.2.2.2.2.2.2/\AU w' a ev R.2/\BL w w'/\FS w vf
theorem Js {w w':Qb} {a:Nat->Qn} {b:Qd} {c:Nat×Option Nat} (h:AU w' a b c) (d:BL w w'):Pa w a (AC,c) (Qc (Qa #[(Qg #[O U 0,O U 0,O U 0,O U 0,O U 0,I ⟨#[]⟩,S Z 0 0]),b])) w' :=
 ⟨S Z 0 0,b,rfl,Or.inl ⟨Z,0,rfl,fun _=>rfl,rfl⟩,h,d,NY _⟩
theorem qQ (s:ByteArray) (w:Qb) (a:Nat->Qn) (h:KJ w a) (hs:s.size<=Qp) :
  Qe Qf 97 #[I s] w (Pa w a (Hq s.data.toList)):=by
 unfold Qp at hs;have bl:=AA s;have ad:BL w (w.alloc (G #[O U 0,O U 0,O U 0,O U 0,O U 0,I ⟨#[]⟩,S Z 0 0] 40)):=Af _ _;have ah:Al (w.alloc (G #[O U 0,O U 0,O U 0,O U 0,O U 0,I ⟨#[]⟩,S Z 0 0] 40)) w.heap.size AC (S Z 0 0):=Al.new w AC (S Z 0 0);generalize hR:Hq s.data.toList=R;have HR:J (Hq s.data.toList=R):=hR;clear hR;by_cases bv:20000<s.size
 ·have F:R=(AC,2,Z):=by rw[<-HR.out];exact iC (by omega)
  subst F;have bn:(20000:Int)<(s.size:Int):=by omega
  clear HR
  go_enter func97,ntmps97
  go_upto_region 1 with fail
  generalize w.alloc (G #[O U 0,O U 0,O U 0,O U 0,O U 0,I ⟨#[]⟩,S Z 0 0] 40)=WA at ad ah ⊢;have et:=(h.below ad).text.list.file.env.bound;obtain⟨o,p,r,z,B,D,E,yf⟩:=ah.zero;have s0:=Ah o;have s1:=Ah p;have s2:=Ah r;have s3:=Ah z;have s4:=Ah B;have s5:=Ah D;have s6:=Ah E;go_wp2
  go_region
  all_goals go_wp2
  all_goals exact Qh (v:=Qa #[(Qg #[O U 0,O U 0,O U 0,O U 0,O U 0,I ⟨#[]⟩,S Z 0 0]),Qi 410 (V (H (a 1)))]) (by simp[Qj,Qk,go_sem,o,p,r,z,B,D,E]) rfl (Js rfl ad.drew)
 have bn:¬(20000:Int)<(s.size:Int):=by omega
 obtain⟨m,hm⟩:=(h.below ad).text.list.file.env.base.maxl;have hcut:=strings_Cut s ⟨#[10]⟩ m _ (by omega) hm;have bw:(⟨#[10]⟩:ByteArray).data.toList= [10]:=rfl;dsimp only at hcut;have a4:(Ql s.data.toList [10]).1.length<=20000/\(Ql s.data.toList [10]).2.1.length<=20000:=by
  rcases Hl 10 s.data.toList with⟨_,hc⟩|⟨x,y,bt,_,hc⟩
  ·rw[hc];simp;omega
  ·rw[hc];have:s.data.toList.length=x.length+1+y.length:=by rw[bt];simp;omega
   dsimp only;omega
 have hD:=qF (l:=s.data.toList) (by omega);rw[HR.out]at hD;have eK:(⟨(Ql s.data.toList [10]).1.toArray⟩:ByteArray)=Ab (Ql s.data.toList [10]).1:=rfl;have eW:(⟨(Ql s.data.toList [10]).2.1.toArray⟩:ByteArray)=Ab (Ql s.data.toList [10]).2.1:=rfl;rw[eK,eW]at hcut;clear eK eW hm;generalize Ql s.data.toList [10]=C at hcut a4 hD;obtain⟨fL,M,ag⟩:=C;dsimp only at hcut a4 hD;obtain⟨be,bf⟩:=a4;have aq:=fun W (hW:BZ W a)=>qI (Ab fL) W a hW (by rw[CR];exact be);have ae:=fun W=>Ky (Ab M) W (by rw[CR];unfold Qp;omega);have P:=fun W (hW:Gv W a)=>qP (Ab M) W a hW (by rw[CR];exact bf);rw[BQ]at aq ae P;have ar:J (Eb (Co M).1/\(Co M).1.length<=60):=⟨qG M,iL M⟩;have bo:=Hn M;have a5:IntKind.i64.wrap ((Ba M:Nat):Int)=((Ba M:Nat):Int):=IntWalk.i64_in _ (by omega);have HD:J (R=if ag=false then (AC,1,Z) else match Fe fL with
  | none=>(AC,1,Z)
  | some (b,c,d,f,i,op,g)=>if g≠Ba M then (AC,10,Z) else
   if (Co M).2.1≠0 then (AC,(Co M).2) else
   if (Am (b,c,d,f,i,Ab op,(Co M).1)).1≠0 then (AC,Am (b,c,d,f,i,Ab op,(Co M).1)) else
   ((b,c,d,f,i,Ab op,(Co M).1),0,Z)):=hD
 clear hD HR be bf bl bo;generalize Ab fL=fB at hcut aq;generalize Ab M=bB at hcut ae P;generalize Ba M=SM at ae a5 HD;generalize Co M=RL at P HD ar;obtain⟨j,LE⟩:=RL;dsimp only at P HD ar
 go_enter func97,ntmps97
 go_wp2_with fail
 generalize w.alloc (G #[O U 0,O U 0,O U 0,O U 0,O U 0,I ⟨#[]⟩,S Z 0 0] 40)=WA at ad ah hcut ⊢;refine hcut.mono ?_;rintro e w1 ⟨rfl,q,rfl⟩;clear hcut;have au:BL WA (WA.drewN q):=AH (Below.refl _ _) q;have av:BL w (WA.drewN q):=Ad ad au;have a6:=ah.below au;generalize WA.drewN q=w1 at au av a6 ⊢;have a7:=aq w1 (h.below av).text.weak;clear ah ad au aq
 go_wp2_with fail
 refine a7.mono ?_;rintro e N ⟨bg,ab⟩;clear a7;have a8:BL w N:=Ad av bg;have aw:=a6.below bg;clear a6 av bg;generalize bu:Fe fL=SO at ab HD;clear bu
 cases SO with
 | none =>
  obtain rfl:e=Qc (Qa #[(Qg #[O U 0,O U 0,O U 0,O U 0,O U 0,I ⟨#[]⟩,S Z 0 0]),O U 0,.bool false]):=ab;have F:R=(AC,1,Z):=by
   rw[HD.out];split<;>rfl
  subst F;clear HD ae P a5;have Y:BL N (N.alloc (G #[O U 0,O U 0,O U 0,O U 0,O U 0,I ⟨#[]⟩,S Z 0 0] 40)):=Af _ _;have K:BL w (N.alloc (G #[O U 0,O U 0,O U 0,O U 0,O U 0,I ⟨#[]⟩,S Z 0 0] 40)):=Ad a8 Y;have Q:=aw.below Y;cases ag
  ·go_upto_region 5 with fail
   generalize N.alloc (G #[O U 0,O U 0,O U 0,O U 0,O U 0,I ⟨#[]⟩,S Z 0 0] 40)=w3 at K Q ⊢;have et:=(h.below K).text.text;obtain⟨o,p,r,z,B,D,E,yf⟩:=Q.zero;have s0:=Ah o;have s1:=Ah p;have s2:=Ah r;have s3:=Ah z;have s4:=Ah B;have s5:=Ah D;have s6:=Ah E;go_wp2
   go_region
   all_goals go_wp2
   all_goals exact Qh (v:=Qa #[(Qg #[O U 0,O U 0,O U 0,O U 0,O U 0,I ⟨#[]⟩,S Z 0 0]),Qi 410 (V (H (a 0)))]) (by simp[Qj,Qk,go_sem,o,p,r,z,B,D,E]) rfl (Js rfl K.drew)
  ·go_upto_region 5 with fail
   generalize N.alloc (G #[O U 0,O U 0,O U 0,O U 0,O U 0,I ⟨#[]⟩,S Z 0 0] 40)=w3 at K Q ⊢;have et:=(h.below K).text.text;obtain⟨o,p,r,z,B,D,E,yf⟩:=Q.zero;have s0:=Ah o;have s1:=Ah p;have s2:=Ah r;have s3:=Ah z;have s4:=Ah B;have s5:=Ah D;have s6:=Ah E;go_wp2
   go_region
   all_goals go_wp2
   all_goals exact Qh (v:=Qa #[(Qg #[O U 0,O U 0,O U 0,O U 0,O U 0,I ⟨#[]⟩,S Z 0 0]),Qi 410 (V (H (a 0)))]) (by simp[Qj,Qk,go_sem,o,p,r,z,B,D,E]) rfl (Js rfl K.drew)
 | some X =>
 obtain⟨b,c,d,f,i,op,g⟩:=X;dsimp only at ab HD;unfold A9 at ab;dsimp only at ab;subst ab;generalize Ab op=n at HD ⊢;have Y:BL N (N.alloc (G #[O U b,O U c,O U d,O U f,O U i,I n,S Z 0 0] 40)):=Af _ _;have K:BL w (N.alloc (G #[O U b,O U c,O U d,O U f,O U i,I n,S Z 0 0] 40)):=Ad a8 Y;have Q:=aw.below Y;have ai:Al (N.alloc (G #[O U b,O U c,O U d,O U f,O U i,I n,S Z 0 0] 40)) N.heap.size (b,c,d,f,i,n, []) (S Z 0 0):=Al.new N (b,c,d,f,i,n, []) (S Z 0 0);have bh:w.heap.size<N.heap.size:=aw.lt;clear Y aw a8
 go_upto_region 5 with fail
 generalize N.alloc (G #[O U b,O U c,O U d,O U f,O U i,I n,S Z 0 0] 40)=w3 at K Q ai ⊢;generalize N.heap.size=X at ai bh ⊢;cases ag
 ·have F:R=(AC,1,Z):=by rw[HD.out,if_pos rfl]
  subst F;clear HD ae P a5 ai;have et:=(h.below K).text.text;obtain⟨o,p,r,z,B,D,E,yf⟩:=Q.zero;have s0:=Ah o;have s1:=Ah p;have s2:=Ah r;have s3:=Ah z;have s4:=Ah B;have s5:=Ah D;have s6:=Ah E;go_wp2
  go_region
  all_goals go_wp2
  all_goals exact Qh (v:=Qa #[(Qg #[O U 0,O U 0,O U 0,O U 0,O U 0,I ⟨#[]⟩,S Z 0 0]),Qi 410 (V (H (a 0)))]) (by simp[Qj,Qk,go_sem,o,p,r,z,B,D,E]) rfl (Js rfl K.drew)
 have ax:J (R=if g≠(SM:Nat) then (AC,10,Z) else
   if LE.1≠0 then (AC,LE) else
   if (Am (b,c,d,f,i,n,j)).1≠0 then (AC,Am (b,c,d,f,i,n,j)) else
   ((b,c,d,f,i,n,j),0,Z)):=by
  show _=_;rw[HD.out,if_neg (by simp)]
 clear HD;have a9:=ae w3;clear ae
 go_wp2_with fail
 refine a9.mono ?_;rintro e w4 ⟨rfl,a1⟩;clear a9;have af:BL w w4:=Ad K a1;have ba:=Q.below a1;have bb:=ai.below a1;clear K Q ai a1;by_cases hg:g=(SM:Nat)
 case neg =>
  have F:R=(AC,10,Z):=by rw[ax.out,if_pos hg]
  subst F;clear ax P bb;have et:=(h.below af).sum;obtain⟨o,p,r,z,B,D,E,yf⟩:=ba.zero;have s0:=Ah o;have s1:=Ah p;have s2:=Ah r;have s3:=Ah z;have s4:=Ah B;have s5:=Ah D;have s6:=Ah E;go_wp2
  go_region
  all_goals go_wp2
  all_goals exact Qh (v:=Qa #[(Qg #[O U 0,O U 0,O U 0,O U 0,O U 0,I ⟨#[]⟩,S Z 0 0]),Qi 410 (V (H (a 9)))]) (by simp[Qj,Qk,go_sem,o,p,r,z,B,D,E]) rfl (Js rfl af.drew)
 case pos =>
 have ay:J (R=if LE.1≠0 then (AC,LE) else
   if (Am (b,c,d,f,i,n,j)).1≠0 then (AC,Am (b,c,d,f,i,n,j)) else
   ((b,c,d,f,i,n,j),0,Z)):=by
  show _=_;rw[ax.out,if_neg (by simpa using hg)]
 clear ax;subst hg;have bm:=P w4 (h.below af).text;clear P
 go_wp2_with fail
 refine bm.mono ?_;rintro e w5 ⟨v5,ev,rfl,a2,ht,a3,bs⟩;have bp:J (FS w v5):=fun k hk=>Qq af.size (bs k hk);have bi:=Ad af a3;have bj:=ba.below a3;have aj:=bb.below a3;clear af ba bb a3;by_cases hE:LE.1=0
 case neg =>
  have F:R=(AC,LE):=by rw[ay.out,if_pos hE]
  subst F;obtain⟨t,u,rfl⟩:=ht.bad hE;have HT:J (AU w5 a (Qi t u) LE):=ht;clear ay ht aj a2;obtain⟨o,p,r,z,B,D,E,yf⟩:=bj.zero;have s0:=Ah o;have s1:=Ah p;have s2:=Ah r;have s3:=Ah z;have s4:=Ah B;have s5:=Ah D;have s6:=Ah E;go_wp2;exact Qh (v:=Qa #[(Qg #[O U 0,O U 0,O U 0,O U 0,O U 0,I ⟨#[]⟩,S Z 0 0]),Qi t u]) (by simp[Qj,Qk,go_sem,o,p,r,z,B,D,E]) rfl (Js HT.out bi)
 case pos =>
 obtain rfl:=ht.ok hE;have ak:J (R=if (Am (b,c,d,f,i,n,j)).1≠0 then (AC,Am (b,c,d,f,i,n,j)) else
   ((b,c,d,f,i,n,j),0,Z)):=by
  show _=_;rw[ay.out,if_neg (by simpa using hE)]
 clear ay ht hE;obtain⟨T,cv,hq⟩:=a2.form;subst hq;have bq:=IZ aj a2;have al:=a2.set_off bq 6 (S T j.length cv);have am:Al (w5.setCell ⟨X,6,Z⟩ (S T j.length cv)) X (b,c,d,f,i,n,j) (S T j.length cv):=by
  have:=aj;unfold Al at *;rw[heap_setCell_same _ _ _ _ _ _ this];rfl
 have az:=Tc bj (show X≠w.heap.size by omega) 6 (S T j.length cv);have an:BL w (w5.setCell ⟨X,6,Z⟩ (S T j.length cv)):=bi.setCell (Nat.le_of_lt bh) _;have fX:=aj.fz;have x6:=aj.cells.2.2.2.2.2.2;have aa:=Ji (b,c,d,f,i,n,j) (S T j.length cv) _ a (h.below an).text.list al (by have:=ar.out.2;dsimp only;omega) ar.out.1;unfold A9 at aa;dsimp only at aa;have bx:J (X≠w.heap.size):=by show _≠_;omega
 generalize bz:Am (b,c,d,f,i,n,j)=XE at aa ak;obtain⟨L,hL⟩:∃L,j.length=L:=⟨_,rfl⟩;rw[hL]at al am az an aa ⊢
 go_upto_region 13 with fail
 generalize w5.setCell ⟨X,6,Z⟩ (S T L cv)=w6 at al am az an aa ⊢;obtain⟨p0,p1,p2,p3,p4,p5,p6⟩:=am.cells;dsimp only at p0 p1 p2 p3 p4 p5
 go_wp2_with fail
 refine aa.mono ?_;rintro e w7 ⟨ev,rfl,ht,ap⟩;have bk:BL w w7:=Ad an ap;have ao:=az.below ap;have bc:=am.below ap;have a0:=al.below ap;clear al am az an ap;by_cases hE:XE.1=0
 case neg =>
  have F:R=(AC,XE):=by rw[ak.out,if_pos hE]
  subst F;obtain⟨t,u,rfl⟩:=ht.bad hE;have HT:J (AU w7 a (Qi t u) XE):=ht;clear ak ht bc a0;obtain⟨o,p,r,z,B,D,E,yf⟩:=ao.zero;have s0:=Ah o;have s1:=Ah p;have s2:=Ah r;have s3:=Ah z;have s4:=Ah B;have s5:=Ah D;have s6:=Ah E;go_wp2;exact Qh (v:=Qa #[(Qg #[O U 0,O U 0,O U 0,O U 0,O U 0,I ⟨#[]⟩,S Z 0 0]),Qi t u]) (by simp[Qj,Qk,go_sem,o,p,r,z,B,D,E]) rfl (Js HT.out bk)
 case pos =>
 obtain rfl:=ht.ok hE;have F:R=((b,c,d,f,i,n,j),0,Z):=by rw[ak.out,if_neg (by simpa using hE)]
 subst F;clear ak ht hE;obtain⟨p0,p1,p2,p3,p4,p5,p6⟩:=bc.cells;dsimp only at p0 p1 p2 p3 p4 p5;obtain⟨o,p,r,z,B,D,E,yf⟩:=ao.zero;have ac:=IZ ao a0;have br:J (Ai (((((((w7.setCell ⟨w.heap.size,0,Z⟩ (O U b)).setCell ⟨w.heap.size,1,Z⟩ (O U c)).setCell ⟨w.heap.size,2,Z⟩ (O U d)).setCell ⟨w.heap.size,3,Z⟩ (O U f)).setCell ⟨w.heap.size,4,Z⟩ (O U i)).setCell ⟨w.heap.size,5,Z⟩ (I n)).setCell ⟨w.heap.size,6,Z⟩ (S T L cv)) (S T L cv) j):=(((((((a0.set_off ac 0 _).set_off ac 1 _).set_off ac 2 _).set_off ac 3 _).set_off ac 4 _).set_off ac 5 _).set_off ac 6 _);obtain⟨u0,u1,u2,u3,u4,u5,u6⟩:=(ao.set (b,c,d,f,i,n,j) (S T L cv)).cells;have bd:=Mh (s:=(b,c,d,f,i,n,j)) (vf:=S T L cv) bk (Qr w.heap.size);unfold FR at u0 u1 u2 u3 u4 u5 u6 bd;dsimp only at u0 u1 u2 u3 u4 u5 bd;clear ao bc a0 ac;go_wp2;refine Qh (v:=Qa #[Qg #[O U b,O U c,O U d,O U f,O U i,I n,S T L cv],Qm]) (by simp[Qj,Qk,go_sem,u0,u1,u2,u3,u4,u5,u6]) rfl ?_;exact⟨S T L cv,Qm,rfl,br.out,rfl,bd,fun k hk=>bp.out k (by cases T<;>exact hk)⟩
section
variable {a : Nat → Qn} {B : Nat} {EM : Qb → Prop}
theorem Pb {x:Sn} (h:(Am x).1=0):(Ab (BC x)).size<=20000:=by
 obtain⟨b,c⟩:=N4 h;rw[E9];unfold BC;rw[Qo,Qs];omega
theorem UZ (K:AJ a B EM A0) (HL:∀X,EM X->Bg X a) (W:Qb) (v:Qd) (SP:Nat->Prop) (s:St) (d:Int) (x:Sn) (hE:EM W) (aa:A0 W v SP s) (hg:AR s) (hh:AK s (Cd d) (Ab (BC x))) (hf:(Am x).1=0) (z: -9223372036854775808<=d/\d<=9223372036854775807) :
  Qe Qf 47 #[v,O U d] W fun e w'=> ∃vf,e=Qc (Qa #[A9 x vf,Qm])/\Ai w' vf x.2.2.2.2.2.2/\FS W vf/\BL W w':=by
 obtain⟨pt,rfl⟩:=K.ptr _ _ _ _ aa;have r:BL W (W.alloc (G #[O U 0,O U 0,O U 0,O U 0,O U 0,I ⟨#[]⟩,S Z 0 0] 40)):=Af _ _;have D:Al (W.alloc (G #[O U 0,O U 0,O U 0,O U 0,O U 0,I ⟨#[]⟩,S Z 0 0] 40)) W.heap.size AC (S Z 0 0):=Al.new W AC (S Z 0 0);have t:J (∀X,BL W X->EM X):=fun X hb=>K.below _ _ hE (hb.mono (K.size _ hE));have ab:J (∀X,BL W X->Qe Qf 96 #[I ⟨#[115,110,97,112,47]⟩,O U d] X fun e w'=>e=Qc (I (Cd d))/\BL X w'):=fun X hb=>MJ ⟨#[115,110,97,112,47]⟩ d X (HL X (t.out X hb)).s (by decide) z;have ac:J (∀X,BL W X->Qe Qf 65 #[V (H pt),I (Cd d)] X fun e w'=>e=Qc (Qa #[I (Ab (BC x)),Qm])/\BL X w'):=fun X hb=>by
  have:=K.get X _ SP s (Cd d) (t.out X hb) (K.keep _ _ _ _ (fun _=>False) _ aa (Ac.of_below hb) (fun _ _ h=>h)) hg (by unfold Cd;rw[Qt,E9];have:=Qy d z.1 z.2;have h5:(⟨#[115,110,97,112,47]⟩:ByteArray).size=5:=rfl;omega);rw[hh]at this;exact this
 have ad:J (∀X,BL W X->Qe Qf 97 #[I (Ab (BC x))] X (Pa X a (x,0,Z))):=fun X hb=>by
  have:=qQ (Ab (BC x)) X a (HL X (t.out X hb)).p (by have:=Pb hf;unfold Qp;omega);rw[BQ,N5 hf]at this;exact this
 go_enter func47,ntmps47
 go_upto_region 1 with fail
 generalize W.alloc (G #[O U 0,O U 0,O U 0,O U 0,O U 0,I ⟨#[]⟩,S Z 0 0] 40)=WA at r D ⊢;have ae:=ab.out WA r
 go_wp2_with fail
 refine ae.mono ?_;rintro e w1 ⟨rfl,Q⟩;have E:=Ad r Q;have af:=D.below Q;have ag:=ac.out w1 E
 go_wp2_with fail
 refine ag.mono ?_;rintro e w2 ⟨rfl,R⟩;have u:=Ad E R;have ah:=af.below R;have ai:=ad.out w2 u
 go_wp2_with fail
 refine ai.mono ?_;rintro e C ⟨vf,ev,rfl,T,ht,Y,an⟩;obtain rfl:ev=Qm:=ht;have aj:=Ad u Y;have ak:=ah.below Y;have al:J (FS W vf):=fun k hk=>Qq u.size (an k hk);obtain⟨q,c,rfl⟩:=T.form;obtain⟨g,i,j,l,m,n,o⟩:=x;generalize hL:o.length=L at *;have F:=Al.new C (g,i,j,l,m,n,o) (S q L c);have f:BL C (C.alloc (G #[O U g,O U i,O U j,O U l,O U m,I n,S q L c] 40)):=Af _ _;unfold A9
 go_upto_region 5 with fail
 generalize C.alloc (G #[O U g,O U i,O U j,O U l,O U m,I n,S q L c] 40)=W4 at F f ⊢;have am:=Ad aj f;have y:=ak.below f;have M:=T.below f;obtain⟨p0,p1,p2,p3,p4,p5,p6⟩:=F.cells;obtain⟨y0,y1,y2,y3,y4,y5,y6,yf⟩:=y.zero;have b:=IZ y M;have N:J (Ai (FR W4 W.heap.size (g,i,j,l,m,n,o) (S q L c)) (S q L c) o):=(((((((M.set_off b 0 _).set_off b 1 _).set_off b 2 _).set_off b 3 _).set_off b 4 _).set_off b 5 _).set_off b 6 _);obtain⟨u0,u1,u2,u3,u4,u5,u6⟩:=(y.set (g,i,j,l,m,n,o) (S q L c)).cells;have P:=Mh (s:=(g,i,j,l,m,n,o)) (vf:=S q L c) am (Qr W.heap.size);unfold FR at u0 u1 u2 u3 u4 u5 u6 P N;go_wp2;refine Qh (v:=Qa #[Qg #[O U g,O U i,O U j,O U l,O U m,I n,S q L c],Qm]) (by simp[Qj,results47,go_sem,u0,u1,u2,u3,u4,u5,u6]) rfl ?_;exact⟨S q L c,rfl,N.out,al.out,P⟩
theorem qR (K:AJ a B EM A0) (HL:∀X,EM X->Bg X a) {W:Qb} {kb:Nat} {vs:Qd} {SP:Nat->Prop} {hd:ByteArray} {vi vf:Qd} {k:Lk} (hE:EM W) (h:An W kb vs SP hd vi vf k) (hk:AR k.st) (d:List Sn) (hl:d.length=k.ids.length) (aa:∀i (h1:i<d.length) (h2:i<k.ids.length),AK k.st (Cd k.ids[i]) (Ab (BC d[i]))/\(Am d[i]).1=0) (al:∀z∈k.ids,-9223372036854775808<=z/\z<=9223372036854775807) (hm:d.length<=1000) :
  Qe Qf 41 #[V (H ⟨kb,0,Z⟩)] W fun e w'=> ∃v',e=Qc (Qa #[v',Qm])/\D5 w' W.heap.size v' d/\BL W w':=by
 obtain⟨pt,rfl⟩:=h.ptr K;have ab:J (∀X,BL W X->∀i (h1:i<d.length) (h2:i<k.ids.length),Qe Qf 47 #[V (H pt),O U k.ids[i]] X fun e w'=> ∃vf,e=Qc (Qa #[A9 d[i] vf,Qm])/\Ai w' vf d[i].2.2.2.2.2.2/\FS X vf/\BL X w'):=fun X g i h1 h2 =>
  UZ K HL X _ SP k.st k.ids[i] d[i] (K.below _ _ hE (g.mono (K.size _ hE))) (K.keep _ _ _ _ (fun _=>False) _ h.st (Ac.of_below g) (fun _ _ h=>h)) hk (aa i h1 h2).1 (aa i h1 h2).2 (al _ (Qu _))
 obtain⟨d0,-,-,d3,-⟩:=h.blk.cells;obtain⟨q,c,rfl⟩:=h.ids.1.form;have ac:J (∀i (h2:i<k.ids.length),∃b o,q=H ⟨b,o,Z⟩/\W.cell? ⟨b,o+i,Z⟩=H (O U k.ids[i])):=fun i h2=>by
  rcases h.ids.1 with⟨_,_,_,e⟩|⟨b,o,c',hv,hc⟩
  ·rw[e]at h2;simp at h2
  ·injection hv with hq;exact⟨b,o,hq,hc i h2⟩
 obtain⟨L,hL⟩:∃L,k.ids.length=L:=⟨_,rfl⟩;have l:J (k.ids.length=L/\d.length=L):=⟨hL,hl.trans hL⟩;rw[hL]at d3
 go_enter func41,ntmps41
 go_wp2_with fail
 go_loopw [4,6,7,8,14] (fun o _ _ _ i wr=> ∃n:Nat,n<=L/\i=O U n/\D5 wr W.heap.size o (d.take n)/\BL W wr) (fun _ _ _ _ i _=>L-(intOf i).toNat)
 case atStart=>exact ⟨0,by omega,rfl,D5.nil _ _,Below.refl _ _⟩
 case round =>
 obtain⟨n,hn,rfl,ho,g⟩:=hrel;have HO:J (D5 wr W.heap.size u4 (d.take n)):=ho;by_cases D:n<L
 case neg =>
  obtain rfl:n=L:=by omega
  have HT:J (D5 wr W.heap.size u4 d):=by
   have:=HO.out;rw[Qz (by rw[l.out.2];exact Qr _)]at this;exact this
  go_wp2;go_ret2;exact⟨_,rfl,HT.out,g⟩
 case pos =>
 have E:n<d.length:=by rw[l.out.2];exact D
 have F:n<k.ids.length:=by rw[l.out.1];exact D
 obtain⟨b,o,rfl,e0⟩:=ac.out n F;replace e0:=Aa g e0;have f0:=Aa g d0;have N:=ab.out wr g n E F;have P:J (d.take (n+1)=d.take n++ [d[n]]):=(Q0 E).symm;have ad:J ((d.take n).length<=1000):=by
  show (d.take n).length<=1000;rw[Qv];omega
 generalize d[n]=x at N P
 go_wp2_with fail
 refine N.mono ?_;rintro e C ⟨vf,rfl,m,ak,Y⟩;have ae:=Ad g Y;obtain⟨q,c,rfl⟩:=m.form;obtain⟨p,r,s,t,u,v,y⟩:=x;have af:=HO.out.below Y;have Q:J (∀j,(S q y.length c).ownBlock=H j->u4.ownBlock≠H j):=fun j hj e=>by
  have h1:=ak j hj;have h2:=(HO.out.blk e).2;omega
 obtain⟨M,hM⟩:∃M,y.length=M:=⟨_,rfl⟩;rw[hM]at m Q ⊢;have R:=Al.new C (p,r,s,t,u,v,y) (S q M c);have f:BL C (C.alloc (G #[O U p,O U r,O U s,O U t,O U u,I v,S q M c] 40)):=Af _ _;unfold A9
 go_upto_region 6 with fail
 generalize C.alloc (G #[O U p,O U r,O U s,O U t,O U u,I v,S q M c] 40)=WA at R f ⊢;obtain⟨p0,p1,p2,p3,p4,p5,p6⟩:=R.cells;have T:=Ad ae f;obtain⟨v',W2,hr,ai,aj⟩:=(af.below f).run T.size (p,r,s,t,u,v,y) q M c (m.below f) (fun _ j hj=>Q.out j hj) ad.out;have ag:J (D5 W2 W.heap.size v' (d.take (n+1))):=by
  show D5 _ _ _ _;rw[P.out];exact ai
 have ah:=T.trans aj
 go_wp2_with (at_builtin;refine wpList_append_run (by rfl) _ _ _ (by rfl) _ _ _ (by rfl) (by rfl) hr ?_)
 go_roundw
 case rel=>exact ⟨n+1,by omega,by go_num,ag.out,ah⟩
 case measure=>simp [intOf];omega
end
def DU (f:ByteArray):Prop:= ∃g:List UInt8,f.data.toList=g++ [47]/\g.length=4/\g.all GM=true
structure Rm (n:Nat) (s:St):Prop where
 on:s.off=false
 cut:s.cut= -1
 cnt:s.obs.length+n<=200
 byt:Cq s.obs+n*20000<=262144
 num:Ag s+n<=1000000
theorem Va:∀(l:List Ob) (n:Int),0<=n->n<=l.foldl EP n/\∀o∈l,Gb o.1<=l.foldl EP n
 | [],n,_=>⟨Int.le_refl _,fun o h=>by cases h⟩
 | x :: r,n,hn=>by
  have e:=OX hn x;obtain⟨d,c⟩:=Va r (EP n x) (by rw[e];omega);refine⟨by rw[Qw];omega,fun o b=>?_⟩;rw[Qw];rcases List.mem_cons.1 b with rfl | b
  ·omega
  ·exact c o b
theorem Vb:∀(l:List Ob) (n m:Int),0<=n->n<=m->(∀o∈l,Gb o.1<=m)->l.foldl EP n<=m
 | [],_,_,_,h,_=>h
 | x :: r,n,m,hn,h,hx=>by
  have e:=OX hn x;have b:=hx x List.mem_cons_self;rw[Qw];exact Vb r _ m (by rw[e];omega) (by rw[e];omega) (fun o ho=>hx o (List.mem_cons_of_mem _ ho))
theorem KY {s:St} {o:Ob} (h:o∈s.obs):Gb o.1<Ag s:=by
 have:=(Va s.obs 0 (by decide)).2 o h;unfold Ag EQ;omega
theorem Pc {f:ByteArray} (j:DU f) {n:Int} (k:(A n).length<=11):Gb (f++Ab (A n))=n:=by
 obtain⟨g,e,-,-⟩:=j;have d:Iv (f++Ab (A n)).data.toList=A n:=by
  have i:(f++Ab (A n)).data.toList=g++47 :: A n:=by
   rw[show (f++Ab (A n)).data.toList=f.data.toList++(Ab (A n)).data.toList by simp,e,BQ];simp
  rw[i];unfold Iv;rw[List.reverse_append,List.reverse_cons,List.append_assoc,List.takeWhile_append_of_pos (fun c hc=>?_)]
  ·simp
  ·rcases RC n c (List.mem_reverse.1 hc) with rfl | ⟨a,b⟩
   ·decide
   ·refine decide_eq_true fun e=>?_;rw[e]at a;revert a;decide
 unfold Gb KA;rw[d];unfold As;rw[if_pos k,IE];simp
theorem ML:DU ⟨#[115,110,97,112,47]⟩:=⟨[115,110,97,112],rfl,rfl,by decide⟩
theorem MM:DU ⟨#[109,101,116,97,47]⟩:=⟨[109,101,116,97],rfl,rfl,by decide⟩
theorem Vc:DU ⟨#[100,97,116,97,47]⟩:=⟨[100,97,116,97],rfl,rfl,by decide⟩
theorem qS:DU ⟨#[103,111,110,101,47]⟩:=⟨[103,111,110,101],rfl,rfl,by decide⟩
theorem Pd {s:St} {n t:ByteArray} (h:AK s n t):∃o∈s.obs,o.1=n:=by
 unfold AK AV at h
 cases e:B1 s.obs n with
 | none=>rw [e]at h;cases h
 | some o=>exact ⟨o,(FG e).1,(FG e).2⟩
theorem KZ {s:St} (k:AR s) {f t:ByteArray} {n:Int} (l:DU f) (h:AK s (f++Ab (A n)) t):n<Ag s:=by
 obtain⟨o,c,e⟩:=Pd h;have:=KY c;have b:=G5 (k.names o c);rw[e]at this b;obtain⟨g,d,i,j⟩:=l;have m:f.size=5:=by rw[<-AA,d,Qo,i];rfl
 rw[Qt,E9]at b;rw[Pc ⟨g,d,i,j⟩ (by omega)]at this;exact this
theorem qT {f:ByteArray} (k:DU f) {n:Int} (l:1<=n) (m:n<=1073741824):CF (f++Ab (A n)).data.toList=true:=by
 obtain⟨g,e,d,i⟩:=k;obtain⟨o,j⟩:=UT l m;have c:(f++Ab (A n)).data.toList=g++47 :: A n:=by
  rw[show (f++Ab (A n)).data.toList=f.data.toList++(Ab (A n)).data.toList by simp,e,BQ];simp
 rw[c];unfold CF;rw[List.all_append,i,List.all_cons,List.all_eq_true.2 j,Qo,Qs,d];have b:GM 47=true:=by decide
 rw[b];simp only[Bool.and_true,Bool.true_and,decide_eq_true_eq,Bool.and_eq_true];omega
theorem qU (l:List Ob) (o:Ob):Cq (Cr l o)=Cq l+o.2.1.size:=by
 have h:Cq l=Cq (l.takeWhile (fun p=>decide (p.1.data.toList<o.1.data.toList)))+Cq (l.dropWhile (fun p=>decide (p.1.data.toList<o.1.data.toList))):=by
  unfold Cq;rw[<-Q1,<-Q2,List.takeWhile_append_dropWhile]
 rw[h];unfold Cr Cq;rw[Q2,List.map_cons,Q1,List.sum_cons];omega
theorem La {n:Nat} {s:St} (h:Rm (n+1) s) {f t:ByteArray} (q:DU f) (B:t.size<=20000):BG s (f++Ab (A (Ag s))) t=0/\Rm n (B0 s (f++Ab (A (Ag s))) t):=by
 have g:=Id s;have i:Ag s<=1073741824:=by have:=h.num;omega
 have j:=qT q g.1 i;have b:=Pc q (n:=Ag s) (UT g.1 i).1;have y:=h.cnt;have z:=h.byt;have k:Au s t.size=(t.size,s):=by unfold Au;rw[h.cut];rfl
 have l:CP s (f++Ab (A (Ag s))) t=0:=by
  unfold CP;rw[if_neg (by rw[j];simp),if_neg (by omega),if_neg (by rw[h.on];simp),if_neg,if_neg (by omega)];intro e
  cases p:B1 s.obs (f++Ab (A (Ag s))) with
  | none=>rw [p]at e;cases e
  | some o =>
   obtain⟨r,u⟩:=FG p;have:=KY r;rw[u,b]at this;omega
 have c:=JX l;rw[k]at c;have m:Ab (t.data.toList.take t.size)=t:=dF t;rw[m]at c;refine⟨?_,?_⟩
 ·unfold BG;rw[if_neg (by simpa using l),k];dsimp only;rw[if_neg (by rw[h.on];simp)]
 ·rw[c];refine⟨h.on,h.cut,by dsimp only;rw[N7];omega,by dsimp only;rw[qU];dsimp only;omega,?_⟩;have v:EQ (Cr s.obs (f++Ab (A (Ag s)),t,s.day))<=Ag s:=by
   refine Vb _ 0 _ (by decide) (by omega) fun o d=>?_;rcases GN.1 d with rfl | d
   ·rw[b];exact Int.le_refl _
   ·exact Int.le_of_lt (KY d)
  have:=h.num;show EQ (Cr s.obs (f++Ab (A (Ag s)),t,s.day))+1+(n:Int)<=1000000;omega
theorem qV {n:Nat} {s:St} (h:Rm n s) {t:ByteArray} (f:t.size<=20000):C7 s s.head t=0/\Rm n (B5 s s.head t):=by
 have b:Au s t.size=(t.size,s):=by unfold Au;rw[h.cut];rfl
 have c:Ea s s.head t=0:=by
  unfold Ea;rw[if_neg (by omega),if_neg (by rw[h.on];simp),if_neg (fun e=>e rfl)]
 have d:B5 s s.head t= { s with head:=t } :=by
  unfold B5;rw[if_neg (by simpa using c),b];dsimp only;rw[if_neg (Q3 _)]
 refine⟨?_,?_⟩
 ·unfold C7;rw[if_neg (by simpa using c),b];dsimp only;rw[if_neg (Q3 _)]
 ·rw[d];exact⟨h.on,h.cut,h.cnt,h.byt,h.num⟩
abbrev Dr:=ByteArray×ByteArray×ByteArray
def Gc (d:Dr):List Qd:= [I d.1,I d.2.1,I d.2.2]
def I1 (ds:List Dr):List Qd:=ds.flatMap Gc
theorem Vd:∀(ds:List Dr) (j c:Nat) (h:j<ds.length),c<3->(I1 ds)[j*3+c]? =(Gc ds[j])[c]?
 | [],j,_,h,_=>by simp at h
 | p :: ps,0,c,_,hc=>by
  simp only[I1,Q4,Nat.zero_mul,Nat.zero_add,List.getElem_cons_zero];rw[List.getElem?_append_left (by rw[show (Gc p).length=3 from rfl];exact hc)]
 | p :: ps,j+1,c,h,hc=>by
  have b:j<ps.length:=by simp at h;omega
  have:=Vd ps j c b hc;simp only[I1,Q4,List.getElem_cons_succ]at *;rw[List.getElem?_append_right (by rw[show (Gc p).length=3 from rfl];omega),show (Gc p).length=3 from rfl,show (j+1)*3+c-3=j*3+c by omega];exact this
def AZ (W:Qb) (B:Nat) (v:Qd) (ds:List Dr):Prop:=W.ownsRow B 111 3 v ds.length (I1 ds)
theorem AZ.nil (W:Qb) (B:Nat):AZ W B (S Z 0 0) []:=World.ownsRow_nil _ _ _ _
theorem AZ.below {W b:Qb} {B:Nat} {v:Qd} {ds:List Dr} (h:AZ W B v ds) (c:BL W b):AZ b B v ds:=AO (P:=fun _=>False) h (Ac.of_below c) (fun _ _ h=>h)
theorem AZ.but {W b:Qb} {B:Nat} {P:Nat->Prop} {v:Qd} {ds:List Dr} (h:AZ W B v ds) (c:Ac P W b) (d:∀j,v.ownBlock=H j->¬P j):AZ b B v ds:=AO h c d
theorem AZ.at {W:Qb} {B:Nat} {v:Qd} {ds:List Dr} (h:AZ W B v ds):∃q c,v=S q ds.length c/\∀j (hj:j<ds.length),∃g,q=H ⟨g,0,Z⟩/\W.cell? ⟨g,j*3,Z⟩=H (I ds[j].1)/\W.cell? ⟨g,j*3+1,Z⟩=H (I ds[j].2.1)/\W.cell? ⟨g,j*3+2,Z⟩=H (I ds[j].2.2):=by
 rcases h.2 with⟨i,k⟩|⟨g,n,o,rfl,_,l,p,_,_,m⟩
 ·have d:=List.length_eq_zero_iff.1 k;subst d;exact⟨Z,0,i,fun j hj=>by simp at hj⟩
 ·refine⟨_,_,rfl,fun j hj=>⟨g,rfl,?_⟩⟩;have b:∀c,c<3->W.cell? ⟨g,j*3+c,Z⟩=(Gc ds[j])[c]? :=fun c b=>by
   have e:=Vd ds j c hj b;have f:c<(Gc ds[j]).length:=b;rw[List.getElem?_eq_getElem f]at e ⊢;rw[<-m,List.getElem?_take,if_pos (by omega)]at e;simp only[World.cell?,l];simpa using e
  exact⟨b 0 (by omega),b 1 (by omega),b 2 (by omega)⟩
inductive Puts (s:St):List Dr->St->List ByteArray->Prop
 | nil:Puts s [] s []
 | step {ds:List Dr} {t:St} {ps:List ByteArray} (d:Dr):Puts s ds t ps->BG t (d.1++Ab (A (Ag t))) d.2.2=0->Puts s (ds++ [d]) (B0 t (d.1++Ab (A (Ag t))) d.2.2) (ps++ [d.1++Ab (A (Ag t))])
theorem Puts.len {s b:St} {ds:List Dr} {ps:List ByteArray} (h:Puts s ds b ps):ps.length=ds.length:=by
 induction h with
 | nil=>rfl
 | step d h0 hc ih=>rw [Qo,Qo,ih];rfl
theorem Puts.gw {s c:St} {ds:List Dr} {ps:List ByteArray} (h:Puts s ds c ps) (g:B3 s) (f:∀d∈ds,Bp d.1):Gw s c:=by
 induction h with
 | nil=>exact Gw.refl g
 | step d h0 hc ih =>
  have b:=ih (fun e he=>f e (Q5 _ he));exact b.trans (Jp b.good _ (Jr _ _ (f d (by simp))))
def MN (s:St) (ds:List Dr):Prop:=Rm ds.length s/\∀d∈ds,DU d.1/\d.2.2.size<=20000
theorem Puts.rm {s g:St} {ds:List Dr} {ps:List ByteArray} (h:Puts s ds g ps):∀ {n:Nat},Rm (ds.length+n) s->(∀d∈ds,DU d.1/\d.2.2.size<=20000)->Rm n g:=by
 induction h with
 | nil=>intro n b _;simpa using b
 | step d h0 hc ih =>
  intro n b f;have c:=f d (by simp);exact(La (ih (n:=n+1) (by rw[Qo,Qs,List.length_nil]at b;rw[show ∀a:Nat,a+(n+1)=a+(0+1)+n from fun a=>by omega];exact b) (fun e he=>f e (Q5 _ he))) c.1 c.2).2
theorem Puts.next {s b:St} {ds:List Dr} {ps:List ByteArray} {n:Nat} (h:Puts s (ds.take n) b ps) (i:n<ds.length) (c:MN s ds):BG b (ds[n].1++Ab (A (Ag b))) ds[n].2.2=0:=by
 have f:=c.2 ds[n] (Qu _);have g:Rm (ds.length-n-1+1) b:=h.rm (by rw[Qv,show min n ds.length+(ds.length-n-1+1)=ds.length by omega];exact c.1) (fun d hd=>c.2 d (Q6 hd));exact(La g f.1 f.2).1
section
variable {a : Nat → Qn} {B : Nat} {EM : Qb → Prop}
def MO (a:Nat->Qn) (W:Qb) (kb:Nat) (vs:Qd) (SP:Nat->Prop) (hd:ByteArray) (vi vf:Qd) (k:Lk) (ds:List Dr) (e:Ending) (w':Qb):Prop :=
 ∃v' n SP' s',e=Qc (Qa #[v',Ae a n])/\Ac SP W w'/\(∀j,SP' j->SP j\/W.heap.size<=j)/\Gw k.st s'/\An w' kb vs SP' hd vi vf { k with st:=s' } /\(n≠0->¬MN k.st ds)/\(n=0->∃ps,Puts k.st ds s' ps/\w'.ownsRow W.heap.size 9 1 v' ps.length (ps.map I))
theorem qW (K:AJ a B EM A0) (HL:∀X,EM X->Bg X a) {W:Qb} {N:Nat} {vs:Qd} {p:Nat->Prop} {E:ByteArray} {Q vf:Qd} {k:Lk} (hE:EM W) (h:An W N vs p E Q vf k) (hg:B3 k.st) (hB:∀j,p j->B<=j) {D:Nat} {v:Qd} {ds:List Dr} (bz:AZ W D v ds) (b1:∀d∈ds,Bp d.1/\d.1.size<=100/\d.2.2.size<=100000) (b2:∀j,v.ownBlock=H j->¬p j) (hl:ds.length<=1000) :
  Qe Qf 110 #[V (H ⟨N,0,Z⟩),v] W (MO a W N vs p E Q vf k ds):=by
 obtain⟨F,rfl⟩:=h.ptr K;have av:J _:=K.size _ hE;have aw:J (∀X b s,Ac p W X->(∀j,b j->p j\/W.heap.size<=j)->Gw k.st s->An X N (V (H F)) b E Q vf { k with st:=s } ->EM X/\Qe Qf 70 #[V (H F)] X fun e w'=>e=Qc (O U (Ag s))/\BL X w'):=fun X b s y ab hgX hX=>by
  have ae:=K.below _ _ hE (y.below av.out hB);exact⟨ae,MI K (fun Y hY=>(HL Y hY).s) X _ b s ae hX.st hgX.good.keeps (fun o ho=>by have:=(G5 (hgX.good.keeps.names o ho));omega) hgX.good.slb⟩
 have bc:J _:=fun X b s n t (ae:EM X) (hgX:B3 s) (hX:An X N (V (H F)) b E Q vf { k with st:=s }) (hn:n.size<=1000) (ht:t.size<=100000)=>K.put X _ b s n t ae hX.st hgX.keeps hn ht;have HQ:J _:=h;have HG:J _:=hg;have ax:J _:=b1;obtain⟨q,c,hv,br⟩:=bz.at;subst hv;have bd:J (∀X,Ac p W X->∀j (hj:j<ds.length),∃g,q=H ⟨g,0,Z⟩/\X.cell? ⟨g,j*3,Z⟩=H (I ds[j].1)/\X.cell? ⟨g,j*3+1,Z⟩=H (I ds[j].2.1)/\X.cell? ⟨g,j*3+2,Z⟩=H (I ds[j].2.2)):=fun X y j hj=>by
  obtain⟨g,rfl,h0,h1,h2⟩:=br j hj;have am:=b2 g rfl;exact⟨g,rfl,y.keep am h0,y.keep am h1,y.keep am h2⟩
 obtain⟨L,hL⟩:∃L,ds.length=L:=⟨_,rfl⟩;have an:J _:=hL;rw[hL]at hl ⊢
 go_enter func110,ntmps110
 go_wp2_with fail
 go_loopw [6,8,9,10,13] (fun o _ _ _ i wr=> ∃(n:Nat) (M:List ByteArray) (b:Nat->Prop) (s:St),n<=L/\i=O U n/\Puts k.st (ds.take n) s M/\wr.ownsRow W.heap.size 9 1 o M.length (M.map I)/\An wr N (V (H F)) b E Q vf { k with st:=s } /\Ac p W wr/\(∀j,b j->p j\/W.heap.size<=j)/\∀j,o.ownBlock=H j->¬b j) (fun _ _ _ _ i _=>L-(intOf i).toNat)
 case atStart=>exact ⟨0, [],p,k.st,by omega,rfl,Puts.nil,World.ownsRow_nil _ _ _ _,HQ.out,Ac.refl _ _,fun j h=>Or.inl h,fun j h=>by simp[Value.ownBlock]at h⟩
 case round =>
 obtain⟨n,M,b,s,hn,rfl,C,ho,hP,ad,ab,ba⟩:=hrel;have T:=C.gw HG.out (fun d E=>(ax.out d (Q6 E)).1);have b3:M.length<=1000:=by
  have h1:=C.len;rw[Qv,an.out]at h1;omega
 by_cases be:n<L
 case neg =>
  obtain rfl:n=L:=by omega
  have b4:¬(n:Int)<(n:Int):=by omega
  have HE:J (MO a W N (V (H F)) p E Q vf k ds (Qc (Qa #[u6,Ae a 0])) wr):=⟨_,0,b,s,rfl,ad,ab,T,hP,fun e=>absurd rfl e,fun _=>⟨M,by rw[Qz (by rw[an.out];exact Qr _)]at C;exact C,ho⟩⟩;go_wp2;go_ret2;exact HE.out
 case pos =>
 have ao:n<ds.length:=by rw[an.out];exact be
 obtain⟨g,rfl,e0,e1,e2⟩:=bd.out wr ad n ao;obtain⟨aq,a5,ar⟩:=ax.out ds[n] (Qu _);have ay:J _:=(Q0 ao).symm;have ac:J (MN k.st ds->BG s (ds[n].1++Ab (A (Ag s))) ds[n].2.2=0):=fun h=>C.next ao h;generalize ds[n]=d at e0 e1 e2 aq a5 ar ay ac;obtain⟨f,dp,z⟩:=d;dsimp only at e0 e1 e2 aq a5 ar ac;have b5:(n:Int)<(L:Int):=by omega
 have b6:(0:Int)<=(n:Int):=by omega
 have aa:BL wr (wr.alloc (G #[I f,I dp,I z] 111)):=Af _ _;have af:=heap_alloc_new wr (G #[I f,I dp,I z] 111);have HO:J _:=ho;have u:=ad.trans (Ac.of_below (P:=fun _=>False) aa) (fun _ h _=>h.elim);have ag:=hP.quiet K aa;have ah:J (∀j,u6.ownBlock=H j->¬b j/\j<wr.heap.size):=fun j hj=>⟨ba j hj,(AF ho hj).2.1⟩;have az:=AO (P:=fun _=>False) ho (Ac.of_below aa) (fun _ _ h=>h)
 go_upto_region 5 with fail
 generalize wr.alloc (G #[I f,I dp,I z] 111)=r at aa af u ag az ⊢;have bf:=aa.size;generalize wr.heap.size=db at af ah bf ⊢;have q0:r.cell? ⟨db,0,Z⟩=H (I f):=by rw[Q7 _ _ _ _ _ _ af];rfl
 have q2:r.cell? ⟨db,2,Z⟩=H (I z):=by rw[Q7 _ _ _ _ _ _ af];rfl
 obtain⟨b0,-⟩:=ag.blk.cells;have ai:=K.below _ _ (aw.out W p k.st (Ac.refl _ _) (fun _ h=>Or.inl h) (Gw.refl HG.out) HQ.out).1 (u.below av.out hB);have bg:J (∀X,BL r X->Qe Qf 70 #[V (H F)] X fun e w'=>e=Qc (O U (Ag s))/\BL X w'):=fun X hb=>(aw.out X b s (u.trans (Ac.of_below (P:=fun _=>False) hb) (fun _ h _=>h.elim)) ab T (ag.quiet K hb)).2;have bh:J (∀X,BL r X->Qe Qf 96 #[I f,O U (Ag s)] X fun e w'=>e=Qc (I (f++Ab (A (Ag s))))/\BL X w'):=fun X hb=>MJ f _ X (HL X (K.below _ _ ai (hb.mono (K.size _ ai)))).s (by omega) (by have:=Id s;omega);have bi:(f++Ab (A (Ag s))).size<=1000:=by
  rw[Qt,E9];have:=Id s;have:=Qy (Ag s) (by omega) (by omega);omega
 have bj:J (∀X,BL r X->Qe Qf 137 #[V (H F),I (f++Ab (A (Ag s))),I z] X fun e w'=>e=Qc (Ae a (BG s (f++Ab (A (Ag s))) z))/\∃l,An w' N (V (H F)) l E Q vf { k with st:=B0 s (f++Ab (A (Ag s))) z } /\Ac b r w'/\∀j,l j->b j\/r.heap.size<=j):=fun X hb=>by
  have a0:=ag.quiet K hb;refine(bc.out X b s _ z (K.below _ _ ai (hb.mono (K.size _ ai))) T.good a0 bi ar).mono fun e w' ⟨h1,h2⟩=>?_;obtain⟨l,h3,h4,h5⟩:=a0.post h2;exact⟨h1,l,h3,(Ac.of_below hb).trans h4 (fun _ h _=>h),fun j hj=>(h5 j hj).imp_right (Qq hb.size)⟩
 have bk:J (Gw k.st (B0 s (f++Ab (A (Ag s))) z)):=T.trans (Jp T.good _ (Jr _ _ aq));have bl:J (BG s (f++Ab (A (Ag s))) z=0->Puts k.st (ds.take (n+1)) (B0 s (f++Ab (A (Ag s))) z) (M++ [f++Ab (A (Ag s))])):=fun h0=>by
  rw[ay.out];exact Puts.step (f,dp,z) C h0
 generalize B0 s (f++Ab (A (Ag s))) z=S1 at *;generalize BG s (f++Ab (A (Ag s))) z=C1 at *;generalize f++Ab (A (Ag s))=PN at *;generalize Ag s=NN at *;have a8:Tryz.prog.follows .mixedOrders=true:=by kernel_rfl
 have f0:=Q8 q0;have f1:=Q8 b0;have a1:=fun d os=>Calls.regrown_of (w:=r) (d:=d) (os:=os) (bg.out _ (Qx r d os));have a2:=fun d os=>Calls.regrown_of (w:=r) (d:=d) (os:=os) (bh.out _ (Qx r d os));refine wp_region_quiet_below a8 (by kernel_rfl) ?_
 repeat (go_big_quiet_step (first | exact a1 _ _ | exact a2 _ _))
 refine wpQuiet_nil ?_;intro _ bu;obtain⟨⟨dq,a6⟩,bb⟩:=bu;subst bb;have aj:=Qx r dq a6;clear a1 a2 f0 f1;generalize grow (redrawn r dq) a6=WB at aj ⊢;have bm:=Aa aj q2;have bn:=Aa aj b0;have ap:BL WB WB.drew:=(Below.refl _ _).drew;have b7:=Aa ap bm;have b8:=Aa ap bn;have a9:=Ad aj ap
 go_upto_region 6 with fail
 go_cut [10] from 25 to 33 (fun c wx=> ∃l,c=Ae a C1/\An wx N (V (H F)) l E Q vf { k with st:=S1 } /\Ac b r wx/\∀j,l j->b j\/r.heap.size<=j)
 case first =>
  first
   | (go_region_with (go_at_call 137;(with_reducible refine(bj.out _ a9).mono ?_);rintro e wZ ⟨rfl,l,bv,bw,bx⟩))
   | fail
  all_goals
   go_wp2;go_meet
   case rel=>exact ⟨l,rfl,bv,bw,bx⟩
 case rest =>
 obtain⟨l,rfl,au,ak,a7⟩:=hcut;have y:=u.trans ak (fun j hj hjl=>(ab j hj).elim id (fun e=>absurd hjl (by omega)));have a3:∀j,l j->p j\/W.heap.size<=j:=fun j hj=>(a7 j hj).elim (ab j) (fun e=>Or.inr (Qq u.size e));have R:=AO az ak (fun j hj=>(ah.out j hj).1);have a4:J (∀j,u6.ownBlock=H j->¬l j/\j<wc.heap.size):=fun j hj=>⟨fun e=>(a7 j e).elim (ah.out j hj).1 (fun e'=>absurd (ah.out j hj).2 (by omega)),(AF R hj).2.1⟩;by_cases hC:C1=0
 case neg =>
  have HE:J (MO a W N (V (H F)) p E Q vf k ds (Qc (Qa #[S Z 0 0,Ae a C1])) wc):=⟨_,C1,l,S1,rfl,y,a3,bk.out,au,fun _ h=>hC (ac.out h),fun e=>absurd e hC⟩;obtain⟨m,rfl⟩:∃m,C1=m+1:=⟨C1-1,by omega⟩;simp only[Ae]at HE ⊢;go_wp2;go_ret2;exact HE.out
 case pos =>
 subst hC;simp only[Ae];have C:=bl.out rfl;obtain⟨v',W2,hr,bs,al,bt⟩:=KM R y.size PN rfl (by omega);have bo:=y.trans al (fun j hj hjl=>absurd hjl (by have:=(AF R hj).1;omega));have bp:=au.but K al (fun j hj e=>(a4.out j e).1 hj) (fun e=>by have:=(AF R e).1;have:=HQ.out.blk.lt;omega) (fun hne j hj e=>by have:=(AF R e).1;have:=KO HQ.out.ids.1 hne hj;omega) (fun hne j hj e=>by have:=(AF R e).1;have:=JU HQ.out.fls hne hj;omega);have bq:∀j,v'.ownBlock=H j->¬l j:=fun j hj=>by
  rcases bt with e | ⟨i,e,e1,e2⟩
  ·exact(a4.out j (e▸hj)).1
  ·rw[e]at hj;injection hj with hj;subst hj;exact fun e'=>absurd ((au.sizes K).2 _ e') (by omega)
 have HR:J (Puts k.st (ds.take (n+1)) S1 (M++ [PN])/\W2.ownsRow W.heap.size 9 1 v' (M++ [PN]).length ((M++ [PN]).map I)/\An W2 N (V (H F)) l E Q vf { k with st:=S1 } /\Ac p W W2/\(∀j,l j->p j\/W.heap.size<=j)/\∀j,v'.ownBlock=H j->¬l j):=⟨C,bs,bp,bo,a3,bq⟩
 go_wp2_with (at_builtin;refine wpList_append_run (by rfl) _ _ _ (by rfl) _ _ _ (by rfl) (by rfl) hr ?_)
 go_roundw
 case rel=>exact ⟨n+1,M++ [PN],l,S1,by omega,by go_num,HR.out⟩
 case measure=>simp [intOf];omega
end
end Go.Proofs.YtcllhobffhkafaaGreatDoor
