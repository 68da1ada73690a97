/- By an AI agent. -/
import Derived.Test.YtcllhobffhkafaaGreatDoorStoreLaw
import Derived.Lib.SliceRun
import Derived.Laws.AppendOwn
import Derived.Deep.RegionLaw
import Derived.Deep.CutRange
import Derived.BigFrame
set_option maxRecDepth 100000
set_option maxHeartbeats 16000000
open Go.Proofs.Tryz
open Array renaming getElem?_setIfInBounds->QG,getElem?_toList->Xx
open Bool renaming false->Qb,true->Qe
open Go renaming World->H,Value->V,Calls->Qc,Addr->Qf,maxLen->Qq,heap_setCell_same->Qu,TypeId->Qz,Oper->Q0,callFunc->Q8,bodyPost_ret->QD,results->QE,cell_of_row->QF,heap_alloc_new->QN,wpList->QT,lt_of_block->Xe,madeCells->Xg,Program->Xi,Operand->Xj,execOp->Xk,resolve->Xl,invoke->Xm,builtin->Xn,frozen_of_row->Xw,wpList_plain->X0
open Go.Builtin renaming zeroCells->Qs,append_->Q9,clear_->Xd,append->X8
open Go.Ending renaming returned->Qd
open Go.IntKind renaming i64->O,wrap_u64->X7
open Go.IntWalk renaming i64_in->QI
open Go.Lib renaming itoa->Qg,compareInt->Qm,compareBytes->QA,IsBuilder->QL,byteCells->QM,byteCells_append->Xs,join->Xt
open Go.Obj renaming cells->A
open Go.Proofs renaming intOf->Qi
open Go.Proofs.Tryz renaming prog->Qa,func153->Qx,ntmps153->Qy,func154->QB,ntmps154->QC,results155->QS,func223->QU,ntmps223->QV,func238->QX,ntmps238->QY,func158->Xa,underlying38->Xb,underlying32->Xy,underlying82->X4
open Go.RowKit renaming Hid->J
open Go.RowKit.Below renaming refl->Qw,size->Q1,trans->Q3,drew->Q4
open Go.Value renaming int->U,string->Z,slice->G,pointer->Qh,iface->Qj,agg->Ql,tuple->Qn,bool->Qr,cells->Qv,ownBlock->Q6,nilIface->QK
open Go.Value.slice renaming injEq->Xh
open Go.World renaming ownsRow_nil->QO
open List renaming getElem_mem->Qt,length_take->Q5,length_append->Q7,getElem?_eq_none->QQ,getElem?_take->QR,length_pos_iff->QW,getElem?_eq_getElem->Xf,map_append->Xo,getElem_take->Xq,mem_iff_getElem->Xr,any_eq_false->Xu,mem_map->Xv,take_length->Xz,map_toArray->X1,map_cons->X2,map_nil->X3,mem_singleton->X5
open Nat renaming le_refl->Qp,not_lt_zero->Q2,lt_or_ge->QH,le_of_lt->QJ,lt_of_lt_of_le->QP,zero_add->QZ,zero_le->Xc,le_trans->X6
open Option renaming none->I,some->S,ne_none_iff_exists'->Xp
open Or renaming inr->Qk,inl->Qo
namespace Go.Proofs.YtcllhobffhkafaaGreatDoor
open Go.RowKit Go.Extern.Stop Go.Stop Go.Extern Go.Sort Go.Shelf Go.Lib
structure DC (w:H) (a:Nat->Qf):Prop where
 file:Hb w a
 miss:w.cell? ⟨3,0,I⟩=S (Qj 410 (Qh (S (a 5))))
 exist:w.cell? ⟨11,0,I⟩=S (Qj 410 (Qh (S (a 6))))
 full:w.cell? ⟨6,0,I⟩=S (Qj 410 (Qh (S (a 7))))
 order:w.cell? ⟨7,0,I⟩=S (Qj 410 (Qh (S (a 8))))
theorem DC.below {w w':H} {a:Nat->Qf} (h:DC w a) (b:BL w w'):DC w' a :=
 ⟨h.file.below b,Aa b h.miss,Aa b h.exist,Aa b h.full,Aa b h.order⟩
def Kv (x y:Int):Int:=if x=0 then y else x
theorem U5 (x y:Int) (b:Nat) (w:H) (i:w.cell? ⟨b,0,I⟩=S (U O x)) (j:w.cell? ⟨b,1,I⟩=S (U O y)) :
  Qc Qa 185 #[G (S ⟨b,0,I⟩) 2 2] w fun e w'=>e=Qd (U O (Kv x y))/\w'=w:=by
 go_enter func185,ntmps185
 go_wp2
 go_loopw [8] (fun k wr=> ∃n:Nat,n<=2/\k=U O n/\(1<=n->x=0)/\(2<=n->y=0)/\wr=w) (fun k _=>2-(Qi k).toNat)
 case atStart=>exact ⟨0,by omega,rfl,fun h=>absurd h (by omega),fun h=>absurd h (by omega),rfl⟩
 case round =>
  obtain⟨n,g,rfl,c,d,rfl⟩:=hrel;obtain rfl | rfl | rfl:n=0\/n=1\/n=2:=by omega
  ·clear c d;by_cases c:x=0
   ·subst c;go_wp2;go_roundw
    case rel=>exact ⟨1,by omega,by go_num,by simp,by simp,by first | rfl | trivial⟩
    case measure=>simp [Qi]
   ·have f:(x == 0)=Qb:=beq_eq_false_iff_ne.2 c;go_wp2;go_ret;exact⟨by rw[Kv,if_neg c];rfl,rfl⟩
  ·obtain rfl:=c (by omega);by_cases d:y=0
   ·subst d;go_wp2;go_roundw
    case rel=>exact ⟨2,by omega,by go_num,by simp,by simp,by first | rfl | trivial⟩
    case measure=>simp [Qi]
   ·have f:(y == 0)=Qb:=beq_eq_false_iff_ne.2 d;go_wp2;go_ret;exact⟨rfl,rfl⟩
  ·obtain rfl:=c (by omega);obtain rfl:=d (by omega);go_wp2;go_ret;exact⟨rfl,rfl⟩
theorem U6 {p q:List UInt8} {g k:Bool} {n m:Int} (d:AB p=S (g,n)) (f:AB q=S (k,m)):Kv (QA (AH g) (AH k)) (Qm n m)=Qm (pk p) (pk q):=by
 obtain⟨b,i,j⟩:=Kd d;obtain⟨c,l,o⟩:=Kd f;rw[b,c];cases g<;>cases k
 ·rfl
 ·have:QA (AH Qb) (AH Qe)= -1:=by decide
  rw[this];unfold Qm Kv;rw[if_neg (by decide),if_pos (by simp;omega)]
 ·have:QA (AH Qe) (AH Qb)=1:=by decide
  rw[this];unfold Qm Kv;rw[if_neg (by decide),if_neg (by simp;omega),if_pos (by simp;omega)]
 ·have:QA (AH Qe) (AH Qe)=0:=by decide
  rw[this];unfold Qm Kv;simp only[if_true];congr 1
  ·exact propext ⟨fun h=>by omega,fun h=>by omega⟩
  ·congr 1;exact propext ⟨fun h=>by omega,fun h=>by omega⟩
theorem U7 (x y:Int):(0<=Qm x y)↔y<=x:=by
 unfold Qm;split
 ·constructor<;>intro h<;>omega
 ·split<;>constructor<;>intro h<;>omega
theorem mK (x y:Int):(Qm x y<0)↔x<y:=by
 have:=U7 x y;omega
theorem mL (p q:ByteArray) (w:H) (a:Nat->Qf) (h:Df w a) (B:p.size<=100000) (C:q.size<=100000) (v:AB p.data.toList≠I) (y:AB q.data.toList≠I) :
  Qc Qa 287 #[Z p,Z q] w fun e w'=>e=Qd (U O (Qm (pk p.data.toList) (pk q.data.toList)))/\BL w w':=by
 obtain⟨⟨g,n⟩,d⟩:=Xp.1 v;obtain⟨⟨k,m⟩,b⟩:=Xp.1 y;have j:=KX p w a h B;have l:=fun W (hW:Df W a)=>KX q W a hW C;rw[Jp d]at j;rw[Jp b]at l;rw[<-U6 d b];have i:=fun W=>strings_Compare (Ab (AH g)) (Ab (AH k)) W;rw[BT,BT]at i;have o:=fun W=>cmp_Compare_int n m W;generalize QA (AH g) (AH k)=X at i ⊢;generalize Qm n m=Y at o ⊢
 go_enter func287,ntmps287
 go_wp2_with fail
 refine j.mono ?_;rintro e z ⟨rfl,f⟩;have b:=l z (h.below f)
 go_wp2_with fail
 refine b.mono ?_;rintro e D ⟨rfl,u⟩;have r:=Ad f u
 go_wp2_with fail
 refine(i _).mono ?_;rintro e E ⟨rfl,rfl⟩
 go_wp2_with fail
 refine(o _).mono ?_;rintro e c ⟨rfl,rfl⟩;have s:BL c (c.alloc (A #[U O X,U O Y] 3)):=Af _ _;have t:=U5 X Y c.heap.size (c.alloc (A #[U O X,U O Y] 3)) (by simp) (by simp)
 go_wp2_with fail
 refine t.mono ?_;rintro e F ⟨rfl,rfl⟩;go_wp2;go_ret;exact⟨rfl,(Ad r s)⟩
theorem U8 {β:Type} (b:List β) (k:Nat) (d:β) (f:b.length=k+1) (g:k<b.length):b.getLastD d=b[k]:=by
 have c:b≠ []:=fun e=>by rw[e]at f;simp at f
 rw[List.getLastD_eq_getLast?,List.getLast?_eq_some_getLast c,Option.getD_some,List.getLast_eq_getElem];congr 1;omega
structure GC (w:H) (a:Nat->Qf):Prop where
 list:DC w a
 text:w.cell? ⟨4,0,I⟩=S (Qj 410 (Qh (S (a 0))))
theorem GC.below {w w':H} {a:Nat->Qf} (h:GC w a) (b:BL w w'):GC w' a:=⟨h.list.below b,Aa b h.text⟩
def GD (fs:List Fl) (f:Fl):Nat:=if fs≠ []/\fk f<=fk (fs.getLastD BC) then 9 else 0
theorem U9 (v:V) (c:List Fl) (f:Fl) (w:H) (a:Nat->Qf) (h:DC w a) (M:Ai w v c) (hl:c.length<=100000) (N:∀g∈c,g.1.size<=100000/\AB g.1.data.toList≠I) (hf:f.1.size<=100000) (P:AB f.1.data.toList≠I) :
  Qc Qa 223 #[v,A6 f] w fun e w'=>e=Qd (Ae a (GD c f))/\BL w w':=by
 obtain⟨q,ae,rfl⟩:=M.form;have r:BL w (w.alloc (A #[Z f.1,Z f.2.1,U O f.2.2.1,U O f.2.2.2.1,U O f.2.2.2.2.1,U O f.2.2.2.2.2] 77)):=Af _ _;have aa:=A1.new w f;unfold A6;by_cases j:c= []
 ·have Q:GD c f=0:=by unfold GD;rw[if_neg];rintro⟨y,_⟩;exact y j
  rw[Q];subst j
  go_enter QU,QV
  go_wp2
  all_goals
   go_quiet (fail)
   go_wp2;go_ret;exact⟨rfl,AK r nq⟩
 ·obtain⟨b,o,rfl,Y⟩:=M.cells j;obtain⟨k,B⟩:∃k,c.length=k+1:=⟨c.length-1,by have:=QW.2 j;omega⟩;have s:k<c.length:=by omega
  have p:=U8 c k BC B s;obtain⟨gs,go⟩:=N c[k] (Qt _);have R:=Aa r (Y k s).1;have i:J (∀W,BL w W->Qc Qa 287 #[Z c[k].1,Z f.1] W fun e w'=>e=Qd (U O (Qm (fk c[k]) (fk f)))/\BL W w'):=fun W hW=>mL c[k].1 f.1 W a (h.below hW).file.env gs hf go P;have T:J (GD c f=if fk f<=fk c[k] then 9 else 0):=by
   show _=_;unfold GD;rw[p];simp[j]
  have l:=U7 (fk c[k]) (fk f);rw[T.out,B];obtain⟨t,fq,fn,D,E,u⟩:=f;generalize fk (t,fq,fn,D,E,u)=F at i l ⊢;generalize fk c[k]=K at i l ⊢;generalize c[k].1=L at R i;generalize Qm K F=C at i l;have ab:(0:Int)<(k:Int)+1:=by omega
  have ac:(k:Int)<(k:Int)+1:=by omega
  have ad:IntKind.i64.wrap (k:Int)=(k:Int):=QI _ (by omega);by_cases m:F<=K
  ·have X:(0:Int)<=C:=l.2 m;rw[if_pos m]
   go_enter QU,QV
   go_upto_region 1 with fail
   go_region_held3 (fun w'=>w'.cell? ⟨b,o+k*6,I⟩=S (Z L)/\w'.cell? ⟨w.heap.size,0,I⟩=S (Z t)/\BL w w')
    (first
     | (go_split_ands;with_reducible exact⟨Aa d (by assumption),Aa d (by assumption),Q3 (by assumption) (d.mono (Q1 (by assumption)))⟩)
     | (go_split_ands;exact⟨by go_keep,by go_keep,by assumption⟩)
     | (go_split_ands;exact⟨by go_keep,by go_keep,Q4 (by assumption)⟩))
    (first
     | (go_at_call 287;with_reducible refine(i.out _ (by go_split_ands;assumption)).mono ?_;rintro e z ⟨rfl,d⟩))
   go_split_ands;have n:BL w z:=by assumption
   have ho:=(h.below n).order;go_wp2;go_ret;exact⟨rfl,n⟩
  ·have X:¬(0:Int)<=C:=fun y=>m (l.1 y);rw[if_neg m]
   go_enter QU,QV
   go_upto_region 1 with fail
   go_region_held3 (fun w'=>w'.cell? ⟨b,o+k*6,I⟩=S (Z L)/\w'.cell? ⟨w.heap.size,0,I⟩=S (Z t)/\BL w w')
    (first
     | (go_split_ands;with_reducible exact⟨Aa d (by assumption),Aa d (by assumption),Q3 (by assumption) (d.mono (Q1 (by assumption)))⟩)
     | (go_split_ands;exact⟨by go_keep,by go_keep,by assumption⟩)
     | (go_split_ands;exact⟨by go_keep,by go_keep,Q4 (by assumption)⟩))
    (first
     | (go_at_call 287;with_reducible refine(i.out _ (by go_split_ands;assumption)).mono ?_;rintro e z ⟨rfl,d⟩))
   go_split_ands;have n:BL w z:=by assumption
   go_wp2;go_ret;exact⟨rfl,n⟩
theorem mM {b:List Fl} {n:Nat} (i:n<b.length) (g:Au b[n]=0):GD (b.take n) b[n]=if fk b[n]<=ahead b n then 9 else 0:=by
 unfold GD
 cases n with
 | zero =>
  have:=fG g;rw[if_neg (by simp),if_neg];show ¬fk b[0]<=0;omega
 | succ m =>
  have f:m<b.length:=by omega
  have c:(b.take (m+1)).length=m+1:=by rw[Q5];omega
  rw[U8 (b.take (m+1)) m BC c (by omega),TJ f,Xq];have d:b.take (m+1)≠ []:=fun e=>by rw[e]at c;simp at c
  simp[d]
theorem Li (v:V) (d:List Fl) (w:H) (a:Nat->Qf) (h:DC w a) (hx:Ai w v d) (hl:d.length<=200) (an:Ej d) :
  Qc Qa 138 #[v] w fun e w'=> ∃ev,e=Qd ev/\AZ w' a ev (BK d)/\BL w w':=by
 obtain⟨q,u,rfl⟩:=hx.form;have ai:J (Ai w (G q d.length u) d):=hx;have aj:J (Ej d):=an;have ak:J (∀W,BL w W->DC W a):=fun W F=>h.below F;obtain⟨L,hL⟩:∃L,d.length=L:=⟨_,rfl⟩;have HX:J (d.length=L):=hL;rw[hL]at hl ⊢;generalize hR:BK d=R;have HR:J (BK d=R):=hR;clear hL hx an hR;by_cases ab:60<L
 ·have ap:R=(8,I):=by rw[<-HR.out];unfold BK;rw[if_pos (by rw[HX.out];exact ab)]
  subst ap;have hi:(60:Int)<(L:Int):=by omega
  have hf:=h.full
  go_enter func138,ntmps138
  go_wp2;go_ret;exact⟨_,rfl,rfl,Qw _ _⟩
 ·have ac:J (R=Fa 0 d 0):=by
   show _=_;rw[<-HR.out];unfold BK;rw[if_neg (by rw[HX.out];exact ab)]
  have hi:¬(60:Int)<(L:Int):=by omega
  clear HR
  go_enter func138,ntmps138
  go_wp2
  go_loopw [12] (fun k wr=> ∃n:Nat,n<=L/\k=U O n/\Ie d n/\(∀j (h:j<d.length),j<n->Au d[j]=0)/\BL w wr) (fun k _=>L-(Qi k).toNat)
  case atStart=>exact ⟨0,by omega,rfl,jT d,fun j h N=>absurd N (Q2 _),Qw _ _⟩
  case round =>
   obtain⟨n,hn,rfl,am,ah,F⟩:=hrel;have P:J (Ie d n):=am;have al:J (∀j (h:j<d.length),j<n->Au d[j]=0):=ah;clear am ah;by_cases aq:n<L
   ·have i:n<d.length:=by rw[HX.out];exact aq
    have ao:n<=u/\L<=u:=by
     have:=ai.out.room.2 (fun e=>by rw[e]at i;simp at i);rw[HX.out]at this;omega
    obtain⟨b,o,hq,hc⟩:=(ai.out.below F).cells (fun e=>by rw[e]at i;simp at i);subst hq;have HC:J (F6 wr b o d):=hc;obtain⟨c0,c1,c2,c3,c4,c5⟩:=hc n i;obtain⟨k1,k2⟩:=aj.out d[n] (Qt _);have y:=fun W (hW:DC W a)=>Mv d[n] W a hW.file (by omega) (by omega);have B:=fun e=>jU P.out i e;have m:=fun e o=>jV P.out i e o;have p:=fun e o=>jW P.out i e o;have r:Au d[n]=0->∀W,BL wr W->Qc Qa 223 #[G (S ⟨b,o,I⟩) n u,A6 d[n]] W fun e w'=>e=Qd (Ae a (if fk d[n]<=ahead d n then 9 else 0))/\BL W w':=fun he W hW=>by
     have N:=U9 (G (S ⟨b,o,I⟩) n u) (d.take n) d[n] W a (ak.out W (Ad F hW)) (kX (HC.out.below hW) (QJ i) (by rw[HX.out];exact ao.2)) (by rw[Q5];omega) (fun g hg=>by
      obtain⟨j,hj,rfl⟩:=Xr.1 hg;rw[Q5]at hj;rw[Xq];exact⟨by have:=(aj.out d[j] (Qt _)).1;omega,H1 (al.out j (by omega) (by omega))⟩) (by omega) (H1 he)
     rw[mM i he]at N;exact N
    have Q:J (Au d[n]=0->∀j (h:j<d.length),j<n+1->Au d[j]=0):=fun he j hj hjn=>by
     by_cases e:j=n
     ·subst e;exact he
     ·exact al.out j hj (by omega)
    unfold A6 at y r;generalize Au d[n]=E at y B m p r Q;generalize fk d[n]=c at m p r;generalize ahead d n=Y at m p r;generalize d[n]=f at c0 c1 c2 c3 c4 c5 y r k1 k2;have s:=Js wr f;have t:=I6 wr f;unfold He at s t;obtain⟨fp,fq,fn,X,aa,C⟩:=f;dsimp only at c0 c1 c2 c3 c4 c5 y r k1 k2 s t;have ay:(n:Int)<(L:Int):=by omega
    have ax:(0:Int)<=(n:Int):=by omega
    have az:(n:Int)<=(u:Int):=by omega
    clear hc i HC
    go_upto_region 6 with fail
    clear c0 c1 c2 c3 c4 c5;generalize wr.alloc (A #[Z fp,Z fq,U O fn,U O X,U O aa,U O C] 77)=W5 at s t ⊢;have T:BL w W5:=Ad F t;obtain⟨z0,z1,z2,z3,z4,z5,-⟩:=s.cells;dsimp only at z0 z1 z2 z3 z4 z5;have ad:=y W5 (ak.out W5 T);clear y
    go_wp2_with fail
    refine ad.mono ?_;rintro e w6 ⟨rfl,K⟩;clear ad z0 z1 z2 z3 z4 z5;have ar:BL w w6:=Ad T K;have au:BL wr w6:=Ad t K;by_cases hE:E=0
    ·subst hE;replace m:=m rfl;replace p:=p rfl;have z:=r rfl;have av:J _:=Q.out rfl;obtain⟨z0,z1,z2,z3,z4,z5,-⟩:=(s.below K).cells;dsimp only at z0 z1 z2 z3 z4 z5;clear B r Q s t K T;by_cases ho:c<=Y
     ·rw[if_pos ho]at z;have D:J (R=(9,S n)):=by rw[ac.out];exact m ho
      have ae:J (∀W,BL wr W->Qc Qa 223 #[G (S ⟨b,o,I⟩) n u,Ql #[Z fp,Z fq,U O fn,U O X,U O aa,U O C]] W fun e w'=>e=Qd (Ae a 9)/\BL W w'):=z;clear z m p;simp only[Ae]
      go_upto_region 8 with fail
      go_region_held3 (fun w'=>w'.cell? ⟨wr.heap.size,0,I⟩=S (Z fp)/\w'.cell? ⟨wr.heap.size,1,I⟩=S (Z fq)/\w'.cell? ⟨wr.heap.size,2,I⟩=S (U O fn)/\w'.cell? ⟨wr.heap.size,3,I⟩=S (U O X)/\w'.cell? ⟨wr.heap.size,4,I⟩=S (U O aa)/\w'.cell? ⟨wr.heap.size,5,I⟩=S (U O C)/\BL wr w')
       (first
        | (go_split_ands;with_reducible exact⟨Aa l (by assumption),Aa l (by assumption),Aa l (by assumption),Aa l (by assumption),Aa l (by assumption),Aa l (by assumption),Q3 (by assumption) (l.mono (Q1 (by assumption)))⟩)
        | (go_split_ands;exact⟨by go_keep,by go_keep,by go_keep,by go_keep,by go_keep,by go_keep,by assumption⟩)
        | (go_split_ands;exact⟨by go_keep,by go_keep,by go_keep,by go_keep,by go_keep,by go_keep,Q4 (by assumption)⟩))
       (first
        | (go_at_call 223;with_reducible refine(ae.out _ (by go_split_ands;assumption)).mono ?_;rintro e M ⟨rfl,l⟩))
      go_split_ands;have hX:BL wr M:=by assumption
      have af:BL w M:=Ad F hX
      try simp only[Ae]
      have ag:BL M (M.alloc (A #[U O n,Qj 410 (Qh (S (a 8)))] 143)):=Af _ _;go_wp2;go_ret;refine⟨_,rfl,?_,(Ad af ag)⟩;rw[D.out];exact⟨by simp,M.heap.size,rfl,by simp,by simp[Ae]⟩
     ·rw[if_neg ho]at z;have aw:J _:=p (by omega);have ae:J _:=z;clear z m p;simp only[Ae]
      go_upto_region 8 with fail
      go_region_held3 (fun w'=>w'.cell? ⟨wr.heap.size,0,I⟩=S (Z fp)/\w'.cell? ⟨wr.heap.size,1,I⟩=S (Z fq)/\w'.cell? ⟨wr.heap.size,2,I⟩=S (U O fn)/\w'.cell? ⟨wr.heap.size,3,I⟩=S (U O X)/\w'.cell? ⟨wr.heap.size,4,I⟩=S (U O aa)/\w'.cell? ⟨wr.heap.size,5,I⟩=S (U O C)/\BL wr w')
       (first
        | (go_split_ands;with_reducible exact⟨Aa l (by assumption),Aa l (by assumption),Aa l (by assumption),Aa l (by assumption),Aa l (by assumption),Aa l (by assumption),Q3 (by assumption) (l.mono (Q1 (by assumption)))⟩)
        | (go_split_ands;exact⟨by go_keep,by go_keep,by go_keep,by go_keep,by go_keep,by go_keep,by assumption⟩)
        | (go_split_ands;exact⟨by go_keep,by go_keep,by go_keep,by go_keep,by go_keep,by go_keep,Q4 (by assumption)⟩))
       (first
        | (go_at_call 223;with_reducible refine(ae.out _ (by go_split_ands;assumption)).mono ?_;rintro e M ⟨rfl,l⟩))
      go_split_ands;have hX:BL wr M:=by assumption
      have af:BL w M:=Ad F hX
      try simp only[Ae]
      go_wp2;go_roundw
      case rel=>exact ⟨n+1,by omega,by go_num,aw.out,av.out,af⟩
      case measure=>simp [Qi];omega
    ·obtain⟨j,rfl⟩:∃j,E=j+1:=⟨E-1,by omega⟩;have D:J (R=(j+1,S n)):=by rw[ac.out];exact B hE
     simp only[Ae];clear B m p r Q s t K T au;have ag:BL w6 (w6.alloc (A #[U O n,Qj 410 (Qh (S (a j)))] 143)):=Af _ _;go_wp2;go_ret;refine⟨_,rfl,?_,(Ad ar ag)⟩;rw[D.out];exact⟨by simp,w6.heap.size,rfl,by simp,by simp[Ae]⟩
   ·obtain rfl:n=L:=by omega
    have D:J (R=(0,I)):=by
     show _=_;rw[ac.out];have N:=P.out;rw[<-HX.out]at N;exact jX N
    go_wp2;go_ret;refine⟨_,rfl,?_,F⟩;rw[D.out];rfl
def Ff (n m:Int):Bool:=decide (0<=n) && decide (n<=m)
theorem OR (n m:Int) (w:H):Qc Qa 238 #[U O n,U O m] w fun e w'=>e=Qd (Qr (Ff n m))/\w'=w:=by
 by_cases c:0<=n
 ·by_cases d:n<=m
  ·have b:Ff n m=Qe:=by simp[Ff,c,d]
   rw[b]
   go_enter QX,QY
   go_wp2;go_ret;exact⟨rfl,rfl⟩
  ·have b:Ff n m=Qb:=by simp[Ff,d]
   rw[b]
   go_enter QX,QY
   go_wp2;go_ret;exact⟨rfl,rfl⟩
 ·have b:Ff n m=Qb:=by simp[Ff,c]
  rw[b]
  go_enter QX,QY
  go_wp2;go_ret;exact⟨rfl,rfl⟩
theorem mN (s:Sn):Ey s=(decide (1<=s.1) && (decide (s.1<=1073741824) && (decide (0<=s.2.1) && (decide (s.2.1<s.1) && (Ff s.2.2.1 1073741824 && (Ff s.2.2.2.1 100000 && Ff s.2.2.2.2.1 1073741824)))))):=by
 unfold Ey Ff;simp only[Bool.and_assoc]
theorem mO (s:Sn) (vf:V) (w:H) :
  Qc Qa 153 #[A8 s vf] w fun e w'=>e=Qd (Qr (Ey s))/\BL w w':=by
 have b:=mN s;generalize Ey s=j at b ⊢;obtain⟨o,k,l,m,n,z,B⟩:=s;unfold A8;have c:BL w (w.alloc (A #[U O o,U O k,U O l,U O m,U O n,Z z,vf] 40)):=Af _ _;have d:=fun W=>OR l 1073741824 W;have f:=fun W=>OR m 100000 W;have g:=fun W=>OR n 1073741824 W;by_cases t:1<=o
 case neg =>
  obtain rfl:j=Qb:=by rw[b];simp[t]
  clear b d f g
  go_enter Qx,Qy
  go_wp2;go_ret;exact⟨rfl,c⟩
 by_cases u:o<=1073741824
 case neg =>
  obtain rfl:j=Qb:=by rw[b];simp[u]
  clear b d f g
  go_enter Qx,Qy
  go_wp2;go_ret;exact⟨rfl,c⟩
 by_cases v:0<=k
 case neg =>
  obtain rfl:j=Qb:=by rw[b];simp[v]
  clear b d f g
  go_enter Qx,Qy
  go_wp2;go_ret;exact⟨rfl,c⟩
 by_cases y:k<o
 case neg =>
  obtain rfl:j=Qb:=by rw[b];simp[y]
  clear b d f g
  go_enter Qx,Qy
  go_wp2;go_ret;exact⟨rfl,c⟩
 cases p:Ff l 1073741824
 case false =>
  obtain rfl:j=Qb:=by rw[b];simp[p]
  rw[p]at d;clear b
  go_enter Qx,Qy
  go_wp2_with (go_at_call 238;first | (with_reducible refine(d _).mono ?_;rintro e i ⟨rfl,rfl⟩))
  go_ret;exact⟨rfl,c⟩
 rw[p]at d;cases q:Ff m 100000
 case false =>
  obtain rfl:j=Qb:=by rw[b];simp[q]
  rw[q]at f;clear b
  go_enter Qx,Qy
  go_wp2_with (go_at_call 238;first | (with_reducible refine(d _).mono ?_;rintro e i ⟨rfl,rfl⟩) | (with_reducible refine(f _).mono ?_;rintro e i ⟨rfl,rfl⟩))
  go_ret;exact⟨rfl,c⟩
 rw[q]at f;cases r:Ff n 1073741824
 case false =>
  obtain rfl:j=Qb:=by rw[b];simp[r]
  rw[r]at g;clear b
  go_enter Qx,Qy
  go_wp2_with (go_at_call 238;first | (with_reducible refine(d _).mono ?_;rintro e i ⟨rfl,rfl⟩) | (with_reducible refine(f _).mono ?_;rintro e i ⟨rfl,rfl⟩) | (with_reducible refine(g _).mono ?_;rintro e i ⟨rfl,rfl⟩))
  go_ret;exact⟨rfl,c⟩
 rw[r]at g;obtain rfl:j=Qe:=by rw[b];simp[t,u,v,y,p,q,r]
 clear b
 go_enter Qx,Qy
 go_wp2_with (go_at_call 238;first | (with_reducible refine(d _).mono ?_;rintro e i ⟨rfl,rfl⟩) | (with_reducible refine(f _).mono ?_;rintro e i ⟨rfl,rfl⟩) | (with_reducible refine(g _).mono ?_;rintro e i ⟨rfl,rfl⟩))
 go_ret;exact⟨rfl,c⟩
theorem mP (b:ByteArray) (w:H) :
  Qc Qa 154 #[Z b] w fun e w'=>e=Qd (Qr (Cv b.data.toList))/\w'=w:=by
 by_cases d:b.data.toList=KO
 ·have c:Cv b.data.toList=Qe:=by simp[Cv,d]
  rw[c];have j:=CQ d;simp only[KO]at j
  go_enter QB,QC
  go_wp2;go_ret;exact⟨rfl,rfl⟩
 have j:=BD d;simp only[KO]at j;by_cases f:b.data.toList=Ji
 ·have c:Cv b.data.toList=Qe:=by simp[Cv,f]
  rw[c];have k:=CQ f;simp only[Ji]at k
  go_enter QB,QC
  go_wp2;go_ret;exact⟨rfl,rfl⟩
 have k:=BD f;simp only[Ji]at k;by_cases g:b.data.toList=Jj
 ·have c:Cv b.data.toList=Qe:=by simp[Cv,g]
  rw[c];have l:=CQ g;simp only[Jj]at l
  go_enter QB,QC
  go_wp2;go_ret;exact⟨rfl,rfl⟩
 have l:=BD g;simp only[Jj]at l;by_cases i:b.data.toList=Jk
 ·have c:Cv b.data.toList=Qe:=by simp[Cv,i]
  rw[c];have m:=CQ i;simp only[Jk]at m
  go_enter QB,QC
  go_wp2;go_ret;exact⟨rfl,rfl⟩
 have m:=BD i;simp only[Jk]at m;have c:Cv b.data.toList=Qb:=by simp[Cv,d,f,g,i]
 rw[c]
 go_enter QB,QC
 go_wp2;go_ret;exact⟨rfl,rfl⟩
theorem J2 (s:Sn) (vf:V) (w:H) (a:Nat->Qf) (h:DC w a) (hx:Ai w vf s.2.2.2.2.2.2) (hl:s.2.2.2.2.2.2.length<=200) (az:Ej s.2.2.2.2.2.2) :
  Qc Qa 79 #[A8 s vf] w fun e w'=> ∃ev,e=Qd ev/\AZ w' a ev (Am s)/\BL w w':=by
 have l:=@kE s;have C:Ey s=Qb->Am s=(2,I):=fun e=>by unfold Am;rw[if_pos e]
 have D:=fun W=>mO s vf W;have ae:=fun W=>mP s.2.2.2.2.2.1 W;have af:=fun W (y:BL w W)=>Li vf s.2.2.2.2.2.2 W a (h.below y) (hx.below y) hl az;have E:J _:=fun W (y:BL w W)=>h.below y;have ag:J (Ai w vf s.2.2.2.2.2.2):=hx;obtain⟨q,g,c,i,j,p,d⟩:=s;unfold A8 at D ⊢;generalize hR:Am (q,g,c,i,j,p,d)=R at l C ⊢;generalize a0:Ey (q,g,c,i,j,p,d)=SB at l C D;generalize a1:Cv p.data.toList=OB at l ae;generalize a2:BK d=LE at l af;have F:BL w (w.alloc (A #[U O q,U O g,U O c,U O i,U O j,Z p,vf] 40)):=Af _ _;have K:Ao (w.alloc (A #[U O q,U O g,U O c,U O i,U O j,Z p,vf] 40)) w.heap.size (q,g,c,i,j,p,d) vf:=Ao.new w (q,g,c,i,j,p,d) vf;have an:=D (w.alloc (A #[U O q,U O g,U O c,U O i,U O j,Z p,vf] 40))
 go_enter func79,ntmps79
 go_wp2_with fail
 refine an.mono ?_;rintro e w1 ⟨rfl,al⟩;have r:BL w w1:=Ad F al;have v:=K.below al;cases SB
 case false =>
  obtain rfl:=C rfl;have et:=(E.out w1 r).file.env.bound;go_wp2;go_ret;exact⟨_,rfl,rfl,r⟩
 case true =>
 replace l:=l rfl;have z5:=v.cells.2.2.2.2.2.1;have ao:=ae w1
 go_wp2_with fail
 refine ao.mono ?_;rintro e w2 ⟨rfl,rfl⟩;cases OB
 case false =>
  obtain rfl:=l.1 rfl;have et:=(E.out w2 r).file.kind;go_wp2;go_ret;exact⟨_,rfl,rfl,r⟩
 case true =>
 obtain⟨aj,ak⟩:=l.2 rfl;have z6:=v.cells.2.2.2.2.2.2;have M:=af w2 r;obtain⟨qf,cf,av⟩:=ag.out.form;subst av;obtain⟨L,hL⟩:∃L,d.length=L:=⟨_,rfl⟩;have HL:J _:=hL;rw[hL]at M z6 hl v
 go_wp2_with fail
 refine M.mono ?_;rintro e w3 ⟨ev,rfl,ht,am⟩;have ah:=Ad r am;have N:=v.below am;by_cases P:LE.1=0
 case neg =>
  obtain rfl:=aj P;obtain⟨t,u,rfl⟩:=ht.bad P;have HT:J _:=ht;go_wp2;go_ret;exact⟨_,rfl,HT.out,ah⟩
 case pos =>
 obtain rfl:=ht.ok P;have ai:J (R=Ez c d 0):=ak P;clear ht aj ak P;have z6:=N.cells.2.2.2.2.2.2;go_wp2
 go_loopw [24] (fun k wr=> ∃n:Nat,n<=L/\k=U O n/\Ig c d n/\BL w wr/\Ao wr w.heap.size (q,g,c,i,j,p,d) (G qf L cf)) (fun k _=>L-(Qi k).toNat)
 case atStart=>exact ⟨0,by omega,rfl,jY c d,ah,N⟩
 case round =>
  obtain⟨n,hn,rfl,aw,y,K⟩:=hrel;have Q:J (Ig c d n):=aw;have ap:J (Ao wr w.heap.size (q,g,c,i,j,p,d) (G qf L cf)):=K;by_cases aq:n<L
  ·have m:n<d.length:=by rw[HL.out];exact aq
   obtain⟨b,o,hq,hc⟩:=(ag.out.below y).cells (fun e=>by rw[e]at m;simp at m);subst hq;obtain⟨c0,c1,c2,c3,c4,c5⟩:=hc n m;have T:=fun e=>jZ Q.out m e;have X:=fun e=>kC Q.out m e;generalize d[n]=f at c0 c1 c2 c3 c4 c5 T X;have Y:=Js wr f;have z:=I6 wr f;unfold He at Y z;obtain⟨fp,fq,fn,ax,ay,ad⟩:=f
   go_upto_region 11 with fail
   generalize wr.alloc (A #[Z fp,Z fq,U O fn,U O ax,U O ay,U O ad] 77)=B at Y z ⊢;have aa:BL w B:=Ad y z;have ab:=ap.out.below z;have ar:J (Ao B w.heap.size (q,g,c,i,j,p,d) (G (S ⟨b,o,I⟩) L cf)):=ab;have z5:=Y.cells.2.2.2.2.2.1;have y2:=ab.cells.2.2.1;by_cases hz:c<ad
   ·have ac:J (R=(9,S n)):=by
     show _=_;rw[ai.out];exact T hz
    have et:=(E.out B aa).order;have F:BL B (B.alloc (A #[U O n,Qj 410 (Qh (S (a 8)))] 143)):=Af _ _;go_wp2;go_ret;refine⟨_,rfl,?_,(Ad aa F)⟩;rw[ac.out];exact⟨by simp,B.heap.size,rfl,by simp,by simp[Ae]⟩
   ·have au:J (Ig c d (n+1)):=X hz;go_wp2;go_roundw
    case rel=>exact ⟨n+1,by omega,by go_num,au.out,aa,ar.out⟩
    case measure=>simp [Qi];omega
  ·obtain rfl:n=L:=by omega
   have ac:J (R=(0,I)):=by
    show _=_;rw[ai.out];have h':=Q.out;rw[<-HL.out]at h';exact kD h'
   go_wp2;go_ret;refine⟨_,rfl,?_,y⟩;rw[ac.out];rfl
theorem mQ (v:V) (c:List Fl) (w:H) (a:Nat->Qf) (h:DC w a) (hx:Ai w v c) (hl:c.length<=100) (ah:Ej c) :
  Qc Qa 218 #[v] w fun e w'=> ∃ev,e=Qd (Qn #[Z (if (BK c).1=0 then Ab (AO c) else ⟨#[]⟩),ev])/\AZ w' a ev (BK c)/\BL w w':=by
 obtain⟨q,ab,rfl⟩:=hx.form;have m:=Li (G q c.length ab) c w a h hx (by omega) ah;have an:J (Ai w (G q c.length ab) c):=hx;have M:J (Ej c):=ah;have ao:J (∀W,BL w W->DC W a):=fun W F=>h.below F;obtain⟨L,hL⟩:∃L,c.length=L:=⟨_,rfl⟩;have HX:J (c.length=L):=hL;rw[hL]at hl m ⊢;by_cases g:(BK c).1=0
 ·rw[if_pos g];have N:J (∀f∈c,Au f=0):=fun f hf=>((GW.1 g).2.1 f hf).1;generalize hR:BK c=R at m ⊢;have HR:J (R.1=0):=by show _=_;rw[<-hR];exact g
  obtain⟨TT,ac⟩:∃TT,Ab (AO c)=TT:=⟨_,rfl⟩;have C:J (Ab (AO c)=TT):=ac;rw[ac]
  go_enter func218,ntmps218
  go_wp2_with fail
  refine m.mono ?_;rintro e i ⟨ev,rfl,K,y⟩;obtain rfl:=K.ok HR.out;have ap:J (∀W,AZ W a QK R):=fun W=>by
   obtain⟨n,o⟩:=R;have h0:n=0:=HR.out;subst h0
   cases o with
   | none=>rfl
   | some j=>exact absurd rfl K.1
  have aq:BL i (i.alloc (A #[Qh I,G I 0 0] 260)):=Af _ _;have ar:BL w (i.alloc (A #[Qh I,G I 0 0] 260)):=Ad y aq;have l:QL 260 5 i.heap.size i.heap.size (QM (AO ([]:List Fl))) (i.alloc (A #[Qh I,G I 0 0] 260)) :=
   Qo ⟨Qp _,G I 0 0,QN _ _,QO _ _ _ _,by simp[Q6]⟩
  have p:=y.size;go_wp2;generalize i.heap.size=B at l p ⊢
  go_loopw [15] (fun k wr=> ∃n:Nat,n<=L/\k=U O n/\BL w wr/\B<wr.heap.size/\QL 260 5 B B (QM (AO (c.take n))) wr) (fun k _=>L-(Qi k).toNat)
  case atStart=>exact ⟨0,by omega,rfl,ar,by rcases l with z | z<;>exact z.lt,by simpa using l⟩
  case round =>
   obtain⟨n,hn,rfl,F,ad,z⟩:=hrel;by_cases au:n<L
   ·have d:n<c.length:=by rw[HX.out];exact au
    obtain⟨b,o,hq,hc⟩:=(an.out.below F).cells (fun e=>by rw[e]at d;simp at d);subst hq;obtain⟨c0,c1,c2,c3,c4,c5⟩:=hc n d;obtain⟨k1,k2⟩:=M.out c[n] (Qt _);have k0:=N.out c[n] (Qt _);have r:=fun W (hW:DC W a)=>jG c[n] W a hW.file (by omega) (by omega);have ai:Mh c[n]=Ab (Ce c[n]):=by unfold Mh;rw[if_pos k0]
    have a8:=O2 k0;have av:=TI (c.take n) (fun f hf=>by
     have hm:=List.mem_of_mem_take hf;have:=M.out f hm;exact⟨N.out f hm,by omega,by omega⟩)
    rw[Q5]at av;have a7:(QM (AO (c.take n))).length<=30000:=by rw[Lib.byteCells_length];omega
    have aw:(Ab (Ce c[n])).size<=300:=by rw[De];omega
    have P:J ((Ab (Ce c[n])).data.toList=Ce c[n]):=by show _=_;simp[Ab]
    have HT:J _:=jS c n d;rw[ai]at r;generalize Ab (Ce c[n])=tb at r P aw;generalize c[n]=f at c0 c1 c2 c3 c4 c5 r;have D:=Js wr f;have s:=I6 wr f;unfold He at D s;obtain⟨fp,fq,fn,a2,a3,am⟩:=f
    go_upto_region 8 with fail
    generalize wr.alloc (A #[Z fp,Z fq,U O fn,U O a2,U O a3,U O am] 77)=W5 at D s ⊢;have Q:=Ad F s;obtain⟨z0,z1,z2,z3,z4,z5,-⟩:=D.cells;have aj:=r W5 (ao.out W5 Q)
    go_wp2_with fail
    refine aj.mono ?_;rintro e w6 ⟨rfl,ae⟩;have ax:=Ad Q ae;have T:=Ad s ae;have ay:=KU z T;have X:=QP ad T.size;have E:=Ha B B _ tb w6 ay (by omega) (QJ X)
    go_wp2_with fail
    refine E.mono ?_;rintro e w7 ⟨rfl,a4,af⟩;have ak:=ax.trans (af.mono p);have Y:=QP X af.size;have E:=Ha B B _ ⟨#[10]⟩ w7 (Qk a4) (by rw[Q7,Lib.strCells_length];have:(⟨#[10]⟩:ByteArray).size=1:=rfl;omega) (QJ Y)
    go_wp2_with fail
    refine E.mono ?_;rintro e w8 ⟨rfl,a5,ag⟩;have al:=ak.trans (ag.mono p);have az:=QP Y ag.size;have a0:J (QL 260 5 B B (QM (AO (c.take (n+1)))) w8):=by
     show QL _ _ _ _ _ _;rw[HT.out,Xs,Xs,<-P.out,<-List.append_assoc];exact Qk a5
    go_wp2;go_roundw
    case rel=>exact ⟨n+1,by omega,by go_num,al,az,a0.out⟩
    case measure=>simp [Qi];omega
   ·obtain rfl:n=L:=by omega
    have a1:=List.take_of_length_le (by rw[HX.out];exact Qp _);rw[a1]at z;have aa:=Builder_String_any B B (AO c) wr z (QJ ad);have eS:(⟨(AO c).toArray⟩:ByteArray)=Ab (AO c):=rfl;rw[eS,C.out]at aa
    go_wp2_with fail
    refine aa.mono ?_;rintro e w2 ⟨rfl,a6⟩;go_wp2;go_ret2;exact⟨_,rfl,ap.out _,F.trans (a6.mono p)⟩
 ·rw[if_neg g]
  go_enter func218,ntmps218
  go_wp2_with fail
  refine m.mono ?_;rintro e i ⟨ev,rfl,K,y⟩;obtain⟨t,u,rfl⟩:=K.bad g;have C:J _:=K;go_wp2;go_ret2;exact⟨_,rfl,C.out,y⟩
structure Lj (w:H) (a:Nat->Qf):Prop where
 text:GC w a
 sum:w.cell? ⟨9,0,I⟩=S (Qj 410 (Qh (S (a 9))))
theorem Lj.below {w w':H} {a:Nat->Qf} (h:Lj w a) (b:BL w w'):Lj w' a:=⟨h.text.below b,Aa b h.sum⟩
theorem GC.weak {w:H} {a:Nat->Qf} (h:GC w a):Cd w a:=⟨h.text,h.list.file.env.bound,h.list.file.env.base.maxl,h.list.file.env.base.syn,h.list.file.env.base.tab⟩
theorem mR (w:H):Qc Qa 69 #[] w fun e w'=>e=Qd (A8 Km (G I 0 0))/\BL w w':=by
 have b:BL w (w.alloc (A #[U O 1,U O 0,U O 0,U O 0,U O 0,Z ⟨#[115,116,97,114,116]⟩,G I 0 0] 40)):=Af _ _
 go_enter func69,ntmps69
 go_wp2;refine QD (v:=A8 Km (G I 0 0)) (by simp[QE,results69,go_sem,A8,Km]) rfl ⟨rfl,?_⟩;exact b
theorem UA {s:Sn} (h:(Am s).1=0) (l:Nat) (B:l<4294967296):(DH s l).length<=100:=by
 obtain⟨m,o,z,_⟩:=GX h;obtain⟨⟨⟨a,b⟩,c,d⟩,⟨⟨e,f⟩,g,i⟩,j,k⟩:=I1.1 m;have p:=Gd (n:=s.1) (by omega) (by omega);have q:=Gd (n:=s.2.1) (by omega) (by omega);have r:=Gd (n:=s.2.2.1) (by omega) (by omega);have t:=Gd (n:=s.2.2.2.1) (by omega) (by omega);have u:=Gd (n:=s.2.2.2.2.1) (by omega) (by omega);have v:=Gd (n:=(l:Int)) (by omega) (by omega);have y:=SK o;unfold DH;simp only[Q7,List.length_cons];have:Gc.length=4:=rfl;omega
theorem mS (s:Sn) (vf:V) (b:Nat) (w:H) (a:Nat->Qf) (h:Cd w a) (u:(Am s).1=0) (R:b<4294967296) :
  Qc Qa 219 #[A8 s vf,.int .u32 b] w fun e w'=>e=Qd (Z (Ab (DH s b)))/\BL w w':=by
 have v:=UA u b R;obtain⟨⟨⟨Y,b2⟩,b3,b4⟩,⟨⟨b5,b6⟩,b7,b8⟩,b9,X⟩:=I1.1 (GX u).1;have z:Xt ([(⟨#[115,110,97,112]⟩:ByteArray),Ab (Qg s.1),Ab (Qg s.2.1),Ab (Qg s.2.2.1),Ab (Qg s.2.2.2.1),Ab (Qg s.2.2.2.2.1),s.2.2.2.2.2.1,Ab (Qg (b:Int))].map (·.data.toList)) (⟨#[32]⟩:ByteArray).data.toList=DH s b:=by
  simp[Xt,DH,Gc,Ab]
 obtain⟨l,d,f,i,k,m,F⟩:=s;unfold A8;have T:IntKind.u64.wrap (b:Int)=(b:Int):=by rw[X7];omega
 have n:BL w (w.alloc (A #[U O l,U O d,U O f,U O i,U O k,Z m,vf] 40)):=Af _ _;have r:=Ao.new w (l,d,f,i,k,m,F) vf;have o:=h.below n;have y:J _:=v;have t:J _:=z
 go_enter func219,ntmps219
 go_wp2_with fail
 generalize w.alloc (A #[U O l,U O d,U O f,U O i,U O k,Z m,vf] 40)=q at n r o ⊢;obtain⟨K,L,M,N,P,Q,-⟩:=r.cells;generalize w.heap.size=g at K L M N P Q;have W:BL q q:=Qw _ _
 go_region_held3 (fun w'=>w'.cell? ⟨g,0,I⟩=S (U O l)/\w'.cell? ⟨g,1,I⟩=S (U O d)/\w'.cell? ⟨g,2,I⟩=S (U O f)/\w'.cell? ⟨g,3,I⟩=S (U O i)/\w'.cell? ⟨g,4,I⟩=S (U O k)/\w'.cell? ⟨g,5,I⟩=S (Z m)/\BL q w')
  (first
   | (go_split_ands;with_reducible exact⟨Aa c (by assumption),Aa c (by assumption),Aa c (by assumption),Aa c (by assumption),Aa c (by assumption),Aa c (by assumption),Q3 (by assumption) (c.mono (Q1 (by assumption)))⟩)
   | (go_split_ands;exact⟨by go_keep,by go_keep,by go_keep,by go_keep,by go_keep,by go_keep,by assumption⟩)
   | (go_split_ands;exact⟨by go_keep,by go_keep,by go_keep,by go_keep,by go_keep,by go_keep,Q4 (by assumption)⟩)
   | (go_split_ands;exact⟨by go_keep,by go_keep,by go_keep,by go_keep,by go_keep,by go_keep,Below.alloc (by assumption) (Q1 (by assumption)) _⟩))
  (first
   | (go_at_call 86;refine(Jm _ _ a (o.below (by go_split_ands;assumption)) (by omega) (by omega)).mono ?_;rintro e p ⟨rfl,c⟩)
   | (go_at_call 290;refine(Tg b (by omega) _ a (o.below (by go_split_ands;assumption))).mono ?_;rintro e p ⟨rfl,c⟩))
 go_split_ands;have B:BL q (p.alloc (A #[Z ⟨#[115,110,97,112]⟩,Z (Ab (Qg l)),Z (Ab (Qg d)),Z (Ab (Qg f)),Z (Ab (Qg i)),Z (Ab (Qg k)),Z m,Z (Ab (Qg (b:Int)))] 9)):=by assumption
 have C:=Ad n B;have D:=strings_Join p.heap.size 0 8 [(⟨#[115,110,97,112]⟩:ByteArray),Ab (Qg l),Ab (Qg d),Ab (Qg f),Ab (Qg i),Ab (Qg k),m,Ab (Qg (b:Int))] ⟨#[32]⟩ (p.alloc (A #[Z ⟨#[115,110,97,112]⟩,Z (Ab (Qg l)),Z (Ab (Qg d)),Z (Ab (Qg f)),Z (Ab (Qg i)),Z (Ab (Qg k)),Z m,Z (Ab (Qg (b:Int)))] 9)) (fun j x hx=>by
   rw[QZ,QF _ _ _ _ _ _ (QN _ _)]
   match j,hx with
   | 0,hx=>simp at hx;subst hx;rfl
   | 1,hx=>simp at hx;subst hx;rfl
   | 2,hx=>simp at hx;subst hx;rfl
   | 3,hx=>simp at hx;subst hx;rfl
   | 4,hx=>simp at hx;subst hx;rfl
   | 5,hx=>simp at hx;subst hx;rfl
   | 6,hx=>simp at hx;subst hx;rfl
   | 7,hx=>simp at hx;subst hx;rfl
   | j+8,hx=>simp at hx) (by simp) (by simp) (by simp) (by rw[t.out];have:=y.out;omega)
 rw[t.out]at D
 go_wp2_with fail
 refine D.mono ?_;rintro e w9 ⟨rfl,E⟩;go_wp2;go_ret;exact⟨rfl,(Ad C E)⟩
theorem mT (s:Sn) (vf:V) (w:H) (a:Nat->Qf) (h:GC w a) (X:Ai w vf s.2.2.2.2.2.2) (hl:s.2.2.2.2.2.2.length<=100) (P:Ej s.2.2.2.2.2.2) :
  Qc Qa 136 #[A8 s vf] w fun e w'=> ∃ev,e=Qd (Qn #[Z (if (Am s).1=0 then Ab (BH s) else ⟨#[]⟩),ev])/\AZ w' a ev (Am s)/\BL w w':=by
 have f:=fun W (d:BL w W)=>J2 s vf W a (h.below d).list (X.below d) (by omega) P;have Y:=fun W (d:BL w W)=>mQ vf s.2.2.2.2.2.2 W a (h.below d).list (X.below d) hl P;by_cases c:(Am s).1=0
 case neg =>
  rw[if_neg c];obtain⟨v,j,k,l,m,y,T⟩:=s;unfold A8 at f ⊢;have i:BL w (w.alloc (A #[U O v,U O j,U O k,U O l,U O m,Z y,vf] 40)):=Af _ _;have n:=f _ i
  go_enter func136,ntmps136
  go_wp2_with fail
  refine n.mono ?_;rintro e w1 ⟨ev,rfl,p,o⟩;obtain⟨t,u,rfl⟩:=p.bad c;have Q:J _:=p;go_wp2;go_ret2;exact⟨_,rfl,Q.out,(Ad i o)⟩
 case pos =>
 rw[if_pos c];have aa:=(GX c).2.2.1;have C:=Hz (AO s.2.2.2.2.2.2);have ab:=UA c (Bi (AO s.2.2.2.2.2.2)) C;have ac:=(Og c).2;have D:J _:=(GX c).2.2.2;have E:=fun W (d:BL w W)=>mS s vf (Bi (AO s.2.2.2.2.2.2)) W a (h.below d).weak c C;have ag:(Ab (AO s.2.2.2.2.2.2)).size<=6060:=by rw[De];exact ac
 have ah:(Ab (DH s (Bi (AO s.2.2.2.2.2.2)))).size<=100:=by rw[De];exact ab
 have F:=fun W=>KR (Ab (AO s.2.2.2.2.2.2)) W (by unfold Qq;omega);have eL:(Ab (AO s.2.2.2.2.2.2)).data.toList=AO s.2.2.2.2.2.2:=by simp[Ab]
 rw[eL]at F;have Q:J (Ab (BH s)=Ab (DH s (Bi (AO s.2.2.2.2.2.2)))++⟨#[10]⟩++Ab (AO s.2.2.2.2.2.2)):=by
  show _=_;rw[<-D7 (Ab (DH s (Bi (AO s.2.2.2.2.2.2)))++⟨#[10]⟩++Ab (AO s.2.2.2.2.2.2))];congr 1;simp[BH,Ab,ByteArray.data_append]
 rw[Q.out];have ad:J _:=aa;generalize aj:Am s=RE at f D ⊢;obtain rfl:RE=(0,I):=D.out;generalize Ab (DH s (Bi (AO s.2.2.2.2.2.2)))=d at *;generalize Ab (AO s.2.2.2.2.2.2)=bd at *;obtain⟨q,z,rfl⟩:=X.form;obtain⟨v,j,k,l,m,y,T⟩:=s;unfold A8 at f E ⊢;generalize T.length=L at *;have n0:¬9223372036854775807<d.size+1:=by omega
 have n2:¬9223372036854775807<d.size+1+bd.size:=by omega
 have i:BL w (w.alloc (A #[U O v,U O j,U O k,U O l,U O m,Z y,G q L z] 40)):=Af _ _;have ae:=Ao.new w (v,j,k,l,m,y,T) (G q L z);have n:=f _ i
 go_enter func136,ntmps136
 go_wp2_with fail
 refine n.mono ?_;rintro e w1 ⟨ev,rfl,p,o⟩;obtain rfl:ev=QK:=p;have K:=Ad i o;have r:=ae.below o;have z6:=r.cells.2.2.2.2.2.2;have R:=Y w1 K
 go_wp2_with fail
 refine R.mono ?_;rintro e B ⟨ev,rfl,p,N⟩;obtain rfl:=p.ok ad.out;have M:=Ad K N;obtain⟨z0,z1,z2,z3,z4,z5,z6⟩:=(r.below N).cells;have ai:BL B B:=Qw _ _;have af:J _:=fun W (hW:BL B W)=>E W (Ad M hW);generalize w.heap.size=g at z0 z1 z2 z3 z4 z5 z6
 go_wp2_with fail
 go_region_held3 (fun w'=>w'.cell? ⟨g,0,I⟩=S (U O v)/\w'.cell? ⟨g,1,I⟩=S (U O j)/\w'.cell? ⟨g,2,I⟩=S (U O k)/\w'.cell? ⟨g,3,I⟩=S (U O l)/\w'.cell? ⟨g,4,I⟩=S (U O m)/\w'.cell? ⟨g,5,I⟩=S (Z y)/\w'.cell? ⟨g,6,I⟩=S (G q L z)/\BL B w')
  (first
   | (go_split_ands;with_reducible exact⟨Aa b (by assumption),Aa b (by assumption),Aa b (by assumption),Aa b (by assumption),Aa b (by assumption),Aa b (by assumption),Aa b (by assumption),Q3 (by assumption) (b.mono (Q1 (by assumption)))⟩)
   | (go_split_ands;exact⟨by go_keep,by go_keep,by go_keep,by go_keep,by go_keep,by go_keep,by go_keep,by assumption⟩)
   | (go_split_ands;exact⟨by go_keep,by go_keep,by go_keep,by go_keep,by go_keep,by go_keep,by go_keep,Q4 (by assumption)⟩))
  (first
   | (go_at_call 171;with_reducible refine(F _).mono ?_;rintro e wX ⟨rfl,b⟩)
   | (go_at_call 219;with_reducible refine(af.out _ (by go_split_ands;assumption)).mono ?_;rintro e wX ⟨rfl,b⟩))
 go_split_ands;have hX:BL B wX:=by assumption
 go_wp2;go_ret2;exact⟨_,rfl,rfl,(Ad M hX)⟩
theorem mU (f:Fl) (p:ByteArray) (g:Nat) (w:H) (k:w.cell? ⟨g,0,I⟩=S (Z p)) :
  Qc Qa 158 #[A6 f,Qh (S ⟨g,0,I⟩)] w fun e w'=>e=Qd (Qr (decide (f.1=p)))/\BL w w':=by
 have b:BL w (w.alloc (A #[Z f.1,Z f.2.1,U O f.2.2.1,U O f.2.2.2.1,U O f.2.2.2.2.1,U O f.2.2.2.2.2] 77)):=Af _ _;have l:=Aa b k;unfold A6;obtain⟨d,o,q,m,n,j⟩:=f;by_cases c:d=p
 ·subst c;have i:(d.toList == d.toList)=Qe:=by simp
  rw[decide_eq_true rfl]
  go_enter Xa,ntmps158
  go_upto_region 1 with fail
  go_wp2;go_ret;exact⟨rfl,b⟩
 ·have i:=KV (fun e=>c (Iw e));rw[decide_eq_false c]
  go_enter Xa,ntmps158
  go_upto_region 1 with fail
  go_wp2;go_ret;exact⟨rfl,b⟩
theorem mV (v:V) (c:List Fl) (p:ByteArray) (t:Nat) (w:H) (hx:Ai w v c) (hl:c.length<=20000) (hp:w.cell? ⟨t,0,I⟩=S (Z p)) :
  Qc Qa 157 #[v,.func (.func 158) #[] #[Qh (S ⟨t,0,I⟩)]] w fun e w'=>e=Qd (U O (Dp c p))/\BL w w':=by
 have eg:∀args w,(Q8 158 args).run Qa w= .ok (.enter 158 args) w:=enters_of Xa (by kernel_rfl) rfl;obtain⟨q,F,rfl⟩:=hx.form;have y:J (Ai w (G q c.length F) c):=hx;have HP:J (∀W,BL w W->W.cell? ⟨t,0,I⟩=S (Z p)):=fun W i=>Aa i hp;obtain⟨L,K⟩:∃L,c.length=L:=⟨_,rfl⟩;have z:J (c.length=L):=K;rw[K]at hl ⊢;generalize hR:Dp c p=R;have B:J (Dp c p=R):=hR
 go_enter func157,ntmps157
 go_wp2
 go_loopw [8] (fun k wr=> ∃n:Nat,n<=L/\k=U O n/\(∀j (h:j<c.length),j<n->c[j].1≠p)/\BL w wr) (fun k _=>L-(Qi k).toNat)
 case atStart=>exact ⟨0,by omega,rfl,fun j h h'=>absurd h' (Q2 _),Qw _ _⟩
 case round =>
  obtain⟨n,hn,rfl,M,i⟩:=hrel;have l:J (∀j (h:j<c.length),j<n->c[j].1≠p):=M;by_cases C:n<L
  ·have d:n<c.length:=by rw[z.out];exact C
   obtain⟨b,o,hq,hc⟩:=(y.out.below i).cells (fun e=>by rw[e]at d;simp at d);subst hq;obtain⟨N,P,Q,T,X,Y⟩:=hc n d;have g:=mU c[n] p t wr (HP.out wr i);by_cases s:c[n].1=p
   ·have m:R=n:=by rw[<-B.out];exact My d l.out s
    subst m;rw[decide_eq_true s]at g;generalize c[n]=f at N P Q T X Y g;obtain⟨fp,fq,fn,aa,ab,u⟩:=f
    go_wp2_with (go_at_fn 158;refine g.mono ?_;rintro e w2 ⟨rfl,r⟩)
    go_ret;exact⟨rfl,(Ad i r)⟩
   ·have D:J (∀j (h:j<c.length),j<n+1->c[j].1≠p):=jJ l.out d s;rw[decide_eq_false s]at g;generalize c[n]=f at N P Q T X Y g;obtain⟨fp,fq,fn,aa,ab,u⟩:=f
    go_wp2_with (go_at_fn 158;refine g.mono ?_;rintro e w2 ⟨rfl,r⟩)
    have E:BL w w2:=Ad i r;go_roundw
    case rel=>exact ⟨n+1,by omega,by go_num,D.out,E⟩
    case measure=>simp [Qi];omega
  ·obtain rfl:n=L:=by omega
   have m:R= -1:=by rw[<-B.out];exact T9 (fun j hj=>l.out j hj (by rw[<-z.out];exact hj))
   subst m;go_wp2;go_ret;exact⟨rfl,i⟩
theorem Kx (v:V) (b:List Fl) (p:ByteArray) (w:H) (g:Ai w v b) (i:b.length<=20000) :
  Qc Qa 83 #[v,Z p] w fun e w'=>e=Qd (U O (Dp b p))/\BL w w':=by
 have c:BL w (w.alloc (A #[Z p] 9)):=Af _ _;have d:=mV v b p w.heap.size (w.alloc (A #[Z p] 9)) (g.below c) i (by simp);obtain⟨q,j,rfl⟩:=g.form
 go_enter func83,ntmps83
 go_wp2_with fail
 refine d.mono ?_;rintro e k ⟨rfl,f⟩;go_wp2;go_ret;exact⟨rfl,(Ad c f)⟩
def Gn {β:Type} (p:β->Bool) (fs:List β) (i:Int):Prop:=(i= -1/\fs.any p=Qb)\/∃n:Nat,∃h:n<fs.length,i=n/\p fs[n]=Qe/\(∀j (hj:j<fs.length),j<n->p fs[j]=Qb)/\fs.any p=Qe
theorem M8 {β:Type} {p:β->Bool} {b:List β} {n:Nat} (h:∀j (h:j<b.length),j<n->p b[j]=Qb) (d:n<b.length) (e:p b[n]=Qb):∀j (h:j<b.length),j<n+1->p b[j]=Qb:=fun j hj hjn=>by
 by_cases c:j=n
 ·subst c;exact e
 ·exact h j hj (by omega)
theorem M9 {β:Type} {p:β->Bool} {b:List β} {n:Nat} (h:∀j (h:j<b.length),j<n->p b[j]=Qb) (c:n<b.length) (e:p b[n]=Qe):Gn p b n:=Qk ⟨n,c,rfl,e,h,List.any_eq_true.2 ⟨_,Qt c,e⟩⟩
theorem MA {β:Type} {p:β->Bool} {b:List β} (h:∀j (h:j<b.length),j<b.length->p b[j]=Qb):Gn p b (-1):=Qo ⟨rfl,by
 rw[Xu];intro x d;obtain⟨j,c,rfl⟩:=Xr.1 d;rw[h j c c];simp⟩
def J3 (g:Nat) (cb:Array V) (p:Fl->Bool) (fs:List Fl) (w:H):Prop:= ∀f∈fs,∀W,BL w W->Qc Qa g (#[A6 f]++cb) W fun e w'=>e=Qd (Qr (p f))/\BL W w'
def OS (g:Nat) (cb:Array V) (p:ByteArray->Bool) (fs:List ByteArray) (w:H):Prop:= ∀f∈fs,∀W,BL w W->Qc Qa g (#[Z f]++cb) W fun e w'=>e=Qd (Qr (p f))/\BL W w'
theorem UB (g:Nat) (z:Array V) (p:Fl->Bool) (v:V) (c:List Fl) (w:H) (hx:Ai w v c) (hl:c.length<=20000) (eg:∀args w,(Q8 g args).run Qa w= .ok (.enter g args) w) (hp:J3 g z p c w) :
  Qc Qa 157 #[v,.func (.func g) #[] z] w fun e w'=> ∃i,e=Qd (U O i)/\Gn p c i/\BL w w':=by
 obtain⟨q,K,rfl⟩:=hx.form;have B:J (Ai w (G q c.length K) c):=hx;have HP:J (J3 g z p c w):=hp;obtain⟨L,M⟩:∃L,c.length=L:=⟨_,rfl⟩;have C:J (c.length=L):=M;rw[M]at hl ⊢
 go_enter func157,ntmps157
 go_wp2
 go_loopw [8] (fun k wr=> ∃n:Nat,n<=L/\k=U O n/\(∀j (h:j<c.length),j<n->p c[j]=Qb)/\BL w wr) (fun k _=>L-(Qi k).toNat)
 case atStart=>exact ⟨0,by omega,rfl,fun j h h'=>absurd h' (Q2 _),Qw _ _⟩
 case round =>
  obtain⟨n,hn,rfl,N,r⟩:=hrel;have m:J (∀j (h:j<c.length),j<n->p c[j]=Qb):=N;by_cases D:n<L
  ·have d:n<c.length:=by rw[C.out];exact D
   obtain⟨b,o,hq,hc⟩:=(B.out.below r).cells (fun e=>by rw[e]at d;simp at d);subst hq;obtain⟨P,Q,R,T,W,X⟩:=hc n d;have l:=HP.out c[n] (Qt _) wr r
   cases t:p c[n] with
   | true =>
    have u:J _:=M9 m.out d t;rw[t]at l;generalize c[n]=f at P Q R T W X l;obtain⟨fp,fq,fn,Y,aa,y⟩:=f
    go_wp2_with (go_at_fn g;refine l.mono ?_;rintro e w2 ⟨rfl,s⟩)
    go_ret;exact⟨_,rfl,u.out,(Ad r s)⟩
   | false =>
    have E:J _:=M8 m.out d t;rw[t]at l;generalize c[n]=f at P Q R T W X l;obtain⟨fp,fq,fn,Y,aa,y⟩:=f
    go_wp2_with (go_at_fn g;refine l.mono ?_;rintro e w2 ⟨rfl,s⟩)
    have F:=Ad r s;go_roundw
    case rel=>exact ⟨n+1,by omega,by go_num,E.out,F⟩
    case measure=>simp [Qi];omega
  ·obtain rfl:n=L:=by omega
   have u:J (Gn p c (-1)):=MA (fun j hj _=>m.out j hj (by rw[<-C.out];exact hj));go_wp2;go_ret;exact⟨_,rfl,u.out,r⟩
theorem mW (g:Nat) (t:Array V) (p:ByteArray->Bool) (v:V) (c:List ByteArray) (w:H) (M:BV w v c) (Q:c.length<=20000) (X:∀args w,(Q8 g args).run Qa w= .ok (.enter g args) w) (R:OS g t p c w) :
  Qc Qa 165 #[v,.func (.func g) #[] t] w fun e w'=> ∃i,e=Qd (U O i)/\Gn p c i/\BL w w':=by
 obtain⟨q,D,rfl⟩:=M.form;have u:J (BV w (G q c.length D) c):=M;have N:J (OS g t p c w):=R;obtain⟨L,E⟩:∃L,c.length=L:=⟨_,rfl⟩;have y:J (c.length=L):=E;rw[E]at Q ⊢
 go_enter func165,ntmps165
 go_wp2
 go_loopw [8] (fun k wr=> ∃n:Nat,n<=L/\k=U O n/\(∀j (h:j<c.length),j<n->p c[j]=Qb)/\BL w wr) (fun k _=>L-(Qi k).toNat)
 case atStart=>exact ⟨0,by omega,rfl,fun j h h'=>absurd h' (Q2 _),Qw _ _⟩
 case round =>
  obtain⟨n,T,rfl,F,m⟩:=hrel;have l:J (∀j (h:j<c.length),j<n->p c[j]=Qb):=F;by_cases z:n<L
  ·have d:n<c.length:=by rw[y.out];exact z
   obtain⟨b,P,W⟩:=(u.out.below m).cells (fun e=>by rw[e]at d;simp at d);subst P;have f:=N.out c[n] (Qt _) wr m
   cases r:p c[n] with
   | true =>
    have s:J (Gn p c n):=M9 l.out d r;rw[r]at f
    go_wp2_with (go_at_fn g;refine f.mono ?_;rintro e K ⟨rfl,o⟩)
    go_ret;exact⟨_,rfl,s.out,(Ad m o)⟩
   | false =>
    have B:J (∀j (h:j<c.length),j<n+1->p c[j]=Qb):=M8 l.out d r;rw[r]at f
    go_wp2_with (go_at_fn g;refine f.mono ?_;rintro e K ⟨rfl,o⟩)
    have C:BL w K:=Ad m o;go_roundw
    case rel=>exact ⟨n+1,by omega,by go_num,B.out,C⟩
    case measure=>simp [Qi];omega
  ·obtain rfl:n=L:=by omega
   have s:J (Gn p c (-1)):=MA (fun j hj _=>l.out j hj (by rw[<-y.out];exact hj));go_wp2;go_ret;exact⟨_,rfl,s.out,m⟩
theorem OT (g:Nat) (f:Array V) (p:Fl->Bool) (v:V) (b:List Fl) (w:H) (m:Ai w v b) (r:b.length<=20000) (s:∀args w,(Q8 g args).run Qa w= .ok (.enter g args) w) (t:J3 g f p b w) :
  Qc Qa 146 #[v,.func (.func g) #[] f] w fun e w'=>e=Qd (Qr (b.any p))/\BL w w':=by
 have j:=UB g f p v b w m r s t;obtain⟨q,u,rfl⟩:=m.form
 go_enter func146,ntmps146
 go_wp2_with fail
 refine j.mono ?_;rintro e y ⟨i,rfl,o,l⟩;have k:J _:=l;rcases o with⟨rfl,d⟩|⟨n,z,rfl,-,-,d⟩
 ·have c:J _:=d;go_wp2;go_ret;exact⟨by rw[c.out];rfl,k.out⟩
 ·have c:J _:=d;go_wp2;go_ret;exact⟨by rw[c.out];rfl,k.out⟩
theorem mX (g:Nat) (f:Array V) (p:ByteArray->Bool) (v:V) (b:List ByteArray) (w:H) (m:BV w v b) (r:b.length<=20000) (s:∀args w,(Q8 g args).run Qa w= .ok (.enter g args) w) (t:OS g f p b w) :
  Qc Qa 279 #[v,.func (.func g) #[] f] w fun e w'=>e=Qd (Qr (b.any p))/\BL w w':=by
 have j:=mW g f p v b w m r s t;obtain⟨q,u,rfl⟩:=m.form
 go_enter func279,ntmps279
 go_wp2_with fail
 refine j.mono ?_;rintro e y ⟨i,rfl,o,l⟩;have k:J _:=l;rcases o with⟨rfl,d⟩|⟨n,z,rfl,-,-,d⟩
 ·have c:J _:=d;go_wp2;go_ret;exact⟨by rw[c.out];rfl,k.out⟩
 ·have c:J _:=d;go_wp2;go_ret;exact⟨by rw[c.out];rfl,k.out⟩
theorem mY (v:V) (c:List ByteArray) (p:ByteArray) (w:H) (B:BV w v c) (K:c.length<=20000) :
  Qc Qa 314 #[v,Z p] w fun e w'=> ∃i,e=Qd (U O i)/\Gn (fun t=>decide (t=p)) c i/\w'=w:=by
 obtain⟨q,u,rfl⟩:=B.form;have m:J (BV w (G q c.length u) c):=B;obtain⟨L,y⟩:∃L,c.length=L:=⟨_,rfl⟩;have o:J (c.length=L):=y;rw[y]at K ⊢
 go_enter func314,ntmps314
 go_wp2
 go_loopw [8] (fun k wr=> ∃n:Nat,n<=L/\k=U O n/\(∀j (h:j<c.length),j<n->decide (c[j]=p)=Qb)/\wr=w) (fun k _=>L-(Qi k).toNat)
 case atStart=>exact ⟨0,by omega,rfl,fun j h h'=>absurd h' (Q2 _),rfl⟩
 case round =>
  obtain⟨n,M,rfl,z,rfl⟩:=hrel;have f:J (∀j (h:j<c.length),j<n->decide (c[j]=p)=Qb):=z;by_cases r:n<L
  ·have d:n<c.length:=by rw[o.out];exact r
   obtain⟨b,E,F⟩:=m.out.cells (fun e=>by rw[e]at d;simp at d);subst E;have C:=F n d;by_cases g:c[n]=p
   ·have l:J _:=M9 (p:=fun t=>decide (t=p)) f.out d (decide_eq_true g);rw[g]at C;have D:(p.toList == p.toList)=Qe:=by simp
    go_wp2;go_ret;exact⟨_,rfl,l.out,rfl⟩
   ·have s:J (∀j (h:j<c.length),j<n+1->decide (c[j]=p)=Qb):=M8 (p:=fun t=>decide (t=p)) f.out d (decide_eq_false g);have D:=KV (fun e=>g (Iw e).symm);go_wp2;go_roundw
    case rel=>exact ⟨n+1,by omega,by go_num,s.out,by first | rfl | trivial⟩
    case measure=>simp [Qi];omega
  ·obtain rfl:n=L:=by omega
   have l:J (Gn (fun t=>decide (t=p)) c (-1)):=MA (p:=fun t=>decide (t=p)) (fun j hj _=>f.out j hj (by rw[<-o.out];exact hj));go_wp2;go_ret;exact⟨_,rfl,l.out,rfl⟩
theorem OU (v:V) (b:List ByteArray) (p:ByteArray) (w:H) (g:BV w v b) (k:b.length<=20000) :
  Qc Qa 234 #[v,Z p] w fun e w'=>e=Qd (Qr (AQ b p))/\w'=w:=by
 have f:=mY v b p w g k;unfold AQ;obtain⟨q,l,rfl⟩:=g.form
 go_enter func234,ntmps234
 go_wp2_with fail
 refine f.mono ?_;rintro e m ⟨i,rfl,j,rfl⟩;rcases j with⟨rfl,d⟩|⟨n,o,rfl,-,-,d⟩
 ·have c:J (_=_):=d;go_wp2;go_ret;exact⟨by rw[c.out];rfl,rfl⟩
 ·have c:J (_=_):=d;go_wp2;go_ret;exact⟨by rw[c.out];rfl,rfl⟩
theorem MC (v:V) (f:List Fl) (w:H) (r:Ai w v f) (M:f.length<=20000) :
  Qc Qa 39 #[v] w fun e w'=> ∃v',e=Qd v'/\w'.ownsRow w.heap.size 77 6 v' f.length (Ay f)/\BL w w':=by
 obtain⟨C,D,E,F,t⟩:=Tryz.fileInfo;have N:=fun w a n c n' c'=>Lib.run_eql_slice_nil w _ _ a n c n' c' Xb;obtain⟨q,l,rfl⟩:=r.form;have m:=kG r;have i:=jE f;have j:=E5 f;have g:BL w (w.alloc (A #[] 77)):=Af _ _;have d:=m.below g
 cases q with
 | none =>
  have p:f= []:=by
   rcases r with⟨_,_,_,_,p⟩|⟨b,o,l,e,_⟩
   ·exact p
   ·injection e with e1;cases e1
  subst p
  go_enter func39,ntmps39
  go_wp2;go_ret;exact⟨_,rfl,QO _ _ _ _,Qw _ _⟩
 | some ad =>
  generalize P:Ay f=X at d i j ⊢;generalize f.length=L at M d j ⊢
  go_enter func39,ntmps39
  go_wp2_with (at_builtin;refine O4 rfl _ _ 38 rfl w.heap.size 77 C (Ql #[Z ⟨#[]⟩,Z ⟨#[]⟩,U O 0,U O 0,U O 0,U O 0]) 6 64 Xb D E F t rfl (by decide) _ 0 [] rfl (World.ownsRow_made w #[] 0 (Qp _) (Xc _) (by simp)) (S ad) L l X rfl ?qa1 ?qa2 ?qa3 ?qa4 ?qa5 ?qa6 ?_)
  case qa1=>exact j
  case qa2=>exact d
  case qa3=>exact i
  case qa4=>unfold Qq;omega
  case qa5=>omega
  case qa6=>exact g.size
  intro K u y z _;have s:=g.grown z g.size (fun k hk=>by simp[Q6]at hk;omega);have B:J (u.ownsRow w.heap.size 77 6 K L X):=by
   show u.ownsRow _ _ _ _ _ _;simpa using y
  go_wp2;go_ret;exact⟨_,rfl,B.out,s⟩
def J4 (W:H) (g x:Nat) (f:Fl):H:=(((((W.setCell ⟨g,x,I⟩ (Z f.1)).setCell ⟨g,x+1,I⟩ (Z f.2.1)).setCell ⟨g,x+2,I⟩ (U O f.2.2.1)).setCell ⟨g,x+3,I⟩ (U O f.2.2.2.1)).setCell ⟨g,x+4,I⟩ (U O f.2.2.2.2.1)).setCell ⟨g,x+5,I⟩ (U O f.2.2.2.2.2)
def set6 (cur:Array V) (x:Nat) (f:Fl):Array V:=(((((cur.setIfInBounds x (Z f.1)).setIfInBounds (x+1) (Z f.2.1)).setIfInBounds (x+2) (U O f.2.2.1)).setIfInBounds (x+3) (U O f.2.2.2.1)).setIfInBounds (x+4) (U O f.2.2.2.2.1)).setIfInBounds (x+5) (U O f.2.2.2.2.2)
theorem mZ {W:H} {g x:Nat} {f:Fl} {b:Array V} {T:Qz} (h:W.heap[g]? =S (A b T (0,0))):(J4 W g x f).heap[g]? =S (A (set6 b x f) T (0,0)) :=
 Qu _ _ _ _ _ _ (Qu _ _ _ _ _ _ (Qu _ _ _ _ _ _ (Qu _ _ _ _ _ _ (Qu _ _ _ _ _ _ (Qu _ _ _ _ _ _ h)))))
theorem nA {c W:H} {B g x:Nat} {f:Fl} (h:Below B c W) (b:B<=g):Below B c (J4 W g x f):=(((((h.setCell b _).setCell b _).setCell b _).setCell b _).setCell b _).setCell b _
theorem nB (b:Array V) (x:Nat) (f:Fl):(set6 b x f).size=b.size:=by simp[set6]
theorem nC (b:Array V) (x:Nat) (f:Fl) (c:Nat) (d:c<6) (g:x+6<=b.size):(set6 b x f)[x+c]? =(Bv f)[c]? :=by
 obtain rfl | rfl | rfl | rfl | rfl | rfl:c=0\/c=1\/c=2\/c=3\/c=4\/c=5:=by omega
 all_goals
  simp only[set6,QG,Array.size_setIfInBounds,Bv];simp
  try omega
theorem UC (b:Array V) (x:Nat) (f:Fl) (y:Nat) (c:y<x\/x+6<=y):(set6 b x f)[y]? =b[y]? :=by
 simp only[set6,QG];rw[if_neg (by omega),if_neg (by omega),if_neg (by omega),if_neg (by omega),if_neg (by omega),if_neg (by omega)]
theorem nD (z:Array V) (n:Nat) (h:∀v∈z,v.oneCell'=Qe) (d:0<z.size):∀v∈(Qs z n).toList,v.oneCell'=Qe:=by
 intro v c;simp only[Qs,Array.toList_map,Xv]at c;obtain⟨i,_,rfl⟩:=c;have b:i % z.size<z.size:=Nat.mod_lt _ d;rw[getElem!_pos z _ b];exact h _ (Array.getElem_mem b)
theorem nE (w:H) (l:Qz) (b o n c:Nat) (u:0<n) (p:∀j,j<n*6->(w.cell? ⟨b,o+j,I⟩).isSome=Qe) (q:∀j,w.frozen? ⟨b,j,I⟩=Qb) :
  (Xd #[38] l #[G (S ⟨b,o,I⟩) n c]).run Qa w= .ok (Qn #[]) (w.setCells b o (Qs (Qv (Ql #[Z ⟨#[]⟩,Z ⟨#[]⟩,U O 0,U O 0,U O 0,U O 0])) n).toList):=by
 obtain⟨s,i,k,t,r⟩:=Tryz.fileInfo;have d:∀w,(zeroValue 77).run Qa w= .ok (Ql #[Z ⟨#[]⟩,Z ⟨#[]⟩,U O 0,U O 0,U O 0,U O 0]) w:=fun w=>by simp[zeroValue,typeInfo,i,k]
 have f:(Qs (Qv (Ql #[Z ⟨#[]⟩,Z ⟨#[]⟩,U O 0,U O 0,U O 0,U O 0])) n).toList.length=n*6:=by
  rw[Array.length_toList,size_zeroCells];rfl
 have g:=run_storeCells_cells (P:=Qa) b o (Qs (Qv (Ql #[Z ⟨#[]⟩,Z ⟨#[]⟩,U O 0,U O 0,U O 0,U O 0])) n).toList 0 w (by rw[f];simpa using p) (fun j _=>q _) (nD _ _ (by intro v d;simp[Qv]at d;rcases d with rfl | rfl<;>rfl) (by decide))
 obtain⟨m,rfl⟩:∃m,n=m+1:=⟨n-1,by omega⟩;simp[Xd,run_underlying Xb,d,g]
theorem UD {T:Qz} {b:Nat} :∀(vs:List V) (o:Nat) (w:H) (cur:Array V),w.heap[b]? =S (A cur T (0,0))->∃cur',(w.setCells b o vs).heap[b]? =S (A cur' T (0,0))/\cur'.size=cur.size/\∀y,y<o->cur'[y]? =cur[y]?
 | [],_,_,cur,h=>⟨cur,h,rfl,fun _ _=>rfl⟩
 | v :: r,o,w,cur,h=>by
  obtain⟨cur',c,d,f⟩:=UD r (o+1) (w.setCell ⟨b,o,I⟩ v) _ (Qu w b o cur T v h);refine⟨cur',c,by rw[d];simp,fun y hy=>?_⟩;rw[f y (by omega),QG,if_neg (by omega)]
theorem UE {b B:Nat} :∀(vs:List V) (o:Nat) (W0 w:H),Below B W0 w->B<=b->Below B W0 (w.setCells b o vs)
 | [],_,_,_,h,_=>h
 | _ :: r,o,W0,_,h,hb=>UE r (o+1) W0 _ (h.setCell hb _) hb
def CV (W:H) (g C:Nat) (P:Fl->Bool) (fs:List Fl) (i j:Nat):Prop :=
 ∃cur:Array V,W.heap[g]? =S (A cur 77 (0,0))/\cur.size=C/\i=(kept P fs j).length/\(∀(t:Nat) (u:V),(Ay (kept P fs j))[t]? =S u->cur[t]? =S u)/\∀(t:Nat) (u:V),j*6<=t->(Ay fs)[t]? =S u->cur[t]? =S u
theorem CV.below {W d:H} {g C:Nat} {P:Fl->Bool} {f:List Fl} {i j:Nat} (h:CV W g C P f i j) (l:BL W d):CV d g C P f i j:=by
 obtain⟨b,c,k⟩:=h;exact⟨b,(l.block g (Xe c)).trans c,k⟩
theorem CV.skip {W:H} {g C:Nat} {P:Fl->Bool} {b:List Fl} {i j:Nat} (h:CV W g C P b i j) (n:j<b.length) (o:P b[j]=Qb):CV W g C P b i (j+1):=by
 obtain⟨c,d,f,k,l,m⟩:=h;have e:kept P b (j+1)=kept P b j:=by rw[KZ P b j n,if_neg (by rw[o];simp)]
 exact⟨c,d,f,by rw[e];exact k,by rw[e];exact l,fun t u ht=>m t u (by omega)⟩
theorem CV.cell {W:H} {g C:Nat} {P:Fl->Bool} {b:List Fl} {i j:Nat} (h:CV W g C P b i j) (m:j<b.length) (c:Nat) (d:c<6):W.cell? ⟨g,j*6+c,I⟩=(Bv b[j])[c]? :=by
 obtain⟨n,k,o,p,q,l⟩:=h;have e:=KY b j c m d;have f:c<(Bv b[j]).length:=by rw[Ki];exact d
 rw[Xf f]at e ⊢;rw[QF _ _ _ _ _ _ k];exact l _ _ (by omega) e
theorem CV.old {W:H} {g C:Nat} {P:Fl->Bool} {c:List Fl} {i j:Nat} (h:CV W g C P c i j) (x:Nat) (k:x<C):∃u,W.cell? ⟨g,x,I⟩=S u:=by
 obtain⟨d,b,f,_⟩:=h;rw[QF _ _ _ _ _ _ b];exact⟨_,Array.getElem?_eq_getElem (by omega)⟩
theorem CV.fz {W:H} {g C:Nat} {P:Fl->Bool} {c:List Fl} {i j:Nat} (h:CV W g C P c i j) (x:Nat):W.frozen? ⟨g,x,I⟩=Qb:=by
 obtain⟨d,b,_⟩:=h;exact Xw _ _ _ _ _ b
theorem CV.le {W:H} {g C:Nat} {P:Fl->Bool} {c:List Fl} {i j:Nat} (h:CV W g C P c i j):i<=j:=by
 obtain⟨d,f,k,b,_⟩:=h;rw[b];exact TD _ _ _
theorem CV.keep {W:H} {g C:Nat} {P:Fl->Bool} {b:List Fl} {i j:Nat} (h:CV W g C P b i j) (s:j<b.length) (z:b.length*6<=C) (v:P b[j]=Qe):CV (J4 W g (i*6) b[j]) g C P b (i+1) (j+1):=by
 have y:=h.le;obtain⟨c,o,p,k,q,r⟩:=h;have e:kept P b (j+1)=kept P b j++ [b[j]]:=by rw[KZ P b j s,if_pos v]
 refine⟨set6 c (i*6) b[j],mZ o,by rw[nB];exact p,by rw[e,Q7,<-k];rfl,fun t u hu=>?_,fun t u ht hu=>?_⟩
 ·rw[e,Id]at hu;have m:(Ay (kept P b j)).length=i*6:=by rw[E5,<-k]
  rcases QH t (i*6) with l | l
  ·rw[UC _ _ _ _ (Qo l)];rw[List.getElem?_append_left (by omega)]at hu;exact q t u hu
  ·rw[List.getElem?_append_right (by omega),m]at hu;have f:t-i*6<6:=by
    rcases QH (t-i*6) 6 with d | d
    ·exact d
    ·rw[QQ (by simp[Ay,Bv];omega)]at hu;cases hu
   have n:Ay [b[j]]=Bv b[j]:=by simp[Ay]
   rw[n]at hu;have:=nC c (i*6) b[j] (t-i*6) f (by omega);rw[show i*6+(t-i*6)=t by omega]at this;rw[this];exact hu
 ·rw[UC _ _ _ _ (Qk (by omega))];exact r t u (by omega) hu
theorem nF (b:List Fl) (n:Nat) (d:n<=b.length):(Ay b).take (n*6)=Ay (b.take n):=by
 have e:b=b.take n++b.drop n:=(List.take_append_drop n b).symm
 conv=>lhs;rw[e,Id]
 have c:(Ay (b.take n)).length=n*6:=by rw[E5,Q5,Nat.min_eq_left d]
 rw[<-c,List.take_left]
theorem UF {P:Fl->Bool} {b:List Fl} :∀n,n<=b.length->(∀j (h:j<b.length),j<n->P b[j]=Qe)->kept P b n=b.take n
 | 0,_,_=>by simp[kept]
 | n+1,hn,h=>by
  rw[KZ P b n (by omega),if_pos (h n (by omega) (by omega)),UF n (by omega) (fun j hj hjn=>h j hj (by omega)),List.take_succ_eq_append_getElem (by omega)]
theorem nG {W:H} {g f:Nat} {c:Array V} {P:Fl->Bool} {b:List Fl} {k:Nat} (m:W.heap[g]? =S (A c 77 (0,0))) (n:c.size=f*6) (o:c.toList.take (b.length*6)=Ay b) (p:k<b.length) (q:∀j (h:j<b.length),j<k->P b[j]=Qe) (r:P b[k]=Qb) :
  CV W g (f*6) P b k (k+1):=by
 have d:∀t u,(Ay b)[t]? =S u->c[t]? =S u:=fun t u hu=>by
  have l:t<b.length*6:=by
   rw[<-E5];rcases QH t (Ay b).length with i | i
   ·exact i
   ·rw[QQ i]at hu;cases hu
  rw[<-o,QR,if_pos l,Xx]at hu;exact hu
 have e:kept P b (k+1)=b.take k:=by rw[KZ P b k p,if_neg (by rw[r];simp),UF k (by omega) q]
 refine⟨c,m,n,by rw[e,Q5];omega,fun t u hu=>?_,fun t u _ hu=>d t u hu⟩;rw[e,<-nF b k (by omega)]at hu;rw[QR]at hu;split at hu
 ·exact d t u hu
 ·cases hu
theorem nH {W:H} {B g b:Nat} {P:Fl->Bool} {d:List Fl} {i:Nat} {c:Array V} (l:B<=g) (m:W.heap[g]? =S (A c 77 (0,0))) (n:c.size=b*6) (o:b<=Qq) (hi:i=(d.filter P).length) (p:i<=b) (j:∀(t:Nat) (u:V),(Ay (d.filter P))[t]? =S u->c[t]? =S u) :
  W.ownsRow B 77 6 (G (S ⟨g,0,I⟩) i b) (d.filter P).length (Ay (d.filter P)):=by
 refine⟨by rw[E5],Qk ⟨g,b,c,by rw[hi],l,m,by omega,o,n,?_⟩⟩;apply List.ext_getElem?;intro t;rw[QR,Xx];by_cases f:t<(d.filter P).length*6
 ·rw[if_pos f];have k:t<(Ay (d.filter P)).length:=by rw[E5];exact f
  rw[Xf k];exact j t _ (Xf k)
 ·rw[if_neg f,QQ (by rw[E5];omega)]
theorem J3.later {g:Nat} {b:Array V} {p:Fl->Bool} {c:List Fl} {w w':H} (h:J3 g b p c w) (d:BL w w'):J3 g b p c w':=fun f hf W hW=>h f hf W (Ad d hW)
theorem UG (g:Nat) (cb:Array V) (p:Fl->Bool) (v:V) (d:List Fl) (w0 w:H) (an:BL w0 w) (ho:w.ownsRow w0.heap.size 77 6 v d.length (Ay d)) (hl:d.length<=20000) (eg:∀args w,(Q8 g args).run Qa w= .ok (.enter g args) w) (hp:J3 g cb p d w0) :
  Qc Qa 232 #[v,.func (.func g) #[] cb] w fun e w'=> ∃v',e=Qd v'/\w'.ownsRow w0.heap.size 77 6 v' (d.filter fun f=> !p f).length (Ay (d.filter fun f=> !p f))/\BL w0 w':=by
 have hx:=(GA ho).1;have ae:=UB g cb p v d w hx hl eg (hp.later an);have af:J _:=ho;have ag:J _:=an;have HP:J _:=hp;have au:J (d.any p=Qb->(d.filter fun f=> !p f)=d):=fun h=>List.filter_eq_self.2 fun f hf=>by
  have:=Xu.1 h f hf;simpa using this
 obtain⟨q,l,rfl⟩:=hx.form;obtain⟨L,hL⟩:∃L,d.length=L:=⟨_,rfl⟩;have Q:J _:=hL;rw[hL]at ae hl ⊢;obtain⟨RS,ak⟩:∃R,(d.filter fun f=> !p f)=R:=⟨_,rfl⟩;have X:J _:=ak;rw[ak]
 go_enter func232,ntmps232
 go_wp2_with fail
 refine ae.mono ?_;rintro e w1 ⟨i,rfl,hi,am⟩;have ah:J _:=am;have Y:J _:=ag.out.trans (am.mono ag.out.size);rcases hi with⟨rfl,ha⟩|⟨k,hk,rfl,a2,a3,-⟩
 ·have HA:J (RS=d):=by show _=_;rw[<-X.out];exact au.out ha
  go_wp2;go_ret;refine⟨_,rfl,?_,Y.out⟩;rw[HA.out];have h:=AG (P:=fun _=>False) af.out (Ac.of_below ah.out) (fun _ _ h=>h);rw[Q.out]at h ⊢;exact h
 ·obtain⟨b,y,rfl,hb,hg,bf,az,a0,a1⟩:∃b y,q=S ⟨b,0,I⟩/\w0.heap.size<=b/\w1.heap[b]? =S (A y 77 (0,0))/\L<=l/\l<=Qq/\y.size=l*6/\y.toList.take (d.length*6)=Ay d:=by
   rcases af.out.2 with⟨e,h0⟩|⟨b,c,y,e,hb,hg,h1,h2,T,h4⟩
   ·rw[h0]at hk;exact absurd hk (Q2 _)
   ·injection e with e1 e2 e3;subst e3;exact⟨b,y,e1,hb,(ah.out.block b (Xe hg)).trans hg,by rw[<-Q.out];exact h1,h2,T,h4⟩
  have av:J (CV w1 b (l*6) (fun f=> !p f) d k (k+1)):=nG hg a0 a1 hk (fun j hj hjk=>by simpa using a3 j hj hjk) (by simpa using a2);have aw:k<L:=by rw[<-Q.out];exact hk
  have ao:((k:Int) == -1)=Qb:=beq_eq_false_iff_ne.2 (by omega);have aa:J _:=hb;have ax:J _:=az;have ay:IntKind.i64.wrap ((k:Int)+1)=(k:Int)+1:=QI _ (by omega)
  go_wp2_with fail
  go_loopg [5,6,7] L (fun gg s5 s6 _ wr=> ∃(i j:Nat),s5=U O i/\s6=U O j/\j<=L/\L-j<=gg/\i<j/\BL w0 wr/\CV wr b (l*6) (fun f=> !p f) d i j)
  case atStart=>exact ⟨k,k+1,rfl,by go_num,by omega,by omega,by omega,Y.out,av.out⟩
  case round =>
   clear ao ay aw;obtain⟨i,j,rfl,rfl,bg,bh,bi,al,hD⟩:=hrel;have z:J (CV wr b (l*6) (fun f=> !p f) d i j):=hD;have E:J (BL w0 wr):=al;clear hD;by_cases ai:j<L
   ·have m:j<d.length:=by rw[Q.out];exact ai
    have ap:(j:Int)<(L:Int):=by omega
    have c0:=z.out.cell m 0 (by omega);have c1:=z.out.cell m 1 (by omega);have c2:=z.out.cell m 2 (by omega);have c3:=z.out.cell m 3 (by omega);have c4:=z.out.cell m 4 (by omega);have c5:=z.out.cell m 5 (by omega);have C:=Js wr d[j];have r:=I6 wr d[j];have n:=HP.out d[j] (Qt _) (He wr d[j]) (Ad al r);unfold He at C r n;have aj:J (p d[j]=Qe->∀W,BL wr W->CV W b (l*6) (fun f=> !p f) d i (j+1)):=fun h W hW=>(z.out.below hW).skip m (by simp[h]);have ab:J (p d[j]=Qb->∀W,BL wr W->CV (J4 W b (i*6) d[j]) b (l*6) (fun f=> !p f) d (i+1) (j+1)):=fun h W hW=>(z.out.below hW).keep m (by rw[Q.out];omega) (by simp[h]);simp only[Bv,List.getElem?_cons_succ,List.getElem?_cons_zero]at c0 c1 c2 c3 c4 c5;generalize d[j]=f at c0 c1 c2 c3 c4 c5 C r n aj ab;clear m;unfold A6 at n;obtain⟨fp,fq,fn,M,N,D⟩:=f;dsimp only at c0 c1 c2 c3 c4 c5 C r n ab;have a4:(0:Int)<=(j:Int):=by omega
    have a7:(i:Int)<(L:Int):=by omega
    have a5:(0:Int)<=(i:Int):=by omega
    have a8:IntKind.i64.wrap ((j:Int)+1)=(j:Int)+1:=QI _ (by omega);have a9:IntKind.i64.wrap ((i:Int)+1)=(i:Int)+1:=QI _ (by omega);rw[Nat.add_zero]at c0
    go_upto_region 8 with fail
    generalize wr.alloc (A #[Z fp,Z fq,U O fn,U O M,U O N,U O D] 77)=W5 at C r n ⊢;obtain⟨b0,b1,b2,b3,b4,b5,-⟩:=C.cells;dsimp only at b0 b1 b2 b3 b4 b5
    cases hq:p (fp,fq,fn,M,N,D) with
    | true =>
     rw[hq]at n;have aq:=aj.out hq;have K:J _:=aq
     go_wp2_with (go_at_fn g;refine n.mono ?_;rintro e w6 ⟨rfl,o⟩)
     have B:=Ad r o
     go_roundg (L-(j+1))
     case measure=>omega
     case rel=>exact ⟨i,j+1,rfl,by go_num,by omega,Qp _,by omega,E.out.trans (B.mono E.out.size),K.out w6 B⟩
    | false =>
     rw[hq]at n;have ar:=ab.out hq;have K:J _:=ar
     go_upto_region 9 with(go_at_fn g;refine n.mono ?_;rintro e w6 ⟨rfl,o⟩)
     have B:=Ad r o;have s:=z.out.below B;have d0:=Aa o b0;have d1:=Aa o b1;have d2:=Aa o b2;have d3:=Aa o b3;have d4:=Aa o b4;have d5:=Aa o b5;obtain⟨u0,o0⟩:=s.old (i*6) (by omega);obtain⟨u1,o1⟩:=s.old (i*6+1) (by omega);obtain⟨u2,o2⟩:=s.old (i*6+2) (by omega);obtain⟨u3,o3⟩:=s.old (i*6+3) (by omega);obtain⟨u4,o4⟩:=s.old (i*6+4) (by omega);obtain⟨u5,o5⟩:=s.old (i*6+5) (by omega);have fz:=fun x=>s.fz x;have ac:J (CV (J4 w6 b (i*6) (fp,fq,fn,M,N,D)) b (l*6) (fun f=> !p f) d (i+1) (j+1)):=K.out w6 B;have ad:J (BL w0 (J4 w6 b (i*6) (fp,fq,fn,M,N,D))):=nA (E.out.trans (B.mono E.out.size)) aa.out;unfold J4 at ac ad;dsimp only at ac ad;clear b0 b1 b2 b3 b4 b5 n o B s K C r;go_wp2
     go_roundg (L-(j+1))
     case measure=>omega
     case rel=>exact ⟨i+1,j+1,by go_num,by go_num,by omega,Qp _,by omega,ad.out,ac.out⟩
   ·obtain rfl:j=L:=by omega
    have ap:¬(j:Int)<(j:Int):=by omega
    have ba:¬l=i:=by omega
    have bb:(i:Int)<=(j:Int):=by omega
    have bc:(0:Int)<=(i:Int):=by omega
    have bd:(j:Int)<=(l:Int):=by omega
    have be:(i:Int)<=(l:Int):=by omega
    have n:∀ty,(Xd #[38] ty #[G (S ⟨b,i*6,I⟩) (j-i) (l-i)]).run Qa wr= .ok (Qn #[]) (wr.setCells b (i*6) (Qs (Qv (Ql #[Z ⟨#[]⟩,Z ⟨#[]⟩,U O 0,U O 0,U O 0,U O 0])) (j-i)).toList) :=
     fun ty=>nE wr ty b (i*6) (j-i) (l-i) (by omega) (fun t ht=>by
      obtain⟨u,hu⟩:=z.out.old (i*6+t) (by omega);rw[hu];rfl) (fun t=>z.out.fz t)
    have F:J (BL w0 (wr.setCells b (i*6) (Qs (Qv (Ql #[Z ⟨#[]⟩,Z ⟨#[]⟩,U O 0,U O 0,U O 0,U O 0])) (j-i)).toList)/\(wr.setCells b (i*6) (Qs (Qv (Ql #[Z ⟨#[]⟩,Z ⟨#[]⟩,U O 0,U O 0,U O 0,U O 0])) (j-i)).toList).ownsRow w0.heap.size 77 6 (G (S ⟨b,0,I⟩) i l) RS.length (Ay RS)):=by
     refine⟨UE _ _ _ _ E.out aa.out,?_⟩;obtain⟨y,h1,h2,T,h4,_⟩:=z.out;obtain⟨a6,g1,g2,g3⟩:=UD (Qs (Qv (Ql #[Z ⟨#[]⟩,Z ⟨#[]⟩,U O 0,U O 0,U O 0,U O 0])) (j-i)).toList (i*6) wr y h1;have e:kept (fun f=> !p f) d j=RS:=by rw[<-Q.out,TH];exact X.out
     rw[e]at T h4;rw[<-X.out]at T h4 ⊢;refine nH aa.out g1 (g2.trans h2) ax.out T (by omega) (fun t u hu=>?_);have ai:t<i*6:=by
      rw[T,<-E5];rcases QH t (Ay (d.filter fun f=> !p f)).length with h' | h'
      ·exact h'
      ·rw[QQ h']at hu;cases hu
     rw[g3 t (by omega)];exact h4 t u hu
    generalize wr.setCells b (i*6) (Qs (Qv (Ql #[Z ⟨#[]⟩,Z ⟨#[]⟩,U O 0,U O 0,U O 0,U O 0])) (j-i)).toList=WE at n F;go_wp2;go_ret;exact⟨_,rfl,F.out.2,F.out.1⟩
def OV (w:H) (a:Nat->Qf) (D:List Int×Nat) (e:Ending) (w':H):Prop :=
 BL w w'/\((D.2=0/\∃v,e=Qd (Qn #[v,QK])/\A4 w' v D.1) \/
  (D.2≠0/\∃ev,e=Qd (Qn #[G I 0 0,ev])/\(ev=Ae a D.2\/∃fb,ev=Qj 140 (Qh (S ⟨fb,0,I⟩))/\w'.cell? ⟨fb,1,I⟩=S (Ae a D.2))))
theorem nI (s:ByteArray) (w:H) (a:Nat->Qf) (h:DT w a) (t:s.size<=Qq) :
  Qc Qa 239 #[Z (Ab (AH Qe)),Z s] w fun e w'=>OV w a (Bp Qe s.data.toList) e w':=by
 have d:=Oz s w a h t;have i:Bp Qe s.data.toList=((B8 s.data.toList).1,(B8 s.data.toList).2.1):=rfl;rw[i];generalize B8 s.data.toList=D at d ⊢;have y:=CQ (s:=Ab (AH Qe)) (l:= [103,111,110,101]) (by rw[BT];rfl)
 go_enter func239,ntmps239
 go_wp2_with fail
 refine d.mono ?_;rintro e z ⟨b,f⟩;rcases f with⟨c,v,rfl,n,_⟩|⟨c,o,p,rfl⟩|⟨c,o,u,p,q,rfl,B,r⟩
 ·have j:J _:=n;go_wp2;go_ret2;exact⟨b,Qo ⟨c,v,rfl,j.out⟩⟩
 ·obtain⟨E,g⟩:∃E,D.2.1=E+1:=⟨D.2.1-1,by omega⟩;have k:J _:=g;rw[g];go_wp2;go_ret2;exact⟨b,Qk ⟨c,_,rfl,Qo (by dsimp only;rw[k.out];rfl)⟩⟩
 ·have m:J _:=r;go_wp2;go_ret2;exact⟨b,Qk ⟨c,_,rfl,Qk ⟨q,rfl,m.out⟩⟩⟩
theorem UH (l:List UInt8):(Bx l).2<=12:=by
 unfold Bx;split
 ·split
  ·split
   ·exact Xc _
   ·dsimp only;unfold A0;split
    ·split<;>omega
    ·omega
  ·exact(by decide:(1:Nat)<=12)
 ·exact(by decide:(1:Nat)<=12)
theorem Ll (xs:List Rw):(BG xs).length=xs.length:=by simp[AA]
theorem nJ (xs:List Rw) (j:Nat) (h:j<xs.length) (b:j<(BG xs).length):(BG xs)[j]=xs[j].2.1:=by simp[AA,CO]
theorem nK (s:ByteArray) (w:H) (a:Nat->Qf) (h:DI w a) (hs:s.size<=Qq) :
  Qc Qa 239 #[Z (Ab (AH Qb)),Z s] w fun e w'=>OV w a (Bp Qb s.data.toList) e w':=by
 have N:=Tu s w a h hs;have z:=(Md CO UH s.data.toList).2;have eK:Bp Qb s.data.toList=(BG (Bn s.data.toList).1,(Bn s.data.toList).2.1):=rfl;have e0:Bn s.data.toList=BS CO s.data.toList:=rfl;rw[eK];rw[<-e0]at z;generalize Bn s.data.toList=D at N z ⊢;have d1:=BD (s:=Ab (AH Qb)) (l:= [103,111,110,101]) (by rw[BT];decide)
 go_enter func239,ntmps239
 go_wp2_with fail
 refine N.mono ?_;rintro e f ⟨K,ac⟩;rcases ac with⟨y,v,rfl,hv⟩|⟨y,h1,h2,rfl⟩|⟨y,h1,av,h2,fb,rfl,c0,c1⟩
 ·obtain⟨q,au,rfl⟩:=hv.form;obtain⟨i,d2⟩:=D;obtain⟨L,hL⟩:∃L,i.length=L:=⟨_,rfl⟩;have HV:J _:=hv;have Y:J _:=hL;have H0:J _:=y;rw[hL]at z ⊢;clear hv hL y;have ap:=fun W=>run_make_row' (P:=Qa) 32 3 (U O 0) 8 Xy Tryz.numsInfo rfl O O L (by omega) (by omega) W;have ad:BL f (f.alloc (A (Xg #[U O 0] L) 3)):=Af _ _;have aa:=QN f (A (Xg #[U O 0] L) 3);have MD:J (∀j,j<L->(Xg #[U O 0] L)[j]? =S (U O 0)):=fun j hj=>RW _ _ _ hj;go_wp2
  go_loopw [30] (fun k wr=> ∃(n:Nat) (d:Array V),n<=L/\k=U O n/\BL f wr/\wr.heap[f.heap.size]? =S (A d 3 (0,0))/\(∀j,j<L->∃u,d[j]? =S u)/\∀j (h:j<i.length),j<n->d[j]? =S (U O i[j].2.1)) (fun k _=>L-(Qi k).toNat)
  case atStart=>exact ⟨0,_,by omega,rfl,ad,aa,fun j hj=>⟨_,MD.out j hj⟩,fun j h M=>absurd M (Q2 _)⟩
  case round =>
   obtain⟨n,d,hn,rfl,F,al,am,an⟩:=hrel;have HB:J (wr.heap[f.heap.size]? =S (A d 3 (0,0))):=al;have Q:J (∀j,j<L->∃u,d[j]? =S u):=am;have R:J (∀j (h:j<i.length),j<n->d[j]? =S (U O i[j].2.1)):=an;by_cases T:n<L
   ·have B:n<i.length:=by rw[Y.out];exact T
    have ae:=HV.out;rcases ae with⟨p,c,e,rfl⟩|⟨b,o,cp,e,hc⟩
    ·simp at B
    ·simp only[Xh]at e;obtain⟨rfl,_,rfl⟩:=e;obtain⟨c0,c1,c2⟩:=hc n B;have af:=Aa F c0;have ag:=Aa F c1;have ah:=Aa F c2;generalize ao:i[n]=x at af ag ah;have ai:J (i[n]=x):=ao;obtain⟨r,g,t⟩:=x;have X:BL wr (wr.alloc (A #[Z r,U O g,U O t] 62)):=Af _ _;have aj:BL f (wr.alloc (A #[Z r,U O g,U O t] 62)):=Ad F X;have m:(wr.alloc (A #[Z r,U O g,U O t] 62)).heap[f.heap.size]? =S (A d 3 (0,0)):=(X.block _ (Xe HB.out)).trans HB.out;obtain⟨u,hu⟩:=Q.out n T;have aq:(wr.alloc (A #[Z r,U O g,U O t] 62)).cell? ⟨f.heap.size,n,I⟩=S u:=by rw[QF _ _ _ _ _ _ m];exact hu
     have ar:(wr.alloc (A #[Z r,U O g,U O t] 62)).frozen? ⟨f.heap.size,n,I⟩=Qb:=Xw _ _ _ _ _ m;have ab:J (((wr.alloc (A #[Z r,U O g,U O t] 62)).setCell ⟨f.heap.size,n,I⟩ (U O g)).heap[f.heap.size]? =S (A (d.setIfInBounds n (U O g)) 3 (0,0))):=Qu _ f.heap.size n d 3 (U O g) m;have HN:J (n<d.size):=by
      show n<d.size;rcases QH n d.size with M | M
      ·exact M
      ·rw[Array.getElem?_eq_none M]at hu;cases hu
     have ak:BL f ((wr.alloc (A #[Z r,U O g,U O t] 62)).setCell ⟨f.heap.size,n,I⟩ (U O g)):=aj.setCell (Qp _) _;go_wp2;go_roundw
     case rel =>
      refine⟨n+1,_,by omega,by go_num,ak,ab.out,fun j hj=>?_,fun j hj hjn=>?_⟩
      ·rw[QG];split
       ·rw[if_pos HN.out];exact⟨_,rfl⟩
       ·exact Q.out j hj
      ·rw[QG];split
       ·rename_i e;subst e;rw[if_pos HN.out,ai.out]
       ·rename_i e;exact R.out j hj (by omega)
     case measure=>simp [Qi];omega
   ·obtain rfl:n=L:=by omega
    go_wp2;go_ret2;refine⟨(Ad K F),Qo ⟨H0.out,_,rfl,Qk ⟨f.heap.size,0,n,by rw[Ll,Y.out];rfl,fun j hj=>?_⟩⟩⟩;have C:j<i.length:=by rw[Ll]at hj;exact hj
    rw[QZ,QF _ _ _ _ _ _ HB.out,R.out j C (by rw[<-Y.out];exact C),nJ _ _ C hj]
 ·obtain⟨E,hE⟩:∃E,D.2.1=E+1:=⟨D.2.1-1,by omega⟩;have HE:J _:=hE;rw[hE];simp only[Ae];go_wp2;go_ret2;exact⟨K,Qk ⟨y,_,rfl,Qo (by dsimp only;rw[HE.out];rfl)⟩⟩
 ·have C1:J _:=c1;go_wp2;go_ret2;exact⟨K,Qk ⟨y,_,rfl,Qk ⟨fb,rfl,C1.out⟩⟩⟩
theorem nL (n:Nat) (w:H) (a:Nat->Qf) (h:F7 w) :
  Qc Qa 134 #[Ae a (n+1)] w fun e w'=>e=Qd (Ae a (n+1))/\BL w w':=by
 have b:BL w (w.alloc (A #[Qh I] 140)):=Af _ _;have f:=jP (a n) ⟨w.heap.size,0,I⟩ _ (h.below b)
 go_enter func134,ntmps134
 go_wp2_with fail
 refine f.mono ?_;rintro e g ⟨rfl,d⟩;have c:BL w g:=Ad b d;go_wp2;go_ret;exact⟨rfl,c⟩
theorem nM (c:Nat) (n:Nat) (w:H) (a:Nat->Qf) (h:F7 w) (f:w.cell? ⟨c,1,I⟩=S (Ae a (n+1))) :
  Qc Qa 134 #[Qj 140 (Qh (S ⟨c,0,I⟩))] w fun e w'=>e=Qd (Ae a (n+1))/\BL w w':=by
 have d:=jQ ⟨c,0,I⟩ w h
 go_enter func134,ntmps134
 go_wp2_with fail
 refine d.mono ?_;rintro e i ⟨rfl,b,j⟩;have g:=Aa b f;go_wp2;go_ret;exact⟨rfl,b⟩
theorem nN (g:Bool) (s:ByteArray) (w:H) (a:Nat->Qf) (h:DI w a) (b:s.size<=Qq) :
  Qc Qa 239 #[Z (Ab (AH g)),Z s] w fun e w'=>OV w a (Bp g s.data.toList) e w':=by
 cases g
 ·exact nK s w a h b
 ·exact nI s w a h.weak b
theorem OX (E:Nat) (b:V) (w:H) (a:Nat->Qf) (h:F7 w) (d:b=Ae a (E+1)\/∃fb,b=Qj 140 (Qh (S ⟨fb,0,I⟩))/\w.cell? ⟨fb,1,I⟩=S (Ae a (E+1))) :
  Qc Qa 134 #[b] w fun e w'=>e=Qd (Ae a (E+1))/\BL w w':=by
 rcases d with rfl | ⟨fb,rfl,c⟩
 ·exact nL E w a h
 ·exact nM fb E w a h c
theorem nP (b o c:Nat) (zs:List Int) (w:H) (d:zs≠ []) (m:zs.length<=100000) (l:∀j (h:j<zs.length),w.cell? ⟨b,o+j,I⟩=S (U O zs[j])) :
  Qc Qa 240 #[G (S ⟨b,o,I⟩) zs.length c] w (fun e w'=>e=Qd (U O (Ar zs).1)/\w'=w) /\
  Qc Qa 241 #[G (S ⟨b,o,I⟩) zs.length c] w (fun e w'=>e=Qd (U O (Ar zs).2)/\w'=w):=by
 have g:0<zs.length:=QW.2 d;have f:∀j,j<zs.length->w.cell? ⟨b,o+j,I⟩=S (U O (zs.getD j 0)):=fun j hj=>by
  rw[l j hj];simp[List.getD,hj]
 have i:=slices_Min_int b o zs.length c zs w g (Qp _) (by omega) f;have k:=slices_Max_int b o zs.length c zs w g (Qp _) (by omega) f;rw[Xz,(SF d).1]at i;rw[Xz,(SF d).2]at k;exact⟨i,k⟩
theorem nQ {p q:ByteArray} {s:List UInt8} {b:Int} (h:AB p.data.toList=I):B1 p q s b=(BC,5):=by unfold B1;rw[h]
theorem ME {p q:ByteArray} {s:List UInt8} {b:Int} {g:Bool} {n:Int} (h:AB p.data.toList=S (g,n)):B1 p q s b=if (Bp g s).2=0 then Eg (p,q,(Bp g s).1.length,(Ar (Bp g s).1).1,(Ar (Bp g s).1).2,b) else (BC,(Bp g s).2):=by unfold B1;rw[h]
theorem nR (s:List UInt8):(B8 s).1.length<=40:=(Md AD (fun l=>by
 show (BJ l).2<=12;unfold BJ;split
 ·exact(by decide:(1:Nat)<=12)
 ·split
  ·exact Xc _
  ·exact(by decide:(2:Nat)<=12)) s).2
theorem nS (g:Bool) (s:List UInt8):(Bp g s).1.length<=40:=by
 cases g
 ·show (BG (Bn s).1).length<=40;rw[Ll];exact(Md CO UH s).2
 ·exact nR s
theorem UI (p q s:ByteArray) (d:Int) (w:H) (a:Nat->Qf) (h:G9 w a) (a5:∀g n,AB p.data.toList=S (g,n)->(Bp g s.data.toList).2≠0->F7 w) (h1:p.size<=100000) (h2:q.size<=100000) (hs:s.size<=Qq) :
  Qc Qa 155 #[Z p,Z q,Z s,U O d] w fun e w'=>e=Qd (Qn #[A6 (B1 p q s.data.toList d).1,Ae a (B1 p q s.data.toList d).2])/\BL w w':=by
 have aa:BL w (w.alloc (A #[Z ⟨#[]⟩,Z ⟨#[]⟩,U O 0,U O 0,U O 0,U O 0] 77)):=Af _ _;have af:A1 (w.alloc (A #[Z ⟨#[]⟩,Z ⟨#[]⟩,U O 0,U O 0,U O 0,U O 0] 77)) w.heap.size BC:=A1.new w BC;have ag:=jC p _ a (h.below aa).data.env h1;generalize hR:B1 p q s.data.toList d=R;have HR:J (B1 p q s.data.toList d=R):=hR;clear hR;have zero:∀W,A1 W w.heap.size BC->(W.cell? ⟨w.heap.size,0,I⟩=S (Z ⟨#[]⟩)/\W.cell? ⟨w.heap.size,1,I⟩=S (Z ⟨#[]⟩)/\W.cell? ⟨w.heap.size,2,I⟩=S (U O 0)/\W.cell? ⟨w.heap.size,3,I⟩=S (U O 0)/\W.cell? ⟨w.heap.size,4,I⟩=S (U O 0)/\W.cell? ⟨w.heap.size,5,I⟩=S (U O 0)/\∀o,W.frozen? ⟨w.heap.size,o,I⟩=Qb):=fun W hW=>hW.cells;have B:J (∀W,A1 W w.heap.size BC->(W.cell? ⟨w.heap.size,0,I⟩=S (Z ⟨#[]⟩)/\W.cell? ⟨w.heap.size,1,I⟩=S (Z ⟨#[]⟩)/\W.cell? ⟨w.heap.size,2,I⟩=S (U O 0)/\W.cell? ⟨w.heap.size,3,I⟩=S (U O 0)/\W.cell? ⟨w.heap.size,4,I⟩=S (U O 0)/\W.cell? ⟨w.heap.size,5,I⟩=S (U O 0)/\∀o,W.frozen? ⟨w.heap.size,o,I⟩=Qb)):=zero;clear zero
 go_enter func155,ntmps155
 go_wp2_with fail
 generalize w.alloc (A #[Z ⟨#[]⟩,Z ⟨#[]⟩,U O 0,U O 0,U O 0,U O 0] 77)=WA at aa af ag ⊢;refine ag.mono ?_;rintro e w1 ⟨rfl,ap⟩;clear ag;have ah:BL w w1:=Ad aa ap;have ai:=af.below ap;have ar:J (A1 w1 w.heap.size BC):=ai;clear af ap aa ai
 cases hp:AB p.data.toList with
 | none =>
  have c:=HR.out;rw[nQ hp]at c;subst c;rw[Mu hp];simp only[Ae,Ab];obtain⟨F,M,N,P,Q,T,yf⟩:=B.out w1 ar.out;have s0:=Ah F;have s1:=Ah M;have s2:=Ah N;have s3:=Ah P;have s4:=Ah Q;have s5:=Ah T;clear hp;go_wp2;exact QD (v:=Qn #[Ql #[Z ⟨#[]⟩,Z ⟨#[]⟩,U O 0,U O 0,U O 0,U O 0],Qj 410 (Qh (S (a 4)))]) (by simp[QE,QS,go_sem,F,M,N,P,Q,T]) rfl ⟨rfl,ah⟩
 | some gn =>
  obtain⟨g,k⟩:=gn;have c:=HR.out;rw[ME hp]at c;rw[Jp hp];have aj:=nN g s w1 a (h.below ah).data hs;have ab:=nS g s.data.toList;have C:=a5 g k hp;clear a5 hp;simp only[Ae];generalize Bp g s.data.toList=K at c aj ab C;obtain⟨y,E⟩:=K;dsimp only at c ab C
  go_wp2_with fail
  refine aj.mono ?_;rintro e l ⟨a2,aq⟩;clear aj;have ac:BL w l:=Ad ah a2;have ak:J (A1 l w.heap.size BC):=ar.out.below a2;dsimp only at aq;rcases aq with⟨h0,v,rfl,hv⟩|⟨h0,ev,rfl,a4⟩
  ·rw[if_pos h0]at c;obtain⟨L,hL⟩:∃L,y.length=L:=⟨_,rfl⟩;have HL:J (y.length=L):=hL;obtain⟨vq,vc,rfl⟩:=hv.form;rw[hL]at c ab ⊢;clear h0 C hL;have ad:BL l (l.alloc (A #[Z p,Z q,U O L,U O 0,U O 0,U O d] 77)):=Af _ _;have ae:=A1.new l (p,q,(L:Int),0,0,d);have au:=ak.out.below ad;dsimp only at ae;have al:BL w (l.alloc (A #[Z p,Z q,U O L,U O 0,U O 0,U O d] 77)):=Ad ac ad;by_cases hz:y= []
   ·subst hz;have a7:L=0:=by rw[<-HL.out];rfl
    subst a7;have e0:Ar []=(0,0):=rfl;rw[e0]at c;dsimp only at c;have i:=O1 (p,q,((0:Nat):Int),0,0,d) _ a (h.below al).lean h1 h2;rw[c]at i;unfold A6 at i;dsimp only at i;obtain⟨x0,x1,x2,x3,x4,x5,_⟩:=ae.cells;dsimp only at x0 x1 x2 x3 x4 x5;obtain⟨⟨X,Y,rn,t,u,m⟩,rE⟩:=R;dsimp only at i;have av:J (A1 (l.alloc (A #[Z p,Z q,U O ((0:Nat):Int),U O 0,U O 0,U O d] 77)) w.heap.size BC):=au;clear c hv ad ae au HL ab e0
    go_wp2_with fail
    generalize l.alloc (A #[Z p,Z q,U O ((0:Nat):Int),U O 0,U O 0,U O d] 77)=WF at i al x0 x1 x2 x3 x4 x5 av ⊢;refine i.mono ?_;rintro e w5 ⟨rfl,D⟩;clear i x0 x1 x2 x3 x4 x5;have am:BL w w5:=Ad al D;have z:=av.out.below D;obtain⟨F,M,N,P,Q,T,yf⟩:=B.out w5 z;obtain⟨z0,z1,z2,z3,z4,z5,_⟩:=(z.set (X,Y,rn,t,u,m)).cells;have r:=Mx (f:=(X,Y,rn,t,u,m)) am (Qp w.heap.size);unfold Jq at z0 z1 z2 z3 z4 z5 r;dsimp only at z0 z1 z2 z3 z4 z5 r;clear z;go_wp2;exact QD (v:=Qn #[Ql #[Z X,Z Y,U O rn,U O t,U O u,U O m],Ae a rE]) (by simp[QE,QS,go_sem,z0,z1,z2,z3,z4,z5]) rfl ⟨rfl,r⟩
   ·have bd:0<L:=by rw[<-HL.out];exact QW.2 hz
    obtain⟨b,o,a0,a1,hc⟩:∃b o a0,G vq y.length vc=G (S ⟨b,o,I⟩) y.length a0/\∀j (h:j<y.length),l.cell? ⟨b,o+j,I⟩=S (U O y[j]):=by
     rcases hv with⟨_,_,_,e⟩ | hv
     ·exact absurd e hz
     ·exact hv
    simp only[Xh,true_and]at a1;obtain⟨rfl,rfl⟩:=a1;obtain⟨an,ao⟩:=nP b o vc y (l.alloc (A #[Z p,Z q,U O L,U O 0,U O 0,U O d] 77)) hz (by rw[HL.out];omega) (fun j hj=>Aa ad (hc j hj));rw[HL.out]at an ao;generalize (Ar y).1=lo at an c;generalize (Ar y).2=hi at ao c;have be:(0:Int)<(L:Int):=by omega
    obtain⟨x0,x1,x2,x3,x4,x5,xf⟩:=ae.cells;dsimp only at x0 x1 x2 x3 x4 x5;have aw:=A1.new l (p,q,(L:Int),lo,hi,d);dsimp only at aw;have ax:BL l (l.alloc (A #[Z p,Z q,U O L,U O lo,U O hi,U O d] 77)):=Af _ _;have a8:=ak.out.below ax;have ay:BL w (l.alloc (A #[Z p,Z q,U O L,U O lo,U O hi,U O d] 77)):=Ad ac ax;have i:=O1 (p,q,(L:Int),lo,hi,d) _ a (h.below ay).lean h1 h2;rw[c]at i;unfold A6 at i;dsimp only at i;obtain⟨g0,g1,g2,g3,g4,g5,_⟩:=aw.cells;dsimp only at g0 g1 g2 g3 g4 g5;obtain⟨⟨X,Y,rn,t,u,m⟩,rE⟩:=R;dsimp only at i;have a9:J (A1 (l.alloc (A #[Z p,Z q,U O L,U O lo,U O hi,U O d] 77)) w.heap.size BC):=a8
    go_wp2_with fail
    refine an.mono ?_;rintro e w3 ⟨rfl,bb⟩;rw[bb]
    go_wp2_with fail
    refine ao.mono ?_;rintro e w4 ⟨rfl,bc⟩;rw[bc]
    go_wp2_with fail
    refine i.mono ?_;rintro e w5 ⟨rfl,D⟩;have am:=Ad ay D;have z:=a9.out.below D;obtain⟨F,M,N,P,Q,T,yf⟩:=B.out w5 z;obtain⟨z0,z1,z2,z3,z4,z5,_⟩:=(z.set (X,Y,rn,t,u,m)).cells;have r:=Mx (f:=(X,Y,rn,t,u,m)) am (Qp w.heap.size);unfold Jq at z0 z1 z2 z3 z4 z5 r;dsimp only at z0 z1 z2 z3 z4 z5 r;go_wp2;exact QD (v:=Qn #[Ql #[Z X,Z Y,U O rn,U O t,U O u,U O m],Ae a rE]) (by simp[QE,QS,go_sem,z0,z1,z2,z3,z4,z5]) rfl ⟨rfl,r⟩
  ·rw[if_neg h0]at c;subst c;obtain⟨j,rfl⟩:∃j,E=j+1:=⟨E-1,by omega⟩;have az:=OX j ev l a ((C h0).below ac) a4;have a6:∃ty pv,ev=Qj ty pv:=by
    rcases a4 with rfl | ⟨fb,rfl,_⟩
    ·exact⟨_,_,rfl⟩
    ·exact⟨_,_,rfl⟩
   obtain⟨ty,pv,rfl⟩:=a6;simp only[Ae,Ab]at az ⊢
   go_wp2_with fail
   refine az.mono ?_;rintro e w3 ⟨rfl,a3⟩;have ba:=Ad ac a3;obtain⟨F,M,N,P,Q,T,yf⟩:=B.out w3 (ak.out.below a3);have s0:=Ah F;have s1:=Ah M;have s2:=Ah N;have s3:=Ah P;have s4:=Ah Q;have s5:=Ah T;go_wp2;exact QD (v:=Qn #[Ql #[Z ⟨#[]⟩,Z ⟨#[]⟩,U O 0,U O 0,U O 0,U O 0],Qj 410 (Qh (S (a j)))]) (by simp[QE,QS,go_sem,F,M,N,P,Q,T]) rfl ⟨rfl,ba⟩
theorem Dj {W:H} {base:Nat} {e:Qz} {b:Nat} {v:V} {n:Nat} {xs:List V} (h:W.ownsRow base e b v n xs):∃q c,v=G q n c:=by
 rcases h.2 with⟨rfl,rfl⟩|⟨g,d,f,rfl,_⟩
 ·exact⟨_,_,rfl⟩
 ·exact⟨_,_,rfl⟩
def AL (p:ByteArray):Bool:=match AB p.data.toList with
 | some (g,_)=>g
 | none=>Qb
theorem IF (f:Fl) (w:H) (a:Nat->Qf) (h:Df w a) (l:f.1.size<=100000) :
  Qc Qa 139 #[A6 f] w fun e w'=>e=Qd (Qr (AL f.1))/\BL w w':=by
 have b:BL w (w.alloc (A #[Z f.1,Z f.2.1,U O f.2.2.1,U O f.2.2.2.1,U O f.2.2.2.2.1,U O f.2.2.2.2.2] 77)):=Af _ _;have i:=KX f.1 (w.alloc (A #[Z f.1,Z f.2.1,U O f.2.2.1,U O f.2.2.2.1,U O f.2.2.2.2.1,U O f.2.2.2.2.2] 77)) a (h.below b) l;have j:((Ab (EZ f.1.data.toList).1).toList == [103,111,110,101])=AL f.1:=by
  unfold AL
  cases d:AB f.1.data.toList with
  | none=>rw [Mu d];exact BD (by rw[BT];decide)
  | some x =>
   obtain⟨g,n⟩:=x;rw[Jp d];cases g
   ·exact BD (by rw[BT];show AH Qb≠_;decide)
   ·exact CQ (by rw[BT];rfl)
 unfold A6;obtain⟨p,q,r,m,o,k⟩:=f
 go_enter func139,ntmps139
 go_upto_region 1 with fail
 go_wp2_with fail
 refine i.mono ?_;rintro e s ⟨rfl,c⟩;go_wp2;go_ret;exact⟨by rw[<-j];rfl,(Ad b c)⟩
theorem Ky {f:Fl} (h:Au f=0):AL f.1=decide (f.2.1.data.toList= [45]):=by
 obtain⟨_,_,g,n,c,b⟩:=kY h;unfold AL;rw[c];dsimp only;cases g
 ·exact(decide_eq_false (fun e=>by have:=b.2 e;cases this)).symm
 ·exact(decide_eq_true (b.1 rfl)).symm
theorem OY {P:Xi} {b:Array Q0} {o:Q0} {a:Act} {w w':H} {K:Act->H->Prop} {Q:Exit->Act->H->Prop} {E:Prop}
  (g:o.guard=I) (s x:Xj) (t:Qz) (d:o.op=Op.call { callee:=Callee.builtin X8,args:=#[s,x],argTypes:=#[t,t] }) (v u v':V) (i:a.eval s=v) (j:a.eval x=u)
  (c:(Q9 #[t,t] o.type #[v,u]).run P w= .ok v' w') (k:K (a.put o.dst v') w'):if Region.wanted o (yielded b a.tmps)=Qe then Oper.wp P o a w K Q else E:=by
 have f:Region.wanted o (yielded b a.tmps)=Qe:=by simp[Region.wanted,g]
 rw[if_pos f];unfold Oper.wp;simp[Xk,d,Xl,Xm,Xn,i,j,c,Result.andThen];exact k
theorem nT {P:Xi} {w w':H} {b:Array Q0} {rest:List Q0} {o:Q0} {a:Act} {Q:Exit->Act->H->Prop} (c:o.guard=I) (s x:Xj) (t:Qz)
  (d:o.op= .call { callee:=.builtin .append,args:=#[s,x],argTypes:=#[t,t] }) (v u v':V) (f:a.eval s=v) (g:a.eval x=u) (i:(Q9 #[t,t] o.type #[v,u]).run P w= .ok v' w')
  (h:QT P b Q rest (a.put o.dst v') w'):QT P b Q (o :: rest) a w:=by
 refine X0 c fun K hK=>?_;unfold Oper.wp Xk;simp only[d,Xl,Xm,Xn,Sem.run_bind,Sem.run_pure,Result.andThen_ok,X1,X2,X3,f,g,i];exact hK _ _ h
structure GE (w:H) (a:Nat->Qf):Prop where
 list:DC w a
 shape:w.cell? ⟨0,0,I⟩=S (Qj 410 (Qh (S (a 2))))
 stale:w.cell? ⟨2,0,I⟩=S (Qj 410 (Qh (S (a 10))))
 hand:F7 w
theorem GE.below {w w':H} {a:Nat->Qf} (h:GE w a) (b:BL w w'):GE w' a:=⟨h.list.below b,Aa b h.shape,Aa b h.stale,h.hand.below b⟩
theorem Ao.setF6 {W:H} {b:Nat} {s:Sn} {vf:V} (h:Ao W b s vf) (x:V):Ao (W.setCell ⟨b,6,I⟩ x) b s x:=by
 unfold Ao at *;rw[Qu _ _ _ _ _ _ h];rfl
def UJ (T:Qz) (w:H) (a:Nat->Qf) (s:Sn) (e:Ending) (w':H):Prop :=
 ∃v ev,e=Qd (Qn #[v,ev])/\AZ w' a ev (Am s)/\BL w w'/\(((Am s).1≠0/\v=Qh I)\/((Am s).1=0/\∀B,B<=w.heap.size->CU T B w' v (fun k=>w.heap.size<=k/\k<w'.heap.size) (s, [], [])))
theorem nU (s:Sn) (vf:V) (w:H) (a:Nat->Qf) (h:GE w a) (hx:Ai w vf s.2.2.2.2.2.2) (hl:s.2.2.2.2.2.2.length<=100) (aj:Ej s.2.2.2.2.2.2) :
  Qc Qa 194 #[A8 s vf] w fun e w'=>UJ 312 w a s e w':=by
 have i:BL w (w.alloc (A #[U O s.1,U O s.2.1,U O s.2.2.1,U O s.2.2.2.1,U O s.2.2.2.2.1,Z s.2.2.2.2.2.1,vf] 40)):=Af _ _;have l:=Ao.new w s vf;have m:=J2 s vf (w.alloc (A #[U O s.1,U O s.2.1,U O s.2.2.1,U O s.2.2.2.1,U O s.2.2.2.2.1,Z s.2.2.2.2.2.1,vf] 40)) a (h.list.below i) (hx.below i) (by omega) aj;have aa:=fun W (hb:BL w W)=>MC vf s.2.2.2.2.2.2 W (hx.below hb) (by omega);obtain⟨qf,cf,ai⟩:=hx.form;subst ai;unfold UJ;generalize hR:Am s=R at m ⊢;unfold A8 at m ⊢;obtain⟨T,p,q,r,v,X,F⟩:=s;obtain⟨L,hL⟩:∃L,F.length=L:=⟨_,rfl⟩;have HL:J _:=hL;rw[hL]at i l m aa hl ⊢
 go_enter func194,ntmps194
 go_upto_region 1 with fail
 obtain⟨x0,x1,x2,x3,x4,x5,x6⟩:=l.cells;have ab:=l.lt
 go_wp2_with fail
 refine m.mono ?_;rintro e Y ⟨ev,rfl,ht,K⟩;have z:=Ad i K;have C:=l.below K;have ak:=QP ab K.size;by_cases N:R.1=0
 case neg =>
  obtain⟨t,u,rfl⟩:=ht.bad N;have HT:J _:=ht;go_wp2;go_ret2;exact⟨_,_,rfl,HT.out,z,Qo ⟨N,rfl⟩⟩
 case pos =>
 have HT:J _:=ht;obtain rfl:=ht.ok N;have HE:J _:=N;have ae:=aa Y z;have x6:=C.cells.2.2.2.2.2.2
 go_upto_region 4 with fail
 go_wp2_with fail
 refine ae.mono ?_;rintro e f ⟨vb,rfl,ho,M⟩;have g:=C.below M;have af:=Ad z M;obtain⟨b,c,rfl⟩:=Dj ho;have x6:=g.cells.2.2.2.2.2.2;have fz:=g.fz;have ac:=g.setF6 (G b L c);have D:J (BL w (f.setCell ⟨w.heap.size,6,I⟩ (G b L c))):=af.setCell (Qp _) _;have E:J ((f.setCell ⟨w.heap.size,6,I⟩ (G b L c)).ownsRow Y.heap.size 77 6 (G b L c) L (Ay F)):=AG ho ((Ac.refl (fun k=>k=w.heap.size) f).setCell (Qo (Eq.refl w.heap.size)) _) (fun k d e=>by
  have:=(A7 ho d).1;omega)
 have al:J (Y.heap.size<=(f.setCell ⟨w.heap.size,6,I⟩ (G b L c)).heap.size):=by
  show _<=_;have:(f.setCell ⟨w.heap.size,6,I⟩ (G b L c)).heap.size=f.heap.size:=by simp[World.setCell]
  rw[this];exact M.size
 have ag:J (AZ f a QK R):=by
  show AZ _ _ _ _;have h:=HT.out;obtain⟨n,o⟩:=R;have h0:=HE.out;subst h0
  cases o with
  | none=>exact h
  | some j=>exact absurd rfl h.1
 go_upto_region 5 with fail
 generalize f.setCell ⟨w.heap.size,6,I⟩ (G b L c)=y at *;obtain⟨p0,p1,p2,p3,p4,p5,p6⟩:=ac.cells;dsimp only at p0 p1 p2 p3 p4 p5;have HN:J (C8 312 (y.alloc (A #[U O T,U O p,U O q,U O r,U O v,Z X,G b L c,G I 0 0,G I 0 0] 312)) y.heap.size (T,p,q,r,v,X,F) (G b L c) (G I 0 0) (G I 0 0)):=QN _ _;have HA:J (BL y (y.alloc (A #[U O T,U O p,U O q,U O r,U O v,Z X,G b L c,G I 0 0,G I 0 0] 312))):=Af _ _;go_wp2;go_ret2;refine⟨_,_,rfl,?_,D.out.trans (HA.out.mono D.out.size),Qk ⟨HE.out,fun B hB=>?_⟩⟩
 ·have h:=ag.out;obtain⟨n,o⟩:=R;have h0:=HE.out;subst h0
  cases o with
  | none=>exact h
  | some j=>exact absurd rfl h.1
 ·have ah:=D.out.size;have ad:=AG (P:=fun _=>False) E.out (Ac.of_below HA.out) (fun _ _ h=>h);have Q:(y.alloc (A #[U O T,U O p,U O q,U O r,U O v,Z X,G b L c,G I 0 0,G I 0 0] 312)).ownsRow Y.heap.size 77 6 (G b L c) F.length (Ay F):=by rw[HL.out];exact ad
  refine⟨y.heap.size,G b L c,G I 0 0,G I 0 0,rfl,⟨HN.out,by omega,(GA Q).1,QO _ _ _ _,QO _ _ _ _,fun k d=>⟨?_,by simp[Q6],by simp[Q6]⟩⟩,fun k d=>?_,fun k d=>?_,fun k d=>⟨by omega,d.2⟩⟩
  ·have:=(A7 E.out d).2.1;omega
  ·rcases d with rfl | d | d
   ·exact⟨ah,HN.out.lt⟩
   ·simp[Q6]at d
   ·simp[Q6]at d
  ·have h1:=A7 E.out d;have h2:=HA.out.size;exact⟨Qo ⟨by omega,by omega⟩,by omega⟩
theorem wpList_append_run {P:Xi} {w w':H} {b:Array Q0} {rest:List Q0} {o:Q0} {a:Act} {Q:Exit->Act->H->Prop} (c:o.guard=I) (s x:Xj) (t:Qz)
  (d:o.op= .call { callee:=.builtin .append,args:=#[s,x],argTypes:=#[t,t] }) (v u v':V) (f:a.eval s=v) (g:a.eval x=u) (i:(Q9 #[t,t] o.type #[v,u]).run P w= .ok v' w')
  (h:QT P b Q rest (a.put o.dst v') w'):QT P b Q (o :: rest) a w:=by
 refine X0 c fun K hK=>?_;unfold Oper.wp Xk;simp only[d,Xl,Xm,Xn,Sem.run_bind,Sem.run_pure,Result.andThen_ok,X1,X2,X3,f,g,i];exact hK _ _ h
theorem Lm {B:Nat} {W f:H} {v:V} {b:List ByteArray} (z:W.ownsRow B 9 1 v b.length (b.map Z)) (C:B<=W.heap.size) (p:ByteArray) (i:f=W.alloc (A #[Z p] 9)) (D:b.length<=20000) :
  ∃v' W2,(Q9 #[82,82] 82 #[v,G (S ⟨W.heap.size,0,I⟩) 1 1]).run Qa f= .ok v' W2/\W2.ownsRow B 9 1 v' (b++ [p]).length ((b++ [p]).map Z)/\Ac (fun k=>v.ownBlock=S k) W W2/\(v'.ownBlock=v.ownBlock\/∃k,v'.ownBlock=S k/\W.heap.size<=k/\k<W2.heap.size):=by
 obtain⟨n,o,q,r,l⟩:=Tryz.strInfo;have c:BL W f:=by rw[i];exact Af _ _
 have j:CR f (S ⟨W.heap.size,0,I⟩) 1 1 [Z p]:=by
  rw[i];exact Ih W [Z p] 9 1 1
 obtain⟨v',W2,s,t,y,d⟩:=Fc (P:=Qa) f B 82 82 9 n (Z ⟨#[]⟩) 1 16 X4 o q r l rfl (by decide) v b.length (b.map Z) (AG (P:=fun _=>False) z (Ac.of_below c) (fun _ _ h=>h)) (S ⟨W.heap.size,0,I⟩) 1 1 [Z p] rfl j (by intro u m;rw[X5]at m;subst m;rfl) (by unfold Qq;omega) (by omega) (X6 C c.size);have g:W2.ownsRow B 9 1 v' (b++ [p]).length ((b++ [p]).map Z):=by
  rw[Q7,Xo];simpa using t
 refine⟨v',W2,s,g,(Ac.of_below c).trans (Ac.grown y) (fun _ h _=>h),?_⟩;rcases d with d | d
 ·exact Qo d
 ·exact Qk ⟨_,d,c.size,(A7 g d).2.1⟩
theorem UK {B:Nat} {W:H} {v:V} {b d:List ByteArray} (t:W.ownsRow B 9 1 v b.length (b.map Z)) (y:B<=W.heap.size) (q:Option Qf) (m c:Nat) (i:d.length=m) (z:CR W q m c (d.map Z)) (D:b.length+d.length<=20000) :
  ∃v' W2,(Q9 #[82,82] 82 #[v,G q m c]).run Qa W= .ok v' W2/\W2.ownsRow B 9 1 v' (b++d).length ((b++d).map Z)/\Ac (fun k=>v.ownBlock=S k) W W2:=by
 obtain⟨j,l,n,f,g⟩:=Tryz.strInfo;obtain⟨v',W2,o,p,r,C⟩:=Fc (P:=Qa) W B 82 82 9 j (Z ⟨#[]⟩) 1 16 X4 l n f g rfl (by decide) v b.length (b.map Z) t q m c (d.map Z) (by rw[List.length_map,i,Nat.mul_one]) z (by intro u s;obtain⟨x,_,rfl⟩:=Xv.1 s;rfl) (by unfold Qq;omega) (by omega) y;refine⟨v',W2,o,?_,Ac.grown r⟩;rw[Q7,Xo,i];exact p
theorem nV {W:H} {g n c:Nat} {b:List ByteArray} (h:∀j (hj:j<b.length),W.cell? ⟨g,j,I⟩=S (Z b[j])):CR W (S ⟨g,0,I⟩) n c ((b.take n).map Z):=Qk ⟨g,0,rfl,fun j u hu=>by
 rw[List.getElem?_map,QR]at hu;split at hu
 ·cases hj:b[j]? with
  | none=>rw [hj]at hu;cases hu
  | some x =>
   rw[hj]at hu;obtain⟨d,rfl⟩:=List.getElem?_eq_some_iff.1 hj;cases hu
   rw[QZ];exact h j d
 ·cases hu⟩
def Ln (w:H) (b o:Nat) (ss:List Sn):Prop :=
 ∀j (h:j<ss.length),w.cell? ⟨b,o+j*7,I⟩=S (U O ss[j].1)/\w.cell? ⟨b,o+j*7+3,I⟩=S (U O ss[j].2.2.2.1)/\∃vf,w.cell? ⟨b,o+j*7+6,I⟩=S vf/\Ai w vf ss[j].2.2.2.2.2.2/\w.cell? ⟨b,o+j*7+1,I⟩=S (U O ss[j].2.1)/\w.cell? ⟨b,o+j*7+2,I⟩=S (U O ss[j].2.2.1)/\w.cell? ⟨b,o+j*7+4,I⟩=S (U O ss[j].2.2.2.2.1)/\w.cell? ⟨b,o+j*7+5,I⟩=S (Z ss[j].2.2.2.2.2.1)
def FJ (w:H) (v:V) (ss:List Sn):Prop :=
 (∃p c,v=G p 0 c/\(p=I->c=0)/\ss= [])\/∃b o cap,v=G (S ⟨b,o,I⟩) ss.length cap/\ss.length<=cap/\Ln w b o ss
theorem Ln.below {w w':H} {b o:Nat} {d:List Sn} (h:Ln w b o d) (c:BL w w'):Ln w' b o d:=fun j hj=>by
 obtain⟨f,g,i,k,l,m,n,p,q⟩:=h j hj;exact⟨Aa c f,Aa c g,i,Aa c k,l.below c,Aa c m,Aa c n,Aa c p,Aa c q⟩
theorem FJ.below {w w':H} {v:V} {d:List Sn} (h:FJ w v d) (j:BL w w'):FJ w' v d:=by
 rcases h with h | ⟨b,o,c,f,g,i⟩
 ·exact Qo h
 ·exact Qk ⟨b,o,c,f,g,i.below j⟩
theorem FJ.form {w:H} {v:V} {d:List Sn} (h:FJ w v d):∃p c,v=G p d.length c:=by
 rcases h with⟨p,c,rfl,_,rfl⟩|⟨b,o,f,rfl,_⟩
 ·exact⟨_,_,rfl⟩
 ·exact⟨_,_,rfl⟩
theorem FJ.cells {w:H} {q:Option Qf} {n c:Nat} {d:List Sn} (h:FJ w (G q n c) d) (f:d≠ []):∃b o,q=S ⟨b,o,I⟩/\Ln w b o d:=by
 rcases h with⟨_,_,_,_,e⟩|⟨b,o,i,e,_,g⟩
 ·exact absurd e f
 ·simp only[Xh]at e;exact⟨b,o,e.1,g⟩
theorem nW {B:Nat} {W c:H} {v:V} {zs:List Int} (s:W.ownsRow B 3 1 v zs.length (zs.map (U O))) (t:B<=W.heap.size) (z:Int) (d:c=W.alloc (A #[U O z] 3)) (y:zs.length<=1000) :
  ∃v' W2,(Q9 #[32,32] 32 #[v,G (S ⟨W.heap.size,0,I⟩) 1 1]).run Qa c= .ok v' W2/\W2.ownsRow B 3 1 v' (zs++ [z]).length ((zs++ [z]).map (U O))/\Ac (fun k=>v.ownBlock=S k) W W2:=by
 obtain⟨l,m,n,o,i⟩:=Tryz.numInfo;have b:BL W c:=by rw[d];exact Af _ _
 have f:CR c (S ⟨W.heap.size,0,I⟩) 1 1 [U O z]:=by
  rw[d];exact Ih W [U O z] 3 1 1
 obtain⟨v',W2,p,q,r,C⟩:=Fc (P:=Qa) c B 32 32 3 l (U O 0) 1 8 Xy m n o i rfl (by decide) v zs.length (zs.map (U O)) (AG (P:=fun _=>False) s (Ac.of_below b) (fun _ _ h=>h)) (S ⟨W.heap.size,0,I⟩) 1 1 [U O z] rfl f (by intro u j;rw[X5]at j;subst j;rfl) (by unfold Qq;omega) (by omega) (X6 t b.size);have g:W2.ownsRow B 3 1 v' (zs++ [z]).length ((zs++ [z]).map (U O)):=by
  rw[Q7,Xo];simpa using q
 exact⟨v',W2,p,g,(Ac.of_below b).trans (Ac.grown r) (fun _ h _=>h)⟩
end Go.Proofs.YtcllhobffhkafaaGreatDoor
