/- By an AI agent. -/
import Derived.Test.YtcllhobffhkafaaGreatDoorStoIter
import Derived.Shelf.AbstractIn
import Derived.Deep.RegionWith
import Derived.RangeFuncFrom
import Derived.RangeFuncWrites
import Derived.RangeFuncBox
import Derived.Laws.IdiomStrings
set_option maxRecDepth 100000
set_option maxHeartbeats 16000000
open Go.Proofs.Tryz
open And renaming intro->QH
open Array renaming replicate_succ->QN,replicate_zero->QO,getElem?_eq_some_iff->QT,getElem?_toList->XJ,toList_extract->XN
open Bool renaming false->V,true->Qc,eq_false_or_eq_true->Xe,and_true->XU
open ByteArray renaming data_extract->XM,size_extract->XQ
open Go renaming World->A,Boxed->Qf,Calls->Qh,Addr->Qk,maxLen->Ql,undef->Qp,Value->Qq,Act->Qu,wpAnyIn_ready->Qw,callsIn_wide->Qy,DataW->Q5,heap_setCell_same->Q7,Oper->QB,Ending->QC,Exit->QU,CallsIn->QX,bodyPost_ret->QY,TypeId->Xa,results->Xc,run_takeDeferred->Xd,wpList_append_own->Xi,callsIn_of_wp->Xk,callFunc->Xl,KeepsOthers->Xn,callsIn_of_wp_marks->Xs,grownBy_putObj'->Xt,heap_alloc_new->Xv,Program->XA,wpAnyIn->XB,wpAnyIn_done->XD,results_none->XH,run_endRound->XS,run_endLoop->XT,ownFrom_below->XW,results_tmp->XZ,grownBy_setCell'->Yd,wpAnyIn_take->Yf
open Go.AllReadyIn renaming cons->Qt,nil->Qx
open Go.Boxed renaming new->Q2
open Go.Builtin renaming len_->X1,append_->XC,append->Yg
open Go.Ending renaming returned->Qe
open Go.Fence renaming wide->Qs
open Go.Instr renaming lookup->X0,mapUpdate->X7
open Go.IntKind renaming i64->Z
open Go.KeepsOthers renaming setCell->Xu,drew->XY,alloc->Yh
open Go.Lib renaming indexByte->QD
open Go.Maps renaming has->QI,keyOf_int_inv->XF
open Go.Obj renaming cells->Qa,deferred->Qj
open Go.Oper renaming semAt_some->QZ,wpIn->Xg,semAt_plain->Yb
open Go.Proofs renaming intOf->Q3,enters_of->Xb
open Go.Proofs.Tryz renaming prog->Qb,func220->Q9,ntmps220->QA,func152->QV,ntmps152->QW,underlying38->Xj,func307->Xq,ntmps307->Xr,func37->Xw,ntmps37->Xx,func36->Xy,ntmps36->Xz,func44->X3,ntmps44->X4,func221->X5,ntmps221->X6,func137->X8,ntmps137->X9,underlying3->XG,underlying68->XV
open Go.RowKit renaming Hid->J
open Go.RowKit.Below renaming refl->Qo,heap_setCell->Q4,heap_alloc->QE
open Go.Value renaming int->I,string->S,pointer->H,bool->Qd,slice->Qi,tuple->Qr,iface->Qv,ownBlock->Q1,nilIface->Q8,agg->QF
open Go.World renaming putObj_heap_other->Q0,size_alloc->Xo,putObj_heap_same->Xp,alloc_heap_new->XR,drew->Ya,ownsRow_nil->Ye
open List renaming length_cons->Q6,length_append->QG,size_toArray->QJ,length_nil->QK,push_toArray->QP,append_toArray->QQ,nil_append->QR,cons_append->QS,length_filter_le->Xh,all_eq_true->Xm,mem_filter->X2,mem_singleton->XE,getElem?_take->XI,mem_cons->XK,mem_iff_getElem?->XL,extract->XO,take_of_length_le->XP,mem_map->XX,length_map->Yc
open Nat renaming le_refl->Qn,le_trans->Qz,reduceAdd->QL,reduceSub->QM,lt_of_lt_of_le->Xf
open Option renaming some->O,none->U
open Or renaming inl->Qg,inr->Qm
namespace Go.Proofs.YtcllhobffhkafaaGreatDoor
open Go.RowKit Go.Extern.Stop Go.Stop Go.Extern Go.Maps Go.Sort Go.Shelf Go.Lib
structure Iq (D:Q5 Unit) (left:Lit->Bool) (ps:List Int):Prop where
 once:ps.Nodup
 left:∀z:Int,left (.int .i64 z)=Qc↔QI D (.int .i64 z)=Qc/\z∉ps
theorem qM (z y:Int):(Lit.int .i64 z).sameKey (.int .i64 y)=decide (z=y):=by
 by_cases h:z=y
 ·subst h;rw[WideAt.sameKey_self (show WideAt.IsKeyLit (.int .i64 z) from trivial),decide_eq_true rfl]
 ·rw[decide_eq_false h]
  cases c:(Lit.int .i64 z).sameKey (.int .i64 y) with
  | false=>rfl
  | true =>
   have:=(WideAt.sameKey_iff (b:=.int .i64 y) trivial).1 c;injection this with _ e;exact absurd e h
theorem Iq.start (D:Q5 Unit):Iq D (QI D) []:=⟨List.nodup_nil,fun z=>by simp⟩
theorem Iq.step {D:Q5 Unit} {c:Lit->Bool} {ps:List Int} (h:Iq D c ps) (z:Int) (f:c (.int .i64 z)=Qc):Iq D (fun k=>c k && !k.sameKey (.int .i64 z)) (ps++ [z]):=by
 have d:=((h.left z).1 f).2;refine⟨?_,fun y=>?_⟩
 ·rw[List.nodup_append];refine⟨h.once,by simp,fun a ha b hb=>?_⟩;simp only[XE]at hb;subst hb;exact fun e=>d (e▸ha)
 ·rw[qM];by_cases e:y=z
  ·subst e;simp
  ·simp[e,h.left y]
theorem Iq.done {D:Q5 Unit} {b:Lit->Bool} {ps:List Int} (h:Iq D b ps) (c:∀z,b z=V):ps.Nodup/\∀z:Int,QI D (.int .i64 z)=Qc->z∈ps:=by
 refine⟨h.once,fun z hz=>?_⟩;have:=h.left z;rw[c]at this;simp only[Bool.false_eq_true,hz,true_and,false_iff,Classical.not_not]at this;exact this
abbrev Pq (hv:Int->Qq) (z:Int):Array Qq:=#[I Z z,hv z]
abbrev qN (t:Option Qk×Nat×Nat):Qq:=Qi t.1 t.2.1 t.2.2
theorem qO (n:Nat) (hn:1<=n) (n₀ r Bm b:Nat) (ai:b<n₀) (M:Nat) (D:Q5 Unit) (g:Int->Qq) (hd:∀z,CJ (g z)=O (D.atKey (.int .i64 z) .nil, [])) (d Jx:List Int->A->Prop)
  (hY:∀pre x W,d pre W->pre.length<M->YieldAt Qs (n-1) Qb r (Pq g x) W fun e W' =>
   (e=Qe (.bool Qc)/\d (pre++ [x]) W'/\Fj n₀ W W')\/(e=Qe (.bool V)/\Jx (pre++ [x]) W'))
  (W:A) (hJ:AbidesFrom W.heap.size d) (hm:W.cell? ⟨Bm,0,U⟩=O (.map (O b))) (p:W.ownsMap Qb 3 CJ b M D) (h0:d [] W) :
  QX Qs n Qb 245 #[.func (.yield r) #[] #[],.pointer (O ⟨Bm,0,U⟩)] W fun e W'=>(∃v,e=Qe v) /\
   ((∃ps,(ps.Nodup/\∀z:Int,QI D (.int .i64 z)=Qc->z∈ps)/\d ps W')\/(∃pre,True/\Jx pre W')):=by
 have N:Fence.wide.round=U:=rfl;have hN:=p.size_le;refine Xk func245 rfl trivial ?_ N;simp only[ntmps245,QJ,Q6,QK,QL,QM,QN,QO,QP,QQ,QR,QS]
 gi_wp2_with (first
  | (gi_at_range;refine wpListIn_range_own _ rfl _ 133 rfl 3 35 Tryz.keyedI underlying133 CJ b M _ rfl p ?_;intro w0 C aa ak)
  | gi_in)
 go_frame
 gi_loopw [3,4] (fun _ _ wr=> ∃(f:Lit->Bool) (j:Nat) (ps:List Int),wr.ranges Qb 3 CJ b W.heap.size M D f j/\ps.length+j<=M/\Iq D f ps/\d ps wr)
  (fun _ _ wr=>wr.rangeLeft b W.heap.size)
 case atStart =>
  exact⟨_,_, [],C,by simpa using hN,Iq.start D,hJ [] W w0 U h0 aa (fun r e=>by cases e)⟩
 case round =>
  obtain⟨f,j,ps,k,aj,T,u⟩:=hrel
  gi_wp2_with (first
   | (gi_at_next;refine wpListIn_next_ranges _ rfl _ rfl 3 Tryz.keyedI CJ (I .i64) qN (fun key kl hk=>by obtain⟨x,hx,_⟩:=XF XG hk;exact⟨x,hx⟩) (fun v y g=>by obtain⟨q,m,c,e⟩:=J9 g;exact⟨(q,m,c),e⟩) b W.heap.size M _ _ _ rfl k ?_ ?_)
   | gi_in)
  ·intro al ab
   gi_wp2
   go_end0;exact⟨⟨_,rfl⟩,.inl ⟨ps,T.done ab,u⟩⟩
  ·intro x cq cm cc kl yd yp E F l ac o B K ad ae af am;obtain⟨x',X,rfl,_⟩:=XF XG l;obtain rfl:x=x':=by injection X
   have s:CJ (g x)=O (yd, []):=by rw[hd x,B .nil]
   have P:=Vf o;subst P;have t:Qi cq cm cc=g x:=Vg o s;have Q:d ps E:=hJ ps wr E (O W.heap.size) u ae (fun r e=>by cases e;exact⟨Qn _,k.iter_walk⟩);obtain⟨fn,tmps,assign,body,Y,hR⟩:=hY ps x E Q (by omega);dsimp only[Pq]at Y;rw[<-t]at Y;have R:=T.step x ac;clear af X l o B s t
   gi_wp2
   refine hR.mono ?_;rintro e W3 (⟨rfl,ag,ah⟩|⟨rfl,L⟩)
   ·gi_wp2
    have i:=qG K ah ai;go_roundw
    case rel=>exact ⟨_,F,_,i,by simp;omega,R,ag⟩
    case measure=>rw [i.left_eq,k.left_eq];exact ad
   ·gi_wp2
    refine QY (XH rfl _ _ _) rfl ?_;exact⟨⟨_,rfl⟩,.inr ⟨_,trivial,L⟩⟩
theorem qP (n:Nat) (s:1<=n) (g f b:Nat) (l:b<g) (M:Nat) (D:Q5 Unit) (i:Int->Qq) (t:∀z,CJ (i z)=O (D.atKey (.int .i64 z) .nil, [])) (w:A) (m:w.cell? ⟨f,0,U⟩=O (.map (O b))) (j:w.ownsMap Qb 3 CJ b M D) :
  SeqStopsK Qs n Qb 245 #[.pointer (O ⟨f,0,U⟩)] (Pq i) (Fj g) (fun ps:List Int=>ps.Nodup/\∀z:Int,QI D (.int .i64 z)=Qc->z∈ps) (fun _=>True) M w:=fun r c Jx W hW hJ _ hY h0 =>
 qO n s g r f b l M D i t c Jx hY W hJ ((hW.cell (p:=⟨f,0,U⟩) (BF m)).trans m) (by
  obtain⟨o,d,k,q⟩:=j;exact⟨o,d,(hW.block b (QT.1 k).1).trans k,q⟩) h0
theorem qQ (n:Nat) (b:Option Nat) (w:A):QX Qs n Qb 160 #[.map b] w fun e w'=>e=Qe (.func (.func 245) #[] #[H (O ⟨w.heap.size,0,U⟩)])/\w'=w.alloc (Qa #[.map b] 133):=by
 refine Xk func160 rfl trivial ?_ rfl
 gi_wp2
 go_ret;exact⟨rfl,rfl⟩
def Vm (v:Qq) (ys:List Rw) (w:A) (e:QC) (w':A):Prop:= ∃q n c,e=Qe (Qi q n c)/\n=ys.length/\CR w' q n c (Az ys)/\Ac (fun k=>O k=v.ownBlock) w w'
theorem qR {d:Array Qq} {xs:List Rw} (h:d.toList.take (xs.length*3)=Az xs):∀t (ht:t<xs.length),Fi d t xs[t]:=fun t ht=>by
 have b:∀c,c<3->d[t*3+c]? =(AM xs[t])[c]? :=fun c hc=>by
  rw[<-Iz xs t c ht hc,<-h,XI,if_pos (by omega),XJ]
 exact⟨by have:=b 0 (by omega);simpa [AM] using this,by have:=b 1 (by omega);simpa [AM] using this,by have:=b 2 (by omega);simpa [AM] using this⟩
theorem qS (v:Qq) (xs:List Rw) (base:Nat) (b:Nat) (d:Array Qq) (p:Rw->Bool) (w:A) (t:∀args w,(Xl b args).run Qb w= .ok (.enter b args) w) (l:w.ownsRow base 62 3 v xs.length (Az xs)) (F:xs.length<=20000) (K:Pn b d xs p (fun k=>O k=v.ownBlock) w) :
  Qh Qb 162 #[v,.func (.func b) #[] d] w (Vm v (xs.filter fun x=> !p x) w):=by
 rcases l.2 with⟨rfl,D⟩|⟨g,j,q,rfl,L,E,r,M,s,f⟩
 ·have c:xs= []:=List.length_eq_zero_iff.1 D;subst c;have i:=Vj (Qi U 0 0) [] b d p w t (Qg ⟨U,0,rfl,rfl⟩) (by simp) (fun x W c _=>by cases c);have u:GH p []= -1:=rfl;rw[u]at i
  go_enter func162,ntmps162
  go_wp2_with fail
  refine i.mono ?_;rintro e y ⟨rfl,o⟩;go_wp2;go_ret;exact⟨U,0,0,rfl,rfl,Qg ⟨rfl,fun _=>rfl⟩,Ac.of_below o⟩
 ·have m:∀k,(O k=(Qi (O ⟨g,0,U⟩) xs.length j).ownBlock)↔k=g:=fun k=>by simp[Q1]
  have n:Pn b d xs p (fun k=>k=g) w:=fun x W c hB=>K x W c (hB.mono fun k hk=>(m k).2 hk);refine(qC g j xs b d p q w t E (qR f) (by rw[s];omega) r F n).mono ?_;rintro e y ⟨z,B,C⟩;exact⟨_,_,_,z,rfl,Qm ⟨g,0,rfl,KG B⟩,C.mono fun k hk=>(m k).2 hk⟩
end Go.Proofs.YtcllhobffhkafaaGreatDoor
namespace Go.Proofs
open Go.Shelf
def Tryz.indexIt_ren:Go.Shelf.Ren:=⟨fun | 143=>299 | 219=>292 | 217=>334 | 225=>335 | 224=>336 | 267=>337 | 266=>371 | 314=>372 | n=>n,fun | 9=>9 | 3=>3 | 4=>4 | 5=>5 | 46=>159 | 146=>380 | 51=>229 | n=>n,fun | 1=>13 | n=>n⟩
theorem Tryz.indexIt:Go.Proofs.Lays.n143 Qb indexIt_ren:= { lays146 with
 mixed:=by kernel_rfl
 f143:=Tryz.lq func299 (by kernel_rfl)
 f217:=Tryz.lq func334 (by kernel_rfl)
 f219:=Tryz.lq func292 (by kernel_rfl)
 f224:=Tryz.lq func336 (by kernel_rfl)
 f225:=Tryz.lq func335 (by kernel_rfl)
 f266:=Tryz.lq func371 (by kernel_rfl)
 f267:=Tryz.lq func337 (by kernel_rfl)
 f314:=Tryz.lq func372 (by kernel_rfl)
 g1:=by kernel_rfl }
end Go.Proofs
namespace Go.Proofs.YtcllhobffhkafaaGreatDoor
open Go.RowKit Go.Maps Go.Sort Go.Shelf Go.Lib
attribute [local go_sem] QZ
def D4 (p:List UInt8):Bool:=p.isEmpty || DG 16 p
theorem qT (c:UInt8):GY c=(C5 c.toNat || decide (c=47)):=by
 rw[mA]
 unfold C5
 have e : decide ((c.toNat : Int) = 47) = decide (c=47):=by
   congr 1
   exact propext ⟨fun h => UInt8.toNat_inj.1 (by have:c.toNat=47:=by omega
                                                 rw[this];rfl),fun h=>by rw[h];rfl⟩
 rw[e]
theorem Vn {p:List UInt8} (h:p.length<=16):D4 p=p.all fun c=>C5 c.toNat:=by
 unfold D4 DG
 cases p with
 | nil=>rfl
 | cons c r=>simp only[List.isEmpty_cons,Bool.false_or];rw[decide_eq_true (by simp),decide_eq_true h];rfl
theorem Vo:∀l:List UInt8,((Ax 47 l).all fun p=>p.all fun c=>C5 c.toNat)=l.all GY
 | []=>rfl
 | c :: r=>by
  have b:=Vo r;unfold Ax;rw[List.all_cons,qT];split
  ·rename_i h;subst h;simp[<-b]
  ·rename_i h;rw[decide_eq_false h,Bool.or_false,<-b];split
   ·rename_i e;exact absurd e (JZ 47 r)
   ·rename_i w d e;rw[e];simp[Bool.and_assoc]
theorem Pr (d:UInt8):∀(l:List UInt8),∀x∈Ax d l,x.length<=l.length
 | [],x,h=>by simp only[Ax,XE]at h;subst h;exact Qn _
 | c :: r,x,h=>by
  have b:=Pr d r;unfold Ax at h;split at h
  ·rcases XK.1 h with rfl | h
   ·simp
   ·have:=b x h;simp;omega
  ·split at h
   ·rename_i e;exact absurd e (JZ d r)
   ·rename_i w f e;rw[e]at b;rcases XK.1 h with rfl | h
    ·have:=b w (by simp);simp;omega
    ·have:=b x (by simp[h]);simp;omega
theorem qU {l:List UInt8} (h:l.length<=16):(Ax 47 l).all D4=l.all GY:=by
 rw[<-Vo];apply Bool.eq_iff_iff.2;rw[Xm,Xm];constructor
 ·intro c p b;rw[<-Vn (Qz (Pr 47 l p b) h)];exact c p b
 ·intro c p b;rw[Vn (Qz (Pr 47 l p b) h)];exact c p b
theorem qV (s:ByteArray):(QD s.data.toList 47= -1/\Ax 47 s.data.toList= [s.data.toList])\/∃i:Nat,i<s.size/\QD s.data.toList 47=i/\Ax 47 s.data.toList=(s.extract 0 i).data.toList :: Ax 47 (s.extract (i+1) s.size).data.toList:=by
 have m:=AC s;have t:=indexByte_ge s.data.toList 47;rcases Int.lt_or_le (QD s.data.toList 47) 0 with u | v
 ·have n:QD s.data.toList 47= -1:=by omega
  have f:=indexByte_none n;refine Qg ⟨n,JY 47 _ fun c d e=>?_⟩;obtain⟨k,b⟩:=XL.1 d;exact f k (by rw[b,e])
 ·obtain⟨i,p⟩:∃i:Nat,QD s.data.toList 47=i:=⟨(QD s.data.toList 47).toNat,by omega⟩;obtain⟨d,f⟩:=indexByte_some p;have j:i<s.data.toList.length:=by
   rcases Nat.lt_or_ge i s.data.toList.length with l | l
   ·exact l
   ·rw[List.getElem?_eq_none l]at d;cases d
  refine Qm ⟨i,by omega,p,?_⟩;have o:s.data.toList=s.data.toList.take i++47 :: s.data.toList.drop (i+1):=by
   have g:=List.take_append_drop i s.data.toList;rw[List.drop_eq_getElem_cons j]at g;rw[List.getElem?_eq_getElem j]at d;rw[Option.some.inj d]at g;exact g.symm
  have g:(s.extract 0 i).data.toList=s.data.toList.take i:=by simp[XM,XN,XO]
  have r:(s.extract (i+1) s.size).data.toList=s.data.toList.drop (i+1):=by
   simp only[XM,XN,XO];rw[XP (by rw[List.length_drop,m];exact Qn _)]
  rw[g,r]
  conv=>lhs;rw[o]
  refine Hw 47 _ _ fun c hc' e=>?_;obtain⟨k,b⟩:=XL.1 hc';rw[XI]at b;split at b
  ·rename_i q;exact f k q (by rw[b,e])
  ·cases b
def MP (B:Nat) (w:A):Nat:=match w.cell? ⟨B,0,U⟩ with
 | some (S r)=>r.size
 | _=>0
theorem Vp {B:Nat} {w:A} {r:ByteArray} {t:Xa} (h:Qf w B t (S r)):MP B w=r.size:=by unfold MP;rw[h.cell]
theorem qW (n:Nat) (hn:1<=n) (l B:Nat) (R Rx:A->Prop) (s:ByteArray)
  (hY:∀(x:ByteArray) (W:A),x.size<=s.size->R W->YieldAt Qs (n-1) Qb l #[S x] W fun e W' =>
   (D4 x.data.toList=Qc/\e=Qe (Qd Qc)/\R W'/\∀k,B<=k->k<B+3->W'.heap[k]? =W.heap[k]?)\/(D4 x.data.toList=V/\e=Qe (Qd V)/\Rx W'))
  (K:∀W v,R W->R (W.setCell ⟨B,0,U⟩ v))
  (W:A) (b0:Qf W B 9 (S s)) (b1:Qf W (B+1) 9 (S ⟨#[47]⟩)) (b2:Qf W (B+2) 3 (I Z 0)) (hs:s.size<=Ql) (h0:R W) :
  QX Qs n Qb 388 #[.func (.yield l) #[] #[],H (O ⟨B+1,0,U⟩),H (O ⟨B,0,U⟩),H (O ⟨B+2,0,U⟩)] W fun e W'=>(∃v,e=Qe v) /\
   (((Ax 47 s.data.toList).all D4=Qc/\R W')\/((Ax 47 s.data.toList).all D4=V/\Rx W')):=by
 unfold Ql at hs;have L:Fence.wide.round=U:=rfl;generalize hG:(Ax 47 s.data.toList).all D4=G;have M:J _:=hY;have z:J _:=K;have c1:=b1.cell;refine Xk func388 rfl trivial ?_ L;simp only[ntmps388,QJ,Q6,QK,QL,QM,QN,QO,QP,QQ,QR,QS]
 gi_wp2
 gi_loopw [7,8] (fun _ _ wr=> ∃r:ByteArray,Qf wr B 9 (S r)/\Qf wr (B+1) 9 (S ⟨#[47]⟩)/\Qf wr (B+2) 3 (I Z 0)/\R wr/\r.size<=s.size/\(Ax 47 r.data.toList).all D4=G) (fun _ _ wr=>MP B wr)
 case atStart=>exact ⟨s,b0,b1,b2,h0,Qn _,hG⟩
 case round =>
  obtain⟨r,C,d1,d2,u,y,p⟩:=hrel;have k0:=C.cell;have k1:=d1.cell;have k2:=d2.cell;have b:=(Qy (n:=n-1)).2 (Any.strings_Index_one indexIt r 47 wr);change QX Qs (n-1) Qb 299 _ _ _ at b;rcases qV r with⟨E,F⟩|⟨i,ad,E,F⟩
  ·rw[E]at b;rw[F]at p;have g:J (D4 r.data.toList=G):=by simpa [J] using p
   obtain⟨fn,tmps,assign,body,hy,D⟩:=M.out r wr y u
   gi_wp2_with (refine⟨trivial,?_⟩;gi_at_call 299;refine b.mono ?_;rintro e w' ⟨rfl,rfl⟩)
   refine D.mono ?_;rintro e d (⟨c,rfl,m,_⟩|⟨c,rfl,f⟩)
   ·gi_wp2
    go_end0;exact⟨⟨_,rfl⟩,.inl ⟨by rw[<-g.out];exact c,m⟩⟩
   ·gi_wp2
    go_end0;exact⟨⟨_,rfl⟩,.inr ⟨by rw[<-g.out];exact c,f⟩⟩
  ·rw[E]at b;rw[F]at p;have N:(r.extract 0 i).size<=s.size:=by rw[XQ];omega
   have P:(r.extract (i+1) r.size).size<r.size:=by rw[XQ];omega
   have g:J ((D4 (r.extract 0 i).data.toList && (Ax 47 (r.extract (i+1) r.size).data.toList).all D4)=G):=by simpa [J] using p
   obtain⟨fn,tmps,assign,body,hy,D⟩:=M.out (r.extract 0 i) wr N u;have HM:J (MP B wr=r.size):=Vp C;have q:J ((r.extract (i+1) r.size).size<r.size):=P;have Q:J (r.size<=s.size):=y
   gi_wp2_with (refine⟨trivial,?_⟩;gi_at_call 299;refine b.mono ?_;rintro e w' ⟨rfl,rfl⟩)
   refine D.mono ?_;rintro e d (⟨c,rfl,m,o⟩|⟨c,rfl,f⟩)
   ·have j:Qf d B 9 (S r):=(o B (Qn _) (by omega)).trans C;have t:Qf d (B+1) 9 (S ⟨#[47]⟩):=(o (B+1) (by omega) (by omega)).trans d1;have T:Qf d (B+2) 3 (I Z 0):=(o (B+2) (by omega) (by omega)).trans d2;have j0:=j.cell;have j1:=t.cell;have jf:=j.frozen;have X:J (Qf (d.setCell ⟨B,0,U⟩ (S (r.extract (i+1) r.size))) B 9 (S (r.extract (i+1) r.size))):=j.set _;have Y:J (Qf (d.setCell ⟨B,0,U⟩ (S (r.extract (i+1) r.size))) (B+1) 9 (S ⟨#[47]⟩)):=(Q4 d ⟨B,0,U⟩ _ (B+1) (by show B+1≠B;omega)).trans t;have aa:J (Qf (d.setCell ⟨B,0,U⟩ (S (r.extract (i+1) r.size))) (B+2) 3 (I Z 0)):=(Q4 d ⟨B,0,U⟩ _ (B+2) (by show B+2≠B;omega)).trans T;have ab:J (R (d.setCell ⟨B,0,U⟩ (S (r.extract (i+1) r.size)))):=z.out _ _ m;have ac:J ((Ax 47 (r.extract (i+1) r.size).data.toList).all D4=G):=by
     have:=g.out;rw[c,Bool.true_and]at this;exact this
    gi_wp2
    exact⟨⟨_,X.out,Y.out,aa.out,ab.out,by have:=q.out;have:=Q.out;omega,ac.out⟩,by rw[Vp X.out,HM.out];exact q.out⟩
   ·gi_wp2
    refine QY (XH rfl _ _ _) rfl ?_;exact⟨⟨_,rfl⟩,.inr ⟨by rw[<-g.out,c];rfl,f⟩⟩
def Fk (w:A) (s:ByteArray):A:=((w.alloc (Qa #[S s] 9)).alloc (Qa #[S ⟨#[47]⟩] 9)).alloc (Qa #[I Z 0] 3)
theorem qX (s:ByteArray) (w:A):Qh Qb 350 #[S s,S ⟨#[47]⟩] w fun e w'=>e=Qe (.func (.func 388) #[] #[H (O ⟨w.heap.size+1,0,U⟩),H (O ⟨w.heap.size,0,U⟩),H (O ⟨w.heap.size+2,0,U⟩)])/\w'=Fk w s:=by
 have b:Qh Qb 377 #[S s,S ⟨#[47]⟩,I Z 0] w fun e w'=>e=Qe (.func (.func 388) #[] #[H (O ⟨w.heap.size+1,0,U⟩),H (O ⟨w.heap.size,0,U⟩),H (O ⟨w.heap.size+2,0,U⟩)])/\w'=Fk w s:=by
  go_enter func377,ntmps377
  go_wp2;go_ret;exact⟨rfl,rfl⟩
 go_enter func350,ntmps350
 go_wp2_with (go_at_call 377;refine b.mono ?_;rintro e w' ⟨rfl,rfl⟩)
 go_ret;exact⟨rfl,rfl⟩
def qY (good:Bool) (Rx:A->Prop) (W:A):QU->Qu->A->Prop
 | .normal,_,W'=>good=Qc/\W'=W
 | .ret,_,W'=>good=V/\Rx W'/\Xn W W'
 | _,_,_=>False
theorem qZ {n:Nat} {g:Operand} {p:Tmp} {assign body:Code} {Q:QU->Qu->A->Prop} {a:Qu} {w:A} (s:ByteArray) (B:Nat) (hB:B+3<=w.heap.size)
  (hg:a.eval g= .func (.func 388) #[] #[H (O ⟨B+1,0,U⟩),H (O ⟨B,0,U⟩),H (O ⟨B+2,0,U⟩)])
  (b0:Qf w B 9 (S s)) (b1:Qf w (B+1) 9 (S ⟨#[47]⟩)) (b2:Qf w (B+2) 3 (I Z 0)) (hs:s.size<=Ql) (hn:3<=n)
  (R E:A->Prop) (F:∀W l o,R W->w.heap.size<=l->R (W.putObj l o)) (aa:∀W l o,E W->w.heap.size<=l->E (W.putObj l o)) (ab:∀W o,R W->R (W.alloc o)) (ae:∀W v,R W->R (W.setCell ⟨B,0,U⟩ v)) (h0:R w) (a₁:ByteArray->Qu)
  (y:∀(l:Nat) (x:ByteArray) (W:A) (K:Qu->A->Prop),K (a₁ x) W->assign.wpIn (Fence.wide.inRound l) (n-1-1) Qb (Exit.then K (fun _ _ _=>False)) { tmps:=a.tmps.setIfInBounds p (S x),defers:= [] } W)
  (L:∀(l:Nat) (x:ByteArray) (W:A),x.size<=s.size->R W->body.wpIn (Fence.wide.inRound l) (n-1-1) Qb (qY (D4 x.data.toList) E W) (a₁ x) W)
  (M:∀W:A,(Ax 47 s.data.toList).all D4=Qc->R W->W.heap[w.heap.size]? =O (Qj (O []))->Q .normal { a with defers:= { target:=.collected w.heap.size,args:=#[] } :: a.defers } W)
  (N:∀W:A,(Ax 47 s.data.toList).all D4=V->E W->W.heap[w.heap.size]? =O (Qj (O []))->Code.ret.wpIn Qs n Qb Q { a with defers:= { target:=.collected w.heap.size,args:=#[] } :: a.defers } W) :
  (Code.rangeFunc g #[p] assign body).wpIn Qs n Qb Q a w:=by
 refine wpIn_rangeFunc fun fn hfn=>?_;obtain⟨b,c⟩:∃b:LoopState->Option Code->Loop,b=fun st pe=> { state:=st,pending:=pe,fn,tmps:=a.tmps,params:=#[p],assign,body,defers:=w.heap.size } :=⟨_,rfl⟩;have d:∀k,k<w.heap.size->((w.alloc (Qj (O []))).alloc (.loop (b .ready U))).heap[k]? =w.heap[k]? :=fun k hk=>(QE _ _ k (by simp;omega)).trans (QE _ _ k hk);have z:(Instr.enterLoop fn a.tmps #[p] assign body U).run Qb w= .ok (w.heap.size+1, [{ target:=.collected w.heap.size,args:=#[] }]) ((w.alloc (Qj (O []))).alloc (.loop (b .ready U))):=by rw[c];exact run_enterLoop_outer _ _ _ _ _
 have r:((w.alloc (Qj (O []))).alloc (.loop (b .ready U))).heap[w.heap.size+1]? =O (.loop (b .ready U)):=by
  have:=XR (w.alloc (Qj (O []))) (.loop (b .ready U))
  rwa [Xo]at this
 have C:((w.alloc (Qj (O []))).alloc (.loop (b .ready U))).heap[w.heap.size]? =O (Qj (O [])):=(QE _ _ _ (by simp)).trans (XR w _);have eg:∀args w,(Xl 388 args).run Qb w= .ok (.enter 388 args) w:=Xb func388 (by kernel_rfl) rfl;have T:R ((w.alloc (Qj (O []))).alloc (.loop (b .ready U))):=ab _ _ (ab _ _ h0);generalize (w.alloc (Qj (O []))).alloc (.loop (b .ready U))=W1 at d z r C T;refine⟨w.heap.size+1, [{ target:=.collected w.heap.size,args:=#[] }],W1, { target:=.fn (.func 388) #[H (O ⟨B+1,0,U⟩),H (O ⟨B,0,U⟩),H (O ⟨B+2,0,U⟩)],args:=#[.func (.yield (w.heap.size+1)) #[] #[]] },W1,388,#[.func (.yield (w.heap.size+1)) #[] #[],H (O ⟨B+1,0,U⟩),H (O ⟨B,0,U⟩),H (O ⟨B+2,0,U⟩)],W1,z,?_,fun _ _=>trivial,?_,fun _=>by omega,?_⟩
 ·simp only[resolve,hg];simp[go_sem]
 ·simp[invoke,go_sem,eg]
 refine(qW (n-1) (by omega) (w.heap.size+1) B
  (fun W=>R W/\W.heap[w.heap.size+1]? =O (.loop (b .ready U))/\W.heap[w.heap.size]? =O (Qj (O [])))
  (fun W=>E W/\W.heap[w.heap.size+1]? =O (.loop (b .done (O .ret)))/\W.heap[w.heap.size]? =O (Qj (O []))) s ?yield ?set _
  ((d B (by omega)).trans b0) ((d (B+1) (by omega)).trans b1) ((d (B+2) (by omega)).trans b2) hs ⟨T,r,C⟩).mono ?_
 case set =>
  rintro W v ⟨i,f,m⟩;exact⟨ae W v i,(Q4 W ⟨B,0,U⟩ v _ (by show w.heap.size+1≠B;omega)).trans f,(Q4 W ⟨B,0,U⟩ v _ (by show w.heap.size≠B;omega)).trans m⟩
 case yield =>
  rintro x W hx ⟨i,f,m⟩;have X:w.heap.size+1<W.heap.size:=(QT.1 f).1;have hy:=run_yield (P:=Qb) (args:=#[S x]) f (by rw[c];rfl);have ac:(Instr.yield (w.heap.size+1) #[S x]).run Qb W= .ok (.round (w.heap.size+1) fn (a.tmps.setIfInBounds p (S x)) assign body) W:=by rw[hy,c];simp
  refine⟨fn,_,assign,body,ac,roundIn_of_wpIn hfn ?_⟩;refine y _ x W _ ?_;refine⟨_,run_beginRound f (by rw[c]),?_⟩;have e2:(W.putObj (w.heap.size+1) (.loop { b .ready U with state:=.busy })).heap[w.heap.size+1]? =O (.loop { b .ready U with state:=.busy }):=Xp X;have e3:(W.putObj (w.heap.size+1) (.loop { b .ready U with state:=.busy })).heap[w.heap.size]? =O (Qj (O [])):=(Q0 (by omega)).trans m;refine wpIn_mono (L _ x _ hx (F _ _ _ i (by omega))) ?_;intro e a3 W3 u
  cases e with
  | normal =>
   obtain⟨D,rfl⟩:=u;have j:=XS (P:=Qb) U e2;refine⟨_,_,j,.inl ⟨D,rfl,⟨F _ _ _ (F _ _ _ i (by omega)) (by omega),?_,?_⟩,fun k h4 h5=>?_⟩⟩
   ·rw[Xp (by simpa using X),c];rfl
   ·exact(Q0 (by omega)).trans e3
   ·exact(Q0 (by omega)).trans (Q0 (by omega))
  | ret =>
   obtain⟨D,ad,Y⟩:=u;have e4:=Y.same _ _ e2 rfl;have j:=XS (P:=Qb) (O .ret) e4;refine⟨_,_,j,.inr ⟨D,rfl,aa _ _ _ ad (by omega),?_,?_⟩⟩
   ·rw[Xp (QT.1 e4).1,c];rfl
   ·exact(Q0 (by omega)).trans (Y.same _ _ e3 rfl)
  | exit id=>exact u.elim
  | goto t=>exact u.elim
  | panic ch=>exact u.elim
  | outgrown=>exact u.elim
 rintro e W2 ⟨⟨v,rfl⟩,(⟨q,i,f,m⟩|⟨q,i,f,m⟩)⟩
 ·refine⟨U,_,by have:=XT (P:=Qb) f (by rw[c];simp);rw[c]at this;exact this,M _ q (F _ _ _ i (by omega)) ((Q0 (by omega)).trans m)⟩
 ·refine⟨O .ret,_,by have:=XT (P:=Qb) f (by rw[c];simp);rw[c]at this;exact this,N _ q (aa _ _ _ i (by omega)) ((Q0 (by omega)).trans m)⟩
theorem rA (s:ByteArray) (w:A) (hs:s.size<=Ql):Qh Qb 307 #[S s] w fun e w'=>e=Qe (Qd (CP s.data.toList))/\BL w w':=by
 have L:=AC s;have j:BL w (w.alloc (Qa #[Qd V] 4)):=Af _ _;have C:=Q2 w 4 (Qd V);by_cases m:s.size<1\/16<s.size
 ·have D:CP s.data.toList=V:=by
   unfold CP;rw[L];rcases m with h | h
   ·rw[decide_eq_false (show ¬1<=s.size by omega)];simp
   ·rw[decide_eq_false (show ¬s.size<=16 by omega)];simp
  rw[D];have y:=C.cell;have M:=C.frozen;rcases m with h | h
  ·have d1:decide ((s.size:Int)<1)=Qc:=decide_eq_true (by omega)
   go_enter Xq,Xr
   go_wp2;exact QY (v:=Qd V) (by simp[Xc,f307,go_sem,y]) rfl ⟨rfl,j⟩
  ·have d1:decide ((s.size:Int)<1)=V:=decide_eq_false (by omega);have d2:decide ((16:Int)<(s.size:Int))=Qc:=decide_eq_true (by omega)
   go_enter Xq,Xr
   go_wp2;exact QY (v:=Qd V) (by simp[Xc,f307,go_sem,y]) rfl ⟨rfl,j⟩
 ·have D:CP s.data.toList=(Ax 47 s.data.toList).all D4:=by
   unfold CP;rw[qU (by omega),decide_eq_true (by omega),decide_eq_true (by omega),XU,XU]
  rw[D];generalize hG:(Ax 47 s.data.toList).all D4=G;have N:J (s.size<=Ql):=hs;refine(Qy (n:=9)).1 ?_;refine Xs Xq rfl trivial ?_ rfl;simp only[Xr,QJ,Q6,QK,QL,QM,QN,QO,QP,QQ,QR,QS];have P:=(Qy (n:=9-1)).2 (qX s (w.alloc (Qa #[Qd V] 4)))
  gi_wp2_with (refine⟨trivial,?_⟩;gi_at_call 350;refine P.mono ?_;rintro e w' ⟨rfl,rfl⟩)
  have Q:Below (w.heap.size+1) (w.alloc (Qa #[Qd V] 4)) (Fk (w.alloc (Qa #[Qd V] 4)) s):=(((Qo _ _).alloc (by simp) _).alloc (by simp) _).alloc (by simp) _;have B:BL w (Fk (w.alloc (Qa #[Qd V] 4)) s):=j.trans (Q.mono (by omega));have R:Qf (Fk (w.alloc (Qa #[Qd V] 4)) s) w.heap.size 4 (Qd V):=((C.alloc _).alloc _).alloc _;have T:Qf (Fk (w.alloc (Qa #[Qd V] 4)) s) (w.heap.size+1) 9 (S s):=by
   have:=((Q2 (w.alloc (Qa #[Qd V] 4)) 9 (S s)).alloc (Qa #[S ⟨#[47]⟩] 9)).alloc (Qa #[I Z 0] 3);simpa [Fk] using this
  have X:Qf (Fk (w.alloc (Qa #[Qd V] 4)) s) (w.heap.size+1+1) 9 (S ⟨#[47]⟩):=by
   have:=(Q2 ((w.alloc (Qa #[Qd V] 4)).alloc (Qa #[S s] 9)) 9 (S ⟨#[47]⟩)).alloc (Qa #[I Z 0] 3);simpa [Fk] using this
  have Y:Qf (Fk (w.alloc (Qa #[Qd V] 4)) s) (w.heap.size+1+2) 3 (I Z 0):=by
   have:=Q2 (((w.alloc (Qa #[Qd V] 4)).alloc (Qa #[S s] 9)).alloc (Qa #[S ⟨#[47]⟩] 9)) 3 (I Z 0);simpa [Fk] using this
  have E:(Fk (w.alloc (Qa #[Qd V] 4)) s).heap.size=w.heap.size+4:=by simp[Fk]
  generalize Fk (w.alloc (Qa #[Qd V] 4)) s=g at B R T X Y E ⊢;have d:∀W l o,(Qf W w.heap.size 4 (Qd V)/\BL w W)->g.heap.size<=l->Qf (W.putObj l o) w.heap.size 4 (Qd V)/\BL w (W.putObj l o):=fun W l o h hl =>
   ⟨(Q0 (by omega)).trans h.1,h.2.trans ((Qo _ W).grown (Xt W l o) (h.2.size) (fun k e=>by cases e;omega))⟩
  refine qZ s (w.heap.size+1) (by omega) rfl T X Y N.out (by decide) (fun W=>Qf W w.heap.size 4 (Qd V)/\BL w W) (fun W=>Qf W w.heap.size 4 (Qd V)/\BL w W) d d
   (fun W o h=>⟨h.1.alloc o,h.2.alloc h.2.size o⟩) (fun W v h=>⟨(Q4 W ⟨w.heap.size+1,0,U⟩ v _ (by show w.heap.size≠w.heap.size+1;omega)).trans h.1,h.2.setCell (p:=⟨w.heap.size+1,0,U⟩) (by show w.heap.size<=w.heap.size+1;omega) _⟩) ⟨R,B⟩ ?a1 ?assign ?body ?done ?stop
  case assign =>
   intro l x W K t
   gi_wp2
   exact t
  case body =>
   rintro l x W hx ⟨b,u⟩;have y:=b.cell;have M:=b.frozen;by_cases z:x.data.toList= []
   ·have d3:(x.toList == [])=Qc:=by rw[ByteArray.toList_eq,z];rfl
    have q:D4 x.data.toList=Qc:=by rw[z];rfl
    rw[q]
    gi_wp2
    refine⟨trivial,?_⟩
    gi_wp2
    exact⟨rfl,rfl⟩
   ·have d3:(x.toList == [])=V:=by rw[beq_eq_false_iff_ne,ByteArray.toList_eq];exact z
    have q:D4 x.data.toList=DG 16 x.data.toList:=by
     unfold D4
     cases af:x.data.toList with
     | nil=>exact absurd af z
     | cons c r=>rfl
    have i:=CallsIn.inRound l ((Qy (n:=9-1-1-1)).2 (NM x 16 W (Qz hx N.out) (by decide)));have HV:J (Qf W w.heap.size 4 (Qd V)):=b;have HB:J (BL w W):=u;rw[q]
    cases hw:DG 16 x.data.toList with
    | true =>
     rw[hw]at i
     gi_wp2_with (refine⟨trivial,?_⟩;gi_at_call 276;refine i.mono ?_;rintro e w' ⟨rfl,rfl⟩)
     exact⟨rfl,rfl⟩
    | false =>
     rw[hw]at i
     gi_wp2_with (refine⟨trivial,?_⟩;gi_at_call 276;refine i.mono ?_;rintro e w' ⟨rfl,rfl⟩)
     exact⟨rfl,⟨HV.out.set _,HB.out.setCell (p:=⟨w.heap.size,0,U⟩) (Qn _) _⟩,Xu _ _ _⟩
  case done =>
   rintro W f ⟨b,u⟩ t;have y:=b.cell;have M:=b.frozen;obtain rfl:G=Qc:=hG.symm.trans f;have aa:(W.setCell ⟨w.heap.size,0,U⟩ (Qd Qc)).heap[g.heap.size]? =O (Qj (O [])):=(Q4 W ⟨w.heap.size,0,U⟩ _ _ (by show g.heap.size≠w.heap.size;omega)).trans t;have ab:Qf ((W.setCell ⟨w.heap.size,0,U⟩ (Qd Qc)).putObj g.heap.size (Qj U)) w.heap.size 4 (Qd Qc):=(Q0 (by omega)).trans (b.set (Qd Qc));have ac:BL w ((W.setCell ⟨w.heap.size,0,U⟩ (Qd Qc)).putObj g.heap.size (Qj U)):=by
    have m:=u.setCell (p:=⟨w.heap.size,0,U⟩) (Qn _) (Qd Qc);exact m.trans ((Qo _ _).grown (Xt _ g.heap.size (Qj U)) m.size (fun k e=>by cases e;omega))
   have F:=ab.cell
   gi_wp2
   refine⟨by simp,.inl ⟨_,_,rfl,Xd aa,?_⟩⟩;exact⟨Qd Qc,by simp[Xc,f307,go_sem,F],rfl,ac⟩
  case stop =>
   rintro W f ⟨b,u⟩ t;obtain rfl:G=V:=hG.symm.trans f;obtain⟨ad,ae⟩:=d _ g.heap.size (Qj U) ⟨b,u⟩ (Qn _);have F:=ad.cell
   gi_wp2
   refine⟨by simp,.inl ⟨_,_,rfl,Xd t,?_⟩⟩;exact⟨Qd V,by simp[Xc,f307,go_sem,F],rfl,ae⟩
end Go.Proofs.YtcllhobffhkafaaGreatDoor
namespace Go.Proofs.YtcllhobffhkafaaGreatDoor
open Go.RowKit Go.Extern.Stop Go.Stop Go.Extern
def Ir (w:A):A->Prop:=fun W=>BL w W
theorem Ir.errs {w W:A} {a:Nat->Qk} (h:Ir w W) (b:Hc w a):Hc W a:=b.below h
end Go.Proofs.YtcllhobffhkafaaGreatDoor
namespace Go.Proofs.YtcllhobffhkafaaGreatDoor
open Go.RowKit Go.Extern.Stop Go.Stop Go.Extern Go.Sort Go.Shelf Go.Lib
structure CW (w:A) (a:Nat->Qk):Prop where
 bound:w.cell? ⟨1,0,U⟩=O (Qv 410 (H (O (a 1))))
 name:w.cell? ⟨10,0,U⟩=O (Qv 410 (H (O (a 4))))
 miss:w.cell? ⟨3,0,U⟩=O (Qv 410 (H (O (a 5))))
 exist:w.cell? ⟨11,0,U⟩=O (Qv 410 (H (O (a 6))))
 full:w.cell? ⟨6,0,U⟩=O (Qv 410 (H (O (a 7))))
 stale:w.cell? ⟨2,0,U⟩=O (Qv 410 (H (O (a 10))))
 off:w.cell? ⟨5,0,U⟩=O (Qv 410 (H (O (a 11))))
theorem CW.of {w:A} {a:Nat->Qk} (h:Hc w a):CW w a where
 bound:=h.cell 1 (by decide)
 name:=h.cell 4 (by decide)
 miss:=h.cell 5 (by decide)
 exist:=h.cell 6 (by decide)
 full:=h.cell 7 (by decide)
 stale:=h.cell 10 (by decide)
 off:=h.cell 11 (by decide)
theorem CW.below {w w':A} {a:Nat->Qk} (h:CW w a) (b:BL w w'):CW w' a where
 bound:=Aa b h.bound
 name:=Aa b h.name
 miss:=Aa b h.miss
 exist:=Aa b h.exist
 full:=Aa b h.full
 stale:=Aa b h.stale
 off:=Aa b h.off
theorem rB (w:A):Qh Qb 9 #[] w fun e w'=>e=Qe (H (O ⟨w.heap.size,0,U⟩))/\Bo w' w.heap.size U (fun _=>0) E1/\BL w w':=by
 have b:BL w (w.alloc (Qa #[.map U,S ⟨#[]⟩,I Z 0,Qd V,Qd V,I Z 0] 72)):=Af _ _;have c:J (Bo (w.alloc (Qa #[.map U,S ⟨#[]⟩,I Z 0,Qd V,Qd V,I Z 0] 72)) w.heap.size U (fun _=>0) E1):=⟨Xv _ _,Qg ⟨rfl,rfl⟩,fun _ h=>(nomatch h),List.Pairwise.nil,by decide⟩
 go_enter func9,ntmps9
 go_wp2;go_ret;exact⟨rfl,c.out,b⟩
section
variable {w : A} {b : Nat} {mo : Option Nat} {hd : ByteArray} {d : Int} {off waits : Bool} {left : Int}
theorem rC (h:SC w b mo hd d off waits left):Qh Qb 31 #[H (O ⟨b,0,U⟩)] w fun e w'=>e=Qe (S hd)/\w'=w:=by
 obtain⟨_,c,_⟩:=h.cells
 go_enter func31,ntmps31
 go_wp2;go_ret;exact⟨rfl,rfl⟩
theorem Vq (h:SC w b mo hd d off waits left):Qh Qb 77 #[H (O ⟨b,0,U⟩)] w fun e w'=>e=Qe (I Z d)/\w'=w:=by
 obtain⟨_,_,c,_⟩:=h.cells
 go_enter func77,ntmps77
 go_wp2;go_ret;exact⟨rfl,rfl⟩
def Gs (w:A) (b:Nat) (x y:Bool) (z:Int):A:=((w.setCell ⟨b,3,U⟩ (Qd x)).setCell ⟨b,4,U⟩ (Qd y)).setCell ⟨b,5,U⟩ (I Z z)
theorem SC.pow (h:SC w b mo hd d off waits left) (x y:Bool) (z:Int):SC (Gs w b x y z) b mo hd d x y z:=by
 have c:SC (w.setCell ⟨b,3,U⟩ (Qd x)) b mo hd d x waits left:=by
  unfold SC at *;rw[Q7 _ _ _ _ _ _ h];rfl
 have f:SC ((w.setCell ⟨b,3,U⟩ (Qd x)).setCell ⟨b,4,U⟩ (Qd y)) b mo hd d x y left:=by
  unfold SC at *;rw[Q7 _ _ _ _ _ _ c];rfl
 unfold Gs;unfold SC at *;rw[Q7 _ _ _ _ _ _ f];rfl
theorem MQ (w:A) (b:Nat) (x y:Bool) (z:Int):Ac (fun k=>k=b) w (Gs w b x y z):=(((Ac.refl (fun k=>k=b) w).setCell (Qg rfl) _).setCell (Qg rfl) _).setCell (Qg rfl) _
theorem SC.day (h:SC w b mo hd d off waits left) (z:Int):SC (w.setCell ⟨b,2,U⟩ (I Z z)) b mo hd z off waits left:=by
 unfold SC at *;rw[Q7 _ _ _ _ _ _ h];rfl
theorem SC.head (h:SC w b mo hd d off waits left) (t:ByteArray):SC (w.setCell ⟨b,1,U⟩ (S t)) b mo t d off waits left:=by
 unfold SC at *;rw[Q7 _ _ _ _ _ _ h];rfl
theorem SC.objs (h:SC w b mo hd d off waits left) (c:Option Nat):SC (w.setCell ⟨b,0,U⟩ (.map c)) b c hd d off waits left:=by
 unfold SC at *;rw[Q7 _ _ _ _ _ _ h];rfl
theorem Vr (w:A) (b o:Nat) (v:Qq):Ac (fun k=>k=b) w (w.setCell ⟨b,o,U⟩ v):=(Ac.refl (fun k=>k=b) w).setCell (Qg rfl) _
theorem rD (h:SC w b mo hd d off waits left):Qh Qb 30 #[H (O ⟨b,0,U⟩)] w fun e w'=>e=Qe (Qr #[])/\w'=Gs w b V V 0:=by
 obtain⟨f,g,i,j,k,l,m⟩:=h.cells;have c:J (∀w',w'=Gs w b V V 0->w'=Gs w b V V 0):=fun _ h=>h
 go_enter func30,ntmps30
 go_wp2;go_end0;exact⟨rfl,c.out _ rfl⟩
theorem rF (h:SC w b mo hd d off waits left) {a:Nat->Qk} (f:CW w a) (z:Int):Qh Qb 37 #[H (O ⟨b,0,U⟩),I Z z] w fun e w' =>
  e=Qe (Ae a (if z<0 then 2 else if off=Qc then 12 else 0))/\w'=if z<0 then w else if off=Qc then w else Gs w b V Qc z:=by
 obtain⟨k,l,m,n,o,p,q⟩:=h.cells;have i:=f.bound;have j:=f.off;by_cases c:z<0
 ·rw[if_pos c,if_pos c];have g:decide (z<0)=Qc:=decide_eq_true c
  go_enter Xw,Xx
  go_wp2;go_ret;exact⟨rfl,rfl⟩
 ·rw[if_neg c,if_neg c]
  cases off with
  | true =>
   go_enter Xw,Xx
   go_wp2;go_ret;exact⟨rfl,rfl⟩
  | false =>
   go_enter Xw,Xx
   go_wp2;go_ret;exact⟨rfl,rfl⟩
def Ps (a:Nat->Qk) (w:A) (b:Nat) (d z:Int) (e:QC) (w':A):Prop :=
 (z<0\/100000-d<z)/\e=Qe (Qr #[I Z 0,Ae a 2])/\BL w w'\/¬(z<0\/100000-d<z)/\e=Qe (Qr #[I Z (d+z),Q8])/\w'=w.setCell ⟨b,2,U⟩ (I Z (d+z))
theorem Vs {a:Nat->Qk} {w w':A} {b:Nat} {d z:Int} (h:z<0\/100000-d<z) (c:BL w w'):Ps a w b d z (Qe (Qr #[I Z 0,Ae a 2])) w':=Qg ⟨h,rfl,c⟩
theorem rG {a:Nat->Qk} {w:A} {b:Nat} {d z:Int} (h:¬(z<0\/100000-d<z)):Ps a w b d z (Qe (Qr #[I Z (d+z),Q8])) (w.setCell ⟨b,2,U⟩ (I Z (d+z))):=Qm ⟨h,rfl,rfl⟩
theorem rH (h:SC w b mo hd d off waits left) {a:Nat->Qk} (k:CW w a) (z:Int) (t: -9223372036854775808<=z/\z<=9223372036854775807) (u:0<=d) (v:d<=100000):Qh Qb 36 #[H (O ⟨b,0,U⟩),I Z z] w (Ps a w b d z):=by
 obtain⟨m,n,o,p,q,r,s⟩:=h.cells;have l:=k.bound;by_cases c:z<0
 ·have j:=decide_eq_true c;have f:J (z<0\/100000-d<z):=Qg c
  go_enter Xy,Xz
  go_wp2
  go_quiet (fail)
  go_wp2;go_ret2;exact Vs f.out (AK (Qo _ _) nq)
 ·have j:=decide_eq_false c;by_cases g:100000-d<z
  ·have i:=decide_eq_true g;have f:J (z<0\/100000-d<z):=Qm g
   go_enter Xy,Xz
   go_wp2
   go_quiet (fail)
   go_wp2;go_ret2;exact Vs f.out (AK (Qo _ _) nq)
  ·have i:=decide_eq_false g;have f:J (¬(z<0\/100000-d<z)):=fun h=>by omega
   go_enter Xy,Xz
   go_wp2;go_ret2;exact rG f.out
end
theorem Hj.look {w:A} {b:Option Nat} {q:ByteArray->Nat} {l:List Ob} (h:Hj w b q l) {n:ByteArray} (c:n.size<=Ql) :
  (X0 68 (.map b) (.string n) V).run Qb w= .ok (J1 q l n) w:=by
 rcases h with⟨rfl,rfl⟩|⟨d,rfl,h⟩
 ·exact Maps.look_nil V Tryz.keyedS XV (Tryz.zeroObj w) (M7 c)
 ·exact h.look c
theorem Hj.len {w:A} {c:Option Nat} {q:ByteArray->Nat} {l:List Ob} (h:Hj w c q l) (b:Xa) :
  (X1 #[68] b #[.map c]).run Qb w= .ok (.int .i64 l.length) w:=by
 rcases h with⟨rfl,rfl⟩|⟨d,rfl,h⟩
 ·exact Maps.len_nil XV b
 ·exact h.len b
theorem MR {q:ByteArray->Nat} {l:List Ob} {n:ByteArray} (h:(B5 l n).isSome=Qc):J1 q l n=Kt (q n):=by unfold J1;rw[if_pos h]
theorem MS {q:ByteArray->Nat} {l:List Ob} {n:ByteArray} (h:B5 l n=U):J1 q l n=H U:=by unfold J1;rw[h];rfl
theorem Gl.get {W:A} {q:ByteArray->Nat} {l:List Ob} (h:Gl W q l) {n:ByteArray} {o:Ob} (c:B5 l n=O o):W.cell? ⟨q n,0,U⟩=O (S o.2.1)/\W.cell? ⟨q n,1,U⟩=O (I Z o.2.2):=by
 obtain⟨b,rfl⟩:=Ge c;exact h.cells b
section
variable {w : A} {b : Nat} {mo : Option Nat} {q : ByteArray → Nat} {s : St}
def Lt (a:Nat->Qk) (w:A) (l:List Ob) (n:ByteArray) (e:QC) (w':A):Prop:=e=Qe (Qr #[S (Ba l n).1,Ae a (Ba l n).2])/\BL w w'
theorem rI (h:Bo w b mo q s) {a:Nat->Qk} (g:CW w a) (n:ByteArray) (i:n.size<=Ql):Qh Qb 65 #[H (O ⟨b,0,U⟩),S n] w (Lt a w s.obs n):=by
 have j:=h.block.cells.1;have f:=h.map.look i;have k:=g.miss
 cases c:B5 s.obs n with
 | none =>
  have d:J (∀w',BL w w'->Lt a w s.obs n (Qe (Qr #[S ⟨#[]⟩,Ae a 6])) w'):=fun w' hb=>by unfold Lt Ba;rw[c];exact⟨rfl,hb⟩
  rw[MS c]at f
  go_enter func65,ntmps65
  go_wp2
  go_quiet (fail)
  go_wp2;go_ret2;exact d.out _ (AK (Qo _ _) nq)
 | some o =>
  have d:J (Lt a w s.obs n (Qe (Qr #[S o.2.1,Q8])) w):=by unfold Lt Ba;rw[c];exact⟨rfl,Qo _ _⟩
  rw[MR (by rw[c];rfl)]at f;obtain⟨l,_⟩:=h.objs.get c
  go_enter func65,ntmps65
  go_wp2;go_ret2;exact d.out
theorem Vt (h:Bo w b mo q s) (n:ByteArray) (f:n.size<=Ql):Qh Qb 94 #[H (O ⟨b,0,U⟩),S n] w fun e w'=>e=Qe (I Z (Ib s.obs n))/\w'=w:=by
 have g:=h.block.cells.1;have d:=h.map.look f;unfold Ib
 cases c:B5 s.obs n with
 | none =>
  rw[MS c]at d
  go_enter func94,ntmps94
  go_wp2;go_ret;exact⟨rfl,rfl⟩
 | some o =>
  rw[MR (by rw[c];rfl)]at d;obtain⟨_,i⟩:=h.objs.get c;dsimp only
  go_enter func94,ntmps94
  go_wp2;go_ret;exact⟨rfl,rfl⟩
theorem Bo.dropped {w':A} {c:Nat} (h:Bo w b (O c) q s) {n:ByteArray} (j:BW w' c q (s.obs.filter fun o=>decide (o.1≠n))) (i:Ac (fun k=>k=c) w w'):Bo w' b (O c) q { s with obs:=s.obs.filter fun o=>decide (o.1≠n) } :=by
 obtain⟨f,e,g⟩:∃f,O c=O f/\BW w f q s.obs:=by
  rcases h.map with⟨e,_⟩ | h
  ·cases e
  ·exact h
 cases e
 refine⟨(i.block b h.block.lt (fun e=>OM h.block g e.symm)).trans h.block,Qm ⟨c,rfl,j⟩,fun o ho=>?_,Uz h.rise,h.cut⟩;have d:o∈s.obs:=(X2.1 ho).1;exact(i.block _ (h.objs.lt d) (U1 g h.objs d)).trans (h.objs o d)
theorem rJ (h:Bo w b mo q s) {a:Nat->Qk} (t:CW w a) (n:ByteArray) (u:n.size<=Ql):Qh Qb 44 #[H (O ⟨b,0,U⟩),S n] w fun e w'=>e=Qe (Ae a (Fx s n))/\Dt An w (H (O ⟨b,0,U⟩)) (C9 b mo q s.obs) (E2 s n) w':=by
 obtain⟨D,_,_,p,_⟩:=h.block.cells;have l:=h.map.look u;have B:=t.miss;have C:=t.off;have f:=ID h (Ac.refl _ _) fun k c=>Qg c;unfold E2;rcases Xe s.off with d | d
 ·have i:Fx s n=12:=by unfold Fx;rw[d];rfl
  rw[i,if_pos (by decide)];rw[d]at p;have j:J _:=f
  go_enter X3,X4
  go_wp2;go_ret;exact⟨rfl,j.out⟩
 ·rw[d]at p
  cases g:B5 s.obs n with
  | none =>
   have i:Fx s n=6:=by unfold Fx;rw[d,g];rfl
   rw[i,if_pos (by decide)];rw[MS g]at l;have j:J _:=f
   go_enter X3,X4
   go_wp2;go_ret;exact⟨rfl,j.out⟩
  | some o =>
   have i:Fx s n=0:=by unfold Fx;rw[d,g];rfl
   rw[i,if_neg (by decide)];rw[MR (by rw[g];rfl)]at l;rcases h.map with⟨_,e⟩|⟨E,rfl,z⟩
   ·rw[e]at g;cases g
   ·obtain⟨w',v,r,y⟩:=z.drop h.rise u 0;have m:=Ac.of_turned y;have j:J _:=ID (h.dropped r m) (m.mono fun k e=>Qm (Qg (by rw[e]))) fun k c=>Qg (by
     rcases c with c | c | ⟨o,d,c⟩
     ·exact Qg c
     ·exact Qm (Qg c)
     ·exact Qm (Qm ⟨o,(X2.1 d).1,c⟩))
    go_enter X3,X4
    go_wp2;go_ret;exact⟨rfl,j.out⟩
def GI (a:Nat->Qk) (w:A) (b:Nat) (mo:Option Nat) (s:St) (t:ByteArray) (e:QC) (w':A):Prop :=
 e=Qe (Qr #[S (t.extract 0 (Aw s t.size).1),Ae a (if (Aw s t.size).2.off=Qc then 12 else 0)])/\SC w' b mo s.head s.day (Aw s t.size).2.off (DB (Aw s t.size).2) (EN (Aw s t.size).2)/\Ac (fun k=>k=b) w w'
theorem Pt (t:ByteArray):t.extract 0 t.size=t:=by rw[Uu,XP (by rw[AC];exact Qn _),D7]
theorem Vu (h:SC w b mo s.head s.day s.off (DB s) (EN s)) {a:Nat->Qk} (D:CW w a) (t:ByteArray) (E:t.size<=Ql) (d:s.off=V) (hcut:s.cut<=9223372036854775807):Qh Qb 221 #[H (O ⟨b,3,U⟩),S t] w (GI a w b mo s t):=by
 obtain⟨B,M,N,P,v,C,R⟩:=h.cells;have l:=D.off;unfold Ql at E;by_cases m:s.cut<0
 ·have f:Aw s t.size=(t.size,s):=by unfold Aw;rw[if_pos m]
  have c:DB s=V:=by unfold DB;rw[d,decide_eq_false (by omega)];rfl
  have g:J (GI a w b mo s t (Qe (Qr #[S t,Q8])) w):=by
   unfold GI;rw[f];dsimp only;rw[d,Pt];rw[d]at h;exact⟨rfl,h,Ac.refl _ _⟩
  rw[c]at v
  go_enter X5,X6
  go_wp2;go_ret2;exact g.out
 ·have c:DB s=Qc:=by unfold DB;rw[d,decide_eq_true (by omega)];rfl
  have o:EN s=s.cut:=by unfold EN;rw[c];rfl
  obtain⟨k,n⟩:∃k:Nat,s.cut=k:=⟨s.cut.toNat,by omega⟩;rw[o,n]at C;rw[c]at v;by_cases F:k<t.size
  ·have f:Aw s t.size=(k, { s with off:=Qc }):=by unfold Aw;rw[if_neg m,if_pos (by omega),n];rfl
   have g:J (∀w',Below w.heap.size (Gs w b Qc V 0) w'->GI a w b mo s t (Qe (Qr #[S (t.extract 0 k),Ae a 12])) w'):=fun w' hb=>by
    unfold GI;rw[f];dsimp only;have p:(Gs w b Qc V 0).heap.size=w.heap.size:=by simp[Gs,World.setCell]
    have q:=h.pow Qc V 0;refine⟨rfl,?_,(MQ w b Qc V 0).trans (Q:=fun _=>False) (Ac.of_below (by show Below _ _ _;rw[p];exact hb)) fun i hi=>hi.elim⟩;exact(hb.block b h.lt).trans q
   have L:decide ((k:Int)<(t.size:Int))=Qc:=decide_eq_true (by omega);have K:(k:Int)<=9223372036854775807:=by omega
   have y:(Gs w b Qc V 0).cell? ⟨5,0,U⟩=O (Qv 410 (H (O (a 11)))):=by
    have r:b≠5:=by
     rintro rfl;rw[B]at l;cases l
    exact(MQ w b Qc V 0).keep (fun e=>r e.symm) l
   have z:J (∀nq,Below w.heap.size (Gs w b Qc V 0) ((((w.setCell ⟨b,3,U⟩ (Qd Qc)).setCell ⟨b,4,U⟩ (Qd V)).setCell ⟨b,5,U⟩ (I Z 0)).drewN nq)):=fun nq=>AK (Qo _ _) nq
   go_enter X5,X6
   go_wp2
   go_quiet (fail)
   go_wp2;go_ret2;exact g.out _ (z.out _)
  ·have f:Aw s t.size=(t.size, { s with cut:=s.cut-t.size }):=by unfold Aw;rw[if_neg m,if_neg (by omega)]
   have g:J (GI a w b mo s t (Qe (Qr #[S t,Q8])) (w.setCell ⟨b,5,U⟩ (I Z ((k:Int)-(t.size:Int))))):=by
    unfold GI;rw[f];dsimp only;have j:DB { s with cut:=s.cut-(t.size:Int) } =Qc:=by unfold DB;dsimp only;rw[d,decide_eq_true (by omega)];rfl
    have u:EN { s with cut:=s.cut-(t.size:Int) } =(k:Int)-t.size:=by unfold EN;rw[j];dsimp only;rw[if_pos rfl,n]
    rw[j,u,Pt,d];refine⟨rfl,?_,Vr _ _ _ _⟩;rw[d,c]at h;unfold SC at *;rw[Q7 _ _ _ _ _ _ h];rfl
   go_enter X5,X6
   go_wp2;go_ret2;exact g.out
end
end Go.Proofs.YtcllhobffhkafaaGreatDoor
namespace Go.Proofs.YtcllhobffhkafaaGreatDoor
open Go.RowKit Go.Maps Go.Sort Go.Shelf
attribute [local go_sem] QZ
theorem rK {l m:List Ob} (h:l.Perm m):Cw l=Cw m:=(h.map _).sum_nat
theorem Vv {l:List Ob} (h:∀o∈l,o.2.1.size<=20000):Cw l<=20000*l.length:=by
 induction l with
 | nil=>simp [Cw]
 | cons o l ih =>
  have:=ih fun p hp=>h p (List.mem_cons_of_mem _ hp);have:=h o (by simp);simp only[Cw,List.map_cons,List.sum_cons,Q6]at *;omega
theorem rL {l:List Ob} (ps:List (EQ l)) (o:EQ l):Cw ((ps++ [o]).map (·.1))=Cw (ps.map (·.1))+o.1.2.1.size:=by
 simp[Cw]
theorem rM {w:A} {b:Nat} {i:Option Nat} {q:ByteArray->Nat} {s:St} (h:Bo w b i q s) (z:AY s) :
  Qh Qb 308 #[H (O ⟨b,0,U⟩)] w fun e w'=>e=Qe (I Z (Cw s.obs))/\BL w w':=by
 have N:=h.block.cells.1;refine(Qy (n:=5)).1 ?_;refine Xs func308 rfl trivial ?_ rfl;simp only[ntmps308,QJ,Q6,QK,QL,QM,QN,QO,QP,QQ,QR,QS];have ab:(w.alloc (Qa #[I Z 0] 3)).cell? ⟨b,0,U⟩=O (.map i):=Aa ((Qo w.heap.size w).alloc (Qn _) _) N
 gi_wp2_with (refine⟨trivial,?_⟩;gi_at_call 351;refine(qL _ _ _).mono ?_;rintro e w' ⟨rfl,rfl⟩)
 have r:BL w ((w.alloc (Qa #[I Z 0] 3)).alloc (Qa #[.map i] 68)):=((Qo w.heap.size w).alloc (Qn _) _).alloc (by simp) _;have P:=h.below r;have t:=Q2 (w.alloc (Qa #[I Z 0] 3)) 68 (.map i);have B:=(Q2 w 3 (I Z 0)).alloc (Qa #[.map i] 68);simp only[Xo]at t;refine wpIn_rangeFunc_ownG (F:=Qs) rfl (by decide) (gf:=378) (lb:=#[H (O ⟨w.heap.size+1,0,U⟩)]) rfl trivial (Xb func378 (by kernel_rfl) rfl)
  (qK _ (by decide) (w.heap.size+1) i q s.obs h.rise _ t.cell P.map) walksK_t walksK_b (Qo _ _) (fun _=>rfl)
  (fun f W=>Qf W w.heap.size 3 (I Z (Cw (f.map (·.1))))/\BL w W)
  (fun _ _ _=>False)
  (OwnFrom.and (Own.from (boxed_own w.heap.size 3 (fun f:List (EQ s.obs)=>I Z (Cw (f.map (·.1))))) _) (XW (Qn _) (by simp;omega)))
  (fun _ _ _ _ _ hs _ _=>hs.elim) ?start ?a1 ?assign ?body ?done ?stop
 case assign =>
  intro l x W K k
  gi_wp2
  exact k
 case start=>exact ⟨B,r⟩
 case stop =>
  rintro y c f W _ _ C _;exact C.elim
 case body =>
  rintro l f x W ⟨g,m⟩ aa;have u:=g.cell;have C:=g.frozen;have Q:=Aa m (h.objs.cells x.2).1;have v:Cw (f.map (·.1))<=20000*f.length:=by
   have:=Vv (l:=f.map (·.1)) fun o ho=>by
    obtain⟨p,_,rfl⟩:=XX.1 ho;exact z.texts _ p.2
   simpa using this
  have M:=z.many;have R:=z.texts _ x.2;have j:J (((Cw ((f++ [x]).map (·.1)):Nat):Int)=(Cw (f.map (·.1)):Int)+(x.1.2.1.size:Int)):=by rw[rL];rfl
  obtain⟨d,Y⟩:∃d,Cw (f.map (·.1))=d:=⟨_,rfl⟩;rw[Y]at u g v j;have T:J (Qf W w.heap.size 3 (I Z d)):=g;have X:J (BL w W):=m;generalize x.1.2.1=L at Q R j;have D:IntKind.i64.wrap ((d:Int)+(L.size:Int))=(d:Int)+(L.size:Int):=IntWalk.i64_in _ (by omega)
  gi_wp2
  gi_region
  all_goals gi_wp2
  all_goals (try rw[D])
  all_goals exact⟨((Xu _ _ _).trans (XY _)).from _,((Xu _ _ _).trans (XY _)).walks,by rw[j.out];exact T.out.set _,((X.out.setCell (p:=⟨w.heap.size,0,U⟩) (Qn _) _).drew)⟩
 case done =>
  rintro y xs W hD hS ⟨g,m⟩ k;have u:=g.cell;rw[rK hS]at u;have E:BL w (W.putObj y (Qj U)):=m.trans (belowK_b (w:=w) (Qn _) W y _ _ (by simp at hD;omega) k rfl rfl)
  gi_wp2
  refine⟨by simp,.inl ⟨_,_,rfl,Xd k,?_⟩⟩;exact⟨_,XZ rfl _ _ _,rfl,E⟩
end Go.Proofs.YtcllhobffhkafaaGreatDoor
namespace Go.Proofs.YtcllhobffhkafaaGreatDoor
open Go.RowKit Go.Extern.Stop Go.Stop Go.Extern Go.Sort Go.Shelf Go.Lib
section
variable {w : A} {b : Nat} {mo : Option Nat} {q : ByteArray → Nat} {s : St}
theorem rN (h:Bo w b mo q s) (P:AY s) {a:Nat->Qk} (X:CW w a) (n t:ByteArray) (hn:n.size<=1000) (ht:t.size<=100000) :
  Qh Qb 220 #[H (O ⟨b,0,U⟩),S n,S t] w fun e w'=>e=Qe (Ae a (Dc s n t))/\BL w w':=by
 have r:n.size<=Ql:=by unfold Ql;omega
 have i:=rA n w r;have j:J _:=h;have Q:J _:=P;have p:J _:=X;have K:=Vv P.texts;unfold Dc
 cases M:CP n.data.toList with
 | false =>
  rw[M]at i
  go_enter Q9,QA
  go_wp2_with (go_at_call 307;refine i.mono ?_;rintro e f ⟨rfl,d⟩;have u:=(p.out.below d).name)
  go_ret;exact⟨rfl,d⟩
 | true =>
  rw[M]at i;rw[if_neg (by decide)];by_cases L:20000<t.size
  ·rw[if_pos L];have Y:=decide_eq_true (by omega)
   go_enter Q9,QA
   go_wp2_with (go_at_call 307;refine i.mono ?_;rintro e f ⟨rfl,d⟩;have u:=(p.out.below d).bound)
   go_ret;exact⟨rfl,d⟩
  ·rw[if_neg L];rcases Xe s.off with g | g
   ·rw[if_pos g]
    go_enter Q9,QA
    go_wp2_with (go_at_call 307;refine i.mono ?_;rintro e f ⟨rfl,d⟩;have u:=(p.out.below d).off;have k:=(j.out.below d).block.cells.2.2.2.1;rw[g]at k)
    go_ret;exact⟨rfl,d⟩
   ·rw[if_neg (by rw[g];decide)]
    cases N:B5 s.obs n with
    | some o =>
     have l:∀f,BL w f->(X0 68 (.map mo) (S n) V).run Qb f= .ok (Kt (q n)) f:=fun f d=>by
      have:=(j.out.below d).map.look r;rw[MR (by rw[N];rfl)]at this;exact this
     have v:J _:=l;rw[if_pos (by rfl)]
     go_enter Q9,QA
     go_wp2_with (go_at_call 307;refine i.mono ?_;rintro e f ⟨rfl,d⟩;have u:=(p.out.below d).exist;obtain⟨E,_,_,k,_⟩:=(j.out.below d).block.cells;rw[g]at k;have l:=v.out f d)
     go_ret;exact⟨rfl,d⟩
    | none =>
     have l:∀f,BL w f->(X0 68 (.map mo) (S n) V).run Qb f= .ok (H U) f:=fun f d=>by
      have:=(j.out.below d).map.look r;rw[MS N]at this;exact this
     have v:J _:=l;rw[if_neg (by decide)];by_cases R:200<=s.obs.length
     ·rw[if_pos (Qg R)];have T:decide ((200:Int)<=(s.obs.length:Int))=Qc:=decide_eq_true (by omega);have z:J (∀f,BL w f->∀ty,(X1 #[68] ty #[.map mo]).run Qb f= .ok (I Z s.obs.length) f):=fun f d ty=>(j.out.below d).map.len ty
      go_enter Q9,QA
      go_wp2_with (go_at_call 307;refine i.mono ?_;rintro e f ⟨rfl,d⟩;have u:=(p.out.below d).full;obtain⟨E,_,_,k,_⟩:=(j.out.below d).block.cells;rw[g]at k;have l:=v.out f d;have B:=z.out f d)
      go_ret;exact⟨rfl,d⟩
     ·have T:decide ((200:Int)<=(s.obs.length:Int))=V:=decide_eq_false (by omega);have z:J (∀f,BL w f->∀ty,(X1 #[68] ty #[.map mo]).run Qb f= .ok (I Z s.obs.length) f):=fun f d ty=>(j.out.below d).map.len ty;have C:J (∀f,BL w f->Qh Qb 308 #[H (O ⟨b,0,U⟩)] f fun e w'=>e=Qe (I Z (Cw s.obs))/\BL f w'):=fun f d=>rM (j.out.below d) Q.out;generalize Cw s.obs=c at C K ⊢;by_cases W:262144<c+t.size
      ·rw[if_pos (Qm W)];have d3:decide ((262144:Int)<(c:Int)+(t.size:Int))=Qc:=decide_eq_true (by omega)
       go_enter Q9,QA
       go_wp2_with (first | (go_at_call 307;refine i.mono ?_;rintro e f ⟨rfl,d⟩;obtain⟨E,_,_,k,_⟩:=(j.out.below d).block.cells;rw[g]at k;have l:=v.out f d;have B:=z.out f d;have D:=C.out f d) | (go_at_call 308;refine D.mono ?_;rintro e F ⟨rfl,y⟩;have m:BL w F:=(Ad d y);have u:=(p.out.below m).full))
       go_ret;exact⟨rfl,m⟩
      ·rw[if_neg (by omega)]
       go_enter Q9,QA
       go_wp2_with (first | (go_at_call 307;refine i.mono ?_;rintro e f ⟨rfl,d⟩;obtain⟨E,_,_,k,_⟩:=(j.out.below d).block.cells;rw[g]at k;have l:=v.out f d;have B:=z.out f d;have D:=C.out f d) | (go_at_call 308;refine D.mono ?_;rintro e F ⟨rfl,y⟩;have m:BL w F:=Ad d y))
       go_ret;exact⟨rfl,m⟩
end
theorem Pu {s:St} {n:Nat} (h:s.cut<=9223372036854775807):(Aw s n).2.cut<=9223372036854775807:=by
 unfold Aw;split
 ·exact h
 ·split
  ·exact h
  ·dsimp only;omega
section
variable {w : A} {b : Nat} {mo : Option Nat} {q : ByteArray → Nat} {s : St}
theorem rO (h:Bo w b mo q s) {a:Nat->Qk} (y:CW w a) (c t:ByteArray) (ht:t.size<=100000) :
  Qh Qb 152 #[H (O ⟨b,0,U⟩),S c,S t] w fun e w'=>e=Qe (Ae a (CG s c t))/\Dt An w (H (O ⟨b,0,U⟩)) (C9 b mo q s.obs) (B9 s c t) w':=by
 obtain⟨_,c1,_,L,_⟩:=h.block.cells;have e1:=y.bound;have e2:=y.off;have e3:=y.stale;have z:J (Dt An w (H (O ⟨b,0,U⟩)) (C9 b mo q s.obs) s w):=ID h (Ac.refl _ _) fun k hk=>Qg hk;by_cases u:20000<t.size
 ·have i:Ei s c t=2:=by unfold Ei;rw[if_pos u]
  have o:CG s c t=2:=by unfold CG;rw[i];rfl
  have j:B9 s c t=s:=by unfold B9;rw[i];rfl
  rw[o,j];have P:decide ((20000:Int)<(t.size:Int))=Qc:=decide_eq_true (by omega)
  go_enter QV,QW
  go_wp2;go_ret;exact⟨rfl,z.out⟩
 ·have P:=decide_eq_false (by omega);rcases Xe s.off with f | f
  ·have i:Ei s c t=12:=by unfold Ei;rw[if_neg u,if_pos f]
   have o:CG s c t=12:=by unfold CG;rw[i];rfl
   have j:B9 s c t=s:=by unfold B9;rw[i];rfl
   rw[o,j];rw[f]at L
   go_enter QV,QW
   go_wp2;go_ret;exact⟨rfl,z.out⟩
  ·rw[f]at L;by_cases v:s.head=c
   ·have i:Ei s c t=0:=by unfold Ei;rw[if_neg u,if_neg (by rw[f];decide),if_neg (by simp[v])]
    have Q:=lY v;have B:=Vu h.block y t (by unfold Ql;omega) f h.cut;have l:=SS (s:=s) (n:=t.size) f;have X:=fR s t.size;obtain⟨M,T,N⟩:=I3 s t.size;have C:J (∀w',GI a w b mo s t (Qe (Qr #[S (t.extract 0 (Aw s t.size).1),Ae a (if (Aw s t.size).2.off=Qc then 12 else 0)])) w'->(Aw s t.size).2.off=Qc->Dt An w (H (O ⟨b,0,U⟩)) (C9 b mo q s.obs) (B9 s c t) w'):=fun w' g d=>by
     have j:B9 s c t=(Aw s t.size).2:=by
      unfold B9;rw[i,if_neg (by decide),if_pos (by
       have D:¬(Aw s t.size).1=t.size:=fun e=>by have:=l.2 e;rw[d]at this;cases this
       omega)]
     rw[j];exact Lf h g.2.2 (by rw[T,N];exact g.2.1) M (Pu h.cut)
    have E:J (∀w',GI a w b mo s t (Qe (Qr #[S (t.extract 0 (Aw s t.size).1),Ae a (if (Aw s t.size).2.off=Qc then 12 else 0)])) w'->(Aw s t.size).2.off=V->Dt An w (H (O ⟨b,0,U⟩)) (C9 b mo q s.obs) (B9 s c t) (w'.setCell ⟨b,1,U⟩ (S t))):=fun w' g d=>by
     have j:B9 s c t= { (Aw s t.size).2 with head:=t } :=by
      unfold B9;rw[i,if_neg (by decide),if_neg (by have:=l.1 d;omega)]
     rw[j];exact Lf h (g.2.2.setCell (Qg rfl) _) (by dsimp only;rw[N];exact g.2.1.head t) M (Pu h.cut)
    have F:J ((Aw s t.size).2.off=Qc->CG s c t=12):=fun d=>by
     unfold CG;rw[i,if_neg (by decide),if_pos (by
      have D:¬(Aw s t.size).1=t.size:=fun e=>by have:=l.2 e;rw[d]at this;cases this
      omega)]
    have K:J ((Aw s t.size).2.off=V->CG s c t=0):=fun d=>by
     unfold CG;rw[i,if_neg (by decide),if_neg (by have:=l.1 d;omega)]
    have R:(Aw s t.size).2.off=V->t.extract 0 (Aw s t.size).1=t:=fun d=>by rw[l.1 d,Pt]
    rcases Xe (Aw s t.size).2.off with d | d
    ·rw[F.out d];have p:Qh Qb 221 #[H (O ⟨b,3,U⟩),S t] w fun e w'=>e=Qe (Qr #[S (t.extract 0 (Aw s t.size).1),Qv 410 (H (O (a 11)))])/\Dt An w (H (O ⟨b,0,U⟩)) (C9 b mo q s.obs) (B9 s c t) w':=B.mono fun e w' g=>by
      have r:=g;obtain⟨rfl,m⟩:=r;refine⟨by rw[d];rfl,C.out _ g d⟩
     go_enter QV,QW
     go_wp2_with (go_at_call 221;refine p.mono ?_;rintro e W ⟨rfl,g⟩)
     go_ret;exact⟨rfl,g⟩
    ·rw[K.out d];have p:Qh Qb 221 #[H (O ⟨b,3,U⟩),S t] w fun e w'=>e=Qe (Qr #[S t,Q8])/\(∃x,w'.cell? ⟨b,1,U⟩=O x)/\w'.cell? ⟨b,1,U⟩=O (S s.head)/\w'.frozen? ⟨b,1,U⟩=V/\Dt An w (H (O ⟨b,0,U⟩)) (C9 b mo q s.obs) (B9 s c t) (w'.setCell ⟨b,1,U⟩ (S t)):=B.mono fun e w' g=>by
      have r:=g;obtain⟨rfl,m,Y⟩:=r;refine⟨by rw[d,R d];rfl,⟨_,m.cells.2.1⟩,m.cells.2.1,m.cells.2.2.2.2.2.2 1,E.out _ g d⟩
     go_enter QV,QW
     go_wp2_with (go_at_call 221;refine p.mono ?_;rintro e W ⟨rfl,-,k1,f1,g⟩)
     go_ret;exact⟨rfl,g⟩
   ·have i:Ei s c t=11:=by unfold Ei;rw[if_neg u,if_neg (by rw[f];decide),if_pos v]
    have o:CG s c t=11:=by unfold CG;rw[i];rfl
    have j:B9 s c t=s:=by unfold B9;rw[i];rfl
    rw[o,j];have Q:=lZ v
    go_enter QV,QW
    go_wp2;go_ret;exact⟨rfl,z.out⟩
theorem Bo.added {w':A} {g k:Nat} {n t:ByteArray} {d:Int} {c:St} (h:Bo w b mo q s) (i:∀p∈s.obs,p.1≠n) (j:SC w' b (O g) c.head c.day c.off (DB c) (EN c)) (l:c.cut<=9223372036854775807)
  (m:BW w' g (Hi q n k) (Cx s.obs (n,t,d))) (r:w'.heap[k]? =O (Qa #[S t,I Z d] 190 (0,0))) (u:∀o∈s.obs,w'.heap[q o.1]? =w.heap[q o.1]?):Bo w' b (O g) (Hi q n k) { c with obs:=Cx s.obs (n,t,d) } :=by
 refine⟨j,Qm ⟨g,rfl,m⟩,fun o hm'=>?_,KP (o:=(n,t,d)) h.rise i,l⟩;rcases GZ.1 hm' with rfl | f
 ·rw[OI];exact r
 ·rw[OJ _ _ (i o f)];exact(u o f).trans (h.objs o f)
end
section
variable {w : A} {b : Nat} {mo : Option Nat} {q : ByteArray → Nat} {s : St}
theorem rP {a:Nat->Qk} {n t:ByteArray} (h:Bo w b mo q s) (hg:B5 s.obs n=U) (hl:s.obs.length<200) (hn:n.size<=Ql) (hE:Dc s n t=0) {E c:A} {g:Nat} {e:QC} (r:Bo E b (O g) q s) (M:Ac (fun k=>k=b) w E) (d:mo=O g\/w.heap.size<=g) (hp:GI a E b (O g) s t e c) :
  ∃w4,(X7 68 (.map (O g)) (S n) (H (O ⟨c.heap.size,0,U⟩))).run Qb (c.alloc (Qa #[S (t.extract 0 (Aw s t.size).1),I Z s.day] 190)).drew= .ok () w4 /\
   c.cell? ⟨b,0,U⟩=O (.map (O g))/\c.cell? ⟨b,2,U⟩=O (I Z s.day)/\(c.alloc (Qa #[S (t.extract 0 (Aw s t.size).1),I Z s.day] 190)).drew.cell? ⟨b,0,U⟩=O (.map (O g))/\(c.alloc (Qa #[S (t.extract 0 (Aw s t.size).1),I Z s.day] 190)).drew.cell? ⟨b,2,U⟩=O (I Z s.day)/\∀w5,BL w4 w5->Dt An w (H (O ⟨b,0,U⟩)) (C9 b mo q s.obs) (B3 s n t) w5:=by
 obtain⟨_,l,p⟩:=hp;obtain⟨g1,g2,g3⟩:=I3 s t.size;have m:=I4.1 hg;obtain⟨C,e',u⟩:∃C,O g=O C/\BW E C q s.obs:=by
  rcases r.map with⟨e,_⟩ | h
  ·cases e
  ·exact h
 cases e'
 have v:=OM r.block u;have y:=u.keep (p.block g u.lt v);have j:BL c (c.alloc (Qa #[S (t.extract 0 (Aw s t.size).1),I Z s.day] 190)).drew:=(Af _ _).drew;have N:=y.keep (j.block g y.lt);obtain⟨w4,T,X,F⟩:=N.store h.rise (by unfold Ql;omega) hn m (t.extract 0 (Aw s t.size).1) s.day c.heap.size;have z:=Ac.of_turned F;refine⟨w4,T,l.cells.1,l.cells.2.2.1,Aa j l.cells.1,Aa j l.cells.2.2.1,fun w5 hb5=>?_⟩;have P:=l.lt;have Y:=y.lt;have B:=fun k (f:k<c.heap.size) (m:k≠g)=>(z.block k (Xf f j.size) m).trans (j.block k f);have W:Bo w4 b (O g) (Hi q n c.heap.size) { (Aw s t.size).2 with obs:=Cx s.obs (n,t.extract 0 (Aw s t.size).1,s.day) } :=by
  refine r.added m ?_ (Pu h.cut) X ?_ fun o D=>?_
  ·rw[g2,g3];exact(B b P (fun e=>v e.symm)).trans l
  ·exact(z.block c.heap.size (by simp[Ya]) (fun e=>by omega)).trans (Xv c _)
  ·have K:=r.objs.lt D;have h3:=p.block _ K (U0 r.block r.objs D);exact(B _ (Xf K p.size) (U1 u r.objs D)).trans h3
 have hS:B3 s n t= { (Aw s t.size).2 with obs:=Cx s.obs (n,t.extract 0 (Aw s t.size).1,s.day) } :=by
  unfold B3;rw[hE,if_neg (by decide),Uu]
 rw[hS];have aa:=Qz M.size p.size;have R:Ac (C9 b mo q s.obs) w w4:=by
  have c1:Ac (C9 b mo q s.obs) w E:=M.mono fun k e=>Qg e;have c2:=c1.trans p fun i e _=>Qg e;have c3:=c2.trans (Q:=fun _=>False) (Ac.of_below j) fun _ e=>e.elim;refine c3.trans z fun i e hi=>?_;rcases d with d | d
  ·exact Qm (Qg (by rw[d,e]))
  ·omega
 refine ID (W.below hb5) (R.trans (Q:=fun _=>False) (Ac.of_below hb5) fun _ e=>e.elim) fun k f=>?_;rcases f with f | f | ⟨o,D,f⟩
 ·exact Qg (Qg f)
 ·rcases d with d | d
  ·exact Qg (Qm (Qg (by rw[d];exact f)))
  ·cases f
   exact Qm d
 ·rcases GZ.1 D with rfl | L
  ·rw[OI]at f;exact Qm (by omega)
  ·rw[OJ _ _ (m o L)]at f;exact Qg (Qm (Qm ⟨o,L,f⟩))
theorem rQ {n t:ByteArray} (h:Dc s n t=0):s.off=V/\B5 s.obs n=U/\s.obs.length<200:=by
 unfold Dc at h;split at h
 ·cases h
 ·split at h
  ·cases h
  ·split at h
   ·cases h
   ·rename_i b;split at h
    ·cases h
    ·rename_i c;split at h
     ·cases h
     ·rename_i d;refine⟨by simpa using b,by simpa using c,?_⟩;omega
theorem CW.but {w w':A} {a:Nat->Qk} {c:Option Nat} (h:CW w a) (d:Ac (fun k=>k=b) w w') (f:w.cell? ⟨b,0,U⟩=O (.map c)):CW w' a:=by
 have g:∀ {g:Nat} {t:Xa} {x:Qq},w.cell? ⟨g,0,U⟩=O (Qv t x)->w'.cell? ⟨g,0,U⟩=O (Qv t x):=fun {g t x} h=>d.keep (fun e=>by subst e;rw[f]at h;cases h) h;exact {
  bound:=g h.bound
  name:=g h.name
  miss:=g h.miss
  exist:=g h.exist
  full:=g h.full
  stale:=g h.stale
  off:=g h.off }
theorem Bo.made {w:A} (h:Bo w b U q s):Bo ((w.alloc (.map #[] 0)).setCell ⟨b,0,U⟩ (.map (O w.heap.size))) b (O w.heap.size) q s/\Ac (fun k=>k=b) w ((w.alloc (.map #[] 0)).setCell ⟨b,0,U⟩ (.map (O w.heap.size))):=by
 have g:=h.block.lt;have c:Ac (fun k=>k=b) w (w.alloc (.map #[] 0)):=Ac.of_below (Af _ _);have d:SC (w.alloc (.map #[] 0)) b U s.head s.day s.off (DB s) (EN s):=(QE _ _ b g).trans h.block;have f:s.obs= []:=by
  rcases h.map with⟨_,e⟩|⟨i,e,_⟩
  ·exact e
  ·cases e
 refine⟨⟨d.objs _,Qm ⟨_,rfl,?_⟩,by rw[f];exact fun _ h=>(nomatch h),h.rise,h.cut⟩,c.setCell (Qg rfl) _⟩;rw[f];refine(BW.made w q).keep ?_;exact Q4 _ ⟨b,0,U⟩ _ _ (by show w.heap.size≠b;omega)
theorem rR (w:A):(binOp .eql 68 (.map U) (.map U)).run Qb w= .ok (Qd Qc) w:=by
 kernel_rfl
theorem rS (w:A) (k:Nat):(binOp .eql 68 (.map (O k)) (.map U)).run Qb w= .ok (Qd V) w:=by
 kernel_rfl
theorem rT (h:Bo w b mo q s) (L:AY s) {a:Nat->Qk} (X:CW w a) (n t:ByteArray) (hn:n.size<=1000) (ht:t.size<=100000) :
  Qh Qb 137 #[H (O ⟨b,0,U⟩),S n,S t] w fun e w'=>e=Qe (Ae a (BM s n t))/\Dt An w (H (O ⟨b,0,U⟩)) (C9 b mo q s.obs) (B3 s n t) w':=by
 have p:=rN h L X n t hn ht;by_cases r:Dc s n t=0
 ·obtain⟨F,hg,hl⟩:=rQ r;have C:BM s n t=if (Aw s t.size).2.off=Qc then 12 else 0:=by unfold BM;rw[r];rfl
  rw[C];rw[r]at p;have M:J _:=X;have N:J _:=h;have D:J (∀(w2 c:A) (mb:Nat) (e:QC),Bo w2 b (O mb) q s->Ac (fun k=>k=b) w w2->(mo=O mb\/w.heap.size<=mb)->GI a w2 b (O mb) s t e c->∃m,(X7 68 (.map (O mb)) (S n) (H (O ⟨c.heap.size,0,U⟩))).run Qb (c.alloc (Qa #[S (t.extract 0 (Aw s t.size).1),I Z s.day] 190)).drew= .ok () m /\
   c.cell? ⟨b,0,U⟩=O (.map (O mb))/\c.cell? ⟨b,2,U⟩=O (I Z s.day)/\(c.alloc (Qa #[S (t.extract 0 (Aw s t.size).1),I Z s.day] 190)).drew.cell? ⟨b,0,U⟩=O (.map (O mb))/\(c.alloc (Qa #[S (t.extract 0 (Aw s t.size).1),I Z s.day] 190)).drew.cell? ⟨b,2,U⟩=O (I Z s.day)/\∀w5,BL m w5->Dt An w (H (O ⟨b,0,U⟩)) (C9 b mo q s.obs) (B3 s n t) w5):=fun w2 c mb e g d hmb u=>rP h hg hl (by unfold Ql;omega) r g d hmb u
  have P:J _:=fun w2 mb (g:Bo w2 b (O mb) q s) (he2:CW w2 a)=>Vu g.block he2 t (by unfold Ql;omega) F g.cut;have E:J (∀(w2:A) (mb:Nat),Bo w2 b (O mb) q s->CW w2 a->Ac (fun k=>k=b) w w2->(mo=O mb\/w.heap.size<=mb)->Qh Qb 221 #[H (O ⟨b,3,U⟩),S t] w2 fun e c=>e=Qe (Qr #[S (t.extract 0 (Aw s t.size).1),Ae a (if (Aw s t.size).2.off=Qc then 12 else 0)])/\∃m,(X7 68 (.map (O mb)) (S n) (H (O ⟨c.heap.size,0,U⟩))).run Qb (c.alloc (Qa #[S (t.extract 0 (Aw s t.size).1),I Z s.day] 190)).drew= .ok () m /\
   c.cell? ⟨b,0,U⟩=O (.map (O mb))/\c.cell? ⟨b,2,U⟩=O (I Z s.day)/\(c.alloc (Qa #[S (t.extract 0 (Aw s t.size).1),I Z s.day] 190)).drew.cell? ⟨b,0,U⟩=O (.map (O mb))/\(c.alloc (Qa #[S (t.extract 0 (Aw s t.size).1),I Z s.day] 190)).drew.cell? ⟨b,2,U⟩=O (I Z s.day)/\∀w5,BL m w5->Dt An w (H (O ⟨b,0,U⟩)) (C9 b mo q s.obs) (B3 s n t) w5):=fun w2 mb g he2 d hmb=>(P.out w2 mb g he2).mono fun e c u=>⟨u.1,D.out w2 c mb e g d hmb u⟩
  generalize Ae a (if (Aw s t.size).2.off=Qc then 12 else 0)=ev at E ⊢;have aa:=@run_makeMap Qb;have ab:=rR;have ac:=rS;have i:Qh Qb 220 #[H (O ⟨b,0,U⟩),S n,S t] w fun e w'=>e= .returned Q8/\BL w w':=p
  cases mo with
  | none =>
   go_enter X8,X9
   go_wp2_with (first | (go_at_call 220;refine i.mono ?_;rintro e R ⟨rfl,f⟩;have j:=N.out.below f;obtain⟨Q,_,_,_,_,_,z⟩:=j.block.cells;have Y:=z 0;have v:=M.out.below f;obtain⟨g,d⟩:=j.made;have y:=E.out _ _ g (v.but d Q) ((Ac.of_below f).trans d fun _ e _=>e) (Qm f.size);have l:=(j.below ((Qo _ _).alloc (Qn _) (.map #[] 0))).block.cells;have ad:=l.1;have ae:=l.2.2.2.2.2.2 0;clear l j z v g d) | (go_at_call 221;refine y.mono ?_;rintro e c ⟨rfl,m,K,k0,k2,T,W,o⟩))
   go_region
   all_goals go_wp2
   all_goals go_ret
   all_goals exact⟨rfl,o _ (Qo _ _)⟩
  | some mb =>
   go_enter X8,X9
   go_wp2_with (first | (go_at_call 220;refine i.mono ?_;rintro e R ⟨rfl,f⟩;have j:=N.out.below f;obtain⟨Q,_,_,_,_,_,z⟩:=j.block.cells;have Y:=z 0;have v:=M.out.below f;have y:=E.out _ _ j v (Ac.of_below f) (Qg rfl);clear j z v) | (go_at_call 221;refine y.mono ?_;rintro e c ⟨rfl,m,K,k0,k2,T,W,o⟩))
   go_region
   all_goals go_wp2
   all_goals go_ret
   all_goals exact⟨rfl,o _ (Qo _ _)⟩
 ·obtain⟨k,B⟩:∃k,Dc s n t=k+1:=⟨Dc s n t-1,by omega⟩;have C:BM s n t=k+1:=by unfold BM;rw[if_pos r,B]
  have hT:B3 s n t=s:=by unfold B3;rw[if_pos r]
  rw[C,hT];rw[B]at p;have i:Qh Qb 220 #[H (O ⟨b,0,U⟩),S n,S t] w fun e w'=>e=Qe (Qv 410 (H (O (a k))))/\Dt An w (H (O ⟨b,0,U⟩)) (C9 b mo q s.obs) s w':=p.mono fun e w' ⟨he',f⟩=>⟨he',ID (h.below f) (Ac.of_below f) fun k L=>Qg L⟩
  go_enter X8,X9
  go_wp2_with (go_at_call 220;refine i.mono ?_;rintro e R ⟨rfl,u⟩)
  go_ret;exact⟨rfl,u⟩
end
end Go.Proofs.YtcllhobffhkafaaGreatDoor
namespace Go.Proofs.YtcllhobffhkafaaGreatDoor
open Go.RowKit Go.Maps Go.Sort Go.Shelf
attribute [local go_sem] QZ
def Vw (ops:Array QB):Bool:=ops.toList.all fun o=>match o.op with
 | .defer _=>V
 | _=>Qc
theorem rU {b:Array QB} (h:Vw b=Qc) {i:Nat} {o:QB} (d:b[i]? =O o):∀c,o.op≠ .defer c:=by
 intro c e;have f:o∈b.toList:=by
  rw[<-XJ]at d;exact List.mem_of_getElem? d
 have:=Xm.1 h o f;rw[e]at this;cases this
theorem rV {n:Nat} {P:XA} {o:QB} {a:Qu} {w:A} {K d:Qu->A->Prop} {Q:QU->Qu->A->Prop} (l:Nat) (g:∀c,o.op≠ .defer c) (i:∀a w,K a w->d a w) (h:Xg Qs n P o a w K Q):Xg (Fence.wide.inRound l) n P o a w d Q:=by
 have f:=Oper.wpIn_mono i h;refine⟨fun _ _=>trivial,?_⟩;have b:=f.2;rw[Yb _ _ _ g]at b ⊢;exact b
theorem MT {n:Nat} {P:XA} {j:Region.Mode} {c:Array QB} {Q:QU->Qu->A->Prop} (l:Nat) (f:Vw c=Qc):∀(fuel:Nat) (listed:Array Bool) (a:Qu) (w:A),XB Qs n P j c Q fuel listed a w->XB (Fence.wide.inRound l) n P j c Q fuel listed a w
 | 0,_,_,_,h=>h
 | fuel+1,listed,a,w,h=>by
  refine⟨h.1,fun i hi=>?_⟩;have b:=h.2 i hi;unfold wpOpIn at b ⊢
  cases g:c[i]? with
  | none =>
   rw[g]at b;exact MT l f fuel _ a w b
  | some o =>
   rw[g]at b;dsimp only at b ⊢;split
   ·rename_i d;rw[if_pos d]at b;exact rV l (rU f g) (fun a w h=>MT l f fuel _ a w h) b
   ·rename_i d;rw[if_neg d]at b;exact⟨fun _ _=>trivial,MT l f fuel _ _ _ b.2⟩
end Go.Proofs.YtcllhobffhkafaaGreatDoor
namespace Go.Proofs.YtcllhobffhkafaaGreatDoor
open Go.RowKit Go.Extern.Stop Go.Stop Go.Extern Go.Maps Go.Sort Go.Shelf Go.Lib
attribute [local go_sem] QZ
theorem rW (r:Rw) (d f c:Nat) (l:List (Int×Int)) (D:Q5 Unit) (q:Int) (W:A) (j:W.cell? ⟨d,1,U⟩=O (.map (O c))) (k:W.cell? ⟨f,0,U⟩=O (.int .i64 q)) (g:Fh W c l D) (m: -9223372036854775808<=r.2.1) (n:r.2.1<=9223372036854775807) :
  Qh Qb 161 #[.agg #[.string r.1,.int .i64 r.2.1,.int .i64 r.2.2],.pointer (O ⟨d,0,U⟩),.pointer (O ⟨f,0,U⟩)] W fun e w'=>e=Qe (.bool (BP l (r,q)))/\BL W w':=by
 have b:BL W (W.alloc (Qa #[.string r.1,.int .i64 r.2.1,.int .i64 r.2.2] 62)):=Af _ _;have o:=Aa b j;have p:=Aa b k;have i:=(g.keep (b.block c g.map.lt)).look m n;unfold BP;dsimp only;obtain⟨s,t,u⟩:=r
 go_enter func161,ntmps161
 go_upto_region 1 with fail
 go_wp2;go_ret;exact⟨rfl,b⟩
def Lu (w1:A) (c:Ct) (pre:List Int) (W:A):Prop :=
 (∃v,Qf W w1.heap.size 35 v/\W.ownsRow w1.heap.size 62 3 v (BQ c pre).length (Az (BQ c pre))/\True)/\BL w1 W
theorem Pv {w1:A} {c:Ct} {B:Nat} (b:w1.heap.size<=B):OwnFrom B (Lu w1 c) :=
 OwnFrom.and (Own.from (holdsRow_own w1.heap.size w1.heap.size 35 62 3 (fun pre:List Int=>(BQ c pre).length) (fun pre=>Az (BQ c pre)) (fun _ _=>True)) _) (XW (Qn _) b)
theorem rX (c:Ct) (b:List Int) (x:Int):BQ c (b++ [x])=BQ c b++(Br c.1 x).filter fun r=> !BP c.2 (r,x):=by
 unfold BQ;rw[List.flatMap_append];simp
theorem Vx (c:Ct):∀pre:List Int,(BQ c pre).length<=pre.length*c.1.length
 | []=>by simp[BQ]
 | x :: r=>by
  have h:=Vx c r;have b:((Br c.1 x).filter fun y=> !BP c.2 (y,x)).length<=c.1.length:=Qz (Xh _ _) (by unfold Br;rw[Yc];exact Xh _ _);have e:BQ c (x :: r)=((Br c.1 x).filter fun y=> !BP c.2 (y,x))++BQ c r:=by unfold BQ;rw[List.flatMap_cons]
  rw[e,QG,Q6,Nat.add_mul];omega
theorem rY {w1 W T p:A} {c:Ct} {i:List Int} {v:Qq} (X:Qf W w1.heap.size 35 v) (E:W.ownsRow w1.heap.size 62 3 v (BQ c i).length (Az (BQ c i))) (F:BL w1 W) (x:Int) (hR:BL W T) (hb:BL T p) {q:Option Qk} {n K:Nat} (Y:n=((Br c.1 x).filter fun r=> !BP c.2 (r,x)).length) (hs:CR p q n K (Az ((Br c.1 x).filter fun r=> !BP c.2 (r,x)))) (hl:(BQ c i).length+n<=10000000) :
  ∃v' w4,(∃a b c,v'=Qi a b c)/\(XC #[35,35] 35 #[v,Qi q n K]).run Qb p= .ok v' w4 /\
   w4.cell? ⟨w1.heap.size,0,U⟩=O v/\w4.frozen? ⟨w1.heap.size,0,U⟩=V/\Xn W (w4.setCell ⟨w1.heap.size,0,U⟩ v')/\Lu w1 c (i++ [x]) (w4.setCell ⟨w1.heap.size,0,U⟩ v')/\Below w1.heap.size W (w4.setCell ⟨w1.heap.size,0,U⟩ v'):=by
 obtain⟨i0,M,N,Q,C⟩:=Tryz.rowInfo;have g:=Ad hR hb;have t:Qf p w1.heap.size 35 v:=(g.block _ X.lt).trans X;have m:=Eu E g;have u:w1.heap.size<=p.heap.size:=Qz F.size g.size;obtain⟨v',w4,D,l,f,aa⟩:=Fc (P:=Qb) p w1.heap.size 35 35 62 i0 (QF #[S ⟨#[]⟩,I Z 0,I Z 0]) 3 32 underlying35 M N Q C rfl (by decide) v (BQ c i).length (Az (BQ c i)) m q n K _ (by rw[Ft,<-Y]) hs (KD _) (by unfold Ql;omega) (by omega) u;have j:Qf w4 w1.heap.size 35 v:=t.kept f (t.not_row (by decide) m);have y:=(g.mono F.size).grown f u fun k hk=>(GF m hk).1;have s:Xn W (w4.setCell ⟨w1.heap.size,0,U⟩ v'):=by
  refine⟨?_,fun k o hk ho=>?_⟩
  ·have:=(Yd w4 w1.heap.size v').size;exact Qz g.size (Qz f.size this)
  ·have z:=(QT.1 hk).1;have L:=(g.block k z).trans hk;have B:=(f.block k (Xf z g.size) (fun e=>by
    obtain⟨_,ab,R⟩:=ML m e.symm;rw[L]at R;cases R
    cases ho)).trans L
   refine(Q4 w4 _ _ k (fun e=>?_)).trans B;have e':=e;subst e';rw[show w4.heap[w1.heap.size]? =_ from j]at B;cases B
   cases ho
 refine⟨v',w4,?_,D,j.cell,j.frozen,s,⟨⟨v',j.set v',?_,trivial⟩,?_⟩,?_⟩
 ·obtain⟨d,hd⟩:=MM l;exact J9 hd
 ·rw[rX,QG,KE,<-Y];exact l.kept (Yd w4 w1.heap.size v') (.inr (j.not_row (by decide) l).symm)
 ·exact F.trans (y.setCell (Qn _) _)
 ·exact y.setCell (Qn _) _
theorem Pw {n:Nat} {P:XA} {b:Array QB} {o:QB} {a:Qu} {w w':A} {K:Qu->A->Prop} {Q:QU->Qu->A->Prop} {E:Prop}
  (j:o.guard=U) (s x:Operand) (t:Xa) (d:o.op=Op.call { callee:=Callee.builtin Yg,args:=#[s,x],argTypes:=#[t,t] }) (v u v':Qq) (k:a.eval s=v) (l:a.eval x=u)
  (f:(XC #[t,t] o.type #[v,u]).run P w= .ok v' w') (m:K (a.put o.dst v') w'):if Region.wanted o (yielded b a.tmps)=Qc then Xg Qs n P o a w K Q else E:=by
 have i:Region.wanted o (yielded b a.tmps)=Qc:=by simp[Region.wanted,j]
 rw[if_pos i];unfold Xg;refine⟨fun _ _=>trivial,?_⟩;rw[Yb Qs _ _ (by rw[d];intro c g;cases g)];simp[execOp,d,resolve,invoke,builtin,k,l,f,Result.andThen];exact m
theorem rZ (w:A) (base m t:Nat) (c:Ct) (qs:List Int) (h:B6 w base m t c qs) (N:∀p∈c.1,-9223372036854775808<=p.1.2.1/\p.1.2.1<=9223372036854775807) (hl:c.1.length<=10000) (b0:qs.length<=100) :
  Qh Qb 85 #[GG m t] w fun e w'=> ∃v' ps,e=Qe v'/\ps.Nodup/\(∀z∈qs,z∈ps)/\Ap w' v' (BQ c ps)/\BL w w':=by
 obtain⟨⟨D,hv,hG⟩,⟨D2,hL⟩,bt,bx⟩:=h;have am:BL w (w.alloc (Qa #[.map (O m),.map (O t)] 136)):=Af _ _;have a0:(w.alloc (Qa #[.map (O m),.map (O t)] 136)).heap[w.heap.size]? =O (Qa #[.map (O m),.map (O t)] 136 (0,0)):=Xv _ _;have ac:(w.alloc (Qa #[.map (O m),.map (O t)] 136)).heap.size=w.heap.size+1:=by simp
 have br:=hG.map.lt;have HG:J (∀X,BL w X->EE X base m c.1 qs D hv/\Fh X t c.2 D2):=fun X hX=>⟨hG.below hX,hL.keep (hX.block t hL.map.lt)⟩;have HD:J _:=hG.hd;have a7:J _:=hG.has;have a8:J _:=N;have an:J (BL w (w.alloc (Qa #[.map (O m),.map (O t)] 136))/\(w.alloc (Qa #[.map (O m),.map (O t)] 136)).heap[w.heap.size]? =O (Qa #[.map (O m),.map (O t)] 136 (0,0))):=⟨am,a0⟩;clear hG hL N am a0;refine(Qy (n:=7)).1 ?_;refine Xs func85 rfl trivial ?_ rfl;simp only[ntmps85,QJ,Q6,QK,QL,QM,QN,QO,QP,QQ,QR,QS]
 gi_wp2_with (refine⟨trivial,?_⟩;gi_at_call 160;refine(qQ _ _ _).mono ?_;rintro e w' ⟨rfl,rfl⟩)
 have ao:=Q2 ((w.alloc (Qa #[.map (O m),.map (O t)] 136)).alloc (Qa #[.slice U 0 0] 35)) 133 (.map (O m));have ap:Qf (((w.alloc (Qa #[.map (O m),.map (O t)] 136)).alloc (Qa #[.slice U 0 0] 35)).alloc (Qa #[.map (O m)] 133)) (w.heap.size+1) 35 (.slice U 0 0):=by
  have:=(Q2 (w.alloc (Qa #[.map (O m),.map (O t)] 136)) 35 (.slice U 0 0)).alloc (Qa #[.map (O m)] 133);simpa using this
 have ad:Below (w.heap.size+1) (w.alloc (Qa #[.map (O m),.map (O t)] 136)) (((w.alloc (Qa #[.map (O m),.map (O t)] 136)).alloc (Qa #[.slice U 0 0] 35)).alloc (Qa #[.map (O m)] 133)):=((Qo _ _).alloc (by simp) _).alloc (by simp) _;have bc:(((w.alloc (Qa #[.map (O m),.map (O t)] 136)).alloc (Qa #[.slice U 0 0] 35)).alloc (Qa #[.map (O m)] 133)).heap.size=w.heap.size+3:=by simp
 simp only[Xo]at ao;generalize ((w.alloc (Qa #[.map (O m),.map (O t)] 136)).alloc (Qa #[.slice U 0 0] 35)).alloc (Qa #[.map (O m)] 133)=W0 at ao ap ad bc ⊢;generalize w.alloc (Qa #[.map (O m),.map (O t)] 136)=w1 at an ac ad ⊢;have ai:J (∀X,BL w1 X->BL w X):=fun X hX=>an.out.1.trans (hX.mono (by omega));rw[<-ac]at ad ap;have bd:=(HG.out W0 (ai.out W0 ad)).1;refine wpIn_rangeFunc_ownH (F:=Qs) rfl (by decide) (gf:=245) (lb:=#[.pointer (O ⟨w.heap.size+1+1,0,U⟩)]) rfl trivial (Xb func245 (by kernel_rfl) rfl)
  (qP _ (by decide) w1.heap.size (w.heap.size+1+1) m (by omega) qs.length D hv HD.out _ ao.cell bd.map) (fun h k=>h.trans k) (fun W l o o' hl ho _ hw=>Fj.put W l o o' (by omega) ho hw) (Qo _ _) (fun _=>rfl)
  (Lu w1 c) (fun _ _ _=>False) (Pv (by omega)) (fun _ _ _ _ _ hs _ _=>hs.elim) ?start (fun x a' W=> ∃P,Qf W P 3 (.int .i64 x)/\a'= { tmps:=#[GG m t,.pointer (O ⟨w.heap.size,0,U⟩),.slice U 0 0,.pointer (O ⟨w.heap.size+1,0,U⟩),.pointer (O ⟨P,0,U⟩),hv x,Qp,.pointer (O ⟨w.heap.size,0,U⟩),.map (O m),.func (.func 245) #[] #[.pointer (O ⟨w.heap.size+1+1,0,U⟩)],.int .i64 x,hv x,Qp,Qp,Qp,Qp,Qp,Qp,Qp,Qp],defers:= [] }) ?ax ?assign ?body ?done ?stop
 case assign =>
  intro l ag x W K hI f;have be:=Q2 W 3 (.int .i64 x);have a1:=(Pv (c:=c) (w1:=w1) (B:=W0.heap.size) (by omega)).alloc (Qa #[.int .i64 x] 3) hI;have a2:KeepsFrom W0.heap.size W (W.alloc (Qa #[.int .i64 x] 3)):=(Yh W _).from _;have a3:Fj w1.heap.size W (W.alloc (Qa #[.int .i64 x] 3)):=⟨by simp,fun k N=>QE _ _ _ (Xf N hI.2.size),fun k p s e cc N=>(QE _ _ _ (QT.1 N).1).trans N⟩;have HK:J _:=fun a' (ha:(∃P,Qf (W.alloc (Qa #[.int .i64 x] 3)) P 3 (.int .i64 x)/\a'= { tmps:=#[GG m t,.pointer (O ⟨w.heap.size,0,U⟩),.slice U 0 0,.pointer (O ⟨w.heap.size+1,0,U⟩),.pointer (O ⟨P,0,U⟩),hv x,Qp,.pointer (O ⟨w.heap.size,0,U⟩),.map (O m),.func (.func 245) #[] #[.pointer (O ⟨w.heap.size+1+1,0,U⟩)],.int .i64 x,hv x,Qp,Qp,Qp,Qp,Qp,Qp,Qp,Qp],defers:= [] }))=>f a' _ a2 a3 a1 ha;clear f hI a1 a2 a3
  gi_wp2
  exact HK.out _ ⟨W.heap.size,be,rfl⟩
 case ax =>
  rintro x a' u X Y bz ⟨P,hb,e⟩ hg hr;exact⟨P,hb.kept hg (fun e'=>by
   obtain⟨_,o,ho,hc⟩:=hr P e'.symm;rw[show X.heap[P]? =_ from hb]at ho;cases ho
   cases hc),e⟩
 case start=>exact ⟨⟨_,ap,by simp[BQ,Az];exact Ye _ _ _ _,trivial⟩,ad⟩
 case stop =>
  rintro D' cc ag W _ _ hf _;exact hf.elim
 case body =>
  rintro l ag x a' W _ _ ⟨⟨v,ab,az,-⟩,hB⟩ ⟨P,bp,rfl⟩ bu;have eg:∀args w,(Xl 161 args).run Qb w= .ok (.enter 161 args) w:=Xb func161 (by kernel_rfl) rfl;have a4:BL W W.drew:=(Qo _ _).drew;have bf:BL w W.drew:=(ai.out W hB).trans (a4.mono (ai.out W hB).size);obtain⟨bk,a6⟩:=HG.out W.drew bf;have bg:Ap W.drew (hv x) (Br c.1 x):=(I0 (bk.own x)).1;have bh:(Br c.1 x).length<=10000:=by
   refine Qz ?_ hl;unfold Br;rw[Yc];exact Xh _ _
  have aq:J (Qh Qb 102 #[hv x] W.drew fun e w'=> ∃v',e=Qe v'/\w'.ownsRow W.drew.heap.size 62 3 v' (Br c.1 x).length (Az (Br c.1 x))/\Below W.drew.heap.size W.drew w'):=LW (hv x) _ W.drew bg (by omega);have a9:W.drew.heap[w.heap.size]? =O (Qa #[.map (O m),.map (O t)] 136 (0,0)):=(hB.block w.heap.size (by omega)).trans an.out.2;have kc:W.drew.cell? ⟨w.heap.size,1,U⟩=O (.map (O t)):=by rw[cell_of_row _ _ _ _ _ _ a9];rfl
  have ks:W.drew.cell? ⟨P,0,U⟩=O (.int .i64 x):=bp.cell;have ar:J (∀(j:A) (y:Qq),j.ownsRow W.drew.heap.size 62 3 y (Br c.1 x).length (Az (Br c.1 x))->Below W.drew.heap.size W.drew j->Qh Qb 162 #[y,.func (.func 161) #[] #[.pointer (O ⟨w.heap.size,0,U⟩),.pointer (O ⟨P,0,U⟩)]] j (Vm y ((Br c.1 x).filter fun r=> !BP c.2 (r,x)) j)):=fun j y q g=>by
   refine qS y (Br c.1 x) W.drew.heap.size _ _ (fun r=>BP c.2 (r,x)) j eg q (by omega) ?_;intro r X hr hX;have au:Below W.drew.heap.size W.drew X:=g.trans (hX.below g.size fun k N=>(GF q N.symm).1);have a5: -9223372036854775808<=r.2.1/\r.2.1<=9223372036854775807:=by
    unfold Br at hr;obtain⟨p,hp,rfl⟩:=XX.1 hr;exact a8.out p (X2.1 hp).1
   exact rW r w.heap.size P t c.2 D2 x X (Aa au kc) (Aa au ks) (a6.keep (au.block t a6.map.lt)) a5.1 a5.2
  have bv:=Vx c ag;have bs:ag.length*c.1.length<=100*10000:=Nat.mul_le_mul (by omega) hl;have aj:J (∀(j E:A) (y:Qq),j.ownsRow W.drew.heap.size 62 3 y (Br c.1 x).length (Az (Br c.1 x))->Below W.drew.heap.size W.drew j->Ac (fun k=>O k=y.ownBlock) j E->E.cell? ⟨w1.heap.size,0,U⟩=O v):=fun j E y q g L=>by
   have h3:Below W.drew.heap.size W.drew E:=g.trans (L.below g.size fun k N=>(GF q N.symm).1);exact Aa h3 (show W.drew.cell? _=_ from ab.cell)
  have ak:J (∀(j E:A) (y:Qq) (q3:Option Qk) (T c3:Nat),j.ownsRow W.drew.heap.size 62 3 y (Br c.1 x).length (Az (Br c.1 x))->Below W.drew.heap.size W.drew j->Ac (fun k=>O k=y.ownBlock) j E->T=((Br c.1 x).filter fun r=> !BP c.2 (r,x)).length->CR E q3 T c3 (Az ((Br c.1 x).filter fun r=> !BP c.2 (r,x))) ->
    ∃vq vn vc R,(XC #[35,35] 35 #[v,.slice q3 T c3]).run Qb E= .ok (.slice vq vn vc) R/\R.cell? ⟨w1.heap.size,0,U⟩=O v/\R.frozen? ⟨w1.heap.size,0,U⟩=V /\
    (KeepsFrom W0.heap.size W (R.setCell ⟨w1.heap.size,0,U⟩ (.slice vq vn vc))/\Fj w1.heap.size W (R.setCell ⟨w1.heap.size,0,U⟩ (.slice vq vn vc))/\Lu w1 c (ag++ [x]) (R.setCell ⟨w1.heap.size,0,U⟩ (.slice vq vn vc)))):=fun j E y q3 T c3 q g L M aa=>by
   have h3:Below W.drew.heap.size W.drew E:=g.trans (L.below g.size fun k N=>(GF q N.symm).1);have bw:T<=10000:=by rw[M];exact Qz (Xh _ _) bh
   obtain⟨v',R,⟨vq,vn,vc,rfl⟩,r4,k4,f4,ay,bl,bm⟩:=rY ab az hB x a4 h3 M aa (by omega);refine⟨vq,vn,vc,R,r4,k4,f4,ay.from _,⟨ay.size,fun k N=>bm.block k N,fun k p s e cc hk'=>ay.same k _ hk' rfl⟩,bl⟩
  have k0:=ab.cell;have av:J _:=fun j (g:Below W.drew.heap.size W.drew j)=>Aa g k0;obtain⟨yq,yn,yc,rfl⟩:∃a b c,v= .slice a b c:=by
   obtain⟨d,hd⟩:=MM az;exact J9 hd
  obtain⟨xq,xn,xc,bn⟩:=J9 (HD.out x);rw[bn]at aq ⊢;rw[ac]at k0 ak aj av;have ah:J (∀X,Fj (w.heap.size+1) W X->Fj w1.heap.size W X):=fun X h=>by rw[ac];exact h
  gi_wp2
  refine wpIn_region_any (by kernel_rfl) ?_;refine MT l (by kernel_rfl) _ _ _ _ ?_;change XB _ _ _ _ _ _ _ _ _ (Ya _);refine Yf (i:=1) (v:=?_) rfl rfl (by kernel_rfl) (by kernel_rfl) (by kernel_rfl) (fun _ _ _ h=>h) ⟨Qg ⟨by rfl,?_⟩,fun _=>rfl⟩ ?_
  rotate_left
  focus ((intro w;go_simp)<;>with_reducible rfl)
  refine Yf (i:=3) (v:=?_) rfl rfl (by kernel_rfl) (by kernel_rfl) (by kernel_rfl) (fun _ _ _ h=>h) ⟨Qg ⟨by rfl,?_⟩,fun _=>rfl⟩ ?_
  rotate_left
  focus ((intro w;go_simp)<;>with_reducible rfl)
  refine Qw (rs:= [0,2]) (by kernel_rfl) (by simp) ?_;refine Qt rfl (fun K f=>?_) ?_
  ·go_simp
   refine f _ _ ?_;refine Qw (rs:= [2]) (by kernel_rfl) (by simp) ?_;refine Qt rfl (fun K f=>?_) ?_
   ·go_simp
    gi_wp2_with (refine⟨trivial,?_⟩;gi_at_call 102;refine((Qy).2 aq.out).mono ?_;rintro e j ⟨y,rfl,q,g⟩)
    have k2:=av.out j g;refine Qw (rs:= [4]) (by kernel_rfl) (by simp) ?_;refine Qt rfl (fun K f=>?_) ?_
    ·go_simp
     have ae:=ar.out j y q g
     gi_wp2_with (refine⟨trivial,?_⟩;gi_at_call 162;refine((Qy).2 ae).mono ?_;rintro e E ⟨q3,T,c3,rfl,M,aa,L⟩;have af:J _:=M;clear M)
     obtain⟨vq,vn,vc,R,r4,k4,f4,C⟩:=ak.out j E y q3 T c3 q g L af.out aa;have k3:=aj.out j E y q g L;refine Qw (rs:= [5]) (by kernel_rfl) (by simp) ?_;refine Qt rfl (fun K f=>?_) ?_
     ·refine Pw (by rfl) _ _ _ (by rfl) _ _ _ (by rfl) (by rfl) r4 ?_;refine f _ _ ?_;clear f K;refine Qw (rs:= [6]) (by kernel_rfl) (by simp) ?_;refine Qt rfl (fun K f=>?_) ?_
      ·go_simp
       refine f _ _ ?_;clear f K;refine XD (by kernel_rfl) ?_ _;have Q:=QH C.1 (QH (ah.out _ C.2.1) C.2.2);exact Q
      exact Qx
     exact Qx
    exact Qx
   exact Qx
  refine Qt rfl (fun K f=>?_) ?_
  ·go_simp
   gi_wp2_with (refine⟨trivial,?_⟩;gi_at_call 102;refine((Qy).2 aq.out).mono ?_;rintro e j ⟨y,rfl,q,g⟩)
   have k2:=av.out j g;refine Qw (rs:= [0,4]) (by kernel_rfl) (by simp) ?_;refine Qt rfl (fun K f=>?_) ?_
   ·go_simp
    refine f _ _ ?_;clear f K;refine Qw (rs:= [4]) (by kernel_rfl) (by simp) ?_;refine Qt rfl (fun K f=>?_) ?_
    ·go_simp
     have ae:=ar.out j y q g
     gi_wp2_with (refine⟨trivial,?_⟩;gi_at_call 162;refine((Qy).2 ae).mono ?_;rintro e E ⟨q3,T,c3,rfl,M,aa,L⟩;have af:J _:=M;clear M)
     obtain⟨vq,vn,vc,R,r4,k4,f4,C⟩:=ak.out j E y q3 T c3 q g L af.out aa;have k3:=aj.out j E y q g L;refine Qw (rs:= [5]) (by kernel_rfl) (by simp) ?_;refine Qt rfl (fun K f=>?_) ?_
     ·refine Pw (by rfl) _ _ _ (by rfl) _ _ _ (by rfl) (by rfl) r4 ?_;refine f _ _ ?_;clear f K;refine Qw (rs:= [6]) (by kernel_rfl) (by simp) ?_;refine Qt rfl (fun K f=>?_) ?_
      ·go_simp
       refine f _ _ ?_;clear f K;refine XD (by kernel_rfl) ?_ _;have Q:=QH C.1 (QH (ah.out _ C.2.1) C.2.2);exact Q
      exact Qx
     exact Qx
    exact Qx
   refine Qt rfl (fun K f=>?_) ?_
   ·go_simp
    have ae:=ar.out j y q g
    gi_wp2_with (refine⟨trivial,?_⟩;gi_at_call 162;refine((Qy).2 ae).mono ?_;rintro e E ⟨q3,T,c3,rfl,M,aa,L⟩;have af:J _:=M;clear M)
    obtain⟨vq,vn,vc,R,r4,k4,f4,C⟩:=ak.out j E y q3 T c3 q g L af.out aa;have k3:=aj.out j E y q g L;refine Qw (rs:= [0]) (by kernel_rfl) (by simp) ?_;refine Qt rfl (fun K f=>?_) ?_
    ·go_simp
     refine f _ _ ?_;clear f K;refine Qw (rs:= [5]) (by kernel_rfl) (by simp) ?_;refine Qt rfl (fun K f=>?_) ?_
     ·refine Pw (by rfl) _ _ _ (by rfl) _ _ _ (by rfl) (by rfl) r4 ?_;refine f _ _ ?_;clear f K;refine Qw (rs:= [6]) (by kernel_rfl) (by simp) ?_;refine Qt rfl (fun K f=>?_) ?_
      ·go_simp
       refine f _ _ ?_;clear f K;refine XD (by kernel_rfl) ?_ _;have Q:=QH C.1 (QH (ah.out _ C.2.1) C.2.2);exact Q
      exact Qx
     exact Qx
    exact Qx
   exact Qx
  exact Qx
 case done =>
  rintro D' ps W hD ⟨bq,bb⟩ hI f;have bi:Lu w1 c ps (W.putObj D' (Qj U)):=(Pv (c:=c) (w1:=w1) (B:=W0.heap.size) (by omega)) ps W _ (O D') hI (Xt W D' _) (fun r e=>by cases e;exact⟨hD,_,f,rfl⟩);obtain⟨⟨v,ab,-,-⟩,-⟩:=hI;obtain⟨⟨v',ba,al,-⟩,bo⟩:=bi;have bj:v'=v:=by
   have e1:(W.putObj D' (Qj U)).heap[w1.heap.size]? =W.heap[w1.heap.size]? :=Q0 (by omega);have:=(show (W.putObj D' (Qj U)).heap[w1.heap.size]? =_ from ba).symm.trans (e1.trans (show W.heap[w1.heap.size]? =_ from ab));injection this with this;injection this with this;simpa using this
  subst bj;have hc:=ab.cell;rw[ac]at hc;have aw:J (Ap (W.putObj D' (Qj U)) v' (BQ c ps)/\BL w (W.putObj D' (Qj U))):=⟨(I0 al).1,ai.out _ bo⟩;obtain⟨yq,yn,yc,rfl⟩:∃a b c,v'= .slice a b c:=by
   obtain⟨d,hd⟩:=MM al;exact J9 hd
  gi_wp2
  refine⟨by simp,.inl ⟨_,_,rfl,Xd f,?_⟩⟩;exact⟨_,XZ rfl _ _ _,.slice yq yn yc,ps,rfl,bq,fun z hz=>bb z ((a7.out z).2 hz),aw.out.1,aw.out.2⟩
end Go.Proofs.YtcllhobffhkafaaGreatDoor
namespace Go.Proofs.YtcllhobffhkafaaGreatDoor
open Go.RowKit Go.Extern.Stop Go.Stop Go.Extern Go.Sort Go.Shelf Go.Lib
theorem Vy:∀zs:List Int,∃m,m<=zs.length/\(∀i (h:i<zs.length),i<m->Aq zs[i]=Qc)/\(∀(h:m<zs.length),Aq zs[m]=V)
 | []=>⟨0,Qn _,fun i h=>by simp at h,fun h=>by simp at h⟩
 | z :: r=>by
  cases b:Aq z with
  | false=>exact ⟨0,Nat.zero_le _,fun i _ h=>absurd h (by omega),fun _=>b⟩
  | true =>
   obtain⟨m,f,c,d⟩:=Vy r;refine⟨m+1,by simp;omega,fun i h hi=>?_,fun h=>?_⟩
   ·cases i with
    | zero=>exact b
    | succ i=>exact c i (by simpa using h) (by omega)
   ·exact d (by simpa using h)
theorem Vz {w:A} {q:Option Qk} {c:Nat} {zs:List Int} (h:A4 w (Qi q zs.length c) zs) (i:q=U->c=0):CR w q zs.length c (zs.map (I Z)):=by
 rcases h with⟨_,_,_,rfl⟩|⟨b,o,k,e,g⟩
 ·exact Qg ⟨rfl,i⟩
 ·injection e with e1;refine Qm ⟨b,o,e1,fun j u hj=>?_⟩;rw[List.getElem?_map,Option.map_eq_some_iff]at hj;obtain⟨y,f,rfl⟩:=hj;obtain⟨d,e⟩:=List.getElem?_eq_some_iff.1 f;rw[<-e];exact g j d
theorem sA (v:Qq) (c:List Fl) (lo hi:Int) (w:A) (hx:Ai w v c) (hl:c.length<=20000) :
  Qh Qb 81 #[v,I Z lo,I Z hi] w fun e w'=> ∃v',e=Qe v'/\Ai w' v' (c.filter (As lo hi))/\BL w w':=by
 obtain⟨i0,ab,ac,ad,T⟩:=Tryz.fileInfo;obtain⟨q,al,rfl⟩:=hx.form;have ai:J (Ai w (Qi q c.length al) c):=hx;obtain⟨L,hL⟩:∃L,c.length=L:=⟨_,rfl⟩;have HX:J (c.length=L):=hL;rw[hL]at hl ⊢;clear hL hx
 go_enter func81,ntmps81
 go_wp2
 go_loopw [7,12] (fun out k wr=> ∃n:Nat,n<=L/\k=I Z n/\BL w wr/\wr.ownsRow w.heap.size 77 6 out (kept (As lo hi) c n).length (Ay (kept (As lo hi) c n))) (fun _ k _=>L-(Q3 k).toNat)
 case atStart=>exact ⟨0,by omega,rfl,Qo _ _,by rw[jK];exact Ye _ _ _ _⟩
 case round =>
  obtain⟨n,hn,rfl,hb,af⟩:=hrel;have OW:J (wr.ownsRow w.heap.size 77 6 u7 (kept (As lo hi) c n).length (Ay (kept (As lo hi) c n))):=af;clear af;by_cases aj:n<L
  ·have R:n<c.length:=by rw[HX.out];exact aj
   obtain⟨b,o,hq,hc⟩:=(ai.out.below hb).cells (fun e=>by rw[e]at R;simp at R);subst hq;obtain⟨c0,c1,c2,c3,c4,c5⟩:=hc n R;have E:J ((kept (As lo hi) c n).length<=L):=by
    show _<=_;have:=TD (As lo hi) c n;omega
   have p:=KZ (As lo hi) c n R;generalize c[n]=f at c0 c1 c2 c3 c4 c5 p;have X:=Js wr f;have Q:=I6 wr f;unfold He at X Q;obtain⟨z,B,C,d,g,i⟩:=f;dsimp only at c0 c1 c2 c3 c4 c5 X Q;have an:(n:Int)<(L:Int):=by omega
   have am:(0:Int)<=(n:Int):=by omega
   go_upto_region 5 with fail
   generalize wr.alloc (Qa #[S z,S B,I Z C,I Z d,I Z g,I Z i] 77)=W at X Q ⊢;have y:BL w W:=Ad hb Q;have t:J (W.ownsRow w.heap.size 77 6 u7 (kept (As lo hi) c n).length (Ay (kept (As lo hi) c n))):=Eu OW.out Q;obtain⟨z0,z1,z2,z3,z4,z5,-⟩:=X.cells;dsimp only at z0 z1 z2 z3 z4 z5;have K:BL W (W.alloc (Qa #[S z,S B,I Z C,I Z d,I Z g,I Z i] 77)):=Af _ _;have r:BL w (W.alloc (Qa #[S z,S B,I Z C,I Z d,I Z g,I Z i] 77)):=y.alloc y.size _;clear X Q OW;have ae:((d<lo/\hi<g/\lo<=hi)\/(d<lo/\hi<g/\¬lo<=hi))\/((d<lo/\¬hi<g/\lo<=g)\/(d<lo/\¬hi<g/\¬lo<=g))\/((¬d<lo/\hi<g/\d<=hi)\/(¬d<lo/\hi<g/\¬d<=hi))\/((¬d<lo/\¬hi<g/\d<=g)\/(¬d<lo/\¬hi<g/\¬d<=g)):=by omega
   rcases ae with(F | F) | (F | F) | (F | F) | (F | F)<;>obtain ⟨Y,q2,q3⟩:=F
   ·have s:J ((kept (As lo hi) c (n+1))=(kept (As lo hi) c n)++ [(z,B,C,d,g,i)]):=by
     show _=_;rw[p,if_pos (by simp[As,Y,q2,q3])]
    clear p
    go_wp2_with (at_builtin;refine Xi _ rfl _ _ 38 rfl w.heap.size 77 i0 (QF #[S ⟨#[]⟩,S ⟨#[]⟩,I Z 0,I Z 0,I Z 0,I Z 0]) 6 64 Xj ab ac ad T rfl (by decide) u7 (kept (As lo hi) c n).length (Ay (kept (As lo hi) c n)) rfl ?qc0 ⟨W.heap.size,0,U⟩ 1 1 (Bv (z,B,C,d,g,i)) rfl ?qc1 ?qc2 ?qc3 ?qc4 ?qc5 ?qc6 ?_)
    case qc0=>exact Eu t.out K
    case qc1=>rfl
    case qc2=>first | exact Kj _ _ | exact fun j u hu=>hu
    case qc3=>exact Ic _
    case qc4=>have:=E.out;unfold Ql;omega
    case qc5=>have:=E.out;omega
    case qc6=>first | exact r.size | (have:=y.size;omega)
    intro v' P l m D;have M:BL w P:=r.grown m r.size (fun k hk=>by
     rcases t.out.2 with⟨e,_⟩|⟨g',aa,ag,e,ah,_⟩
     ·rw[e]at hk;simp[Q1]at hk
     ·rw[e]at hk;simp[Q1]at hk;omega)
    have N:J (P.ownsRow w.heap.size 77 6 v' ((kept (As lo hi) c n).length+1) (Ay (kept (As lo hi) c n)++Bv (z,B,C,d,g,i))):=l;clear l D m;go_wp2;go_roundw
    case rel=>exact ⟨n+1,by omega,by go_num,M,by rw[s.out,QG,Id];simpa [Ay] using N.out⟩
    case measure=>simp [Q3];omega
   ·have s:J ((kept (As lo hi) c (n+1))=(kept (As lo hi) c n)):=by
     show _=_;rw[p,if_neg (by simp[As,Y,q2,q3])]
    clear p K r;go_wp2;go_roundw
    case rel=>exact ⟨n+1,by omega,by go_num,y,by rw[s.out];exact t.out⟩
    case measure=>simp [Q3];omega
   ·have s:J ((kept (As lo hi) c (n+1))=(kept (As lo hi) c n)++ [(z,B,C,d,g,i)]):=by
     show _=_;rw[p,if_pos (by simp[As,Y,q2,q3])]
    clear p
    go_wp2_with (at_builtin;refine Xi _ rfl _ _ 38 rfl w.heap.size 77 i0 (QF #[S ⟨#[]⟩,S ⟨#[]⟩,I Z 0,I Z 0,I Z 0,I Z 0]) 6 64 Xj ab ac ad T rfl (by decide) u7 (kept (As lo hi) c n).length (Ay (kept (As lo hi) c n)) rfl ?qc0 ⟨W.heap.size,0,U⟩ 1 1 (Bv (z,B,C,d,g,i)) rfl ?qc1 ?qc2 ?qc3 ?qc4 ?qc5 ?qc6 ?_)
    case qc0=>exact Eu t.out K
    case qc1=>rfl
    case qc2=>first | exact Kj _ _ | exact fun j u hu=>hu
    case qc3=>exact Ic _
    case qc4=>have:=E.out;unfold Ql;omega
    case qc5=>have:=E.out;omega
    case qc6=>first | exact r.size | (have:=y.size;omega)
    intro v' P l m D;have M:BL w P:=r.grown m r.size (fun k hk=>by
     rcases t.out.2 with⟨e,_⟩|⟨g',aa,ag,e,ah,_⟩
     ·rw[e]at hk;simp[Q1]at hk
     ·rw[e]at hk;simp[Q1]at hk;omega)
    have N:J (P.ownsRow w.heap.size 77 6 v' ((kept (As lo hi) c n).length+1) (Ay (kept (As lo hi) c n)++Bv (z,B,C,d,g,i))):=l;clear l D m;go_wp2;go_roundw
    case rel=>exact ⟨n+1,by omega,by go_num,M,by rw[s.out,QG,Id];simpa [Ay] using N.out⟩
    case measure=>simp [Q3];omega
   ·have s:J ((kept (As lo hi) c (n+1))=(kept (As lo hi) c n)):=by
     show _=_;rw[p,if_neg (by simp[As,Y,q2,q3])]
    clear p K r;go_wp2;go_roundw
    case rel=>exact ⟨n+1,by omega,by go_num,y,by rw[s.out];exact t.out⟩
    case measure=>simp [Q3];omega
   ·have s:J ((kept (As lo hi) c (n+1))=(kept (As lo hi) c n)++ [(z,B,C,d,g,i)]):=by
     show _=_;rw[p,if_pos (by simp[As,Y,q2,q3])]
    clear p
    go_wp2_with (at_builtin;refine Xi _ rfl _ _ 38 rfl w.heap.size 77 i0 (QF #[S ⟨#[]⟩,S ⟨#[]⟩,I Z 0,I Z 0,I Z 0,I Z 0]) 6 64 Xj ab ac ad T rfl (by decide) u7 (kept (As lo hi) c n).length (Ay (kept (As lo hi) c n)) rfl ?qc0 ⟨W.heap.size,0,U⟩ 1 1 (Bv (z,B,C,d,g,i)) rfl ?qc1 ?qc2 ?qc3 ?qc4 ?qc5 ?qc6 ?_)
    case qc0=>exact Eu t.out K
    case qc1=>rfl
    case qc2=>first | exact Kj _ _ | exact fun j u hu=>hu
    case qc3=>exact Ic _
    case qc4=>have:=E.out;unfold Ql;omega
    case qc5=>have:=E.out;omega
    case qc6=>first | exact r.size | (have:=y.size;omega)
    intro v' P l m D;have M:BL w P:=r.grown m r.size (fun k hk=>by
     rcases t.out.2 with⟨e,_⟩|⟨g',aa,ag,e,ah,_⟩
     ·rw[e]at hk;simp[Q1]at hk
     ·rw[e]at hk;simp[Q1]at hk;omega)
    have N:J (P.ownsRow w.heap.size 77 6 v' ((kept (As lo hi) c n).length+1) (Ay (kept (As lo hi) c n)++Bv (z,B,C,d,g,i))):=l;clear l D m;go_wp2;go_roundw
    case rel=>exact ⟨n+1,by omega,by go_num,M,by rw[s.out,QG,Id];simpa [Ay] using N.out⟩
    case measure=>simp [Q3];omega
   ·have s:J ((kept (As lo hi) c (n+1))=(kept (As lo hi) c n)):=by
     show _=_;rw[p,if_neg (by simp[As,Y,q2,q3])]
    clear p K r;go_wp2;go_roundw
    case rel=>exact ⟨n+1,by omega,by go_num,y,by rw[s.out];exact t.out⟩
    case measure=>simp [Q3];omega
   ·have s:J ((kept (As lo hi) c (n+1))=(kept (As lo hi) c n)++ [(z,B,C,d,g,i)]):=by
     show _=_;rw[p,if_pos (by simp[As,Y,q2,q3])]
    clear p
    go_wp2_with (at_builtin;refine Xi _ rfl _ _ 38 rfl w.heap.size 77 i0 (QF #[S ⟨#[]⟩,S ⟨#[]⟩,I Z 0,I Z 0,I Z 0,I Z 0]) 6 64 Xj ab ac ad T rfl (by decide) u7 (kept (As lo hi) c n).length (Ay (kept (As lo hi) c n)) rfl ?qc0 ⟨W.heap.size,0,U⟩ 1 1 (Bv (z,B,C,d,g,i)) rfl ?qc1 ?qc2 ?qc3 ?qc4 ?qc5 ?qc6 ?_)
    case qc0=>exact Eu t.out K
    case qc1=>rfl
    case qc2=>first | exact Kj _ _ | exact fun j u hu=>hu
    case qc3=>exact Ic _
    case qc4=>have:=E.out;unfold Ql;omega
    case qc5=>have:=E.out;omega
    case qc6=>first | exact r.size | (have:=y.size;omega)
    intro v' P l m D;have M:BL w P:=r.grown m r.size (fun k hk=>by
     rcases t.out.2 with⟨e,_⟩|⟨g',aa,ag,e,ah,_⟩
     ·rw[e]at hk;simp[Q1]at hk
     ·rw[e]at hk;simp[Q1]at hk;omega)
    have N:J (P.ownsRow w.heap.size 77 6 v' ((kept (As lo hi) c n).length+1) (Ay (kept (As lo hi) c n)++Bv (z,B,C,d,g,i))):=l;clear l D m;go_wp2;go_roundw
    case rel=>exact ⟨n+1,by omega,by go_num,M,by rw[s.out,QG,Id];simpa [Ay] using N.out⟩
    case measure=>simp [Q3];omega
   ·have s:J ((kept (As lo hi) c (n+1))=(kept (As lo hi) c n)):=by
     show _=_;rw[p,if_neg (by simp[As,Y,q2,q3])]
    go_wp2;go_roundw
    case rel=>exact ⟨n+1,by omega,by go_num,y,by rw[s.out];exact t.out⟩
    case measure=>simp [Q3];omega
  ·obtain rfl:n=L:=by omega
   have ak:J (Ai wr u7 (c.filter (As lo hi))):=by
    have h':=(GA OW.out).1;rw[<-HX.out,TH]at h';exact h'
   go_wp2;go_ret;exact⟨_,rfl,ak.out,hb⟩
end Go.Proofs.YtcllhobffhkafaaGreatDoor
