/- By an AI agent. -/
import Derived.RangeFuncNested
import Derived.RangeFuncBound
import Derived.RangeFuncCalls
import Derived.RangeFuncLeaves
import Derived.Sort.MapsRangeIn
import Derived.Shelf.RegionOpen
import Derived.OwnWalkIn
import Derived.TacticsInMore
import Derived.RegionIn
import Derived.LoopNIn
import Derived.LoopIn
import Derived.Test.YtcllhobffhkafaaGreatDoorScanDel
import Derived.Shelf.AbstractIn
set_option maxRecDepth 100000
set_option maxHeartbeats 16000000
open Go.Proofs.Tryz
open Array renaming replicate_succ->Qw,replicate_zero->Qx,getElem?_eq_some_iff->QE,toList_extract->Xb
open Bool renaming false->Z,true->V,and_true->Xh
open ByteArray renaming data_extract->Xa,size_extract->Xd
open Go renaming World->I,Boxed->Qc,Value->Qi,Lit->Qj,DataW->Qk,CallsIn->Qm,callsIn_of_wp->Qo,bodyPost_ret->Q2,maxLen->Q4,KeepsWalks->Q6,SeqStopsK->Q7,Calls->Q8,callsIn_wide->Q9,results->QA,YieldAt->QC,results_none->QD,AbidesFrom->QO,wpListIn_range_own->QP,wpListIn_next_ranges->QR,run_endRound->Xf,run_endLoop->Xg,grownBy_putObj'->Xi,run_takeDeferred->Xj
open Go.Ending renaming returned->Qg
open Go.Fence renaming wide->Qf
open Go.IntKind renaming i64->Qa
open Go.Lib renaming indexByte->Qp
open Go.Maps renaming has->Qn,keyOf_str->QS,keyOf_int_inv->QU
open Go.Obj renaming cells->Qd,deferred->Qe,mapIter->QN
open Go.Proofs.Tryz renaming prog->S,func307->QH,ntmps307->QI,underlying68->QQ,underlying9->QT,underlying3->QV
open Go.RowKit.Below renaming heap_setCell->Qq,heap_alloc->QF,refl->QJ
open Go.Value renaming string->J,bool->H,pointer->A,int->Qb,slice->Q3
open Go.World renaming putObj_heap_other->Qh,putObj_heap_same->QG,alloc_heap_new->Xe
open List renaming size_toArray->Qr,length_cons->Qs,length_nil->Qt,push_toArray->Qy,append_toArray->Qz,nil_append->Q0,cons_append->Q1,mem_singleton->QB,nodup_nil->QK,nodup_append->QL,mem_map->QM,getElem?_take->QW,mem_cons->QX,all_eq_true->QY,mem_iff_getElem?->QZ,extract->Xc
open Nat renaming le_refl->Ql,reduceAdd->Qu,reduceSub->Qv,le_trans->Q5
open Option renaming none->O,some->U
namespace Go.Proofs.YtcllhobffhkafaaGreatDoor
open Go.RowKit Go.Maps Go.Sort Go.Shelf
abbrev EE (l:List Ob):= { o:Ob // o∈l }
structure H9 (l:List Ob) (left:Qj->Bool) (ps:List (EE l)):Prop where
 once:ps.Nodup
 left:∀o:EE l,left (BJ o.1.1)=V↔o∉ps
theorem nU {l:List Ob} (c:DR l) {o p:Ob} (d:o∈l) (f:p∈l) (h:o.1=p.1):o=p:=by
 have b:=IR c d;rw[h,IR c f]at b;exact(Option.some.inj b).symm
theorem nV {l:List Ob} (b:DR l):l.Nodup:=b.imp fun h e=>by subst e;exact LQ _ h
theorem H9.start {l:List Ob} (q:ByteArray->Nat) (b:DR l):H9 l (Qn (Cf q l)) [] :=
 ⟨QK,fun o=>by rw[H3,IR b o.2];simp⟩
theorem H9.step {l:List Ob} {c:Qj->Bool} {ps:List (EE l)} (h:H9 l c ps) (f:DR l) (o:EE l) (g:c (BJ o.1.1)=V):H9 l (fun z=>c z && !z.sameKey (BJ o.1.1)) (ps++ [o]):=by
 have d:=(h.left o).1 g;refine⟨?_,fun p=>?_⟩
 ·rw[QL];refine⟨h.once,by simp,fun a ha b hb=>?_⟩;simp only[QB]at hb;subst hb;exact fun e=>d (e▸ha)
 ·rw[Om];by_cases e:p=o
  ·subst e;simp
  ·have:p.1.1≠o.1.1:=fun e'=>e (Subtype.ext (nU f p.2 o.2 e'));simp[this,h.left p,e]
theorem H9.done {l:List Ob} {b:Qj->Bool} {ps:List (EE l)} (h:H9 l b ps) (d:DR l) (f:∀z,b z=Z):(ps.map (·.1)).Perm l:=by
 rw[List.perm_ext_iff_of_nodup]
 ·intro o;constructor
  ·intro c;obtain⟨p,_,rfl⟩:=QM.1 c;exact p.2
  ·intro c;refine QM.2 ⟨⟨o,c⟩,?_,rfl⟩;have:=h.left ⟨o,c⟩;rw[f]at this;simpa using this
 ·show List.Pairwise _ _;rw[List.pairwise_map];exact h.once.imp fun h e=>h (Subtype.ext e)
 ·exact nV d
theorem nW {l:List Ob} {q:ByteArray->Nat} {x:List UInt8} {c:Option Addr} {y:Qk Unit×List MemPlace} (r:H2 (A c)=U y) (d:∀zd,(Cf q l).atKey (.string x) zd=y.1) :
  ∃o:EE l,x=o.1.1.data.toList/\encStr x=J o.1.1/\c=U ⟨q o.1.1,0,O⟩:=by
 have m:Lit.string x=BJ (Ab x):=by simp[BJ,Ab]
 rw[m]at d;have b:=d (DQ (-7));have f:=d (DQ (-8));rw[Jg]at b f
 cases j:B1 l (Ab x) with
 | none =>
  rw[j]at b f;simp at b f;have:=JR (b.trans f.symm);omega
 | some o =>
  obtain⟨p,g⟩:=FG j;rw[j]at b;simp at b;refine⟨⟨o,p⟩,?_,?_,?_⟩
  ·simp[g,Ab]
  ·simp[g,Ab,encStr]
  ·rcases Mm r with⟨k,e,i⟩|⟨e,i⟩
   ·rw[i]at b;have:=JR b;have n:q (Ab x)=k:=by omega
    simp only[Value.pointer.injEq]at e;rw[e];simp[g,n]
   ·rw[i]at b;have:=JR b;omega
structure EU (n₀:Nat) (W W':I):Prop where
 size:W.heap.size<=W'.heap.size
 old:∀k:Nat,k<n₀->W'.heap[k]? =W.heap[k]?
 iter:∀(k:Nat) p s e c,W.heap[k]? =U (QN p s e c)->W'.heap[k]? =U (QN p s e c)
theorem EU.trans {d:Nat} {X Y b:I} (h:EU d X Y) (k:EU d Y b):EU d X b:=⟨Q5 h.size k.size,fun i hi=>(k.old i hi).trans (h.old i hi),fun i p s e c hi=>k.iter i p s e c (h.iter i p s e c hi)⟩
theorem EU.put {b:Nat} (W:I) (l:Nat) (o d:Obj) (g:b<=l) (h:W.heap[l]? =U o) (f:o.isWalk=Z):EU b W (W.putObj l d) :=
 ⟨by simp,fun k hk=>Qh (by omega),fun k p s e c hk=>(Qh (fun e'=>by subst e';rw[h]at hk;cases hk;cases f)).trans hk⟩
theorem nX {k:TypeId} {R:Qi->Option (Qk Unit×List MemPlace)} {w w':I} {b r n l:Nat} {D:Qk Unit} {c:Qj->Bool} {g:Nat}
  (h:w.ranges S k R b r n D c g) (m:EU l w w') (u:b<l):w'.ranges S k R b r n D c g:=by
 obtain⟨o,d,f,i,p,j,F,q,s,t,rest⟩:=h;exact⟨o,d,f,i,p,(m.old b u).trans j,F,q,s,m.iter r _ _ _ _ t,rest⟩
abbrev M6 {l:List Ob} (q:ByteArray->Nat) (o:EE l):Array Qi:=#[A (U ⟨q o.1.1,0,O⟩)]
theorem nY (n:Nat) (hn:1<=n) (r Bm b:Nat) (q:ByteArray->Nat) (l:List Ob) (F:DR l) (d Jx:List (EE l)->I->Prop)
  (hY:∀pre x W,d pre W->pre.length<l.length->QC Qf (n-1) S r (M6 q x) W fun e W' =>
   (e=Qg (H V)/\d (pre++ [x]) W'/\Q6 W W')\/(e=Qg (H Z)/\Jx (pre++ [x]) W'))
  (W:I) (hJ:QO W.heap.size d) (hm:W.cell? ⟨Bm,0,O⟩=U (.map (U b))) (K:BT W b q l) (h0:d [] W) :
  Qm Qf n S 378 #[.func (.yield r) #[] #[],A (U ⟨Bm,0,O⟩)] W fun e W'=>(∃v,e=Qg v) /\
   ((∃ps,(ps.map (·.1)).Perm l/\d ps W')\/(∃pre,True/\Jx pre W')):=by
 have L:Fence.wide.round=O:=rfl;have hN:=Mp q l;refine Qo func378 rfl trivial ?_ L;simp only[ntmps378,Qr,Qs,Qt,Qu,Qv,Qw,Qx,Qy,Qz,Q0,Q1]
 gi_wp2_with (first
  | (gi_at_range;refine QP _ rfl _ 68 rfl 9 153 Tryz.keyedS QQ H2 b l.length _ rfl K ?_;intro w0 u T ag)
  | gi_in)
 go_frame
 gi_loopw [4] (fun _ wr=> ∃(f:Qj->Bool) (i:Nat) (ps:List (EE l)),wr.ranges S 9 H2 b W.heap.size l.length (Cf q l) f i/\ps.length+i<=l.length/\H9 l f ps/\d ps wr)
  (fun _ wr=>wr.rangeLeft b W.heap.size)
 case atStart =>
  exact⟨_,_, [],u,by simp[hN],H9.start q F,hJ [] W w0 O h0 T (fun r e=>by cases e)⟩
 case round =>
  obtain⟨f,i,ps,j,af,Q,p⟩:=hrel
  gi_wp2_with (first
   | (gi_at_next;refine QR _ rfl _ rfl 9 Tryz.keyedS H2 encStr (fun c:Option Addr=>A c) (fun key kl hk=>by obtain⟨x,hx,_⟩:=QS QT hk;exact⟨x,hx⟩) (fun v y D=>by rcases Mm D with⟨k,rfl,_⟩|⟨rfl,_⟩<;>exact ⟨_,rfl⟩) b W.heap.size l.length _ _ _ rfl j ?_ ?_)
   | gi_in)
  ·intro ah X
   gi_wp2
   go_end0;exact⟨⟨_,rfl⟩,.inl ⟨ps,Q.done F X,p⟩⟩
  ·intro x c kl yd yp z B C t D Y m aa ab ai ac;obtain⟨x',ex,rfl,_⟩:=QS QT C;obtain rfl:x=x':=encStr_inj ex;obtain⟨o,R,s,rfl⟩:=nW D Y;rw[s]at ac;rw[s];have M:Lit.string x=BJ o.1.1:=by rw[R];rfl
   rw[M]at t m;have N:d ps z:=hJ ps wr z (U W.heap.size) p ab (fun r e=>by cases e;exact⟨Ql _,j.iter_walk⟩);obtain⟨fn,tmps,assign,body,hy,hR⟩:=hY ps o z N (by omega);have P:=Q.step F o t;obtain⟨⟨on,ot,od⟩,ho⟩:=o
   gi_wp2
   refine hR.mono ?_;rintro e W3 (⟨rfl,ad,ae⟩|⟨rfl,E⟩)
   ·gi_wp2
    have g:=m.of_walks ae;go_roundw
    case rel=>exact ⟨_,B,_,g,by simp;omega,P,ad⟩
    case measure=>rw [g.left_eq,j.left_eq];exact aa
   ·gi_wp2
    refine Q2 (QD rfl _ _ _) rfl ?_;exact⟨⟨_,rfl⟩,.inr ⟨_,trivial,E⟩⟩
theorem nZ (n:Nat) (i:1<=n) (f b:Nat) (q:ByteArray->Nat) (l:List Ob) (j:DR l) (w:I) (g:w.cell? ⟨f,0,O⟩=U (.map (U b))) (d:BT w b q l) :
  Q7 Qf n S 378 #[A (U ⟨f,0,O⟩)] (M6 q) Q6 (fun ps:List (EE l)=>(ps.map (·.1)).Perm l) (fun _=>True) l.length w:=fun r c Jx W hW hJ _ hY h0 =>
 nY n i r f b q l j c Jx hY W hJ ((hW.cell (p:=⟨f,0,O⟩) (BD g)).trans g) (d.keep (hW.block b d.lt)) h0
theorem oA (n:Nat) (c:Nat) (q:ByteArray->Nat) (w:I) (f:w.cell? ⟨c,0,O⟩=U (.map O)) :
  Q7 Qf n S 378 #[A (U ⟨c,0,O⟩)] (M6 q) Q6 (fun ps:List (EE [])=>(ps.map (·.1)).Perm []) (fun _=>True) 0 w:=fun r b Jx W hW hJ _ hY h0=>by
 have g:=(hW.cell (p:=⟨c,0,O⟩) (BD f)).trans f;have d:Fence.wide.round=O:=rfl;show Qm _ _ _ _ #[.func (.yield r) #[] #[],A (U ⟨c,0,O⟩)] _ _;refine Qo func378 rfl trivial ?_ d;simp only[ntmps378,Qr,Qs,Qt,Qu,Qv,Qw,Qx,Qy,Qz,Q0,Q1];have i:=run_range_nilMap (P:=S) W 68 9 153 QQ;have j:∀ty,(Instr.next (A (U ⟨W.heap.size,0,O⟩)) Z ty).run S (W.alloc (.mapIter O 0 #[] 0))=_:=fun ty=>run_next_nilMap _ ty 0 0 #[]
 gi_wp2
 refine wpIn_loop_rounds 1 ?_;rw[roundsIn_succ]
 gi_wp2
 go_end0;exact⟨⟨_,rfl⟩,.inl ⟨[],List.Perm.nil,hJ [] W _ O h0 (World.grownBy_alloc W _ O) (fun r e=>by cases e)⟩⟩
theorem oB (n:Nat) (i:1<=n) (d:Nat) (f:Option Nat) (q:ByteArray->Nat) (l:List Ob) (j:DR l) (w:I) (g:w.cell? ⟨d,0,O⟩=U (.map f)) (c:GW w f q l) :
  Q7 Qf n S 378 #[A (U ⟨d,0,O⟩)] (M6 q) Q6 (fun ps:List (EE l)=>(ps.map (·.1)).Perm l) (fun _=>True) l.length w:=by
 rcases c with⟨rfl,rfl⟩|⟨b,rfl,c⟩
 ·exact oA n d q w g
 ·exact nZ n i d b q l j w g c
theorem oC (n:Nat) (b:Option Nat) (w:I):Qm Qf n S 351 #[.map b] w fun e w'=>e=Qg (.func (.func 378) #[] #[A (U ⟨w.heap.size,0,O⟩)])/\w'=w.alloc (Qd #[.map b] 68):=by
 refine Qo func351 rfl trivial ?_ rfl
 gi_wp2
 go_ret;exact⟨rfl,rfl⟩
end Go.Proofs.YtcllhobffhkafaaGreatDoor
namespace Go.Proofs.YtcllhobffhkafaaGreatDoor
open Go.RowKit Go.Extern.Stop Go.Stop Go.Extern Go.Maps Go.Sort Go.Shelf Go.Lib
structure Ia (D:Qk Unit) (left:Qj->Bool) (ps:List Int):Prop where
 once:ps.Nodup
 left:∀z:Int,left (.int .i64 z)=V↔Qn D (.int .i64 z)=V/\z∉ps
theorem oD (z y:Int):(Lit.int .i64 z).sameKey (.int .i64 y)=decide (z=y):=by
 by_cases h:z=y
 ·subst h;rw[WideAt.sameKey_self (show WideAt.IsKeyLit (.int Qa z) from trivial),decide_eq_true rfl]
 ·rw[decide_eq_false h]
  cases c:(Lit.int Qa z).sameKey (.int Qa y) with
  | false=>rfl
  | true =>
   have:=(WideAt.sameKey_iff (b:= .int .i64 y) trivial).1 c;injection this with _ e;exact absurd e h
theorem Ia.start (D:Qk Unit):Ia D (Qn D) []:=⟨QK,fun z=>by simp⟩
theorem Ia.step {D:Qk Unit} {c:Qj->Bool} {ps:List Int} (h:Ia D c ps) (z:Int) (f:c (.int .i64 z)=V):Ia D (fun k=>c k && !k.sameKey (.int .i64 z)) (ps++ [z]):=by
 have d:=((h.left z).1 f).2;refine⟨?_,fun y=>?_⟩
 ·rw[QL];refine⟨h.once,by simp,fun a ha b hb=>?_⟩;simp only[QB]at hb;subst hb;exact fun e=>d (e▸ha)
 ·rw[oD];by_cases e:y=z
  ·subst e;simp
  ·simp[e,h.left y]
theorem Ia.done {D:Qk Unit} {b:Qj->Bool} {ps:List Int} (h:Ia D b ps) (c:∀z,b z=Z):ps.Nodup/\∀z:Int,Qn D (.int .i64 z)=V->z∈ps:=by
 refine⟨h.once,fun z hz=>?_⟩;have:=h.left z;rw[c]at this;simp only[Bool.false_eq_true,hz,true_and,false_iff,Classical.not_not]at this;exact this
abbrev OG (hv:Int->Qi) (z:Int):Array Qi:=#[Qb Qa z,hv z]
abbrev oE (t:Option Addr×Nat×Nat):Qi:=Q3 t.1 t.2.1 t.2.2
theorem oF (n:Nat) (hn:1<=n) (n₀ r Bm b:Nat) (ai:b<n₀) (M:Nat) (D:Qk Unit) (g:Int->Qi) (hd:∀z,C9 (g z)=U (D.atKey (.int Qa z) .nil, [])) (d Jx:List Int->I->Prop)
  (hY:∀pre x W,d pre W->pre.length<M->QC Qf (n-1) S r (OG g x) W fun e W' =>
   (e=Qg (H V)/\d (pre++ [x]) W'/\EU n₀ W W')\/(e=Qg (H Z)/\Jx (pre++ [x]) W'))
  (W:I) (hJ:QO W.heap.size d) (hm:W.cell? ⟨Bm,0,O⟩=U (.map (U b))) (p:W.ownsMap S 3 C9 b M D) (h0:d [] W) :
  Qm Qf n S 245 #[.func (.yield r) #[] #[],A (U ⟨Bm,0,O⟩)] W fun e W'=>(∃v,e=Qg v) /\
   ((∃ps,(ps.Nodup/\∀z:Int,Qn D (.int .i64 z)=V->z∈ps)/\d ps W')\/(∃pre,True/\Jx pre W')):=by
 have N:Fence.wide.round=O:=rfl;have hN:=p.size_le;refine Qo func245 rfl trivial ?_ N;simp only[ntmps245,Qr,Qs,Qt,Qu,Qv,Qw,Qx,Qy,Qz,Q0,Q1]
 gi_wp2_with (first
  | (gi_at_range;refine QP _ rfl _ 133 rfl 3 35 Tryz.keyedI underlying133 C9 b M _ rfl p ?_;intro w0 C aa ak)
  | gi_in)
 go_frame
 gi_loopw [3,4] (fun _ _ wr=> ∃(f:Qj->Bool) (j:Nat) (ps:List Int),wr.ranges S 3 C9 b W.heap.size M D f j/\ps.length+j<=M/\Ia D f ps/\d ps wr)
  (fun _ _ wr=>wr.rangeLeft b W.heap.size)
 case atStart =>
  exact⟨_,_, [],C,by simpa using hN,Ia.start D,hJ [] W w0 O h0 aa (fun r e=>by cases e)⟩
 case round =>
  obtain⟨f,j,ps,k,aj,T,u⟩:=hrel
  gi_wp2_with (first
   | (gi_at_next;refine QR _ rfl _ rfl 3 Tryz.keyedI C9 (Qb Qa) oE (fun key kl hk=>by obtain⟨x,hx,_⟩:=QU QV hk;exact⟨x,hx⟩) (fun v y g=>by obtain⟨q,m,c,e⟩:=Jn g;exact⟨(q,m,c),e⟩) b W.heap.size M _ _ _ rfl k ?_ ?_)
   | gi_in)
  ·intro al ab
   gi_wp2
   go_end0;exact⟨⟨_,rfl⟩,.inl ⟨ps,T.done ab,u⟩⟩
  ·intro x cq cm cc kl yd yp E F l ac o B K ad ae af am;obtain⟨x',X,rfl,_⟩:=QU QV l;obtain rfl:x=x':=by injection X
   have s:C9 (g x)=U (yd, []):=by rw[hd x,B .nil]
   have P:=U6 o;subst P;have t:Q3 cq cm cc=g x:=U7 o s;have Q:d ps E:=hJ ps wr E (U W.heap.size) u ae (fun r e=>by cases e;exact⟨Ql _,k.iter_walk⟩);obtain⟨fn,tmps,assign,body,Y,hR⟩:=hY ps x E Q (by omega);dsimp only[OG]at Y;rw[<-t]at Y;have R:=T.step x ac;clear af X l o B s t
   gi_wp2
   refine hR.mono ?_;rintro e W3 (⟨rfl,ag,ah⟩|⟨rfl,L⟩)
   ·gi_wp2
    have i:=nX K ah ai;go_roundw
    case rel=>exact ⟨_,F,_,i,by simp;omega,R,ag⟩
    case measure=>rw [i.left_eq,k.left_eq];exact ad
   ·gi_wp2
    refine Q2 (QD rfl _ _ _) rfl ?_;exact⟨⟨_,rfl⟩,.inr ⟨_,trivial,L⟩⟩
theorem oG (n:Nat) (s:1<=n) (g f b:Nat) (l:b<g) (M:Nat) (D:Qk Unit) (i:Int->Qi) (t:∀z,C9 (i z)=U (D.atKey (.int Qa z) .nil, [])) (w:I) (m:w.cell? ⟨f,0,O⟩=U (.map (U b))) (j:w.ownsMap S 3 C9 b M D) :
  Q7 Qf n S 245 #[.pointer (U ⟨f,0,O⟩)] (OG i) (EU g) (fun ps:List Int=>ps.Nodup/\∀z:Int,Qn D (.int .i64 z)=V->z∈ps) (fun _=>True) M w:=fun r c Jx W hW hJ _ hY h0 =>
 oF n s g r f b l M D i t c Jx hY W hJ ((hW.cell (p:=⟨f,0,O⟩) (BD m)).trans m) (by
  obtain⟨o,d,k,q⟩:=j;exact⟨o,d,(hW.block b (QE.1 k).1).trans k,q⟩) h0
theorem oH (n:Nat) (b:Option Nat) (w:I):Qm Qf n S 160 #[.map b] w fun e w'=>e=Qg (.func (.func 245) #[] #[A (U ⟨w.heap.size,0,O⟩)])/\w'=w.alloc (Qd #[.map b] 133):=by
 refine Qo func160 rfl trivial ?_ rfl
 gi_wp2
 go_ret;exact⟨rfl,rfl⟩
def UC (v:Qi) (ys:List Rw) (w:I) (e:Ending) (w':I):Prop:= ∃q n c,e=Qg (Q3 q n c)/\n=ys.length/\CU w' q n c (A2 ys)/\Ac (fun k=>U k=v.ownBlock) w w'
theorem oI {d:Array Qi} {xs:List Rw} (h:d.toList.take (xs.length*3)=A2 xs):∀t (ht:t<xs.length),ET d t xs[t]:=fun t ht=>by
 have b:∀c,c<3->d[t*3+c]? =(AN xs[t])[c]? :=fun c hc=>by
  rw[<-IG xs t c ht hc,<-h,QW,if_pos (by omega),Array.getElem?_toList]
 exact⟨by have:=b 0 (by omega);simpa [AN] using this,by have:=b 1 (by omega);simpa [AN] using this,by have:=b 2 (by omega);simpa [AN] using this⟩
theorem oJ (v:Qi) (xs:List Rw) (base:Nat) (b:Nat) (d:Array Qi) (p:Rw->Bool) (w:I) (t:∀args w,(callFunc b args).run S w= .ok (.enter b args) w) (l:w.ownsRow base 62 3 v xs.length (A2 xs)) (F:xs.length<=20000) (K:OC b d xs p (fun k=>U k=v.ownBlock) w) :
  Q8 S 162 #[v,.func (.func b) #[] d] w (UC v (xs.filter fun x=> !p x) w):=by
 rcases l.2 with⟨rfl,D⟩|⟨g,j,q,rfl,L,E,r,M,s,f⟩
 ·have c:xs= []:=List.length_eq_zero_iff.1 D;subst c;have i:=U9 (Q3 O 0 0) [] b d p w t (Or.inl ⟨O,0,rfl,rfl⟩) (by simp) (fun x W c _=>by cases c);have u:G3 p []= -1:=rfl;rw[u]at i
  go_enter func162,ntmps162
  go_wp2_with fail
  refine i.mono ?_;rintro e y ⟨rfl,o⟩;go_wp2;go_ret;exact⟨O,0,0,rfl,rfl,Or.inl ⟨rfl,fun _=>rfl⟩,Ac.of_below o⟩
 ·have m:∀k,(U k=(Q3 (U ⟨g,0,O⟩) xs.length j).ownBlock)↔k=g:=fun k=>by simp[Value.ownBlock]
  have n:OC b d xs p (fun k=>k=g) w:=fun x W c hB=>K x W c (hB.mono fun k hk=>(m k).2 hk);refine(nT g j xs b d p q w t E (oI f) (by rw[s];omega) r F n).mono ?_;rintro e y ⟨z,B,C⟩;exact⟨_,_,_,z,rfl,Or.inr ⟨g,0,rfl,L4 B⟩,C.mono fun k hk=>(m k).2 hk⟩
end Go.Proofs.YtcllhobffhkafaaGreatDoor
namespace Go.Proofs
open Go.Shelf
def Tryz.indexIt_ren:Go.Shelf.Ren:=⟨fun | 143=>299 | 219=>292 | 217=>334 | 225=>335 | 224=>336 | 267=>337 | 266=>371 | 314=>372 | n=>n,fun | 9=>9 | 3=>3 | 4=>4 | 5=>5 | 46=>159 | 146=>380 | 51=>229 | n=>n,fun | 1=>13 | n=>n⟩
theorem Tryz.indexIt:Go.Proofs.Lays.n143 S indexIt_ren:= { lays146 with
 mixed:=by kernel_rfl
 f143:=Tryz.lq func299 (by kernel_rfl)
 f217:=Tryz.lq func334 (by kernel_rfl)
 f219:=Tryz.lq func292 (by kernel_rfl)
 f224:=Tryz.lq func336 (by kernel_rfl)
 f225:=Tryz.lq func335 (by kernel_rfl)
 f266:=Tryz.lq func371 (by kernel_rfl)
 f267:=Tryz.lq func337 (by kernel_rfl)
 f314:=Tryz.lq func372 (by kernel_rfl)
 g1:=by kernel_rfl }
end Go.Proofs
namespace Go.Proofs.YtcllhobffhkafaaGreatDoor
open Go.RowKit Go.Maps Go.Sort Go.Shelf Go.Lib
attribute [local go_sem] Oper.semAt_some
def Dt (p:List UInt8):Bool:=p.isEmpty || DC 16 p
theorem oK (c:UInt8):GM c=(Cw c.toNat || decide (c=47)):=by
 rw[jK]
 unfold Cw
 have e : decide ((c.toNat : Int) = 47) = decide (c=47):=by
   congr 1
   exact propext ⟨fun h => UInt8.toNat_inj.1 (by have:c.toNat=47:=by omega
                                                 rw[this];rfl),fun h=>by rw[h];rfl⟩
 rw[e]
theorem UD {p:List UInt8} (h:p.length<=16):Dt p=p.all fun c=>Cw c.toNat:=by
 unfold Dt DC
 cases p with
 | nil=>rfl
 | cons c r=>simp only[List.isEmpty_cons,Bool.false_or];rw[decide_eq_true (by simp),decide_eq_true h];rfl
theorem UE:∀l:List UInt8,((Av 47 l).all fun p=>p.all fun c=>Cw c.toNat)=l.all GM
 | []=>rfl
 | c :: r=>by
  have b:=UE r;unfold Av;rw[List.all_cons,oK];split
  ·rename_i h;subst h;simp[<-b]
  ·rename_i h;rw[decide_eq_false h,Bool.or_false,<-b];split
   ·rename_i e;exact absurd e (J7 47 r)
   ·rename_i w d e;rw[e];simp[Bool.and_assoc]
theorem OH (d:UInt8):∀(l:List UInt8),∀x∈Av d l,x.length<=l.length
 | [],x,h=>by simp only[Av,QB]at h;subst h;exact Ql _
 | c :: r,x,h=>by
  have b:=OH d r;unfold Av at h;split at h
  ·rcases QX.1 h with rfl | h
   ·simp
   ·have:=b x h;simp;omega
  ·split at h
   ·rename_i e;exact absurd e (J7 d r)
   ·rename_i w f e;rw[e]at b;rcases QX.1 h with rfl | h
    ·have:=b w (by simp);simp;omega
    ·have:=b x (by simp[h]);simp;omega
theorem oL {l:List UInt8} (h:l.length<=16):(Av 47 l).all Dt=l.all GM:=by
 rw[<-UE];apply Bool.eq_iff_iff.2;rw[QY,QY];constructor
 ·intro c p b;rw[<-UD (Q5 (OH 47 l p b) h)];exact c p b
 ·intro c p b;rw[UD (Q5 (OH 47 l p b) h)];exact c p b
theorem oM (s:ByteArray):(Qp s.data.toList 47= -1/\Av 47 s.data.toList= [s.data.toList])\/∃i:Nat,i<s.size/\Qp s.data.toList 47=i/\Av 47 s.data.toList=(s.extract 0 i).data.toList :: Av 47 (s.extract (i+1) s.size).data.toList:=by
 have m:=AA s;have t:=indexByte_ge s.data.toList 47;rcases Int.lt_or_le (Qp s.data.toList 47) 0 with u | v
 ·have n:Qp s.data.toList 47= -1:=by omega
  have f:=indexByte_none n;refine Or.inl ⟨n,J6 47 _ fun c d e=>?_⟩;obtain⟨k,b⟩:=QZ.1 d;exact f k (by rw[b,e])
 ·obtain⟨i,p⟩:∃i:Nat,Qp s.data.toList 47=i:=⟨(Qp s.data.toList 47).toNat,by omega⟩;obtain⟨d,f⟩:=indexByte_some p;have j:i<s.data.toList.length:=by
   rcases Nat.lt_or_ge i s.data.toList.length with l | l
   ·exact l
   ·rw[List.getElem?_eq_none l]at d;cases d
  refine Or.inr ⟨i,by omega,p,?_⟩;have o:s.data.toList=s.data.toList.take i++47 :: s.data.toList.drop (i+1):=by
   have g:=List.take_append_drop i s.data.toList;rw[List.drop_eq_getElem_cons j]at g;rw[List.getElem?_eq_getElem j]at d;rw[Option.some.inj d]at g;exact g.symm
  have g:(s.extract 0 i).data.toList=s.data.toList.take i:=by simp[Xa,Xb,Xc]
  have r:(s.extract (i+1) s.size).data.toList=s.data.toList.drop (i+1):=by
   simp only[Xa,Xb,Xc];rw[List.take_of_length_le (by rw[List.length_drop,m];exact Ql _)]
  rw[g,r]
  conv=>lhs;rw[o]
  refine Hk 47 _ _ fun c hc' e=>?_;obtain⟨k,b⟩:=QZ.1 hc';rw[QW]at b;split at b
  ·rename_i q;exact f k q (by rw[b,e])
  ·cases b
def M7 (B:Nat) (w:I):Nat:=match w.cell? ⟨B,0,O⟩ with
 | some (J r)=>r.size
 | _=>0
theorem UF {B:Nat} {w:I} {r:ByteArray} {t:TypeId} (h:Qc w B t (J r)):M7 B w=r.size:=by unfold M7;rw[h.cell]
theorem oN (n:Nat) (hn:1<=n) (l B:Nat) (R Rx:I->Prop) (s:ByteArray)
  (hY:∀(x:ByteArray) (W:I),x.size<=s.size->R W->QC Qf (n-1) S l #[J x] W fun e W' =>
   (Dt x.data.toList=V/\e=Qg (H V)/\R W'/\∀k,B<=k->k<B+3->W'.heap[k]? =W.heap[k]?)\/(Dt x.data.toList=Z/\e=Qg (H Z)/\Rx W'))
  (K:∀W v,R W->R (W.setCell ⟨B,0,O⟩ v))
  (W:I) (b0:Qc W B 9 (J s)) (b1:Qc W (B+1) 9 (J ⟨#[47]⟩)) (b2:Qc W (B+2) 3 (Qb Qa 0)) (hs:s.size<=Q4) (h0:R W) :
  Qm Qf n S 388 #[.func (.yield l) #[] #[],A (U ⟨B+1,0,O⟩),A (U ⟨B,0,O⟩),A (U ⟨B+2,0,O⟩)] W fun e W'=>(∃v,e=Qg v) /\
   (((Av 47 s.data.toList).all Dt=V/\R W')\/((Av 47 s.data.toList).all Dt=Z/\Rx W')):=by
 unfold Q4 at hs;have L:Fence.wide.round=O:=rfl;generalize hG:(Av 47 s.data.toList).all Dt=G;have M:Hid _:=hY;have z:Hid _:=K;have c1:=b1.cell;refine Qo func388 rfl trivial ?_ L;simp only[ntmps388,Qr,Qs,Qt,Qu,Qv,Qw,Qx,Qy,Qz,Q0,Q1]
 gi_wp2
 gi_loopw [7,8] (fun _ _ wr=> ∃r:ByteArray,Qc wr B 9 (J r)/\Qc wr (B+1) 9 (J ⟨#[47]⟩)/\Qc wr (B+2) 3 (Qb Qa 0)/\R wr/\r.size<=s.size/\(Av 47 r.data.toList).all Dt=G) (fun _ _ wr=>M7 B wr)
 case atStart=>exact ⟨s,b0,b1,b2,h0,Ql _,hG⟩
 case round =>
  obtain⟨r,C,d1,d2,u,y,p⟩:=hrel;have k0:=C.cell;have k1:=d1.cell;have k2:=d2.cell;have b:=(Q9 (n:=n-1)).2 (Any.strings_Index_one indexIt r 47 wr);change Qm Qf (n-1) S 299 _ _ _ at b;rcases oM r with⟨E,F⟩|⟨i,ad,E,F⟩
  ·rw[E]at b;rw[F]at p;have g:Hid (Dt r.data.toList=G):=by simpa [Hid] using p
   obtain⟨fn,tmps,assign,body,hy,D⟩:=M.out r wr y u
   gi_wp2_with (refine⟨trivial,?_⟩;gi_at_call 299;refine b.mono ?_;rintro e w' ⟨rfl,rfl⟩)
   refine D.mono ?_;rintro e d (⟨c,rfl,m,_⟩|⟨c,rfl,f⟩)
   ·gi_wp2
    go_end0;exact⟨⟨_,rfl⟩,.inl ⟨by rw[<-g.out];exact c,m⟩⟩
   ·gi_wp2
    go_end0;exact⟨⟨_,rfl⟩,.inr ⟨by rw[<-g.out];exact c,f⟩⟩
  ·rw[E]at b;rw[F]at p;have N:(r.extract 0 i).size<=s.size:=by rw[Xd];omega
   have P:(r.extract (i+1) r.size).size<r.size:=by rw[Xd];omega
   have g:Hid ((Dt (r.extract 0 i).data.toList && (Av 47 (r.extract (i+1) r.size).data.toList).all Dt)=G):=by simpa [Hid] using p
   obtain⟨fn,tmps,assign,body,hy,D⟩:=M.out (r.extract 0 i) wr N u;have HM:Hid (M7 B wr=r.size):=UF C;have q:Hid ((r.extract (i+1) r.size).size<r.size):=P;have Q:Hid (r.size<=s.size):=y
   gi_wp2_with (refine⟨trivial,?_⟩;gi_at_call 299;refine b.mono ?_;rintro e w' ⟨rfl,rfl⟩)
   refine D.mono ?_;rintro e d (⟨c,rfl,m,o⟩|⟨c,rfl,f⟩)
   ·have j:Qc d B 9 (J r):=(o B (Ql _) (by omega)).trans C;have t:Qc d (B+1) 9 (J ⟨#[47]⟩):=(o (B+1) (by omega) (by omega)).trans d1;have T:Qc d (B+2) 3 (Qb Qa 0):=(o (B+2) (by omega) (by omega)).trans d2;have j0:=j.cell;have j1:=t.cell;have jf:=j.frozen;have X:Hid (Qc (d.setCell ⟨B,0,O⟩ (J (r.extract (i+1) r.size))) B 9 (J (r.extract (i+1) r.size))):=j.set _;have Y:Hid (Qc (d.setCell ⟨B,0,O⟩ (J (r.extract (i+1) r.size))) (B+1) 9 (J ⟨#[47]⟩)):=(Qq d ⟨B,0,O⟩ _ (B+1) (by show B+1≠B;omega)).trans t;have aa:Hid (Qc (d.setCell ⟨B,0,O⟩ (J (r.extract (i+1) r.size))) (B+2) 3 (Qb Qa 0)):=(Qq d ⟨B,0,O⟩ _ (B+2) (by show B+2≠B;omega)).trans T;have ab:Hid (R (d.setCell ⟨B,0,O⟩ (J (r.extract (i+1) r.size)))):=z.out _ _ m;have ac:Hid ((Av 47 (r.extract (i+1) r.size).data.toList).all Dt=G):=by
     have:=g.out;rw[c,Bool.true_and]at this;exact this
    gi_wp2
    exact⟨⟨_,X.out,Y.out,aa.out,ab.out,by have:=q.out;have:=Q.out;omega,ac.out⟩,by rw[UF X.out,HM.out];exact q.out⟩
   ·gi_wp2
    refine Q2 (QD rfl _ _ _) rfl ?_;exact⟨⟨_,rfl⟩,.inr ⟨by rw[<-g.out,c];rfl,f⟩⟩
def EV (w:I) (s:ByteArray):I:=((w.alloc (Qd #[J s] 9)).alloc (Qd #[J ⟨#[47]⟩] 9)).alloc (Qd #[Qb Qa 0] 3)
theorem oO (s:ByteArray) (w:I):Q8 S 350 #[J s,J ⟨#[47]⟩] w fun e w'=>e=Qg (.func (.func 388) #[] #[A (U ⟨w.heap.size+1,0,O⟩),A (U ⟨w.heap.size,0,O⟩),A (U ⟨w.heap.size+2,0,O⟩)])/\w'=EV w s:=by
 have b:Q8 S 377 #[J s,J ⟨#[47]⟩,Qb Qa 0] w fun e w'=>e=Qg (.func (.func 388) #[] #[A (U ⟨w.heap.size+1,0,O⟩),A (U ⟨w.heap.size,0,O⟩),A (U ⟨w.heap.size+2,0,O⟩)])/\w'=EV w s:=by
  go_enter func377,ntmps377
  go_wp2;go_ret;exact⟨rfl,rfl⟩
 go_enter func350,ntmps350
 go_wp2_with (go_at_call 377;refine b.mono ?_;rintro e w' ⟨rfl,rfl⟩)
 go_ret;exact⟨rfl,rfl⟩
def oP (good:Bool) (Rx:I->Prop) (W:I):Exit->Act->I->Prop
 | .normal,_,W'=>good=V/\W'=W
 | .ret,_,W'=>good=Z/\Rx W'/\KeepsOthers W W'
 | _,_,_=>False
theorem oQ {n:Nat} {g:Operand} {p:Tmp} {assign body:Code} {Q:Exit->Act->I->Prop} {a:Act} {w:I} (s:ByteArray) (B:Nat) (hB:B+3<=w.heap.size)
  (hg:a.eval g= .func (.func 388) #[] #[A (U ⟨B+1,0,O⟩),A (U ⟨B,0,O⟩),A (U ⟨B+2,0,O⟩)])
  (b0:Qc w B 9 (J s)) (b1:Qc w (B+1) 9 (J ⟨#[47]⟩)) (b2:Qc w (B+2) 3 (Qb Qa 0)) (hs:s.size<=Q4) (hn:3<=n)
  (R E:I->Prop) (F:∀W l o,R W->w.heap.size<=l->R (W.putObj l o)) (aa:∀W l o,E W->w.heap.size<=l->E (W.putObj l o)) (ab:∀W o,R W->R (W.alloc o)) (ae:∀W v,R W->R (W.setCell ⟨B,0,O⟩ v)) (h0:R w) (a₁:ByteArray->Act)
  (y:∀(l:Nat) (x:ByteArray) (W:I) (K:Act->I->Prop),K (a₁ x) W->assign.wpIn (Fence.wide.inRound l) (n-1-1) S (Exit.then K (fun _ _ _=>False)) { tmps:=a.tmps.setIfInBounds p (J x),defers:= [] } W)
  (L:∀(l:Nat) (x:ByteArray) (W:I),x.size<=s.size->R W->body.wpIn (Fence.wide.inRound l) (n-1-1) S (oP (Dt x.data.toList) E W) (a₁ x) W)
  (M:∀W:I,(Av 47 s.data.toList).all Dt=V->R W->W.heap[w.heap.size]? =U (Qe (U []))->Q .normal { a with defers:= { target:=.collected w.heap.size,args:=#[] } :: a.defers } W)
  (N:∀W:I,(Av 47 s.data.toList).all Dt=Z->E W->W.heap[w.heap.size]? =U (Qe (U []))->Code.ret.wpIn Qf n S Q { a with defers:= { target:=.collected w.heap.size,args:=#[] } :: a.defers } W) :
  (Code.rangeFunc g #[p] assign body).wpIn Qf n S Q a w:=by
 refine wpIn_rangeFunc fun fn hfn=>?_;obtain⟨b,c⟩:∃b:LoopState->Option Code->Loop,b=fun st pe=> { state:=st,pending:=pe,fn,tmps:=a.tmps,params:=#[p],assign,body,defers:=w.heap.size } :=⟨_,rfl⟩;have d:∀k,k<w.heap.size->((w.alloc (Qe (U []))).alloc (.loop (b .ready O))).heap[k]? =w.heap[k]? :=fun k hk=>(QF _ _ k (by simp;omega)).trans (QF _ _ k hk);have z:(Instr.enterLoop fn a.tmps #[p] assign body O).run S w= .ok (w.heap.size+1, [{ target:=.collected w.heap.size,args:=#[] }]) ((w.alloc (Qe (U []))).alloc (.loop (b .ready O))):=by rw[c];exact run_enterLoop_outer _ _ _ _ _
 have r:((w.alloc (Qe (U []))).alloc (.loop (b .ready O))).heap[w.heap.size+1]? =U (.loop (b .ready O)):=by
  have:=Xe (w.alloc (Qe (U []))) (.loop (b .ready O))
  rwa [World.size_alloc]at this
 have C:((w.alloc (Qe (U []))).alloc (.loop (b .ready O))).heap[w.heap.size]? =U (Qe (U [])):=(QF _ _ _ (by simp)).trans (Xe w _);have eg:∀args w,(callFunc 388 args).run S w= .ok (.enter 388 args) w:=enters_of func388 (by kernel_rfl) rfl;have T:R ((w.alloc (Qe (U []))).alloc (.loop (b .ready O))):=ab _ _ (ab _ _ h0);generalize (w.alloc (Qe (U []))).alloc (.loop (b .ready O))=W1 at d z r C T;refine⟨w.heap.size+1, [{ target:=.collected w.heap.size,args:=#[] }],W1, { target:=.fn (.func 388) #[A (U ⟨B+1,0,O⟩),A (U ⟨B,0,O⟩),A (U ⟨B+2,0,O⟩)],args:=#[.func (.yield (w.heap.size+1)) #[] #[]] },W1,388,#[.func (.yield (w.heap.size+1)) #[] #[],A (U ⟨B+1,0,O⟩),A (U ⟨B,0,O⟩),A (U ⟨B+2,0,O⟩)],W1,z,?_,fun _ _=>trivial,?_,fun _=>by omega,?_⟩
 ·simp only[resolve,hg];simp[go_sem]
 ·simp[invoke,go_sem,eg]
 refine(oN (n-1) (by omega) (w.heap.size+1) B
  (fun W=>R W/\W.heap[w.heap.size+1]? =U (.loop (b .ready O))/\W.heap[w.heap.size]? =U (Qe (U [])))
  (fun W=>E W/\W.heap[w.heap.size+1]? =U (.loop (b .done (U .ret)))/\W.heap[w.heap.size]? =U (Qe (U []))) s ?yield ?set _
  ((d B (by omega)).trans b0) ((d (B+1) (by omega)).trans b1) ((d (B+2) (by omega)).trans b2) hs ⟨T,r,C⟩).mono ?_
 case set =>
  rintro W v ⟨i,f,m⟩;exact⟨ae W v i,(Qq W ⟨B,0,O⟩ v _ (by show w.heap.size+1≠B;omega)).trans f,(Qq W ⟨B,0,O⟩ v _ (by show w.heap.size≠B;omega)).trans m⟩
 case yield =>
  rintro x W hx ⟨i,f,m⟩;have X:w.heap.size+1<W.heap.size:=(QE.1 f).1;have hy:=run_yield (P:=S) (args:=#[J x]) f (by rw[c];rfl);have ac:(Instr.yield (w.heap.size+1) #[J x]).run S W= .ok (.round (w.heap.size+1) fn (a.tmps.setIfInBounds p (J x)) assign body) W:=by rw[hy,c];simp
  refine⟨fn,_,assign,body,ac,roundIn_of_wpIn hfn ?_⟩;refine y _ x W _ ?_;refine⟨_,run_beginRound f (by rw[c]),?_⟩;have e2:(W.putObj (w.heap.size+1) (.loop { b .ready O with state:=.busy })).heap[w.heap.size+1]? =U (.loop { b .ready O with state:=.busy }):=QG X;have e3:(W.putObj (w.heap.size+1) (.loop { b .ready O with state:=.busy })).heap[w.heap.size]? =U (Qe (U [])):=(Qh (by omega)).trans m;refine wpIn_mono (L _ x _ hx (F _ _ _ i (by omega))) ?_;intro e a3 W3 u
  cases e with
  | normal =>
   obtain⟨D,rfl⟩:=u;have j:=Xf (P:=S) O e2;refine⟨_,_,j,.inl ⟨D,rfl,⟨F _ _ _ (F _ _ _ i (by omega)) (by omega),?_,?_⟩,fun k h4 h5=>?_⟩⟩
   ·rw[QG (by simpa using X),c];rfl
   ·exact(Qh (by omega)).trans e3
   ·exact(Qh (by omega)).trans (Qh (by omega))
  | ret =>
   obtain⟨D,ad,Y⟩:=u;have e4:=Y.same _ _ e2 rfl;have j:=Xf (P:=S) (U .ret) e4;refine⟨_,_,j,.inr ⟨D,rfl,aa _ _ _ ad (by omega),?_,?_⟩⟩
   ·rw[QG (QE.1 e4).1,c];rfl
   ·exact(Qh (by omega)).trans (Y.same _ _ e3 rfl)
  | exit id=>exact u.elim
  | goto t=>exact u.elim
  | panic ch=>exact u.elim
  | outgrown=>exact u.elim
 rintro e W2 ⟨⟨v,rfl⟩,(⟨q,i,f,m⟩|⟨q,i,f,m⟩)⟩
 ·refine⟨O,_,by have:=Xg (P:=S) f (by rw[c];simp);rw[c]at this;exact this,M _ q (F _ _ _ i (by omega)) ((Qh (by omega)).trans m)⟩
 ·refine⟨U .ret,_,by have:=Xg (P:=S) f (by rw[c];simp);rw[c]at this;exact this,N _ q (aa _ _ _ i (by omega)) ((Qh (by omega)).trans m)⟩
theorem oR (s:ByteArray) (w:I) (hs:s.size<=Q4):Q8 S 307 #[J s] w fun e w'=>e=Qg (H (CF s.data.toList))/\BL w w':=by
 have L:=AA s;have j:BL w (w.alloc (Qd #[H Z] 4)):=Af _ _;have C:=Boxed.new w 4 (H Z);by_cases m:s.size<1\/16<s.size
 ·have D:CF s.data.toList=Z:=by
   unfold CF;rw[L];rcases m with h | h
   ·rw[decide_eq_false (show ¬1<=s.size by omega)];simp
   ·rw[decide_eq_false (show ¬s.size<=16 by omega)];simp
  rw[D];have y:=C.cell;have M:=C.frozen;rcases m with h | h
  ·have d1:decide ((s.size:Int)<1)=V:=decide_eq_true (by omega)
   go_enter QH,QI
   go_wp2;exact Q2 (v:=H Z) (by simp[QA,f307,go_sem,y]) rfl ⟨rfl,j⟩
  ·have d1:decide ((s.size:Int)<1)=Z:=decide_eq_false (by omega);have d2:decide ((16:Int)<(s.size:Int))=V:=decide_eq_true (by omega)
   go_enter QH,QI
   go_wp2;exact Q2 (v:=H Z) (by simp[QA,f307,go_sem,y]) rfl ⟨rfl,j⟩
 ·have D:CF s.data.toList=(Av 47 s.data.toList).all Dt:=by
   unfold CF;rw[oL (by omega),decide_eq_true (by omega),decide_eq_true (by omega),Xh,Xh]
  rw[D];generalize hG:(Av 47 s.data.toList).all Dt=G;have N:Hid (s.size<=Q4):=hs;refine(Q9 (n:=9)).1 ?_;refine callsIn_of_wp_marks QH rfl trivial ?_ rfl;simp only[QI,Qr,Qs,Qt,Qu,Qv,Qw,Qx,Qy,Qz,Q0,Q1];have P:=(Q9 (n:=9-1)).2 (oO s (w.alloc (Qd #[H Z] 4)))
  gi_wp2_with (refine⟨trivial,?_⟩;gi_at_call 350;refine P.mono ?_;rintro e w' ⟨rfl,rfl⟩)
  have Q:Below (w.heap.size+1) (w.alloc (Qd #[H Z] 4)) (EV (w.alloc (Qd #[H Z] 4)) s):=(((QJ _ _).alloc (by simp) _).alloc (by simp) _).alloc (by simp) _;have B:BL w (EV (w.alloc (Qd #[H Z] 4)) s):=j.trans (Q.mono (by omega));have R:Qc (EV (w.alloc (Qd #[H Z] 4)) s) w.heap.size 4 (H Z):=((C.alloc _).alloc _).alloc _;have T:Qc (EV (w.alloc (Qd #[H Z] 4)) s) (w.heap.size+1) 9 (J s):=by
   have:=((Boxed.new (w.alloc (Qd #[H Z] 4)) 9 (J s)).alloc (Qd #[J ⟨#[47]⟩] 9)).alloc (Qd #[Qb Qa 0] 3);simpa [EV] using this
  have X:Qc (EV (w.alloc (Qd #[H Z] 4)) s) (w.heap.size+1+1) 9 (J ⟨#[47]⟩):=by
   have:=(Boxed.new ((w.alloc (Qd #[H Z] 4)).alloc (Qd #[J s] 9)) 9 (J ⟨#[47]⟩)).alloc (Qd #[Qb Qa 0] 3);simpa [EV] using this
  have Y:Qc (EV (w.alloc (Qd #[H Z] 4)) s) (w.heap.size+1+2) 3 (Qb Qa 0):=by
   have:=Boxed.new (((w.alloc (Qd #[H Z] 4)).alloc (Qd #[J s] 9)).alloc (Qd #[J ⟨#[47]⟩] 9)) 3 (Qb Qa 0);simpa [EV] using this
  have E:(EV (w.alloc (Qd #[H Z] 4)) s).heap.size=w.heap.size+4:=by simp[EV]
  generalize EV (w.alloc (Qd #[H Z] 4)) s=g at B R T X Y E ⊢;have d:∀W l o,(Qc W w.heap.size 4 (H Z)/\BL w W)->g.heap.size<=l->Qc (W.putObj l o) w.heap.size 4 (H Z)/\BL w (W.putObj l o):=fun W l o h hl =>
   ⟨(Qh (by omega)).trans h.1,h.2.trans ((QJ _ W).grown (Xi W l o) (h.2.size) (fun k e=>by cases e;omega))⟩
  refine oQ s (w.heap.size+1) (by omega) rfl T X Y N.out (by decide) (fun W=>Qc W w.heap.size 4 (H Z)/\BL w W) (fun W=>Qc W w.heap.size 4 (H Z)/\BL w W) d d
   (fun W o h=>⟨h.1.alloc o,h.2.alloc h.2.size o⟩) (fun W v h=>⟨(Qq W ⟨w.heap.size+1,0,O⟩ v _ (by show w.heap.size≠w.heap.size+1;omega)).trans h.1,h.2.setCell (p:=⟨w.heap.size+1,0,O⟩) (by show w.heap.size<=w.heap.size+1;omega) _⟩) ⟨R,B⟩ ?a1 ?assign ?body ?done ?stop
  case assign =>
   intro l x W K t
   gi_wp2
   exact t
  case body =>
   rintro l x W hx ⟨b,u⟩;have y:=b.cell;have M:=b.frozen;by_cases z:x.data.toList= []
   ·have d3:(x.toList == [])=V:=by rw[ByteArray.toList_eq,z];rfl
    have q:Dt x.data.toList=V:=by rw[z];rfl
    rw[q]
    gi_wp2
    refine⟨trivial,?_⟩
    gi_wp2
    exact⟨rfl,rfl⟩
   ·have d3:(x.toList == [])=Z:=by rw[beq_eq_false_iff_ne,ByteArray.toList_eq];exact z
    have q:Dt x.data.toList=DC 16 x.data.toList:=by
     unfold Dt
     cases af:x.data.toList with
     | nil=>exact absurd af z
     | cons c r=>rfl
    have i:=CallsIn.inRound l ((Q9 (n:=9-1-1-1)).2 (Nn x 16 W (Q5 hx N.out) (by decide)));have HV:Hid (Qc W w.heap.size 4 (H Z)):=b;have HB:Hid (BL w W):=u;rw[q]
    cases hw:DC 16 x.data.toList with
    | true =>
     rw[hw]at i
     gi_wp2_with (refine⟨trivial,?_⟩;gi_at_call 276;refine i.mono ?_;rintro e w' ⟨rfl,rfl⟩)
     exact⟨rfl,rfl⟩
    | false =>
     rw[hw]at i
     gi_wp2_with (refine⟨trivial,?_⟩;gi_at_call 276;refine i.mono ?_;rintro e w' ⟨rfl,rfl⟩)
     exact⟨rfl,⟨HV.out.set _,HB.out.setCell (p:=⟨w.heap.size,0,O⟩) (Ql _) _⟩,KeepsOthers.setCell _ _ _⟩
  case done =>
   rintro W f ⟨b,u⟩ t;have y:=b.cell;have M:=b.frozen;obtain rfl:G=V:=hG.symm.trans f;have aa:(W.setCell ⟨w.heap.size,0,O⟩ (H V)).heap[g.heap.size]? =U (Qe (U [])):=(Qq W ⟨w.heap.size,0,O⟩ _ _ (by show g.heap.size≠w.heap.size;omega)).trans t;have ab:Qc ((W.setCell ⟨w.heap.size,0,O⟩ (H V)).putObj g.heap.size (Qe O)) w.heap.size 4 (H V):=(Qh (by omega)).trans (b.set (H V));have ac:BL w ((W.setCell ⟨w.heap.size,0,O⟩ (H V)).putObj g.heap.size (Qe O)):=by
    have m:=u.setCell (p:=⟨w.heap.size,0,O⟩) (Ql _) (H V);exact m.trans ((QJ _ _).grown (Xi _ g.heap.size (Qe O)) m.size (fun k e=>by cases e;omega))
   have F:=ab.cell
   gi_wp2
   refine⟨by simp,.inl ⟨_,_,rfl,Xj aa,?_⟩⟩;exact⟨H V,by simp[QA,f307,go_sem,F],rfl,ac⟩
  case stop =>
   rintro W f ⟨b,u⟩ t;obtain rfl:G=Z:=hG.symm.trans f;obtain⟨ad,ae⟩:=d _ g.heap.size (Qe O) ⟨b,u⟩ (Ql _);have F:=ad.cell
   gi_wp2
   refine⟨by simp,.inl ⟨_,_,rfl,Xj t,?_⟩⟩;exact⟨H Z,by simp[QA,f307,go_sem,F],rfl,ae⟩
end Go.Proofs.YtcllhobffhkafaaGreatDoor
namespace Go.Proofs.YtcllhobffhkafaaGreatDoor
open Go.RowKit Go.Extern.Stop Go.Stop Go.Extern
def Ib (w:I):I->Prop:=fun W=>BL w W
theorem Ib.errs {w W:I} {a:Nat->Addr} (h:Ib w W) (b:GQ w a):GQ W a:=b.below h
end Go.Proofs.YtcllhobffhkafaaGreatDoor
