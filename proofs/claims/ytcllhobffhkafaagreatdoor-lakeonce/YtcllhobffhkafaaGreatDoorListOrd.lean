/- By an AI agent. -/
import Derived.Test.YtcllhobffhkafaaGreatDoorLakeMem
import Derived.Maps.OwnSet
import Derived.Maps.Ext
import Derived.Maps.RangeWalk
set_option maxRecDepth 100000
set_option maxHeartbeats 16000000
open Go.Proofs.Tryz
open Bool renaming false->Qc,true->Qf,and_eq_false_iff->QK
open Go renaming World->U,Value->J,Calls->V,Addr->Qb,heap_setCell_same->Qg,DataW->Qj,cell_of_row->Qm,maxLen->Qn,lt_of_block->Qy,bytesBefore->Q7,frozen_of_row->QE
open Go.Ending renaming returned->Qa
open Go.IntKind renaming i64->S
open Go.Lib renaming compareInt->Qe,compareBytes->Qp
open Go.Maps renaming has->Ql,size->Qq,Canon->Qx,has_eq->Q5,has_put_other->Q8,ext->Q9,has_del_same->QA,has_del_other->QB
open Go.Proofs.Tryz renaming prog->A,underlying68->Qr,func200->Qu,ntmps200->Qv,func133->Q0,ntmps133->Q1,func223->Q3,ntmps223->Q4,underlying9->QC
open Go.RowKit.Below renaming refl->Q2,trans->QO,size->QP,drew->QQ
open Go.Value renaming int->I,string->H,pointer->G,iface->Qd,slice->Qi,tuple->Qs,bool->Qt,ownBlock->QL
open Go.World.ownsMap renaming canon->QD,lt->QR,lookup->QS,len->QT,store->QU,drop->QV
open List renaming length_pos_iff->Qo,length_take->Qz,any_map->Q6,getLastD_eq_getLast?->QF,getLast?_eq_some_getLast->QG,getLast_eq_getElem->QI,getElem_take->QJ
open Option renaming some->O,none->Z,getD_some->QH,ne_none_iff_exists'->QN
open Option.some renaming inj->Qw,injEq->QM
open Or renaming inl->Qh,inr->Qk
namespace Go.Proofs.YtcllhobffhkafaaGreatDoor
open Go.RowKit Go.Extern.Stop Go.Stop Go.Extern Go.Sort Go.Shelf Go.Lib
def DQ (k:Int):Qj Unit:=.lit (.int S k)
abbrev JQ (k:Nat):J:=G (O ⟨k,0,Z⟩)
def H2 (v:J):Option (Qj Unit×List MemPlace):=match v with
 | .pointer (O ⟨k,0,Z⟩)=>O (DQ k, [])
 | .pointer Z=>O (DQ (-1), [])
 | _=>Z
theorem jM (k:Nat):H2 (JQ k)=O (DQ k, []):=rfl
theorem jN:H2 (G Z)=O (DQ (-1), []):=rfl
theorem Mm {v:J} {z:Qj Unit×List MemPlace} (h:H2 v=O z):(∃k:Nat,v=JQ k/\z=(DQ k, []))\/(v=G Z/\z=(DQ (-1), [])):=by
 unfold H2 at h;split at h
 ·exact Qh ⟨_,rfl,(Qw h).symm⟩
 ·exact Qk ⟨rfl,(Qw h).symm⟩
 ·cases h
theorem JR {k j:Int} (h:DQ k=DQ j):k=j:=by simpa [DQ] using h
def BJ (n:ByteArray):Lit:= .string n.data.toList
def Cf (q:ByteArray->Nat) (l:List Ob):Qj Unit:=.map (l.map fun o=>(BJ o.1,DQ (q o.1)))
def GV (q:ByteArray->Nat) (n:ByteArray) (k:Nat):ByteArray->Nat:=fun m=>if m=n then k else q m
theorem Ok (q:ByteArray->Nat) (n:ByteArray) (k:Nat):GV q n k n=k:=by simp[GV]
theorem Ol (q:ByteArray->Nat) {n m:ByteArray} (k:Nat) (h:m≠n):GV q n k m=q m:=by simp[GV,h]
abbrev DR (l:List Ob):Prop:=l.Pairwise fun a b=>a.1.data.toList<b.1.data.toList
theorem Om (n m:ByteArray):(BJ n).sameKey (BJ m)=decide (n=m):=by
 show (n.data.toList == m.data.toList)=_;by_cases h:n=m
 ·subst h;simp
 ·rw[decide_eq_false h];simp only[beq_eq_false_iff_ne];exact fun e=>h (JC e)
theorem Mn {n m:ByteArray} (h:n≠m):BJ n≠BJ m:=fun e=>h (JC (by simpa [BJ] using e))
theorem H3 (q:ByteArray->Nat) (l:List Ob) (n:ByteArray):Ql (Cf q l) (BJ n)=(B1 l n).isSome:=by
 unfold Cf B1;rw[Q5,Q6];have e:((fun p:Lit×Qj Unit=>p.1.sameKey (BJ n)) ∘ fun o:Ob=>(BJ o.1,DQ (q o.1)))=fun o=>decide (o.1=n):=by
  funext o;exact Om o.1 n
 rw[e,Bool.eq_iff_iff,List.any_eq_true,List.find?_isSome]
theorem Jg (q:ByteArray->Nat) (l:List Ob) (n:ByteArray) (z:Qj Unit):(Cf q l).atKey (BJ n) z=if (B1 l n).isSome=Qf then DQ (q n) else z:=by
 unfold Cf B1 DataW.atKey;dsimp only;rw[List.find?_map];have e:((fun p:Lit×Qj Unit=>p.1.sameKey (BJ n)) ∘ fun o:Ob=>(BJ o.1,DQ (q o.1)))=fun o=>decide (o.1=n):=by
  funext o;exact Om o.1 n
 rw[e]
 cases h:l.find? fun o=>decide (o.1=n) with
 | none=>rfl
 | some o =>
  have:=List.find?_some h;simp only[decide_eq_true_eq]at this;simp[this]
theorem TO:∀(a b:List UInt8),a<b->Q7 a b=Qf
 | [], [],h=>absurd h (List.lt_irrefl _)
 | [],_ :: _,_=>rfl
 | _ :: _, [],h=>by cases h
 | x :: r,y :: s,h=>by
  unfold Q7;rw[List.cons_lt_cons_iff]at h;rcases h with h | ⟨rfl,h⟩
  ·simp[h]
  ·simp[TO r s h]
theorem TP {q:ByteArray->Nat} {l:List Ob} (h:DR l):Qx (Cf q l):=by
 refine⟨_,rfl,?_,?_⟩
 ·rw[List.pairwise_map];exact h.imp fun h'=>TO _ _ h'
 ·intro p b;obtain⟨o,_,rfl⟩:=List.mem_map.1 b;exact trivial
theorem Mo (k:Lit):(∃n,k=BJ n)\/∀q l,Ql (Cf q l) k=Qc:=by
 cases k with
 | string x=>exact Qh ⟨Ab x,by simp[BJ,Ab]⟩
 | _ =>
  refine Qk fun q l=>?_;unfold Cf;rw[Q5,Q6];apply List.any_eq_false.2;intro o _;simp[BJ,Lit.sameKey]
theorem jO {q:ByteArray->Nat} {l:List Ob} {n t:ByteArray} {d:Int} {k:Nat} (c:DR l) (f:∀p∈l,p.1≠n) (s:Qx ((Cf q l).put (BJ n) (DQ k))):(Cf q l).put (BJ n) (DQ k)=Cf (GV q n k) (Cr l (n,t,d)):=by
 have g:Maps.IsMap (Cf q l):=⟨_,rfl⟩;have i:∀z,Ql ((Cf q l).put (BJ n) (DQ k)) z=Ql (Cf (GV q n k) (Cr l (n,t,d))) z:=fun z=>by
  rcases Mo z with⟨m,rfl⟩ | b
  ·by_cases e:m=n
   ·subst e;rw[Maps.has_put_same g (show WideAt.IsKeyLit (BJ m) from trivial),H3,LR (o:=(m,t,d)) c f];rfl
   ·rw[Q8 (Mn e),H3,H3,N8 (o:=(n,t,d)) c f e]
  ·rw[b,Q8 (fun e=>?_),b];subst e;have j:=b q (Cr l (n,t,d));rw[H3,LR (o:=(n,t,d)) c f]at j;cases j
 refine Q9 s (TP (Kv (o:=(n,t,d)) c f)) i (fun z u b=>?_);rcases Mo z with⟨m,rfl⟩ | r
 ·by_cases e:m=n
  ·subst e;rw[Maps.atKey_put_same g (show WideAt.IsKeyLit (BJ m) from trivial),Jg,LR (o:=(m,t,d)) c f,Ok];rfl
  ·rw[Maps.atKey_put_other (Mn e),Jg,Jg,N8 (o:=(n,t,d)) c f e,Ol _ _ e]
 ·rw[i,r]at b;cases b
theorem TQ {l:List Ob} {f:Ob->Bool} (h:DR l):DR (l.filter f):=h.sublist List.filter_sublist
theorem jP {q:ByteArray->Nat} {l:List Ob} {n:ByteArray} (c:DR l) (g:Qx ((Cf q l).del (BJ n))):(Cf q l).del (BJ n)=Cf q (l.filter fun o=>decide (o.1≠n)):=by
 have d:∀z,Ql ((Cf q l).del (BJ n)) z=Ql (Cf q (l.filter fun o=>decide (o.1≠n))) z:=fun z=>by
  rcases Mo z with⟨m,rfl⟩ | b
  ·by_cases e:m=n
   ·subst e;rw[QA,H3,Kx c,if_pos rfl];rfl
   ·rw[QB (Mn e),H3,H3,Kx c,if_neg e]
  ·by_cases e:z=BJ n
   ·subst e;rw[QA,b]
   ·rw[QB e,b,b]
 refine Q9 g (TP (TQ c)) d (fun z u b=>?_);rcases Mo z with⟨m,rfl⟩ | f
 ·by_cases e:m=n
  ·subst e;rw[d,H3,Kx c,if_pos rfl]at b;cases b
  ·rw[Maps.atKey_del_other (Mn e),Jg,Jg,Kx c,if_neg e]
 ·rw[d,f]at b;cases b
theorem Mp (q:ByteArray->Nat) (l:List Ob):Qq (Cf q l)=l.length:=by unfold Cf;rw[Maps.size_eq,List.length_map]
def BT (w:U) (b:Nat) (q:ByteArray->Nat) (l:List Ob):Prop:=w.ownsMap A 9 H2 b l.length (Cf q l)
theorem Tryz.keyedS:Maps.Keyed A 9:=Maps.string_keyed QC
theorem Mq {n:ByteArray} (h:n.size<=Qn):keyOf A 9 (H n)=O (BJ n):=WideMaps.keyOf_string_mk QC h
theorem BT.block {w:U} {b:Nat} {q:ByteArray->Nat} {l:List Ob} (h:BT w b q l):∃es clock,w.heap[b]? =O (.map es clock):=by
 obtain⟨es,clock,c,_⟩:=h;exact⟨es,clock,c⟩
theorem BT.lt {w:U} {b:Nat} {q:ByteArray->Nat} {l:List Ob} (h:BT w b q l):b<w.heap.size:=QR h
theorem BT.keep {w w':U} {b:Nat} {q:ByteArray->Nat} {l:List Ob} (h:BT w b q l) (k:w'.heap[b]? =w.heap[b]?):BT w' b q l:=by
 obtain⟨d,c,f,g,i,j⟩:=h;exact⟨d,c,k.trans f,g,i,j⟩
def Jh (q:ByteArray->Nat) (l:List Ob) (n:ByteArray):J:=if (B1 l n).isSome=Qf then JQ (q n) else G Z
theorem Tryz.zeroObj (w:U):(zeroValue 153).run A w= .ok (G Z) w:=zeroValue153 w
section
variable {w : U} {b : Nat} {q : ByteArray → Nat} {l : List Ob}
theorem BT.look (h:BT w b q l) {n:ByteArray} (i:n.size<=Qn) :
  (Instr.lookup 68 (.map (O b)) (H n) Qc).run A w= .ok (Jh q l n) w:=by
 obtain⟨v,j,f,d⟩:=QS h Tryz.keyedS Qr (Tryz.zeroObj w) jN (Mq i);rw[f];rw[Jg]at d;unfold Jh;by_cases g:(B1 l n).isSome=Qf
 ·rw[if_pos g]at d ⊢;rcases Mm d with⟨k,rfl,c⟩|⟨rfl,c⟩
  ·have:=JR (Prod.mk.inj c).1;have:q n=k:=by omega
   rw[this]
  ·have:=JR (Prod.mk.inj c).1;omega
 ·rw[if_neg g]at d ⊢;rcases Mm d with⟨k,rfl,c⟩|⟨rfl,c⟩
  ·have:=JR (Prod.mk.inj c).1;omega
  ·rfl
theorem BT.len (h:BT w b q l) (c:TypeId):(Builtin.len_ #[68] c #[.map (O b)]).run A w= .ok (I S l.length) w:=by
 rw[QT h Qr c,Mp]
theorem BT.store (h:BT w b q l) (j:DR l) (m:l.length<Qn) {n:ByteArray} (o:n.size<=Qn) (g:∀p∈l,p.1≠n) (t:ByteArray) (d:Int) (k:Nat) :
  ∃w',(Instr.mapUpdate 68 (.map (O b)) (H n) (JQ k)).run A w= .ok () w'/\BT w' b (GV q n k) (Cr l (n,t,d))/\w.mapTurned w' b:=by
 obtain⟨w',c,f,i⟩:=QU h Tryz.keyedS Qr m (Mq o) (jM k);refine⟨w',c,?_,i⟩;unfold BT;rw[<-jO j g (QD f Tryz.keyedS),N7];exact f
theorem BT.drop (h:BT w b q l) (s:DR l) {n:ByteArray} (t:n.size<=Qn) (j:TypeId) :
  ∃w',(Builtin.delete_ #[68,9] j #[.map (O b),H n]).run A w= .ok (Qs #[]) w'/\BT w' b q (l.filter fun o=>decide (o.1≠n))/\w.mapTurned w' b:=by
 obtain⟨w',d,f,k⟩:=QV h Tryz.keyedS Qr (Mq t) j;refine⟨w',d,?_,k⟩;have e:=jP s (QD f Tryz.keyedS);rw[e]at f;unfold BT;have g:Qq (Cf q (l.filter fun o=>decide (o.1≠n)))<=(l.filter fun o=>decide (o.1≠n)).length:=by rw[Mp];exact Nat.le_refl _
 obtain⟨m,c,p,r,u,i⟩:=f;refine⟨m,c,p,r,?_,i⟩;rw[i]at g;simpa [Qq,length_sorted] using g
end
theorem BT.made (w:U) (q:ByteArray->Nat):BT (w.alloc (.map #[] 0)) w.heap.size q []:=World.ownsMap_made w _ _ _
theorem Ac.of_turned {w w':U} {b:Nat} (h:w.mapTurned w' b):Ac (fun k=>k=b) w w':=by
 have g:=World.mapTurned.grown h;exact⟨g.os,g.tape,g.output,g.size,fun k hk hP=>g.block k hk (fun e=>hP (Qw e))⟩
def D3 (s:St):Bool:= !s.off && decide (0<=s.cut)
def EB (s:St):Int:=if D3 s=Qf then s.cut else 0
def SC (W:U) (b:Nat) (mo:Option Nat) (h:ByteArray) (d:Int) (off waits:Bool) (left:Int):Prop:=W.heap[b]? =O (.cells #[.map mo,H h,I S d,Qt off,Qt waits,I S left] 72 (0,0))
def FU (W:U) (q:ByteArray->Nat) (l:List Ob):Prop:= ∀o∈l,W.heap[q o.1]? =O (.cells #[H o.2.1,I S o.2.2] 190 (0,0))
def GW (W:U) (mo:Option Nat) (q:ByteArray->Nat) (l:List Ob):Prop:=(mo=Z/\l= [])\/∃mb,mo=O mb/\BT W mb q l
structure Be (W:U) (b:Nat) (mo:Option Nat) (q:ByteArray->Nat) (s:St):Prop where
 block:SC W b mo s.head s.day s.off (D3 s) (EB s)
 map:GW W mo q s.obs
 objs:FU W q s.obs
 rise:DR s.obs
 cut:s.cut<=9223372036854775807
def C3 (b:Nat) (mo:Option Nat) (q:ByteArray->Nat) (l:List Ob):Nat->Prop:=fun k=>k=b\/mo=O k\/∃o∈l,q o.1=k
def A0 (W:U) (v:J) (FP:Nat->Prop) (s:St):Prop:= ∃b mo q,v=G (O ⟨b,0,Z⟩)/\FP=C3 b mo q s.obs/\Be W b mo q s
theorem SC.lt {W:U} {b:Nat} {i:Option Nat} {h:ByteArray} {d:Int} {g c:Bool} {f:Int} (j:SC W b i h d g c f):b<W.heap.size:=Qy j
theorem SC.cells {W:U} {b:Nat} {i:Option Nat} {h:ByteArray} {d:Int} {g c:Bool} {f:Int} (j:SC W b i h d g c f):W.cell? ⟨b,0,Z⟩=O (.map i)/\W.cell? ⟨b,1,Z⟩=O (H h)/\W.cell? ⟨b,2,Z⟩=O (I S d)/\W.cell? ⟨b,3,Z⟩=O (Qt g)/\W.cell? ⟨b,4,Z⟩=O (Qt c)/\W.cell? ⟨b,5,Z⟩=O (I S f)/\∀o,W.frozen? ⟨b,o,Z⟩=Qc:=by
 refine⟨?_,?_,?_,?_,?_,?_,fun o=>QE _ _ _ _ _ j⟩<;>rw [Qm _ _ _ _ _ _ j]<;>rfl
theorem FU.cells {W:U} {q:ByteArray->Nat} {l:List Ob} (h:FU W q l) {o:Ob} (b:o∈l):W.cell? ⟨q o.1,0,Z⟩=O (H o.2.1)/\W.cell? ⟨q o.1,1,Z⟩=O (I S o.2.2):=by
 refine⟨?_,?_⟩<;>rw [Qm _ _ _ _ _ _ (h o b)]<;>rfl
theorem FU.lt {W:U} {q:ByteArray->Nat} {l:List Ob} (h:FU W q l) {o:Ob} (b:o∈l):q o.1<W.heap.size:=Qy (h o b)
theorem FU.keep {W b:U} {q:ByteArray->Nat} {l:List Ob} (h:FU W q l) (c:∀o∈l,b.heap[q o.1]? =W.heap[q o.1]?):FU b q l:=fun o ho=>(c o ho).trans (h o ho)
theorem GW.keep {W c:U} {b:Option Nat} {q:ByteArray->Nat} {l:List Ob} (h:GW W b q l) (d:∀mb,b=O mb->c.heap[mb]? =W.heap[mb]?):GW c b q l:=by
 rcases h with h | ⟨mb,rfl,h⟩
 ·exact Qh h
 ·exact Qk ⟨mb,rfl,h.keep (d mb rfl)⟩
theorem Be.lt {W:U} {b:Nat} {d:Option Nat} {q:ByteArray->Nat} {s:St} (h:Be W b d q s) {k:Nat} (c:C3 b d q s.obs k):k<W.heap.size:=by
 rcases c with rfl | c | ⟨o,f,rfl⟩
 ·exact h.block.lt
 ·rcases h.map with⟨e,_⟩|⟨i,rfl,g⟩
  ·rw[e]at c;cases c
  ·cases c;exact g.lt
 ·exact h.objs.lt f
theorem Be.keep {W d:U} {b:Nat} {c:Option Nat} {q:ByteArray->Nat} {s:St} {P:Nat->Prop} (h:Be W b c q s) (f:Ac P W d) (i:∀k,C3 b c q s.obs k->¬P k):Be d b c q s:=by
 have g:∀k,C3 b c q s.obs k->d.heap[k]? =W.heap[k]? :=fun k hk=>f.block k (h.lt hk) (i k hk);refine⟨(g b (Qh rfl)).trans h.block,h.map.keep fun mb e=>g mb (Qk (Qh e)),h.objs.keep fun o ho=>g _ (Qk (Qk ⟨o,ho,rfl⟩)),h.rise,h.cut⟩
theorem Be.below {W c:U} {b:Nat} {d:Option Nat} {q:ByteArray->Nat} {s:St} (h:Be W b d q s) (f:BL W c):Be c b d q s :=
 h.keep (Ac.of_below (P:=fun _=>False) f) fun _ _ h=>h
theorem On {W:U} {b i:Nat} {k:Option Nat} {h:ByteArray} {d:Int} {j f:Bool} {g:Int} {q:ByteArray->Nat} {l:List Ob} (m:SC W b k h d j f g) (n:BT W i q l):i≠b:=by
 rintro rfl;obtain⟨o,c,e⟩:=n.block;rw[m]at e;cases e
theorem TR {W:U} {b:Nat} {i:Option Nat} {h:ByteArray} {d:Int} {g c:Bool} {f:Int} {q:ByteArray->Nat} {l:List Ob} (j:SC W b i h d g c f) (k:FU W q l) {o:Ob} (m:o∈l):q o.1≠b:=by
 rintro rfl;have e:=k o m;rw[j]at e;simp at e
theorem TS {W:U} {b:Nat} {q:ByteArray->Nat} {l:List Ob} (g:BT W b q l) {d:List Ob} {f:ByteArray->Nat} (i:FU W f d) {o:Ob} (h:o∈d):f o.1≠b:=by
 rintro rfl;obtain⟨j,c,e⟩:=g.block;rw[i o h]at e;cases e
theorem Be.turned {W g:U} {b:Nat} {i:Option Nat} {q:ByteArray->Nat} {s c:St} (h:Be W b i q s) (l:Ac (fun k=>k=b) W g) (m:SC g b i c.head c.day c.off (D3 c) (EB c)) (j:c.obs=s.obs) (n:c.cut<=9223372036854775807):Be g b i q c:=by
 refine⟨m,?_,?_,by rw[j];exact h.rise,n⟩
 ·rw[j];refine h.map.keep fun mb e=>?_;rcases h.map with⟨f,_⟩|⟨p,f,d⟩
  ·rw[f]at e;cases e
  ·rw[f]at e;cases e;exact l.block _ d.lt (On h.block d)
 ·rw[j];exact h.objs.keep fun o d=>l.block _ (h.objs.lt d) (TR h.block h.objs d)
theorem Ix {W w':U} {b:Nat} {d c:Option Nat} {q f:ByteArray->Nat} {s g:St} (h:Be w' b c f g) (i:Ac (C3 b d q s.obs) W w') (j:∀k,C3 b c f g.obs k->C3 b d q s.obs k\/W.heap.size<=k) :
 ∃FP',A0 w' (G (O ⟨b,0,Z⟩)) FP' g/\Ac (C3 b d q s.obs) W w'/\∀k,FP' k->C3 b d q s.obs k\/W.heap.size<=k:=⟨_,⟨b,c,f,rfl,rfl,h⟩,i,j⟩
theorem KE {W w':U} {b:Nat} {d:Option Nat} {q:ByteArray->Nat} {s c:St} (h:Be W b d q s) (f:Ac (fun k=>k=b) W w') (i:SC w' b d c.head c.day c.off (D3 c) (EB c)) (g:c.obs=s.obs) (j:c.cut<=9223372036854775807) :
  ∃FP',A0 w' (G (O ⟨b,0,Z⟩)) FP' c/\Ac (C3 b d q s.obs) W w'/\∀k,FP' k->C3 b d q s.obs k\/W.heap.size<=k :=
 Ix (h.turned f i g j) (f.mono fun _ e=>Qh e) fun k hk=>Qh (by rw[g]at hk;exact hk)
theorem A3.shape {w:U} {v:J} {zs:List Int} (h:A3 w v zs):∃q c,v=Qi q zs.length c:=by
 rcases h with⟨p,c,rfl,rfl⟩|⟨b,o,d,rfl,_⟩
 ·exact⟨p,c,rfl⟩
 ·exact⟨_,d,rfl⟩
theorem A3.at {w:U} {q:Option Qb} {n c:Nat} {zs:List Int} (h:A3 w (Qi q n c) zs) (d:zs≠ []):∃b o,q=O ⟨b,o,Z⟩/\∀j (h:j<zs.length),w.cell? ⟨b,o+j,Z⟩=O (I S zs[j]):=by
 rcases h with⟨p,i,_,e⟩|⟨b,o,g,e,f⟩
 ·exact absurd e d
 ·injection e with e1;exact⟨b,o,e1,f⟩
structure FV (w:U) (a:Nat->Qb):Prop where
 base:DJ w
 text:w.cell? ⟨4,0,Z⟩=O (Qd 410 (G (O (a 0))))
 bound:w.cell? ⟨1,0,Z⟩=O (Qd 410 (G (O (a 1))))
 miss:w.cell? ⟨3,0,Z⟩=O (Qd 410 (G (O (a 5))))
 full:w.cell? ⟨6,0,Z⟩=O (Qd 410 (G (O (a 7))))
 order:w.cell? ⟨7,0,Z⟩=O (Qd 410 (G (O (a 8))))
theorem FV.below {w w':U} {a:Nat->Qb} (h:FV w a) (b:BL w w'):FV w' a :=
 ⟨h.base.below b,Aa b h.text,Aa b h.bound,Aa b h.miss,Aa b h.full,Aa b h.order⟩
theorem FV.weak {w:U} {a:Nat->Qb} (h:FV w a):BZ w a:=⟨h.text,h.bound,h.base.maxl,h.base.syn,h.base.tab⟩
def Oo (v:J):Prop:= ∀q l c,v=Qi q l c->l<=c
def C4 (w:U) (v:J) (zs:List Int):Prop:=A3 w v zs/\Oo v
theorem C4.below {w w':U} {v:J} {zs:List Int} (h:C4 w v zs) (b:BL w w'):C4 w' v zs:=⟨h.1.below b,h.2⟩
def Iy (w:U) (v:J):Prop:= ∀k,v.ownBlock=O k->w.heap.size<=k
theorem KG:Oo (Qi Z 0 0):=fun q l c e=>by injection e with _ e1 e2;omega
theorem TU {zs:List Int} {k:Nat} (c:zs.length=k+1) (d:k<zs.length):zs.getLastD 0=zs[k]:=by
 have b:zs≠ []:=fun e=>by rw[e]at c;simp at c
 rw[QF,QG b,QH,QI];congr 1;omega
theorem jQ {zs:List Int} {n:Nat} (d:n<=zs.length):(zs.take n).getLastD 0=It zs n:=by
 cases n with
 | zero=>rfl
 | succ m =>
  have b:m<zs.length:=by omega
  have c:(zs.take (m+1)).length=m+1:=by rw[Qz];omega
  rw[TU c (by omega),QJ];simp[It,List.getD,b]
theorem jR {w:U} {b o n c:Nat} {zs:List Int} (f:∀j (h:j<zs.length),w.cell? ⟨b,o+j,Z⟩=O (I S zs[j])) (g:n<=zs.length):A3 w (Qi (O ⟨b,o,Z⟩) n c) (zs.take n):=by
 have d:(zs.take n).length=n:=by rw[Qz];omega
 refine Qk ⟨b,o,c,by rw[d],fun j hj=>?_⟩;rw[QJ];exact f j (by omega)
theorem Oq (v:J) (zs:List Int) (w:U) (i:A3 w v zs) (r:zs.length<=100000) :
  V A 68 #[v] w fun e w'=>e=Qa (I S (zs.getLastD 0))/\w'=w:=by
 obtain⟨q,n,rfl⟩:=i.shape;by_cases c:zs= []
 ·subst c
  go_enter func68,ntmps68
  go_wp2;go_ret;exact⟨rfl,rfl⟩
 ·obtain⟨b,o,rfl,p⟩:=i.at c;obtain⟨k,g⟩:∃k,zs.length=k+1:=⟨zs.length-1,by have:=Qo.2 c;omega⟩;have d:k<zs.length:=by omega
  rw[TU g d,g];have j:(((k+1:Nat):Int) == 0)=Qc:=beq_eq_false_iff_ne.2 (by omega);have l:IntKind.i64.wrap (((k+1:Nat):Int)-1)=(k:Int):=by rw[IntWalk.i64_in _ (by omega)];omega
  have f:(k:Int)<((k+1:Nat):Int):=by omega
  obtain⟨K,m⟩:∃K,k+1=K:=⟨_,rfl⟩;rw[m]at j l f ⊢
  go_enter func68,ntmps68
  go_wp2;go_ret;exact⟨rfl,rfl⟩
def Gu (zs:List Int) (z:Int):Nat:=if CI z=Qc then 2 else if z<=zs.getLastD 0 then 9 else 0
theorem TV (v:J) (zs:List Int) (z:Int) (w:U) (a:Nat->Qb) (h:FV w a) (g:A3 w v zs) (j:zs.length<=100000) :
  V A 200 #[v,I S z] w fun e w'=>e=Qa (Ae a (Gu zs z))/\w'=w:=by
 have b:=Oq v zs w g j;obtain⟨q,m,rfl⟩:=g.shape;have k:=h.bound;have l:=h.order;by_cases n:z<1
 ·have c:Gu zs z=2:=by
   unfold Gu;rw[if_pos];simp only[CI,QK,decide_eq_false_iff_not];omega
  rw[c]
  go_enter Qu,Qv
  go_wp2;go_ret;exact⟨rfl,rfl⟩
 by_cases o:1073741824<z
 ·have c:Gu zs z=2:=by
   unfold Gu;rw[if_pos];simp only[CI,QK,decide_eq_false_iff_not];omega
  rw[c]
  go_enter Qu,Qv
  go_wp2;go_ret;exact⟨rfl,rfl⟩
 have c:Gu zs z=if z<=zs.getLastD 0 then 9 else 0:=by
  unfold Gu;rw[if_neg];rw[Bool.not_eq_false];exact JN.2 ⟨by omega,by omega⟩
 rw[c];generalize zs.getLastD 0=d at b ⊢;by_cases f:z<=d
 ·rw[if_pos f]
  go_enter Qu,Qv
  go_wp2_with fail
  refine b.mono ?_;rintro e i ⟨rfl,rfl⟩;go_wp2;go_ret;exact⟨rfl,rfl⟩
 ·rw[if_neg f]
  go_enter Qu,Qv
  go_wp2_with fail
  refine b.mono ?_;rintro e i ⟨rfl,rfl⟩;go_wp2;go_ret;exact⟨rfl,rfl⟩
theorem KH (v:J) (zs:List Int) (w:U) (a:Nat->Qb) (h:FV w a) (u:C4 w v zs) (hl:zs.length<=100000) :
  V A 133 #[v] w fun e w'=> ∃ev,e=Qa ev/\AU w' a ev (AD zs)/\BL w w':=by
 obtain⟨u,X⟩:=u;obtain⟨q,E,rfl⟩:=u.shape;have m:=X q zs.length E rfl;by_cases d:zs= []
 ·subst d;have F:AD ([]:List Int)=(6,Z):=rfl;rw[F];have hm:=h.miss
  go_enter Q0,Q1
  go_wp2;go_ret;exact⟨_,rfl,rfl,Q2 _ _⟩
 obtain⟨b,o,rfl,hc⟩:=u.at d;have p:=Qo.2 d;by_cases f:40<zs.length
 ·have F:AD zs=(8,Z):=by unfold AD;rw[if_neg d,if_pos f]
  rw[F];have hm:=h.full;generalize zs.length=L at hl m p f ⊢;have h0:((L:Int) == 0)=Qc:=beq_eq_false_iff_ne.2 (by omega);have hi:(40:Int)<(L:Int):=by omega
  go_enter Q0,Q1
  go_wp2;go_ret;exact⟨_,rfl,rfl,Q2 _ _⟩
 have y:Hid (AD zs=Dq 0 zs 0):=by
  show _=_;unfold AD;rw[if_neg d,if_neg f]
 have M:Hid _:=hc;have N:Hid _:=h;obtain⟨R,hR⟩:∃R,AD zs=R:=⟨_,rfl⟩;rw[hR]at y ⊢;obtain⟨L,K⟩:∃L,zs.length=L:=⟨_,rfl⟩;have P:Hid _:=K;rw[K]at hl m p f ⊢;clear K u hc d hR h;have h0:((L:Int) == 0)=Qc:=beq_eq_false_iff_ne.2 (by omega)
 go_enter Q0,Q1
 go_wp2
 go_loopw [16] (fun k wr=> ∃n:Nat,n<=L/\k=I S n/\Hy zs n/\wr=w) (fun k _=>L-(intOf k).toNat)
 case atStart=>exact ⟨0,by omega,rfl,jB zs,rfl⟩
 case round =>
  obtain⟨n,hn,rfl,aa,rfl⟩:=hrel;have l:Hid (Hy zs n):=aa;by_cases Q:n<L
  ·have g:n<zs.length:=by rw[P.out];exact Q
   have c0:=M.out n g;have c:=TV (Qi (O ⟨b,o,Z⟩) n E) (zs.take n) zs[n] wr a N.out (jR M.out (by omega)) (by rw[Qz];omega);unfold Gu at c;rw[jQ (by omega)]at c;have D:=fun e=>jC l.out g e;have i:=fun e o=>jD l.out g e o;have j:=fun e o=>jE l.out g e o;generalize It zs n=Y at c i j;generalize zs[n]=z at c0 c D i j;cases t:CI z
   ·rw[if_pos t]at c;have r:Hid (R=(2,O n)):=by show _=_;rw[y.out];exact D t
    simp only[Ae]at c;have s:BL wr (wr.alloc (.cells #[I S n,Qd 410 (G (O (a 1)))] 143)):=Af _ _
    go_wp2_with fail
    refine c.mono ?_;rintro e C ⟨rfl,rfl⟩;go_wp2;go_ret;refine⟨_,rfl,?_,s⟩;rw[r.out];exact⟨by simp,C.heap.size,rfl,by simp,by simp[Ae]⟩
   ·rw[if_neg (by rw[t];simp)]at c;replace i:=i t;replace j:=j t;by_cases B:z<=Y
    ·rw[if_pos B]at c;have r:Hid (R=(9,O n)):=by show _=_;rw[y.out];exact i B
     simp only[Ae]at c;have s:BL wr (wr.alloc (.cells #[I S n,Qd 410 (G (O (a 8)))] 143)):=Af _ _
     go_wp2_with fail
     refine c.mono ?_;rintro e C ⟨rfl,rfl⟩;go_wp2;go_ret;refine⟨_,rfl,?_,s⟩;rw[r.out];exact⟨by simp,C.heap.size,rfl,by simp,by simp[Ae]⟩
    ·rw[if_neg B]at c;have T:Hid _:=j B;simp only[Ae]at c
     go_wp2_with fail
     refine c.mono ?_;rintro e C ⟨rfl,rfl⟩;go_wp2;go_roundw
     case rel=>exact ⟨n+1,by omega,by go_num,T.out,by first | trivial | rfl⟩
     case measure=>simp [intOf];omega
  ·obtain rfl:n=L:=by omega
   have r:Hid (R=(0,Z)):=by
    show _=_;rw[y.out];have W:=l.out;rw[<-P.out]at W;exact jF W
   go_wp2;go_ret;refine⟨_,rfl,?_,Q2 _ _⟩;rw[r.out];rfl
def C5 (W:U) (kb:Nat) (vs:J) (spec hd:ByteArray) (vi:J) (s:Sn) (vf:J):Prop:=W.heap[kb]? =O (.cells #[vs,H spec,H hd,vi,I S s.1,I S s.2.1,I S s.2.2.1,I S s.2.2.2.1,I S s.2.2.2.2.1,H s.2.2.2.2.2.1,vf] 66 (0,0))
theorem C5.lt {W:U} {c:Nat} {d f vf:J} {b g:ByteArray} {s:Sn} (h:C5 W c d b g f s vf):c<W.heap.size:=Qy h
theorem C5.cells {W:U} {b:Nat} {d f vf:J} {c g:ByteArray} {s:Sn} (h:C5 W b d c g f s vf):W.cell? ⟨b,0,Z⟩=O d/\W.cell? ⟨b,1,Z⟩=O (H c)/\W.cell? ⟨b,2,Z⟩=O (H g)/\W.cell? ⟨b,3,Z⟩=O f/\W.cell? ⟨b,4,Z⟩=O (I S s.1)/\W.cell? ⟨b,5,Z⟩=O (I S s.2.1)/\W.cell? ⟨b,6,Z⟩=O (I S s.2.2.1)/\W.cell? ⟨b,7,Z⟩=O (I S s.2.2.2.1)/\W.cell? ⟨b,8,Z⟩=O (I S s.2.2.2.2.1)/\W.cell? ⟨b,9,Z⟩=O (H s.2.2.2.2.2.1)/\W.cell? ⟨b,10,Z⟩=O vf/\∀o,W.frozen? ⟨b,o,Z⟩=Qc:=by
 refine⟨?_,?_,?_,?_,?_,?_,?_,?_,?_,?_,?_,fun o=>QE _ _ _ _ _ h⟩<;>rw [Qm _ _ _ _ _ _ h]<;>rfl
theorem C5.keep {W d:U} {c:Nat} {f g vf:J} {b i:ByteArray} {s:Sn} (h:C5 W c f b i g s vf) (e:d.heap[c]? =W.heap[c]?):C5 d c f b i g s vf:=e.trans h
theorem C5.setHd {W:U} {c:Nat} {d f vf:J} {b g:ByteArray} {s:Sn} (h:C5 W c d b g f s vf) (x:ByteArray):C5 (W.setCell ⟨c,2,Z⟩ (H x)) c d b x f s vf:=by
 unfold C5 at *;rw[Qg _ _ _ _ _ _ h];rfl
theorem C5.setIds {W:U} {c:Nat} {d g vf:J} {b f:ByteArray} {s:Sn} (h:C5 W c d b f g s vf) (x:J):C5 (W.setCell ⟨c,3,Z⟩ x) c d b f x s vf:=by
 unfold C5 at *;rw[Qg _ _ _ _ _ _ h];rfl
def EC (W:U) (kb:Nat) (s:Sn) (vf:J):U:=((((((W.setCell ⟨kb,4,Z⟩ (I S s.1)).setCell ⟨kb,5,Z⟩ (I S s.2.1)).setCell ⟨kb,6,Z⟩ (I S s.2.2.1)).setCell ⟨kb,7,Z⟩ (I S s.2.2.2.1)).setCell ⟨kb,8,Z⟩ (I S s.2.2.2.2.1)).setCell ⟨kb,9,Z⟩ (H s.2.2.2.2.2.1)).setCell ⟨kb,10,Z⟩ vf
theorem C5.setNow {W:U} {c:Nat} {d f vf g:J} {b i:ByteArray} {s r:Sn} (j:C5 W c d b i f s vf):C5 (EC W c r g) c d b i f r g:=by
 obtain⟨k,l,m,n,o,p,q⟩:=r;obtain⟨t,u,v,y,z,B,C⟩:=s;unfold C5 EC at *;rw[Qg _ _ _ _ _ _ (Qg _ _ _ _ _ _ (Qg _ _ _ _ _ _ (Qg _ _ _ _ _ _ (Qg _ _ _ _ _ _ (Qg _ _ _ _ _ _ (Qg _ _ _ _ _ _ j))))))];simp
theorem TW (W:U) (c:Nat) (s:Sn) (vf:J):Ac (fun j=>j=c) W (EC W c s vf):=by
 have b:(fun k=>k=c) c\/W.heap.size<=c:=Qh rfl;unfold EC;exact(((((((Ac.refl (fun k=>k=c) W).setCell b _).setCell b _).setCell b _).setCell b _).setCell b _).setCell b _).setCell b _
theorem jS {W:U} {v:J} {p:Nat->Prop} {s:St} {vf:J} {r:List Fl} (h:A0 W v p s) (C:Ai W vf r) (g:r≠ []) {j:Nat} (m:vf.ownBlock=O j):¬p j:=by
 obtain⟨b,D,q,-,rfl,i⟩:=h;rcases C with⟨_,_,_,_,e⟩|⟨F,o,c,y,_,z⟩
 ·exact absurd e g
 ·rw[y]at m;simp only[QL,QM]at m;subst m;obtain⟨d,f,-⟩:=z 0 (Qo.2 g);rintro(e | e | ⟨x,u,e⟩)
  ·subst e;rw[Qm _ _ _ _ _ _ i.block]at d f
   match o,d,f with
   | 0,d,_=>simp at d
   | 1,_,f=>simp at f
   | 2,d,_=>simp at d
   | 3,d,_=>simp at d
   | 4,d,_=>simp at d
   | 5,d,_=>simp at d
   | k+6,d,_=>simp at d
  ·rcases i.map with⟨l,_⟩|⟨K,l,B⟩
   ·rw[l]at e;cases e
   ·rw[l]at e;injection e with e;subst e;obtain⟨E,t,n,-⟩:=B;simp[World.cell?,n]at d
  ·subst e;rw[Qm _ _ _ _ _ _ (i.objs x u)]at d f
   match o,d,f with
   | 0,_,f=>simp at f
   | 1,d,_=>simp at d
   | k+2,d,_=>simp at d
theorem jT {W:U} {m:Nat} {r t vf u:J} {i D:ByteArray} {s:Sn} {v:List Fl} (h:C5 W m r i D t s vf) (y:∃p,r=G p) (z:∃q n c,t=Qi q n c) (E:Ai W u v) (g:v≠ []) {j:Nat} (l:u.ownBlock=O j):j≠m:=by
 obtain⟨p,rfl⟩:=y;obtain⟨q,n,c,rfl⟩:=z;rcases E with⟨_,_,_,_,e⟩|⟨F,o,c,B,_,C⟩
 ·exact absurd e g
 ·rw[B]at l;simp only[QL,QM]at l;subst l;obtain⟨b,d,f,-⟩:=C 0 (Qo.2 g);intro e;subst e;rw[Qm _ _ _ _ _ _ h]at b d f
  match o,b,d,f with
  | 0,b,_,_=>simp at b
  | 1,_,_,f=>simp at f
  | 2,_,d,_=>simp at d
  | 3,b,_,_=>simp at b
  | 4,b,_,_=>simp at b
  | 5,b,_,_=>simp at b
  | 6,b,_,_=>simp at b
  | 7,b,_,_=>simp at b
  | 8,b,_,_=>simp at b
  | 9,_,_,f=>simp at f
  | 10,b,d,_=>simp at d
  | k+11,b,_,_=>simp at b
def Dh (SAt:U->J->(Nat->Prop)->St->Prop) (W:U) (v:J) (FP:Nat->Prop) (s:St) (w':U):Prop:= ∃FP',SAt w' v FP' s/\Ac FP W w'/\∀k,FP' k->FP k\/W.heap.size<=k
structure AJ (a:Nat->Qb) (B:Nat) (EM:U->Prop) (SAt:U->J->(Nat->Prop)->St->Prop):Prop where
 below:∀W W':U,EM W->Below B W W'->EM W'
 size:∀W:U,EM W->B<=W.heap.size
 ptr:∀(W:U) (v:J) (FP:Nat->Prop) (s:St),SAt W v FP s->∃p,v=G (O p)
 lt:∀(W:U) (v:J) (FP:Nat->Prop) (s:St) (k:Nat),SAt W v FP s->FP k->k<W.heap.size
 keep:∀(W W':U) (v:J) (FP P:Nat->Prop) (s:St),SAt W v FP s->Ac P W W'->(∀k,FP k->¬P k)->SAt W' v FP s
 new:∀W:U,EM W->V A 9 #[] W fun e w'=> ∃v FP,e=Qa v/\SAt w' v FP Ff/\(∀k,FP k->W.heap.size<=k)/\BL W w'
 put:∀(W:U) (v:J) (FP:Nat->Prop) (s:St) (n t:ByteArray),EM W->SAt W v FP s->AR s->n.size<=1000->t.size<=100000->V A 137 #[v,H n,H t] W fun e w'=>e=Qa (Ae a (BG s n t))/\Dh SAt W v FP (B0 s n t) w'
 get:∀(W:U) (v:J) (FP:Nat->Prop) (s:St) (n:ByteArray),EM W->SAt W v FP s->AR s->n.size<=1000->V A 65 #[v,H n] W fun e w'=>e=Qa (Qs #[H (AV s.obs n).1,Ae a (AV s.obs n).2])/\BL W w'
 drop:∀(W:U) (v:J) (FP:Nat->Prop) (s:St) (n:ByteArray),EM W->SAt W v FP s->AR s->n.size<=1000->V A 44 #[v,H n] W fun e w'=>e=Qa (Ae a (Fg s n))/\Dh SAt W v FP (Ep s n) w'
 names:∀(W:U) (v:J) (FP:Nat->Prop) (s:St),EM W->SAt W v FP s->AR s->V A 91 #[v] W fun e w'=> ∃v',e=Qa v'/\Ez w' v' (s.obs.map fun o=>o.1)/\BL W w'
 born:∀(W:U) (v:J) (FP:Nat->Prop) (s:St) (n:ByteArray),EM W->SAt W v FP s->AR s->n.size<=1000->V A 94 #[v,H n] W fun e w'=>e=Qa (I S (Ht s.obs n))/\BL W w'
 swap:∀(W:U) (v:J) (FP:Nat->Prop) (s:St) (n t:ByteArray),EM W->SAt W v FP s->AR s->n.size<=1000->t.size<=100000->V A 152 #[v,H n,H t] W fun e w'=>e=Qa (Ae a (C7 s n t))/\Dh SAt W v FP (B5 s n t) w'
 head:∀(W:U) (v:J) (FP:Nat->Prop) (s:St),EM W->SAt W v FP s->AR s->V A 31 #[v] W fun e w'=>e=Qa (H s.head)/\BL W w'
 cut:∀(W:U) (v:J) (FP:Nat->Prop) (s:St) (z:Int),EM W->SAt W v FP s->AR s->(-9223372036854775808<=z/\z<=9223372036854775807)->V A 37 #[v,I S z] W fun e w'=>e=Qa (Ae a (Hr s z))/\Dh SAt W v FP (Er s z) w'
 on:∀(W:U) (v:J) (FP:Nat->Prop) (s:St),EM W->SAt W v FP s->AR s->V A 30 #[v] W fun e w'=>e=Qa (Qs #[])/\Dh SAt W v FP (Br s) w'
 next:∀(W:U) (v:J) (FP:Nat->Prop) (s:St) (z:Int),EM W->SAt W v FP s->AR s->(-9223372036854775808<=z/\z<=9223372036854775807)->V A 36 #[v,I S z] W fun e w'=>e=Qa (Qs #[I S (if Il s z=0 then s.day+z else 0),Ae a (Il s z)])/\Dh SAt W v FP (Hs s z) w'
 day:∀(W:U) (v:J) (FP:Nat->Prop) (s:St),EM W->SAt W v FP s->AR s->V A 77 #[v] W fun e w'=>e=Qa (I S s.day)/\BL W w'
section
variable {a : Nat → Qb} {B : Nat} {EM : U → Prop} {SAt : U → J → (Nat → Prop) → St → Prop}
end
structure D4 (w:U) (a:Nat->Qb):Prop where
 file:GP w a
 miss:w.cell? ⟨3,0,Z⟩=O (Qd 410 (G (O (a 5))))
 exist:w.cell? ⟨11,0,Z⟩=O (Qd 410 (G (O (a 6))))
 full:w.cell? ⟨6,0,Z⟩=O (Qd 410 (G (O (a 7))))
 order:w.cell? ⟨7,0,Z⟩=O (Qd 410 (G (O (a 8))))
theorem D4.below {w w':U} {a:Nat->Qb} (h:D4 w a) (b:BL w w'):D4 w' a :=
 ⟨h.file.below b,Aa b h.miss,Aa b h.exist,Aa b h.full,Aa b h.order⟩
def JS (x y:Int):Int:=if x=0 then y else x
theorem TY (x y:Int) (b:Nat) (w:U) (i:w.cell? ⟨b,0,Z⟩=O (I S x)) (j:w.cell? ⟨b,1,Z⟩=O (I S y)) :
  V A 185 #[Qi (O ⟨b,0,Z⟩) 2 2] w fun e w'=>e=Qa (I S (JS x y))/\w'=w:=by
 go_enter func185,ntmps185
 go_wp2
 go_loopw [8] (fun k wr=> ∃n:Nat,n<=2/\k=I S n/\(1<=n->x=0)/\(2<=n->y=0)/\wr=w) (fun k _=>2-(intOf k).toNat)
 case atStart=>exact ⟨0,by omega,rfl,fun h=>absurd h (by omega),fun h=>absurd h (by omega),rfl⟩
 case round =>
  obtain⟨n,g,rfl,c,d,rfl⟩:=hrel;obtain rfl | rfl | rfl:n=0\/n=1\/n=2:=by omega
  ·clear c d;by_cases c:x=0
   ·subst c;go_wp2;go_roundw
    case rel=>exact ⟨1,by omega,by go_num,by simp,by simp,by first | rfl | trivial⟩
    case measure=>simp [intOf]
   ·have f:(x == 0)=Qc:=beq_eq_false_iff_ne.2 c;go_wp2;go_ret;exact⟨by rw[JS,if_neg c];rfl,rfl⟩
  ·obtain rfl:=c (by omega);by_cases d:y=0
   ·subst d;go_wp2;go_roundw
    case rel=>exact ⟨2,by omega,by go_num,by simp,by simp,by first | rfl | trivial⟩
    case measure=>simp [intOf]
   ·have f:(y == 0)=Qc:=beq_eq_false_iff_ne.2 d;go_wp2;go_ret;exact⟨rfl,rfl⟩
  ·obtain rfl:=c (by omega);obtain rfl:=d (by omega);go_wp2;go_ret;exact⟨rfl,rfl⟩
theorem TZ {p q:List UInt8} {g k:Bool} {n m:Int} (d:A7 p=O (g,n)) (f:A7 q=O (k,m)):JS (Qp (AE g) (AE k)) (Qe n m)=Qe (pk p) (pk q):=by
 obtain⟨b,i,j⟩:=JB d;obtain⟨c,l,o⟩:=JB f;rw[b,c];cases g<;>cases k
 ·rfl
 ·have:Qp (AE Qc) (AE Qf)= -1:=by decide
  rw[this];unfold Qe JS;rw[if_neg (by decide),if_pos (by simp;omega)]
 ·have:Qp (AE Qf) (AE Qc)=1:=by decide
  rw[this];unfold Qe JS;rw[if_neg (by decide),if_neg (by simp;omega),if_pos (by simp;omega)]
 ·have:Qp (AE Qf) (AE Qf)=0:=by decide
  rw[this];unfold Qe JS;simp only[if_true];congr 1
  ·exact propext ⟨fun h=>by omega,fun h=>by omega⟩
  ·congr 1;exact propext ⟨fun h=>by omega,fun h=>by omega⟩
theorem Ua (x y:Int):(0<=Qe x y)↔y<=x:=by
 unfold Qe;split
 ·constructor<;>intro h<;>omega
 ·split<;>constructor<;>intro h<;>omega
theorem jU (x y:Int):(Qe x y<0)↔x<y:=by
 have:=Ua x y;omega
theorem jV (p q:ByteArray) (w:U) (a:Nat->Qb) (h:CT w a) (B:p.size<=100000) (C:q.size<=100000) (v:A7 p.data.toList≠Z) (y:A7 q.data.toList≠Z) :
  V A 287 #[H p,H q] w fun e w'=>e=Qa (I S (Qe (pk p.data.toList) (pk q.data.toList)))/\BL w w':=by
 obtain⟨⟨g,n⟩,d⟩:=QN.1 v;obtain⟨⟨k,m⟩,b⟩:=QN.1 y;have j:=K4 p w a h B;have l:=fun W (hW:CT W a)=>K4 q W a hW C;rw[IX d]at j;rw[IX b]at l;rw[<-TZ d b];have i:=fun W=>strings_Compare (Ab (AE g)) (Ab (AE k)) W;rw[BQ,BQ]at i;have o:=fun W=>cmp_Compare_int n m W;generalize Qp (AE g) (AE k)=X at i ⊢;generalize Qe n m=Y at o ⊢
 go_enter func287,ntmps287
 go_wp2_with fail
 refine j.mono ?_;rintro e z ⟨rfl,f⟩;have b:=l z (h.below f)
 go_wp2_with fail
 refine b.mono ?_;rintro e D ⟨rfl,u⟩;have r:=Ad f u
 go_wp2_with fail
 refine(i _).mono ?_;rintro e E ⟨rfl,rfl⟩
 go_wp2_with fail
 refine(o _).mono ?_;rintro e c ⟨rfl,rfl⟩;have s:BL c (c.alloc (.cells #[I S X,I S Y] 3)):=Af _ _;have t:=TY X Y c.heap.size (c.alloc (.cells #[I S X,I S Y] 3)) (by simp) (by simp)
 go_wp2_with fail
 refine t.mono ?_;rintro e F ⟨rfl,rfl⟩;go_wp2;go_ret;exact⟨rfl,(Ad r s)⟩
theorem Ub {β:Type} (b:List β) (k:Nat) (d:β) (f:b.length=k+1) (g:k<b.length):b.getLastD d=b[k]:=by
 have c:b≠ []:=fun e=>by rw[e]at f;simp at f
 rw[QF,QG c,QH,QI];congr 1;omega
structure Gv (w:U) (a:Nat->Qb):Prop where
 list:D4 w a
 text:w.cell? ⟨4,0,Z⟩=O (Qd 410 (G (O (a 0))))
theorem Gv.below {w w':U} {a:Nat->Qb} (h:Gv w a) (b:BL w w'):Gv w' a:=⟨h.list.below b,Aa b h.text⟩
def Gy (fs:List Fl) (f:Fl):Nat:=if fs≠ []/\fk f<=fk (fs.getLastD B7) then 9 else 0
theorem Uc (v:J) (c:List Fl) (f:Fl) (w:U) (a:Nat->Qb) (h:D4 w a) (M:Ai w v c) (hl:c.length<=100000) (N:∀g∈c,g.1.size<=100000/\A7 g.1.data.toList≠Z) (hf:f.1.size<=100000) (P:A7 f.1.data.toList≠Z) :
  V A 223 #[v,A1 f] w fun e w'=>e=Qa (Ae a (Gy c f))/\BL w w':=by
 obtain⟨q,ae,rfl⟩:=M.form;have r:BL w (w.alloc (.cells #[H f.1,H f.2.1,I S f.2.2.1,I S f.2.2.2.1,I S f.2.2.2.2.1,I S f.2.2.2.2.2] 77)):=Af _ _;have aa:=Az.new w f;unfold A1;by_cases j:c= []
 ·have Q:Gy c f=0:=by unfold Gy;rw[if_neg];rintro⟨y,_⟩;exact y j
  rw[Q];subst j
  go_enter Q3,Q4
  go_wp2
  all_goals
   go_quiet (fail)
   go_wp2;go_ret;exact⟨rfl,AH r nq⟩
 ·obtain⟨b,o,rfl,Y⟩:=M.cells j;obtain⟨k,B⟩:∃k,c.length=k+1:=⟨c.length-1,by have:=Qo.2 j;omega⟩;have s:k<c.length:=by omega
  have p:=Ub c k B7 B s;obtain⟨gs,go⟩:=N c[k] (List.getElem_mem _);have R:=Aa r (Y k s).1;have i:Hid (∀W,BL w W->V A 287 #[H c[k].1,H f.1] W fun e w'=>e=Qa (I S (Qe (fk c[k]) (fk f)))/\BL W w'):=fun W hW=>jV c[k].1 f.1 W a (h.below hW).file.env gs hf go P;have T:Hid (Gy c f=if fk f<=fk c[k] then 9 else 0):=by
   show _=_;unfold Gy;rw[p];simp[j]
  have l:=Ua (fk c[k]) (fk f);rw[T.out,B];obtain⟨t,fq,fn,D,E,u⟩:=f;generalize fk (t,fq,fn,D,E,u)=F at i l ⊢;generalize fk c[k]=K at i l ⊢;generalize c[k].1=L at R i;generalize Qe K F=C at i l;have ab:(0:Int)<(k:Int)+1:=by omega
  have ac:(k:Int)<(k:Int)+1:=by omega
  have ad:IntKind.i64.wrap (k:Int)=(k:Int):=IntWalk.i64_in _ (by omega);by_cases m:F<=K
  ·have X:(0:Int)<=C:=l.2 m;rw[if_pos m]
   go_enter Q3,Q4
   go_upto_region 1 with fail
   go_region_held3 (fun w'=>w'.cell? ⟨b,o+k*6,Z⟩=O (H L)/\w'.cell? ⟨w.heap.size,0,Z⟩=O (H t)/\BL w w')
    (first
     | (go_split_ands;with_reducible exact⟨Aa d (by assumption),Aa d (by assumption),QO (by assumption) (d.mono (QP (by assumption)))⟩)
     | (go_split_ands;exact⟨by go_keep,by go_keep,by assumption⟩)
     | (go_split_ands;exact⟨by go_keep,by go_keep,QQ (by assumption)⟩))
    (first
     | (go_at_call 287;with_reducible refine(i.out _ (by go_split_ands;assumption)).mono ?_;rintro e z ⟨rfl,d⟩))
   go_split_ands;have n:BL w z:=by assumption
   have ho:=(h.below n).order;go_wp2;go_ret;exact⟨rfl,n⟩
  ·have X:¬(0:Int)<=C:=fun y=>m (l.1 y);rw[if_neg m]
   go_enter Q3,Q4
   go_upto_region 1 with fail
   go_region_held3 (fun w'=>w'.cell? ⟨b,o+k*6,Z⟩=O (H L)/\w'.cell? ⟨w.heap.size,0,Z⟩=O (H t)/\BL w w')
    (first
     | (go_split_ands;with_reducible exact⟨Aa d (by assumption),Aa d (by assumption),QO (by assumption) (d.mono (QP (by assumption)))⟩)
     | (go_split_ands;exact⟨by go_keep,by go_keep,by assumption⟩)
     | (go_split_ands;exact⟨by go_keep,by go_keep,QQ (by assumption)⟩))
    (first
     | (go_at_call 287;with_reducible refine(i.out _ (by go_split_ands;assumption)).mono ?_;rintro e z ⟨rfl,d⟩))
   go_split_ands;have n:BL w z:=by assumption
   go_wp2;go_ret;exact⟨rfl,n⟩
end Go.Proofs.YtcllhobffhkafaaGreatDoor
