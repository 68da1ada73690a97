/- By an AI agent. -/
import Derived.Test.YtcllhobffhkafaaGreatDoorStoreEnv
import Derived.Deep.RegionWith
import Derived.RangeFuncFrom
import Derived.RangeFuncWrites
import Derived.RangeFuncBox
set_option maxRecDepth 100000
set_option maxHeartbeats 16000000
open Go.Proofs.Tryz
open Bool renaming false->A,true->V,eq_false_or_eq_true->Qv
open Go renaming World->H,Calls->Qd,Addr->Qe,maxLen->Qj,heap_setCell_same->Qm,Ending->Qr,Oper->Qu,heap_alloc_new->Q8
open Go.Ending renaming returned->Qb
open Go.Instr renaming lookup->Q0,mapUpdate->Q5
open Go.IntKind renaming i64->J
open Go.KeepsOthers renaming setCell->QA,drew->QB
open Go.Obj renaming cells->Qf
open Go.Proofs.Tryz renaming prog->Qa,func220->Qp,ntmps220->Qq,func152->Qs,ntmps152->Qt,func37->Qw,ntmps37->Qx,func36->Qy,ntmps36->Qz,func44->Q1,ntmps44->Q2,func221->Q3,ntmps221->Q4,func137->Q6,ntmps137->Q7,underlying68->Q9
open Go.RowKit renaming Hid->G
open Go.RowKit.Below renaming refl->Ql
open Go.Value renaming string->Z,pointer->I,int->S,tuple->Qg,bool->Qi,iface->Qk,nilIface->Qn
open Nat renaming le_refl->Qo,lt_of_lt_of_le->QC
open Option renaming some->O,none->U
open Or renaming inl->Qc,inr->Qh
namespace Go.Proofs.YtcllhobffhkafaaGreatDoor
open Go.RowKit Go.Shelf Go.Sort
section
open Go.Extern Go.Extern.Stop Go.Lib Go.Stop
structure CL (w:H) (a:Nat->Qe):Prop where
 bound:w.cell? ⟨1,0,U⟩=O (Qk 410 (I (O (a 1))))
 name:w.cell? ⟨10,0,U⟩=O (Qk 410 (I (O (a 4))))
 miss:w.cell? ⟨3,0,U⟩=O (Qk 410 (I (O (a 5))))
 exist:w.cell? ⟨11,0,U⟩=O (Qk 410 (I (O (a 6))))
 full:w.cell? ⟨6,0,U⟩=O (Qk 410 (I (O (a 7))))
 stale:w.cell? ⟨2,0,U⟩=O (Qk 410 (I (O (a 10))))
 off:w.cell? ⟨5,0,U⟩=O (Qk 410 (I (O (a 11))))
theorem CL.of {w:H} {a:Nat->Qe} (h:GQ w a):CL w a where
 bound:=h.cell 1 (by decide)
 name:=h.cell 4 (by decide)
 miss:=h.cell 5 (by decide)
 exist:=h.cell 6 (by decide)
 full:=h.cell 7 (by decide)
 stale:=h.cell 10 (by decide)
 off:=h.cell 11 (by decide)
theorem CL.below {w w':H} {a:Nat->Qe} (h:CL w a) (b:BL w w'):CL w' a where
 bound:=Aa b h.bound
 name:=Aa b h.name
 miss:=Aa b h.miss
 exist:=Aa b h.exist
 full:=Aa b h.full
 stale:=Aa b h.stale
 off:=Aa b h.off
theorem oS (w:H):Qd Qa 9 #[] w fun e w'=>e=Qb (I (O ⟨w.heap.size,0,U⟩))/\Be w' w.heap.size U (fun _=>0) Ff/\BL w w':=by
 have b:BL w (w.alloc (Qf #[.map U,Z ⟨#[]⟩,S J 0,Qi A,Qi A,S J 0] 72)):=Af _ _;have c:G (Be (w.alloc (Qf #[.map U,Z ⟨#[]⟩,S J 0,Qi A,Qi A,S J 0] 72)) w.heap.size U (fun _=>0) Ff):=⟨Q8 _ _,Qc ⟨rfl,rfl⟩,fun _ h=>(nomatch h),List.Pairwise.nil,by decide⟩
 go_enter func9,ntmps9
 go_wp2;go_ret;exact⟨rfl,c.out,b⟩
section
variable {w : H} {b : Nat} {mo : Option Nat} {hd : ByteArray} {d : Int} {off waits : Bool} {left : Int}
theorem oT (h:SC w b mo hd d off waits left):Qd Qa 31 #[I (O ⟨b,0,U⟩)] w fun e w'=>e=Qb (Z hd)/\w'=w:=by
 obtain⟨_,c,_⟩:=h.cells
 go_enter func31,ntmps31
 go_wp2;go_ret;exact⟨rfl,rfl⟩
theorem UG (h:SC w b mo hd d off waits left):Qd Qa 77 #[I (O ⟨b,0,U⟩)] w fun e w'=>e=Qb (S J d)/\w'=w:=by
 obtain⟨_,_,c,_⟩:=h.cells
 go_enter func77,ntmps77
 go_wp2;go_ret;exact⟨rfl,rfl⟩
def Ga (w:H) (b:Nat) (x y:Bool) (z:Int):H:=((w.setCell ⟨b,3,U⟩ (Qi x)).setCell ⟨b,4,U⟩ (Qi y)).setCell ⟨b,5,U⟩ (S J z)
theorem SC.pow (h:SC w b mo hd d off waits left) (x y:Bool) (z:Int):SC (Ga w b x y z) b mo hd d x y z:=by
 have c:SC (w.setCell ⟨b,3,U⟩ (Qi x)) b mo hd d x waits left:=by
  unfold SC at *;rw[Qm _ _ _ _ _ _ h];rfl
 have f:SC ((w.setCell ⟨b,3,U⟩ (Qi x)).setCell ⟨b,4,U⟩ (Qi y)) b mo hd d x y left:=by
  unfold SC at *;rw[Qm _ _ _ _ _ _ c];rfl
 unfold Ga;unfold SC at *;rw[Qm _ _ _ _ _ _ f];rfl
theorem M8 (w:H) (b:Nat) (x y:Bool) (z:Int):Ac (fun k=>k=b) w (Ga w b x y z):=(((Ac.refl (fun k=>k=b) w).setCell (Qc rfl) _).setCell (Qc rfl) _).setCell (Qc rfl) _
theorem SC.day (h:SC w b mo hd d off waits left) (z:Int):SC (w.setCell ⟨b,2,U⟩ (S J z)) b mo hd z off waits left:=by
 unfold SC at *;rw[Qm _ _ _ _ _ _ h];rfl
theorem SC.head (h:SC w b mo hd d off waits left) (t:ByteArray):SC (w.setCell ⟨b,1,U⟩ (Z t)) b mo t d off waits left:=by
 unfold SC at *;rw[Qm _ _ _ _ _ _ h];rfl
theorem SC.objs (h:SC w b mo hd d off waits left) (c:Option Nat):SC (w.setCell ⟨b,0,U⟩ (.map c)) b c hd d off waits left:=by
 unfold SC at *;rw[Qm _ _ _ _ _ _ h];rfl
theorem UH (w:H) (b o:Nat) (v:Value):Ac (fun k=>k=b) w (w.setCell ⟨b,o,U⟩ v):=(Ac.refl (fun k=>k=b) w).setCell (Qc rfl) _
theorem oU (h:SC w b mo hd d off waits left):Qd Qa 30 #[I (O ⟨b,0,U⟩)] w fun e w'=>e=Qb (Qg #[])/\w'=Ga w b A A 0:=by
 obtain⟨f,g,i,j,k,l,m⟩:=h.cells;have c:G (∀w',w'=Ga w b A A 0->w'=Ga w b A A 0):=fun _ h=>h
 go_enter func30,ntmps30
 go_wp2;go_end0;exact⟨rfl,c.out _ rfl⟩
theorem oV (h:SC w b mo hd d off waits left) {a:Nat->Qe} (f:CL w a) (z:Int):Qd Qa 37 #[I (O ⟨b,0,U⟩),S J z] w fun e w' =>
  e=Qb (Ae a (if z<0 then 2 else if off=V then 12 else 0))/\w'=if z<0 then w else if off=V then w else Ga w b A V z:=by
 obtain⟨k,l,m,n,o,p,q⟩:=h.cells;have i:=f.bound;have j:=f.off;by_cases c:z<0
 ·rw[if_pos c,if_pos c];have g:decide (z<0)=V:=decide_eq_true c
  go_enter Qw,Qx
  go_wp2;go_ret;exact⟨rfl,rfl⟩
 ·rw[if_neg c,if_neg c]
  cases off with
  | true =>
   go_enter Qw,Qx
   go_wp2;go_ret;exact⟨rfl,rfl⟩
  | false =>
   go_enter Qw,Qx
   go_wp2;go_ret;exact⟨rfl,rfl⟩
def OI (a:Nat->Qe) (w:H) (b:Nat) (d z:Int) (e:Qr) (w':H):Prop :=
 (z<0\/100000-d<z)/\e=Qb (Qg #[S J 0,Ae a 2])/\BL w w'\/¬(z<0\/100000-d<z)/\e=Qb (Qg #[S J (d+z),Qn])/\w'=w.setCell ⟨b,2,U⟩ (S J (d+z))
theorem UI {a:Nat->Qe} {w w':H} {b:Nat} {d z:Int} (h:z<0\/100000-d<z) (c:BL w w'):OI a w b d z (Qb (Qg #[S J 0,Ae a 2])) w':=Qc ⟨h,rfl,c⟩
theorem oW {a:Nat->Qe} {w:H} {b:Nat} {d z:Int} (h:¬(z<0\/100000-d<z)):OI a w b d z (Qb (Qg #[S J (d+z),Qn])) (w.setCell ⟨b,2,U⟩ (S J (d+z))):=Qh ⟨h,rfl,rfl⟩
theorem oX (h:SC w b mo hd d off waits left) {a:Nat->Qe} (k:CL w a) (z:Int) (t: -9223372036854775808<=z/\z<=9223372036854775807) (u:0<=d) (v:d<=100000):Qd Qa 36 #[I (O ⟨b,0,U⟩),S J z] w (OI a w b d z):=by
 obtain⟨m,n,o,p,q,r,s⟩:=h.cells;have l:=k.bound;by_cases c:z<0
 ·have j:=decide_eq_true c;have f:G (z<0\/100000-d<z):=Qc c
  go_enter Qy,Qz
  go_wp2
  go_quiet (fail)
  go_wp2;go_ret2;exact UI f.out (AH (Ql _ _) nq)
 ·have j:=decide_eq_false c;by_cases g:100000-d<z
  ·have i:=decide_eq_true g;have f:G (z<0\/100000-d<z):=Qh g
   go_enter Qy,Qz
   go_wp2
   go_quiet (fail)
   go_wp2;go_ret2;exact UI f.out (AH (Ql _ _) nq)
  ·have i:=decide_eq_false g;have f:G (¬(z<0\/100000-d<z)):=fun h=>by omega
   go_enter Qy,Qz
   go_wp2;go_ret2;exact oW f.out
end
theorem GW.look {w:H} {b:Option Nat} {q:ByteArray->Nat} {l:List Ob} (h:GW w b q l) {n:ByteArray} (c:n.size<=Qj) :
  (Q0 68 (.map b) (Z n) A).run Qa w= .ok (Jh q l n) w:=by
 rcases h with⟨rfl,rfl⟩|⟨d,rfl,h⟩
 ·exact Maps.look_nil A Tryz.keyedS Q9 (Tryz.zeroObj w) (Mq c)
 ·exact h.look c
theorem GW.len {w:H} {c:Option Nat} {q:ByteArray->Nat} {l:List Ob} (h:GW w c q l) (b:TypeId) :
  (Builtin.len_ #[68] b #[.map c]).run Qa w= .ok (S J l.length) w:=by
 rcases h with⟨rfl,rfl⟩|⟨d,rfl,h⟩
 ·exact Maps.len_nil Q9 b
 ·exact h.len b
theorem M9 {q:ByteArray->Nat} {l:List Ob} {n:ByteArray} (h:(B1 l n).isSome=V):Jh q l n=JQ (q n):=by unfold Jh;rw[if_pos h]
theorem MA {q:ByteArray->Nat} {l:List Ob} {n:ByteArray} (h:B1 l n=U):Jh q l n=I U:=by unfold Jh;rw[h];rfl
theorem FU.get {W:H} {q:ByteArray->Nat} {l:List Ob} (h:FU W q l) {n:ByteArray} {o:Ob} (c:B1 l n=O o):W.cell? ⟨q n,0,U⟩=O (Z o.2.1)/\W.cell? ⟨q n,1,U⟩=O (S J o.2.2):=by
 obtain⟨b,rfl⟩:=FG c;exact h.cells b
section
variable {w : H} {b : Nat} {mo : Option Nat} {q : ByteArray → Nat} {s : St}
def KU (a:Nat->Qe) (w:H) (l:List Ob) (n:ByteArray) (e:Qr) (w':H):Prop:=e=Qb (Qg #[Z (AV l n).1,Ae a (AV l n).2])/\BL w w'
theorem oY (h:Be w b mo q s) {a:Nat->Qe} (g:CL w a) (n:ByteArray) (i:n.size<=Qj):Qd Qa 65 #[I (O ⟨b,0,U⟩),Z n] w (KU a w s.obs n):=by
 have j:=h.block.cells.1;have f:=h.map.look i;have k:=g.miss
 cases c:B1 s.obs n with
 | none =>
  have d:G (∀w',BL w w'->KU a w s.obs n (Qb (Qg #[Z ⟨#[]⟩,Ae a 6])) w'):=fun w' hb=>by unfold KU AV;rw[c];exact⟨rfl,hb⟩
  rw[MA c]at f
  go_enter func65,ntmps65
  go_wp2
  go_quiet (fail)
  go_wp2;go_ret2;exact d.out _ (AH (Ql _ _) nq)
 | some o =>
  have d:G (KU a w s.obs n (Qb (Qg #[Z o.2.1,Qn])) w):=by unfold KU AV;rw[c];exact⟨rfl,Ql _ _⟩
  rw[M9 (by rw[c];rfl)]at f;obtain⟨l,_⟩:=h.objs.get c
  go_enter func65,ntmps65
  go_wp2;go_ret2;exact d.out
theorem UJ (h:Be w b mo q s) (n:ByteArray) (f:n.size<=Qj):Qd Qa 94 #[I (O ⟨b,0,U⟩),Z n] w fun e w'=>e=Qb (S J (Ht s.obs n))/\w'=w:=by
 have g:=h.block.cells.1;have d:=h.map.look f;unfold Ht
 cases c:B1 s.obs n with
 | none =>
  rw[MA c]at d
  go_enter func94,ntmps94
  go_wp2;go_ret;exact⟨rfl,rfl⟩
 | some o =>
  rw[M9 (by rw[c];rfl)]at d;obtain⟨_,i⟩:=h.objs.get c;dsimp only
  go_enter func94,ntmps94
  go_wp2;go_ret;exact⟨rfl,rfl⟩
theorem Be.dropped {w':H} {c:Nat} (h:Be w b (O c) q s) {n:ByteArray} (j:BT w' c q (s.obs.filter fun o=>decide (o.1≠n))) (i:Ac (fun k=>k=c) w w'):Be w' b (O c) q { s with obs:=s.obs.filter fun o=>decide (o.1≠n) } :=by
 obtain⟨f,e,g⟩:∃f,O c=O f/\BT w f q s.obs:=by
  rcases h.map with⟨e,_⟩ | h
  ·cases e
  ·exact h
 cases e
 refine⟨(i.block b h.block.lt (fun e=>On h.block g e.symm)).trans h.block,Qh ⟨c,rfl,j⟩,fun o ho=>?_,TQ h.rise,h.cut⟩;have d:o∈s.obs:=(List.mem_filter.1 ho).1;exact(i.block _ (h.objs.lt d) (TS g h.objs d)).trans (h.objs o d)
theorem oZ (h:Be w b mo q s) {a:Nat->Qe} (t:CL w a) (n:ByteArray) (u:n.size<=Qj):Qd Qa 44 #[I (O ⟨b,0,U⟩),Z n] w fun e w'=>e=Qb (Ae a (Fg s n))/\Dh A0 w (I (O ⟨b,0,U⟩)) (C3 b mo q s.obs) (Ep s n) w':=by
 obtain⟨D,_,_,p,_⟩:=h.block.cells;have l:=h.map.look u;have B:=t.miss;have C:=t.off;have f:=Ix h (Ac.refl _ _) fun k c=>Qc c;unfold Ep;rcases Qv s.off with d | d
 ·have i:Fg s n=12:=by unfold Fg;rw[d];rfl
  rw[i,if_pos (by decide)];rw[d]at p;have j:G _:=f
  go_enter Q1,Q2
  go_wp2;go_ret;exact⟨rfl,j.out⟩
 ·rw[d]at p
  cases g:B1 s.obs n with
  | none =>
   have i:Fg s n=6:=by unfold Fg;rw[d,g];rfl
   rw[i,if_pos (by decide)];rw[MA g]at l;have j:G _:=f
   go_enter Q1,Q2
   go_wp2;go_ret;exact⟨rfl,j.out⟩
  | some o =>
   have i:Fg s n=0:=by unfold Fg;rw[d,g];rfl
   rw[i,if_neg (by decide)];rw[M9 (by rw[g];rfl)]at l;rcases h.map with⟨_,e⟩|⟨E,rfl,z⟩
   ·rw[e]at g;cases g
   ·obtain⟨w',v,r,y⟩:=z.drop h.rise u 0;have m:=Ac.of_turned y;have j:G _:=Ix (h.dropped r m) (m.mono fun k e=>Qh (Qc (by rw[e]))) fun k c=>Qc (by
     rcases c with c | c | ⟨o,d,c⟩
     ·exact Qc c
     ·exact Qh (Qc c)
     ·exact Qh (Qh ⟨o,(List.mem_filter.1 d).1,c⟩))
    go_enter Q1,Q2
    go_wp2;go_ret;exact⟨rfl,j.out⟩
def G4 (a:Nat->Qe) (w:H) (b:Nat) (mo:Option Nat) (s:St) (t:ByteArray) (e:Qr) (w':H):Prop :=
 e=Qb (Qg #[Z (t.extract 0 (Au s t.size).1),Ae a (if (Au s t.size).2.off=V then 12 else 0)])/\SC w' b mo s.head s.day (Au s t.size).2.off (D3 (Au s t.size).2) (EB (Au s t.size).2)/\Ac (fun k=>k=b) w w'
theorem OJ (t:ByteArray):t.extract 0 t.size=t:=by rw[TL,List.take_of_length_le (by rw[AA];exact Qo _),Dy]
theorem UK (h:SC w b mo s.head s.day s.off (D3 s) (EB s)) {a:Nat->Qe} (D:CL w a) (t:ByteArray) (E:t.size<=Qj) (d:s.off=A) (hcut:s.cut<=9223372036854775807):Qd Qa 221 #[I (O ⟨b,3,U⟩),Z t] w (G4 a w b mo s t):=by
 obtain⟨B,M,N,P,v,C,R⟩:=h.cells;have l:=D.off;unfold Qj at E;by_cases m:s.cut<0
 ·have f:Au s t.size=(t.size,s):=by unfold Au;rw[if_pos m]
  have c:D3 s=A:=by unfold D3;rw[d,decide_eq_false (by omega)];rfl
  have g:G (G4 a w b mo s t (Qb (Qg #[Z t,Qn])) w):=by
   unfold G4;rw[f];dsimp only;rw[d,OJ];rw[d]at h;exact⟨rfl,h,Ac.refl _ _⟩
  rw[c]at v
  go_enter Q3,Q4
  go_wp2;go_ret2;exact g.out
 ·have c:D3 s=V:=by unfold D3;rw[d,decide_eq_true (by omega)];rfl
  have o:EB s=s.cut:=by unfold EB;rw[c];rfl
  obtain⟨k,n⟩:∃k:Nat,s.cut=k:=⟨s.cut.toNat,by omega⟩;rw[o,n]at C;rw[c]at v;by_cases F:k<t.size
  ·have f:Au s t.size=(k, { s with off:=V }):=by unfold Au;rw[if_neg m,if_pos (by omega),n];rfl
   have g:G (∀w',Below w.heap.size (Ga w b V A 0) w'->G4 a w b mo s t (Qb (Qg #[Z (t.extract 0 k),Ae a 12])) w'):=fun w' hb=>by
    unfold G4;rw[f];dsimp only;have p:(Ga w b V A 0).heap.size=w.heap.size:=by simp[Ga,World.setCell]
    have q:=h.pow V A 0;refine⟨rfl,?_,(M8 w b V A 0).trans (Q:=fun _=>False) (Ac.of_below (by show Below _ _ _;rw[p];exact hb)) fun i hi=>hi.elim⟩;exact(hb.block b h.lt).trans q
   have L:decide ((k:Int)<(t.size:Int))=V:=decide_eq_true (by omega);have K:(k:Int)<=9223372036854775807:=by omega
   have y:(Ga w b V A 0).cell? ⟨5,0,U⟩=O (Qk 410 (I (O (a 11)))):=by
    have r:b≠5:=by
     rintro rfl;rw[B]at l;cases l
    exact(M8 w b V A 0).keep (fun e=>r e.symm) l
   have z:G (∀nq,Below w.heap.size (Ga w b V A 0) ((((w.setCell ⟨b,3,U⟩ (Qi V)).setCell ⟨b,4,U⟩ (Qi A)).setCell ⟨b,5,U⟩ (S J 0)).drewN nq)):=fun nq=>AH (Ql _ _) nq
   go_enter Q3,Q4
   go_wp2
   go_quiet (fail)
   go_wp2;go_ret2;exact g.out _ (z.out _)
  ·have f:Au s t.size=(t.size, { s with cut:=s.cut-t.size }):=by unfold Au;rw[if_neg m,if_neg (by omega)]
   have g:G (G4 a w b mo s t (Qb (Qg #[Z t,Qn])) (w.setCell ⟨b,5,U⟩ (S J ((k:Int)-(t.size:Int))))):=by
    unfold G4;rw[f];dsimp only;have j:D3 { s with cut:=s.cut-(t.size:Int) } =V:=by unfold D3;dsimp only;rw[d,decide_eq_true (by omega)];rfl
    have u:EB { s with cut:=s.cut-(t.size:Int) } =(k:Int)-t.size:=by unfold EB;rw[j];dsimp only;rw[if_pos rfl,n]
    rw[j,u,OJ,d];refine⟨rfl,?_,UH _ _ _ _⟩;rw[d,c]at h;unfold SC at *;rw[Qm _ _ _ _ _ _ h];rfl
   go_enter Q3,Q4
   go_wp2;go_ret2;exact g.out
end
end
section
open Go.Maps
attribute [local go_sem] Oper.semAt_some
theorem pA {l m:List Ob} (h:l.Perm m):Cq l=Cq m:=(h.map _).sum_nat
theorem UM {l:List Ob} (h:∀o∈l,o.2.1.size<=20000):Cq l<=20000*l.length:=by
 induction l with
 | nil=>simp [Cq]
 | cons o l ih =>
  have:=ih fun p hp=>h p (List.mem_cons_of_mem _ hp);have:=h o (by simp);simp only[Cq,List.map_cons,List.sum_cons,List.length_cons]at *;omega
theorem pB {l:List Ob} (ps:List (EE l)) (o:EE l):Cq ((ps++ [o]).map (·.1))=Cq (ps.map (·.1))+o.1.2.1.size:=by
 simp[Cq]
theorem pC {w:H} {b:Nat} {i:Option Nat} {q:ByteArray->Nat} {s:St} (h:Be w b i q s) (z:AR s) :
  Qd Qa 308 #[I (O ⟨b,0,U⟩)] w fun e w'=>e=Qb (S J (Cq s.obs))/\BL w w':=by
 have N:=h.block.cells.1;refine(callsIn_wide (n:=5)).1 ?_;refine callsIn_of_wp_marks func308 rfl trivial ?_ rfl;simp only[ntmps308,List.size_toArray,List.length_cons,List.length_nil,Nat.reduceAdd,Nat.reduceSub,Array.replicate_succ,Array.replicate_zero,List.push_toArray,List.append_toArray,List.nil_append,List.cons_append];have ab:(w.alloc (Qf #[S J 0] 3)).cell? ⟨b,0,U⟩=O (.map i):=Aa ((Ql w.heap.size w).alloc (Qo _) _) N
 gi_wp2_with (refine⟨trivial,?_⟩;gi_at_call 351;refine(oC _ _ _).mono ?_;rintro e w' ⟨rfl,rfl⟩)
 have r:BL w ((w.alloc (Qf #[S J 0] 3)).alloc (Qf #[.map i] 68)):=((Ql w.heap.size w).alloc (Qo _) _).alloc (by simp) _;have P:=h.below r;have t:=Boxed.new (w.alloc (Qf #[S J 0] 3)) 68 (.map i);have B:=(Boxed.new w 3 (S J 0)).alloc (Qf #[.map i] 68);simp only[World.size_alloc]at t;refine wpIn_rangeFunc_ownG (F:=Fence.wide) rfl (by decide) (gf:=378) (lb:=#[I (O ⟨w.heap.size+1,0,U⟩)]) rfl trivial (enters_of func378 (by kernel_rfl) rfl)
  (oB _ (by decide) (w.heap.size+1) i q s.obs h.rise _ t.cell P.map) walksK_t walksK_b (Ql _ _) (fun _=>rfl)
  (fun f W=>Boxed W w.heap.size 3 (S J (Cq (f.map (·.1))))/\BL w W)
  (fun _ _ _=>False)
  (OwnFrom.and (Own.from (boxed_own w.heap.size 3 (fun f:List (EE s.obs)=>S J (Cq (f.map (·.1))))) _) (ownFrom_below (Qo _) (by simp;omega)))
  (fun _ _ _ _ _ hs _ _=>hs.elim) ?start ?a1 ?assign ?body ?done ?stop
 case assign =>
  intro l x W K k
  gi_wp2
  exact k
 case start=>exact ⟨B,r⟩
 case stop =>
  rintro y c f W _ _ C _;exact C.elim
 case body =>
  rintro l f x W ⟨g,m⟩ aa;have u:=g.cell;have C:=g.frozen;have Q:=Aa m (h.objs.cells x.2).1;have v:Cq (f.map (·.1))<=20000*f.length:=by
   have:=UM (l:=f.map (·.1)) fun o ho=>by
    obtain⟨p,_,rfl⟩:=List.mem_map.1 ho;exact z.texts _ p.2
   simpa using this
  have M:=z.many;have R:=z.texts _ x.2;have j:G (((Cq ((f++ [x]).map (·.1)):Nat):Int)=(Cq (f.map (·.1)):Int)+(x.1.2.1.size:Int)):=by rw[pB];rfl
  obtain⟨d,Y⟩:∃d,Cq (f.map (·.1))=d:=⟨_,rfl⟩;rw[Y]at u g v j;have T:G (Boxed W w.heap.size 3 (S J d)):=g;have X:G (BL w W):=m;generalize x.1.2.1=L at Q R j;have D:IntKind.i64.wrap ((d:Int)+(L.size:Int))=(d:Int)+(L.size:Int):=IntWalk.i64_in _ (by omega)
  gi_wp2
  gi_region
  all_goals gi_wp2
  all_goals (try rw[D])
  all_goals exact⟨((QA _ _ _).trans (QB _)).from _,((QA _ _ _).trans (QB _)).walks,by rw[j.out];exact T.out.set _,((X.out.setCell (p:=⟨w.heap.size,0,U⟩) (Qo _) _).drew)⟩
 case done =>
  rintro y xs W hD hS ⟨g,m⟩ k;have u:=g.cell;rw[pA hS]at u;have E:BL w (W.putObj y (.deferred U)):=m.trans (belowK_b (w:=w) (Qo _) W y _ _ (by simp at hD;omega) k rfl rfl)
  gi_wp2
  refine⟨by simp,.inl ⟨_,_,rfl,run_takeDeferred k,?_⟩⟩;exact⟨_,results_tmp rfl _ _ _,rfl,E⟩
end
section
open Go.Extern Go.Extern.Stop Go.Lib Go.Stop
section
variable {w : H} {b : Nat} {mo : Option Nat} {q : ByteArray → Nat} {s : St}
theorem pD (h:Be w b mo q s) (P:AR s) {a:Nat->Qe} (X:CL w a) (n t:ByteArray) (hn:n.size<=1000) (ht:t.size<=100000) :
  Qd Qa 220 #[I (O ⟨b,0,U⟩),Z n,Z t] w fun e w'=>e=Qb (Ae a (CP s n t))/\BL w w':=by
 have r:n.size<=Qj:=by unfold Qj;omega
 have i:=oR n w r;have j:G _:=h;have Q:G _:=P;have p:G _:=X;have K:=UM P.texts;unfold CP
 cases M:CF n.data.toList with
 | false =>
  rw[M]at i
  go_enter Qp,Qq
  go_wp2_with (go_at_call 307;refine i.mono ?_;rintro e f ⟨rfl,d⟩;have u:=(p.out.below d).name)
  go_ret;exact⟨rfl,d⟩
 | true =>
  rw[M]at i;rw[if_neg (by decide)];by_cases L:20000<t.size
  ·rw[if_pos L];have Y:=decide_eq_true (by omega)
   go_enter Qp,Qq
   go_wp2_with (go_at_call 307;refine i.mono ?_;rintro e f ⟨rfl,d⟩;have u:=(p.out.below d).bound)
   go_ret;exact⟨rfl,d⟩
  ·rw[if_neg L];rcases Qv s.off with g | g
   ·rw[if_pos g]
    go_enter Qp,Qq
    go_wp2_with (go_at_call 307;refine i.mono ?_;rintro e f ⟨rfl,d⟩;have u:=(p.out.below d).off;have k:=(j.out.below d).block.cells.2.2.2.1;rw[g]at k)
    go_ret;exact⟨rfl,d⟩
   ·rw[if_neg (by rw[g];decide)]
    cases N:B1 s.obs n with
    | some o =>
     have l:∀f,BL w f->(Q0 68 (.map mo) (Z n) A).run Qa f= .ok (JQ (q n)) f:=fun f d=>by
      have:=(j.out.below d).map.look r;rw[M9 (by rw[N];rfl)]at this;exact this
     have v:G _:=l;rw[if_pos (by rfl)]
     go_enter Qp,Qq
     go_wp2_with (go_at_call 307;refine i.mono ?_;rintro e f ⟨rfl,d⟩;have u:=(p.out.below d).exist;obtain⟨E,_,_,k,_⟩:=(j.out.below d).block.cells;rw[g]at k;have l:=v.out f d)
     go_ret;exact⟨rfl,d⟩
    | none =>
     have l:∀f,BL w f->(Q0 68 (.map mo) (Z n) A).run Qa f= .ok (I U) f:=fun f d=>by
      have:=(j.out.below d).map.look r;rw[MA N]at this;exact this
     have v:G _:=l;rw[if_neg (by decide)];by_cases R:200<=s.obs.length
     ·rw[if_pos (Qc R)];have T:decide ((200:Int)<=(s.obs.length:Int))=V:=decide_eq_true (by omega);have z:G (∀f,BL w f->∀ty,(Builtin.len_ #[68] ty #[.map mo]).run Qa f= .ok (S J s.obs.length) f):=fun f d ty=>(j.out.below d).map.len ty
      go_enter Qp,Qq
      go_wp2_with (go_at_call 307;refine i.mono ?_;rintro e f ⟨rfl,d⟩;have u:=(p.out.below d).full;obtain⟨E,_,_,k,_⟩:=(j.out.below d).block.cells;rw[g]at k;have l:=v.out f d;have B:=z.out f d)
      go_ret;exact⟨rfl,d⟩
     ·have T:decide ((200:Int)<=(s.obs.length:Int))=A:=decide_eq_false (by omega);have z:G (∀f,BL w f->∀ty,(Builtin.len_ #[68] ty #[.map mo]).run Qa f= .ok (S J s.obs.length) f):=fun f d ty=>(j.out.below d).map.len ty;have C:G (∀f,BL w f->Qd Qa 308 #[I (O ⟨b,0,U⟩)] f fun e w'=>e=Qb (S J (Cq s.obs))/\BL f w'):=fun f d=>pC (j.out.below d) Q.out;generalize Cq s.obs=c at C K ⊢;by_cases W:262144<c+t.size
      ·rw[if_pos (Qh W)];have d3:decide ((262144:Int)<(c:Int)+(t.size:Int))=V:=decide_eq_true (by omega)
       go_enter Qp,Qq
       go_wp2_with (first | (go_at_call 307;refine i.mono ?_;rintro e f ⟨rfl,d⟩;obtain⟨E,_,_,k,_⟩:=(j.out.below d).block.cells;rw[g]at k;have l:=v.out f d;have B:=z.out f d;have D:=C.out f d) | (go_at_call 308;refine D.mono ?_;rintro e F ⟨rfl,y⟩;have m:BL w F:=(Ad d y);have u:=(p.out.below m).full))
       go_ret;exact⟨rfl,m⟩
      ·rw[if_neg (by omega)]
       go_enter Qp,Qq
       go_wp2_with (first | (go_at_call 307;refine i.mono ?_;rintro e f ⟨rfl,d⟩;obtain⟨E,_,_,k,_⟩:=(j.out.below d).block.cells;rw[g]at k;have l:=v.out f d;have B:=z.out f d;have D:=C.out f d) | (go_at_call 308;refine D.mono ?_;rintro e F ⟨rfl,y⟩;have m:BL w F:=Ad d y))
       go_ret;exact⟨rfl,m⟩
end
theorem OK {s:St} {n:Nat} (h:s.cut<=9223372036854775807):(Au s n).2.cut<=9223372036854775807:=by
 unfold Au;split
 ·exact h
 ·split
  ·exact h
  ·dsimp only;omega
section
variable {w : H} {b : Nat} {mo : Option Nat} {q : ByteArray → Nat} {s : St}
theorem pE (h:Be w b mo q s) {a:Nat->Qe} (y:CL w a) (c t:ByteArray) (ht:t.size<=100000) :
  Qd Qa 152 #[I (O ⟨b,0,U⟩),Z c,Z t] w fun e w'=>e=Qb (Ae a (C7 s c t))/\Dh A0 w (I (O ⟨b,0,U⟩)) (C3 b mo q s.obs) (B5 s c t) w':=by
 obtain⟨_,c1,_,L,_⟩:=h.block.cells;have e1:=y.bound;have e2:=y.off;have e3:=y.stale;have z:G (Dh A0 w (I (O ⟨b,0,U⟩)) (C3 b mo q s.obs) s w):=Ix h (Ac.refl _ _) fun k hk=>Qc hk;by_cases u:20000<t.size
 ·have i:Ea s c t=2:=by unfold Ea;rw[if_pos u]
  have o:C7 s c t=2:=by unfold C7;rw[i];rfl
  have j:B5 s c t=s:=by unfold B5;rw[i];rfl
  rw[o,j];have P:decide ((20000:Int)<(t.size:Int))=V:=decide_eq_true (by omega)
  go_enter Qs,Qt
  go_wp2;go_ret;exact⟨rfl,z.out⟩
 ·have P:=decide_eq_false (by omega);rcases Qv s.off with f | f
  ·have i:Ea s c t=12:=by unfold Ea;rw[if_neg u,if_pos f]
   have o:C7 s c t=12:=by unfold C7;rw[i];rfl
   have j:B5 s c t=s:=by unfold B5;rw[i];rfl
   rw[o,j];rw[f]at L
   go_enter Qs,Qt
   go_wp2;go_ret;exact⟨rfl,z.out⟩
  ·rw[f]at L;by_cases v:s.head=c
   ·have i:Ea s c t=0:=by unfold Ea;rw[if_neg u,if_neg (by rw[f];decide),if_neg (by simp[v])]
    have Q:=jI v;have B:=UK h.block y t (by unfold Qj;omega) f h.cut;have l:=Sk (s:=s) (n:=t.size) f;have X:=cZ s t.size;obtain⟨M,T,N⟩:=Im s t.size;have C:G (∀w',G4 a w b mo s t (Qb (Qg #[Z (t.extract 0 (Au s t.size).1),Ae a (if (Au s t.size).2.off=V then 12 else 0)])) w'->(Au s t.size).2.off=V->Dh A0 w (I (O ⟨b,0,U⟩)) (C3 b mo q s.obs) (B5 s c t) w'):=fun w' g d=>by
     have j:B5 s c t=(Au s t.size).2:=by
      unfold B5;rw[i,if_neg (by decide),if_pos (by
       have D:¬(Au s t.size).1=t.size:=fun e=>by have:=l.2 e;rw[d]at this;cases this
       omega)]
     rw[j];exact KE h g.2.2 (by rw[T,N];exact g.2.1) M (OK h.cut)
    have E:G (∀w',G4 a w b mo s t (Qb (Qg #[Z (t.extract 0 (Au s t.size).1),Ae a (if (Au s t.size).2.off=V then 12 else 0)])) w'->(Au s t.size).2.off=A->Dh A0 w (I (O ⟨b,0,U⟩)) (C3 b mo q s.obs) (B5 s c t) (w'.setCell ⟨b,1,U⟩ (Z t))):=fun w' g d=>by
     have j:B5 s c t= { (Au s t.size).2 with head:=t } :=by
      unfold B5;rw[i,if_neg (by decide),if_neg (by have:=l.1 d;omega)]
     rw[j];exact KE h (g.2.2.setCell (Qc rfl) _) (by dsimp only;rw[N];exact g.2.1.head t) M (OK h.cut)
    have F:G ((Au s t.size).2.off=V->C7 s c t=12):=fun d=>by
     unfold C7;rw[i,if_neg (by decide),if_pos (by
      have D:¬(Au s t.size).1=t.size:=fun e=>by have:=l.2 e;rw[d]at this;cases this
      omega)]
    have K:G ((Au s t.size).2.off=A->C7 s c t=0):=fun d=>by
     unfold C7;rw[i,if_neg (by decide),if_neg (by have:=l.1 d;omega)]
    have R:(Au s t.size).2.off=A->t.extract 0 (Au s t.size).1=t:=fun d=>by rw[l.1 d,OJ]
    rcases Qv (Au s t.size).2.off with d | d
    ·rw[F.out d];have p:Qd Qa 221 #[I (O ⟨b,3,U⟩),Z t] w fun e w'=>e=Qb (Qg #[Z (t.extract 0 (Au s t.size).1),Qk 410 (I (O (a 11)))])/\Dh A0 w (I (O ⟨b,0,U⟩)) (C3 b mo q s.obs) (B5 s c t) w':=B.mono fun e w' g=>by
      have r:=g;obtain⟨rfl,m⟩:=r;refine⟨by rw[d];rfl,C.out _ g d⟩
     go_enter Qs,Qt
     go_wp2_with (go_at_call 221;refine p.mono ?_;rintro e W ⟨rfl,g⟩)
     go_ret;exact⟨rfl,g⟩
    ·rw[K.out d];have p:Qd Qa 221 #[I (O ⟨b,3,U⟩),Z t] w fun e w'=>e=Qb (Qg #[Z t,Qn])/\(∃x,w'.cell? ⟨b,1,U⟩=O x)/\w'.cell? ⟨b,1,U⟩=O (Z s.head)/\w'.frozen? ⟨b,1,U⟩=A/\Dh A0 w (I (O ⟨b,0,U⟩)) (C3 b mo q s.obs) (B5 s c t) (w'.setCell ⟨b,1,U⟩ (Z t)):=B.mono fun e w' g=>by
      have r:=g;obtain⟨rfl,m,Y⟩:=r;refine⟨by rw[d,R d];rfl,⟨_,m.cells.2.1⟩,m.cells.2.1,m.cells.2.2.2.2.2.2 1,E.out _ g d⟩
     go_enter Qs,Qt
     go_wp2_with (go_at_call 221;refine p.mono ?_;rintro e W ⟨rfl,-,k1,f1,g⟩)
     go_ret;exact⟨rfl,g⟩
   ·have i:Ea s c t=11:=by unfold Ea;rw[if_neg u,if_neg (by rw[f];decide),if_pos v]
    have o:C7 s c t=11:=by unfold C7;rw[i];rfl
    have j:B5 s c t=s:=by unfold B5;rw[i];rfl
    rw[o,j];have Q:=jJ v
    go_enter Qs,Qt
    go_wp2;go_ret;exact⟨rfl,z.out⟩
theorem Be.added {w':H} {g k:Nat} {n t:ByteArray} {d:Int} {c:St} (h:Be w b mo q s) (i:∀p∈s.obs,p.1≠n) (j:SC w' b (O g) c.head c.day c.off (D3 c) (EB c)) (l:c.cut<=9223372036854775807)
  (m:BT w' g (GV q n k) (Cr s.obs (n,t,d))) (r:w'.heap[k]? =O (Qf #[Z t,S J d] 190 (0,0))) (u:∀o∈s.obs,w'.heap[q o.1]? =w.heap[q o.1]?):Be w' b (O g) (GV q n k) { c with obs:=Cr s.obs (n,t,d) } :=by
 refine⟨j,Qh ⟨g,rfl,m⟩,fun o hm'=>?_,Kv (o:=(n,t,d)) h.rise i,l⟩;rcases GN.1 hm' with rfl | f
 ·rw[Ok];exact r
 ·rw[Ol _ _ (i o f)];exact(u o f).trans (h.objs o f)
end
section
variable {w : H} {b : Nat} {mo : Option Nat} {q : ByteArray → Nat} {s : St}
theorem pF {a:Nat->Qe} {n t:ByteArray} (h:Be w b mo q s) (hg:B1 s.obs n=U) (hl:s.obs.length<200) (hn:n.size<=Qj) (hE:CP s n t=0) {E c:H} {g:Nat} {e:Qr} (r:Be E b (O g) q s) (M:Ac (fun k=>k=b) w E) (d:mo=O g\/w.heap.size<=g) (hp:G4 a E b (O g) s t e c) :
  ∃w4,(Q5 68 (.map (O g)) (Z n) (I (O ⟨c.heap.size,0,U⟩))).run Qa (c.alloc (Qf #[Z (t.extract 0 (Au s t.size).1),S J s.day] 190)).drew= .ok () w4 /\
   c.cell? ⟨b,0,U⟩=O (.map (O g))/\c.cell? ⟨b,2,U⟩=O (S J s.day)/\(c.alloc (Qf #[Z (t.extract 0 (Au s t.size).1),S J s.day] 190)).drew.cell? ⟨b,0,U⟩=O (.map (O g))/\(c.alloc (Qf #[Z (t.extract 0 (Au s t.size).1),S J s.day] 190)).drew.cell? ⟨b,2,U⟩=O (S J s.day)/\∀w5,BL w4 w5->Dh A0 w (I (O ⟨b,0,U⟩)) (C3 b mo q s.obs) (B0 s n t) w5:=by
 obtain⟨_,l,p⟩:=hp;obtain⟨g1,g2,g3⟩:=Im s t.size;have m:=Io.1 hg;obtain⟨C,e',u⟩:∃C,O g=O C/\BT E C q s.obs:=by
  rcases r.map with⟨e,_⟩ | h
  ·cases e
  ·exact h
 cases e'
 have v:=On r.block u;have y:=u.keep (p.block g u.lt v);have j:BL c (c.alloc (Qf #[Z (t.extract 0 (Au s t.size).1),S J s.day] 190)).drew:=(Af _ _).drew;have N:=y.keep (j.block g y.lt);obtain⟨w4,T,X,F⟩:=N.store h.rise (by unfold Qj;omega) hn m (t.extract 0 (Au s t.size).1) s.day c.heap.size;have z:=Ac.of_turned F;refine⟨w4,T,l.cells.1,l.cells.2.2.1,Aa j l.cells.1,Aa j l.cells.2.2.1,fun w5 hb5=>?_⟩;have P:=l.lt;have Y:=y.lt;have B:=fun k (f:k<c.heap.size) (m:k≠g)=>(z.block k (QC f j.size) m).trans (j.block k f);have W:Be w4 b (O g) (GV q n c.heap.size) { (Au s t.size).2 with obs:=Cr s.obs (n,t.extract 0 (Au s t.size).1,s.day) } :=by
  refine r.added m ?_ (OK h.cut) X ?_ fun o D=>?_
  ·rw[g2,g3];exact(B b P (fun e=>v e.symm)).trans l
  ·exact(z.block c.heap.size (by simp[World.drew]) (fun e=>by omega)).trans (Q8 c _)
  ·have K:=r.objs.lt D;have h3:=p.block _ K (TR r.block r.objs D);exact(B _ (QC K p.size) (TS u r.objs D)).trans h3
 have hS:B0 s n t= { (Au s t.size).2 with obs:=Cr s.obs (n,t.extract 0 (Au s t.size).1,s.day) } :=by
  unfold B0;rw[hE,if_neg (by decide),TL]
 rw[hS];have aa:=Nat.le_trans M.size p.size;have R:Ac (C3 b mo q s.obs) w w4:=by
  have c1:Ac (C3 b mo q s.obs) w E:=M.mono fun k e=>Qc e;have c2:=c1.trans p fun i e _=>Qc e;have c3:=c2.trans (Q:=fun _=>False) (Ac.of_below j) fun _ e=>e.elim;refine c3.trans z fun i e hi=>?_;rcases d with d | d
  ·exact Qh (Qc (by rw[d,e]))
  ·omega
 refine Ix (W.below hb5) (R.trans (Q:=fun _=>False) (Ac.of_below hb5) fun _ e=>e.elim) fun k f=>?_;rcases f with f | f | ⟨o,D,f⟩
 ·exact Qc (Qc f)
 ·rcases d with d | d
  ·exact Qc (Qh (Qc (by rw[d];exact f)))
  ·cases f
   exact Qh d
 ·rcases GN.1 D with rfl | L
  ·rw[Ok]at f;exact Qh (by omega)
  ·rw[Ol _ _ (m o L)]at f;exact Qc (Qh (Qh ⟨o,L,f⟩))
theorem pG {n t:ByteArray} (h:CP s n t=0):s.off=A/\B1 s.obs n=U/\s.obs.length<200:=by
 unfold CP at h;split at h
 ·cases h
 ·split at h
  ·cases h
  ·split at h
   ·cases h
   ·rename_i b;split at h
    ·cases h
    ·rename_i c;split at h
     ·cases h
     ·rename_i d;refine⟨by simpa using b,by simpa using c,?_⟩;omega
theorem CL.but {w w':H} {a:Nat->Qe} {c:Option Nat} (h:CL w a) (d:Ac (fun k=>k=b) w w') (f:w.cell? ⟨b,0,U⟩=O (.map c)):CL w' a:=by
 have g:∀ {g:Nat} {t:TypeId} {x:Value},w.cell? ⟨g,0,U⟩=O (Qk t x)->w'.cell? ⟨g,0,U⟩=O (Qk t x):=fun {g t x} h=>d.keep (fun e=>by subst e;rw[f]at h;cases h) h;exact {
  bound:=g h.bound
  name:=g h.name
  miss:=g h.miss
  exist:=g h.exist
  full:=g h.full
  stale:=g h.stale
  off:=g h.off }
theorem Be.made {w:H} (h:Be w b U q s):Be ((w.alloc (.map #[] 0)).setCell ⟨b,0,U⟩ (.map (O w.heap.size))) b (O w.heap.size) q s/\Ac (fun k=>k=b) w ((w.alloc (.map #[] 0)).setCell ⟨b,0,U⟩ (.map (O w.heap.size))):=by
 have g:=h.block.lt;have c:Ac (fun k=>k=b) w (w.alloc (.map #[] 0)):=Ac.of_below (Af _ _);have d:SC (w.alloc (.map #[] 0)) b U s.head s.day s.off (D3 s) (EB s):=(Below.heap_alloc _ _ b g).trans h.block;have f:s.obs= []:=by
  rcases h.map with⟨_,e⟩|⟨i,e,_⟩
  ·exact e
  ·cases e
 refine⟨⟨d.objs _,Qh ⟨_,rfl,?_⟩,by rw[f];exact fun _ h=>(nomatch h),h.rise,h.cut⟩,c.setCell (Qc rfl) _⟩;rw[f];refine(BT.made w q).keep ?_;exact Below.heap_setCell _ ⟨b,0,U⟩ _ _ (by show w.heap.size≠b;omega)
theorem pH (w:H):(binOp .eql 68 (.map U) (.map U)).run Qa w= .ok (Qi V) w:=by
 kernel_rfl
theorem pI (w:H) (k:Nat):(binOp .eql 68 (.map (O k)) (.map U)).run Qa w= .ok (Qi A) w:=by
 kernel_rfl
theorem pJ (h:Be w b mo q s) (L:AR s) {a:Nat->Qe} (X:CL w a) (n t:ByteArray) (hn:n.size<=1000) (ht:t.size<=100000) :
  Qd Qa 137 #[I (O ⟨b,0,U⟩),Z n,Z t] w fun e w'=>e=Qb (Ae a (BG s n t))/\Dh A0 w (I (O ⟨b,0,U⟩)) (C3 b mo q s.obs) (B0 s n t) w':=by
 have p:=pD h L X n t hn ht;by_cases r:CP s n t=0
 ·obtain⟨F,hg,hl⟩:=pG r;have C:BG s n t=if (Au s t.size).2.off=V then 12 else 0:=by unfold BG;rw[r];rfl
  rw[C];rw[r]at p;have M:G _:=X;have N:G _:=h;have D:G (∀(w2 c:H) (mb:Nat) (e:Qr),Be w2 b (O mb) q s->Ac (fun k=>k=b) w w2->(mo=O mb\/w.heap.size<=mb)->G4 a w2 b (O mb) s t e c->∃m,(Q5 68 (.map (O mb)) (Z n) (I (O ⟨c.heap.size,0,U⟩))).run Qa (c.alloc (Qf #[Z (t.extract 0 (Au s t.size).1),S J s.day] 190)).drew= .ok () m /\
   c.cell? ⟨b,0,U⟩=O (.map (O mb))/\c.cell? ⟨b,2,U⟩=O (S J s.day)/\(c.alloc (Qf #[Z (t.extract 0 (Au s t.size).1),S J s.day] 190)).drew.cell? ⟨b,0,U⟩=O (.map (O mb))/\(c.alloc (Qf #[Z (t.extract 0 (Au s t.size).1),S J s.day] 190)).drew.cell? ⟨b,2,U⟩=O (S J s.day)/\∀w5,BL m w5->Dh A0 w (I (O ⟨b,0,U⟩)) (C3 b mo q s.obs) (B0 s n t) w5):=fun w2 c mb e g d hmb u=>pF h hg hl (by unfold Qj;omega) r g d hmb u
  have P:G _:=fun w2 mb (g:Be w2 b (O mb) q s) (he2:CL w2 a)=>UK g.block he2 t (by unfold Qj;omega) F g.cut;have E:G (∀(w2:H) (mb:Nat),Be w2 b (O mb) q s->CL w2 a->Ac (fun k=>k=b) w w2->(mo=O mb\/w.heap.size<=mb)->Qd Qa 221 #[I (O ⟨b,3,U⟩),Z t] w2 fun e c=>e=Qb (Qg #[Z (t.extract 0 (Au s t.size).1),Ae a (if (Au s t.size).2.off=V then 12 else 0)])/\∃m,(Q5 68 (.map (O mb)) (Z n) (I (O ⟨c.heap.size,0,U⟩))).run Qa (c.alloc (Qf #[Z (t.extract 0 (Au s t.size).1),S J s.day] 190)).drew= .ok () m /\
   c.cell? ⟨b,0,U⟩=O (.map (O mb))/\c.cell? ⟨b,2,U⟩=O (S J s.day)/\(c.alloc (Qf #[Z (t.extract 0 (Au s t.size).1),S J s.day] 190)).drew.cell? ⟨b,0,U⟩=O (.map (O mb))/\(c.alloc (Qf #[Z (t.extract 0 (Au s t.size).1),S J s.day] 190)).drew.cell? ⟨b,2,U⟩=O (S J s.day)/\∀w5,BL m w5->Dh A0 w (I (O ⟨b,0,U⟩)) (C3 b mo q s.obs) (B0 s n t) w5):=fun w2 mb g he2 d hmb=>(P.out w2 mb g he2).mono fun e c u=>⟨u.1,D.out w2 c mb e g d hmb u⟩
  generalize Ae a (if (Au s t.size).2.off=V then 12 else 0)=ev at E ⊢;have aa:=@run_makeMap Qa;have ab:=pH;have ac:=pI;have i:Qd Qa 220 #[I (O ⟨b,0,U⟩),Z n,Z t] w fun e w'=>e= .returned Qn/\BL w w':=p
  cases mo with
  | none =>
   go_enter Q6,Q7
   go_wp2_with (first | (go_at_call 220;refine i.mono ?_;rintro e R ⟨rfl,f⟩;have j:=N.out.below f;obtain⟨Q,_,_,_,_,_,z⟩:=j.block.cells;have Y:=z 0;have v:=M.out.below f;obtain⟨g,d⟩:=j.made;have y:=E.out _ _ g (v.but d Q) ((Ac.of_below f).trans d fun _ e _=>e) (Qh f.size);have l:=(j.below ((Ql _ _).alloc (Qo _) (.map #[] 0))).block.cells;have ad:=l.1;have ae:=l.2.2.2.2.2.2 0;clear l j z v g d) | (go_at_call 221;refine y.mono ?_;rintro e c ⟨rfl,m,K,k0,k2,T,W,o⟩))
   go_region
   all_goals go_wp2
   all_goals go_ret
   all_goals exact⟨rfl,o _ (Ql _ _)⟩
  | some mb =>
   go_enter Q6,Q7
   go_wp2_with (first | (go_at_call 220;refine i.mono ?_;rintro e R ⟨rfl,f⟩;have j:=N.out.below f;obtain⟨Q,_,_,_,_,_,z⟩:=j.block.cells;have Y:=z 0;have v:=M.out.below f;have y:=E.out _ _ j v (Ac.of_below f) (Qc rfl);clear j z v) | (go_at_call 221;refine y.mono ?_;rintro e c ⟨rfl,m,K,k0,k2,T,W,o⟩))
   go_region
   all_goals go_wp2
   all_goals go_ret
   all_goals exact⟨rfl,o _ (Ql _ _)⟩
 ·obtain⟨k,B⟩:∃k,CP s n t=k+1:=⟨CP s n t-1,by omega⟩;have C:BG s n t=k+1:=by unfold BG;rw[if_pos r,B]
  have hT:B0 s n t=s:=by unfold B0;rw[if_pos r]
  rw[C,hT];rw[B]at p;have i:Qd Qa 220 #[I (O ⟨b,0,U⟩),Z n,Z t] w fun e w'=>e=Qb (Qk 410 (I (O (a k))))/\Dh A0 w (I (O ⟨b,0,U⟩)) (C3 b mo q s.obs) s w':=p.mono fun e w' ⟨he',f⟩=>⟨he',Ix (h.below f) (Ac.of_below f) fun k L=>Qc L⟩
  go_enter Q6,Q7
  go_wp2_with (go_at_call 220;refine i.mono ?_;rintro e R ⟨rfl,u⟩)
  go_ret;exact⟨rfl,u⟩
end
end
section
open Go.Maps
attribute [local go_sem] Oper.semAt_some
def UN (ops:Array Qu):Bool:=ops.toList.all fun o=>match o.op with
 | .defer _=>A
 | _=>V
theorem pK {b:Array Qu} (h:UN b=V) {i:Nat} {o:Qu} (d:b[i]? =O o):∀c,o.op≠ .defer c:=by
 intro c e;have f:o∈b.toList:=by
  rw[<-Array.getElem?_toList]at d;exact List.mem_of_getElem? d
 have:=List.all_eq_true.1 h o f;rw[e]at this;cases this
theorem pL {n:Nat} {P:Program} {o:Qu} {a:Act} {w:H} {K d:Act->H->Prop} {Q:Exit->Act->H->Prop} (l:Nat) (g:∀c,o.op≠ .defer c) (i:∀a w,K a w->d a w) (h:Oper.wpIn Fence.wide n P o a w K Q):Oper.wpIn (Fence.wide.inRound l) n P o a w d Q:=by
 have f:=Oper.wpIn_mono i h;refine⟨fun _ _=>trivial,?_⟩;have b:=f.2;rw[Oper.semAt_plain _ _ _ g]at b ⊢;exact b
theorem MC {n:Nat} {P:Program} {j:Region.Mode} {c:Array Qu} {Q:Exit->Act->H->Prop} (l:Nat) (f:UN c=V):∀(fuel:Nat) (listed:Array Bool) (a:Act) (w:H),wpAnyIn Fence.wide n P j c Q fuel listed a w->wpAnyIn (Fence.wide.inRound l) n P j c Q fuel listed a w
 | 0,_,_,_,h=>h
 | fuel+1,listed,a,w,h=>by
  refine⟨h.1,fun i hi=>?_⟩;have b:=h.2 i hi;unfold wpOpIn at b ⊢
  cases g:c[i]? with
  | none =>
   rw[g]at b;exact MC l f fuel _ a w b
  | some o =>
   rw[g]at b;dsimp only at b ⊢;split
   ·rename_i d;rw[if_pos d]at b;exact pL l (pK f g) (fun a w h=>MC l f fuel _ a w h) b
   ·rename_i d;rw[if_neg d]at b;exact⟨fun _ _=>trivial,MC l f fuel _ _ _ b.2⟩
end
end Go.Proofs.YtcllhobffhkafaaGreatDoor
