/- By an AI agent. -/
import Derived.Test.YtcllhobffhkafaaGreatDoorBl
import Derived.Test.YtcllhobffhkafaaGreatDoorShelf
import Derived.Test.YtcllhobffhkafaaGreatDoorPure
import Derived.WalkKit
import Derived.StillTailTactics
import Derived.Sort.Grow
import Derived.Deep.QuietTactic
import Derived.BigQuiet
import Derived.Laws.StructEq
set_option maxRecDepth 100000
set_option maxHeartbeats 16000000
open Go.Proofs.Tryz
open Go renaming World->J,rounds_succ->Qa,wp_loop_rounds->Qc,Value->Qd,Calls->Qe,run_eql_struct->Qg
open Go.IntKind renaming i64->U
open Go.Obj renaming cells->S
open Go.Value renaming int->O,string->Z,agg->Qb,slice->Qf
open Option renaming some->I,none->H
namespace Go.Proofs.YtcllhobffhkafaaGreatDoor
open Go.Extern Go.Extern.Stop Go.RowKit Go.Sort Go.Stop
theorem aB (x y z:Int) (b:Nat) (w:J) (g:w.cell? ⟨b,0,H⟩=I (O U x)) (i:w.cell? ⟨b,1,H⟩=I (O U y)) (j:w.cell? ⟨b,2,H⟩=I (O U z)) :
  Qe prog 185 #[Qf (I ⟨b,0,H⟩) 3 3] w fun e w'=>e= .returned (O U (EZ x y z))/\w'=w:=by
 unfold EZ;by_cases c:x=0
 ·subst c;by_cases d:y=0
  ·subst d;by_cases f:z=0
   ·subst f
    go_enter func185,ntmps185
    go_wp2;refine Qc 4 ?_;rw[Qa];go_wp2;rw[Qa];go_wp2;rw[Qa];go_wp2;rw[Qa];go_wp2;go_ret;exact⟨rfl,rfl⟩
   ·go_enter func185,ntmps185
    go_wp2;refine Qc 3 ?_;rw[Qa];go_wp2;rw[Qa];go_wp2;rw[Qa];go_wp2;go_ret;exact⟨rfl,rfl⟩
  ·go_enter func185,ntmps185
   go_wp2;refine Qc 2 ?_;rw[Qa];go_wp2;rw[Qa];go_wp2;go_ret;exact⟨by simp,rfl⟩
 ·go_enter func185,ntmps185
  go_wp2;refine Qc 1 ?_;rw[Qa];go_wp2;go_ret;exact⟨by simp,rfl⟩
theorem aC {b w:J} {n:Nat} {os:Array Obj} {o:Obj} (h:b=grow (w.drewN n) os):∃q os',b.alloc o=grow (w.drewN q) os':=⟨n,os++ #[o],by rw[alloc_eq_grow,h,grow_grow]⟩
theorem aD {P:Program} {b:Nat} {Q:Exit->Act->J->Prop} {a:Act} {w:J} {l:List Oper} (n:Nat) (c:P.follows .mixedOrders=true) (d:Region.lexTailB .any l.toArray n=true)
 (h:wpStill P l.toArray w.drew (fun a'=>wpList P l.toArray Q (l.drop n) a' w.drew) (l.take n) a):(Code.region b l.toArray true).wp P Q a w:=wp_region_still_tail n c d h
theorem Rj (x y:Rw) (w:J) :
  Qe prog 104 #[Qb #[Z x.1,O U x.2.1,O U x.2.2],Qb #[Z y.1,O U y.2.1,O U y.2.2]] w fun e w'=>e= .returned (O U (AM x y))/\∃q os,w'=grow (w.drewN q) os:=by
 obtain⟨c,d,f⟩:=x;obtain⟨g,i,j⟩:=y;have k:=strings_Compare c g;have l:=cmp_Compare_int d i;have m:=cmp_Compare_int f j;show Qe prog 104 #[Qb #[Z c,O U d,O U f],Qb #[Z g,O U i,O U j]] w fun e w'=>e= .returned (O U (AM (c,d,f) (g,i,j)))/\∃q os,w'=grow (w.drewN q) os;unfold AM;dsimp only;generalize Lib.compareBytes c.data.toList g.data.toList=B at k ⊢;generalize Lib.compareInt d i=C at l ⊢;generalize Lib.compareInt f j=D at m ⊢;have o:=aB B C D;have p:Tryz.prog.follows .mixedOrders=true:=by kernel_rfl
 go_enter func104,ntmps104
 go_wp2;refine aD 15 p (by kernel_rfl) ?_;have r:((w.alloc (S #[Z c,O U d,O U f] 62)).alloc (S #[Z g,O U i,O U j] 62)).drew.cell? ⟨w.heap.size,0,H⟩=I (Z c):=by simp
 have s:((w.alloc (S #[Z c,O U d,O U f] 62)).alloc (S #[Z g,O U i,O U j] 62)).drew.cell? ⟨w.heap.size,1,H⟩=I (O U d):=by simp
 have t:((w.alloc (S #[Z c,O U d,O U f] 62)).alloc (S #[Z g,O U i,O U j] 62)).drew.cell? ⟨w.heap.size,2,H⟩=I (O U f):=by simp
 have u:((w.alloc (S #[Z c,O U d,O U f] 62)).alloc (S #[Z g,O U i,O U j] 62)).drew.cell? ⟨w.heap.size+1,0,H⟩=I (Z g):=by simp
 have v:((w.alloc (S #[Z c,O U d,O U f] 62)).alloc (S #[Z g,O U i,O U j] 62)).drew.cell? ⟨w.heap.size+1,1,H⟩=I (O U i):=by simp
 have z:((w.alloc (S #[Z c,O U d,O U f] 62)).alloc (S #[Z g,O U i,O U j] 62)).drew.cell? ⟨w.heap.size+1,2,H⟩=I (O U j):=by simp
 have n:Hid (((w.alloc (S #[Z c,O U d,O U f] 62)).alloc (S #[Z g,O U i,O U j] 62)).drew=grow (w.drewN 1) #[S #[Z c,O U d,O U f] 62,S #[Z g,O U i,O U j] 62]):=by
  show _=_;rw[alloc_eq_grow,alloc_eq_grow,grow_grow];rfl
 generalize ((w.alloc (S #[Z c,O U d,O U f] 62)).alloc (S #[Z g,O U i,O U j] 62)).drew=b at r s t u v z n ⊢
 still_step
 still_step
 still_step
 still_step
 still_call (k _)
 still_step
 still_step
 still_step
 still_step
 still_call (l _)
 still_step
 still_step
 still_step
 still_step
 still_call (m _)
 refine wpStill_nil ?_
 go_wp2_with (go_at_call 185;refine(o b.heap.size _ (by simp) (by simp) (by simp)).mono ?_;rintro e w' ⟨rfl,rfl⟩)
 go_ret;exact⟨rfl,aC n.out⟩
section
open Go.Lib Go.Shelf
theorem BD {W:J} {p:Addr} {v:Qd} (h:W.cell? p=I v):p.block<W.heap.size:=by
 rcases Nat.lt_or_ge p.block W.heap.size with b | b
 ·exact b
 ·simp[World.cell?,Array.getElem?_eq_none b]at h
theorem Aa {W b:J} (c:BL W b) {p:Addr} {v:Qd} (h:W.cell? p=I v):b.cell? p=I v :=
 (c.cell (BD h)).trans h
theorem AH {B:Nat} {a w:J} (h:Below B a w) (n:Nat):Below B a (w.drewN n):=⟨h.os,h.tape,h.output,h.size,h.block⟩
theorem Hg {w:J} (os:Array Obj):BL w (grow w os) :=
 ⟨rfl,rfl,rfl,by simp[grow],fun k hk=>by simp[grow,Array.getElem?_append,hk]⟩
def Ei (w:J) (b o:Nat) (xs:List Rw):Prop :=
 ∀j (h:j<xs.length),w.cell? ⟨b,o+j*3,H⟩=I (Z xs[j].1)/\w.cell? ⟨b,o+j*3+1,H⟩=I (O U xs[j].2.1)/\w.cell? ⟨b,o+j*3+2,H⟩=I (O U xs[j].2.2)
def Ar (w:J) (v:Qd) (xs:List Rw):Prop :=
 (∃p c,v=Qf p 0 c/\xs= [])\/∃b o cap,v=Qf (I ⟨b,o,H⟩) xs.length cap/\Ei w b o xs
theorem Ei.below {w w':J} {b o:Nat} {xs:List Rw} (h:Ei w b o xs) (c:BL w w'):Ei w' b o xs :=
 fun j hj=>⟨Aa c (h j hj).1,Aa c (h j hj).2.1,Aa c (h j hj).2.2⟩
theorem Ar.below {w w':J} {v:Qd} {xs:List Rw} (h:Ar w v xs) (g:BL w w'):Ar w' v xs:=by
 rcases h with h | ⟨b,o,c,d,f⟩
 ·exact Or.inl h
 ·exact Or.inr ⟨b,o,c,d,f.below g⟩
theorem Rk:EqlAt prog 62 (fun x:Rw=>Qb (AN x).toArray) (fun x y=>decide (x=y)):=by
 refine⟨fun x y w=>?_,GuardAt.agg _ (by kernel_rfl)⟩;have g:Tryz.prog.underlying 62=I (.struct (Tryz.prog.fieldsOf 62)):=by kernel_rfl
 have i:Tryz.prog.stoodInHeld 62=false:=by kernel_rfl
 obtain⟨d,l,m⟩:=x;obtain⟨f,n,o⟩:=y;simp only[AN];rw[Qg,show (10000:Nat)=9999+1 from rfl,run_equalIn_agg w 9999 62 _ _ g i];simp only[Program.fieldsOf,underlying62]
 go_simp
 by_cases b:d=f
 ·by_cases j:l=n<;>by_cases k:m=o<;>simp [b,j,k]
 ·have c:¬d.toList=f.toList:=fun e=>b (Ii (by rwa [ByteArray.toList_eq,ByteArray.toList_eq]at e));simp[b,c]
theorem Rl:NeqAt prog 62 (fun x:Rw=>Qb (AN x).toArray) (fun x y=>decide (x=y)):=by
 refine⟨fun x y w=>?_,Rk.2⟩;have h:=Rk.1 x y w;rw[Qg]at h;rw[run_neq_struct];generalize Sem.run prog (Op.equalIn 10000 62 _ _) w=r at h ⊢
 cases r with
 | ok b w' =>
  simp only[Result.andThen,Result.ok.injEq,Value.bool.injEq]at h ⊢;exact⟨by rw[h.1],h.2⟩
 | halt z w'=>simp [Result.andThen]at h
def DB (m:Int) (xs:List Rw):Bool:=decide (m<xs.length) || xs.any fun x=>decide (30<x.1.size)
def IC (m:Int) (xs:List Rw):Int:=if DB m xs then 1 else 0
theorem Lu {m:Int} {xs:List Rw} (h:DB m xs=true):IC m xs=1:=by simp[IC,h]
theorem Lv {m:Int} {xs:List Rw} (h:DB m xs=false):IC m xs=0:=by simp[IC,h]
theorem aE {m:Int} {xs:List Rw} (h:DB m xs=false) (x:Rw) (b:x∈xs):x.1.size<=30:=by
 simp[DB]at h;obtain⟨p,k,v⟩:=x;exact h.2 p k v b
theorem aF {xs:List Rw} {n:Nat} (h:∀j (h:j<xs.length),j<n->xs[j].1.size<=30) (c:n<xs.length) (e:xs[n].1.size<=30):∀j (h:j<xs.length),j<n+1->xs[j].1.size<=30:=fun j hj hjn=>by
 rcases Nat.lt_or_ge j n with b | b
 ·exact h j hj b
 ·obtain rfl:j=n:=by omega
  exact e
theorem Rn (v:Qd) (xs:List Rw) (m:Int) (w:J) (h:Ar w v xs) (u:xs.length<=maxLen) (N:0<=m) :
  Qe prog 24 #[v,O U m] w fun e w'=>e= .returned (O U (IC m xs))/\w'=w:=by
 unfold maxLen at u;rcases h with⟨p,c,rfl,rfl⟩|⟨b,o,K,rfl,D⟩
 ·have d:IC m []=0:=Lv (by simp[DB];omega);rw[d]
  go_enter func24,ntmps24
  go_wp2;refine Qc 1 ?_;rw[Qa];go_wp2;go_ret;exact⟨rfl,rfl⟩
 ·generalize E:xs.length=L at u ⊢;have g:Hid _:=E;by_cases y:m<(L:Int)
  ·have d:IC m xs=1:=Lu (by simp[DB,g.out,y]);rw[d]
   go_enter func24,ntmps24
   go_wp2;go_ret;exact⟨rfl,rfl⟩
  ·go_enter func24,ntmps24
   go_wp2
   go_loop [5] (fun k=> ∃n:Nat,n<=L/\(∀j (h:j<xs.length),j<n->xs[j].1.size<=30)/\k=O U n) (fun k=>L-(intOf k).toNat)
   case atStart=>exact ⟨0,by omega,by omega,rfl⟩
   case round =>
    obtain⟨n,M,C,rfl⟩:=hrel;have l:Hid _:=C;by_cases q:n<L
    ·have f:n<xs.length:=by rw[g.out];exact q
     have z:=(D n f).1;generalize F:xs[n].1=p at z;have r:Hid _:=F;by_cases e:30<p.size
     ·have d:DB m xs=true:=by
       simp only[DB,Bool.or_eq_true,List.any_eq_true,decide_eq_true_eq];exact Or.inr ⟨xs[n],List.getElem_mem _,by rw[r.out];exact e⟩
      have i:Hid _:=Lu d;have B:(30:Int)<(p.size:Int):=by omega
      go_wp2;go_ret;exact⟨by rw[i.out];rfl,rfl⟩
     ·have B:¬(30:Int)<(p.size:Int):=by omega
      go_wp2;go_round
      case rel=>exact ⟨n+1,by omega,aF l.out f (by rw[r.out];omega),by go_num⟩
      case measure=>simp [intOf];omega
    ·have d:DB m xs=false:=by
      simp only[DB,Bool.or_eq_false_iff,decide_eq_false_iff_not,List.any_eq_false,decide_eq_true_eq];refine⟨by rw[g.out];omega,fun x hx=>?_⟩;obtain⟨j,t,rfl⟩:=List.mem_iff_getElem.1 hx;have:=l.out j t (by rw[g.out]at t;omega);omega
     have i:Hid _:=Lv d;have s:n=L:=by omega
     subst s;go_wp2;go_ret;exact⟨by rw[i.out];rfl,rfl⟩
end
end Go.Proofs.YtcllhobffhkafaaGreatDoor
