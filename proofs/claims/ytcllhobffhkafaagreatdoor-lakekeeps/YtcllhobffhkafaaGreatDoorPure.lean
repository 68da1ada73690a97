/- By an AI agent. -/
import Derived.Lib.Bytealg
import Derived.Sort.Statements
import Derived.Shelf.SlSortCmp.Insertion
set_option maxRecDepth 100000
set_option maxHeartbeats 16000000
open Go.Lib renaming compareBytes->O,compareInt->U
open UInt8 renaming lt_iff_toNat_lt->Qa
namespace Go.Proofs.YtcllhobffhkafaaGreatDoor
open Go Go.Sort
abbrev Rw:=ByteArray×Int×Int
def AM (x:Rw):List Value:= [.string x.1,.int .i64 x.2.1,.int .i64 x.2.2]
theorem N9:∀a:List UInt8,O a a=0
 | []=>rfl
 | a :: us=>by
  unfold O;rw[if_neg (by simp),if_neg (by simp)];exact N9 us
theorem LM:∀a b:List UInt8,O a b=0->a=b
 | [], []=>fun _=>rfl
 | [],_ :: _=>fun h=>by simp[O]at h
 | _ :: _, []=>fun h=>by simp[O]at h
 | a :: us,b :: vs=>fun h=>by
  unfold O at h;by_cases c:a<b
  ·rw[if_pos c]at h;omega
  ·rw[if_neg c]at h;by_cases d:b<a
   ·rw[if_pos d]at h;omega
   ·rw[if_neg d]at h;have e:a=b:=by
     rw[Qa]at c d;exact UInt8.toNat_inj.1 (by omega)
    rw[e,LM us vs h]
theorem NA:∀a b:List UInt8,O a b= - O b a
 | [], []=>rfl
 | [],_ :: _=>rfl
 | _ :: _, []=>rfl
 | a :: us,b :: vs=>by
  unfold O;have f:=NA us vs;by_cases d:a<b
  ·have c:¬b<a:=by rw[Qa]at *;omega
   rw[if_pos d,if_neg c,if_pos d]
  ·by_cases c:b<a
   ·rw[if_neg d,if_pos c,if_pos c];rfl
   ·rw[if_neg d,if_neg c,if_neg c,if_neg d];exact f
theorem ND:∀a b c:List UInt8,O a b<=0->O b c<=0->O a c<=0/\(O a b<0\/O b c<0->O a c<0)
 | [], [], []=>fun _ _=>by simp[O]
 | [], [],_ :: _=>fun _ _=>by simp[O]
 | [],_ :: _, []=>fun _ h=>by simp[O]at h
 | [],_ :: _,_ :: _=>fun _ _=>by simp[O]
 | _ :: _, [],_=>fun h _=>by simp[O]at h
 | _ :: _,_ :: _, []=>fun _ h=>by simp[O]at h
 | a :: us,b :: vs,c :: ws=>fun h1 h2=>by
  have j:=ND us vs ws;unfold O at h1 h2 ⊢;simp only[Qa]at *;by_cases i:a.toNat<b.toNat
  ·by_cases d:b.toNat<c.toNat
   ·rw[if_pos (by omega)];exact⟨by omega,fun _=>by omega⟩
   ·by_cases f:c.toNat<b.toNat
    ·rw[if_neg d,if_pos f]at h2;omega
    ·rw[if_pos (by omega)];exact⟨by omega,fun _=>by omega⟩
  ·by_cases g:b.toNat<a.toNat
   ·rw[if_neg i,if_pos g]at h1;omega
   ·rw[if_neg i,if_neg g]at h1;by_cases d:b.toNat<c.toNat
    ·rw[if_pos (show a.toNat<c.toNat by omega)];exact⟨by omega,fun _=>by omega⟩
    ·by_cases f:c.toNat<b.toNat
     ·rw[if_neg d,if_pos f]at h2;omega
     ·rw[if_neg d,if_neg f]at h2;rw[if_neg (show ¬a.toNat<c.toNat by omega),if_neg (show ¬c.toNat<a.toNat by omega),if_neg i,if_neg g,if_neg d,if_neg f];exact j h1 h2
def Fp (x y z:Int):Int:=if x=0 then (if y=0 then z else y) else x
def AP (x y:Rw):Int:=Fp (O x.1.data.toList y.1.data.toList) (U x.2.1 y.2.1) (U x.2.2 y.2.2)
theorem FX (a b:Int):(a<b/\U a b= -1)\/(a=b/\U a b=0)\/(b<a/\U a b=1):=by
 unfold U;rcases Int.lt_trichotomy a b with h | h | h
 ·exact Or.inl ⟨h,by rw[if_pos h]⟩
 ·subst h;exact Or.inr (Or.inl ⟨rfl,by simp⟩)
 ·exact Or.inr (Or.inr ⟨h,by rw[if_neg (by omega),if_pos h]⟩)
theorem Iw {x y:ByteArray} (h:x.data.toList=y.data.toList):x=y:=by
 cases x;cases y
 simp only[ByteArray.mk.injEq]at *;exact Array.toList_inj.1 h
theorem cL (x:Rw):AP x x=0:=by
 unfold AP Fp;rw[if_pos (N9 _)];rcases FX x.2.1 x.2.1 with⟨h,_⟩|⟨_,h⟩|⟨h,_⟩
 ·omega
 ·rw[if_pos h];rcases FX x.2.2 x.2.2 with⟨h,_⟩|⟨_,h⟩|⟨h,_⟩<;>omega
 ·omega
theorem RK (a b:Int):U a b= - U b a:=by
 rcases FX a b with⟨h,e⟩|⟨h,e⟩|⟨h,e⟩<;>rcases FX b a with⟨c,d⟩|⟨c,d⟩|⟨c,d⟩<;>omega
theorem LN (x y:Rw):AP x y= - AP y x:=by
 unfold AP Fp;have b:=NA x.1.data.toList y.1.data.toList;have c:=RK x.2.1 y.2.1;have d:=RK x.2.2 y.2.2;by_cases h:O x.1.data.toList y.1.data.toList=0
 ·rw[if_pos h,if_pos (show O y.1.data.toList x.1.data.toList=0 by omega)];by_cases k:U x.2.1 y.2.1=0
  ·rw[if_pos k,if_pos (show U y.2.1 x.2.1=0 by omega)];exact d
  ·rw[if_neg k,if_neg (show ¬U y.2.1 x.2.1=0 by omega)];exact c
 ·rw[if_neg h,if_neg (show ¬O y.1.data.toList x.1.data.toList=0 by omega)];exact b
theorem cM (x y:Rw) (h:AP x y=0):x=y:=by
 unfold AP Fp at h;split at h
 ·rename_i f;rcases FX x.2.1 y.2.1 with⟨a,b⟩|⟨a,b⟩|⟨a,b⟩
  ·rw[b]at h;simp at h
  ·rw[b]at h;simp at h;rcases FX x.2.2 y.2.2 with⟨c,d⟩|⟨c,d⟩|⟨c,d⟩
   ·omega
   ·exact Prod.ext (Iw (LM _ _ f)) (Prod.ext a c)
   ·omega
  ·rw[b]at h;simp at h
 ·rename_i f;exact absurd h f
theorem RM (x y z:Rw) (f:AP x y<=0) (g:AP y z<=0):AP x z<=0/\(AP x y<0\/AP y z<0->AP x z<0):=by
 have i:O x.1.data.toList y.1.data.toList<=0:=by
  unfold AP Fp at f;split at f<;>omega
 have j:O y.1.data.toList z.1.data.toList<=0:=by
  unfold AP Fp at g;split at g<;>omega
 have b:=ND _ _ _ i j;by_cases c:O x.1.data.toList y.1.data.toList=0
 ·by_cases d:O y.1.data.toList z.1.data.toList=0
  ·have k:O x.1.data.toList z.1.data.toList=0:=by rw[LM _ _ c];exact d
   have l:AP x y=if U x.2.1 y.2.1=0 then U x.2.2 y.2.2 else U x.2.1 y.2.1:=by unfold AP Fp;rw[if_pos c]
   have m:AP y z=if U y.2.1 z.2.1=0 then U y.2.2 z.2.2 else U y.2.1 z.2.1:=by unfold AP Fp;rw[if_pos d]
   have n:AP x z=if U x.2.1 z.2.1=0 then U x.2.2 z.2.2 else U x.2.1 z.2.1:=by unfold AP Fp;rw[if_pos k]
   have o:=FX x.2.1 y.2.1;have p:=FX y.2.1 z.2.1;have q:=FX x.2.1 z.2.1;have r:=FX x.2.2 y.2.2;have s:=FX y.2.2 z.2.2;have t:=FX x.2.2 z.2.2;split at l<;>split at m<;>split at n<;>omega
  ·have:=b.2 (Or.inr (by omega));unfold AP Fp;rw[if_neg (show ¬O x.1.data.toList z.1.data.toList=0 by omega)];exact⟨by omega,fun _=>by omega⟩
 ·have:=b.2 (Or.inl (by omega));unfold AP Fp;rw[if_neg (show ¬O x.1.data.toList z.1.data.toList=0 by omega)];exact⟨by omega,fun _=>by omega⟩
theorem LP:SWO (ltOf AP) where
 irrefl x:=by simp[ltOf,cL]
 trans x y z h1 h2:=by
  simp only[ltOf,decide_eq_true_eq]at *;exact(RM x y z (by omega) (by omega)).2 (Or.inl h1)
 ntrans x y z h1 h2:=by
  simp only[ltOf,decide_eq_false_iff_not]at *;have a:=LN x y;have b:=LN y z;have c:=LN x z;have:=(RM z y x (by omega) (by omega)).1;omega
theorem RN (x y:Rw) (b:ltOf AP x y=false) (c:ltOf AP y x=false):x=y:=by
 simp only[ltOf,decide_eq_false_iff_not]at *;have a:=LN x y;exact cM x y (by omega)
end Go.Proofs.YtcllhobffhkafaaGreatDoor
