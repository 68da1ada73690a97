/- By an AI agent. -/
import Derived.Lib.Bytealg
import Derived.Sort.Statements
import Derived.Shelf.SlSortCmp.Insertion
set_option maxRecDepth 100000
set_option maxHeartbeats 16000000
open Go.Lib renaming compareBytes->O,compareInt->U
open Or renaming inr->Qa,inl->Qb
open UInt8 renaming lt_iff_toNat_lt->Qc
namespace Go.Proofs.YtcllhobffhkafaaGreatDoor
open Go Go.Sort
abbrev Rw:=ByteArray×Int×Int
def AN (x:Rw):List Value:= [.string x.1,.int .i64 x.2.1,.int .i64 x.2.2]
theorem Ng:∀a:List UInt8,O a a=0
 | []=>rfl
 | a :: us=>by
  unfold O;rw[if_neg (by simp),if_neg (by simp)];exact Ng us
theorem Lr:∀a b:List UInt8,O a b=0->a=b
 | [], []=>fun _=>rfl
 | [],_ :: _=>fun h=>by simp[O]at h
 | _ :: _, []=>fun h=>by simp[O]at h
 | a :: us,b :: vs=>fun h=>by
  unfold O at h;by_cases c:a<b
  ·rw[if_pos c]at h;omega
  ·rw[if_neg c]at h;by_cases d:b<a
   ·rw[if_pos d]at h;omega
   ·rw[if_neg d]at h;have e:a=b:=by
     rw[Qc]at c d;exact UInt8.toNat_inj.1 (by omega)
    rw[e,Lr us vs h]
theorem Nh:∀a b:List UInt8,O a b= - O b a
 | [], []=>rfl
 | [],_ :: _=>rfl
 | _ :: _, []=>rfl
 | a :: us,b :: vs=>by
  unfold O;have f:=Nh us vs;by_cases d:a<b
  ·have c:¬b<a:=by rw[Qc]at *;omega
   rw[if_pos d,if_neg c,if_pos d]
  ·by_cases c:b<a
   ·rw[if_neg d,if_pos c,if_pos c];rfl
   ·rw[if_neg d,if_neg c,if_neg c,if_neg d];exact f
theorem WY:∀a b:List UInt8,O a b= -1\/O a b=0\/O a b=1
 | [], []=>Qa (Qb rfl)
 | [],_ :: _=>Qb rfl
 | _ :: _, []=>Qa (Qa rfl)
 | a :: us,b :: vs=>by
  unfold O;split
  ·exact Qb rfl
  ·split
   ·exact Qa (Qa rfl)
   ·exact WY us vs
theorem Ni:∀a b c:List UInt8,O a b<=0->O b c<=0->O a c<=0/\(O a b<0\/O b c<0->O a c<0)
 | [], [], []=>fun _ _=>by simp[O]
 | [], [],_ :: _=>fun _ _=>by simp[O]
 | [],_ :: _, []=>fun _ h=>by simp[O]at h
 | [],_ :: _,_ :: _=>fun _ _=>by simp[O]
 | _ :: _, [],_=>fun h _=>by simp[O]at h
 | _ :: _,_ :: _, []=>fun _ h=>by simp[O]at h
 | a :: us,b :: vs,c :: ws=>fun h1 h2=>by
  have j:=Ni us vs ws;unfold O at h1 h2 ⊢;simp only[Qc]at *;by_cases i:a.toNat<b.toNat
  ·by_cases d:b.toNat<c.toNat
   ·rw[if_pos (by omega)];exact⟨by omega,fun _=>by omega⟩
   ·by_cases f:c.toNat<b.toNat
    ·rw[if_neg d,if_pos f]at h2;omega
    ·rw[if_pos (by omega)];exact⟨by omega,fun _=>by omega⟩
  ·by_cases g:b.toNat<a.toNat
   ·rw[if_neg i,if_pos g]at h1;omega
   ·rw[if_neg i,if_neg g]at h1;by_cases d:b.toNat<c.toNat
    ·rw[if_pos (show a.toNat<c.toNat by omega)];exact⟨by omega,fun _=>by omega⟩
    ·by_cases f:c.toNat<b.toNat
     ·rw[if_neg d,if_pos f]at h2;omega
     ·rw[if_neg d,if_neg f]at h2;rw[if_neg (show ¬a.toNat<c.toNat by omega),if_neg (show ¬c.toNat<a.toNat by omega),if_neg i,if_neg g,if_neg d,if_neg f];exact j h1 h2
def EZ (x y z:Int):Int:=if x=0 then (if y=0 then z else y) else x
def AM (x y:Rw):Int:=EZ (O x.1.data.toList y.1.data.toList) (U x.2.1 y.2.1) (U x.2.2 y.2.2)
theorem F7 (a b:Int):(a<b/\U a b= -1)\/(a=b/\U a b=0)\/(b<a/\U a b=1):=by
 unfold U;rcases Int.lt_trichotomy a b with h | h | h
 ·exact Qb ⟨h,by rw[if_pos h]⟩
 ·subst h;exact Qa (Qb ⟨rfl,by simp⟩)
 ·exact Qa (Qa ⟨h,by rw[if_neg (by omega),if_pos h]⟩)
theorem Ii {x y:ByteArray} (h:x.data.toList=y.data.toList):x=y:=by
 cases x;cases y
 simp only[ByteArray.mk.injEq]at *;exact Array.toList_inj.1 h
theorem WZ (x:Rw):AM x x=0:=by
 unfold AM EZ;rw[if_pos (Ng _)];rcases F7 x.2.1 x.2.1 with⟨h,_⟩|⟨_,h⟩|⟨h,_⟩
 ·omega
 ·rw[if_pos h];rcases F7 x.2.2 x.2.2 with⟨h,_⟩|⟨_,h⟩|⟨h,_⟩<;>omega
 ·omega
theorem Rg (a b:Int):U a b= - U b a:=by
 rcases F7 a b with⟨h,e⟩|⟨h,e⟩|⟨h,e⟩<;>rcases F7 b a with⟨c,d⟩|⟨c,d⟩|⟨c,d⟩<;>omega
theorem Ls (x y:Rw):AM x y= - AM y x:=by
 unfold AM EZ;have b:=Nh x.1.data.toList y.1.data.toList;have c:=Rg x.2.1 y.2.1;have d:=Rg x.2.2 y.2.2;by_cases h:O x.1.data.toList y.1.data.toList=0
 ·rw[if_pos h,if_pos (show O y.1.data.toList x.1.data.toList=0 by omega)];by_cases k:U x.2.1 y.2.1=0
  ·rw[if_pos k,if_pos (show U y.2.1 x.2.1=0 by omega)];exact d
  ·rw[if_neg k,if_neg (show ¬U y.2.1 x.2.1=0 by omega)];exact c
 ·rw[if_neg h,if_neg (show ¬O y.1.data.toList x.1.data.toList=0 by omega)];exact b
theorem aA (x y:Rw) (h:AM x y=0):x=y:=by
 unfold AM EZ at h;split at h
 ·rename_i f;rcases F7 x.2.1 y.2.1 with⟨a,b⟩|⟨a,b⟩|⟨a,b⟩
  ·rw[b]at h;simp at h
  ·rw[b]at h;simp at h;rcases F7 x.2.2 y.2.2 with⟨c,d⟩|⟨c,d⟩|⟨c,d⟩
   ·omega
   ·exact Prod.ext (Ii (Lr _ _ f)) (Prod.ext a c)
   ·omega
  ·rw[b]at h;simp at h
 ·rename_i f;exact absurd h f
theorem Rh (x y z:Rw) (f:AM x y<=0) (g:AM y z<=0):AM x z<=0/\(AM x y<0\/AM y z<0->AM x z<0):=by
 have i:O x.1.data.toList y.1.data.toList<=0:=by
  unfold AM EZ at f;split at f<;>omega
 have j:O y.1.data.toList z.1.data.toList<=0:=by
  unfold AM EZ at g;split at g<;>omega
 have b:=Ni _ _ _ i j;by_cases c:O x.1.data.toList y.1.data.toList=0
 ·by_cases d:O y.1.data.toList z.1.data.toList=0
  ·have k:O x.1.data.toList z.1.data.toList=0:=by rw[Lr _ _ c];exact d
   have l:AM x y=if U x.2.1 y.2.1=0 then U x.2.2 y.2.2 else U x.2.1 y.2.1:=by unfold AM EZ;rw[if_pos c]
   have m:AM y z=if U y.2.1 z.2.1=0 then U y.2.2 z.2.2 else U y.2.1 z.2.1:=by unfold AM EZ;rw[if_pos d]
   have n:AM x z=if U x.2.1 z.2.1=0 then U x.2.2 z.2.2 else U x.2.1 z.2.1:=by unfold AM EZ;rw[if_pos k]
   have o:=F7 x.2.1 y.2.1;have p:=F7 y.2.1 z.2.1;have q:=F7 x.2.1 z.2.1;have r:=F7 x.2.2 y.2.2;have s:=F7 y.2.2 z.2.2;have t:=F7 x.2.2 z.2.2;split at l<;>split at m<;>split at n<;>omega
  ·have:=b.2 (Qa (by omega));unfold AM EZ;rw[if_neg (show ¬O x.1.data.toList z.1.data.toList=0 by omega)];exact⟨by omega,fun _=>by omega⟩
 ·have:=b.2 (Qb (by omega));unfold AM EZ;rw[if_neg (show ¬O x.1.data.toList z.1.data.toList=0 by omega)];exact⟨by omega,fun _=>by omega⟩
theorem Lt:SWO (ltOf AM) where
 irrefl x:=by simp[ltOf,WZ]
 trans x y z h1 h2:=by
  simp only[ltOf,decide_eq_true_eq]at *;exact(Rh x y z (by omega) (by omega)).2 (Qb h1)
 ntrans x y z h1 h2:=by
  simp only[ltOf,decide_eq_false_iff_not]at *;have a:=Ls x y;have b:=Ls y z;have c:=Ls x z;have:=(Rh z y x (by omega) (by omega)).1;omega
theorem Ri (x y:Rw) (b:ltOf AM x y=false) (c:ltOf AM y x=false):x=y:=by
 simp only[ltOf,decide_eq_false_iff_not]at *;have a:=Ls x y;exact aA x y (by omega)
end Go.Proofs.YtcllhobffhkafaaGreatDoor
