/- By an AI agent. -/
import Derived.Lib.Bytealg
import Derived.Sort.Statements
import Derived.Shelf.SlSortCmp.Insertion
set_option maxRecDepth 100000
set_option maxHeartbeats 16000000
namespace Go.Proofs.YtgckdomafbnmkaaGreatDoor
open Go Go.Sort
abbrev Rw:=ByteArray×Int×Int
def encR (x:Rw):List Value:= [.string x.1,.int .i64 x.2.1,.int .i64 x.2.2]
theorem zk1:∀a:List UInt8,Lib.compareBytes a a=0
 | []=>rfl
 | a :: us=>by
  unfold Lib.compareBytes;rw[if_neg (by simp),if_neg (by simp)];exact zk1 us
theorem zk2:∀a b:List UInt8,Lib.compareBytes a b=0->a=b
 | [], []=>fun _=>rfl
 | [],_ :: _=>fun h=>by simp[Lib.compareBytes]at h
 | _ :: _, []=>fun h=>by simp[Lib.compareBytes]at h
 | a :: us,b :: vs=>fun h=>by
  unfold Lib.compareBytes at h;by_cases c:a<b
  ·rw[if_pos c]at h;omega
  ·rw[if_neg c]at h;by_cases d:b<a
   ·rw[if_pos d]at h;omega
   ·rw[if_neg d]at h;have e:a=b:=by
     rw[UInt8.lt_iff_toNat_lt]at c d;exact UInt8.toNat_inj.1 (by omega)
    rw[e,zk2 us vs h]
theorem zk3:∀a b:List UInt8,Lib.compareBytes a b= - Lib.compareBytes b a
 | [], []=>rfl
 | [],_ :: _=>rfl
 | _ :: _, []=>rfl
 | a :: us,b :: vs=>by
  unfold Lib.compareBytes;have f:=zk3 us vs;by_cases d:a<b
  ·have c:¬b<a:=by rw[UInt8.lt_iff_toNat_lt]at *;omega
   rw[if_pos d,if_neg c,if_pos d]
  ·by_cases c:b<a
   ·rw[if_neg d,if_pos c,if_pos c];rfl
   ·rw[if_neg d,if_neg c,if_neg c,if_neg d];exact f
theorem zo0:∀a b:List UInt8,Lib.compareBytes a b= -1\/Lib.compareBytes a b=0\/Lib.compareBytes a b=1
 | [], []=>Or.inr (Or.inl rfl)
 | [],_ :: _=>Or.inl rfl
 | _ :: _, []=>Or.inr (Or.inr rfl)
 | a :: us,b :: vs=>by
  unfold Lib.compareBytes;split
  ·exact Or.inl rfl
  ·split
   ·exact Or.inr (Or.inr rfl)
   ·exact zo0 us vs
theorem zo1:∀a b c:List UInt8,Lib.compareBytes a b<=0->Lib.compareBytes b c<=0->Lib.compareBytes a c<=0/\(Lib.compareBytes a b<0\/Lib.compareBytes b c<0->Lib.compareBytes a c<0)
 | [], [], []=>fun _ _=>by simp[Lib.compareBytes]
 | [], [],_ :: _=>fun _ _=>by simp[Lib.compareBytes]
 | [],_ :: _, []=>fun _ h=>by simp[Lib.compareBytes]at h
 | [],_ :: _,_ :: _=>fun _ _=>by simp[Lib.compareBytes]
 | _ :: _, [],_=>fun h _=>by simp[Lib.compareBytes]at h
 | _ :: _,_ :: _, []=>fun _ h=>by simp[Lib.compareBytes]at h
 | a :: us,b :: vs,c :: ws=>fun h1 h2=>by
  have j:=zo1 us vs ws;unfold Lib.compareBytes at h1 h2 ⊢;simp only[UInt8.lt_iff_toNat_lt]at *;by_cases i:a.toNat<b.toNat
  ·by_cases d:b.toNat<c.toNat
   ·rw[if_pos (by omega)];exact⟨by omega,fun _=>by omega⟩
   ·by_cases f:c.toNat<b.toNat
    ·rw[if_neg d,if_pos f]at h2;omega
    ·rw[if_pos (by omega)];exact⟨by omega,fun _=>by omega⟩
  ·by_cases g:b.toNat<a.toNat
   ·rw[if_neg i,if_pos g]at h1;omega
   ·rw[if_neg i,if_neg g]at h1;by_cases d:b.toNat<c.toNat
    ·rw[if_pos (show a.toNat<c.toNat by omega)];exact⟨by omega,fun _=>by omega⟩
    ·by_cases f:c.toNat<b.toNat
     ·rw[if_neg d,if_pos f]at h2;omega
     ·rw[if_neg d,if_neg f]at h2;rw[if_neg (show ¬a.toNat<c.toNat by omega),if_neg (show ¬c.toNat<a.toNat by omega),if_neg i,if_neg g,if_neg d,if_neg f];exact j h1 h2
def orOf (x y z:Int):Int:=if x=0 then (if y=0 then z else y) else x
def cfR (x y:Rw):Int:=orOf (Lib.compareBytes x.1.data.toList y.1.data.toList) (Lib.compareInt x.2.1 y.2.1) (Lib.compareInt x.2.2 y.2.2)
theorem zc2 (a b:Int):(a<b/\Lib.compareInt a b= -1)\/(a=b/\Lib.compareInt a b=0)\/(b<a/\Lib.compareInt a b=1):=by
 unfold Lib.compareInt;rcases Int.lt_trichotomy a b with h | h | h
 ·exact Or.inl ⟨h,by rw[if_pos h]⟩
 ·subst h;exact Or.inr (Or.inl ⟨rfl,by simp⟩)
 ·exact Or.inr (Or.inr ⟨h,by rw[if_neg (by omega),if_pos h]⟩)
theorem zc1 {x y:ByteArray} (h:x.data.toList=y.data.toList):x=y:=by
 cases x;cases y
 simp only[ByteArray.mk.injEq]at *;exact Array.toList_inj.1 h
theorem zb0s (x:Rw):cfR x x=0:=by
 unfold cfR orOf;rw[if_pos (zk1 _)];rcases zc2 x.2.1 x.2.1 with⟨h,_⟩|⟨_,h⟩|⟨h,_⟩
 ·omega
 ·rw[if_pos h];rcases zc2 x.2.2 x.2.2 with⟨h,_⟩|⟨_,h⟩|⟨h,_⟩<;>omega
 ·omega
theorem za1q (a b:Int):Lib.compareInt a b= - Lib.compareInt b a:=by
 rcases zc2 a b with⟨h,e⟩|⟨h,e⟩|⟨h,e⟩<;>rcases zc2 b a with⟨c,d⟩|⟨c,d⟩|⟨c,d⟩<;>omega
theorem zo2 (x y:Rw):cfR x y= - cfR y x:=by
 unfold cfR orOf;have b:=zk3 x.1.data.toList y.1.data.toList;have c:=za1q x.2.1 y.2.1;have d:=za1q x.2.2 y.2.2;by_cases h:Lib.compareBytes x.1.data.toList y.1.data.toList=0
 ·rw[if_pos h,if_pos (show Lib.compareBytes y.1.data.toList x.1.data.toList=0 by omega)];by_cases k:Lib.compareInt x.2.1 y.2.1=0
  ·rw[if_pos k,if_pos (show Lib.compareInt y.2.1 x.2.1=0 by omega)];exact d
  ·rw[if_neg k,if_neg (show ¬Lib.compareInt y.2.1 x.2.1=0 by omega)];exact c
 ·rw[if_neg h,if_neg (show ¬Lib.compareBytes y.1.data.toList x.1.data.toList=0 by omega)];exact b
theorem zb0t (x y:Rw) (h:cfR x y=0):x=y:=by
 unfold cfR orOf at h;split at h
 ·rename_i f;rcases zc2 x.2.1 y.2.1 with⟨a,b⟩|⟨a,b⟩|⟨a,b⟩
  ·rw[b]at h;simp at h
  ·rw[b]at h;simp at h;rcases zc2 x.2.2 y.2.2 with⟨c,d⟩|⟨c,d⟩|⟨c,d⟩
   ·omega
   ·exact Prod.ext (zc1 (zk2 _ _ f)) (Prod.ext a c)
   ·omega
  ·rw[b]at h;simp at h
 ·rename_i f;exact absurd h f
theorem za1r (x y z:Rw) (f:cfR x y<=0) (g:cfR y z<=0):cfR x z<=0/\(cfR x y<0\/cfR y z<0->cfR x z<0):=by
 have o:=zo0 x.1.data.toList y.1.data.toList;have p:=zo0 y.1.data.toList z.1.data.toList;have q:=zo0 x.1.data.toList z.1.data.toList;have i:Lib.compareBytes x.1.data.toList y.1.data.toList<=0:=by
  unfold cfR orOf at f;split at f<;>omega
 have j:Lib.compareBytes y.1.data.toList z.1.data.toList<=0:=by
  unfold cfR orOf at g;split at g<;>omega
 have b:=zo1 _ _ _ i j;by_cases c:Lib.compareBytes x.1.data.toList y.1.data.toList=0
 ·by_cases d:Lib.compareBytes y.1.data.toList z.1.data.toList=0
  ·have k:Lib.compareBytes x.1.data.toList z.1.data.toList=0:=by rw[zk2 _ _ c];exact d
   have l:cfR x y=if Lib.compareInt x.2.1 y.2.1=0 then Lib.compareInt x.2.2 y.2.2 else Lib.compareInt x.2.1 y.2.1:=by unfold cfR orOf;rw[if_pos c]
   have m:cfR y z=if Lib.compareInt y.2.1 z.2.1=0 then Lib.compareInt y.2.2 z.2.2 else Lib.compareInt y.2.1 z.2.1:=by unfold cfR orOf;rw[if_pos d]
   have n:cfR x z=if Lib.compareInt x.2.1 z.2.1=0 then Lib.compareInt x.2.2 z.2.2 else Lib.compareInt x.2.1 z.2.1:=by unfold cfR orOf;rw[if_pos k]
   have r:=zc2 x.2.1 y.2.1;have s:=zc2 y.2.1 z.2.1;have t:=zc2 x.2.1 z.2.1;have u:=zc2 x.2.2 y.2.2;have v:=zc2 y.2.2 z.2.2;have A:=zc2 x.2.2 z.2.2;split at l<;>split at m<;>split at n<;>omega
  ·have:=b.2 (Or.inr (by omega));unfold cfR orOf;rw[if_neg (show ¬Lib.compareBytes x.1.data.toList z.1.data.toList=0 by omega)];exact⟨by omega,fun _=>by omega⟩
 ·have:=b.2 (Or.inl (by omega));unfold cfR orOf;rw[if_neg (show ¬Lib.compareBytes x.1.data.toList z.1.data.toList=0 by omega)];exact⟨by omega,fun _=>by omega⟩
theorem swoR:SWO (ltOf cfR) where
 irrefl x:=by simp[ltOf,zb0s]
 trans x y z h1 h2:=by
  simp only[ltOf,decide_eq_true_eq]at *;exact(za1r x y z (by omega) (by omega)).2 (Or.inl h1)
 ntrans x y z h1 h2:=by
  simp only[ltOf,decide_eq_false_iff_not]at *;have a:=zo2 x y;have b:=zo2 y z;have c:=zo2 x z;have:=(za1r z y x (by omega) (by omega)).1;omega
theorem totR (x y:Rw) (b:ltOf cfR x y=false) (c:ltOf cfR y x=false):x=y:=by
 simp only[ltOf,decide_eq_false_iff_not]at *;have a:=zo2 x y;exact zb0t x y (by omega)
end Go.Proofs.YtgckdomafbnmkaaGreatDoor
