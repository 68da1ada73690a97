/- By an AI agent. -/
import Derived.Test.YtgckdomafbnmkaaGreatDoorLinePure
import Derived.Test.YtgckdomafbnmkaaGreatDoorCrcPure
set_option maxRecDepth 100000
set_option maxHeartbeats 16000000
namespace Go.Proofs.YtgckdomafbnmkaaGreatDoor
open Go Go.Lib Go.Sort
def endsZ:List Int->Int×Int
 | []=>(0,0)
 | z :: r=>(r.foldl (fun a k=>if k<a then k else a) z,r.foldl (fun a k=>if a<k then k else a) z)
theorem zu4:∀(r:List Int) (z:Int),(r.foldl (fun a k=>if k<a then k else a) z∈z :: r)/\∀k∈z :: r,r.foldl (fun a k=>if k<a then k else a) z<=k
 | [],z=>by simp
 | k :: r,z=>by
  rw[List.foldl_cons];obtain⟨b,d⟩:=zu4 r (if k<z then k else z);generalize List.foldl (fun a k=>if k<a then k else a) (if k<z then k else z) r=m at b d ⊢;have f:=d (if k<z then k else z) List.mem_cons_self;refine⟨?_,fun j c=>?_⟩
  ·rw[List.mem_cons]at b;rcases b with b | b
   ·rw[b];split<;>simp
   ·exact List.mem_cons_of_mem _ (List.mem_cons_of_mem _ b)
  ·simp only[List.mem_cons]at c;rcases c with rfl | rfl | c
   ·split at f<;>omega
   ·split at f<;>omega
   ·exact d j (List.mem_cons_of_mem _ c)
theorem zu5:∀(r:List Int) (z:Int),(r.foldl (fun a k=>if a<k then k else a) z∈z :: r)/\∀k∈z :: r,k<=r.foldl (fun a k=>if a<k then k else a) z
 | [],z=>by simp
 | k :: r,z=>by
  rw[List.foldl_cons];obtain⟨b,d⟩:=zu5 r (if z<k then k else z);generalize List.foldl (fun a k=>if a<k then k else a) (if z<k then k else z) r=m at b d ⊢;have f:=d (if z<k then k else z) List.mem_cons_self;refine⟨?_,fun j c=>?_⟩
  ·rw[List.mem_cons]at b;rcases b with b | b
   ·rw[b];split<;>simp
   ·exact List.mem_cons_of_mem _ (List.mem_cons_of_mem _ b)
  ·simp only[List.mem_cons]at c;rcases c with rfl | rfl | c
   ·split at f<;>omega
   ·split at f<;>omega
   ·exact d j (List.mem_cons_of_mem _ c)
theorem zo8 {b:List Int} (h:b≠ []):(endsZ b).1∈b/\(endsZ b).2∈b/\∀k∈b,(endsZ b).1<=k/\k<=(endsZ b).2:=by
 cases b with
 | nil=>exact absurd rfl h
 | cons z r=>exact ⟨(zu4 r z).1,(zu5 r z).1,fun k hk=>⟨(zu4 r z).2 k hk,(zu5 r z).2 k hk⟩⟩
theorem zb1t {xs c:List Int} (h:xs.Perm c):endsZ xs=endsZ c:=by
 by_cases b:xs= []
 ·subst b;rw[List.nil_perm.1 h]
 ·have g:c≠ []:=fun e=>b (by rw[e]at h;exact List.perm_nil.1 h);obtain⟨i,j,d⟩:=zo8 b;obtain⟨k,l,f⟩:=zo8 g;have m:=d _ (h.mem_iff.2 k);have n:=d _ (h.mem_iff.2 l);have o:=f _ (h.mem_iff.1 i);have p:=f _ (h.mem_iff.1 j);exact Prod.ext (by omega) (by omega)
structure FK (β:Type) where
 word:List UInt8
 rd:List UInt8->β×Nat
 bad:β->β->Bool
 key:β->Int
 text:β->List UInt8
 ok:β->Prop
 d:β
structure FK.Fine {β:Type} (k:FK β):Prop where
 noend:∀x,k.ok x->∀c∈k.text x,c≠10
 len:∀x,k.ok x->(k.text x).length<=32
 back:∀x,k.ok x->k.rd (k.text x)=(x,0)
 inn:∀x,k.ok x->inNum (k.key x)=true
 wlen:k.word.length<=4
 wend:∀c∈k.word,c≠10
 wblank:∀c∈k.word,c≠32
def keysG {β:Type} (k:FK β) (xs:List β):List Int:=xs.map k.key
theorem zu6 {β:Type} {k:FK β} (K:k.Fine) {xs:List β} (h:∀x∈xs,k.ok x):inNum (endsZ (keysG k xs)).1=true/\inNum (endsZ (keysG k xs)).2=true:=by
 by_cases c:keysG k xs= []
 ·rw[c];exact⟨by decide,by decide⟩
 ·obtain⟨d,f,_⟩:=zo8 c;have b:∀z∈keysG k xs,inNum z=true:=fun z hz=>by
   simp only[keysG,List.mem_map]at hz;obtain⟨x,g,rfl⟩:=hz;exact K.inn x (h x g)
  exact⟨b _ d,b _ f⟩
def headL (K:List UInt8) (n lo hi sum:Int):List UInt8:=K++32 :: (itoa n++32 :: (itoa lo++32 :: (itoa hi++32 :: itoa sum)))
def linesG {β:Type} (k:FK β) (xs:List β):List UInt8:=xs.flatMap fun x=>k.text x++ [10]
def fileG {β:Type} (k:FK β) (xs:List β):List UInt8:=headL k.word xs.length (endsZ (keysG k xs)).1 (endsZ (keysG k xs)).2 (sumL (linesG k xs))++10 :: linesG k xs
def headO (K:List UInt8) (l:List UInt8):Option (Int×Int×Int×Int) :=
 match words l with
 | [k,a,b,c,d]=>if k=K then (match numO a,numO b,numO c,numO d with
  | some a,some b,some c,some d=>some (a,b,c,d)
  | _,_,_,_=>none) else none
 | _=>none
def rowsG {β:Type} (k:FK β):List (List UInt8)->Nat->List β->List β×Nat×Nat
 | [],_,acc=>(acc,0,0)
 | [l],at_,acc=>if l= [] then (acc,0,0) else ([],1,at_)
 | l :: r,at_,acc=>if (k.rd l).2≠0 then ([],(k.rd l).2,at_) else
  if acc≠ []/\k.bad (k.rd l).1 (acc.getLastD k.d)=true then ([],9,at_) else rowsG k r (at_+1) (acc++ [(k.rd l).1])
def endG {β:Type} (k:FK β) (n lo hi:Int) (R:List β×Nat×Nat):List β×Nat×Option Nat :=
 if R.2.1≠0 then ([],R.2.1,some R.2.2) else if 40<R.1.length then ([],8,none) else
 if n=R.1.length/\lo=(endsZ (keysG k R.1)).1/\hi=(endsZ (keysG k R.1)).2 then (R.1,0,none) else ([],3,none)
def readG {β:Type} (k:FK β) (s:List UInt8):List β×Nat×Option Nat :=
 if 20000<s.length then ([],2,none) else
 if (Lib.cut s [10]).2.2=false then ([],1,none) else
 match headO k.word (Lib.cut s [10]).1 with
 | none=>([],1,none)
 | some (n,lo,hi,sum) =>
  if sum≠sumL (Lib.cut s [10]).2.1 then ([],10,none) else
  endG k n lo hi (rowsG k (pieces 10 (Lib.cut s [10]).2.1) 0 [])
theorem za2f {β:Type} (k:FK β) (x:β) (xs:List β):linesG k (x :: xs)=k.text x++10 :: linesG k xs:=by simp[linesG]
theorem za2g {β:Type} (k:FK β) (xs:List β) (x:β):linesG k (xs++ [x])=linesG k xs++(k.text x++ [10]):=by simp[linesG]
theorem piecesG {β:Type} {k:FK β} (K:k.Fine):∀xs:List β,(∀x∈xs,k.ok x)->pieces 10 (linesG k xs)=xs.map k.text++ [[]]
 | [],_=>rfl
 | x :: xs,h=>by
  rw[za2f,zg7 10 _ _ (K.noend x (h x List.mem_cons_self)),piecesG K xs (fun y hy=>h y (List.mem_cons_of_mem _ hy))];rfl
theorem zu7 {β:Type} (k:FK β) (l:List UInt8) (b:Nat) (c:List β):rowsG k [l] b c=if l= [] then (c,0,0) else ([],1,b):=rfl
theorem za2h {β:Type} (k:FK β) (l f:List UInt8) (r:List (List UInt8)) (b:Nat) (c:List β):rowsG k (l :: f :: r) b c=if (k.rd l).2≠0 then ([],(k.rd l).2,b) else
 if c≠ []/\k.bad (k.rd l).1 (c.getLastD k.d)=true then ([],9,b) else rowsG k (f :: r) (b+1) (c++ [(k.rd l).1]):=rfl
theorem za2i {β:Type} (k:FK β) (b:∀l,(k.rd l).2<=12):∀(ls:List (List UInt8)) (at_:Nat) (acc:List β),(rowsG k ls at_ acc).2.1<=12
 | [],_,_=>by simp[rowsG]
 | [l],_,_=>by rw[zu7];split<;>simp
 | l :: l2 :: r,at_,acc=>by
  rw[za2h];split
  ·exact b l
  ·split
   ·simp
   ·exact za2i k b (l2 :: r) _ _
theorem zg9 {β:Type} (k:FK β) (b:∀l,(k.rd l).2<=12) (s:List UInt8):(readG k s).2.1<=12/\(readG k s).1.length<=40:=by
 unfold readG;split
 ·simp
 ·split
  ·simp
  ·split
   ·simp
   ·split
    ·simp
    ·have h:=za2i k b (pieces 10 (Lib.cut s [10]).2.1) 0 [];generalize rowsG k (pieces 10 (Lib.cut s [10]).2.1) 0 []=R at h;unfold endG;split
     ·exact⟨h,by simp⟩
     ·split
      ·simp
      ·split
       ·refine⟨by simp,?_⟩;dsimp only;omega
       ·simp
theorem ze7 (n:Int) (b: -1073741824<=n) (c:n<=4294967296):(itoa n).length<=11:=by
 unfold itoa;split
 ·have:=zg6 9 n.natAbs (by omega);simp;omega
 ·have:=zg6 9 n.toNat (by omega);omega
theorem zb1u {K:List UInt8} (k:K.length<=4) (n lo hi b:Int) (l:0<=n/\n<=1000) (c:inNum lo=true) (d:inNum hi=true) (m:0<=b/\b<4294967296):(headL K n lo hi b).length<=60:=by
 simp only[inNum,Bool.and_eq_true,decide_eq_true_eq]at c d;have f:=ze7 n (by omega) (by omega);have g:=ze7 lo (by omega) (by omega);have i:=ze7 hi (by omega) (by omega);have j:=ze7 b (by omega) (by omega);unfold headL;simp only[List.length_append,List.length_cons];omega
theorem zo9 {β:Type} {k:FK β} (K:k.Fine):∀xs:List β,(∀x∈xs,k.ok x)->(linesG k xs).length<=33*xs.length
 | [],_=>by simp[linesG]
 | x :: xs,h=>by
  have b:=zo9 K xs (fun y hy=>h y (List.mem_cons_of_mem _ hy));have c:=K.len x (h x List.mem_cons_self);rw[za2f];simp only[List.length_append,List.length_cons];omega
theorem za2j {β:Type} {k:FK β} (K:k.Fine) (xs:List β) (h:∀x∈xs,k.ok x) (g:xs.length<=40):(fileG k xs).length<=1400:=by
 have d:=zo9 K xs h;obtain⟨b,c⟩:=zu6 K h;have f:=zb1u K.wlen xs.length _ _ (sumL (linesG k xs)) (by omega) b c (by have:=zu3 (linesG k xs);omega);unfold fileG;simp only[List.length_append,List.length_cons];omega
def kData:List UInt8:= [100,97,116,97]
theorem za2k (x:Rw) (h:rowE x=0):(textL x).length<=32:=by
 have b:=zu1 h;simp only[nameB,Bool.and_eq_true,decide_eq_true_eq]at b;have c:inNum x.2.1=true/\inNum x.2.2=true:=by
  unfold rowE at h;rw[if_pos (zu1 h)]at h;split at h
  ·rename_i d;simpa using d
  ·omega
 simp only[inNum,Bool.and_eq_true,decide_eq_true_eq]at c;have f:=zi1 x.2.1 (by omega) (by omega);have g:=zi1 x.2.2 (by omega) (by omega);unfold textL;simp only[List.length_append,List.length_cons];omega
def dataK:FK Rw:=⟨kData,readO,fun x y=>ltOf cfR x y,(·.2.1),textL,fun x=>rowE x=0,(bytesOf [],0,0)⟩
theorem zu8:dataK.Fine where
 noend:=fun x h=>zb1l x h
 len:=fun x h=>za2k x h
 back:=fun x h=>zb1g x h
 inn:=fun x h=>by
  have h:rowE x=0:=h;unfold rowE at h;split at h
  ·split at h
   ·rename_i b;simp only[Bool.and_eq_true]at b;exact b.1
   ·omega
  ·omega
 wlen:=by decide
 wend:=by decide
 wblank:=by decide
abbrev linesL (xs:List Rw):List UInt8:=linesG dataK xs
abbrev fileOf (xs:List Rw):List UInt8:=fileG dataK xs
abbrev rowsO (ls:List (List UInt8)) (at_:Nat) (acc:List Rw):List Rw×Nat×Nat:=rowsG dataK ls at_ acc
abbrev endO (n lo hi:Int) (R:List Rw×Nat×Nat):List Rw×Nat×Option Nat:=endG dataK n lo hi R
abbrev dataO (s:List UInt8):List Rw×Nat×Option Nat:=readG dataK s
abbrev keysR (xs:List Rw):List Int:=keysG dataK xs
theorem zb1v (xs:List Rw) (x:Rw):keysR (xs++ [x])=keysR xs++ [x.2.1]:=by simp[keysG,dataK]
theorem zb1w (xs:List Rw) (x:Rw):linesL (xs++ [x])=linesL xs++(textL x++ [10]):=za2g dataK xs x
theorem zb1x (xs:List Rw) (h:∀x∈xs,rowE x=0):(linesL xs).length<=33*xs.length:=zo9 zu8 xs h
theorem zb1y {xs:List Rw} (h:∀x∈xs,rowE x=0):inNum (endsZ (keysR xs)).1=true/\inNum (endsZ (keysR xs)).2=true:=zu6 zu8 h
theorem zb1z (l:List UInt8) (b:Nat) (c:List Rw):rowsO [l] b c=if l= [] then (c,0,0) else ([],1,b):=rfl
theorem zb2a (l d:List UInt8) (r:List (List UInt8)) (b:Nat) (c:List Rw):rowsO (l :: d :: r) b c=if (readO l).2≠0 then ([],(readO l).2,b) else
 if c≠ []/\ltOf cfR (readO l).1 (c.getLastD (bytesOf [],0,0))=true then ([],9,b) else rowsO (d :: r) (b+1) (c++ [(readO l).1]):=rfl
theorem zb2b (xs:List Rw) (h:∀x∈xs,rowE x=0) (b:xs.length<=40):(fileOf xs).length<=1400:=za2j zu8 xs h b
def kGone:List UInt8:= [103,111,110,101]
def keyO (l:List UInt8):Int×Nat:=match numO l with
 | none=>(0,1)
 | some n=>if inNum n then (n,0) else (0,2)
def goneK:FK Int:=⟨kGone,keyO,fun x y=>decide (x<=y),fun x=>x,itoa,fun x=>inNum x=true,0⟩
theorem zp0:goneK.Fine where
 noend:=fun x _=>zu0 x
 len:=fun x h=>by
  have h:inNum x=true:=h;simp only[inNum,Bool.and_eq_true,decide_eq_true_eq]at h;have:=zi1 x (by omega) (by omega);show (itoa x).length<=32;omega
 back:=fun x h=>by
  have h:inNum x=true:=h;show keyO (itoa x)=(x,0);unfold keyO;rw[zk5 x h];simp[h]
 inn:=fun x h=>h
 wlen:=by decide
 wend:=by decide
 wblank:=by decide
theorem zu9 (xs:List Int):keysG goneK xs=xs:=by simp[keysG,goneK]
end Go.Proofs.YtgckdomafbnmkaaGreatDoor
