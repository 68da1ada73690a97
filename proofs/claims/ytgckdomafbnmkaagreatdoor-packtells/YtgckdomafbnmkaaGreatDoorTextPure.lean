/- By an AI agent. -/
import Derived.Test.YtgckdomafbnmkaaGreatDoorPure
import Derived.Lib.Split
import Derived.Lib.SplitLaws
import Derived.Lib.IndexLaws
import Derived.Lib.IndexBytes
import Derived.Lib.Atoi
import Derived.Lib.AtoiBound
import Derived.Lib.ItoaNum
import Derived.Lib.ItoaMem
set_option maxRecDepth 100000
set_option maxHeartbeats 16000000
namespace Go.Proofs.YtgckdomafbnmkaaGreatDoor
open Go Go.Lib
def words:List UInt8->List (List UInt8)
 | []=> [[]]
 | c :: r=>if c=32 then [] :: words r else match words r with
  | []=> [[c]]
  | w :: ws=>(c :: w) :: ws
theorem zo5:∀a:List UInt8,(∀c∈a,c≠32)->words a= [a]
 | [],_=>rfl
 | c :: r,h=>by
  have b:=zo5 r (fun d hd=>h d (List.mem_cons_of_mem _ hd));unfold words;rw[if_neg (h c List.mem_cons_self),b]
theorem zk4:∀a b:List UInt8,(∀c∈a,c≠32)->words (a++32 :: b)=a :: words b
 | [],b,_=>by simp[words]
 | c :: r,b,h=>by
  have f:=zk4 r b (fun d hd=>h d (List.mem_cons_of_mem _ hd));rw[List.cons_append,words,if_neg (h c List.mem_cons_self),f]
def sp:ByteArray:=⟨#[32]⟩
theorem zt7 (s:ByteArray):indexB s sp=indexByte s.data.toList 32:=one s sp rfl
theorem zb1c:∀n (s:ByteArray),s.size<=n->(splitB sp 0 (countB s sp) s).map (·.data.toList)=words s.data.toList/\countB s sp+1=(words s.data.toList).length:=by
 intro n
 induction n with
 | zero =>
  intro s v;have r:s.data.toList= []:=by
   cases s with | mk d=>simp [ByteArray.size]at v;simp[v]
  have b:indexB s sp= -1:=by rw[zt7,r];rfl
  rw[countB_miss s sp b,splitB_zero,r];simp[words,r]
 | succ n ih =>
  intro s v;rcases indexB_cases s sp with b | ⟨i,b,E⟩
  ·have l:∀c∈s.data.toList,c≠32:=by
    intro c y e;rw[zt7]at b;obtain⟨k,g⟩:=List.mem_iff_getElem?.1 y;exact indexByte_none b k (by rw[g,e])
   rw[countB_miss s sp b,splitB_zero,zo5 _ l];simp
  ·have m:sp.size=1:=rfl;have p:=b;rw[zt7]at p;obtain⟨f,j⟩:=indexByte_some p;have q:i<s.data.toList.length:=by
    rcases Nat.lt_or_ge i s.data.toList.length with h | h
    ·exact h
    ·rw[List.getElem?_eq_none h]at f;cases f
   have o:s.data.toList=s.data.toList.take i++32 :: s.data.toList.drop (i+1):=by
    have t:=List.take_append_drop i s.data.toList;rw[List.drop_eq_getElem_cons q]at t;rw[List.getElem?_eq_getElem q]at f;rw[Option.some.inj f]at t;exact t.symm
   have l:∀c∈s.data.toList.take i,c≠32:=by
    intro c y e;obtain⟨k,g⟩:=List.mem_iff_getElem?.1 y;rw[List.getElem?_take]at g;split at g
    ·rename_i B;exact j k B (by rw[g,e])
    ·cases g
   have u:(s.extract (i+sp.size) s.size).size<=n:=by
    rw[ByteArray.size_extract,m];omega
   obtain⟨z,A⟩:=ih (s.extract (i+sp.size) s.size) u;have C:(s.extract (i+sp.size) s.size).data.toList=s.data.toList.drop (i+1):=by
    rw[extract_to_end,m]
   rw[C]at z A;have D:words s.data.toList=s.data.toList.take i :: words (s.data.toList.drop (i+1)):=by
    conv=>lhs;rw[o]
    exact zk4 _ _ l
   rw[countB_hit s sp i (by rw[m];omega) b,Nat.add_comm 1,splitB_hit sp 0 _ s i b,D,List.map_cons,z,extract_from_zero];refine⟨by simp,?_⟩;rw[List.length_cons,<-A]
/-! Numerals -/
theorem zt8:∀(l:List UInt8) (acc:Nat) (r:List UInt8),decFrom acc (l++r)=(decFrom acc l).bind fun m=>decFrom m r
 | [],_,_=>rfl
 | b :: l,acc,r=>by
  simp only[List.cons_append,decFrom]
  cases digitVal b with
  | none=>rfl
  | some d=>exact zt8 l _ r
theorem za1x (d:Nat) (h:d<10):digitVal (UInt8.ofNat (48+d))=some d:=by
 have e:(UInt8.ofNat (48+d)).toNat=48+d:=by simp;omega
 unfold digitVal;rw[e,if_pos (by omega)];congr 1;omega
theorem zb1d (u:Nat):decFrom 0 (decDigits u)=some u:=by
 induction u using Nat.strongRecOn with
 | _ u ih =>
  rw[decDigits];by_cases h:u<10
  ·rw[dif_pos h];simp only[decFrom,za1x u h];congr 1;omega
  ·rw[dif_neg h,zt8,ih (u / 10) (by omega)];simp only[Option.bind_some,decFrom,za1x (u % 10) (by omega)];congr 1;omega
theorem zo6 (u:Nat):decDigits u≠ []:=by
 rw[decDigits];by_cases h:u<10
 ·rw[dif_pos h];simp
 ·rw[dif_neg h];simp
theorem zf5 (u:Nat):∀c∈decDigits u,48<=c.toNat/\c.toNat<=57:=by
 induction u using Nat.strongRecOn with
 | _ u ih =>
  rw[decDigits];by_cases h:u<10
  ·rw[dif_pos h];intro c b;simp only[List.mem_singleton]at b;subst b;have e:(UInt8.ofNat (48+u)).toNat=48+u:=by simp;omega
   omega
  ·rw[dif_neg h];intro c b;rw[List.mem_append]at b;rcases b with b | b
   ·exact ih (u / 10) (by omega) c b
   ·simp only[List.mem_singleton]at b;subst b;have e:(UInt8.ofNat (48+u % 10)).toNat=48+u % 10:=by simp;omega
    omega
theorem zg6:∀(k u:Nat),u<10 ^ (k+1)->(decDigits u).length<=k+1
 | 0,u,h=>by
  rw[decDigits,dif_pos (by simpa using h)];simp
 | k+1,u,h=>by
  rw[decDigits];by_cases b:u<10
  ·rw[dif_pos b];simp
  ·rw[dif_neg b];have:=zg6 k (u / 10) (by rw[Nat.pow_succ]at h;omega);simp;omega
theorem za1y (u:Nat):decNat (decDigits u)=some u:=by
 unfold decNat;rw[if_neg (by simp[zo6]),zb1d]
theorem zb1e (n:Int):atoi (itoa n)=some n:=by
 unfold itoa;by_cases h:n<0
 ·rw[if_pos h];simp only[atoi,beq_self_eq_true,if_true,za1y,Option.map_some];congr 1;omega
 ·rw[if_neg h]
  cases c:decDigits n.toNat with
  | nil=>exact absurd c (zo6 _)
  | cons b r =>
   have d:=zf5 n.toNat b (by rw[c];exact List.mem_cons_self);have f:¬(b == 45)=true:=by
    intro e;rw[beq_iff_eq]at e;subst e;simp at d
   have g:¬(b == 43)=true:=by
    intro e;rw[beq_iff_eq]at e;subst e;simp at d
   simp only[atoi,if_neg f,if_neg g];rw[<-c,za1y];simp only[Option.map_some];congr 1;omega
theorem za1z (n:Int):∀c∈itoa n,c≠32:=by
 intro c b e;subst e;unfold itoa at b;split at b
 ·rw[List.mem_cons]at b;rcases b with b | b
  ·simp at b
  ·have:=zf5 _ _ b;simp at this
 ·have:=zf5 _ _ b;simp at this
theorem zi1 (n:Int) (b: -1073741824<=n) (c:n<=1073741824):(itoa n).length<=11:=by
 unfold itoa;split
 ·have:=zg6 9 n.natAbs (by omega);simp;omega
 ·have:=zg6 9 n.toNat (by omega);omega
/-! A row's checks,its text,and what a text is -/
def nbI (n:Int):Bool:=(decide (97<=n) && decide (n<=122)) || (decide (48<=n) && decide (n<=57))
def wordB (m:Nat) (s:List UInt8):Bool:=decide (1<=s.length) && decide (s.length<=m) && s.all fun c=>nbI c.toNat
def nameB (s:List UInt8):Bool:=decide (1<=s.length) && decide (s.length<=8) && s.all fun c=>nbI c.toNat
def inNum (n:Int):Bool:=decide (-1073741824<=n) && decide (n<=1073741824)
def rowE (x:Rw):Nat:=if nameB x.1.data.toList then (if inNum x.2.1 && inNum x.2.2 then 0 else 2) else 5
def numO (s:List UInt8):Option Int :=
 if s.length<=11 then (match atoi s with
  | some n=>if itoa n=s then some n else none
  | none=>none) else none
def bytesOf (l:List UInt8):ByteArray:=⟨l.toArray⟩
def readO (s:List UInt8):Rw×Nat :=
 match words s with
 | [p,k,v]=>(match numO k,numO v with
  | some a,some b=>if rowE (bytesOf p,a,b)=0 then ((bytesOf p,a,b),0) else ((bytesOf [],0,0),rowE (bytesOf p,a,b))
  | _,_=>((bytesOf [],0,0),1))
 | _=>((bytesOf [],0,0),1)
def textL (x:Rw):List UInt8:=x.1.data.toList++32 :: (itoa x.2.1++32 :: itoa x.2.2)
theorem zk5 (n:Int) (h:inNum n=true):numO (itoa n)=some n:=by
 simp only[inNum,Bool.and_eq_true,decide_eq_true_eq]at h;unfold numO;rw[if_pos (zi1 n h.1 h.2),zb1e];simp
theorem zc8o {m:Nat} {s:List UInt8} (h:wordB m s=true):∀c∈s,c≠32:=by
 intro c b e;subst e;simp only[wordB,Bool.and_eq_true,List.all_eq_true]at h;have:=h.2 _ b;simp[nbI]at this
theorem zb1f {s:List UInt8} (h:nameB s=true):∀c∈s,c≠32:=by
 intro c b e;subst e;simp only[nameB,Bool.and_eq_true,List.all_eq_true]at h;have:=h.2 _ b;simp[nbI]at this
theorem zd8 (s:ByteArray):bytesOf s.data.toList=s:=by
 cases s;simp[bytesOf]
theorem zb1g (x:Rw) (h:rowE x=0):readO (textL x)=(x,0):=by
 have b:nameB x.1.data.toList=true:=by
  unfold rowE at h;split at h
  ·assumption
  ·omega
 have c:inNum x.2.1=true/\inNum x.2.2=true:=by
  unfold rowE at h;rw[if_pos b]at h;split at h
  ·rename_i f;simpa using f
  ·omega
 have d:words (textL x)= [x.1.data.toList,itoa x.2.1,itoa x.2.2]:=by
  unfold textL;rw[zk4 _ _ (zb1f b),zk4 _ _ (za1z _),zo5 _ (za1z _)]
 unfold readO;rw[d];simp only[zk5 _ c.1,zk5 _ c.2,zd8];have e:((x.1,x.2.1,x.2.2):Rw)=x:=rfl;rw[e,if_pos h]
end Go.Proofs.YtgckdomafbnmkaaGreatDoor
