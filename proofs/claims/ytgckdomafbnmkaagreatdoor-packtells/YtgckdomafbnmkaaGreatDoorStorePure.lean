/- By an AI agent. -/
import Derived.Test.YtgckdomafbnmkaaGreatDoorDataPure
set_option maxRecDepth 100000
set_option maxHeartbeats 16000000
namespace Go.Proofs.YtgckdomafbnmkaaGreatDoor
open Go Go.Lib
abbrev Ob:=ByteArray×ByteArray×Int
structure St where
 obs:List Ob
 head:ByteArray
 day:Int
 off:Bool
 cut:Int
def newS:St:=⟨[],⟨#[]⟩,0,false,-1⟩
def getO (l:List Ob) (n:ByteArray):Option Ob:=l.find? fun o=>decide (o.1=n)
def signB (c:UInt8):Bool:=(decide (97<=c.toNat) && decide (c.toNat<=122)) || (decide (48<=c.toNat) && decide (c.toNat<=57)) || decide (c.toNat=47)
def objB (s:List UInt8):Bool:=s.all signB && decide (1<=s.length) && decide (s.length<=16)
def bytesS (l:List Ob):Nat:=(l.map fun o=>o.2.1.size).sum
def wrtS (s:St) (n:Nat):Nat×St:=if s.cut<0 then (n,s) else if s.cut<n then (s.cut.toNat, { s with off:=true }) else (n, { s with cut:=s.cut-n })
def insO (l:List Ob) (o:Ob):List Ob:=l.takeWhile (fun p=>decide (p.1.data.toList<o.1.data.toList))++o :: l.dropWhile (fun p=>decide (p.1.data.toList<o.1.data.toList))
def putE (s:St) (n t:ByteArray):Nat:=if objB n.data.toList=false then 5 else if 20000<t.size then 2 else if s.off=true then 12 else if (getO s.obs n).isSome=true then 7 else if 200<=s.obs.length\/262144<bytesS s.obs+t.size then 8 else 0
def putS (s:St) (n t:ByteArray):St:=if putE s n t≠0 then s else { (wrtS s t.size).2 with obs:=insO s.obs (n,bytesOf (t.data.toList.take (wrtS s t.size).1),s.day) }
def putC (s:St) (n t:ByteArray):Nat:=if putE s n t≠0 then putE s n t else if (wrtS s t.size).2.off=true then 12 else 0
structure Keeps (s:St):Prop where
 rise:s.obs.Pairwise fun a b=>a.1.data.toList<b.1.data.toList
 names:∀o∈s.obs,objB o.1.data.toList=true
 texts:∀o∈s.obs,o.2.1.size<=20000
 many:s.obs.length<=200
 day0:0<=s.day
 day1:s.day<=100000
 cut0: -1<=s.cut
 head:s.head.size<=20000
theorem zb5u:Keeps newS:=⟨List.Pairwise.nil,fun _ h=>(nomatch h),fun _ h=>(nomatch h),by decide,by decide,by decide,by decide,by decide⟩
theorem zl7 (s:St) (n:Nat):(wrtS s n).2.obs=s.obs/\(wrtS s n).2.head=s.head/\(wrtS s n).2.day=s.day:=by
 unfold wrtS;split
 ·exact⟨rfl,rfl,rfl⟩
 ·split<;>exact ⟨rfl,rfl,rfl⟩
theorem zy3 (s:St) (n:Nat):(wrtS s n).1<=n:=by
 unfold wrtS;split
 ·exact Nat.le_refl _
 ·split
  ·dsimp only;omega
  ·exact Nat.le_refl _
theorem zb5v {s:St} {n:Nat} (h: -1<=s.cut): -1<=(wrtS s n).2.cut:=by
 unfold wrtS;split
 ·exact h
 ·split
  ·exact h
  ·dsimp only;omega
theorem za5e {a b c:List UInt8} (h:a<b) (d:b<c):a<c:=List.lt_trans h d
theorem zr0 (a:List UInt8):¬a<a:=List.lt_irrefl a
theorem zl8 {a b:ByteArray} (h:a.data.toList=b.data.toList):a=b:=by
 have:bytesOf a.data.toList=bytesOf b.data.toList:=by rw[h]
 rwa [zd8,zd8]at this
theorem zh2 {l:List Ob} {n:ByteArray} {o:Ob} (h:getO l n=some o):o∈l/\o.1=n:=by
 unfold getO at h;exact⟨List.mem_of_find?_eq_some h,by simpa using List.find?_some h⟩
theorem zh3 {l:List Ob} {n:ByteArray} :getO l n=none↔∀o∈l,o.1≠n:=by
 unfold getO;rw[List.find?_eq_none];simp
theorem zb5w {l:List Ob} (h:l.Pairwise fun a b=>a.1.data.toList<b.1.data.toList) {p o:Ob} (k:p∈l) (m:o∈l) (g:p≠o):p.1.data.toList<o.1.data.toList\/o.1.data.toList<p.1.data.toList:=by
 obtain⟨i,d,rfl⟩:=List.mem_iff_getElem.1 k;obtain⟨j,f,rfl⟩:=List.mem_iff_getElem.1 m;rcases Nat.lt_trichotomy i j with c | c | c
 ·exact Or.inl (List.pairwise_iff_getElem.1 h i j d f c)
 ·subst c;exact absurd rfl g
 ·exact Or.inr (List.pairwise_iff_getElem.1 h j i f d c)
theorem zl9 {l:List Ob} (h:l.Pairwise fun a b=>a.1.data.toList<b.1.data.toList) {o:Ob} (g:o∈l):getO l o.1=some o:=by
 cases e:getO l o.1 with
 | none=>exact absurd rfl (zh3.1 e o g)
 | some p =>
  obtain⟨i,f⟩:=zh2 e;by_cases d:p=o
  ·rw[d]
  ·rcases zb5w h i g d with c | c
   ·rw[f]at c;exact absurd c (zr0 _)
   ·rw[f]at c;exact absurd c (zr0 _)
theorem zg0 {l:List Ob} {o p:Ob} :p∈insO l o↔p=o\/p∈l:=by
 unfold insO;have h:p∈l↔p∈l.takeWhile (fun p=>decide (p.1.data.toList<o.1.data.toList))\/p∈l.dropWhile (fun p=>decide (p.1.data.toList<o.1.data.toList)):=by
  rw[<-List.mem_append,List.takeWhile_append_dropWhile]
 rw[List.mem_append,List.mem_cons,h];constructor
 ·rintro(h | h | h)
  ·exact Or.inr (Or.inl h)
  ·exact Or.inl h
  ·exact Or.inr (Or.inr h)
 ·rintro(h | h | h)
  ·exact Or.inr (Or.inl h)
  ·exact Or.inl h
  ·exact Or.inr (Or.inr h)
theorem zy4 (l:List Ob) (o:Ob):(insO l o).length=l.length+1:=by
 have h:=congrArg List.length (List.takeWhile_append_dropWhile (p:=fun p:Ob=>decide (p.1.data.toList<o.1.data.toList)) (l:=l));rw[List.length_append]at h;unfold insO;rw[List.length_append,List.length_cons];omega
theorem za5f:∀ {l:List Ob} (o:Ob),(l.Pairwise fun a b=>a.1.data.toList<b.1.data.toList)->(∀p∈l,p.1≠o.1)->∃xs ys,l=xs++ys/\(∀p∈xs,p.1.data.toList<o.1.data.toList)/\∀p∈ys,o.1.data.toList<p.1.data.toList
 | [],o,_,_=>⟨[], [],rfl,fun _ h=>(nomatch h),fun _ h=>(nomatch h)⟩
 | p :: r,o,h,hne=>by
  obtain⟨g,i⟩:=List.pairwise_cons.1 h;by_cases f:p.1.data.toList<o.1.data.toList
  ·obtain⟨xs,ys,rfl,j,k⟩:=za5f o i (fun q c=>hne q (List.mem_cons_of_mem _ c));refine⟨p :: xs,ys,rfl,fun q c=>?_,k⟩;rcases List.mem_cons.1 c with rfl | c
   ·exact f
   ·exact j q c
  ·have d:o.1.data.toList<p.1.data.toList:=by
    by_cases d:o.1.data.toList<p.1.data.toList
    ·exact d
    ·exact absurd (zl8 (List.le_antisymm (List.not_lt.1 d) (List.not_lt.1 f))) (hne p List.mem_cons_self)
   refine⟨[],p :: r,rfl,fun _ h=>(nomatch h),fun q c=>?_⟩;rcases List.mem_cons.1 c with rfl | c
   ·exact d
   ·exact za5e d (g q c)
theorem zb5x {xs b:List Ob} {o:Ob} (d:∀p∈xs,p.1.data.toList<o.1.data.toList) (j:∀p∈b,o.1.data.toList<p.1.data.toList):insO (xs++b) o=xs++o :: b:=by
 have c:∀p∈b,¬p.1.data.toList<o.1.data.toList:=fun p hp h=>zr0 _ (za5e h (j p hp));have f:(xs++b).takeWhile (fun p=>decide (p.1.data.toList<o.1.data.toList))=xs:=by
  rw[List.takeWhile_append_of_pos (fun g hg=>by simpa using d g hg)]
  cases b with
  | nil=>simp
  | cons y r=>rw [List.takeWhile_cons_of_neg (by simpa using c y List.mem_cons_self),List.append_nil]
 have i:(xs++b).dropWhile (fun p=>decide (p.1.data.toList<o.1.data.toList))=b:=by
  rw[List.dropWhile_append_of_pos (fun g hg=>by simpa using d g hg)]
  cases b with
  | nil=>simp
  | cons y r=>rw [List.dropWhile_cons_of_neg (by simpa using c y List.mem_cons_self)]
 unfold insO;rw[f,i]
theorem zm0 {l:List Ob} {o:Ob} (h:l.Pairwise fun a b=>a.1.data.toList<b.1.data.toList) (g:∀p∈l,p.1≠o.1):(insO l o).Pairwise fun a b=>a.1.data.toList<b.1.data.toList:=by
 obtain⟨m,n,rfl,d,f⟩:=za5f o h g;rw[zb5x d f];obtain⟨i,j,k⟩:=List.pairwise_append.1 h;refine List.pairwise_append.2 ⟨i,List.pairwise_cons.2 ⟨f,j⟩,fun a ha b c=>?_⟩;rcases List.mem_cons.1 c with rfl | c
 ·exact d a ha
 ·exact k a ha b c
theorem zy5 {l:List Ob} {o:Ob} (h:l.Pairwise fun a b=>a.1.data.toList<b.1.data.toList) (c:∀p∈l,p.1≠o.1):getO (insO l o) o.1=some o:=zl9 (zm0 h c) (zg0.2 (Or.inl rfl))
theorem za5g {l:List Ob} {o:Ob} {n:ByteArray} (h:l.Pairwise fun a b=>a.1.data.toList<b.1.data.toList) (d:∀p∈l,p.1≠o.1) (i:n≠o.1):getO (insO l o) n=getO l n:=by
 cases e:getO l n with
 | none =>
  refine zh3.2 fun p c=>?_;rcases zg0.1 c with rfl | c
  ·exact fun e=>i e.symm
  ·exact zh3.1 e p c
 | some p =>
  obtain⟨f,g⟩:=zh2 e;rw[<-g];exact zl9 (zm0 h d) (zg0.2 (Or.inr f))
theorem zb5y {s:St} {n t:ByteArray} (h:putE s n t=0):objB n.data.toList=true/\t.size<=20000/\s.off=false/\(∀o∈s.obs,o.1≠n)/\s.obs.length<200/\bytesS s.obs+t.size<=262144:=by
 unfold putE at h;split at h
 ·cases h
 ·rename_i b;split at h
  ·cases h
  ·rename_i f;split at h
   ·cases h
   ·rename_i c;split at h
    ·cases h
    ·rename_i d;split at h
     ·cases h
     ·rename_i g;refine⟨by simpa using b,by omega,by simpa using c,zh3.1 (by simpa using d),by omega,by omega⟩
theorem zh4 {s:St} {n t:ByteArray} (h:putE s n t≠0):putS s n t=s/\putC s n t=putE s n t:=by
 unfold putS putC;rw[if_pos h,if_pos h];exact⟨rfl,rfl⟩
theorem za5h {s:St} {n t:ByteArray} (h:putE s n t=0):putS s n t= { (wrtS s t.size).2 with obs:=insO s.obs (n,bytesOf (t.data.toList.take (wrtS s t.size).1),s.day) } /\putC s n t=if (wrtS s t.size).2.off=true then 12 else 0:=by
 unfold putS putC;rw[if_neg (by simpa using h),if_neg (by simpa using h)];exact⟨rfl,rfl⟩
theorem zb5z (t:ByteArray) (k:Nat):(bytesOf (t.data.toList.take k)).size<=t.size:=by
 have:(bytesOf (t.data.toList.take k)).size=(t.data.toList.take k).length:=by show (t.data.toList.take k).toArray.size=_;simp
 rw[this,List.length_take];have:t.data.toList.length=t.size:=by show _=t.data.size;simp
 omega
theorem zb6a {s:St} (K:Keeps s) (n t:ByteArray):Keeps (putS s n t):=by
 by_cases h:putE s n t=0
 ·obtain⟨d,f,j,g,k,l⟩:=zb5y h;rw[(za5h h).1];obtain⟨_,i,c⟩:=zl7 s t.size;refine⟨zm0 K.rise g,fun o b=>?_,fun o b=>?_,?_,?_,?_,zb5v K.cut0,?_⟩
  ·rcases zg0.1 b with rfl | b
   ·exact d
   ·exact K.names o b
  ·rcases zg0.1 b with rfl | b
   ·exact Nat.le_trans (zb5z t _) f
   ·exact K.texts o b
  ·show (insO _ _).length<=200;rw[zy4];omega
  ·show 0<=(wrtS s t.size).2.day;rw[c];exact K.day0
  ·show (wrtS s t.size).2.day<=100000;rw[c];exact K.day1
  ·show (wrtS s t.size).2.head.size<=20000;rw[i];exact K.head
 ·rw[(zh4 h).1];exact K
end Go.Proofs.YtgckdomafbnmkaaGreatDoor
