/- By an AI agent. -/
import Derived.Test.YtcllhobffhkafaaGreatDoorDataPure
set_option maxRecDepth 100000
set_option maxHeartbeats 16000000
open List renaming mem_filter->Qc,mem_cons->Qd,mem_cons_self->Qe,mem_iff_getElem->Qf,pairwise_iff_getElem->Qg,mem_append->Qh,takeWhile_append_dropWhile->Qi,length_append->Qj,pairwise_cons->Qk,not_lt->Ql,pairwise_append->Qm,filter_sublist->Qn
open Or renaming inr->Qa,inl->Qb
namespace Go.Proofs.YtcllhobffhkafaaGreatDoor
open Go Go.Lib
abbrev Ob:=ByteArray×ByteArray×Int
structure St where
 obs:List Ob
 head:ByteArray
 day:Int
 off:Bool
 cut:Int
def Ff:St:=⟨[],⟨#[]⟩,0,false,-1⟩
def B1 (l:List Ob) (n:ByteArray):Option Ob:=l.find? fun o=>decide (o.1=n)
def GM (c:UInt8):Bool:=(decide (97<=c.toNat) && decide (c.toNat<=122)) || (decide (48<=c.toNat) && decide (c.toNat<=57)) || decide (c.toNat=47)
def CF (s:List UInt8):Bool:=s.all GM && decide (1<=s.length) && decide (s.length<=16)
def Cq (l:List Ob):Nat:=(l.map fun o=>o.2.1.size).sum
def Au (s:St) (n:Nat):Nat×St:=if s.cut<0 then (n,s) else if s.cut<n then (s.cut.toNat, { s with off:=true }) else (n, { s with cut:=s.cut-n })
def Cr (l:List Ob) (o:Ob):List Ob:=l.takeWhile (fun p=>decide (p.1.data.toList<o.1.data.toList))++o :: l.dropWhile (fun p=>decide (p.1.data.toList<o.1.data.toList))
def CP (s:St) (n t:ByteArray):Nat:=if CF n.data.toList=false then 5 else if 20000<t.size then 2 else if s.off=true then 12 else if (B1 s.obs n).isSome=true then 7 else if 200<=s.obs.length\/262144<Cq s.obs+t.size then 8 else 0
def B0 (s:St) (n t:ByteArray):St:=if CP s n t≠0 then s else { (Au s t.size).2 with obs:=Cr s.obs (n,Ab (t.data.toList.take (Au s t.size).1),s.day) }
def BG (s:St) (n t:ByteArray):Nat:=if CP s n t≠0 then CP s n t else if (Au s t.size).2.off=true then 12 else 0
def Fg (s:St) (n:ByteArray):Nat:=if s.off=true then 12 else if (B1 s.obs n).isSome=false then 6 else 0
def Ep (s:St) (n:ByteArray):St:=if Fg s n≠0 then s else { s with obs:=s.obs.filter fun o=>decide (o.1≠n) }
def Ea (s:St) (old t:ByteArray):Nat:=if 20000<t.size then 2 else if s.off=true then 12 else if s.head≠old then 11 else 0
def C7 (s:St) (old t:ByteArray):Nat:=if Ea s old t≠0 then Ea s old t else if (Au s t.size).1<t.size then 12 else 0
def B5 (s:St) (old t:ByteArray):St:=if Ea s old t≠0 then s else if (Au s t.size).1<t.size then (Au s t.size).2 else { (Au s t.size).2 with head:=t }
def Hr (s:St) (n:Int):Nat:=if n<0 then 2 else if s.off=true then 12 else 0
def Er (s:St) (n:Int):St:=if Hr s n≠0 then s else { s with cut:=n }
def Br (s:St):St:= { s with off:=false,cut:= -1 }
def Il (s:St) (n:Int):Nat:=if n<0\/100000-s.day<n then 2 else 0
def Hs (s:St) (n:Int):St:=if Il s n≠0 then s else { s with day:=s.day+n }
def Ht (l:List Ob) (n:ByteArray):Int:=match B1 l n with
 | some o=>o.2.2
 | none=> -1
structure AR (s:St):Prop where
 rise:s.obs.Pairwise fun a b=>a.1.data.toList<b.1.data.toList
 names:∀o∈s.obs,CF o.1.data.toList=true
 texts:∀o∈s.obs,o.2.1.size<=20000
 many:s.obs.length<=200
 day0:0<=s.day
 day1:s.day<=100000
 cut0: -1<=s.cut
 head:s.head.size<=20000
theorem cY:AR Ff:=⟨List.Pairwise.nil,fun _ h=>(nomatch h),fun _ h=>(nomatch h),by decide,by decide,by decide,by decide,by decide⟩
theorem Im (s:St) (n:Nat):(Au s n).2.obs=s.obs/\(Au s n).2.head=s.head/\(Au s n).2.day=s.day:=by
 unfold Au;split
 ·exact⟨rfl,rfl,rfl⟩
 ·split<;>exact ⟨rfl,rfl,rfl⟩
theorem cZ (s:St) (n:Nat):(Au s n).1<=n:=by
 unfold Au;split
 ·exact Nat.le_refl _
 ·split
  ·dsimp only;omega
  ·exact Nat.le_refl _
theorem Sk {s:St} {n:Nat} (h:s.off=false):((Au s n).2.off=false↔(Au s n).1=n):=by
 unfold Au;split
 ·simp[h]
 ·split
  ·dsimp only;constructor
   ·intro b;cases b
   ·intro b;omega
  ·simp[h]
theorem N6 {s:St} {n:Nat} (h: -1<=s.cut): -1<=(Au s n).2.cut:=by
 unfold Au;split
 ·exact h
 ·split
  ·exact h
  ·dsimp only;omega
theorem Sl {a b c:List UInt8} (h:a<b) (d:b<c):a<c:=List.lt_trans h d
theorem LQ (a:List UInt8):¬a<a:=List.lt_irrefl a
theorem JC {a b:ByteArray} (h:a.data.toList=b.data.toList):a=b:=by
 have:Ab a.data.toList=Ab b.data.toList:=by rw[h]
 rwa [Dy,Dy]at this
theorem FG {l:List Ob} {n:ByteArray} {o:Ob} (h:B1 l n=some o):o∈l/\o.1=n:=by
 exact⟨List.mem_of_find?_eq_some h,by simpa using List.find?_some h⟩
theorem Io {l:List Ob} {n:ByteArray} :B1 l n=none↔∀o∈l,o.1≠n:=by
 unfold B1;rw[List.find?_eq_none];simp
theorem dA {l:List Ob} (h:l.Pairwise fun a b=>a.1.data.toList<b.1.data.toList) {p o:Ob} (k:p∈l) (m:o∈l) (g:p≠o):p.1.data.toList<o.1.data.toList\/o.1.data.toList<p.1.data.toList:=by
 obtain⟨i,d,rfl⟩:=Qf.1 k;obtain⟨j,f,rfl⟩:=Qf.1 m;rcases Nat.lt_trichotomy i j with c | c | c
 ·exact Qb (Qg.1 h i j d f c)
 ·subst c;exact absurd rfl g
 ·exact Qa (Qg.1 h j i f d c)
theorem IR {l:List Ob} (h:l.Pairwise fun a b=>a.1.data.toList<b.1.data.toList) {o:Ob} (g:o∈l):B1 l o.1=some o:=by
 cases e:B1 l o.1 with
 | none=>exact absurd rfl (Io.1 e o g)
 | some p =>
  obtain⟨i,f⟩:=FG e;by_cases d:p=o
  ·rw[d]
  ·rcases dA h i g d with c | c
   ·rw[f]at c;exact absurd c (LQ _)
   ·rw[f]at c;exact absurd c (LQ _)
theorem GN {l:List Ob} {o p:Ob} :p∈Cr l o↔p=o\/p∈l:=by
 unfold Cr;have h:p∈l↔p∈l.takeWhile (fun p=>decide (p.1.data.toList<o.1.data.toList))\/p∈l.dropWhile (fun p=>decide (p.1.data.toList<o.1.data.toList)):=by
  rw[<-Qh,Qi]
 rw[Qh,Qd,h];constructor
 ·rintro(h | h | h)
  ·exact Qa (Qb h)
  ·exact Qb h
  ·exact Qa (Qa h)
 ·rintro(h | h | h)
  ·exact Qa (Qb h)
  ·exact Qb h
  ·exact Qa (Qa h)
theorem N7 (l:List Ob) (o:Ob):(Cr l o).length=l.length+1:=by
 have h:=congrArg List.length (Qi (p:=fun p:Ob=>decide (p.1.data.toList<o.1.data.toList)) (l:=l));rw[Qj]at h;unfold Cr;rw[Qj,List.length_cons];omega
theorem Sm:∀ {l:List Ob} (o:Ob),(l.Pairwise fun a b=>a.1.data.toList<b.1.data.toList)->(∀p∈l,p.1≠o.1)->∃xs ys,l=xs++ys/\(∀p∈xs,p.1.data.toList<o.1.data.toList)/\∀p∈ys,o.1.data.toList<p.1.data.toList
 | [],o,_,_=>⟨[], [],rfl,fun _ h=>(nomatch h),fun _ h=>(nomatch h)⟩
 | p :: r,o,h,hne=>by
  obtain⟨g,i⟩:=Qk.1 h;by_cases f:p.1.data.toList<o.1.data.toList
  ·obtain⟨xs,ys,rfl,j,k⟩:=Sm o i (fun q c=>hne q (List.mem_cons_of_mem _ c));refine⟨p :: xs,ys,rfl,fun q c=>?_,k⟩;rcases Qd.1 c with rfl | c
   ·exact f
   ·exact j q c
  ·have d:o.1.data.toList<p.1.data.toList:=by
    by_cases d:o.1.data.toList<p.1.data.toList
    ·exact d
    ·exact absurd (JC (List.le_antisymm (Ql.1 d) (Ql.1 f))) (hne p Qe)
   refine⟨[],p :: r,rfl,fun _ h=>(nomatch h),fun q c=>?_⟩;rcases Qd.1 c with rfl | c
   ·exact d
   ·exact Sl d (g q c)
theorem dB {xs ys:List Ob} {o:Ob} (c:∀p∈xs,p.1.data.toList<o.1.data.toList) (i:∀p∈ys,o.1.data.toList<p.1.data.toList):Cr (xs++ys) o=xs++o :: ys:=by
 have b:∀p∈ys,¬p.1.data.toList<o.1.data.toList:=fun p hp h=>LQ _ (Sl h (i p hp));have d:(xs++ys).takeWhile (fun p=>decide (p.1.data.toList<o.1.data.toList))=xs:=by
  rw[List.takeWhile_append_of_pos (fun g hg=>by simpa using c g hg)]
  cases ys with
  | nil=>simp
  | cons y r=>rw [List.takeWhile_cons_of_neg (by simpa using b y Qe),List.append_nil]
 have f:(xs++ys).dropWhile (fun p=>decide (p.1.data.toList<o.1.data.toList))=ys:=by
  rw[List.dropWhile_append_of_pos (fun g hg=>by simpa using c g hg)]
  cases ys with
  | nil=>simp
  | cons y r=>rw [List.dropWhile_cons_of_neg (by simpa using b y Qe)]
 unfold Cr;rw[d,f]
theorem Kv {l:List Ob} {o:Ob} (h:l.Pairwise fun a b=>a.1.data.toList<b.1.data.toList) (g:∀p∈l,p.1≠o.1):(Cr l o).Pairwise fun a b=>a.1.data.toList<b.1.data.toList:=by
 obtain⟨m,n,rfl,d,f⟩:=Sm o h g;rw[dB d f];obtain⟨i,j,k⟩:=Qm.1 h;refine Qm.2 ⟨i,Qk.2 ⟨f,j⟩,fun a ha b c=>?_⟩;rcases Qd.1 c with rfl | c
 ·exact d a ha
 ·exact k a ha b c
theorem LR {l:List Ob} {o:Ob} (h:l.Pairwise fun a b=>a.1.data.toList<b.1.data.toList) (c:∀p∈l,p.1≠o.1):B1 (Cr l o) o.1=some o:=IR (Kv h c) (GN.2 (Qb rfl))
theorem N8 {l:List Ob} {o:Ob} {n:ByteArray} (h:l.Pairwise fun a b=>a.1.data.toList<b.1.data.toList) (d:∀p∈l,p.1≠o.1) (i:n≠o.1):B1 (Cr l o) n=B1 l n:=by
 cases e:B1 l n with
 | none =>
  refine Io.2 fun p c=>?_;rcases GN.1 c with rfl | c
  ·exact fun e=>i e.symm
  ·exact Io.1 e p c
 | some p =>
  obtain⟨f,g⟩:=FG e;rw[<-g];exact IR (Kv h d) (GN.2 (Qa f))
theorem Kx {l:List Ob} {n m:ByteArray} (h:l.Pairwise fun a b=>a.1.data.toList<b.1.data.toList):B1 (l.filter fun o=>decide (o.1≠n)) m=if m=n then none else B1 l m:=by
 by_cases e:m=n
 ·rw[if_pos e];refine Io.2 fun p hp=>?_;have:=(Qc.1 hp).2;simp only[ne_eq,decide_not,Bool.not_eq_eq_eq_not,Bool.not_true,decide_eq_false_iff_not]at this;rw[e];exact this
 ·rw[if_neg e]
  cases d:B1 l m with
  | none=>exact Io.2 fun p hp=>Io.1 d p (Qc.1 hp).1
  | some p =>
   obtain⟨f,c⟩:=FG d;rw[<-c];exact IR (h.sublist Qn) (Qc.2 ⟨f,by simp only[decide_eq_true_eq,ne_eq];rw[c];exact e⟩)
theorem LU {s:St} {n t:ByteArray} (h:CP s n t=0):CF n.data.toList=true/\t.size<=20000/\s.off=false/\(∀o∈s.obs,o.1≠n)/\s.obs.length<200/\Cq s.obs+t.size<=262144:=by
 unfold CP at h;split at h
 ·cases h
 ·rename_i b;split at h
  ·cases h
  ·rename_i f;split at h
   ·cases h
   ·rename_i c;split at h
    ·cases h
    ·rename_i d;split at h
     ·cases h
     ·rename_i g;refine⟨by simpa using b,by omega,by simpa using c,Io.1 (by simpa using d),by omega,by omega⟩
theorem dC {s:St} {n t:ByteArray} (h:CP s n t≠0):B0 s n t=s/\BG s n t=CP s n t:=by
 unfold B0 BG;rw[if_pos h,if_pos h];exact⟨rfl,rfl⟩
theorem dD {s:St} {n t:ByteArray} (h:CP s n t=0):B0 s n t= { (Au s t.size).2 with obs:=Cr s.obs (n,Ab (t.data.toList.take (Au s t.size).1),s.day) } /\BG s n t=if (Au s t.size).2.off=true then 12 else 0:=by
 unfold B0 BG;rw[if_neg (by simpa using h),if_neg (by simpa using h)];exact⟨rfl,rfl⟩
theorem dE (t:ByteArray) (k:Nat):(Ab (t.data.toList.take k)).size<=t.size:=by
 have:(Ab (t.data.toList.take k)).size=(t.data.toList.take k).length:=by show (t.data.toList.take k).toArray.size=_;simp
 rw[this,List.length_take];have:t.data.toList.length=t.size:=by show _=t.data.size;simp
 omega
theorem dF (t:ByteArray):Ab (t.data.toList.take t.size)=t:=by
 have:t.data.toList.length=t.size:=by show _=t.data.size;simp
 rw[<-this,List.take_length,Dy]
theorem dG {s:St} (K:AR s) (n t:ByteArray):AR (B0 s n t):=by
 by_cases h:CP s n t=0
 ·obtain⟨d,f,j,g,k,l⟩:=LU h;rw[(dD h).1];obtain⟨_,i,c⟩:=Im s t.size;refine⟨Kv K.rise g,fun o b=>?_,fun o b=>?_,?_,?_,?_,N6 K.cut0,?_⟩
  ·rcases GN.1 b with rfl | b
   ·exact d
   ·exact K.names o b
  ·rcases GN.1 b with rfl | b
   ·exact Nat.le_trans (dE t _) f
   ·exact K.texts o b
  ·show (Cr _ _).length<=200;rw[N7];omega
  ·show 0<=(Au s t.size).2.day;rw[c];exact K.day0
  ·show (Au s t.size).2.day<=100000;rw[c];exact K.day1
  ·show (Au s t.size).2.head.size<=20000;rw[i];exact K.head
 ·rw[(dC h).1];exact K
theorem dH {s:St} (K:AR s) (n:ByteArray):AR (Ep s n):=by
 unfold Ep;split
 ·exact K
 ·exact⟨K.rise.sublist Qn,fun o ho=>K.names o (Qc.1 ho).1,fun o ho=>K.texts o (Qc.1 ho).1,by have:=List.length_filter_le (fun o:Ob=>decide (o.1≠n)) s.obs;have:=K.many;dsimp only;omega,K.day0,K.day1,K.cut0,K.head⟩
theorem dI {s:St} {b t:ByteArray} (h:Ea s b t=0):t.size<=20000/\s.off=false/\s.head=b:=by
 unfold Ea at h;split at h
 ·cases h
 ·split at h
  ·cases h
  ·split at h
   ·cases h
   ·rename_i f c d;exact⟨by omega,by simpa using c,by simpa using d⟩
theorem So {s:St} (K:AR s) (d t:ByteArray):AR (B5 s d t):=by
 unfold B5;obtain⟨b,f,c⟩:=Im s t.size;split
 ·exact K
 ·rename_i h;split
  ·exact⟨by rw[b];exact K.rise,by rw[b];exact K.names,by rw[b];exact K.texts,by rw[b];exact K.many,by rw[c];exact K.day0,by rw[c];exact K.day1,N6 K.cut0,by rw[f];exact K.head⟩
  ·exact⟨by show List.Pairwise _ (Au s t.size).2.obs;rw[b];exact K.rise,by show ∀o∈(Au s t.size).2.obs,_;rw[b];exact K.names,by show ∀o∈(Au s t.size).2.obs,_;rw[b];exact K.texts,by show (Au s t.size).2.obs.length<=200;rw[b];exact K.many,by show 0<=(Au s t.size).2.day;rw[c];exact K.day0,by show (Au s t.size).2.day<=100000;rw[c];exact K.day1,N6 K.cut0,(dI (by simpa using h)).1⟩
theorem dJ {s:St} (K:AR s) (n:Int):AR (Er s n):=by
 unfold Er;split
 ·exact K
 ·rename_i h;refine⟨K.rise,K.names,K.texts,K.many,K.day0,K.day1,?_,K.head⟩;unfold Hr at h;dsimp only;by_cases b:n<0
  ·rw[if_pos b]at h;simp at h
  ·omega
theorem LV {s:St} (K:AR s):AR (Br s):=⟨K.rise,K.names,K.texts,K.many,K.day0,K.day1,by show (-1:Int)<= -1;omega,K.head⟩
theorem dK {s:St} (K:AR s) (n:Int):AR (Hs s n):=by
 unfold Hs;split
 ·exact K
 ·rename_i h;unfold Il at h;have:=K.day0;by_cases b:n<0\/100000-s.day<n
  ·rw[if_pos b]at h;simp at h
  ·exact⟨K.rise,K.names,K.texts,K.many,by dsimp only;omega,by dsimp only;omega,K.cut0,K.head⟩
end Go.Proofs.YtcllhobffhkafaaGreatDoor
