/- By an AI agent. -/
import Derived.Test.YtdhkdjlgmbejnaaGreatDoorDataPure
namespace Go.Proofs.YtdhkdjlgmbejnaaGreatDoor
open Go Go.Lib
abbrev Ob:=ByteArray×ByteArray×Int
structure St where
 obs:List Ob
 head:ByteArray
 day:Int
 off:Bool
 cut:Int
def newS:St:=⟨[],⟨#[]⟩,0,false,-1⟩
def getO (l:List Ob) (n:ByteArray):Option Ob:=l.find? fun o=>decide (o.1=n)
def signB (c:UInt8):Bool:=(decide (97≤c.toNat) && decide (c.toNat≤122)) || (decide (48≤c.toNat) && decide (c.toNat≤57)) || decide (c.toNat=47)
def objB (s:List UInt8):Bool:=s.all signB && decide (1≤s.length) && decide (s.length≤16)
def bytesS (l:List Ob):Nat:=(l.map fun o=>o.2.1.size).sum
def wrtS (s:St) (n:Nat):Nat×St:=if s.cut<0 then (n,s) else if s.cut<n then (s.cut.toNat, { s with off:=true }) else (n, { s with cut:=s.cut-n })
def insO (l:List Ob) (o:Ob):List Ob:=l.takeWhile (fun p=>decide (p.1.data.toList<o.1.data.toList))++o :: l.dropWhile (fun p=>decide (p.1.data.toList<o.1.data.toList))
def putE (s:St) (n t:ByteArray):Nat:=if objB n.data.toList=false then 5 else if 20000<t.size then 2 else if s.off=true then 12 else if (getO s.obs n).isSome=true then 7 else if 200≤s.obs.length∨262144<bytesS s.obs+t.size then 8 else 0
def putS (s:St) (n t:ByteArray):St:=if putE s n t≠0 then s else { (wrtS s t.size).2 with obs:=insO s.obs (n,bytesOf (t.data.toList.take (wrtS s t.size).1),s.day) }
def putC (s:St) (n t:ByteArray):Nat:=if putE s n t≠0 then putE s n t else if (wrtS s t.size).2.off=true then 12 else 0
structure Keeps (s:St):Prop where
 rise:s.obs.Pairwise fun a b=>a.1.data.toList<b.1.data.toList
 names:∀o∈s.obs,objB o.1.data.toList=true
 texts:∀o∈s.obs,o.2.1.size≤20000
 many:s.obs.length≤200
 day0:0≤s.day
 day1:s.day≤100000
 cut0: -1≤s.cut
 head:s.head.size≤20000
theorem newS_keeps:Keeps newS:=⟨List.Pairwise.nil,fun _ h=>(nomatch h),fun _ h=>(nomatch h),by decide,by decide,by decide,by decide,by decide⟩
theorem wrtS_obs (s:St) (n:Nat):(wrtS s n).2.obs=s.obs∧(wrtS s n).2.head=s.head∧(wrtS s n).2.day=s.day:=by
 unfold wrtS
 split
 · exact⟨rfl,rfl,rfl⟩
 · split<;>exact ⟨rfl,rfl,rfl⟩
theorem wrtS_le (s:St) (n:Nat):(wrtS s n).1≤n:=by
 unfold wrtS
 split
 · exact Nat.le_refl _
 · split
   · dsimp only;omega
   · exact Nat.le_refl _
theorem wrtS_cut {s:St} {n:Nat} (h: -1≤s.cut): -1≤(wrtS s n).2.cut:=by
 unfold wrtS
 split
 · exact h
 · split
   · exact h
   · dsimp only;omega
theorem lt_trans_l {a b c:List UInt8} (h:a<b) (h':b<c):a<c:=List.lt_trans h h'
theorem lt_irr_l (a:List UInt8):¬a<a:=List.lt_irrefl a
theorem name_ext {a b:ByteArray} (h:a.data.toList=b.data.toList):a=b:=by
 have:bytesOf a.data.toList=bytesOf b.data.toList:=by rw[h]
 rwa [bytesOf_data,bytesOf_data]at this
theorem getO_some {l:List Ob} {n:ByteArray} {o:Ob} (h:getO l n=some o):o∈l∧o.1=n:=by
 unfold getO at h
 exact⟨List.mem_of_find?_eq_some h,by simpa using List.find?_some h⟩
theorem getO_none {l:List Ob} {n:ByteArray} :getO l n=none↔∀o∈l,o.1≠n:=by
 unfold getO
 rw[List.find?_eq_none]
 simp
theorem rise_ne {l:List Ob} (h:l.Pairwise fun a b=>a.1.data.toList<b.1.data.toList) {p o:Ob} (hp:p∈l) (ho:o∈l) (hne:p≠o):p.1.data.toList<o.1.data.toList∨o.1.data.toList<p.1.data.toList:=by
 obtain⟨i,hi,rfl⟩:=List.mem_iff_getElem.1 hp
 obtain⟨j,hj,rfl⟩:=List.mem_iff_getElem.1 ho
 rcases Nat.lt_trichotomy i j with hij | hij | hij
 · exact Or.inl (List.pairwise_iff_getElem.1 h i j hi hj hij)
 · subst hij;exact absurd rfl hne
 · exact Or.inr (List.pairwise_iff_getElem.1 h j i hj hi hij)
theorem getO_mem {l:List Ob} (h:l.Pairwise fun a b=>a.1.data.toList<b.1.data.toList) {o:Ob} (ho:o∈l):getO l o.1=some o:=by
 cases e:getO l o.1 with
 | none=>exact absurd rfl (getO_none.1 e o ho)
 | some p =>
   obtain⟨h1,h2⟩:=getO_some e
   by_cases hpo:p=o
   · rw[hpo]
   · rcases rise_ne h h1 ho hpo with hl | hl
     · rw[h2]at hl;exact absurd hl (lt_irr_l _)
     · rw[h2]at hl;exact absurd hl (lt_irr_l _)
theorem insO_mem {l:List Ob} {o p:Ob} :p∈insO l o↔p=o∨p∈l:=by
 unfold insO
 have h:p∈l↔p∈l.takeWhile (fun p=>decide (p.1.data.toList<o.1.data.toList))∨p∈l.dropWhile (fun p=>decide (p.1.data.toList<o.1.data.toList)):=by
   rw[←List.mem_append,List.takeWhile_append_dropWhile]
 rw[List.mem_append,List.mem_cons,h]
 constructor
 · rintro(h | h | h)
   · exact Or.inr (Or.inl h)
   · exact Or.inl h
   · exact Or.inr (Or.inr h)
 · rintro(h | h | h)
   · exact Or.inr (Or.inl h)
   · exact Or.inl h
   · exact Or.inr (Or.inr h)
theorem insO_len (l:List Ob) (o:Ob):(insO l o).length=l.length+1:=by
 have h:=congrArg List.length (List.takeWhile_append_dropWhile (p:=fun p:Ob=>decide (p.1.data.toList<o.1.data.toList)) (l:=l))
 rw[List.length_append]at h
 unfold insO
 rw[List.length_append,List.length_cons]
 omega
theorem rise_part:∀ {l:List Ob} (o:Ob),(l.Pairwise fun a b=>a.1.data.toList<b.1.data.toList)→(∀p∈l,p.1≠o.1)→∃xs ys,l=xs++ys∧(∀p∈xs,p.1.data.toList<o.1.data.toList)∧∀p∈ys,o.1.data.toList<p.1.data.toList
 | [],o,_,_=>⟨[], [],rfl,fun _ h=>(nomatch h),fun _ h=>(nomatch h)⟩
 | p :: r,o,h,hne=>by
   obtain⟨h1,h2⟩:=List.pairwise_cons.1 h
   by_cases hl:p.1.data.toList<o.1.data.toList
   · obtain⟨xs,ys,rfl,hx,hy⟩:=rise_part o h2 (fun q hq=>hne q (List.mem_cons_of_mem _ hq))
     refine⟨p :: xs,ys,rfl,fun q hq=>?_,hy⟩
     rcases List.mem_cons.1 hq with rfl | hq
     · exact hl
     · exact hx q hq
   · have hg:o.1.data.toList<p.1.data.toList:=by
       by_cases hg:o.1.data.toList<p.1.data.toList
       · exact hg
       · exact absurd (name_ext (List.le_antisymm (List.not_lt.1 hg) (List.not_lt.1 hl))) (hne p List.mem_cons_self)
     refine⟨[],p :: r,rfl,fun _ h=>(nomatch h),fun q hq=>?_⟩
     rcases List.mem_cons.1 hq with rfl | hq
     · exact hg
     · exact lt_trans_l hg (h1 q hq)
theorem insO_mid {xs ys:List Ob} {o:Ob} (h1:∀p∈xs,p.1.data.toList<o.1.data.toList) (h2:∀p∈ys,o.1.data.toList<p.1.data.toList):insO (xs++ys) o=xs++o :: ys:=by
 have hn:∀p∈ys,¬p.1.data.toList<o.1.data.toList:=fun p hp h=>lt_irr_l _ (lt_trans_l h (h2 p hp))
 have ht:(xs++ys).takeWhile (fun p=>decide (p.1.data.toList<o.1.data.toList))=xs:=by
   rw[List.takeWhile_append_of_pos (fun g hg=>by simpa using h1 g hg)]
   cases ys with
   | nil=>simp
   | cons y r=>rw [List.takeWhile_cons_of_neg (by simpa using hn y List.mem_cons_self),List.append_nil]
 have hd:(xs++ys).dropWhile (fun p=>decide (p.1.data.toList<o.1.data.toList))=ys:=by
   rw[List.dropWhile_append_of_pos (fun g hg=>by simpa using h1 g hg)]
   cases ys with
   | nil=>simp
   | cons y r=>rw [List.dropWhile_cons_of_neg (by simpa using hn y List.mem_cons_self)]
 unfold insO
 rw[ht,hd]
theorem insO_rise {l:List Ob} {o:Ob} (h:l.Pairwise fun a b=>a.1.data.toList<b.1.data.toList) (hne:∀p∈l,p.1≠o.1):(insO l o).Pairwise fun a b=>a.1.data.toList<b.1.data.toList:=by
 obtain⟨xs,ys,rfl,hx,hy⟩:=rise_part o h hne
 rw[insO_mid hx hy]
 obtain⟨h1,h2,h3⟩:=List.pairwise_append.1 h
 refine List.pairwise_append.2 ⟨h1,List.pairwise_cons.2 ⟨hy,h2⟩,fun a ha b hb=>?_⟩
 rcases List.mem_cons.1 hb with rfl | hb
 · exact hx a ha
 · exact h3 a ha b hb
theorem getO_ins {l:List Ob} {o:Ob} (h:l.Pairwise fun a b=>a.1.data.toList<b.1.data.toList) (hne:∀p∈l,p.1≠o.1):getO (insO l o) o.1=some o:=getO_mem (insO_rise h hne) (insO_mem.2 (Or.inl rfl))
theorem getO_other {l:List Ob} {o:Ob} {n:ByteArray} (h:l.Pairwise fun a b=>a.1.data.toList<b.1.data.toList) (hne:∀p∈l,p.1≠o.1) (hn:n≠o.1):getO (insO l o) n=getO l n:=by
 cases e:getO l n with
 | none =>
   refine getO_none.2 fun p hp=>?_
   rcases insO_mem.1 hp with rfl | hp
   · exact fun e=>hn e.symm
   · exact getO_none.1 e p hp
 | some p =>
   obtain⟨h1,h2⟩:=getO_some e
   rw[←h2]
   exact getO_mem (insO_rise h hne) (insO_mem.2 (Or.inr h1))
theorem put_free {s:St} {n t:ByteArray} (h:putE s n t=0):objB n.data.toList=true∧t.size≤20000∧s.off=false∧(∀o∈s.obs,o.1≠n)∧s.obs.length<200∧bytesS s.obs+t.size≤262144:=by
 unfold putE at h
 split at h
 · cases h
 · rename_i h1
   split at h
   · cases h
   · rename_i h2
     split at h
     · cases h
     · rename_i h3
       split at h
       · cases h
       · rename_i h4
         split at h
         · cases h
         · rename_i h5
           refine⟨by simpa using h1,by omega,by simpa using h3,getO_none.1 (by simpa using h4),by omega,by omega⟩
theorem put_same {s:St} {n t:ByteArray} (h:putE s n t≠0):putS s n t=s∧putC s n t=putE s n t:=by
 unfold putS putC
 rw[if_pos h,if_pos h]
 exact⟨rfl,rfl⟩
theorem put_wrote {s:St} {n t:ByteArray} (h:putE s n t=0):putS s n t= { (wrtS s t.size).2 with obs:=insO s.obs (n,bytesOf (t.data.toList.take (wrtS s t.size).1),s.day) } ∧putC s n t=if (wrtS s t.size).2.off=true then 12 else 0:=by
 unfold putS putC
 rw[if_neg (by simpa using h),if_neg (by simpa using h)]
 exact⟨rfl,rfl⟩
theorem bytesOf_take_le (t:ByteArray) (k:Nat):(bytesOf (t.data.toList.take k)).size≤t.size:=by
 have:(bytesOf (t.data.toList.take k)).size=(t.data.toList.take k).length:=by show (t.data.toList.take k).toArray.size=_;simp
 rw[this,List.length_take]
 have:t.data.toList.length=t.size:=by show _=t.data.size;simp
 omega
theorem putS_keeps {s:St} (K:Keeps s) (n t:ByteArray):Keeps (putS s n t):=by
 by_cases h:putE s n t=0
 · obtain⟨h1,h2,h3,h4,h5,h6⟩:=put_free h
   rw[(put_wrote h).1]
   obtain⟨_,e2,e3⟩:=wrtS_obs s t.size
   refine⟨insO_rise K.rise h4,fun o ho=>?_,fun o ho=>?_,?_,?_,?_,wrtS_cut K.cut0,?_⟩
   · rcases insO_mem.1 ho with rfl | ho
     · exact h1
     · exact K.names o ho
   · rcases insO_mem.1 ho with rfl | ho
     · exact Nat.le_trans (bytesOf_take_le t _) h2
     · exact K.texts o ho
   · show (insO _ _).length≤200
     rw[insO_len];omega
   · show 0≤(wrtS s t.size).2.day
     rw[e3];exact K.day0
   · show (wrtS s t.size).2.day≤100000
     rw[e3];exact K.day1
   · show (wrtS s t.size).2.head.size≤20000
     rw[e2];exact K.head
 · rw[(put_same h).1];exact K
end Go.Proofs.YtdhkdjlgmbejnaaGreatDoor
