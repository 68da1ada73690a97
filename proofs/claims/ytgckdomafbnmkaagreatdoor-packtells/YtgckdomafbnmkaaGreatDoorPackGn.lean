/- By an AI agent. -/
import Derived.Test.YtgckdomafbnmkaaGreatDoorRefSnap1
import Derived.Maps.OwnSet
import Derived.Maps.Views
import Derived.Maps.Ext
import Derived.Maps.RangeWalk
import Derived.Maps.OwnIn
import Derived.Sort.KeysCollected
import Derived.Deep.RegionLaw
import Derived.Deep.AppendLies
set_option maxRecDepth 100000
set_option maxHeartbeats 16000000
namespace Go.Proofs.YtgckdomafbnmkaaGreatDoor
open Go.RowKit Go.Extern.Stop Go.Stop Go.Extern Go.Sort Go.Shelf Go.Lib
theorem zm6 {W:World} {base:Nat} {e:TypeId} {d:Nat} {v:Value} {n:Nat} {xs:List Value} (h:W.ownsRow base e d v n xs) {k:Nat} (b:v.ownBlock=some k):base<=k/\∃cur,W.heap[k]? =some (.cells cur e (0,0)):=by
 rcases h.2 with⟨c,_⟩|⟨g,j,cur,c,f,i,_⟩
 ·rw[c]at b;simp[Value.ownBlock]at b
 ·rw[c]at b;simp[Value.ownBlock]at b;subst b;exact⟨f,cur,i⟩
theorem zh5 {W i:World} {base:Nat} {e:TypeId} {d:Nat} {v:Value} {n:Nat} {xs:List Value} (m:W.ownsRow base e d v n xs) (o:W.grownBy i v.ownBlock) {k:Nat} {c:Array Value} {t:TypeId} {f:Nat×Nat} (g:W.heap[k]? =some (.cells c t f)) (j:t≠e):i.heap[k]? =some (.cells c t f):=by
 have l:some k≠v.ownBlock:=fun e'=>by
  obtain⟨_,p,b⟩:=zm6 m e'.symm;rw[g]at b;injection b with b;injection b with _ b;exact j b
 rw[o.block k (lt_of_block g) l];exact g
theorem zh6 {W m:World} {base b:Nat} {e i:TypeId} {j c:Nat} {v o:Value} {n p:Nat} {xs d:List Value} (z:W.ownsRow base e j v n xs) (A:W.grownBy m v.ownBlock) (B:W.ownsRow b i c o p d) (q:i≠e):m.ownsRow b i c o p d:=by
 obtain⟨s,f⟩:=B;refine⟨s,?_⟩;rcases f with f | ⟨g,k,l,t,u,y,r⟩
 ·exact Or.inl f
 ·exact Or.inr ⟨g,k,l,t,u,zh5 z A y q,r⟩
theorem zj4 {W:World} {base b:Nat} {e:TypeId} {c:Nat} {v:Value} {n:Nat} {xs:List Value} (h:W.ownsRow base e c v n xs) (m:b<=base):W.ownsRow b e c v n xs:=by
 obtain⟨j,d⟩:=h;refine⟨j,?_⟩;rcases d with d | ⟨g,f,i,k,l,r⟩
 ·exact Or.inl d
 ·exact Or.inr ⟨g,f,i,k,Nat.le_trans m l,r⟩
theorem zj5 {W c w:World} {B:Nat} {base:Nat} {e:TypeId} {b:Nat} {v:Value} {n:Nat} {xs:List Value} (f:Below B w W) (g:W.ownsRow base e b v n xs) (i:B<=base) (d:B<=W.heap.size) (j:W.grownBy c v.ownBlock):Below B w c:=f.grown j d (fun _ hk=>Nat.le_trans i (zm6 g hk).1)
structure ScanInv (w:World) (rb sb:Nat) (s:Sn) (vf out seqs:Value) (acc:List (Rw×Int)) (wr:World):Prop where
 frame:BL w wr
 fault:FC wr rb 0 0
 snap:SnAt wr sb s vf
 rows:wr.ownsRow w.heap.size 112 3 out acc.length (flatR (acc.map (·.1)))
 nums:wr.ownsRow w.heap.size 3 1 seqs acc.length ((acc.map (·.2)).map encZ)
theorem ScanInv.quiet {w wr w':World} {g i:Nat} {s:Sn} {vf d b:Value} {f:List (Rw×Int)} (h:ScanInv w g i s vf d b f wr) (c:BL wr w'):ScanInv w g i s vf d b f w' :=
 ⟨h.frame.trans (c.mono h.frame.size),h.fault.below c,h.snap.below c,za2 h.rows c,za2 h.nums c⟩
theorem FC.off_rows {W:World} {F:Nat} {x y:Int} {v:Value} {n:List Rw} (h:FC W F x y) (g:RowsAt W v n) (o:Nat) (z:Value) (q:Nat) (r:Value):RowsAt ((W.setCell ⟨F,o,none⟩ z).setCell ⟨F,q,none⟩ r) v n:=by
 rcases g with g | ⟨b,j,l,rfl,m⟩
 ·exact .inl g
 ·refine .inr ⟨b,j,l,rfl,fun i hi=>?_⟩;have d:F≠b:=by
   intro e;subst e;have c:=(m i hi).1;rw[cell_of_row _ _ _ _ _ _ h]at c;generalize j+i*3=k at c
   match k,c with
   | 0,c=>simp at c
   | 1,c=>simp at c
   | k+2,c=>simp at c
  have f:∀p,((W.setCell ⟨F,o,none⟩ z).setCell ⟨F,q,none⟩ r).cell? ⟨b,p,none⟩=W.cell? ⟨b,p,none⟩:=fun p=>by
   rw[World.cell?_setCell_other _ _ _ _ (by intro e;injection e with e;exact d e),World.cell?_setCell_other _ _ _ _ (by intro e;injection e with e;exact d e)]
  rw[f,f,f];exact m i hi
theorem za6p (l:List Ob) (n:ByteArray):(getT l n).2=0\/(getT l n).2=6:=by
 unfold getT;split
 ·exact Or.inl rfl
 ·exact Or.inr rfl
theorem za6q {s:St} (K:Keeps s) (n:ByteArray):(getT s.obs n).1.size<=20000:=by
 unfold getT;split
 ·rename_i o b;exact K.texts o (zh2 b).1
 ·exact Nat.zero_le _
theorem zb7w {W:World} {b:Nat} {f:Fl} (h:FlAt W b f):FlsAt W (.slice (some ⟨b,0,none⟩) 1 1) [f]:=by
 obtain⟨d,g,i,k,l,m,-⟩:=h.cells;refine Or.inr ⟨b,0,1,rfl,Nat.le_refl _,fun j hj=>?_⟩;have c:j=0:=by simp at hj;omega
 subst c;simp only[Nat.zero_mul,Nat.zero_add,List.getElem_cons_zero];exact⟨d,g,i,k,l,m⟩
theorem za6r {β:Type} (k:FK β) (s:List UInt8):(readG k s).2.1=0\/(readG k s).1= []:=by
 unfold readG;split
 ·exact Or.inr rfl
 ·split
  ·exact Or.inr rfl
  ·split
   ·exact Or.inr rfl
   ·split
    ·exact Or.inr rfl
    ·unfold endG;split
     ·exact Or.inr rfl
     ·split
      ·exact Or.inr rfl
      ·split
       ·exact Or.inl rfl
       ·exact Or.inr rfl
theorem za6s {obs:List Ob} {x:Fl} (h:(getT obs x.1).2≠0):(fileR obs x).1=(getT obs x.1).2:=by unfold fileR;rw[if_pos h]
theorem za6t {obs:List Ob} {x:Fl} (h:(getT obs x.1).2=0):fileR obs x=if (ofF x.1 x.2.1 (getT obs x.1).1.data.toList x.2.2.2.2.2).2≠0 then ((ofF x.1 x.2.1 (getT obs x.1).1.data.toList x.2.2.2.2.2).2,⟨#[]⟩) else if (ofF x.1 x.2.1 (getT obs x.1).1.data.toList x.2.2.2.2.2).1≠x then (3,⟨#[]⟩) else (0,(getT obs x.1).1):=by unfold fileR;rw[if_neg (by simpa using h)]
def RowsP (w:World) (R:List Rw×Nat×Option Nat) (e:Ending) (w':World):Prop:= ∃v',e= .returned (.tuple #[v',.agg #[.int .i64 R.2.1,.int .i64 (atZ R.2.2)]])/\RowsAt w' v' R.1/\BL w w'
structure ScanIn (w:World) (rb sb:Nat) (s:Sn) (vf out seqs:Value) (rs:List Rw) (ns:List Int) (wr:World):Prop where
 frame:BL w wr
 fault:FC wr rb 0 0
 snap:SnAt wr sb s vf
 rows:wr.ownsRow w.heap.size 112 3 out rs.length (flatR rs)
 nums:wr.ownsRow w.heap.size 3 1 seqs ns.length (ns.map encZ)
section
variable {w wr w' : World} {rb sb : Nat} {s : Sn} {vf out seqs : Value} {rs : List Rw} {ns : List Int}
theorem ScanInv.apart {b:List (Rw×Int)} (h:ScanInv w rb sb s vf out seqs b wr):ScanIn w rb sb s vf out seqs (b.map (·.1)) (b.map (·.2)) wr :=
 ⟨h.frame,h.fault,h.snap,by rw[List.length_map];exact h.rows,by rw[List.length_map];exact h.nums⟩
theorem ScanIn.one {b:List (Rw×Int)} (h:ScanIn w rb sb s vf out seqs rs ns wr) (c:b.map (·.1)=rs) (d:b.map (·.2)=ns):ScanInv w rb sb s vf out seqs b wr:=by
 subst c d;exact⟨h.frame,h.fault,h.snap,by have:=h.rows;rw[List.length_map]at this;exact this,by have:=h.nums;rw[List.length_map]at this;exact this⟩
theorem ScanIn.quiet (h:ScanIn w rb sb s vf out seqs rs ns wr) (b:BL wr w'):ScanIn w rb sb s vf out seqs rs ns w' :=
 ⟨h.frame.trans (b.mono h.frame.size),h.fault.below b,h.snap.below b,za2 h.rows b,za2 h.nums b⟩
theorem ScanIn.num {c:Value} {z:Int} (h:ScanIn w rb sb s vf out seqs rs ns wr) (b:wr.grownBy w' seqs.ownBlock) (d:w'.ownsRow w.heap.size 3 1 c (ns.length+1) (ns.map encZ++ [encZ z])):ScanIn w rb sb s vf out c rs (ns++ [z]) w' :=
 ⟨zj5 h.frame h.nums (Nat.le_refl _) h.frame.size b,zh5 h.nums b h.fault (by decide),zh5 h.nums b h.snap (by decide),zh6 h.nums b h.rows (by decide),by
  rw[List.length_append,List.map_append];exact d⟩
theorem ScanIn.row {c:Value} {l:List Rw} (h:ScanIn w rb sb s vf out seqs rs ns wr) (b:wr.grownBy w' out.ownBlock) (d:w'.ownsRow w.heap.size 112 3 c (rs.length+l.length) (flatR rs++flatR l)):ScanIn w rb sb s vf c seqs (rs++l) ns w' :=
 ⟨zj5 h.frame h.rows (Nat.le_refl _) h.frame.size b,zh5 h.rows b h.fault (by decide),zh5 h.rows b h.snap (by decide),by
  rw[List.length_append,zc3];exact d,zh6 h.rows b h.nums (by decide)⟩
end
theorem zb7x {w w':World} {D:List Rw×Nat×Option Nat} {e:Ending} (h:ReadPost w D e w') (c:D.2.1=0\/D.1= []):∃(v:Value) (a b:Int),e= .returned (.tuple #[v,.agg #[.int .i64 a,.int .i64 b]])/\RowsAt w' v D.1/\BL w w':=by
 obtain⟨d,⟨f,v,e,g⟩|⟨f,j,e,_⟩⟩:=h
 ·exact⟨v,_,_,e,g,d⟩
 ·rcases c with c | c
  ·exact absurd c f
  ·exact⟨_,_,_,e,by rw[c];exact Or.inl ⟨none,0,rfl,rfl⟩,d⟩
theorem zb7y {w w':World} {D:List Int×Nat×Option Nat} {e:Ending} (h:ReadPostK w D e w') (c:D.2.1=0\/D.1= []):∃(v:Value) (a b:Int),e= .returned (.tuple #[v,.agg #[.int .i64 a,.int .i64 b]])/\KeysAt w' v D.1/\BL w w':=by
 obtain⟨d,⟨f,v,e,g,_⟩|⟨f,j,e,_⟩⟩:=h
 ·exact⟨v,_,_,e,g,d⟩
 ·rcases c with c | c
  ·exact absurd c f
  ·exact⟨_,_,_,e,by rw[c];exact Or.inl ⟨none,0,rfl,rfl⟩,d⟩
theorem zb7z (l:List Rw) (z:Int):(l.map fun r=>(r,z)).map (·.1)=l:=by
 induction l with
 | nil=>rfl
 | cons a r ih=>rw [List.map_cons,List.map_cons,ih]
theorem zb8a (l:List Rw) (z:Int):(l.map fun r=>(r,z)).map (·.2)=List.replicate l.length z:=by
 induction l with
 | nil=>rfl
 | cons a r ih=>rw [List.map_cons,List.map_cons,ih];rfl
def goF (ks:List Int) (x:Fl) (acc:List (Rw×Int)) (m:Nat):List (Rw×Int):=(acc.take m).filter fun p=> !(ks.contains p.1.2.1 && decide (p.2<x.2.2.2.2.2))
theorem zb8b (c:List Int) (x:Fl) (b:List (Rw×Int)) (m:Nat) (h:m<b.length):goF c x b (m+1)=goF c x b m++if (c.contains b[m].1.2.1 && decide (b[m].2<x.2.2.2.2.2)) then [] else [b[m]]:=by
 unfold goF;rw[<-List.take_append_getElem h,List.filter_append];congr 1;cases d:(c.contains b[m].1.2.1 && decide (b[m].2<x.2.2.2.2.2))
 ·rw[List.filter_cons,d];rfl
 ·rw[List.filter_cons,d];rfl
theorem za6u (c:List Int) (x:Fl) (b:List (Rw×Int)) (m:Nat):(goF c x b m).length<=m:=Nat.le_trans (List.length_filter_le _ _) (by rw[List.length_take];omega)
theorem zb8c {W:World} {base:Nat} {v:Value} {d:List (Rw×Int)} (h:W.ownsRow base 112 3 v d.length (flatR (d.map (·.1)))) (m:Nat) (i:m<d.length):∃q c,v= .slice q d.length c/\∃b o,q=some ⟨b,o,none⟩/\W.cell? ⟨b,o+m*3,none⟩=some (.string d[m].1.1)/\W.cell? ⟨b,o+m*3+1,none⟩=some (.int .i64 d[m].1.2.1)/\W.cell? ⟨b,o+m*3+2,none⟩=some (.int .i64 d[m].1.2.2):=by
 have j:W.ownsRow base 112 3 v (d.map (·.1)).length (flatR (d.map (·.1))):=by rw[List.length_map];exact h
 rcases (ze5 j).1 with⟨_,_,_,e⟩|⟨b,o,l,e,k⟩
 ·have g:=congrArg List.length e;rw[List.length_map]at g;simp at g;subst g;simp at i
 ·have f:=k m (by rw[List.length_map];exact i);rw[List.getElem_map]at f;rw[List.length_map]at e;exact⟨_,_,e,b,o,rfl,f⟩
theorem zb8d {W:World} {base:Nat} {v:Value} {d:List (Rw×Int)} (h:W.ownsRow base 3 1 v d.length ((d.map (·.2)).map encZ)) (m:Nat) (i:m<d.length):∃q c,v= .slice q d.length c/\∃b o,q=some ⟨b,o,none⟩/\W.cell? ⟨b,o+m,none⟩=some (.int .i64 d[m].2):=by
 have j:W.ownsRow base 3 1 v (d.map (·.2)).length ((d.map (·.2)).map encZ):=by rw[List.length_map];exact h
 rcases zx1 j with⟨_,_,_,e⟩|⟨b,o,l,e,k⟩
 ·have g:=congrArg List.length e;rw[List.length_map]at g;simp at g;subst g;simp at i
 ·have f:=k m (by rw[List.length_map];exact i);rw[List.getElem_map]at f;rw[List.length_map]at e;exact⟨_,_,e,b,o,rfl,f⟩
def ptrD (k:Int):DataW Unit:=.lit (.int .i64 k)
abbrev ptrV (k:Nat):Value:=.pointer (some ⟨k,0,none⟩)
def ptrR (v:Value):Option (DataW Unit×List MemPlace):=match v with
 | .pointer (some ⟨k,0,none⟩)=>some (ptrD k, [])
 | .pointer none=>some (ptrD (-1), [])
 | _=>none
theorem zb8e (k:Nat):ptrR (ptrV k)=some (ptrD k, []):=rfl
theorem zb8f:ptrR (.pointer none)=some (ptrD (-1), []):=rfl
theorem zr4 {v:Value} {z:DataW Unit×List MemPlace} (h:ptrR v=some z):(∃k:Nat,v=ptrV k/\z=(ptrD k, []))\/(v= .pointer none/\z=(ptrD (-1), [])):=by
 unfold ptrR at h;split at h
 ·exact Or.inl ⟨_,rfl,(Option.some.inj h).symm⟩
 ·exact Or.inr ⟨rfl,(Option.some.inj h).symm⟩
 ·cases h
theorem zj6 {k j:Int} (h:ptrD k=ptrD j):k=j:=by simpa [ptrD] using h
def keyL (n:ByteArray):Lit:=.string n.data.toList
def mapQ (q:ByteArray->Nat) (l:List Ob):DataW Unit:=.map (l.map fun o=>(keyL o.1,ptrD (q o.1)))
def setQ (q:ByteArray->Nat) (n:ByteArray) (k:Nat):ByteArray->Nat:=fun m=>if m=n then k else q m
theorem za0a (q:ByteArray->Nat) (n:ByteArray) (k:Nat):setQ q n k n=k:=by simp[setQ]
theorem za0b (q:ByteArray->Nat) {n m:ByteArray} (k:Nat) (h:m≠n):setQ q n k m=q m:=by simp[setQ,h]
abbrev RiseO (l:List Ob):Prop:=l.Pairwise fun a b=>a.1.data.toList<b.1.data.toList
theorem za0c (n m:ByteArray):(keyL n).sameKey (keyL m)=decide (n=m):=by
 show (n.data.toList == m.data.toList)=_;by_cases h:n=m
 ·subst h;simp
 ·rw[decide_eq_false h];simp only[beq_eq_false_iff_ne];exact fun e=>h (zl8 e)
theorem za6v {n m:ByteArray} (h:n≠m):keyL n≠keyL m:=fun e=>h (zl8 (by simpa [keyL] using e))
theorem zm7 (q:ByteArray->Nat) (l:List Ob) (n:ByteArray):Maps.has (mapQ q l) (keyL n)=(getO l n).isSome:=by
 unfold mapQ getO;rw[Maps.has_eq,List.any_map];have e:((fun p:Lit×DataW Unit=>p.1.sameKey (keyL n)) ∘ fun o:Ob=>(keyL o.1,ptrD (q o.1)))=fun o=>decide (o.1=n):=by
  funext o;exact za0c o.1 n
 rw[e,Bool.eq_iff_iff,List.any_eq_true,List.find?_isSome]
theorem zm8 (q:ByteArray->Nat) (l:List Ob) (n:ByteArray) (z:DataW Unit):(mapQ q l).atKey (keyL n) z=if (getO l n).isSome=true then ptrD (q n) else z:=by
 unfold mapQ getO DataW.atKey;dsimp only;rw[List.find?_map];have e:((fun p:Lit×DataW Unit=>p.1.sameKey (keyL n)) ∘ fun o:Ob=>(keyL o.1,ptrD (q o.1)))=fun o=>decide (o.1=n):=by
  funext o;exact za0c o.1 n
 rw[e]
 cases h:l.find? fun o=>decide (o.1=n) with
 | none=>rfl
 | some o =>
  have:=List.find?_some h;simp only[decide_eq_true_eq]at this;simp[this]
theorem za6w:∀(a b:List UInt8),a<b->bytesBefore a b=true
 | [], [],h=>absurd h (List.lt_irrefl _)
 | [],_ :: _,_=>rfl
 | _ :: _, [],h=>by cases h
 | x :: r,y :: s,h=>by
  unfold bytesBefore;rw[List.cons_lt_cons_iff]at h;rcases h with h | ⟨rfl,h⟩
  ·simp[h]
  ·simp[za6w r s h]
theorem zb8g {q:ByteArray->Nat} {l:List Ob} (h:RiseO l):Maps.Canon (mapQ q l):=by
 refine⟨_,rfl,?_,?_⟩
 ·rw[List.pairwise_map];exact h.imp fun h'=>za6w _ _ h'
 ·intro p b;obtain⟨o,_,rfl⟩:=List.mem_map.1 b;exact trivial
theorem za6x (k:Lit):(∃n,k=keyL n)\/∀q l,Maps.has (mapQ q l) k=false:=by
 cases k with
 | string x=>exact Or.inl ⟨bytesOf x,by simp[keyL,bytesOf]⟩
 | _ =>
  refine Or.inr fun q l=>?_;unfold mapQ;rw[Maps.has_eq,List.any_map];apply List.any_eq_false.2;intro o _;simp[keyL,Lit.sameKey]
theorem zb8h {q:ByteArray->Nat} {l:List Ob} {n t:ByteArray} {d:Int} {k:Nat} (c:RiseO l) (f:∀p∈l,p.1≠n) (s:Maps.Canon ((mapQ q l).put (keyL n) (ptrD k))):(mapQ q l).put (keyL n) (ptrD k)=mapQ (setQ q n k) (insO l (n,t,d)):=by
 have g:Maps.IsMap (mapQ q l):=⟨_,rfl⟩;have i:∀z,Maps.has ((mapQ q l).put (keyL n) (ptrD k)) z=Maps.has (mapQ (setQ q n k) (insO l (n,t,d))) z:=fun z=>by
  rcases za6x z with⟨m,rfl⟩ | b
  ·by_cases e:m=n
   ·subst e;rw[Maps.has_put_same g (show WideAt.IsKeyLit (keyL m) from trivial),zm7,zy5 (o:=(m,t,d)) c f];rfl
   ·rw[Maps.has_put_other (za6v e),zm7,zm7,za5g (o:=(n,t,d)) c f e]
  ·rw[b,Maps.has_put_other (fun e=>?_),b];subst e;have j:=b q (insO l (n,t,d));rw[zm7,zy5 (o:=(n,t,d)) c f]at j;cases j
 refine Maps.ext s (zb8g (zm0 (o:=(n,t,d)) c f)) i (fun z u b=>?_);rcases za6x z with⟨m,rfl⟩ | r
 ·by_cases e:m=n
  ·subst e;rw[Maps.atKey_put_same g (show WideAt.IsKeyLit (keyL m) from trivial),zm8,zy5 (o:=(m,t,d)) c f,za0a];rfl
  ·rw[Maps.atKey_put_other (za6v e),zm8,zm8,za5g (o:=(n,t,d)) c f e,za0b _ _ e]
 ·rw[i,r]at b;cases b
theorem za6y (q:ByteArray->Nat) (l:List Ob):Maps.size (mapQ q l)=l.length:=by unfold mapQ;rw[Maps.size_eq,List.length_map]
def PtrMap (w:World) (b:Nat) (q:ByteArray->Nat) (l:List Ob):Prop:=w.ownsMap Tryz.prog 9 ptrR b l.length (mapQ q l)
theorem Tryz.keyedS:Maps.Keyed Tryz.prog 9:=Maps.string_keyed Tryz.underlying9
theorem za0d {n:ByteArray} (h:n.size<=maxLen):keyOf Tryz.prog 9 (.string n)=some (keyL n):=WideMaps.keyOf_string_mk Tryz.underlying9 h
theorem PtrMap.block {w:World} {b:Nat} {q:ByteArray->Nat} {l:List Ob} (h:PtrMap w b q l):∃es clock,w.heap[b]? =some (.map es clock):=by
 obtain⟨es,clock,c,_⟩:=h;exact⟨es,clock,c⟩
theorem PtrMap.lt {w:World} {b:Nat} {q:ByteArray->Nat} {l:List Ob} (h:PtrMap w b q l):b<w.heap.size:=World.ownsMap.lt h
theorem PtrMap.keep {w w':World} {b:Nat} {q:ByteArray->Nat} {l:List Ob} (h:PtrMap w b q l) (k:w'.heap[b]? =w.heap[b]?):PtrMap w' b q l:=by
 obtain⟨d,c,f,g,i,j⟩:=h;exact⟨d,c,k.trans f,g,i,j⟩
def lookP (q:ByteArray->Nat) (l:List Ob) (n:ByteArray):Value:=if (getO l n).isSome=true then ptrV (q n) else .pointer none
theorem Tryz.zeroObj (w:World):(zeroValue 149).run Tryz.prog w= .ok (.pointer none) w:=Tryz.zeroValue149 w
section
variable {w : World} {b : Nat} {q : ByteArray → Nat} {l : List Ob}
theorem PtrMap.look (h:PtrMap w b q l) {n:ByteArray} (i:n.size<=maxLen) :
  (Instr.lookup 126 (.map (some b)) (.string n) false).run Tryz.prog w= .ok (lookP q l n) w:=by
 obtain⟨v,j,f,d⟩:=World.ownsMap.lookup h Tryz.keyedS Tryz.underlying126 (Tryz.zeroObj w) zb8f (za0d i);rw[f];rw[zm8]at d;unfold lookP;by_cases g:(getO l n).isSome=true
 ·rw[if_pos g]at d ⊢;rcases zr4 d with⟨k,rfl,c⟩|⟨rfl,c⟩
  ·have:=zj6 (Prod.mk.inj c).1;have:q n=k:=by omega
   rw[this]
  ·have:=zj6 (Prod.mk.inj c).1;omega
 ·rw[if_neg g]at d ⊢;rcases zr4 d with⟨k,rfl,c⟩|⟨rfl,c⟩
  ·have:=zj6 (Prod.mk.inj c).1;omega
  ·rfl
theorem PtrMap.len (h:PtrMap w b q l) (c:TypeId):(Builtin.len_ #[126] c #[.map (some b)]).run Tryz.prog w= .ok (.int .i64 l.length) w:=by
 rw[World.ownsMap.len h Tryz.underlying126 c,za6y]
theorem PtrMap.store (h:PtrMap w b q l) (j:RiseO l) (m:l.length<maxLen) {n:ByteArray} (o:n.size<=maxLen) (g:∀p∈l,p.1≠n) (t:ByteArray) (d:Int) (k:Nat) :
  ∃w',(Instr.mapUpdate 126 (.map (some b)) (.string n) (ptrV k)).run Tryz.prog w= .ok () w'/\PtrMap w' b (setQ q n k) (insO l (n,t,d))/\w.mapTurned w' b:=by
 obtain⟨w',c,f,i⟩:=World.ownsMap.store h Tryz.keyedS Tryz.underlying126 m (za0d o) (zb8e k);refine⟨w',c,?_,i⟩;unfold PtrMap;rw[<-zb8h j g (World.ownsMap.canon f Tryz.keyedS),zy4];exact f
end
theorem PtrMap.made (w:World) (q:ByteArray->Nat):PtrMap (w.alloc (.map #[] 0)) w.heap.size q []:=World.ownsMap_made w _ _ _
theorem But.of_turned {w w':World} {b:Nat} (h:w.mapTurned w' b):But (fun k=>k=b) w w':=by
 have g:=World.mapTurned.grown h;exact⟨g.os,g.tape,g.output,g.size,fun k hk hP=>g.block k hk (fun e=>hP (Option.some.inj e))⟩
def waitsB (s:St):Bool:= !s.off && decide (0<=s.cut)
def leftI (s:St):Int:=if waitsB s=true then s.cut else 0
def SC (W:World) (b:Nat) (mo:Option Nat) (h:ByteArray) (d:Int) (off waits:Bool) (left:Int):Prop:=W.heap[b]? =some (.cells #[.map mo,.string h,.int .i64 d,.bool off,.bool waits,.int .i64 left] 130 (0,0))
def ObjsAt (W:World) (q:ByteArray->Nat) (l:List Ob):Prop:= ∀o∈l,W.heap[q o.1]? =some (.cells #[.string o.2.1,.int .i64 o.2.2] 151 (0,0))
def MapAt (W:World) (mo:Option Nat) (q:ByteArray->Nat) (l:List Ob):Prop:=(mo=none/\l= [])\/∃mb,mo=some mb/\PtrMap W mb q l
structure SIn (W:World) (b:Nat) (mo:Option Nat) (q:ByteArray->Nat) (s:St):Prop where
 block:SC W b mo s.head s.day s.off (waitsB s) (leftI s)
 map:MapAt W mo q s.obs
 objs:ObjsAt W q s.obs
 rise:RiseO s.obs
 cut:s.cut<=9223372036854775807
def fpS (b:Nat) (mo:Option Nat) (q:ByteArray->Nat) (l:List Ob):Nat->Prop:=fun k=>k=b\/mo=some k\/∃o∈l,q o.1=k
def SAtP (W:World) (v:Value) (FP:Nat->Prop) (s:St):Prop:= ∃b mo q,v= .pointer (some ⟨b,0,none⟩)/\FP=fpS b mo q s.obs/\SIn W b mo q s
theorem SC.lt {W:World} {b:Nat} {i:Option Nat} {h:ByteArray} {d:Int} {g c:Bool} {f:Int} (j:SC W b i h d g c f):b<W.heap.size:=lt_of_block j
theorem SC.cells {W:World} {b:Nat} {i:Option Nat} {h:ByteArray} {d:Int} {g c:Bool} {f:Int} (j:SC W b i h d g c f):W.cell? ⟨b,0,none⟩=some (.map i)/\W.cell? ⟨b,1,none⟩=some (.string h)/\W.cell? ⟨b,2,none⟩=some (.int .i64 d)/\W.cell? ⟨b,3,none⟩=some (.bool g)/\W.cell? ⟨b,4,none⟩=some (.bool c)/\W.cell? ⟨b,5,none⟩=some (.int .i64 f)/\∀o,W.frozen? ⟨b,o,none⟩=false:=by
 refine⟨?_,?_,?_,?_,?_,?_,fun o=>frozen_of_row _ _ _ _ _ j⟩<;>rw [cell_of_row _ _ _ _ _ _ j]<;>rfl
theorem ObjsAt.cells {W:World} {q:ByteArray->Nat} {l:List Ob} (h:ObjsAt W q l) {o:Ob} (b:o∈l):W.cell? ⟨q o.1,0,none⟩=some (.string o.2.1)/\W.cell? ⟨q o.1,1,none⟩=some (.int .i64 o.2.2):=by
 refine⟨?_,?_⟩<;>rw [cell_of_row _ _ _ _ _ _ (h o b)]<;>rfl
theorem ObjsAt.lt {W:World} {q:ByteArray->Nat} {l:List Ob} (h:ObjsAt W q l) {o:Ob} (b:o∈l):q o.1<W.heap.size:=lt_of_block (h o b)
theorem ObjsAt.keep {W b:World} {q:ByteArray->Nat} {l:List Ob} (h:ObjsAt W q l) (c:∀o∈l,b.heap[q o.1]? =W.heap[q o.1]?):ObjsAt b q l:=fun o ho=>(c o ho).trans (h o ho)
theorem MapAt.keep {W c:World} {b:Option Nat} {q:ByteArray->Nat} {l:List Ob} (h:MapAt W b q l) (d:∀mb,b=some mb->c.heap[mb]? =W.heap[mb]?):MapAt c b q l:=by
 rcases h with h | ⟨mb,rfl,h⟩
 ·exact Or.inl h
 ·exact Or.inr ⟨mb,rfl,h.keep (d mb rfl)⟩
theorem SIn.lt {W:World} {b:Nat} {d:Option Nat} {q:ByteArray->Nat} {s:St} (h:SIn W b d q s) {k:Nat} (c:fpS b d q s.obs k):k<W.heap.size:=by
 rcases c with rfl | c | ⟨o,f,rfl⟩
 ·exact h.block.lt
 ·rcases h.map with⟨e,_⟩|⟨i,rfl,g⟩
  ·rw[e]at c;cases c
  ·cases c;exact g.lt
 ·exact h.objs.lt f
theorem SIn.keep {W d:World} {b:Nat} {c:Option Nat} {q:ByteArray->Nat} {s:St} {P:Nat->Prop} (h:SIn W b c q s) (f:But P W d) (i:∀k,fpS b c q s.obs k->¬P k):SIn d b c q s:=by
 have g:∀k,fpS b c q s.obs k->d.heap[k]? =W.heap[k]? :=fun k hk=>f.block k (h.lt hk) (i k hk);refine⟨(g b (Or.inl rfl)).trans h.block,h.map.keep fun mb e=>g mb (Or.inr (Or.inl e)),h.objs.keep fun o ho=>g _ (Or.inr (Or.inr ⟨o,ho,rfl⟩)),h.rise,h.cut⟩
theorem SIn.below {W c:World} {b:Nat} {d:Option Nat} {q:ByteArray->Nat} {s:St} (h:SIn W b d q s) (f:BL W c):SIn c b d q s :=
 h.keep (But.of_below (P:=fun _=>False) f) fun _ _ h=>h
theorem zb8i {W:World} {b i:Nat} {k:Option Nat} {h:ByteArray} {d:Int} {j f:Bool} {g:Int} {q:ByteArray->Nat} {l:List Ob} (m:SC W b k h d j f g) (n:PtrMap W i q l):i≠b:=by
 rintro rfl;obtain⟨o,c,e⟩:=n.block;rw[m]at e;cases e
theorem zb8j {W:World} {b:Nat} {i:Option Nat} {h:ByteArray} {d:Int} {g c:Bool} {f:Int} {q:ByteArray->Nat} {l:List Ob} (j:SC W b i h d g c f) (k:ObjsAt W q l) {o:Ob} (m:o∈l):q o.1≠b:=by
 rintro rfl;have e:=k o m;rw[j]at e;simp at e
theorem zb8k {W:World} {b:Nat} {q:ByteArray->Nat} {l:List Ob} (f:PtrMap W b q l) {l':List Ob} {d:ByteArray->Nat} (g:ObjsAt W d l') {o:Ob} (h:o∈l'):d o.1≠b:=by
 rintro rfl;obtain⟨i,c,e⟩:=f.block;rw[g o h]at e;cases e
theorem za6z {W w':World} {b:Nat} {d c:Option Nat} {q f:ByteArray->Nat} {s g:St} (h:SIn w' b c f g) (i:But (fpS b d q s.obs) W w') (j:∀k,fpS b c f g.obs k->fpS b d q s.obs k\/W.heap.size<=k) :
 ∃FP',SAtP w' (.pointer (some ⟨b,0,none⟩)) FP' g/\But (fpS b d q s.obs) W w'/\∀k,FP' k->fpS b d q s.obs k\/W.heap.size<=k:=⟨_,⟨b,c,f,rfl,rfl,h⟩,i,j⟩
def hdQ:Value->Option (DataW Unit×List MemPlace)
 | .slice none 0 0=>some (.nil, [])
 | .slice (some ⟨g,0,none⟩) n c=>some (.agg [.lit (.int .i64 g),.lit (.int .i64 n),.lit (.int .i64 c)], [])
 | _=>none
theorem za7a {v:Value} {z:DataW Unit×List MemPlace} (h:hdQ v=some z):z.2= []:=by
 unfold hdQ at h;split at h
 ·cases h;rfl
 ·cases h;rfl
 ·cases h
theorem za7b {v g:Value} {z:DataW Unit×List MemPlace} (h:hdQ v=some z) (b:hdQ g=some z):v=g:=by
 unfold hdQ at h;split at h
 ·cases h
  unfold hdQ at b;split at b
  ·rfl
  ·cases b
  ·cases b
 ·cases h
  unfold hdQ at b;split at b
  ·cases b
  ·simp only[Option.some.injEq,Prod.mk.injEq,and_true,DataW.agg.injEq,List.cons.injEq,DataW.lit.injEq,Lit.int.injEq,true_and]at b;obtain⟨i,j,k⟩:=b;have c:=Int.ofNat.inj i;have d:=Int.ofNat.inj j;have f:=Int.ofNat.inj k;subst c d f;rfl
  ·cases b
 ·cases h
theorem zh7 {v:Value} {z:DataW Unit×List MemPlace} (h:hdQ v=some z):∃q n c,v= .slice q n c:=by
 unfold hdQ at h;split at h
 ·exact⟨_,_,_,rfl⟩
 ·exact⟨_,_,_,rfl⟩
 ·cases h
theorem zr5 {W:World} {base:Nat} {e:TypeId} {b:Nat} {v:Value} {n:Nat} {xs:List Value} (h:W.ownsRow base e b v n xs):∃d,hdQ v=some (d, []):=by
 rcases h.2 with⟨e,_⟩|⟨g,c,f,e,_⟩
 ·exact⟨_,by rw[e];rfl⟩
 ·exact⟨_,by rw[e];rfl⟩
theorem zd5 {W:World} {base:Nat} {e:TypeId} {b:Nat} {v:Value} {n:Nat} {xs:List Value} (h:W.ownsRow base e b v n xs) {g:Nat} (f:v.ownBlock=some g):base<=g/\g<W.heap.size:=by
 obtain⟨c,i,d⟩:=zm6 h f;exact⟨c,(Array.getElem?_eq_some_iff.1 d).1⟩
theorem Tryz.keyedI:Maps.Keyed Tryz.prog 3:=Maps.int_keyed Tryz.underlying3
theorem Tryz.zeroRows2 (w:World):(zeroValue 44).run Tryz.prog w= .ok (.slice none 0 0) w:=by kernel_rfl
theorem Tryz.zeroInt2 (w:World):(zeroValue 3).run Tryz.prog w= .ok (.int .i64 0) w:=by kernel_rfl
theorem za7c {z:Int} (b: -9223372036854775808<=z) (c:z<=9223372036854775807):(Lit.int .i64 z).wf=true:=by
 have h:=wrap64_wf z;have e:wrap64 z=z:=by unfold wrap64;omega
 rw[e]at h;exact h
theorem zr6 {z:Int} (b: -9223372036854775808<=z) (c:z<=9223372036854775807):keyOf Tryz.prog 3 (.int .i64 z)=some (.int .i64 z):=Maps.keyOf_int_mk Tryz.underlying3 (za7c b c)
structure Gri (W:World) (base bm:Nat) (ys:List (Rw×Int)) (qs:List Int) (D:DataW Unit) (hv:Int->Value):Prop where
 map:W.ownsMap Tryz.prog 3 hdQ bm qs.length D
 isMap:Maps.IsMap D
 hd:∀z,hdQ (hv z)=some (D.atKey (.int .i64 z) .nil, [])
 has:∀z,Maps.has D (.int .i64 z)=true↔z∈qs
 own:∀z,W.ownsRow base 112 3 (hv z) (rowsQ ys z).length (flatR (rowsQ ys z))
 apart:∀x y,x≠y->(hv x).ownBlock=none\/(hv x).ownBlock≠(hv y).ownBlock
 low:bm<base
 all:∀p∈ys,p.2∈qs
theorem Gri.keep {W i:World} {base c:Nat} {n:List (Rw×Int)} {o:List Int} {D:DataW Unit} {j:Int->Value} (h:Gri W base c n o D j) (u:i.heap[c]? =W.heap[c]?) (v:∀z g,(j z).ownBlock=some g->i.heap[g]? =W.heap[g]?):Gri i base c n o D j where
 map:=by
  obtain⟨p,b,k,r⟩:=h.map;exact⟨p,b,u.trans k,r⟩
 isMap:=h.isMap
 hd:=h.hd
 has:=h.has
 own:=fun z=>by
  obtain⟨q,f⟩:=h.own z;refine⟨q,?_⟩;rcases f with f | ⟨g,l,m,d,s,t,r⟩
  ·exact Or.inl f
  ·exact Or.inr ⟨g,l,m,d,s,(v z g (by rw[d];rfl)).trans t,r⟩
 apart:=h.apart
 low:=h.low
 all:=h.all
theorem Gri.below {W c:World} {base b:Nat} {d:List (Rw×Int)} {f:List Int} {D:DataW Unit} {i:Int->Value} (h:Gri W base b d f D i) (j:BL W c):Gri c base b d f D i :=
 h.keep (j.block b h.map.lt) fun z g hg=>j.block g (zd5 (h.own z) hg).2
theorem Gri.made (W:World) (b base:Nat) (c:W.ownsMap Tryz.prog 3 hdQ b 0 (.map [])) (d:b<base):Gri W base b [] [] (.map []) (fun _=>.slice none 0 0) where
 map:=c
 isMap:=Maps.isMap_empty
 hd:=fun _=>rfl
 has:=fun z=>by simp[Maps.has]
 own:=fun z=>by simp[rowsQ,flatR];exact World.ownsRow_nil _ _ _ _
 apart:=fun _ _ _=>Or.inl rfl
 low:=d
 all:=fun p hp=>by cases hp
theorem Gri.look {W:World} {base f:Nat} {i:List (Rw×Int)} {j:List Int} {D:DataW Unit} {g:Int->Value} (h:Gri W base f i j D g) {z:Int} (k: -9223372036854775808<=z) (l:z<=9223372036854775807) :
  (Instr.lookup 94 (.map (some f)) (.int .i64 z) false).run Tryz.prog W= .ok (g z) W:=by
 obtain⟨v,m,b,d⟩:=h.map.lookup Tryz.keyedI Tryz.underlying94 (Tryz.zeroRows2 W) (zd:=.nil) (zp:= []) rfl (zr6 k l);have c:=za7a d;simp only at c;subst c;rw[b,za7b d (h.hd z)]
theorem Gri.step {W o z:World} {base f:Nat} {s:List (Rw×Int)} {A:List Int} {D:DataW Unit} {i:Int->Value} (h:Gri W base f s A D i) (q:Int) (l:List Rw) (j:Value) (d:DataW Unit)
  (k:o.ownsRow base 112 3 j ((rowsQ s q).length+l.length) (flatR (rowsQ s q)++flatR l))
  (I:W.grownBy o (i q).ownBlock) (b:j.ownBlock=(i q).ownBlock\/j.ownBlock=some W.heap.size)
  (J:z.ownsMap Tryz.prog 3 hdQ f (A.length+1) (D.put (.int .i64 q) d)) (u:o.grownBy z (some f)) (K:hdQ j=some (d, [])) :
  Gri z base f (s++l.map fun r=>(r,q)) (q :: A) (D.put (.int .i64 q) d) (fun m=>if m=q then j else i m):=by
 have B:∀ {v:Value} {n:Nat} {l:List Value},o.ownsRow base 112 3 v n l->v.ownBlock=none\/v.ownBlock≠some f:=fun {v n l} hr=>by
  cases G:v.ownBlock with
  | none=>exact Or.inl rfl
  | some g =>
   refine Or.inr fun e=>?_;have:=(zd5 hr G).1;have L:=h.low;simp only[Option.some.injEq]at e;omega
 have t:∀ {x y:Int},x≠y->Lit.int .i64 x≠Lit.int .i64 y:=fun h e=>h (by injection e);refine⟨J,h.isMap.put _ _,fun m=>?_,fun m=>?_,fun m=>?_,fun x' y' hxy=>?_,h.low,fun p c=>?_⟩
 ·by_cases e:m=q
  ·subst e;rw[if_pos rfl,Maps.atKey_put_same h.isMap (show WideAt.IsKeyLit (.int .i64 m) from trivial)];exact K
  ·rw[if_neg e,Maps.atKey_put_other (t e)];exact h.hd m
 ·by_cases e:m=q
  ·subst e;rw[Maps.has_put_same h.isMap (show WideAt.IsKeyLit (.int .i64 m) from trivial)];simp
  ·rw[Maps.has_put_other (t e),List.mem_cons];rw[h.has m];simp[e]
 ·rw[zb7m];by_cases e:m=q
  ·subst e;rw[if_pos rfl,zb7n,List.length_append,zc3];exact k.kept u (B k)
  ·rw[if_neg e,zb7o l q m e,List.append_nil];have C:=(h.own m).kept I (h.apart m q e);exact C.kept u (B C)
 ·by_cases E:x'=q
  ·subst E;rw[if_pos rfl,if_neg (fun e'=>hxy e'.symm)];rcases b with b | b
   ·rw[b];exact h.apart _ _ hxy
   ·rw[b];refine Or.inr fun e=>?_;have:=(zd5 (h.own y') e.symm).2;omega
  ·rw[if_neg E];by_cases F:y'=q
   ·subst F;rw[if_pos rfl];rcases b with b | b
    ·rw[b];exact h.apart _ _ hxy
    ·rw[b]
     cases H:(i x').ownBlock with
     | none=>exact Or.inl rfl
     | some g =>
      refine Or.inr fun e=>?_;have:=(zd5 (h.own x') H).2;simp only[Option.some.injEq]at e;omega
   ·rw[if_neg F];exact h.apart _ _ hxy
 ·rw[List.mem_append]at c;rcases c with c | c
  ·exact List.mem_cons_of_mem _ (h.all p c)
  ·obtain⟨r,_,rfl⟩:=List.mem_map.1 c;exact List.mem_cons_self
structure Las (W:World) (bm:Nat) (l:List (Int×Int)) (D:DataW Unit):Prop where
 map:W.ownsMap Tryz.prog 3 (plainElem Tryz.prog 3) bm l.length D
 isMap:Maps.IsMap D
 at_:∀z,D.atKey (.int .i64 z) (.lit (.int .i64 0))= .lit (.int .i64 (lastC l z))
 bnd:∀p∈l,p.2<=1073741824
theorem Las.keep {W f:World} {c:Nat} {l:List (Int×Int)} {D:DataW Unit} (h:Las W c l D) (i:f.heap[c]? =W.heap[c]?):Las f c l D where
 map:=by
  obtain⟨g,b,d,r⟩:=h.map;exact⟨g,b,i.trans d,r⟩
 isMap:=h.isMap
 at_:=h.at_
 bnd:=h.bnd
theorem Las.made (W:World) (b:Nat) (c:W.ownsMap (H:=Unit) Tryz.prog 3 (plainElem Tryz.prog 3) b 0 (.map [])):Las W b [] (.map []) where
 map:=c
 isMap:=Maps.isMap_empty
 at_:=fun _=>rfl
 bnd:=fun p hp=>by cases hp
theorem Las.look {W:World} {f:Nat} {l:List (Int×Int)} {D:DataW Unit} (h:Las W f l D) {z:Int} (g: -9223372036854775808<=z) (i:z<=9223372036854775807) :
  (Instr.lookup 95 (.map (some f)) (.int .i64 z) false).run Tryz.prog W= .ok (.int .i64 (lastC l z)) W:=by
 obtain⟨c,d,b,_⟩:=h.map.lookup_int Tryz.keyedI Tryz.underlying95 Tryz.underlying3 (Tryz.zeroInt2 W) (zr6 g i);rw[h.at_ z]at b;have:lastC l z=c:=by simpa using b
 rw[this];exact d
theorem Las.step {W:World} {c:Nat} {l:List (Int×Int)} {D:DataW Unit} (h:Las W c l D) {z q:Int} (i: -9223372036854775808<=z) (j:z<=9223372036854775807) (o:l.length<1000000) (m:0<=q/\q<=1073741824) :
  ∃w',(Instr.mapUpdate 95 (.map (some c)) (.int .i64 z) (.int .i64 (max (lastC l z) q))).run Tryz.prog W= .ok () w'/\(∃D',Las w' c (l++ [(z,q)]) D')/\W.mapTurned w' c:=by
 have n:=zb7g h.bnd (by omega) z;obtain⟨w',d,f,g⟩:=h.map.store Tryz.keyedI Tryz.underlying95 (by unfold maxLen;omega) (zr6 i j) (plainElem_int Tryz.underlying3 (za7c (z:=max (lastC l z) q) (by omega) (by omega)));refine⟨w',d,⟨_,⟨by rw[List.length_append];exact f,h.isMap.put _ _,fun k=>?_,fun p b=>?_⟩⟩,g⟩
 rotate_left
 ·rw[List.mem_append,List.mem_singleton]at b;rcases b with b | rfl
  ·exact h.bnd p b
  ·exact m.2
 rw[za6c];by_cases e:z=k
 ·subst e;rw[Maps.atKey_put_same h.isMap (show WideAt.IsKeyLit (.int .i64 z) from trivial),if_pos rfl]
 ·rw[Maps.atKey_put_other (fun e'=>e (by injection e' with _ e';exact e'.symm)),if_neg e];exact h.at_ k
structure CtAt (W:World) (base b1 b2:Nat) (c:Ct) (qs:List Int):Prop where
 rows:∃D hv,Gri W base b1 c.1 qs D hv
 keys:∃D,Las W b2 c.2 D
 low:b2<base
 ne:b1≠b2
theorem CtAt.below {W f:World} {base g b:Nat} {c:Ct} {i:List Int} (h:CtAt W base g b c i) (j:BL W f):CtAt f base g b c i:=by
 obtain⟨⟨D,k,l⟩,⟨m,d⟩,n,o⟩:=h;exact⟨⟨D,k,l.below j⟩,⟨m,d.keep (j.block b d.map.lt)⟩,n,o⟩
theorem CtAt.addKey {W:World} {base j b:Nat} {c:Ct} {o:List Int} (h:CtAt W base j b c o) {z q:Int} (p: -9223372036854775808<=z) (r:z<=9223372036854775807) (y:c.2.length<1000000) (A:0<=q/\q<=1073741824) :
  ∃w',(Instr.lookup 95 (.map (some b)) (.int .i64 z) false).run Tryz.prog W= .ok (.int .i64 (lastC c.2 z)) W/\(Instr.mapUpdate 95 (.map (some b)) (.int .i64 z) (.int .i64 (max (lastC c.2 z) q))).run Tryz.prog W= .ok () w' /\
   CtAt w' base j b (c.1,c.2++ [(z,q)]) o/\But (fun k=>k=b) W w':=by
 obtain⟨⟨D,s,f⟩,⟨B,l⟩,t,m⟩:=h;obtain⟨w',i,n,u⟩:=l.step (q:=q) p r y A;have d:=But.of_turned u;refine⟨w',l.look p r,i,⟨⟨D,s,f.keep (d.block j f.map.lt m) fun z g hg=>?_⟩,n,t,m⟩,d⟩;obtain⟨C,v⟩:=zd5 (f.own z) hg;exact d.block g v (by omega)
theorem CtAt.noCell {W:World} {base g i:Nat} {c:Ct} {n:List Int} (h:CtAt W base g i c n) {b o:Nat} {v:Value} (j:W.cell? ⟨b,o,none⟩=some v):b≠g/\b≠i:=by
 obtain⟨⟨D,p,k⟩,⟨q,l⟩,r,s⟩:=h;constructor
 ·rintro rfl;obtain⟨m,d,f,_⟩:=k.map;simp[World.cell?,f]at j
 ·rintro rfl;obtain⟨m,d,f,_⟩:=l.map;simp[World.cell?,f]at j
def OfC (W:World) (base b1 b2:Nat) (k:Nat):Prop:=k=b1\/k=b2\/(base<=k/\∃c f,W.heap[k]? =some (.cells c 112 f))
theorem zh8 {W j m:World} {base d g:Nat} (h:But (OfC W base d g) W j) (k:But (OfC j base d g) j m):But (OfC W base d g) W m:=by
 refine h.trans k fun i b hlt=>?_;rcases b with b | b | ⟨n,c,f,o⟩
 ·exact Or.inl b
 ·exact Or.inr (Or.inl b)
 ·by_cases l:OfC W base d g i
  ·exact l
  ·exact Or.inr (Or.inr ⟨n,c,f,(h.block i hlt l).symm.trans o⟩)
theorem zb8l {W b:World} {base c d B:Nat} (h:But (OfC W base c d) W b) (f:B<=W.heap.size) (g:B<=c) (i:B<=d) (l:B<=base):Below B W b :=
 h.below f fun k hk=>by
  rcases hk with rfl | rfl | ⟨j,_⟩
  ·exact g
  ·exact i
  ·omega
theorem za0e {W b:World} {base c d k:Nat} (h:But (OfC W base c d) W b) (f:k<W.heap.size) (l:k<base) (g:k≠c) (i:k≠d):b.heap[k]? =W.heap[k]? :=
 h.block k f fun hP=>by
  rcases hP with e | e | ⟨j,_⟩
  ·exact g e
  ·exact i e
  ·omega
theorem zb8m {W:World} {q:Option Addr} {n c:Nat} {l:List Rw} (h:RowsAt W (.slice q n c) l) (d:l≠ []):n=l.length/\Src W q n c (flatR l):=by
 rcases h with⟨_,_,_,e⟩|⟨b,o,g,e,f⟩
 ·exact absurd e d
 ·injection e with e1 e2 e3;subst e1 e2;exact⟨rfl,Or.inr ⟨b,o,rfl,ze4 f⟩⟩
theorem CtAt.addRows {W:World} {base m j:Nat} {c:Ct} {y:List Int} (h:CtAt W base m j c y) (z:base<=W.heap.size) {q:Int} (X: -9223372036854775808<=q) (Y:q<=9223372036854775807) {G:Option Addr} {Z H:Nat} {l:List Rw} (hs:RowsAt W (.slice G Z H) l) (aa:l≠ []) (hq:y.length<1000000) (hc:c.1.length+l.length<=1000000) :
  ∃v v' w1 w2,(Instr.lookup 94 (.map (some m)) (.int .i64 q) false).run Tryz.prog W= .ok v W/\(∃vq vn vc,v= .slice vq vn vc)/\(∃vq vn vc,v'= .slice vq vn vc) /\
   (Builtin.append_ #[44,44] 44 #[v,.slice G Z H]).run Tryz.prog W= .ok v' w1/\(Instr.mapUpdate 94 (.map (some m)) (.int .i64 q) v').run Tryz.prog w1= .ok () w2 /\
   (∀(k:Nat) (c:Array Value) (t:TypeId) (f:Nat×Nat),W.heap[k]? =some (.cells c t f)->t≠112->w1.heap[k]? =some (.cells c t f)) /\
   CtAt w2 base m j (c.1++l.map (fun r=>(r,q)),c.2) (q :: y)/\But (OfC W base m j) W w2:=by
 obtain⟨i0,O,Q,R,A⟩:=Tryz.rowInfo;obtain⟨⟨D,s,g⟩,⟨D2,B⟩,h3,S⟩:=h;have p:=g.look X Y;obtain⟨rfl,C⟩:=zb8m hs aa;have ab:(rowsQ c.1 q).length<=c.1.length:=by
  unfold rowsQ;rw[List.length_map];exact List.length_filter_le _ _
 obtain⟨v',w1,E,n,b,T⟩:=zf1 (P:=Tryz.prog) W base 44 44 112 i0 (.agg #[.string ⟨#[]⟩,.int .i64 0,.int .i64 0]) 3 32 Tryz.underlying44 O Q R A rfl (by decide) (s q) (rowsQ c.1 q).length (flatR (rowsQ c.1 q)) (g.own q) G l.length H (flatR l) (zb9 l) C (ze3 l) (by unfold maxLen;omega) (by omega) z;obtain⟨d,F⟩:=zr5 n;have I:some m≠(s q).ownBlock:=fun e=>by
  have:=(zd5 (g.own q) e.symm).1;have:=g.low;omega
 have J:w1.ownsMap Tryz.prog 3 hdQ m y.length D:=g.map.kept b I;obtain⟨w2,u,U,o⟩:=J.store Tryz.keyedI Tryz.underlying94 (by unfold maxLen;omega) (zr6 X Y) F;have K:=g.step q l v' d n b T U o.grown F;have L:some j≠(s q).ownBlock:=fun e=>by
  have:=(zd5 (g.own q) e.symm).1;omega
 have M:w2.heap[j]? =W.heap[j]? :=(o.grown.block j (Nat.lt_of_lt_of_le B.map.lt b.size) (fun e=>S (by injection e with e;exact e.symm))).trans (b.block j B.map.lt L);refine⟨s q,v',w1,w2,p,zh7 (g.hd q),zh7 F,E,u,fun k c t f hk ht=>?_,⟨⟨_,_,K⟩,⟨D2,B.keep M⟩,h3,S⟩,?_⟩
 ·exact zh5 (g.own q) b hk ht
 ·have N:But (OfC W base m j) W w1:=⟨b.os,b.tape,b.output,b.size,fun k hk hP=>b.block k hk fun e=>hP (by
   obtain⟨g1,V,g2⟩:=zm6 (g.own q) e.symm;exact Or.inr (Or.inr ⟨g1,V,_,g2⟩))⟩
  exact N.trans (But.of_turned o) fun i hi _=>Or.inl hi
theorem zb8n {P:Program} {b:Array Oper} {o:Oper} {a:Act} {w w':World} {K:Act->World->Prop} {Q:Exit->Act->World->Prop} {E:Prop}
  (i:o.guard=none) (s x:Operand) (t:TypeId) (d:o.op=Op.call { callee:=Callee.builtin Builtin.append,args:=#[s,x],argTypes:=#[t,t] }) (v u f:Value) (j:a.eval s=v) (k:a.eval x=u)
  (c:(Builtin.append_ #[t,t] o.type #[v,u]).run P w= .ok f w') (l:K (a.put o.dst f) w'):if Region.wanted o (yielded b a.tmps)=true then Oper.wp P o a w K Q else E:=by
 have g:Region.wanted o (yielded b a.tmps)=true:=by simp[Region.wanted,i]
 rw[if_pos g];unfold Oper.wp;simp[execOp,d,resolve,invoke,builtin,j,k,c,Result.andThen];exact l
abbrev ctV (b1 b2:Nat):Value:=.agg #[.map (some b1),.map (some b2)]
theorem zb8o (w:World):Calls Tryz.prog 46 #[] w fun e w'=> ∃b1 b2,e= .returned (ctV b1 b2)/\w.heap.size<=b1/\w.heap.size<=b2/\b1<w'.heap.size/\b2<w'.heap.size/\(∀base,b1<base->b2<base->CtAt w' base b1 b2 ([], []) [])/\BL w w':=by
 have l:=@run_makeMap Tryz.prog;have b:BL w (((w.alloc (.cells #[.map (some (w.heap.size+1)),.map (some (w.heap.size+1+1))] 97)).alloc (.map #[] 0)).alloc (.map #[] 0)):=((alB _ _).alloc (by simp) _).alloc (by simp;omega) _;have g:Hid _:=b;have i:Hid (∀base,w.heap.size+1<base->w.heap.size+1+1<base->CtAt (((w.alloc (.cells #[.map (some (w.heap.size+1)),.map (some (w.heap.size+1+1))] 97)).alloc (.map #[] 0)).alloc (.map #[] 0)) base (w.heap.size+1) (w.heap.size+1+1) ([], []) []):=fun base h1 h2=>by
  have c:=World.ownsMap_made (w.alloc (.cells #[.map (some (w.heap.size+1)),.map (some (w.heap.size+1+1))] 97)) Tryz.prog 3 hdQ;have d:=World.ownsMap_made ((w.alloc (.cells #[.map (some (w.heap.size+1)),.map (some (w.heap.size+1+1))] 97)).alloc (.map #[] 0)) Tryz.prog 3 (plainElem (H:=Unit) Tryz.prog 3);have j:(w.alloc (.cells #[.map (some (w.heap.size+1)),.map (some (w.heap.size+1+1))] 97)).heap.size=w.heap.size+1:=by simp
  have k:((w.alloc (.cells #[.map (some (w.heap.size+1)),.map (some (w.heap.size+1+1))] 97)).alloc (.map #[] 0)).heap.size=w.heap.size+1+1:=by simp
  rw[j]at c;rw[k]at d;refine⟨⟨_,_,Gri.made _ _ base (c.alloc _) h1⟩,⟨_,Las.made _ _ d⟩,h2,by omega⟩
 have f:Hid ((((w.alloc (.cells #[.map (some (w.heap.size+1)),.map (some (w.heap.size+1+1))] 97)).alloc (.map #[] 0)).alloc (.map #[] 0)).heap.size=w.heap.size+3):=by show _=_;simp
 clear b
 go_enter Tryz.func46,Tryz.ntmps46
 go_wp2;refine bodyPost_ret (v:=ctV (w.heap.size+1) (w.heap.size+1+1)) (by simp[results,Tryz.results46,go_sem]) rfl ?_;exact⟨_,_,rfl,by omega,by omega,by rw[f.out];omega,by rw[f.out];omega,i.out,g.out⟩
theorem zb8p (W:World) (a:Nat->Addr) (M:EnvD W a) (base b d:Nat) (c:Ct) (s:List Int) (q:Int) (t:ByteArray) (h:CtAt W base b d c s) (y:base<=W.heap.size) (hq:1<=q/\q<=1073741824) (U:t.size<=maxLen) (G:(dataO t.data.toList).2.1=0) (C:(dataO t.data.toList).1≠ []) (N:s.length<1000000) (O:c.1.length+(dataO t.data.toList).1.length<=1000000) :
  Calls Tryz.prog 145 #[ctV b d,.int .i64 q,.string t] W fun e w'=>e= .returned .nilIface/\CtAt w' base b d (c.1++(dataO t.data.toList).1.map (fun r=>(r,q)),c.2) (q :: s)/\But (OfC W base b d) W w':=by
 have j:BL W (W.alloc (.cells #[.map (some b),.map (some d)] 97)):=alB _ _;have i:(W.alloc (.cells #[.map (some b),.map (some d)] 97)).heap[W.heap.size]? =some (.cells #[.map (some b),.map (some d)] 97 (0,0)):=heap_alloc_new _ _;have p:=za3q t (W.alloc (.cells #[.map (some b),.map (some d)] 97)) a (M.below j) U;generalize S:dataO t.data.toList=D at p G C O ⊢;have H:Hid (CtAt (W.alloc (.cells #[.map (some b),.map (some d)] 97)) base b d c s):=h.below j;have I:base<=(W.alloc (.cells #[.map (some b),.map (some d)] 97)).heap.size:=Nat.le_trans y j.size;clear h S M
 go_enter Tryz.func145,Tryz.ntmps145
 go_upto_region 1 with fail
 have J:Hid (BL W (W.alloc (.cells #[.map (some b),.map (some d)] 97))):=j;clear j;generalize W.alloc (.cells #[.map (some b),.map (some d)] 97)=T at *;generalize W.heap.size=o at i ⊢
 go_wp2_with fail
 refine p.mono ?_;rintro e g ⟨l,m⟩;clear p;obtain⟨-,v,rfl,F⟩:D.2.1=0/\∃v,e= .returned (.tuple #[v,.nilIface])/\RowsAt g v D.1:=by
  rcases m with m | m | m
  ·exact m
  ·exact absurd G m.1
  ·exact absurd G m.1
 obtain⟨Z,sc,rfl⟩:=F.form;have k:BL g g.drew:=(Below.refl _ _).drew;have f:g.drew.heap[o]? =some (.cells #[.map (some b),.map (some d)] 97 (0,0)):=(l.block o (Array.getElem?_eq_some_iff.1 i).1).trans i;obtain⟨u,u',Q,K,r1,⟨uq,un,uc,rfl⟩,⟨vq,vn,vc,rfl⟩,R,r3,z,A,B⟩:=((H.out.below l).below k).addRows (q:=q) (Nat.le_trans I (Nat.le_trans l.size k.size)) (by omega) (by omega) (F.below k) C N O;have n:=z _ _ _ _ f (by decide);have E:Hid (CtAt K base b d (c.1++D.1.map (fun r=>(r,q)),c.2) (q :: s)/\But (OfC g.drew base b d) g.drew K/\BL T g.drew):=⟨A,B,(trB l k)⟩;have V:g.cell? ⟨o,0,none⟩=some (.map (some b)):=by
  rw[cell_of_row _ _ _ _ _ _ (show g.heap[o]? =_ from f)];rfl
 have X:g.drew.cell? ⟨o,0,none⟩=some (.map (some b)):=by
  rw[cell_of_row _ _ _ _ _ _ f];rfl
 have Y:Q.cell? ⟨o,0,none⟩=some (.map (some b)):=by
  rw[cell_of_row _ _ _ _ _ _ n];rfl
 generalize D.1.length=L at *;clear A B z i f n F m l k H;go_wp2
 go_region_law (refine zb8n (by rfl) _ _ _ (by rfl) _ _ _ (by rfl) (by rfl) R ?_)
 all_goals go_wp2
 all_goals go_ret
 all_goals
  refine⟨rfl,E.out.1,?_⟩;have P:But (OfC W base b d) W g.drew:=But.of_below (J.out.trans (E.out.2.2.mono J.out.size));exact zh8 P E.out.2.1
theorem zb8q (x y:Int) (w:World):(Builtin.max_ #[3,3] 3 #[.int .i64 x,.int .i64 y]).run Tryz.prog w= .ok (.int .i64 (max x y)) w:=by
 have e:max x y=if y > x then y else x:=by split<;>omega
 rw[e];simp[Builtin.max_,Builtin.max2]
theorem zb8r (b:List Int) (q:Int) (n:Nat) (h:n<b.length):(b.take (n+1)).map (fun z=>(z,q))=(b.take n).map (fun z=>(z,q))++ [(b[n],q)]:=by
 rw[List.take_succ_eq_append_getElem h,List.map_append];rfl
theorem zb8s (W:World) (a:Nat->Addr) (hE:EnvD0 W a) (base g d:Nat) (c:Ct) (u:List Int) (q:Int) (t:ByteArray) (h:CtAt W base g d c u) (hq:1<=q/\q<=1073741824) (ht:t.size<=maxLen) (H:(goneO t.data.toList).2.1=0) (E:∀z∈(goneO t.data.toList).1,-9223372036854775808<=z/\z<=9223372036854775807) (Y:c.2.length+(goneO t.data.toList).1.length<=1000000) :
  Calls Tryz.prog 144 #[ctV g d,.int .i64 q,.string t] W fun e w'=>e= .returned .nilIface/\CtAt w' base g d (c.1,c.2++(goneO t.data.toList).1.map fun z=>(z,q)) u/\But (OfC W base g d) W w':=by
 have y:BL W (W.alloc (.cells #[.map (some g),.map (some d)] 97)):=alB _ _;have p:(W.alloc (.cells #[.map (some g),.map (some d)] 97)).heap[W.heap.size]? =some (.cells #[.map (some g),.map (some d)] 97 (0,0)):=heap_alloc_new _ _;have F:=za4e t (W.alloc (.cells #[.map (some g),.map (some d)] 97)) a (hE.below y) ht;generalize hD:goneO t.data.toList=D at F H E Y ⊢;obtain⟨f,E0⟩:=D;dsimp only at H E Y ⊢;have Z:Hid (CtAt (W.alloc (.cells #[.map (some g),.map (some d)] 97)) base g d c u):=h.below y;clear h hD hE
 go_enter Tryz.func144,Tryz.ntmps144
 go_upto_region 1 with fail
 have HA:Hid (BL W (W.alloc (.cells #[.map (some g),.map (some d)] 97))):=y;clear y;generalize W.alloc (.cells #[.map (some g),.map (some d)] 97)=W1 at *;generalize W.heap.size=J at p ⊢
 go_wp2_with fail
 refine F.mono ?_;rintro e l ⟨C,s⟩;clear F;obtain⟨-,v,rfl,U,-⟩:E0.1=0/\∃v,e= .returned (.tuple #[v,.nilIface])/\KeysAt l v f/\NewAt W1 v:=by
  rcases s with s | s | s
  ·exact s
  ·exact absurd H s.1
  ·exact absurd H s.1
 clear s H;obtain⟨kq,kc,rfl⟩:=U.form;have G:=Z.out.below C;have A:l.heap[J]? =some (.cells #[.map (some g),.map (some d)] 97 (0,0)):=(C.block J (Array.getElem?_eq_some_iff.1 p).1).trans p;have k0:l.cell? ⟨J,1,none⟩=some (.map (some d)):=by
  rw[cell_of_row _ _ _ _ _ _ A];rfl
 have K:Hid (KeysAt l (.slice kq f.length kc) f):=U;have aa:Hid (BL W1 l):=C;have ab:Hid (∀z∈f,-9223372036854775808<=z/\z<=9223372036854775807):=E;have S:=(G.noCell k0).2;obtain⟨L,V⟩:∃L,f.length=L:=⟨_,rfl⟩;have T:Hid (f.length=L):=V;rw[V]at K Y ⊢;have M:Hid (CtAt l base g d c u):=G;clear V U C E G p A Z;go_wp2
 go_loopw [18] (fun k wr=> ∃n:Nat,n<=L/\k= .int .i64 n/\CtAt wr base g d (c.1,c.2++(f.take n).map fun z=>(z,q)) u/\But (fun k=>k=d) l wr) (fun k _=>L-(intOf k).toNat)
 case atStart=>exact ⟨0,by omega,rfl,by simpa using M.out,But.refl _ _⟩
 case round =>
  obtain⟨n,hn,rfl,B,m⟩:=hrel;have N:Hid (CtAt wr base g d (c.1,c.2++(f.take n).map fun z=>(z,q)) u):=B;have ac:Hid (But (fun k=>k=d) l wr):=m;have k1:wr.cell? ⟨J,1,none⟩=some (.map (some d)):=m.keep S k0;by_cases ad:n<L
  ·have r:n<f.length:=by rw[T.out];exact ad
   rcases K.out with⟨_,_,e,e'⟩|⟨b,o,ae,e,j⟩
   ·exfalso;have:=T.out;rw[e']at this;simp at this;omega
   injection e with e1 e2 e3;subst e1;clear e2 e3;have c1:wr.cell? ⟨b,o+n,none⟩=some (.int .i64 f[n]):=m.keep (M.out.noCell (j n r)).2 (j n r);clear j;have hi:(n:Int)<(L:Int):=by omega
   obtain⟨z1,z2⟩:=ab.out f[n] (List.getElem_mem _);obtain⟨w4,X,I,Q,R⟩:=B.addKey (z:=f[n]) (q:=q) z1 z2 (by simp only[List.length_append,List.length_map,List.length_take];omega) (by omega);have O:Hid (CtAt w4 base g d (c.1,c.2++(f.take (n+1)).map fun z=>(z,q)) u/\But (fun k=>k=d) l w4):=⟨by
    rw[zb8r f q n r,<-List.append_assoc];exact Q,m.trans R fun _ e _=>e⟩
   dsimp only at X I;have P:=fun W=>zb8q (lastC (c.2++(f.take n).map fun z=>(z,q)) f[n]) q W;generalize lastC (c.2++(f.take n).map fun z=>(z,q)) f[n]=lc at X I P;generalize max lc q=mx at I P;generalize f[n]=z at c1 X I;clear Q R B m z1 z2 r;go_wp2;go_roundw
   case rel=>exact ⟨n+1,by omega,by go_num,O.out.1,O.out.2⟩
   case measure=>simp [intOf];omega
  ·obtain rfl:n=L:=by omega
   rw[List.take_of_length_le (by rw[T.out];omega)]at N;clear B m;go_wp2;go_ret;refine⟨rfl,N.out,?_⟩;have h1:But (OfC W base g d) W l:=But.of_below (HA.out.trans (aa.out.mono HA.out.size));exact h1.trans ac.out fun i e _=>Or.inr (Or.inl e)
def TxsAt (w:World) (v:Value) (ts:List ByteArray):Prop :=
 (∃p c,v= .slice p 0 c/\ts= [])\/∃b o cap,v= .slice (some ⟨b,o,none⟩) ts.length cap/\∀j (h:j<ts.length),w.cell? ⟨b,o+j,none⟩=some (.string ts[j])
theorem TxsAt.below {w w':World} {v:Value} {d:List ByteArray} (h:TxsAt w v d) (i:BL w w'):TxsAt w' v d:=by
 rcases h with h | ⟨b,o,c,f,g⟩
 ·exact Or.inl h
 ·exact Or.inr ⟨b,o,c,f,fun j hj=>za0 i (g j hj)⟩
theorem TxsAt.form {w:World} {v:Value} {f:List ByteArray} (h:TxsAt w v f):∃q c,v= .slice q f.length c:=by
 rcases h with⟨p,c,rfl,rfl⟩|⟨b,o,d,rfl,_⟩
 ·exact⟨p,c,rfl⟩
 ·exact⟨_,d,rfl⟩
theorem TxsAt.at {w:World} {q:Option Addr} {n c:Nat} {d:List ByteArray} (h:TxsAt w (.slice q n c) d) (f:d≠ []):∃b o,q=some ⟨b,o,none⟩/\∀j (h:j<d.length),w.cell? ⟨b,o+j,none⟩=some (.string d[j]):=by
 rcases h with⟨p,k,_,e⟩|⟨b,o,i,e,g⟩
 ·exact absurd e f
 ·injection e with e1;exact⟨b,o,e1,g⟩
theorem za0f (v A:Value) (b:List ByteArray) (w:World) (h:TxsAt w v b) (p:TxsAt w A b) (I:b.length<=1000) :
  Calls Tryz.prog 21 #[v,A] w fun e w'=>e= .returned (.bool true)/\BL w w':=by
 obtain⟨q,c,rfl⟩:=h.form;obtain⟨F,G,rfl⟩:=p.form;have B:Hid (TxsAt w (.slice q b.length c) b):=h;have C:Hid (TxsAt w (.slice F b.length G) b):=p;obtain⟨L,m⟩:∃L,b.length=L:=⟨_,rfl⟩;have D:Hid (b.length=L):=m;rw[m]at I ⊢;clear m h p
 go_enter Tryz.func21,Tryz.ntmps21
 go_wp2
 go_loopw [5] (fun k wr=> ∃n:Nat,n<=L/\k= .int .i64 n/\BL w wr) (fun k _=>L-(intOf k).toNat)
 case atStart=>exact ⟨0,by omega,rfl,Below.refl _ _⟩
 case round =>
  obtain⟨n,M,rfl,i⟩:=hrel;by_cases r:n<L
  ·have d:n<b.length:=by rw[D.out];exact r
   have f:b≠ []:=fun e=>by rw[e]at d;simp at d
   obtain⟨g,o,H,y⟩:=(B.out.below i).at f;obtain⟨N,O,z,l⟩:=(C.out.below i).at f;subst H;subst z;have s:=y n d;have u:=l n d;generalize b[n]=t at s u;have J:(t.toList == t.toList)=true:=by simp
   have K:(n:Int)<(L:Int):=by omega
   have E:(0:Int)<=(n:Int):=by omega
   clear y l d f
   go_wp2_with fail
   go_quiet (fail)
   have j:BL w (wr.drewN nq):=za4 i nq;clear s u;generalize wr.drewN nq=P at j ⊢;go_wp2;go_roundw
   case rel=>exact ⟨n+1,by omega,by go_num,j⟩
   case measure=>simp [intOf];omega
  ·obtain rfl:n=L:=by omega
   go_wp2;go_ret;exact⟨rfl,i⟩
theorem za7d {w:World} {b o:Nat} {c:List Ob} (h:ObCells w b o c) (n:Nat):ObCells w b o (c.take n):=fun j hj=>by
 rw[List.length_take]at hj;have:=h j (by omega);rw[List.getElem_take];exact this
theorem zb8t {w:World} {b o:Nat} {c:List Ob} (h:ObCells w b o c) (n:Nat):ObCells w b (o+n*3) (c.drop n):=fun j hj=>by
 rw[List.length_drop]at hj;have:=h (n+j) (by omega);rw[List.getElem_drop];have e:o+n*3+j*3=o+(n+j)*3:=by omega
 rw[e];exact this
theorem za7e:∀(l:List Ob) (m:Nat) (h:m<l.length),bytesS (l.take (m+1))=bytesS (l.take m)+l[m].2.1.size
 | [],_,h=>by simp at h
 | o :: l,0,_=>by simp[bytesS]
 | o :: l,m+1,h=>by
  have:=za7e l m (by simpa using h);simp only[bytesS,List.take_succ_cons,List.map_cons,List.sum_cons,List.getElem_cons_succ]at *;omega
theorem za7f:∀(l:List Ob) (_:∀o∈l,o.2.1.size<=20000) (m:Nat),bytesS (l.take m)<=m*20000
 | [],_,_=>by simp[bytesS]
 | o :: l,_,0=>by simp[bytesS]
 | o :: l,h,m+1=>by
  have:=za7f l (fun p hp=>h p (List.mem_cons_of_mem _ hp)) m;have b:=h o List.mem_cons_self;simp only[bytesS,List.take_succ_cons,List.map_cons,List.sum_cons]at *;omega
theorem za7g {l:List Ob} {o:Ob} {m:Nat} (n:m<=l.length) (k:∀i (h:i<l.length),i<m->l[i].1.data.toList<o.1.data.toList) (d:∀h:m<l.length,¬l[m].1.data.toList<o.1.data.toList):insO l o=l.take m++o :: l.drop m:=by
 have b:∀p∈l.take m,p.1.data.toList<o.1.data.toList:=fun p hp=>by
  obtain⟨a,j,rfl⟩:=List.mem_iff_getElem.1 hp;rw[List.length_take]at j;rw[List.getElem_take];exact k a (by omega) (by omega)
 have c:l=l.take m++l.drop m:=(List.take_append_drop m l).symm;have f:l.takeWhile (fun p=>decide (p.1.data.toList<o.1.data.toList))=l.take m:=by
  conv=>lhs;rw[c]
  rw[List.takeWhile_append_of_pos (fun p hp=>by simpa using b p hp)];rcases Nat.lt_or_ge m l.length with h | h
  ·rw[List.drop_eq_getElem_cons h,List.takeWhile_cons_of_neg (by simpa using d h),List.append_nil]
  ·rw[List.drop_of_length_le h];simp
 have g:l.dropWhile (fun p=>decide (p.1.data.toList<o.1.data.toList))=l.drop m:=by
  conv=>lhs;rw[c]
  rw[List.dropWhile_append_of_pos (fun p hp=>by simpa using b p hp)];rcases Nat.lt_or_ge m l.length with h | h
  ·rw[List.drop_eq_getElem_cons h,List.dropWhile_cons_of_neg (by simpa using d h)]
  ·rw[List.drop_of_length_le h];simp
 unfold insO;rw[f,g]
theorem zb8u {a b:ByteArray} (h:a.data.toList<b.data.toList):Op.bytesLess a.toList b.toList=true:=by
 rw[ByteArray.toList_eq,ByteArray.toList_eq,bytesLess_eq];simpa using h
theorem zb8v {a b:ByteArray} (h:¬a.data.toList<b.data.toList):Op.bytesLess a.toList b.toList=false:=by
 rw[ByteArray.toList_eq,ByteArray.toList_eq,bytesLess_eq];simpa using h
theorem za0g {W n:World} {R:Nat} {v:Value} {l:List Ob} (h:ObsAt W v l) (q:OffB v l R) (m:But (fun k=>k=R) W n):ObsAt n v l:=by
 rcases h with h | ⟨b,o,c,g,p,i⟩
 ·exact Or.inl h
 ·by_cases d:l= []
  ·exact Or.inl ⟨some ⟨b,o,none⟩,c,by rw[g,d];rfl,fun e=>(nomatch e),d⟩
  ·have f:=q b o c _ g d;exact Or.inr ⟨b,o,c,g,p,fun j hj=>⟨m.keep f (i j hj).1,m.keep f (i j hj).2.1,m.keep f (i j hj).2.2⟩⟩
theorem zf2 {w:World} {base:Nat} {e:TypeId} {c:Nat} {v:Value} {n:Nat} {xs:List Value} (h:w.ownsRow base e c v n xs) {k:Nat} (b:v.ownBlock=some k):base<=k:=by
 rcases h.2 with⟨e,_⟩|⟨i,d,f,e,g,_⟩
 ·rw[e]at b;simp[Value.ownBlock]at b
 ·rw[e]at b;simp[Value.ownBlock]at b;omega
theorem ObsAt.none {w:World} {n c:Nat} {d:List Ob} (h:ObsAt w (.slice none n c) d):d= []/\c=0:=by
 rcases h with⟨p,i,e,f,rfl⟩|⟨b,o,g,e,_⟩
 ·simp only[Value.slice.injEq]at e;obtain⟨rfl,_,rfl⟩:=e;exact⟨rfl,f rfl⟩
 ·simp only[Value.slice.injEq]at e;exact absurd e.1 (by simp)
theorem zb8w {w:World} {a:Addr} {n c d:Nat} {f:List Ob} (h:ObsAt w (.slice (some a) n c) f) (i:d<=f.length):Src w (some a) d c (flatO (f.take d)):=by
 rcases h with⟨p,k,e,l,rfl⟩|⟨b,o,j,e,_,g⟩
 ·exact Or.inl ⟨by simpa using i,fun e=>by simp at e⟩
 ·simp only[Value.slice.injEq]at e;exact Or.inr ⟨b,o,e.1,zy7 (za7d g d)⟩
theorem zm9 (t:ByteArray) (k:Nat):t.extract 0 k=bytesOf (t.data.toList.take k):=by
 apply zl8;rw[extract_data];show _=(t.data.toList.take k).toArray.toList;simp
theorem zr7 (b:Nat) (s:St) (n t:ByteArray) (w:World) (h:MAt w b s) (K:Keeps s) (bn:s.cut<=9223372036854775807) (hn:n.size<=maxLen) (ht:t.size<=maxLen) :
  Calls Tryz.prog 37 #[.pointer (some ⟨b,0,none⟩),.string n,.string t] w fun e w'=>e= .returned (.int .i64 (putC s n t))/\MPost w b (putS s n t) w':=by
 obtain⟨i0,aa,ac,ad,N⟩:=Tryz.objInfo;have HM:Hid (MAt w b s):=h;have HK:Hid (Keeps s):=K;have ae:=zb6j n w hn;have hf:=za5p b s n w h (Nat.le_trans K.many (by decide));obtain⟨vL,hm,ho⟩:=h;obtain⟨c0,-,c2,c3,-,cf⟩:=hm.cells;unfold maxLen at ht;cases h1:objB n.data.toList
 case false =>
  have e0:putE s n t=5:=by unfold putE;rw[h1];rfl
  obtain⟨I,J⟩:=zh4 (s:=s) (n:=n) (t:=t) (by rw[e0];decide);rw[I,J,e0];rw[h1]at ae;clear e0 I J hm ho h1 hf K
  go_enter Tryz.func37,Tryz.ntmps37
  go_wp2_with fail
  refine ae.mono ?_;rintro e w1 ⟨rfl,rfl⟩;go_wp2;go_ret;exact⟨rfl,HM.out,But.refl _ _,MNew.refl _ _⟩
 case true =>
 rw[h1]at ae;by_cases h2:20000<t.size
 ·have e0:putE s n t=2:=by unfold putE;rw[h1,if_neg (by simp),if_pos h2]
  obtain⟨I,J⟩:=zh4 (s:=s) (n:=n) (t:=t) (by rw[e0];decide);rw[I,J,e0];have bw:(20000:Int)<(t.size:Int):=by omega
  clear e0 I J hm ho h1 hf K
  go_enter Tryz.func37,Tryz.ntmps37
  go_wp2_with fail
  refine ae.mono ?_;rintro e w1 ⟨rfl,rfl⟩;go_wp2;go_ret;exact⟨rfl,HM.out,But.refl _ _,MNew.refl _ _⟩
 have bw:¬(20000:Int)<(t.size:Int):=by omega
 cases h3:s.off
 case true =>
  have e0:putE s n t=12:=by unfold putE;rw[h1,if_neg (by simp),if_neg h2,if_pos h3]
  obtain⟨I,J⟩:=zh4 (s:=s) (n:=n) (t:=t) (by rw[e0];decide);rw[I,J,e0];rw[h3]at c3;clear e0 I J hm ho h1 h3 hf K
  go_enter Tryz.func37,Tryz.ntmps37
  go_wp2_with fail
  refine ae.mono ?_;rintro e w1 ⟨rfl,rfl⟩;go_wp2;go_ret;exact⟨rfl,HM.out,But.refl _ _,MNew.refl _ _⟩
 case false =>
 rw[h3]at c3;rcases za5o s.obs n with⟨g1,g2⟩|⟨j,hj,g1,g2,g3,-⟩
 case inr =>
  have e0:putE s n t=7:=by unfold putE;rw[h1,if_neg (by simp),if_neg h2,if_neg (by rw[h3];simp),g2,if_pos (by simp)]
  obtain⟨I,J⟩:=zh4 (s:=s) (n:=n) (t:=t) (by rw[e0];decide);rw[I,J,e0];rw[g1]at hf;have ca:(0:Int)<=(j:Int):=by omega
  have cb:¬(j:Int)<0:=by omega
  clear e0 I J hm ho h1 h3 g1 g2 g3 K
  go_enter Tryz.func37,Tryz.ntmps37
  go_wp2_with fail
  refine ae.mono ?_;rintro e w1 ⟨rfl,rfl⟩
  go_wp2_with fail
  refine hf.mono ?_;rintro e w2 ⟨rfl,rfl⟩;go_wp2;go_ret;exact⟨rfl,HM.out,But.refl _ _,MNew.refl _ _⟩
 rw[g1]at hf;have bx:Hid (putE s n t=if 200<=s.obs.length\/262144<bytesS s.obs+t.size then 8 else 0):=by
  show _=_;unfold putE;rw[h1,if_neg (by simp),if_neg h2,if_neg (by rw[h3];simp),g2,if_neg (by simp)]
 have cc:Hid (getO s.obs n=none):=g2;have cd:Hid (s.off=false):=h3;obtain⟨q,y,rfl⟩:=ho.form;have HO:Hid (ObsAt w (.slice q s.obs.length y) s.obs):=ho;have aw:Hid (MC w b (.slice q s.obs.length y) s):=hm;obtain⟨L,hL⟩:∃L,s.obs.length=L:=⟨_,rfl⟩;have p:Hid (s.obs.length=L):=hL;have hl:L<=200:=by rw[<-hL];exact K.many
 rw[hL]at c0;have bp:Hid (∀m,bytesS (s.obs.take m)<=m*20000):=za7f s.obs K.texts;clear hm ho h1 h3 g1 g2 hL K;generalize bt:putC s n t=PC;generalize bu:putS s n t=PS;have be:Hid (putC s n t=PC):=bt;have bf:Hid (putS s n t=PS):=bu;clear bt bu
 go_enter Tryz.func37,Tryz.ntmps37
 go_wp2_with fail
 refine ae.mono ?_;rintro e w1 ⟨rfl,rfl⟩
 go_wp2_with fail
 refine hf.mono ?_;rintro e w2 ⟨rfl,rfl⟩;clear hf ae;go_wp2
 go_loop [8,9] (fun z k=> ∃m:Nat,m<=L/\k= .int .i64 m/\z= .int .i64 ((t.size+bytesS (s.obs.take m):Nat):Int)) (fun _ k=>L-(intOf k).toNat)
 case atStart=>exact ⟨0,by omega,rfl,by simp[bytesS]⟩
 case round =>
  obtain⟨m,hm,rfl,rfl⟩:=hrel;by_cases az:m<L
  ·have A:m<s.obs.length:=by rw[p.out];exact az
   obtain⟨g,o,hq,hc⟩:=HO.out.cells (fun e=>by rw[e]at A;simp at A);subst hq;have d1:=(hc m A).2.1;have hi:(m:Int)<(L:Int):=by omega
   have aa:(0:Int)<=(m:Int):=by omega
   have bg:=bp.out m;have HS:Hid (bytesS (s.obs.take (m+1))=bytesS (s.obs.take m)+s.obs[m].2.1.size):=za7e s.obs m A;have bz:=HK.out.texts _ (List.getElem_mem A);generalize s.obs[m].2.1=tx at d1 HS bz;generalize bytesS (s.obs.take m)=B at *;clear hc A;go_wp2;go_round
   case rel=>exact ⟨m+1,by omega,by go_num,by rw[HS.out];go_num⟩
   case measure=>simp [intOf];omega
  ·obtain rfl:m=L:=by omega
   have bh:Hid (bytesS (s.obs.take m)=bytesS s.obs):=by show _=_;rw[<-p.out,List.take_length]
   rw[bh.out];have bg:=bp.out m;rw[bh.out]at bg;have O:=bx.out;rw[p.out]at O;generalize bytesS s.obs=B at *;by_cases bv:200<=m
   ·have bo:(200:Int)<=(m:Int):=by omega
    rw[if_pos (Or.inl bv)]at O;obtain⟨I,J⟩:=zh4 (s:=s) (n:=n) (t:=t) (by rw[O];decide);rw[bf.out]at I;rw[be.out,O]at J;subst I;subst J;clear O;go_wp2;go_ret;exact⟨rfl,HM.out,But.refl _ _,MNew.refl _ _⟩
   have bo:¬(200:Int)<=(m:Int):=by omega
   by_cases hB:262144<B+t.size
   ·have b7:(262144:Int)<((t.size+B:Nat):Int):=by omega
    rw[if_pos (Or.inr hB)]at O;obtain⟨I,J⟩:=zh4 (s:=s) (n:=n) (t:=t) (by rw[O];decide);rw[bf.out]at I;rw[be.out,O]at J;subst I;subst J;clear O;go_wp2;go_ret;exact⟨rfl,HM.out,But.refl _ _,MNew.refl _ _⟩
   have b7:¬(262144:Int)<((t.size+B:Nat):Int):=by omega
   rw[if_neg (by omega)]at O;obtain⟨I,J⟩:=za5h O;rw[bf.out]at I;rw[be.out]at J;have ax:Hid (PS= { (wrtS s t.size).2 with obs:=insO s.obs (n,bytesOf (t.data.toList.take (wrtS s t.size).1),s.day) }):=I;have ab:Hid (PC=if (wrtS s t.size).2.off=true then 12 else 0):=J;clear I J O bh bg;go_wp2
   go_loop [10] (fun k=> ∃d:Nat,d<=m/\k= .int .i64 d/\∀i (h:i<s.obs.length),i<d->s.obs[i].1.data.toList<n.data.toList) (fun k=>m-(intOf k).toNat)
   case atStart=>exact ⟨0,by omega,rfl,fun i h h'=>absurd h' (Nat.not_lt_zero _)⟩
   case round =>
    obtain⟨d,hd,rfl,bk⟩:=hrel;have bc:Hid (∀i (h:i<s.obs.length),i<d->s.obs[i].1.data.toList<n.data.toList):=bk;clear bk;have ce:(0:Int)<=(d:Int):=by omega
    have cg:(d:Int)<=(m:Int):=by omega
    by_cases az:d<m
    ·have A:d<s.obs.length:=by rw[p.out];exact az
     obtain⟨g,o,hq,hc⟩:=HO.out.cells (fun e=>by rw[e]at A;simp at A);subst hq;have d1:=(hc d A).1;have hi:(d:Int)<(m:Int):=by omega
     by_cases hs:s.obs[d].1.data.toList<n.data.toList
     ·have b8:Hid (∀i (h:i<s.obs.length),i<d+1->s.obs[i].1.data.toList<n.data.toList):=fun i hi him=>by
       by_cases e:i=d
       ·subst e;exact hs
       ·exact bc.out i hi (by omega)
      have d2:=zb8u hs;generalize s.obs[d].1=nm at d1 d2;clear hc hs A;go_wp2;go_round
      case rel=>exact ⟨d+1,by omega,by go_num,b8.out⟩
      case measure=>simp [intOf];omega
     ·have bd:Hid (∀o:Ob,o.1=n->insO s.obs o=s.obs.take d++o :: s.obs.drop d):=fun o ho=>za7g (Nat.le_of_lt A) (by rw[ho];exact bc.out) (fun _=>by rw[ho];exact hs);have d2:=zb8v hs;generalize s.obs[d].1=nm at d1 d2;clear hc hs A;have bi:=(HO.out.room).2 (fun e=>by have h:=p.out;rw[e]at h;simp at h;omega);rw[p.out]at bi;have b9:(d:Int)<=(y:Int):=by omega
      have ch:(m:Int)<=(y:Int):=by omega
      go_wp2_with fail
      have ag:=zz0 b _ s t.size w2 aw.out (by omega) ⟨HK.out.cut0,bn⟩;refine ag.mono ?_;rintro e c ⟨rfl,am,U,a9⟩;have ah:Hid (But (fun k=>k=b) w2 c):=U;have ar:Hid (ObsAt c (.slice (some ⟨g,o,none⟩) s.obs.length y) s.obs):=za0g HO.out (zj2 aw.out HO.out) U;have r:Hid (MC c b (.slice (some ⟨g,o,none⟩) s.obs.length y) (wrtS s t.size).2):=am;have E:=zy3 s t.size;have u:=(zl7 s t.size).2.2;clear ag am U a9 c0 c2 c3 cf;generalize wrtS s t.size=X at *;obtain⟨k,s1⟩:=X;dsimp only at ax ab r E u ⊢;obtain⟨a0,-,a2,a3,-,M⟩:=r.out.cells;rw[p.out]at a0;rw[u]at a2;have bq:(0:Int)<=(k:Int):=by omega
      have br:(k:Int)<=(t.size:Int):=by omega
      go_wp2_with (at_builtin;(refine zb1 rfl _ _ 131 rfl c.heap.size 155 i0 (.agg #[.string ⟨#[]⟩,.string ⟨#[]⟩,.int .i64 0]) 3 40 Tryz.underlying131 aa ac ad N rfl (by decide) (.slice none 0 0) 0 [] rfl ?a0 _ _ _ (flatO (s.obs.take d)) rfl ?a1 ?a2 ?a3 ?a4 ?a5 ?a6 ?_))
      case a0=>exact World.ownsRow_nil _ _ _ _
      case a1=>have h:=p.out;rw[ze2,List.length_take];omega
      case a2=>obtain ⟨g2,o2,bl,bm⟩:=ar.out.cells (fun e=>by have h:=p.out;rw[e]at h;simp at h;omega);exact Or.inr ⟨g2,o2,bl,zy7 (za7d bm d)⟩
      case a3=>exact zj0 _
      case a4=>unfold maxLen;omega
      case a5=>omega
      case a6=>exact Nat.le_refl _
      intro v1 v an ao au;have C:Hid (BL c v):=(Below.refl _ _).grown ao (Nat.le_refl _) (fun k E=>by simp[Value.ownBlock]at E);have F:Hid (v.ownsRow c.heap.size 155 3 v1 d (flatO (s.obs.take d))):=by
       show v.ownsRow _ _ _ _ _ _;simpa using an
      have ai:Hid (v1.ownBlock≠some b):=fun e=>by
       have h1:=zf2 F.out e;have h2:=r.out.lt;omega
      have Q:Hid (MC v b (.slice (some ⟨g,o,none⟩) s.obs.length y) s1):=r.out.below C.out;clear an ao au a0 a2 a3 M;obtain⟨a0,-,a2,a3,-,M⟩:=Q.out.cells;rw[p.out]at a0;rw[u]at a2
      go_wp2_with fail
      have lb:b<v.heap.size:=Q.out.lt
      go_region_held3 (fun w'=>w'.cell? ⟨b,2,none⟩=some (.int .i64 s.day))
       (first
        | go_keep
        | (rw[Y.cell_far _ (by simp;omega) (by have h:=ai.out;exact Ne.symm h)];assumption))
       ((refine step_append_lies _ (by rfl) _ _ _ (by rfl) c.heap.size 155 i0 (.agg #[.string ⟨#[]⟩,.string ⟨#[]⟩,.int .i64 0]) 3 40 Tryz.underlying131 aa ac ad N rfl (by decide) v1 d (flatO (s.obs.take d)) (by rfl) ((World.ownsRow.alloc F.out _).drew)
          ⟨v.heap.size,0,none⟩ 1 1 [.string n,.string (t.extract 0 k),.int .i64 s.day] (by rfl) (by rfl) (World.news_of_block (cs:=#[.string n,.string (t.extract 0 k),.int .i64 s.day]) (t:=155) (fr:=(0,0)) (heap_alloc_new v _)) (by simp[Value.oneCell'])
          (by omega) (by unfold maxLen;omega) (by omega) (by have h:=C.out.size;simp;omega) (v.heap.size+1) (by simp) ?_;intro gg V W ap Y ba av))
      have R:BL c ((v.alloc (.cells #[.string n,.string (t.extract 0 k),.int .i64 s.day] 155)).drew):=Below.drew (C.out.alloc C.out.size _);have D:Hid (BL c W):=R.grown Y R.size (fun k E=>zf2 F.out E);have aj:Hid (W.ownsRow c.heap.size 155 3 (.slice (some ⟨gg,0,none⟩) (d+1) V) (d+1) (flatO (s.obs.take d++ [(n,t.extract 0 k,s.day)]))):=by
       show W.ownsRow _ _ _ _ _ _;rw[zj1];exact ap
      have a7:Hid (MC W b (.slice (some ⟨g,o,none⟩) s.obs.length y) s1):=r.out.below D.out;have bj:Hid (ObsAt W (.slice (some ⟨g,o,none⟩) s.obs.length y) s.obs):=ar.out.below (D.out);clear R ap Y ba av a0 a2 a3 M ai Q C lb F;obtain⟨a0,-,a2,a3,-,M⟩:=a7.out.cells;rw[p.out]at a0;rw[u]at a2
      go_wp2_with (at_builtin;(refine zb1 rfl _ _ 131 rfl c.heap.size 155 i0 (.agg #[.string ⟨#[]⟩,.string ⟨#[]⟩,.int .i64 0]) 3 40 Tryz.underlying131 aa ac ad N rfl (by decide) (.slice (some ⟨gg,0,none⟩) (d+1) V) (d+1) (flatO (s.obs.take d++ [(n,t.extract 0 k,s.day)])) rfl ?b0 _ _ _ (flatO (s.obs.drop d)) rfl ?b1 ?b2 ?b3 ?b4 ?b5 ?b6 ?_))
      case b0=>exact aj.out
      case b1=>have h:=p.out;rw[ze2,List.length_drop];omega
      case b2=>obtain ⟨g2,o2,bl,bm⟩:=bj.out.cells (fun e=>by have h:=p.out;rw[e]at h;simp at h;omega);cases bl;exact Or.inr ⟨g,o+d*3,rfl,zy7 (zb8t bm d)⟩
      case b3=>exact zj0 _
      case b4=>unfold maxLen;omega
      case b5=>omega
      case b6=>exact D.out.size
      all_goals
       intro v2 Z l aq bb;have ak:Hid (BL c Z):=D.out.grown aq D.out.size (fun k E=>zf2 aj.out E);have S:Hid (Z.ownsRow c.heap.size 155 3 v2 (d+1+(m-d)) (flatO (s.obs.take d++(n,t.extract 0 k,s.day) :: s.obs.drop d))):=by
        show Z.ownsRow _ _ _ _ _ _;rw[<-zj1]at l
        first
         | exact l
         | (rw[List.append_assoc]at l;exact l)
         | (rw[List.append_assoc]at l;rw[Nat.sub_self];exact l)
       obtain⟨H,a8⟩:=zy8 S.out;obtain⟨q2,c2,rfl⟩:=H.form;have G:Hid (MC Z b (.slice (some ⟨g,o,none⟩) s.obs.length y) s1):=r.out.below ak.out;have al:Hid (MPost w2 b PS (Z.setCell ⟨b,0,none⟩ (.slice q2 (s.obs.take d++(n,t.extract 0 k,s.day) :: s.obs.drop d).length c2))):=by
        show MPost _ _ _ _;rw[ax.out,<-zm9,bd.out _ rfl];exact⟨⟨_,G.out.set0 _ _,H.set_off (zj2 G.out H) _ _⟩,But.setCell (P:=fun k=>k=b) (ah.out.trans (But.of_below (P:=fun k=>k=b) ak.out) (fun _ h _=>h)) (Or.inl rfl) _,MNew.fresh (G.out.set0 _ (s.obs.take d)).cells.1 S.out ah.out.size⟩
       generalize (s.obs.take d++(n,t.extract 0 k,s.day) :: s.obs.drop d).length=n2 at *;clear l aq bb H a8 S a0 a2 a3 M;obtain⟨a0,-,a2,a3,-,M⟩:=G.out.cells;rw[p.out]at a0;cases f:s1.off
       ·have T:Hid (PC=0):=by show _=_;rw[ab.out,f];rfl
        rw[f]at a3;clear f;go_wp2;go_ret;exact⟨by rw[T.out];rfl,al.out⟩
       ·have T:Hid (PC=12):=by show _=_;rw[ab.out,f];rfl
        rw[f]at a3;clear f;go_wp2;go_ret;exact⟨by rw[T.out];rfl,al.out⟩
    ·have bs:d=m:=by omega
     have hi:¬(d:Int)<(m:Int):=by omega
     have bd:Hid (∀o:Ob,o.1=n->insO s.obs o=s.obs.take d++o :: s.obs.drop d):=fun o ho=>za7g (by rw[p.out];omega) (by rw[ho];exact bc.out) (fun h=>absurd h (by rw[p.out];omega));rcases q with _ | ⟨g,o,ay⟩
     ·obtain⟨f1,f2⟩:=HO.out.none;have f3:m=0:=by rw[<-p.out,f1];rfl
      subst f3;subst f2;subst bs;clear f1 hi az hd
      go_wp2_with fail
      have ag:=zz0 b _ s t.size w2 aw.out (by omega) ⟨HK.out.cut0,bn⟩;refine ag.mono ?_;rintro e c ⟨rfl,am,U,a9⟩;have ah:Hid (But (fun k=>k=b) w2 c):=U;have ar:Hid (ObsAt c (.slice none s.obs.length 0) s.obs):=za0g HO.out (zj2 aw.out HO.out) U;have r:Hid (MC c b (.slice none s.obs.length 0) (wrtS s t.size).2):=am;have E:=zy3 s t.size;have u:=(zl7 s t.size).2.2;clear ag am U a9 c0 c2 c3 cf;generalize wrtS s t.size=X at *;obtain⟨k,s1⟩:=X;dsimp only at ax ab r E u ⊢;obtain⟨a0,-,a2,a3,-,M⟩:=r.out.cells;rw[p.out]at a0;rw[u]at a2;have bq:(0:Int)<=(k:Int):=by omega
      have br:(k:Int)<=(t.size:Int):=by omega
      go_wp2_with (at_builtin;(refine zb1 rfl _ _ 131 rfl c.heap.size 155 i0 (.agg #[.string ⟨#[]⟩,.string ⟨#[]⟩,.int .i64 0]) 3 40 Tryz.underlying131 aa ac ad N rfl (by decide) (.slice none 0 0) 0 [] rfl ?a0 _ _ _ (flatO (s.obs.take 0)) rfl ?a1 ?a2 ?a3 ?a4 ?a5 ?a6 ?_))
      case a0=>exact World.ownsRow_nil _ _ _ _
      case a1=>have h:=p.out;rw[ze2,List.length_take];omega
      case a2=>exact Or.inl ⟨rfl,fun _=>rfl⟩
      case a3=>exact zj0 _
      case a4=>unfold maxLen;omega
      case a5=>omega
      case a6=>exact Nat.le_refl _
      intro v1 v an ao au;have C:Hid (BL c v):=(Below.refl _ _).grown ao (Nat.le_refl _) (fun k E=>by simp[Value.ownBlock]at E);have F:Hid (v.ownsRow c.heap.size 155 3 v1 0 (flatO (s.obs.take 0))):=by
       show v.ownsRow _ _ _ _ _ _;simpa using an
      have ai:Hid (v1.ownBlock≠some b):=fun e=>by
       have h1:=zf2 F.out e;have h2:=r.out.lt;omega
      have Q:Hid (MC v b (.slice none s.obs.length 0) s1):=r.out.below C.out;clear an ao au a0 a2 a3 M;obtain⟨a0,-,a2,a3,-,M⟩:=Q.out.cells;rw[p.out]at a0;rw[u]at a2
      go_wp2_with fail
      have lb:b<v.heap.size:=Q.out.lt
      go_region_held3 (fun w'=>w'.cell? ⟨b,2,none⟩=some (.int .i64 s.day))
       (first
        | go_keep
        | (rw[Y.cell_far _ (by simp;omega) (by have h:=ai.out;exact Ne.symm h)];assumption))
       ((refine step_append_lies _ (by rfl) _ _ _ (by rfl) c.heap.size 155 i0 (.agg #[.string ⟨#[]⟩,.string ⟨#[]⟩,.int .i64 0]) 3 40 Tryz.underlying131 aa ac ad N rfl (by decide) v1 0 (flatO (s.obs.take 0)) (by rfl) ((World.ownsRow.alloc F.out _).drew)
          ⟨v.heap.size,0,none⟩ 1 1 [.string n,.string (t.extract 0 k),.int .i64 s.day] (by rfl) (by rfl) (World.news_of_block (cs:=#[.string n,.string (t.extract 0 k),.int .i64 s.day]) (t:=155) (fr:=(0,0)) (heap_alloc_new v _)) (by simp[Value.oneCell'])
          (by omega) (by unfold maxLen;omega) (by omega) (by have h:=C.out.size;simp;omega) (v.heap.size+1) (by simp) ?_;intro gg V W ap Y ba av))
      have R:BL c ((v.alloc (.cells #[.string n,.string (t.extract 0 k),.int .i64 s.day] 155)).drew):=Below.drew (C.out.alloc C.out.size _);have D:Hid (BL c W):=R.grown Y R.size (fun k E=>zf2 F.out E);have aj:Hid (W.ownsRow c.heap.size 155 3 (.slice (some ⟨gg,0,none⟩) (0+1) V) (0+1) (flatO (s.obs.take 0++ [(n,t.extract 0 k,s.day)]))):=by
       show W.ownsRow _ _ _ _ _ _;rw[zj1];exact ap
      have a7:Hid (MC W b (.slice none s.obs.length 0) s1):=r.out.below D.out;have bj:Hid (ObsAt W (.slice none s.obs.length 0) s.obs):=ar.out.below (D.out);clear R ap Y ba av a0 a2 a3 M ai Q C lb F;obtain⟨a0,-,a2,a3,-,M⟩:=a7.out.cells;rw[p.out]at a0;rw[u]at a2
      go_wp2_with (at_builtin;(refine zb1 rfl _ _ 131 rfl c.heap.size 155 i0 (.agg #[.string ⟨#[]⟩,.string ⟨#[]⟩,.int .i64 0]) 3 40 Tryz.underlying131 aa ac ad N rfl (by decide) (.slice (some ⟨gg,0,none⟩) (0+1) V) (0+1) (flatO (s.obs.take 0++ [(n,t.extract 0 k,s.day)])) rfl ?b0 _ _ _ (flatO (s.obs.drop 0)) rfl ?b1 ?b2 ?b3 ?b4 ?b5 ?b6 ?_))
      case b0=>exact aj.out
      case b1=>have h:=p.out;rw[ze2,List.length_drop];omega
      case b2=>exact Or.inl ⟨rfl,fun _=>rfl⟩
      case b3=>exact zj0 _
      case b4=>unfold maxLen;omega
      case b5=>omega
      case b6=>exact D.out.size
      all_goals
       intro v2 Z l aq bb;have ak:Hid (BL c Z):=D.out.grown aq D.out.size (fun k E=>zf2 aj.out E);have S:Hid (Z.ownsRow c.heap.size 155 3 v2 (0+1+(0-0)) (flatO (s.obs.take 0++(n,t.extract 0 k,s.day) :: s.obs.drop 0))):=by
        show Z.ownsRow _ _ _ _ _ _;rw[<-zj1]at l
        first
         | exact l
         | (rw[List.append_assoc]at l;exact l)
         | (rw[List.append_assoc]at l;rw[Nat.sub_self];exact l)
       obtain⟨H,a8⟩:=zy8 S.out;obtain⟨q2,c2,rfl⟩:=H.form;have G:Hid (MC Z b (.slice none s.obs.length 0) s1):=r.out.below ak.out;have al:Hid (MPost w2 b PS (Z.setCell ⟨b,0,none⟩ (.slice q2 (s.obs.take 0++(n,t.extract 0 k,s.day) :: s.obs.drop 0).length c2))):=by
        show MPost _ _ _ _;rw[ax.out,<-zm9,bd.out _ rfl];exact⟨⟨_,G.out.set0 _ _,H.set_off (zj2 G.out H) _ _⟩,But.setCell (P:=fun k=>k=b) (ah.out.trans (But.of_below (P:=fun k=>k=b) ak.out) (fun _ h _=>h)) (Or.inl rfl) _,MNew.fresh (G.out.set0 _ (s.obs.take 0)).cells.1 S.out ah.out.size⟩
       generalize (s.obs.take 0++(n,t.extract 0 k,s.day) :: s.obs.drop 0).length=n2 at *;clear l aq bb H a8 S a0 a2 a3 M;obtain⟨a0,-,a2,a3,-,M⟩:=G.out.cells;rw[p.out]at a0;cases f:s1.off
       ·have T:Hid (PC=0):=by show _=_;rw[ab.out,f];rfl
        rw[f]at a3;clear f;go_wp2;go_ret;exact⟨by rw[T.out];rfl,al.out⟩
       ·have T:Hid (PC=12):=by show _=_;rw[ab.out,f];rfl
        rw[f]at a3;clear f;go_wp2;go_ret;exact⟨by rw[T.out];rfl,al.out⟩
     ·have bi:m<=y:=by
       by_cases e:s.obs= []
       ·have h:=p.out;rw[e]at h;simp at h;omega
       ·have h:=(HO.out.room).2 e;rw[p.out]at h;exact h
      have b9:(d:Int)<=(y:Int):=by omega
      subst bs;clear hi az hd
      go_wp2_with fail
      have ag:=zz0 b _ s t.size w2 aw.out (by omega) ⟨HK.out.cut0,bn⟩;refine ag.mono ?_;rintro e c ⟨rfl,am,U,a9⟩;have ah:Hid (But (fun k=>k=b) w2 c):=U;have ar:Hid (ObsAt c (.slice (some ⟨g,o,ay⟩) s.obs.length y) s.obs):=za0g HO.out (zj2 aw.out HO.out) U;have r:Hid (MC c b (.slice (some ⟨g,o,ay⟩) s.obs.length y) (wrtS s t.size).2):=am;have E:=zy3 s t.size;have u:=(zl7 s t.size).2.2;clear ag am U a9 c0 c2 c3 cf;generalize wrtS s t.size=X at *;obtain⟨k,s1⟩:=X;dsimp only at ax ab r E u ⊢;obtain⟨a0,-,a2,a3,-,M⟩:=r.out.cells;rw[p.out]at a0;rw[u]at a2;have bq:(0:Int)<=(k:Int):=by omega
      have br:(k:Int)<=(t.size:Int):=by omega
      go_wp2_with (at_builtin;(refine zb1 rfl _ _ 131 rfl c.heap.size 155 i0 (.agg #[.string ⟨#[]⟩,.string ⟨#[]⟩,.int .i64 0]) 3 40 Tryz.underlying131 aa ac ad N rfl (by decide) (.slice none 0 0) 0 [] rfl ?a0 _ _ _ (flatO (s.obs.take d)) rfl ?a1 ?a2 ?a3 ?a4 ?a5 ?a6 ?_))
      case a0=>exact World.ownsRow_nil _ _ _ _
      case a1=>have h:=p.out;rw[ze2,List.length_take];omega
      case a2=>exact zb8w ar.out (by have h:=p.out;omega)
      case a3=>exact zj0 _
      case a4=>unfold maxLen;omega
      case a5=>omega
      case a6=>exact Nat.le_refl _
      intro v1 v an ao au;have C:Hid (BL c v):=(Below.refl _ _).grown ao (Nat.le_refl _) (fun k E=>by simp[Value.ownBlock]at E);have F:Hid (v.ownsRow c.heap.size 155 3 v1 d (flatO (s.obs.take d))):=by
       show v.ownsRow _ _ _ _ _ _;simpa using an
      have ai:Hid (v1.ownBlock≠some b):=fun e=>by
       have h1:=zf2 F.out e;have h2:=r.out.lt;omega
      have Q:Hid (MC v b (.slice (some ⟨g,o,ay⟩) s.obs.length y) s1):=r.out.below C.out;clear an ao au a0 a2 a3 M;obtain⟨a0,-,a2,a3,-,M⟩:=Q.out.cells;rw[p.out]at a0;rw[u]at a2
      go_wp2_with fail
      have lb:b<v.heap.size:=Q.out.lt
      go_region_held3 (fun w'=>w'.cell? ⟨b,2,none⟩=some (.int .i64 s.day))
       (first
        | go_keep
        | (rw[Y.cell_far _ (by simp;omega) (by have h:=ai.out;exact Ne.symm h)];assumption))
       ((refine step_append_lies _ (by rfl) _ _ _ (by rfl) c.heap.size 155 i0 (.agg #[.string ⟨#[]⟩,.string ⟨#[]⟩,.int .i64 0]) 3 40 Tryz.underlying131 aa ac ad N rfl (by decide) v1 d (flatO (s.obs.take d)) (by rfl) ((World.ownsRow.alloc F.out _).drew)
          ⟨v.heap.size,0,none⟩ 1 1 [.string n,.string (t.extract 0 k),.int .i64 s.day] (by rfl) (by rfl) (World.news_of_block (cs:=#[.string n,.string (t.extract 0 k),.int .i64 s.day]) (t:=155) (fr:=(0,0)) (heap_alloc_new v _)) (by simp[Value.oneCell'])
          (by omega) (by unfold maxLen;omega) (by omega) (by have h:=C.out.size;simp;omega) (v.heap.size+1) (by simp) ?_;intro gg V W ap Y ba av))
      have R:BL c ((v.alloc (.cells #[.string n,.string (t.extract 0 k),.int .i64 s.day] 155)).drew):=Below.drew (C.out.alloc C.out.size _);have D:Hid (BL c W):=R.grown Y R.size (fun k E=>zf2 F.out E);have aj:Hid (W.ownsRow c.heap.size 155 3 (.slice (some ⟨gg,0,none⟩) (d+1) V) (d+1) (flatO (s.obs.take d++ [(n,t.extract 0 k,s.day)]))):=by
       show W.ownsRow _ _ _ _ _ _;rw[zj1];exact ap
      have a7:Hid (MC W b (.slice (some ⟨g,o,ay⟩) s.obs.length y) s1):=r.out.below D.out;have bj:Hid (ObsAt W (.slice (some ⟨g,o,ay⟩) s.obs.length y) s.obs):=ar.out.below (D.out);clear R ap Y ba av a0 a2 a3 M ai Q C lb F;obtain⟨a0,-,a2,a3,-,M⟩:=a7.out.cells;rw[p.out]at a0;rw[u]at a2
      go_wp2_with (at_builtin;(refine zb1 rfl _ _ 131 rfl c.heap.size 155 i0 (.agg #[.string ⟨#[]⟩,.string ⟨#[]⟩,.int .i64 0]) 3 40 Tryz.underlying131 aa ac ad N rfl (by decide) (.slice (some ⟨gg,0,none⟩) (d+1) V) (d+1) (flatO (s.obs.take d++ [(n,t.extract 0 k,s.day)])) rfl ?b0 _ _ _ (flatO (s.obs.drop d)) rfl ?b1 ?b2 ?b3 ?b4 ?b5 ?b6 ?_))
      case b0=>exact aj.out
      case b1=>have h:=p.out;rw[ze2,List.length_drop];omega
      try (case b2=>exact Or.inl ⟨by omega,fun e=>by simp at e⟩)
      try (case b2.inl=>exact Or.inl ⟨by omega,fun e=>by simp at e⟩)
      try (case b2.inr=>exact Or.inl ⟨by omega,fun e=>by simp at e⟩)
      case b3=>exact zj0 _
      case b4=>unfold maxLen;omega
      case b5=>omega
      case b6=>exact D.out.size
      all_goals
       intro v2 Z l aq bb;have ak:Hid (BL c Z):=D.out.grown aq D.out.size (fun k E=>zf2 aj.out E);have S:Hid (Z.ownsRow c.heap.size 155 3 v2 (d+1+(d-d)) (flatO (s.obs.take d++(n,t.extract 0 k,s.day) :: s.obs.drop d))):=by
        show Z.ownsRow _ _ _ _ _ _;rw[<-zj1]at l
        first
         | exact l
         | (rw[List.append_assoc]at l;exact l)
         | (rw[List.append_assoc]at l;rw[Nat.sub_self];exact l)
       obtain⟨H,a8⟩:=zy8 S.out;obtain⟨q2,c2,rfl⟩:=H.form;have G:Hid (MC Z b (.slice (some ⟨g,o,ay⟩) s.obs.length y) s1):=r.out.below ak.out;have al:Hid (MPost w2 b PS (Z.setCell ⟨b,0,none⟩ (.slice q2 (s.obs.take d++(n,t.extract 0 k,s.day) :: s.obs.drop d).length c2))):=by
        show MPost _ _ _ _;rw[ax.out,<-zm9,bd.out _ rfl];exact⟨⟨_,G.out.set0 _ _,H.set_off (zj2 G.out H) _ _⟩,But.setCell (P:=fun k=>k=b) (ah.out.trans (But.of_below (P:=fun k=>k=b) ak.out) (fun _ h _=>h)) (Or.inl rfl) _,MNew.fresh (G.out.set0 _ (s.obs.take d)).cells.1 S.out ah.out.size⟩
       generalize (s.obs.take d++(n,t.extract 0 k,s.day) :: s.obs.drop d).length=n2 at *;clear l aq bb H a8 S a0 a2 a3 M;obtain⟨a0,-,a2,a3,-,M⟩:=G.out.cells;rw[p.out]at a0;cases f:s1.off
       ·have T:Hid (PC=0):=by show _=_;rw[ab.out,f];rfl
        rw[f]at a3;clear f;go_wp2;go_ret;exact⟨by rw[T.out];rfl,al.out⟩
       ·have T:Hid (PC=12):=by show _=_;rw[ab.out,f];rfl
        rw[f]at a3;clear f;go_wp2;go_ret;exact⟨by rw[T.out];rfl,al.out⟩
def SPost (SAt:World->Value->(Nat->Prop)->St->Prop) (W:World) (v:Value) (FP:Nat->Prop) (s:St) (w':World):Prop:= ∃FP',SAt w' v FP' s/\But FP W w'/\∀k,FP' k->FP k\/W.heap.size<=k
structure StoreK (a:Nat->Addr) (B:Nat) (EM:World->Prop) (SAt:World->Value->(Nat->Prop)->St->Prop):Prop where
 below:∀W W':World,EM W->Below B W W'->EM W'
 size:∀W:World,EM W->B<=W.heap.size
 ptr:∀(W:World) (v:Value) (FP:Nat->Prop) (s:St),SAt W v FP s->∃p,v= .pointer (some p)
 lt:∀(W:World) (v:Value) (FP:Nat->Prop) (s:St) (k:Nat),SAt W v FP s->FP k->k<W.heap.size
 keep:∀(W W':World) (v:Value) (FP P:Nat->Prop) (s:St),SAt W v FP s->But P W W'->(∀k,FP k->¬P k)->SAt W' v FP s
 new:∀W:World,EM W->Calls Tryz.prog 30 #[] W fun e w'=> ∃v FP,e= .returned v/\SAt w' v FP newS/\(∀k,FP k->W.heap.size<=k)/\BL W w'
 put:∀(W:World) (v:Value) (FP:Nat->Prop) (s:St) (n t:ByteArray),EM W->SAt W v FP s->Keeps s->n.size<=1000->t.size<=100000->Calls Tryz.prog 36 #[v,.string n,.string t] W fun e w'=>e= .returned (errV a (putC s n t))/\SPost SAt W v FP (putS s n t) w'
 get:∀(W:World) (v:Value) (FP:Nat->Prop) (s:St) (n:ByteArray),EM W->SAt W v FP s->Keeps s->n.size<=1000->Calls Tryz.prog 99 #[v,.string n] W fun e w'=>e= .returned (.tuple #[.string (getT s.obs n).1,errV a (getT s.obs n).2])/\BL W w'
section
variable {a : Nat → Addr} {B : Nat} {EM : World → Prop} {SAt : World → Value → (Nat → Prop) → St → Prop}
structure SOk (EM:World->Prop) (SAt:World->Value->(Nat->Prop)->St->Prop) (B:Nat) (w0 W:World) (v:Value) (FP:Nat->Prop) (s:St):Prop where
 env:EM W
 frame:Below B w0 W
 le:B<=w0.heap.size
 at_:SAt W v FP s
 new:∀k,FP k->B<=k
theorem SOk.post (K:StoreK a B EM SAt) {w0 W w':World} {v:Value} {b:Nat->Prop} {s i:St} (h:SOk EM SAt B w0 W v b s) (m:SPost SAt W v b i w'):∃FP',SOk EM SAt B w0 w' v FP' i/\But b W w'/\∀k,FP' k->b k\/W.heap.size<=k:=by
 obtain⟨FP',l,d,f⟩:=m;have j:=K.size _ h.env;have c:Below B W w':=d.below j h.new;refine⟨FP',⟨K.below _ _ h.env c,h.frame.trans c,h.le,l,fun k hk=>?_⟩,d,f⟩;rcases f k hk with g | g
 ·exact h.new k g
 ·omega
theorem SOk.quiet (K:StoreK a B EM SAt) {w0 W w':World} {v:Value} {c:Nat->Prop} {s:St} (h:SOk EM SAt B w0 W v c s) (b:BL W w'):SOk EM SAt B w0 w' v c s :=
 ⟨K.below _ _ h.env (b.mono (K.size _ h.env)),h.frame.trans (b.mono (K.size _ h.env)),h.le,K.keep _ _ _ _ (fun _=>False) _ h.at_ (But.of_below b) (fun _ _ h=>h),h.new⟩
end
theorem FC.ne_fls {W:World} {F:Nat} {x y:Int} {v:Value} {l:List Fl} (h:FC W F x y) (f:FlsAt W v l) (o:Nat) (z:Value) (m:Nat) (n:Value):FlsAt ((W.setCell ⟨F,o,none⟩ z).setCell ⟨F,m,none⟩ n) v l:=by
 rcases f with f | ⟨b,D,i,E,G,k⟩
 ·exact Or.inl f
 ·refine Or.inr ⟨b,D,i,E,G,fun j hj=>?_⟩;have d:b≠F:=by
   rintro rfl;have g:=(k j hj).1;rw[cell_of_row _ _ _ _ _ _ h]at g;have p:=Array.mem_of_getElem? g;simp at p
  obtain⟨q,r,s,A,B,C⟩:=k j hj;have c:∀t u,W.cell? ⟨b,t,none⟩=some u->((W.setCell ⟨F,o,none⟩ z).setCell ⟨F,m,none⟩ n).cell? ⟨b,t,none⟩=some u:=fun t u hu=>by
   rw[World.cell?_setCell_other _ _ _ _ (by intro e;injection e with e;exact d e.symm),World.cell?_setCell_other _ _ _ _ (by intro e;injection e with e;exact d e.symm)];exact hu
  exact⟨c _ _ q,c _ _ r,c _ _ s,c _ _ A,c _ _ B,c _ _ C⟩
theorem SnAt.fz {W:World} {b:Nat} {s:Sn} {vf:Value} (h:SnAt W b s vf) (o:Nat):W.frozen? ⟨b,o,none⟩=false:=frozen_of_row _ _ _ _ _ h
def snSet (W:World) (b:Nat) (s:Sn) (vf:Value):World:=((((((W.setCell ⟨b,0,none⟩ (.int .i64 s.1)).setCell ⟨b,1,none⟩ (.int .i64 s.2.1)).setCell ⟨b,2,none⟩ (.int .i64 s.2.2.1)).setCell ⟨b,3,none⟩ (.int .i64 s.2.2.2.1)).setCell ⟨b,4,none⟩ (.int .i64 s.2.2.2.2.1)).setCell ⟨b,5,none⟩ (.string s.2.2.2.2.2.1)).setCell ⟨b,6,none⟩ vf
theorem SnAt.set {W:World} {b:Nat} {s:Sn} {vf:Value} (h:SnAt W b s vf) (d:Sn) (c:Value):SnAt (snSet W b d c) b d c:=by
 unfold SnAt snSet at *;rw[heap_setCell_same _ _ _ _ _ _ (heap_setCell_same _ _ _ _ _ _ (heap_setCell_same _ _ _ _ _ _ (heap_setCell_same _ _ _ _ _ _ (heap_setCell_same _ _ _ _ _ _ (heap_setCell_same _ _ _ _ _ _ (heap_setCell_same _ _ _ _ _ _ h))))))];rfl
theorem zb8x {W d:World} {B b:Nat} {s:Sn} {vf:Value} (h:Below B d W) (c:B<=b):Below B d (snSet W b s vf):=((((((h.setCell c _).setCell c _).setCell c _).setCell c _).setCell c _).setCell c _).setCell c _
theorem zb8y {W:World} {F G:Nat} {s:Sn} {vf:Value} (h:SnAt W F s vf) (b:G≠F) (o:Nat) (z:Value):SnAt (W.setCell ⟨G,o,none⟩ z) F s vf:=(heap_setCell_other _ _ _ _ (fun e=>b e.symm)).trans h
def OffF (v:Value) (fs:List Fl) (R:Nat):Prop:= ∀b o c n,v= .slice (some ⟨b,o,none⟩) n c->fs≠ []->b≠R
theorem zn0 {W:World} {R:Nat} {s:Sn} {q:Option Addr} {n c:Nat} {v:Value} {j:List Fl} (h:SnAt W R s (.slice q n c)) (r:FlsAt W v j):OffF v j R:=by
 intro b o t u i g e;subst e;rcases r with⟨_,_,_,_,e⟩|⟨y,l,z,m,_,p⟩
 ·exact g e
 ·rw[m]at i;injection i with e3;injection e3 with e3;injection e3 with e3 e4;subst e3;subst e4;obtain⟨d,f,_⟩:=p 0 (List.length_pos_iff.2 g);rw[cell_of_row _ _ _ _ _ _ h]at d f;simp only[Nat.zero_mul,Nat.add_zero]at d f
  match l,d,f with
  | 0,d,_=>simp at d
  | 1,d,_=>simp at d
  | 2,d,_=>simp at d
  | 3,d,_=>simp at d
  | 4,d,_=>simp at d
  | 5,_,f=>simp at f
  | 6,d,_=>simp at d
  | k+7,d,_=>simp at d
theorem FlsAt.set_off {W:World} {R:Nat} {v:Value} {g:List Fl} (h:FlsAt W v g) (A:OffF v g R) (k:Nat) (z:Value):FlsAt (W.setCell ⟨R,k,none⟩ z) v g:=by
 rcases h with h | ⟨b,o,c,i,u,y⟩
 ·exact Or.inl h
 ·by_cases f:g= []
  ·exact Or.inl ⟨some ⟨b,o,none⟩,c,by rw[i,f];rfl,fun e=>(nomatch e),f⟩
  ·have l:=A b o c _ i f;have d:∀p,(W.setCell ⟨R,k,none⟩ z).cell? ⟨b,p,none⟩=W.cell? ⟨b,p,none⟩:=fun p=>World.cell?_setCell_other _ _ _ _ (by intro e;injection e with e;exact l e.symm);refine Or.inr ⟨b,o,c,i,u,fun j hj=>?_⟩;obtain⟨m,n,q,r,s,t⟩:=y j hj;exact⟨(d _).trans m,(d _).trans n,(d _).trans q,(d _).trans r,(d _).trans s,(d _).trans t⟩
def ToldE (W:World) (a:Nat->Addr) (ev:Value) (c:Nat×Option Nat):Prop:=match c.2 with
 | none=>ev=errV a c.1
 | some j=>c.1≠0/\∃fb,ev= .iface 101 (.pointer (some ⟨fb,0,none⟩))/\W.cell? ⟨fb,0,none⟩=some (.int .i64 j)/\W.cell? ⟨fb,1,none⟩=some (errV a c.1)
theorem ToldE.ok {W:World} {a:Nat->Addr} {b:Value} {c:Nat×Option Nat} (h:ToldE W a b c) (d:c.1=0):b= .nilIface:=by
 obtain⟨n,o⟩:=c;dsimp only at d;subst d
 cases o with
 | none=>exact h
 | some j=>exact absurd rfl h.1
theorem ToldE.bad {W:World} {a:Nat->Addr} {b:Value} {c:Nat×Option Nat} (h:ToldE W a b c) (d:c.1≠0):∃t u,b= .iface t u:=by
 obtain⟨n,o⟩:=c
 cases o with
 | none =>
  cases n with
  | zero=>exact absurd rfl d
  | succ n=>exact ⟨_,_,h⟩
 | some j =>
  obtain⟨_,f,h,_⟩:=h;exact⟨_,_,h⟩
def Short (fs:List Fl):Prop:= ∀g∈fs,g.1.size<=30/\g.2.1.size<=30
def boxW (W:World) (f:Fl):World:=W.alloc (.cells #[.string f.1,.string f.2.1,.int .i64 f.2.2.1,.int .i64 f.2.2.2.1,.int .i64 f.2.2.2.2.1,.int .i64 f.2.2.2.2.2] 43)
theorem zr8 (W:World) (f:Fl):FlAt (boxW W f) W.heap.size f:=FlAt.new W f
theorem zr9 (W:World) (f:Fl):BL W (boxW W f):=alB _ _
theorem zb8z {w:World} {b o c:Nat} {d:List Fl} (h:FlCells w b o d) {n:Nat} (f:n<=d.length) (g:d.length<=c):FlsAt w (.slice (some ⟨b,o,none⟩) n c) (d.take n):=by
 refine Or.inr ⟨b,o,c,?_,?_,zy2 h n⟩
 ·rw[List.length_take,Nat.min_eq_left f]
 ·rw[List.length_take];omega
def rk:List Fl->Int->Int->Int×Int
 | [],x,y=>(x,y)
 | f :: r,x,y=>if f.2.1.data.toList= [45] then rk r x (y+f.2.2.1) else rk r (x+f.2.2.1) y
theorem zb9a {f:Fl} (h:fileE f=0):0<=f.2.2.1/\f.2.2.1<=40/\∃g n,pathO f.1.data.toList=some (g,n)/\(g=true↔f.2.1.data.toList= [45]):=by
 obtain⟨g,n,d,b,i⟩:=zh0 h;have c:=i;unfold bndB at c;simp only[Bool.and_eq_true,decide_eq_true_eq]at c;refine⟨by omega,by omega,g,n,d,?_⟩;unfold partB at b;cases g
 ·simp only[Bool.false_eq_true,if_false,false_iff]at b ⊢;intro e;rw[e]at b;revert b;decide
 ·simp only[if_true,decide_eq_true_eq,true_iff]at b ⊢;exact b
theorem zb4 {W:World} {base:Nat} {e:TypeId} {b:Nat} {v:Value} {n:Nat} {xs:List Value} (h:W.ownsRow base e b v n xs):∃q c,v= .slice q n c:=by
 rcases h.2 with⟨rfl,rfl⟩|⟨g,d,f,rfl,_⟩
 ·exact⟨_,_,rfl⟩
 ·exact⟨_,_,rfl⟩
def goneP (p:ByteArray):Bool:=match pathO p.data.toList with
 | some (g,_)=>g
 | none=>false
theorem zh9 (f:Fl) (w:World) (a:Nat->Addr) (h:EnvN w a) (s:f.1.size<=100000) :
  Calls Tryz.prog 39 #[flV f] w fun e w'=>e= .returned (.bool (goneP f.1))/\BL w w':=by
 have c:BL w (w.alloc (.cells #[.string f.1,.string f.2.1,.int .i64 f.2.2.1,.int .i64 f.2.2.2.1,.int .i64 f.2.2.2.2.1,.int .i64 f.2.2.2.2.2] 43)):=alB _ _;have j:=(FlAt.new w f).cells.1;have b:=zl3 f.1 (w.alloc (.cells #[.string f.1,.string f.2.1,.int .i64 f.2.2.1,.int .i64 f.2.2.2.1,.int .i64 f.2.2.2.2.1,.int .i64 f.2.2.2.2.2] 43)) a (h.below c) s;have d:((bytesOf (pathR f.1.data.toList).1).toList == [103,111,110,101])=goneP f.1:=by
  unfold goneP
  cases o:pathO f.1.data.toList with
  | none=>rw [zf9 o];exact za7 (by rw[zc8];decide)
  | some x =>
   obtain⟨g,n⟩:=x;rw[zd0 o];cases g
   ·exact za7 (by rw[zc8];show kindL false≠_;decide)
   ·exact za6 (by rw[zc8];rfl)
 generalize goneP f.1=R at d ⊢;generalize bytesOf (pathR f.1.data.toList).1=K at b d;generalize errV a (pathR f.1.data.toList).2.2=u at b;generalize (pathR f.1.data.toList).2.1=n at b;unfold flV;obtain⟨p,q,r,k,l,i⟩:=f;dsimp only at c j b ⊢
 go_enter Tryz.func39,Tryz.ntmps39
 go_upto_region 1 with fail
 generalize w.alloc (.cells #[.string p,.string q,.int .i64 r,.int .i64 k,.int .i64 l,.int .i64 i] 43)=v at c j b ⊢
 go_wp2_with fail
 refine b.mono ?_;rintro e t ⟨rfl,m⟩;clear b;go_wp2;go_ret;exact⟨by rw[<-d];rfl,(trB c m)⟩
theorem zs0 {f:Fl} (h:fileE f=0):goneP f.1=decide (f.2.1.data.toList= [45]):=by
 obtain⟨_,_,g,n,c,b⟩:=zb9a h;unfold goneP;rw[c];dsimp only;cases g
 ·exact(decide_eq_false (fun e=>by have:=b.2 e;cases this)).symm
 ·exact(decide_eq_true (b.1 rfl)).symm
end Go.Proofs.YtgckdomafbnmkaaGreatDoor
