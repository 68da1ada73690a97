/- By an AI agent. -/
import Derived.Test.YtdhkdjlgmbejnaaGreatDoorScanPrn
import Derived.Test.YtdhkdjlgmbejnaaGreatDoorRefSnap1
import Derived.Maps.OwnSet
import Derived.Maps.Views
import Derived.Maps.Ext
import Derived.Maps.RangeWalk
namespace Go.Proofs.YtdhkdjlgmbejnaaGreatDoor
open Go.RowKit Go.Extern.Stop Go.Stop Go.Extern Go.Sort Go.Shelf Go.Lib
theorem own_cur {W:World} {base:Nat} {e:TypeId} {size:Nat} {v:Value} {n:Nat} {xs:List Value} (h:W.ownsRow base e size v n xs) {k:Nat} (hk:v.ownBlock=some k):base≤k∧∃cur,W.heap[k]? =some (.cells cur e (0,0)):=by
 rcases h.2 with⟨e',_⟩|⟨g,cap,cur,e',hg,hc,_⟩
 · rw[e']at hk;simp[Value.ownBlock]at hk
 · rw[e']at hk
   simp[Value.ownBlock]at hk
   subst hk
   exact⟨hg,cur,hc⟩
theorem type_kept {W W':World} {base:Nat} {e:TypeId} {size:Nat} {v:Value} {n:Nat} {xs:List Value} (ho:W.ownsRow base e size v n xs) (hg:W.grownBy W' v.ownBlock) {k:Nat} {c:Array Value} {t:TypeId} {f:Nat×Nat} (hk:W.heap[k]? =some (.cells c t f)) (hne:t≠e):W'.heap[k]? =some (.cells c t f):=by
 have h1:some k≠v.ownBlock:=fun e'=>by
   obtain⟨_,cur,hc⟩:=own_cur ho e'.symm
   rw[hk]at hc
   injection hc with hc
   injection hc with _ hc
   exact hne hc
 rw[hg.block k (lt_of_block hk) h1]
 exact hk
theorem own_kept {W W':World} {base base2:Nat} {e e2:TypeId} {size size2:Nat} {v v2:Value} {n n2:Nat} {xs xs2:List Value} (ho:W.ownsRow base e size v n xs) (hg:W.grownBy W' v.ownBlock) (h2:W.ownsRow base2 e2 size2 v2 n2 xs2) (hne:e2≠e):W'.ownsRow base2 e2 size2 v2 n2 xs2:=by
 obtain⟨h1,h3⟩:=h2
 refine⟨h1,?_⟩
 rcases h3 with h3 | ⟨g,cap,cur,hv,hb,hc,r⟩
 · exact Or.inl h3
 · exact Or.inr ⟨g,cap,cur,hv,hb,type_kept ho hg hc hne,r⟩
theorem own_mono {W:World} {base base':Nat} {e:TypeId} {size:Nat} {v:Value} {n:Nat} {xs:List Value} (h:W.ownsRow base e size v n xs) (hb:base'≤base):W.ownsRow base' e size v n xs:=by
 obtain⟨h1,h3⟩:=h
 refine⟨h1,?_⟩
 rcases h3 with h3 | ⟨g,cap,cur,hv,hg,r⟩
 · exact Or.inl h3
 · exact Or.inr ⟨g,cap,cur,hv,Nat.le_trans hb hg,r⟩
theorem grown_below {W W' w:World} {B:Nat} {base:Nat} {e:TypeId} {size:Nat} {v:Value} {n:Nat} {xs:List Value} (hb:Below B w W) (ho:W.ownsRow base e size v n xs) (hB:B≤base) (hBW:B≤W.heap.size) (hg:W.grownBy W' v.ownBlock):Below B w W':=hb.grown hg hBW (fun _ hk=>Nat.le_trans hB (own_cur ho hk).1)
structure ScanInv (w:World) (rb sb:Nat) (s:Sn) (vf out seqs:Value) (acc:List (Rw×Int)) (wr:World):Prop where
 frame:Below w.heap.size w wr
 fault:FC wr rb 0 0
 snap:SnAt wr sb s vf
 rows:wr.ownsRow w.heap.size 54 3 out acc.length (flatR (acc.map (·.1)))
 nums:wr.ownsRow w.heap.size 3 1 seqs acc.length ((acc.map (·.2)).map encZ)
theorem ScanInv.quiet {w wr w':World} {rb sb:Nat} {s:Sn} {vf out seqs:Value} {acc:List (Rw×Int)} (h:ScanInv w rb sb s vf out seqs acc wr) (hb:Below wr.heap.size wr w'):ScanInv w rb sb s vf out seqs acc w' :=
 ⟨h.frame.trans (hb.mono h.frame.size),h.fault.below hb,h.snap.below hb,own_below h.rows hb,own_below h.nums hb⟩
theorem FC.off_rows {W:World} {F:Nat} {x y:Int} {v:Value} {ys:List Rw} (h:FC W F x y) (hr:RowsAt W v ys) (o:Nat) (z:Value) (o2:Nat) (z2:Value):RowsAt ((W.setCell ⟨F,o,none⟩ z).setCell ⟨F,o2,none⟩ z2) v ys:=by
 rcases hr with hr | ⟨b,o',cap,rfl,hc⟩
 · exact .inl hr
 · refine .inr ⟨b,o',cap,rfl,fun i hi=>?_⟩
   have hne:F≠b:=by
     intro e
     subst e
     have h1:=(hc i hi).1
     rw[cell_of_row _ _ _ _ _ _ h]at h1
     generalize o'+i*3=k at h1
     match k,h1 with
     | 0,h1=>simp at h1
     | 1,h1=>simp at h1
     | k+2,h1=>simp at h1
   have hk:∀p,((W.setCell ⟨F,o,none⟩ z).setCell ⟨F,o2,none⟩ z2).cell? ⟨b,p,none⟩=W.cell? ⟨b,p,none⟩:=fun p=>by
     rw[World.cell?_setCell_other _ _ _ _ (by intro e;injection e with e;exact hne e),World.cell?_setCell_other _ _ _ _ (by intro e;injection e with e;exact hne e)]
   rw[hk,hk,hk]
   exact hc i hi
theorem getT_06 (l:List Ob) (n:ByteArray):(getT l n).2=0∨(getT l n).2=6:=by
 unfold getT
 split
 · exact Or.inl rfl
 · exact Or.inr rfl
theorem getT_size {s:St} (K:Keeps s) (n:ByteArray):(getT s.obs n).1.size≤20000:=by
 unfold getT
 split
 · rename_i o ho
   exact K.texts o (getO_some ho).1
 · exact Nat.zero_le _
theorem fls_one {W:World} {b:Nat} {f:Fl} (h:FlAt W b f):FlsAt W (.slice (some ⟨b,0,none⟩) 1 1) [f]:=by
 obtain⟨h0,h1,h2,h3,h4,h5,-⟩:=h.cells
 refine Or.inr ⟨b,0,1,rfl,Nat.le_refl _,fun j hj=>?_⟩
 have hj0:j=0:=by simp at hj;omega
 subst hj0
 simp only[Nat.zero_mul,Nat.zero_add,List.getElem_cons_zero]
 exact⟨h0,h1,h2,h3,h4,h5⟩
theorem readG_nil {β:Type} (k:FK β) (s:List UInt8):(readG k s).2.1=0∨(readG k s).1= []:=by
 unfold readG
 split
 · exact Or.inr rfl
 · split
   · exact Or.inr rfl
   · split
     · exact Or.inr rfl
     · split
       · exact Or.inr rfl
       · unfold endG
         split
         · exact Or.inr rfl
         · split
           · exact Or.inr rfl
           · split
             · exact Or.inl rfl
             · exact Or.inr rfl
theorem fileR_get {obs:List Ob} {x:Fl} (h:(getT obs x.1).2≠0):(fileR obs x).1=(getT obs x.1).2:=by unfold fileR;rw[if_pos h]
theorem fileR_of {obs:List Ob} {x:Fl} (h:(getT obs x.1).2=0):fileR obs x=if (ofF x.1 x.2.1 (getT obs x.1).1.data.toList x.2.2.2.2.2).2≠0 then ((ofF x.1 x.2.1 (getT obs x.1).1.data.toList x.2.2.2.2.2).2,⟨#[]⟩) else if (ofF x.1 x.2.1 (getT obs x.1).1.data.toList x.2.2.2.2.2).1≠x then (3,⟨#[]⟩) else (0,(getT obs x.1).1):=by unfold fileR;rw[if_neg (by simpa using h)]
def RowsP (w:World) (R:List Rw×Nat×Option Nat) (e:Ending) (w':World):Prop:= ∃v',e= .returned (.tuple #[v',.agg #[.int .i64 R.2.1,.int .i64 (atZ R.2.2)]])∧RowsAt w' v' R.1∧Below w.heap.size w w'
structure ScanIn (w:World) (rb sb:Nat) (s:Sn) (vf out seqs:Value) (rs:List Rw) (ns:List Int) (wr:World):Prop where
 frame:Below w.heap.size w wr
 fault:FC wr rb 0 0
 snap:SnAt wr sb s vf
 rows:wr.ownsRow w.heap.size 54 3 out rs.length (flatR rs)
 nums:wr.ownsRow w.heap.size 3 1 seqs ns.length (ns.map encZ)
section
variable {w wr w' : World} {rb sb : Nat} {s : Sn} {vf out seqs : Value} {rs : List Rw} {ns : List Int}
theorem ScanInv.apart {acc:List (Rw×Int)} (h:ScanInv w rb sb s vf out seqs acc wr):ScanIn w rb sb s vf out seqs (acc.map (·.1)) (acc.map (·.2)) wr :=
 ⟨h.frame,h.fault,h.snap,by rw[List.length_map];exact h.rows,by rw[List.length_map];exact h.nums⟩
theorem ScanIn.one {acc:List (Rw×Int)} (h:ScanIn w rb sb s vf out seqs rs ns wr) (e1:acc.map (·.1)=rs) (e2:acc.map (·.2)=ns):ScanInv w rb sb s vf out seqs acc wr:=by
 subst e1 e2
 exact⟨h.frame,h.fault,h.snap,by have:=h.rows;rw[List.length_map]at this;exact this,by have:=h.nums;rw[List.length_map]at this;exact this⟩
theorem ScanIn.quiet (h:ScanIn w rb sb s vf out seqs rs ns wr) (hb:Below wr.heap.size wr w'):ScanIn w rb sb s vf out seqs rs ns w' :=
 ⟨h.frame.trans (hb.mono h.frame.size),h.fault.below hb,h.snap.below hb,own_below h.rows hb,own_below h.nums hb⟩
theorem ScanIn.num {v':Value} {z:Int} (h:ScanIn w rb sb s vf out seqs rs ns wr) (hg:wr.grownBy w' seqs.ownBlock) (ho:w'.ownsRow w.heap.size 3 1 v' (ns.length+1) (ns.map encZ++ [encZ z])):ScanIn w rb sb s vf out v' rs (ns++ [z]) w' :=
 ⟨grown_below h.frame h.nums (Nat.le_refl _) h.frame.size hg,type_kept h.nums hg h.fault (by decide),type_kept h.nums hg h.snap (by decide),own_kept h.nums hg h.rows (by decide),by
   rw[List.length_append,List.map_append]
   exact ho⟩
theorem ScanIn.row {v':Value} {l:List Rw} (h:ScanIn w rb sb s vf out seqs rs ns wr) (hg:wr.grownBy w' out.ownBlock) (ho:w'.ownsRow w.heap.size 54 3 v' (rs.length+l.length) (flatR rs++flatR l)):ScanIn w rb sb s vf v' seqs (rs++l) ns w' :=
 ⟨grown_below h.frame h.rows (Nat.le_refl _) h.frame.size hg,type_kept h.rows hg h.fault (by decide),type_kept h.rows hg h.snap (by decide),by
   rw[List.length_append,flat_append]
   exact ho,own_kept h.rows hg h.nums (by decide)⟩
end
theorem readPost_rows {w w':World} {D:List Rw×Nat×Option Nat} {e:Ending} (h:ReadPost w D e w') (hn:D.2.1=0∨D.1= []):∃(v:Value) (a b:Int),e= .returned (.tuple #[v,.agg #[.int .i64 a,.int .i64 b]])∧RowsAt w' v D.1∧Below w.heap.size w w':=by
 obtain⟨hb,⟨h0,v,e,hr⟩|⟨h0,j,e,_⟩⟩:=h
 · exact⟨v,_,_,e,hr,hb⟩
 · rcases hn with hn | hn
   · exact absurd hn h0
   · exact⟨_,_,_,e,by rw[hn];exact Or.inl ⟨none,0,rfl,rfl⟩,hb⟩
theorem readPost_keys {w w':World} {D:List Int×Nat×Option Nat} {e:Ending} (h:ReadPostK w D e w') (hn:D.2.1=0∨D.1= []):∃(v:Value) (a b:Int),e= .returned (.tuple #[v,.agg #[.int .i64 a,.int .i64 b]])∧KeysAt w' v D.1∧Below w.heap.size w w':=by
 obtain⟨hb,⟨h0,v,e,hr,_⟩|⟨h0,j,e,_⟩⟩:=h
 · exact⟨v,_,_,e,hr,hb⟩
 · rcases hn with hn | hn
   · exact absurd hn h0
   · exact⟨_,_,_,e,by rw[hn];exact Or.inl ⟨none,0,rfl,rfl⟩,hb⟩
theorem fst_same (l:List Rw) (z:Int):(l.map fun r=>(r,z)).map (·.1)=l:=by
 induction l with
 | nil=>rfl
 | cons a r ih=>rw [List.map_cons,List.map_cons,ih]
theorem snd_same (l:List Rw) (z:Int):(l.map fun r=>(r,z)).map (·.2)=List.replicate l.length z:=by
 induction l with
 | nil=>rfl
 | cons a r ih=>rw [List.map_cons,List.map_cons,ih];rfl
def goF (ks:List Int) (x:Fl) (acc:List (Rw×Int)) (m:Nat):List (Rw×Int):=(acc.take m).filter fun p=> !(ks.contains p.1.2.1 && decide (p.2<x.2.2.2.2.2))
theorem goF_succ (ks:List Int) (x:Fl) (acc:List (Rw×Int)) (m:Nat) (h:m<acc.length):goF ks x acc (m+1)=goF ks x acc m++if (ks.contains acc[m].1.2.1 && decide (acc[m].2<x.2.2.2.2.2)) then [] else [acc[m]]:=by
 unfold goF
 rw[←List.take_append_getElem h,List.filter_append]
 congr 1
 cases hc:(ks.contains acc[m].1.2.1 && decide (acc[m].2<x.2.2.2.2.2))
 · rw[List.filter_cons,hc];rfl
 · rw[List.filter_cons,hc];rfl
theorem goF_le (ks:List Int) (x:Fl) (acc:List (Rw×Int)) (m:Nat):(goF ks x acc m).length≤m:=Nat.le_trans (List.length_filter_le _ _) (by rw[List.length_take];omega)
theorem row_at {W:World} {base:Nat} {v:Value} {acc:List (Rw×Int)} (h:W.ownsRow base 54 3 v acc.length (flatR (acc.map (·.1)))) (m:Nat) (hm:m<acc.length):∃q c,v= .slice q acc.length c∧∃b o,q=some ⟨b,o,none⟩∧W.cell? ⟨b,o+m*3,none⟩=some (.string acc[m].1.1)∧W.cell? ⟨b,o+m*3+1,none⟩=some (.int .i64 acc[m].1.2.1)∧W.cell? ⟨b,o+m*3+2,none⟩=some (.int .i64 acc[m].1.2.2):=by
 have h':W.ownsRow base 54 3 v (acc.map (·.1)).length (flatR (acc.map (·.1))):=by rw[List.length_map];exact h
 rcases (rowsAt_of_own h').1 with⟨_,_,_,e⟩|⟨b,o,cap,e,hc⟩
 · have e':=congrArg List.length e
   rw[List.length_map]at e'
   simp at e'
   subst e'
   simp at hm
 · have hc':=hc m (by rw[List.length_map];exact hm)
   rw[List.getElem_map]at hc'
   rw[List.length_map]at e
   exact⟨_,_,e,b,o,rfl,hc'⟩
theorem num_at {W:World} {base:Nat} {v:Value} {acc:List (Rw×Int)} (h:W.ownsRow base 3 1 v acc.length ((acc.map (·.2)).map encZ)) (m:Nat) (hm:m<acc.length):∃q c,v= .slice q acc.length c∧∃b o,q=some ⟨b,o,none⟩∧W.cell? ⟨b,o+m,none⟩=some (.int .i64 acc[m].2):=by
 have h':W.ownsRow base 3 1 v (acc.map (·.2)).length ((acc.map (·.2)).map encZ):=by rw[List.length_map];exact h
 rcases keysAt_of_own h' with⟨_,_,_,e⟩|⟨b,o,cap,e,hc⟩
 · have e':=congrArg List.length e
   rw[List.length_map]at e'
   simp at e'
   subst e'
   simp at hm
 · have hc':=hc m (by rw[List.length_map];exact hm)
   rw[List.getElem_map]at hc'
   rw[List.length_map]at e
   exact⟨_,_,e,b,o,rfl,hc'⟩
def ptrD (k:Int):DataW Unit:=.lit (.int .i64 k)
abbrev ptrV (k:Nat):Value:=.pointer (some ⟨k,0,none⟩)
def ptrR (v:Value):Option (DataW Unit×List MemPlace):=match v with
 | .pointer (some ⟨k,0,none⟩)=>some (ptrD k, [])
 | .pointer none=>some (ptrD (-1), [])
 | _=>none
theorem ptrR_mk (k:Nat):ptrR (ptrV k)=some (ptrD k, []):=rfl
theorem ptrR_nil:ptrR (.pointer none)=some (ptrD (-1), []):=rfl
theorem ptrR_inv {v:Value} {z:DataW Unit×List MemPlace} (h:ptrR v=some z):(∃k:Nat,v=ptrV k∧z=(ptrD k, []))∨(v= .pointer none∧z=(ptrD (-1), [])):=by
 unfold ptrR at h
 split at h
 · exact Or.inl ⟨_,rfl,(Option.some.inj h).symm⟩
 · exact Or.inr ⟨rfl,(Option.some.inj h).symm⟩
 · cases h
theorem ptrD_inj {k j:Int} (h:ptrD k=ptrD j):k=j:=by simpa [ptrD] using h
def keyL (n:ByteArray):Lit:=.string n.data.toList
def mapQ (q:ByteArray→Nat) (l:List Ob):DataW Unit:=.map (l.map fun o=>(keyL o.1,ptrD (q o.1)))
def setQ (q:ByteArray→Nat) (n:ByteArray) (k:Nat):ByteArray→Nat:=fun m=>if m=n then k else q m
theorem setQ_same (q:ByteArray→Nat) (n:ByteArray) (k:Nat):setQ q n k n=k:=by simp[setQ]
theorem setQ_other (q:ByteArray→Nat) {n m:ByteArray} (k:Nat) (h:m≠n):setQ q n k m=q m:=by simp[setQ,h]
abbrev RiseO (l:List Ob):Prop:=l.Pairwise fun a b=>a.1.data.toList<b.1.data.toList
theorem keyL_same (n m:ByteArray):(keyL n).sameKey (keyL m)=decide (n=m):=by
 show (n.data.toList == m.data.toList)=_
 by_cases h:n=m
 · subst h;simp
 · rw[decide_eq_false h]
   simp only[beq_eq_false_iff_ne]
   exact fun e=>h (name_ext e)
theorem keyL_ne {n m:ByteArray} (h:n≠m):keyL n≠keyL m:=fun e=>h (name_ext (by simpa [keyL] using e))
theorem mapQ_has (q:ByteArray→Nat) (l:List Ob) (n:ByteArray):Maps.has (mapQ q l) (keyL n)=(getO l n).isSome:=by
 unfold mapQ getO
 rw[Maps.has_eq,List.any_map]
 have e:((fun p:Lit×DataW Unit=>p.1.sameKey (keyL n)) ∘ fun o:Ob=>(keyL o.1,ptrD (q o.1)))=fun o=>decide (o.1=n):=by
   funext o
   exact keyL_same o.1 n
 rw[e,Bool.eq_iff_iff,List.any_eq_true,List.find?_isSome]
theorem mapQ_at (q:ByteArray→Nat) (l:List Ob) (n:ByteArray) (z:DataW Unit):(mapQ q l).atKey (keyL n) z=if (getO l n).isSome=true then ptrD (q n) else z:=by
 unfold mapQ getO DataW.atKey
 dsimp only
 rw[List.find?_map]
 have e:((fun p:Lit×DataW Unit=>p.1.sameKey (keyL n)) ∘ fun o:Ob=>(keyL o.1,ptrD (q o.1)))=fun o=>decide (o.1=n):=by
   funext o
   exact keyL_same o.1 n
 rw[e]
 cases h:l.find? fun o=>decide (o.1=n) with
 | none=>rfl
 | some o =>
   have:=List.find?_some h
   simp only[decide_eq_true_eq]at this
   simp[this]
theorem before_lt:∀(a b:List UInt8),a<b→bytesBefore a b=true
 | [], [],h=>absurd h (List.lt_irrefl _)
 | [],_ :: _,_=>rfl
 | _ :: _, [],h=>by cases h
 | x :: r,y :: s,h=>by
   unfold bytesBefore
   rw[List.cons_lt_cons_iff]at h
   rcases h with h | ⟨rfl,h⟩
   · simp[h]
   · simp[before_lt r s h]
theorem mapQ_canon {q:ByteArray→Nat} {l:List Ob} (h:RiseO l):Maps.Canon (mapQ q l):=by
 refine⟨_,rfl,?_,?_⟩
 · rw[List.pairwise_map]
   exact h.imp fun h'=>before_lt _ _ h'
 · intro p hp
   obtain⟨o,_,rfl⟩:=List.mem_map.1 hp
   exact trivial
theorem lit_key (k:Lit):(∃n,k=keyL n)∨∀q l,Maps.has (mapQ q l) k=false:=by
 cases k with
 | string x=>exact Or.inl ⟨bytesOf x,by simp[keyL,bytesOf]⟩
 | _ =>
   refine Or.inr fun q l=>?_
   unfold mapQ
   rw[Maps.has_eq,List.any_map]
   apply List.any_eq_false.2
   intro o _
   simp[keyL,Lit.sameKey]
theorem mapQ_put {q:ByteArray→Nat} {l:List Ob} {n t:ByteArray} {d:Int} {k:Nat} (hr:RiseO l) (hn:∀p∈l,p.1≠n) (hc:Maps.Canon ((mapQ q l).put (keyL n) (ptrD k))):(mapQ q l).put (keyL n) (ptrD k)=mapQ (setQ q n k) (insO l (n,t,d)):=by
 have hm:Maps.IsMap (mapQ q l):=⟨_,rfl⟩
 have hh:∀z,Maps.has ((mapQ q l).put (keyL n) (ptrD k)) z=Maps.has (mapQ (setQ q n k) (insO l (n,t,d))) z:=fun z=>by
   rcases lit_key z with⟨m,rfl⟩ | hk
   · by_cases e:m=n
     · subst e
       rw[Maps.has_put_same hm (show WideAt.IsKeyLit (keyL m) from trivial),mapQ_has,getO_ins (o:=(m,t,d)) hr hn]
       rfl
     · rw[Maps.has_put_other (keyL_ne e),mapQ_has,mapQ_has,getO_other (o:=(n,t,d)) hr hn e]
   · rw[hk,Maps.has_put_other (fun e=>?_),hk]
     subst e
     have h1:=hk q (insO l (n,t,d))
     rw[mapQ_has,getO_ins (o:=(n,t,d)) hr hn]at h1
     cases h1
 refine Maps.ext hc (mapQ_canon (insO_rise (o:=(n,t,d)) hr hn)) hh (fun z u hk=>?_)
 rcases lit_key z with⟨m,rfl⟩ | hk2
 · by_cases e:m=n
   · subst e
     rw[Maps.atKey_put_same hm (show WideAt.IsKeyLit (keyL m) from trivial),mapQ_at,getO_ins (o:=(m,t,d)) hr hn,setQ_same]
     rfl
   · rw[Maps.atKey_put_other (keyL_ne e),mapQ_at,mapQ_at,getO_other (o:=(n,t,d)) hr hn e,setQ_other _ _ e]
 · rw[hh,hk2]at hk
   cases hk
theorem mapQ_size (q:ByteArray→Nat) (l:List Ob):Maps.size (mapQ q l)=l.length:=by unfold mapQ;rw[Maps.size_eq,List.length_map]
def PtrMap (w:World) (b:Nat) (q:ByteArray→Nat) (l:List Ob):Prop:=w.ownsMap Tryz.prog 9 ptrR b l.length (mapQ q l)
theorem Tryz.keyedS:Maps.Keyed Tryz.prog 9:=Maps.string_keyed Tryz.underlying9
theorem keyOf_name {n:ByteArray} (h:n.size≤maxLen):keyOf Tryz.prog 9 (.string n)=some (keyL n):=WideMaps.keyOf_string_mk Tryz.underlying9 h
theorem PtrMap.block {w:World} {b:Nat} {q:ByteArray→Nat} {l:List Ob} (h:PtrMap w b q l):∃es clock,w.heap[b]? =some (.map es clock):=by
 obtain⟨es,clock,hb,_⟩:=h
 exact⟨es,clock,hb⟩
theorem PtrMap.lt {w:World} {b:Nat} {q:ByteArray→Nat} {l:List Ob} (h:PtrMap w b q l):b<w.heap.size:=World.ownsMap.lt h
theorem PtrMap.keep {w w':World} {b:Nat} {q:ByteArray→Nat} {l:List Ob} (h:PtrMap w b q l) (hb:w'.heap[b]? =w.heap[b]?):PtrMap w' b q l:=by
 obtain⟨es,clock,h1,h2,h3,h4⟩:=h
 exact⟨es,clock,hb.trans h1,h2,h3,h4⟩
def lookP (q:ByteArray→Nat) (l:List Ob) (n:ByteArray):Value:=if (getO l n).isSome=true then ptrV (q n) else .pointer none
theorem Tryz.zeroObj (w:World):(zeroValue 140).run Tryz.prog w= .ok (.pointer none) w:=Tryz.zeroValue140 w
section
variable {w : World} {b : Nat} {q : ByteArray → Nat} {l : List Ob}
theorem PtrMap.look (h:PtrMap w b q l) {n:ByteArray} (hn:n.size≤maxLen) :
   (Instr.lookup 123 (.map (some b)) (.string n) false).run Tryz.prog w= .ok (lookP q l n) w:=by
 obtain⟨v,ps,hrun,hv⟩:=World.ownsMap.lookup h Tryz.keyedS Tryz.underlying123 (Tryz.zeroObj w) ptrR_nil (keyOf_name hn)
 rw[hrun]
 rw[mapQ_at]at hv
 unfold lookP
 by_cases hg:(getO l n).isSome=true
 · rw[if_pos hg]at hv ⊢
   rcases ptrR_inv hv with⟨k,rfl,hz⟩|⟨rfl,hz⟩
   · have:=ptrD_inj (Prod.mk.inj hz).1
     have:q n=k:=by omega
     rw[this]
   · have:=ptrD_inj (Prod.mk.inj hz).1
     omega
 · rw[if_neg hg]at hv ⊢
   rcases ptrR_inv hv with⟨k,rfl,hz⟩|⟨rfl,hz⟩
   · have:=ptrD_inj (Prod.mk.inj hz).1
     omega
   · rfl
theorem PtrMap.len (h:PtrMap w b q l) (ty:TypeId):(Builtin.len_ #[123] ty #[.map (some b)]).run Tryz.prog w= .ok (.int .i64 l.length) w:=by
 rw[World.ownsMap.len h Tryz.underlying123 ty,mapQ_size]
theorem PtrMap.store (h:PtrMap w b q l) (hr:RiseO l) (hl:l.length<maxLen) {n:ByteArray} (hn:n.size≤maxLen) (hne:∀p∈l,p.1≠n) (t:ByteArray) (d:Int) (k:Nat) :
   ∃w',(Instr.mapUpdate 123 (.map (some b)) (.string n) (ptrV k)).run Tryz.prog w= .ok () w'∧PtrMap w' b (setQ q n k) (insO l (n,t,d))∧w.mapTurned w' b:=by
 obtain⟨w',hrun,ho,hm⟩:=World.ownsMap.store h Tryz.keyedS Tryz.underlying123 hl (keyOf_name hn) (ptrR_mk k)
 refine⟨w',hrun,?_,hm⟩
 unfold PtrMap
 rw[←mapQ_put hr hne (World.ownsMap.canon ho Tryz.keyedS),insO_len]
 exact ho
end
theorem PtrMap.made (w:World) (q:ByteArray→Nat):PtrMap (w.alloc (.map #[] 0)) w.heap.size q []:=World.ownsMap_made w _ _ _
theorem But.of_turned {w w':World} {b:Nat} (h:w.mapTurned w' b):But (fun k=>k=b) w w':=by
 have g:=World.mapTurned.grown h
 exact⟨g.os,g.tape,g.output,g.size,fun k hk hP=>g.block k hk (fun e=>hP (Option.some.inj e))⟩
def waitsB (s:St):Bool:= !s.off && decide (0≤s.cut)
def leftI (s:St):Int:=if waitsB s=true then s.cut else 0
def SC (W:World) (b:Nat) (mo:Option Nat) (h:ByteArray) (d:Int) (off waits:Bool) (left:Int):Prop:=W.heap[b]? =some (.cells #[.map mo,.string h,.int .i64 d,.bool off,.bool waits,.int .i64 left] 127 (0,0))
def ObjsAt (W:World) (q:ByteArray→Nat) (l:List Ob):Prop:= ∀o∈l,W.heap[q o.1]? =some (.cells #[.string o.2.1,.int .i64 o.2.2] 142 (0,0))
def MapAt (W:World) (mo:Option Nat) (q:ByteArray→Nat) (l:List Ob):Prop:=(mo=none∧l= [])∨∃mb,mo=some mb∧PtrMap W mb q l
structure SIn (W:World) (b:Nat) (mo:Option Nat) (q:ByteArray→Nat) (s:St):Prop where
 block:SC W b mo s.head s.day s.off (waitsB s) (leftI s)
 map:MapAt W mo q s.obs
 objs:ObjsAt W q s.obs
 rise:RiseO s.obs
 cut:s.cut≤9223372036854775807
def fpS (b:Nat) (mo:Option Nat) (q:ByteArray→Nat) (l:List Ob):Nat→Prop:=fun k=>k=b∨mo=some k∨∃o∈l,q o.1=k
def SAtP (W:World) (v:Value) (FP:Nat→Prop) (s:St):Prop:= ∃b mo q,v= .pointer (some ⟨b,0,none⟩)∧FP=fpS b mo q s.obs∧SIn W b mo q s
theorem SC.lt {W:World} {b:Nat} {mo:Option Nat} {h:ByteArray} {d:Int} {off waits:Bool} {left:Int} (hs:SC W b mo h d off waits left):b<W.heap.size:=lt_of_block hs
theorem SC.cells {W:World} {b:Nat} {mo:Option Nat} {h:ByteArray} {d:Int} {off waits:Bool} {left:Int} (hs:SC W b mo h d off waits left):W.cell? ⟨b,0,none⟩=some (.map mo)∧W.cell? ⟨b,1,none⟩=some (.string h)∧W.cell? ⟨b,2,none⟩=some (.int .i64 d)∧W.cell? ⟨b,3,none⟩=some (.bool off)∧W.cell? ⟨b,4,none⟩=some (.bool waits)∧W.cell? ⟨b,5,none⟩=some (.int .i64 left)∧∀o,W.frozen? ⟨b,o,none⟩=false:=by
 refine⟨?_,?_,?_,?_,?_,?_,fun o=>frozen_of_row _ _ _ _ _ hs⟩<;>rw [cell_of_row _ _ _ _ _ _ hs]<;>rfl
theorem ObjsAt.cells {W:World} {q:ByteArray→Nat} {l:List Ob} (h:ObjsAt W q l) {o:Ob} (ho:o∈l):W.cell? ⟨q o.1,0,none⟩=some (.string o.2.1)∧W.cell? ⟨q o.1,1,none⟩=some (.int .i64 o.2.2):=by
 refine⟨?_,?_⟩<;>rw [cell_of_row _ _ _ _ _ _ (h o ho)]<;>rfl
theorem ObjsAt.lt {W:World} {q:ByteArray→Nat} {l:List Ob} (h:ObjsAt W q l) {o:Ob} (ho:o∈l):q o.1<W.heap.size:=lt_of_block (h o ho)
theorem ObjsAt.keep {W W':World} {q:ByteArray→Nat} {l:List Ob} (h:ObjsAt W q l) (hk:∀o∈l,W'.heap[q o.1]? =W.heap[q o.1]?):ObjsAt W' q l:=fun o ho=>(hk o ho).trans (h o ho)
theorem MapAt.keep {W W':World} {mo:Option Nat} {q:ByteArray→Nat} {l:List Ob} (h:MapAt W mo q l) (hk:∀mb,mo=some mb→W'.heap[mb]? =W.heap[mb]?):MapAt W' mo q l:=by
 rcases h with h | ⟨mb,rfl,h⟩
 · exact Or.inl h
 · exact Or.inr ⟨mb,rfl,h.keep (hk mb rfl)⟩
theorem SIn.lt {W:World} {b:Nat} {mo:Option Nat} {q:ByteArray→Nat} {s:St} (h:SIn W b mo q s) {k:Nat} (hk:fpS b mo q s.obs k):k<W.heap.size:=by
 rcases hk with rfl | hk | ⟨o,ho,rfl⟩
 · exact h.block.lt
 · rcases h.map with⟨e,_⟩|⟨mb,rfl,hm⟩
   · rw[e]at hk;cases hk
   · cases hk;exact hm.lt
 · exact h.objs.lt ho
theorem SIn.keep {W W':World} {b:Nat} {mo:Option Nat} {q:ByteArray→Nat} {s:St} {P:Nat→Prop} (h:SIn W b mo q s) (hB:But P W W') (hP:∀k,fpS b mo q s.obs k→¬P k):SIn W' b mo q s:=by
 have g:∀k,fpS b mo q s.obs k→W'.heap[k]? =W.heap[k]? :=fun k hk=>hB.block k (h.lt hk) (hP k hk)
 refine⟨(g b (Or.inl rfl)).trans h.block,h.map.keep fun mb e=>g mb (Or.inr (Or.inl e)),h.objs.keep fun o ho=>g _ (Or.inr (Or.inr ⟨o,ho,rfl⟩)),h.rise,h.cut⟩
theorem SIn.below {W W':World} {b:Nat} {mo:Option Nat} {q:ByteArray→Nat} {s:St} (h:SIn W b mo q s) (hB:Below W.heap.size W W'):SIn W' b mo q s :=
 h.keep (But.of_below (P:=fun _=>False) hB) fun _ _ h=>h
theorem sc_off_map {W:World} {b mb:Nat} {mo:Option Nat} {h:ByteArray} {d:Int} {off waits:Bool} {left:Int} {q:ByteArray→Nat} {l:List Ob} (hs:SC W b mo h d off waits left) (hm:PtrMap W mb q l):mb≠b:=by
 rintro rfl
 obtain⟨es,c,e⟩:=hm.block
 rw[hs]at e
 cases e
theorem sc_off_obj {W:World} {b:Nat} {mo:Option Nat} {h:ByteArray} {d:Int} {off waits:Bool} {left:Int} {q:ByteArray→Nat} {l:List Ob} (hs:SC W b mo h d off waits left) (ho:ObjsAt W q l) {o:Ob} (hm:o∈l):q o.1≠b:=by
 rintro rfl
 have e:=ho o hm
 rw[hs]at e
 simp at e
theorem map_off_obj {W:World} {mb:Nat} {q:ByteArray→Nat} {l:List Ob} (hm:PtrMap W mb q l) {l':List Ob} {q':ByteArray→Nat} (ho:ObjsAt W q' l') {o:Ob} (h:o∈l'):q' o.1≠mb:=by
 rintro rfl
 obtain⟨es,c,e⟩:=hm.block
 rw[ho o h]at e
 cases e
theorem spost_of {W w':World} {b:Nat} {mo mo':Option Nat} {q q':ByteArray→Nat} {s s':St} (h:SIn w' b mo' q' s') (hB:But (fpS b mo q s.obs) W w') (hn:∀k,fpS b mo' q' s'.obs k→fpS b mo q s.obs k∨W.heap.size≤k) :
   ∃FP',SAtP w' (.pointer (some ⟨b,0,none⟩)) FP' s'∧But (fpS b mo q s.obs) W w'∧∀k,FP' k→fpS b mo q s.obs k∨W.heap.size≤k:=⟨_,⟨b,mo',q',rfl,rfl,h⟩,hB,hn⟩
end Go.Proofs.YtdhkdjlgmbejnaaGreatDoor
