/- By an AI agent. -/
import Derived.Test.YtdhkdjlgmbejnaaGreatDoorRefStore4
import Derived.RangeFuncNested
import Derived.RangeFuncBound
import Derived.RangeFuncCalls
import Derived.RangeFuncLeaves
import Derived.Sort.MapsRangeIn
import Derived.Shelf.RegionOpen
import Derived.OwnWalkIn
import Derived.TacticsInMore
import Derived.RegionIn
import Derived.LoopNIn
import Derived.LoopIn
namespace Go.Proofs.YtdhkdjlgmbejnaaGreatDoor
open Go.RowKit Go.Extern.Stop Go.Stop Go.Extern Go.Sort Go.Shelf Go.Lib
def TellsB (fn:Nat) (cb:Array Value) (xs:List Rw) (p:Rw→Bool) (P:Nat→Prop) (w:World):Prop :=
 ∀(x:Rw) (W:World),x∈xs→But P w W→Calls Tryz.prog fn (#[.agg #[.string x.1,.int .i64 x.2.1,.int .i64 x.2.2]]++cb) W fun e w'=>e= .returned (.bool (p x))∧Below W.heap.size W w'
def idxR (p:Rw→Bool) (xs:List Rw):Int:=match xs.findIdx? p with
 | some i=>i
 | none=> -1
theorem idxR_at {p:Rw→Bool} {xs:List Rw} {n:Nat} (hn:n<xs.length) (h:∀j (h:j<xs.length),j<n→p xs[j]=false) (e:p xs[n]=true):idxR p xs=n:=by
 unfold idxR
 have:xs.findIdx? p=some n:=by
   rw[List.findIdx?_eq_some_iff_getElem]
   exact⟨hn,e,fun j hj=>by simpa using h j (by omega) hj⟩
 rw[this]
theorem idxR_no {p:Rw→Bool} {xs:List Rw} (h:∀j (h:j<xs.length),p xs[j]=false):idxR p xs= -1:=by
 unfold idxR
 have:xs.findIdx? p=none:=by
   rw[List.findIdx?_eq_none_iff]
   intro x hx
   obtain⟨j,hj,rfl⟩:=List.getElem_of_mem hx
   exact h j hj
 rw[this]
theorem idxR_cases (p:Rw→Bool) (xs:List Rw):(idxR p xs= -1∧∀j (h:j<xs.length),p xs[j]=false)∨∃n:Nat,∃hn:n<xs.length,idxR p xs=n∧p xs[n]=true∧∀j (h:j<xs.length),j<n→p xs[j]=false:=by
 unfold idxR
 cases hf:xs.findIdx? p with
 | none =>
   rw[List.findIdx?_eq_none_iff]at hf
   exact Or.inl ⟨rfl,fun j hj=>hf _ (List.getElem_mem _)⟩
 | some n =>
   rw[List.findIdx?_eq_some_iff_getElem]at hf
   obtain⟨hn,e,h⟩:=hf
   exact Or.inr ⟨n,hn,rfl,e,fun j hj hlt=>by simpa using h j hlt⟩
set_option maxRecDepth 100000 in
set_option maxHeartbeats 4000000 in
theorem indexR_any (v:Value) (xs:List Rw) (fn:Nat) (cb:Array Value) (p:Rw→Bool) (w:World) (eg:∀args w,(callFunc fn args).run Tryz.prog w= .ok (.enter fn args) w) (hx:RowsAt w v xs) (hl:xs.length≤20000) (hp:∀(x:Rw) (W:World),x∈xs→Below w.heap.size w W→Calls Tryz.prog fn (#[.agg #[.string x.1,.int .i64 x.2.1,.int .i64 x.2.2]]++cb) W fun e w'=>e= .returned (.bool (p x))∧Below W.heap.size W w') :
   Calls Tryz.prog 147 #[v,.func (.func fn) #[] cb] w fun e w'=>e= .returned (.int .i64 (idxR p xs))∧Below w.heap.size w w':=by
 obtain⟨q,cap,rfl⟩:=hx.form
 have HFX:Hid (RowsAt w (.slice q xs.length cap) xs):=hx
 obtain⟨L,hL⟩:∃L,xs.length=L:=⟨_,rfl⟩
 have HX:Hid (xs.length=L):=hL
 rw[hL]at hl HFX ⊢
 generalize hR:idxR p xs=R
 have HR:Hid (idxR p xs=R):=hR
 have HP:Hid (∀(x:Rw) (W:World),x∈xs→Below w.heap.size w W→Calls Tryz.prog fn (#[.agg #[.string x.1,.int .i64 x.2.1,.int .i64 x.2.2]]++cb) W fun e w'=>e= .returned (.bool (p x))∧Below W.heap.size W w'):=hp
 clear hL hx hR hp
 go_enter Tryz.func147,Tryz.ntmps147
 go_wp2
 go_loopw [8] (fun k wr=> ∃n:Nat,n≤L∧k= .int .i64 n∧(∀j (h:j<xs.length),j<n→p xs[j]=false)∧Below w.heap.size w wr) (fun k _=>L-(intOf k).toNat)
 case atStart=>exact ⟨0,by omega,rfl,fun j h h'=>absurd h' (Nat.not_lt_zero _),Below.refl _ _⟩
 case round =>
   obtain⟨n,hn,rfl,hno,hb⟩:=hrel
   have HNO:Hid (∀j (h:j<xs.length),j<n→p xs[j]=false):=hno
   clear hno
   by_cases hlt:n<L
   · have hltx:n<xs.length:=by rw[HX.out];exact hlt
     rcases HFX.out.below hb with⟨_,_,e,e'⟩|⟨b,o,cap2,e,hcells⟩
     · exfalso;have:=HX.out;rw[e']at this;simp at this;omega
     injection e with e1 e2 e3
     subst e1
     clear e2 e3
     obtain⟨c1,c2,c3⟩:=hcells n hltx
     have hcl:=HP.out xs[n] wr (List.getElem_mem _) hb
     have hi:(n:Int)<(L:Int):=by omega
     have hi0':(0:Int)≤(n:Int):=by omega
     clear hcells
     cases he:p xs[n]
     · have HN1:Hid (∀j (h:j<xs.length),j<n+1→p xs[j]=false):=fun j hj hjn=>by
         by_cases e:j=n
         · subst e;exact he
         · exact HNO.out j hj (by omega)
       rw[he]at hcl
       clear he
       generalize xs[n]=f at c1 c2 c3 hcl
       clear hltx
       obtain⟨fp,fk,fv⟩:=f
       dsimp only at c1 c2 c3 hcl
       go_wp2_with (go_at_fn fn;refine hcl.mono ?_;rintro e w2 ⟨rfl,hb2⟩)
       have hb3:Below w.heap.size w w2:=hb.trans (hb2.mono hb.size)
       go_roundw
       case rel=>exact ⟨n+1,by omega,by go_num,HN1.out,hb3⟩
       case measure=>simp [intOf];omega
     · have hRR:R=n:=by rw[←HR.out];exact idxR_at hltx HNO.out he
       subst hRR
       rw[he]at hcl
       clear he
       generalize xs[n]=f at c1 c2 c3 hcl
       clear hltx
       obtain⟨fp,fk,fv⟩:=f
       dsimp only at c1 c2 c3 hcl
       go_wp2_with (go_at_fn fn;refine hcl.mono ?_;rintro e w2 ⟨rfl,hb2⟩)
       go_ret
       exact⟨rfl,hb.trans (hb2.mono hb.size)⟩
   · obtain rfl:n=L:=by omega
     have hRR:R= -1:=by rw[←HR.out];exact idxR_no (fun j hj=>HNO.out j hj (by rw[←HX.out];exact hj))
     subst hRR
     go_wp2
     go_ret
     exact⟨rfl,hb⟩
def At3 (cur:Array Value) (t:Nat) (r:Rw):Prop:=cur[t*3]? =some (.string r.1)∧cur[t*3+1]? =some (.int .i64 r.2.1)∧cur[t*3+2]? =some (.int .i64 r.2.2)
def put3 (cur:Array Value) (t:Nat) (r:Rw):Array Value:=((cur.setIfInBounds (t*3) (.string r.1)).setIfInBounds (t*3+1) (.int .i64 r.2.1)).setIfInBounds (t*3+2) (.int .i64 r.2.2)
theorem put3_size (cur:Array Value) (t:Nat) (r:Rw):(put3 cur t r).size=cur.size:=by simp[put3]
theorem put3_same {cur:Array Value} {t:Nat} {r:Rw} (h:t*3+2<cur.size):At3 (put3 cur t r) t r:=by
 unfold At3 put3
 refine⟨?_,?_,?_⟩
 · rw[Array.getElem?_setIfInBounds_ne (by omega),Array.getElem?_setIfInBounds_ne (by omega),Array.getElem?_setIfInBounds_self_of_lt (by omega)]
 · rw[Array.getElem?_setIfInBounds_ne (by omega),Array.getElem?_setIfInBounds_self_of_lt (by simp;omega)]
 · rw[Array.getElem?_setIfInBounds_self_of_lt (by simp;omega)]
theorem put3_other {cur:Array Value} {t s:Nat} {r x:Rw} (h:s≠t) (hx:At3 cur s x):At3 (put3 cur t r) s x:=by
 unfold At3 put3 at *
 obtain⟨h1,h2,h3⟩:=hx
 refine⟨?_,?_,?_⟩
 · rw[Array.getElem?_setIfInBounds_ne (by omega),Array.getElem?_setIfInBounds_ne (by omega),Array.getElem?_setIfInBounds_ne (by omega)];exact h1
 · rw[Array.getElem?_setIfInBounds_ne (by omega),Array.getElem?_setIfInBounds_ne (by omega),Array.getElem?_setIfInBounds_ne (by omega)];exact h2
 · rw[Array.getElem?_setIfInBounds_ne (by omega),Array.getElem?_setIfInBounds_ne (by omega),Array.getElem?_setIfInBounds_ne (by omega)];exact h3
structure DelI (xs:List Rw) (p:Rw→Bool) (n:Nat) (cur:Array Value):Prop where
 kept:∀t (h:t<((xs.take n).filter fun x=> !p x).length),At3 cur t ((xs.take n).filter fun x=> !p x)[t]
 rest:∀t (h:t<xs.length),n≤t→At3 cur t xs[t]
theorem keep_lt {xs:List Rw} {p:Rw→Bool} {n m:Nat} (hm:m<n) (hx:m<xs.length) (h:p xs[m]=true):((xs.take n).filter fun x=> !p x).length<n:=by
 rcases Nat.lt_or_ge ((xs.take n).filter fun x=> !p x).length n with h' | h'
 · exact h'
 · exfalso
   have h1:(xs.take n).length≤n:=List.length_take_le _ _
   have h2:=List.length_filter_le (fun x=> !p x) (xs.take n)
   have h3:((xs.take n).filter fun x=> !p x).length=(xs.take n).length:=by omega
   rw[List.length_filter_eq_length_iff]at h3
   have h4:=h3 xs[m] (by
     rw[List.mem_take_iff_getElem]
     exact⟨m,by omega,rfl⟩)
   rw[h]at h4
   cases h4
theorem DelI.skip {xs:List Rw} {p:Rw→Bool} {n:Nat} {cur:Array Value} (h:DelI xs p n cur) (hn:n<xs.length) (hp:p xs[n]=true):((xs.take (n+1)).filter fun x=> !p x)=((xs.take n).filter fun x=> !p x)∧DelI xs p (n+1) cur:=by
 have e:((xs.take (n+1)).filter fun x=> !p x)=((xs.take n).filter fun x=> !p x):=by
   rw[filter_snoc (fun x=> !p x) xs n hn]
   simp[hp]
 exact⟨e,⟨by rw[e];exact h.kept,fun t ht hle=>h.rest t ht (by omega)⟩⟩
theorem DelI.step {xs:List Rw} {p:Rw→Bool} {n:Nat} {cur:Array Value} (h:DelI xs p n cur) (hn:n<xs.length) (hp:p xs[n]=false) (hs:xs.length*3≤cur.size) (hlt:((xs.take n).filter fun x=> !p x).length<n):((xs.take (n+1)).filter fun x=> !p x).length=((xs.take n).filter fun x=> !p x).length+1∧DelI xs p (n+1) (put3 cur ((xs.take n).filter fun x=> !p x).length xs[n]):=by
 have e:((xs.take (n+1)).filter fun x=> !p x)=((xs.take n).filter fun x=> !p x)++ [xs[n]]:=by
   rw[filter_snoc (fun x=> !p x) xs n hn]
   simp[hp]
 refine⟨by rw[e,List.length_append];rfl,⟨?_,fun t ht hle=>?_⟩⟩
 · rw[e]
   intro t ht
   by_cases h1:t<((xs.take n).filter fun x=> !p x).length
   · rw[List.getElem_append_left h1]
     exact put3_other (by omega) (h.kept t h1)
   · rw[List.length_append,List.length_singleton]at ht
     have e2:t=((xs.take n).filter fun x=> !p x).length:=by omega
     subst e2
     rw[List.getElem_append_right (Nat.le_refl _)]
     simp only[Nat.sub_self,List.getElem_cons_zero]
     exact put3_same (by omega)
 · exact put3_other (by omega) (h.rest t ht (by omega))
theorem cell_cur {w:World} {g o:Nat} {cur:Array Value} {t:TypeId} {f:Nat×Nat} {v:Value} (h:w.heap[g]? =some (.cells cur t f)) (hc:cur[o]? =some v):w.cell? ⟨g,o,none⟩=some v:=by
 simp[World.cell?,h,hc]
theorem frozen_cur {w:World} {g o:Nat} {cur:Array Value} {t:TypeId} (h:w.heap[g]? =some (.cells cur t (0,0))):w.frozen? ⟨g,o,none⟩=false:=by
 simp[World.frozen?,h]
theorem put3_world {w:World} {g n:Nat} {cur:Array Value} {t:TypeId} (r:Rw) (h:w.heap[g]? =some (.cells cur t (0,0))):(((w.setCell ⟨g,n*3,none⟩ (.string r.1)).setCell ⟨g,n*3+1,none⟩ (.int .i64 r.2.1)).setCell ⟨g,n*3+2,none⟩ (.int .i64 r.2.2)).heap[g]? =some (.cells (put3 cur n r) t (0,0)):=by
 have e1:=setCell_eq_setRow w g (n*3) cur t (0,0) (.string r.1) h
 have h1:=setRow_heap w g cur (cur.setIfInBounds (n*3) (.string r.1)) t (0,0) h
 rw[←e1]at h1
 have e2:=setCell_eq_setRow _ g (n*3+1) _ t (0,0) (.int .i64 r.2.1) h1
 have h2:=setRow_heap _ g _ ((cur.setIfInBounds (n*3) (.string r.1)).setIfInBounds (n*3+1) (.int .i64 r.2.1)) t (0,0) h1
 rw[←e2]at h2
 have e3:=setCell_eq_setRow _ g (n*3+2) _ t (0,0) (.int .i64 r.2.2) h2
 have h3:=setRow_heap _ g _ (((cur.setIfInBounds (n*3) (.string r.1)).setIfInBounds (n*3+1) (.int .i64 r.2.1)).setIfInBounds (n*3+2) (.int .i64 r.2.2)) t (0,0) h2
 rw[←e3]at h3
 exact h3
theorem clearR_any {w:World} {g i m c:Nat} {cur:Array Value} (h:w.heap[g]? =some (.cells cur 54 (0,0))) (hm:0<m) (hs:(i+m)*3≤cur.size) :
   ∃cur',(∀ty,(Builtin.clear_ #[33] ty #[.slice (some ⟨g,i*3,none⟩) m c]).run Tryz.prog w= .ok (.tuple #[]) (w.setRow g cur'))∧∀t r,t<i→At3 cur t r→At3 cur' t r:=by
 obtain⟨k,rfl⟩:∃k,m=k+1:=⟨m-1,by omega⟩
 have hz:(Builtin.zeroCells (Value.agg #[.string ⟨#[]⟩,.int .i64 0,.int .i64 0]).cells (k+1)).size=(k+1)*3:=by rw[size_zeroCells];rfl
 have h1:∀v∈(Builtin.zeroCells (Value.agg #[.string ⟨#[]⟩,.int .i64 0,.int .i64 0]).cells (k+1)).toList,v.oneCell'=true:=by
   intro v hv
   simp only[Builtin.zeroCells,Array.toList_map,List.mem_map]at hv
   obtain⟨j,_,rfl⟩:=hv
   have hj:j % (Value.agg #[.string ⟨#[]⟩,.int .i64 0,.int .i64 0]).cells.size=0∨j % (Value.agg #[.string ⟨#[]⟩,.int .i64 0,.int .i64 0]).cells.size=1∨j % (Value.agg #[.string ⟨#[]⟩,.int .i64 0,.int .i64 0]).cells.size=2:=by
     have e:(Value.agg #[.string ⟨#[]⟩,.int .i64 0,.int .i64 0]).cells.size=3:=rfl
     rw[e]
     omega
   rcases hj with hj | hj | hj<;>rw [hj]<;>rfl
 have hst:=run_storeCells_at (P:=Tryz.prog) g (i*3) 54 (Builtin.zeroCells (Value.agg #[.string ⟨#[]⟩,.int .i64 0,.int .i64 0]).cells (k+1)).toList 0 cur w h (by rw[Array.length_toList,hz];omega) h1
 simp only[Nat.add_zero]at hst
 refine⟨(cur.toList.take (i*3)++(Builtin.zeroCells (Value.agg #[.string ⟨#[]⟩,.int .i64 0,.int .i64 0]).cells (k+1)).toList++cur.toList.drop (i*3+(Builtin.zeroCells (Value.agg #[.string ⟨#[]⟩,.int .i64 0,.int .i64 0]).cells (k+1)).toList.length)).toArray,fun ty=>?_,fun t r ht hr=>?_⟩
 · generalize hZ:Builtin.zeroCells (Value.agg #[.string ⟨#[]⟩,.int .i64 0,.int .i64 0]).cells (k+1)=Z at hst ⊢
   simp[Builtin.clear_,run_underlying Tryz.underlying33,hZ,hst]
 · generalize (Builtin.zeroCells (Value.agg #[.string ⟨#[]⟩,.int .i64 0,.int .i64 0]).cells (k+1)).toList=Z
   have key:∀o,o<i*3→((cur.toList.take (i*3)++Z++cur.toList.drop (i*3+Z.length)).toArray)[o]? =cur[o]? :=fun o ho=>by
     have hl:o<(cur.toList.take (i*3)).length:=by
       rw[List.length_take,Array.length_toList]
       omega
     rw[List.getElem?_toArray,List.append_assoc,List.getElem?_append_left hl,List.getElem?_take,if_pos ho,Array.getElem?_toList]
   unfold At3 at *
   rw[key _ (by omega),key _ (by omega),key _ (by omega)]
   exact hr
def DelP (g cap:Nat) (ys:List Rw) (w:World) (e:Ending) (w':World):Prop:=e= .returned (.slice (some ⟨g,0,none⟩) ys.length cap)∧RowCells w' g 0 ys∧But (fun k=>k=g) w w'
theorem rowCells_at {w:World} {g:Nat} {cur:Array Value} {t:TypeId} {f:Nat×Nat} {ys:List Rw} (h:w.heap[g]? =some (.cells cur t f)) (hy:∀j (h:j<ys.length),At3 cur j ys[j]):RowCells w g 0 ys:=fun j hj=>by
 obtain⟨h1,h2,h3⟩:=hy j hj
 rw[Nat.zero_add]
 exact⟨cell_cur h h1,cell_cur h h2,cell_cur h h3⟩
theorem but_row {w:World} (g:Nat) (cs:Array Value):But (fun k=>k=g) w (w.setRow g cs):=⟨rfl,rfl,rfl,by simp,fun k _ hk=>setRow_other w g k cs hk⟩
set_option maxRecDepth 100000 in
set_option maxHeartbeats 4000000 in
theorem deleteR_any (g cap:Nat) (xs:List Rw) (fn:Nat) (cb:Array Value) (p:Rw→Bool) (cur0:Array Value) (w:World) (eg:∀args w,(callFunc fn args).run Tryz.prog w= .ok (.enter fn args) w) (hg:w.heap[g]? =some (.cells cur0 54 (0,0))) (hx:∀t (h:t<xs.length),At3 cur0 t xs[t]) (hsz:xs.length*3≤cur0.size) (hcap:xs.length≤cap) (hl:xs.length≤20000) (hp:TellsB fn cb xs p (fun k=>k=g) w) :
   Calls Tryz.prog 100 #[.slice (some ⟨g,0,none⟩) xs.length cap,.func (.func fn) #[] cb] w (DelP g cap (xs.filter fun x=> !p x) w):=by
 have hix:=indexR_any (.slice (some ⟨g,0,none⟩) xs.length cap) xs fn cb p w eg (Or.inr ⟨g,0,cap,rfl,rowCells_at hg hx⟩) hl (fun x W hx hb=>hp x W hx (But.of_below hb))
 have HP:Hid (TellsB fn cb xs p (fun k=>k=g) w):=hp
 have HG:Hid (w.heap[g]? =some (.cells cur0 54 (0,0))):=hg
 have hgl:=(Array.getElem?_eq_some_iff.1 hg).1
 have HXS:Hid (∀t (h:t<xs.length),At3 cur0 t xs[t]):=hx
 obtain⟨L,hL⟩:∃L,xs.length=L:=⟨_,rfl⟩
 have HL:Hid (xs.length=L):=hL
 rw[hL]at hix hsz hcap hl ⊢
 clear hp hg hx hL
 rcases idxR_cases p xs with⟨hi,hno⟩|⟨m,hm,hi,hpm,hbe⟩
 · have HF:Hid (xs.filter (fun x=> !p x)=xs):=by
     show _=_
     rw[List.filter_eq_self]
     intro x hx
     obtain⟨j,hj,rfl⟩:=List.getElem_of_mem hx
     rw[hno j hj];rfl
   rw[hi]at hix
   clear hno hi
   go_enter Tryz.func100,Tryz.ntmps100
   go_wp2_with fail
   refine hix.mono ?_
   rintro e w1 ⟨rfl,hb1⟩
   clear hix
   go_wp2
   go_ret
   unfold DelP
   rw[HF.out]
   refine⟨by rw[HL.out];rfl,rowCells_at ((hb1.block g hgl).trans HG.out) HXS.out,But.of_below hb1⟩
 · rw [hi]at hix
   have hmL:m<L:=by rw[←HL.out];exact hm
   have HM:Hid (∃hm:m<xs.length,p xs[m]=true):=⟨hm,hpm⟩
   have HI0:Hid (DelI xs p (m+1) cur0∧((xs.take (m+1)).filter fun x=> !p x).length=m):=by
     have e0:(xs.take m).filter (fun x=> !p x)=xs.take m:=by
       rw[List.filter_eq_self]
       intro x hx
       rw[List.mem_take_iff_getElem]at hx
       obtain⟨j,hj,rfl⟩:=hx
       rw[hbe j (by omega) (by omega)];rfl
     have h0:DelI xs p m cur0:=⟨by
       rw[e0]
       intro t ht
       rw[List.getElem_take]
       exact HXS.out t (by rw[List.length_take]at ht;omega),fun t ht _=>HXS.out t ht⟩
     obtain⟨e1,h1⟩:=h0.skip hm hpm
     refine⟨h1,?_⟩
     rw[e1,e0,List.length_take]
     omega
   clear hi hpm hbe hm HXS
   have hne:((m:Int) == -1)=false:=by simp
   go_enter Tryz.func100,Tryz.ntmps100
   go_wp2_with fail
   refine hix.mono ?_
   rintro e w1 ⟨rfl,hb1⟩
   clear hix
   have HG1:Hid (w1.heap[g]? =some (.cells cur0 54 (0,0))):=(hb1.block g hgl).trans HG.out
   have HB1:Hid (But (fun k=>k=g) w w1):=But.of_below hb1
   clear hb1 HG
   go_wp2
   go_loopw [5,6] (fun i j wr=> ∃n:Nat,m<n∧n≤L∧j= .int .i64 n∧i= .int .i64 ((xs.take n).filter fun x=> !p x).length∧∃cur,wr.heap[g]? =some (.cells cur 54 (0,0))∧cur.size=cur0.size∧DelI xs p n cur∧But (fun k=>k=g) w wr) (fun _ j _=>L-(intOf j).toNat)
   case atStart=>exact ⟨m+1,by omega,by omega,by go_num,by rw[HI0.out.2],cur0,HG1.out,rfl,HI0.out.1,HB1.out⟩
   case round =>
     obtain⟨n,hmn,hn,rfl,rfl,cur,hgr,hcs,hI,hBr⟩:=hrel
     have hkl:((xs.take n).filter fun x=> !p x).length<n:=by
       obtain⟨hm',hpm'⟩:=HM.out
       exact keep_lt hmn hm' hpm'
     have HI:Hid (DelI xs p n cur):=hI
     by_cases hlt:n<L
     · have hltx:n<xs.length:=by rw[HL.out];exact hlt
       obtain⟨a1,a2,a3⟩:=hI.rest n hltx (Nat.le_refl _)
       have c1:=cell_cur hgr a1
       have c2:=cell_cur hgr a2
       have c3:=cell_cur hgr a3
       have hi:(n:Int)<(L:Int):=by omega
       have hi0':(0:Int)≤(n:Int):=by omega
       have hgl':=(Array.getElem?_eq_some_iff.1 hgr).1
       clear hI a1 a2 a3
       cases hpn:p xs[n]
       case true =>
         have HS:=HI.out.skip hltx hpn
         have hcl:=HP.out xs[n] (wr.alloc (.cells #[.string xs[n].1,.int .i64 xs[n].2.1,.int .i64 xs[n].2.2] 54)) (List.getElem_mem _) (hBr.trans (Q:=fun _=>False) (But.of_below ((Below.refl _ _).alloc (Nat.le_refl _) _)) (fun _ h=>h.elim))
         rw[hpn]at hcl
         have HSS:Hid (((xs.take (n+1)).filter fun x=> !p x).length=((xs.take n).filter fun x=> !p x).length∧DelI xs p (n+1) cur):=⟨by rw[HS.1],HS.2⟩
         clear HS hpn
         generalize ((xs.take n).filter fun x=> !p x).length=kl at *
         generalize xs[n]=f at c1 c2 c3 hcl
         clear hltx
         obtain⟨fp,fk,fv⟩:=f
         dsimp only at c1 c2 c3 hcl
         have hal:Below wr.heap.size wr (wr.alloc (.cells #[.string fp,.int .i64 fk,.int .i64 fv] 54)):=(Below.refl _ _).alloc (Nat.le_refl _) _
         have d1:(wr.alloc (.cells #[.string fp,.int .i64 fk,.int .i64 fv] 54)).cell? ⟨wr.heap.size,0,none⟩=some (.string fp):=by simp
         have d2:(wr.alloc (.cells #[.string fp,.int .i64 fk,.int .i64 fv] 54)).cell? ⟨wr.heap.size,1,none⟩=some (.int .i64 fk):=by simp
         have d3:(wr.alloc (.cells #[.string fp,.int .i64 fk,.int .i64 fv] 54)).cell? ⟨wr.heap.size,2,none⟩=some (.int .i64 fv):=by simp
         go_wp2_with (go_at_fn fn;refine hcl.mono ?_;rintro e w2 ⟨rfl,hb2⟩)
         have hb3:Below wr.heap.size wr w2:=hal.trans (hb2.mono hal.size)
         go_roundw
         case rel=>exact ⟨n+1,by omega,by omega,by go_num,by rw[HSS.out.1],cur,(hb3.block g hgl').trans hgr,hcs,HSS.out.2,hBr.trans (Q:=fun _=>False) (But.of_below hb3) (fun _ h=>h.elim)⟩
         case measure=>simp [intOf];omega
       case false =>
         have HS:=HI.out.step hltx hpn (by rw[HL.out,hcs];exact hsz) hkl
         have hcl:=HP.out xs[n] (wr.alloc (.cells #[.string xs[n].1,.int .i64 xs[n].2.1,.int .i64 xs[n].2.2] 54)) (List.getElem_mem _) (hBr.trans (Q:=fun _=>False) (But.of_below ((Below.refl _ _).alloc (Nat.le_refl _) _)) (fun _ h=>h.elim))
         rw[hpn]at hcl
         have HSS:Hid (((xs.take (n+1)).filter fun x=> !p x).length=((xs.take n).filter fun x=> !p x).length+1∧DelI xs p (n+1) (put3 cur ((xs.take n).filter fun x=> !p x).length xs[n])):=HS
         clear HS hpn HI
         generalize ((xs.take n).filter fun x=> !p x).length=kl at *
         generalize xs[n]=f at c1 c2 c3 hcl HSS
         clear hltx
         obtain⟨fp,fk,fv⟩:=f
         dsimp only at c1 c2 c3 hcl
         have hal:Below wr.heap.size wr (wr.alloc (.cells #[.string fp,.int .i64 fk,.int .i64 fv] 54)):=(Below.refl _ _).alloc (Nat.le_refl _) _
         have d1:(wr.alloc (.cells #[.string fp,.int .i64 fk,.int .i64 fv] 54)).cell? ⟨wr.heap.size,0,none⟩=some (.string fp):=by simp
         have d2:(wr.alloc (.cells #[.string fp,.int .i64 fk,.int .i64 fv] 54)).cell? ⟨wr.heap.size,1,none⟩=some (.int .i64 fk):=by simp
         have d3:(wr.alloc (.cells #[.string fp,.int .i64 fk,.int .i64 fv] 54)).cell? ⟨wr.heap.size,2,none⟩=some (.int .i64 fv):=by simp
         have hkL:(kl:Int)<(L:Int):=by omega
         have hk0:(0:Int)≤(kl:Int):=by omega
         go_wp2_with (go_at_fn fn;refine hcl.mono ?_;rintro e w2 ⟨rfl,hb2⟩;have hb3:Below wr.heap.size wr w2:=hal.trans (hb2.mono hal.size);have hg2:=(hb3.block g hgl').trans hgr;have f1:=below_keep hb2 d1;have f2:=below_keep hb2 d2;have f3:=below_keep hb2 d3;have o1:=cell_cur hg2 (Array.getElem?_eq_getElem (by omega:kl*3<cur.size));have o2:=cell_cur hg2 (Array.getElem?_eq_getElem (by omega:kl*3+1<cur.size));have o3:=cell_cur hg2 (Array.getElem?_eq_getElem (by omega:kl*3+2<cur.size));have z1:=frozen_cur (o:=kl*3) hg2;have z2:=frozen_cur (o:=kl*3+1) hg2;have z3:=frozen_cur (o:=kl*3+2) hg2)
         have hw:=put3_world (n:=kl) (fp,fk,fv) hg2
         dsimp only at hw
         go_roundw
         case rel=>exact ⟨n+1,by omega,by omega,by go_num,by rw[HSS.out.1];go_num,_,hw,by rw[put3_size];exact hcs,HSS.out.2,(((hBr.trans (Q:=fun _=>False) (But.of_below hb3) (fun _ h=>h.elim)).setCell (Or.inl rfl) _).setCell (Or.inl rfl) _).setCell (Or.inl rfl) _⟩
         case measure=>simp [intOf];omega
     · obtain rfl:n=L:=by omega
       have ht:xs.take n=xs:=List.take_of_length_le (by rw[HL.out];omega)
       have hkc:∀t (h:t<(xs.filter fun x=> !p x).length),At3 cur t (xs.filter fun x=> !p x)[t]:=by
         have:=hI.kept
         rw[ht]at this
         exact this
       rw[ht]at hkl ⊢
       obtain⟨cur2,hcl,hke⟩:=clearR_any (i:=(xs.filter fun x=> !p x).length) (m:=n-(xs.filter fun x=> !p x).length) (c:=cap-(xs.filter fun x=> !p x).length) hgr (by omega) (by rw[hcs];omega)
       have HE:Hid (RowCells (wr.setRow g cur2) g 0 (xs.filter fun x=> !p x)):=rowCells_at (setRow_heap wr g cur cur2 _ _ hgr) fun j hj=>hke j _ hj (hkc j hj)
       have HB:Hid (But (fun k=>k=g) w (wr.setRow g cur2)):=hBr.trans (but_row g cur2) fun _ e _=>e
       clear hI HI hkc hke ht
       generalize hyy:xs.filter (fun x=> !p x)=ys at *
       have HYY:Hid (xs.filter (fun x=> !p x)=ys):=hyy
       clear hyy
       generalize hyl:ys.length=kl at *
       have HYL:Hid (ys.length=kl):=hyl
       clear hyl
       have hkn:¬cap=kl:=by omega
       have hk2:(kl:Int)≤(n:Int):=by omega
       have hk3:(kl:Int)≤(cap:Int):=by omega
       go_wp2
       go_ret
       exact⟨by rw[HYY.out,HYL.out];rfl,by rw[HYY.out];exact HE.out,HB.out⟩
end Go.Proofs.YtdhkdjlgmbejnaaGreatDoor
namespace Go.Proofs.YtdhkdjlgmbejnaaGreatDoor
open Go.RowKit Go.Maps Go.Sort Go.Shelf
abbrev OneOf (l:List Ob):= { o:Ob // o∈l }
structure Came (l:List Ob) (left:Lit→Bool) (ps:List (OneOf l)):Prop where
 once:ps.Nodup
 left:∀o:OneOf l,left (keyL o.1.1)=true↔o∉ps
theorem rise_name {l:List Ob} (hr:RiseO l) {o p:Ob} (ho:o∈l) (hp:p∈l) (h:o.1=p.1):o=p:=by
 have h1:=getO_mem hr ho
 rw[h,getO_mem hr hp]at h1
 exact(Option.some.inj h1).symm
theorem rise_nodup {l:List Ob} (hr:RiseO l):l.Nodup:=hr.imp fun h e=>by subst e;exact lt_irr_l _ h
theorem Came.start {l:List Ob} (q:ByteArray→Nat) (hr:RiseO l):Came l (Maps.has (mapQ q l)) [] :=
 ⟨List.nodup_nil,fun o=>by rw[mapQ_has,getO_mem hr o.2];simp⟩
theorem Came.step {l:List Ob} {left:Lit→Bool} {ps:List (OneOf l)} (h:Came l left ps) (hr:RiseO l) (o:OneOf l) (hl:left (keyL o.1.1)=true):Came l (fun z=>left z && !z.sameKey (keyL o.1.1)) (ps++ [o]):=by
 have hn:=(h.left o).1 hl
 refine⟨?_,fun p=>?_⟩
 · rw[List.nodup_append]
   refine⟨h.once,by simp,fun a ha b hb=>?_⟩
   simp only[List.mem_singleton]at hb
   subst hb
   exact fun e=>hn (e▸ha)
 · rw[keyL_same]
   by_cases e:p=o
   · subst e;simp
   · have:p.1.1≠o.1.1:=fun e'=>e (Subtype.ext (rise_name hr p.2 o.2 e'))
     simp[this,h.left p,e]
theorem Came.done {l:List Ob} {left:Lit→Bool} {ps:List (OneOf l)} (h:Came l left ps) (hr:RiseO l) (hl:∀z,left z=false):(ps.map (·.1)).Perm l:=by
 rw[List.perm_ext_iff_of_nodup]
 · intro o
   constructor
   · intro ho
     obtain⟨p,_,rfl⟩:=List.mem_map.1 ho
     exact p.2
   · intro ho
     refine List.mem_map.2 ⟨⟨o,ho⟩,?_,rfl⟩
     have:=h.left ⟨o,ho⟩
     rw[hl]at this
     simpa using this
 · show List.Pairwise _ _
   rw[List.pairwise_map]
   exact h.once.imp fun h e=>h (Subtype.ext e)
 · exact rise_nodup hr
theorem came_one {l:List Ob} {q:ByteArray→Nat} {x:List UInt8} {c:Option Addr} {y:DataW Unit×List MemPlace} (hv:ptrR (.pointer c)=some y) (hat:∀zd,(mapQ q l).atKey (.string x) zd=y.1) :
   ∃o:OneOf l,x=o.1.1.data.toList∧encStr x= .string o.1.1∧c=some ⟨q o.1.1,0,none⟩:=by
 have hx:Lit.string x=keyL (bytesOf x):=by simp[keyL,bytesOf]
 rw[hx]at hat
 have h1:=hat (ptrD (-7))
 have h2:=hat (ptrD (-8))
 rw[mapQ_at]at h1 h2
 cases hg:getO l (bytesOf x) with
 | none =>
   rw[hg]at h1 h2
   simp at h1 h2
   have:=ptrD_inj (h1.trans h2.symm)
   omega
 | some o =>
   obtain⟨ho,hn⟩:=getO_some hg
   rw[hg]at h1
   simp at h1
   refine⟨⟨o,ho⟩,?_,?_,?_⟩
   · simp[hn,bytesOf]
   · simp[hn,bytesOf,encStr]
   · rcases ptrR_inv hv with⟨k,e,hz⟩|⟨e,hz⟩
     · rw[hz]at h1
       have:=ptrD_inj h1
       have hk:q (bytesOf x)=k:=by omega
       simp only[Value.pointer.injEq]at e
       rw[e]
       simp[hn,hk]
     · rw[hz]at h1
       have:=ptrD_inj h1
       omega
structure KpM (n₀:Nat) (W W':World):Prop where
 size:W.heap.size≤W'.heap.size
 old:∀k:Nat,k<n₀→W'.heap[k]? =W.heap[k]?
 iter:∀(k:Nat) p s e c,W.heap[k]? =some (Obj.mapIter p s e c)→W'.heap[k]? =some (Obj.mapIter p s e c)
theorem KpM.trans {n₀:Nat} {X Y Z:World} (h:KpM n₀ X Y) (k:KpM n₀ Y Z):KpM n₀ X Z:=⟨Nat.le_trans h.size k.size,fun i hi=>(k.old i hi).trans (h.old i hi),fun i p s e c hi=>k.iter i p s e c (h.iter i p s e c hi)⟩
theorem KpM.put {n₀:Nat} (W:World) (l:Nat) (o o':Obj) (hl:n₀≤l) (h:W.heap[l]? =some o) (hw:o.isWalk=false):KpM n₀ W (W.putObj l o') :=
 ⟨by simp,fun k hk=>World.putObj_heap_other (by omega),fun k p s e c hk=>(World.putObj_heap_other (fun e'=>by subst e';rw[h]at hk;cases hk;cases hw)).trans hk⟩
theorem ranges_of_kpM {k:TypeId} {R:Value→Option (DataW Unit×List MemPlace)} {w w':World} {b r n n₀:Nat} {D:DataW Unit} {left:Lit→Bool} {cnt:Nat}
   (h:w.ranges Tryz.prog k R b r n D left cnt) (hk:KpM n₀ w w') (hb:b<n₀):w'.ranges Tryz.prog k R b r n D left cnt:=by
 obtain⟨es,clock,since,seen,c0,hb',F,hs,hD,hr,rest⟩:=h
 exact⟨es,clock,since,seen,c0,(hk.old b hb).trans hb',F,hs,hD,hk.iter r _ _ _ _ hr,rest⟩
abbrev encV {l:List Ob} (q:ByteArray→Nat) (o:OneOf l):Array Value:=#[.pointer (some ⟨q o.1.1,0,none⟩)]
set_option maxRecDepth 100000 in
set_option maxHeartbeats 1000000 in
theorem values1_any (n:Nat) (hn:1≤n) (r Bm b:Nat) (q:ByteArray→Nat) (l:List Ob) (hr:RiseO l) (J Jx:List (OneOf l)→World→Prop)
   (hY:∀pre x W,J pre W→pre.length<l.length→YieldAt Fence.wide (n-1) Tryz.prog r (encV q x) W fun e W' =>
     (e= .returned (.bool true)∧J (pre++ [x]) W'∧KeepsWalks W W')∨(e= .returned (.bool false)∧Jx (pre++ [x]) W'))
   (W:World) (hJ:AbidesFrom W.heap.size J) (hm:W.cell? ⟨Bm,0,none⟩=some (.map (some b))) (hown:PtrMap W b q l) (h0:J [] W) :
   CallsIn Fence.wide n Tryz.prog 217 #[.func (.yield r) #[] #[],.pointer (some ⟨Bm,0,none⟩)] W fun e W'=>(∃v,e= .returned v) ∧
     ((∃ps,(ps.map (·.1)).Perm l∧J ps W')∨(∃pre,True∧Jx pre W')):=by
 have hro:Fence.wide.round=none:=rfl
 have hN:=mapQ_size q l
 refine callsIn_of_wp Tryz.func217 rfl trivial ?_ hro
 simp only[Tryz.ntmps217,List.size_toArray,List.length_cons,List.length_nil,Nat.reduceAdd,Nat.reduceSub,Array.replicate_succ,Array.replicate_zero,List.push_toArray,List.append_toArray,List.nil_append,List.cons_append]
 gi_wp2_with (first
   | (gi_at_range;refine wpListIn_range_own _ rfl _ 123 rfl 9 140 Tryz.keyedS Tryz.underlying123 ptrR b l.length _ rfl hown ?_;intro w0 hrg0 hg0 hs0)
   | gi_in)
 go_frame
 gi_loopw [4] (fun _ wr=> ∃(left:Lit→Bool) (cnt:Nat) (ps:List (OneOf l)),wr.ranges Tryz.prog 9 ptrR b W.heap.size l.length (mapQ q l) left cnt∧ps.length+cnt≤l.length∧Came l left ps∧J ps wr)
   (fun _ wr=>wr.rangeLeft b W.heap.size)
 case atStart =>
   exact⟨_,_, [],hrg0,by simp[hN],Came.start q hr,hJ [] W w0 none h0 hg0 (fun r e=>by cases e)⟩
 case round =>
   obtain⟨left,cnt,ps,hrg,hcs,hC,hJs⟩:=hrel
   gi_wp2_with (first
     | (gi_at_next;refine wpListIn_next_ranges _ rfl _ rfl 9 Tryz.keyedS ptrR encStr (fun c:Option Addr=>Value.pointer c) (fun key kl hk=>by obtain⟨x,hx,_⟩:=Maps.keyOf_str Tryz.underlying9 hk;exact⟨x,hx⟩) (fun v y hv=>by rcases ptrR_inv hv with⟨k,rfl,_⟩|⟨rfl,_⟩<;>exact ⟨_,rfl⟩) b W.heap.size l.length _ _ _ rfl hrg ?_ ?_)
     | gi_in)
   · intro hc0 hl0
     gi_wp2
     go_end0
     exact⟨⟨_,rfl⟩,.inl ⟨ps,hC.done hr hl0,hJs⟩⟩
   · intro x c kl yd yp w2 cnt2 hkey hlk hv hat hrg2 hlt hg2 hs2 hen
     obtain⟨x',ex,rfl,_⟩:=Maps.keyOf_str Tryz.underlying9 hkey
     obtain rfl:x=x':=encStr_inj ex
     obtain⟨o,ex2,exs,rfl⟩:=came_one hv hat
     rw[exs]at hen
     rw[exs]
     have ekl:Lit.string x=keyL o.1.1:=by rw[ex2];rfl
     rw[ekl]at hlk hrg2
     have hJ2:J ps w2:=hJ ps wr w2 (some W.heap.size) hJs hg2 (fun r e=>by cases e;exact⟨Nat.le_refl _,hrg.iter_walk⟩)
     obtain⟨fn,tmps,assign,body,hy,hR⟩:=hY ps o w2 hJ2 (by omega)
     dsimp only[encV]at hy
     have hC2:=hC.step hr o hlk
     clear hs2 ex ex2 exs ekl hkey hv hat
     obtain⟨⟨on,ot,od⟩,ho⟩:=o
     dsimp only at hen hy hrg2 hC2 hR hlk ⊢
     gi_wp2
     refine hR.mono ?_
     rintro e W3 (⟨rfl,hJ3,hk3⟩|⟨rfl,hJx3⟩)
     · gi_wp2
       have hrg3:=hrg2.of_walks hk3
       go_roundw
       case rel=>exact ⟨_,cnt2,_,hrg3,by simp;omega,hC2,hJ3⟩
       case measure=>rw [hrg3.left_eq,hrg.left_eq];exact hlt
     · gi_wp2
       refine bodyPost_ret (results_none rfl _ _ _) rfl ?_
       exact⟨⟨_,rfl⟩,.inr ⟨_,trivial,hJx3⟩⟩
theorem values_stops (n:Nat) (hn:1≤n) (Bm b:Nat) (q:ByteArray→Nat) (l:List Ob) (hr:RiseO l) (w:World) (hm:w.cell? ⟨Bm,0,none⟩=some (.map (some b))) (hown:PtrMap w b q l) :
   SeqStopsK Fence.wide n Tryz.prog 217 #[.pointer (some ⟨Bm,0,none⟩)] (encV q) KeepsWalks (fun ps:List (OneOf l)=>(ps.map (·.1)).Perm l) (fun _=>True) l.length w:=fun r J Jx W hW hJ _ hY h0 =>
 values1_any n hn r Bm b q l hr J Jx hY W hJ ((hW.cell (p:=⟨Bm,0,none⟩) (cell_lt hm)).trans hm) (hown.keep (hW.block b hown.lt)) h0
set_option maxRecDepth 100000 in
set_option maxHeartbeats 1000000 in
theorem values_nil (n:Nat) (Bm:Nat) (q:ByteArray→Nat) (w:World) (hm:w.cell? ⟨Bm,0,none⟩=some (.map none)) :
   SeqStopsK Fence.wide n Tryz.prog 217 #[.pointer (some ⟨Bm,0,none⟩)] (encV q) KeepsWalks (fun ps:List (OneOf [])=>(ps.map (·.1)).Perm []) (fun _=>True) 0 w:=fun r J Jx W hW hJ _ hY h0=>by
 have hm':W.cell? ⟨Bm,0,none⟩=some (.map none):=(hW.cell (p:=⟨Bm,0,none⟩) (cell_lt hm)).trans hm
 have hro:Fence.wide.round=none:=rfl
 show CallsIn _ _ _ _ #[.func (.yield r) #[] #[],.pointer (some ⟨Bm,0,none⟩)] _ _
 refine callsIn_of_wp Tryz.func217 rfl trivial ?_ hro
 simp only[Tryz.ntmps217,List.size_toArray,List.length_cons,List.length_nil,Nat.reduceAdd,Nat.reduceSub,Array.replicate_succ,Array.replicate_zero,List.push_toArray,List.append_toArray,List.nil_append,List.cons_append]
 have hrg:=run_range_nilMap (P:=Tryz.prog) W 123 9 140 Tryz.underlying123
 have hnx:∀ty,(Instr.next (.pointer (some ⟨W.heap.size,0,none⟩)) false ty).run Tryz.prog (W.alloc (.mapIter none 0 #[] 0))=_:=fun ty=>run_next_nilMap _ ty 0 0 #[]
 clear hm hW
 gi_wp2
 refine wpIn_loop_rounds 1 ?_
 rw[roundsIn_succ]
 gi_wp2
 go_end0
 exact⟨⟨_,rfl⟩,.inl ⟨[],List.Perm.nil,hJ [] W _ none h0 (World.grownBy_alloc W _ none) (fun r e=>by cases e)⟩⟩
theorem values_seq (n:Nat) (hn:1≤n) (Bm:Nat) (mo:Option Nat) (q:ByteArray→Nat) (l:List Ob) (hr:RiseO l) (w:World) (hm:w.cell? ⟨Bm,0,none⟩=some (.map mo)) (hown:MapAt w mo q l) :
   SeqStopsK Fence.wide n Tryz.prog 217 #[.pointer (some ⟨Bm,0,none⟩)] (encV q) KeepsWalks (fun ps:List (OneOf l)=>(ps.map (·.1)).Perm l) (fun _=>True) l.length w:=by
 rcases hown with⟨rfl,rfl⟩|⟨b,rfl,hown⟩
 · exact values_nil n Bm q w hm
 · exact values_stops n hn Bm b q l hr w hm hown
set_option maxHeartbeats 1000000 in
theorem values_any (n:Nat) (mo:Option Nat) (w:World):CallsIn Fence.wide n Tryz.prog 181 #[.map mo] w fun e w'=>e= .returned (.func (.func 217) #[] #[.pointer (some ⟨w.heap.size,0,none⟩)])∧w'=w.alloc (.cells #[.map mo] 123):=by
 refine callsIn_of_wp Tryz.func181 rfl trivial ?_ rfl
 simp only[Tryz.ntmps181,List.size_toArray,List.length_cons,List.length_nil,Nat.reduceAdd,Nat.reduceSub,Array.replicate_succ,Array.replicate_zero,List.push_toArray,List.append_toArray,List.nil_append,List.cons_append]
 gi_wp2
 go_ret
 exact⟨rfl,rfl⟩
end Go.Proofs.YtdhkdjlgmbejnaaGreatDoor
