/- By an AI agent. -/
import Derived.Test.YtgckdomafbnmkaaGreatDoorSnapLaw
import Derived.Lib.SliceRun
namespace Go.Proofs.YtgckdomafbnmkaaGreatDoor
open Go.RowKit Go.Extern.Stop Go.Stop Go.Extern Go.Sort Go.Shelf Go.Lib
set_option maxRecDepth 100000 in
set_option maxHeartbeats 1000000 in
theorem cloneF_any (v:Value) (fs:List Fl) (w:World) (hx:FlsAt w v fs) (hl:fs.length≤20000) :
   Calls Tryz.prog 55 #[v] w fun e w'=> ∃v',e= .returned v'∧w'.ownsRow w.heap.size 43 6 v' fs.length (flatF fs)∧Below w.heap.size w w':=by
 obtain⟨i0,hi,hz,hs,hby⟩:=Tryz.fileInfo
 have q22:∀(w:World) (a:Option Addr) (n c n' c':Nat),(binOp .eql 23 (.slice a n c) (.slice none n' c')).run Tryz.prog w= .ok (.bool a.isNone) w:=fun w a n c n' c'=>Lib.run_eql_slice_nil w _ _ a n c n' c' Tryz.underlying23
 obtain⟨q,cap,rfl⟩:=hx.form
 have hsrc:=src_fls hx
 have hone:=flatF_one fs
 have hfl:=flatF_len fs
 have hal:Below w.heap.size w (w.alloc (.cells #[] 43)):=(Below.refl _ _).alloc (Nat.le_refl _) _
 have hsrc2:=hsrc.below hal
 cases q with
 | none =>
   have h0:fs= []:=by
     rcases hx with⟨_,_,_,_,h0⟩|⟨b,o,cap,e,_⟩
     · exact h0
     · injection e with e1;cases e1
   subst h0
   clear hx hsrc hsrc2 hone hfl
   go_enter Tryz.func55,Tryz.ntmps55
   go_wp2
   go_ret
   exact⟨_,rfl,World.ownsRow_nil _ _ _ _,Below.refl _ _⟩
 | some ad =>
   generalize hX:flatF fs=X at hsrc2 hone hfl ⊢
   generalize fs.length=L at hl hsrc2 hfl ⊢
   clear hx hsrc hX
   go_enter Tryz.func55,Tryz.ntmps55
   go_wp2_with (at_builtin;refine wpList_append_src rfl _ _ 23 rfl w.heap.size 43 i0 (.agg #[.string ⟨#[]⟩,.string ⟨#[]⟩,.int .i64 0,.int .i64 0,.int .i64 0,.int .i64 0]) 6 64 Tryz.underlying23 hi hz hs hby rfl (by decide) _ 0 [] rfl (World.ownsRow_made w #[] 0 (Nat.le_refl _) (Nat.zero_le _) (by simp)) (some ad) L cap X rfl ?qa1 ?qa2 ?qa3 ?qa4 ?qa5 ?qa6 ?_)
   case qa1=>exact hfl
   case qa2=>exact hsrc2
   case qa3=>exact hone
   case qa4=>unfold maxLen;omega
   case qa5=>omega
   case qa6=>exact hal.size
   intro v1 y1 ho1 hg1 _
   have hb1:Below w.heap.size w y1:=hal.grown hg1 hal.size (fun k hk=>by simp[Value.ownBlock]at hk;omega)
   have HO:Hid (y1.ownsRow w.heap.size 43 6 v1 L X):=by
     show y1.ownsRow _ _ _ _ _ _
     simpa using ho1
   clear ho1 hg1
   go_wp2
   go_ret
   exact⟨_,rfl,HO.out,hb1⟩
def put6 (W:World) (g x:Nat) (f:Fl):World:=(((((W.setCell ⟨g,x,none⟩ (.string f.1)).setCell ⟨g,x+1,none⟩ (.string f.2.1)).setCell ⟨g,x+2,none⟩ (.int .i64 f.2.2.1)).setCell ⟨g,x+3,none⟩ (.int .i64 f.2.2.2.1)).setCell ⟨g,x+4,none⟩ (.int .i64 f.2.2.2.2.1)).setCell ⟨g,x+5,none⟩ (.int .i64 f.2.2.2.2.2)
def set6 (cur:Array Value) (x:Nat) (f:Fl):Array Value:=(((((cur.setIfInBounds x (.string f.1)).setIfInBounds (x+1) (.string f.2.1)).setIfInBounds (x+2) (.int .i64 f.2.2.1)).setIfInBounds (x+3) (.int .i64 f.2.2.2.1)).setIfInBounds (x+4) (.int .i64 f.2.2.2.2.1)).setIfInBounds (x+5) (.int .i64 f.2.2.2.2.2)
theorem put6_heap {W:World} {g x:Nat} {f:Fl} {cur:Array Value} {T:TypeId} (h:W.heap[g]? =some (.cells cur T (0,0))):(put6 W g x f).heap[g]? =some (.cells (set6 cur x f) T (0,0)) :=
 heap_setCell_same _ _ _ _ _ _ (heap_setCell_same _ _ _ _ _ _ (heap_setCell_same _ _ _ _ _ _ (heap_setCell_same _ _ _ _ _ _ (heap_setCell_same _ _ _ _ _ _ (heap_setCell_same _ _ _ _ _ _ h)))))
theorem put6_below {W0 W:World} {B g x:Nat} {f:Fl} (h:Below B W0 W) (hg:B≤g):Below B W0 (put6 W g x f):=(((((h.setCell hg _).setCell hg _).setCell hg _).setCell hg _).setCell hg _).setCell hg _
theorem set6_size (cur:Array Value) (x:Nat) (f:Fl):(set6 cur x f).size=cur.size:=by simp[set6]
theorem set6_in (cur:Array Value) (x:Nat) (f:Fl) (c:Nat) (hc:c<6) (hx:x+6≤cur.size):(set6 cur x f)[x+c]? =(encF f)[c]? :=by
 obtain rfl | rfl | rfl | rfl | rfl | rfl:c=0∨c=1∨c=2∨c=3∨c=4∨c=5:=by omega
 all_goals
   simp only[set6,Array.getElem?_setIfInBounds,Array.size_setIfInBounds,encF]
   simp
   try omega
theorem set6_out (cur:Array Value) (x:Nat) (f:Fl) (y:Nat) (hy:y<x∨x+6≤y):(set6 cur x f)[y]? =cur[y]? :=by
 simp only[set6,Array.getElem?_setIfInBounds]
 rw[if_neg (by omega),if_neg (by omega),if_neg (by omega),if_neg (by omega),if_neg (by omega),if_neg (by omega)]
theorem zero6 (z:Array Value) (n:Nat) (h:∀v∈z,v.oneCell'=true) (hz:0<z.size):∀v∈(Builtin.zeroCells z n).toList,v.oneCell'=true:=by
 intro v hv
 simp only[Builtin.zeroCells,Array.toList_map,List.mem_map]at hv
 obtain⟨i,_,rfl⟩:=hv
 have hi:i % z.size<z.size:=Nat.mod_lt _ hz
 rw[getElem!_pos z _ hi]
 exact h _ (Array.getElem_mem hi)
theorem run_clear6 (w:World) (ty:TypeId) (b o n c:Nat) (hn:0<n) (hc:∀j,j<n*6→(w.cell? ⟨b,o+j,none⟩).isSome=true) (hf:∀j,w.frozen? ⟨b,j,none⟩=false) :
   (Builtin.clear_ #[23] ty #[.slice (some ⟨b,o,none⟩) n c]).run Tryz.prog w= .ok (.tuple #[]) (w.setCells b o (Builtin.zeroCells (Value.cells (.agg #[.string ⟨#[]⟩,.string ⟨#[]⟩,.int .i64 0,.int .i64 0,.int .i64 0,.int .i64 0])) n).toList):=by
 obtain⟨i0,hi,hz,hs,hby⟩:=Tryz.fileInfo
 have hv:∀w,(zeroValue 43).run Tryz.prog w= .ok (.agg #[.string ⟨#[]⟩,.string ⟨#[]⟩,.int .i64 0,.int .i64 0,.int .i64 0,.int .i64 0]) w:=fun w=>by simp[zeroValue,typeInfo,hi,hz]
 have hlen:(Builtin.zeroCells (Value.cells (.agg #[.string ⟨#[]⟩,.string ⟨#[]⟩,.int .i64 0,.int .i64 0,.int .i64 0,.int .i64 0])) n).toList.length=n*6:=by
   rw[Array.length_toList,size_zeroCells];rfl
 have hst:=run_storeCells_cells (P:=Tryz.prog) b o (Builtin.zeroCells (Value.cells (.agg #[.string ⟨#[]⟩,.string ⟨#[]⟩,.int .i64 0,.int .i64 0,.int .i64 0,.int .i64 0])) n).toList 0 w (by rw[hlen];simpa using hc) (fun j _=>hf _) (zero6 _ _ (by intro v hv;simp[Value.cells]at hv;rcases hv with rfl | rfl<;>rfl) (by decide))
 simp only[Nat.add_zero]at hst
 obtain⟨m,rfl⟩:∃m,n=m+1:=⟨n-1,by omega⟩
 simp[Builtin.clear_,run_underlying Tryz.underlying23,hv,hst]
theorem setCells_heap {T:TypeId} {b:Nat} :∀(vs:List Value) (o:Nat) (w:World) (cur:Array Value),w.heap[b]? =some (.cells cur T (0,0))→∃cur',(w.setCells b o vs).heap[b]? =some (.cells cur' T (0,0))∧cur'.size=cur.size∧∀y,y<o→cur'[y]? =cur[y]?
 | [],_,_,cur,h=>⟨cur,h,rfl,fun _ _=>rfl⟩
 | v :: r,o,w,cur,h=>by
   obtain⟨cur',h1,h2,h3⟩:=setCells_heap r (o+1) (w.setCell ⟨b,o,none⟩ v) _ (heap_setCell_same w b o cur T v h)
   refine⟨cur',h1,by rw[h2];simp,fun y hy=>?_⟩
   rw[h3 y (by omega),Array.getElem?_setIfInBounds,if_neg (by omega)]
theorem setCells_below {b B:Nat} :∀(vs:List Value) (o:Nat) (W0 w:World),Below B W0 w→B≤b→Below B W0 (w.setCells b o vs)
 | [],_,_,_,h,_=>h
 | _ :: r,o,W0,_,h,hb=>setCells_below r (o+1) W0 _ (h.setCell hb _) hb
def DelInv (W:World) (g C:Nat) (P:Fl→Bool) (fs:List Fl) (i j:Nat):Prop :=
 ∃cur:Array Value,W.heap[g]? =some (.cells cur 43 (0,0))∧cur.size=C∧i=(kept P fs j).length∧(∀(t:Nat) (u:Value),(flatF (kept P fs j))[t]? =some u→cur[t]? =some u)∧∀(t:Nat) (u:Value),j*6≤t→(flatF fs)[t]? =some u→cur[t]? =some u
theorem DelInv.below {W W':World} {g C:Nat} {P:Fl→Bool} {fs:List Fl} {i j:Nat} (h:DelInv W g C P fs i j) (hb:Below W.heap.size W W'):DelInv W' g C P fs i j:=by
 obtain⟨cur,h1,h2⟩:=h
 exact⟨cur,(hb.block g (lt_of_block h1)).trans h1,h2⟩
theorem DelInv.skip {W:World} {g C:Nat} {P:Fl→Bool} {fs:List Fl} {i j:Nat} (h:DelInv W g C P fs i j) (hj:j<fs.length) (hp:P fs[j]=false):DelInv W g C P fs i (j+1):=by
 obtain⟨cur,h1,h2,h3,h4,h5⟩:=h
 have e:kept P fs (j+1)=kept P fs j:=by rw[kept_succ P fs j hj,if_neg (by rw[hp];simp)]
 exact⟨cur,h1,h2,by rw[e];exact h3,by rw[e];exact h4,fun t u ht=>h5 t u (by omega)⟩
theorem DelInv.cell {W:World} {g C:Nat} {P:Fl→Bool} {fs:List Fl} {i j:Nat} (h:DelInv W g C P fs i j) (hj:j<fs.length) (c:Nat) (hc:c<6):W.cell? ⟨g,j*6+c,none⟩=(encF fs[j])[c]? :=by
 obtain⟨cur,h1,h2,h3,h4,h5⟩:=h
 have e:=flatF_get fs j c hj hc
 have hl:c<(encF fs[j]).length:=by rw[encF_len];exact hc
 rw[List.getElem?_eq_getElem hl]at e ⊢
 rw[cell_of_row _ _ _ _ _ _ h1]
 exact h5 _ _ (by omega) e
theorem DelInv.old {W:World} {g C:Nat} {P:Fl→Bool} {fs:List Fl} {i j:Nat} (h:DelInv W g C P fs i j) (x:Nat) (hx:x<C):∃u,W.cell? ⟨g,x,none⟩=some u:=by
 obtain⟨cur,h1,h2,_⟩:=h
 rw[cell_of_row _ _ _ _ _ _ h1]
 exact⟨_,Array.getElem?_eq_getElem (by omega)⟩
theorem DelInv.fz {W:World} {g C:Nat} {P:Fl→Bool} {fs:List Fl} {i j:Nat} (h:DelInv W g C P fs i j) (x:Nat):W.frozen? ⟨g,x,none⟩=false:=by
 obtain⟨cur,h1,_⟩:=h
 exact frozen_of_row _ _ _ _ _ h1
theorem DelInv.le {W:World} {g C:Nat} {P:Fl→Bool} {fs:List Fl} {i j:Nat} (h:DelInv W g C P fs i j):i≤j:=by
 obtain⟨cur,h1,h2,h3,_⟩:=h
 rw[h3]
 exact kept_len _ _ _
theorem DelInv.keep {W:World} {g C:Nat} {P:Fl→Bool} {fs:List Fl} {i j:Nat} (h:DelInv W g C P fs i j) (hj:j<fs.length) (hC:fs.length*6≤C) (hp:P fs[j]=true):DelInv (put6 W g (i*6) fs[j]) g C P fs (i+1) (j+1):=by
 have hij:=h.le
 obtain⟨cur,h1,h2,h3,h4,h5⟩:=h
 have e:kept P fs (j+1)=kept P fs j++ [fs[j]]:=by rw[kept_succ P fs j hj,if_pos hp]
 refine⟨set6 cur (i*6) fs[j],put6_heap h1,by rw[set6_size];exact h2,by rw[e,List.length_append,←h3];rfl,fun t u hu=>?_,fun t u ht hu=>?_⟩
 · rw [e,flatF_append]at hu
   have hl:(flatF (kept P fs j)).length=i*6:=by rw[flatF_len,←h3]
   rcases Nat.lt_or_ge t (i*6) with h' | h'
   · rw[set6_out _ _ _ _ (Or.inl h')]
     rw[List.getElem?_append_left (by omega)]at hu
     exact h4 t u hu
   · rw[List.getElem?_append_right (by omega),hl]at hu
     have hlt:t-i*6<6:=by
       rcases Nat.lt_or_ge (t-i*6) 6 with h'' | h''
       · exact h''
       · rw[List.getElem?_eq_none (by simp[flatF,encF];omega)]at hu;cases hu
     have e2:flatF [fs[j]]=encF fs[j]:=by simp[flatF]
     rw[e2]at hu
     have:=set6_in cur (i*6) fs[j] (t-i*6) hlt (by omega)
     rw[show i*6+(t-i*6)=t by omega]at this
     rw[this];exact hu
 · rw[set6_out _ _ _ _ (Or.inr (by omega))]
   exact h5 t u (by omega) hu
theorem flatF_take (fs:List Fl) (n:Nat) (hn:n≤fs.length):(flatF fs).take (n*6)=flatF (fs.take n):=by
 have e:fs=fs.take n++fs.drop n:=(List.take_append_drop n fs).symm
 conv=>lhs;rw[e,flatF_append]
 have hl:(flatF (fs.take n)).length=n*6:=by rw[flatF_len,List.length_take,Nat.min_eq_left hn]
 rw[←hl,List.take_left]
theorem kept_same {P:Fl→Bool} {fs:List Fl} :∀n,n≤fs.length→(∀j (h:j<fs.length),j<n→P fs[j]=true)→kept P fs n=fs.take n
 | 0,_,_=>by simp[kept]
 | n+1,hn,h=>by
   rw[kept_succ P fs n (by omega),if_pos (h n (by omega) (by omega)),kept_same n (by omega) (fun j hj hjn=>h j hj (by omega)),List.take_succ_eq_append_getElem (by omega)]
theorem delInv_start {W:World} {g cap:Nat} {cur:Array Value} {P:Fl→Bool} {fs:List Fl} {k:Nat} (hg:W.heap[g]? =some (.cells cur 43 (0,0))) (hs:cur.size=cap*6) (ht:cur.toList.take (fs.length*6)=flatF fs) (hk:k<fs.length) (h1:∀j (h:j<fs.length),j<k→P fs[j]=true) (h2:P fs[k]=false) :
   DelInv W g (cap*6) P fs k (k+1):=by
 have hcur:∀t u,(flatF fs)[t]? =some u→cur[t]? =some u:=fun t u hu=>by
   have hlt:t<fs.length*6:=by
     rw[←flatF_len]
     rcases Nat.lt_or_ge t (flatF fs).length with h' | h'
     · exact h'
     · rw[List.getElem?_eq_none h']at hu;cases hu
   rw[←ht,List.getElem?_take,if_pos hlt,Array.getElem?_toList]at hu
   exact hu
 have e:kept P fs (k+1)=fs.take k:=by rw[kept_succ P fs k hk,if_neg (by rw[h2];simp),kept_same k (by omega) h1]
 refine⟨cur,hg,hs,by rw[e,List.length_take];omega,fun t u hu=>?_,fun t u _ hu=>hcur t u hu⟩
 rw[e,←flatF_take fs k (by omega)]at hu
 rw[List.getElem?_take]at hu
 split at hu
 · exact hcur t u hu
 · cases hu
theorem own_of_del {W:World} {B g cap:Nat} {P:Fl→Bool} {fs:List Fl} {i:Nat} {cur:Array Value} (hB:B≤g) (hg:W.heap[g]? =some (.cells cur 43 (0,0))) (hs:cur.size=cap*6) (hm:cap≤maxLen) (hi:i=(fs.filter P).length) (hc:i≤cap) (hcur:∀(t:Nat) (u:Value),(flatF (fs.filter P))[t]? =some u→cur[t]? =some u) :
   W.ownsRow B 43 6 (.slice (some ⟨g,0,none⟩) i cap) (fs.filter P).length (flatF (fs.filter P)):=by
 refine⟨by rw[flatF_len],Or.inr ⟨g,cap,cur,by rw[hi],hB,hg,by omega,hm,hs,?_⟩⟩
 apply List.ext_getElem?
 intro t
 rw[List.getElem?_take,Array.getElem?_toList]
 by_cases ht:t<(fs.filter P).length*6
 · rw[if_pos ht]
   have hl:t<(flatF (fs.filter P)).length:=by rw[flatF_len];exact ht
   rw[List.getElem?_eq_getElem hl]
   exact hcur t _ (List.getElem?_eq_getElem hl)
 · rw[if_neg ht,List.getElem?_eq_none (by rw[flatF_len];omega)]
theorem AskF.later {g:Nat} {cb:Array Value} {p:Fl→Bool} {fs:List Fl} {w w':World} (h:AskF g cb p fs w) (hb:Below w.heap.size w w'):AskF g cb p fs w':=fun f hf W hW=>h f hf W (hb.trans (hW.mono hb.size))
set_option maxRecDepth 100000 in
set_option maxHeartbeats 8000000 in
theorem deleteG_any (g:Nat) (cb:Array Value) (p:Fl→Bool) (v:Value) (fs:List Fl) (w0 w:World) (hb0:Below w0.heap.size w0 w) (ho:w.ownsRow w0.heap.size 43 6 v fs.length (flatF fs)) (hl:fs.length≤20000) (eg:∀args w,(callFunc g args).run Tryz.prog w= .ok (.enter g args) w) (hp:AskF g cb p fs w0) :
   Calls Tryz.prog 54 #[v,.func (.func g) #[] cb] w fun e w'=> ∃v',e= .returned v'∧w'.ownsRow w0.heap.size 43 6 v' (fs.filter fun f=> !p f).length (flatF (fs.filter fun f=> !p f))∧Below w0.heap.size w0 w':=by
 have hx:=(flsAt_of_own ho).1
 have hix:=indexG_any g cb p v fs w hx hl eg (hp.later hb0)
 have HOW:Hid (w.ownsRow w0.heap.size 43 6 v fs.length (flatF fs)):=ho
 have HB0:Hid (Below w0.heap.size w0 w):=hb0
 have HP:Hid (AskF g cb p fs w0):=hp
 have HFL:Hid (fs.any p=false→(fs.filter fun f=> !p f)=fs):=fun h=>List.filter_eq_self.2 fun f hf=>by
   have:=List.any_eq_false.1 h f hf
   simpa using this
 obtain⟨q,cap,rfl⟩:=hx.form
 obtain⟨L,hL⟩:∃L,fs.length=L:=⟨_,rfl⟩
 have HL:Hid (fs.length=L):=hL
 rw[hL]at hix hl ⊢
 obtain⟨RS,hRS⟩:∃R,(fs.filter fun f=> !p f)=R:=⟨_,rfl⟩
 have HRS:Hid ((fs.filter fun f=> !p f)=RS):=hRS
 rw[hRS]
 clear hx ho hb0 hp hL hRS
 go_enter Tryz.func54,Tryz.ntmps54
 go_wp2_with fail
 refine hix.mono ?_
 rintro e w1 ⟨i,rfl,hi,hb1⟩
 clear hix
 have HB1:Hid (Below w.heap.size w w1):=hb1
 have HB01:Hid (Below w0.heap.size w0 w1):=HB0.out.trans (hb1.mono HB0.out.size)
 clear hb1
 rcases hi with⟨rfl,ha⟩|⟨k,hk,rfl,hpk,hno,-⟩
 · have HA:Hid (RS=fs):=by show _=_;rw[←HRS.out];exact HFL.out ha
   clear ha
   go_wp2
   go_ret
   refine⟨_,rfl,?_,HB01.out⟩
   rw[HA.out]
   have h:=own_but (P:=fun _=>False) HOW.out (But.of_below HB1.out) (fun _ _ h=>h)
   rw[HL.out]at h ⊢
   exact h
 · obtain ⟨b,cur,rfl,hb,hg,hcp,hmx,hsz,htk⟩:∃b cur,q=some ⟨b,0,none⟩∧w0.heap.size≤b∧w1.heap[b]? =some (.cells cur 43 (0,0))∧L≤cap∧cap≤maxLen∧cur.size=cap*6∧cur.toList.take (fs.length*6)=flatF fs:=by
     rcases HOW.out.2 with⟨e,h0⟩|⟨b,c,cur,e,hb,hg,h1,h2,h3,h4⟩
     · rw[h0]at hk;exact absurd hk (Nat.not_lt_zero _)
     · injection e with e1 e2 e3
       subst e3
       exact⟨b,cur,e1,hb,(HB1.out.block b (lt_of_block hg)).trans hg,by rw[←HL.out];exact h1,h2,h3,h4⟩
   have HST:Hid (DelInv w1 b (cap*6) (fun f=> !p f) fs k (k+1)):=delInv_start hg hsz htk hk (fun j hj hjk=>by simpa using hno j hj hjk) (by simpa using hpk)
   have hkL:k<L:=by rw[←HL.out];exact hk
   have hne1:((k:Int) == -1)=false:=beq_eq_false_iff_ne.2 (by omega)
   have HHB:Hid (w0.heap.size≤b):=hb
   have HMX:Hid (cap≤maxLen):=hmx
   clear hg hsz htk hpk hno hk HOW HB1 HFL hb hmx
   have hi6:IntKind.i64.wrap ((k:Int)+1)=(k:Int)+1:=IntWalk.i64_in _ (by omega)
   go_wp2_with fail
   go_loopg [5,6,7] L (fun gg s5 s6 _ wr=> ∃(i j:Nat),s5= .int .i64 i∧s6= .int .i64 j∧j≤L∧L-j≤gg∧i<j∧Below w0.heap.size w0 wr∧DelInv wr b (cap*6) (fun f=> !p f) fs i j)
   case atStart=>exact ⟨k,k+1,rfl,by go_num,by omega,by omega,by omega,HB01.out,HST.out⟩
   case round =>
     clear hne1 hi6 hkL
     obtain⟨i,j,rfl,rfl,hjL,hgg,hij,hbr,hD⟩:=hrel
     have HD:Hid (DelInv wr b (cap*6) (fun f=> !p f) fs i j):=hD
     have HBR:Hid (Below w0.heap.size w0 wr):=hbr
     clear hD
     by_cases hlt:j<L
     · have hltx:j<fs.length:=by rw[HL.out];exact hlt
       have hltz:(j:Int)<(L:Int):=by omega
       have c0:=HD.out.cell hltx 0 (by omega)
       have c1:=HD.out.cell hltx 1 (by omega)
       have c2:=HD.out.cell hltx 2 (by omega)
       have c3:=HD.out.cell hltx 3 (by omega)
       have c4:=HD.out.cell hltx 4 (by omega)
       have c5:=HD.out.cell hltx 5 (by omega)
       have hfb:=boxW_at wr fs[j]
       have hbb:=boxW_below wr fs[j]
       have hcl:=HP.out fs[j] (List.getElem_mem _) (boxW wr fs[j]) (hbr.trans (hbb.mono hbr.size))
       unfold boxW at hfb hbb hcl
       have HSK:Hid (p fs[j]=true→∀W,Below wr.heap.size wr W→DelInv W b (cap*6) (fun f=> !p f) fs i (j+1)):=fun h W hW=>(HD.out.below hW).skip hltx (by simp[h])
       have HKP:Hid (p fs[j]=false→∀W,Below wr.heap.size wr W→DelInv (put6 W b (i*6) fs[j]) b (cap*6) (fun f=> !p f) fs (i+1) (j+1)):=fun h W hW=>(HD.out.below hW).keep hltx (by rw[HL.out];omega) (by simp[h])
       simp only[encF,List.getElem?_cons_succ,List.getElem?_cons_zero]at c0 c1 c2 c3 c4 c5
       generalize fs[j]=f at c0 c1 c2 c3 c4 c5 hfb hbb hcl HSK HKP
       clear hltx
       unfold flV at hcl
       obtain⟨fp,fq,fn,flo,fhi,fseq⟩:=f
       dsimp only at c0 c1 c2 c3 c4 c5 hfb hbb hcl HKP
       have hi0':(0:Int)≤(j:Int):=by omega
       have hii:(i:Int)<(L:Int):=by omega
       have hii0:(0:Int)≤(i:Int):=by omega
       have hw1:IntKind.i64.wrap ((j:Int)+1)=(j:Int)+1:=IntWalk.i64_in _ (by omega)
       have hw2:IntKind.i64.wrap ((i:Int)+1)=(i:Int)+1:=IntWalk.i64_in _ (by omega)
       rw[Nat.add_zero]at c0
       go_upto_region 8 with fail
       clear c0 c1 c2 c3 c4 c5
       generalize wr.alloc (.cells #[.string fp,.string fq,.int .i64 fn,.int .i64 flo,.int .i64 fhi,.int .i64 fseq] 43)=W5 at hfb hbb hcl ⊢
       obtain⟨b0,b1,b2,b3,b4,b5,-⟩:=hfb.cells
       dsimp only at b0 b1 b2 b3 b4 b5
       cases hq:p (fp,fq,fn,flo,fhi,fseq) with
       | true =>
         rw[hq]at hcl
         have HSK2:=HSK.out hq
         have HS2:Hid (∀W,Below wr.heap.size wr W→DelInv W b (cap*6) (fun f=> !p f) fs i (j+1)):=HSK2
         clear HSK HKP HSK2 hq
         go_wp2_with (go_at_fn g;refine hcl.mono ?_;rintro e w6 ⟨rfl,hb6⟩)
         have hB6:Below wr.heap.size wr w6:=hbb.trans (hb6.mono hbb.size)
         go_roundg (L-(j+1))
         case measure=>omega
         case rel=>exact ⟨i,j+1,rfl,by go_num,by omega,Nat.le_refl _,by omega,HBR.out.trans (hB6.mono HBR.out.size),HS2.out w6 hB6⟩
       | false =>
         rw[hq]at hcl
         have HKP2:=HKP.out hq
         have HS2:Hid (∀W,Below wr.heap.size wr W→DelInv (put6 W b (i*6) (fp,fq,fn,flo,fhi,fseq)) b (cap*6) (fun f=> !p f) fs (i+1) (j+1)):=HKP2
         clear HSK HKP HKP2 hq
         go_upto_region 9 with(go_at_fn g;refine hcl.mono ?_;rintro e w6 ⟨rfl,hb6⟩)
         have hB6:Below wr.heap.size wr w6:=hbb.trans (hb6.mono hbb.size)
         have hD6:=HD.out.below hB6
         have d0:=below_keep hb6 b0
         have d1:=below_keep hb6 b1
         have d2:=below_keep hb6 b2
         have d3:=below_keep hb6 b3
         have d4:=below_keep hb6 b4
         have d5:=below_keep hb6 b5
         obtain⟨u0,o0⟩:=hD6.old (i*6) (by omega)
         obtain⟨u1,o1⟩:=hD6.old (i*6+1) (by omega)
         obtain⟨u2,o2⟩:=hD6.old (i*6+2) (by omega)
         obtain⟨u3,o3⟩:=hD6.old (i*6+3) (by omega)
         obtain⟨u4,o4⟩:=hD6.old (i*6+4) (by omega)
         obtain⟨u5,o5⟩:=hD6.old (i*6+5) (by omega)
         have fz:=fun x=>hD6.fz x
         have HS3:Hid (DelInv (put6 w6 b (i*6) (fp,fq,fn,flo,fhi,fseq)) b (cap*6) (fun f=> !p f) fs (i+1) (j+1)):=HS2.out w6 hB6
         have HB6:Hid (Below w0.heap.size w0 (put6 w6 b (i*6) (fp,fq,fn,flo,fhi,fseq))):=put6_below (HBR.out.trans (hB6.mono HBR.out.size)) HHB.out
         unfold put6 at HS3 HB6
         dsimp only at HS3 HB6
         clear b0 b1 b2 b3 b4 b5 hcl hb6 hB6 hD6 HS2 hfb hbb
         go_wp2
         go_roundg (L-(j+1))
         case measure=>omega
         case rel=>exact ⟨i+1,j+1,by go_num,by go_num,by omega,Nat.le_refl _,by omega,HB6.out,HS3.out⟩
     · obtain rfl:j=L:=by omega
       have hltz:¬(j:Int)<(j:Int):=by omega
       have hci:¬cap=i:=by omega
       have hi1:(i:Int)≤(j:Int):=by omega
       have hi2:(0:Int)≤(i:Int):=by omega
       have hi3:(j:Int)≤(cap:Int):=by omega
       have hi4:(i:Int)≤(cap:Int):=by omega
       have hcl:∀ty,(Builtin.clear_ #[23] ty #[.slice (some ⟨b,i*6,none⟩) (j-i) (cap-i)]).run Tryz.prog wr= .ok (.tuple #[]) (wr.setCells b (i*6) (Builtin.zeroCells (Value.cells (.agg #[.string ⟨#[]⟩,.string ⟨#[]⟩,.int .i64 0,.int .i64 0,.int .i64 0,.int .i64 0])) (j-i)).toList) :=
         fun ty=>run_clear6 wr ty b (i*6) (j-i) (cap-i) (by omega) (fun t ht=>by
           obtain⟨u,hu⟩:=HD.out.old (i*6+t) (by omega)
           rw[hu];rfl) (fun t=>HD.out.fz t)
       have HEND:Hid (Below w0.heap.size w0 (wr.setCells b (i*6) (Builtin.zeroCells (Value.cells (.agg #[.string ⟨#[]⟩,.string ⟨#[]⟩,.int .i64 0,.int .i64 0,.int .i64 0,.int .i64 0])) (j-i)).toList)∧(wr.setCells b (i*6) (Builtin.zeroCells (Value.cells (.agg #[.string ⟨#[]⟩,.string ⟨#[]⟩,.int .i64 0,.int .i64 0,.int .i64 0,.int .i64 0])) (j-i)).toList).ownsRow w0.heap.size 43 6 (.slice (some ⟨b,0,none⟩) i cap) RS.length (flatF RS)):=by
         refine⟨setCells_below _ _ _ _ HBR.out HHB.out,?_⟩
         obtain⟨cur,h1,h2,h3,h4,_⟩:=HD.out
         obtain⟨cur',g1,g2,g3⟩:=setCells_heap (Builtin.zeroCells (Value.cells (.agg #[.string ⟨#[]⟩,.string ⟨#[]⟩,.int .i64 0,.int .i64 0,.int .i64 0,.int .i64 0])) (j-i)).toList (i*6) wr cur h1
         have e:kept (fun f=> !p f) fs j=RS:=by rw[←HL.out,kept_all];exact HRS.out
         rw[e]at h3 h4
         rw[←HRS.out]at h3 h4 ⊢
         refine own_of_del HHB.out g1 (g2.trans h2) HMX.out h3 (by omega) (fun t u hu=>?_)
         have hlt:t<i*6:=by
           rw[h3,←flatF_len]
           rcases Nat.lt_or_ge t (flatF (fs.filter fun f=> !p f)).length with h' | h'
           · exact h'
           · rw[List.getElem?_eq_none h']at hu;cases hu
         rw[g3 t (by omega)]
         exact h4 t u hu
       generalize wr.setCells b (i*6) (Builtin.zeroCells (Value.cells (.agg #[.string ⟨#[]⟩,.string ⟨#[]⟩,.int .i64 0,.int .i64 0,.int .i64 0,.int .i64 0])) (j-i)).toList=WE at hcl HEND
       go_wp2
       go_ret
       exact⟨_,rfl,HEND.out.2,HEND.out.1⟩
structure ErrsX (W:World) (a:Nat→Addr):Prop where
 cell:∀i,i<12→i≠10→W.cell? ⟨errVar i,0,none⟩=some (.iface 325 (.pointer (some (a i))))
 hand:Hand W
 base:EnvS W
theorem ErrsX.below {W W':World} {a:Nat→Addr} (h:ErrsX W a) (hb:Below W.heap.size W W'):ErrsX W' a :=
 ⟨fun i hi hn=>below_keep hb (h.cell i hi hn),h.hand.below hb,h.base.below hb⟩
theorem ErrsX.f {W:World} {a:Nat→Addr} (h:ErrsX W a):EnvF W a :=
 ⟨⟨⟨h.cell 0 (by decide) (by decide),h.cell 1 (by decide) (by decide),h.cell 4 (by decide) (by decide),h.base.maxl,h.base.syn,h.base.tab⟩,h.cell 2 (by decide) (by decide),h.cell 7 (by decide) (by decide),h.cell 8 (by decide) (by decide),h.cell 9 (by decide) (by decide)⟩,h.cell 3 (by decide) (by decide)⟩
theorem ErrsX.l {W:World} {a:Nat→Addr} (h:ErrsX W a):EnvL W a :=
 ⟨h.f.lean,h.cell 5 (by decide) (by decide),h.cell 6 (by decide) (by decide),h.cell 7 (by decide) (by decide),h.cell 8 (by decide) (by decide)⟩
theorem ErrsX.o {W:World} {a:Nat→Addr} (h:ErrsX W a):EnvO W a where
 bound:=h.cell 1 (by decide) (by decide)
 name:=h.cell 4 (by decide) (by decide)
 miss:=h.cell 5 (by decide) (by decide)
 exist:=h.cell 6 (by decide) (by decide)
 full:=h.cell 7 (by decide) (by decide)
 off:=h.cell 11 (by decide) (by decide)
theorem new_fp2 (N:Nat):∀k,fpS N none (fun _=>0) newS.obs k→N≤k:=by
 rintro k (rfl | hk | ⟨o,ho,_⟩)
 · exact Nat.le_refl _
 · cases hk
 · cases ho
theorem storeK2 (w:World) (a:Nat→Addr) (hE:ErrsX w a):StoreK a w.heap.size (EMw w) SAtP where
 below W W' h hb:=Below.trans (h:Below w.heap.size w W) hb
 size W h:=Below.size (h:Below w.heap.size w W)
 ptr W v FP s h:=by
   obtain⟨b,mo,q,rfl,rfl,hs⟩:=h
   exact⟨_,rfl⟩
 lt W v FP s k h hk:=by
   obtain⟨b,mo,q,rfl,rfl,hs⟩:=h
   exact hs.lt hk
 keep W W' v FP P s h hB hP:=by
   obtain⟨b,mo,q,rfl,rfl,hs⟩:=h
   exact⟨b,mo,q,rfl,rfl,hs.keep hB hP⟩
 new W _:=(snew_any W).mono fun e w' ⟨he,hs,hb⟩=>⟨_,_,he,⟨W.heap.size,none,_,rfl,rfl,hs⟩,new_fp2 W.heap.size,hb⟩
 put W v FP s n t hm h hk hn ht:=by
   obtain⟨b,mo,q,rfl,rfl,hs⟩:=h
   exact sput_any hs hk (hE.below hm).o n t hn ht
 get W v FP s n hm h hk hn:=by
   obtain⟨b,mo,q,rfl,rfl,hs⟩:=h
   exact sget_any hs (hE.below hm).o n (by unfold maxLen;omega)
theorem scanK (w:World) (a:Nat→Addr) (hE:ErrsX w a):ScanK a (EMw w) SAtP where
 rows W v FP st s vf lo hi hm hat ks hx hl hs:=srows_any (storeK2 w a hE) (fun _ hW=>⟨(hE.below hW).f,(hE.below hW).hand,(hE.below hW).l⟩) W v FP st s vf lo hi hm hat ks hx hl hs
 rows0 W s vf lo hi hm hx _ _:=srows0_any (EM:=EMw w) (fun _ hW=>⟨(hE.below hW).f,(hE.below hW).hand,(hE.below hW).l⟩) W s vf lo hi hm hx
end Go.Proofs.YtgckdomafbnmkaaGreatDoor
