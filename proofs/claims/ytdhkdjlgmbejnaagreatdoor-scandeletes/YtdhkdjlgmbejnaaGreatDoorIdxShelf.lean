/- By an AI agent. -/
import Derived.Test.YtdhkdjlgmbejnaaGreatDoorStoIter
namespace Go.Proofs.YtdhkdjlgmbejnaaGreatDoor
open Go.RowKit Go.Extern.Stop Go.Stop Go.Extern Go.Maps Go.Sort Go.Shelf Go.Lib
structure CameI (D:DataW Unit) (left:Lit→Bool) (ps:List Int):Prop where
 once:ps.Nodup
 left:∀z:Int,left (.int .i64 z)=true↔Maps.has D (.int .i64 z)=true∧z∉ps
theorem same_int (z y:Int):(Lit.int .i64 z).sameKey (.int .i64 y)=decide (z=y):=by
 by_cases h:z=y
 · subst h
   rw[WideAt.sameKey_self (show WideAt.IsKeyLit (.int .i64 z) from trivial),decide_eq_true rfl]
 · rw[decide_eq_false h]
   cases hs:(Lit.int .i64 z).sameKey (.int .i64 y) with
   | false=>rfl
   | true =>
     have:=(WideAt.sameKey_iff (b:=.int .i64 y) trivial).1 hs
     injection this with _ e
     exact absurd e h
theorem CameI.start (D:DataW Unit):CameI D (Maps.has D) []:=⟨List.nodup_nil,fun z=>by simp⟩
theorem CameI.step {D:DataW Unit} {left:Lit→Bool} {ps:List Int} (h:CameI D left ps) (z:Int) (hl:left (.int .i64 z)=true):CameI D (fun k=>left k && !k.sameKey (.int .i64 z)) (ps++ [z]):=by
 have hn:=((h.left z).1 hl).2
 refine⟨?_,fun y=>?_⟩
 · rw[List.nodup_append]
   refine⟨h.once,by simp,fun a ha b hb=>?_⟩
   simp only[List.mem_singleton]at hb
   subst hb
   exact fun e=>hn (e▸ha)
 · rw[same_int]
   by_cases e:y=z
   · subst e;simp
   · simp[e,h.left y]
theorem CameI.done {D:DataW Unit} {left:Lit→Bool} {ps:List Int} (h:CameI D left ps) (hl:∀z,left z=false):ps.Nodup∧∀z:Int,Maps.has D (.int .i64 z)=true→z∈ps:=by
 refine⟨h.once,fun z hz=>?_⟩
 have:=h.left z
 rw[hl]at this
 simp only[Bool.false_eq_true,hz,true_and,false_iff,Classical.not_not]at this
 exact this
abbrev encAR (hv:Int→Value) (z:Int):Array Value:=#[.int .i64 z,hv z]
abbrev sliceOf (t:Option Addr×Nat×Nat):Value:=.slice t.1 t.2.1 t.2.2
set_option maxRecDepth 100000 in
set_option maxHeartbeats 1000000 in
theorem allR1_any (n:Nat) (hn:1≤n) (n₀ r Bm b:Nat) (hb₀:b<n₀) (M:Nat) (D:DataW Unit) (hv:Int→Value) (hd:∀z,hdQ (hv z)=some (D.atKey (.int .i64 z) .nil, [])) (J Jx:List Int→World→Prop)
   (hY:∀pre x W,J pre W→pre.length<M→YieldAt Fence.wide (n-1) Tryz.prog r (encAR hv x) W fun e W' =>
     (e= .returned (.bool true)∧J (pre++ [x]) W'∧KpM n₀ W W')∨(e= .returned (.bool false)∧Jx (pre++ [x]) W'))
   (W:World) (hJ:AbidesFrom W.heap.size J) (hm:W.cell? ⟨Bm,0,none⟩=some (.map (some b))) (hown:W.ownsMap Tryz.prog 3 hdQ b M D) (h0:J [] W) :
   CallsIn Fence.wide n Tryz.prog 146 #[.func (.yield r) #[] #[],.pointer (some ⟨Bm,0,none⟩)] W fun e W'=>(∃v,e= .returned v) ∧
     ((∃ps,(ps.Nodup∧∀z:Int,Maps.has D (.int .i64 z)=true→z∈ps)∧J ps W')∨(∃pre,True∧Jx pre W')):=by
 have hro:Fence.wide.round=none:=rfl
 have hN:=hown.size_le
 refine callsIn_of_wp Tryz.func146 rfl trivial ?_ hro
 simp only[Tryz.ntmps146,List.size_toArray,List.length_cons,List.length_nil,Nat.reduceAdd,Nat.reduceSub,Array.replicate_succ,Array.replicate_zero,List.push_toArray,List.append_toArray,List.nil_append,List.cons_append]
 gi_wp2_with (first
   | (gi_at_range;refine wpListIn_range_own _ rfl _ 85 rfl 3 33 Tryz.keyedI Tryz.underlying85 hdQ b M _ rfl hown ?_;intro w0 hrg0 hg0 hs0)
   | gi_in)
 go_frame
 gi_loopw [3,4] (fun _ _ wr=> ∃(left:Lit→Bool) (cnt:Nat) (ps:List Int),wr.ranges Tryz.prog 3 hdQ b W.heap.size M D left cnt∧ps.length+cnt≤M∧CameI D left ps∧J ps wr)
   (fun _ _ wr=>wr.rangeLeft b W.heap.size)
 case atStart =>
   exact⟨_,_, [],hrg0,by simpa using hN,CameI.start D,hJ [] W w0 none h0 hg0 (fun r e=>by cases e)⟩
 case round =>
   obtain⟨left,cnt,ps,hrg,hcs,hC,hJs⟩:=hrel
   gi_wp2_with (first
     | (gi_at_next;refine wpListIn_next_ranges _ rfl _ rfl 3 Tryz.keyedI hdQ (Value.int .i64) sliceOf (fun key kl hk=>by obtain⟨x,hx,_⟩:=Maps.keyOf_int_inv Tryz.underlying3 hk;exact⟨x,hx⟩) (fun v y hv=>by obtain⟨q,m,c,e⟩:=hdQ_form hv;exact⟨(q,m,c),e⟩) b W.heap.size M _ _ _ rfl hrg ?_ ?_)
     | gi_in)
   · intro hc0 hl0
     gi_wp2
     go_end0
     exact⟨⟨_,rfl⟩,.inl ⟨ps,hC.done hl0,hJs⟩⟩
   · intro x cq cm cc kl yd yp w2 cnt2 hkey hlk hvv hat hrg2 hlt hg2 hs2 hen
     obtain⟨x',ex,rfl,_⟩:=Maps.keyOf_int_inv Tryz.underlying3 hkey
     obtain rfl:x=x':=by injection ex
     have hyd:hdQ (hv x)=some (yd, []):=by rw[hd x,hat .nil]
     have hyp:=hdQ_places hvv
     simp only at hyp
     subst hyp
     have hvc:Value.slice cq cm cc=hv x:=hdQ_inj hvv hyd
     have hJ2:J ps w2:=hJ ps wr w2 (some W.heap.size) hJs hg2 (fun r e=>by cases e;exact⟨Nat.le_refl _,hrg.iter_walk⟩)
     obtain⟨fn,tmps,assign,body,hy,hR⟩:=hY ps x w2 hJ2 (by omega)
     dsimp only[encAR]at hy
     rw[←hvc]at hy
     have hC2:=hC.step x hlk
     clear hs2 ex hkey hvv hat hyd hvc
     dsimp only[sliceOf]at hen hy hrg2 hC2 hR hlk ⊢
     gi_wp2
     refine hR.mono ?_
     rintro e W3 (⟨rfl,hJ3,hk3⟩|⟨rfl,hJx3⟩)
     · gi_wp2
       have hrg3:=ranges_of_kpM hrg2 hk3 hb₀
       go_roundw
       case rel=>exact ⟨_,cnt2,_,hrg3,by simp;omega,hC2,hJ3⟩
       case measure=>rw [hrg3.left_eq,hrg.left_eq];exact hlt
     · gi_wp2
       refine bodyPost_ret (results_none rfl _ _ _) rfl ?_
       exact⟨⟨_,rfl⟩,.inr ⟨_,trivial,hJx3⟩⟩
theorem allR_stops (n:Nat) (hn:1≤n) (n₀ Bm b:Nat) (hb₀:b<n₀) (M:Nat) (D:DataW Unit) (hv:Int→Value) (hd:∀z,hdQ (hv z)=some (D.atKey (.int .i64 z) .nil, [])) (w:World) (hm:w.cell? ⟨Bm,0,none⟩=some (.map (some b))) (hown:w.ownsMap Tryz.prog 3 hdQ b M D) :
   SeqStopsK Fence.wide n Tryz.prog 146 #[.pointer (some ⟨Bm,0,none⟩)] (encAR hv) (KpM n₀) (fun ps:List Int=>ps.Nodup∧∀z:Int,Maps.has D (.int .i64 z)=true→z∈ps) (fun _=>True) M w:=fun r J Jx W hW hJ _ hY h0 =>
 allR1_any n hn n₀ r Bm b hb₀ M D hv hd J Jx hY W hJ ((hW.cell (p:=⟨Bm,0,none⟩) (cell_lt hm)).trans hm) (by
   obtain⟨es,clock,hb,rr⟩:=hown
   exact⟨es,clock,(hW.block b (Array.getElem?_eq_some_iff.1 hb).1).trans hb,rr⟩) h0
set_option maxHeartbeats 1000000 in
theorem allR_any (n:Nat) (mo:Option Nat) (w:World):CallsIn Fence.wide n Tryz.prog 98 #[.map mo] w fun e w'=>e= .returned (.func (.func 146) #[] #[.pointer (some ⟨w.heap.size,0,none⟩)])∧w'=w.alloc (.cells #[.map mo] 85):=by
 refine callsIn_of_wp Tryz.func98 rfl trivial ?_ rfl
 simp only[Tryz.ntmps98,List.size_toArray,List.length_cons,List.length_nil,Nat.reduceAdd,Nat.reduceSub,Array.replicate_succ,Array.replicate_zero,List.push_toArray,List.append_toArray,List.nil_append,List.cons_append]
 gi_wp2
 go_ret
 exact⟨rfl,rfl⟩
def CutP (v:Value) (ys:List Rw) (w:World) (e:Ending) (w':World):Prop:= ∃q n c,e= .returned (.slice q n c)∧n=ys.length∧Src w' q n c (flatR ys)∧But (fun k=>some k=v.ownBlock) w w'
theorem at3_flat {cur:Array Value} {xs:List Rw} (h:cur.toList.take (xs.length*3)=flatR xs):∀t (ht:t<xs.length),At3 cur t xs[t]:=fun t ht=>by
 have key:∀c,c<3→cur[t*3+c]? =(encR xs[t])[c]? :=fun c hc=>by
   rw[←flat_get xs t c ht hc,←h,List.getElem?_take,if_pos (by omega),Array.getElem?_toList]
 exact⟨by have:=key 0 (by omega);simpa [encR] using this,by have:=key 1 (by omega);simpa [encR] using this,by have:=key 2 (by omega);simpa [encR] using this⟩
set_option maxRecDepth 100000 in
set_option maxHeartbeats 1000000 in
theorem deleteR_own (v:Value) (xs:List Rw) (base:Nat) (fn:Nat) (cb:Array Value) (p:Rw→Bool) (w:World) (eg:∀args w,(callFunc fn args).run Tryz.prog w= .ok (.enter fn args) w) (hown:w.ownsRow base 54 3 v xs.length (flatR xs)) (hl:xs.length≤20000) (hp:TellsB fn cb xs p (fun k=>some k=v.ownBlock) w) :
   Calls Tryz.prog 100 #[v,.func (.func fn) #[] cb] w (CutP v (xs.filter fun x=> !p x) w):=by
 rcases hown.2 with⟨rfl,h0⟩|⟨g,cap,cur,rfl,hbg,hg,hnc,hcm,hcs,htake⟩
 · have hx:xs= []:=List.length_eq_zero_iff.1 h0
   subst hx
   have hix:=indexR_any (.slice none 0 0) [] fn cb p w eg (Or.inl ⟨none,0,rfl,rfl⟩) (by simp) (fun x W hx _=>by cases hx)
   have hi:idxR p []= -1:=rfl
   rw[hi]at hix
   clear hp hown
   go_enter Tryz.func100,Tryz.ntmps100
   go_wp2_with fail
   refine hix.mono ?_
   rintro e w1 ⟨rfl,hb1⟩
   clear hix
   go_wp2
   go_ret
   exact⟨none,0,0,rfl,rfl,Or.inl ⟨rfl,fun _=>rfl⟩,But.of_below hb1⟩
 · have he:∀k,(some k=(Value.slice (some ⟨g,0,none⟩) xs.length cap).ownBlock)↔k=g:=fun k=>by simp[Value.ownBlock]
   have hp':TellsB fn cb xs p (fun k=>k=g) w:=fun x W hx hB=>hp x W hx (hB.mono fun k hk=>(he k).2 hk)
   refine(deleteR_any g cap xs fn cb p cur w eg hg (at3_flat htake) (by rw[hcs];omega) hnc hl hp').mono ?_
   rintro e w1 ⟨h1,h2,h3⟩
   exact⟨_,_,_,h1,rfl,Or.inr ⟨g,0,rfl,cells_of_flat h2⟩,h3.mono fun k hk=>(he k).2 hk⟩
end Go.Proofs.YtdhkdjlgmbejnaaGreatDoor
namespace Go.Proofs
open Go.Shelf
def Tryz.indexIt_ren:Go.Shelf.Ren:=⟨fun | 143=>238 | 219=>228 | 217=>243 | 225=>244 | 224=>245 | 267=>246 | 266=>254 | 314=>255 | n=>n,fun | 9=>9 | 3=>3 | 4=>4 | 5=>5 | 46=>172 | 146=>314 | 51=>183 | n=>n,fun | 1=>13 | n=>n⟩
theorem Tryz.indexIt:Go.Proofs.Lays.n143 Tryz.prog Tryz.indexIt_ren:= {
 mixed:=by kernel_rfl
 f143:=Tryz.func238.trans (congrArg some (by kernel_rfl))
 f217:=Tryz.func243.trans (congrArg some (by kernel_rfl))
 f219:=Tryz.func228.trans (congrArg some (by kernel_rfl))
 f224:=Tryz.func245.trans (congrArg some (by kernel_rfl))
 f225:=Tryz.func244.trans (congrArg some (by kernel_rfl))
 f266:=Tryz.func254.trans (congrArg some (by kernel_rfl))
 f267:=Tryz.func246.trans (congrArg some (by kernel_rfl))
 f314:=Tryz.func255.trans (congrArg some (by kernel_rfl))
 t3:=Tryz.underlying3
 a3:=Tryz.isAgg3
 z3:=Tryz.sizeOf3
 v3:=Tryz.zeroValue3
 t4:=Tryz.underlying4
 a4:=Tryz.isAgg4
 z4:=Tryz.sizeOf4
 v4:=Tryz.zeroValue4
 t5:=Tryz.underlying5
 a5:=Tryz.isAgg5
 z5:=Tryz.sizeOf5
 v5:=Tryz.zeroValue5
 t9:=Tryz.underlying9
 a9:=Tryz.isAgg9
 z9:=Tryz.sizeOf9
 v9:=Tryz.zeroValue9
 t46:=Tryz.underlying172
 a46:=Tryz.isAgg172
 z46:=Tryz.sizeOf172
 v46:=Tryz.zeroValue172
 t51:=Tryz.underlying183
 a51:=Tryz.isAgg183
 z51:=Tryz.sizeOf183
 v51:=Tryz.zeroValue183
 t146:=Tryz.underlying314
 a146:=Tryz.isAgg314
 z146:=Tryz.sizeOf314
 v146:=Tryz.zeroValue314
 g1:=by kernel_rfl }
end Go.Proofs
