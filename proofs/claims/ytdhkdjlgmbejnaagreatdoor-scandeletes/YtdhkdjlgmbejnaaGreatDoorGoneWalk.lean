/- By an AI agent. -/
import Derived.Test.YtdhkdjlgmbejnaaGreatDoorStoCopy
import Derived.Laws.IdiomStrings
namespace Go.Proofs.YtdhkdjlgmbejnaaGreatDoor
open Go.RowKit Go.Extern.Stop Go.Stop Go.Extern Go.Maps Go.Sort Go.Shelf Go.Lib
attribute [local go_sem] Oper.semAt_some
set_option maxRecDepth 100000 in
set_option maxHeartbeats 1000000 in
theorem dead1_any (r:Rw) (cb sb b2:Nat) (l:List (Int×Int)) (D:DataW Unit) (q:Int) (W:World) (hc:W.cell? ⟨cb,1,none⟩=some (.map (some b2))) (hs:W.cell? ⟨sb,0,none⟩=some (.int .i64 q)) (hL:Las W b2 l D) (h1: -9223372036854775808≤r.2.1) (h2:r.2.1≤9223372036854775807) :
   Calls Tryz.prog 99 #[.agg #[.string r.1,.int .i64 r.2.1,.int .i64 r.2.2],.pointer (some ⟨cb,0,none⟩),.pointer (some ⟨sb,0,none⟩)] W fun e w'=>e= .returned (.bool (deadB l (r,q)))∧Below W.heap.size W w':=by
 have hal:Below W.heap.size W (W.alloc (.cells #[.string r.1,.int .i64 r.2.1,.int .i64 r.2.2] 54)):=(Below.refl _ _).alloc (Nat.le_refl _) _
 have k1:=below_keep hal hc
 have k2:=below_keep hal hs
 have hlook:=(hL.keep (hal.block b2 hL.map.lt)).look h1 h2
 unfold deadB
 dsimp only
 generalize lastC l r.2.1=lc at hlook ⊢
 obtain⟨rp,rk,rv⟩:=r
 dsimp only at *
 clear hc hs hL h1 h2
 have c1:(W.alloc (.cells #[.string rp,.int .i64 rk,.int .i64 rv] 54)).cell? ⟨W.heap.size,1,none⟩=some (.int .i64 rk):=by simp
 go_enter Tryz.func99,Tryz.ntmps99
 go_upto_region 1 with fail
 generalize W.alloc (.cells #[.string rp,.int .i64 rk,.int .i64 rv] 54)=W1 at *
 go_wp2
 go_ret
 exact⟨rfl,hal⟩
def AlvI (w1:World) (c:Ct) (pre:List Int) (W:World):Prop :=
 (∃v,Boxed W w1.heap.size 33 v∧W.ownsRow w1.heap.size 54 3 v (aliveQ c pre).length (flatR (aliveQ c pre))∧True)∧Below w1.heap.size w1 W
theorem alvI_own {w1:World} {c:Ct} {B:Nat} (hB:w1.heap.size≤B):OwnFrom B (AlvI w1 c) :=
 OwnFrom.and (Own.from (holdsRow_own w1.heap.size w1.heap.size 33 54 3 (fun pre:List Int=>(aliveQ c pre).length) (fun pre=>flatR (aliveQ c pre)) (fun _ _=>True)) _) (ownFrom_below (Nat.le_refl _) hB)
theorem aliveQ_snoc (c:Ct) (pre:List Int) (x:Int):aliveQ c (pre++ [x])=aliveQ c pre++(rowsQ c.1 x).filter fun r=> !deadB c.2 (r,x):=by
 unfold aliveQ
 rw[List.flatMap_append]
 simp
theorem aliveQ_le (c:Ct):∀pre:List Int,(aliveQ c pre).length≤pre.length*c.1.length
 | []=>by simp[aliveQ]
 | x :: r=>by
   have h:=aliveQ_le c r
   have h1:((rowsQ c.1 x).filter fun y=> !deadB c.2 (y,x)).length≤c.1.length:=Nat.le_trans (List.length_filter_le _ _) (by unfold rowsQ;rw[List.length_map];exact List.length_filter_le _ _)
   have e:aliveQ c (x :: r)=((rowsQ c.1 x).filter fun y=> !deadB c.2 (y,x))++aliveQ c r:=by unfold aliveQ;rw[List.flatMap_cons]
   rw[e,List.length_append,List.length_cons,Nat.add_mul]
   omega
set_option maxRecDepth 100000 in
theorem alvI_step {w1 W R0 w3:World} {c:Ct} {pre:List Int} {v:Value} (hv:Boxed W w1.heap.size 33 v) (hrow:W.ownsRow w1.heap.size 54 3 v (aliveQ c pre).length (flatR (aliveQ c pre))) (hB:Below w1.heap.size w1 W) (x:Int) (hR:Below W.heap.size W R0) (hb:Below R0.heap.size R0 w3) {q:Option Addr} {n cc:Nat} (hn:n=((rowsQ c.1 x).filter fun r=> !deadB c.2 (r,x)).length) (hs:Src w3 q n cc (flatR ((rowsQ c.1 x).filter fun r=> !deadB c.2 (r,x)))) (hl:(aliveQ c pre).length+n≤10000000) :
   ∃ v' w4,(∃a b c,v'= .slice a b c)∧(Builtin.append_ #[33,33] 33 #[v,.slice q n cc]).run Tryz.prog w3= .ok v' w4 ∧
     w4.cell? ⟨w1.heap.size,0,none⟩=some v∧w4.frozen? ⟨w1.heap.size,0,none⟩=false∧KeepsOthers W (w4.setCell ⟨w1.heap.size,0,none⟩ v')∧AlvI w1 c (pre++ [x]) (w4.setCell ⟨w1.heap.size,0,none⟩ v')∧Below w1.heap.size W (w4.setCell ⟨w1.heap.size,0,none⟩ v'):=by
 obtain⟨i0,hi0,hz0,hs0,hby0⟩:=Tryz.rowInfo
 have hW3:Below W.heap.size W w3:=hR.trans (hb.mono hR.size)
 have hv3:Boxed w3 w1.heap.size 33 v:=(hW3.block _ hv.lt).trans hv
 have hr3:=own_below hrow hW3
 have hsz:w1.heap.size≤w3.heap.size:=Nat.le_trans hB.size hW3.size
 obtain⟨v',w4,hrun,hown,hgrow,hat⟩:=run_append_src (P:=Tryz.prog) w3 w1.heap.size 33 33 54 i0 (.agg #[.string ⟨#[]⟩,.int .i64 0,.int .i64 0]) 3 32 Tryz.underlying33 hi0 hz0 hs0 hby0 rfl (by decide) v (aliveQ c pre).length (flatR (aliveQ c pre)) hr3 q n cc _ (by rw[flat_len,←hn]) hs (flat_one _) (by unfold maxLen;omega) (by omega) hsz
 have hv4:Boxed w4 w1.heap.size 33 v:=hv3.kept hgrow (hv3.not_row (by decide) hr3)
 have hb4:Below w1.heap.size W w4:=(hW3.mono hB.size).grown hgrow hsz fun k hk=>(own_in hr3 hk).1
 have hkeep:KeepsOthers W (w4.setCell ⟨w1.heap.size,0,none⟩ v'):=by
   refine⟨?_,fun k o hk ho=>?_⟩
   · have:=(grownBy_setCell' w4 w1.heap.size v').size
     exact Nat.le_trans hW3.size (Nat.le_trans hgrow.size this)
   · have hlt:=(Array.getElem?_eq_some_iff.1 hk).1
     have e3:w3.heap[k]? =some o:=(hW3.block k hlt).trans hk
     have e4:w4.heap[k]? =some o:=(hgrow.block k (Nat.lt_of_lt_of_le hlt hW3.size) (fun e=>by
       obtain⟨_,cur,hc⟩:=own_cur hr3 e.symm
       rw[e3]at hc
       cases hc
       cases ho)).trans e3
     refine(Below.heap_setCell w4 _ _ k (fun e=>?_)).trans e4
     have e':k=w1.heap.size:=e
     subst e'
     rw[show w4.heap[w1.heap.size]? =_ from hv4]at e4
     cases e4
     cases ho
 refine⟨v',w4,?_,hrun,hv4.cell,hv4.frozen,hkeep,⟨⟨v',hv4.set v',?_,trivial⟩,?_⟩,?_⟩
 · obtain⟨d,hd⟩:=hdQ_own hown
   exact hdQ_form hd
 · rw[aliveQ_snoc,List.length_append,flat_append,←hn]
   exact hown.kept (grownBy_setCell' w4 w1.heap.size v') (.inr (hv4.not_row (by decide) hown).symm)
 · exact hB.trans (hb4.setCell (Nat.le_refl _) _)
 · exact hb4.setCell (Nat.le_refl _) _
theorem stepIn_append_run {n:Nat} {P:Program} {ops:Array Oper} {o:Oper} {a:Act} {w w':World} {K:Act→World→Prop} {Q:Exit→Act→World→Prop} {E:Prop}
   (hg:o.guard=none) (s x:Operand) (t:TypeId) (hop:o.op=Op.call { callee:=Callee.builtin Builtin.append,args:=#[s,x],argTypes:=#[t,t] }) (v u v':Value) (hs:a.eval s=v) (hx:a.eval x=u)
   (hrun:(Builtin.append_ #[t,t] o.type #[v,u]).run P w= .ok v' w') (hK:K (a.put o.dst v') w'):if Region.wanted o (yielded ops a.tmps)=true then Oper.wpIn Fence.wide n P o a w K Q else E:=by
 have hw:Region.wanted o (yielded ops a.tmps)=true:=by simp[Region.wanted,hg]
 rw[if_pos hw]
 unfold Oper.wpIn
 refine⟨fun _ _=>trivial,?_⟩
 rw[Oper.semAt_plain Fence.wide _ _ (by rw[hop];intro c hc';cases hc')]
 simp[execOp,hop,resolve,invoke,builtin,hs,hx,hrun,Result.andThen]
 exact hK
set_option maxRecDepth 100000 in
set_option maxHeartbeats 4000000 in
theorem alive_any (w:World) (base b1 b2:Nat) (c:Ct) (qs:List Int) (h:CtAt w base b1 b2 c qs) (hk:∀p∈c.1,-9223372036854775808≤p.1.2.1∧p.1.2.1≤9223372036854775807) (hl:c.1.length≤10000) (hql:qs.length≤100) :
   Calls Tryz.prog 44 #[ctV b1 b2] w fun e w'=> ∃v' ps,e= .returned v'∧ps.Nodup∧(∀z∈qs,z∈ps)∧RowsAt w' v' (aliveQ c ps)∧Below w.heap.size w w':=by
 obtain⟨⟨D,hv,hG⟩,⟨D2,hL⟩,hlow,hne⟩:=h
 have hal1:Below w.heap.size w (w.alloc (.cells #[.map (some b1),.map (some b2)] 88)):=(Below.refl _ _).alloc (Nat.le_refl _) _
 have hcb:(w.alloc (.cells #[.map (some b1),.map (some b2)] 88)).heap[w.heap.size]? =some (.cells #[.map (some b1),.map (some b2)] 88 (0,0)):=heap_alloc_new _ _
 have hs1:(w.alloc (.cells #[.map (some b1),.map (some b2)] 88)).heap.size=w.heap.size+1:=by simp
 have hB1l:=hG.map.lt
 have HG:Hid (∀X,Below w.heap.size w X→Gri X base b1 c.1 qs D hv∧Las X b2 c.2 D2):=fun X hX=>⟨hG.below hX,hL.keep (hX.block b2 hL.map.lt)⟩
 have HD:Hid (∀z,hdQ (hv z)=some (D.atKey (.int .i64 z) .nil, [])):=hG.hd
 have HHAS:Hid (∀z,Maps.has D (.int .i64 z)=true↔z∈qs):=hG.has
 have HKEY:Hid (∀p∈c.1,-9223372036854775808≤p.1.2.1∧p.1.2.1≤9223372036854775807):=hk
 have HW1:Hid (Below w.heap.size w (w.alloc (.cells #[.map (some b1),.map (some b2)] 88))∧(w.alloc (.cells #[.map (some b1),.map (some b2)] 88)).heap[w.heap.size]? =some (.cells #[.map (some b1),.map (some b2)] 88 (0,0))):=⟨hal1,hcb⟩
 clear hG hL hk hal1 hcb
 refine(callsIn_wide (n:=7)).1 ?_
 refine callsIn_of_wp_marks Tryz.func44 rfl trivial ?_ rfl
 simp only[Tryz.ntmps44,List.size_toArray,List.length_cons,List.length_nil,Nat.reduceAdd,Nat.reduceSub,Array.replicate_succ,Array.replicate_zero,List.push_toArray,List.append_toArray,List.nil_append,List.cons_append]
 gi_wp2_with (refine⟨trivial,?_⟩;gi_at_call 98;refine(allR_any _ _ _).mono ?_;rintro e w' ⟨rfl,rfl⟩)
 have hbx:=Boxed.new ((w.alloc (.cells #[.map (some b1),.map (some b2)] 88)).alloc (.cells #[.slice none 0 0] 33)) 85 (.map (some b1))
 have hav:Boxed (((w.alloc (.cells #[.map (some b1),.map (some b2)] 88)).alloc (.cells #[.slice none 0 0] 33)).alloc (.cells #[.map (some b1)] 85)) (w.heap.size+1) 33 (.slice none 0 0):=by
   have:=(Boxed.new (w.alloc (.cells #[.map (some b1),.map (some b2)] 88)) 33 (.slice none 0 0)).alloc (.cells #[.map (some b1)] 85)
   simpa using this
 have hB0:Below (w.heap.size+1) (w.alloc (.cells #[.map (some b1),.map (some b2)] 88)) (((w.alloc (.cells #[.map (some b1),.map (some b2)] 88)).alloc (.cells #[.slice none 0 0] 33)).alloc (.cells #[.map (some b1)] 85)):=((Below.refl _ _).alloc (by simp) _).alloc (by simp) _
 have hsz:(((w.alloc (.cells #[.map (some b1),.map (some b2)] 88)).alloc (.cells #[.slice none 0 0] 33)).alloc (.cells #[.map (some b1)] 85)).heap.size=w.heap.size+3:=by simp
 simp only[World.size_alloc]at hbx
 generalize ((w.alloc (.cells #[.map (some b1),.map (some b2)] 88)).alloc (.cells #[.slice none 0 0] 33)).alloc (.cells #[.map (some b1)] 85)=W0 at hbx hav hB0 hsz ⊢
 generalize w.alloc (.cells #[.map (some b1),.map (some b2)] 88)=w1 at HW1 hs1 hB0 ⊢
 have HB1:Hid (∀X,Below w1.heap.size w1 X→Below w.heap.size w X):=fun X hX=>HW1.out.1.trans (hX.mono (by omega))
 rw[←hs1]at hB0 hav
 have hG0:=(HG.out W0 (HB1.out W0 hB0)).1
 refine wpIn_rangeFunc_ownH (F:=Fence.wide) rfl (by decide) (gf:=146) (lb:=#[.pointer (some ⟨w.heap.size+1+1,0,none⟩)]) rfl trivial (enters_of Tryz.func146 (by kernel_rfl) rfl)
   (allR_stops _ (by decide) w1.heap.size (w.heap.size+1+1) b1 (by omega) qs.length D hv HD.out _ hbx.cell hG0.map) (fun h k=>h.trans k) (fun W l o o' hl ho _ hw=>KpM.put W l o o' (by omega) ho hw) (Below.refl _ _) (fun _=>rfl)
   (AlvI w1 c) (fun _ _ _=>False) (alvI_own (by omega)) (fun _ _ _ _ _ hs _ _=>hs.elim) ?start (fun x a' W=> ∃sb,Boxed W sb 3 (.int .i64 x)∧a'= { tmps:=#[ctV b1 b2,.pointer (some ⟨w.heap.size,0,none⟩),.slice none 0 0,.pointer (some ⟨w.heap.size+1,0,none⟩),.pointer (some ⟨sb,0,none⟩),hv x,undef,.pointer (some ⟨w.heap.size,0,none⟩),.map (some b1),.func (.func 146) #[] #[.pointer (some ⟨w.heap.size+1+1,0,none⟩)],.int .i64 x,hv x,undef,undef,undef,undef,undef,undef,undef,undef],defers:= [] }) ?ax ?assign ?body ?done ?stop
 case assign =>
   intro l pre x W K hI hK
   have hnx:=Boxed.new W 3 (.int .i64 x)
   have hIn:=(alvI_own (c:=c) (w1:=w1) (B:=W0.heap.size) (by omega)).alloc (.cells #[.int .i64 x] 3) hI
   have hkf:KeepsFrom W0.heap.size W (W.alloc (.cells #[.int .i64 x] 3)):=(KeepsOthers.alloc W _).from _
   have hkm:KpM w1.heap.size W (W.alloc (.cells #[.int .i64 x] 3)):=⟨by simp,fun k hk=>Below.heap_alloc _ _ _ (Nat.lt_of_lt_of_le hk hI.2.size),fun k p s e cc hk=>(Below.heap_alloc _ _ _ (Array.getElem?_eq_some_iff.1 hk).1).trans hk⟩
   have HK:Hid (∀a',(∃sb,Boxed (W.alloc (.cells #[.int .i64 x] 3)) sb 3 (.int .i64 x)∧a'= { tmps:=#[ctV b1 b2,.pointer (some ⟨w.heap.size,0,none⟩),.slice none 0 0,.pointer (some ⟨w.heap.size+1,0,none⟩),.pointer (some ⟨sb,0,none⟩),hv x,undef,.pointer (some ⟨w.heap.size,0,none⟩),.map (some b1),.func (.func 146) #[] #[.pointer (some ⟨w.heap.size+1+1,0,none⟩)],.int .i64 x,hv x,undef,undef,undef,undef,undef,undef,undef,undef],defers:= [] })→K a' (W.alloc (.cells #[.int .i64 x] 3))):=fun a' ha=>hK a' _ hkf hkm hIn ha
   clear hK hI hIn hkf hkm
   gi_wp2
   exact HK.out _ ⟨W.heap.size,hnx,rfl⟩
 case ax =>
   rintro x a' u X Y row ⟨sb,hb,e⟩ hg hr
   exact⟨sb,hb.kept hg (fun e'=>by
     obtain⟨_,o,ho,hc⟩:=hr sb e'.symm
     rw[show X.heap[sb]? =_ from hb]at ho
     cases ho
     cases hc),e⟩
 case start=>exact ⟨⟨_,hav,by simp[aliveQ,flatR];exact World.ownsRow_nil _ _ _ _,trivial⟩,hB0⟩
 case stop =>
   rintro D' cc pre W _ _ hf _
   exact hf.elim
 case body =>
   rintro l pre x a' W _ _ ⟨⟨v,hvb,hrow,-⟩,hB⟩ ⟨sb,hsb,rfl⟩ hlen
   have eg:∀args w,(callFunc 99 args).run Tryz.prog w= .ok (.enter 99 args) w:=enters_of Tryz.func99 (by kernel_rfl) rfl
   have hbd:Below W.heap.size W W.drew:=(Below.refl _ _).drew
   have hBW:Below w.heap.size w W.drew:=(HB1.out W hB).trans (hbd.mono (HB1.out W hB).size)
   obtain⟨hGW,hLW⟩:=HG.out W.drew hBW
   have hrq:RowsAt W.drew (hv x) (rowsQ c.1 x):=(rowsAt_of_own (hGW.own x)).1
   have hrl:(rowsQ c.1 x).length≤10000:=by
     refine Nat.le_trans ?_ hl
     unfold rowsQ
     rw[List.length_map]
     exact List.length_filter_le _ _
   have HCL:Hid (Calls Tryz.prog 95 #[hv x] W.drew fun e w'=> ∃v',e= .returned v'∧w'.ownsRow W.drew.heap.size 54 3 v' (rowsQ c.1 x).length (flatR (rowsQ c.1 x))∧Below W.drew.heap.size W.drew w'):=clone_any (hv x) _ W.drew hrq (by omega)
   have hcbl:W.drew.heap[w.heap.size]? =some (.cells #[.map (some b1),.map (some b2)] 88 (0,0)):=(hB.block w.heap.size (by omega)).trans HW1.out.2
   have kc:W.drew.cell? ⟨w.heap.size,1,none⟩=some (.map (some b2)):=by rw[cell_of_row _ _ _ _ _ _ hcbl];rfl
   have ks:W.drew.cell? ⟨sb,0,none⟩=some (.int .i64 x):=hsb.cell
   have HDL:Hid (∀(w2:World) (v2:Value),w2.ownsRow W.drew.heap.size 54 3 v2 (rowsQ c.1 x).length (flatR (rowsQ c.1 x))→Below W.drew.heap.size W.drew w2→Calls Tryz.prog 100 #[v2,.func (.func 99) #[] #[.pointer (some ⟨w.heap.size,0,none⟩),.pointer (some ⟨sb,0,none⟩)]] w2 (CutP v2 ((rowsQ c.1 x).filter fun r=> !deadB c.2 (r,x)) w2)):=fun w2 v2 ho2 hb2=>by
     refine deleteR_own v2 (rowsQ c.1 x) W.drew.heap.size _ _ (fun r=>deadB c.2 (r,x)) w2 eg ho2 (by omega) ?_
     intro r X hr hX
     have hXb:Below W.drew.heap.size W.drew X:=hb2.trans (hX.below hb2.size fun k hk=>(own_in ho2 hk.symm).1)
     have hrk: -9223372036854775808≤r.2.1∧r.2.1≤9223372036854775807:=by
       unfold rowsQ at hr
       obtain⟨p,hp,rfl⟩:=List.mem_map.1 hr
       exact HKEY.out p (List.mem_filter.1 hp).1
     exact dead1_any r w.heap.size sb b2 c.2 D2 x X (below_keep hXb kc) (below_keep hXb ks) (hLW.keep (hXb.block b2 hLW.map.lt)) hrk.1 hrk.2
   have hal:=aliveQ_le c pre
   have hmul:pre.length*c.1.length≤100*10000:=Nat.mul_le_mul (by omega) hl
   have HCE:Hid (∀(w2 w3:World) (v2:Value),w2.ownsRow W.drew.heap.size 54 3 v2 (rowsQ c.1 x).length (flatR (rowsQ c.1 x))→Below W.drew.heap.size W.drew w2→But (fun k=>some k=v2.ownBlock) w2 w3→w3.cell? ⟨w1.heap.size,0,none⟩=some v):=fun w2 w3 v2 ho2 hb2 hB3=>by
     have h3:Below W.drew.heap.size W.drew w3:=hb2.trans (hB3.below hb2.size fun k hk=>(own_in ho2 hk.symm).1)
     exact below_keep h3 (show W.drew.cell? _=_ from hvb.cell)
   have HST:Hid (∀(w2 w3:World) (v2:Value) (q3:Option Addr) (n3 c3:Nat),w2.ownsRow W.drew.heap.size 54 3 v2 (rowsQ c.1 x).length (flatR (rowsQ c.1 x))→Below W.drew.heap.size W.drew w2→But (fun k=>some k=v2.ownBlock) w2 w3→n3=((rowsQ c.1 x).filter fun r=> !deadB c.2 (r,x)).length→Src w3 q3 n3 c3 (flatR ((rowsQ c.1 x).filter fun r=> !deadB c.2 (r,x))) →
       ∃vq vn vc w4,(Builtin.append_ #[33,33] 33 #[v,.slice q3 n3 c3]).run Tryz.prog w3= .ok (.slice vq vn vc) w4∧w4.cell? ⟨w1.heap.size,0,none⟩=some v∧w4.frozen? ⟨w1.heap.size,0,none⟩=false ∧
       (KeepsFrom W0.heap.size W (w4.setCell ⟨w1.heap.size,0,none⟩ (.slice vq vn vc))∧KpM w1.heap.size W (w4.setCell ⟨w1.heap.size,0,none⟩ (.slice vq vn vc))∧AlvI w1 c (pre++ [x]) (w4.setCell ⟨w1.heap.size,0,none⟩ (.slice vq vn vc)))):=fun w2 w3 v2 q3 n3 c3 ho2 hb2 hB3 hn3 hs3=>by
     have h3:Below W.drew.heap.size W.drew w3:=hb2.trans (hB3.below hb2.size fun k hk=>(own_in ho2 hk.symm).1)
     have hn4:n3≤10000:=by rw[hn3];exact Nat.le_trans (List.length_filter_le _ _) hrl
     obtain⟨v',w4,⟨vq,vn,vc,rfl⟩,r4,k4,f4,hko,hI4,hb4⟩:=alvI_step hvb hrow hB x hbd h3 hn3 hs3 (by omega)
     refine⟨vq,vn,vc,w4,r4,k4,f4,hko.from _,⟨hko.size,fun k hk=>hb4.block k hk,fun k p s e cc hk'=>hko.same k _ hk' rfl⟩,hI4⟩
   have k0:W.drew.cell? ⟨w1.heap.size,0,none⟩=some v:=hvb.cell
   have HC2:Hid (∀(w2:World),Below W.drew.heap.size W.drew w2→w2.cell? ⟨w1.heap.size,0,none⟩=some v):=fun w2 hb2=>below_keep hb2 k0
   obtain⟨yq,yn,yc,rfl⟩:∃a b c,v= .slice a b c:=by
     obtain⟨d,hd⟩:=hdQ_own hrow
     exact hdQ_form hd
   obtain⟨xq,xn,xc,hvx⟩:=hdQ_form (HD.out x)
   rw[hvx]at HCL ⊢
   clear hbx hav hG0 hal hmul hrq hrl hGW hLW hcbl kc ks hvb hrow hB hsb hlen hbd hBW eg hvx
   rw[hs1]at k0 HST HCE HC2
   have HFIX:Hid (∀X,KpM (w.heap.size+1) W X→KpM w1.heap.size W X):=fun X h=>by rw[hs1];exact h
   gi_wp2
   refine wpIn_region_any (by kernel_rfl) ?_
   refine any_round l (by kernel_rfl) _ _ _ _ ?_
   change wpAnyIn _ _ _ _ _ _ _ _ _ (World.drew _)
   refine wpAnyIn_take (i:=1) (v:=?_) rfl rfl (by kernel_rfl) (by kernel_rfl) (by kernel_rfl) (fun _ _ _ h=>h) ⟨Or.inl ⟨by rfl,?_⟩,fun _=>rfl⟩ ?_
   rotate_left
   focus ((intro w;go_simp)<;>with_reducible rfl)
   refine wpAnyIn_take (i:=3) (v:=?_) rfl rfl (by kernel_rfl) (by kernel_rfl) (by kernel_rfl) (fun _ _ _ h=>h) ⟨Or.inl ⟨by rfl,?_⟩,fun _=>rfl⟩ ?_
   rotate_left
   focus ((intro w;go_simp)<;>with_reducible rfl)
   refine wpAnyIn_ready (rs:= [0,2]) (by kernel_rfl) (by simp) ?_
   refine AllReadyIn.cons rfl (fun K hK=>?_) ?_
   · go_simp
     refine hK _ _ ?_
     clear hK K
     refine wpAnyIn_ready (rs:= [2]) (by kernel_rfl) (by simp) ?_
     refine AllReadyIn.cons rfl (fun K hK=>?_) ?_
     · go_simp
       gi_wp2_with (refine⟨trivial,?_⟩;gi_at_call 95;refine((callsIn_wide).2 HCL.out).mono ?_;rintro e w2 ⟨v2,rfl,ho2,hb2⟩)
       have k2:=HC2.out w2 hb2
       refine wpAnyIn_ready (rs:= [4]) (by kernel_rfl) (by simp) ?_
       refine AllReadyIn.cons rfl (fun K hK=>?_) ?_
       · go_simp
         have hdl:=HDL.out w2 v2 ho2 hb2
         gi_wp2_with (refine⟨trivial,?_⟩;gi_at_call 100;refine((callsIn_wide).2 hdl).mono ?_;rintro e w3 ⟨q3,n3,c3,rfl,hn3,hs3,hB3⟩;have HN3:Hid _:=hn3;clear hn3)
         obtain⟨vq,vn,vc,w4,r4,k4,f4,hend⟩:=HST.out w2 w3 v2 q3 n3 c3 ho2 hb2 hB3 HN3.out hs3
         have k3:=HCE.out w2 w3 v2 ho2 hb2 hB3
         refine wpAnyIn_ready (rs:= [5]) (by kernel_rfl) (by simp) ?_
         refine AllReadyIn.cons rfl (fun K hK=>?_) ?_
         · refine stepIn_append_run (by rfl) _ _ _ (by rfl) _ _ _ (by rfl) (by rfl) r4 ?_
           refine hK _ _ ?_
           clear hK K
           refine wpAnyIn_ready (rs:= [6]) (by kernel_rfl) (by simp) ?_
           refine AllReadyIn.cons rfl (fun K hK=>?_) ?_
           · go_simp
             refine hK _ _ ?_
             clear hK K
             refine wpAnyIn_done (by kernel_rfl) ?_ _
             have hfin:=And.intro hend.1 (And.intro (HFIX.out _ hend.2.1) hend.2.2)
             exact hfin
           exact AllReadyIn.nil
         exact AllReadyIn.nil
       exact AllReadyIn.nil
     exact AllReadyIn.nil
   refine AllReadyIn.cons rfl (fun K hK=>?_) ?_
   · go_simp
     gi_wp2_with (refine⟨trivial,?_⟩;gi_at_call 95;refine((callsIn_wide).2 HCL.out).mono ?_;rintro e w2 ⟨v2,rfl,ho2,hb2⟩)
     have k2:=HC2.out w2 hb2
     refine wpAnyIn_ready (rs:= [0,4]) (by kernel_rfl) (by simp) ?_
     refine AllReadyIn.cons rfl (fun K hK=>?_) ?_
     · go_simp
       refine hK _ _ ?_
       clear hK K
       refine wpAnyIn_ready (rs:= [4]) (by kernel_rfl) (by simp) ?_
       refine AllReadyIn.cons rfl (fun K hK=>?_) ?_
       · go_simp
         have hdl:=HDL.out w2 v2 ho2 hb2
         gi_wp2_with (refine⟨trivial,?_⟩;gi_at_call 100;refine((callsIn_wide).2 hdl).mono ?_;rintro e w3 ⟨q3,n3,c3,rfl,hn3,hs3,hB3⟩;have HN3:Hid _:=hn3;clear hn3)
         obtain⟨vq,vn,vc,w4,r4,k4,f4,hend⟩:=HST.out w2 w3 v2 q3 n3 c3 ho2 hb2 hB3 HN3.out hs3
         have k3:=HCE.out w2 w3 v2 ho2 hb2 hB3
         refine wpAnyIn_ready (rs:= [5]) (by kernel_rfl) (by simp) ?_
         refine AllReadyIn.cons rfl (fun K hK=>?_) ?_
         · refine stepIn_append_run (by rfl) _ _ _ (by rfl) _ _ _ (by rfl) (by rfl) r4 ?_
           refine hK _ _ ?_
           clear hK K
           refine wpAnyIn_ready (rs:= [6]) (by kernel_rfl) (by simp) ?_
           refine AllReadyIn.cons rfl (fun K hK=>?_) ?_
           · go_simp
             refine hK _ _ ?_
             clear hK K
             refine wpAnyIn_done (by kernel_rfl) ?_ _
             have hfin:=And.intro hend.1 (And.intro (HFIX.out _ hend.2.1) hend.2.2)
             exact hfin
           exact AllReadyIn.nil
         exact AllReadyIn.nil
       exact AllReadyIn.nil
     refine AllReadyIn.cons rfl (fun K hK=>?_) ?_
     · go_simp
       have hdl:=HDL.out w2 v2 ho2 hb2
       gi_wp2_with (refine⟨trivial,?_⟩;gi_at_call 100;refine((callsIn_wide).2 hdl).mono ?_;rintro e w3 ⟨q3,n3,c3,rfl,hn3,hs3,hB3⟩;have HN3:Hid _:=hn3;clear hn3)
       obtain⟨vq,vn,vc,w4,r4,k4,f4,hend⟩:=HST.out w2 w3 v2 q3 n3 c3 ho2 hb2 hB3 HN3.out hs3
       have k3:=HCE.out w2 w3 v2 ho2 hb2 hB3
       refine wpAnyIn_ready (rs:= [0]) (by kernel_rfl) (by simp) ?_
       refine AllReadyIn.cons rfl (fun K hK=>?_) ?_
       · go_simp
         refine hK _ _ ?_
         clear hK K
         refine wpAnyIn_ready (rs:= [5]) (by kernel_rfl) (by simp) ?_
         refine AllReadyIn.cons rfl (fun K hK=>?_) ?_
         · refine stepIn_append_run (by rfl) _ _ _ (by rfl) _ _ _ (by rfl) (by rfl) r4 ?_
           refine hK _ _ ?_
           clear hK K
           refine wpAnyIn_ready (rs:= [6]) (by kernel_rfl) (by simp) ?_
           refine AllReadyIn.cons rfl (fun K hK=>?_) ?_
           · go_simp
             refine hK _ _ ?_
             clear hK K
             refine wpAnyIn_done (by kernel_rfl) ?_ _
             have hfin:=And.intro hend.1 (And.intro (HFIX.out _ hend.2.1) hend.2.2)
             exact hfin
           exact AllReadyIn.nil
         exact AllReadyIn.nil
       exact AllReadyIn.nil
     exact AllReadyIn.nil
   exact AllReadyIn.nil
 case done =>
   rintro D' ps W hD ⟨hnd,hall⟩ hI hK
   have hI2:AlvI w1 c ps (W.putObj D' (.deferred none)):=(alvI_own (c:=c) (w1:=w1) (B:=W0.heap.size) (by omega)) ps W _ (some D') hI (grownBy_putObj' W D' _) (fun r e=>by cases e;exact⟨hD,_,hK,rfl⟩)
   obtain⟨⟨v,hvb,-,-⟩,-⟩:=hI
   obtain⟨⟨v',hvb',hrow',-⟩,hB'⟩:=hI2
   have hvv:v'=v:=by
     have e1:(W.putObj D' (.deferred none)).heap[w1.heap.size]? =W.heap[w1.heap.size]? :=World.putObj_heap_other (by omega)
     have:=(show (W.putObj D' (.deferred none)).heap[w1.heap.size]? =_ from hvb').symm.trans (e1.trans (show W.heap[w1.heap.size]? =_ from hvb))
     injection this with this
     injection this with this
     simpa using this
   subst hvv
   have hc:=hvb.cell
   rw[hs1]at hc
   have HEND:Hid (RowsAt (W.putObj D' (.deferred none)) v' (aliveQ c ps)∧Below w.heap.size w (W.putObj D' (.deferred none))):=⟨(rowsAt_of_own hrow').1,HB1.out _ hB'⟩
   obtain⟨yq,yn,yc,rfl⟩:∃a b c,v'= .slice a b c:=by
     obtain⟨d,hd⟩:=hdQ_own hrow'
     exact hdQ_form hd
   clear hvb hvb' hrow' hB' hbx hav hG0
   gi_wp2
   refine⟨by simp,.inl ⟨_,_,rfl,run_takeDeferred hK,?_⟩⟩
   exact⟨_,results_tmp rfl _ _ _,.slice yq yn yc,ps,rfl,hnd,fun z hz=>hall z ((HHAS.out z).2 hz),HEND.out.1,HEND.out.2⟩
end Go.Proofs.YtdhkdjlgmbejnaaGreatDoor
namespace Go.Proofs.YtdhkdjlgmbejnaaGreatDoor
open Go.RowKit Go.Extern.Stop Go.Stop Go.Extern Go.Sort Go.Shelf Go.Lib
def dataT (xs:List Rw):ByteArray:=if xs.all (fun x=>decide (rowE x=0))=true then bytesOf (fileOf (sortR xs)) else ⟨#[]⟩
def goneT (zs:List Int):ByteArray:=if zs.all inNum=true then bytesOf (goneF (riseZ zs)) else ⟨#[]⟩
theorem bytes_size (l:List UInt8):(bytesOf l).size=l.length:=by simp[bytesOf,ByteArray.size]
theorem dataT_size {xs:List Rw} (hl:xs.length≤40):(dataT xs).size≤1400:=by
 unfold dataT
 split
 · rename_i h
   rw[List.all_eq_true]at h
   rw[bytes_size]
   exact file_len _ (fun x hx=>by simpa using h x ((sortR_perm xs).mem_iff.1 hx)) (by rw[(sortR_perm xs).length_eq];exact hl)
 · exact Nat.zero_le _
theorem goneT_size {zs:List Int} (hl:zs.length≤40):(goneT zs).size≤1400:=by
 unfold goneT
 split
 · rename_i h
   rw[List.all_eq_true]at h
   rw[bytes_size]
   exact fileG_len gone_fine _ (fun x hx=>h x ((rise_mem zs x).1 hx)) (Nat.le_trans (rise_len zs) hl)
 · exact Nat.zero_le _
structure Both (EM:World→Prop) (SAt:World→Value→(Nat→Prop)→St→Prop) (B:Nat) (w0 W:World) (v:Value) (FP:Nat→Prop) (s:St) (b:Nat) (r:St):Prop where
 ok:SOk EM SAt B w0 W v FP s
 mat:MAt W b r
 off:¬FP b
 le:B≤b
 objs:∀vL,W.cell? ⟨b,0,none⟩=some vL→r.obs≠ []→∀a n c,vL= .slice (some a) n c→¬FP a.block
theorem MAt.cell {W:World} {b:Nat} {r:St} (h:MAt W b r):∃vL,W.cell? ⟨b,0,none⟩=some vL∧MC W b vL r∧ObsAt W vL r.obs:=by
 obtain⟨vL,h1,h2⟩:=h
 exact⟨vL,h1.cells.1,h1,h2⟩
theorem MAt.lt {W:World} {b:Nat} {r:St} (h:MAt W b r):b<W.heap.size:=by
 obtain⟨vL,h1,_⟩:=h
 exact h1.lt
theorem obs_but2 {W W':World} {P:Nat→Prop} {v:Value} {l:List Ob} (h:ObsAt W v l) (ho:l≠ []→∀a n c,v= .slice (some a) n c→¬P a.block) (hb:But P W W'):ObsAt W' v l:=by
 rcases h with h | ⟨b,o,c,hv,hl,hc⟩
 · exact Or.inl h
 · by_cases hne:l= []
   · exact Or.inl ⟨some ⟨b,o,none⟩,c,by rw[hv,hne];rfl,fun e=>(nomatch e),hne⟩
   · have hn:=ho hne _ _ _ hv
     exact Or.inr ⟨b,o,c,hv,hl,fun j hj=>⟨hb.keep hn (hc j hj).1,hb.keep hn (hc j hj).2.1,hb.keep hn (hc j hj).2.2⟩⟩
theorem obs_lt {W:World} {v:Value} {l:List Ob} (h:ObsAt W v l) (hne:l≠ []) {a:Addr} {n c:Nat} (e:v= .slice (some a) n c):a.block<W.heap.size:=by
 rcases h with⟨_,_,_,_,e'⟩|⟨b,o,c',hv,hl,hc⟩
 · exact absurd e' hne
 · rw[hv]at e
   simp only[Value.slice.injEq,Option.some.injEq]at e
   rw[←e.1]
   exact cell_lt (hc 0 (List.length_pos_iff.2 hne)).1
section
variable {a : Nat → Addr} {B : Nat} {EM : World → Prop} {SAt : World → Value → (Nat → Prop) → St → Prop}
theorem Both.quiet (K:StoreK a B EM SAt) {w0 W w':World} {v:Value} {FP:Nat→Prop} {s r:St} {b:Nat} (h:Both EM SAt B w0 W v FP s b r) (hb:Below W.heap.size W w'):Both EM SAt B w0 w' v FP s b r:=by
 refine⟨h.ok.quiet K hb,h.mat.below hb,h.off,h.le,fun vL hv hne=>?_⟩
 obtain⟨vL',h1,_,_⟩:=h.mat.cell
 rw[below_keep hb h1]at hv
 cases hv
 exact h.objs _ h1 hne
theorem Both.prog (K:StoreK a B EM SAt) {w0 W w':World} {v:Value} {FP:Nat→Prop} {s s' r:St} {b:Nat} (h:Both EM SAt B w0 W v FP s b r) (hp:SPost SAt W v FP s' w'):∃FP',Both EM SAt B w0 w' v FP' s' b r∧But FP W w'∧∀k,FP' k→FP k∨W.heap.size≤k:=by
 obtain⟨FP',h1,h2,h3⟩:=h.ok.post K hp
 obtain⟨vL,c1,c2,c3⟩:=h.mat.cell
 have hc:w'.cell? ⟨b,0,none⟩=some vL:=h2.keep h.off c1
 refine⟨FP',⟨h1,⟨vL,c2.but h2 h.off,obs_but2 c3 (fun hne a n c e=>h.objs _ c1 hne a n c e) h2⟩,fun hF=>?_,h.le,fun vL' hv hne a n c e hF=>?_⟩,h2,h3⟩
 · rcases h3 b hF with h4 | h4
   · exact h.off h4
   · have:=h.mat.lt;omega
 · rw[hc]at hv
   cases hv
   rcases h3 _ hF with h4 | h4
   · exact h.objs _ c1 hne a n c e h4
   · have:=obs_lt c3 hne e;omega
theorem Both.doc (K:StoreK a B EM SAt) {w0 W w':World} {v:Value} {FP:Nat→Prop} {s r r':St} {b:Nat} (h:Both EM SAt B w0 W v FP s b r) (hp:MPost W b r' w'):Both EM SAt B w0 w' v FP s b r':=by
 obtain⟨h1,h2,h3⟩:=hp
 have hB:=K.size _ h.ok.env
 have hb:Below B W w':=h2.below hB (fun k e=>by rw[e];exact h.le)
 refine⟨⟨K.below _ _ h.ok.env hb,h.ok.frame.trans hb,h.ok.le,K.keep _ _ _ _ _ _ h.ok.at_ h2 (fun k hk e=>h.off (e▸hk)),h.ok.new⟩,h1,h.off,h.le,fun vL' hv hne a n c e hF=>?_⟩
 obtain⟨vL,c1,c2,c3⟩:=h.mat.cell
 obtain⟨vL2,d1,d2⟩:=h3 vL c1
 rw[d1]at hv
 cases hv
 rcases d2 with d2 | d2
 · subst d2
   obtain⟨u,u1,_,u3⟩:=h1.cell
   rw[d1]at u1
   cases u1
   obtain⟨p1,q1,e1⟩:=c3.form
   obtain⟨p2,q2,e2⟩:=u3.form
   rw[e1]at e2
   simp only[Value.slice.injEq]at e2
   refine h.objs _ c1 (fun e0=>hne ?_) a n c e hF
   rw[e0]at e2
   exact List.length_eq_zero_iff.1 e2.2.1.symm
 · have:=d2 a n c e
   have:=K.lt _ _ _ _ _ h.ok.at_ hF
   omega
end
theorem src_keys {w:World} {q:Option Addr} {c:Nat} {zs:List Int} (h:KeysAt w (.slice q zs.length c) zs) (hq:q=none→c=0):Src w q zs.length c (zs.map (Value.int .i64)):=by
 rcases h with⟨_,_,_,rfl⟩|⟨b,o,cap,e,hc⟩
 · exact Or.inl ⟨rfl,hq⟩
 · injection e with e1
   refine Or.inr ⟨b,o,e1,fun j u hj=>?_⟩
   rw[List.getElem?_map,Option.map_eq_some_iff]at hj
   obtain⟨y,hy,rfl⟩:=hj
   obtain⟨hjl,e⟩:=List.getElem?_eq_some_iff.1 hy
   rw[←e]
   exact hc j hjl
end Go.Proofs.YtdhkdjlgmbejnaaGreatDoor
