/- By an AI agent. -/
import Derived.Test.YtgckdomafbnmkaaGreatDoorSnapLaw
import Derived.Laws.EntriesVeiled
namespace Go.Proofs.YtgckdomafbnmkaaGreatDoor
open Go.RowKit Go.Extern.Stop Go.Stop Go.Extern Go.Sort Go.Shelf Go.Lib
theorem tab_all {l:List Pc} (h:pcsLong l=false):TabOk (tabT l) l.length∧l.length≤15∧TabX (tabT l) l.length:=by
 unfold pcsLong at h
 rw[Bool.or_eq_false_iff,decide_eq_false_iff_not]at h
 have hp:∀p∈l,pcLong p=false:=fun p hp=>by
   have:=List.any_eq_false.1 h.2 p hp
   simpa using this
 have hl:l.length≤15:=by omega
 have h1:=tabT_ok hp l.length (Nat.le_refl _)
 have h2:=tabX hp hl l.length (Nat.le_refl _)
 rw[List.take_length]at h1 h2
 exact⟨h1,hl,h2⟩
theorem tab_short {l:List Pc} (h:pcsLong l=false):(tabT l).1.length≤15∧Short (tabT l).1:=by
 obtain⟨h1,h2,-⟩:=tab_all h
 exact⟨Nat.le_trans h1.many h2,fun g hg=>by have:=h1.size g hg;omega⟩
structure ScI (EM:World→Prop) (SAt:World→Value→(Nat→Prop)→St→Prop) (w W:World) (v:Value) (FP:Nat→Prop) (st:St) (sb:Nat) (s:Sn) (vf:Value):Prop where
 ok:SOk (upE EM w.heap.size) SAt w.heap.size w W v FP st
 off:¬FP sb
 le:w.heap.size≤sb
 snap:SnAt W sb s vf
 files:FlsAt W vf s.2.2.2.2.2.2
section
variable {a : Nat → Addr} {B : Nat} {EM : World → Prop} {SAt : World → Value → (Nat → Prop) → St → Prop}
theorem SOk.but {w W W':World} {v:Value} {FP P:Nat→Prop} {st:St} (K:StoreK a w.heap.size (upE EM w.heap.size) SAt) (h:SOk (upE EM w.heap.size) SAt w.heap.size w W v FP st) (hb:But P W W') (hp:∀k,P k→w.heap.size≤k) (hn:∀k,FP k→¬P k):SOk (upE EM w.heap.size) SAt w.heap.size w W' v FP st:=by
 have hbl:=hb.below (K.size _ h.env) hp
 exact⟨K.below _ _ h.env hbl,h.frame.trans hbl,Nat.le_refl _,K.keep _ _ _ _ P _ h.at_ hb hn,h.new⟩
theorem ScI.quiet {w W W':World} {v:Value} {FP:Nat→Prop} {st:St} {sb:Nat} {s:Sn} {vf:Value} (K:StoreK a w.heap.size (upE EM w.heap.size) SAt) (h:ScI EM SAt w W v FP st sb s vf) (hb:Below W.heap.size W W'):ScI EM SAt w W' v FP st sb s vf :=
 ⟨h.ok.quiet K hb,h.off,h.le,h.snap.below hb,h.files.below hb⟩
theorem SnAt.set6 {W:World} {sb:Nat} {id par seq day idx:Int} {op:ByteArray} {fs gs:List Fl} {v vg:Value} (h:SnAt W sb (id,par,seq,day,idx,op,fs) v):SnAt (W.setCell ⟨sb,6,none⟩ vg) sb (id,par,seq,day,idx,op,gs) vg:=by
 unfold SnAt at *
 rw[heap_setCell_same _ _ _ _ _ _ h]
 rfl
theorem ScI.set {w W:World} {v:Value} {FP:Nat→Prop} {st:St} {sb:Nat} {id par seq day idx:Int} {op:ByteArray} {fs gs:List Fl} {q:Option Addr} {n c:Nat} {vg:Value} (K:StoreK a w.heap.size (upE EM w.heap.size) SAt) (h:SOk (upE EM w.heap.size) SAt w.heap.size w W v FP st) (ho:¬FP sb) (hle:w.heap.size≤sb) (hs:SnAt W sb (id,par,seq,day,idx,op,fs) (.slice q n c)) (hg:FlsAt W vg gs):ScI EM SAt w (W.setCell ⟨sb,6,none⟩ vg) v FP st sb (id,par,seq,day,idx,op,gs) vg:=by
 have hb:But (fun k=>k=sb) W (W.setCell ⟨sb,6,none⟩ vg):=(But.refl (fun k=>k=sb) W).setCell (b:=sb) (o:=6) (Or.inl rfl) _
 exact⟨h.but K hb (fun k e=>e▸hle) (fun k hk e=>ho (e▸hk)),ho,hle,hs.set6,hg.set_off (off_of hs hg) 6 vg⟩
theorem tab_ok {w w2 W:World} {v:Value} {FP:Nat→Prop} {fs:List Fl} {s r:St} {b:Nat} {vf:Value} (h:TabI (upE EM w2.heap.size) SAt w2.heap.size w2 W v FP fs s r b vf) (hb:Below w.heap.size w w2):SOk (upE EM w.heap.size) SAt w.heap.size w W v FP s∧(∀k,k<w2.heap.size→¬FP k):=by
 obtain⟨h1,h2,h3,h4,h5⟩:=h.both.ok
 exact⟨⟨⟨h1.1,Nat.le_trans hb.size h1.2⟩,hb.trans (h2.mono hb.size),Nat.le_refl _,h4,fun k hk=>Nat.le_trans hb.size (h5 k hk)⟩,fun k hk hF=>by have:=h5 k hF;omega⟩
end
section
variable {P : Program} (w : World)
theorem run_append_rows (base:Nat) (v:Value) (n:Nat) (xs:List Value) (hown:w.ownsRow base 112 3 v n xs) (q:Option Addr) (m c:Nat) (l:List Rw) (hs:RowsAt w (.slice q m c) l) (h63:n+m≤1000000) (hbase:base≤w.heap.size) :
   ∃v' w',(Builtin.append_ #[44,44] 44 #[v,.slice q m c]).run Tryz.prog w= .ok v' w'∧w'.ownsRow base 112 3 v' (n+m) (xs++flatR l)∧w.grownBy w' v.ownBlock∧m=l.length:=by
 obtain⟨i0,hi0,hz0,hs0,hby0⟩:=Tryz.rowInfo
 rcases hs with⟨p,c',e,rfl⟩|⟨b,o,cap,e,hc⟩
 · injection e with e1 e2 e3
   subst e1 e2 e3
   cases q with
   | none =>
     refine⟨v,w,?_,by simpa [flatR] using hown,⟨rfl,rfl,rfl,Nat.le_refl _,fun _ _ _=>rfl⟩,rfl⟩
     rcases hown.2 with⟨rfl,_⟩|⟨g,cap,cur,rfl,_,_,hn,_⟩
     · simp[Builtin.append_,run_underlying Tryz.underlying44,sizeOf,typeInfo,zeroValue,hi0,hz0,Builtin.lenOf,run_firstCells_none]
     · simp[Builtin.append_,run_underlying Tryz.underlying44,sizeOf,typeInfo,zeroValue,hi0,hz0,Builtin.lenOf,run_firstCells_none,hn,storeCells]
   | some ad =>
     obtain⟨v',w',h1,h2,h3,_⟩:=run_append_src (P:=Tryz.prog) w base 44 44 112 i0 (.agg #[.string ⟨#[]⟩,.int .i64 0,.int .i64 0]) 3 32 Tryz.underlying44 hi0 hz0 hs0 hby0 rfl (by decide) v n xs hown (some ad) 0 c (flatR []) rfl (Or.inl ⟨rfl,fun e=>by cases e⟩) (flat_one _) (by unfold maxLen;omega) (by omega) hbase
     exact⟨v',w',h1,h2,h3,rfl⟩
 · injection e with e1 e2 e3
   subst e1 e2 e3
   obtain⟨v',w',h1,h2,h3,_⟩:=run_append_src (P:=Tryz.prog) w base 44 44 112 i0 (.agg #[.string ⟨#[]⟩,.int .i64 0,.int .i64 0]) 3 32 Tryz.underlying44 hi0 hz0 hs0 hby0 rfl (by decide) v n xs hown (some ⟨b,o,none⟩) l.length c (flatR l) (flat_len l) (Or.inr ⟨b,o,rfl,cells_of_flat hc⟩) (flat_one _) (by unfold maxLen;omega) (by omega) hbase
   exact⟨v',w',h1,h2,h3,rfl⟩
end
theorem wpList_append_run {P:Program} {w w':World} {ops:Array Oper} {rest:List Oper} {o:Oper} {a:Act} {Q:Exit→Act→World→Prop} (hgd:o.guard=none) (s x:Operand) (t:TypeId)
   (ho:o.op= .call { callee:=.builtin .append,args:=#[s,x],argTypes:=#[t,t] }) (v u v':Value) (hs:a.eval s=v) (hx:a.eval x=u) (hr:(Builtin.append_ #[t,t] o.type #[v,u]).run P w= .ok v' w')
   (h:wpList P ops Q rest (a.put o.dst v') w'):wpList P ops Q (o :: rest) a w:=by
 refine wpList_plain hgd fun K hK=>?_
 unfold Oper.wp execOp
 simp only[ho,resolve,invoke,builtin,Sem.run_bind,Sem.run_pure,Result.andThen_ok,List.map_toArray,List.map_cons,List.map_nil,hs,hx,hr]
 exact hK _ _ h
theorem str_run {B:Nat} {W W9:World} {v:Value} {ts:List ByteArray} (ho:W.ownsRow B 9 1 v ts.length (ts.map Value.string)) (hB:B≤W.heap.size) (p:ByteArray) (hW9:W9=W.alloc (.cells #[.string p] 9)) (hlen:ts.length≤1000) :
   ∃v' W2,(Builtin.append_ #[39,39] 39 #[v,.slice (some ⟨W.heap.size,0,none⟩) 1 1]).run Tryz.prog W9= .ok v' W2∧W2.ownsRow B 9 1 v' (ts++ [p]).length ((ts++ [p]).map Value.string)∧But (fun k=>v.ownBlock=some k) W W2∧(v'.ownBlock=v.ownBlock∨∃k,v'.ownBlock=some k∧W.heap.size≤k∧k<W2.heap.size):=by
 obtain⟨i0,hi,hz,hs,hby⟩:=Tryz.strInfo
 have hal:Below W.heap.size W W9:=by rw[hW9];exact(Below.refl _ _).alloc (Nat.le_refl _) _
 have hsrc:Src W9 (some ⟨W.heap.size,0,none⟩) 1 1 [.string p]:=by
   rw[hW9]
   exact src_new W [.string p] 9 1 1
 obtain⟨v',W2,hr,h1,hg,hv⟩:=run_append_src (P:=Tryz.prog) W9 B 39 39 9 i0 (.string ⟨#[]⟩) 1 16 Tryz.underlying39 hi hz hs hby rfl (by decide) v ts.length (ts.map Value.string) (own_but (P:=fun _=>False) ho (But.of_below hal) (fun _ _ h=>h)) (some ⟨W.heap.size,0,none⟩) 1 1 [.string p] rfl hsrc (by intro u hu;rw[List.mem_singleton]at hu;subst hu;rfl) (by unfold maxLen;omega) (by omega) (Nat.le_trans hB hal.size)
 have h1':W2.ownsRow B 9 1 v' (ts++ [p]).length ((ts++ [p]).map Value.string):=by
   rw[List.length_append,List.map_append]
   simpa using h1
 refine⟨v',W2,hr,h1',(But.of_below hal).trans (But.grown hg) (fun _ h _=>h),?_⟩
 rcases hv with hv | hv
 · exact Or.inl hv
 · exact Or.inr ⟨_,hv,hal.size,(own_blk h1' hv).2.1⟩
theorem step_append_ran {P:Program} {ops:Array Oper} {o:Oper} {a:Act} {w w':World} {K:Act→World→Prop} {Q:Exit→Act→World→Prop} {E:Prop}
   (hg:o.guard=none) (s x:Operand) (t:TypeId) (hop:o.op=Op.call { callee:=Callee.builtin Builtin.append,args:=#[s,x],argTypes:=#[t,t] }) (v u v':Value) (hs:a.eval s=v) (hx:a.eval x=u)
   (hrun:(Builtin.append_ #[t,t] o.type #[v,u]).run P w= .ok v' w') (hK:K (a.put o.dst v') w'):if Region.wanted o (yielded ops a.tmps)=true then Oper.wp P o a w K Q else E:=by
 have hw:Region.wanted o (yielded ops a.tmps)=true:=by simp[Region.wanted,hg]
 rw[if_pos hw]
 unfold Oper.wp
 simp[execOp,hop,resolve,invoke,builtin,hs,hx,hrun,Result.andThen]
 exact hK
abbrev Gp:=ByteArray×Int×List ByteArray
def fitG (f:Fl) (g:Gp):Bool:=decide (g.1=f.2.1) && decide (g.2.1+f.2.2.1≤40)
def takeG (f:Fl) (g:Gp):Gp:=(g.1,g.2.1+f.2.2.1,g.2.2++ [f.1])
def putG (f:Fl):List Gp→List Gp
 | []=> [takeG f (f.2.1,0, [])]
 | g :: r=>if fitG f g=true then takeG f g :: r else g :: putG f r
theorem putG_none (f:Fl):∀ {gs:List Gp},gs.any (fitG f)=false→putG f gs=gs++ [takeG f (f.2.1,0, [])]
 | [],_=>rfl
 | g :: r,h=>by
   rw[List.any_cons,Bool.or_eq_false_iff]at h
   unfold putG
   rw[if_neg (by rw[h.1];simp),putG_none f h.2]
   rfl
theorem putG_at (f:Fl):∀ {gs:List Gp} {n:Nat} (h:n<gs.length),fitG f gs[n]=true→(∀j (hj:j<gs.length),j<n→fitG f gs[j]=false)→putG f gs=gs.set n (takeG f gs[n])
 | [],n,h,_,_=>by simp at h
 | g :: r,0,_,h1,_=>by
   unfold putG
   rw[if_pos (show fitG f g=true from h1)]
   rfl
 | g :: r,n+1,h,h1,h2=>by
   have h0:=h2 0 (by simp) (by omega)
   unfold putG
   rw[if_neg (by rw[show fitG f g=false from h0];simp),putG_at f (n:=n) (by simpa using h) h1 (fun j hj hjn=>h2 (j+1) (by simpa using hj) (by omega))]
   rfl
def GrC (W:World) (gb:Nat) (g:Gp) (vp:Value):Prop:=W.heap[gb]? =some (.cells #[.string g.1,.int .i64 g.2.1,vp] 90 (0,0))
theorem GrC.lt {W:World} {gb:Nat} {g:Gp} {vp:Value} (h:GrC W gb g vp):gb<W.heap.size:=lt_of_block h
theorem GrC.cells {W:World} {gb:Nat} {g:Gp} {vp:Value} (h:GrC W gb g vp):W.cell? ⟨gb,0,none⟩=some (.string g.1)∧W.cell? ⟨gb,1,none⟩=some (.int .i64 g.2.1)∧W.cell? ⟨gb,2,none⟩=some vp∧∀o,W.frozen? ⟨gb,o,none⟩=false:=by
 refine⟨?_,?_,?_,fun o=>frozen_of_row _ _ _ _ _ h⟩<;>rw [cell_of_row _ _ _ _ _ _ h]<;>rfl
theorem GrC.but {P:Nat→Prop} {W W':World} {gb:Nat} {g:Gp} {vp:Value} (h:GrC W gb g vp) (hb:But P W W') (hp:¬P gb):GrC W' gb g vp:=(hb.block gb h.lt hp).trans h
theorem GrC.below {W W':World} {gb:Nat} {g:Gp} {vp:Value} (h:GrC W gb g vp) (hb:Below W.heap.size W W'):GrC W' gb g vp:=(hb.block gb h.lt).trans h
theorem GrC.set1 {W:World} {gb:Nat} {g:Gp} {vp:Value} (h:GrC W gb g vp) (n:Int):GrC (W.setCell ⟨gb,1,none⟩ (.int .i64 n)) gb (g.1,n,g.2.2) vp:=by
 unfold GrC at *
 rw[heap_setCell_same _ _ _ _ _ _ h]
 rfl
theorem GrC.set2 {W:World} {gb:Nat} {g:Gp} {vp:Value} (h:GrC W gb g vp) (v:Value) (ps:List ByteArray):GrC (W.setCell ⟨gb,2,none⟩ v) gb (g.1,g.2.1,ps) v:=by
 unfold GrC at *
 rw[heap_setCell_same _ _ _ _ _ _ h]
 rfl
set_option maxRecDepth 100000 in
set_option maxHeartbeats 4000000 in
theorem gfits_any (f:Fl) (g:Gp) (gb:Nat) (vp:Value) (w:World) (hg:GrC w gb g vp) (h1:0≤g.2.1∧g.2.1≤1000000) (h2:0≤f.2.2.1∧f.2.2.1≤1000000) :
   Calls Tryz.prog 93 #[.pointer (some ⟨gb,0,none⟩),flV f] w fun e w'=>e= .returned (.bool (fitG f g))∧Below w.heap.size w w':=by
 have hal:Below w.heap.size w (w.alloc (.cells #[.string f.1,.string f.2.1,.int .i64 f.2.2.1,.int .i64 f.2.2.2.1,.int .i64 f.2.2.2.2.1,.int .i64 f.2.2.2.2.2] 43)):=(Below.refl _ _).alloc (Nat.le_refl _) _
 have hfn:=FlAt.new w f
 have hg2:=hg.below hal
 have hwr:IntKind.i64.wrap (g.2.1+f.2.2.1)=g.2.1+f.2.2.1:=IntWalk.i64_in _ (by omega)
 have HR:Hid (fitG f g=(decide (g.1=f.2.1) && decide (g.2.1+f.2.2.1≤40))):=rfl
 generalize fitG f g=R at HR ⊢
 unfold flV
 go_enter Tryz.func93,Tryz.ntmps93
 go_upto_region 1 with fail
 obtain⟨fp,fq,fn,flo,fhi,fseq⟩:=f
 obtain⟨gp,gn,gl⟩:=g
 dsimp only at *
 generalize w.alloc (.cells #[.string fp,.string fq,.int .i64 fn,.int .i64 flo,.int .i64 fhi,.int .i64 fseq] 43)=WA at hal hfn hg2 ⊢
 obtain⟨c0,c1,c2,c3,c4,c5,-⟩:=hfn.cells
 dsimp only at c0 c1 c2 c3 c4 c5
 obtain⟨d0,d1,d2,-⟩:=hg2.cells
 dsimp only at d0 d1
 clear hfn hg2 hg
 by_cases hp:gp=fq
 · subst hp
   have e1:(gp.toList == gp.toList)=true:=by simp
   by_cases hs:gn+fn≤40
   · have e2:decide (gn+fn≤40)=true:=decide_eq_true hs
     have HR2:Hid (R=true):=by show _=_;rw[HR.out,e2];simp
     clear HR hs
     go_quiet (fail)
     go_wp2
     go_ret
     exact⟨by rw[HR2.out];rfl,below_drewN hal _⟩
   · have e2:decide (gn+fn≤40)=false:=decide_eq_false hs
     have HR2:Hid (R=false):=by show _=_;rw[HR.out,e2];simp
     clear HR hs
     go_quiet (fail)
     go_wp2
     go_ret
     exact⟨by rw[HR2.out];rfl,below_drewN hal _⟩
 · have e1:(gp.toList == fq.toList)=false:=neBB (fun e=>hp (part_ext e))
   have HR2:Hid (R=false):=by show _=_;rw[HR.out,decide_eq_false hp];rfl
   clear HR hp
   go_quiet (fail)
   go_wp2
   go_ret
   exact⟨by rw[HR2.out];rfl,below_drewN hal _⟩
def TakeP (B:Nat) (w:World) (gb:Nat) (vp:Value) (g:Gp) (w':World):Prop :=
 ∃v',GrC w' gb g v'∧w'.ownsRow B 9 1 v' g.2.2.length (g.2.2.map Value.string)∧But (fun k=>k=gb∨vp.ownBlock=some k) w w'∧(v'.ownBlock=vp.ownBlock∨∃k,v'.ownBlock=some k∧w.heap.size≤k∧k<w'.heap.size)
set_option maxRecDepth 100000 in
set_option maxHeartbeats 4000000 in
theorem gtake_any (B:Nat) (f:Fl) (g:Gp) (gb:Nat) (vp:Value) (w:World) (hg:GrC w gb g vp) (ho:w.ownsRow B 9 1 vp g.2.2.length (g.2.2.map Value.string)) (hB:B≤w.heap.size) (h1:0≤g.2.1∧g.2.1≤1000000) (h2:0≤f.2.2.1∧f.2.2.1≤1000000) (hlen:g.2.2.length≤1000) :
   Calls Tryz.prog 94 #[.pointer (some ⟨gb,0,none⟩),flV f] w fun e w'=>e= .returned (.tuple #[])∧TakeP B w gb vp (takeG f g) w':=by
 have hal:Below w.heap.size w (w.alloc (.cells #[.string f.1,.string f.2.1,.int .i64 f.2.2.1,.int .i64 f.2.2.2.1,.int .i64 f.2.2.2.2.1,.int .i64 f.2.2.2.2.2] 43)):=(Below.refl _ _).alloc (Nat.le_refl _) _
 have hfn:=FlAt.new w f
 have hg2:=hg.below hal
 have ho2:=own_but (P:=fun _=>False) ho (But.of_below hal) (fun _ _ h=>h)
 have hwr:IntKind.i64.wrap (g.2.1+f.2.2.1)=g.2.1+f.2.2.1:=IntWalk.i64_in _ (by omega)
 have hlt:=hg.lt
 have HVB:Hid (∀k,vp.ownBlock=some k→k<w.heap.size):=fun k hk=>(own_blk ho hk).2.1
 obtain⟨qp,cp,hvp⟩:=own_form ho
 unfold flV takeG
 go_enter Tryz.func94,Tryz.ntmps94
 go_upto_region 1 with fail
 obtain⟨fp,fq,fn,flo,fhi,fseq⟩:=f
 obtain⟨gp,gn,gl⟩:=g
 dsimp only at *
 generalize w.alloc (.cells #[.string fp,.string fq,.int .i64 fn,.int .i64 flo,.int .i64 fhi,.int .i64 fseq] 43)=WA at hal hfn hg2 ho2 ⊢
 obtain⟨c0,c1,c2,c3,c4,c5,-⟩:=hfn.cells
 dsimp only at c0 c1 c2 c3 c4 c5
 obtain⟨d0,d1,d2,dz⟩:=hg2.cells
 dsimp only at d0 d1
 clear hg ho
 have hne:∀k,vp.ownBlock=some k→k≠gb:=fun k hk e=>by
   obtain⟨_,_,cur,hc⟩:=own_blk ho2 hk
   subst e
   have:=hg2.symm.trans hc
   simp only[Option.some.injEq,Obj.cells.injEq]at this
   exact absurd this.2.1 (by decide)
 have hbu:But (fun k=>k=gb) WA ((WA.setCell ⟨gb,1,none⟩ (.int .i64 (gn+fn))).drew):=by
   have h':But (fun k=>k=gb) WA (WA.setCell ⟨gb,1,none⟩ (.int .i64 (gn+fn))):=(But.refl (fun k=>k=gb) WA).setCell (Or.inl (Eq.refl gb)) _
   exact h'.trans (But.of_below (Below.drew (Below.refl _ _))) (fun _ h _=>h)
 have hg3:GrC ((WA.setCell ⟨gb,1,none⟩ (.int .i64 (gn+fn))).drew) gb (gp,gn+fn,gl) vp:=(hg2.set1 (gn+fn)).below (Below.drew (Below.refl _ _))
 have ho3:=own_but ho2 hbu hne
 have hf3:FlAt ((WA.setCell ⟨gb,1,none⟩ (.int .i64 (gn+fn))).drew) w.heap.size (fp,fq,fn,flo,fhi,fseq):=(hbu.block w.heap.size (lt_of_block hfn) (by omega)).trans hfn
 have HBU:Hid (But (fun k=>k=gb∨vp.ownBlock=some k) w ((WA.setCell ⟨gb,1,none⟩ (.int .i64 (gn+fn))).drew)):=(But.of_below hal).trans (hbu.mono fun _ h=>Or.inl h) (fun _ h _=>h)
 clear hbu hg2 ho2 hfn
 go_region
 go_upto_region 2 with fail
 clear c0 c1 c2 c3 c4 c5 d0 d1 d2 dz hal
 generalize (WA.setCell ⟨gb,1,none⟩ (.int .i64 (gn+fn))).drew=W1 at *
 have hB1:B≤W1.heap.size:=Nat.le_trans hB HBU.out.size
 have hbd:Below W1.heap.size W1 W1.drew:=(Below.refl _ _).drew
 have hba:Below W1.heap.size W1 (W1.alloc (.cells #[.string fp] 9)):=(Below.refl _ _).alloc (Nat.le_refl _) _
 have hod:=own_but (P:=fun _=>False) ho3 (But.of_below hbd) (fun _ _ h=>h)
 obtain⟨v',W2,hr,ho4,hb4,hv4⟩:=str_run hod hB1 fp rfl hlen
 have hg4:GrC W2 gb (gp,gn+fn,gl) vp:=(hg3.below hbd).but hb4 (fun e=>hne gb e rfl)
 have hlt4:gb<W2.heap.size:=hg4.lt
 have hne':∀k,v'.ownBlock=some k→k≠gb:=fun k hk e=>by
   rcases hv4 with hv | ⟨j,hv,hj,_⟩
   · exact hne k (hv.symm.trans hk) e
   · rw[hv]at hk
     injection hk with hk
     have h5:W1.drew.heap.size=W1.heap.size:=rfl
     have:=hg3.lt
     omega
 obtain⟨q',n',c',hv'⟩:∃q n c,v'= .slice q n c:=by
   obtain⟨q,c,h⟩:=own_form ho4
   exact⟨q,_,c,h⟩
 have hbs:But (fun k=>k=gb) W2 (W2.setCell ⟨gb,2,none⟩ v'):=(But.refl (fun k=>k=gb) W2).setCell (Or.inl (Eq.refl gb)) _
 have HEND:Hid (TakeP B w gb vp (gp,gn+fn,gl++ [fp]) (W2.setCell ⟨gb,2,none⟩ v')):=by
   refine⟨v',hg4.set2 v' (gl++ [fp]),own_but ho4 hbs hne',(HBU.out.trans ((But.of_below hbd).trans (hb4.mono fun _ h=>Or.inr h) (fun _ h _=>h)) (fun _ h _=>h)).trans (hbs.mono fun _ h=>Or.inl h) (fun _ h _=>h),?_⟩
   rcases hv4 with hv | ⟨j,hv,hj,hj2⟩
   · exact Or.inl hv
   · exact Or.inr ⟨j,hv,Nat.le_trans HBU.out.size hj,Nat.lt_of_lt_of_le hj2 hbs.size⟩
 have hr2:(Builtin.append_ #[39,39] 39 #[vp,.slice (some ⟨W1.heap.size,0,none⟩) 1 1]).run Tryz.prog (W1.alloc (.cells #[.string fp] 9)).drew= .ok v' W2:=hr
 have k0:=hf3.cells.1
 have k1:=below_keep hbd k0
 have m0:=hg3.cells.2.2.1
 have m1:=below_keep hbd m0
 have m2:=below_keep hba m0
 have y0:=hg4.cells.2.2.1
 have y1:=hg4.cells.2.2.2
 dsimp only at k0 k1
 subst hv'
 clear hr hod hbd hba hf3 hg3 hg4 ho3 ho4 hb4 hv4 hbs hne hne' HBU hvp
 go_region_law (refine step_append_ran (by rfl) _ _ _ (by rfl) _ _ _ (by rfl) (by rfl) hr2 ?_)
 all_goals go_wp2
 all_goals go_end0
 all_goals exact⟨rfl,HEND.out⟩
abbrev Gx:=Nat×Value×Gp
def ptG (x:Gx):Value:=.pointer (some ⟨x.1,0,none⟩)
structure GrsIn (B:Nat) (W:World) (v:Value) (xs:List Gx):Prop where
 row:W.ownsRow B 88 1 v xs.length (xs.map ptG)
 cell:∀x∈xs,GrC W x.1 x.2.2 x.2.1∧B≤x.1∧W.ownsRow B 9 1 x.2.1 x.2.2.2.2.length (x.2.2.2.2.map Value.string)
 ap:xs.Pairwise fun x y=>x.1≠y.1∧∀k,x.2.1.ownBlock=some k→y.2.1.ownBlock≠some k
theorem blk_ne {W:World} {j k:Nat} {c1 c2:Array Value} {t1 t2:TypeId} (h1:W.heap[j]? =some (.cells c1 t1 (0,0))) (h2:W.heap[k]? =some (.cells c2 t2 (0,0))) (ht:t1≠t2):j≠k:=fun e=>by
 subst e
 have:=h1.symm.trans h2
 simp only[Option.some.injEq,Obj.cells.injEq]at this
 exact ht this.2.1
theorem GrsIn.but {P:Nat→Prop} {B:Nat} {W W':World} {v:Value} {xs:List Gx} (h:GrsIn B W v xs) (hb:But P W W') (h1:∀k,v.ownBlock=some k→¬P k) (h2:∀x∈xs,¬P x.1∧∀k,x.2.1.ownBlock=some k→¬P k):GrsIn B W' v xs :=
 ⟨own_but h.row hb h1,fun x hx=>⟨(h.cell x hx).1.but hb (h2 x hx).1,(h.cell x hx).2.1,own_but (h.cell x hx).2.2 hb (h2 x hx).2⟩,h.ap⟩
theorem GrsIn.below {B:Nat} {W W':World} {v:Value} {xs:List Gx} (h:GrsIn B W v xs) (hb:Below W.heap.size W W'):GrsIn B W' v xs :=
 h.but (But.of_below (P:=fun _=>False) hb) (fun _ _ h=>h) (fun _ _=>⟨fun h=>h,fun _ _ h=>h⟩)
theorem GrsIn.nil (B:Nat) (W:World):GrsIn B W (.slice none 0 0) []:=⟨World.ownsRow_nil _ _ _ _,fun _ h=>absurd h (List.not_mem_nil),List.Pairwise.nil⟩
theorem GrsIn.at_ {B:Nat} {W:World} {q:Option Addr} {n c:Nat} {xs:List Gx} (h:GrsIn B W (.slice q n c) xs) (hne:xs≠ []):∃b,q=some ⟨b,0,none⟩∧∀j (hj:j<xs.length),W.cell? ⟨b,j,none⟩=some (ptG xs[j]):=by
 rcases h.row.2 with⟨_,hn⟩|⟨g,cap,cur,hv,_,hg,hc,_,_,ht⟩
 · exact absurd (List.length_eq_zero_iff.1 hn) hne
 · simp only[Value.slice.injEq]at hv
   refine⟨g,hv.1,fun j hj=>?_⟩
   rw[cell_of_row _ _ _ _ _ _ hg]
   have e:(cur.toList.take (xs.length*1))[j]? =(xs.map ptG)[j]? :=by rw[ht]
   rw[List.getElem?_take,if_pos (by omega),Array.getElem?_toList]at e
   rw[e]
   simp[hj]
theorem GrsIn.took {B:Nat} {W W':World} {v:Value} {xs:List Gx} (h:GrsIn B W v xs) {n:Nat} (hn:n<xs.length) {g:Gp} (hp:TakeP B W xs[n].1 xs[n].2.1 g W'):∃v',GrsIn B W' v (xs.set n (xs[n].1,v',g)):=by
 obtain⟨v',h1,h2,h3,h4⟩:=hp
 have hx:=h.cell xs[n] (List.getElem_mem _)
 have hpw:=List.pairwise_iff_getElem.1 h.ap
 have hrow:∀k,v.ownBlock=some k→¬(k=xs[n].1∨xs[n].2.1.ownBlock=some k):=fun k hk e=>by
   obtain⟨_,_,c1,e1⟩:=own_blk h.row hk
   rcases e with e | e
   · exact blk_ne e1 hx.1 (by decide) e
   · obtain⟨_,_,c2,e2⟩:=own_blk hx.2.2 e
     exact blk_ne e1 e2 (by decide) rfl
 have hoth:∀j (hj:j<xs.length),j≠n→¬(xs[j].1=xs[n].1∨xs[n].2.1.ownBlock=some xs[j].1)∧∀k,xs[j].2.1.ownBlock=some k→¬(k=xs[n].1∨xs[n].2.1.ownBlock=some k):=fun j hj hne=>by
   have hy:=h.cell xs[j] (List.getElem_mem _)
   have hpn:xs[j].1≠xs[n].1∧∀k,xs[j].2.1.ownBlock=some k→xs[n].2.1.ownBlock≠some k:=by
     rcases Nat.lt_or_gt_of_ne hne with hl | hl
     · exact hpw j n hj hn hl
     · obtain⟨a1,a2⟩:=hpw n j hn hj hl
       exact⟨fun e=>a1 e.symm,fun k e1 e2=>a2 k e2 e1⟩
   refine⟨fun e=>?_,fun k hk e=>?_⟩
   · rcases e with e | e
     · exact hpn.1 e
     · obtain⟨_,_,c2,e2⟩:=own_blk hx.2.2 e
       exact blk_ne hy.1 e2 (by decide) rfl
   · rcases e with e | e
     · obtain⟨_,_,c2,e2⟩:=own_blk hy.2.2 hk
       exact blk_ne hx.1 e2 (by decide) e.symm
     · exact hpn.2 k hk e
 have hnew:∀j (hj:j<xs.length),j≠n→∀k,xs[j].2.1.ownBlock=some k→v'.ownBlock≠some k:=fun j hj hne k hk e=>by
   rcases h4 with hv | ⟨i,hv,hi,_⟩
   · exact(hoth j hj hne).2 k hk (Or.inr (hv.symm.trans e))
   · rw[hv]at e
     injection e with e
     have:=(own_blk (h.cell xs[j] (List.getElem_mem _)).2.2 hk).2.1
     omega
 refine⟨v',?_,fun x hxm=>?_,?_⟩
 · have e1:(xs.set n (xs[n].1,v',g)).map ptG=xs.map ptG:=by
     apply List.ext_getElem (by simp)
     intro j _ _
     simp only[List.getElem_map,List.getElem_set]
     split
     · rename_i e;subst e;rfl
     · rfl
   rw[e1,List.length_set]
   exact own_but h.row h3 hrow
 · obtain⟨j,hj,rfl⟩:=List.mem_iff_getElem.1 hxm
   rw[List.length_set]at hj
   rw[List.getElem_set]
   split
   · rename_i e
     exact⟨h1,hx.2.1,h2⟩
   · rename_i e
     have hy:=h.cell xs[j] (List.getElem_mem _)
     have ho:=hoth j hj (fun e'=>e e'.symm)
     exact⟨hy.1.but h3 ho.1,hy.2.1,own_but hy.2.2 h3 ho.2⟩
 · rw [List.pairwise_iff_getElem]
   intro i j hi hj hij
   rw[List.length_set]at hi hj
   rw[List.getElem_set,List.getElem_set]
   split
   · rename_i e
     subst e
     rw[if_neg (by omega)]
     obtain⟨a1,a2⟩:=hpw n j hn hj hij
     exact⟨a1,fun k hk e=>hnew j hj (by omega) k e hk⟩
   · split
     · rename_i e1 e
       subst e
       obtain⟨a1,a2⟩:=hpw i n hi hn hij
       exact⟨a1,fun k hk e=>hnew i hi (by omega) k hk e⟩
     · exact hpw i j hi hj hij
theorem Tryz.grpInfo3:(Tryz.prog.info? 88).map (fun i=>(i.zero,i.size,i.bytes))=some (some (.pointer none),1,8):=by kernel_rfl
theorem Tryz.grpInfo:∃i0:TypeInfo,Tryz.prog.info? 88=some i0∧i0.zero=some (.pointer none)∧i0.size=1∧i0.bytes=8:=by
 have h:=Tryz.grpInfo3
 cases hi:Tryz.prog.info? 88 with
 | none=>rw [hi]at h;simp at h
 | some i =>
   rw[hi]at h
   simp only[Option.map_some,Option.some.injEq,Prod.mk.injEq]at h
   exact⟨i,rfl,h.1,h.2.1,h.2.2⟩
theorem GrsIn.more {B:Nat} {W W8 W9:World} {v:Value} {xs:List Gx} (h:GrsIn B W v xs) (hB:B≤W.heap.size) (g:ByteArray) (hW8:W8=W.alloc (.cells #[.string g,.int .i64 0,.slice none 0 0] 90)) (hW9:W9=W8.alloc (.cells #[.pointer (some ⟨W.heap.size,0,none⟩)] 88)) (hl:xs.length≤1000) :
   ∃v' W2,(Builtin.append_ #[84,84] 84 #[v,.slice (some ⟨W.heap.size+1,0,none⟩) 1 1]).run Tryz.prog W9= .ok v' W2∧GrsIn B W2 v' (xs++ [(W.heap.size,.slice none 0 0,(g,0, []))])∧But (fun k=>v.ownBlock=some k) W W2:=by
 obtain⟨i0,hi,hz,hs,hby⟩:=Tryz.grpInfo
 have hal8:Below W.heap.size W W8:=by rw[hW8];exact(Below.refl _ _).alloc (Nat.le_refl _) _
 have hsz8:W8.heap.size=W.heap.size+1:=by rw[hW8];simp
 have hal9:Below W8.heap.size W8 W9:=by rw[hW9];exact(Below.refl _ _).alloc (Nat.le_refl _) _
 have hg8:GrC W8 W.heap.size (g,0, []) (.slice none 0 0):=by rw[hW8];exact heap_alloc_new _ _
 have hg9:=hg8.below hal9
 have hb9:=hal8.trans (hal9.mono hal8.size)
 have h9:=h.below hb9
 have hsrc:Src W9 (some ⟨W.heap.size+1,0,none⟩) 1 1 [.pointer (some ⟨W.heap.size,0,none⟩)]:=by
   rw[←hsz8,hW9]
   exact src_new W8 [.pointer (some ⟨W.heap.size,0,none⟩)] 88 1 1
 obtain⟨v',W2,hr,h1,hg,hv⟩:=run_append_src (P:=Tryz.prog) W9 B 84 84 88 i0 (.pointer none) 1 8 Tryz.underlying84 hi hz hs hby rfl (by decide) v xs.length (xs.map ptG) h9.row (some ⟨W.heap.size+1,0,none⟩) 1 1 [.pointer (some ⟨W.heap.size,0,none⟩)] rfl hsrc (by intro u hu;rw[List.mem_singleton]at hu;subst hu;rfl) (by unfold maxLen;omega) (by omega) (Nat.le_trans hB hb9.size)
 have hbut:=But.grown hg
 have hty:∀k,v.ownBlock=some k→∃c,W9.heap[k]? =some (.cells c 88 (0,0)):=fun k hk=>(own_blk h9.row hk).2.2
 refine⟨v',W2,hr,⟨?_,fun x hx=>?_,?_⟩,(But.of_below hb9).trans hbut (fun _ h _=>h)⟩
 · rw[List.length_append,List.map_append]
   exact h1
 · rw [List.mem_append,List.mem_singleton]at hx
   rcases hx with hx | rfl
   · have hc:=h9.cell x hx
     refine⟨hc.1.but hbut (fun e=>?_),hc.2.1,own_but hc.2.2 hbut (fun k hk e=>?_)⟩
     · obtain⟨c,e2⟩:=hty _ e
       exact blk_ne hc.1 e2 (by decide) rfl
     · obtain⟨c,e2⟩:=hty _ e
       obtain⟨_,_,c1,e1⟩:=own_blk hc.2.2 hk
       exact blk_ne e1 e2 (by decide) rfl
   · refine⟨hg9.but hbut (fun e=>?_),hB,World.ownsRow_nil _ _ _ _⟩
     obtain⟨c,e2⟩:=hty _ e
     exact blk_ne hg9 e2 (by decide) rfl
 · rw[List.pairwise_append]
   refine⟨h.ap,List.pairwise_singleton _ _,fun x hx y hy=>?_⟩
   rw[List.mem_singleton]at hy
   subst hy
   refine⟨fun e=>?_,fun k _ e=>by simp[Value.ownBlock]at e⟩
   have:=(h.cell x hx).1.lt
   omega
def GrOk (xs:List Gx):Prop:= ∀x∈xs,0≤x.2.2.2.1∧x.2.2.2.1≤1000000
set_option maxRecDepth 100000 in
set_option maxHeartbeats 1000000 in
theorem ask_fit (f:Fl) (x:Gx) (fb:Nat) (w:World) (hf:FlAt w fb f) (hg:GrC w x.1 x.2.2 x.2.1) (h1:0≤x.2.2.2.1∧x.2.2.2.1≤1000000) (h2:0≤f.2.2.1∧f.2.2.1≤1000000) :
   Calls Tryz.prog 92 #[ptG x,.pointer (some ⟨fb,0,none⟩)] w fun e w'=>e= .returned (.bool (fitG f x.2.2))∧Below w.heap.size w w':=by
 have hft:=gfits_any f x.2.2 x.1 x.2.1 w hg h1 h2
 obtain⟨c0,c1,c2,c3,c4,c5,-⟩:=hf.cells
 unfold ptG
 unfold flV at hft
 generalize fitG f x.2.2=R at hft ⊢
 go_enter Tryz.func92,Tryz.ntmps92
 go_wp2_with fail
 refine hft.mono ?_
 rintro e w1 ⟨rfl,hb1⟩
 clear hft
 go_wp2
 go_ret
 exact⟨rfl,hb1⟩
set_option maxRecDepth 100000 in
set_option maxHeartbeats 4000000 in
theorem indexP_any (B:Nat) (f:Fl) (fb:Nat) (v:Value) (xs:List Gx) (w:World) (hx:GrsIn B w v xs) (hf:FlAt w fb f) (hok:GrOk xs) (h2:0≤f.2.2.1∧f.2.2.1≤1000000) (hl:xs.length≤20000) :
   Calls Tryz.prog 91 #[v,.func (.func 92) #[] #[.pointer (some ⟨fb,0,none⟩)]] w fun e w'=> ∃i,e= .returned (.int .i64 i)∧IdxOf (fun x:Gx=>fitG f x.2.2) xs i∧Below w.heap.size w w':=by
 have eg:∀args w,(callFunc 92 args).run Tryz.prog w= .ok (.enter 92 args) w:=enters_of Tryz.func92 (by kernel_rfl) rfl
 have HASK:Hid (∀x∈xs,∀W,Below w.heap.size w W→Calls Tryz.prog 92 #[ptG x,.pointer (some ⟨fb,0,none⟩)] W fun e w'=>e= .returned (.bool (fitG f x.2.2))∧Below W.heap.size W w'):=fun x hxm W hb=>ask_fit f x fb W (hf.below hb) ((hx.cell x hxm).1.below hb) (hok x hxm) h2
 obtain⟨q,cap,rfl⟩:=own_form hx.row
 have HFX:Hid (∀W,Below w.heap.size w W→GrsIn B W (.slice q xs.length cap) xs):=fun W hb=>hx.below hb
 obtain⟨L,hL⟩:∃L,xs.length=L:=⟨_,rfl⟩
 have HX:Hid (xs.length=L):=hL
 rw[hL]at hl HFX ⊢
 clear hL hx hf hok h2
 go_enter Tryz.func91,Tryz.ntmps91
 go_wp2
 go_loopw [8] (fun k wr=> ∃n:Nat,n≤L∧k= .int .i64 n∧(∀j (h:j<xs.length),j<n→fitG f xs[j].2.2=false)∧Below w.heap.size w wr) (fun k _=>L-(intOf k).toNat)
 case atStart=>exact ⟨0,by omega,rfl,fun j h h'=>absurd h' (Nat.not_lt_zero _),Below.refl _ _⟩
 case round =>
   obtain⟨n,hn,rfl,hno,hb⟩:=hrel
   have HNO:Hid (∀j (h:j<xs.length),j<n→fitG f xs[j].2.2=false):=hno
   clear hno
   by_cases hlt:n<L
   · have hltx:n<xs.length:=by rw[HX.out];exact hlt
     obtain⟨b,hq,hc⟩:=(HFX.out wr hb).at_ (fun e=>by rw[e]at hltx;simp at hltx)
     subst hq
     have c0:=hc n hltx
     have hi:(n:Int)<(L:Int):=by omega
     have hi0':(0:Int)≤(n:Int):=by omega
     have hask:=HASK.out xs[n] (List.getElem_mem _) wr hb
     have HY:Hid (fitG f xs[n].2.2=true→IdxOf (fun x:Gx=>fitG f x.2.2) xs n):=fun e=>idx_yes (p:=fun x:Gx=>fitG f x.2.2) HNO.out hltx e
     have HN:Hid (fitG f xs[n].2.2=false→∀j (h:j<xs.length),j<n+1→fitG f xs[j].2.2=false):=fun e=>no_succ (p:=fun x:Gx=>fitG f x.2.2) HNO.out hltx e
     generalize fitG f xs[n].2.2=R at hask HY HN
     generalize xs[n]=x at c0 hask
     unfold ptG at c0 hask
     clear hc hltx
     go_wp2_with fail
     refine hask.mono ?_
     rintro e w1 ⟨rfl,hb1⟩
     have hB1:Below w.heap.size w w1:=hb.trans (hb1.mono hb.size)
     clear hask
     cases R
     · have HN1:=HN.out rfl
       have HN2:Hid (∀j (h:j<xs.length),j<n+1→fitG f xs[j].2.2=false):=HN1
       clear HN HN1 HY
       go_wp2
       go_roundw
       case rel=>exact ⟨n+1,by omega,by go_num,HN2.out,hB1⟩
       case measure=>simp [intOf];omega
     · have HI:Hid (IdxOf (fun x:Gx=>fitG f x.2.2) xs n):=HY.out rfl
       clear HN HY
       go_wp2
       go_ret
       exact⟨_,rfl,HI.out,hB1⟩
   · obtain rfl:n=L:=by omega
     have HI:Hid (IdxOf (fun x:Gx=>fitG f x.2.2) xs (-1)):=idx_no (p:=fun x:Gx=>fitG f x.2.2) (fun j hj _=>HNO.out j hj (by rw[←HX.out];exact hj))
     go_wp2
     go_ret
     exact⟨_,rfl,HI.out,hb⟩
end Go.Proofs.YtgckdomafbnmkaaGreatDoor
