/- By an AI agent. -/
import Derived.Test.YtdhkdjlgmbejnaaGreatDoorStoMem
import Derived.Maps.OwnIn
import Derived.Sort.KeysCollected
import Derived.Deep.RegionLaw
namespace Go.Proofs.YtdhkdjlgmbejnaaGreatDoor
open Go.RowKit Go.Extern.Stop Go.Stop Go.Extern Go.Sort Go.Shelf Go.Lib
def hdQ:Value→Option (DataW Unit×List MemPlace)
 | .slice none 0 0=>some (.nil, [])
 | .slice (some ⟨g,0,none⟩) n c=>some (.agg [.lit (.int .i64 g),.lit (.int .i64 n),.lit (.int .i64 c)], [])
 | _=>none
theorem hdQ_places {v:Value} {z:DataW Unit×List MemPlace} (h:hdQ v=some z):z.2= []:=by
 unfold hdQ at h
 split at h
 · cases h;rfl
 · cases h;rfl
 · cases h
theorem hdQ_inj {v v':Value} {z:DataW Unit×List MemPlace} (h:hdQ v=some z) (h':hdQ v'=some z):v=v':=by
 unfold hdQ at h
 split at h
 · cases h
   unfold hdQ at h'
   split at h'
   · rfl
   · cases h'
   · cases h'
 · cases h
   unfold hdQ at h'
   split at h'
   · cases h'
   · simp only[Option.some.injEq,Prod.mk.injEq,and_true,DataW.agg.injEq,List.cons.injEq,DataW.lit.injEq,Lit.int.injEq,true_and]at h'
     obtain⟨e1,e2,e3⟩:=h'
     have e1':=Int.ofNat.inj e1
     have e2':=Int.ofNat.inj e2
     have e3':=Int.ofNat.inj e3
     subst e1' e2' e3'
     rfl
   · cases h'
 · cases h
theorem hdQ_form {v:Value} {z:DataW Unit×List MemPlace} (h:hdQ v=some z):∃q n c,v= .slice q n c:=by
 unfold hdQ at h
 split at h
 · exact⟨_,_,_,rfl⟩
 · exact⟨_,_,_,rfl⟩
 · cases h
theorem hdQ_own {W:World} {base:Nat} {e:TypeId} {size:Nat} {v:Value} {n:Nat} {xs:List Value} (h:W.ownsRow base e size v n xs):∃d,hdQ v=some (d, []):=by
 rcases h.2 with⟨e,_⟩|⟨g,cap,cur,e,_⟩
 · exact⟨_,by rw[e];rfl⟩
 · exact⟨_,by rw[e];rfl⟩
theorem own_in {W:World} {base:Nat} {e:TypeId} {size:Nat} {v:Value} {n:Nat} {xs:List Value} (h:W.ownsRow base e size v n xs) {g:Nat} (hg:v.ownBlock=some g):base≤g∧g<W.heap.size:=by
 obtain⟨h1,cur,h2⟩:=own_cur h hg
 exact⟨h1,(Array.getElem?_eq_some_iff.1 h2).1⟩
theorem Tryz.keyedI:Maps.Keyed Tryz.prog 3:=Maps.int_keyed Tryz.underlying3
theorem Tryz.zeroRows2 (w:World):(zeroValue 33).run Tryz.prog w= .ok (.slice none 0 0) w:=by kernel_rfl
theorem Tryz.zeroInt2 (w:World):(zeroValue 3).run Tryz.prog w= .ok (.int .i64 0) w:=by kernel_rfl
theorem wf_mk {z:Int} (h1: -9223372036854775808≤z) (h2:z≤9223372036854775807):(Lit.int .i64 z).wf=true:=by
 have h:=wrap64_wf z
 have e:wrap64 z=z:=by unfold wrap64;omega
 rw[e]at h
 exact h
theorem key_int {z:Int} (h1: -9223372036854775808≤z) (h2:z≤9223372036854775807):keyOf Tryz.prog 3 (.int .i64 z)=some (.int .i64 z):=Maps.keyOf_int_mk Tryz.underlying3 (wf_mk h1 h2)
structure Gri (W:World) (base bm:Nat) (ys:List (Rw×Int)) (qs:List Int) (D:DataW Unit) (hv:Int→Value):Prop where
 map:W.ownsMap Tryz.prog 3 hdQ bm qs.length D
 isMap:Maps.IsMap D
 hd:∀z,hdQ (hv z)=some (D.atKey (.int .i64 z) .nil, [])
 has:∀z,Maps.has D (.int .i64 z)=true↔z∈qs
 own:∀z,W.ownsRow base 54 3 (hv z) (rowsQ ys z).length (flatR (rowsQ ys z))
 apart:∀x y,x≠y→(hv x).ownBlock=none∨(hv x).ownBlock≠(hv y).ownBlock
 low:bm<base
 all:∀p∈ys,p.2∈qs
theorem Gri.keep {W W':World} {base bm:Nat} {ys:List (Rw×Int)} {qs:List Int} {D:DataW Unit} {hv:Int→Value} (h:Gri W base bm ys qs D hv) (hm:W'.heap[bm]? =W.heap[bm]?) (hr:∀z g,(hv z).ownBlock=some g→W'.heap[g]? =W.heap[g]?):Gri W' base bm ys qs D hv where
 map:=by
   obtain⟨es,clock,hm',r⟩:=h.map
   exact⟨es,clock,hm.trans hm',r⟩
 isMap:=h.isMap
 hd:=h.hd
 has:=h.has
 own:=fun z=>by
   obtain⟨h1,h3⟩:=h.own z
   refine⟨h1,?_⟩
   rcases h3 with h3 | ⟨g,cap,cur,hv',hb,hc,r⟩
   · exact Or.inl h3
   · exact Or.inr ⟨g,cap,cur,hv',hb,(hr z g (by rw[hv'];rfl)).trans hc,r⟩
 apart:=h.apart
 low:=h.low
 all:=h.all
theorem Gri.below {W W':World} {base bm:Nat} {ys:List (Rw×Int)} {qs:List Int} {D:DataW Unit} {hv:Int→Value} (h:Gri W base bm ys qs D hv) (hb:Below W.heap.size W W'):Gri W' base bm ys qs D hv :=
 h.keep (hb.block bm h.map.lt) fun z g hg=>hb.block g (own_in (h.own z) hg).2
theorem Gri.made (W:World) (bm base:Nat) (hm:W.ownsMap Tryz.prog 3 hdQ bm 0 (.map [])) (hb:bm<base):Gri W base bm [] [] (.map []) (fun _=>.slice none 0 0) where
 map:=hm
 isMap:=Maps.isMap_empty
 hd:=fun _=>rfl
 has:=fun z=>by simp[Maps.has]
 own:=fun z=>by simp[rowsQ,flatR];exact World.ownsRow_nil _ _ _ _
 apart:=fun _ _ _=>Or.inl rfl
 low:=hb
 all:=fun p hp=>by cases hp
theorem Gri.look {W:World} {base bm:Nat} {ys:List (Rw×Int)} {qs:List Int} {D:DataW Unit} {hv:Int→Value} (h:Gri W base bm ys qs D hv) {z:Int} (h1: -9223372036854775808≤z) (h2:z≤9223372036854775807) :
   (Instr.lookup 85 (.map (some bm)) (.int .i64 z) false).run Tryz.prog W= .ok (hv z) W:=by
 obtain⟨v,ps,hrun,hR⟩:=h.map.lookup Tryz.keyedI Tryz.underlying85 (Tryz.zeroRows2 W) (zd:=.nil) (zp:= []) rfl (key_int h1 h2)
 have hp:=hdQ_places hR
 simp only at hp
 subst hp
 rw[hrun,hdQ_inj hR (h.hd z)]
theorem Gri.step {W W3 W4:World} {base bm:Nat} {ys:List (Rw×Int)} {qs:List Int} {D:DataW Unit} {hv:Int→Value} (h:Gri W base bm ys qs D hv) (q:Int) (l:List Rw) (v':Value) (d:DataW Unit)
   (hrow:W3.ownsRow base 54 3 v' ((rowsQ ys q).length+l.length) (flatR (rowsQ ys q)++flatR l))
   (hg:W.grownBy W3 (hv q).ownBlock) (hat:v'.ownBlock=(hv q).ownBlock∨v'.ownBlock=some W.heap.size)
   (hm:W4.ownsMap Tryz.prog 3 hdQ bm (qs.length+1) (D.put (.int .i64 q) d)) (hg2:W3.grownBy W4 (some bm)) (hd:hdQ v'=some (d, [])) :
   Gri W4 base bm (ys++l.map fun r=>(r,q)) (q :: qs) (D.put (.int .i64 q) d) (fun m=>if m=q then v' else hv m):=by
 have nb:∀ {v:Value} {n:Nat} {l:List Value},W3.ownsRow base 54 3 v n l→v.ownBlock=none∨v.ownBlock≠some bm:=fun {v n l} hr=>by
   cases hv':v.ownBlock with
   | none=>exact Or.inl rfl
   | some g =>
     refine Or.inr fun e=>?_
     have:=(own_in hr hv').1
     have hl:=h.low
     simp only[Option.some.injEq]at e
     omega
 have hne:∀ {x y:Int},x≠y→Lit.int .i64 x≠Lit.int .i64 y:=fun h e=>h (by injection e)
 refine⟨hm,h.isMap.put _ _,fun m=>?_,fun m=>?_,fun m=>?_,fun x' y' hxy=>?_,h.low,fun p hp=>?_⟩
 · by_cases e:m=q
   · subst e
     rw[if_pos rfl,Maps.atKey_put_same h.isMap (show WideAt.IsKeyLit (.int .i64 m) from trivial)]
     exact hd
   · rw[if_neg e,Maps.atKey_put_other (hne e)]
     exact h.hd m
 · by_cases e:m=q
   · subst e
     rw[Maps.has_put_same h.isMap (show WideAt.IsKeyLit (.int .i64 m) from trivial)]
     simp
   · rw[Maps.has_put_other (hne e),List.mem_cons]
     rw[h.has m]
     simp[e]
 · rw[rowsQ_append]
   by_cases e:m=q
   · subst e
     rw[if_pos rfl,rowsQ_same,List.length_append,flat_append]
     exact hrow.kept hg2 (nb hrow)
   · rw[if_neg e,rowsQ_other l q m e,List.append_nil]
     have h3:=(h.own m).kept hg (h.apart m q e)
     exact h3.kept hg2 (nb h3)
 · by_cases e1:x'=q
   · subst e1
     rw[if_pos rfl,if_neg (fun e'=>hxy e'.symm)]
     rcases hat with hat | hat
     · rw[hat];exact h.apart _ _ hxy
     · rw[hat]
       refine Or.inr fun e=>?_
       have:=(own_in (h.own y') e.symm).2
       omega
   · rw [if_neg e1]
     by_cases e2:y'=q
     · subst e2
       rw[if_pos rfl]
       rcases hat with hat | hat
       · rw[hat];exact h.apart _ _ hxy
       · rw[hat]
         cases hb:(hv x').ownBlock with
         | none=>exact Or.inl rfl
         | some g =>
           refine Or.inr fun e=>?_
           have:=(own_in (h.own x') hb).2
           simp only[Option.some.injEq]at e
           omega
     · rw[if_neg e2]
       exact h.apart _ _ hxy
 · rw[List.mem_append]at hp
   rcases hp with hp | hp
   · exact List.mem_cons_of_mem _ (h.all p hp)
   · obtain⟨r,_,rfl⟩:=List.mem_map.1 hp
     exact List.mem_cons_self
structure Las (W:World) (bm:Nat) (l:List (Int×Int)) (D:DataW Unit):Prop where
 map:W.ownsMap Tryz.prog 3 (plainElem Tryz.prog 3) bm l.length D
 isMap:Maps.IsMap D
 at_:∀z,D.atKey (.int .i64 z) (.lit (.int .i64 0))= .lit (.int .i64 (lastC l z))
 bnd:∀p∈l,p.2≤1073741824
theorem Las.keep {W W':World} {bm:Nat} {l:List (Int×Int)} {D:DataW Unit} (h:Las W bm l D) (hm:W'.heap[bm]? =W.heap[bm]?):Las W' bm l D where
 map:=by
   obtain⟨es,clock,hm',r⟩:=h.map
   exact⟨es,clock,hm.trans hm',r⟩
 isMap:=h.isMap
 at_:=h.at_
 bnd:=h.bnd
theorem Las.made (W:World) (bm:Nat) (hm:W.ownsMap (H:=Unit) Tryz.prog 3 (plainElem Tryz.prog 3) bm 0 (.map [])):Las W bm [] (.map []) where
 map:=hm
 isMap:=Maps.isMap_empty
 at_:=fun _=>rfl
 bnd:=fun p hp=>by cases hp
theorem Las.look {W:World} {bm:Nat} {l:List (Int×Int)} {D:DataW Unit} (h:Las W bm l D) {z:Int} (h1: -9223372036854775808≤z) (h2:z≤9223372036854775807) :
   (Instr.lookup 86 (.map (some bm)) (.int .i64 z) false).run Tryz.prog W= .ok (.int .i64 (lastC l z)) W:=by
 obtain⟨c,hrun,hat,_⟩:=h.map.lookup_int Tryz.keyedI Tryz.underlying86 Tryz.underlying3 (Tryz.zeroInt2 W) (key_int h1 h2)
 rw[h.at_ z]at hat
 have:lastC l z=c:=by simpa using hat
 rw[this]
 exact hrun
set_option maxRecDepth 100000 in
theorem Las.step {W:World} {bm:Nat} {l:List (Int×Int)} {D:DataW Unit} (h:Las W bm l D) {z q:Int} (h1: -9223372036854775808≤z) (h2:z≤9223372036854775807) (hl:l.length<1000000) (hq:0≤q∧q≤1073741824) :
   ∃w',(Instr.mapUpdate 86 (.map (some bm)) (.int .i64 z) (.int .i64 (max (lastC l z) q))).run Tryz.prog W= .ok () w'∧(∃D',Las w' bm (l++ [(z,q)]) D')∧W.mapTurned w' bm:=by
 have hlc:=lastC_bound h.bnd (by omega) z
 obtain⟨w',hrun,ho,ht⟩:=h.map.store Tryz.keyedI Tryz.underlying86 (by unfold maxLen;omega) (key_int h1 h2) (plainElem_int Tryz.underlying3 (wf_mk (z:=max (lastC l z) q) (by omega) (by omega)))
 refine⟨w',hrun,⟨_,⟨by rw[List.length_append];exact ho,h.isMap.put _ _,fun k=>?_,fun p hp=>?_⟩⟩,ht⟩
 rotate_left
 · rw[List.mem_append,List.mem_singleton]at hp
   rcases hp with hp | rfl
   · exact h.bnd p hp
   · exact hq.2
 rw[lastC_snoc]
 by_cases e:z=k
 · subst e
   rw[Maps.atKey_put_same h.isMap (show WideAt.IsKeyLit (.int .i64 z) from trivial),if_pos rfl]
 · rw[Maps.atKey_put_other (fun e'=>e (by injection e' with _ e';exact e'.symm)),if_neg e]
   exact h.at_ k
structure CtAt (W:World) (base b1 b2:Nat) (c:Ct) (qs:List Int):Prop where
 rows:∃D hv,Gri W base b1 c.1 qs D hv
 keys:∃D,Las W b2 c.2 D
 low:b2<base
 ne:b1≠b2
theorem CtAt.below {W W':World} {base b1 b2:Nat} {c:Ct} {qs:List Int} (h:CtAt W base b1 b2 c qs) (hb:Below W.heap.size W W'):CtAt W' base b1 b2 c qs:=by
 obtain⟨⟨D,hv,h1⟩,⟨D2,h2⟩,h3,h4⟩:=h
 exact⟨⟨D,hv,h1.below hb⟩,⟨D2,h2.keep (hb.block b2 h2.map.lt)⟩,h3,h4⟩
theorem CtAt.addKey {W:World} {base b1 b2:Nat} {c:Ct} {qs:List Int} (h:CtAt W base b1 b2 c qs) {z q:Int} (h1: -9223372036854775808≤z) (h2:z≤9223372036854775807) (hl:c.2.length<1000000) (hq:0≤q∧q≤1073741824) :
   ∃ w',(Instr.lookup 86 (.map (some b2)) (.int .i64 z) false).run Tryz.prog W= .ok (.int .i64 (lastC c.2 z)) W∧(Instr.mapUpdate 86 (.map (some b2)) (.int .i64 z) (.int .i64 (max (lastC c.2 z) q))).run Tryz.prog W= .ok () w' ∧
     CtAt w' base b1 b2 (c.1,c.2++ [(z,q)]) qs∧But (fun k=>k=b2) W w':=by
 obtain⟨⟨D,hv,hG⟩,⟨D2,hL⟩,h3,h4⟩:=h
 obtain⟨w',hrun,hL',ht⟩:=hL.step (q:=q) h1 h2 hl hq
 have hB:=But.of_turned ht
 refine⟨w',hL.look h1 h2,hrun,⟨⟨D,hv,hG.keep (hB.block b1 hG.map.lt h4) fun z g hg=>?_⟩,hL',h3,h4⟩,hB⟩
 obtain⟨g1,g2⟩:=own_in (hG.own z) hg
 exact hB.block g g2 (by omega)
theorem CtAt.noCell {W:World} {base b1 b2:Nat} {c:Ct} {qs:List Int} (h:CtAt W base b1 b2 c qs) {b o:Nat} {v:Value} (hc:W.cell? ⟨b,o,none⟩=some v):b≠b1∧b≠b2:=by
 obtain⟨⟨D,hv,hG⟩,⟨D2,hL⟩,h3,h4⟩:=h
 constructor
 · rintro rfl
   obtain⟨es,clock,hm,_⟩:=hG.map
   simp[World.cell?,hm]at hc
 · rintro rfl
   obtain⟨es,clock,hm,_⟩:=hL.map
   simp[World.cell?,hm]at hc
def OfC (W:World) (base b1 b2:Nat) (k:Nat):Prop:=k=b1∨k=b2∨(base≤k∧∃c f,W.heap[k]? =some (.cells c 54 f))
theorem ofC_trans {W W1 W2:World} {base b1 b2:Nat} (h:But (OfC W base b1 b2) W W1) (k:But (OfC W1 base b1 b2) W1 W2):But (OfC W base b1 b2) W W2:=by
 refine h.trans k fun i hi hlt=>?_
 rcases hi with hi | hi | ⟨hb,c,f,hc⟩
 · exact Or.inl hi
 · exact Or.inr (Or.inl hi)
 · by_cases hP:OfC W base b1 b2 i
   · exact hP
   · exact Or.inr (Or.inr ⟨hb,c,f,(h.block i hlt hP).symm.trans hc⟩)
theorem ofC_below {W W':World} {base b1 b2 B:Nat} (h:But (OfC W base b1 b2) W W') (hB:B≤W.heap.size) (h1:B≤b1) (h2:B≤b2) (h3:B≤base):Below B W W' :=
 h.below hB fun k hk=>by
   rcases hk with rfl | rfl | ⟨hb,_⟩
   · exact h1
   · exact h2
   · omega
theorem ofC_old {W W':World} {base b1 b2 k:Nat} (h:But (OfC W base b1 b2) W W') (hk:k<W.heap.size) (hb:k<base) (h1:k≠b1) (h2:k≠b2):W'.heap[k]? =W.heap[k]? :=
 h.block k hk fun hP=>by
   rcases hP with e | e | ⟨hb',_⟩
   · exact h1 e
   · exact h2 e
   · omega
theorem src_rows {W:World} {q:Option Addr} {n c:Nat} {l:List Rw} (h:RowsAt W (.slice q n c) l) (hne:l≠ []):n=l.length∧Src W q n c (flatR l):=by
 rcases h with⟨_,_,_,e⟩|⟨b,o,cap,e,hc⟩
 · exact absurd e hne
 · injection e with e1 e2 e3
   subst e1 e2
   exact⟨rfl,Or.inr ⟨b,o,rfl,cells_of_flat hc⟩⟩
set_option maxRecDepth 100000 in
theorem CtAt.addRows {W:World} {base b1 b2:Nat} {c:Ct} {qs:List Int} (h:CtAt W base b1 b2 c qs) (hbase:base≤W.heap.size) {q:Int} (h1: -9223372036854775808≤q) (h2:q≤9223372036854775807) {sq:Option Addr} {sn sc:Nat} {l:List Rw} (hs:RowsAt W (.slice sq sn sc) l) (hne:l≠ []) (hq:qs.length<1000000) (hc:c.1.length+l.length≤1000000) :
   ∃ v v' w1 w2,(Instr.lookup 85 (.map (some b1)) (.int .i64 q) false).run Tryz.prog W= .ok v W∧(∃vq vn vc,v= .slice vq vn vc)∧(∃vq vn vc,v'= .slice vq vn vc) ∧
     (Builtin.append_ #[33,33] 33 #[v,.slice sq sn sc]).run Tryz.prog W= .ok v' w1∧(Instr.mapUpdate 85 (.map (some b1)) (.int .i64 q) v').run Tryz.prog w1= .ok () w2 ∧
     (∀(k:Nat) (c:Array Value) (t:TypeId) (f:Nat×Nat),W.heap[k]? =some (.cells c t f)→t≠54→w1.heap[k]? =some (.cells c t f)) ∧
     CtAt w2 base b1 b2 (c.1++l.map (fun r=>(r,q)),c.2) (q :: qs)∧But (OfC W base b1 b2) W w2:=by
 obtain⟨i0,hi0,hz0,hs0,hby0⟩:=Tryz.rowInfo
 obtain⟨⟨D,hv,hG⟩,⟨D2,hL⟩,h3,h4⟩:=h
 have hlook:=hG.look h1 h2
 obtain⟨rfl,hsrc⟩:=src_rows hs hne
 have hle:(rowsQ c.1 q).length≤c.1.length:=by
   unfold rowsQ
   rw[List.length_map]
   exact List.length_filter_le _ _
 obtain⟨v',w1,hrun,hown,hgrow,hat⟩:=run_append_src (P:=Tryz.prog) W base 33 33 54 i0 (.agg #[.string ⟨#[]⟩,.int .i64 0,.int .i64 0]) 3 32 Tryz.underlying33 hi0 hz0 hs0 hby0 rfl (by decide) (hv q) (rowsQ c.1 q).length (flatR (rowsQ c.1 q)) (hG.own q) sq l.length sc (flatR l) (flat_len l) hsrc (flat_one l) (by unfold maxLen;omega) (by omega) hbase
 obtain⟨d,hd⟩:=hdQ_own hown
 have hbm:some b1≠(hv q).ownBlock:=fun e=>by
   have:=(own_in (hG.own q) e.symm).1
   have:=hG.low
   omega
 have hm1:w1.ownsMap Tryz.prog 3 hdQ b1 qs.length D:=hG.map.kept hgrow hbm
 obtain⟨w2,hrun2,hm2,ht2⟩:=hm1.store Tryz.keyedI Tryz.underlying85 (by unfold maxLen;omega) (key_int h1 h2) hd
 have hG2:=hG.step q l v' d hown hgrow hat hm2 ht2.grown hd
 have hb2:some b2≠(hv q).ownBlock:=fun e=>by
   have:=(own_in (hG.own q) e.symm).1
   omega
 have hLk:w2.heap[b2]? =W.heap[b2]? :=(ht2.grown.block b2 (Nat.lt_of_lt_of_le hL.map.lt hgrow.size) (fun e=>h4 (by injection e with e;exact e.symm))).trans (hgrow.block b2 hL.map.lt hb2)
 refine⟨hv q,v',w1,w2,hlook,hdQ_form (hG.hd q),hdQ_form hd,hrun,hrun2,fun k c t f hk ht=>?_,⟨⟨_,_,hG2⟩,⟨D2,hL.keep hLk⟩,h3,h4⟩,?_⟩
 · exact type_kept (hG.own q) hgrow hk ht
 · have hB1:But (OfC W base b1 b2) W w1:=⟨hgrow.os,hgrow.tape,hgrow.output,hgrow.size,fun k hk hP=>hgrow.block k hk fun e=>hP (by
     obtain⟨g1,cur,g2⟩:=own_cur (hG.own q) e.symm
     exact Or.inr (Or.inr ⟨g1,cur,_,g2⟩))⟩
   exact hB1.trans (But.of_turned ht2) fun i hi _=>Or.inl hi
theorem step_append_run {P:Program} {ops:Array Oper} {o:Oper} {a:Act} {w w':World} {K:Act→World→Prop} {Q:Exit→Act→World→Prop} {E:Prop}
   (hg:o.guard=none) (s x:Operand) (t:TypeId) (hop:o.op=Op.call { callee:=Callee.builtin Builtin.append,args:=#[s,x],argTypes:=#[t,t] }) (v u v':Value) (hs:a.eval s=v) (hx:a.eval x=u)
   (hrun:(Builtin.append_ #[t,t] o.type #[v,u]).run P w= .ok v' w') (hK:K (a.put o.dst v') w'):if Region.wanted o (yielded ops a.tmps)=true then Oper.wp P o a w K Q else E:=by
 have hw:Region.wanted o (yielded ops a.tmps)=true:=by simp[Region.wanted,hg]
 rw[if_pos hw]
 unfold Oper.wp
 simp[execOp,hop,resolve,invoke,builtin,hs,hx,hrun,Result.andThen]
 exact hK
abbrev ctV (b1 b2:Nat):Value:=.agg #[.map (some b1),.map (some b2)]
set_option maxRecDepth 100000 in
set_option maxHeartbeats 1000000 in
theorem newContent_any (w:World):Calls Tryz.prog 40 #[] w fun e w'=> ∃b1 b2,e= .returned (ctV b1 b2)∧w.heap.size≤b1∧w.heap.size≤b2∧b1<w'.heap.size∧b2<w'.heap.size∧(∀base,b1<base→b2<base→CtAt w' base b1 b2 ([], []) [])∧Below w.heap.size w w':=by
 have hmm:=@run_makeMap Tryz.prog
 have hB:Below w.heap.size w (((w.alloc (.cells #[.map (some (w.heap.size+1)),.map (some (w.heap.size+1+1))] 88)).alloc (.map #[] 0)).alloc (.map #[] 0)):=(((Below.refl _ _).alloc (Nat.le_refl _) _).alloc (by simp) _).alloc (by simp;omega) _
 have HB:Hid _:=hB
 have HC:Hid (∀base,w.heap.size+1<base→w.heap.size+1+1<base→CtAt (((w.alloc (.cells #[.map (some (w.heap.size+1)),.map (some (w.heap.size+1+1))] 88)).alloc (.map #[] 0)).alloc (.map #[] 0)) base (w.heap.size+1) (w.heap.size+1+1) ([], []) []):=fun base h1 h2=>by
   have m1:=World.ownsMap_made (w.alloc (.cells #[.map (some (w.heap.size+1)),.map (some (w.heap.size+1+1))] 88)) Tryz.prog 3 hdQ
   have m2:=World.ownsMap_made ((w.alloc (.cells #[.map (some (w.heap.size+1)),.map (some (w.heap.size+1+1))] 88)).alloc (.map #[] 0)) Tryz.prog 3 (plainElem (H:=Unit) Tryz.prog 3)
   have e1:(w.alloc (.cells #[.map (some (w.heap.size+1)),.map (some (w.heap.size+1+1))] 88)).heap.size=w.heap.size+1:=by simp
   have e2:((w.alloc (.cells #[.map (some (w.heap.size+1)),.map (some (w.heap.size+1+1))] 88)).alloc (.map #[] 0)).heap.size=w.heap.size+1+1:=by simp
   rw[e1]at m1
   rw[e2]at m2
   refine⟨⟨_,_,Gri.made _ _ base (m1.alloc _) h1⟩,⟨_,Las.made _ _ m2⟩,h2,by omega⟩
 have HS:Hid ((((w.alloc (.cells #[.map (some (w.heap.size+1)),.map (some (w.heap.size+1+1))] 88)).alloc (.map #[] 0)).alloc (.map #[] 0)).heap.size=w.heap.size+3):=by show _=_;simp
 clear hB
 go_enter Tryz.func40,Tryz.ntmps40
 go_wp2
 refine bodyPost_ret (v:=ctV (w.heap.size+1) (w.heap.size+1+1)) (by simp[results,Tryz.results40,go_sem]) rfl ?_
 exact⟨_,_,rfl,by omega,by omega,by rw[HS.out];omega,by rw[HS.out];omega,HC.out,HB.out⟩
set_option maxRecDepth 100000 in
set_option maxHeartbeats 2000000 in
theorem takeRows_any (W:World) (a:Nat→Addr) (hE:EnvD W a) (base b1 b2:Nat) (c:Ct) (qs:List Int) (q:Int) (t:ByteArray) (h:CtAt W base b1 b2 c qs) (hbase:base≤W.heap.size) (hq:1≤q∧q≤1073741824) (ht:t.size≤maxLen) (h0:(dataO t.data.toList).2.1=0) (hne:(dataO t.data.toList).1≠ []) (hqs:qs.length<1000000) (hc:c.1.length+(dataO t.data.toList).1.length≤1000000) :
   Calls Tryz.prog 141 #[ctV b1 b2,.int .i64 q,.string t] W fun e w'=>e= .returned .nilIface∧CtAt w' base b1 b2 (c.1++(dataO t.data.toList).1.map (fun r=>(r,q)),c.2) (q :: qs)∧But (OfC W base b1 b2) W w':=by
 have hal:Below W.heap.size W (W.alloc (.cells #[.map (some b1),.map (some b2)] 88)):=(Below.refl _ _).alloc (Nat.le_refl _) _
 have hbox:(W.alloc (.cells #[.map (some b1),.map (some b2)] 88)).heap[W.heap.size]? =some (.cells #[.map (some b1),.map (some b2)] 88 (0,0)):=heap_alloc_new _ _
 have hrd:=data_any t (W.alloc (.cells #[.map (some b1),.map (some b2)] 88)) a (hE.below hal) ht
 generalize hD:dataO t.data.toList=D at hrd h0 hne hc ⊢
 have HC:Hid (CtAt (W.alloc (.cells #[.map (some b1),.map (some b2)] 88)) base b1 b2 c qs):=h.below hal
 have hsz:base≤(W.alloc (.cells #[.map (some b1),.map (some b2)] 88)).heap.size:=Nat.le_trans hbase hal.size
 clear h hD hE
 go_enter Tryz.func141,Tryz.ntmps141
 go_upto_region 1 with fail
 have HA:Hid (Below W.heap.size W (W.alloc (.cells #[.map (some b1),.map (some b2)] 88))):=hal
 clear hal
 generalize W.alloc (.cells #[.map (some b1),.map (some b2)] 88)=W1 at *
 generalize W.heap.size=cb at hbox ⊢
 go_wp2_with fail
 refine hrd.mono ?_
 rintro e w2 ⟨hb2,hp⟩
 clear hrd
 obtain⟨-,v,rfl,hv⟩:D.2.1=0∧∃v,e= .returned (.tuple #[v,.nilIface])∧RowsAt w2 v D.1:=by
   rcases hp with hp | hp | hp
   · exact hp
   · exact absurd h0 hp.1
   · exact absurd h0 hp.1
 obtain⟨sq,sc,rfl⟩:=hv.form
 have hbd:Below w2.heap.size w2 w2.drew:=(Below.refl _ _).drew
 have hbox2:w2.drew.heap[cb]? =some (.cells #[.map (some b1),.map (some b2)] 88 (0,0)):=(hb2.block cb (Array.getElem?_eq_some_iff.1 hbox).1).trans hbox
 obtain⟨u,u',w3,w4,r1,⟨uq,un,uc,rfl⟩,⟨vq,vn,vc,rfl⟩,r2,r3,hty,hC4,hB4⟩:=((HC.out.below hb2).below hbd).addRows (q:=q) (Nat.le_trans hsz (Nat.le_trans hb2.size hbd.size)) (by omega) (by omega) (hv.below hbd) hne hqs hc
 have hbox3:=hty _ _ _ _ hbox2 (by decide)
 have HF:Hid (CtAt w4 base b1 b2 (c.1++D.1.map (fun r=>(r,q)),c.2) (q :: qs)∧But (OfC w2.drew base b1 b2) w2.drew w4∧Below W1.heap.size W1 w2.drew):=⟨hC4,hB4,hb2.trans (hbd.mono hb2.size)⟩
 have k0:w2.cell? ⟨cb,0,none⟩=some (.map (some b1)):=by
   rw[cell_of_row _ _ _ _ _ _ (show w2.heap[cb]? =_ from hbox2)];rfl
 have k1:w2.drew.cell? ⟨cb,0,none⟩=some (.map (some b1)):=by
   rw[cell_of_row _ _ _ _ _ _ hbox2];rfl
 have k2:w3.cell? ⟨cb,0,none⟩=some (.map (some b1)):=by
   rw[cell_of_row _ _ _ _ _ _ hbox3];rfl
 generalize D.1.length=L at *
 clear hC4 hB4 hty hbox hbox2 hbox3 hv hp hb2 hbd HC
 go_wp2
 go_region_law (refine step_append_run (by rfl) _ _ _ (by rfl) _ _ _ (by rfl) (by rfl) r2 ?_)
 all_goals go_wp2
 all_goals go_ret
 all_goals
   refine⟨rfl,HF.out.1,?_⟩
   have h1:But (OfC W base b1 b2) W w2.drew:=But.of_below (HA.out.trans (HF.out.2.2.mono HA.out.size))
   exact ofC_trans h1 HF.out.2.1
theorem max_run (x y:Int) (w:World):(Builtin.max_ #[3,3] 3 #[.int .i64 x,.int .i64 y]).run Tryz.prog w= .ok (.int .i64 (max x y)) w:=by
 have e:max x y=if y > x then y else x:=by split<;>omega
 rw[e]
 simp[Builtin.max_,Builtin.max2]
theorem keyed_snoc (ks:List Int) (q:Int) (n:Nat) (h:n<ks.length):(ks.take (n+1)).map (fun z=>(z,q))=(ks.take n).map (fun z=>(z,q))++ [(ks[n],q)]:=by
 rw[List.take_succ_eq_append_getElem h,List.map_append]
 rfl
set_option maxRecDepth 100000 in
set_option maxHeartbeats 2000000 in
theorem takeKeys_any (W:World) (a:Nat→Addr) (hE:EnvD0 W a) (base b1 b2:Nat) (c:Ct) (qs:List Int) (q:Int) (t:ByteArray) (h:CtAt W base b1 b2 c qs) (hq:1≤q∧q≤1073741824) (ht:t.size≤maxLen) (h0:(goneO t.data.toList).2.1=0) (hin:∀z∈(goneO t.data.toList).1,-9223372036854775808≤z∧z≤9223372036854775807) (hc:c.2.length+(goneO t.data.toList).1.length≤1000000) :
   Calls Tryz.prog 140 #[ctV b1 b2,.int .i64 q,.string t] W fun e w'=>e= .returned .nilIface∧CtAt w' base b1 b2 (c.1,c.2++(goneO t.data.toList).1.map fun z=>(z,q)) qs∧But (OfC W base b1 b2) W w':=by
 have hal:Below W.heap.size W (W.alloc (.cells #[.map (some b1),.map (some b2)] 88)):=(Below.refl _ _).alloc (Nat.le_refl _) _
 have hbox:(W.alloc (.cells #[.map (some b1),.map (some b2)] 88)).heap[W.heap.size]? =some (.cells #[.map (some b1),.map (some b2)] 88 (0,0)):=heap_alloc_new _ _
 have hrd:=gone_any t (W.alloc (.cells #[.map (some b1),.map (some b2)] 88)) a (hE.below hal) ht
 generalize hD:goneO t.data.toList=D at hrd h0 hin hc ⊢
 obtain⟨ks,E0⟩:=D
 dsimp only at h0 hin hc ⊢
 have HC:Hid (CtAt (W.alloc (.cells #[.map (some b1),.map (some b2)] 88)) base b1 b2 c qs):=h.below hal
 clear h hD hE
 go_enter Tryz.func140,Tryz.ntmps140
 go_upto_region 1 with fail
 have HA:Hid (Below W.heap.size W (W.alloc (.cells #[.map (some b1),.map (some b2)] 88))):=hal
 clear hal
 generalize W.alloc (.cells #[.map (some b1),.map (some b2)] 88)=W1 at *
 generalize W.heap.size=cb at hbox ⊢
 go_wp2_with fail
 refine hrd.mono ?_
 rintro e w2 ⟨hb2,hp⟩
 clear hrd
 obtain⟨-,v,rfl,hv,-⟩:E0.1=0∧∃v,e= .returned (.tuple #[v,.nilIface])∧KeysAt w2 v ks∧NewAt W1 v:=by
   rcases hp with hp | hp | hp
   · exact hp
   · exact absurd h0 hp.1
   · exact absurd h0 hp.1
 clear hp h0
 obtain⟨kq,kc,rfl⟩:=hv.form
 have hC2:=HC.out.below hb2
 have hbox2:w2.heap[cb]? =some (.cells #[.map (some b1),.map (some b2)] 88 (0,0)):=(hb2.block cb (Array.getElem?_eq_some_iff.1 hbox).1).trans hbox
 have k0:w2.cell? ⟨cb,1,none⟩=some (.map (some b2)):=by
   rw[cell_of_row _ _ _ _ _ _ hbox2];rfl
 have HKA:Hid (KeysAt w2 (.slice kq ks.length kc) ks):=hv
 have HB2:Hid (Below W1.heap.size W1 w2):=hb2
 have HIN:Hid (∀z∈ks,-9223372036854775808≤z∧z≤9223372036854775807):=hin
 have hncb:=(hC2.noCell k0).2
 obtain⟨L,hL⟩:∃L,ks.length=L:=⟨_,rfl⟩
 have HL:Hid (ks.length=L):=hL
 rw[hL]at HKA hc ⊢
 have HC2:Hid (CtAt w2 base b1 b2 c qs):=hC2
 clear hL hv hb2 hin hC2 hbox hbox2 HC
 go_wp2
 go_loopw [18] (fun k wr=> ∃n:Nat,n≤L∧k= .int .i64 n∧CtAt wr base b1 b2 (c.1,c.2++(ks.take n).map fun z=>(z,q)) qs∧But (fun k=>k=b2) w2 wr) (fun k _=>L-(intOf k).toNat)
 case atStart=>exact ⟨0,by omega,rfl,by simpa using HC2.out,But.refl _ _⟩
 case round =>
   obtain⟨n,hn,rfl,hCn,hBn⟩:=hrel
   have HCN:Hid (CtAt wr base b1 b2 (c.1,c.2++(ks.take n).map fun z=>(z,q)) qs):=hCn
   have HBN:Hid (But (fun k=>k=b2) w2 wr):=hBn
   have k1:wr.cell? ⟨cb,1,none⟩=some (.map (some b2)):=hBn.keep hncb k0
   by_cases hlt:n<L
   · have hltx:n<ks.length:=by rw[HL.out];exact hlt
     rcases HKA.out with⟨_,_,e,e'⟩|⟨b,o,cap2,e,hcells⟩
     · exfalso;have:=HL.out;rw[e']at this;simp at this;omega
     injection e with e1 e2 e3
     subst e1
     clear e2 e3
     have c1:wr.cell? ⟨b,o+n,none⟩=some (.int .i64 ks[n]):=hBn.keep (HC2.out.noCell (hcells n hltx)).2 (hcells n hltx)
     clear hcells
     have hi:(n:Int)<(L:Int):=by omega
     obtain⟨z1,z2⟩:=HIN.out ks[n] (List.getElem_mem _)
     obtain⟨w4,r1,r2,hC4,hB4⟩:=hCn.addKey (z:=ks[n]) (q:=q) z1 z2 (by simp only[List.length_append,List.length_map,List.length_take];omega) (by omega)
     have HNX:Hid (CtAt w4 base b1 b2 (c.1,c.2++(ks.take (n+1)).map fun z=>(z,q)) qs∧But (fun k=>k=b2) w2 w4):=⟨by
       rw[keyed_snoc ks q n hltx,←List.append_assoc];exact hC4,hBn.trans hB4 fun _ e _=>e⟩
     dsimp only at r1 r2
     have hmx:=fun W=>max_run (lastC (c.2++(ks.take n).map fun z=>(z,q)) ks[n]) q W
     generalize lastC (c.2++(ks.take n).map fun z=>(z,q)) ks[n]=lc at r1 r2 hmx
     generalize max lc q=mx at r2 hmx
     generalize ks[n]=z at c1 r1 r2
     clear hC4 hB4 hCn hBn z1 z2 hltx
     go_wp2
     go_roundw
     case rel=>exact ⟨n+1,by omega,by go_num,HNX.out.1,HNX.out.2⟩
     case measure=>simp [intOf];omega
   · obtain rfl:n=L:=by omega
     rw[List.take_of_length_le (by rw[HL.out];omega)]at HCN
     clear hCn hBn
     go_wp2
     go_ret
     refine⟨rfl,HCN.out,?_⟩
     have h1:But (OfC W base b1 b2) W w2:=But.of_below (HA.out.trans (HB2.out.mono HA.out.size))
     exact h1.trans HBN.out fun i e _=>Or.inr (Or.inl e)
theorem obCells_take {w:World} {b o:Nat} {fs:List Ob} (h:ObCells w b o fs) (n:Nat):ObCells w b o (fs.take n):=fun j hj=>by
 rw[List.length_take]at hj
 have:=h j (by omega)
 rw[List.getElem_take]
 exact this
theorem obCells_drop {w:World} {b o:Nat} {fs:List Ob} (h:ObCells w b o fs) (n:Nat):ObCells w b (o+n*3) (fs.drop n):=fun j hj=>by
 rw[List.length_drop]at hj
 have:=h (n+j) (by omega)
 rw[List.getElem_drop]
 have e:o+n*3+j*3=o+(n+j)*3:=by omega
 rw[e]
 exact this
end Go.Proofs.YtdhkdjlgmbejnaaGreatDoor
