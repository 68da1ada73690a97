/- By an AI agent. -/
import Derived.Test.YtgckdomafbnmkaaGreatDoorPackPut
namespace Go.Proofs.YtgckdomafbnmkaaGreatDoor
open Go.RowKit Go.Extern.Stop Go.Stop Go.Extern Go.Sort Go.Shelf Go.Lib
set_option maxRecDepth 100000 in
set_option maxHeartbeats 4000000 in
theorem put_any (B:Nat) (f:Fl) (v:Value) (xs:List Gx) (w:World) (hx:GrsIn B w v xs) (hB:B≤w.heap.size) (hok:GrOk xs) (h2:0≤f.2.2.1∧f.2.2.1≤1000000) (hl:xs.length≤900) (hlen:∀x∈xs,x.2.2.2.2.length≤900) :
   Calls Tryz.prog 40 #[v,flV f] w fun e w'=> ∃v' xs',e= .returned v'∧GrsIn B w' v' xs'∧xs'.map (·.2.2)=putG f (xs.map (·.2.2))∧Below B w w':=by
 have hal:Below w.heap.size w (w.alloc (.cells #[.string f.1,.string f.2.1,.int .i64 f.2.2.1,.int .i64 f.2.2.2.1,.int .i64 f.2.2.2.2.1,.int .i64 f.2.2.2.2.2] 43)):=(Below.refl _ _).alloc (Nat.le_refl _) _
 have hfn:=FlAt.new w f
 have hxA:=hx.below hal
 have hix:=indexP_any B f w.heap.size v xs _ hxA hfn hok h2 (by omega)
 obtain⟨q,cap,hv⟩:=own_form hx.row
 have HOK0:Hid (GrOk xs):=hok
 have HLN0:Hid (∀x∈xs,x.2.2.2.2.length≤900):=hlen
 obtain⟨L,hL⟩:∃L,xs.length=L:=⟨_,rfl⟩
 have HL:Hid (xs.length=L):=hL
 rw[hL]at hv
 subst hv
 clear hx hok hlen
 unfold flV
 go_enter Tryz.func40,Tryz.ntmps40
 go_upto_region 1 with fail
 generalize w.alloc (.cells #[.string f.1,.string f.2.1,.int .i64 f.2.2.1,.int .i64 f.2.2.2.1,.int .i64 f.2.2.2.2.1,.int .i64 f.2.2.2.2.2] 43)=WA at hal hfn hxA hix ⊢
 generalize w.heap.size=fb at hfn hix ⊢
 go_wp2_with fail
 refine hix.mono ?_
 rintro e w1 ⟨i,rfl,hi,hb1⟩
 clear hix
 have hx1:=hxA.below hb1
 have hfl:=hfn.below hb1
 have hBA:B≤WA.heap.size:=Nat.le_trans hB hal.size
 have hB1:B≤w1.heap.size:=Nat.le_trans hBA hb1.size
 have hBW:Below B w w1:=(hal.mono hB).trans (hb1.mono hBA)
 clear hal hfn hxA hb1 hBA
 rcases hi with⟨rfl,hno⟩|⟨n,hn,rfl,hyes,hbef,-⟩
 · have HPG0:Hid (putG f (xs.map (·.2.2))=xs.map (·.2.2)++ [takeG f (f.2.1,0, [])]):=putG_none f (by rw[List.any_map];exact hno)
   clear hno
   have z1:=hfl.cells.2.1
   obtain⟨v2,W2,hr,hG2,hbu2⟩:=hx1.more hB1 f.2.1 rfl rfl (by omega)
   have hfl2:FlAt W2 fb f:=(hbu2.block fb (lt_of_block hfl) (fun e=>by
     obtain⟨_,_,c,e2⟩:=own_blk hx1.row e
     exact blk_ne hfl e2 (by decide) rfl)).trans hfl
   have hB2:B≤W2.heap.size:=Nat.le_trans hB1 hbu2.size
   have hBW2:Below B w W2:=hBW.trans (hbu2.below hB1 (fun k hk=>(own_blk hx1.row hk).1))
   have hr2:(Builtin.append_ #[84,84] 84 #[.slice q L cap,.slice (some ⟨w1.heap.size+1,0,none⟩) 1 1]).run Tryz.prog ((w1.alloc (.cells #[.string f.2.1,.int .i64 0,.slice none 0 0] 90)).alloc (.cells #[.pointer (some ⟨w1.heap.size,0,none⟩)] 88))= .ok v2 W2:=hr
   have HYS:Hid (∀y∈xs++ [(w1.heap.size,Value.slice none 0 0,((f.2.1,0, []):Gp))],(0≤y.2.2.2.1∧y.2.2.2.1≤1000000)∧y.2.2.2.2.length≤1000):=fun y hy=>by
     rw[List.mem_append,List.mem_singleton]at hy
     rcases hy with hy | rfl
     · exact⟨HOK0.out y hy,by have:=HLN0.out y hy;omega⟩
     · exact⟨⟨by simp,by simp⟩,by simp⟩
   have HPG1:Hid (((xs++ [(w1.heap.size,Value.slice none 0 0,((f.2.1,0, []):Gp))]).map (·.2.2)).set L (takeG f (f.2.1,0, []))=putG f (xs.map (·.2.2))):=by
     show _=_
     rw[HPG0.out,List.map_append]
     have e:L=(xs.map (·.2.2)).length:=by rw[List.length_map,HL.out]
     rw[e,List.set_append_right _ _ (Nat.le_refl _)]
     simp
   have hnx:L<(xs++ [(w1.heap.size,Value.slice none 0 0,((f.2.1,0, []):Gp))]).length:=by rw[List.length_append,HL.out];simp
   have hy:(xs++ [(w1.heap.size,Value.slice none 0 0,((f.2.1,0, []):Gp))])[L]'hnx=(w1.heap.size,Value.slice none 0 0,(f.2.1,0, [])):=by
     have e:L=xs.length:=HL.out.symm
     subst e
     simp
   have hlen2:(xs++ [(w1.heap.size,Value.slice none 0 0,((f.2.1,0, []):Gp))]).length=L+1:=by rw[List.length_append,HL.out];rfl
   generalize hysd:xs++ [(w1.heap.size,Value.slice none 0 0,((f.2.1,0, []):Gp))]=ys at *
   have HPG:Hid ((ys.map (·.2.2)).set L (takeG f ys[L].2.2)=putG f (xs.map (·.2.2))):=by
     show _=_
     rw[hy]
     exact HPG1.out
   have HOK:Hid (∀x∈ys,0≤x.2.2.2.1∧x.2.2.2.1≤1000000):=fun x hx=>(HYS.out x hx).1
   have HLN:Hid (∀x∈ys,x.2.2.2.2.length≤1000):=fun x hx=>(HYS.out x hx).2
   obtain⟨q2,c2,hv2⟩:=own_form hG2.row
   rw[hlen2]at hv2
   obtain⟨L2,hL2⟩:∃k,L+1=k:=⟨_,rfl⟩
   rw[hL2]at hv2
   have hi1:(L:Int)<(L2:Int):=by omega
   have hi0:(0:Int)≤(L:Int):=by omega
   subst hv2
   clear hr hysd hbu2 HPG0 HPG1 HOK0 HLN0 HYS hy hlen2 hL2 hx1 hBW hfl hB1
   go_upto_region 5 with(at_builtin;refine wpList_append_run (by rfl) _ _ _ (by rfl) _ _ _ (by rfl) (by rfl) hr2 ?_)
   clear hr2
   have hdr:Below W2.heap.size W2 W2.drew:=(Below.refl _ _).drew
   have hGd:=hG2.below hdr
   obtain⟨b,hq,hc⟩:=hGd.at_ (fun e=>by rw[e]at hnx;simp at hnx)
   obtain⟨b',hq',hc'⟩:=hG2.at_ (fun e=>by rw[e]at hnx;simp at hnx)
   obtain rfl:b'=b:=by
     rw[hq]at hq'
     injection hq' with e
     injection e with e1 e2 e3
     exact e1.symm
   subst hq
   have c0:=hc _ hnx
   have c0':=hc' _ hnx
   have hxn:=hGd.cell _ (List.getElem_mem hnx)
   have htk:=gtake_any B f ys[L].2.2 ys[L].1 ys[L].2.1 W2.drew hxn.1 hxn.2.2 (Nat.le_trans hB2 hdr.size) (HOK.out _ (List.getElem_mem _)) h2 (HLN.out _ (List.getElem_mem _))
   have HEND:Hid (∀w',TakeP B W2.drew ys[L].1 ys[L].2.1 (takeG f ys[L].2.2) w'→∃xs',GrsIn B w' (.slice (some ⟨b',0,none⟩) L2 c2) xs'∧xs'.map (·.2.2)=putG f (xs.map (·.2.2))∧Below B w w'):=fun w' hp=>by
     obtain⟨v2,hG2⟩:=hGd.took hnx hp
     refine⟨_,hG2,?_,?_⟩
     · rw[List.map_set]
       exact HPG.out
     · obtain⟨_,_,_,hbu,_⟩:=hp
       exact(hBW2.trans (hdr.mono hB2)).trans (hbu.below (Nat.le_trans hB2 hdr.size) (fun k hk=>by
         rcases hk with hk | hk
         · rw[hk];exact hxn.2.1
         · exact(own_blk hxn.2.2 hk).1))
   generalize takeG f ys[L].2.2=TG at htk HEND
   generalize ys[L]=x at c0 c0' htk HEND
   unfold ptG at c0 c0'
   unfold flV at htk
   obtain⟨d0,d1,d2,d3,d4,d5,-⟩:=hfl2.cells
   have s0:=below_keep hdr d0
   have s1:=below_keep hdr d1
   have s2:=below_keep hdr d2
   have s3:=below_keep hdr d3
   have s4:=below_keep hdr d4
   have s5:=below_keep hdr d5
   clear hGd hc hc' hxn hnx hdr HPG HOK HLN
   first
     | (go_region_with (first | (go_at_call 94;refine htk.mono ?_;rintro e w9 ⟨rfl,hp9⟩)))
     | fail
   all_goals obtain⟨xs',hG9,hm9,hb9⟩:=HEND.out w9 hp9
   all_goals clear htk HEND hp9
   all_goals go_wp2
   all_goals go_ret
   all_goals exact⟨_,xs',rfl,hG9,hm9,hb9⟩
 · have hnx:n<xs.length:=hn
   have HPG:Hid ((xs.map (·.2.2)).set n (takeG f xs[n].2.2)=putG f (xs.map (·.2.2))):=by
     show _=_
     rw[putG_at f (gs:=xs.map (·.2.2)) (n:=n) (by simpa using hn) (by simpa using hyes) (fun j hj hjn=>by have:=hbef j (by simpa using hj) hjn;simpa using this)]
     simp
   have HOK:Hid (∀x∈xs,0≤x.2.2.2.1∧x.2.2.2.1≤1000000):=HOK0.out
   have HLN:Hid (∀x∈xs,x.2.2.2.2.length≤1000):=fun x hx=>by have:=HLN0.out x hx;omega
   have hi1:(n:Int)<(L:Int):=by rw[HL.out]at hn;omega
   have hi0:(0:Int)≤(n:Int):=by omega
   clear hyes hbef HOK0 HLN0
   go_upto_region 5 with fail
   have hdr:Below w1.heap.size w1 w1.drew:=(Below.refl _ _).drew
   have hGd:=hx1.below hdr
   obtain⟨b,hq,hc⟩:=hGd.at_ (fun e=>by rw[e]at hnx;simp at hnx)
   obtain⟨b',hq',hc'⟩:=hx1.at_ (fun e=>by rw[e]at hnx;simp at hnx)
   obtain rfl:b'=b:=by
     rw[hq]at hq'
     injection hq' with e
     injection e with e1 e2 e3
     exact e1.symm
   subst hq
   have c0:=hc _ hnx
   have c0':=hc' _ hnx
   have hxn:=hGd.cell _ (List.getElem_mem hnx)
   have htk:=gtake_any B f xs[n].2.2 xs[n].1 xs[n].2.1 w1.drew hxn.1 hxn.2.2 (Nat.le_trans hB1 hdr.size) (HOK.out _ (List.getElem_mem _)) h2 (HLN.out _ (List.getElem_mem _))
   have HEND:Hid (∀w',TakeP B w1.drew xs[n].1 xs[n].2.1 (takeG f xs[n].2.2) w'→∃xs',GrsIn B w' (.slice (some ⟨b',0,none⟩) L cap) xs'∧xs'.map (·.2.2)=putG f (xs.map (·.2.2))∧Below B w w'):=fun w' hp=>by
     obtain⟨v2,hG2⟩:=hGd.took hnx hp
     refine⟨_,hG2,?_,?_⟩
     · rw[List.map_set]
       exact HPG.out
     · obtain⟨_,_,_,hbu,_⟩:=hp
       exact(hBW.trans (hdr.mono hB1)).trans (hbu.below (Nat.le_trans hB1 hdr.size) (fun k hk=>by
         rcases hk with hk | hk
         · rw[hk];exact hxn.2.1
         · exact(own_blk hxn.2.2 hk).1))
   generalize takeG f xs[n].2.2=TG at htk HEND
   generalize xs[n]=x at c0 c0' htk HEND
   unfold ptG at c0 c0'
   unfold flV at htk
   obtain⟨d0,d1,d2,d3,d4,d5,-⟩:=hfl.cells
   have s0:=below_keep hdr d0
   have s1:=below_keep hdr d1
   have s2:=below_keep hdr d2
   have s3:=below_keep hdr d3
   have s4:=below_keep hdr d4
   have s5:=below_keep hdr d5
   clear hGd hc hc' hxn hnx hdr HPG HOK HLN
   first
     | (go_region_with (first | (go_at_call 94;refine htk.mono ?_;rintro e w9 ⟨rfl,hp9⟩)))
     | fail
   all_goals obtain⟨xs',hG9,hm9,hb9⟩:=HEND.out w9 hp9
   all_goals clear htk HEND hp9
   all_goals go_wp2
   all_goals go_ret
   all_goals exact⟨_,xs',rfl,hG9,hm9,hb9⟩
def sevG (gs:List Gp):List (List ByteArray):=(gs.filter fun g=>decide (1<g.2.2.length)).map (·.2.2)
def TssAt (W:World) (v:Value) (ls:List (List ByteArray)):Prop :=
 ∃vs:List Value,vs.length=ls.length∧((v= .slice none 0 0∧ls= [])∨∃b cap,v= .slice (some ⟨b,0,none⟩) ls.length cap∧∀j (h:j<vs.length),W.cell? ⟨b,j,none⟩=some vs[j])∧∀j (h:j<vs.length) (h':j<ls.length),TsAt W vs[j] ls[j]
theorem TssAt.form {W:World} {v:Value} {ls:List (List ByteArray)} (h:TssAt W v ls):∃q c,v= .slice q ls.length c:=by
 obtain⟨_,_,⟨rfl,rfl⟩|⟨b,cap,rfl,_⟩,_⟩:=h
 · exact⟨_,_,rfl⟩
 · exact⟨_,_,rfl⟩
theorem TssAt.below {W W':World} {v:Value} {ls:List (List ByteArray)} (h:TssAt W v ls) (hb:Below W.heap.size W W'):TssAt W' v ls:=by
 obtain⟨vs,h1,h2,h3⟩:=h
 refine⟨vs,h1,?_,fun j a b=>(h3 j a b).below hb⟩
 rcases h2 with h2 | ⟨b,cap,e,hc⟩
 · exact Or.inl h2
 · exact Or.inr ⟨b,cap,e,fun j h=>below_keep hb (hc j h)⟩
def sevN (xs:List Gx) (n:Nat):List Value:=((xs.take n).filter fun x=>decide (1<x.2.2.2.2.length)).map (·.2.1)
theorem sevN_yes {xs:List Gx} {n:Nat} (h:n<xs.length) (e:1<xs[n].2.2.2.2.length):sevN xs (n+1)=sevN xs n++ [xs[n].2.1]:=by
 unfold sevN
 rw[List.take_succ_eq_append_getElem h,List.filter_append,List.map_append]
 simp[e]
theorem sevN_no {xs:List Gx} {n:Nat} (h:n<xs.length) (e:¬1<xs[n].2.2.2.2.length):sevN xs (n+1)=sevN xs n:=by
 unfold sevN
 rw[List.take_succ_eq_append_getElem h,List.filter_append,List.map_append]
 simp[e]
theorem sevN_len (xs:List Gx) (n:Nat):(sevN xs n).length≤xs.length:=by
 unfold sevN
 rw[List.length_map]
 have h1:=List.length_filter_le (fun x:Gx=>decide (1<x.2.2.2.2.length)) (xs.take n)
 have h3:=List.length_take_le' n xs
 omega
theorem sev_map (xs:List Gx):sevG (xs.map (·.2.2))=((xs.filter fun x=>decide (1<x.2.2.2.2.length))).map (fun x=>x.2.2.2.2):=by
 unfold sevG
 rw[List.filter_map,List.map_map]
 rfl
theorem Tryz.txsInfo3:(Tryz.prog.info? 39).map (fun i=>(i.zero,i.size,i.bytes))=some (some (.slice none 0 0),1,24):=by kernel_rfl
theorem Tryz.txsInfo:∃i0:TypeInfo,Tryz.prog.info? 39=some i0∧i0.zero=some (.slice none 0 0)∧i0.size=1∧i0.bytes=24:=by
 have h:=Tryz.txsInfo3
 cases hi:Tryz.prog.info? 39 with
 | none=>rw [hi]at h;simp at h
 | some i =>
   rw[hi]at h
   simp only[Option.map_some,Option.some.injEq,Prod.mk.injEq]at h
   exact⟨i,rfl,h.1,h.2.1,h.2.2⟩
theorem txs_run {B:Nat} {W W9:World} {v:Value} {us:List Value} (ho:W.ownsRow B 39 1 v us.length us) (hB:B≤W.heap.size) (u:Value) (h1:u.oneCell'=true) (hW9:W9=W.alloc (.cells #[u] 39)) (hlen:us.length≤1000) :
   ∃v' W2,(Builtin.append_ #[33,33] 33 #[v,.slice (some ⟨W.heap.size,0,none⟩) 1 1]).run Tryz.prog W9= .ok v' W2∧W2.ownsRow B 39 1 v' (us++ [u]).length (us++ [u])∧But (fun k=>v.ownBlock=some k) W W2:=by
 obtain⟨i0,hi,hz,hs,hby⟩:=Tryz.txsInfo
 have hal:Below W.heap.size W W9:=by rw[hW9];exact(Below.refl _ _).alloc (Nat.le_refl _) _
 have hsrc:Src W9 (some ⟨W.heap.size,0,none⟩) 1 1 [u]:=by
   rw[hW9]
   exact src_new W [u] 39 1 1
 obtain⟨v',W2,hr,h2,hg,hv⟩:=run_append_src (P:=Tryz.prog) W9 B 33 33 39 i0 (.slice none 0 0) 1 24 Tryz.underlying33 hi hz hs hby rfl (by decide) v us.length us (own_but (P:=fun _=>False) ho (But.of_below hal) (fun _ _ h=>h)) (some ⟨W.heap.size,0,none⟩) 1 1 [u] rfl hsrc (by intro u' hu;rw[List.mem_singleton]at hu;subst hu;exact h1) (by unfold maxLen;omega) (by omega) (Nat.le_trans hB hal.size)
 refine⟨v',W2,hr,?_,(But.of_below hal).trans (But.grown hg) (fun _ h _=>h)⟩
 rw[List.length_append]
 exact h2
theorem tss_own {B:Nat} {W:World} {v:Value} {xs:List Gx} {B0:Nat} {v0:Value} (ho:W.ownsRow B 39 1 v (sevN xs xs.length).length (sevN xs xs.length)) (hG:GrsIn B0 W v0 xs):TssAt W v (sevG (xs.map (·.2.2))):=by
 have e0:sevN xs xs.length=(xs.filter fun x=>decide (1<x.2.2.2.2.length)).map (·.2.1):=by unfold sevN;rw[List.take_length]
 rw[e0]at ho
 rw[sev_map]
 refine⟨(xs.filter fun x=>decide (1<x.2.2.2.2.length)).map (·.2.1),by simp,?_,fun j h h'=>?_⟩
 · rcases ho.2 with⟨hv,hn⟩|⟨g,cap,cur,hv,_,hg,hc,_,_,ht⟩
   · refine Or.inl ⟨hv,?_⟩
     rw[List.length_map]at hn
     rw[List.length_eq_zero_iff.1 hn]
     rfl
   · rw[List.length_map]at hv
     refine Or.inr ⟨g,cap,by rw[hv,List.length_map],fun j hj=>?_⟩
     rw[cell_of_row _ _ _ _ _ _ hg]
     have e:(cur.toList.take (((xs.filter fun x=>decide (1<x.2.2.2.2.length)).map (·.2.1)).length*1))[j]? =((xs.filter fun x=>decide (1<x.2.2.2.2.length)).map (·.2.1))[j]? :=by rw[ht]
     rw[List.getElem?_take,if_pos (by omega),Array.getElem?_toList]at e
     rw[e,List.getElem?_eq_getElem hj]
 · simp only[List.getElem_map]
   have hm:(xs.filter fun x=>decide (1<x.2.2.2.2.length))[j]'(by simpa using h)∈xs:=(List.mem_filter.1 (List.getElem_mem _)).1
   exact tsAt_own (hG.cell _ hm).2.2
set_option maxRecDepth 100000 in
set_option maxHeartbeats 4000000 in
theorem several_any (B:Nat) (v:Value) (xs:List Gx) (w:World) (hx:GrsIn B w v xs) (hl:xs.length≤900) :
   Calls Tryz.prog 44 #[v] w fun e w'=> ∃v',e= .returned v'∧TssAt w' v' (sevG (xs.map (·.2.2)))∧Below w.heap.size w w':=by
 obtain⟨q,cap,rfl⟩:=own_form hx.row
 have HFX:Hid (∀W,Below w.heap.size w W→GrsIn B W (.slice q xs.length cap) xs):=fun W hb=>hx.below hb
 have HFM:Hid (∀x∈xs,∃q c,x.2.1= .slice q x.2.2.2.2.length c):=fun x hxm=>own_form (hx.cell x hxm).2.2
 have HSL:Hid (∀n,(sevN xs n).length≤900):=fun n=>Nat.le_trans (sevN_len xs n) hl
 obtain⟨L,hL⟩:∃L,xs.length=L:=⟨_,rfl⟩
 have HX:Hid (xs.length=L):=hL
 rw[hL]at hl HFX ⊢
 clear hL hx
 go_enter Tryz.func44,Tryz.ntmps44
 go_wp2
 go_loopw [3,8] (fun u k wr=> ∃n:Nat,n≤L∧k= .int .i64 n∧wr.ownsRow w.heap.size 39 1 u (sevN xs n).length (sevN xs n)∧Below w.heap.size w wr) (fun _ k _=>L-(intOf k).toNat)
 case atStart=>exact ⟨0,by omega,rfl,World.ownsRow_nil _ _ _ _,Below.refl _ _⟩
 case round =>
   obtain⟨n,hn,rfl,ho,hb⟩:=hrel
   have HO:Hid (wr.ownsRow w.heap.size 39 1 u3 (sevN xs n).length (sevN xs n)):=ho
   clear ho
   by_cases hlt:n<L
   · have hltx:n<xs.length:=by rw[HX.out];exact hlt
     obtain⟨b,hq,hc⟩:=(HFX.out wr hb).at_ (fun e=>by rw[e]at hltx;simp at hltx)
     subst hq
     have c0:=hc n hltx
     have hcl:=(HFX.out wr hb).cell xs[n] (List.getElem_mem _)
     have c2:=hcl.1.cells.2.2.1
     have hi:(n:Int)<(L:Int):=by omega
     have hi0':(0:Int)≤(n:Int):=by omega
     obtain⟨pq,pc,hpv⟩:=HFM.out xs[n] (List.getElem_mem _)
     have HY:Hid (1<xs[n].2.2.2.2.length→sevN xs (n+1)=sevN xs n++ [xs[n].2.1]):=fun e=>sevN_yes hltx e
     have HN:Hid (¬1<xs[n].2.2.2.2.length→sevN xs (n+1)=sevN xs n):=fun e=>sevN_no hltx e
     generalize xs[n]=x at c0 c2 hpv HY HN
     unfold ptG at c0
     clear hc hltx hcl
     obtain⟨xb,xv,xg⟩:=x
     dsimp only at *
     subst hpv
     generalize xg.2.2.length=PL at *
     by_cases h1:1<PL
     · have hd:(1:Int)<(PL:Int):=by omega
       obtain⟨v',W6,hr,ho6,hbut⟩:=txs_run HO.out hb.size (.slice pq PL pc) rfl rfl (by have:=HSL.out n;omega)
       have hB6:Below w.heap.size w W6:=hb.trans (hbut.below hb.size (fun k hk=>(own_blk HO.out hk).1))
       have HR:Hid (W6.ownsRow w.heap.size 39 1 v' (sevN xs (n+1)).length (sevN xs (n+1))):=by
         show World.ownsRow _ _ _ _ _ _ _
         rw[HY.out h1]
         exact ho6
       clear HY HN ho6 hbut HO h1
       go_wp2_with (at_builtin;refine wpList_append_run (by rfl) _ _ _ (by rfl) _ _ _ (by rfl) (by rfl) hr ?_)
       go_roundw
       case rel=>exact ⟨n+1,by omega,by go_num,HR.out,hB6⟩
       case measure=>simp [intOf];omega
     · have hd:¬(1:Int)<(PL:Int):=by omega
       have HS:Hid (sevN xs (n+1)=sevN xs n):=HN.out h1
       clear HY HN h1
       go_wp2
       go_roundw
       case rel=>exact ⟨n+1,by omega,by go_num,by rw[HS.out];exact HO.out,hb⟩
       case measure=>simp [intOf];omega
   · obtain rfl:n=L:=by omega
     have HT:Hid (TssAt wr u3 (sevG (xs.map (·.2.2)))):=tss_own (by rw[HX.out];exact HO.out) (HFX.out wr hb)
     have hii:¬(n:Int)<(n:Int):=by omega
     clear HO
     go_wp2
     go_ret
     exact⟨_,rfl,HT.out,hb⟩
set_option maxRecDepth 100000 in
set_option maxHeartbeats 1000000 in
theorem insert_tiny (q:Option Addr) (n c:Nat) (cv:Value) (h:n≤1) (w:World) :
   Calls Tryz.prog 136 #[.slice q n c,.int .i64 0,.int .i64 n,cv] w fun e w'=>e= .returned (.tuple #[])∧w'=w:=by
 have h1:¬(1:Int)<(n:Int):=by omega
 go_enter Tryz.func136,Tryz.ntmps136
 go_wp2
 refine wp_loop_rounds 1 ?_
 rw[rounds_succ]
 go_wp2
 go_end0
 exact⟨rfl,rfl⟩
set_option maxRecDepth 100000 in
set_option maxHeartbeats 1000000 in
theorem stable_tiny (q:Option Addr) (n c:Nat) (cv:Value) (h:n≤1) (w:World) :
   Calls Tryz.prog 95 #[.slice q n c,.int .i64 n,cv] w fun e w'=>e= .returned (.tuple #[])∧w'=w:=by
 have h1:¬(20:Int)≤(n:Int):=by omega
 have h2:¬(20:Int)<(n:Int):=by omega
 have hin:=insert_tiny q n c cv h w
 clear h
 go_enter Tryz.func95,Tryz.ntmps95
 go_wp2
 refine wp_loop_rounds 1 ?_
 rw[rounds_succ]
 go_wp2_with fail
 refine hin.mono ?_
 rintro e w1 ⟨rfl,rfl⟩
 go_wp2
 refine wp_loop_rounds 1 ?_
 rw[rounds_succ]
 go_wp2
 go_end0
 exact⟨rfl,rfl⟩
set_option maxRecDepth 100000 in
theorem sortS_tiny (q:Option Addr) (n c:Nat) (cv:Value) (h:n≤1) (w:World) :
   Calls Tryz.prog 41 #[.slice q n c,cv] w fun e w'=>e= .returned (.tuple #[])∧w'=w:=by
 have hst:=stable_tiny q n c cv h w
 go_enter Tryz.func41,Tryz.ntmps41
 go_wp2_with fail
 refine hst.mono ?_
 rintro e w1 ⟨rfl,rfl⟩
 go_wp2
 go_end0
 exact⟨rfl,rfl⟩
def fewB (least:Int) (f:Fl):Bool:= !goneP f.1 && decide (f.2.2.1<least)
def plN (fs:List Fl) (least:Int) (n:Nat):List Gp:=((fs.take n).filter (fewB least)).foldl (fun gs f=>putG f gs) []
theorem plN_yes {fs:List Fl} {least:Int} {n:Nat} (h:n<fs.length) (e:fewB least fs[n]=true):plN fs least (n+1)=putG fs[n] (plN fs least n):=by
 unfold plN
 rw[List.take_succ_eq_append_getElem h,List.filter_append,List.foldl_append]
 simp[e]
theorem plN_no {fs:List Fl} {least:Int} {n:Nat} (h:n<fs.length) (e:fewB least fs[n]=false):plN fs least (n+1)=plN fs least n:=by
 unfold plN
 rw[List.take_succ_eq_append_getElem h,List.filter_append,List.foldl_append]
 simp[e]
def GsOk (n:Nat) (gs:List Gp):Prop:=gs.length≤n∧∀g∈gs,(0≤g.2.1∧g.2.1≤40)∧g.2.2.length≤n
theorem GsOk.mono {n:Nat} {gs:List Gp} (h:GsOk n gs):GsOk (n+1) gs:=⟨by have:=h.1;omega,fun g hg=>⟨(h.2 g hg).1,by have:=(h.2 g hg).2;omega⟩⟩
theorem putG_ok {f:Fl} (hf:0≤f.2.2.1∧f.2.2.1≤40):∀ {n:Nat} {gs:List Gp},GsOk n gs→GsOk (n+1) (putG f gs)
 | n, [],_=>⟨by simp[putG],fun g hg=>by
   rw[putG,List.mem_singleton]at hg
   subst hg
   unfold takeG
   exact⟨by simpa using hf,by simp⟩⟩
 | n,g :: r,h=>by
   have hg:=h.2 g List.mem_cons_self
   unfold putG
   by_cases e:fitG f g=true
   · rw[if_pos e]
     refine⟨by have:=h.1;simpa using Nat.le_succ_of_le this,fun x hx=>?_⟩
     rcases List.mem_cons.1 hx with rfl | hx
     · unfold fitG at e
       rw[Bool.and_eq_true,decide_eq_true_eq,decide_eq_true_eq]at e
       unfold takeG
       exact⟨⟨by show 0≤g.2.1+f.2.2.1;omega,e.2⟩,by simp only[List.length_append,List.length_singleton];omega⟩
     · have:=h.2 x (List.mem_cons_of_mem _ hx)
       exact⟨this.1,by omega⟩
   · rw[if_neg e]
     have hr:r.length+1≤n:=by have:=h.1;simpa using this
     obtain⟨k,rfl⟩:∃k,n=k+1:=⟨n-1,by omega⟩
     have ih:=putG_len f r
     have ih2:=putG_mem (f:=f) (n:=k+1) hf r (fun x hx=>h.2 x (List.mem_cons_of_mem _ hx))
     refine⟨by simp only[List.length_cons];omega,fun x hx=>?_⟩
     rcases List.mem_cons.1 hx with rfl | hx
     · exact⟨hg.1,by omega⟩
     · exact ih2 x hx
 where
 putG_len (f:Fl):∀gs:List Gp,(putG f gs).length≤gs.length+1
   | []=>by simp[putG]
   | g :: r=>by
     unfold putG
     split
     · simp
     · have:=putG_len f r
       simp only[List.length_cons]
       omega
 putG_mem {f:Fl} {n:Nat} (hf:0≤f.2.2.1∧f.2.2.1≤40):∀gs:List Gp,(∀g∈gs,(0≤g.2.1∧g.2.1≤40)∧g.2.2.length≤n)→∀g∈putG f gs,(0≤g.2.1∧g.2.1≤40)∧g.2.2.length≤n+1
   | [],_,g,hg=>by
     rw[putG,List.mem_singleton]at hg
     subst hg
     unfold takeG
     exact⟨by simpa using hf,by simp⟩
   | a :: r,h,g,hg=>by
     have ha:=h a List.mem_cons_self
     unfold putG at hg
     by_cases e:fitG f a=true
     · rw[if_pos e]at hg
       rcases List.mem_cons.1 hg with rfl | hg
       · unfold fitG at e
         rw[Bool.and_eq_true,decide_eq_true_eq,decide_eq_true_eq]at e
         unfold takeG
         exact⟨⟨by show 0≤a.2.1+f.2.2.1;omega,e.2⟩,by simp only[List.length_append,List.length_singleton];omega⟩
       · have:=h g (List.mem_cons_of_mem _ hg)
         exact⟨this.1,by omega⟩
     · rw[if_neg e]at hg
       rcases List.mem_cons.1 hg with rfl | hg
       · exact⟨ha.1,by omega⟩
       · exact putG_mem hf r (fun x hx=>h x (List.mem_cons_of_mem _ hx)) g hg
theorem plN_ok {fs:List Fl} {least:Int} (hfs:∀f∈fs,0≤f.2.2.1∧f.2.2.1≤40):∀n,n≤fs.length→GsOk n (plN fs least n)
 | 0,_=>⟨by simp[plN],fun g hg=>by simp[plN]at hg⟩
 | n+1,h=>by
   have ih:=plN_ok (least:=least) hfs n (by omega)
   cases e:fewB least (fs[n]'(by omega)) with
   | true=>rw [plN_yes (by omega) e];exact putG_ok (hfs _ (List.getElem_mem _)) ih
   | false=>rw [plN_no (by omega) e];exact ih.mono
theorem file_rows {f:Fl} (h:fileE f=0):0≤f.2.2.1∧f.2.2.1≤40:=by
 obtain⟨_,_,_,_,hb⟩:=file_good h
 unfold bndB at hb
 simp only[Bool.and_eq_true,decide_eq_true_eq]at hb
 omega
set_option maxRecDepth 100000 in
set_option maxHeartbeats 8000000 in
theorem plan_few (v:Value) (fs:List Fl) (least:Int) (w:World) (a:Nat→Addr) (h:EnvL w a) (hx:FlsAt w v fs) (hl:fs.length≤100) (hsz:Short fs) (hE:(listE fs).1=0) (hb0:0≤least) (hb1:least≤41) (hfew:(plN fs least fs.length).length≤1) :
   Calls Tryz.prog 10 #[v,.int .i64 least] w fun e w'=> ∃v',e= .returned (.tuple #[v',.nilIface])∧TssAt w' v' (sevG (plN fs least fs.length))∧Below w.heap.size w w':=by
 have hck:=lcheck_any v fs w a h hx hl hsz
 have HEN:Hid (∀W,Below w.heap.size w W→EnvN W a):=fun W hb=>h.file.env.below hb
 have HX:Hid (∀W,Below w.heap.size w W→FlsAt W v fs):=fun W hb=>hx.below hb
 have HFS:Hid (∀f∈fs,0≤f.2.2.1∧f.2.2.1≤40):=fun f hf=>file_rows ((listE_ok.1 hE).2.1 f hf).1
 have HIG:Hid (∀f∈fs,∀W,Below w.heap.size w W→Calls Tryz.prog 39 #[flV f] W fun e w'=>e= .returned (.bool (goneP f.1))∧Below W.heap.size W w'):=fun f hf W hb=>isGone_any f W a (HEN.out W hb) (by have:=(hsz f hf).1;omega)
 obtain⟨q,cap,rfl⟩:=hx.form
 obtain⟨L,hL⟩:∃L,fs.length=L:=⟨_,rfl⟩
 have HL:Hid (fs.length=L):=hL
 have HPO:Hid (∀n,n≤L→GsOk n (plN fs least n)):=fun n hn=>plN_ok HFS.out n (by omega)
 have hL1:L≤100:=by omega
 rw[hL]at hck HX hfew ⊢
 clear hx hl hL hsz h
 go_enter Tryz.func10,Tryz.ntmps10
 go_wp2_with fail
 refine hck.mono ?_
 rintro e w1 ⟨ev,rfl,ht,hb1'⟩
 obtain rfl:=ht.ok hE
 clear hck ht hE
 go_wp2_with fail
 go_loopw [7,24] (fun u k wr=> ∃(n:Nat) (xs:List Gx),n≤L∧k= .int .i64 n∧GrsIn w.heap.size wr u xs∧xs.map (·.2.2)=plN fs least n∧Below w.heap.size w wr) (fun _ k _=>L-(intOf k).toNat)
 case atStart=>exact ⟨0, [],by omega,rfl,GrsIn.nil _ _,rfl,hb1'⟩
 case round =>
 clear hb1'
 obtain⟨n,xs,hn,rfl,hG,hm,hb⟩:=hrel
 have HM:Hid (xs.map (·.2.2)=plN fs least n):=hm
 have HG:Hid (GrsIn w.heap.size wr u7 xs):=hG
 clear hm hG
 by_cases hlt:n<L
 case neg =>
   obtain rfl:n=L:=by omega
   have hii:¬(n:Int)<(n:Int):=by omega
   have hlx:xs.length≤1:=by
     have e:=congrArg List.length HM.out
     rw[List.length_map]at e
     omega
   obtain⟨q7,c7,hu7⟩:=own_form HG.out.row
   have hsv:=several_any w.heap.size u7 xs wr HG.out (by omega)
   rw[HM.out]at hsv
   subst hu7
   have hst:=fun cv=>sortS_tiny q7 xs.length c7 cv hlx wr
   generalize xs.length=XL at *
   clear HG HM hlx hfew HPO
   go_upto_region 13 with fail
   go_wp2_with fail
   refine(hst _).mono ?_
   rintro e w2 ⟨rfl,rfl⟩
   clear hst
   go_wp2_with fail
   refine hsv.mono ?_
   rintro e w3 ⟨v3,rfl,ht3,hb3⟩
   clear hsv
   have HT3:Hid (TssAt w3 v3 (sevG (plN fs least n))):=ht3
   have hB3:Below w.heap.size w w3:=hb.trans (hb3.mono hb.size)
   clear ht3
   go_wp2
   refine bodyPost_ret (v:=.tuple #[v3,.nilIface]) (by simp[results,Tryz.results10,go_sem]) rfl ?_
   exact⟨_,rfl,HT3.out,hB3⟩
 case pos =>
   have hltx:n<fs.length:=by rw[HL.out];exact hlt
   obtain⟨b,o,hq,hc⟩:=(HX.out wr hb).cells (fun e=>by rw[e]at hltx;simp at hltx)
   subst hq
   obtain⟨c0,c1,c2,c3,c4,c5⟩:=hc n hltx
   have hi1:(n:Int)<(L:Int):=by omega
   have hi0:(0:Int)≤(n:Int):=by omega
   have HIY:Hid (fewB least fs[n]=true→plN fs least (n+1)=putG fs[n] (plN fs least n)):=fun e=>plN_yes hltx e
   have HIN:Hid (fewB least fs[n]=false→plN fs least (n+1)=plN fs least n):=fun e=>plN_no hltx e
   have hfr:=HFS.out fs[n] (List.getElem_mem _)
   have hig:=HIG.out fs[n] (List.getElem_mem _)
   have HGO:=HPO.out n (by omega)
   have HXO:Hid (GrOk xs∧xs.length≤900∧∀x∈xs,x.2.2.2.2.length≤900):=by
     have e:=HM.out
     have el:xs.length=(plN fs least n).length:=by rw[←e,List.length_map]
     have em:∀x∈xs,x.2.2∈plN fs least n:=fun x hx=>by rw[←e];exact List.mem_map.2 ⟨x,hx,rfl⟩
     exact⟨fun x hx=>by have:=(HGO.2 _ (em x hx)).1;omega,by have:=HGO.1;omega,fun x hx=>by have:=(HGO.2 _ (em x hx)).2;omega⟩
   generalize fs[n]=g at c0 c1 c2 c3 c4 c5 HIY HIN hig hfr
   have hal:Below wr.heap.size wr (wr.alloc (.cells #[.string g.1,.string g.2.1,.int .i64 g.2.2.1,.int .i64 g.2.2.2.1,.int .i64 g.2.2.2.2.1,.int .i64 g.2.2.2.2.2] 43)):=(Below.refl _ _).alloc (Nat.le_refl _) _
   have hgn:=FlAt.new wr g
   have hB2:Below w.heap.size w (wr.alloc (.cells #[.string g.1,.string g.2.1,.int .i64 g.2.2.1,.int .i64 g.2.2.2.1,.int .i64 g.2.2.2.2.1,.int .i64 g.2.2.2.2.2] 43)):=hb.trans (hal.mono hb.size)
   have HG2:Hid (GrsIn w.heap.size (wr.alloc (.cells #[.string g.1,.string g.2.1,.int .i64 g.2.2.1,.int .i64 g.2.2.2.1,.int .i64 g.2.2.2.2.1,.int .i64 g.2.2.2.2.2] 43)) u7 xs):=HG.out.below hal
   clear hc hltx HG hal hb HGO HPO hfew
   go_upto_region 10 with fail
   clear c0 c1 c2 c3 c4 c5
   generalize wr.alloc (.cells #[.string g.1,.string g.2.1,.int .i64 g.2.2.1,.int .i64 g.2.2.2.1,.int .i64 g.2.2.2.2.1,.int .i64 g.2.2.2.2.2] 43)=W2 at *
   generalize wr.heap.size=gb at *
   obtain⟨d0,d1,d2,d3,d4,d5,-⟩:=hgn.cells
   have hig2:=hig W2 hB2
   unfold flV at hig2
   clear hig HIG
   go_wp2_with fail
   refine hig2.mono ?_
   rintro e w3 ⟨rfl,hb3⟩
   clear hig2 d0 d1 d2 d3 d4 d5
   have hB3:Below w.heap.size w w3:=hB2.trans (hb3.mono hB2.size)
   have HG3:Hid (GrsIn w.heap.size w3 u7 xs):=HG2.out.below hb3
   obtain⟨d0,d1,d2,d3,d4,d5,-⟩:=(hgn.below hb3).cells
   clear HG2 hb3 hB2 hgn
   cases hGG:goneP g.1
   case true =>
     have HS:Hid (plN fs least (n+1)=plN fs least n):=HIN.out (by unfold fewB;rw[hGG];rfl)
     clear hGG HIY HIN
     go_wp2
     go_roundw
     case rel=>exact ⟨n+1,xs,by omega,by go_num,HG3.out,by rw[HS.out];exact HM.out,hB3⟩
     case measure=>simp [intOf];omega
   case false =>
     by_cases hfw:g.2.2.1<least
     · have HS:Hid (plN fs least (n+1)=putG g (plN fs least n)):=HIY.out (by unfold fewB;rw[hGG,decide_eq_true hfw];rfl)
       have hpt:=put_any w.heap.size g u7 xs w3 HG3.out hB3.size HXO.out.1 ⟨hfr.1,by omega⟩ HXO.out.2.1 HXO.out.2.2
       rw[HM.out,←HS.out]at hpt
       unfold flV at hpt
       clear hGG HIY HIN HXO HG3
       go_wp2_with fail
       refine hpt.mono ?_
       rintro e w4 ⟨v4,xs4,rfl,hG4,hm4,hb4⟩
       have HR:Hid (∃(m:Nat) (ys:List Gx),m≤L∧Value.int .i64 ((n:Int)+1)= .int .i64 m∧GrsIn w.heap.size w4 v4 ys∧ys.map (·.2.2)=plN fs least m∧Below w.heap.size w w4):=⟨n+1,xs4,by omega,by go_num,hG4,hm4,hB3.trans hb4⟩
       clear hpt hG4 hm4 hb4 HM HS d0 d1 d2 d3 d4 d5
       go_wp2
       go_roundw
       case rel =>
         obtain⟨m,ys,g1,g2,g3,g4,g5⟩:=HR.out
         exact⟨m,ys,g1,g2,g3,g4,g5⟩
       case measure=>simp [intOf];omega
     · have HS:Hid (plN fs least (n+1)=plN fs least n):=HIN.out (by unfold fewB;rw[hGG,decide_eq_false hfw];rfl)
       clear hGG HIY HIN
       go_wp2
       go_roundw
       case rel=>exact ⟨n+1,xs,by omega,by go_num,HG3.out,by rw[HS.out];exact HM.out,hB3⟩
       case measure=>simp [intOf];omega
def pk2:Fl:=(⟨#[100,97,116,97,47,50]⟩,⟨#[97]⟩,2,0,0,1)
theorem pk_ok2:fileE pk2=0:=by
 have h:pathO pk2.1.data.toList=some (false,2):=on_path2
 unfold fileE
 rw[h]
 decide
theorem pk_fk2:fk pk2=2:=on_fk2
theorem pk_two:(listE [oneF 49,pk2]).1=0:=listE_ok.2 ⟨by decide,rises_cons.2 ⟨on_ok1,by rw[on_fk1];decide,rises_cons.2 ⟨pk_ok2,by rw[on_fk1,pk_fk2];decide,by simp[Rises]⟩⟩⟩
theorem pk_gone1:goneP (oneF 49).1=false:=by unfold goneP;rw[on_path1]
theorem pk_gone2:goneP pk2.1=false:=by
 have h:pathO pk2.1.data.toList=some (false,2):=on_path2
 unfold goneP
 rw[h]
theorem pk_few1:fewB 10 (oneF 49)=true:=by unfold fewB;rw[pk_gone1];rfl
theorem pk_few2:fewB 10 pk2=true:=by unfold fewB;rw[pk_gone2];rfl
theorem pk_fit:fitG pk2 (takeG (oneF 49) (⟨#[97]⟩,0, []))=true:=by
 unfold fitG
 rw[decide_eq_true (show (takeG (oneF 49) (⟨#[97]⟩,0, [])).1=pk2.2.1 from rfl)]
 rfl
theorem pk_plan:plN [oneF 49,pk2] 10 2= [(⟨#[97]⟩,3, [(oneF 49).1,pk2.1])]:=by
 have h1:plN [oneF 49,pk2] 10 1=putG (oneF 49) (plN [oneF 49,pk2] 10 0):=plN_yes (by simp) pk_few1
 have h2:plN [oneF 49,pk2] 10 2=putG pk2 (plN [oneF 49,pk2] 10 1):=plN_yes (by simp) pk_few2
 rw[h2,h1]
 show putG pk2 (putG (oneF 49) [])=_
 have e:putG (oneF 49) []= [takeG (oneF 49) (⟨#[97]⟩,0, [])]:=rfl
 rw[e]
 unfold putG
 rw[if_pos pk_fit]
 rfl
theorem pk_sev:sevG [((⟨#[97]⟩,3, [(oneF 49).1,pk2.1]):Gp)]= [[(oneF 49).1,pk2.1]]:=rfl
theorem txs_of {W:World} {v:Value} {ts:List ByteArray} (h:TsAt W v ts):TxsAt W v ts:=by
 rcases h with⟨rfl,rfl⟩|⟨b,cap,rfl,_,hc⟩
 · exact Or.inl ⟨_,_,rfl,rfl⟩
 · exact Or.inr ⟨b,0,cap,rfl,fun j hj=>by rw[Nat.zero_add];exact hc j hj⟩
theorem txs_two (W:World) (p q:ByteArray):TxsAt (W.alloc (.cells #[.string p,.string q] 9)) (.slice (some ⟨W.heap.size,0,none⟩) 2 2) [p,q]:=by
 refine Or.inr ⟨W.heap.size,0,2,rfl,fun j hj=>?_⟩
 match j,hj with
 | 0,_=>simp
 | 1,_=>simp
set_option maxRecDepth 100000 in
set_option maxHeartbeats 4000000 in
theorem packed_any (w:World) (a:Nat→Addr) (h:EnvL w a) :
   Calls Tryz.prog 6 #[] w fun e w'=>e= .returned (.bool true)∧Below w.heap.size w w':=by
 have hal:Below w.heap.size w (w.alloc (.cells #[.string ⟨#[100,97,116,97,47,49]⟩,.string ⟨#[97]⟩,.int .i64 1,.int .i64 0,.int .i64 0,.int .i64 1,.string ⟨#[100,97,116,97,47,50]⟩,.string ⟨#[97]⟩,.int .i64 2,.int .i64 0,.int .i64 0,.int .i64 1] 43)):=(Below.refl _ _).alloc (Nat.le_refl _) _
 have hfl:FlsAt (w.alloc (.cells #[.string ⟨#[100,97,116,97,47,49]⟩,.string ⟨#[97]⟩,.int .i64 1,.int .i64 0,.int .i64 0,.int .i64 1,.string ⟨#[100,97,116,97,47,50]⟩,.string ⟨#[97]⟩,.int .i64 2,.int .i64 0,.int .i64 0,.int .i64 1] 43)) (.slice (some ⟨w.heap.size,0,none⟩) 2 2) [oneF 49,pk2]:=fls_two w (oneF 49) pk2
 have hpl:=plan_few _ [oneF 49,pk2] 10 _ a (h.below hal) hfl (by decide) (fun f hf=>by
   simp only[List.mem_cons,List.not_mem_nil,or_false]at hf
   rcases hf with rfl | rfl<;>decide) pk_two (by decide) (by decide) (by
   show (plN [oneF 49,pk2] 10 2).length≤1
   rw[pk_plan]
   decide)
 have e2:plN [oneF 49,pk2] 10 [oneF 49,pk2].length= [(⟨#[97]⟩,3, [(oneF 49).1,pk2.1])]:=pk_plan
 rw[e2,pk_sev]at hpl
 clear hfl h
 go_enter Tryz.func6,Tryz.ntmps6
 go_wp2_with fail
 refine hpl.mono ?_
 rintro e w1 ⟨v1,rfl,ht,hb1⟩
 clear hpl
 have hB1:=hal.trans (hb1.mono hal.size)
 obtain⟨vs,hvl,hor,hts⟩:=ht
 rcases hor with⟨_,h0⟩|⟨b,cap,rfl,hc⟩
 · exact absurd h0 (by simp)
 have hv1:0<vs.length:=by rw[hvl];simp
 have c0:=hc 0 hv1
 have t0:=hts 0 hv1 (by simp)
 have hal2:Below w1.heap.size w1 (w1.alloc (.cells #[.string ⟨#[100,97,116,97,47,49]⟩,.string ⟨#[100,97,116,97,47,50]⟩] 9)):=(Below.refl _ _).alloc (Nat.le_refl _) _
 have hsm:=sameTexts_yes vs[0] _ [(oneF 49).1,pk2.1] _ ((txs_of t0).below hal2) (txs_two w1 (oneF 49).1 pk2.1) (by decide)
 have hB2:=hB1.trans (hal2.mono hB1.size)
 obtain⟨tq,tc,hv0⟩:=t0.form
 rw[hv0]at c0 hsm
 have hsm':Calls Tryz.prog 21 #[.slice tq 2 tc,.slice (some ⟨w1.heap.size,0,none⟩) 2 2] (w1.alloc (.cells #[.string ⟨#[100,97,116,97,47,49]⟩,.string ⟨#[100,97,116,97,47,50]⟩] 9)) fun e w'=>e= .returned (.bool true)∧Below (w1.alloc (.cells #[.string ⟨#[100,97,116,97,47,49]⟩,.string ⟨#[100,97,116,97,47,50]⟩] 9)).heap.size (w1.alloc (.cells #[.string ⟨#[100,97,116,97,47,49]⟩,.string ⟨#[100,97,116,97,47,50]⟩] 9)) w':=hsm
 have c0':w1.cell? ⟨b,0,none⟩=some (.slice tq 2 tc):=c0
 clear hsm c0 hc hts t0 hvl hv1 hv0
 rw[show [[(oneF 49).1,pk2.1]].length=1 from rfl]
 go_wp2_with fail
 refine hsm'.mono ?_
 rintro e w2 ⟨rfl,hb2⟩
 clear hsm'
 go_wp2
 go_ret
 exact⟨rfl,hB2.trans (hb2.mono hB2.size)⟩
end Go.Proofs.YtgckdomafbnmkaaGreatDoor
