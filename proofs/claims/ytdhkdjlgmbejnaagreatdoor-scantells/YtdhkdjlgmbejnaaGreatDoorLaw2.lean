/- By an AI agent. -/
import Derived.Test.YtdhkdjlgmbejnaaGreatDoorScanOne
namespace Go.Proofs.YtdhkdjlgmbejnaaGreatDoor
open Go.RowKit Go.Extern.Stop Go.Stop Go.Extern Go.Sort Go.Shelf Go.Lib
structure FilesK (a:Nat→Addr) (EM:World→Prop):Prop where
 of:∀(W:World) (p q s:ByteArray) (seq:Int),EM W→p.size≤1000→q.size≤1000→s.size≤100000→Calls Tryz.prog 67 #[.string p,.string q,.string s,.int .i64 seq] W fun e w'=>e= .returned (.tuple #[flV (ofF p q s.data.toList seq).1,errV a (ofF p q s.data.toList seq).2])∧Below W.heap.size W w'
 data:∀(W:World) (v:Value) (xs:List Rw),EM W→RowsAt W v xs→xs.length≤40→(∀x∈xs,x.1.size≤30)→(∀x∈xs,rowE x=0)→Calls Tryz.prog 72 #[v] W fun e w'=>e= .returned (.tuple #[.string (dataT xs),.nilIface])∧Below W.heap.size W w'
 gone:∀(W:World) (v:Value) (zs:List Int),EM W→KeysAt W v zs→zs.length≤40→(∀z∈zs,inNum z=true)→Calls Tryz.prog 22 #[v] W fun e w'=>e= .returned (.tuple #[.string (goneT zs),.nilIface])∧Below W.heap.size W w'
 bad:∀(W:World) (v:Value) (zs:List Int),EM W→KeysAt W v zs→zs.length≤40→(∃z∈zs,inNum z=false)→Calls Tryz.prog 22 #[v] W fun e w'=> ∃t u,e= .returned (.tuple #[.string ⟨#[]⟩,.iface t u])∧Below W.heap.size W w'
section
variable {a : Nat → Addr} {B : Nat} {EM : World → Prop} {SAt : World → Value → (Nat → Prop) → St → Prop}
theorem spost_own (K:StoreK a B EM SAt) {W w1 w2:World} {v:Value} {FP:Nat→Prop} {s:St} {rb:Nat} (hr:W.heap.size≤rb) (h:∃FP',SAt w1 v FP' s∧But FP W w1∧(∀k,FP' k→FP k∨W.heap.size≤k)∧¬FP' rb) (hb:But (fun k=>k=rb) w1 w2):SPost SAt W v FP s w2:=by
 obtain⟨FP',h1,h2,h3,h4⟩:=h
 exact⟨FP',K.keep _ _ _ _ _ _ h1 hb (fun k hk e=>h4 (e▸hk)),h2.trans hb (fun i e hi=>by omega),h3⟩
theorem flSet_but {W W0:World} {b:Nat} {f:Fl} {P:Nat→Prop} (h:But P W0 W) (hp:P b):But P W0 (flSet W b f):=(((((h.setCell (Or.inl hp) _).setCell (Or.inl hp) _).setCell (Or.inl hp) _).setCell (Or.inl hp) _).setCell (Or.inl hp) _).setCell (Or.inl hp) _
set_option maxRecDepth 100000 in
set_option maxHeartbeats 4000000 in
theorem put3_any (K:StoreK a B EM SAt) (KF:FilesK a EM) (W:World) (v:Value) (FP:Nat→Prop) (s:St) (p q t:ByteArray) (seq:Int) (hE:EM W) (hat:SAt W v FP s) (hnew:∀k,FP k→B≤k) (ks:Keeps s) (h1:p.size≤1000) (h2:q.size≤1000) (h3:t.size≤100000) (hc:putC s p t=0) (ho:(ofF p q t.data.toList seq).2=0) :
   Calls Tryz.prog 25 #[v,.string p,.string q,.string t,.int .i64 seq] W fun e w'=>e= .returned (.tuple #[flV (ofF p q t.data.toList seq).1,.bool true])∧SPost SAt W v FP (putS s p t) w':=by
 obtain⟨pt,rfl⟩:=K.ptr _ _ _ _ hat
 have KH:Hid (StoreK a B EM SAt):=K
 have hal:Below W.heap.size W (W.alloc (.cells #[.string ⟨#[]⟩,.string ⟨#[]⟩,.int .i64 0,.int .i64 0,.int .i64 0,.int .i64 0] 63)):=(Below.refl _ _).alloc (Nat.le_refl _) _
 have HF1:Hid (FlAt (W.alloc (.cells #[.string ⟨#[]⟩,.string ⟨#[]⟩,.int .i64 0,.int .i64 0,.int .i64 0,.int .i64 0] 63)) W.heap.size zeroF):=FlAt.new W zeroF
 have hE1:EM (W.alloc (.cells #[.string ⟨#[]⟩,.string ⟨#[]⟩,.int .i64 0,.int .i64 0,.int .i64 0,.int .i64 0] 63)):=K.below _ _ hE (hal.mono (K.size _ hE))
 have ha1:=K.keep _ (W.alloc (.cells #[.string ⟨#[]⟩,.string ⟨#[]⟩,.int .i64 0,.int .i64 0,.int .i64 0,.int .i64 0] 63)) _ _ (fun _=>False) _ hat (But.of_below hal) (fun _ _ h=>h)
 have hpu:=K.put _ _ _ _ p t hE1 ha1 ks h1 h3
 have hlt:∀k,FP k→k<W.heap.size:=fun k hk=>K.lt _ _ _ _ _ hat hk
 have hsz:(W.alloc (.cells #[.string ⟨#[]⟩,.string ⟨#[]⟩,.int .i64 0,.int .i64 0,.int .i64 0,.int .i64 0] 63)).heap.size=W.heap.size+1:=by simp
 have hBs:=K.size _ hE1
 rw[hc]at hpu
 have e0:errV a 0= .nilIface:=rfl
 rw[e0]at hpu
 generalize hS:putS s p t=S at hpu ⊢
 have HOF:Hid (∀X,EM X→Calls Tryz.prog 67 #[.string p,.string q,.string t,.int .i64 seq] X fun e w'=>e= .returned (.tuple #[flV (ofF p q t.data.toList seq).1,.nilIface])∧Below X.heap.size X w'):=fun X hX=>by
   have h:=KF.of X p q t seq hX h1 h2 h3
   rw[ho]at h
   exact h
 clear hS hc ho K KF hat ks ha1
 generalize (ofF p q t.data.toList seq).1=y at HOF ⊢
 go_enter Tryz.func25,Tryz.ntmps25
 go_wp2_with fail
 generalize W.alloc (.cells #[.string ⟨#[]⟩,.string ⟨#[]⟩,.int .i64 0,.int .i64 0,.int .i64 0,.int .i64 0] 63)=W1 at *
 refine hpu.mono ?_
 rintro e w2 ⟨rfl,FP2,hs2,hb2,hf2⟩
 clear hpu
 have hE2:EM w2:=KH.out.below _ _ hE1 (hb2.below hBs hnew)
 have hz2:FlAt w2 W.heap.size zeroF:=(hb2.block _ HF1.out.lt (fun h=>Nat.lt_irrefl _ (hlt _ h))).trans HF1.out
 have HP2:Hid (∃FP',SAt w2 (.pointer (some pt)) FP' S∧But FP W w2∧(∀k,FP' k→FP k∨W.heap.size≤k)∧¬FP' W.heap.size):=by
   refine⟨FP2,hs2,(But.of_below hal).trans hb2 (fun i h _=>h),fun k hk=>?_,fun h=>?_⟩
   · rcases hf2 k hk with h | h
     · exact Or.inl h
     · exact Or.inr (by omega)
   · rcases hf2 _ h with h | h
     · exact Nat.lt_irrefl _ (hlt _ h)
     · omega
 clear hs2 hb2 hf2 HF1 hE1 hBs
 have hof:=HOF.out w2 hE2
 unfold flV at hof
 go_wp2_with fail
 refine hof.mono ?_
 rintro e w3 ⟨rfl,hb3⟩
 clear hof HOF
 have hal4:Below w3.heap.size w3 (w3.alloc (.cells #[.string y.1,.string y.2.1,.int .i64 y.2.2.1,.int .i64 y.2.2.2.1,.int .i64 y.2.2.2.2.1,.int .i64 y.2.2.2.2.2] 63)):=(Below.refl _ _).alloc (Nat.le_refl _) _
 have hb4:Below w2.heap.size w2 (w3.alloc (.cells #[.string y.1,.string y.2.1,.int .i64 y.2.2.1,.int .i64 y.2.2.2.1,.int .i64 y.2.2.2.2.1,.int .i64 y.2.2.2.2.2] 63)):=hb3.trans (hal4.mono hb3.size)
 have hy4:=FlAt.new w3 y
 have hz4:=hz2.below hb4
 have HP4:Hid (∃FP',SAt (w3.alloc (.cells #[.string y.1,.string y.2.1,.int .i64 y.2.2.1,.int .i64 y.2.2.2.1,.int .i64 y.2.2.2.2.1,.int .i64 y.2.2.2.2.2] 63)) (.pointer (some pt)) FP' S∧But FP W (w3.alloc (.cells #[.string y.1,.string y.2.1,.int .i64 y.2.2.1,.int .i64 y.2.2.2.1,.int .i64 y.2.2.2.2.1,.int .i64 y.2.2.2.2.2] 63))∧(∀k,FP' k→FP k∨W.heap.size≤k)∧¬FP' W.heap.size):=by
   obtain⟨FP',g1,g2,g3,g4⟩:=HP2.out
   exact⟨FP',KH.out.keep _ _ _ _ (fun _=>False) _ g1 (But.of_below hb4) (fun _ _ h=>h),g2.trans (Q:=fun _=>False) (But.of_below hb4) (fun _ h=>h.elim),g3,g4⟩
 clear HP2 hb3 hal4 hb4 hz2 hE2 hal hsz hlt
 go_upto_region 4 with fail
 generalize w3.alloc (.cells #[.string y.1,.string y.2.1,.int .i64 y.2.2.1,.int .i64 y.2.2.2.1,.int .i64 y.2.2.2.2.1,.int .i64 y.2.2.2.2.2] 63)=w4 at *
 generalize w3.heap.size=yb at *
 have HEND:Hid (∀X,But (fun k=>k=W.heap.size) w4 X→SPost SAt W (.pointer (some pt)) FP S X):=fun X hb=>spost_own KH.out (Nat.le_refl _) HP4.out hb
 clear HP4 hE hnew KH
 generalize W.heap.size=rb at *
 obtain⟨x0,x1,x2,x3,x4,x5,xf⟩:=hy4.cells
 obtain⟨y0,y1,y2,y3,y4,y5,yf⟩:=hz4.cells
 have HZ:Hid (FlAt (flSet w4 rb y) rb y):=hz4.set y
 have HU:Hid (FlAt (flSet w4.drew rb y) rb y):=FlAt.set (hz4.below (Below.refl _ _).drew) y
 have HG1:Hid (SPost SAt W (.pointer (some pt)) FP S (flSet w4 rb y)):=HEND.out _ (flSet_but (But.refl _ _) rfl)
 have HG2:Hid (SPost SAt W (.pointer (some pt)) FP S (flSet w4.drew rb y)):=HEND.out _ (flSet_but (But.of_below (Below.refl _ _).drew) rfl)
 have HG3:Hid (SPost SAt W (.pointer (some pt)) FP S (flSet w4 rb y).drew):=HEND.out _ ((flSet_but (P:=fun k=>k=rb) (But.refl _ w4) rfl).trans (Q:=fun _=>False) (But.of_below (Below.refl _ _).drew) (fun _ h=>h.elim))
 clear HEND hy4 hz4 xf h1 h2 h3
 obtain⟨yp,yq,yn,yl,yh,ys⟩:=y
 dsimp only at x0 x1 x2 x3 x4 x5 ⊢
 unfold zeroF at y0 y1 y2 y3 y4 y5
 dsimp only at y0 y1 y2 y3 y4 y5
 go_wp2
 go_region
 all_goals go_wp2
 all_goals
   obtain⟨z0,z1,z2,z3,z4,z5,-⟩:=HZ.out.cells
   have hG3:=HG3.out
   unfold flSet at z0 z1 z2 z3 z4 z5 hG3
   dsimp only at z0 z1 z2 z3 z4 z5 hG3
   clear HZ HU HG1 HG2 HG3 x0 x1 x2 x3 x4 x5 y0 y1 y2 y3 y4 y5 yf
 all_goals refine bodyPost_ret (v:=.tuple #[.agg #[.string yp,.string yq,.int .i64 yn,.int .i64 yl,.int .i64 yh,.int .i64 ys],.bool true]) ?_ rfl ⟨rfl,?_⟩
 all_goals first
   | with_reducible exact hG3
   | skip
 all_goals (simp[results,Tryz.results25,go_sem,z0,z1,z2,z3,z4,z5])
end
theorem But.drew {P:Nat→Prop} {w w':World} (h:But P w w'):But P w w'.drew:=⟨h.os,h.tape,h.output,h.size,h.block⟩
theorem SnAt.drew {W:World} {b:Nat} {s:Sn} {vf:Value} (h:SnAt W b s vf):SnAt W.drew b s vf:=h
theorem FlsAt.drew {W:World} {v:Value} {fs:List Fl} (h:FlsAt W v fs):FlsAt W.drew v fs:=h.below (Below.refl _ _).drew
theorem snSet_but {P:Nat→Prop} {W0 W:World} {b:Nat} {s:Sn} {vf:Value} (h:But P W0 W) (hp:P b):But P W0 (snSet W b s vf):=((((((h.setCell (Or.inl hp) _).setCell (Or.inl hp) _).setCell (Or.inl hp) _).setCell (Or.inl hp) _).setCell (Or.inl hp) _).setCell (Or.inl hp) _).setCell (Or.inl hp) _
theorem FlsAt.snSet {W:World} {b:Nat} {v:Value} {fs:List Fl} (h:FlsAt W v fs) (ho:OffF v fs b) (s:Sn) (vf:Value):FlsAt (snSet W b s vf) v fs:=((((((h.set_off ho _ _).set_off ho _ _).set_off ho _ _).set_off ho _ _).set_off ho _ _).set_off ho _ _).set_off ho _ _
theorem fls_two (W:World) (x y:Fl):FlsAt (W.alloc (.cells #[.string x.1,.string x.2.1,.int .i64 x.2.2.1,.int .i64 x.2.2.2.1,.int .i64 x.2.2.2.2.1,.int .i64 x.2.2.2.2.2,.string y.1,.string y.2.1,.int .i64 y.2.2.1,.int .i64 y.2.2.2.1,.int .i64 y.2.2.2.2.1,.int .i64 y.2.2.2.2.2] 63)) (.slice (some ⟨W.heap.size,0,none⟩) 2 2) [x,y]:=by
 refine Or.inr ⟨W.heap.size,0,2,rfl,Nat.le_refl _,fun j hj=>?_⟩
 match j,hj with
 | 0,_=>simp
 | 1,_=>simp
section
variable {a : Nat → Addr} {B : Nat} {EM : World → Prop} {SAt : World → Value → (Nat → Prop) → St → Prop}
theorem FilesK.up (K:FilesK a EM) (n:Nat):FilesK a (upE EM n) :=
 ⟨fun W p q s seq h=>K.of W p q s seq h.1,fun W v xs h=>K.data W v xs h.1,fun W v zs h=>K.gone W v zs h.1,fun W v zs h=>K.bad W v zs h.1⟩
theorem ScanK.up (K:ScanK a EM SAt) (n:Nat):ScanK a (upE EM n) SAt where
 rows:=fun W v FP st s vf lo hi h=>K.rows W v FP st s vf lo hi h.1
 rows0:=fun W s vf lo hi h=>K.rows0 W s vf lo hi h.1
 count:=fun W v FP st s vf h=>K.count W v FP st s vf h.1
 find:=fun W v FP st s vf key h=>K.find W v FP st s vf key h.1
set_option maxRecDepth 100000 in
set_option maxHeartbeats 4000000 in
theorem tabled_any (K:StoreK a B EM SAt) (KF:FilesK a EM) (w:World) (hE:EM w) :
   Calls Tryz.prog 28 #[] w fun e w'=> ∃pt FP vf,e= .returned (.tuple #[.pointer (some pt),snV s12 vf,.bool true])∧SOk (upE EM w.heap.size) SAt w.heap.size w w' (.pointer (some pt)) FP st2S∧FlsAt w' vf [x1F,y2F]:=by
 have KU:Hid (StoreK a w.heap.size (upE EM w.heap.size) SAt):=K.up (K.size w hE)
 have KFU:Hid (FilesK a (upE EM w.heap.size)):=KF.up _
 have hE0:upE EM w.heap.size w:=⟨hE,Nat.le_refl _⟩
 have hal:Below w.heap.size w (w.alloc (.cells #[.int .i64 0,.int .i64 0,.int .i64 0,.int .i64 0,.int .i64 0,.string ⟨#[]⟩,.slice none 0 0] 25)):=(Below.refl _ _).alloc (Nat.le_refl _) _
 have hsn0:SnAt (w.alloc (.cells #[.int .i64 0,.int .i64 0,.int .i64 0,.int .i64 0,.int .i64 0,.string ⟨#[]⟩,.slice none 0 0] 25)) w.heap.size (0,0,0,0,0,⟨#[]⟩, []) (.slice none 0 0):=heap_alloc_new _ _
 have hE1:upE EM w.heap.size (w.alloc (.cells #[.int .i64 0,.int .i64 0,.int .i64 0,.int .i64 0,.int .i64 0,.string ⟨#[]⟩,.slice none 0 0] 25)):=KU.out.below _ _ hE0 hal
 have hnw:=KU.out.new _ hE1
 clear K KF hE hE0
 go_enter Tryz.func28,Tryz.ntmps28
 go_upto_region 1 with fail
 have HA:Hid (Below w.heap.size w (w.alloc (.cells #[.int .i64 0,.int .i64 0,.int .i64 0,.int .i64 0,.int .i64 0,.string ⟨#[]⟩,.slice none 0 0] 25))):=hal
 clear hal
 generalize w.alloc (.cells #[.int .i64 0,.int .i64 0,.int .i64 0,.int .i64 0,.int .i64 0,.string ⟨#[]⟩,.slice none 0 0] 25)=W1 at *
 go_wp2_with fail
 refine hnw.mono ?_
 rintro e w2 ⟨v,FP,rfl,hat,hnew,hb2⟩
 clear hnw
 obtain⟨pt,rfl⟩:=KU.out.ptr _ _ _ _ hat
 have hB2:Below w.heap.size w w2:=HA.out.trans (hb2.mono HA.out.size)
 have S2:Hid (SOk (upE EM w.heap.size) SAt w.heap.size w w2 (.pointer (some pt)) FP newS):=⟨KU.out.below _ _ hE1 (hb2.mono HA.out.size),hB2,Nat.le_refl _,hat,fun k hk=>Nat.le_trans HA.out.size (hnew k hk)⟩
 have N2:Hid (SnAt w2 w.heap.size (0,0,0,0,0,⟨#[]⟩, []) (.slice none 0 0)∧¬FP w.heap.size):=⟨hsn0.below hb2,fun h=>by have:=hnew _ h;have:=hsn0.lt;omega⟩
 clear hat hnew hb2 hB2 hsn0 hE1 HA
 have hal3:Below w2.heap.size w2 (w2.alloc (.cells #[.string ⟨#[97]⟩,.int .i64 1,.int .i64 5,.string ⟨#[97]⟩,.int .i64 2,.int .i64 6] 54)):=(Below.refl _ _).alloc (Nat.le_refl _) _
 have hr3:RowsAt (w2.alloc (.cells #[.string ⟨#[97]⟩,.int .i64 1,.int .i64 5,.string ⟨#[97]⟩,.int .i64 2,.int .i64 6] 54)) (.slice (some ⟨w2.heap.size,0,none⟩) 2 2) xs12:=by
   refine Or.inr ⟨w2.heap.size,0,2,rfl,fun j hj=>?_⟩
   match j,hj with
   | 0,_=>simp
   | 1,_=>simp
 have S3:Hid (SOk (upE EM w.heap.size) SAt w.heap.size w (w2.alloc (.cells #[.string ⟨#[97]⟩,.int .i64 1,.int .i64 5,.string ⟨#[97]⟩,.int .i64 2,.int .i64 6] 54)) (.pointer (some pt)) FP newS):=S2.out.quiet KU.out hal3
 have N3:Hid (SnAt (w2.alloc (.cells #[.string ⟨#[97]⟩,.int .i64 1,.int .i64 5,.string ⟨#[97]⟩,.int .i64 2,.int .i64 6] 54)) w.heap.size (0,0,0,0,0,⟨#[]⟩, []) (.slice none 0 0)):=N2.out.1.below hal3
 have hdm:=KFU.out.data _ _ xs12 S3.out.env hr3 (by decide) (by decide) xs12_ok
 clear S2 hal3 hr3
 go_wp2_with fail
 generalize w2.alloc (.cells #[.string ⟨#[97]⟩,.int .i64 1,.int .i64 5,.string ⟨#[97]⟩,.int .i64 2,.int .i64 6] 54)=w3 at *
 obtain⟨T1,hT1⟩:∃T,dataT xs12=T:=⟨_,rfl⟩
 have HT1:Hid (dataT xs12=T1):=hT1
 rw[hT1]at hdm
 clear hT1
 refine hdm.mono ?_
 rintro e w4 ⟨rfl,hb4⟩
 clear hdm
 have hal5:Below w4.heap.size w4 (w4.alloc (.cells #[.int .i64 2] 3)):=(Below.refl _ _).alloc (Nat.le_refl _) _
 have hk5:KeysAt (w4.alloc (.cells #[.int .i64 2] 3)) (.slice (some ⟨w4.heap.size,0,none⟩) 1 1) [2]:=by
   refine .inr ⟨w4.heap.size,0,1,rfl,fun j hj=>?_⟩
   match j,hj with
   | 0,_=>simp
 have S5:Hid (SOk (upE EM w.heap.size) SAt w.heap.size w (w4.alloc (.cells #[.int .i64 2] 3)) (.pointer (some pt)) FP newS):=(S3.out.quiet KU.out hb4).quiet KU.out hal5
 have N5:Hid (SnAt (w4.alloc (.cells #[.int .i64 2] 3)) w.heap.size (0,0,0,0,0,⟨#[]⟩, []) (.slice none 0 0)):=(N3.out.below hb4).below hal5
 have hgm:=KFU.out.gone _ _ [2] S5.out.env hk5 (by decide) (by decide)
 clear S3 N3 hb4 hal5 hk5
 go_wp2_with fail
 generalize w4.alloc (.cells #[.int .i64 2] 3)=w5 at *
 obtain⟨T2,hT2⟩:∃T,goneT [2]=T:=⟨_,rfl⟩
 have HT2:Hid (goneT [2]=T2):=hT2
 rw[hT2]at hgm
 clear hT2
 refine hgm.mono ?_
 rintro e w6 ⟨rfl,hb6⟩
 clear hgm
 have S6:Hid (SOk (upE EM w.heap.size) SAt w.heap.size w w6 (.pointer (some pt)) FP newS):=S5.out.quiet KU.out hb6
 have N6:Hid (SnAt w6 w.heap.size (0,0,0,0,0,⟨#[]⟩, []) (.slice none 0 0)):=N5.out.below hb6
 have hpu:=put3_any KU.out KFU.out w6 _ FP newS d1B paB T1 1 S6.out.env S6.out.at_ S6.out.new newS_keeps (by decide) (by decide) (by rw[←HT1.out];have:=dataT_size (xs:=xs12) (by decide);omega) (by rw[←HT1.out];exact st1_is.1) (by rw[←HT1.out,x1_of])
 have e1:ofF d1B paB T1.data.toList 1=(x1F,0):=by rw[←HT1.out];exact x1_of
 have e2:putS newS d1B T1=st1S:=by rw[←HT1.out];exact st1_is.2
 rw[e1,e2]at hpu
 unfold flV at hpu
 dsimp only at hpu
 clear S5 N5 hb6 e1 e2
 go_wp2_with fail
 refine hpu.mono ?_
 rintro e w7 ⟨rfl,hp7⟩
 clear hpu
 obtain⟨FP7,S7',hbut7,hf7⟩:=S6.out.post KU.out hp7
 have N7':SnAt w7 w.heap.size (0,0,0,0,0,⟨#[]⟩, []) (.slice none 0 0)∧¬FP7 w.heap.size:=⟨(hbut7.block _ N6.out.lt N2.out.2).trans N6.out,fun h=>by
   rcases hf7 _ h with h | h
   · exact N2.out.2 h
   · have:=N6.out.lt;omega⟩
 have hal8:Below w7.heap.size w7 (w7.alloc (.cells #[.string d1B,.string paB,.int .i64 2,.int .i64 1,.int .i64 2,.int .i64 1] 63)):=(Below.refl _ _).alloc (Nat.le_refl _) _
 have S8:Hid (SOk (upE EM w.heap.size) SAt w.heap.size w (w7.alloc (.cells #[.string d1B,.string paB,.int .i64 2,.int .i64 1,.int .i64 2,.int .i64 1] 63)) (.pointer (some pt)) FP7 st1S):=S7'.quiet KU.out hal8
 have N8:Hid (SnAt (w7.alloc (.cells #[.string d1B,.string paB,.int .i64 2,.int .i64 1,.int .i64 2,.int .i64 1] 63)) w.heap.size (0,0,0,0,0,⟨#[]⟩, []) (.slice none 0 0)∧¬FP7 w.heap.size):=⟨N7'.1.below hal8,N7'.2⟩
 have X8:Hid (FlAt (w7.alloc (.cells #[.string d1B,.string paB,.int .i64 2,.int .i64 1,.int .i64 2,.int .i64 1] 63)) w7.heap.size x1F∧¬FP7 w7.heap.size):=⟨FlAt.new w7 x1F,fun h=>by have:=KU.out.lt _ _ _ _ _ S7'.at_ h;omega⟩
 clear S6 N6 N2 hp7 hbut7 hf7 S7' N7' hal8
 go_upto_region 7 with fail
 generalize w7.alloc (.cells #[.string d1B,.string paB,.int .i64 2,.int .i64 1,.int .i64 2,.int .i64 1] 63)=w8 at *
 generalize w7.heap.size=xb at *
 have hpu:=put3_any KU.out KFU.out w8 _ FP7 st1S g2B pmB T2 2 S8.out.env S8.out.at_ S8.out.new st1_keeps (by decide) (by decide) (by rw[←HT2.out];have:=goneT_size (zs:= [2]) (by decide);omega) (by rw[←HT2.out];exact st2_is.1) (by rw[←HT2.out,y2_of])
 have e1:ofF g2B pmB T2.data.toList 2=(y2F,0):=by rw[←HT2.out];exact y2_of
 have e2:putS st1S g2B T2=st2S:=by rw[←HT2.out];exact st2_is.2
 rw[e1,e2]at hpu
 unfold flV at hpu
 dsimp only at hpu
 clear e1 e2
 go_wp2_with fail
 refine hpu.mono ?_
 rintro e w9 ⟨rfl,hp9⟩
 clear hpu
 obtain⟨FP9,S9',hbut9,hf9⟩:=S8.out.post KU.out hp9
 have N9':SnAt w9 w.heap.size (0,0,0,0,0,⟨#[]⟩, []) (.slice none 0 0):=(hbut9.block _ N8.out.1.lt N8.out.2).trans N8.out.1
 have N9n:¬FP9 w.heap.size:=fun h=>by
   rcases hf9 _ h with h | h
   · exact N8.out.2 h
   · have:=N8.out.1.lt;omega
 have X9':FlAt w9 xb x1F:=(hbut9.block _ X8.out.1.lt X8.out.2).trans X8.out.1
 have hal10:Below w9.heap.size w9 (w9.alloc (.cells #[.string g2B,.string pmB,.int .i64 1,.int .i64 2,.int .i64 2,.int .i64 2] 63)):=(Below.refl _ _).alloc (Nat.le_refl _) _
 have S10:Hid (SOk (upE EM w.heap.size) SAt w.heap.size w (w9.alloc (.cells #[.string g2B,.string pmB,.int .i64 1,.int .i64 2,.int .i64 2,.int .i64 2] 63)) (.pointer (some pt)) FP9 st2S∧¬FP9 w.heap.size):=⟨S9'.quiet KU.out hal10,N9n⟩
 have N10:=N9'.below hal10
 have X10:=X9'.below hal10
 have Y10:=FlAt.new w9 y2F
 clear S8 N8 X8 hp9 hbut9 hf9 S9' N9' X9' hal10 N9n
 go_upto_region 8 with fail
 generalize w9.alloc (.cells #[.string g2B,.string pmB,.int .i64 1,.int .i64 2,.int .i64 2,.int .i64 2] 63)=wa at *
 generalize w9.heap.size=yb at *
 obtain⟨x0,x1,x2,x3,x4,x5,-⟩:=X10.cells
 obtain⟨y0,y1,y2,y3,y4,y5,-⟩:=Y10.cells
 obtain⟨n0,n1,n2,n3,n4,n5,n6⟩:=N10.cells
 dsimp only at x0 x1 x2 x3 x4 x5 y0 y1 y2 y3 y4 y5 n0 n1 n2 n3 n4 n5 n6
 have hal11:Below wa.heap.size wa (wa.alloc (.cells #[.string d1B,.string paB,.int .i64 2,.int .i64 1,.int .i64 2,.int .i64 1,.string g2B,.string pmB,.int .i64 1,.int .i64 2,.int .i64 2,.int .i64 2] 63)):=(Below.refl _ _).alloc (Nat.le_refl _) _
 have NC:=N10.below hal11
 have nf0:wa.frozen? ⟨w.heap.size,0,none⟩=false:=frozen_of_row _ _ _ _ _ N10
 obtain⟨p0,p1,p2,p3,p4,p5,p6⟩:=NC.cells
 dsimp only at p0 p1 p2 p3 p4 p5 p6
 have nf:∀o,(wa.alloc (.cells #[.string d1B,.string paB,.int .i64 2,.int .i64 1,.int .i64 2,.int .i64 1,.string g2B,.string pmB,.int .i64 1,.int .i64 2,.int .i64 2,.int .i64 2] 63)).frozen? ⟨w.heap.size,o,none⟩=false:=fun o=>frozen_of_row _ _ _ _ _ NC
 have f0:=nf 0
 have f1:=nf 1
 have f2:=nf 2
 have f3:=nf 3
 have f4:=nf 4
 have f5:=nf 5
 have f6:=nf 6
 clear nf
 have HEND:Hid (SnAt (snSet (wa.alloc (.cells #[.string d1B,.string paB,.int .i64 2,.int .i64 1,.int .i64 2,.int .i64 1,.string g2B,.string pmB,.int .i64 1,.int .i64 2,.int .i64 2,.int .i64 2] 63)) w.heap.size s12 (.slice (some ⟨wa.heap.size,0,none⟩) 2 2)).drew w.heap.size s12 (.slice (some ⟨wa.heap.size,0,none⟩) 2 2)∧SOk (upE EM w.heap.size) SAt w.heap.size w (snSet (wa.alloc (.cells #[.string d1B,.string paB,.int .i64 2,.int .i64 1,.int .i64 2,.int .i64 1,.string g2B,.string pmB,.int .i64 1,.int .i64 2,.int .i64 2,.int .i64 2] 63)) w.heap.size s12 (.slice (some ⟨wa.heap.size,0,none⟩) 2 2)).drew (.pointer (some pt)) FP9 st2S∧FlsAt (snSet (wa.alloc (.cells #[.string d1B,.string paB,.int .i64 2,.int .i64 1,.int .i64 2,.int .i64 1,.string g2B,.string pmB,.int .i64 1,.int .i64 2,.int .i64 2,.int .i64 2] 63)) w.heap.size s12 (.slice (some ⟨wa.heap.size,0,none⟩) 2 2)).drew (.slice (some ⟨wa.heap.size,0,none⟩) 2 2) [x1F,y2F]):=by
   have hf:FlsAt (wa.alloc (.cells #[.string d1B,.string paB,.int .i64 2,.int .i64 1,.int .i64 2,.int .i64 1,.string g2B,.string pmB,.int .i64 1,.int .i64 2,.int .i64 2,.int .i64 2] 63)) (.slice (some ⟨wa.heap.size,0,none⟩) 2 2) [x1F,y2F]:=fls_two wa x1F y2F
   have hoff:OffF (.slice (some ⟨wa.heap.size,0,none⟩) 2 2) [x1F,y2F] w.heap.size:=fun b o c n hv _ e=>by
     injection hv with hv
     injection hv with hv
     injection hv with hv
     have:=N10.lt
     omega
   have hbut:But (fun k=>k=w.heap.size) wa (snSet (wa.alloc (.cells #[.string d1B,.string paB,.int .i64 2,.int .i64 1,.int .i64 2,.int .i64 1,.string g2B,.string pmB,.int .i64 1,.int .i64 2,.int .i64 2,.int .i64 2] 63)) w.heap.size s12 (.slice (some ⟨wa.heap.size,0,none⟩) 2 2)).drew:=(snSet_but (P:=fun k=>k=w.heap.size) (But.of_below hal11) rfl).drew
   have hS:=S10.out.1
   have hbl:=hbut.below (KU.out.size _ hS.env) fun k hk=>by rw[hk];exact Nat.le_refl _
   exact⟨(NC.set s12 (.slice (some ⟨wa.heap.size,0,none⟩) 2 2)).drew,⟨KU.out.below _ _ hS.env hbl,hS.frame.trans hbl,Nat.le_refl _,KU.out.keep _ _ _ _ _ _ hS.at_ hbut (fun k hk e=>S10.out.2 (e▸hk)),hS.new⟩,(hf.snSet hoff s12 (.slice (some ⟨wa.heap.size,0,none⟩) 2 2)).drew⟩
 clear S10 KU KFU NC N10 X10 Y10 hal11
 go_wp2
 go_region
 all_goals go_wp2
 obtain⟨hsn,hso,hfl⟩:=HEND.out
 obtain⟨r0,r1,r2,r3,r4,r5,r6⟩:=hsn.cells
 unfold snSet at r0 r1 r2 r3 r4 r5 r6 hso hfl
 dsimp only at r0 r1 r2 r3 r4 r5 r6 hso hfl
 clear HEND hsn x0 x1 x2 x3 x4 x5 y0 y1 y2 y3 y4 y5 n0 n1 n2 n3 n4 n5 n6 p0 p1 p2 p3 p4 p5 p6 f0 f1 f2 f3 f4 f5 f6 nf0
 refine bodyPost_ret (v:=.tuple #[.pointer (some pt),snV s12 (.slice (some ⟨wa.heap.size,0,none⟩) 2 2),.bool true]) ?_ rfl ⟨pt,FP9,(.slice (some ⟨wa.heap.size,0,none⟩) 2 2),rfl,hso,hfl⟩
 simp[results,Tryz.results28,go_sem,r0,r1,r2,r3,r4,r5,r6,snV]
set_option maxRecDepth 100000 in
set_option maxHeartbeats 4000000 in
theorem scanned_any (K:StoreK a B EM SAt) (KF:FilesK a EM) (KS:ScanK a EM SAt) (w:World) (hE:EM w) :
   Calls Tryz.prog 6 #[] w fun e w'=>e= .returned (.bool true)∧Below w.heap.size w w':=by
 have htb:=tabled_any K KF w hE
 have KSU:Hid (ScanK a (upE EM w.heap.size) SAt):=KS.up _
 have KU:Hid (StoreK a w.heap.size (upE EM w.heap.size) SAt):=K.up (K.size w hE)
 clear K KF KS hE
 go_enter Tryz.func6,Tryz.ntmps6
 go_wp2_with fail
 refine htb.mono ?_
 rintro e w1 ⟨pt,FP,vf,rfl,hS1,hf1⟩
 clear htb
 obtain⟨q,cap,rfl⟩:=hf1.form
 have hal:Below w1.heap.size w1 (w1.alloc (.cells #[.int .i64 3,.int .i64 0,.int .i64 2,.int .i64 0,.int .i64 0,.string opA,.slice q 2 cap] 25)):=(Below.refl _ _).alloc (Nat.le_refl _) _
 have hsn:SnAt (w1.alloc (.cells #[.int .i64 3,.int .i64 0,.int .i64 2,.int .i64 0,.int .i64 0,.string opA,.slice q 2 cap] 25)) w1.heap.size s12 (.slice q 2 cap):=heap_alloc_new _ _
 have S2:Hid (SOk (upE EM w.heap.size) SAt w.heap.size w (w1.alloc (.cells #[.int .i64 3,.int .i64 0,.int .i64 2,.int .i64 0,.int .i64 0,.string opA,.slice q 2 cap] 25)) (.pointer (some pt)) FP st2S):=hS1.quiet KU.out hal
 have hrw:=KSU.out.rows _ _ FP st2S s12 (.slice q 2 cap) 0 9 S2.out.env S2.out.at_ st2_keeps (hf1.below hal) (by decide) (by unfold Short;decide)
 rw[s12_rows]at hrw
 unfold snV at hrw ⊢
 dsimp only[List.length_cons,List.length_nil]at hrw ⊢
 clear hS1 hf1 hal KU KSU
 go_upto_region 2 with fail
 generalize w1.alloc (.cells #[.int .i64 3,.int .i64 0,.int .i64 2,.int .i64 0,.int .i64 0,.string opA,.slice q 2 cap] 25)=w2 at *
 generalize w1.heap.size=sb at *
 obtain⟨z0,z1,z2,z3,z4,z5,z6⟩:=hsn.cells
 dsimp only at z0 z1 z2 z3 z4 z5 z6
 go_wp2_with fail
 refine hrw.mono ?_
 rintro e w3 ⟨v3,ev,rfl,hr3,ht3,hb3⟩
 clear hrw z0 z1 z2 z3 z4 z5 z6 hsn
 obtain rfl:ev= .nilIface:=ht3
 obtain⟨q3,c3,rfl⟩:=hr3.form
 have hal4:Below w3.heap.size w3 (w3.alloc (.cells #[.string paB,.int .i64 1,.int .i64 5] 54)):=(Below.refl _ _).alloc (Nat.le_refl _) _
 have hr4:RowsAt (w3.alloc (.cells #[.string paB,.int .i64 1,.int .i64 5] 54)) (.slice (some ⟨w3.heap.size,0,none⟩) 1 1) [(paB,1,5)]:=by
   refine Or.inr ⟨w3.heap.size,0,1,rfl,fun j hj=>?_⟩
   match j,hj with
   | 0,_=>simp
 have hsr:=sameRows_any _ _ [(paB,1,5)] [(paB,1,5)] (w3.alloc (.cells #[.string paB,.int .i64 1,.int .i64 5] 54)) (hr3.below hal4) hr4 (by decide) (by decide)
 rw[decide_eq_true rfl]at hsr
 have HB3:Hid (Below w.heap.size w w3):=S2.out.frame.trans (hb3.mono S2.out.frame.size)
 clear hr3 hr4 hb3 S2
 dsimp only[List.length_cons,List.length_nil]at hsr ⊢
 go_wp2_with fail
 refine hsr.mono ?_
 rintro e w5 ⟨rfl,hb5⟩
 clear hsr
 have hB5:Below w.heap.size w w5:=(HB3.out.trans (hal4.mono HB3.out.size)).trans (hb5.mono (Nat.le_trans HB3.out.size hal4.size))
 go_wp2
 go_ret
 exact⟨rfl,hB5⟩
end
def longFs (fs:List Fl):Bool:=(decide (40<fs.length) && decide (fs.length≠60) && decide (fs.length≠61)) || fs.any longFB
theorem longFs_no {fs:List Fl} (h:longFs fs=false):fs.length≤61∧∀f∈fs,f.1.size≤30∧f.2.1.size≤30:=by
 unfold longFs at h
 rw[Bool.or_eq_false_iff]at h
 refine⟨?_,fun f hf=>?_⟩
 · have h1:=h.1
   rcases Nat.lt_or_ge 40 fs.length with h' | h'
   · simp only[h',decide_true,Bool.true_and]at h1
     simp at h1
     omega
   · omega
 · have:=List.any_eq_false.1 h.2 f hf
   simp only[longFB,Bool.or_eq_true,decide_eq_true_eq,not_or]at this
   omega
theorem anyLong_succ {fs:List Fl} {n:Nat} (h:∀j (h:j<fs.length),j<n→longFB fs[j]=false) (hn:n<fs.length) (e:longFB fs[n]=false):∀j (h:j<fs.length),j<n+1→longFB fs[j]=false:=fun j hj hjn=>by
 rcases Nat.lt_or_ge j n with h' | h'
 · exact h j hj h'
 · obtain rfl:j=n:=by omega
   exact e
set_option maxRecDepth 100000 in
set_option maxHeartbeats 4000000 in
theorem longFiles_any (v:Value) (fs:List Fl) (w:World) (hx:FlsAt w v fs) (hl:fs.length≤maxLen) (hsz:∀f∈fs,f.1.size≤maxLen∧f.2.1.size≤maxLen) :
   Calls Tryz.prog 30 #[v] w fun e w'=>e= .returned (.int .i64 (if longFs fs then 1 else 0))∧Below w.heap.size w w':=by
 obtain⟨q,cap,rfl⟩:=hx.form
 have HFX:Hid (FlsAt w (.slice q fs.length cap) fs):=hx
 have HSZ:Hid (∀f∈fs,f.1.size≤maxLen∧f.2.1.size≤maxLen):=hsz
 obtain⟨L,hL⟩:∃L,fs.length=L:=⟨_,rfl⟩
 have HX:Hid (fs.length=L):=hL
 rw[hL]at hl ⊢
 unfold maxLen at hl
 generalize hR:(if longFs fs then (1:Int) else 0)=R
 have HR:Hid ((if longFs fs then (1:Int) else 0)=R):=hR
 clear hL hx hsz hR
 by_cases hbig:40<L∧L≠60∧L≠61
 · have hRR:R=1:=by
     rw[←HR.out,if_pos]
     unfold longFs
     rw[HX.out]
     simp[hbig.1,hbig.2.1,hbig.2.2]
   subst hRR
   obtain⟨b1,b2,b3⟩:=hbig
   have i1:(40:Int)<(L:Int):=by omega
   have j2:((L:Int) != 60)=true:=by simp;omega
   have j3:((L:Int) != 61)=true:=by simp;omega
   go_enter Tryz.func30,Tryz.ntmps30
   go_wp2
   go_ret
   exact⟨rfl,Below.refl _ _⟩
 · have HS :Hid ((decide (40<fs.length) && decide (fs.length≠60) && decide (fs.length≠61))=false):=by
     show _=_
     rw[HX.out]
     rw[Bool.eq_false_iff]
     intro h
     simp only[Bool.and_eq_true,decide_eq_true_eq]at h
     exact hbig ⟨h.1.1,h.1.2,h.2⟩
   have hc3:(¬(40:Int)<(L:Int))∨((40:Int)<(L:Int)∧(L:Int)=60)∨((40:Int)<(L:Int)∧¬(L:Int)=60∧(L:Int)=61):=by omega
   clear hbig
   rcases hc3 with i1 | ⟨i1,i2⟩|⟨i1,i2,i3⟩
   · skip
     go_enter Tryz.func30,Tryz.ntmps30
     go_wp2
     go_loopw [3] (fun k wr=> ∃n:Nat,n≤L∧k= .int .i64 n∧(∀j (h:j<fs.length),j<n→longFB fs[j]=false)∧Below w.heap.size w wr) (fun k _=>L-(intOf k).toNat)
     case atStart=>exact ⟨0,by omega,rfl,fun j h h'=>absurd h' (Nat.not_lt_zero _),Below.refl _ _⟩
     case round =>
       obtain⟨n,hn,rfl,hno,hb⟩:=hrel
       have HNO:Hid (∀j (h:j<fs.length),j<n→longFB fs[j]=false):=hno
       clear hno
       by_cases hlt:n<L
       · have hltx:n<fs.length:=by rw[HX.out];exact hlt
         obtain⟨b,o,hq,hc⟩:=(HFX.out.below hb).cells (fun e=>by rw[e]at hltx;simp at hltx)
         subst hq
         obtain⟨c0,c1,c2,c3,c4,c5⟩:=hc n hltx
         obtain⟨k1,k2⟩:=HSZ.out fs[n] (List.getElem_mem _)
         have hlf:=longFile_any fs[n] wr k1 k2
         have hyes:longFB fs[n]=true→R=1:=fun e=>by
           rw[←HR.out,if_pos]
           unfold longFs
           rw[Bool.or_eq_true]
           exact Or.inr (List.any_eq_true.2 ⟨fs[n],List.getElem_mem _,e⟩)
         have hnx:=fun e=>anyLong_succ HNO.out hltx e
         unfold flV at hlf
         generalize longFB fs[n]=lb at hlf hyes hnx
         generalize fs[n]=f at c0 c1 c2 c3 c4 c5 hlf
         obtain⟨fp,fq,fn,flo,fhi,fseq⟩:=f
         dsimp only at c0 c1 c2 c3 c4 c5 hlf
         have hiL:(n:Int)<(L:Int):=by omega
         have hi0':(0:Int)≤(n:Int):=by omega
         clear hc k1 k2 hltx
         cases lb with
         | true =>
           obtain rfl:=hyes rfl
           simp only[if_true]at hlf
           clear hyes hnx
           go_wp2_with fail
           refine hlf.mono ?_
           rintro e w3 ⟨rfl,hb3⟩
           clear hlf
           go_wp2
           go_ret
           exact⟨rfl,hb.trans (hb3.mono hb.size)⟩
         | false =>
           have HNX:Hid (∀j (h:j<fs.length),j<n+1→longFB fs[j]=false):=hnx rfl
           simp only[Bool.false_eq_true,if_false]at hlf
           clear hyes hnx
           go_wp2_with fail
           refine hlf.mono ?_
           rintro e w3 ⟨rfl,hb3⟩
           clear hlf
           have hb4:Below w.heap.size w w3:=hb.trans (hb3.mono hb.size)
           go_wp2
           go_roundw
           case rel=>exact ⟨n+1,by omega,by go_num,HNX.out,hb4⟩
           case measure=>simp [intOf];omega
       · obtain rfl:n=L:=by omega
         have hRR:R=0:=by
           rw[←HR.out,if_neg]
           unfold longFs
           rw[HS.out,Bool.false_or]
           intro h
           obtain⟨f,hf,e⟩:=List.any_eq_true.1 h
           obtain⟨j,hj,rfl⟩:=List.mem_iff_getElem.1 hf
           rw[HNO.out j hj (by rw[←HX.out];exact hj)]at e
           cases e
         subst hRR
         go_wp2
         go_ret
         exact⟨rfl,hb⟩
   · have j2:((L:Int) != 60)=false:=by rw[i2];rfl
     go_enter Tryz.func30,Tryz.ntmps30
     go_wp2
     go_loopw [3] (fun k wr=> ∃n:Nat,n≤L∧k= .int .i64 n∧(∀j (h:j<fs.length),j<n→longFB fs[j]=false)∧Below w.heap.size w wr) (fun k _=>L-(intOf k).toNat)
     case atStart=>exact ⟨0,by omega,rfl,fun j h h'=>absurd h' (Nat.not_lt_zero _),Below.refl _ _⟩
     case round =>
       obtain⟨n,hn,rfl,hno,hb⟩:=hrel
       have HNO:Hid (∀j (h:j<fs.length),j<n→longFB fs[j]=false):=hno
       clear hno
       by_cases hlt:n<L
       · have hltx:n<fs.length:=by rw[HX.out];exact hlt
         obtain⟨b,o,hq,hc⟩:=(HFX.out.below hb).cells (fun e=>by rw[e]at hltx;simp at hltx)
         subst hq
         obtain⟨c0,c1,c2,c3,c4,c5⟩:=hc n hltx
         obtain⟨k1,k2⟩:=HSZ.out fs[n] (List.getElem_mem _)
         have hlf:=longFile_any fs[n] wr k1 k2
         have hyes:longFB fs[n]=true→R=1:=fun e=>by
           rw[←HR.out,if_pos]
           unfold longFs
           rw[Bool.or_eq_true]
           exact Or.inr (List.any_eq_true.2 ⟨fs[n],List.getElem_mem _,e⟩)
         have hnx:=fun e=>anyLong_succ HNO.out hltx e
         unfold flV at hlf
         generalize longFB fs[n]=lb at hlf hyes hnx
         generalize fs[n]=f at c0 c1 c2 c3 c4 c5 hlf
         obtain⟨fp,fq,fn,flo,fhi,fseq⟩:=f
         dsimp only at c0 c1 c2 c3 c4 c5 hlf
         have hiL:(n:Int)<(L:Int):=by omega
         have hi0':(0:Int)≤(n:Int):=by omega
         clear hc k1 k2 hltx
         cases lb with
         | true =>
           obtain rfl:=hyes rfl
           simp only[if_true]at hlf
           clear hyes hnx
           go_wp2_with fail
           refine hlf.mono ?_
           rintro e w3 ⟨rfl,hb3⟩
           clear hlf
           go_wp2
           go_ret
           exact⟨rfl,hb.trans (hb3.mono hb.size)⟩
         | false =>
           have HNX:Hid (∀j (h:j<fs.length),j<n+1→longFB fs[j]=false):=hnx rfl
           simp only[Bool.false_eq_true,if_false]at hlf
           clear hyes hnx
           go_wp2_with fail
           refine hlf.mono ?_
           rintro e w3 ⟨rfl,hb3⟩
           clear hlf
           have hb4:Below w.heap.size w w3:=hb.trans (hb3.mono hb.size)
           go_wp2
           go_roundw
           case rel=>exact ⟨n+1,by omega,by go_num,HNX.out,hb4⟩
           case measure=>simp [intOf];omega
       · obtain rfl:n=L:=by omega
         have hRR:R=0:=by
           rw[←HR.out,if_neg]
           unfold longFs
           rw[HS.out,Bool.false_or]
           intro h
           obtain⟨f,hf,e⟩:=List.any_eq_true.1 h
           obtain⟨j,hj,rfl⟩:=List.mem_iff_getElem.1 hf
           rw[HNO.out j hj (by rw[←HX.out];exact hj)]at e
           cases e
         subst hRR
         go_wp2
         go_ret
         exact⟨rfl,hb⟩
   · have j2:((L:Int) != 60)=true:=by simp[i2]
     have j3:((L:Int) != 61)=false:=by rw[i3];rfl
     go_enter Tryz.func30,Tryz.ntmps30
     go_wp2
     go_loopw [3] (fun k wr=> ∃n:Nat,n≤L∧k= .int .i64 n∧(∀j (h:j<fs.length),j<n→longFB fs[j]=false)∧Below w.heap.size w wr) (fun k _=>L-(intOf k).toNat)
     case atStart=>exact ⟨0,by omega,rfl,fun j h h'=>absurd h' (Nat.not_lt_zero _),Below.refl _ _⟩
     case round =>
       obtain⟨n,hn,rfl,hno,hb⟩:=hrel
       have HNO:Hid (∀j (h:j<fs.length),j<n→longFB fs[j]=false):=hno
       clear hno
       by_cases hlt:n<L
       · have hltx:n<fs.length:=by rw[HX.out];exact hlt
         obtain⟨b,o,hq,hc⟩:=(HFX.out.below hb).cells (fun e=>by rw[e]at hltx;simp at hltx)
         subst hq
         obtain⟨c0,c1,c2,c3,c4,c5⟩:=hc n hltx
         obtain⟨k1,k2⟩:=HSZ.out fs[n] (List.getElem_mem _)
         have hlf:=longFile_any fs[n] wr k1 k2
         have hyes:longFB fs[n]=true→R=1:=fun e=>by
           rw[←HR.out,if_pos]
           unfold longFs
           rw[Bool.or_eq_true]
           exact Or.inr (List.any_eq_true.2 ⟨fs[n],List.getElem_mem _,e⟩)
         have hnx:=fun e=>anyLong_succ HNO.out hltx e
         unfold flV at hlf
         generalize longFB fs[n]=lb at hlf hyes hnx
         generalize fs[n]=f at c0 c1 c2 c3 c4 c5 hlf
         obtain⟨fp,fq,fn,flo,fhi,fseq⟩:=f
         dsimp only at c0 c1 c2 c3 c4 c5 hlf
         have hiL:(n:Int)<(L:Int):=by omega
         have hi0':(0:Int)≤(n:Int):=by omega
         clear hc k1 k2 hltx
         cases lb with
         | true =>
           obtain rfl:=hyes rfl
           simp only[if_true]at hlf
           clear hyes hnx
           go_wp2_with fail
           refine hlf.mono ?_
           rintro e w3 ⟨rfl,hb3⟩
           clear hlf
           go_wp2
           go_ret
           exact⟨rfl,hb.trans (hb3.mono hb.size)⟩
         | false =>
           have HNX:Hid (∀j (h:j<fs.length),j<n+1→longFB fs[j]=false):=hnx rfl
           simp only[Bool.false_eq_true,if_false]at hlf
           clear hyes hnx
           go_wp2_with fail
           refine hlf.mono ?_
           rintro e w3 ⟨rfl,hb3⟩
           clear hlf
           have hb4:Below w.heap.size w w3:=hb.trans (hb3.mono hb.size)
           go_wp2
           go_roundw
           case rel=>exact ⟨n+1,by omega,by go_num,HNX.out,hb4⟩
           case measure=>simp [intOf];omega
       · obtain rfl:n=L:=by omega
         have hRR:R=0:=by
           rw[←HR.out,if_neg]
           unfold longFs
           rw[HS.out,Bool.false_or]
           intro h
           obtain⟨f,hf,e⟩:=List.any_eq_true.1 h
           obtain⟨j,hj,rfl⟩:=List.mem_iff_getElem.1 hf
           rw[HNO.out j hj (by rw[←HX.out];exact hj)]at e
           cases e
         subst hRR
         go_wp2
         go_ret
         exact⟨rfl,hb⟩
end Go.Proofs.YtdhkdjlgmbejnaaGreatDoor
