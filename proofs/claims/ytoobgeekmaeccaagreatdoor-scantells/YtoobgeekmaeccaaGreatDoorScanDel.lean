/- By an AI agent. -/
import Derived.Test.YtoobgeekmaeccaaGreatDoorStoreLaw
namespace Go.Proofs.YtoobgeekmaeccaaGreatDoor
open Go.RowKit Go.Extern.Stop Go.Stop Go.Extern Go.Sort Go.Shelf Go.Lib
def takeQ (x:Fl) (qs:List Int):List Int:=if x.2.1.data.toList≠ [45] then x.2.2.2.2.2 :: qs else qs
theorem file_count {obs:List Ob} {x:Fl} (h:(fileR obs x).1=0):∃g n,pathO x.1.data.toList=some (g,n)∧(x.2.1.data.toList= [45]↔g=true)∧fileE x=0∧(keysF g (fileR obs x).2.data.toList).2=0∧1≤(keysF g (fileR obs x).2.data.toList).1.length∧(keysF g (fileR obs x).2.data.toList).1.length≤40∧∀k∈(keysF g (fileR obs x).2.data.toList).1,-1073741824≤k∧k≤1073741824:=by
 have ho:=fileR_ok h
 obtain⟨g,n,hp,hq,hb,hk⟩:=file_keys h
 generalize (fileR obs x).2.data.toList=t at ho hk ⊢
 rw[ofF_some hp]at ho
 split at ho
 · rename_i h0
   unfold chkF at ho
   split at ho
   · rename_i he
     obtain⟨e1,_⟩:=Prod.mk.inj ho
     rw[e1]at he
     have hn:x.2.2.1=(keysF g t).1.length:=by rw[←e1]
     unfold bndB at hb
     simp only[Bool.and_eq_true,decide_eq_true_eq,inNum]at hb
     refine⟨g,n,hp,part_gone hq,he,h0,by omega,by omega,fun k hk'=>?_⟩
     have:=hk k hk'
     omega
   · cases ho
 · rename_i h0
   exact absurd (Prod.mk.inj ho).2 h0
set_option maxRecDepth 100000 in
set_option maxHeartbeats 2000000 in
theorem take_any (W:World) (a:Nat→Addr) (hE:EnvF W a) (obs:List Ob) (base b1 b2:Nat) (c:Ct) (qs:List Int) (x:Fl) (h:CtAt W base b1 b2 c qs) (hbase:base≤W.heap.size) (hx:(fileR obs x).1=0) (hp:x.1.size≤100000) (ht:(fileR obs x).2.size≤maxLen) (hqs:qs.length≤100) (hc1:c.1.length≤10000) (hc2:c.2.length≤10000) :
   Calls Tryz.prog 94 #[ctV b1 b2,flV x,.string (fileR obs x).2] W fun e w'=>e= .returned .nilIface∧CtAt w' base b1 b2 (takeC x (fileR obs x).2 c) (takeQ x qs)∧But (OfC W base b1 b2) W w':=by
 obtain⟨g,n,hpath,hpart,hfe,hk0,hk1,hk2,hk3⟩:=file_count hx
 have hsq:=file_seq hfe
 generalize (fileR obs x).2=t at ht hk0 hk1 hk2 hk3 ⊢
 have hal:Below W.heap.size W ((W.alloc (.cells #[.map (some b1),.map (some b2)] 88)).alloc (.cells #[.string x.1,.string x.2.1,.int .i64 x.2.2.1,.int .i64 x.2.2.2.1,.int .i64 x.2.2.2.2.1,.int .i64 x.2.2.2.2.2] 63)):=((Below.refl _ _).alloc (Nat.le_refl _) _).alloc (by simp) _
 have hxf:FlAt ((W.alloc (.cells #[.map (some b1),.map (some b2)] 88)).alloc (.cells #[.string x.1,.string x.2.1,.int .i64 x.2.2.1,.int .i64 x.2.2.2.1,.int .i64 x.2.2.2.2.1,.int .i64 x.2.2.2.2.2] 63)) (W.heap.size+1) x:=by
   have:=FlAt.new (W.alloc (.cells #[.map (some b1),.map (some b2)] 88)) x
   simpa using this
 have hbox:((W.alloc (.cells #[.map (some b1),.map (some b2)] 88)).alloc (.cells #[.string x.1,.string x.2.1,.int .i64 x.2.2.1,.int .i64 x.2.2.2.1,.int .i64 x.2.2.2.2.1,.int .i64 x.2.2.2.2.2] 63)).heap[W.heap.size]? =some (.cells #[.map (some b1),.map (some b2)] 88 (0,0)):=(Below.heap_alloc _ _ _ (by simp)).trans (heap_alloc_new _ _)
 have hnm:=fnumber_any x.1 _ a (hE.below hal).data.env hp
 rw[pathR_some hpath]at hnm
 dsimp only at hnm
 have e0:errV a 0= .nilIface:=rfl
 rw[e0]at hnm
 have HC:Hid (CtAt ((W.alloc (.cells #[.map (some b1),.map (some b2)] 88)).alloc (.cells #[.string x.1,.string x.2.1,.int .i64 x.2.2.1,.int .i64 x.2.2.2.1,.int .i64 x.2.2.2.2.1,.int .i64 x.2.2.2.2.2] 63)) base b1 b2 c qs):=h.below hal
 have HE:Hid (EnvF W a):=hE
 unfold flV
 clear h hE hpath e0
 go_enter Tryz.func94,Tryz.ntmps94
 go_upto_region 1 with fail
 have HA:Hid (Below W.heap.size W ((W.alloc (.cells #[.map (some b1),.map (some b2)] 88)).alloc (.cells #[.string x.1,.string x.2.1,.int .i64 x.2.2.1,.int .i64 x.2.2.2.1,.int .i64 x.2.2.2.2.1,.int .i64 x.2.2.2.2.2] 63))):=hal
 clear hal
 generalize (W.alloc (.cells #[.map (some b1),.map (some b2)] 88)).alloc (.cells #[.string x.1,.string x.2.1,.int .i64 x.2.2.1,.int .i64 x.2.2.2.1,.int .i64 x.2.2.2.2.1,.int .i64 x.2.2.2.2.2] 63)=W1 at *
 generalize W.heap.size+1=xb at hxf ⊢
 generalize hcbe:W.heap.size=cb at hbox ⊢
 obtain⟨d0,d1,d2,d3,d4,d5,-⟩:=hxf.cells
 go_wp2_with fail
 refine hnm.mono ?_
 rintro e w2 ⟨rfl,hb2⟩
 clear hnm d0 d1 d2 d3 d4 d5
 have hB2:Below W.heap.size W w2:=HA.out.trans (hb2.mono HA.out.size)
 have hx2:=hxf.below hb2
 have hC2:=HC.out.below hb2
 have hE2:=HE.out.below hB2
 have hbox2:=(hb2.block cb (Array.getElem?_eq_some_iff.1 hbox).1).trans hbox
 have k0:w2.cell? ⟨cb,0,none⟩=some (.map (some b1)):=by
   rw[cell_of_row _ _ _ _ _ _ hbox2];rfl
 have k1:w2.cell? ⟨cb,1,none⟩=some (.map (some b2)):=by
   rw[cell_of_row _ _ _ _ _ _ hbox2];rfl
 obtain⟨d0,d1,d2,d3,d4,d5,-⟩:=hx2.cells
 have HB2:Hid (Below W.heap.size W w2):=hB2
 have hsz2:base≤w2.heap.size:=Nat.le_trans hbase hB2.size
 clear hb2 hB2 hxf hx2 hbox hbox2 HA HC HE hcbe
 cases g with
 | true =>
   have hgo:x.2.1.data.toList= [45]:=hpart.2 rfl
   have htk:=takeKeys_any w2 a hE2.data.weak base b1 b2 c qs x.2.2.2.2.2 t hC2 hsq ht hk0 (fun z hz=>by have:=hk3 z hz;omega) (by have:(goneO t.data.toList).1.length≤40:=hk2;omega)
   have HT1:Hid (takeC x t c=(c.1,c.2++(goneO t.data.toList).1.map fun k=>(k,x.2.2.2.2.2))):=takeC_gone hgo
   have HT2:Hid (takeQ x qs=qs):=by show _=_;unfold takeQ;rw[if_neg (by simpa using hgo)]
   have hkl:((bytesOf (kindL true)).toList == [103,111,110,101])=true:=by rw[ByteArray.toList_eq];rfl
   generalize (goneO t.data.toList).1.map (fun k=>(k,x.2.2.2.2.2))=L at htk HT1
   clear hk0 hk1 hk2 hk3 hgo hpart hC2 hE2
   go_wp2_with fail
   refine htk.mono ?_
   rintro e w3 ⟨rfl,hC3,hB3⟩
   clear htk
   go_wp2
   go_ret
   refine⟨rfl,?_,?_⟩
   · rw[HT1.out,HT2.out];exact hC3
   · exact ofC_trans (But.of_below HB2.out) hB3
 | false =>
   have hgo:x.2.1.data.toList≠ [45]:=fun e=>by cases hpart.1 e
   have hdl:(dataO t.data.toList).1.length=(keysF false t.data.toList).1.length:=by
     show _=(keysR (dataO t.data.toList).1).length
     rw[keysR_len]
   have htk:=takeRows_any w2 a hE2.data base b1 b2 c qs x.2.2.2.2.2 t hC2 hsz2 hsq ht hk0 (fun e=>by rw[e]at hdl;simp at hdl;omega) (by omega) (by omega)
   have HT1:Hid (takeC x t c=(c.1++(dataO t.data.toList).1.map (fun r=>(r,x.2.2.2.2.2)),c.2)):=takeC_data hgo
   have HT2:Hid (takeQ x qs=x.2.2.2.2.2 :: qs):=by show _=_;unfold takeQ;rw[if_pos hgo]
   have hkl:((bytesOf (kindL false)).toList == [103,111,110,101])=false:=by rw[ByteArray.toList_eq];rfl
   generalize (dataO t.data.toList).1.map (fun r=>(r,x.2.2.2.2.2))=L at htk HT1
   clear hk0 hk1 hk2 hk3 hgo hpart hC2 hE2 hdl
   go_wp2_with fail
   refine htk.mono ?_
   rintro e w3 ⟨rfl,hC3,hB3⟩
   clear htk
   go_wp2
   go_ret
   refine⟨rfl,?_,?_⟩
   · rw[HT1.out,HT2.out];exact hC3
   · exact ofC_trans (But.of_below HB2.out) hB3
def ReadCP (a:Nat→Addr) (W:World) (obs:List Ob) (base b1 b2:Nat) (c:Ct) (qs:List Int) (x:Fl) (e:Ending) (w':World):Prop :=
 ((fileR obs x).1≠0∧e= .returned (errV a (fileR obs x).1)∧Below W.heap.size W w')∨((fileR obs x).1=0∧e= .returned .nilIface∧CtAt w' base b1 b2 (takeC x (fileR obs x).2 c) (takeQ x qs)∧But (OfC W base b1 b2) W w')
section
variable {a : Nat → Addr} {B : Nat} {EM : World → Prop} {SAt : World → Value → (Nat → Prop) → St → Prop}
set_option maxRecDepth 100000 in
set_option maxHeartbeats 4000000 in
theorem read2_any (K:StoreK a B EM SAt) (HV:∀W,EM W→EnvF W a∧Hand W) (W:World) (hE:EM W) (v:Value) (FP:Nat→Prop) (st:St) (hat:SAt W v FP st) (ks:Keeps st) (base b1 b2:Nat) (c:Ct) (qs:List Int) (x:Fl) (h:CtAt W base b1 b2 c qs) (hbase:base≤W.heap.size) (hp1:x.1.size≤1000) (hp2:x.2.1.size≤1000) (hqs:qs.length≤100) (hc1:c.1.length≤10000) (hc2:c.2.length≤10000) :
   Calls Tryz.prog 42 #[ctV b1 b2,v,flV x] W (ReadCP a W st.obs base b1 b2 c qs x):=by
 have hal:Below W.heap.size W ((W.alloc (.cells #[.map (some b1),.map (some b2)] 88)).alloc (.cells #[.string x.1,.string x.2.1,.int .i64 x.2.2.1,.int .i64 x.2.2.2.1,.int .i64 x.2.2.2.2.1,.int .i64 x.2.2.2.2.2] 63)):=((Below.refl _ _).alloc (Nat.le_refl _) _).alloc (by simp) _
 have hxf:FlAt ((W.alloc (.cells #[.map (some b1),.map (some b2)] 88)).alloc (.cells #[.string x.1,.string x.2.1,.int .i64 x.2.2.1,.int .i64 x.2.2.2.1,.int .i64 x.2.2.2.2.1,.int .i64 x.2.2.2.2.2] 63)) (W.heap.size+1) x:=by
   have:=FlAt.new (W.alloc (.cells #[.map (some b1),.map (some b2)] 88)) x
   simpa using this
 have hbox:((W.alloc (.cells #[.map (some b1),.map (some b2)] 88)).alloc (.cells #[.string x.1,.string x.2.1,.int .i64 x.2.2.1,.int .i64 x.2.2.2.1,.int .i64 x.2.2.2.2.1,.int .i64 x.2.2.2.2.2] 63)).heap[W.heap.size]? =some (.cells #[.map (some b1),.map (some b2)] 88 (0,0)):=(Below.heap_alloc _ _ _ (by simp)).trans (heap_alloc_new _ _)
 obtain⟨pt,rfl⟩:=K.ptr _ _ _ _ hat
 have hBW:=K.size W hE
 have HEM:Hid (∀X,Below W.heap.size W X→EM X):=fun X hX=>K.below W X hE (hX.mono hBW)
 have HAT:Hid (∀X,Below W.heap.size W X→SAt X (.pointer (some pt)) FP st):=fun X hX=>K.keep _ X _ _ (fun _=>False) _ hat (But.of_below hX) (fun _ _ h=>h)
 have hge:=K.get _ _ _ _ x.1 (HEM.out _ hal) (HAT.out _ hal) ks hp1
 have htz:=getT_size ks x.1
 have HC:Hid (∀X,Below W.heap.size W X→CtAt X base b1 b2 c qs):=fun X hX=>h.below hX
 have HVV:Hid (∀X,Below W.heap.size W X→EnvF X a∧Hand X):=fun X hX=>HV X (HEM.out X hX)
 have HTK:Hid (∀X,Below W.heap.size W X→(fileR st.obs x).1=0→(fileR st.obs x).2.size≤20000→Calls Tryz.prog 94 #[ctV b1 b2,flV x,.string (fileR st.obs x).2] X fun e w'=>e= .returned .nilIface∧CtAt w' base b1 b2 (takeC x (fileR st.obs x).2 c) (takeQ x qs)∧But (OfC X base b1 b2) X w'):=fun X hX h0 hz =>
   take_any X a (HVV.out X hX).1 st.obs base b1 b2 c qs x (HC.out X hX) (Nat.le_trans hbase hX.size) h0 (by omega) (by unfold maxLen;omega) hqs hc1 hc2
 unfold flV ctV at *
 clear h hE K HV hat ks hBW HEM HAT HC
 go_enter Tryz.func42,Tryz.ntmps42
 go_upto_region 1 with fail
 have HA:Hid (Below W.heap.size W ((W.alloc (.cells #[.map (some b1),.map (some b2)] 88)).alloc (.cells #[.string x.1,.string x.2.1,.int .i64 x.2.2.1,.int .i64 x.2.2.2.1,.int .i64 x.2.2.2.2.1,.int .i64 x.2.2.2.2.2] 63))):=hal
 clear hal
 generalize (W.alloc (.cells #[.map (some b1),.map (some b2)] 88)).alloc (.cells #[.string x.1,.string x.2.1,.int .i64 x.2.2.1,.int .i64 x.2.2.2.1,.int .i64 x.2.2.2.2.1,.int .i64 x.2.2.2.2.2] 63)=W1 at *
 generalize W.heap.size+1=xb at hxf ⊢
 generalize hcbe:W.heap.size=cb at hbox ⊢
 obtain⟨d0,d1,d2,d3,d4,d5,-⟩:=hxf.cells
 rcases getT_06 st.obs x.1 with hg | hg
 case inr =>
   have HRR:Hid ((fileR st.obs x).1=6):=by
     show _=_
     rw[fileR_get (x:=x) (obs:=st.obs) (by rw[hg];simp),hg]
   rw[hg]at hge
   simp only[errV]at hge
   generalize (getT st.obs x.1).1=tx at hge
   clear hg htz HTK HVV
   go_wp2_with fail
   refine hge.mono ?_
   rintro e w2 ⟨rfl,hb2⟩
   clear hge d0 d1 d2 d3 d4 d5
   go_wp2
   go_ret
   exact Or.inl ⟨by rw[HRR.out];decide,by rw[HRR.out];rfl,HA.out.trans (hb2.mono HA.out.size)⟩
 have hfo:=fileR_of (x:=x) hg
 rw[hg]at hge
 have e0:errV a 0= .nilIface:=rfl
 rw[e0]at hge
 obtain⟨tx,htx⟩:∃t,(getT st.obs x.1).1=t:=⟨_,rfl⟩
 rw[htx]at hge hfo htz
 have HOF:Hid (∀X,Below W.heap.size W X→Calls Tryz.prog 67 #[.string x.1,.string x.2.1,.string tx,.int .i64 x.2.2.2.2.2] X fun e w'=>e= .returned (.tuple #[flV (ofF x.1 x.2.1 tx.data.toList x.2.2.2.2.2).1,errV a (ofF x.1 x.2.1 tx.data.toList x.2.2.2.2.2).2])∧Below X.heap.size X w'):=fun X hX =>
   fof_any x.1 x.2.1 tx x.2.2.2.2.2 X a (HVV.out X hX).1 (fun _ _ _ _=>(HVV.out X hX).2) (by omega) (by omega) (by unfold maxLen;omega)
 obtain⟨Y,hY⟩:∃Y,ofF x.1 x.2.1 tx.data.toList x.2.2.2.2.2=Y:=⟨_,rfl⟩
 rw[hY]at HOF hfo
 obtain⟨y,ec⟩:=Y
 dsimp only at HOF hfo
 unfold flV at HOF
 clear hg htx hY
 go_wp2_with fail
 refine hge.mono ?_
 rintro e w2 ⟨rfl,hb2⟩
 clear hge d0 d1 d2 d3 d4 d5
 have hB2:Below W.heap.size W w2:=HA.out.trans (hb2.mono HA.out.size)
 have hx2:=hxf.below hb2
 have hbox2:=(hb2.block cb (Array.getElem?_eq_some_iff.1 hbox).1).trans hbox
 have hof:=HOF.out w2 hB2
 obtain⟨d0,d1,d2,d3,d4,d5,-⟩:=hx2.cells
 clear hb2 hxf hbox HA HOF e0
 by_cases hec:ec=0
 case neg =>
   have HRR:Hid ((fileR st.obs x).1=ec):=by
     show _=_
     rw[if_pos hec]at hfo
     rw[hfo]
   obtain⟨j,rfl⟩:∃j,ec=j+1:=⟨ec-1,by omega⟩
   simp only[errV]at hof
   clear hfo htz HTK HVV hec
   go_wp2_with fail
   refine hof.mono ?_
   rintro e w3 ⟨rfl,hb3⟩
   clear hof d0 d1 d2 d3 d4 d5
   have hal3:Below w3.heap.size w3 (w3.alloc (.cells #[.string y.1,.string y.2.1,.int .i64 y.2.2.1,.int .i64 y.2.2.2.1,.int .i64 y.2.2.2.2.1,.int .i64 y.2.2.2.2.2] 63)):=(Below.refl _ _).alloc (Nat.le_refl _) _
   have hB3:Below W.heap.size W w3:=hB2.trans (hb3.mono hB2.size)
   go_wp2
   go_ret
   exact Or.inl ⟨by rw[HRR.out];omega,by rw[HRR.out];rfl,hB3.trans (hal3.mono hB3.size)⟩
 subst hec
 have e0:errV a 0= .nilIface:=rfl
 rw[e0]at hof
 go_wp2_with fail
 refine hof.mono ?_
 rintro e w3 ⟨rfl,hb3⟩
 clear hof d0 d1 d2 d3 d4 d5 e0
 have hal3:Below w3.heap.size w3 (w3.alloc (.cells #[.string y.1,.string y.2.1,.int .i64 y.2.2.1,.int .i64 y.2.2.2.1,.int .i64 y.2.2.2.2.1,.int .i64 y.2.2.2.2.2] 63)):=(Below.refl _ _).alloc (Nat.le_refl _) _
 have hb4:Below w2.heap.size w2 (w3.alloc (.cells #[.string y.1,.string y.2.1,.int .i64 y.2.2.1,.int .i64 y.2.2.2.1,.int .i64 y.2.2.2.2.1,.int .i64 y.2.2.2.2.2] 63)):=hb3.trans (hal3.mono hb3.size)
 have hB4:Below W.heap.size W (w3.alloc (.cells #[.string y.1,.string y.2.1,.int .i64 y.2.2.1,.int .i64 y.2.2.2.1,.int .i64 y.2.2.2.2.1,.int .i64 y.2.2.2.2.2] 63)):=hB2.trans (hb4.mono hB2.size)
 have hy4:=FlAt.new w3 y
 have hx4:=hx2.below hb4
 have hbox4:=(hb4.block cb (Array.getElem?_eq_some_iff.1 hbox2).1).trans hbox2
 clear hb3 hal3 hb4 hB2 hx2 hbox2
 go_upto_region 5 with fail
 generalize w3.alloc (.cells #[.string y.1,.string y.2.1,.int .i64 y.2.2.1,.int .i64 y.2.2.2.1,.int .i64 y.2.2.2.2.1,.int .i64 y.2.2.2.2.2] 63)=w4 at *
 generalize w3.heap.size=yb at *
 have HB4:Hid (Below W.heap.size W w4):=hB4
 obtain⟨d0,d1,d2,d3,d4,d5,-⟩:=hx4.cells
 obtain⟨f0,f1,f2,f3,f4,f5,-⟩:=hy4.cells
 have hsh:=(HVV.out w4 hB4).1.data.shape
 by_cases hxy:y=x
 case neg =>
   have HRR:Hid ((fileR st.obs x).1=3):=by
     show _=_
     rw[if_neg (by simp),if_pos hxy]at hfo
     rw[hfo]
   have hnq:=fun W=>neqF2 y x hxy W
   have hgd:∀(bo:BinOp) (a b:Operand) (w:World),Sem.run Tryz.prog (eqGuard bo 63 a b (flV y) (flV x)) w= .ok () w:=fun bo a b w=>guardF bo a b y x w
   unfold flV at hnq hgd
   clear hfo hxy htz hx4 hy4 HTK HVV hB4
   go_wp2
   go_ret
   exact Or.inl ⟨by rw[HRR.out];decide,by rw[HRR.out];rfl,HB4.out⟩
 have e1:fileR st.obs x=(0,tx):=by rw[hfo,if_neg (by simp),if_neg (by simpa using hxy)]
 obtain rfl:x=y:=hxy.symm
 have hnq:=fun W=>neqF x W
 have hgd:∀(bo:BinOp) (a b:Operand) (w:World),Sem.run Tryz.prog (eqGuard bo 63 a b (flV x) (flV x)) w= .ok () w:=fun bo a b w=>guardF bo a b x x w
 have htk:=HTK.out w4 hB4 (by rw[e1]) (by rw[e1];exact htz)
 have k0:w4.cell? ⟨cb,0,none⟩=some (.map (some b1)):=by
   rw[cell_of_row _ _ _ _ _ _ hbox4];rfl
 have k1:w4.cell? ⟨cb,1,none⟩=some (.map (some b2)):=by
   rw[cell_of_row _ _ _ _ _ _ hbox4];rfl
 have HE1:Hid (fileR st.obs x=(0,tx)):=e1
 rw[e1]at htk
 dsimp only at htk
 unfold flV at hnq hgd
 clear hxy hfo HTK HVV e1 hx4 hy4 hB4 htz hbox4
 go_wp2_with fail
 refine htk.mono ?_
 rintro e w5 ⟨rfl,hC5,hB5⟩
 clear htk d0 d1 d2 d3 d4 d5 f0 f1 f2 f3 f4 f5 hnq hgd
 go_wp2
 go_ret
 refine Or.inr ⟨by rw[HE1.out],rfl,by rw[HE1.out];exact hC5,?_⟩
 exact ofC_trans (But.of_below HB4.out) hB5
end
def TellsB (fn:Nat) (cb:Array Value) (xs:List Rw) (p:Rw→Bool) (P:Nat→Prop) (w:World):Prop :=
 ∀(x:Rw) (W:World),x∈xs→But P w W→Calls Tryz.prog fn (#[.agg #[.string x.1,.int .i64 x.2.1,.int .i64 x.2.2]]++cb) W fun e w'=>e= .returned (.bool (p x))∧Below W.heap.size W w'
def idxR (p:Rw→Bool) (xs:List Rw):Int:=match xs.findIdx? p with
 | some i=>i
 | none=> -1
theorem idxR_at {p:Rw→Bool} {xs:List Rw} {n:Nat} (hn:n<xs.length) (h:∀j (h:j<xs.length),j<n→p xs[j]=false) (e:p xs[n]=true):idxR p xs=n:=by
 unfold idxR
 have:xs.findIdx? p=some n:=by
   rw[List.findIdx?_eq_some_iff_getElem]
   exact⟨hn,e,fun j hj=>by simpa using h j (by omega) hj⟩
 rw[this]
theorem idxR_no {p:Rw→Bool} {xs:List Rw} (h:∀j (h:j<xs.length),p xs[j]=false):idxR p xs= -1:=by
 unfold idxR
 have:xs.findIdx? p=none:=by
   rw[List.findIdx?_eq_none_iff]
   intro x hx
   obtain⟨j,hj,rfl⟩:=List.getElem_of_mem hx
   exact h j hj
 rw[this]
theorem idxR_cases (p:Rw→Bool) (xs:List Rw):(idxR p xs= -1∧∀j (h:j<xs.length),p xs[j]=false)∨∃n:Nat,∃hn:n<xs.length,idxR p xs=n∧p xs[n]=true∧∀j (h:j<xs.length),j<n→p xs[j]=false:=by
 unfold idxR
 cases hf:xs.findIdx? p with
 | none =>
   rw[List.findIdx?_eq_none_iff]at hf
   exact Or.inl ⟨rfl,fun j hj=>hf _ (List.getElem_mem _)⟩
 | some n =>
   rw[List.findIdx?_eq_some_iff_getElem]at hf
   obtain⟨hn,e,h⟩:=hf
   exact Or.inr ⟨n,hn,rfl,e,fun j hj hlt=>by simpa using h j hlt⟩
set_option maxRecDepth 100000 in
set_option maxHeartbeats 4000000 in
theorem indexR_any (v:Value) (xs:List Rw) (fn:Nat) (cb:Array Value) (p:Rw→Bool) (w:World) (eg:∀args w,(callFunc fn args).run Tryz.prog w= .ok (.enter fn args) w) (hx:RowsAt w v xs) (hl:xs.length≤20000) (hp:∀(x:Rw) (W:World),x∈xs→Below w.heap.size w W→Calls Tryz.prog fn (#[.agg #[.string x.1,.int .i64 x.2.1,.int .i64 x.2.2]]++cb) W fun e w'=>e= .returned (.bool (p x))∧Below W.heap.size W w') :
   Calls Tryz.prog 146 #[v,.func (.func fn) #[] cb] w fun e w'=>e= .returned (.int .i64 (idxR p xs))∧Below w.heap.size w w':=by
 obtain⟨q,cap,rfl⟩:=hx.form
 have HFX:Hid (RowsAt w (.slice q xs.length cap) xs):=hx
 obtain⟨L,hL⟩:∃L,xs.length=L:=⟨_,rfl⟩
 have HX:Hid (xs.length=L):=hL
 rw[hL]at hl HFX ⊢
 generalize hR:idxR p xs=R
 have HR:Hid (idxR p xs=R):=hR
 have HP:Hid (∀(x:Rw) (W:World),x∈xs→Below w.heap.size w W→Calls Tryz.prog fn (#[.agg #[.string x.1,.int .i64 x.2.1,.int .i64 x.2.2]]++cb) W fun e w'=>e= .returned (.bool (p x))∧Below W.heap.size W w'):=hp
 clear hL hx hR hp
 go_enter Tryz.func146,Tryz.ntmps146
 go_wp2
 go_loopw [8] (fun k wr=> ∃n:Nat,n≤L∧k= .int .i64 n∧(∀j (h:j<xs.length),j<n→p xs[j]=false)∧Below w.heap.size w wr) (fun k _=>L-(intOf k).toNat)
 case atStart=>exact ⟨0,by omega,rfl,fun j h h'=>absurd h' (Nat.not_lt_zero _),Below.refl _ _⟩
 case round =>
   obtain⟨n,hn,rfl,hno,hb⟩:=hrel
   have HNO:Hid (∀j (h:j<xs.length),j<n→p xs[j]=false):=hno
   clear hno
   by_cases hlt:n<L
   · have hltx:n<xs.length:=by rw[HX.out];exact hlt
     rcases HFX.out.below hb with⟨_,_,e,e'⟩|⟨b,o,cap2,e,hcells⟩
     · exfalso;have:=HX.out;rw[e']at this;simp at this;omega
     injection e with e1 e2 e3
     subst e1
     clear e2 e3
     obtain⟨c1,c2,c3⟩:=hcells n hltx
     have hcl:=HP.out xs[n] wr (List.getElem_mem _) hb
     have hi:(n:Int)<(L:Int):=by omega
     have hi0':(0:Int)≤(n:Int):=by omega
     clear hcells
     cases he:p xs[n]
     · have HN1:Hid (∀j (h:j<xs.length),j<n+1→p xs[j]=false):=fun j hj hjn=>by
         by_cases e:j=n
         · subst e;exact he
         · exact HNO.out j hj (by omega)
       rw[he]at hcl
       clear he
       generalize xs[n]=f at c1 c2 c3 hcl
       clear hltx
       obtain⟨fp,fk,fv⟩:=f
       dsimp only at c1 c2 c3 hcl
       go_wp2_with (go_at_fn fn;refine hcl.mono ?_;rintro e w2 ⟨rfl,hb2⟩)
       have hb3:Below w.heap.size w w2:=hb.trans (hb2.mono hb.size)
       go_roundw
       case rel=>exact ⟨n+1,by omega,by go_num,HN1.out,hb3⟩
       case measure=>simp [intOf];omega
     · have hRR:R=n:=by rw[←HR.out];exact idxR_at hltx HNO.out he
       subst hRR
       rw[he]at hcl
       clear he
       generalize xs[n]=f at c1 c2 c3 hcl
       clear hltx
       obtain⟨fp,fk,fv⟩:=f
       dsimp only at c1 c2 c3 hcl
       go_wp2_with (go_at_fn fn;refine hcl.mono ?_;rintro e w2 ⟨rfl,hb2⟩)
       go_ret
       exact⟨rfl,hb.trans (hb2.mono hb.size)⟩
   · obtain rfl:n=L:=by omega
     have hRR:R= -1:=by rw[←HR.out];exact idxR_no (fun j hj=>HNO.out j hj (by rw[←HX.out];exact hj))
     subst hRR
     go_wp2
     go_ret
     exact⟨rfl,hb⟩
def At3 (cur:Array Value) (t:Nat) (r:Rw):Prop:=cur[t*3]? =some (.string r.1)∧cur[t*3+1]? =some (.int .i64 r.2.1)∧cur[t*3+2]? =some (.int .i64 r.2.2)
def put3 (cur:Array Value) (t:Nat) (r:Rw):Array Value:=((cur.setIfInBounds (t*3) (.string r.1)).setIfInBounds (t*3+1) (.int .i64 r.2.1)).setIfInBounds (t*3+2) (.int .i64 r.2.2)
theorem put3_size (cur:Array Value) (t:Nat) (r:Rw):(put3 cur t r).size=cur.size:=by simp[put3]
theorem put3_same {cur:Array Value} {t:Nat} {r:Rw} (h:t*3+2<cur.size):At3 (put3 cur t r) t r:=by
 unfold At3 put3
 refine⟨?_,?_,?_⟩
 · rw[Array.getElem?_setIfInBounds_ne (by omega),Array.getElem?_setIfInBounds_ne (by omega),Array.getElem?_setIfInBounds_self_of_lt (by omega)]
 · rw[Array.getElem?_setIfInBounds_ne (by omega),Array.getElem?_setIfInBounds_self_of_lt (by simp;omega)]
 · rw[Array.getElem?_setIfInBounds_self_of_lt (by simp;omega)]
theorem put3_other {cur:Array Value} {t s:Nat} {r x:Rw} (h:s≠t) (hx:At3 cur s x):At3 (put3 cur t r) s x:=by
 unfold At3 put3 at *
 obtain⟨h1,h2,h3⟩:=hx
 refine⟨?_,?_,?_⟩
 · rw[Array.getElem?_setIfInBounds_ne (by omega),Array.getElem?_setIfInBounds_ne (by omega),Array.getElem?_setIfInBounds_ne (by omega)];exact h1
 · rw[Array.getElem?_setIfInBounds_ne (by omega),Array.getElem?_setIfInBounds_ne (by omega),Array.getElem?_setIfInBounds_ne (by omega)];exact h2
 · rw[Array.getElem?_setIfInBounds_ne (by omega),Array.getElem?_setIfInBounds_ne (by omega),Array.getElem?_setIfInBounds_ne (by omega)];exact h3
structure DelI (xs:List Rw) (p:Rw→Bool) (n:Nat) (cur:Array Value):Prop where
 kept:∀t (h:t<((xs.take n).filter fun x=> !p x).length),At3 cur t ((xs.take n).filter fun x=> !p x)[t]
 rest:∀t (h:t<xs.length),n≤t→At3 cur t xs[t]
theorem keep_lt {xs:List Rw} {p:Rw→Bool} {n m:Nat} (hm:m<n) (hx:m<xs.length) (h:p xs[m]=true):((xs.take n).filter fun x=> !p x).length<n:=by
 rcases Nat.lt_or_ge ((xs.take n).filter fun x=> !p x).length n with h' | h'
 · exact h'
 · exfalso
   have h1:(xs.take n).length≤n:=List.length_take_le _ _
   have h2:=List.length_filter_le (fun x=> !p x) (xs.take n)
   have h3:((xs.take n).filter fun x=> !p x).length=(xs.take n).length:=by omega
   rw[List.length_filter_eq_length_iff]at h3
   have h4:=h3 xs[m] (by
     rw[List.mem_take_iff_getElem]
     exact⟨m,by omega,rfl⟩)
   rw[h]at h4
   cases h4
theorem DelI.skip {xs:List Rw} {p:Rw→Bool} {n:Nat} {cur:Array Value} (h:DelI xs p n cur) (hn:n<xs.length) (hp:p xs[n]=true):((xs.take (n+1)).filter fun x=> !p x)=((xs.take n).filter fun x=> !p x)∧DelI xs p (n+1) cur:=by
 have e:((xs.take (n+1)).filter fun x=> !p x)=((xs.take n).filter fun x=> !p x):=by
   rw[filter_snoc (fun x=> !p x) xs n hn]
   simp[hp]
 exact⟨e,⟨by rw[e];exact h.kept,fun t ht hle=>h.rest t ht (by omega)⟩⟩
theorem DelI.step {xs:List Rw} {p:Rw→Bool} {n:Nat} {cur:Array Value} (h:DelI xs p n cur) (hn:n<xs.length) (hp:p xs[n]=false) (hs:xs.length*3≤cur.size) (hlt:((xs.take n).filter fun x=> !p x).length<n):((xs.take (n+1)).filter fun x=> !p x).length=((xs.take n).filter fun x=> !p x).length+1∧DelI xs p (n+1) (put3 cur ((xs.take n).filter fun x=> !p x).length xs[n]):=by
 have e:((xs.take (n+1)).filter fun x=> !p x)=((xs.take n).filter fun x=> !p x)++ [xs[n]]:=by
   rw[filter_snoc (fun x=> !p x) xs n hn]
   simp[hp]
 refine⟨by rw[e,List.length_append];rfl,⟨?_,fun t ht hle=>?_⟩⟩
 · rw[e]
   intro t ht
   by_cases h1:t<((xs.take n).filter fun x=> !p x).length
   · rw[List.getElem_append_left h1]
     exact put3_other (by omega) (h.kept t h1)
   · rw[List.length_append,List.length_singleton]at ht
     have e2:t=((xs.take n).filter fun x=> !p x).length:=by omega
     subst e2
     rw[List.getElem_append_right (Nat.le_refl _)]
     simp only[Nat.sub_self,List.getElem_cons_zero]
     exact put3_same (by omega)
 · exact put3_other (by omega) (h.rest t ht (by omega))
theorem cell_cur {w:World} {g o:Nat} {cur:Array Value} {t:TypeId} {f:Nat×Nat} {v:Value} (h:w.heap[g]? =some (.cells cur t f)) (hc:cur[o]? =some v):w.cell? ⟨g,o,none⟩=some v:=by
 simp[World.cell?,h,hc]
theorem frozen_cur {w:World} {g o:Nat} {cur:Array Value} {t:TypeId} (h:w.heap[g]? =some (.cells cur t (0,0))):w.frozen? ⟨g,o,none⟩=false:=by
 simp[World.frozen?,h]
theorem put3_world {w:World} {g n:Nat} {cur:Array Value} {t:TypeId} (r:Rw) (h:w.heap[g]? =some (.cells cur t (0,0))):(((w.setCell ⟨g,n*3,none⟩ (.string r.1)).setCell ⟨g,n*3+1,none⟩ (.int .i64 r.2.1)).setCell ⟨g,n*3+2,none⟩ (.int .i64 r.2.2)).heap[g]? =some (.cells (put3 cur n r) t (0,0)):=by
 have e1:=setCell_eq_setRow w g (n*3) cur t (0,0) (.string r.1) h
 have h1:=setRow_heap w g cur (cur.setIfInBounds (n*3) (.string r.1)) t (0,0) h
 rw[←e1]at h1
 have e2:=setCell_eq_setRow _ g (n*3+1) _ t (0,0) (.int .i64 r.2.1) h1
 have h2:=setRow_heap _ g _ ((cur.setIfInBounds (n*3) (.string r.1)).setIfInBounds (n*3+1) (.int .i64 r.2.1)) t (0,0) h1
 rw[←e2]at h2
 have e3:=setCell_eq_setRow _ g (n*3+2) _ t (0,0) (.int .i64 r.2.2) h2
 have h3:=setRow_heap _ g _ (((cur.setIfInBounds (n*3) (.string r.1)).setIfInBounds (n*3+1) (.int .i64 r.2.1)).setIfInBounds (n*3+2) (.int .i64 r.2.2)) t (0,0) h2
 rw[←e3]at h3
 exact h3
theorem clearR_any {w:World} {g i m c:Nat} {cur:Array Value} (h:w.heap[g]? =some (.cells cur 54 (0,0))) (hm:0<m) (hs:(i+m)*3≤cur.size) :
   ∃cur',(∀ty,(Builtin.clear_ #[33] ty #[.slice (some ⟨g,i*3,none⟩) m c]).run Tryz.prog w= .ok (.tuple #[]) (w.setRow g cur'))∧∀t r,t<i→At3 cur t r→At3 cur' t r:=by
 obtain⟨k,rfl⟩:∃k,m=k+1:=⟨m-1,by omega⟩
 have hz:(Builtin.zeroCells (Value.agg #[.string ⟨#[]⟩,.int .i64 0,.int .i64 0]).cells (k+1)).size=(k+1)*3:=by rw[size_zeroCells];rfl
 have h1:∀v∈(Builtin.zeroCells (Value.agg #[.string ⟨#[]⟩,.int .i64 0,.int .i64 0]).cells (k+1)).toList,v.oneCell'=true:=by
   intro v hv
   simp only[Builtin.zeroCells,Array.toList_map,List.mem_map]at hv
   obtain⟨j,_,rfl⟩:=hv
   have hj:j % (Value.agg #[.string ⟨#[]⟩,.int .i64 0,.int .i64 0]).cells.size=0∨j % (Value.agg #[.string ⟨#[]⟩,.int .i64 0,.int .i64 0]).cells.size=1∨j % (Value.agg #[.string ⟨#[]⟩,.int .i64 0,.int .i64 0]).cells.size=2:=by
     have e:(Value.agg #[.string ⟨#[]⟩,.int .i64 0,.int .i64 0]).cells.size=3:=rfl
     rw[e]
     omega
   rcases hj with hj | hj | hj<;>rw [hj]<;>rfl
 have hst:=run_storeCells_at (P:=Tryz.prog) g (i*3) 54 (Builtin.zeroCells (Value.agg #[.string ⟨#[]⟩,.int .i64 0,.int .i64 0]).cells (k+1)).toList 0 cur w h (by rw[Array.length_toList,hz];omega) h1
 simp only[Nat.add_zero]at hst
 refine⟨(cur.toList.take (i*3)++(Builtin.zeroCells (Value.agg #[.string ⟨#[]⟩,.int .i64 0,.int .i64 0]).cells (k+1)).toList++cur.toList.drop (i*3+(Builtin.zeroCells (Value.agg #[.string ⟨#[]⟩,.int .i64 0,.int .i64 0]).cells (k+1)).toList.length)).toArray,fun ty=>?_,fun t r ht hr=>?_⟩
 · generalize hZ:Builtin.zeroCells (Value.agg #[.string ⟨#[]⟩,.int .i64 0,.int .i64 0]).cells (k+1)=Z at hst ⊢
   simp[Builtin.clear_,run_underlying Tryz.underlying33,hZ,hst]
 · generalize (Builtin.zeroCells (Value.agg #[.string ⟨#[]⟩,.int .i64 0,.int .i64 0]).cells (k+1)).toList=Z
   have key:∀o,o<i*3→((cur.toList.take (i*3)++Z++cur.toList.drop (i*3+Z.length)).toArray)[o]? =cur[o]? :=fun o ho=>by
     have hl:o<(cur.toList.take (i*3)).length:=by
       rw[List.length_take,Array.length_toList]
       omega
     rw[List.getElem?_toArray,List.append_assoc,List.getElem?_append_left hl,List.getElem?_take,if_pos ho,Array.getElem?_toList]
   unfold At3 at *
   rw[key _ (by omega),key _ (by omega),key _ (by omega)]
   exact hr
def DelP (g cap:Nat) (ys:List Rw) (w:World) (e:Ending) (w':World):Prop:=e= .returned (.slice (some ⟨g,0,none⟩) ys.length cap)∧RowCells w' g 0 ys∧But (fun k=>k=g) w w'
theorem rowCells_at {w:World} {g:Nat} {cur:Array Value} {t:TypeId} {f:Nat×Nat} {ys:List Rw} (h:w.heap[g]? =some (.cells cur t f)) (hy:∀j (h:j<ys.length),At3 cur j ys[j]):RowCells w g 0 ys:=fun j hj=>by
 obtain⟨h1,h2,h3⟩:=hy j hj
 rw[Nat.zero_add]
 exact⟨cell_cur h h1,cell_cur h h2,cell_cur h h3⟩
theorem but_row {w:World} (g:Nat) (cs:Array Value):But (fun k=>k=g) w (w.setRow g cs):=⟨rfl,rfl,rfl,by simp,fun k _ hk=>setRow_other w g k cs hk⟩
set_option maxRecDepth 100000 in
set_option maxHeartbeats 4000000 in
theorem deleteR_any (g cap:Nat) (xs:List Rw) (fn:Nat) (cb:Array Value) (p:Rw→Bool) (cur0:Array Value) (w:World) (eg:∀args w,(callFunc fn args).run Tryz.prog w= .ok (.enter fn args) w) (hg:w.heap[g]? =some (.cells cur0 54 (0,0))) (hx:∀t (h:t<xs.length),At3 cur0 t xs[t]) (hsz:xs.length*3≤cur0.size) (hcap:xs.length≤cap) (hl:xs.length≤20000) (hp:TellsB fn cb xs p (fun k=>k=g) w) :
   Calls Tryz.prog 100 #[.slice (some ⟨g,0,none⟩) xs.length cap,.func (.func fn) #[] cb] w (DelP g cap (xs.filter fun x=> !p x) w):=by
 have hix:=indexR_any (.slice (some ⟨g,0,none⟩) xs.length cap) xs fn cb p w eg (Or.inr ⟨g,0,cap,rfl,rowCells_at hg hx⟩) hl (fun x W hx hb=>hp x W hx (But.of_below hb))
 have HP:Hid (TellsB fn cb xs p (fun k=>k=g) w):=hp
 have HG:Hid (w.heap[g]? =some (.cells cur0 54 (0,0))):=hg
 have hgl:=(Array.getElem?_eq_some_iff.1 hg).1
 have HXS:Hid (∀t (h:t<xs.length),At3 cur0 t xs[t]):=hx
 obtain⟨L,hL⟩:∃L,xs.length=L:=⟨_,rfl⟩
 have HL:Hid (xs.length=L):=hL
 rw[hL]at hix hsz hcap hl ⊢
 clear hp hg hx hL
 rcases idxR_cases p xs with⟨hi,hno⟩|⟨m,hm,hi,hpm,hbe⟩
 · have HF:Hid (xs.filter (fun x=> !p x)=xs):=by
     show _=_
     rw[List.filter_eq_self]
     intro x hx
     obtain⟨j,hj,rfl⟩:=List.getElem_of_mem hx
     rw[hno j hj];rfl
   rw[hi]at hix
   clear hno hi
   go_enter Tryz.func100,Tryz.ntmps100
   go_wp2_with fail
   refine hix.mono ?_
   rintro e w1 ⟨rfl,hb1⟩
   clear hix
   go_wp2
   go_ret
   unfold DelP
   rw[HF.out]
   refine⟨by rw[HL.out];rfl,rowCells_at ((hb1.block g hgl).trans HG.out) HXS.out,But.of_below hb1⟩
 · rw [hi]at hix
   have hmL:m<L:=by rw[←HL.out];exact hm
   have HM:Hid (∃hm:m<xs.length,p xs[m]=true):=⟨hm,hpm⟩
   have HI0:Hid (DelI xs p (m+1) cur0∧((xs.take (m+1)).filter fun x=> !p x).length=m):=by
     have e0:(xs.take m).filter (fun x=> !p x)=xs.take m:=by
       rw[List.filter_eq_self]
       intro x hx
       rw[List.mem_take_iff_getElem]at hx
       obtain⟨j,hj,rfl⟩:=hx
       rw[hbe j (by omega) (by omega)];rfl
     have h0:DelI xs p m cur0:=⟨by
       rw[e0]
       intro t ht
       rw[List.getElem_take]
       exact HXS.out t (by rw[List.length_take]at ht;omega),fun t ht _=>HXS.out t ht⟩
     obtain⟨e1,h1⟩:=h0.skip hm hpm
     refine⟨h1,?_⟩
     rw[e1,e0,List.length_take]
     omega
   clear hi hpm hbe hm HXS
   have hne:((m:Int) == -1)=false:=by simp
   go_enter Tryz.func100,Tryz.ntmps100
   go_wp2_with fail
   refine hix.mono ?_
   rintro e w1 ⟨rfl,hb1⟩
   clear hix
   have HG1:Hid (w1.heap[g]? =some (.cells cur0 54 (0,0))):=(hb1.block g hgl).trans HG.out
   have HB1:Hid (But (fun k=>k=g) w w1):=But.of_below hb1
   clear hb1 HG
   go_wp2
   go_loopw [5,6] (fun i j wr=> ∃n:Nat,m<n∧n≤L∧j= .int .i64 n∧i= .int .i64 ((xs.take n).filter fun x=> !p x).length∧∃cur,wr.heap[g]? =some (.cells cur 54 (0,0))∧cur.size=cur0.size∧DelI xs p n cur∧But (fun k=>k=g) w wr) (fun _ j _=>L-(intOf j).toNat)
   case atStart=>exact ⟨m+1,by omega,by omega,by go_num,by rw[HI0.out.2],cur0,HG1.out,rfl,HI0.out.1,HB1.out⟩
   case round =>
     obtain⟨n,hmn,hn,rfl,rfl,cur,hgr,hcs,hI,hBr⟩:=hrel
     have hkl:((xs.take n).filter fun x=> !p x).length<n:=by
       obtain⟨hm',hpm'⟩:=HM.out
       exact keep_lt hmn hm' hpm'
     have HI:Hid (DelI xs p n cur):=hI
     by_cases hlt:n<L
     · have hltx:n<xs.length:=by rw[HL.out];exact hlt
       obtain⟨a1,a2,a3⟩:=hI.rest n hltx (Nat.le_refl _)
       have c1:=cell_cur hgr a1
       have c2:=cell_cur hgr a2
       have c3:=cell_cur hgr a3
       have hi:(n:Int)<(L:Int):=by omega
       have hi0':(0:Int)≤(n:Int):=by omega
       have hgl':=(Array.getElem?_eq_some_iff.1 hgr).1
       clear hI a1 a2 a3
       cases hpn:p xs[n]
       case true =>
         have HS:=HI.out.skip hltx hpn
         have hcl:=HP.out xs[n] (wr.alloc (.cells #[.string xs[n].1,.int .i64 xs[n].2.1,.int .i64 xs[n].2.2] 54)) (List.getElem_mem _) (hBr.trans (Q:=fun _=>False) (But.of_below ((Below.refl _ _).alloc (Nat.le_refl _) _)) (fun _ h=>h.elim))
         rw[hpn]at hcl
         have HSS:Hid (((xs.take (n+1)).filter fun x=> !p x).length=((xs.take n).filter fun x=> !p x).length∧DelI xs p (n+1) cur):=⟨by rw[HS.1],HS.2⟩
         clear HS hpn
         generalize ((xs.take n).filter fun x=> !p x).length=kl at *
         generalize xs[n]=f at c1 c2 c3 hcl
         clear hltx
         obtain⟨fp,fk,fv⟩:=f
         dsimp only at c1 c2 c3 hcl
         have hal:Below wr.heap.size wr (wr.alloc (.cells #[.string fp,.int .i64 fk,.int .i64 fv] 54)):=(Below.refl _ _).alloc (Nat.le_refl _) _
         have d1:(wr.alloc (.cells #[.string fp,.int .i64 fk,.int .i64 fv] 54)).cell? ⟨wr.heap.size,0,none⟩=some (.string fp):=by simp
         have d2:(wr.alloc (.cells #[.string fp,.int .i64 fk,.int .i64 fv] 54)).cell? ⟨wr.heap.size,1,none⟩=some (.int .i64 fk):=by simp
         have d3:(wr.alloc (.cells #[.string fp,.int .i64 fk,.int .i64 fv] 54)).cell? ⟨wr.heap.size,2,none⟩=some (.int .i64 fv):=by simp
         go_wp2_with (go_at_fn fn;refine hcl.mono ?_;rintro e w2 ⟨rfl,hb2⟩)
         have hb3:Below wr.heap.size wr w2:=hal.trans (hb2.mono hal.size)
         go_roundw
         case rel=>exact ⟨n+1,by omega,by omega,by go_num,by rw[HSS.out.1],cur,(hb3.block g hgl').trans hgr,hcs,HSS.out.2,hBr.trans (Q:=fun _=>False) (But.of_below hb3) (fun _ h=>h.elim)⟩
         case measure=>simp [intOf];omega
       case false =>
         have HS:=HI.out.step hltx hpn (by rw[HL.out,hcs];exact hsz) hkl
         have hcl:=HP.out xs[n] (wr.alloc (.cells #[.string xs[n].1,.int .i64 xs[n].2.1,.int .i64 xs[n].2.2] 54)) (List.getElem_mem _) (hBr.trans (Q:=fun _=>False) (But.of_below ((Below.refl _ _).alloc (Nat.le_refl _) _)) (fun _ h=>h.elim))
         rw[hpn]at hcl
         have HSS:Hid (((xs.take (n+1)).filter fun x=> !p x).length=((xs.take n).filter fun x=> !p x).length+1∧DelI xs p (n+1) (put3 cur ((xs.take n).filter fun x=> !p x).length xs[n])):=HS
         clear HS hpn HI
         generalize ((xs.take n).filter fun x=> !p x).length=kl at *
         generalize xs[n]=f at c1 c2 c3 hcl HSS
         clear hltx
         obtain⟨fp,fk,fv⟩:=f
         dsimp only at c1 c2 c3 hcl
         have hal:Below wr.heap.size wr (wr.alloc (.cells #[.string fp,.int .i64 fk,.int .i64 fv] 54)):=(Below.refl _ _).alloc (Nat.le_refl _) _
         have d1:(wr.alloc (.cells #[.string fp,.int .i64 fk,.int .i64 fv] 54)).cell? ⟨wr.heap.size,0,none⟩=some (.string fp):=by simp
         have d2:(wr.alloc (.cells #[.string fp,.int .i64 fk,.int .i64 fv] 54)).cell? ⟨wr.heap.size,1,none⟩=some (.int .i64 fk):=by simp
         have d3:(wr.alloc (.cells #[.string fp,.int .i64 fk,.int .i64 fv] 54)).cell? ⟨wr.heap.size,2,none⟩=some (.int .i64 fv):=by simp
         have hkL:(kl:Int)<(L:Int):=by omega
         have hk0:(0:Int)≤(kl:Int):=by omega
         go_wp2_with (go_at_fn fn;refine hcl.mono ?_;rintro e w2 ⟨rfl,hb2⟩;have hb3:Below wr.heap.size wr w2:=hal.trans (hb2.mono hal.size);have hg2:=(hb3.block g hgl').trans hgr;have f1:=below_keep hb2 d1;have f2:=below_keep hb2 d2;have f3:=below_keep hb2 d3;have o1:=cell_cur hg2 (Array.getElem?_eq_getElem (by omega:kl*3<cur.size));have o2:=cell_cur hg2 (Array.getElem?_eq_getElem (by omega:kl*3+1<cur.size));have o3:=cell_cur hg2 (Array.getElem?_eq_getElem (by omega:kl*3+2<cur.size));have z1:=frozen_cur (o:=kl*3) hg2;have z2:=frozen_cur (o:=kl*3+1) hg2;have z3:=frozen_cur (o:=kl*3+2) hg2)
         have hw:=put3_world (n:=kl) (fp,fk,fv) hg2
         dsimp only at hw
         go_roundw
         case rel=>exact ⟨n+1,by omega,by omega,by go_num,by rw[HSS.out.1];go_num,_,hw,by rw[put3_size];exact hcs,HSS.out.2,(((hBr.trans (Q:=fun _=>False) (But.of_below hb3) (fun _ h=>h.elim)).setCell (Or.inl rfl) _).setCell (Or.inl rfl) _).setCell (Or.inl rfl) _⟩
         case measure=>simp [intOf];omega
     · obtain rfl:n=L:=by omega
       have ht:xs.take n=xs:=List.take_of_length_le (by rw[HL.out];omega)
       have hkc:∀t (h:t<(xs.filter fun x=> !p x).length),At3 cur t (xs.filter fun x=> !p x)[t]:=by
         have:=hI.kept
         rw[ht]at this
         exact this
       rw[ht]at hkl ⊢
       obtain⟨cur2,hcl,hke⟩:=clearR_any (i:=(xs.filter fun x=> !p x).length) (m:=n-(xs.filter fun x=> !p x).length) (c:=cap-(xs.filter fun x=> !p x).length) hgr (by omega) (by rw[hcs];omega)
       have HE:Hid (RowCells (wr.setRow g cur2) g 0 (xs.filter fun x=> !p x)):=rowCells_at (setRow_heap wr g cur cur2 _ _ hgr) fun j hj=>hke j _ hj (hkc j hj)
       have HB:Hid (But (fun k=>k=g) w (wr.setRow g cur2)):=hBr.trans (but_row g cur2) fun _ e _=>e
       clear hI HI hkc hke ht
       generalize hyy:xs.filter (fun x=> !p x)=ys at *
       have HYY:Hid (xs.filter (fun x=> !p x)=ys):=hyy
       clear hyy
       generalize hyl:ys.length=kl at *
       have HYL:Hid (ys.length=kl):=hyl
       clear hyl
       have hkn:¬cap=kl:=by omega
       have hk2:(kl:Int)≤(n:Int):=by omega
       have hk3:(kl:Int)≤(cap:Int):=by omega
       go_wp2
       go_ret
       exact⟨by rw[HYY.out,HYL.out];rfl,by rw[HYY.out];exact HE.out,HB.out⟩
end Go.Proofs.YtoobgeekmaeccaaGreatDoor
