/- By an AI agent. -/
import Derived.Laws.AppendOwn
import Derived.Test.YtdhkdjlgmbejnaaGreatDoorStoreLaw
namespace Go.Proofs.YtdhkdjlgmbejnaaGreatDoor
open Go.RowKit Go.Extern.Stop Go.Stop Go.Extern Go.Sort Go.Shelf Go.Lib
theorem SnAt.fz {W:World} {b:Nat} {s:Sn} {vf:Value} (h:SnAt W b s vf) (o:Nat):W.frozen? ⟨b,o,none⟩=false:=frozen_of_row _ _ _ _ _ h
def snSet (W:World) (b:Nat) (s:Sn) (vf:Value):World:=((((((W.setCell ⟨b,0,none⟩ (.int .i64 s.1)).setCell ⟨b,1,none⟩ (.int .i64 s.2.1)).setCell ⟨b,2,none⟩ (.int .i64 s.2.2.1)).setCell ⟨b,3,none⟩ (.int .i64 s.2.2.2.1)).setCell ⟨b,4,none⟩ (.int .i64 s.2.2.2.2.1)).setCell ⟨b,5,none⟩ (.string s.2.2.2.2.2.1)).setCell ⟨b,6,none⟩ vf
theorem SnAt.set {W:World} {b:Nat} {s:Sn} {vf:Value} (h:SnAt W b s vf) (s':Sn) (vf':Value):SnAt (snSet W b s' vf') b s' vf':=by
 unfold SnAt snSet at *
 rw[heap_setCell_same _ _ _ _ _ _ (heap_setCell_same _ _ _ _ _ _ (heap_setCell_same _ _ _ _ _ _ (heap_setCell_same _ _ _ _ _ _ (heap_setCell_same _ _ _ _ _ _ (heap_setCell_same _ _ _ _ _ _ (heap_setCell_same _ _ _ _ _ _ h))))))]
 rfl
theorem snSet_below {W W0:World} {B b:Nat} {s:Sn} {vf:Value} (h:Below B W0 W) (hb:B≤b):Below B W0 (snSet W b s vf):=((((((h.setCell hb _).setCell hb _).setCell hb _).setCell hb _).setCell hb _).setCell hb _).setCell hb _
theorem sn_other {W:World} {F G:Nat} {s:Sn} {vf:Value} (h:SnAt W F s vf) (hne:G≠F) (o:Nat) (z:Value):SnAt (W.setCell ⟨G,o,none⟩ z) F s vf:=(heap_setCell_other _ _ _ _ (fun e=>hne e.symm)).trans h
def OffF (v:Value) (fs:List Fl) (R:Nat):Prop:= ∀b o c n,v= .slice (some ⟨b,o,none⟩) n c→fs≠ []→b≠R
theorem off_of {W:World} {R:Nat} {s:Sn} {q:Option Addr} {n c:Nat} {v:Value} {fs:List Fl} (h:SnAt W R s (.slice q n c)) (hr:FlsAt W v fs):OffF v fs R:=by
 intro b o c' n' hv hne e
 subst e
 rcases hr with⟨_,_,_,_,e⟩|⟨b2,o2,c2,e2,_,hc⟩
 · exact hne e
 · rw[e2]at hv
   injection hv with e3
   injection e3 with e3
   injection e3 with e3 e4
   subst e3
   subst e4
   obtain⟨h0,h1,_⟩:=hc 0 (List.length_pos_iff.2 hne)
   rw[cell_of_row _ _ _ _ _ _ h]at h0 h1
   simp only[Nat.zero_mul,Nat.add_zero]at h0 h1
   match o2,h0,h1 with
   | 0,h0,_=>simp at h0
   | 1,h0,_=>simp at h0
   | 2,h0,_=>simp at h0
   | 3,h0,_=>simp at h0
   | 4,h0,_=>simp at h0
   | 5,_,h1=>simp at h1
   | 6,h0,_=>simp at h0
   | k+7,h0,_=>simp at h0
theorem FlsAt.set_off {W:World} {R:Nat} {v:Value} {fs:List Fl} (h:FlsAt W v fs) (ho:OffF v fs R) (k:Nat) (z:Value):FlsAt (W.setCell ⟨R,k,none⟩ z) v fs:=by
 rcases h with h | ⟨b,o,c,hv,hl,hc⟩
 · exact Or.inl h
 · by_cases hne:fs= []
   · exact Or.inl ⟨some ⟨b,o,none⟩,c,by rw[hv,hne];rfl,fun e=>(nomatch e),hne⟩
   · have hb:=ho b o c _ hv hne
     have hk:∀p,(W.setCell ⟨R,k,none⟩ z).cell? ⟨b,p,none⟩=W.cell? ⟨b,p,none⟩:=fun p=>World.cell?_setCell_other _ _ _ _ (by intro e;injection e with e;exact hb e.symm)
     refine Or.inr ⟨b,o,c,hv,hl,fun j hj=>?_⟩
     obtain⟨h0,h1,h2,h3,h4,h5⟩:=hc j hj
     exact⟨(hk _).trans h0,(hk _).trans h1,(hk _).trans h2,(hk _).trans h3,(hk _).trans h4,(hk _).trans h5⟩
def ToldE (W:World) (a:Nat→Addr) (ev:Value) (c:Nat×Option Nat):Prop:=match c.2 with
 | none=>ev=errV a c.1
 | some j=>c.1≠0∧∃fb,ev= .iface 92 (.pointer (some ⟨fb,0,none⟩))∧W.cell? ⟨fb,0,none⟩=some (.int .i64 j)∧W.cell? ⟨fb,1,none⟩=some (errV a c.1)
theorem ToldE.ok {W:World} {a:Nat→Addr} {ev:Value} {c:Nat×Option Nat} (h:ToldE W a ev c) (h0:c.1=0):ev= .nilIface:=by
 obtain⟨n,o⟩:=c
 dsimp only at h0
 subst h0
 cases o with
 | none=>exact h
 | some j=>exact absurd rfl h.1
theorem ToldE.bad {W:World} {a:Nat→Addr} {ev:Value} {c:Nat×Option Nat} (h:ToldE W a ev c) (h0:c.1≠0):∃t u,ev= .iface t u:=by
 obtain⟨n,o⟩:=c
 cases o with
 | none =>
   cases n with
   | zero=>exact absurd rfl h0
   | succ n=>exact ⟨_,_,h⟩
 | some j =>
   obtain⟨_,fb,h,_⟩:=h
   exact⟨_,_,h⟩
def Short (fs:List Fl):Prop:= ∀g∈fs,g.1.size≤30∧g.2.1.size≤30
def boxW (W:World) (f:Fl):World:=W.alloc (.cells #[.string f.1,.string f.2.1,.int .i64 f.2.2.1,.int .i64 f.2.2.2.1,.int .i64 f.2.2.2.2.1,.int .i64 f.2.2.2.2.2] 63)
theorem boxW_at (W:World) (f:Fl):FlAt (boxW W f) W.heap.size f:=FlAt.new W f
theorem boxW_below (W:World) (f:Fl):Below W.heap.size W (boxW W f):=(Below.refl _ _).alloc (Nat.le_refl _) _
theorem flsAt_take {w:World} {b o cap:Nat} {fs:List Fl} (h:FlCells w b o fs) {n:Nat} (hn:n≤fs.length) (hc:fs.length≤cap):FlsAt w (.slice (some ⟨b,o,none⟩) n cap) (fs.take n):=by
 refine Or.inr ⟨b,o,cap,?_,?_,flCells_take h n⟩
 · rw[List.length_take,Nat.min_eq_left hn]
 · rw[List.length_take];omega
def rk:List Fl→Int→Int→Int×Int
 | [],x,y=>(x,y)
 | f :: r,x,y=>if f.2.1.data.toList= [45] then rk r x (y+f.2.2.1) else rk r (x+f.2.2.1) y
def goneP (p:ByteArray):Bool:=match pathO p.data.toList with
 | some (g,_)=>g
 | none=>false
set_option maxRecDepth 100000 in
set_option maxHeartbeats 1000000 in
theorem isGone_any (f:Fl) (w:World) (a:Nat→Addr) (h:EnvN w a) (hs:f.1.size≤100000) :
   Calls Tryz.prog 139 #[flV f] w fun e w'=>e= .returned (.bool (goneP f.1))∧Below w.heap.size w w':=by
 have hal:Below w.heap.size w (w.alloc (.cells #[.string f.1,.string f.2.1,.int .i64 f.2.2.1,.int .i64 f.2.2.2.1,.int .i64 f.2.2.2.2.1,.int .i64 f.2.2.2.2.2] 63)):=(Below.refl _ _).alloc (Nat.le_refl _) _
 have z0:=(FlAt.new w f).cells.1
 have hn:=fnumber_n f.1 (w.alloc (.cells #[.string f.1,.string f.2.1,.int .i64 f.2.2.1,.int .i64 f.2.2.2.1,.int .i64 f.2.2.2.2.1,.int .i64 f.2.2.2.2.2] 63)) a (h.below hal) hs
 have hk:((bytesOf (pathR f.1.data.toList).1).toList == [103,111,110,101])=goneP f.1:=by
   unfold goneP
   cases hp:pathO f.1.data.toList with
   | none=>rw [pathR_none hp];exact neB_of (by rw[bytes_data];decide)
   | some x =>
     obtain⟨g,n⟩:=x
     rw[pathR_some hp]
     cases g
     · exact neB_of (by rw[bytes_data];show kindL false≠_;decide)
     · exact eqB_of (by rw[bytes_data];rfl)
 generalize goneP f.1=R at hk ⊢
 generalize bytesOf (pathR f.1.data.toList).1=K at hn hk
 generalize errV a (pathR f.1.data.toList).2.2=ev at hn
 generalize (pathR f.1.data.toList).2.1=n at hn
 unfold flV
 obtain⟨fp,fq,fn,flo,fhi,fseq⟩:=f
 dsimp only at hal z0 hn ⊢
 go_enter Tryz.func139,Tryz.ntmps139
 go_upto_region 1 with fail
 generalize w.alloc (.cells #[.string fp,.string fq,.int .i64 fn,.int .i64 flo,.int .i64 fhi,.int .i64 fseq] 63)=WA at hal z0 hn ⊢
 go_wp2_with fail
 refine hn.mono ?_
 rintro e w1 ⟨rfl,hb1⟩
 clear hn
 go_wp2
 go_ret
 exact⟨by rw[←hk];rfl,hal.trans (hb1.mono hal.size)⟩
def takeQ (x:Fl) (qs:List Int):List Int:=if x.2.1.data.toList≠ [45] then x.2.2.2.2.2 :: qs else qs
theorem file_count {obs:List Ob} {x:Fl} (h:(fileR obs x).1=0):∃g n,pathO x.1.data.toList=some (g,n)∧(x.2.1.data.toList= [45]↔g=true)∧fileE x=0∧(keysF g (fileR obs x).2.data.toList).2=0∧1≤(keysF g (fileR obs x).2.data.toList).1.length∧(keysF g (fileR obs x).2.data.toList).1.length≤40∧∀k∈(keysF g (fileR obs x).2.data.toList).1,-1073741824≤k∧k≤1073741824:=by
 have ho:=fileR_ok h
 obtain⟨g,n,hp,hq,hb,hk⟩:=file_keys h
 generalize (fileR obs x).2.data.toList=t at ho hk ⊢
 rw[ofF_some hp]at ho
 split at ho
 · rename_i h0
   unfold chkF at ho
   split at ho
   · rename_i he
     obtain⟨e1,_⟩:=Prod.mk.inj ho
     rw[e1]at he
     have hn:x.2.2.1=(keysF g t).1.length:=by rw[←e1]
     unfold bndB at hb
     simp only[Bool.and_eq_true,decide_eq_true_eq,inNum]at hb
     refine⟨g,n,hp,part_gone hq,he,h0,by omega,by omega,fun k hk'=>?_⟩
     have:=hk k hk'
     omega
   · cases ho
 · rename_i h0
   exact absurd (Prod.mk.inj ho).2 h0
set_option maxRecDepth 100000 in
set_option maxHeartbeats 2000000 in
theorem take_any (W:World) (a:Nat→Addr) (hE:EnvF W a) (obs:List Ob) (base b1 b2:Nat) (c:Ct) (qs:List Int) (x:Fl) (h:CtAt W base b1 b2 c qs) (hbase:base≤W.heap.size) (hx:(fileR obs x).1=0) (hp:x.1.size≤100000) (ht:(fileR obs x).2.size≤maxLen) (hqs:qs.length≤100) (hc1:c.1.length≤10000) (hc2:c.2.length≤10000) :
   Calls Tryz.prog 94 #[ctV b1 b2,flV x,.string (fileR obs x).2] W fun e w'=>e= .returned .nilIface∧CtAt w' base b1 b2 (takeC x (fileR obs x).2 c) (takeQ x qs)∧But (OfC W base b1 b2) W w':=by
 obtain⟨g,n,hpath,hpart,hfe,hk0,hk1,hk2,hk3⟩:=file_count hx
 have hsq:=file_seq hfe
 generalize (fileR obs x).2=t at ht hk0 hk1 hk2 hk3 ⊢
 have hal:Below W.heap.size W ((W.alloc (.cells #[.map (some b1),.map (some b2)] 88)).alloc (.cells #[.string x.1,.string x.2.1,.int .i64 x.2.2.1,.int .i64 x.2.2.2.1,.int .i64 x.2.2.2.2.1,.int .i64 x.2.2.2.2.2] 63)):=((Below.refl _ _).alloc (Nat.le_refl _) _).alloc (by simp) _
 have hxf:FlAt ((W.alloc (.cells #[.map (some b1),.map (some b2)] 88)).alloc (.cells #[.string x.1,.string x.2.1,.int .i64 x.2.2.1,.int .i64 x.2.2.2.1,.int .i64 x.2.2.2.2.1,.int .i64 x.2.2.2.2.2] 63)) (W.heap.size+1) x:=by
   have:=FlAt.new (W.alloc (.cells #[.map (some b1),.map (some b2)] 88)) x
   simpa using this
 have hbox:((W.alloc (.cells #[.map (some b1),.map (some b2)] 88)).alloc (.cells #[.string x.1,.string x.2.1,.int .i64 x.2.2.1,.int .i64 x.2.2.2.1,.int .i64 x.2.2.2.2.1,.int .i64 x.2.2.2.2.2] 63)).heap[W.heap.size]? =some (.cells #[.map (some b1),.map (some b2)] 88 (0,0)):=(Below.heap_alloc _ _ _ (by simp)).trans (heap_alloc_new _ _)
 have hnm:=isGone_any x _ a (hE.below hal).data.env.n hp
 have e0:goneP x.1=g:=by unfold goneP;rw[hpath]
 rw[e0]at hnm
 unfold flV at hnm
 have HC:Hid (CtAt ((W.alloc (.cells #[.map (some b1),.map (some b2)] 88)).alloc (.cells #[.string x.1,.string x.2.1,.int .i64 x.2.2.1,.int .i64 x.2.2.2.1,.int .i64 x.2.2.2.2.1,.int .i64 x.2.2.2.2.2] 63)) base b1 b2 c qs):=h.below hal
 have HE:Hid (EnvF W a):=hE
 unfold flV
 clear h hE hpath e0
 go_enter Tryz.func94,Tryz.ntmps94
 go_upto_region 1 with fail
 have HA:Hid (Below W.heap.size W ((W.alloc (.cells #[.map (some b1),.map (some b2)] 88)).alloc (.cells #[.string x.1,.string x.2.1,.int .i64 x.2.2.1,.int .i64 x.2.2.2.1,.int .i64 x.2.2.2.2.1,.int .i64 x.2.2.2.2.2] 63))):=hal
 clear hal
 generalize (W.alloc (.cells #[.map (some b1),.map (some b2)] 88)).alloc (.cells #[.string x.1,.string x.2.1,.int .i64 x.2.2.1,.int .i64 x.2.2.2.1,.int .i64 x.2.2.2.2.1,.int .i64 x.2.2.2.2.2] 63)=W1 at *
 generalize W.heap.size+1=xb at hxf ⊢
 generalize hcbe:W.heap.size=cb at hbox ⊢
 obtain⟨d0,d1,d2,d3,d4,d5,-⟩:=hxf.cells
 go_wp2_with fail
 refine hnm.mono ?_
 rintro e w2 ⟨rfl,hb2⟩
 clear hnm d0 d1 d2 d3 d4 d5
 have hB2:Below W.heap.size W w2:=HA.out.trans (hb2.mono HA.out.size)
 have hx2:=hxf.below hb2
 have hC2:=HC.out.below hb2
 have hE2:=HE.out.below hB2
 have hbox2:=(hb2.block cb (Array.getElem?_eq_some_iff.1 hbox).1).trans hbox
 have k0:w2.cell? ⟨cb,0,none⟩=some (.map (some b1)):=by
   rw[cell_of_row _ _ _ _ _ _ hbox2];rfl
 have k1:w2.cell? ⟨cb,1,none⟩=some (.map (some b2)):=by
   rw[cell_of_row _ _ _ _ _ _ hbox2];rfl
 obtain⟨d0,d1,d2,d3,d4,d5,-⟩:=hx2.cells
 have HB2:Hid (Below W.heap.size W w2):=hB2
 have hsz2:base≤w2.heap.size:=Nat.le_trans hbase hB2.size
 clear hb2 hB2 hxf hx2 hbox hbox2 HA HC HE hcbe
 cases g with
 | true =>
   have hgo:x.2.1.data.toList= [45]:=hpart.2 rfl
   have htk:=takeKeys_any w2 a hE2.data.weak base b1 b2 c qs x.2.2.2.2.2 t hC2 hsq ht hk0 (fun z hz=>by have:=hk3 z hz;omega) (by have:(goneO t.data.toList).1.length≤40:=hk2;omega)
   have HT1:Hid (takeC x t c=(c.1,c.2++(goneO t.data.toList).1.map fun k=>(k,x.2.2.2.2.2))):=takeC_gone hgo
   have HT2:Hid (takeQ x qs=qs):=by show _=_;unfold takeQ;rw[if_neg (by simpa using hgo)]
   generalize (goneO t.data.toList).1.map (fun k=>(k,x.2.2.2.2.2))=L at htk HT1
   clear hk0 hk1 hk2 hk3 hgo hpart hC2 hE2
   go_wp2_with fail
   refine htk.mono ?_
   rintro e w3 ⟨rfl,hC3,hB3⟩
   clear htk
   go_wp2
   go_ret
   refine⟨rfl,?_,?_⟩
   · rw[HT1.out,HT2.out];exact hC3
   · exact ofC_trans (But.of_below HB2.out) hB3
 | false =>
   have hgo:x.2.1.data.toList≠ [45]:=fun e=>by cases hpart.1 e
   have hdl:(dataO t.data.toList).1.length=(keysF false t.data.toList).1.length:=by
     show _=(keysR (dataO t.data.toList).1).length
     rw[keysR_len]
   have htk:=takeRows_any w2 a hE2.data base b1 b2 c qs x.2.2.2.2.2 t hC2 hsz2 hsq ht hk0 (fun e=>by rw[e]at hdl;simp at hdl;omega) (by omega) (by omega)
   have HT1:Hid (takeC x t c=(c.1++(dataO t.data.toList).1.map (fun r=>(r,x.2.2.2.2.2)),c.2)):=takeC_data hgo
   have HT2:Hid (takeQ x qs=x.2.2.2.2.2 :: qs):=by show _=_;unfold takeQ;rw[if_pos hgo]
   generalize (dataO t.data.toList).1.map (fun r=>(r,x.2.2.2.2.2))=L at htk HT1
   clear hk0 hk1 hk2 hk3 hgo hpart hC2 hE2 hdl
   go_wp2_with fail
   refine htk.mono ?_
   rintro e w3 ⟨rfl,hC3,hB3⟩
   clear htk
   go_wp2
   go_ret
   refine⟨rfl,?_,?_⟩
   · rw[HT1.out,HT2.out];exact hC3
   · exact ofC_trans (But.of_below HB2.out) hB3
def ReadCP (a:Nat→Addr) (W:World) (obs:List Ob) (base b1 b2:Nat) (c:Ct) (qs:List Int) (x:Fl) (e:Ending) (w':World):Prop :=
 ((fileR obs x).1≠0∧e= .returned (errV a (fileR obs x).1)∧Below W.heap.size W w')∨((fileR obs x).1=0∧e= .returned .nilIface∧CtAt w' base b1 b2 (takeC x (fileR obs x).2 c) (takeQ x qs)∧But (OfC W base b1 b2) W w')
section
variable {a : Nat → Addr} {B : Nat} {EM : World → Prop} {SAt : World → Value → (Nat → Prop) → St → Prop}
set_option maxRecDepth 100000 in
set_option maxHeartbeats 4000000 in
theorem sread2_any (K:StoreK a B EM SAt) (HV:∀W,EM W→EnvF W a∧Hand W) (W:World) (hE:EM W) (v:Value) (FP:Nat→Prop) (st:St) (hat:SAt W v FP st) (ks:Keeps st) (base b1 b2:Nat) (c:Ct) (qs:List Int) (x:Fl) (h:CtAt W base b1 b2 c qs) (hbase:base≤W.heap.size) (hp1:x.1.size≤1000) (hp2:x.2.1.size≤1000) (hqs:qs.length≤100) (hc1:c.1.length≤10000) (hc2:c.2.length≤10000) :
   Calls Tryz.prog 42 #[ctV b1 b2,v,flV x] W (ReadCP a W st.obs base b1 b2 c qs x):=by
 have hal:Below W.heap.size W ((W.alloc (.cells #[.map (some b1),.map (some b2)] 88)).alloc (.cells #[.string x.1,.string x.2.1,.int .i64 x.2.2.1,.int .i64 x.2.2.2.1,.int .i64 x.2.2.2.2.1,.int .i64 x.2.2.2.2.2] 63)):=((Below.refl _ _).alloc (Nat.le_refl _) _).alloc (by simp) _
 have hxf:FlAt ((W.alloc (.cells #[.map (some b1),.map (some b2)] 88)).alloc (.cells #[.string x.1,.string x.2.1,.int .i64 x.2.2.1,.int .i64 x.2.2.2.1,.int .i64 x.2.2.2.2.1,.int .i64 x.2.2.2.2.2] 63)) (W.heap.size+1) x:=by
   have:=FlAt.new (W.alloc (.cells #[.map (some b1),.map (some b2)] 88)) x
   simpa using this
 have hbox:((W.alloc (.cells #[.map (some b1),.map (some b2)] 88)).alloc (.cells #[.string x.1,.string x.2.1,.int .i64 x.2.2.1,.int .i64 x.2.2.2.1,.int .i64 x.2.2.2.2.1,.int .i64 x.2.2.2.2.2] 63)).heap[W.heap.size]? =some (.cells #[.map (some b1),.map (some b2)] 88 (0,0)):=(Below.heap_alloc _ _ _ (by simp)).trans (heap_alloc_new _ _)
 obtain⟨pt,rfl⟩:=K.ptr _ _ _ _ hat
 have hBW:=K.size W hE
 have HEM:Hid (∀X,Below W.heap.size W X→EM X):=fun X hX=>K.below W X hE (hX.mono hBW)
 have HAT:Hid (∀X,Below W.heap.size W X→SAt X (.pointer (some pt)) FP st):=fun X hX=>K.keep _ X _ _ (fun _=>False) _ hat (But.of_below hX) (fun _ _ h=>h)
 have hge:=K.get _ _ _ _ x.1 (HEM.out _ hal) (HAT.out _ hal) ks hp1
 have htz:=getT_size ks x.1
 have HC:Hid (∀X,Below W.heap.size W X→CtAt X base b1 b2 c qs):=fun X hX=>h.below hX
 have HVV:Hid (∀X,Below W.heap.size W X→EnvF X a∧Hand X):=fun X hX=>HV X (HEM.out X hX)
 have HTK:Hid (∀X,Below W.heap.size W X→(fileR st.obs x).1=0→(fileR st.obs x).2.size≤20000→Calls Tryz.prog 94 #[ctV b1 b2,flV x,.string (fileR st.obs x).2] X fun e w'=>e= .returned .nilIface∧CtAt w' base b1 b2 (takeC x (fileR st.obs x).2 c) (takeQ x qs)∧But (OfC X base b1 b2) X w'):=fun X hX h0 hz =>
   take_any X a (HVV.out X hX).1 st.obs base b1 b2 c qs x (HC.out X hX) (Nat.le_trans hbase hX.size) h0 (by omega) (by unfold maxLen;omega) hqs hc1 hc2
 unfold flV ctV at *
 clear h hE K HV hat ks hBW HEM HAT HC
 go_enter Tryz.func42,Tryz.ntmps42
 go_upto_region 1 with fail
 have HA:Hid (Below W.heap.size W ((W.alloc (.cells #[.map (some b1),.map (some b2)] 88)).alloc (.cells #[.string x.1,.string x.2.1,.int .i64 x.2.2.1,.int .i64 x.2.2.2.1,.int .i64 x.2.2.2.2.1,.int .i64 x.2.2.2.2.2] 63))):=hal
 clear hal
 generalize (W.alloc (.cells #[.map (some b1),.map (some b2)] 88)).alloc (.cells #[.string x.1,.string x.2.1,.int .i64 x.2.2.1,.int .i64 x.2.2.2.1,.int .i64 x.2.2.2.2.1,.int .i64 x.2.2.2.2.2] 63)=W1 at *
 generalize W.heap.size+1=xb at hxf ⊢
 generalize hcbe:W.heap.size=cb at hbox ⊢
 obtain⟨d0,d1,d2,d3,d4,d5,-⟩:=hxf.cells
 rcases getT_06 st.obs x.1 with hg | hg
 case inr =>
   have HRR:Hid ((fileR st.obs x).1=6):=by
     show _=_
     rw[fileR_get (x:=x) (obs:=st.obs) (by rw[hg];simp),hg]
   rw[hg]at hge
   simp only[errV]at hge
   generalize (getT st.obs x.1).1=tx at hge
   clear hg htz HTK HVV
   go_wp2_with fail
   refine hge.mono ?_
   rintro e w2 ⟨rfl,hb2⟩
   clear hge d0 d1 d2 d3 d4 d5
   go_wp2
   go_ret
   exact Or.inl ⟨by rw[HRR.out];decide,by rw[HRR.out];rfl,HA.out.trans (hb2.mono HA.out.size)⟩
 have hfo:=fileR_of (x:=x) hg
 rw[hg]at hge
 have e0:errV a 0= .nilIface:=rfl
 rw[e0]at hge
 obtain⟨tx,htx⟩:∃t,(getT st.obs x.1).1=t:=⟨_,rfl⟩
 rw[htx]at hge hfo htz
 have HOF:Hid (∀X,Below W.heap.size W X→Calls Tryz.prog 67 #[.string x.1,.string x.2.1,.string tx,.int .i64 x.2.2.2.2.2] X fun e w'=>e= .returned (.tuple #[flV (ofF x.1 x.2.1 tx.data.toList x.2.2.2.2.2).1,errV a (ofF x.1 x.2.1 tx.data.toList x.2.2.2.2.2).2])∧Below X.heap.size X w'):=fun X hX =>
   fof_any x.1 x.2.1 tx x.2.2.2.2.2 X a (HVV.out X hX).1 (fun _ _ _ _=>(HVV.out X hX).2) (by omega) (by omega) (by unfold maxLen;omega)
 obtain⟨Y,hY⟩:∃Y,ofF x.1 x.2.1 tx.data.toList x.2.2.2.2.2=Y:=⟨_,rfl⟩
 rw[hY]at HOF hfo
 obtain⟨y,ec⟩:=Y
 dsimp only at HOF hfo
 unfold flV at HOF
 clear hg htx hY
 go_wp2_with fail
 refine hge.mono ?_
 rintro e w2 ⟨rfl,hb2⟩
 clear hge d0 d1 d2 d3 d4 d5
 have hB2:Below W.heap.size W w2:=HA.out.trans (hb2.mono HA.out.size)
 have hx2:=hxf.below hb2
 have hbox2:=(hb2.block cb (Array.getElem?_eq_some_iff.1 hbox).1).trans hbox
 have hof:=HOF.out w2 hB2
 obtain⟨d0,d1,d2,d3,d4,d5,-⟩:=hx2.cells
 clear hb2 hxf hbox HA HOF e0
 by_cases hec:ec=0
 case neg =>
   have HRR:Hid ((fileR st.obs x).1=ec):=by
     show _=_
     rw[if_pos hec]at hfo
     rw[hfo]
   obtain⟨j,rfl⟩:∃j,ec=j+1:=⟨ec-1,by omega⟩
   simp only[errV]at hof
   clear hfo htz HTK HVV hec
   go_wp2_with fail
   refine hof.mono ?_
   rintro e w3 ⟨rfl,hb3⟩
   clear hof d0 d1 d2 d3 d4 d5
   have hal3:Below w3.heap.size w3 (w3.alloc (.cells #[.string y.1,.string y.2.1,.int .i64 y.2.2.1,.int .i64 y.2.2.2.1,.int .i64 y.2.2.2.2.1,.int .i64 y.2.2.2.2.2] 63)):=(Below.refl _ _).alloc (Nat.le_refl _) _
   have hB3:Below W.heap.size W w3:=hB2.trans (hb3.mono hB2.size)
   go_wp2
   go_ret
   exact Or.inl ⟨by rw[HRR.out];omega,by rw[HRR.out];rfl,hB3.trans (hal3.mono hB3.size)⟩
 subst hec
 have e0:errV a 0= .nilIface:=rfl
 rw[e0]at hof
 go_wp2_with fail
 refine hof.mono ?_
 rintro e w3 ⟨rfl,hb3⟩
 clear hof d0 d1 d2 d3 d4 d5 e0
 have hal3:Below w3.heap.size w3 (w3.alloc (.cells #[.string y.1,.string y.2.1,.int .i64 y.2.2.1,.int .i64 y.2.2.2.1,.int .i64 y.2.2.2.2.1,.int .i64 y.2.2.2.2.2] 63)):=(Below.refl _ _).alloc (Nat.le_refl _) _
 have hb4:Below w2.heap.size w2 (w3.alloc (.cells #[.string y.1,.string y.2.1,.int .i64 y.2.2.1,.int .i64 y.2.2.2.1,.int .i64 y.2.2.2.2.1,.int .i64 y.2.2.2.2.2] 63)):=hb3.trans (hal3.mono hb3.size)
 have hB4:Below W.heap.size W (w3.alloc (.cells #[.string y.1,.string y.2.1,.int .i64 y.2.2.1,.int .i64 y.2.2.2.1,.int .i64 y.2.2.2.2.1,.int .i64 y.2.2.2.2.2] 63)):=hB2.trans (hb4.mono hB2.size)
 have hy4:=FlAt.new w3 y
 have hx4:=hx2.below hb4
 have hbox4:=(hb4.block cb (Array.getElem?_eq_some_iff.1 hbox2).1).trans hbox2
 clear hb3 hal3 hb4 hB2 hx2 hbox2
 go_upto_region 5 with fail
 generalize w3.alloc (.cells #[.string y.1,.string y.2.1,.int .i64 y.2.2.1,.int .i64 y.2.2.2.1,.int .i64 y.2.2.2.2.1,.int .i64 y.2.2.2.2.2] 63)=w4 at *
 generalize w3.heap.size=yb at *
 have HB4:Hid (Below W.heap.size W w4):=hB4
 obtain⟨d0,d1,d2,d3,d4,d5,-⟩:=hx4.cells
 obtain⟨f0,f1,f2,f3,f4,f5,-⟩:=hy4.cells
 have hsh:=(HVV.out w4 hB4).1.data.shape
 by_cases hxy:y=x
 case neg =>
   have HRR:Hid ((fileR st.obs x).1=3):=by
     show _=_
     rw[if_neg (by simp),if_pos hxy]at hfo
     rw[hfo]
   have hnq:=fun W=>neqF2 y x hxy W
   have hgd:∀(bo:BinOp) (a b:Operand) (w:World),Sem.run Tryz.prog (eqGuard bo 63 a b (flV y) (flV x)) w= .ok () w:=fun bo a b w=>guardF bo a b y x w
   unfold flV at hnq hgd
   clear hfo hxy htz hx4 hy4 HTK HVV hB4
   go_wp2
   go_ret
   exact Or.inl ⟨by rw[HRR.out];decide,by rw[HRR.out];rfl,HB4.out⟩
 have e1:fileR st.obs x=(0,tx):=by rw[hfo,if_neg (by simp),if_neg (by simpa using hxy)]
 obtain rfl:x=y:=hxy.symm
 have hnq:=fun W=>neqF x W
 have hgd:∀(bo:BinOp) (a b:Operand) (w:World),Sem.run Tryz.prog (eqGuard bo 63 a b (flV x) (flV x)) w= .ok () w:=fun bo a b w=>guardF bo a b x x w
 have htk:=HTK.out w4 hB4 (by rw[e1]) (by rw[e1];exact htz)
 have k0:w4.cell? ⟨cb,0,none⟩=some (.map (some b1)):=by
   rw[cell_of_row _ _ _ _ _ _ hbox4];rfl
 have k1:w4.cell? ⟨cb,1,none⟩=some (.map (some b2)):=by
   rw[cell_of_row _ _ _ _ _ _ hbox4];rfl
 have HE1:Hid (fileR st.obs x=(0,tx)):=e1
 rw[e1]at htk
 dsimp only at htk
 unfold flV at hnq hgd
 clear hxy hfo HTK HVV e1 hx4 hy4 hB4 htz hbox4
 go_wp2_with fail
 refine htk.mono ?_
 rintro e w5 ⟨rfl,hC5,hB5⟩
 clear htk d0 d1 d2 d3 d4 d5 f0 f1 f2 f3 f4 f5 hnq hgd
 go_wp2
 go_ret
 refine Or.inr ⟨by rw[HE1.out],rfl,by rw[HE1.out];exact hC5,?_⟩
 exact ofC_trans (But.of_below HB4.out) hB5
end
end Go.Proofs.YtdhkdjlgmbejnaaGreatDoor
