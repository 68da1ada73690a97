/- By an AI agent. -/
import Derived.Test.YtgckdomafbnmkaaGreatDoorPackCmp
import Derived.Test.YtgckdomafbnmkaaGreatDoorScanKs
namespace Go.Proofs.YtgckdomafbnmkaaGreatDoor
open Go.RowKit Go.Extern.Stop Go.Stop Go.Extern Go.Sort Go.Shelf Go.Lib
theorem least_at {fs:List Fl} {p:ByteArray} :∀j (hj:j<fs.length),fs[j].1=p→∃i,∃hi:i<fs.length,fs[i].1=p∧∀k (hk:k<fs.length),k<i→fs[k].1≠p:=by
 intro j
 induction j using Nat.strongRecOn with
 | ind j ih =>
   intro hj e
   by_cases h:∃k,∃hk:k<fs.length,k<j∧fs[k].1=p
   · obtain⟨k,hk,hkj,e'⟩:=h
     exact ih k hkj hk e'
   · exact⟨j,hj,e,fun k hk hkj e'=>h ⟨k,hk,hkj,e'⟩⟩
theorem findF_there {fs:List Fl} {f:Fl} (hf:f∈fs):∃n,∃hn:n<fs.length,findF fs f.1=n∧fs[n].1=f.1:=by
 obtain⟨j,hj,rfl⟩:=List.mem_iff_getElem.1 hf
 obtain⟨i,hi,e,hno⟩:=least_at j hj rfl
 exact⟨i,hi,findF_at hi (fun k hk hki=>hno k hk hki) e,e⟩
def dataP (fs:List Fl) (p:ByteArray):Prop:= ∃f∈fs,f.1=p∧goneP p=false
set_option maxRecDepth 100000 in
set_option maxHeartbeats 2000000 in
theorem hasData_yes (v:Value) (fs:List Fl) (p:ByteArray) (w:World) (a:Nat→Addr) (h:EnvN w a) (hx:FlsAt w v fs) (hl:fs.length≤1000) (hsz:∀f∈fs,f.1.size≤100000) (hd:dataP fs p) :
   Calls Tryz.prog 53 #[v,.string p] w fun e w'=>e= .returned (.bool true)∧Below w.heap.size w w':=by
 have hfd:=find_any v fs p w hx (by omega)
 obtain⟨n,hnl,hn,hnp⟩:∃n,∃hn:n<fs.length,findF fs p=n∧fs[n].1=p:=by
   obtain⟨f,hf,e,_⟩:=hd
   have h1:=findF_there hf
   rw[e]at h1
   exact h1
 have HIG:Hid (∀W,Below w.heap.size w W→Calls Tryz.prog 39 #[flV fs[n]] W fun e w'=>e= .returned (.bool false)∧Below W.heap.size W w'):=fun W hb=>by
   have h1:=isGone_any fs[n] W a (h.below hb) (hsz _ (List.getElem_mem _))
   obtain⟨_,_,_,hg⟩:=hd
   rw[hnp,hg]at h1
   exact h1
 have HX:Hid (∀W,Below w.heap.size w W→FlsAt W v fs):=fun W hb=>hx.below hb
 obtain⟨q,cap,rfl⟩:=hx.form
 rw[hn]at hfd
 obtain⟨L,hL⟩:∃L,fs.length=L:=⟨_,rfl⟩
 have hnL:n<L:=by omega
 obtain⟨b,o,hq,hc⟩:=hx.cells (fun e=>by rw[e]at hnl;simp at hnl)
 subst hq
 have HC:Hid (∀W,Below w.heap.size w W→W.cell? ⟨b,o+n*6,none⟩=some (.string fs[n].1)∧W.cell? ⟨b,o+n*6+1,none⟩=some (.string fs[n].2.1)∧W.cell? ⟨b,o+n*6+2,none⟩=some (.int .i64 fs[n].2.2.1)∧W.cell? ⟨b,o+n*6+3,none⟩=some (.int .i64 fs[n].2.2.2.1)∧W.cell? ⟨b,o+n*6+4,none⟩=some (.int .i64 fs[n].2.2.2.2.1)∧W.cell? ⟨b,o+n*6+5,none⟩=some (.int .i64 fs[n].2.2.2.2.2)):=fun W hb=>by
   obtain⟨c0,c1,c2,c3,c4,c5⟩:=hc n hnl
   exact⟨below_keep hb c0,below_keep hb c1,below_keep hb c2,below_keep hb c3,below_keep hb c4,below_keep hb c5⟩
 generalize fs[n]=f at HIG HC
 rw[hL]at hfd ⊢
 clear hx hc hnp hnl hn hd hsz hL HX
 unfold flV at HIG
 go_enter Tryz.func53,Tryz.ntmps53
 go_wp2_with fail
 refine hfd.mono ?_
 rintro e w1 ⟨rfl,hb1⟩
 clear hfd
 obtain⟨c0,c1,c2,c3,c4,c5⟩:=HC.out w1 hb1
 have hig:=HIG.out w1 hb1
 have g1:(0:Int)≤(n:Int):=by omega
 have g2:(n:Int)<(L:Int):=by omega
 go_wp2_with fail
 refine hig.mono ?_
 rintro e w2 ⟨rfl,hb2⟩
 clear hig
 go_wp2
 go_ret
 exact⟨rfl,hb1.trans (hb2.mono hb1.size)⟩
def dropB (ps:List ByteArray) (f:Fl):Bool:= !goneP f.1 && !inT ps f.1
set_option maxRecDepth 100000 in
set_option maxHeartbeats 2000000 in
theorem drop1_any (ps:List ByteArray) (vp:Value) (f:Fl) (pb:Nat) (w:World) (a:Nat→Addr) (h:EnvN w a) (hb:w.cell? ⟨pb,0,none⟩=some vp) (hp:TsAt w vp ps) (hl:ps.length≤1000) (hs:f.1.size≤100000) :
   Calls Tryz.prog 56 #[flV f,.pointer (some ⟨pb,0,none⟩)] w fun e w'=>e= .returned (.bool (dropB ps f))∧Below w.heap.size w w':=by
 have hal:Below w.heap.size w (w.alloc (.cells #[.string f.1,.string f.2.1,.int .i64 f.2.2.1,.int .i64 f.2.2.2.1,.int .i64 f.2.2.2.2.1,.int .i64 f.2.2.2.2.2] 43)):=(Below.refl _ _).alloc (Nat.le_refl _) _
 have hfn:=FlAt.new w f
 have hig:=isGone_any f _ a (h.below hal) hs
 have hb2:=below_keep hal hb
 have HCN:Hid (∀W,Below w.heap.size w W→Calls Tryz.prog 57 #[vp,.string f.1] W fun e w'=>e= .returned (.bool (inT ps f.1))∧w'=W):=fun W hW=>containsT_any vp ps f.1 W (hp.below hW) (by omega)
 have HR:Hid (dropB ps f=(!goneP f.1 && !inT ps f.1)):=rfl
 obtain⟨q,c,rfl⟩:=hp.form
 generalize ps.length=PL at *
 generalize goneP f.1=G at hig HR
 generalize inT ps f.1=T at HCN HR
 generalize dropB ps f=R at HR ⊢
 clear hp hb h
 unfold flV at hig ⊢
 go_enter Tryz.func56,Tryz.ntmps56
 go_upto_region 1 with fail
 obtain⟨fp,fq,fn,flo,fhi,fseq⟩:=f
 dsimp only at *
 generalize w.alloc (.cells #[.string fp,.string fq,.int .i64 fn,.int .i64 flo,.int .i64 fhi,.int .i64 fseq] 43)=WA at hal hfn hig hb2 ⊢
 obtain⟨c0,c1,c2,c3,c4,c5,-⟩:=hfn.cells
 dsimp only at c0 c1 c2 c3 c4 c5
 go_wp2_with fail
 refine hig.mono ?_
 rintro e w1 ⟨rfl,hb1⟩
 clear hig c0 c1 c2 c3 c4 c5
 have hB:Below w.heap.size w w1:=hal.trans (hb1.mono hal.size)
 have k0:=(hfn.below hb1).cells.1
 have b0:=below_keep hb1 hb2
 dsimp only at k0
 clear hfn hb2 hal hb1
 cases G
 · have hcn:=HCN.out w1 hB
   go_wp2_with fail
   refine hcn.mono ?_
   rintro e w2 ⟨rfl,rfl⟩
   clear hcn
   go_wp2
   go_ret
   exact⟨by rw[HR.out];simp,hB⟩
 · go_wp2
   go_ret
   exact⟨by rw[HR.out];simp,hB⟩
section
variable {a : Nat → Addr} {B : Nat} {EM : World → Prop} {SAt : World → Value → (Nat → Prop) → St → Prop}
set_option maxRecDepth 100000 in
set_option maxHeartbeats 8000000 in
theorem rewrite_ok {w:World} (K:StoreK a w.heap.size (upE EM w.heap.size) SAt) (KS:ScanK a (upE EM w.heap.size) SAt) (KL:∀X,Below w.heap.size w X→EnvL X a) (X:World) (pt:Addr) (FP:Nat→Prop) (st:St) (sb:Nat) (s0:Sn) (v0:Value) (hI:ScI EM SAt w X (.pointer (some pt)) FP st sb s0 v0) (hk:Keeps st) (s:Sn) (vf:Value) (hx:FlsAt X vf s.2.2.2.2.2.2) (hl:s.2.2.2.2.2.2.length≤100) (hsz:Short s.2.2.2.2.2.2) (vp:Value) (ps:List ByteArray) (hp:TsAt X vp ps) (hpl:ps.length≤1000) (hE:(snapE s).1=0) (hd:∀p∈ps,dataP s.2.2.2.2.2.2 p) (hr:(rowsS st.obs (snF s (s.2.2.2.2.2.2.filter fun f=> !dropB ps f)) minI maxI).2.1=0) :
   Calls Tryz.prog 16 #[.pointer (some pt),snV s vf,vp] X fun e w'=> ∃v',e= .returned (.tuple #[v',.nilIface])∧RowsAt w' v' (rowsS st.obs (snF s (s.2.2.2.2.2.2.filter fun f=> !dropB ps f)) minI maxI).1∧Below X.heap.size X w':=by
 have eg:∀args w,(callFunc 56 args).run Tryz.prog w= .ok (.enter 56 args) w:=enters_of Tryz.func56 (by kernel_rfl) rfl
 have hwX:Below w.heap.size w X:=hI.ok.frame
 have HEL:Hid (∀W,Below X.heap.size X W→EnvL W a):=fun W hb=>KL W (hwX.trans (hb.mono hwX.size))
 have HX:Hid (∀W,Below X.heap.size X W→FlsAt W vf s.2.2.2.2.2.2):=fun W hb=>hx.below hb
 have HP:Hid (∀W,Below X.heap.size X W→TsAt W vp ps):=fun W hb=>hp.below hb
 have HCK:Hid (∀W,Below X.heap.size X W→Calls Tryz.prog 45 #[snV s vf] W fun e w'=>e= .returned .nilIface∧Below W.heap.size W w'):=fun W hb=>(scheck_any s vf W a (HEL.out W hb) (hx.below hb) hl hsz).mono fun e w' ⟨ev,he,ht,hb'⟩=>⟨by rw[he,ht.ok hE],hb'⟩
 have HHD:Hid (∀W,Below X.heap.size X W→∀p∈ps,Calls Tryz.prog 53 #[vf,.string p] W fun e w'=>e= .returned (.bool true)∧Below W.heap.size W w'):=fun W hb p hpm=>hasData_yes vf s.2.2.2.2.2.2 p W a (HEL.out W hb).file.env (hx.below hb) (by omega) (fun f hf=>by have:=(hsz f hf).1;omega) (hd p hpm)
 have HCL:Hid (∀W,Below X.heap.size X W→Calls Tryz.prog 55 #[vf] W fun e w'=> ∃v',e= .returned v'∧w'.ownsRow W.heap.size 43 6 v' s.2.2.2.2.2.2.length (flatF s.2.2.2.2.2.2)∧Below W.heap.size W w'):=fun W hb=>cloneF_any vf s.2.2.2.2.2.2 W (hx.below hb) (by omega)
 have HDL:Hid (∀W0 W v pb,Below X.heap.size X W0→W0.cell? ⟨pb,0,none⟩=some vp→Below W0.heap.size W0 W→W.ownsRow W0.heap.size 43 6 v s.2.2.2.2.2.2.length (flatF s.2.2.2.2.2.2)→Calls Tryz.prog 54 #[v,.func (.func 56) #[] #[.pointer (some ⟨pb,0,none⟩)]] W fun e w'=> ∃v',e= .returned v'∧FlsAt w' v' (s.2.2.2.2.2.2.filter fun f=> !dropB ps f)∧Below W0.heap.size W0 w'):=fun W0 W v pb hb0 hc hb ho=>(deleteG_any 56 #[.pointer (some ⟨pb,0,none⟩)] (dropB ps) v s.2.2.2.2.2.2 W0 W hb ho (by omega) eg (fun f hf Y hY=>drop1_any ps vp f pb Y a (HEL.out Y (hb0.trans (hY.mono hb0.size))).file.env (below_keep hY hc) ((hp.below hb0).below hY) hpl (by have:=(hsz f hf).1;omega))).mono fun e w' ⟨v',he,ho',hb'⟩=>⟨v',he,(flsAt_of_own ho').1,hb'⟩
 have HRW:Hid (∀W v,Below X.heap.size X W→FlsAt W v (s.2.2.2.2.2.2.filter fun f=> !dropB ps f)→Calls Tryz.prog 14 #[.pointer (some pt),snV (snF s (s.2.2.2.2.2.2.filter fun f=> !dropB ps f)) v,.int .i64 (-1073741824),.int .i64 1073741824] W fun e w'=> ∃v',e= .returned (.tuple #[v',.nilIface])∧RowsAt w' v' (rowsS st.obs (snF s (s.2.2.2.2.2.2.filter fun f=> !dropB ps f)) minI maxI).1∧Below W.heap.size W w'):=fun W v hb hf=>by
   have hI':=hI.quiet K hb
   have h1:=KS.rows W _ FP st (snF s (s.2.2.2.2.2.2.filter fun f=> !dropB ps f)) v (-1073741824) 1073741824 hI'.ok.env hI'.ok.at_ hk hf (Nat.le_trans (List.length_filter_le _ _) hl) (fun g hg=>hsz g (List.mem_filter.1 hg).1)
   rw[rows_wide (by omega) (by omega) (show minI≤ -1073741824 by unfold minI;omega) (show (1073741824:Int)≤maxI by unfold maxI;omega)]at h1
   exact h1.mono fun e w' ⟨v',ev,he,hr',ht,hb'⟩=>⟨v',by rw[he,ht.ok hr],hr',hb'⟩
 obtain⟨qf,cf,hvf⟩:=hx.form
 obtain⟨qp,cp,hvp⟩:=hp.form
 obtain⟨L,hL⟩:∃L,s.2.2.2.2.2.2.length=L:=⟨_,rfl⟩
 obtain⟨PL,hPL⟩:∃k,ps.length=k:=⟨_,rfl⟩
 have HPL:Hid (ps.length=PL):=hPL
 rw[hL]at hvf
 rw[hPL]at hvp
 have hPL1:PL≤1000:=by omega
 subst hvf hvp
 generalize (rowsS st.obs (snF s (s.2.2.2.2.2.2.filter fun f=> !dropB ps f)) minI maxI).1=RR at HRW ⊢
 generalize (s.2.2.2.2.2.2.filter fun f=> !dropB ps f)=FF at HRW HDL
 have hS:SnAt (X.alloc (.cells #[.int .i64 s.1,.int .i64 s.2.1,.int .i64 s.2.2.1,.int .i64 s.2.2.2.1,.int .i64 s.2.2.2.2.1,.string s.2.2.2.2.2.1,.slice qf L cf] 25)) X.heap.size s (.slice qf L cf):=SnAt.new X s _
 have hA0:Below X.heap.size X (X.alloc (.cells #[.int .i64 s.1,.int .i64 s.2.1,.int .i64 s.2.2.1,.int .i64 s.2.2.2.1,.int .i64 s.2.2.2.2.1,.string s.2.2.2.2.2.1,.slice qf L cf] 25)):=(Below.refl _ _).alloc (Nat.le_refl _) _
 clear hI hx hp hE hd hr hk K KS KL hwX hl hsz hpl hL hPL eg
 unfold snV at HCK HRW ⊢
 unfold snF at HRW
 obtain⟨sid,spar,sseq,sday,sidx,sop,sfs⟩:=s
 dsimp only at *
 go_enter Tryz.func16,Tryz.ntmps16
 have hA1:Below (X.alloc (.cells #[.int .i64 sid,.int .i64 spar,.int .i64 sseq,.int .i64 sday,.int .i64 sidx,.string sop,.slice qf L cf] 25)).heap.size (X.alloc (.cells #[.int .i64 sid,.int .i64 spar,.int .i64 sseq,.int .i64 sday,.int .i64 sidx,.string sop,.slice qf L cf] 25)) ((X.alloc (.cells #[.int .i64 sid,.int .i64 spar,.int .i64 sseq,.int .i64 sday,.int .i64 sidx,.string sop,.slice qf L cf] 25)).alloc (.cells #[.slice qp PL cp] 39)):=(Below.refl _ _).alloc (Nat.le_refl _) _
 have hS1:=hS.below hA1
 have hB1:=hA0.trans (hA1.mono hA0.size)
 have hP1:((X.alloc (.cells #[.int .i64 sid,.int .i64 spar,.int .i64 sseq,.int .i64 sday,.int .i64 sidx,.string sop,.slice qf L cf] 25)).alloc (.cells #[.slice qp PL cp] 39)).cell? ⟨X.heap.size+1,0,none⟩=some (.slice qp PL cp):=by
   have e:(X.alloc (.cells #[.int .i64 sid,.int .i64 spar,.int .i64 sseq,.int .i64 sday,.int .i64 sidx,.string sop,.slice qf L cf] 25)).heap.size=X.heap.size+1:=by simp
   have h:=cell_of_row ((X.alloc (.cells #[.int .i64 sid,.int .i64 spar,.int .i64 sseq,.int .i64 sday,.int .i64 sidx,.string sop,.slice qf L cf] 25)).alloc (.cells #[.slice qp PL cp] 39)) (X.alloc (.cells #[.int .i64 sid,.int .i64 spar,.int .i64 sseq,.int .i64 sday,.int .i64 sidx,.string sop,.slice qf L cf] 25)).heap.size 0 _ _ _ (heap_alloc_new _ _)
   rw[e]at h
   rw[h]
   rfl
 clear hS hA0 hA1
 go_upto_region 1 with fail
 generalize ((X.alloc (.cells #[.int .i64 sid,.int .i64 spar,.int .i64 sseq,.int .i64 sday,.int .i64 sidx,.string sop,.slice qf L cf] 25)).alloc (.cells #[.slice qp PL cp] 39))=W1 at *
 obtain⟨nb,hnb⟩:∃k,X.heap.size=k:=⟨_,rfl⟩
 obtain⟨pb,hpb⟩:∃k,X.heap.size+1=k:=⟨_,rfl⟩
 have HNB:Hid (X.heap.size=nb):=hnb
 rw[hpb]at hP1 ⊢
 rw[hnb]at hS1 ⊢
 clear hnb hpb
 obtain⟨z0,z1,z2,z3,z4,z5,z6⟩:=hS1.cells
 dsimp only at z0 z1 z2 z3 z4 z5 z6
 have hck:=HCK.out W1 hB1
 go_wp2_with fail
 refine hck.mono ?_
 rintro e w2 ⟨rfl,hb2⟩
 have hS2:=hS1.below hb2
 have hP2:=below_keep hb2 hP1
 have hB2:=hB1.trans (hb2.mono hB1.size)
 clear hck hS1 hP1 hB1 hb2 z0 z1 z2 z3 z4 z5 z6
 go_wp2_with fail
 go_loopw [9,10,23] (fun _ _ k wr=> ∃n:Nat,n≤PL∧k= .int .i64 n∧Below w2.heap.size w2 wr) (fun _ _ k _=>PL-(intOf k).toNat)
 case atStart=>exact ⟨0,by omega,rfl,Below.refl _ _⟩
 case round =>
 obtain⟨n,hn,rfl,hb⟩:=hrel
 have hBr:=hB2.trans (hb.mono hB2.size)
 by_cases hlt:n<PL
 case pos =>
   have hltx:n<ps.length:=by rw[HPL.out];exact hlt
   obtain⟨b,hq,hc⟩:=(HP.out wr hBr).cells (fun e=>by rw[e]at hltx;simp at hltx)
   subst hq
   have c0:=hc n hltx
   have hhd:=HHD.out wr hBr ps[n] (List.getElem_mem _)
   have z6:=(hS2.below hb).cells.2.2.2.2.2.2
   try dsimp only at z6
   generalize ps[n]=p at c0 hhd
   have g1:(n:Int)<(PL:Int):=by omega
   have g2:(0:Int)≤(n:Int):=by omega
   clear hc hltx
   go_wp2_with fail
   refine hhd.mono ?_
   rintro e w3 ⟨rfl,hb3⟩
   have HB3:Hid (Below w2.heap.size w2 w3):=hb.trans (hb3.mono hb.size)
   clear hhd hb3 c0 z6
   go_wp2
   go_roundw
   case rel=>exact ⟨n+1,by omega,by go_num,HB3.out⟩
   case measure=>simp [intOf];omega
 case neg =>
 have g1:¬(n:Int)<(PL:Int):=by omega
 have hS3:=hS2.below hb
 have hP3:=below_keep hb hP2
 have z6:=hS3.cells.2.2.2.2.2.2
 try dsimp only at z6
 have hcl:=HCL.out wr hBr
 clear hS2 hP2 hb hB2
 go_wp2_with fail
 refine hcl.mono ?_
 rintro e w4 ⟨v4,rfl,ho4,hb4⟩
 have hdl:=HDL.out wr w4 v4 pb hBr hP3 hb4 ho4
 clear hcl ho4 z6
 go_wp2_with fail
 refine hdl.mono ?_
 rintro e w5 ⟨v5,rfl,hf5,hb5⟩
 have hS5:=hS3.below hb5
 have hB5:=hBr.trans (hb5.mono hBr.size)
 obtain⟨q5,c5,hv5⟩:=hf5.form
 obtain⟨FL,hFL⟩:∃k,FF.length=k:=⟨_,rfl⟩
 rw[hFL]at hv5
 subst hv5
 have hS6:SnAt (w5.setCell ⟨nb,6,none⟩ (.slice q5 FL c5)) nb (sid,spar,sseq,sday,sidx,sop,FF) (.slice q5 FL c5):=SnAt.set6 hS5
 have hf6:FlsAt (w5.setCell ⟨nb,6,none⟩ (.slice q5 FL c5)) (.slice q5 FL c5) FF:=hf5.set_off (off_of hS5 hf5) 6 _
 have hB6:Below X.heap.size X (w5.setCell ⟨nb,6,none⟩ (.slice q5 FL c5)):=hB5.setCell (p:=⟨nb,6,none⟩) (by rw[HNB.out];exact Nat.le_refl _) _
 have y6:=hS5.cells.2.2.2.2.2.2
 have yf:w5.frozen? ⟨nb,6,none⟩=false:=frozen_of_row _ _ _ _ _ hS5
 try dsimp only at y6
 clear hdl hf5 hb4 hb5 hS3 hP3 hS5 hB5 hBr hFL
 go_upto_region 13 with fail
 clear y6 yf
 generalize w5.setCell ⟨nb,6,none⟩ (.slice q5 FL c5)=w6 at *
 have hrw:=HRW.out w6 _ hB6 hf6
 obtain⟨z0,z1,z2,z3,z4,z5,z6⟩:=hS6.cells
 dsimp only at z0 z1 z2 z3 z4 z5 z6
 go_wp2_with fail
 refine hrw.mono ?_
 rintro e w7 ⟨v7,rfl,hr7,hb7⟩
 have HR7:Hid (RowsAt w7 v7 RR∧Below X.heap.size X w7):=⟨hr7,hB6.trans (hb7.mono hB6.size)⟩
 clear hrw hr7 hb7 hS6 hf6 hB6 z0 z1 z2 z3 z4 z5 z6
 go_wp2
 refine bodyPost_ret (v:=.tuple #[v7,.nilIface]) (by simp[results,Tryz.results16,go_sem]) rfl ?_
 exact⟨v7,rfl,HR7.out⟩
end
structure GrpOf (g:Gp) (F:List Fl):Prop where
 paths:g.2.2=F.map (·.1)
 sum:g.2.1=(F.map (·.2.2.1)).sum
 part:∀f∈F,f.2.1=g.1
 room:g.2.1≤40
abbrev Gz:=Gp×List Fl
def putZ (f:Fl):List Gz→List Gz
 | []=> [(takeG f (f.2.1,0, []), [f])]
 | z :: r=>if fitG f z.1=true then (takeG f z.1,z.2++ [f]) :: r else z :: putZ f r
theorem putZ_fst (f:Fl):∀zs:List Gz,(putZ f zs).map (·.1)=putG f (zs.map (·.1))
 | []=>rfl
 | z :: r=>by
   unfold putZ
   rw[List.map_cons]
   conv=>rhs;unfold putG
   split
   · rw[List.map_cons]
   · rw[List.map_cons,putZ_fst f r]
theorem putZ_of (f:Fl) (hf:f.2.2.1≤40):∀zs:List Gz,(∀z∈zs,GrpOf z.1 z.2)→∀z∈putZ f zs,GrpOf z.1 z.2
 | [],_,z,hz=>by
   rw[putZ,List.mem_singleton]at hz
   subst hz
   exact⟨rfl,by simp[takeG],by simp[takeG],by simpa [takeG] using hf⟩
 | y :: r,h,z,hz=>by
   unfold putZ at hz
   by_cases e:fitG f y.1=true
   · rw [if_pos e]at hz
     rcases List.mem_cons.1 hz with rfl | hz
     · have hy:=h y List.mem_cons_self
       unfold fitG at e
       rw[Bool.and_eq_true,decide_eq_true_eq,decide_eq_true_eq]at e
       refine⟨?_,?_,fun g hg=>?_,e.2⟩
       · simp only[takeG,List.map_append,List.map_cons,List.map_nil,hy.paths]
       · simp only[takeG,List.map_append,List.map_cons,List.map_nil,List.sum_append,List.sum_cons,List.sum_nil,hy.sum]
         omega
       · rw[List.mem_append,List.mem_singleton]at hg
         rcases hg with hg | rfl
         · exact hy.part g hg
         · exact e.1.symm
     · exact h z (List.mem_cons_of_mem _ hz)
   · rw[if_neg e]at hz
     rcases List.mem_cons.1 hz with rfl | hz
     · exact h z List.mem_cons_self
     · exact putZ_of f hf r (fun x hx=>h x (List.mem_cons_of_mem _ hx)) z hz
theorem putZ_all (f:Fl):∀zs:List Gz,((putZ f zs).flatMap (·.2)).Perm (zs.flatMap (·.2)++ [f])
 | []=>by simp[putZ]
 | z :: r=>by
   unfold putZ
   split
   · rw[List.flatMap_cons,List.flatMap_cons]
     show ((z.2++ [f])++r.flatMap (·.2)).Perm ((z.2++r.flatMap (·.2))++ [f])
     rw[List.append_assoc,List.append_assoc]
     exact List.perm_append_comm.append_left z.2
   · rw[List.flatMap_cons,List.flatMap_cons,List.append_assoc]
     exact(putZ_all f r).append_left z.2
theorem zs_all {fs:List Fl} {least:Int} (hfs:∀f∈fs,f.2.2.1≤40):∀n,n≤fs.length→∃zs:List Gz,zs.map (·.1)=plN fs least n∧(∀z∈zs,GrpOf z.1 z.2)∧(zs.flatMap (·.2)).Perm ((fs.take n).filter (fewB least))
 | 0,_=>⟨[],by simp[plN],by simp,by simp⟩
 | n + 1,h=>by
   obtain⟨zs,h1,h2,h3⟩:=zs_all (least:=least) hfs n (by omega)
   have hn:n<fs.length:=by omega
   cases e:fewB least fs[n] with
   | true =>
     refine⟨putZ fs[n] zs,?_,putZ_of _ (hfs _ (List.getElem_mem _)) zs h2,?_⟩
     · rw[putZ_fst,h1,plN_yes hn e]
     · refine(putZ_all fs[n] zs).trans ?_
       rw[List.take_succ_eq_append_getElem hn,List.filter_append]
       have e2: [fs[n]].filter (fewB least)= [fs[n]]:=by simp[e]
       rw[e2]
       exact h3.append_right _
   | false =>
     refine⟨zs,by rw[h1,plN_no hn e],h2,?_⟩
     rw[List.take_succ_eq_append_getElem hn,List.filter_append]
     have e2: [fs[n]].filter (fewB least)= []:=by simp[e]
     rw[e2,List.append_nil]
     exact h3
theorem perm_lift {α β:Type} {f:α→β} {l1 l2:List β} (h:l1.Perm l2):∀zs:List α,zs.map f=l2→∃ys:List α,ys.Perm zs∧ys.map f=l1:=by
 induction h with
 | nil=>exact fun zs e=>⟨zs,List.Perm.refl _,e⟩
 | cons x h ih =>
   intro zs e
   cases zs with
   | nil=>simp at e
   | cons z r =>
     rw[List.map_cons]at e
     injection e with e1 e2
     obtain⟨ys,h1,h2⟩:=ih r e2
     exact⟨z :: ys,h1.cons z,by rw[List.map_cons,h2,e1]⟩
 | swap x y l =>
   intro zs e
   match zs,e with
   | z1 :: z2 :: r,e =>
     simp only[List.map_cons]at e
     injection e with e1 e2
     injection e2 with e2 e3
     exact⟨z2 :: z1 :: r,List.Perm.swap _ _ _,by simp only[List.map_cons];rw[e1,e2,e3]⟩
   | [_],e=>simp at e
   | [],e=>simp at e
 | trans h1 h2 ih1 ih2 =>
   intro zs e
   obtain⟨ys,g1,g2⟩:=ih2 zs e
   obtain⟨xs,g3,g4⟩:=ih1 ys g2
   exact⟨xs,g3.trans g1,g4⟩
structure PlanK (fs:List Fl) (least:Int) (ws:List Gz):Prop where
 grp:∀z∈ws,GrpOf z.1 z.2∧1<z.2.length
 mem:∀f∈ws.flatMap (·.2),f∈fs∧fewB least f=true
 nd:((ws.flatMap (·.2)).map (·.1)).Pairwise fun p q=>p≠q
 len:(ws.flatMap (·.2)).length≤fs.length
theorem plan_kept {fs:List Fl} {least:Int} {gs:List Gp} (hr:Rises 0 fs) (hg:gs.Perm (plN fs least fs.length)):∃ws:List Gz,PlanK fs least ws∧sevG gs=ws.map fun z=>z.2.map (·.1):=by
 obtain⟨zs,h1,h2,h3⟩:=zs_all (least:=least) (fun f hf=>(file_rows (hr.1 f hf).1).2) fs.length (Nat.le_refl _)
 rw[List.take_length]at h3
 obtain⟨ys,g1,g2⟩:=perm_lift (f:=fun z:Gz=>z.1) hg zs h1
 have hof:∀z∈ys,GrpOf z.1 z.2:=fun z hz=>h2 z (g1.subset hz)
 have hsub:((ys.filter fun z=>decide (1<z.2.length)).flatMap (·.2)).Sublist (ys.flatMap (·.2)):=by
   generalize ys=l
   induction l with
   | nil=>exact List.Sublist.refl _
   | cons z r ih =>
     rw[List.filter_cons]
     split
     · rw[List.flatMap_cons,List.flatMap_cons]
       exact List.Sublist.append (List.Sublist.refl _) ih
     · rw[List.flatMap_cons]
       exact ih.trans (List.sublist_append_right _ _)
 have hperm:(ys.flatMap (·.2)).Perm (fs.filter (fewB least)):=(g1.flatMap_right (f:=fun z:Gz=>z.2)).trans h3
 refine⟨ys.filter fun z=>decide (1<z.2.length),⟨fun z hz=>⟨hof z (List.mem_filter.1 hz).1,of_decide_eq_true (List.mem_filter.1 hz).2⟩,fun f hf=>?_,?_,Nat.le_trans hsub.length_le (by rw[hperm.length_eq];exact List.length_filter_le _ _)⟩,?_⟩
 · have:=hperm.subset (hsub.subset hf)
   exact List.mem_filter.1 this
 · have hnd:((fs.filter (fewB least)).map (·.1)).Pairwise fun p q=>p≠q:=by
     rw[List.pairwise_map]
     refine(hr.2.sublist List.filter_sublist).imp ?_
     intro f g h e
     have ek:fk f=fk g:=by unfold fk;rw[e]
     omega
   have hnd2:((ys.flatMap (·.2)).map (·.1)).Pairwise fun p q=>p≠q:=((hperm.map (·.1)).pairwise_iff (fun {x y} h e=>h e.symm)).2 hnd
   exact hnd2.sublist (hsub.map _)
 · unfold sevG
   rw[←g2,List.filter_map,List.map_map]
   have e:(ys.filter ((fun g:Gp=>decide (1<g.2.2.length)) ∘ fun z:Gz=>z.1))=ys.filter fun z=>decide (1<z.2.length):=by
     apply List.filter_congr
     intro z hz
     show decide (1<z.1.2.2.length)=_
     rw[(hof z hz).paths,List.length_map]
   rw[e]
   apply List.map_congr_left
   intro z hz
   exact(hof z (List.mem_filter.1 hz).1).paths
def rowsF (obs:List Ob) (fs:List Fl) (x:Fl):List Rw:=((dataC obs x).filter fun p=>inB minI maxI p.1 && !deadB (fs.flatMap (goneC obs)) p).map (·.1)
theorem rowsF_gone {obs:List Ob} {fs:List Fl} {x:Fl} (h:x.2.1.data.toList= [45]):rowsF obs fs x= []:=by
 unfold rowsF dataC
 rw[if_neg (by simpa using h)]
 rfl
theorem goneC_data {obs:List Ob} {x:Fl} (h:x.2.1.data.toList≠ [45]):goneC obs x= []:=by
 unfold goneC
 rw[if_pos h]
theorem flat_filter {α β:Type} {p:α→Bool} {f:α→List β} :∀ {l:List α},(∀x∈l,p x=false→f x= [])→(l.filter p).flatMap f=l.flatMap f
 | [],_=>rfl
 | x :: r,h=>by
   have ih:=flat_filter (p:=p) (f:=f) (l:=r) (fun y hy=>h y (List.mem_cons_of_mem _ hy))
   cases e:p x with
   | true=>rw [List.filter_cons_of_pos e,List.flatMap_cons,List.flatMap_cons,ih]
   | false=>rw [List.filter_cons_of_neg (by rw[e];simp),List.flatMap_cons,h x List.mem_cons_self e,List.nil_append,ih]
theorem flat_rows {obs:List Ob} {G:List (Int×Int)} :∀l:List Fl,((l.flatMap (dataC obs)).filter fun p=>inB minI maxI p.1 && !deadB G p).map (·.1)=l.flatMap fun x=>((dataC obs x).filter fun p=>inB minI maxI p.1 && !deadB G p).map (·.1)
 | []=>rfl
 | x :: r=>by rw[List.flatMap_cons,List.filter_append,List.map_append,flat_rows r,List.flatMap_cons]
theorem rows_sum {obs:List Ob} {s:Sn} (he:(snapE s).1=0) (h:∀x∈s.2.2.2.2.2.2,(fileR obs x).1=0):rowsS obs s minI maxI=(sortR (s.2.2.2.2.2.2.flatMap (rowsF obs s.2.2.2.2.2.2)),0,none):=by
 have hr:=(snap_list he).2
 have hw:=wide_all fun x hx=>(hr.1 x hx).1
 rw[rows_left he (by rw[hw];exact h),hw,readC_flat]
 unfold leftC
 dsimp only
 rw[List.nil_append,List.nil_append,flat_rows]
 rfl
theorem rows_some {obs:List Ob} {s:Sn} (h:(rowsS obs s minI maxI).2.1=0) (ps:List ByteArray):rowsS obs (snF s (s.2.2.2.2.2.2.filter fun f=> !dropB ps f)) minI maxI=(sortR ((s.2.2.2.2.2.2.filter fun f=> !goneP f.1 && inT ps f.1).flatMap (rowsF obs s.2.2.2.2.2.2)),0,none):=by
 obtain⟨he,hok⟩:=rows_ok h
 have hr:=(snap_list he).2
 have hfe:∀f∈s.2.2.2.2.2.2,fileE f=0:=fun f hf=>(hr.1 f hf).1
 rw[wide_all hfe]at hok
 have hs:=snap_sub he fun f=> !dropB ps f
 rw[rows_sum hs (fun x hx=>hok x (List.mem_filter.1 hx).1)]
 have e0:(snF s (s.2.2.2.2.2.2.filter fun f=> !dropB ps f)).2.2.2.2.2.2=s.2.2.2.2.2.2.filter fun f=> !dropB ps f:=rfl
 rw[e0]
 have hG:(s.2.2.2.2.2.2.filter fun f=> !dropB ps f).flatMap (goneC obs)=s.2.2.2.2.2.2.flatMap (goneC obs):=flat_filter fun x hx e=>by
   refine goneC_data fun e2=>?_
   have hg:=gone_part (hfe x hx)
   rw[decide_eq_true e2]at hg
   unfold dropB at e
   rw[hg]at e
   simp at e
 have hF:rowsF obs (s.2.2.2.2.2.2.filter fun f=> !dropB ps f)=rowsF obs s.2.2.2.2.2.2:=by
   funext x
   unfold rowsF
   rw[hG]
 rw[hF]
 have e1:(s.2.2.2.2.2.2.filter fun f=> !goneP f.1 && inT ps f.1)=(s.2.2.2.2.2.2.filter fun f=> !dropB ps f).filter fun f=> !goneP f.1:=by
   rw[List.filter_filter]
   apply List.filter_congr
   intro x _
   unfold dropB
   cases goneP x.1<;>cases inT ps x.1<;>rfl
 rw[e1,flat_filter (p:=fun f=> !goneP f.1) (l:=s.2.2.2.2.2.2.filter fun f=> !dropB ps f) fun x hx e=>rowsF_gone (by
   have hg:=gone_part (hfe x (List.mem_filter.1 hx).1)
   rw[Bool.not_eq_false']at e
   rw[e]at hg
   exact of_decide_eq_true hg.symm)]
theorem nodup_perm:∀ {l m:List Fl},l.Nodup→m.Nodup→(∀x,x∈l↔x∈m)→l.Perm m:=fun hl hm h=>(List.perm_ext_iff_of_nodup hl hm).2 h
theorem rises_nodup {fs:List Fl} (hr:Rises 0 fs):fs.Nodup:=hr.2.imp fun h e=>by rw[e]at h;omega
theorem files_of {fs F:List Fl} (hr:Rises 0 fs) (hF:∀f∈F,f∈fs∧goneP f.1=false) (hn:(F.map (·.1)).Pairwise fun p q=>p≠q):(fs.filter fun f=> !goneP f.1 && inT (F.map (·.1)) f.1).Perm F:=by
 refine nodup_perm ((rises_nodup hr).filter _) ?_ fun x=>?_
 · rw[List.pairwise_map]at hn
   exact hn.imp fun h e=>h (by rw[e])
 · rw[List.mem_filter]
   constructor
   · rintro⟨h1,h2⟩
     rw[Bool.and_eq_true]at h2
     unfold inT at h2
     obtain⟨p,hp,e⟩:=List.any_eq_true.1 h2.2
     obtain⟨f,hf,rfl⟩:=List.mem_map.1 hp
     have e1:f.1=x.1:=of_decide_eq_true e
     rw[←rises_one hr (hF f hf).1 h1 e1]
     exact hf
   · intro hx
     refine⟨(hF x hx).1,?_⟩
     rw[(hF x hx).2]
     show inT _ _=true
     unfold inT
     exact List.any_eq_true.2 ⟨x.1,List.mem_map.2 ⟨x,hx,rfl⟩,decide_eq_true rfl⟩
theorem parts_all {fs S:List Fl} (hr:Rises 0 fs) (hS:∀f∈S,f∈fs∧goneP f.1=false) (hn:(S.map (·.1)).Pairwise fun p q=>p≠q):((fs.filter fun f=> !goneP f.1 && !inT (S.map (·.1)) f.1)++S).Perm (fs.filter fun f=> !goneP f.1):=by
 have h1:=files_of hr hS hn
 have h2:=List.filter_append_perm (fun f:Fl=>inT (S.map (·.1)) f.1) (fs.filter fun f=> !goneP f.1)
 rw[List.filter_filter,List.filter_filter]at h2
 have e1:(fs.filter fun a=>inT (S.map (·.1)) a.1 && !goneP a.1)=fs.filter fun f=> !goneP f.1 && inT (S.map (·.1)) f.1:=List.filter_congr fun x _=>Bool.and_comm _ _
 have e2:(fs.filter fun a=> !inT (S.map (·.1)) a.1 && !goneP a.1)=fs.filter fun f=> !goneP f.1 && !inT (S.map (·.1)) f.1:=List.filter_congr fun x _=>Bool.and_comm _ _
 rw[e1,e2]at h2
 exact(List.perm_append_comm.trans (h1.symm.append_right _)).trans h2
theorem rows_total {obs:List Ob} {s:Sn} (h:(rowsS obs s minI maxI).2.1=0) {S:List Fl} (hS:∀f∈S,f∈s.2.2.2.2.2.2∧goneP f.1=false) (hn:(S.map (·.1)).Pairwise fun p q=>p≠q) {R:List Rw} (hR:R.Perm (((s.2.2.2.2.2.2.filter fun f=> !goneP f.1 && !inT (S.map (·.1)) f.1)++S).flatMap (rowsF obs s.2.2.2.2.2.2))):sortR R=sortR (rowsS obs s minI maxI).1∧R.length=(rowsS obs s minI maxI).1.length:=by
 obtain⟨he,hok⟩:=rows_ok h
 have hr:=(snap_list he).2
 have hfe:∀f∈s.2.2.2.2.2.2,fileE f=0:=fun f hf=>(hr.1 f hf).1
 rw[wide_all hfe]at hok
 have e1:=rows_sum he hok
 have h1:R.Perm (s.2.2.2.2.2.2.flatMap (rowsF obs s.2.2.2.2.2.2)):=by
   refine hR.trans ?_
   refine((parts_all hr hS hn).flatMap_right (f:=rowsF obs s.2.2.2.2.2.2)).trans ?_
   rw[flat_filter (p:=fun f:Fl=> !goneP f.1) (f:=rowsF obs s.2.2.2.2.2.2) (l:=s.2.2.2.2.2.2) fun x hx e=>rowsF_gone (by
     have hg:=gone_part (hfe x hx)
     rw[Bool.not_eq_false']at e
     rw[e]at hg
     exact of_decide_eq_true hg.symm)]
 rw[e1]
 dsimp only
 exact⟨(sortR_of_perm h1).trans (sortR_of_perm (sortR_perm _)).symm,by rw[h1.length_eq,(sortR_perm _).length_eq]⟩
theorem inTs_any (s:ByteArray) (v:Value) (ts:List ByteArray) (w:World) (h:TsAt w v ts) (hl:ts.length≤20000) :
   Calls Tryz.prog 13 #[.string s,v] w fun e w'=>e= .returned (.bool (inT ts s))∧w'=w:=by
 rcases h with⟨rfl,rfl⟩|⟨b,cap,rfl,_,hc⟩
 · go_enter Tryz.func13,Tryz.ntmps13
   go_wp2
   go_loop [5] (fun k=>k= .int .i64 0) (fun _=>0)
   case atStart=>rfl
   case round =>
     obtain rfl:=hrel
     go_wp2
     go_ret
     exact⟨rfl,rfl⟩
 · exact inTexts_any s b cap ts w hc hl
set_option maxRecDepth 100000 in
set_option maxHeartbeats 4000000 in
theorem plan_bad (v:Value) (fs:List Fl) (least:Int) (w:World) (a:Nat→Addr) (h:EnvL w a) (hx:FlsAt w v fs) (hl:fs.length≤100) (hsz:Short fs) (hbad:(listE fs).1≠0∨least<0∨41<least) :
   Calls Tryz.prog 10 #[v,.int .i64 least] w fun e w'=> ∃t u,e= .returned (.tuple #[.slice none 0 0,.iface t u])∧Below w.heap.size w w':=by
 have hck:=lcheck_any v fs w a h hx hl hsz
 have HEN:Hid (∀W,Below w.heap.size w W→EnvN W a):=fun W hb=>h.file.env.below hb
 obtain⟨q,cap,rfl⟩:=hx.form
 generalize fs.length=L at *
 clear hx hl hsz h
 go_enter Tryz.func10,Tryz.ntmps10
 go_wp2_with fail
 refine hck.mono ?_
 rintro e w1 ⟨ev,rfl,ht,hb1⟩
 clear hck
 by_cases hE:(listE fs).1=0
 case neg =>
   obtain⟨tt,uu,rfl⟩:=ht.bad hE
   clear ht hE hbad
   go_wp2
   refine bodyPost_ret (v:=.tuple #[.slice none 0 0,.iface tt uu]) (by simp[results,Tryz.results10,go_sem]) rfl ?_
   exact⟨_,_,rfl,hb1⟩
 case pos =>
 obtain rfl:=ht.ok hE
 have hb:least<0∨41<least:=by
   rcases hbad with h | h
   · exact absurd hE h
   · exact h
 clear ht hE hbad
 have e1:=(HEN.out w1 hb1).bound
 have e2:=below_keep (Below.drew (Below.refl w1.heap.size w1)) e1
 rcases hb with hb | hb
 · have g1:least<0:=hb
   go_upto_region 5 with fail
   go_region
   all_goals go_wp2
   all_goals refine bodyPost_ret (v:=.tuple #[.slice none 0 0,.iface 325 (.pointer (some (a 1)))]) (by simp[results,Tryz.results10,go_sem]) rfl ?_
   all_goals exact⟨_,_,rfl,hb1.drew⟩
 · have g1:¬least<0:=by omega
   have g2:41<least:=hb
   go_upto_region 5 with fail
   go_region
   all_goals go_wp2
   all_goals refine bodyPost_ret (v:=.tuple #[.slice none 0 0,.iface 325 (.pointer (some (a 1)))]) (by simp[results,Tryz.results10,go_sem]) rfl ?_
   all_goals exact⟨_,_,rfl,hb1.drew⟩
end Go.Proofs.YtgckdomafbnmkaaGreatDoor
