/- By an AI agent. -/
import Derived.Test.YtdhkdjlgmbejnaaGreatDoorStoMem
namespace Go.Proofs.YtdhkdjlgmbejnaaGreatDoor
open Go.RowKit Go.Extern.Stop Go.Stop Go.Extern Go.Sort Go.Shelf Go.Lib
set_option maxRecDepth 100000 in
set_option maxHeartbeats 16000000 in
theorem rowsOf_any (b:Nat) (st:St) (s:Sn) (vf:Value) (lo hi:Int) (w:World) (hm:MAt w b st) (KS:Keeps st) (hx:FlsAt w vf s.2.2.2.2.2.2) (hl:s.2.2.2.2.2.2.length≤100) (hsz:∀f∈s.2.2.2.2.2.2,f.1.size≤100000∧f.2.1.size≤100000) :
   Calls Tryz.prog 17 #[.pointer (some ⟨b,0,none⟩),snV s vf,.int .i64 lo,.int .i64 hi] w (RowsP w (rowsS st.obs s lo hi)):=by
 obtain⟨i0,hi0,hz0,hs0,hby0⟩:=Tryz.rowInfo
 obtain⟨j0,hj0,hy0,ht0,hcy0⟩:=Tryz.numInfo
 obtain⟨q,cap,rfl⟩:=hx.form
 have HMA:Hid (∀W,Below w.heap.size w W→MAt W b st):=fun W hb=>hm.below hb
 have HFX:Hid (∀W,Below w.heap.size w W→FlsAt W (.slice q s.2.2.2.2.2.2.length cap) s.2.2.2.2.2.2):=fun W hb=>hx.below hb
 have HSZ:Hid (∀f∈s.2.2.2.2.2.2,f.1.size≤100000∧f.2.1.size≤100000):=hsz
 have HKS:Hid (Keeps st):=KS
 have HSF:Hid (∀W,Below w.heap.size w W→Calls Tryz.prog 49 #[snV s (.slice q s.2.2.2.2.2.2.length cap)] W fun e w'=>e= .returned (.agg #[.int .i64 (snapE s).1,.int .i64 (atZ (snapE s).2)])∧Below W.heap.size W w'):=fun W hb=>snapFault_any s _ W (HFX.out W hb) (by omega) hsz
 have HRS:Hid (rowsS st.obs s lo hi=if (snapE s).1≠0 then ([],snapE s) else if (scanG st.obs lo hi s.2.2.2.2.2.2 0 []).2.1≠0 then ([],(scanG st.obs lo hi s.2.2.2.2.2.2 0 []).2) else (sortR ((scanG st.obs lo hi s.2.2.2.2.2.2 0 []).1.map (·.1)),0,none)):=rfl
 generalize rowsS st.obs s lo hi=R at HRS ⊢
 have hsn:SnAt ((w.alloc (.cells #[.int .i64 s.1,.int .i64 s.2.1,.int .i64 s.2.2.1,.int .i64 s.2.2.2.1,.int .i64 s.2.2.2.2.1,.string s.2.2.2.2.2.1,.slice q s.2.2.2.2.2.2.length cap] 25)).alloc (.cells #[.int .i64 0,.int .i64 0] 46)) w.heap.size s (.slice q s.2.2.2.2.2.2.length cap):=heap_alloc2_old w _ _
 have hfc:FC ((w.alloc (.cells #[.int .i64 s.1,.int .i64 s.2.1,.int .i64 s.2.2.1,.int .i64 s.2.2.2.1,.int .i64 s.2.2.2.2.1,.string s.2.2.2.2.2.1,.slice q s.2.2.2.2.2.2.length cap] 25)).alloc (.cells #[.int .i64 0,.int .i64 0] 46)) (w.heap.size+1) 0 0:=heap_alloc2_new w _ _
 have hal:Below w.heap.size w ((w.alloc (.cells #[.int .i64 s.1,.int .i64 s.2.1,.int .i64 s.2.2.1,.int .i64 s.2.2.2.1,.int .i64 s.2.2.2.2.1,.string s.2.2.2.2.2.1,.slice q s.2.2.2.2.2.2.length cap] 25)).alloc (.cells #[.int .i64 0,.int .i64 0] 46)):=((Below.refl _ _).alloc (Nat.le_refl _) _).alloc (by simp) _
 obtain⟨id,par,seq,day,idx,op,fs⟩:=s
 unfold snV at HSF ⊢
 dsimp only at *
 obtain⟨L,hL⟩:∃L,fs.length=L:=⟨_,rfl⟩
 have HLE:Hid (fs.length=L):=hL
 rw[hL]at hl HFX HSF hsn hfc hal ⊢
 clear hx hsz hm KS hL
 go_enter Tryz.func17,Tryz.ntmps17
 go_upto_region 1 with fail
 generalize (w.alloc (.cells #[.int .i64 id,.int .i64 par,.int .i64 seq,.int .i64 day,.int .i64 idx,.string op,.slice q L cap] 25)).alloc (.cells #[.int .i64 0,.int .i64 0] 46)=W1 at *
 obtain⟨sb,hsb⟩:∃k,w.heap.size=k:=⟨_,rfl⟩
 obtain⟨rb,hrb⟩:∃k,w.heap.size+1=k:=⟨_,rfl⟩
 have hrle:w.heap.size≤rb:=by omega
 rw[hsb]at hsn
 rw[hrb]at hfc
 rw[hrb,hsb]
 clear hsb hrb
 obtain⟨z0,z1,z2,z3,z4,z5,z6⟩:=hsn.cells
 dsimp only at z0 z1 z2 z3 z4 z5 z6
 have hsf:=HSF.out W1 hal
 go_wp2_with fail
 refine hsf.mono ?_
 rintro e w2 ⟨rfl,hb2⟩
 clear hsf z0 z1 z2 z3 z4 z5 z6 HSF
 have hB2:Below w.heap.size w w2:=hal.trans (hb2.mono hal.size)
 have hsn2:=hsn.below hb2
 have hfc2:=hfc.below hb2
 clear hsn hfc hal hb2
 obtain⟨CE,hCE⟩:∃C,snapE (id,par,seq,day,idx,op,fs)=C:=⟨_,rfl⟩
 rw[hCE]at HRS ⊢
 obtain⟨EC,EA⟩:=CE
 dsimp only at HRS ⊢
 have hal3:Below w2.heap.size w2 (w2.alloc (.cells #[.int .i64 EC,.int .i64 (atZ EA)] 46)):=(Below.refl _ _).alloc (Nat.le_refl _) _
 have hg3:FC (w2.alloc (.cells #[.int .i64 EC,.int .i64 (atZ EA)] 46)) w2.heap.size EC (atZ EA):=heap_alloc_new _ _
 have hB3:Below w.heap.size w (w2.alloc (.cells #[.int .i64 EC,.int .i64 (atZ EA)] 46)):=hB2.trans (hal3.mono hB2.size)
 have hsn3:=hsn2.below hal3
 have hfc3:=hfc2.below hal3
 clear hsn2 hfc2 hal3 hB2 hCE
 go_upto_region 2 with fail
 generalize w2.alloc (.cells #[.int .i64 EC,.int .i64 (atZ EA)] 46)=w3 at *
 generalize w2.heap.size=fb at *
 have k0:=hg3.c0
 have k1:=hg3.c1
 by_cases hE:EC=0
 case neg =>
   have hRR:R=([],EC,EA):=by rw[HRS.out,if_pos hE]
   subst hRR
   have hEp:(0:Int)<(EC:Int):=by omega
   have hdr:Below w3.heap.size w3 w3.drew:=(Below.refl _ _).drew
   have hBd:=hB3.drew
   have hfd:=hfc3.below hdr
   have hgd:=hg3.below hdr
   have j0:=hfc3.c0
   have j1:=hfc3.c1
   have jz:=hfc3.fz
   have m0:=hfd.c0
   have m1:=hfd.c1
   have mz:=hfd.fz
   have q0:=hgd.c0
   have q1:=hgd.c1
   clear hdr hfd hgd HMA HFX HSZ HKS HRS hsn3
   go_wp2_with fail
   go_region
   all_goals go_wp2
   all_goals refine bodyPost_ret (v:=.tuple #[.slice none 0 0,.agg #[.int .i64 (EC:Int),.int .i64 (atZ EA)]]) (by simp[results,Tryz.results17,go_sem,j0,j1]) rfl ?_
   all_goals refine⟨.slice none 0 0,rfl,Or.inl ⟨none,0,rfl,rfl⟩,?_⟩
   all_goals first
     | exact(hB3.setCell hrle _).setCell hrle _
     | exact(hBd.setCell hrle _).setCell hrle _
     | exact((hB3.setCell hrle _).setCell hrle _).drew
 case pos =>
 have HRG:Hid (R=if (scanG st.obs lo hi fs 0 []).2.1≠0 then ([],(scanG st.obs lo hi fs 0 []).2) else (sortR ((scanG st.obs lo hi fs 0 []).1.map (·.1)),0,none)):=by
   show _=_
   rw[HRS.out,if_neg (by simpa using hE)]
 have hEZ:((EC:Nat):Int)=0:=by omega
 rw[hEZ]at k0 ⊢
 clear hEZ
 subst hE
 have SI:Hid (ScanInv w rb sb (id,par,seq,day,idx,op,fs) (.slice q L cap) (.slice none 0 0) (.slice none 0 0) [] w3):=⟨hB3,hfc3,hsn3,World.ownsRow_nil _ _ _ _,World.ownsRow_nil _ _ _ _⟩
 clear HRS hg3 hfc3 hsn3 hB3 k1
 go_wp2
 go_loopw [11,12,13] (fun out seqs k wr=> ∃(n:Nat) (acc:List (Rw×Int)),n≤L∧k= .int .i64 n∧ScanInv w rb sb (id,par,seq,day,idx,op,fs) (.slice q L cap) out seqs acc wr∧ScanLeft st.obs lo hi fs n acc∧acc.length≤40*n) (fun _ _ k _=>L-(intOf k).toNat)
 case atStart=>exact ⟨0, [],by omega,rfl,SI.out,scanL_zero _ _ _ _,by simp⟩
 case round =>
   clear SI k0
   obtain⟨n,acc,hn,rfl,hSI,hSL,hac⟩:=hrel
   have SI:Hid (ScanInv w rb sb (id,par,seq,day,idx,op,fs) (.slice q L cap) u11 u12 acc wr):=hSI
   have SL:Hid (ScanLeft st.obs lo hi fs n acc):=hSL
   have z6:=hSI.snap.cells.2.2.2.2.2.2
   clear hSI hSL
   by_cases hlt:n<L
   case neg =>
     obtain rfl:n=L:=by omega
     have HSG:Hid (R=(sortR (acc.map (·.1)),0,none)):=by
       show _=_
       have h':=SL.out
       rw[←HLE.out]at h'
       rw[HRG.out,scanL_all h']
       simp
     have hso:=sortRows_at u11 (acc.map (·.1)) wr (rowsAt_of_own SI.out.rows).1 (by rw[List.length_map];omega)
     have hb0:=SI.out.frame
     have hf0:=SI.out.fault
     clear SL HRG HMA HFX HSZ HKS
     generalize sortR (acc.map (·.1))=SR at hso HSG
     go_wp2_with fail
     refine hso.mono ?_
     rintro e w5 ⟨v5,rfl,hr5,hb5⟩
     clear hso z6 SI
     have hB5:Below w.heap.size w w5:=hb0.trans (hb5.mono hb0.size)
     have hf5:=hf0.below hb5
     have hfi:=fine_of w5
     clear hb0 hf0 hb5
     go_wp2_with fail
     refine hfi.mono ?_
     rintro e w6 ⟨rfl,hb6⟩
     clear hfi
     have hB6:Below w.heap.size w w6:=hB5.trans (hb6.mono hB5.size)
     have hf6:=hf5.below hb6
     have hr6:=hr5.below hb6
     have HRF:Hid (RowsAt ((w6.setCell ⟨rb,0,none⟩ (.int .i64 0)).setCell ⟨rb,1,none⟩ (.int .i64 (-1))) v5 SR):=hf6.off_rows hr6 0 _ 1 _
     have jc0:=hf6.c0
     have jc1:=hf6.c1
     have jz:=hf6.fz
     have hfF:=hf6.set 0 (-1)
     have m0:=hfF.c0
     have m1:=hfF.c1
     clear hf5 hf6 hr5 hr6 hb6 hfF hB5
     go_wp2
     refine bodyPost_ret (v:=.tuple #[v5,.agg #[.int .i64 0,.int .i64 (-1)]]) (by simp[results,Tryz.results17,go_sem,m0,m1]) rfl ?_
     rw[HSG.out]
     exact⟨v5,rfl,HRF.out,(hB6.setCell hrle _).setCell hrle _⟩
   have hltx:n<fs.length:=by rw[HLE.out];exact hlt
   obtain⟨bq,oq,hq,hc⟩:=(HFX.out wr SI.out.frame).cells (fun e=>by rw[e]at hltx;simp at hltx)
   subst hq
   obtain⟨c0,c1,c2,c3,c4,c5⟩:=hc n hltx
   obtain⟨s1,s2⟩:=HSZ.out fs[n] (List.getElem_mem _)
   have HSK:Hid (inP lo hi fs[n]=false→ScanLeft st.obs lo hi fs (n+1) acc):=fun e=>scanL_skip SL.out hltx e
   have HSB:Hid (inP lo hi fs[n]=true→(fileR st.obs fs[n]).1≠0→scanG st.obs lo hi fs 0 []=([],(fileR st.obs fs[n]).1,some n)):=fun e b=>scanL_bad SL.out hltx e b
   have HSS:Hid (inP lo hi fs[n]=true→(fileR st.obs fs[n]).1=0→ScanLeft st.obs lo hi fs (n+1) (addS lo hi fs[n] (fileR st.obs fs[n]).2 acc)):=fun e b=>scanL_step SL.out hltx e b
   generalize fs[n]=x at c0 c1 c2 c3 c4 c5 s1 s2 HSK HSB HSS
   have hx5:=FlAt.new wr x
   have hb5:Below wr.heap.size wr (wr.alloc (.cells #[.string x.1,.string x.2.1,.int .i64 x.2.2.1,.int .i64 x.2.2.2.1,.int .i64 x.2.2.2.2.1,.int .i64 x.2.2.2.2.2] 63)):=(Below.refl _ _).alloc (Nat.le_refl _) _
   have hiL:(n:Int)<(L:Int):=by omega
   have hi00:(0:Int)≤(n:Int):=by omega
   have SI5:Hid (ScanInv w rb sb (id,par,seq,day,idx,op,fs) (.slice (some ⟨bq,oq,none⟩) L cap) u11 u12 acc (wr.alloc (.cells #[.string x.1,.string x.2.1,.int .i64 x.2.2.1,.int .i64 x.2.2.2.1,.int .i64 x.2.2.2.2.1,.int .i64 x.2.2.2.2.2] 63))):=SI.out.quiet hb5
   clear hc hltx SL hb5 SI
   go_upto_region 10 with fail
   generalize wr.alloc (.cells #[.string x.1,.string x.2.1,.int .i64 x.2.2.1,.int .i64 x.2.2.2.1,.int .i64 x.2.2.2.2.1,.int .i64 x.2.2.2.2.2] 63)=w5 at *
   generalize wr.heap.size=xb at *
   clear c0 c1 c2 c3 c4 c5 z6
   obtain⟨d0,d1,d2,d3,d4,d5,-⟩:=hx5.cells
   have hal6:Below w5.heap.size w5 (w5.alloc (.cells #[.string x.1,.string x.2.1,.int .i64 x.2.2.1,.int .i64 x.2.2.2.1,.int .i64 x.2.2.2.2.1,.int .i64 x.2.2.2.2.2] 63)):=(Below.refl _ _).alloc (Nat.le_refl _) _
   have hpr:=pruneOf_any (.slice (some ⟨w5.heap.size,0,none⟩) 1 1) [x] lo hi (w5.alloc (.cells #[.string x.1,.string x.2.1,.int .i64 x.2.2.1,.int .i64 x.2.2.2.1,.int .i64 x.2.2.2.2.1,.int .i64 x.2.2.2.2.2] 63)) (fls_one (FlAt.new w5 x)) (by simp)
   go_wp2_with fail
   refine hpr.mono ?_
   rintro e w7 ⟨v7,rfl,hv7,hb7⟩
   clear hpr d0 d1 d2 d3 d4 d5
   have hb57:Below w5.heap.size w5 w7:=hal6.trans (hb7.mono hal6.size)
   have SI7:Hid (ScanInv w rb sb (id,par,seq,day,idx,op,fs) (.slice (some ⟨bq,oq,none⟩) L cap) u11 u12 acc w7):=SI5.out.quiet hb57
   have hx7:=hx5.below hb57
   clear hal6 hb7 hb57 SI5 hx5
   obtain⟨q7,c7,hv7'⟩:=hv7.form
   subst hv7'
   cases hin:inP lo hi x
   case false =>
     have HSN:Hid (ScanLeft st.obs lo hi fs (n+1) acc):=HSK.out hin
     have hfl:([x].filter (inP lo hi)).length=0:=by simp[hin]
     rw[hfl]
     clear hv7 hfl hin HSK HSB HSS hx7
     go_wp2
     go_roundw
     case rel=>exact ⟨n+1,acc,by omega,by go_num,SI7.out,HSN.out,by omega⟩
     case measure=>simp [intOf];omega
   have hfl:([x].filter (inP lo hi)).length=1:=by simp[hin]
   rw[hfl]
   clear hv7 hfl HSK
   replace HSB:Hid ((fileR st.obs x).1≠0→R=([],(fileR st.obs x).1,some n)):=fun hb=>by
     show _=_
     rw[HRG.out,HSB.out hin hb,if_pos hb]
   replace HSS:Hid ((fileR st.obs x).1=0→ScanLeft st.obs lo hi fs (n+1) (addS lo hi x (fileR st.obs x).2 acc)):=fun hb=>HSS.out hin hb
   clear hin
   have hge:=mget_any b st x.1 w7 (HMA.out w7 SI7.out.frame) (Nat.le_trans HKS.out.many (by decide))
   have htz:=getT_size HKS.out x.1
   obtain⟨d0,d1,d2,d3,d4,d5,-⟩:=hx7.cells
   rcases getT_06 st.obs x.1 with hg | hg
   case inr =>
     have HRR:Hid (R=([],6,some n)):=by
       show _=_
       have e6:=fileR_get (x:=x) (obs:=st.obs) (by rw[hg];simp)
       rw[HSB.out (by rw[e6,hg];simp),e6,hg]
     rw[hg]at hge
     generalize (getT st.obs x.1).1=tx at hge
     clear HSB HSS hg htz
     go_wp2_with fail
     refine hge.mono ?_
     rintro e w8 ⟨rfl,rfl⟩
     clear hge d0 d1 d2 d3 d4 d5 hx7
     have jc0:=SI7.out.fault.c0
     have jc1:=SI7.out.fault.c1
     have jz:=SI7.out.fault.fz
     have hfF:=SI7.out.fault.set (6) (n:Int)
     have m0:=hfF.c0
     have m1:=hfF.c1
     have hBF:=SI7.out.frame
     clear hfF SI7 HMA HFX HSZ HKS
     go_wp2
     refine bodyPost_ret (v:=.tuple #[.slice none 0 0,.agg #[.int .i64 (6),.int .i64 (n:Int)]]) (by simp[results,Tryz.results17,go_sem,m0,m1]) rfl ?_
     rw[HRR.out]
     exact⟨.slice none 0 0,rfl,Or.inl ⟨none,0,rfl,rfl⟩,(hBF.setCell hrle _).setCell hrle _⟩
   have hfo:=fileR_of (x:=x) hg
   rw[hg]at hge
   obtain⟨tx,htx⟩:∃t,(getT st.obs x.1).1=t:=⟨_,rfl⟩
   rw[htx]at hge hfo htz
   have hof:=fun W=>ofText_any x.1 x.2.1 tx x.2.2.2.2.2 W s1 s2 (by unfold maxLen;omega)
   obtain⟨Y,hY⟩:∃Y,ofF x.1 x.2.1 tx.data.toList x.2.2.2.2.2=Y:=⟨_,rfl⟩
   rw[hY]at hof hfo
   obtain⟨y,e⟩:=Y
   dsimp only at hof hfo
   unfold flV at hof
   clear hg htx hY
   go_wp2_with fail
   refine hge.mono ?_
   rintro e' w8 ⟨rfl,rfl⟩
   clear hge
   have hof8:=hof w8
   clear hof
   go_wp2_with fail
   refine hof8.mono ?_
   rintro e' w9 ⟨rfl,hb9⟩
   clear hof8 d0 d1 d2 d3 d4 d5
   have hal9:Below w9.heap.size w9 (w9.alloc (.cells #[.string y.1,.string y.2.1,.int .i64 y.2.2.1,.int .i64 y.2.2.2.1,.int .i64 y.2.2.2.2.1,.int .i64 y.2.2.2.2.2] 63)):=(Below.refl _ _).alloc (Nat.le_refl _) _
   have hy9:=FlAt.new w9 y
   have SI9:Hid (ScanInv w rb sb (id,par,seq,day,idx,op,fs) (.slice (some ⟨bq,oq,none⟩) L cap) u11 u12 acc (w9.alloc (.cells #[.string y.1,.string y.2.1,.int .i64 y.2.2.1,.int .i64 y.2.2.2.1,.int .i64 y.2.2.2.2.1,.int .i64 y.2.2.2.2.2] 63))):=(SI7.out.quiet hb9).quiet hal9
   have hx9:=(hx7.below hb9).below hal9
   clear SI7 hx7 hb9 hal9
   go_upto_region 16 with fail
   generalize w9.alloc (.cells #[.string y.1,.string y.2.1,.int .i64 y.2.2.1,.int .i64 y.2.2.2.1,.int .i64 y.2.2.2.2.1,.int .i64 y.2.2.2.2.2] 63)=w10 at *
   generalize w9.heap.size=yb at *
   by_cases he:e=0
   case neg =>
     have HRR:Hid (R=([],e,some n)):=by
       show _=_
       rw[if_pos he]at hfo
       rw[HSB.out (by rw[hfo];exact he),hfo]
     have hep:(0:Int)<(e:Int):=by omega
     have he0:((e:Int) == 0)=false:=beq_eq_false_iff_ne.2 (by omega)
     clear HSB HSS hfo he htz hx9 hy9
     have jc0:=SI9.out.fault.c0
     have jc1:=SI9.out.fault.c1
     have jz:=SI9.out.fault.fz
     have hfF:=SI9.out.fault.set ((e:Int)) (n:Int)
     have m0:=hfF.c0
     have m1:=hfF.c1
     have hBF:=SI9.out.frame
     clear hfF SI9 HMA HFX HSZ HKS
     go_wp2
     refine bodyPost_ret (v:=.tuple #[.slice none 0 0,.agg #[.int .i64 ((e:Int)),.int .i64 (n:Int)]]) (by simp[results,Tryz.results17,go_sem,m0,m1]) rfl ?_
     rw[HRR.out]
     exact⟨.slice none 0 0,rfl,Or.inl ⟨none,0,rfl,rfl⟩,(hBF.setCell hrle _).setCell hrle _⟩
   have heZ:((e:Nat):Int)=0:=by omega
   rw[heZ]
   clear heZ
   subst he
   obtain⟨d0,d1,d2,d3,d4,d5,-⟩:=hx9.cells
   obtain⟨f0,f1,f2,f3,f4,f5,-⟩:=hy9.cells
   by_cases hxy:y=x
   case neg =>
     have HRR:Hid (R=([],3,some n)):=by
       show _=_
       rw[if_neg (by simp),if_pos hxy]at hfo
       rw[HSB.out (by rw[hfo];simp),hfo]
     have hnq:=fun W=>neqF2 y x hxy W
     have hgd:∀(bo:BinOp) (a b:Operand) (w:World),Sem.run Tryz.prog (eqGuard bo 63 a b (flV y) (flV x)) w= .ok () w:=fun bo a b w=>guardF bo a b y x w
     unfold flV at hnq hgd
     clear HSB HSS hfo hxy htz hx9 hy9
     have jc0:=SI9.out.fault.c0
     have jc1:=SI9.out.fault.c1
     have jz:=SI9.out.fault.fz
     have hfF:=SI9.out.fault.set (3) (n:Int)
     have m0:=hfF.c0
     have m1:=hfF.c1
     have hBF:=SI9.out.frame
     clear hfF SI9 HMA HFX HSZ HKS
     go_wp2
     refine bodyPost_ret (v:=.tuple #[.slice none 0 0,.agg #[.int .i64 (3),.int .i64 (n:Int)]]) (by simp[results,Tryz.results17,go_sem,m0,m1]) rfl ?_
     rw[HRR.out]
     exact⟨.slice none 0 0,rfl,Or.inl ⟨none,0,rfl,rfl⟩,(hBF.setCell hrle _).setCell hrle _⟩
   have HSN:Hid (ScanLeft st.obs lo hi fs (n+1) (addS lo hi x tx acc)):=by
     have e0:fileR st.obs x=(0,tx):=by rw[hfo,if_neg (by simp),if_neg (by simpa using hxy)]
     have h:=HSS.out (by rw[e0])
     rw[e0]at h
     exact h
   clear HSB HSS hfo HRG
   obtain rfl:x=y:=hxy.symm
   have hnq:=fun W=>neqF x W
   have hgd:∀(bo:BinOp) (a b:Operand) (w:World),Sem.run Tryz.prog (eqGuard bo 63 a b (flV x) (flV x)) w= .ok () w:=fun bo a b w=>guardF bo a b x x w
   unfold flV at hnq hgd
   clear hxy
   by_cases hP:x.2.1.data.toList= [45]
   case neg =>
     have hPq:=neB_of hP
     have hdl:=(readG_le dataK rd_le tx.data.toList).2
     have hdn:=readG_nil dataK tx.data.toList
     have hrd:=readData_any tx w10 (by unfold maxLen;omega)
     have HSD:Hid (ScanLeft st.obs lo hi fs (n+1) (acc++((dataO tx.data.toList).1.filter (inB lo hi)).map fun r=>(r,x.2.2.2.2.2))):=by
       have h:=HSN.out
       rw[addS_data hP]at h
       exact h
     clear HSN hP
     change (dataO tx.data.toList).1.length≤40 at hdl
     change (dataO tx.data.toList).2.1=0∨(dataO tx.data.toList).1= []at hdn
     generalize dataO tx.data.toList=D at hdl hdn hrd HSD
     go_wp2_with fail
     refine hrd.mono ?_
     intro e w11 h11
     obtain⟨v11,ga,gb,rfl,hr11,hb11⟩:=readPost_rows h11 hdn
     clear h11 hrd hnq hgd d0 d1 d2 d3 d4 d5 f0 f1 f2 f3 f4 f5 hy9 hdn
     have hal11:Below w11.heap.size w11 (w11.alloc (.cells #[.int .i64 ga,.int .i64 gb] 46)):=(Below.refl _ _).alloc (Nat.le_refl _) _
     have SI11:Hid (ScanInv w rb sb (id,par,seq,day,idx,op,fs) (.slice (some ⟨bq,oq,none⟩) L cap) u11 u12 acc (w11.alloc (.cells #[.int .i64 ga,.int .i64 gb] 46))):=(SI9.out.quiet hb11).quiet hal11
     have hx11:=(hx9.below hb11).below hal11
     have hwr:=withinRows_own v11 D.1 lo hi _ (hr11.below hal11) (by omega)
     clear SI9 hx9 hb11
     go_wp2_with fail
     refine hwr.mono ?_
     rintro e w12 ⟨v12,rfl,ho12,hb12⟩
     clear hwr
     have SI12:Hid (ScanInv w rb sb (id,par,seq,day,idx,op,fs) (.slice (some ⟨bq,oq,none⟩) L cap) u11 u12 acc w12):=SI11.out.quiet hb12
     have hx12:=hx11.below hb12
     have hfl:(D.1.filter (inB lo hi)).length≤40:=Nat.le_trans (List.length_filter_le _ _) hdl
     clear SI11 hx11 hb12 hr11 hdl hal11
     generalize (w11.alloc (.cells #[.int .i64 ga,.int .i64 gb] 46)).heap.size=BB at ho12
     generalize D.1.filter (inB lo hi)=l at ho12 HSD hfl
     obtain⟨M,hM⟩:∃M,l.length=M:=⟨_,rfl⟩
     have HM:Hid (l.length=M):=hM
     rw[hM]at ho12 hfl
     clear hM
     obtain⟨q12,c12,rfl⟩:=own_slice ho12
     have SIN:Hid (ScanIn w rb sb (id,par,seq,day,idx,op,fs) (.slice (some ⟨bq,oq,none⟩) L cap) u11 u12 (acc.map (·.1)) (acc.map (·.2)) w12):=SI12.out.apart
     have HO:Hid (w12.ownsRow BB 54 3 (.slice q12 M c12) M (flatR l)):=ho12
     have HX:Hid (FlAt w12 xb x):=hx12
     have HRA:Hid ((acc.map (·.1)).length=acc.length):=List.length_map ..
     have HNA:Hid ((acc.map (·.2)).length=acc.length):=List.length_map ..
     have HAL:Hid (acc.length≤40*n):=hac
     have hc12:acc.length≤4000:=by omega
     clear SI12 ho12 hx12 hac
     go_wp2
     clear hPq
     go_loopw [12,21] (fun sq k W=> ∃m:Nat,m≤M∧k= .int .i64 m∧ScanIn w rb sb (id,par,seq,day,idx,op,fs) (.slice (some ⟨bq,oq,none⟩) L cap) u11 sq (acc.map (·.1)) (acc.map (·.2)++List.replicate m x.2.2.2.2.2) W∧W.ownsRow BB 54 3 (.slice q12 M c12) M (flatR l)∧FlAt W xb x) (fun _ k _=>M-(intOf k).toNat)
     case atStart=>exact ⟨0,by omega,rfl,by simpa using SIN.out,HO.out,HX.out⟩
     case round =>
       clear SIN HO HX
       obtain⟨m,hmM,rfl,hI,hO,hX⟩:=hrel
       by_cases hmlt:m<M
       case pos =>
         obtain⟨d0,d1,d2,d3,d4,d5,-⟩:=hX.cells
         have hal:Below wr.heap.size wr (wr.alloc (.cells #[.int .i64 x.2.2.2.2.2] 3)):=(Below.refl _ _).alloc (Nat.le_refl _) _
         have hnl:(acc.map (·.2)++List.replicate m x.2.2.2.2.2).length=acc.length+m:=by simp
         have HNE:Hid (acc.map (·.2)++List.replicate (m+1) x.2.2.2.2.2=(acc.map (·.2)++List.replicate m x.2.2.2.2.2)++ [x.2.2.2.2.2]):=by
           show _=_
           rw[List.replicate_succ',List.append_assoc]
         generalize acc.map (·.2)++List.replicate m x.2.2.2.2.2=NS at hI hnl HNE
         have II:Hid (ScanIn w rb sb (id,par,seq,day,idx,op,fs) (.slice (some ⟨bq,oq,none⟩) L cap) u11 u12 (acc.map (·.1)) NS (wr.alloc (.cells #[.int .i64 x.2.2.2.2.2] 3))):=hI.quiet hal
         have OO:Hid ((wr.alloc (.cells #[.int .i64 x.2.2.2.2.2] 3)).ownsRow BB 54 3 (.slice q12 M c12) M (flatR l)):=own_below hO hal
         have XX:Hid (FlAt (wr.alloc (.cells #[.int .i64 x.2.2.2.2.2] 3)) xb x):=hX.below hal
         clear hI hO hX hal d0 d1 d2 d3 d4
         go_wp2_with (at_builtin;refine wpList_append_own _ rfl _ _ 50 rfl w.heap.size 3 j0 (.int .i64 0) 1 8 Tryz.underlying50 hj0 hy0 ht0 hcy0 rfl (by decide) u12 NS.length (NS.map encZ) rfl ?qc0 ⟨wr.heap.size,0,none⟩ 1 1 [.int .i64 x.2.2.2.2.2] rfl ?qc1 ?qc2 ?qc3 ?qc4 ?qc5 ?qc6 ?_)
         case qc0=>exact II.out.nums
         case qc1=>rfl
         case qc2=>exact cell_one _ _ _
         case qc3=>intro u hu;simp at hu;subst hu;rfl
         case qc4=>unfold maxLen;omega
         case qc5=>omega
         case qc6=>exact II.out.frame.size
         intro v' w4 hown4 hgrow hnil
         have I4:Hid (ScanIn w rb sb (id,par,seq,day,idx,op,fs) (.slice (some ⟨bq,oq,none⟩) L cap) u11 v' (acc.map (·.1)) (NS++ [x.2.2.2.2.2]) w4):=II.out.num hgrow (by rw[hnl];exact hown4)
         have O4:Hid (w4.ownsRow BB 54 3 (.slice q12 M c12) M (flatR l)):=own_kept II.out.nums hgrow OO.out (by decide)
         have X4:Hid (FlAt w4 xb x):=type_kept II.out.nums hgrow XX.out (by decide)
         clear II OO XX hown4 hgrow hnil d5
         go_wp2
         go_roundw
         case rel=>exact ⟨m+1,by omega,by go_num,by rw[HNE.out];exact I4.out,O4.out,X4.out⟩
         case measure=>simp [intOf];omega
       case neg =>
         obtain rfl:m=M:=by omega
         have HSRC:Hid (Src wr q12 m c12 (flatR l)):=(src_of_own hO).2
         have II:Hid (ScanIn w rb sb (id,par,seq,day,idx,op,fs) (.slice (some ⟨bq,oq,none⟩) L cap) u11 u12 (acc.map (·.1)) (acc.map (·.2)++List.replicate m x.2.2.2.2.2) wr):=hI
         have hrl:(acc.map (·.1)).length=acc.length:=HRA.out
         clear hI hO hX
         obtain⟨RS,hRS⟩:∃RS,acc.map (·.1)=RS:=⟨_,rfl⟩
         have HRS:Hid (acc.map (·.1)=RS):=hRS
         rw[hRS]at II hrl
         clear hRS
         go_wp2_with (at_builtin;(refine wpList_append_src rfl _ _ 33 rfl w.heap.size 54 i0 (.agg #[.string ⟨#[]⟩,.int .i64 0,.int .i64 0]) 3 32 Tryz.underlying33 hi0 hz0 hs0 hby0 rfl (by decide) u11 RS.length (flatR RS) rfl ?a0 q12 m c12 (flatR l) rfl ?a1 ?a2 ?a3 ?a4 ?a5 ?a6 ?_))
         case a0=>exact II.out.rows
         case a1=>rw [flat_len,HM.out]
         case a2=>exact HSRC.out
         case a3=>exact flat_one _
         case a4=>unfold maxLen;omega
         case a5=>omega
         case a6=>exact II.out.frame.size
         intro v2 y2 ho2 hg2 _
         have FIN:Hid (ScanInv w rb sb (id,par,seq,day,idx,op,fs) (.slice (some ⟨bq,oq,none⟩) L cap) v2 u12 (acc++l.map fun r=>(r,x.2.2.2.2.2)) y2):=(II.out.row (l:=l) hg2 (by rw[HM.out,hrl];exact ho2)).one (by rw[List.map_append,HRS.out,fst_same]) (by rw[List.map_append,snd_same,HM.out])
         clear ho2 hg2 II HSRC
         go_wp2
         go_roundw
         case rel=>exact ⟨n+1,acc++l.map fun r=>(r,x.2.2.2.2.2),by omega,by go_num,FIN.out,HSD.out,by rw[List.length_append,List.length_map,HM.out];have:=HAL.out;omega⟩
         case measure=>simp [intOf];omega
   case pos =>
   have hPq:=eqB_of hP
   have hgl:=goneO_le tx.data.toList
   have hgn:=readG_nil goneK tx.data.toList
   have hrd:=readGone_any tx w10 (by unfold maxLen;omega)
   have HSD:Hid (ScanLeft st.obs lo hi fs (n+1) (acc.filter fun p=> !((goneO tx.data.toList).1.contains p.1.2.1 && decide (p.2<x.2.2.2.2.2)))):=by
     have h:=HSN.out
     rw[addS_gone hP]at h
     exact h
   clear HSN hP
   change (goneO tx.data.toList).2.1=0∨(goneO tx.data.toList).1= []at hgn
   generalize goneO tx.data.toList=D at hgl hgn hrd HSD
   go_wp2_with fail
   refine hrd.mono ?_
   intro e w11 h11
   obtain⟨v11,ga,gb,rfl,hk11,hb11⟩:=readPost_keys h11 hgn
   clear h11 hrd hnq hgd d0 d1 d2 d3 d4 d5 f0 f1 f2 f3 f4 f5 hy9 hgn
   have hal11:Below w11.heap.size w11 (w11.alloc (.cells #[.int .i64 ga,.int .i64 gb] 46)):=(Below.refl _ _).alloc (Nat.le_refl _) _
   have SI11:Hid (ScanInv w rb sb (id,par,seq,day,idx,op,fs) (.slice (some ⟨bq,oq,none⟩) L cap) u11 u12 acc (w11.alloc (.cells #[.int .i64 ga,.int .i64 gb] 46))):=(SI9.out.quiet hb11).quiet hal11
   have hx11:=(hx9.below hb11).below hal11
   have hk12:=hk11.below hal11
   clear SI9 hx9 hb11 hk11
   obtain⟨A,hA⟩:∃A,acc.length=A:=⟨_,rfl⟩
   have HA:Hid (acc.length=A):=hA
   have ho1:=SI11.out.rows
   have ho2:=SI11.out.nums
   rw[hA]at ho1 ho2 hac
   clear hA
   obtain⟨q1,cp1,hq1⟩:=own_slice ho1
   obtain⟨q2,cp2,hq2⟩:=own_slice ho2
   subst hq1 hq2
   clear ho1 ho2
   have HX11:Hid (FlAt (w11.alloc (.cells #[.int .i64 ga,.int .i64 gb] 46)) xb x):=hx11
   have HK11:Hid (KeysAt (w11.alloc (.cells #[.int .i64 ga,.int .i64 gb] 46)) v11 D.1):=hk12
   have HGL:Hid (D.1.length≤40):=hgl
   have hA4:A≤4000:=by omega
   clear hx11 hk12 hal11 hgl htz s1 s2
   go_wp2
   clear hPq
   generalize w11.alloc (.cells #[.int .i64 ga,.int .i64 gb] 46)=W3 at *
   go_loopw [24,25,26] (fun lf th k W=> ∃m:Nat,m≤A∧k= .int .i64 m∧Below W3.heap.size W3 W∧W.ownsRow W3.heap.size 54 3 lf (goF D.1 x acc m).length (flatR ((goF D.1 x acc m).map (·.1)))∧W.ownsRow W3.heap.size 3 1 th (goF D.1 x acc m).length (((goF D.1 x acc m).map (·.2)).map encZ)) (fun _ _ k _=>A-(intOf k).toNat)
   case atStart=>exact ⟨0,by omega,rfl,Below.refl _ _,World.ownsRow_nil _ _ _ _,World.ownsRow_nil _ _ _ _⟩
   case round =>
     obtain⟨m,hmA,rfl,hbm,hL1,hL2⟩:=hrel
     by_cases hmlt:m<A
     case neg =>
       obtain rfl:m=A:=by omega
       have hall:goF D.1 x acc m=acc.filter fun p=> !(D.1.contains p.1.2.1 && decide (p.2<x.2.2.2.2.2)):=by
         unfold goF
         rw[List.take_of_length_le (by rw[HA.out];exact Nat.le_refl _)]
       rw[hall]at hL1 hL2
       have hle:(acc.filter fun p=> !(D.1.contains p.1.2.1 && decide (p.2<x.2.2.2.2.2))).length≤m:=by
         rw[←HA.out];exact List.length_filter_le _ _
       have SW:=SI11.out.quiet hbm
       have hsz:=SI11.out.frame.size
       have FIN:Hid (ScanInv w rb sb (id,par,seq,day,idx,op,fs) (.slice (some ⟨bq,oq,none⟩) L cap) u24 u25 (acc.filter fun p=> !(D.1.contains p.1.2.1 && decide (p.2<x.2.2.2.2.2))) wr):=⟨SW.frame,SW.fault,SW.snap,own_mono hL1 hsz,own_mono hL2 hsz⟩
       generalize (acc.filter fun p=> !(D.1.contains p.1.2.1 && decide (p.2<x.2.2.2.2.2)))=acc2 at HSD FIN hle
       clear hL1 hL2 SW hsz hall SI11 HX11 HK11
       go_wp2
       go_roundw
       case rel=>exact ⟨n+1,acc2,by omega,by go_num,FIN.out,HSD.out,by omega⟩
       case measure=>simp [intOf];omega
     case pos =>
       have hma:m<acc.length:=by rw[HA.out];exact hmlt
       obtain⟨z1,y1,eq1,b1,o1,hz1,r0,r1,r2⟩:=row_at SI11.out.rows m hma
       obtain⟨z2,y2,eq2,b2,o2,hz2,r3⟩:=num_at SI11.out.nums m hma
       subst hz1 hz2
       have HNX:Hid (goF D.1 x acc (m+1)=goF D.1 x acc m++if (D.1.contains acc[m].1.2.1 && decide (acc[m].2<x.2.2.2.2.2)) then [] else [acc[m]]):=goF_succ _ _ _ _ hma
       generalize acc[m]=p at r0 r1 r2 r3 HNX
       have R0:Hid (W3.cell? ⟨b1,o1+m*3,none⟩=some (.string p.1.1)):=r0
       have R1:Hid (W3.cell? ⟨b1,o1+m*3+1,none⟩=some (.int .i64 p.1.2.1)):=r1
       have R2:Hid (W3.cell? ⟨b1,o1+m*3+2,none⟩=some (.int .i64 p.1.2.2)):=r2
       have R3:Hid (W3.cell? ⟨b2,o2+m,none⟩=some (.int .i64 p.2)):=r3
       clear r0 r1 r2 r3
       simp only[Value.slice.injEq]at eq1 eq2
       obtain⟨eq1,-,-⟩:=eq1
       obtain⟨eq2,-,-⟩:=eq2
       subst eq1 eq2
       have r0:=below_keep hbm R0.out
       have r1:=below_keep hbm R1.out
       have r2:=below_keep hbm R2.out
       have r3:=below_keep hbm R3.out
       have hin:=inInts_any v11 D.1 p.1.2.1 wr (HK11.out.below hbm) (by have:=HGL.out;unfold maxLen;omega)
       obtain⟨-,-,-,-,-,d5,-⟩:=(HX11.out.below hbm).cells
       clear hma
       have hi1:(m:Int)<(A:Int):=by omega
       have hi2:(0:Int)≤(m:Int):=by omega
       clear HMA HFX HSZ HKS
       cases hcn:D.1.contains p.1.2.1
       case false =>
         rw[hcn]at hin
         replace HNX:Hid (goF D.1 x acc (m+1)=goF D.1 x acc m++ [p]):=by
           have h:=HNX.out
           rw[hcn]at h
           exact h
         clear hcn
         go_wp2_with fail
         refine hin.mono ?_
         rintro e w' ⟨rfl,hw'⟩
         rw[hw']
         clear hw' hin
         go_wp2_with fail
         go_quiet (fail)
         have hbq:Below wr.heap.size wr (wr.drewN nq):=below_drewN (Below.refl _ _) nq
         have hbn:Below W3.heap.size W3 (wr.drewN nq):=hbm.trans (hbq.mono hbm.size)
         have M1:Hid ((wr.drewN nq).ownsRow W3.heap.size 54 3 u24 (goF D.1 x acc m).length (flatR ((goF D.1 x acc m).map (·.1)))):=own_below hL1 hbq
         have M2:Hid ((wr.drewN nq).ownsRow W3.heap.size 3 1 u25 (goF D.1 x acc m).length (((goF D.1 x acc m).map (·.2)).map encZ)):=own_below hL2 hbq
         have hKl:=goF_le D.1 x acc m
         clear hL1 hL2 hbq hbm r0 r1 r2 r3 d5
         generalize wr.drewN nq=wq at M1 M2 hbn ⊢
         generalize goF D.1 x acc m=K at M1 M2 HNX hKl
         have hal:Below wq.heap.size wq (wq.alloc (.cells #[.string p.1.1,.int .i64 p.1.2.1,.int .i64 p.1.2.2] 54)):=(Below.refl _ _).alloc (Nat.le_refl _) _
         have hbA:Below W3.heap.size W3 (wq.alloc (.cells #[.string p.1.1,.int .i64 p.1.2.1,.int .i64 p.1.2.2] 54)):=hbn.alloc hbn.size _
         have r0:=below_keep hbn R0.out
         have r1:=below_keep hbn R1.out
         have r2:=below_keep hbn R2.out
         have N2:Hid ((wq.alloc (.cells #[.string p.1.1,.int .i64 p.1.2.1,.int .i64 p.1.2.2] 54)).ownsRow W3.heap.size 3 1 u25 K.length ((K.map (·.2)).map encZ)):=own_below M2.out hal
         have N1:Hid ((wq.alloc (.cells #[.string p.1.1,.int .i64 p.1.2.1,.int .i64 p.1.2.2] 54)).ownsRow W3.heap.size 54 3 u24 K.length (flatR (K.map (·.1)))):=own_below M1.out hal
         go_wp2_with (at_builtin;refine wpList_append_own _ rfl _ _ 33 rfl W3.heap.size 54 i0 (.agg #[.string ⟨#[]⟩,.int .i64 0,.int .i64 0]) 3 32 Tryz.underlying33 hi0 hz0 hs0 hby0 rfl (by decide) u24 K.length (flatR (K.map (·.1))) rfl ?qc0 ⟨wq.heap.size,0,none⟩ 1 1 (encR p.1) rfl ?qc1 ?qc2 ?qc3 ?qc4 ?qc5 ?qc6 ?_)
         case qc0=>exact N1.out
         case qc1=>rfl
         case qc2 =>
           intro j u hj
           first
             | exact hj
             | (simpa [encR] using hj)
             | (rw[Addr.add_lit,Nat.zero_add];exact cells_three wq p.1.1 p.1.2.1 p.1.2.2 j u hj)
         case qc3=>exact encR_one _
         case qc4=>unfold maxLen;omega
         case qc5=>omega
         case qc6=>exact hbA.size
         intro v4 w4 hown4 hgrow hnil
         have hb4:Below W3.heap.size W3 w4:=grown_below hbA N1.out (Nat.le_refl _) hbA.size hgrow
         have O1:Hid (w4.ownsRow W3.heap.size 54 3 v4 (K.length+1) (flatR (K.map (·.1))++encR p.1)):=hown4
         have O2:Hid (w4.ownsRow W3.heap.size 3 1 u25 K.length ((K.map (·.2)).map encZ)):=own_kept N1.out hgrow N2.out (by decide)
         clear hown4 hgrow hnil N1 N2 M1 M2 hal hbA hbn r0 r1 r2
         have r3:=below_keep hb4 R3.out
         have hal:Below w4.heap.size w4 (w4.alloc (.cells #[.int .i64 p.2] 3)):=(Below.refl _ _).alloc (Nat.le_refl _) _
         have hbA:Below W3.heap.size W3 (w4.alloc (.cells #[.int .i64 p.2] 3)):=hb4.alloc hb4.size _
         have N1:Hid ((w4.alloc (.cells #[.int .i64 p.2] 3)).ownsRow W3.heap.size 54 3 v4 (K.length+1) (flatR (K.map (·.1))++encR p.1)):=own_below O1.out hal
         have N2:Hid ((w4.alloc (.cells #[.int .i64 p.2] 3)).ownsRow W3.heap.size 3 1 u25 K.length ((K.map (·.2)).map encZ)):=own_below O2.out hal
         go_wp2_with (at_builtin;refine wpList_append_own _ rfl _ _ 50 rfl W3.heap.size 3 j0 (.int .i64 0) 1 8 Tryz.underlying50 hj0 hy0 ht0 hcy0 rfl (by decide) u25 K.length ((K.map (·.2)).map encZ) rfl ?qd0 ⟨w4.heap.size,0,none⟩ 1 1 [.int .i64 p.2] rfl ?qd1 ?qd2 ?qd3 ?qd4 ?qd5 ?qd6 ?_)
         case qd0=>exact N2.out
         case qd1=>rfl
         case qd2=>exact cell_one _ _ _
         case qd3=>intro u hu;simp at hu;subst hu;rfl
         case qd4=>unfold maxLen;omega
         case qd5=>omega
         case qd6=>exact hbA.size
         intro v6 w6 hown6 hgrow hnil
         have hb6:Below W3.heap.size W3 w6:=grown_below hbA N2.out (Nat.le_refl _) hbA.size hgrow
         have P1:Hid (w6.ownsRow W3.heap.size 54 3 v4 (K.length+1) (flatR (K.map (·.1))++encR p.1)):=own_kept N2.out hgrow N1.out (by decide)
         have P2:Hid (w6.ownsRow W3.heap.size 3 1 v6 (K.length+1) ((K.map (·.2)).map encZ++ [.int .i64 p.2])):=by
           show w6.ownsRow _ _ _ _ _ _
           rw[List.map_map]
           exact hown6
         clear hown6 hgrow hnil N1 N2 O1 O2 hal hbA hb4 r3
         go_wp2
         go_roundw
         case rel=>exact ⟨m+1,by omega,by go_num,hb6,by rw[HNX.out,List.length_append,List.map_append,flat_append];simpa [flatR] using P1.out,by rw[HNX.out,List.length_append,List.map_append,List.map_append];exact P2.out⟩
         case measure=>simp [intOf];omega
       case true =>
         rw[hcn]at hin
         by_cases hps:p.2<x.2.2.2.2.2
         case neg =>
           replace HNX:Hid (goF D.1 x acc (m+1)=goF D.1 x acc m++ [p]):=by
             have h:=HNX.out
             rw[hcn,decide_eq_false hps]at h
             exact h
           clear hcn
           go_wp2_with fail
           refine hin.mono ?_
           rintro e w' ⟨rfl,hw'⟩
           rw[hw']
           clear hw' hin
           go_wp2_with fail
           go_quiet (fail)
           have hbq:Below wr.heap.size wr (wr.drewN nq):=below_drewN (Below.refl _ _) nq
           have hbn:Below W3.heap.size W3 (wr.drewN nq):=hbm.trans (hbq.mono hbm.size)
           have M1:Hid ((wr.drewN nq).ownsRow W3.heap.size 54 3 u24 (goF D.1 x acc m).length (flatR ((goF D.1 x acc m).map (·.1)))):=own_below hL1 hbq
           have M2:Hid ((wr.drewN nq).ownsRow W3.heap.size 3 1 u25 (goF D.1 x acc m).length (((goF D.1 x acc m).map (·.2)).map encZ)):=own_below hL2 hbq
           have hKl:=goF_le D.1 x acc m
           clear hL1 hL2 hbq hbm r0 r1 r2 r3 d5
           generalize wr.drewN nq=wq at M1 M2 hbn ⊢
           generalize goF D.1 x acc m=K at M1 M2 HNX hKl
           have hal:Below wq.heap.size wq (wq.alloc (.cells #[.string p.1.1,.int .i64 p.1.2.1,.int .i64 p.1.2.2] 54)):=(Below.refl _ _).alloc (Nat.le_refl _) _
           have hbA:Below W3.heap.size W3 (wq.alloc (.cells #[.string p.1.1,.int .i64 p.1.2.1,.int .i64 p.1.2.2] 54)):=hbn.alloc hbn.size _
           have r0:=below_keep hbn R0.out
           have r1:=below_keep hbn R1.out
           have r2:=below_keep hbn R2.out
           have N2:Hid ((wq.alloc (.cells #[.string p.1.1,.int .i64 p.1.2.1,.int .i64 p.1.2.2] 54)).ownsRow W3.heap.size 3 1 u25 K.length ((K.map (·.2)).map encZ)):=own_below M2.out hal
           have N1:Hid ((wq.alloc (.cells #[.string p.1.1,.int .i64 p.1.2.1,.int .i64 p.1.2.2] 54)).ownsRow W3.heap.size 54 3 u24 K.length (flatR (K.map (·.1)))):=own_below M1.out hal
           go_wp2_with (at_builtin;refine wpList_append_own _ rfl _ _ 33 rfl W3.heap.size 54 i0 (.agg #[.string ⟨#[]⟩,.int .i64 0,.int .i64 0]) 3 32 Tryz.underlying33 hi0 hz0 hs0 hby0 rfl (by decide) u24 K.length (flatR (K.map (·.1))) rfl ?qc0 ⟨wq.heap.size,0,none⟩ 1 1 (encR p.1) rfl ?qc1 ?qc2 ?qc3 ?qc4 ?qc5 ?qc6 ?_)
           case qc0=>exact N1.out
           case qc1=>rfl
           case qc2 =>
             intro j u hj
             first
               | exact hj
               | (simpa [encR] using hj)
               | (rw[Addr.add_lit,Nat.zero_add];exact cells_three wq p.1.1 p.1.2.1 p.1.2.2 j u hj)
           case qc3=>exact encR_one _
           case qc4=>unfold maxLen;omega
           case qc5=>omega
           case qc6=>exact hbA.size
           intro v4 w4 hown4 hgrow hnil
           have hb4:Below W3.heap.size W3 w4:=grown_below hbA N1.out (Nat.le_refl _) hbA.size hgrow
           have O1:Hid (w4.ownsRow W3.heap.size 54 3 v4 (K.length+1) (flatR (K.map (·.1))++encR p.1)):=hown4
           have O2:Hid (w4.ownsRow W3.heap.size 3 1 u25 K.length ((K.map (·.2)).map encZ)):=own_kept N1.out hgrow N2.out (by decide)
           clear hown4 hgrow hnil N1 N2 M1 M2 hal hbA hbn r0 r1 r2
           have r3:=below_keep hb4 R3.out
           have hal:Below w4.heap.size w4 (w4.alloc (.cells #[.int .i64 p.2] 3)):=(Below.refl _ _).alloc (Nat.le_refl _) _
           have hbA:Below W3.heap.size W3 (w4.alloc (.cells #[.int .i64 p.2] 3)):=hb4.alloc hb4.size _
           have N1:Hid ((w4.alloc (.cells #[.int .i64 p.2] 3)).ownsRow W3.heap.size 54 3 v4 (K.length+1) (flatR (K.map (·.1))++encR p.1)):=own_below O1.out hal
           have N2:Hid ((w4.alloc (.cells #[.int .i64 p.2] 3)).ownsRow W3.heap.size 3 1 u25 K.length ((K.map (·.2)).map encZ)):=own_below O2.out hal
           go_wp2_with (at_builtin;refine wpList_append_own _ rfl _ _ 50 rfl W3.heap.size 3 j0 (.int .i64 0) 1 8 Tryz.underlying50 hj0 hy0 ht0 hcy0 rfl (by decide) u25 K.length ((K.map (·.2)).map encZ) rfl ?qd0 ⟨w4.heap.size,0,none⟩ 1 1 [.int .i64 p.2] rfl ?qd1 ?qd2 ?qd3 ?qd4 ?qd5 ?qd6 ?_)
           case qd0=>exact N2.out
           case qd1=>rfl
           case qd2=>exact cell_one _ _ _
           case qd3=>intro u hu;simp at hu;subst hu;rfl
           case qd4=>unfold maxLen;omega
           case qd5=>omega
           case qd6=>exact hbA.size
           intro v6 w6 hown6 hgrow hnil
           have hb6:Below W3.heap.size W3 w6:=grown_below hbA N2.out (Nat.le_refl _) hbA.size hgrow
           have P1:Hid (w6.ownsRow W3.heap.size 54 3 v4 (K.length+1) (flatR (K.map (·.1))++encR p.1)):=own_kept N2.out hgrow N1.out (by decide)
           have P2:Hid (w6.ownsRow W3.heap.size 3 1 v6 (K.length+1) ((K.map (·.2)).map encZ++ [.int .i64 p.2])):=by
             show w6.ownsRow _ _ _ _ _ _
             rw[List.map_map]
             exact hown6
           clear hown6 hgrow hnil N1 N2 O1 O2 hal hbA hb4 r3
           go_wp2
           go_roundw
           case rel=>exact ⟨m+1,by omega,by go_num,hb6,by rw[HNX.out,List.length_append,List.map_append,flat_append];simpa [flatR] using P1.out,by rw[HNX.out,List.length_append,List.map_append,List.map_append];exact P2.out⟩
           case measure=>simp [intOf];omega
         case pos =>
           replace HNX:Hid (goF D.1 x acc (m+1)=goF D.1 x acc m):=by
             have h:=HNX.out
             rw[hcn,decide_eq_true hps,Bool.and_self,if_pos rfl,List.append_nil]at h
             exact h
           clear hcn
           go_wp2_with fail
           refine hin.mono ?_
           rintro e w' ⟨rfl,hw'⟩
           rw[hw']
           clear hw' hin
           go_wp2_with fail
           go_quiet (fail)
           have hbq:Below wr.heap.size wr (wr.drewN nq):=below_drewN (Below.refl _ _) nq
           have hbn:Below W3.heap.size W3 (wr.drewN nq):=hbm.trans (hbq.mono hbm.size)
           have M1:Hid ((wr.drewN nq).ownsRow W3.heap.size 54 3 u24 (goF D.1 x acc m).length (flatR ((goF D.1 x acc m).map (·.1)))):=own_below hL1 hbq
           have M2:Hid ((wr.drewN nq).ownsRow W3.heap.size 3 1 u25 (goF D.1 x acc m).length (((goF D.1 x acc m).map (·.2)).map encZ)):=own_below hL2 hbq
           clear hL1 hL2 hbq hbm r0 r1 r2 r3 d5
           generalize wr.drewN nq=wq at M1 M2 hbn ⊢
           go_wp2
           go_roundw
           case rel=>exact ⟨m+1,by omega,by go_num,hbn,by rw[HNX.out];exact M1.out,by rw[HNX.out];exact M2.out⟩
           case measure=>simp [intOf];omega
end Go.Proofs.YtdhkdjlgmbejnaaGreatDoor
