/- By an AI agent. -/
import Derived.Test.YtdhkdjlgmbejnaaGreatDoorScanDk
import Derived.Test.YtdhkdjlgmbejnaaGreatDoorRows
import Derived.JoinedOf
namespace Go.Proofs.YtdhkdjlgmbejnaaGreatDoor
open Go.RowKit Go.Extern.Stop Go.Stop Go.Extern Go.Sort Go.Shelf Go.Lib
theorem SnAt.set2 {W:World} {sb:Nat} {id par seq day idx x:Int} {op:ByteArray} {fs:List Fl} {v:Value} (h:SnAt W sb (id,par,seq,day,idx,op,fs) v):SnAt (W.setCell ⟨sb,2,none⟩ (.int .i64 x)) sb (id,par,x,day,idx,op,fs) v:=by
 unfold SnAt at *
 rw[heap_setCell_same _ _ _ _ _ _ h]
 rfl
theorem FlAt.set5 {W:World} {b:Nat} {p q:ByteArray} {n lo hi s x:Int} (h:FlAt W b (p,q,n,lo,hi,s)):FlAt (W.setCell ⟨b,5,none⟩ (.int .i64 x)) b (p,q,n,lo,hi,x):=by
 unfold FlAt at *
 rw[heap_setCell_same _ _ _ _ _ _ h]
 rfl
section
variable {a : Nat → Addr} {B : Nat} {EM : World → Prop} {SAt : World → Value → (Nat → Prop) → St → Prop}
set_option maxRecDepth 100000 in
set_option maxHeartbeats 16000000 in
theorem scanDeletes_any (K:StoreK a B EM SAt) (KF:FilesK a EM) (KS:ScanK a EM SAt) (KN:ScanN a EM SAt) (vl:Value) (l:List Pc) (s:Sn) (vf:Value) (kq:Option Addr) (kc:Nat) (zs:List Int) (w:World) (hE:EM w) (hp:PcsAt w vl l) (hpl:l.length≤maxLen) (hpz:∀p∈l,PcOk p) (hx:FlsAt w vf s.2.2.2.2.2.2) (ho:s.2.2.2.2.2.1.size≤maxLen) (hfl:s.2.2.2.2.2.2.length≤maxLen) (hfz:∀f∈s.2.2.2.2.2.2,f.1.size≤maxLen∧f.2.1.size≤maxLen) (hz:KeysAt w (.slice kq zs.length kc) zs) (hkq:kq=none→kc=0) :
   Calls Tryz.prog 5 #[vl,snV s vf,.slice kq zs.length kc] w fun e w'=>e= .returned (.bool true)∧Below w.heap.size w w':=by
 have KU:Hid (StoreK a w.heap.size (upE EM w.heap.size) SAt):=K.up (K.size w hE)
 have KFU:Hid (FilesK a (upE EM w.heap.size)):=KF.up _
 have HEM:Hid (∀X,Below w.heap.size w X→EM X):=fun X hX=>K.below w X hE (hX.mono (K.size w hE))
 have KNH:Hid (ScanN a EM SAt):=KN
 have HSC:Hid (∀X,Below w.heap.size w X→Calls Tryz.prog 6 #[] X fun e w'=>e= .returned (.bool true)∧Below X.heap.size X w'):=fun X hX=>scanned_any K KF KS X (HEM.out X hX)
 have HPC:Hid (∀X,Below w.heap.size w X→PcsAt X vl l):=fun X hX=>hp.below hX
 have HLP:Hid (∀X,Below w.heap.size w X→Calls Tryz.prog 7 #[vl] X fun e w'=>e= .returned (.bool (pcsLong l))∧w'=X):=fun X hX=>longPieces_any vl l X (HPC.out X hX) hpl hpz
 have HFX:Hid (∀X,Below w.heap.size w X→FlsAt X vf s.2.2.2.2.2.2):=fun X hX=>hx.below hX
 have HLS:Hid (∀X,Below w.heap.size w X→Calls Tryz.prog 8 #[snV s vf] X fun e w'=>e= .returned (.int .i64 (if longSn s then 1 else 0))∧Below X.heap.size X w'):=fun X hX=>longSnap_any s vf X (HFX.out X hX) ho hfl hfz
 have HTB:Hid (∀X,Below w.heap.size w X→pcsLong l=false→Calls Tryz.prog 9 #[vl] X fun e w'=> ∃vs FP b vf,e= .returned (.tuple #[vs,.pointer (some ⟨b,0,none⟩),vf])∧TabI (upE EM X.heap.size) SAt X.heap.size X w' vs FP (tabT l).1 (tabT l).2 (tabT l).2 b vf):=fun X hX hs=>table_any K vl l X (HEM.out X hX) (HPC.out X hX) hs
 have HKE:Hid (pcsLong l=false→Keeps (tabT l).2):=fun h=>(tab_all h).1.keeps
 have HTS:Hid (pcsLong l=false→(tabT l).1.length≤15∧Short (tabT l).1):=tab_short
 have HTP:Hid (pcsLong l=false→zs.length≤40→findF (tabT l).1 g99<0→putC (tabT l).2 g99 (goneT zs)=0∧More (tabT l).2.obs (putS (tabT l).2 g99 (goneT zs)).obs zs∧Keeps (putS (tabT l).2 g99 (goneT zs))∧∀f∈(tabT l).1,f.1≠g99):=fun h1 h2 h3=>tab_put h1 h2 h3
 have HKY:Hid (∀X,Below w.heap.size w X→KeysAt X (.slice kq zs.length kc) zs):=fun X hX=>hz.below hX
 have HOI:Hid (∀X,Below w.heap.size w X→zs.length≤40→Calls Tryz.prog 23 #[.slice kq zs.length kc] X fun e w'=> ∃v',e= .returned v'∧KeysAt w' v' zs∧Below X.heap.size X w'):=fun X hX h40=>ownInts3_any kq kc zs X (HKY.out X hX) hkq (by omega)
 obtain⟨q,cap,rfl⟩:=hx.form
 obtain⟨pq,pc,rfl⟩:=hp.form
 generalize l.length=PL at HPC HLP HTB ⊢
 obtain⟨KL,hKL⟩:∃L,zs.length=L:=⟨_,rfl⟩
 have HZL:Hid (zs.length=KL):=hKL
 rw[hKL]at HKY HOI HTP ⊢
 clear hKL
 have hsn:=SnAt.new w s (.slice q s.2.2.2.2.2.2.length cap)
 clear K KF KS KN hE hp hpl hpz hx ho hfl hfz hz hkq
 unfold snV at HLS ⊢
 obtain⟨id,par,seq,day,idx,op,fs⟩:=s
 dsimp only at *
 generalize fs.length=L at *
 have hal:Below w.heap.size w (w.alloc (.cells #[.int .i64 id,.int .i64 par,.int .i64 seq,.int .i64 day,.int .i64 idx,.string op,.slice q L cap] 25)):=(Below.refl _ _).alloc (Nat.le_refl _) _
 have hsc:=HSC.out _ hal
 go_enter Tryz.func5,Tryz.ntmps5
 go_wp2_with fail
 generalize w.alloc (.cells #[.int .i64 id,.int .i64 par,.int .i64 seq,.int .i64 day,.int .i64 idx,.string op,.slice q L cap] 25)=WA at hal hsn hsc ⊢
 refine hsc.mono ?_
 rintro e w1 ⟨rfl,hb1⟩
 clear hsc HSC
 have hB1:Below w.heap.size w w1:=hal.trans (hb1.mono hal.size)
 have hs1:=hsn.below hb1
 obtain⟨sb,hsbe⟩:∃k,w.heap.size=k:=⟨_,rfl⟩
 have HSB:Hid (w.heap.size=sb):=hsbe
 rw[hsbe]at hs1
 rw[hsbe]
 clear hal hsn hb1 hsbe
 obtain⟨LP,hLP⟩:∃B,pcsLong l=B:=⟨_,rfl⟩
 obtain⟨LS,hLS⟩:∃B,longSn (id,par,seq,day,idx,op,fs)=B:=⟨_,rfl⟩
 rw[hLP]at HLP HTB HTS HKE HTP
 rw[hLS]at HLS
 clear hLP hLS
 go_upto_region 2 with fail
 go_cut [35] from 20 to 34 (fun c wx=>c= .bool (LP || LS || decide (40<KL))∧Below w1.heap.size w1 wx)
 case first =>
   have hlp:=HLP.out w1 hB1
   clear HLP
   cases LP
   · obtain⟨z0,z1,z2,z3,z4,z5,z6⟩:=hs1.cells
     dsimp only at z0 z1 z2 z3 z4 z5 z6
     have hl1:=HLS.out w1 hB1
     clear hs1
     go_wp2_with fail
     refine hlp.mono ?_
     rintro e w2 ⟨rfl,rfl⟩
     clear hlp
     cases LS
     · simp only[Bool.false_eq_true,if_false]at hl1
       go_wp2_with fail
       refine hl1.mono ?_
       rintro e w2 ⟨rfl,hb2⟩
       clear hl1
       have hdk:decide ((40:Int)<(KL:Int))=decide (40<KL):=by rw[decide_eq_decide];omega
       go_wp2
       go_meet
       case rel=>exact ⟨by simp,hb2⟩
     · simp only[if_true]at hl1
       go_wp2_with fail
       refine hl1.mono ?_
       rintro e w2 ⟨rfl,hb2⟩
       clear hl1
       go_wp2
       go_meet
       case rel=>exact ⟨rfl,hb2⟩
   · clear hs1
     go_wp2_with fail
     refine hlp.mono ?_
     rintro e w2 ⟨rfl,rfl⟩
     clear hlp
     go_wp2
     go_meet
     case rel=>exact ⟨by simp,Below.refl _ _⟩
 case rest =>
 obtain⟨rfl,hbc⟩:=hcut
 have hB2:Below w.heap.size w wc:=hB1.trans (hbc.mono hB1.size)
 have hs2:=hs1.below hbc
 clear hs1 hB1 hbc HLP HLS
 generalize wc=w2 at *
 cases hLB:(LP || LS || decide (40<KL))
 case true =>
   clear hs2
   go_wp2
   go_ret
   exact⟨rfl,hB2⟩
 rw[Bool.or_eq_false_iff,Bool.or_eq_false_iff,decide_eq_false_iff_not]at hLB
 obtain⟨⟨rfl,rfl⟩,hK40⟩:=hLB
 have HK40:Hid (KL≤40):=(show KL≤40 by omega)
 clear hK40
 have HK:Hid (Keeps (tabT l).2):=HKE.out rfl
 have HSH:Hid ((tabT l).1.length≤15∧Short (tabT l).1):=HTS.out rfl
 have HPT:Hid (findF (tabT l).1 g99<0→putC (tabT l).2 g99 (goneT zs)=0∧More (tabT l).2.obs (putS (tabT l).2 g99 (goneT zs)).obs zs∧Keeps (putS (tabT l).2 g99 (goneT zs))∧∀f∈(tabT l).1,f.1≠g99):=HTP.out rfl HK40.out
 have htb:=HTB.out w2 hB2 rfl
 clear HKE HTB HTS HTP
 go_wp2_with fail
 refine htb.mono ?_
 rintro e w3 ⟨vs,FP,b,vt,rfl,hT⟩
 clear htb
 obtain⟨hok,hoff⟩:=tab_ok hT hB2
 obtain⟨pt,rfl⟩:=KU.out.ptr _ _ _ _ hok.at_
 have hoffs:¬FP sb:=hoff sb hs2.lt
 have hs3:SnAt w3 sb (id,par,seq,day,idx,op,fs) (.slice q L cap):=(hT.both.ok.frame.block sb hs2.lt).trans hs2
 have hft:=hT.files
 have HOWN:Hid ((tabT l).1≠ []→∀k,vt.ownBlock=some k→¬FP k):=fun hne k hk=>(hT.own hne k hk).1
 obtain⟨tq,tc,rfl⟩:=hft.form
 have HOK:Hid (∀X,Below w3.heap.size w3 X→SOk (upE EM w.heap.size) SAt w.heap.size w X (.pointer (some pt)) FP (tabT l).2∧¬FP sb∧SnAt X sb (id,par,seq,day,idx,op,fs) (.slice q L cap)∧FlsAt X (.slice tq (tabT l).1.length tc) (tabT l).1):=fun X hX=>⟨hok.quiet KU.out hX,hoffs,hs3.below hX,hft.below hX⟩
 have hB3:Below w.heap.size w w3:=hok.frame
 clear hT hok hoff hoffs hs3 hft hs2 hB2
 obtain⟨fsT,hfT⟩:∃g,(tabT l).1=g:=⟨_,rfl⟩
 obtain⟨st,hst⟩:∃g,(tabT l).2=g:=⟨_,rfl⟩
 rw[hfT]at HOWN HOK HSH HPT ⊢
 rw[hst]at HOK HK HPT
 clear hfT hst HPC HFX
 obtain⟨TL,hTL⟩:∃g,fsT.length=g:=⟨_,rfl⟩
 have HTL:Hid (fsT.length=TL):=hTL
 rw[hTL]at HOWN HOK HSH ⊢
 clear hTL
 have hoi:=HOI.out w3 hB3 HK40.out
 clear HOI
 go_wp2_with fail
 refine hoi.mono ?_
 rintro e w4 ⟨v4,rfl,hk4,hb4⟩
 clear hoi
 have hB4:Below w.heap.size w w4:=hB3.trans (hb4.mono hB3.size)
 obtain⟨oq,oc,rfl⟩:=hk4.form
 by_cases hin:∀z∈zs,inNum z=true
 case neg =>
   have hbad:∃z∈zs,inNum z=false:=by
     simp only[Classical.not_forall]at hin
     obtain⟨z,h1,h2⟩:=hin
     exact⟨z,h1,by simpa using h2⟩
   have hgm:=KFU.out.bad w4 _ zs ⟨HEM.out w4 hB4,hB4.size⟩ hk4 (by rw[HZL.out];exact HK40.out) hbad
   clear hk4 hin hbad HK HSH HPT HOWN HOK HKY KFU KU HEM KNH
   generalize zs.length=ZL at *
   go_wp2_with fail
   refine hgm.mono ?_
   rintro e w5 ⟨t5,u5,rfl,hb5⟩
   clear hgm
   go_wp2
   go_ret
   exact⟨rfl,hB4.trans (hb5.mono hB4.size)⟩
 have HIN:Hid (∀z∈zs,inNum z=true):=hin
 have hgm:=KFU.out.gone w4 _ zs ⟨HEM.out w4 hB4,hB4.size⟩ hk4 (by rw[HZL.out];exact HK40.out) hin
 clear hk4 hin
 generalize zs.length=ZL at hgm ⊢
 obtain⟨GT,hGT⟩:∃g,goneT zs=g:=⟨_,rfl⟩
 have HGT:Hid (goneT zs=GT):=hGT
 rw[hGT]at hgm HPT
 clear hGT
 go_wp2_with fail
 refine hgm.mono ?_
 rintro e w5 ⟨rfl,hb5⟩
 clear hgm
 have hB5:Below w.heap.size w w5:=hB4.trans (hb5.mono hB4.size)
 have HO5:Hid (SOk (upE EM w.heap.size) SAt w.heap.size w w5 (.pointer (some pt)) FP st∧¬FP sb∧SnAt w5 sb (id,par,seq,day,idx,op,fs) (.slice q L cap)∧FlsAt w5 (.slice tq TL tc) fsT):=HOK.out w5 (hb4.trans (hb5.mono hb4.size))
 clear HOK hb4 hb5 hB3 hB4
 by_cases hk0:KL=0
 case pos =>
   subst hk0
   clear HO5 HK HSH HPT HOWN HKY KFU KU HEM KNH HIN
   go_wp2
   go_ret
   exact⟨rfl,hB5⟩
 have hkz:((KL:Int) == 0)=false:=by simp;omega
 have HNE:Hid (zs≠ []):=fun e=>hk0 (by rw[←HZL.out,e];rfl)
 clear hk0
 -- its files
 have zf:w5.frozen? ⟨sb,6,none⟩=false:=frozen_of_row _ _ _ _ _ HO5.out.2.2.1
 have z6:=HO5.out.2.2.1.cells.2.2.2.2.2.2
 have I6:Hid (ScI EM SAt w (w5.setCell ⟨sb,6,none⟩ (.slice tq TL tc)) (.pointer (some pt)) FP st sb (id,par,seq,day,idx,op,fsT) (.slice tq TL tc)):=by
   obtain⟨g1,g2,g3,g4⟩:=HO5.out
   exact ScI.set KU.out g1 g2 (by rw[HSB.out];exact Nat.le_refl _) g3 g4
 clear HO5 hB5
 go_upto_region 9 with fail
 clear z6 zf
 generalize w5.setCell ⟨sb,6,none⟩ (.slice tq TL tc)=w6 at *
 have HRW:Hid (Calls Tryz.prog 10 #[.pointer (some pt),.agg #[.int .i64 id,.int .i64 par,.int .i64 seq,.int .i64 day,.int .i64 idx,.string op,.slice tq TL tc],.int .i64 minI,.int .i64 maxI] w6 fun e w'=> ∃v' ev,e= .returned (.tuple #[v',ev])∧RowsAt w' v' (rowsS st.obs (id,par,seq,day,idx,op,fsT) minI maxI).1∧ToldE w' a ev (rowsS st.obs (id,par,seq,day,idx,op,fsT) minI maxI).2∧Below w6.heap.size w6 w'∧NewF w6 v') :=
   KNH.out.rows w6 _ FP st (id,par,seq,day,idx,op,fsT) (.slice tq TL tc) minI maxI I6.out.ok.env.1 I6.out.ok.at_ HK.out I6.out.files (by have:=HSH.out.1;rw[←HTL.out]at this;exact Nat.le_trans this (by omega)) HSH.out.2
 have HRK:Hid ((rowsS st.obs (id,par,seq,day,idx,op,fsT) minI maxI).2.1=0→0≤seq):=fun h=>by
   have:=sbnd_all.1 (snap_fine.1 (rows_ok h).1).1
   dsimp only at this
   omega
 have HRL:Hid ((rowsS st.obs (id,par,seq,day,idx,op,fsT) minI maxI).1.length≤4000):=rows_len _ _ _ _ (by have:=HSH.out.1;rw[←HTL.out]at this;exact Nat.le_trans this (by omega))
 have HNW:Hid ((rowsS st.obs (id,par,seq,day,idx,op,fsT) minI maxI).2.1=0→seq<1073741824→findF fsT g99<0→rowsS (putS st g99 GT).obs (id,par,seq+1,day,idx,op,placeL fsT (f99 zs (seq+1))) minI maxI=((rowsS st.obs (id,par,seq,day,idx,op,fsT) minI maxI).1.filter (outB zs),0,none)):=fun h hq hf=>by
   obtain⟨-,hM,-,hn⟩:=HPT.out hf
   exact rows_newer hM HIN.out (by rw[HZL.out];exact HK40.out) HNE.out (s:=(id,par,seq,day,idx,op,fsT)) h hn (by have:=HSH.out.1;rw[←HTL.out]at this;exact Nat.le_trans this (by omega)) hq rfl
 have HOL:Hid ((rowsS st.obs (id,par,seq,day,idx,op,fsT) minI maxI).2.1=0→1≤seq→findF fsT g99<0→rowsS (putS st g99 GT).obs (id,par,seq,day,idx,op,placeL fsT (f99 zs 1)) minI maxI=((rowsS st.obs (id,par,seq,day,idx,op,fsT) minI maxI).1,0,none)):=fun h hq hf=>by
   obtain⟨-,hM,-,hn⟩:=HPT.out hf
   exact rows_older hM HIN.out (by rw[HZL.out];exact HK40.out) HNE.out (s:=(id,par,seq,day,idx,op,fsT)) h hn (by have:=HSH.out.1;rw[←HTL.out]at this;exact Nat.le_trans this (by omega)) hq rfl
 generalize rowsS st.obs (id,par,seq,day,idx,op,fsT) minI maxI=R at *
 have hr0:=HRW.out
 unfold minI maxI at hr0
 obtain⟨z0,z1,z2,z3,z4,z5,z6⟩:=I6.out.snap.cells
 dsimp only at z0 z1 z2 z3 z4 z5 z6
 clear HRW
 go_wp2_with fail
 refine hr0.mono ?_
 rintro e w7 ⟨v7,ev,rfl,hr7,ht7,hb7,hn7⟩
 clear hr0 z0 z1 z2 z3 z4 z5 z6
 have I7:Hid (ScI EM SAt w w7 (.pointer (some pt)) FP st sb (id,par,seq,day,idx,op,fsT) (.slice tq TL tc)):=I6.out.quiet KU.out hb7
 obtain⟨aq,ac,rfl⟩:=hr7.form
 have HRO:Hid (∀k,(Value.slice aq R.1.length ac).ownBlock=some k→¬FP k):=fun k hk hF=>by
   have h1:=hn7 k hk
   have h2:=KU.out.lt _ _ _ _ _ I6.out.ok.at_ hF
   omega
 obtain⟨all,rc⟩:=R
 dsimp only at *
 clear I6 hb7 hn7
 by_cases h0:rc.1=0
 case neg =>
   obtain⟨t,u,rfl⟩:=ht7.bad h0
   clear HRK HRL HNW HOL ht7 hr7 HRO
   generalize all.length=AL at *
   go_wp2
   go_ret
   exact⟨rfl,I7.out.ok.frame⟩
 obtain rfl:=ht7.ok h0
 have hseq0:=HRK.out h0
 have HR7:Hid (RowsAt w7 (.slice aq all.length ac) all):=hr7
 clear HRK ht7 hr7
 obtain⟨AL,hAL⟩:∃A,all.length=A:=⟨_,rfl⟩
 have HLA:Hid (all.length=AL):=hAL
 rw[hAL]at HR7 HRO HRL ⊢
 clear hAL
 have z2:=I7.out.snap.cells.2.2.1
 dsimp only at z2
 by_cases hsq:seq<1073741824
 case neg =>
   have hsd:decide ((1073741824:Int)≤seq)=true:=by simpa using hsq
   clear HNW HOL HR7 HRO HRL
   go_wp2
   go_ret
   exact⟨rfl,I7.out.ok.frame⟩
 have hsd:decide ((1073741824:Int)≤seq)=false:=by simpa using hsq
 have hfi:=find_any (.slice tq TL tc) fsT g99 w7 I7.out.files (by have:=HSH.out.1;rw[HTL.out];omega)
 generalize hFI:findF fsT g99=fi at *
 go_wp2_with fail
 refine hfi.mono ?_
 rintro e w8 ⟨rfl,hb8⟩
 clear hfi z2
 have I8:Hid (ScI EM SAt w w8 (.pointer (some pt)) FP st sb (id,par,seq,day,idx,op,fsT) (.slice tq TL tc)):=I7.out.quiet KU.out hb8
 have HR8:Hid (RowsAt w8 (.slice aq AL ac) all):=HR7.out.below hb8
 clear I7 HR7 hb8 hsd
 by_cases hfn:fi<0
 case neg =>
   have hfd:decide ((0:Int)≤fi)=true:=by simpa using hfn
   clear HNW HOL HR8 HRO HRL
   go_wp2
   go_ret
   exact⟨rfl,I8.out.ok.frame⟩
 have hfd:decide ((0:Int)≤fi)=false:=by simpa using hfn
 -- a newer one
 obtain⟨z0,z1,z2,z3,z4,z5,z6⟩:=I8.out.snap.cells
 dsimp only at z0 z1 z2 z3 z4 z5 z6
 have hal9:Below w8.heap.size w8 (w8.alloc (.cells #[.int .i64 id,.int .i64 par,.int .i64 seq,.int .i64 day,.int .i64 idx,.string op,.slice tq TL tc] 25)):=(Below.refl _ _).alloc (Nat.le_refl _) _
 have hN9:=SnAt.new w8 (id,par,seq,day,idx,op,fsT) (.slice tq TL tc)
 dsimp only at hN9
 go_upto_region 13 with fail
 clear z0 z1 z2 z3 z4 z5 z6
 generalize w8.alloc (.cells #[.int .i64 id,.int .i64 par,.int .i64 seq,.int .i64 day,.int .i64 idx,.string op,.slice tq TL tc] 25)=w9 at *
 have s9:=(I8.out.quiet KU.out hal9).snap
 obtain⟨nb,hnb⟩:∃k,w8.heap.size=k:=⟨_,rfl⟩
 have HNB:Hid (w8.heap.size=nb):=hnb
 rw[hnb]at hN9
 rw[hnb]
 have z2:=s9.cells.2.2.1
 dsimp only at z2
 have n2:=hN9.cells.2.2.1
 dsimp only at n2
 have nf:w9.frozen? ⟨nb,2,none⟩=false:=frozen_of_row _ _ _ _ _ hN9
 have hwr:IntKind.i64.wrap (seq+1)=seq+1:=IntWalk.i64_in _ (by omega)
 have hN10:=hN9.set2 (x:=seq+1)
 have hB10:Below w8.heap.size w8 (w9.setCell ⟨nb,2,none⟩ (.int .i64 (seq+1))):=hal9.setCell (Nat.le_of_eq hnb) _
 clear hN9 s9 hal9 hnb
 go_upto_region 14 with fail
 clear z2 n2 nf hwr
 generalize w9.setCell ⟨nb,2,none⟩ (.int .i64 (seq+1))=w10 at *
 have I10:Hid (ScI EM SAt w w10 (.pointer (some pt)) FP st sb (id,par,seq,day,idx,op,fsT) (.slice tq TL tc)):=I8.out.quiet KU.out hB10
 obtain⟨hpc,-,hks,-⟩:=HPT.out hfn
 have HKS':Hid (Keeps (putS st g99 GT)):=hks
 have HNW':Hid (rowsS (putS st g99 GT).obs (id,par,seq+1,day,idx,op,placeL fsT (f99 zs (seq+1))) minI maxI=(all.filter (outB zs),0,none)):=HNW.out h0 hsq hfn
 have HOL':Hid (1≤seq→rowsS (putS st g99 GT).obs (id,par,seq,day,idx,op,placeL fsT (f99 zs 1)) minI maxI=(all,0,none)):=fun h=>HOL.out h0 h hfn
 have HFO:Hid (ofF g99 ⟨#[45]⟩ GT.data.toList (seq+1)=(f99 zs (seq+1),0)):=by
   have:=(f99_ok HIN.out (by rw[HZL.out];exact HK40.out) HNE.out (q:=seq+1) (by omega) (by omega)).2
   rw[HGT.out]at this
   exact this
 have hpu:=put3_any KU.out KFU.out w10 (.pointer (some pt)) FP st g99 ⟨#[45]⟩ GT (seq+1) I10.out.ok.env I10.out.ok.at_ I10.out.ok.new HK.out (by decide) (by decide) (by have:=goneT_size (zs:=zs) (by rw[HZL.out];exact HK40.out);rw[HGT.out]at this;omega) hpc (by rw[HFO.out])
 rw[HFO.out]at hpu
 dsimp only at hpu
 unfold f99 at hpu HNW' HOL'
 unfold flV at hpu
 dsimp only at hpu
 generalize ((riseZ zs).length:Int)=FN at hpu HNW' HOL'
 generalize (endsZ (riseZ zs)).1=FLO at hpu HNW' HOL'
 generalize (endsZ (riseZ zs)).2=FHI at hpu HNW' HOL'
 generalize putS st g99 GT=st' at *
 have n2:=hN10.cells.2.2.1
 dsimp only at n2
 clear HNW HOL HPT hpc hks HFO HK I10
 go_wp2_with fail
 refine hpu.mono ?_
 rintro e w11 ⟨rfl,hp11⟩
 clear hpu n2
 have hnl:nb<w10.heap.size:=hN10.lt
 obtain⟨FP',hD,hnf,hlf,hbt,hnF⟩:=dx_post KU.out I8.out HR8.out (fun _=>HRO.out) HOWN.out hB10 (by rw[HNB.out];exact hnl) hp11
 rw[HNB.out]at hD hnf hnF
 have HD:Hid (∀X,But (fun k=>k=nb) w11 X→ScI EM SAt w X (.pointer (some pt)) FP' st' sb (id,par,seq,day,idx,op,fsT) (.slice tq TL tc)∧RowsAt X (.slice aq AL ac) all):=hD
 have hN11:SnAt w11 nb (id,par,seq+1,day,idx,op,fsT) (.slice tq TL tc):=(hbt.block nb hnl hnF).trans hN10
 clear hD hp11 hB10 hN10 hbt hnF I8 HR8 HRO HOWN hlf hnf hnl
 have hal12:Below w11.heap.size w11 (w11.alloc (.cells #[.string g99,.string ⟨#[45]⟩,.int .i64 FN,.int .i64 FLO,.int .i64 FHI,.int .i64 (seq+1)] 63)):=(Below.refl _ _).alloc (Nat.le_refl _) _
 have hF12:FlAt (w11.alloc (.cells #[.string g99,.string ⟨#[45]⟩,.int .i64 FN,.int .i64 FLO,.int .i64 FHI,.int .i64 (seq+1)] 63)) w11.heap.size (g99,⟨#[45]⟩,FN,FLO,FHI,seq+1):=FlAt.new w11 (g99,⟨#[45]⟩,FN,FLO,FHI,seq+1)
 go_upto_region 15 with fail
 generalize w11.alloc (.cells #[.string g99,.string ⟨#[45]⟩,.int .i64 FN,.int .i64 FLO,.int .i64 FHI,.int .i64 (seq+1)] 63)=w12 at *
 have hN12:=hN11.below hal12
 have hR12:But (fun k=>k=nb) w11 w12:=But.of_below hal12
 obtain⟨fb,hfb⟩:∃k,w11.heap.size=k:=⟨_,rfl⟩
 have HFB:Hid (w11.heap.size=fb):=hfb
 have hne:nb≠fb:=by have:=hN11.lt;omega
 rw[hfb]at hF12
 rw[hfb]
 clear hfb hN11 hal12
 have hpl:=placed_new (.slice tq TL tc) fsT (g99,⟨#[45]⟩,FN,FLO,FHI,seq+1) w12 (HD.out w12 hR12).1.files (by have:=HSH.out.1;rw[HTL.out];omega) (fun g hg=>by have:=(HSH.out.2 g hg).1;omega) (show g99.size≤100000 by decide)
 have HSP:Hid (Short (placeL fsT (g99,⟨#[45]⟩,FN,FLO,FHI,seq+1))∧(placeL fsT (g99,⟨#[45]⟩,FN,FLO,FHI,seq+1)).length≤fsT.length+1):=place_short HSH.out.2 ⟨show g99.size≤30 by decide,show (⟨#[45]⟩:ByteArray).size≤30 by decide⟩
 obtain⟨f0,f1,f2,f3,f4,f5,ff⟩:=hF12.cells
 dsimp only at f0 f1 f2 f3 f4 f5
 unfold flV at hpl
 dsimp only at hpl
 generalize placeL fsT (g99,⟨#[45]⟩,FN,FLO,FHI,seq+1)=PF at *
 go_wp2_with fail
 refine hpl.mono ?_
 rintro e w13 ⟨v13,rfl,hf13,-,hb13⟩
 clear hpl f0 f1 f2 f3 f4 f5 ff
 have hN13:=hN12.below hb13
 have hF13:=hF12.below hb13
 have hR13:But (fun k=>k=nb) w11 w13:=hR12.trans (Q:=fun _=>False) (But.of_below hb13) (fun _ h=>h.elim)
 clear hN12 hF12 hR12 hb13
 obtain⟨pfq,pfc,rfl⟩:=hf13.form
 have n6:=hN13.cells.2.2.2.2.2.2
 have nf:w13.frozen? ⟨nb,6,none⟩=false:=frozen_of_row _ _ _ _ _ hN13
 have hN14:=hN13.set6 (gs:=PF) (vg:=.slice pfq PF.length pfc)
 have hf14:=hf13.set_off (off_of hN13 hf13) 6 (.slice pfq PF.length pfc)
 have hR14:But (fun k=>k=nb) w11 (w13.setCell ⟨nb,6,none⟩ (.slice pfq PF.length pfc)):=hR13.setCell (Or.inl rfl) _
 have hF14:FlAt (w13.setCell ⟨nb,6,none⟩ (.slice pfq PF.length pfc)) fb (g99,⟨#[45]⟩,FN,FLO,FHI,seq+1):=(heap_setCell_other _ _ _ _ (fun e=>hne e.symm)).trans hF13
 clear hN13 hf13 hR13 hF13
 have HPL:Hid (∀g,g=PF→g.length≤100):=fun g hg=>by rw[hg];exact Nat.le_trans HSP.out.2 (by have h2:=HSH.out.1;have h3:=HTL.out;rw[h3];omega)
 generalize PF.length=PFL at *
 go_upto_region 18 with fail
 clear n6 nf
 generalize w13.setCell ⟨nb,6,none⟩ (.slice pfq PFL pfc)=w14 at *
 obtain⟨hS14,-⟩:=HD.out w14 hR14
 have hrn:=KNH.out.rows w14 (.pointer (some pt)) FP' st' (id,par,seq+1,day,idx,op,PF) (.slice pfq PFL pfc) minI maxI hS14.ok.env.1 hS14.ok.at_ HKS'.out hf14 (HPL.out _ rfl) HSP.out.1
 rw[HNW'.out]at hrn
 obtain⟨z0,z1,z2,z3,z4,z5,z6⟩:=hN14.cells
 dsimp only at z0 z1 z2 z3 z4 z5 z6
 unfold snV minI maxI at hrn
 dsimp only at hrn
 clear hS14 HNW' HSP hN14 hf14
 go_wp2_with fail
 refine hrn.mono ?_
 rintro e w15 ⟨v15,ev15,rfl,hr15,ht15,hb15,-⟩
 obtain rfl:=ht15.ok rfl
 clear hrn ht15 z0 z1 z2 z3 z4 z5 z6
 have hR15:But (fun k=>k=nb) w11 w15:=hR14.trans (Q:=fun _=>False) (But.of_below hb15) (fun _ h=>h.elim)
 have hF15:=hF14.below hb15
 clear hR14 hF14 hb15
 obtain⟨xq,xc,rfl⟩:=hr15.form
 obtain⟨hS15,hA15⟩:=HD.out w15 hR15
 have hdr:=drop_any (.slice aq AL ac) (.slice kq KL kc) all zs w15 hA15 (HKY.out w15 hS15.ok.frame) (by have:=HRL.out;rw[HLA.out];omega) (by have:=HK40.out;rw[HZL.out];omega)
 have hfle:=List.length_filter_le (outB zs) all
 rw[HLA.out]at hfle
 have HX15:Hid (∀X,Below w15.heap.size w15 X→RowsAt X (.slice xq (all.filter (outB zs)).length xc) (all.filter (outB zs))):=fun X hX=>hr15.below hX
 clear hr15 hS15 hA15
 generalize all.filter (outB zs)=xs at *
 obtain⟨XL,hXL⟩:∃k,xs.length=k:=⟨_,rfl⟩
 have HXL:Hid (xs.length=XL):=hXL
 rw[hXL]at HX15 hfle
 rw[hXL]
 clear hXL
 go_wp2_with fail
 refine hdr.mono ?_
 rintro e w16 ⟨v16,rfl,hr16,hb16⟩
 clear hdr
 obtain⟨yq,yc,rfl⟩:=hr16.form
 have hsr:=sameRows_any (.slice xq XL xc) (.slice yq xs.length yc) xs xs w16 (HX15.out w16 hb16) hr16 (by have:=HRL.out;rw[HXL.out];omega) (by have:=HRL.out;rw[HXL.out];omega)
 rw[decide_eq_true rfl]at hsr
 clear hr16 HX15
 generalize xs.length=XL2 at *
 go_wp2_with fail
 refine hsr.mono ?_
 rintro e w17 ⟨rfl,hb17⟩
 clear hsr
 have hb1517:Below w15.heap.size w15 w17:=hb16.trans (hb17.mono hb16.size)
 have hR17:But (fun k=>k=nb) w11 w17:=hR15.trans (Q:=fun _=>False) (But.of_below hb1517) (fun _ h=>h.elim)
 have hF17:=hF15.below hb1517
 clear hR15 hF15 hb16 hb17 hb1517 hfle HXL
 -- an older one
 obtain⟨-,-,-,-,-,f5,-⟩:=hF17.cells
 dsimp only at f5
 have ff:w17.frozen? ⟨fb,5,none⟩=false:=frozen_of_row _ _ _ _ _ hF17
 have hF18:=hF17.set5 (x:=1)
 have hR18:But (fun k=>k=nb) w11 (w17.setCell ⟨fb,5,none⟩ (.int .i64 1)):=hR17.setCell (Or.inr (Nat.le_of_eq HFB.out)) _
 clear hF17 hR17
 go_upto_region 22 with fail
 clear f5 ff
 generalize w17.setCell ⟨fb,5,none⟩ (.int .i64 1)=w18 at *
 obtain⟨hS18,-⟩:=HD.out w18 hR18
 obtain⟨z0,z1,z2,z3,z4,z5,z6⟩:=hS18.snap.cells
 dsimp only at z0 z1 z2 z3 z4 z5 z6
 have hal19:Below w18.heap.size w18 (w18.alloc (.cells #[.int .i64 id,.int .i64 par,.int .i64 seq,.int .i64 day,.int .i64 idx,.string op,.slice tq TL tc] 25)):=(Below.refl _ _).alloc (Nat.le_refl _) _
 have hN19:=SnAt.new w18 (id,par,seq,day,idx,op,fsT) (.slice tq TL tc)
 dsimp only at hN19
 clear hS18
 go_upto_region 23 with fail
 clear z0 z1 z2 z3 z4 z5 z6
 generalize w18.alloc (.cells #[.int .i64 id,.int .i64 par,.int .i64 seq,.int .i64 day,.int .i64 idx,.string op,.slice tq TL tc] 25)=w19 at *
 have hR19:But (fun k=>k=nb) w11 w19:=hR18.trans (Q:=fun _=>False) (But.of_below hal19) (fun _ h=>h.elim)
 have hF19:=hF18.below hal19
 have hsz18:=hR18.size
 obtain⟨ob,hob⟩:∃k,w18.heap.size=k:=⟨_,rfl⟩
 rw[hob]at hN19 hsz18
 rw[hob]
 clear hob hR18 hF18 hal19
 have hpl:=placed_new (.slice tq TL tc) fsT (g99,⟨#[45]⟩,FN,FLO,FHI,1) w19 (HD.out w19 hR19).1.files (by have:=HSH.out.1;rw[HTL.out];omega) (fun g hg=>by have:=(HSH.out.2 g hg).1;omega) (show g99.size≤100000 by decide)
 have HSP:Hid (Short (placeL fsT (g99,⟨#[45]⟩,FN,FLO,FHI,1))∧(placeL fsT (g99,⟨#[45]⟩,FN,FLO,FHI,1)).length≤fsT.length+1):=place_short HSH.out.2 ⟨show g99.size≤30 by decide,show (⟨#[45]⟩:ByteArray).size≤30 by decide⟩
 obtain⟨f0,f1,f2,f3,f4,f5,ff⟩:=hF19.cells
 dsimp only at f0 f1 f2 f3 f4 f5
 unfold flV at hpl
 dsimp only at hpl
 generalize placeL fsT (g99,⟨#[45]⟩,FN,FLO,FHI,1)=PF at *
 go_wp2_with fail
 refine hpl.mono ?_
 rintro e w20 ⟨v20,rfl,hf20,-,hb20⟩
 clear hpl f0 f1 f2 f3 f4 f5 ff
 have hN20:=hN19.below hb20
 have hR20:But (fun k=>k=nb) w11 w20:=hR19.trans (Q:=fun _=>False) (But.of_below hb20) (fun _ h=>h.elim)
 clear hN19 hF19 hR19 hb20
 obtain⟨pfq,pfc,rfl⟩:=hf20.form
 have n6:=hN20.cells.2.2.2.2.2.2
 have nf:w20.frozen? ⟨ob,6,none⟩=false:=frozen_of_row _ _ _ _ _ hN20
 have hN21:=hN20.set6 (gs:=PF) (vg:=.slice pfq PF.length pfc)
 have hf21:=hf20.set_off (off_of hN20 hf20) 6 (.slice pfq PF.length pfc)
 have hR21:But (fun k=>k=nb) w11 (w20.setCell ⟨ob,6,none⟩ (.slice pfq PF.length pfc)):=hR20.setCell (Or.inr hsz18) _
 clear hN20 hf20 hR20 hsz18
 have HPL:Hid (∀g,g=PF→g.length≤100):=fun g hg=>by rw[hg];exact Nat.le_trans HSP.out.2 (by have h2:=HSH.out.1;have h3:=HTL.out;rw[h3];omega)
 generalize PF.length=PFL at *
 go_upto_region 24 with fail
 clear n6 nf
 generalize w20.setCell ⟨ob,6,none⟩ (.slice pfq PFL pfc)=w21 at *
 obtain⟨hS21,-⟩:=HD.out w21 hR21
 obtain⟨z0,z1,z2,z3,z4,z5,z6⟩:=hN21.cells
 dsimp only at z0 z1 z2 z3 z4 z5 z6
 have HB21:Hid (Below w.heap.size w w21):=hS21.ok.frame
 by_cases hs1:seq<1
 case pos =>
   have hsd:decide (seq<1)=true:=decide_eq_true hs1
   clear HD HSP hN21 hf21 hR21 hS21 HOL'
   go_wp2
   go_ret
   exact⟨rfl,HB21.out⟩
 have hsd:decide (seq<1)=false:=decide_eq_false hs1
 have hro:=KNH.out.rows w21 (.pointer (some pt)) FP' st' (id,par,seq,day,idx,op,PF) (.slice pfq PFL pfc) minI maxI hS21.ok.env.1 hS21.ok.at_ HKS'.out hf21 (HPL.out _ rfl) HSP.out.1
 rw[HOL'.out (by omega)]at hro
 unfold snV minI maxI at hro
 dsimp only at hro
 clear hS21 HOL' HSP hN21 hf21
 go_wp2_with fail
 refine hro.mono ?_
 rintro e w22 ⟨v22,ev22,rfl,hr22,ht22,hb22,-⟩
 obtain rfl:=ht22.ok rfl
 clear hro ht22 z0 z1 z2 z3 z4 z5 z6
 have hR22:But (fun k=>k=nb) w11 w22:=hR21.trans (Q:=fun _=>False) (But.of_below hb22) (fun _ h=>h.elim)
 obtain⟨hS22,hA22⟩:=HD.out w22 hR22
 obtain⟨xq,xc,rfl⟩:=hr22.form
 have hsr:=sameRows_any (.slice xq all.length xc) (.slice aq AL ac) all all w22 hr22 hA22 (by have:=HRL.out;rw[HLA.out];omega) (by have:=HRL.out;rw[HLA.out];omega)
 rw[decide_eq_true rfl]at hsr
 have HB22:Hid (Below w.heap.size w w22):=hS22.ok.frame
 clear hr22 hS22 hA22 HD hR21 hR22 hb22
 generalize all.length=XL at *
 go_wp2_with fail
 refine hsr.mono ?_
 rintro e w23 ⟨rfl,hb23⟩
 clear hsr
 go_wp2
 go_ret
 exact⟨rfl,HB22.out.trans (hb23.mono HB22.out.size)⟩
end
end Go.Proofs.YtdhkdjlgmbejnaaGreatDoor
namespace Go.Proofs.YtdhkdjlgmbejnaaGreatDoor
open Go
set_option maxRecDepth 100000
theorem scanDeletes_inPlace:Tryz.prog.inPlace 5=Rows.scanDeletesRow.inPlace:=by kernel_rfl
theorem scanDeletes_unfollowed:Tryz.prog.unfollowed 5=true:=by kernel_rfl
theorem scanDeletes_recurses:Tryz.prog.recurses 5=true:=by unfold Program.recurses;rw[scanDeletes_unfollowed];rfl
theorem scanDeletes_named:Tryz.prog.varsNamed 5=Rows.scanDeletesRow.named:=by kernel_rfl
theorem scanDeletes_facts:joinedFacts Tryz.prog 5 Tryz.f5 Rows.scanDeletesSpec Rows.scanDeletesRow=true:=by
 unfold joinedFacts
 rw[scanDeletes_inPlace,scanDeletes_unfollowed,scanDeletes_recurses,scanDeletes_named]
 kernel_rfl
end Go.Proofs.YtdhkdjlgmbejnaaGreatDoor
