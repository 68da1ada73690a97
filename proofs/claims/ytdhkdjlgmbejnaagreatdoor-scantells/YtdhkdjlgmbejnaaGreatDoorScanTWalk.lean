/- By an AI agent. -/
import Derived.Test.YtdhkdjlgmbejnaaGreatDoorScanTl
namespace Go.Proofs.YtdhkdjlgmbejnaaGreatDoor
open Go.RowKit Go.Extern.Stop Go.Stop Go.Extern Go.Sort Go.Shelf Go.Lib
section
variable {a : Nat → Addr} {B : Nat} {EM : World → Prop} {SAt : World → Value → (Nat → Prop) → St → Prop}
set_option maxRecDepth 100000 in
set_option maxHeartbeats 16000000 in
theorem scanTells_any (K:StoreK a B EM SAt) (KF:FilesK a EM) (KS:ScanK a EM SAt) (KG:ScanF a EM SAt) (vl:Value) (l:List Pc) (s:Sn) (vf:Value) (lo hi key:Int) (w:World) (hEr:Errs w a) (hE:EM w) (hp:PcsAt w vl l) (hpl:l.length≤maxLen) (hpz:∀p∈l,PcOk p) (hx:FlsAt w vf s.2.2.2.2.2.2) (ho:s.2.2.2.2.2.1.size≤maxLen) (hfl:s.2.2.2.2.2.2.length≤maxLen) (hfz:∀f∈s.2.2.2.2.2.2,f.1.size≤maxLen∧f.2.1.size≤maxLen) :
   Calls Tryz.prog 4 #[vl,snV s vf,.int .i64 lo,.int .i64 hi,.int .i64 key] w fun e w'=>e= .returned (.bool true)∧Below w.heap.size w w':=by
 have KU:Hid (StoreK a w.heap.size (upE EM w.heap.size) SAt):=K.up (K.size w hE)
 have HEM:Hid (∀X,Below w.heap.size w X→EM X):=fun X hX=>K.below w X hE (hX.mono (K.size w hE))
 have KSU:Hid (ScanK a (upE EM w.heap.size) SAt):=KS.up _
 have KGH:Hid (ScanF a EM SAt):=KG
 have HER:Hid (∀X,Below w.heap.size w X→Errs X a):=fun X hX=>hEr.below hX
 have HSC:Hid (∀X,Below w.heap.size w X→Calls Tryz.prog 6 #[] X fun e w'=>e= .returned (.bool true)∧Below X.heap.size X w'):=fun X hX=>scanned_any K KF KS X (HEM.out X hX)
 have HPC:Hid (∀X,Below w.heap.size w X→PcsAt X vl l):=fun X hX=>hp.below hX
 have HLP:Hid (∀X,Below w.heap.size w X→Calls Tryz.prog 7 #[vl] X fun e w'=>e= .returned (.bool (pcsLong l))∧w'=X):=fun X hX=>longPieces_any vl l X (HPC.out X hX) hpl hpz
 have HFX:Hid (∀X,Below w.heap.size w X→FlsAt X vf s.2.2.2.2.2.2):=fun X hX=>hx.below hX
 have HLS:Hid (∀X,Below w.heap.size w X→Calls Tryz.prog 8 #[snV s vf] X fun e w'=>e= .returned (.int .i64 (if longSn s then 1 else 0))∧Below X.heap.size X w'):=fun X hX=>longSnap_any s vf X (HFX.out X hX) ho hfl hfz
 have HTB:Hid (∀X,Below w.heap.size w X→pcsLong l=false→Calls Tryz.prog 9 #[vl] X fun e w'=> ∃vs FP b vf,e= .returned (.tuple #[vs,.pointer (some ⟨b,0,none⟩),vf])∧TabI (upE EM X.heap.size) SAt X.heap.size X w' vs FP (tabT l).1 (tabT l).2 (tabT l).2 b vf):=fun X hX hs=>table_any K vl l X (HEM.out X hX) (HPC.out X hX) hs
 have HST:Hid (pcsLong l=false→longSn s=false→(snapT l s).2.2.2.2.2.2.length≤100∧Short (snapT l s).2.2.2.2.2.2):=snapT_short
 have HKE:Hid (pcsLong l=false→Keeps (tabT l).2):=fun h=>(tab_all h).1.keeps
 have HSN:Hid (snapT l s=if s.2.2.2.2.2.2= [] then (s.1,s.2.1,s.2.2.1,s.2.2.2.1,s.2.2.2.2.1,s.2.2.2.2.2.1,(tabT l).1) else s):=rfl
 generalize snapT l s=s' at HST HSN
 obtain⟨q,cap,rfl⟩:=hx.form
 obtain⟨pq,pc,rfl⟩:=hp.form
 generalize l.length=PL at HPC HLP HTB ⊢
 have hsn:=SnAt.new w s (.slice q s.2.2.2.2.2.2.length cap)
 clear K KF KS KG hE hEr hp hpl hpz hx ho hfl hfz
 unfold snV at HLS ⊢
 obtain⟨id,par,seq,day,idx,op,fs⟩:=s
 dsimp only at *
 obtain⟨L,hL⟩:∃L,fs.length=L:=⟨_,rfl⟩
 have HLE:Hid (fs.length=L):=hL
 rw[hL]at HFX HLS hsn ⊢
 clear hL
 have hal:Below w.heap.size w (w.alloc (.cells #[.int .i64 id,.int .i64 par,.int .i64 seq,.int .i64 day,.int .i64 idx,.string op,.slice q L cap] 25)):=(Below.refl _ _).alloc (Nat.le_refl _) _
 have hsc:=HSC.out _ hal
 go_enter Tryz.func4,Tryz.ntmps4
 go_wp2_with fail
 generalize w.alloc (.cells #[.int .i64 id,.int .i64 par,.int .i64 seq,.int .i64 day,.int .i64 idx,.string op,.slice q L cap] 25)=WA at hal hsn hsc ⊢
 refine hsc.mono ?_
 rintro e w1 ⟨rfl,hb1⟩
 clear hsc HSC
 have hB1:Below w.heap.size w w1:=hal.trans (hb1.mono hal.size)
 have hs1:=hsn.below hb1
 obtain⟨sb,hsbe⟩:∃k,w.heap.size=k:=⟨_,rfl⟩
 have HSB:Hid (w.heap.size=sb):=hsbe
 rw[hsbe]at hs1
 rw[hsbe]
 clear hal hsn hb1 hsbe
 obtain⟨LP,hLP⟩:∃B,pcsLong l=B:=⟨_,rfl⟩
 obtain⟨LS,hLS⟩:∃B,longSn (id,par,seq,day,idx,op,fs)=B:=⟨_,rfl⟩
 rw[hLP]at HLP HTB HST HKE
 rw[hLS]at HLS HST
 clear hLP hLS
 go_upto_region 2 with fail
 go_cut [38] from 28 to 37 (fun c wx=>c= .bool (LP || LS)∧Below w1.heap.size w1 wx)
 case first =>
   have hlp:=HLP.out w1 hB1
   clear HLP
   cases LP
   · obtain⟨z0,z1,z2,z3,z4,z5,z6⟩:=hs1.cells
     dsimp only at z0 z1 z2 z3 z4 z5 z6
     have hl1:=HLS.out w1 hB1
     clear hs1
     go_wp2_with fail
     refine hlp.mono ?_
     rintro e w2 ⟨rfl,rfl⟩
     clear hlp
     cases LS
     · simp only[Bool.false_eq_true,if_false]at hl1
       go_wp2_with fail
       refine hl1.mono ?_
       rintro e w2 ⟨rfl,hb2⟩
       clear hl1
       go_wp2
       go_meet
       case rel=>exact ⟨rfl,hb2⟩
     · simp only[if_true]at hl1
       go_wp2_with fail
       refine hl1.mono ?_
       rintro e w2 ⟨rfl,hb2⟩
       clear hl1
       go_wp2
       go_meet
       case rel=>exact ⟨rfl,hb2⟩
   · clear hs1
     go_wp2_with fail
     refine hlp.mono ?_
     rintro e w2 ⟨rfl,rfl⟩
     clear hlp
     go_wp2
     go_meet
     case rel=>exact ⟨by simp,Below.refl _ _⟩
 case rest =>
 obtain⟨rfl,hbc⟩:=hcut
 have hB2:Below w.heap.size w wc:=hB1.trans (hbc.mono hB1.size)
 have hs2:=hs1.below hbc
 clear hs1 hB1 hbc HLP HLS
 generalize wc=w2 at *
 cases hLB:(LP || LS)
 case true =>
   clear hs2
   go_wp2
   go_ret
   exact⟨rfl,hB2⟩
 rw[Bool.or_eq_false_iff]at hLB
 obtain⟨rfl,rfl⟩:=hLB
 obtain⟨hsl,hss⟩:=HST.out rfl rfl
 have HSH:Hid (s'.2.2.2.2.2.2.length≤100∧Short s'.2.2.2.2.2.2):=⟨hsl,hss⟩
 have HK:Hid (Keeps (tabT l).2):=HKE.out rfl
 have htb:=HTB.out w2 hB2 rfl
 clear hsl hss HST HKE HTB
 go_wp2_with fail
 refine htb.mono ?_
 rintro e w3 ⟨vs,FP,b,vt,rfl,hT⟩
 clear htb
 obtain⟨hok,hoff⟩:=tab_ok hT hB2
 obtain⟨pt,rfl⟩:=KU.out.ptr _ _ _ _ hok.at_
 have hoffs:¬FP sb:=hoff sb hs2.lt
 have hs3:SnAt w3 sb (id,par,seq,day,idx,op,fs) (.slice q L cap):=(hT.both.ok.frame.block sb hs2.lt).trans hs2
 have hft:=hT.files
 obtain⟨tq,tc,rfl⟩:=hft.form
 have HOK:Hid (SOk (upE EM w.heap.size) SAt w.heap.size w w3 (.pointer (some pt)) FP (tabT l).2∧¬FP sb∧SnAt w3 sb (id,par,seq,day,idx,op,fs) (.slice q L cap)∧FlsAt w3 (.slice tq (tabT l).1.length tc) (tabT l).1):=⟨hok,hoffs,hs3,hft⟩
 have HMA:Hid (MAt w3 b (tabT l).2):=hT.both.mat
 have HMB:Hid (∀z,MAt (w3.setCell ⟨sb,6,none⟩ z) b (tabT l).2):=fun z=>mat_off hT.both.mat hs3 z
 have z6:=hs3.cells.2.2.2.2.2.2
 have zf:w3.frozen? ⟨sb,6,none⟩=false:=frozen_of_row _ _ _ _ _ hs3
 clear hT hok hoff hoffs hs3 hft hs2 hB2
 generalize hTL:(tabT l).1.length=TL at *
 clear hTL
 go_upto_if 51 with fail
 go_cut [51] from 52 to 53 (fun _ wx=> ∃vx,ScI EM SAt w wx (.pointer (some pt)) FP (tabT l).2 sb s' vx∧MAt wx b (tabT l).2)
 case first =>
   by_cases hL0:L=0
   · have hfs:fs= []:=List.length_eq_zero_iff.1 (by rw[HLE.out];exact hL0)
     have HS':Hid (s'=(id,par,seq,day,idx,op,(tabT l).1)):=by
       show _=_
       rw[HSN.out,if_pos hfs]
     have HEND:Hid (ScI EM SAt w (w3.setCell ⟨sb,6,none⟩ (.slice tq TL tc)) (.pointer (some pt)) FP (tabT l).2 sb s' (.slice tq TL tc)):=by
       obtain⟨g1,g2,g3,g4⟩:=HOK.out
       rw[HS'.out]
       exact ScI.set KU.out g1 g2 (by rw[HSB.out];exact Nat.le_refl _) g3 g4
     have hd:(((L:Int)) == 0)=true:=by simp;omega
     clear hL0 hfs HOK HSN HS'
     go_wp2
     go_meet
     case rel=>exact ⟨_,HEND.out,HMB.out _⟩
   · have hfs:fs≠ []:=fun e=>hL0 (by rw[←HLE.out,e];rfl)
     have HS':Hid (s'=(id,par,seq,day,idx,op,fs)):=by
       show _=_
       rw[HSN.out,if_neg hfs]
     have HEND:Hid (ScI EM SAt w w3 (.pointer (some pt)) FP (tabT l).2 sb s' (.slice q L cap)):=by
       obtain⟨g1,g2,g3,g4⟩:=HOK.out
       rw[HS'.out]
       exact⟨g1,g2,by rw[HSB.out];exact Nat.le_refl _,g3,HFX.out w3 g1.frame⟩
     have hd:(((L:Int)) == 0)=false:=by simp;omega
     clear hL0 hfs HOK HSN HS'
     go_wp2
     go_meet
     case rel=>exact ⟨_,HEND.out,HMA.out⟩
 case rest =>
 obtain⟨vx,hI,hM4⟩:=hcut
 have I4:Hid (ScI EM SAt w wc (.pointer (some pt)) FP (tabT l).2 sb s' vx∧MAt wc b (tabT l).2):=⟨hI,hM4⟩
 clear hI hM4 HOK HSN z6 zf HFX HMA HMB
 generalize wc=w4 at *
 obtain⟨ID,PAR,SEQ,DAY,IDX,OP,FS⟩:=s'
 dsimp only at *
 obtain⟨st,hst⟩:∃g,(tabT l).2=g:=⟨_,rfl⟩
 rw[hst]at I4 HK
 clear hst HPC HLE HEM
 obtain⟨xq,xc,hvx⟩:=I4.out.1.files.form
 subst hvx
 have HSZ:Hid (∀f∈FS,f.1.size≤100000∧f.2.1.size≤100000):=fun f hf=>by have:=HSH.out.2 f hf;omega
 have HQ:Hid (∀X X',(ScI EM SAt w X (.pointer (some pt)) FP st sb (ID,PAR,SEQ,DAY,IDX,OP,FS) (.slice xq FS.length xc)∧MAt X b st)→Below X.heap.size X X'→(ScI EM SAt w X' (.pointer (some pt)) FP st sb (ID,PAR,SEQ,DAY,IDX,OP,FS) (.slice xq FS.length xc)∧MAt X' b st)):=fun X X' h hb=>⟨h.1.quiet KU.out hb,h.2.below hb⟩
 have HOS:Hid (∀X,(ScI EM SAt w X (.pointer (some pt)) FP st sb (ID,PAR,SEQ,DAY,IDX,OP,FS) (.slice xq FS.length xc)∧MAt X b st)→Calls Tryz.prog 16 #[.agg #[.int .i64 ID,.int .i64 PAR,.int .i64 SEQ,.int .i64 DAY,.int .i64 IDX,.string OP,.slice xq FS.length xc]] X fun e w'=> ∃q' c',e= .returned (.agg #[.int .i64 ID,.int .i64 PAR,.int .i64 SEQ,.int .i64 DAY,.int .i64 IDX,.string OP,(.slice q' FS.length c')])∧FlsAt w' (.slice q' FS.length c') FS∧Below X.heap.size X w'):=fun X h=>by
   refine(ownSnap_any (ID,PAR,SEQ,DAY,IDX,OP,FS) (.slice xq FS.length xc) X h.1.files (by have:=HSH.out.1;dsimp only;omega)).mono ?_
   rintro e w' ⟨v',rfl,hf,hb⟩
   obtain⟨q',c',rfl⟩:=hf.form
   exact⟨q',c',rfl,hf,hb⟩
 have HRW:Hid (∀(X:World) (q':Option Addr) (c':Nat) (x y:Int),ScI EM SAt w X (.pointer (some pt)) FP st sb (ID,PAR,SEQ,DAY,IDX,OP,FS) (.slice xq FS.length xc)→FlsAt X (.slice q' FS.length c') FS→Calls Tryz.prog 10 #[.pointer (some pt),.agg #[.int .i64 ID,.int .i64 PAR,.int .i64 SEQ,.int .i64 DAY,.int .i64 IDX,.string OP,(.slice q' FS.length c')],.int .i64 x,.int .i64 y] X fun e w'=> ∃v' ev,e= .returned (.tuple #[v',ev])∧RowsAt w' v' (rowsS st.obs (ID,PAR,SEQ,DAY,IDX,OP,FS) x y).1∧ToldE w' a ev (rowsS st.obs (ID,PAR,SEQ,DAY,IDX,OP,FS) x y).2∧Below X.heap.size X w'):=fun X q' c' x y h hf =>
   KSU.out.rows X _ FP st (ID,PAR,SEQ,DAY,IDX,OP,FS) _ x y h.ok.env h.ok.at_ HK.out hf HSH.out.1 HSH.out.2
 have HCO:Hid (∀(X:World) (q':Option Addr) (c':Nat),ScI EM SAt w X (.pointer (some pt)) FP st sb (ID,PAR,SEQ,DAY,IDX,OP,FS) (.slice xq FS.length xc)→FlsAt X (.slice q' FS.length c') FS→Calls Tryz.prog 13 #[.pointer (some pt),.agg #[.int .i64 ID,.int .i64 PAR,.int .i64 SEQ,.int .i64 DAY,.int .i64 IDX,.string OP,(.slice q' FS.length c')]] X fun e w'=> ∃ev,e= .returned (.tuple #[.int .i64 (rowsS st.obs (ID,PAR,SEQ,DAY,IDX,OP,FS) (-1099511627776) 1099511627776).1.length,ev])∧ToldE w' a ev (rowsS st.obs (ID,PAR,SEQ,DAY,IDX,OP,FS) (-1099511627776) 1099511627776).2∧Below X.heap.size X w'):=fun X q' c' h hf =>
   KSU.out.count X _ FP st (ID,PAR,SEQ,DAY,IDX,OP,FS) _ h.ok.env h.ok.at_ HK.out hf HSH.out.1 HSH.out.2
 have HFI:Hid (∀(X:World) (q':Option Addr) (c':Nat),ScI EM SAt w X (.pointer (some pt)) FP st sb (ID,PAR,SEQ,DAY,IDX,OP,FS) (.slice xq FS.length xc)→FlsAt X (.slice q' FS.length c') FS→Calls Tryz.prog 19 #[.pointer (some pt),.agg #[.int .i64 ID,.int .i64 PAR,.int .i64 SEQ,.int .i64 DAY,.int .i64 IDX,.string OP,(.slice q' FS.length c')],.int .i64 key] X fun e w'=> ∃v' ev,e= .returned (.tuple #[v',ev])∧KeysAt w' v' (valsZ (rowsS st.obs (ID,PAR,SEQ,DAY,IDX,OP,FS) key key).1)∧ToldE w' a ev (rowsS st.obs (ID,PAR,SEQ,DAY,IDX,OP,FS) key key).2∧Below X.heap.size X w'∧NewF X v'):=fun X q' c' h hf =>
   KGH.out.find X _ FP st (ID,PAR,SEQ,DAY,IDX,OP,FS) _ key h.ok.env.1 h.ok.at_ HK.out hf HSH.out.1 HSH.out.2
 have HRO:Hid (∀(X:World) (x y:Int),(ScI EM SAt w X (.pointer (some pt)) FP st sb (ID,PAR,SEQ,DAY,IDX,OP,FS) (.slice xq FS.length xc)∧MAt X b st)→Calls Tryz.prog 17 #[.pointer (some ⟨b,0,none⟩),.agg #[.int .i64 ID,.int .i64 PAR,.int .i64 SEQ,.int .i64 DAY,.int .i64 IDX,.string OP,.slice xq FS.length xc],.int .i64 x,.int .i64 y] X (RowsP X (rowsS st.obs (ID,PAR,SEQ,DAY,IDX,OP,FS) x y))):=fun X x y h =>
   rowsOf_any b st (ID,PAR,SEQ,DAY,IDX,OP,FS) _ x y X h.2 HK.out h.1.files HSH.out.1 HSZ.out
 have HLE:Hid (∀x y:Int,(rowsS st.obs (ID,PAR,SEQ,DAY,IDX,OP,FS) x y).2.1≤12∧(rowsS st.obs (ID,PAR,SEQ,DAY,IDX,OP,FS) x y).1.length≤4000):=fun x y=>⟨rowsS_le _ _ _ _,rows_len _ _ _ _ HSH.out.1⟩
 have HR0:Hid (∀X,ScI EM SAt w X (.pointer (some pt)) FP st sb (ID,PAR,SEQ,DAY,IDX,OP,FS) (.slice xq FS.length xc)→Calls Tryz.prog 10 #[.pointer none,.agg #[.int .i64 ID,.int .i64 PAR,.int .i64 SEQ,.int .i64 DAY,.int .i64 IDX,.string OP,.slice xq FS.length xc],.int .i64 lo,.int .i64 hi] X fun e w'=> ∃v',e= .returned (.tuple #[v',errV a 3])∧Below X.heap.size X w'):=fun X h =>
   KSU.out.rows0 X (ID,PAR,SEQ,DAY,IDX,OP,FS) _ lo hi h.ok.env h.files HSH.out.1 HSH.out.2
 clear KSU KGH KU HSZ HK HSH
 -- rows of some keys
 have hos:=HOS.out w4 I4.out
 obtain⟨z0,z1,z2,z3,z4,z5,z6⟩:=I4.out.1.snap.cells
 dsimp only at z0 z1 z2 z3 z4 z5 z6
 generalize FS.length=XL at *
 go_wp2_with fail
 refine hos.mono ?_
 rintro e w5 ⟨q5,c5,rfl,hf5,hb5⟩
 clear hos z0 z1 z2 z3 z4 z5 z6
 have I5:Hid (ScI EM SAt w w5 (.pointer (some pt)) FP st sb (ID,PAR,SEQ,DAY,IDX,OP,FS) (.slice xq XL xc)∧MAt w5 b st):=HQ.out _ _ I4.out hb5
 have hrw:=HRW.out w5 q5 c5 lo hi I5.out.1 hf5
 clear I4 hb5 hf5
 go_wp2_with fail
 refine hrw.mono ?_
 rintro e w6 ⟨v6,ev6,rfl,hr6,ht6,hb6⟩
 clear hrw
 have I6:Hid (ScI EM SAt w w6 (.pointer (some pt)) FP st sb (ID,PAR,SEQ,DAY,IDX,OP,FS) (.slice xq XL xc)∧MAt w6 b st):=HQ.out _ _ I5.out hb6
 clear I5 hb6
 have hro:=HRO.out w6 lo hi I6.out
 obtain⟨z0,z1,z2,z3,z4,z5,z6⟩:=I6.out.1.snap.cells
 dsimp only at z0 z1 z2 z3 z4 z5 z6
 have hle:=HLE.out lo hi
 generalize (rowsS st.obs (ID,PAR,SEQ,DAY,IDX,OP,FS) lo hi)=R1 at *
 obtain⟨rs1,rc1⟩:=R1
 dsimp only at *
 obtain⟨xq6,xc6,rfl⟩:=hr6.form
 have HT6:Hid (∀X,Below w6.heap.size w6 X→ToldE X a ev6 rc1∧RowsAt X (.slice xq6 rs1.length xc6) rs1):=fun X hX=>⟨told_below ht6 hX,hr6.below hX⟩
 clear hr6 ht6
 obtain⟨RL1,hRL⟩:∃k,rs1.length=k:=⟨_,rfl⟩
 have HRL1:Hid (rs1.length=RL1):=hRL
 rw[hRL]at HT6 hle
 rw[hRL]
 clear hRL
 go_wp2_with fail
 refine hro.mono ?_
 rintro e w7 ⟨v7,rfl,hr7,hb7⟩
 clear hro z0 z1 z2 z3 z4 z5 z6
 obtain⟨yq7,yc7,rfl⟩:=hr7.form
 dsimp only at *
 have I7:Hid (ScI EM SAt w w7 (.pointer (some pt)) FP st sb (ID,PAR,SEQ,DAY,IDX,OP,FS) (.slice xq XL xc)∧MAt w7 b st):=HQ.out _ _ I6.out hb7
 have hal8:Below w7.heap.size w7 (w7.alloc (.cells #[.int .i64 rc1.1,.int .i64 (atZ rc1.2)] 46)):=(Below.refl _ _).alloc (Nat.le_refl _) _
 have hF8:FC (w7.alloc (.cells #[.int .i64 rc1.1,.int .i64 (atZ rc1.2)] 46)) w7.heap.size rc1.1 (atZ rc1.2):=heap_alloc_new _ _
 go_upto_region 11 with fail
 generalize w7.alloc (.cells #[.int .i64 rc1.1,.int .i64 (atZ rc1.2)] 46)=w8 at *
 have HI:Hid (∀X,Below w7.heap.size w7 X→(ScI EM SAt w X (.pointer (some pt)) FP st sb (ID,PAR,SEQ,DAY,IDX,OP,FS) (.slice xq XL xc)∧MAt X b st)):=fun X hX=>HQ.out w7 X I7.out hX
 have HEI:Hid (∀X,Below w7.heap.size w7 X→Errs X a):=fun X hX=>HER.out X (HI.out X hX).1.ok.frame
 have HBI:Hid (∀X,Below w7.heap.size w7 X→Below w.heap.size w X):=fun X hX=>(HI.out X hX).1.ok.frame
 have hr8:=hr7.below hal8
 have hb68:=hb7.trans (hal8.mono hb7.size)
 obtain⟨ht8,hx8⟩:=HT6.out w8 hb68
 obtain⟨F,hF⟩:∃k,w7.heap.size=k:=⟨_,rfl⟩
 have HFE:Hid (w7.heap.size=F):=hF
 rw[hF]at hF8
 rw[hF]
 have hB8:Below w7.heap.size w7 w8:=hal8
 clear hF hal8 hb68 hb7 hr7 HT6 I6 I7 HER HQ
 have hfa:=ht8.same3 hle.1 (HEI.out w8 hB8)
 have f0:=hF8.c0
 have f1:=hF8.c1
 clear ht8
 go_wp2_with fail
 refine hfa.mono ?_
 rintro e w9 ⟨rfl,hb9⟩
 clear hfa f0 f1
 have hsr:=sameRows_any (.slice xq6 RL1 xc6) (.slice yq7 rs1.length yc7) rs1 rs1 w9 (hx8.below hb9) (hr8.below hb9) (by have:=HRL1.out;omega) (by have:=HRL1.out;omega)
 rw[decide_eq_true rfl]at hsr
 clear hx8 hr8
 generalize rs1.length=RL1b at *
 go_wp2_with fail
 refine hsr.mono ?_
 rintro e w10 ⟨rfl,hb10⟩
 clear hsr
 have hB10:Below w7.heap.size w7 w10:=(hB8.trans (hb9.mono hB8.size)).trans (hb10.mono (Nat.le_trans hB8.size hb9.size))
 have hF10:=(hF8.below hb9).below hb10
 generalize rc1.1=cc1 at *
 generalize atZ rc1.2=ca1 at *
 clear hF8 hB8 hb9 hb10 HRL1 hle
 -- how many
 have hos:=HOS.out w10 (HI.out w10 hB10)
 obtain⟨z0,z1,z2,z3,z4,z5,z6⟩:=(HI.out w10 hB10).1.snap.cells
 dsimp only at z0 z1 z2 z3 z4 z5 z6
 go_wp2_with fail
 refine hos.mono ?_
 rintro e w11 ⟨q11,c11,rfl,hf11,hb11⟩
 clear hos z0 z1 z2 z3 z4 z5 z6
 have hB11:Below w7.heap.size w7 w11:=hB10.trans (hb11.mono hB10.size)
 have hco:=HCO.out w11 q11 c11 (HI.out w11 hB11).1 hf11
 have hF11:=hF10.below hb11
 clear hf11 hB10 hb11 hF10 HCO
 go_wp2_with fail
 refine hco.mono ?_
 rintro e w12 ⟨ev12,rfl,ht12,hb12⟩
 clear hco
 have hB12:Below w7.heap.size w7 w12:=hB11.trans (hb12.mono hB11.size)
 have hF12:=hF11.below hb12
 clear hB11 hb12 hF11
 have hro:=HRO.out w12 (-1099511627776) 1099511627776 (HI.out w12 hB12)
 obtain⟨z0,z1,z2,z3,z4,z5,z6⟩:=(HI.out w12 hB12).1.snap.cells
 dsimp only at z0 z1 z2 z3 z4 z5 z6
 have hle:=HLE.out (-1099511627776) 1099511627776
 generalize (rowsS st.obs (ID,PAR,SEQ,DAY,IDX,OP,FS) (-1099511627776) 1099511627776)=R2 at *
 obtain⟨rs2,rc2⟩:=R2
 dsimp only at *
 go_wp2_with fail
 refine hro.mono ?_
 rintro e w13 ⟨v13,rfl,hr13,hb13⟩
 clear hro z0 z1 z2 z3 z4 z5 z6
 obtain⟨yq13,yc13,rfl⟩:=hr13.form
 dsimp only at *
 have hB13:Below w7.heap.size w7 w13:=hB12.trans (hb13.mono hB12.size)
 have hF13:=hF12.below hb13
 have ht13:=told_below ht12 hb13
 clear hB12 hb13 hF12 ht12 hr13
 generalize rs2.length=RL2 at *
 have f0:=hF13.c0
 have f1:=hF13.c1
 have ff0:=hF13.fz 0
 have ff1:=hF13.fz 1
 have hF14:=hF13.set (rc2.1:Int) (atZ rc2.2)
 have hB14:Below w7.heap.size w7 ((w13.setCell ⟨F,0,none⟩ (.int .i64 rc2.1)).setCell ⟨F,1,none⟩ (.int .i64 (atZ rc2.2))):=(hB13.setCell (Nat.le_of_eq HFE.out) _).setCell (Nat.le_of_eq HFE.out) _
 have ht14:ToldE ((w13.setCell ⟨F,0,none⟩ (.int .i64 rc2.1)).setCell ⟨F,1,none⟩ (.int .i64 (atZ rc2.2))) a ev12 rc2:=told_off hF13 ht13 _ _ _ _
 clear hF13 hB13 ht13
 go_upto_region 15 with fail
 clear f0 f1 ff0 ff1
 generalize (w13.setCell ⟨F,0,none⟩ (.int .i64 rc2.1)).setCell ⟨F,1,none⟩ (.int .i64 (atZ rc2.2))=w14 at *
 have hfa:=ht14.same3 hle.1 (HEI.out w14 hB14)
 have f0:=hF14.c0
 have f1:=hF14.c1
 clear ht14 hle
 go_wp2_with fail
 refine hfa.mono ?_
 rintro e w15 ⟨rfl,hb15⟩
 clear hfa f0 f1
 have hB15:Below w7.heap.size w7 w15:=hB14.trans (hb15.mono hB14.size)
 have hF15:=hF14.below hb15
 generalize (rc2.1:Int)=cc2 at *
 generalize atZ rc2.2=ca2 at *
 clear hF14 hB14 hb15
 -- the values of a key
 have hos:=HOS.out w15 (HI.out w15 hB15)
 obtain⟨z0,z1,z2,z3,z4,z5,z6⟩:=(HI.out w15 hB15).1.snap.cells
 dsimp only at z0 z1 z2 z3 z4 z5 z6
 go_wp2_with fail
 refine hos.mono ?_
 rintro e w16 ⟨q16,c16,rfl,hf16,hb16⟩
 clear hos z0 z1 z2 z3 z4 z5 z6 HOS
 have hB16:Below w7.heap.size w7 w16:=hB15.trans (hb16.mono hB15.size)
 have hfi:=HFI.out w16 q16 c16 (HI.out w16 hB16).1 hf16
 have hF16:=hF15.below hb16
 clear hf16 hB15 hb16 hF15 HFI
 go_wp2_with fail
 refine hfi.mono ?_
 rintro e w17 ⟨v17,ev17,rfl,hk17,ht17,hb17,hn17⟩
 clear hfi
 have hB17:Below w7.heap.size w7 w17:=hB16.trans (hb17.mono hB16.size)
 have hF17:=hF16.below hb17
 have hn17':∀k,v17.ownBlock=some k→k≠F:=fun k hk e=>by have:=hn17 k hk;have:=hF16.lt;omega
 clear hB16 hb17 hF16 hn17
 have hro:=HRO.out w17 key key (HI.out w17 hB17)
 obtain⟨z0,z1,z2,z3,z4,z5,z6⟩:=(HI.out w17 hB17).1.snap.cells
 dsimp only at z0 z1 z2 z3 z4 z5 z6
 have hle:=HLE.out key key
 generalize (rowsS st.obs (ID,PAR,SEQ,DAY,IDX,OP,FS) key key)=R3 at *
 obtain⟨rs3,rc3⟩:=R3
 dsimp only at *
 obtain⟨kq17,kc17,rfl⟩:=hk17.form
 generalize (valsZ rs3).length=VL at *
 go_wp2_with fail
 refine hro.mono ?_
 rintro e w18 ⟨v18,rfl,hr18,hb18⟩
 clear hro z0 z1 z2 z3 z4 z5 z6
 obtain⟨yq18,yc18,rfl⟩:=hr18.form
 dsimp only at *
 have hB18:Below w7.heap.size w7 w18:=hB17.trans (hb18.mono hB17.size)
 have hF18:=hF17.below hb18
 have ht18:=told_below ht17 hb18
 have hk18:=hk17.below hb18
 clear hB17 hF17 ht17 hk17 hb18
 have f0:=hF18.c0
 have f1:=hF18.c1
 have ff0:=hF18.fz 0
 have ff1:=hF18.fz 1
 have hF19:=hF18.set (rc3.1:Int) (atZ rc3.2)
 have hB19:Below w7.heap.size w7 ((w18.setCell ⟨F,0,none⟩ (.int .i64 rc3.1)).setCell ⟨F,1,none⟩ (.int .i64 (atZ rc3.2))):=(hB18.setCell (Nat.le_of_eq HFE.out) _).setCell (Nat.le_of_eq HFE.out) _
 have ht19:ToldE ((w18.setCell ⟨F,0,none⟩ (.int .i64 rc3.1)).setCell ⟨F,1,none⟩ (.int .i64 (atZ rc3.2))) a ev17 rc3:=told_off hF18 ht18 _ _ _ _
 have hr19:RowsAt ((w18.setCell ⟨F,0,none⟩ (.int .i64 rc3.1)).setCell ⟨F,1,none⟩ (.int .i64 (atZ rc3.2))) (.slice yq18 rs3.length yc18) rs3:=hF18.off_rows hr18 _ _ _ _
 have hk19:KeysAt ((w18.setCell ⟨F,0,none⟩ (.int .i64 rc3.1)).setCell ⟨F,1,none⟩ (.int .i64 (atZ rc3.2))) (.slice kq17 VL kc17) (valsZ rs3):=hk18.but (((But.refl (fun k=>k=F) w18).setCell (Or.inl rfl) _).setCell (Or.inl rfl) _) (fun _ k hk=>hn17' k hk)
 clear hF18 hB18 ht18 hr18 hk18 hn17'
 obtain⟨L3,hL3⟩:∃k,rs3.length=k:=⟨_,rfl⟩
 have HX:Hid (rs3.length=L3):=hL3
 rw[hL3]at hr19 hle ⊢
 clear hL3
 go_upto_region 19 with fail
 clear f0 f1 ff0 ff1
 generalize (w18.setCell ⟨F,0,none⟩ (.int .i64 rc3.1)).setCell ⟨F,1,none⟩ (.int .i64 (atZ rc3.2))=w19 at *
 have HR19:Hid (RowsAt w19 (.slice yq18 L3 yc18) rs3):=hr19
 have HE19:Hid (∀X,Below w19.heap.size w19 X→Below w7.heap.size w7 X∧FC X F rc3.1 (atZ rc3.2)∧ToldE X a ev17 rc3∧KeysAt X (.slice kq17 VL kc17) (valsZ rs3)):=fun X hX=>⟨hB19.trans (hX.mono hB19.size),hF19.below hX,told_below ht19 hX,hk19.below hX⟩
 have hL4:=hle.2
 have HC12:Hid (rc3.1≤12):=hle.1
 clear hr19 hB19 hF19 ht19 hk19 hle HLE HRO
 obtain⟨i0,hi0,hz0,hs0,hby0⟩:=Tryz.numInfo
 go_wp2
 go_loopw [21,22] (fun out k wr=> ∃n:Nat,n≤L3∧k= .int .i64 n∧Below w19.heap.size w19 wr∧wr.ownsRow w19.heap.size 3 1 out (sortV ((rs3.take n).map fun r=>r.2.2)).length ((sortV ((rs3.take n).map fun r=>r.2.2)).map (Value.int .i64))) (fun _ k _=>L3-(intOf k).toNat)
 case atStart=>exact ⟨0,by omega,rfl,Below.refl _ _,by rw[List.take_zero,List.map_nil,sortV_nil];exact World.ownsRow_nil _ _ _ _⟩
 case round =>
   obtain⟨n,hn,rfl,hb,hown⟩:=hrel
   by_cases hlt:n<L3
   · have hltx : n < rs3.length:=by rw[HX.out];exact hlt
     rcases HR19.out.below hb with⟨_,_,e,e'⟩|⟨br,o,cap2,e,hcells⟩
     · exfalso;have:=HX.out;rw[e']at this;simp at this;omega
     injection e with e1 e2 e3
     subst e1
     clear e2 e3
     obtain⟨-,-,h1⟩:=hcells n hltx
     clear hcells
     have hi:(n:Int)<(L3:Int):=by omega
     have hi0n:(0:Int)≤(n:Int):=by omega
     have htk:((rs3.take (n+1)).map fun r=>r.2.2)=((rs3.take n).map fun r=>r.2.2)++ [rs3[n].2.2]:=by rw[←List.take_append_getElem hltx,List.map_append];rfl
     have hOl:(sortV ((rs3.take n).map fun r=>r.2.2)).length≤n:=by
       rw[sortV_len,List.length_map]
       exact List.length_take_le _ _
     have hins:=fun k=>sortV_insert ((rs3.take n).map fun r=>r.2.2) (sortV ((rs3.take n).map fun r=>r.2.2)) rs3[n].2.2 k rfl
     rw[←htk]at hins
     have HNEXT:Hid (∀k,k≤(sortV ((rs3.take n).map fun r=>r.2.2)).length→(∀j (h:j<(sortV ((rs3.take n).map fun r=>r.2.2)).length),k≤j→rs3[n].2.2<(sortV ((rs3.take n).map fun r=>r.2.2))[j])→(0<k→∀h:k-1<(sortV ((rs3.take n).map fun r=>r.2.2)).length,(sortV ((rs3.take n).map fun r=>r.2.2))[k-1]≤rs3[n].2.2)→(sortV ((rs3.take n).map fun r=>r.2.2)).take k++rs3[n].2.2 :: (sortV ((rs3.take n).map fun r=>r.2.2)).drop k=(sortV ((rs3.take (n+1)).map fun r=>r.2.2))):=hins
     clear hins htk
     generalize rs3[n].2.2=x at h1 HNEXT
     generalize (sortV ((rs3.take n).map fun r=>r.2.2))=O at hown hOl HNEXT
     generalize hOO:(sortV ((rs3.take (n+1)).map fun r=>r.2.2))=O' at HNEXT
     have HOO:Hid ((sortV ((rs3.take (n+1)).map fun r=>r.2.2))=O'):=hOO
     clear hOO hltx
     obtain⟨M,hM⟩:∃M,O.length=M:=⟨_,rfl⟩
     have OL:Hid (O.length=M):=hM
     rw[hM]at hown hOl
     have OW:Hid (wr.ownsRow w19.heap.size 3 1 u21 M (O.map (Value.int .i64))):=hown
     have hsh:u21= .slice none 0 0∧O= []∨∃g cp,u21= .slice (some ⟨g,0,none⟩) M cp∧M≤cp∧cp≤maxLen∧g<wr.heap.size∧∀j (h:j<O.length),wr.cell? ⟨g,j,none⟩=some (.int .i64 O[j]):=by
       by_cases hv:u21= .slice none 0 0
       · refine Or.inl ⟨hv,?_⟩
         subst hv
         rcases hown.2 with⟨_,e0⟩|⟨g',cap',cur,e,_⟩
         · exact List.length_eq_zero_iff.1 (hM.trans e0)
         · cases e
       · obtain⟨g,cp,rfl,hbg,hgl,hc1,hc2,hc3,hH⟩:=holds_of_ownsRow hown hv
         refine Or.inr ⟨g,cp,rfl,hc1,hc2,hgl,fun j hj=>?_⟩
         have:=(hH j (by simpa using hj)).1
         rw[Nat.zero_add,getElem!_pos _ j (by simpa using hj)]at this
         simpa using this
     clear hown hM
     rcases hsh with⟨rfl,rfl⟩|⟨g,cp,rfl,hcp,hcx,hgl,hOc⟩
     · have M0:Hid (M=0):=OL.out.symm
       have hO':O'= [x]:=by
         have:=HNEXT.out 0 (by simp) (by intro j h;simp at h) (by intro h;exact absurd h (by omega))
         simpa using this.symm
       subst hO'
       clear HNEXT OW hOl
       go_wp2
       refine wp_loop_rounds 1 ?_
       rw[rounds_succ]
       go_wp2
       go_quiet (fail)
       have hbD:Below w19.heap.size w19 (wr.drewN nq):=below_drewN hb nq
       have h1D:=below_keep (below_drewN (Below.refl wr.heap.size wr) nq) h1
       clear h1
       generalize wr.drewN nq=WD at hbD h1D ⊢
       have hal:Below WD.heap.size WD (WD.alloc (.cells #[.int .i64 x] 3)):=(Below.refl _ _).alloc (Nat.le_refl _) _
       have hbA:Below w19.heap.size w19 (WD.alloc (.cells #[.int .i64 x] 3)):=hbD.alloc hbD.size _
       go_wp2_with (first
         | (at_builtin;refine wpList_append_nothing rfl _ _ 50 rfl _ rfl rfl (fun ty W=>append_nothing none 0 0 ty W (Nat.le_refl _)) ?_)
         | (at_builtin;refine wpList_append_own _ rfl _ _ 50 rfl w19.heap.size 3 i0 (.int .i64 0) 1 8 Tryz.underlying50 hi0 hz0 hs0 hby0 rfl (by decide) (.slice none 0 0) 0 [] rfl ?qc0 ⟨WD.heap.size,0,none⟩ 1 1 [.int .i64 x] rfl ?qc1 ?qc2 ?qc3 ?qc4 ?qc5 ?qc6 ?_))
       case qc0=>exact World.ownsRow_nil _ _ _ _
       case qc1=>rfl
       case qc2=>exact cell_one _ _ _
       case qc3=>exact ints_one [x]
       case qc4=>unfold maxLen;omega
       case qc5=>omega
       case qc6=>exact hbA.size
       intro v' w4 hown4 hgrow hnil
       have hbC:Below w19.heap.size w19 w4:=hbA.grown hgrow hbA.size (fun k hk=>by simp[Value.ownBlock]at hk)
       obtain⟨g4,c4,rfl⟩:∃g4 c4,v'= .slice (some ⟨g4,0,none⟩) 1 c4:=own_next hown4
       have hc4:1≤c4:=by
         rcases hown4.2 with⟨e,_⟩|⟨g',cap',cur,e,_,_,hcc,_⟩
         · cases e
         · injection e with _ _ e3
           omega
       have OW4:Hid (w4.ownsRow w19.heap.size 3 1 (.slice (some ⟨g4,0,none⟩) 1 c4) (0+1) ([]++ [.int .i64 x])):=hown4
       clear hown4 hnil hgrow
       go_wp2_with (at_builtin;refine wpList_append_nothing rfl _ _ 50 rfl _ rfl rfl (fun ty W=>append_nothing (some ⟨g4,0,none⟩) 1 c4 ty W hc4) ?_)
       go_roundw
       case rel=>exact ⟨n+1,by omega,by go_num,hbC,by rw[HOO.out];exact OW4.out⟩
       case measure=>simp [intOf];omega
     · have OC : Hid (∀j (h:j<O.length),wr.cell? ⟨g,j,none⟩=some (.int .i64 O[j])):=hOc
       clear hOc
       generalize wr=W0 at *
       go_wp2
       go_loopw [23] (fun at_ wi=> ∃k:Nat,k≤M∧at_= .int .i64 k∧Below W0.heap.size W0 wi∧∀j (h:j<O.length),k≤j→x<O[j]) (fun at_ _=>(intOf at_).toNat)
       case atStart=>exact ⟨M,Nat.le_refl _,rfl,Below.refl _ _,fun j h h'=>absurd h (by rw[OL.out];omega)⟩
       case round =>
         obtain⟨k,hkM,rfl,hbi,hall⟩:=hrel
         have HA:Hid (∀j (h:j<O.length),k≤j→x<O[j]):=hall
         clear hall
         have d1:=below_keep hbi h1
         by_cases hk0:0<k
         · obtain ⟨m,rfl⟩:∃m,k=m+1:=⟨k-1,by omega⟩
           have hkO:m<O.length:=by rw[OL.out];omega
           have p1:=below_keep hbi (OC.out m hkO)
           obtain⟨y,hy⟩:∃y,O[m]=y:=⟨_,rfl⟩
           have HY:Hid (O[m]=y):=hy
           rw[hy]at p1
           clear hy
           have hi1:(0:Int)<(m:Int)+1:=by omega
           have hi3:(m:Int)<(M:Int):=by omega
           have hi4:(0:Int)≤(m:Int):=by omega
           have hi5:IntKind.i64.wrap (m:Int)=(m:Int):=IntWalk.i64_in _ (by omega)
           by_cases hyx:x<y
           · go_wp2
             go_quiet (fail)
             have hb9:Below W0.heap.size W0 (wr.drewN nq):=below_drewN hbi nq
             go_wp2
             go_roundw
             case rel=>exact ⟨m,by omega,by go_num,hb9,fun j h hj=>by
               rcases Nat.lt_or_ge m j with h' | h'
               · exact HA.out j h (by omega)
               · obtain rfl:j=m:=by omega
                 rw[HY.out];exact hyx⟩
             case measure=>simp [intOf]
           · have hfin:=HNEXT.out (m+1) (by rw[OL.out];exact hkM) HA.out (fun _ h=>by
               have e:m+1-1=m:=by omega
               simp only[e,HY.out]
               omega)
             have FIN:Hid (O.take (m+1)++x :: O.drop (m+1)=O'):=hfin
             clear hfin HNEXT
             go_wp2
             go_quiet (fail)
             have hbT:Below W0.heap.size W0 (wr.drewN nq):=below_drewN hbi nq
             have e1:=below_keep hbT h1
             have CT:Hid (∀j (h:j<O.length),(wr.drewN nq).cell? ⟨g,j,none⟩=some (.int .i64 O[j])):=fun j h=>below_keep hbT (OC.out j h)
             clear OC d1
             generalize wr.drewN nq=WT at hbT e1 CT ⊢
             rcases Nat.lt_or_ge (m+1) cp with hcm | hcm
             · have hne:¬cp=m+1:=by omega
               go_wp2_with (at_builtin;refine wpList_append_own _ rfl _ _ 50 rfl WT.heap.size 3 i0 (.int .i64 0) 1 8 Tryz.underlying50 hi0 hz0 hs0 hby0 rfl (by decide) (.slice none 0 0) 0 [] rfl ?qc0 ⟨g,0,none⟩ (m+1) cp ((O.take (m+1)).map (Value.int .i64)) rfl ?qc1 ?qc2 ?qc3 ?qc4 ?qc5 ?qc6 ?_)
               case qc0=>exact World.ownsRow_nil _ _ _ _
               case qc1=>have:=OL.out;rw[List.length_map,List.length_take];omega
               case qc2 =>
                 intro j u hj
                 rw[Addr.add_lit,Nat.zero_add]
                 obtain⟨hjl,rfl⟩:=take_cell hj
                 exact CT.out j hjl
               case qc3=>exact ints_one _
               case qc4=>unfold maxLen;omega
               case qc5=>omega
               case qc6=>exact Nat.le_refl _
               intro v1 w1 hown1 hgrow1 hnil1
               have hB1:Below WT.heap.size WT w1:=(Below.refl _ _).grown hgrow1 (Nat.le_refl _) (fun k hk=>by simp[Value.ownBlock]at hk)
               have OW1:Hid (w1.ownsRow WT.heap.size 3 1 v1 (0+(m+1)) ([]++(O.take (m+1)).map (Value.int .i64))):=own_cast hown1 (by omega) (by simp)
               clear hown1 hnil1 hgrow1
               have g1:=below_keep hB1 e1
               have hal:Below w1.heap.size w1 (w1.alloc (.cells #[.int .i64 x] 3)):=(Below.refl _ _).alloc (Nat.le_refl _) _
               have hB2:Below WT.heap.size WT (w1.alloc (.cells #[.int .i64 x] 3)):=hB1.alloc hB1.size _
               go_wp2_with (at_builtin;refine wpList_append_own _ rfl _ _ 50 rfl WT.heap.size 3 i0 (.int .i64 0) 1 8 Tryz.underlying50 hi0 hz0 hs0 hby0 rfl (by decide) v1 (0+(m+1)) ([]++(O.take (m+1)).map (Value.int .i64)) rfl ?qc0 ⟨w1.heap.size,0,none⟩ 1 1 [.int .i64 x] rfl ?qc1 ?qc2 ?qc3 ?qc4 ?qc5 ?qc6 ?_)
               case qc0=>exact own_below OW1.out hal
               case qc1=>rfl
               case qc2=>exact cell_one _ _ _
               case qc3=>exact ints_one [x]
               case qc4=>unfold maxLen;omega
               case qc5=>omega
               case qc6=>exact hB2.size
               intro v2 w2 hown2 hgrow2 hnil2
               have hB3:Below WT.heap.size WT w2:=hB2.grown hgrow2 hB2.size (fun k hk=>own_block OW1.out hk)
               have OW2:Hid (w2.ownsRow WT.heap.size 3 1 v2 (0+(m+1)+1) ([]++(O.take (m+1)).map (Value.int .i64)++ [.int .i64 x])):=own_cast hown2 (by omega) (by simp)
               clear hown2 hnil2 hgrow2
               have z1:(((m+1):Nat):Int)≤(M:Int):=by omega
               have z2:(((m+1):Nat):Int)≤(cp:Int):=by omega
               have CT2:Hid (∀j (h:j<O.length),w2.cell? ⟨g,j,none⟩=some (.int .i64 O[j])):=fun j h=>below_keep hB3 (CT.out j h)
               go_wp2_with (at_builtin;refine wpList_append_own _ rfl _ _ 50 rfl WT.heap.size 3 i0 (.int .i64 0) 1 8 Tryz.underlying50 hi0 hz0 hs0 hby0 rfl (by decide) v2 (0+(m+1)+1) ([]++(O.take (m+1)).map (Value.int .i64)++ [.int .i64 x]) rfl ?qc0 _ _ _ ((O.drop (m+1)).map (Value.int .i64)) rfl ?qc1 ?qc2 ?qc3 ?qc4 ?qc5 ?qc6 ?_)
               case qc0=>exact OW2.out
               case qc1=>have:=OL.out;rw[List.length_map,List.length_drop];omega
               case qc2 =>
                 intro j u hj
                 rw[Addr.add_lit]
                 obtain⟨hjl,rfl⟩:=drop_cell hj
                 have:=CT2.out _ hjl
                 first
                   | exact absurd hjl (by have:=OL.out;omega)
                   | simpa using this
               case qc3=>exact ints_one _
               case qc4=>unfold maxLen;omega
               case qc5=>omega
               case qc6=>exact hB3.size
               intro v3 w3 hown3 hgrow3 hnil3
               have hB4:Below WT.heap.size WT w3:=hB3.grown hgrow3 hB3.size (fun k hk=>own_block OW2.out hk)
               have hbF:Below w19.heap.size w19 w3:=by
                 have q:=hbT.trans (hB4.mono hbT.size)
                 exact hb.trans (q.mono hb.size)
               have hown5:w3.ownsRow w19.heap.size 3 1 v3 O'.length (O'.map (Value.int .i64)):=by
                 have q:=hown3.mono (Nat.le_trans hb.size hbT.size)
                 rw[←FIN.out]
                 exact own_cast q (by have:=OL.out;simp;omega) (by simp)
               have OW5:Hid (w3.ownsRow w19.heap.size 3 1 v3 O'.length (O'.map (Value.int .i64))):=hown5
               clear hown5 hown3 hnil3 hgrow3
               go_wp2
               go_roundw
               case rel=>exact ⟨n+1,by omega,by go_num,hbF,by rw[HOO.out];exact OW5.out⟩
               case measure=>simp [intOf];omega
             · have hcm2:cp=m+1:=by omega
               subst hcm2
               go_wp2_with (at_builtin;refine wpList_append_own _ rfl _ _ 50 rfl WT.heap.size 3 i0 (.int .i64 0) 1 8 Tryz.underlying50 hi0 hz0 hs0 hby0 rfl (by decide) (.slice none 0 0) 0 [] rfl ?qc0 ⟨g,0,none⟩ (m+1) (m+1) ((O.take (m+1)).map (Value.int .i64)) rfl ?qc1 ?qc2 ?qc3 ?qc4 ?qc5 ?qc6 ?_)
               case qc0=>exact World.ownsRow_nil _ _ _ _
               case qc1=>have:=OL.out;rw[List.length_map,List.length_take];omega
               case qc2 =>
                 intro j u hj
                 rw[Addr.add_lit,Nat.zero_add]
                 obtain⟨hjl,rfl⟩:=take_cell hj
                 exact CT.out j hjl
               case qc3=>exact ints_one _
               case qc4=>unfold maxLen;omega
               case qc5=>omega
               case qc6=>exact Nat.le_refl _
               intro v1 w1 hown1 hgrow1 hnil1
               have hB1:Below WT.heap.size WT w1:=(Below.refl _ _).grown hgrow1 (Nat.le_refl _) (fun k hk=>by simp[Value.ownBlock]at hk)
               have OW1:Hid (w1.ownsRow WT.heap.size 3 1 v1 (0+(m+1)) ([]++(O.take (m+1)).map (Value.int .i64))):=own_cast hown1 (by omega) (by simp)
               clear hown1 hnil1 hgrow1
               have g1:=below_keep hB1 e1
               have hal:Below w1.heap.size w1 (w1.alloc (.cells #[.int .i64 x] 3)):=(Below.refl _ _).alloc (Nat.le_refl _) _
               have hB2:Below WT.heap.size WT (w1.alloc (.cells #[.int .i64 x] 3)):=hB1.alloc hB1.size _
               go_wp2_with (at_builtin;refine wpList_append_own _ rfl _ _ 50 rfl WT.heap.size 3 i0 (.int .i64 0) 1 8 Tryz.underlying50 hi0 hz0 hs0 hby0 rfl (by decide) v1 (0+(m+1)) ([]++(O.take (m+1)).map (Value.int .i64)) rfl ?qc0 ⟨w1.heap.size,0,none⟩ 1 1 [.int .i64 x] rfl ?qc1 ?qc2 ?qc3 ?qc4 ?qc5 ?qc6 ?_)
               case qc0=>exact own_below OW1.out hal
               case qc1=>rfl
               case qc2=>exact cell_one _ _ _
               case qc3=>exact ints_one [x]
               case qc4=>unfold maxLen;omega
               case qc5=>omega
               case qc6=>exact hB2.size
               intro v2 w2 hown2 hgrow2 hnil2
               have hB3:Below WT.heap.size WT w2:=hB2.grown hgrow2 hB2.size (fun k hk=>own_block OW1.out hk)
               have OW2:Hid (w2.ownsRow WT.heap.size 3 1 v2 (0+(m+1)+1) ([]++(O.take (m+1)).map (Value.int .i64)++ [.int .i64 x])):=own_cast hown2 (by omega) (by simp)
               clear hown2 hnil2 hgrow2
               have z1:(((m+1):Nat):Int)≤(M:Int):=by omega
               have z2:(((m+1):Nat):Int)≤((m+1):Int):=by omega
               have CT2:Hid (∀j (h:j<O.length),w2.cell? ⟨g,j,none⟩=some (.int .i64 O[j])):=fun j h=>below_keep hB3 (CT.out j h)
               go_wp2_with (at_builtin;refine wpList_append_own _ rfl _ _ 50 rfl WT.heap.size 3 i0 (.int .i64 0) 1 8 Tryz.underlying50 hi0 hz0 hs0 hby0 rfl (by decide) v2 (0+(m+1)+1) ([]++(O.take (m+1)).map (Value.int .i64)++ [.int .i64 x]) rfl ?qc0 _ _ _ ((O.drop (m+1)).map (Value.int .i64)) rfl ?qc1 ?qc2 ?qc3 ?qc4 ?qc5 ?qc6 ?_)
               case qc0=>exact OW2.out
               case qc1=>have:=OL.out;rw[List.length_map,List.length_drop];omega
               case qc2 =>
                 intro j u hj
                 rw[Addr.add_lit]
                 obtain⟨hjl,rfl⟩:=drop_cell hj
                 have:=CT2.out _ hjl
                 first
                   | exact absurd hjl (by have:=OL.out;omega)
                   | simpa using this
               case qc3=>exact ints_one _
               case qc4=>unfold maxLen;omega
               case qc5=>omega
               case qc6=>exact hB3.size
               intro v3 w3 hown3 hgrow3 hnil3
               have hB4:Below WT.heap.size WT w3:=hB3.grown hgrow3 hB3.size (fun k hk=>own_block OW2.out hk)
               have hbF:Below w19.heap.size w19 w3:=by
                 have q:=hbT.trans (hB4.mono hbT.size)
                 exact hb.trans (q.mono hb.size)
               have hown5:w3.ownsRow w19.heap.size 3 1 v3 O'.length (O'.map (Value.int .i64)):=by
                 have q:=hown3.mono (Nat.le_trans hb.size hbT.size)
                 rw[←FIN.out]
                 exact own_cast q (by have:=OL.out;simp;omega) (by simp)
               have OW5:Hid (w3.ownsRow w19.heap.size 3 1 v3 O'.length (O'.map (Value.int .i64))):=hown5
               clear hown5 hown3 hnil3 hgrow3
               go_wp2
               go_roundw
               case rel=>exact ⟨n+1,by omega,by go_num,hbF,by rw[HOO.out];exact OW5.out⟩
               case measure=>simp [intOf];omega
         · obtain rfl:k=0:=by omega
           have hfin:=HNEXT.out 0 (Nat.zero_le _) HA.out (fun h=>absurd h (by omega))
           have FIN:Hid (O.take 0++x :: O.drop 0=O'):=hfin
           clear hfin HNEXT
           go_wp2
           go_quiet (fail)
           have hbT:Below W0.heap.size W0 (wr.drewN nq):=below_drewN hbi nq
           have e1:=below_keep hbT h1
           have CT:Hid (∀j (h:j<O.length),(wr.drewN nq).cell? ⟨g,j,none⟩=some (.int .i64 O[j])):=fun j h=>below_keep hbT (OC.out j h)
           clear OC d1
           generalize wr.drewN nq=WT at hbT e1 CT ⊢
           rcases Nat.lt_or_ge (0) cp with hcm | hcm
           · have hne:¬cp=0:=by omega
             go_wp2_with (at_builtin;refine wpList_append_own _ rfl _ _ 50 rfl WT.heap.size 3 i0 (.int .i64 0) 1 8 Tryz.underlying50 hi0 hz0 hs0 hby0 rfl (by decide) (.slice none 0 0) 0 [] rfl ?qc0 ⟨g,0,none⟩ (0) cp ((O.take (0)).map (Value.int .i64)) rfl ?qc1 ?qc2 ?qc3 ?qc4 ?qc5 ?qc6 ?_)
             case qc0=>exact World.ownsRow_nil _ _ _ _
             case qc1=>have:=OL.out;rw[List.length_map,List.length_take];omega
             case qc2 =>
               intro j u hj
               rw[Addr.add_lit,Nat.zero_add]
               obtain⟨hjl,rfl⟩:=take_cell hj
               exact CT.out j hjl
             case qc3=>exact ints_one _
             case qc4=>unfold maxLen;omega
             case qc5=>omega
             case qc6=>exact Nat.le_refl _
             intro v1 w1 hown1 hgrow1 hnil1
             have hB1:Below WT.heap.size WT w1:=(Below.refl _ _).grown hgrow1 (Nat.le_refl _) (fun k hk=>by simp[Value.ownBlock]at hk)
             have OW1:Hid (w1.ownsRow WT.heap.size 3 1 v1 (0+(0)) ([]++(O.take (0)).map (Value.int .i64))):=own_cast hown1 (by omega) (by simp)
             clear hown1 hnil1 hgrow1
             have g1:=below_keep hB1 e1
             have hal:Below w1.heap.size w1 (w1.alloc (.cells #[.int .i64 x] 3)):=(Below.refl _ _).alloc (Nat.le_refl _) _
             have hB2:Below WT.heap.size WT (w1.alloc (.cells #[.int .i64 x] 3)):=hB1.alloc hB1.size _
             go_wp2_with (at_builtin;refine wpList_append_own _ rfl _ _ 50 rfl WT.heap.size 3 i0 (.int .i64 0) 1 8 Tryz.underlying50 hi0 hz0 hs0 hby0 rfl (by decide) v1 (0+(0)) ([]++(O.take (0)).map (Value.int .i64)) rfl ?qc0 ⟨w1.heap.size,0,none⟩ 1 1 [.int .i64 x] rfl ?qc1 ?qc2 ?qc3 ?qc4 ?qc5 ?qc6 ?_)
             case qc0=>exact own_below OW1.out hal
             case qc1=>rfl
             case qc2=>exact cell_one _ _ _
             case qc3=>exact ints_one [x]
             case qc4=>unfold maxLen;omega
             case qc5=>omega
             case qc6=>exact hB2.size
             intro v2 w2 hown2 hgrow2 hnil2
             have hB3:Below WT.heap.size WT w2:=hB2.grown hgrow2 hB2.size (fun k hk=>own_block OW1.out hk)
             have OW2:Hid (w2.ownsRow WT.heap.size 3 1 v2 (0+(0)+1) ([]++(O.take (0)).map (Value.int .i64)++ [.int .i64 x])):=own_cast hown2 (by omega) (by simp)
             clear hown2 hnil2 hgrow2
             have z1:(((0):Nat):Int)≤(M:Int):=by omega
             have z2:(((0):Nat):Int)≤(cp:Int):=by omega
             have CT2:Hid (∀j (h:j<O.length),w2.cell? ⟨g,j,none⟩=some (.int .i64 O[j])):=fun j h=>below_keep hB3 (CT.out j h)
             go_wp2_with (at_builtin;refine wpList_append_own _ rfl _ _ 50 rfl WT.heap.size 3 i0 (.int .i64 0) 1 8 Tryz.underlying50 hi0 hz0 hs0 hby0 rfl (by decide) v2 (0+(0)+1) ([]++(O.take (0)).map (Value.int .i64)++ [.int .i64 x]) rfl ?qc0 _ _ _ ((O.drop (0)).map (Value.int .i64)) rfl ?qc1 ?qc2 ?qc3 ?qc4 ?qc5 ?qc6 ?_)
             case qc0=>exact OW2.out
             case qc1=>have:=OL.out;rw[List.length_map,List.length_drop];omega
             case qc2 =>
               intro j u hj
               rw[Addr.add_lit]
               obtain⟨hjl,rfl⟩:=drop_cell hj
               have:=CT2.out _ hjl
               first
                 | exact absurd hjl (by have:=OL.out;omega)
                 | simpa using this
             case qc3=>exact ints_one _
             case qc4=>unfold maxLen;omega
             case qc5=>omega
             case qc6=>exact hB3.size
             intro v3 w3 hown3 hgrow3 hnil3
             have hB4:Below WT.heap.size WT w3:=hB3.grown hgrow3 hB3.size (fun k hk=>own_block OW2.out hk)
             have hbF:Below w19.heap.size w19 w3:=by
               have q:=hbT.trans (hB4.mono hbT.size)
               exact hb.trans (q.mono hb.size)
             have hown5:w3.ownsRow w19.heap.size 3 1 v3 O'.length (O'.map (Value.int .i64)):=by
               have q:=hown3.mono (Nat.le_trans hb.size hbT.size)
               rw[←FIN.out]
               exact own_cast q (by have:=OL.out;simp;omega) (by simp)
             have OW5:Hid (w3.ownsRow w19.heap.size 3 1 v3 O'.length (O'.map (Value.int .i64))):=hown5
             clear hown5 hown3 hnil3 hgrow3
             go_wp2
             go_roundw
             case rel=>exact ⟨n+1,by omega,by go_num,hbF,by rw[HOO.out];exact OW5.out⟩
             case measure=>simp [intOf];omega
           · have hcm2:cp=0:=by omega
             subst hcm2
             obtain rfl:M=0:=by omega
             go_wp2_with (at_builtin;refine wpList_append_own _ rfl _ _ 50 rfl WT.heap.size 3 i0 (.int .i64 0) 1 8 Tryz.underlying50 hi0 hz0 hs0 hby0 rfl (by decide) (.slice none 0 0) 0 [] rfl ?qc0 ⟨g,0,none⟩ (0) 0 ((O.take (0)).map (Value.int .i64)) rfl ?qc1 ?qc2 ?qc3 ?qc4 ?qc5 ?qc6 ?_)
             case qc0=>exact World.ownsRow_nil _ _ _ _
             case qc1=>have:=OL.out;rw[List.length_map,List.length_take];omega
             case qc2 =>
               intro j u hj
               rw[Addr.add_lit,Nat.zero_add]
               obtain⟨hjl,rfl⟩:=take_cell hj
               exact CT.out j hjl
             case qc3=>exact ints_one _
             case qc4=>unfold maxLen;omega
             case qc5=>omega
             case qc6=>exact Nat.le_refl _
             intro v1 w1 hown1 hgrow1 hnil1
             have hB1:Below WT.heap.size WT w1:=(Below.refl _ _).grown hgrow1 (Nat.le_refl _) (fun k hk=>by simp[Value.ownBlock]at hk)
             have OW1:Hid (w1.ownsRow WT.heap.size 3 1 v1 (0+(0)) ([]++(O.take (0)).map (Value.int .i64))):=own_cast hown1 (by omega) (by simp)
             clear hown1 hnil1 hgrow1
             have g1:=below_keep hB1 e1
             have hal:Below w1.heap.size w1 (w1.alloc (.cells #[.int .i64 x] 3)):=(Below.refl _ _).alloc (Nat.le_refl _) _
             have hB2:Below WT.heap.size WT (w1.alloc (.cells #[.int .i64 x] 3)):=hB1.alloc hB1.size _
             go_wp2_with (at_builtin;refine wpList_append_own _ rfl _ _ 50 rfl WT.heap.size 3 i0 (.int .i64 0) 1 8 Tryz.underlying50 hi0 hz0 hs0 hby0 rfl (by decide) v1 (0+(0)) ([]++(O.take (0)).map (Value.int .i64)) rfl ?qc0 ⟨w1.heap.size,0,none⟩ 1 1 [.int .i64 x] rfl ?qc1 ?qc2 ?qc3 ?qc4 ?qc5 ?qc6 ?_)
             case qc0=>exact own_below OW1.out hal
             case qc1=>rfl
             case qc2=>exact cell_one _ _ _
             case qc3=>exact ints_one [x]
             case qc4=>unfold maxLen;omega
             case qc5=>omega
             case qc6=>exact hB2.size
             intro v2 w2 hown2 hgrow2 hnil2
             have hB3:Below WT.heap.size WT w2:=hB2.grown hgrow2 hB2.size (fun k hk=>own_block OW1.out hk)
             have OW2:Hid (w2.ownsRow WT.heap.size 3 1 v2 (0+(0)+1) ([]++(O.take (0)).map (Value.int .i64)++ [.int .i64 x])):=own_cast hown2 (by omega) (by simp)
             clear hown2 hnil2 hgrow2
             have z1:(((0):Nat):Int)≤(0:Int):=by omega
             have z2:(((0):Nat):Int)≤(0:Int):=by omega
             have CT2:Hid (∀j (h:j<O.length),w2.cell? ⟨g,j,none⟩=some (.int .i64 O[j])):=fun j h=>below_keep hB3 (CT.out j h)
             go_wp2_with (at_builtin;refine wpList_append_own _ rfl _ _ 50 rfl WT.heap.size 3 i0 (.int .i64 0) 1 8 Tryz.underlying50 hi0 hz0 hs0 hby0 rfl (by decide) v2 (0+(0)+1) ([]++(O.take (0)).map (Value.int .i64)++ [.int .i64 x]) rfl ?qc0 _ _ _ ((O.drop (0)).map (Value.int .i64)) rfl ?qc1 ?qc2 ?qc3 ?qc4 ?qc5 ?qc6 ?_)
             case qc0=>exact OW2.out
             case qc1=>have:=OL.out;rw[List.length_map,List.length_drop];omega
             case qc2 =>
               intro j u hj
               rw[Addr.add_lit]
               obtain⟨hjl,rfl⟩:=drop_cell hj
               have:=CT2.out _ hjl
               first
                 | exact absurd hjl (by have:=OL.out;omega)
                 | simpa using this
             case qc3=>exact ints_one _
             case qc4=>unfold maxLen;omega
             case qc5=>omega
             case qc6=>exact hB3.size
             intro v3 w3 hown3 hgrow3 hnil3
             have hB4:Below WT.heap.size WT w3:=hB3.grown hgrow3 hB3.size (fun k hk=>own_block OW2.out hk)
             have hbF:Below w19.heap.size w19 w3:=by
               have q:=hbT.trans (hB4.mono hbT.size)
               exact hb.trans (q.mono hb.size)
             have hown5:w3.ownsRow w19.heap.size 3 1 v3 O'.length (O'.map (Value.int .i64)):=by
               have q:=hown3.mono (Nat.le_trans hb.size hbT.size)
               rw[←FIN.out]
               exact own_cast q (by have h0:O= []:=List.length_eq_zero_iff.1 OL.out;simp[h0]) (by simp)
             have OW5:Hid (w3.ownsRow w19.heap.size 3 1 v3 O'.length (O'.map (Value.int .i64))):=hown5
             clear hown5 hown3 hnil3 hgrow3
             go_wp2
             go_roundw
             case rel=>exact ⟨n+1,by omega,by go_num,hbF,by rw[HOO.out];exact OW5.out⟩
             case measure=>simp [intOf];omega
   · obtain rfl:n=L3:=by omega
     have ht:rs3.take n=rs3:=List.take_of_length_le (by rw[HX.out];omega)
     rw[ht]at hown
     have HW:Hid (KeysAt wr u21 (valsZ rs3)):=by
       show KeysAt _ _ _
       rw[valsZ_eq]
       exact keysAt_of_own hown
     clear hown ht HR19
     obtain⟨hB20,-,-,-⟩:=HE19.out wr hb
     have hr0:=HR0.out wr (HI.out wr hB20).1
     obtain⟨z0,z1,z2,z3,z4,z5,z6⟩:=(HI.out wr hB20).1.snap.cells
     dsimp only at z0 z1 z2 z3 z4 z5 z6
     clear hB20 HR0
     go_wp2_with fail
     refine hr0.mono ?_
     rintro e w21 ⟨v21,rfl,hb21⟩
     clear hr0 z0 z1 z2 z3 z4 z5 z6
     obtain⟨hB21,hF21,ht21,hk21⟩:=HE19.out w21 (hb.trans (hb21.mono hb.size))
     have hW21:=HW.out.below hb21
     clear HW HE19 hb21
     have hfa:=ht21.same3 HC12.out (HEI.out w21 hB21)
     have f0:=hF21.c0
     have f1:=hF21.c1
     clear ht21 hF21
     go_wp2_with fail
     refine hfa.mono ?_
     rintro e w22 ⟨rfl,hb22⟩
     clear hfa f0 f1
     have hsi:=sameInts_yes (.slice kq17 VL kc17) u21 (valsZ rs3) w22 (hk21.below hb22) (hW21.below hb22) (by rw[valsZ_eq,sortV_len,List.length_map,HX.out];omega)
     have hB22:Below w7.heap.size w7 w22:=hB21.trans (hb22.mono hB21.size)
     clear hk21 hW21 hB21 hb22
     go_wp2_with fail
     refine hsi.mono ?_
     rintro e w23 ⟨rfl,hb23⟩
     clear hsi
     have hB23:Below w7.heap.size w7 w23:=hB22.trans (hb23.mono hB22.size)
     have hcd:Calls Tryz.prog 21 #[errV a 3,.int .i64 3] w23 fun e w'=>e= .returned (.bool true)∧Below w23.heap.size w23 w':=coded3_any w23 a (HEI.out w23 hB23) 3 (by decide)
     have HB23:Hid (Below w.heap.size w w23):=HBI.out w23 hB23
     clear hB22 hb23 hB23
     go_wp2_with fail
     refine hcd.mono ?_
     rintro e w24 ⟨rfl,hb24⟩
     clear hcd
     go_wp2
     go_ret
     exact⟨rfl,HB23.out.trans (hb24.mono HB23.out.size)⟩
end
end Go.Proofs.YtdhkdjlgmbejnaaGreatDoor
