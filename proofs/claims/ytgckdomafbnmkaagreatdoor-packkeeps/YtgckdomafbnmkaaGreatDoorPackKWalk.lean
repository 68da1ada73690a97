/- By an AI agent. -/
import Derived.Test.YtgckdomafbnmkaaGreatDoorPackBad
namespace Go.Proofs.YtgckdomafbnmkaaGreatDoor
open Go.RowKit Go.Extern.Stop Go.Stop Go.Extern Go.Sort Go.Shelf Go.Lib
def seenP (ws:List Gz) (i:Nat) (F:List Fl) (k:Nat):List ByteArray:=((ws.take i).flatMap (·.2)++F.take k).map (·.1)
theorem seen_next {ws:List Gz} {i:Nat} (hi:i<ws.length):seenP ws i ws[i].2 ws[i].2.length=seenP ws (i+1) [] 0:=by
 unfold seenP
 rw[List.take_length,List.take_succ_eq_append_getElem hi,List.flatMap_append]
 simp
theorem seen_one {ws:List Gz} {i:Nat} {F:List Fl} {k:Nat} (hk:k<F.length):seenP ws i F (k+1)=seenP ws i F k++ [F[k].1]:=by
 unfold seenP
 rw[List.take_succ_eq_append_getElem hk,←List.append_assoc,List.map_append]
 rfl
theorem seen_not {fs:List Fl} {least:Int} {ws:List Gz} (K:PlanK fs least ws) {i:Nat} (hi:i<ws.length) {k:Nat} (hk:k<ws[i].2.length):inT (seenP ws i ws[i].2 k) ws[i].2[k].1=false:=by
 unfold inT
 rw[List.any_eq_false]
 intro p hp e
 have e1:p=ws[i].2[k].1:=of_decide_eq_true e
 have hnd:=K.nd
 have hsplit:ws.flatMap (·.2)=((ws.take i).flatMap (·.2)++ws[i].2.take k)++(ws[i].2.drop k++(ws.drop (i+1)).flatMap (·.2)):=by
   conv=>lhs;rw[←List.take_append_drop i ws,List.flatMap_append,List.drop_eq_getElem_cons hi,List.flatMap_cons,←List.take_append_drop k ws[i].2]
   simp only[List.append_assoc]
 rw[hsplit,List.map_append,List.pairwise_append]at hnd
 refine hnd.2.2 p hp ws[i].2[k].1 ?_ e1
 refine List.mem_map.2 ⟨ws[i].2[k],List.mem_append.2 (Or.inl ?_),rfl⟩
 rw[List.drop_eq_getElem_cons hk]
 exact List.mem_cons_self
theorem seen_len {fs:List Fl} {least:Int} {ws:List Gz} (K:PlanK fs least ws) (hl:fs.length≤100) (i:Nat) (F:List Fl) (k:Nat) (hF:F.length≤100):(seenP ws i F k).length≤1000:=by
 unfold seenP
 rw[List.length_map,List.length_append]
 have h1:((ws.take i).flatMap (·.2)).length≤(ws.flatMap (·.2)).length:=by
   conv=>rhs;rw[←List.take_append_drop i ws,List.flatMap_append,List.length_append]
   omega
 have h2:=K.len
 have h4:(F.take k).length≤F.length:=List.length_take_le' k F
 omega
theorem group_len {fs:List Fl} {least:Int} {ws:List Gz} (K:PlanK fs least ws) {z:Gz} (hz:z∈ws):z.2.length≤fs.length:=by
 refine Nat.le_trans ?_ K.len
 obtain⟨l1,l2,rfl⟩:=List.append_of_mem hz
 rw[List.flatMap_append,List.flatMap_cons,List.length_append,List.length_append]
 omega
theorem groups_len {fs:List Fl} {least:Int} {ws:List Gz} (K:PlanK fs least ws):ws.length≤fs.length:=by
 refine Nat.le_trans ?_ K.len
 have h:∀z∈ws,1≤z.2.length:=fun z hz=>by have:=(K.grp z hz).2;omega
 clear K
 induction ws with
 | nil=>exact Nat.zero_le _
 | cons z r ih =>
   have h1:=h z List.mem_cons_self
   have h2:=ih (fun y hy=>h y (List.mem_cons_of_mem _ hy))
   rw[List.flatMap_cons,List.length_cons,List.length_append]
   omega
theorem takes_next {α β γ:Type} {ws:List (γ×List α)} {U:List α} {r:α→List β} {m:Nat} (hm:m<ws.length):(U++(ws.take (m+1)).flatMap (·.2)).flatMap r=(U++(ws.take m).flatMap (·.2)).flatMap r++ws[m].2.flatMap r:=by
 rw[List.take_succ_eq_append_getElem hm]
 simp only[List.flatMap_append,List.flatMap_cons,List.flatMap_nil,List.append_nil,List.append_assoc]
theorem group_sub {ws:List Gz} {z:Gz} (h:z∈ws):z.2.Sublist (ws.flatMap (·.2)):=by
 obtain⟨l1,l2,e⟩:=List.append_of_mem h
 rw[e,List.flatMap_append,List.flatMap_cons]
 exact(List.sublist_append_left _ _).trans (List.sublist_append_right _ _)
theorem ts_one (w:World) (s:ByteArray):TsAt (w.alloc (.cells #[.string s] 9)) (.slice (some ⟨w.heap.size,0,none⟩) 1 1) [s]:=Or.inr ⟨w.heap.size,1,rfl,Nat.le_refl _,fun j hj=>by
 obtain rfl:j=0:=by simp at hj;omega
 rw[World.cell?_alloc_at _ _ _ _ (by simp)];rfl⟩
def sumN (F:List Fl) (c:Nat):Int:=((F.take c).map (·.2.2.1)).sum
theorem sumN_one {F:List Fl} {c:Nat} (h:c<F.length):sumN F (c+1)=sumN F c+F[c].2.2.1:=by
 unfold sumN
 rw[List.take_succ_eq_append_getElem h,List.map_append,List.sum_append]
 simp
theorem sumN_le {F:List Fl} (h:∀f∈F,0≤f.2.2.1∧f.2.2.1≤40):∀c,c≤F.length→0≤sumN F c∧sumN F c≤40*(c:Int)
 | 0,_=>by simp[sumN]
 | c+1,hc=>by
   have ih:=sumN_le h c (by omega)
   have h1:=h F[c] (List.getElem_mem _)
   rw[sumN_one (by omega)]
   omega
theorem TssAt.at_ {W:World} {q:Option Addr} {n c:Nat} {ls:List (List ByteArray)} (h:TssAt W (.slice q n c) ls) (hne:ls≠[]):∃b,q=some ⟨b,0,none⟩∧∀j (hj:j<ls.length),∃u,W.cell? ⟨b,j,none⟩=some u∧TsAt W u ls[j]:=by
 obtain⟨vs,h1,h2,h3⟩:=h
 rcases h2 with⟨_,e⟩ | ⟨b,cap,e,hc⟩
 · exact absurd e hne
 · simp only[Value.slice.injEq]at e
   exact⟨b,e.1,fun j hj=>⟨vs[j]'(by omega),hc j (by omega),h3 j (by omega) hj⟩⟩
section
variable {a : Nat → Addr} {B : Nat} {EM : World → Prop} {SAt : World → Value → (Nat → Prop) → St → Prop}
set_option maxRecDepth 100000 in
set_option maxHeartbeats 16000000 in
theorem packKeeps_any (K:StoreK a B EM SAt) (KS:ScanK a EM SAt) (KL:∀W,EM W→EnvL W a) (vl:Value) (l:List Pc) (s:Sn) (vf:Value) (least:Int) (w:World) (hE:EM w) (hp:PcsAt w vl l) (hpl:l.length≤maxLen) (hpz:∀p∈l,PcOk p) (hx:FlsAt w vf s.2.2.2.2.2.2) (ho:s.2.2.2.2.2.1.size≤maxLen) (hfl:s.2.2.2.2.2.2.length≤maxLen) (hfz:∀f∈s.2.2.2.2.2.2,f.1.size≤maxLen∧f.2.1.size≤maxLen) :
   Calls Tryz.prog 3 #[vl,snV s vf,.int .i64 least] w fun e w'=>e= .returned (.bool true)∧Below w.heap.size w w':=by
 have KU:Hid (StoreK a w.heap.size (upE EM w.heap.size) SAt):=K.up (K.size w hE)
 have HEM:Hid (∀X,Below w.heap.size w X→EM X):=fun X hX=>K.below w X hE (hX.mono (K.size w hE))
 have KSU:Hid (ScanK a (upE EM w.heap.size) SAt):=KS.up _
 have HSC:Hid (∀X,Below w.heap.size w X→Calls Tryz.prog 6 #[] X fun e w'=>e= .returned (.bool true)∧Below X.heap.size X w'):=fun X hX=>packed_any X a (KL X (HEM.out X hX))
 have HPC:Hid (∀X,Below w.heap.size w X→PcsAt X vl l):=fun X hX=>hp.below hX
 have HLP:Hid (∀X,Below w.heap.size w X→Calls Tryz.prog 7 #[vl] X fun e w'=>e= .returned (.bool (pcsLong l))∧w'=X):=fun X hX=>longPieces_any vl l X (HPC.out X hX) hpl hpz
 have HFX:Hid (∀X,Below w.heap.size w X→FlsAt X vf s.2.2.2.2.2.2):=fun X hX=>hx.below hX
 have HLS:Hid (∀X,Below w.heap.size w X→Calls Tryz.prog 8 #[snV s vf] X fun e w'=>e= .returned (.int .i64 (if longSn s then 1 else 0))∧Below X.heap.size X w'):=fun X hX=>longSnap_any s vf X (HFX.out X hX) ho hfl hfz
 have HTB:Hid (∀X,Below w.heap.size w X→pcsLong l=false→Calls Tryz.prog 9 #[vl] X fun e w'=> ∃vs FP b vf,e= .returned (.tuple #[vs,.pointer (some ⟨b,0,none⟩),vf])∧TabI (upE EM X.heap.size) SAt X.heap.size X w' vs FP (tabT l).1 (tabT l).2 (tabT l).2 b vf):=fun X hX hs=>table_any K vl l X (HEM.out X hX) (HPC.out X hX) hs
 have HST:Hid (pcsLong l=false→(tabT l).1.length≤15∧Short (tabT l).1):=tab_short
 have HEL:Hid (∀X,Below w.heap.size w X→EnvL X a):=fun X hX=>KL X (HEM.out X hX)
 have HKE:Hid (pcsLong l=false→Keeps (tabT l).2):=fun h=>(tab_all h).1.keeps
 obtain⟨q,cap,rfl⟩:=hx.form
 obtain⟨pq,pc,rfl⟩:=hp.form
 generalize l.length=PL at HPC HLP HTB ⊢
 have hsn:=SnAt.new w s (.slice q s.2.2.2.2.2.2.length cap)
 clear K KS KL hE hp hpl hpz hx ho hfl hfz
 unfold snV at HLS ⊢
 obtain⟨id,par,seq,day,idx,op,fs⟩:=s
 dsimp only at *
 obtain⟨L,hL⟩:∃L,fs.length=L:=⟨_,rfl⟩
 have HLE:Hid (fs.length=L):=hL
 rw[hL]at HFX HLS hsn ⊢
 clear hL
 have hal:Below w.heap.size w (w.alloc (.cells #[.int .i64 id,.int .i64 par,.int .i64 seq,.int .i64 day,.int .i64 idx,.string op,.slice q L cap] 25)):=(Below.refl _ _).alloc (Nat.le_refl _) _
 have hsc:=HSC.out _ hal
 go_enter Tryz.func3,Tryz.ntmps3
 go_wp2_with fail
 generalize w.alloc (.cells #[.int .i64 id,.int .i64 par,.int .i64 seq,.int .i64 day,.int .i64 idx,.string op,.slice q L cap] 25)=WA at hal hsn hsc ⊢
 refine hsc.mono ?_
 rintro e w1 ⟨rfl,hb1⟩
 clear hsc HSC
 have hB1:Below w.heap.size w w1:=hal.trans (hb1.mono hal.size)
 have hs1:=hsn.below hb1
 obtain⟨sb,hsbe⟩:∃k,w.heap.size=k:=⟨_,rfl⟩
 have HSB:Hid (w.heap.size=sb):=hsbe
 rw[hsbe]at hs1
 rw[hsbe]
 clear hal hsn hb1 hsbe
 obtain⟨LP,hLP⟩:∃B,pcsLong l=B:=⟨_,rfl⟩
 obtain⟨LS,hLS⟩:∃B,longSn (id,par,seq,day,idx,op,fs)=B:=⟨_,rfl⟩
 rw[hLP]at HLP HTB HST HKE
 rw[hLS]at HLS
 clear hLP hLS
 go_upto_region 2 with fail
 go_cut [40] from 30 to 39 (fun c wx=>c= .bool (LP || LS)∧Below w1.heap.size w1 wx)
 case first =>
   have hlp:=HLP.out w1 hB1
   clear HLP
   cases LP
   · obtain⟨z0,z1,z2,z3,z4,z5,z6⟩:=hs1.cells
     dsimp only at z0 z1 z2 z3 z4 z5 z6
     have hl1:=HLS.out w1 hB1
     clear hs1
     go_wp2_with fail
     refine hlp.mono ?_
     rintro e w2 ⟨rfl,rfl⟩
     clear hlp
     cases LS
     · simp only[Bool.false_eq_true,if_false]at hl1
       go_wp2_with fail
       refine hl1.mono ?_
       rintro e w2 ⟨rfl,hb2⟩
       clear hl1
       go_wp2
       go_meet
       case rel=>exact ⟨rfl,hb2⟩
     · simp only[if_true]at hl1
       go_wp2_with fail
       refine hl1.mono ?_
       rintro e w2 ⟨rfl,hb2⟩
       clear hl1
       go_wp2
       go_meet
       case rel=>exact ⟨rfl,hb2⟩
   · clear hs1
     go_wp2_with fail
     refine hlp.mono ?_
     rintro e w2 ⟨rfl,rfl⟩
     clear hlp
     go_wp2
     go_meet
     case rel=>exact ⟨by simp,Below.refl _ _⟩
 case rest =>
 obtain⟨rfl,hbc⟩:=hcut
 have hB2:Below w.heap.size w wc:=hB1.trans (hbc.mono hB1.size)
 have hs2:=hs1.below hbc
 clear hs1 hB1 hbc HLP HLS
 generalize wc=w2 at *
 cases hLB:(LP || LS)
 case true =>
   clear hs2
   go_wp2
   go_ret
   exact⟨rfl,hB2⟩
 rw[Bool.or_eq_false_iff]at hLB
 obtain⟨rfl,rfl⟩:=hLB
 obtain⟨hsl,hss⟩:=HST.out rfl
 have HSH:Hid ((tabT l).1.length≤15∧Short (tabT l).1):=⟨hsl,hss⟩
 have HK:Hid (Keeps (tabT l).2):=HKE.out rfl
 have htb:=HTB.out w2 hB2 rfl
 clear hsl hss HST HKE HTB
 go_wp2_with fail
 refine htb.mono ?_
 rintro e w3 ⟨vs,FP,b,vt,rfl,hT⟩
 clear htb
 obtain⟨hok,hoff⟩:=tab_ok hT hB2
 obtain⟨pt,rfl⟩:=KU.out.ptr _ _ _ _ hok.at_
 have hoffs:¬FP sb:=hoff sb hs2.lt
 have hs3:SnAt w3 sb (id,par,seq,day,idx,op,fs) (.slice q L cap):=(hT.both.ok.frame.block sb hs2.lt).trans hs2
 have hft:=hT.files
 obtain⟨tq,tc,rfl⟩:=hft.form
 have HOK:Hid (SOk (upE EM w.heap.size) SAt w.heap.size w w3 (.pointer (some pt)) FP (tabT l).2∧¬FP sb∧SnAt w3 sb (id,par,seq,day,idx,op,fs) (.slice q L cap)∧FlsAt w3 (.slice tq (tabT l).1.length tc) (tabT l).1):=⟨hok,hoffs,hs3,hft⟩
 have z6:=hs3.cells.2.2.2.2.2.2
 have zf:w3.frozen? ⟨sb,6,none⟩=false:=frozen_of_row _ _ _ _ _ hs3
 clear hT hok hoff hoffs hs3 hft hs2 hB2
 obtain⟨TL,hTL0⟩:∃k,(tabT l).1.length=k:=⟨_,rfl⟩
 rw[hTL0]at HOK ⊢
 have HTT:Hid ((tabT l).1.length=TL):=hTL0
 clear hTL0
 have HSI:Hid (ScI EM SAt w (w3.setCell ⟨sb,6,none⟩ (.slice tq TL tc)) (.pointer (some pt)) FP (tabT l).2 sb (id,par,seq,day,idx,op,(tabT l).1) (.slice tq TL tc)):=by
   obtain⟨g1,g2,g3,g4⟩:=HOK.out
   exact ScI.set KU.out g1 g2 (by rw[HSB.out];exact Nat.le_refl _) g3 g4
 have HFT:Hid (FlsAt (w3.setCell ⟨sb,6,none⟩ (.slice tq TL tc)) (.slice tq TL tc) (tabT l).1):=HSI.out.files
 generalize hST:(tabT l).2=ST at *
 generalize hFS:(tabT l).1=FS at *
 clear hST hFS HPC HLE HFX HOK
 go_upto_region 8 with fail
 clear z6 zf
 generalize w3.setCell ⟨sb,6,none⟩ (.slice tq TL tc)=w4 at *
 have HQ:Hid (∀X X' fs v,ScI EM SAt w X (.pointer (some pt)) FP ST sb (id,par,seq,day,idx,op,fs) (v)→Below X.heap.size X X'→ScI EM SAt w X' (.pointer (some pt)) FP ST sb (id,par,seq,day,idx,op,fs) (v)):=fun X X' fs v h hb=>h.quiet KU.out hb
 have HBW:Hid (∀X,ScI EM SAt w X (.pointer (some pt)) FP ST sb (id,par,seq,day,idx,op,FS) (.slice tq TL tc)→Below w.heap.size w X):=fun X h=>h.ok.frame
 have hof:=ownFiles_any (.slice tq TL tc) FS w4 HSI.out.files (by have:=HSH.out.1;omega)
 go_wp2_with fail
 refine hof.mono ?_
 rintro e w5 ⟨v5,rfl,ho5,hb5⟩
 clear hof
 have HI5:Hid (ScI EM SAt w w5 (.pointer (some pt)) FP ST sb (id,par,seq,day,idx,op,FS) (.slice tq TL tc)):=HQ.out w4 w5 FS _ HSI.out hb5
 have hf5:=(flsAt_of_own ho5).1
 clear ho5 hb5 HSI HFT
 have hel:=HEL.out w5 (HBW.out w5 HI5.out)
 by_cases hgood:(listE FS).1=0∧0≤least∧least≤41
 case neg =>
   have hpl:=plan_bad v5 FS least w5 a hel hf5 (by have:=HSH.out.1;omega) HSH.out.2 (by
     by_cases e:(listE FS).1=0
     · exact Or.inr (by omega)
     · exact Or.inl e)
   have HB5:=HBW.out w5 HI5.out
   have HB5':Hid (Below w.heap.size w w5):=HB5
   clear HB5 hgood hel hf5 HI5
   go_wp2_with fail
   refine hpl.mono ?_
   rintro e w6 ⟨tt,uu,rfl,hb6⟩
   have HB6:Hid (Below w.heap.size w w6):=HB5'.out.trans (hb6.mono HB5'.out.size)
   clear hpl hb6
   go_wp2
   go_ret
   exact⟨by simp,HB6.out⟩
 case pos =>
 obtain⟨hlE,hl0,hl41⟩:=hgood
 have hF60:=(listE_ok.1 hlE).1
 have HRI:Hid (Rises 0 FS):=(listE_ok.1 hlE).2
 have hpl:=plan_all v5 FS least w5 a hel hf5 (by have:=HSH.out.1;omega) HSH.out.2 hlE hl0 hl41
 clear hel hf5 hlE
 go_wp2_with fail
 refine hpl.mono ?_
 rintro e w6 ⟨v6,gs,rfl,ht6,hpm,hb6⟩
 clear hpl
 obtain⟨ws,hKW,hsev⟩:=plan_kept HRI.out hpm
 have HKW:Hid (PlanK FS least ws):=hKW
 rw[hsev]at ht6
 have HT6:Hid (∀W,Below w6.heap.size w6 W→TssAt W v6 (ws.map fun z=>z.2.map (·.1))):=fun W hb=>ht6.below hb
 have HI6:Hid (∀W,Below w6.heap.size w6 W→ScI EM SAt w W (.pointer (some pt)) FP ST sb (id,par,seq,day,idx,op,FS) (.slice tq TL tc)):=fun W hb=>HQ.out w6 W FS _ (HQ.out w5 w6 FS _ HI5.out hb6) hb
 have HFL:Hid (∀W,Below w6.heap.size w6 W→FlsAt W (.slice tq TL tc) FS):=fun W hb=>(HI6.out W hb).files
 obtain⟨q6,c6,hv6⟩:=ht6.form
 obtain⟨WL,hWL⟩:∃k,ws.length=k:=⟨_,rfl⟩
 have HWL:Hid (ws.length=WL∧WL≤60):=⟨hWL,by have:=groups_len hKW;omega⟩
 rw[List.length_map,hWL]at hv6
 subst hv6
 have HSL:Hid (∀i F k,F.length≤100→(seenP ws i F k).length≤1000):=fun i F k hF=>seen_len hKW (by omega) i F k hF
 clear hKW hsev ht6 hpm hb6 HI5 hWL
 have hWL60:=HWL.out.2
 go_wp2_with fail
 go_loopw [13,14,15,16,17,18,19] (fun sv i _ _ _ _ _ wr=> ∃n:Nat,n≤WL∧i= .int .i64 n∧wr.ownsRow w6.heap.size 9 1 sv (seenP ws n [] 0).length ((seenP ws n [] 0).map Value.string)∧Below w6.heap.size w6 wr) (fun _ i _ _ _ _ _ _=>WL-(intOf i).toNat)
 case atStart=>exact ⟨0,by omega,rfl,World.ownsRow_nil _ _ _ _,Below.refl _ _⟩
 case round =>
 obtain⟨n,hn,rfl,ho,hb⟩:=hrel
 have HO:Hid (wr.ownsRow w6.heap.size 9 1 u13 (seenP ws n [] 0).length ((seenP ws n [] 0).map Value.string)):=ho
 clear ho
 by_cases hlt:n<WL
 case pos =>
   have hnx:n<ws.length:=by rw[HWL.out.1];exact hlt
   have g1:(n:Int)<(WL:Int):=by omega
   have g2:(0:Int)≤(n:Int):=by omega
   have hzm:ws[n]∈ws:=List.getElem_mem _
   obtain⟨hgr,hz2⟩:=HKW.out.grp _ hzm
   have HGR:Hid (GrpOf ws[n].1 ws[n].2):=hgr
   have HFM:Hid (∀f∈ws[n].2,f∈FS∧fewB least f=true):=fun f hf=>HKW.out.mem f (List.mem_flatMap.2 ⟨_,hzm,hf⟩)
   have HSN:Hid (∀c (hc:c<ws[n].2.length),inT (seenP ws n ws[n].2 c) ws[n].2[c].1=false):=fun c hc=>seen_not HKW.out hnx hc
   have HNX:Hid (seenP ws n ws[n].2 ws[n].2.length=seenP ws (n+1) [] 0):=seen_next hnx
   have hgl:=group_len HKW.out hzm
   have hUX:∃b u,q6=some ⟨b,0,none⟩∧∀W,Below w6.heap.size w6 W→W.cell? ⟨b,n,none⟩=some u∧TsAt W u (ws[n].2.map (·.1)):=by
     obtain⟨b,hq,hc⟩:=(HT6.out w6 (Below.refl _ _)).at_ (fun e=>by have e2:=congrArg List.length e;rw[List.length_map]at e2;simp only[List.length_nil]at e2;omega)
     obtain⟨u,h1,h2⟩:=hc n (by rw[List.length_map];exact hnx)
     rw[List.getElem_map]at h2
     exact⟨b,u,hq,fun W hW=>⟨below_keep hW h1,h2.below hW⟩⟩
   obtain⟨b6,u6,hq6,hU⟩:=hUX
   subst hq6
   have HU:Hid (∀W,Below w6.heap.size w6 W→W.cell? ⟨b6,n,none⟩=some u6∧TsAt W u6 (ws[n].2.map (·.1))):=hU
   obtain⟨uq,uc,hu6⟩:=(hU w6 (Below.refl _ _)).2.form
   have HOS:Hid (wr.ownsRow w6.heap.size 9 1 u13 (seenP ws n ws[n].2 0).length ((seenP ws n ws[n].2 0).map Value.string)):=by
     have e:seenP ws n ws[n].2 0=seenP ws n [] 0:=by unfold seenP;simp
     show World.ownsRow _ _ _ _ _ _ _
     rw[e]
     exact HO.out
   clear hU hgr hzm HO
   generalize hzd:ws[n]=z at *
   obtain⟨zg,F⟩:=z
   dsimp only at *
   obtain⟨UL,hUL⟩:∃k,F.length=k:=⟨_,rfl⟩
   have HUL:Hid (F.length=UL):=hUL
   rw[List.length_map,hUL]at hu6
   subst hu6
   rw[hUL]at hz2 hgl
   have hUL60:UL≤60:=by omega
   have HFS:Hid (∀f∈F,0≤f.2.2.1∧f.2.2.1≤40):=fun f hf=>file_rows (HRI.out.1 f (HFM.out f hf).1).1
   clear hzd hnx hUL hgl
   go_upto_region 18 with fail
   go_loopw [13,15,16,17,18,19] (fun sv su pa k _ _ wx=> ∃c:Nat,c≤UL∧k= .int .i64 c∧su= .int .i64 (sumN F c)∧(∃ps,pa= .string ps∧(0<c→ps=zg.1))∧wx.ownsRow w6.heap.size 9 1 sv (seenP ws n F c).length ((seenP ws n F c).map Value.string)∧Below w6.heap.size w6 wx) (fun _ _ _ k _ _ _=>UL-(intOf k).toNat)
   case atStart=>exact ⟨0,by omega,rfl,rfl,⟨_,rfl,fun h=>absurd h (Nat.lt_irrefl _)⟩,HOS.out,hb⟩
   case round =>
   clear HOS hb
   obtain⟨c,hc,rfl,rfl,⟨ps,rfl,hps⟩,ho,hb⟩:=hrel
   have HO:Hid (wr.ownsRow w6.heap.size 9 1 u13 (seenP ws n F c).length ((seenP ws n F c).map Value.string)):=ho
   clear ho
   obtain⟨pc,tu⟩:=HU.out wr hb
   by_cases hlt2:c<UL
   case neg =>
     obtain rfl:c=UL:=by omega
     have g3:¬(c:Int)<(c:Int):=by omega
     have g4:¬(c:Int)<2:=by omega
     have hsum:¬40<sumN F c:=by
       have h1:=HGR.out.room
       have h2:=HGR.out.sum
       have h3:sumN F c=(F.map (·.2.2.1)).sum:=by unfold sumN;rw[←HUL.out,List.take_length]
       rw[h3,←h2]
       omega
     generalize sumN F c=su at *
     have HR:Hid (wr.ownsRow w6.heap.size 9 1 u13 (seenP ws (n+1) [] 0).length ((seenP ws (n+1) [] 0).map Value.string)):=by
       have e:=HNX.out
       rw[HUL.out]at e
       show World.ownsRow _ _ _ _ _ _ _
       rw[←e]
       exact HO.out
     clear HO tu
     go_wp2
     go_roundw
     case rel=>exact ⟨n+1,by omega,by go_num,HR.out,hb⟩
     case measure=>simp [intOf];omega
   case pos =>
     have hcx:c<F.length:=by rw[HUL.out];exact hlt2
     have hfm0:=HFM.out F[c] (List.getElem_mem _)
     have hin:=inTs_any F[c].1 u13 (seenP ws n F c) wr (tsAt_own HO.out) (by have:=HSL.out n F c (by rw[HUL.out];omega);omega)
     rw[HSN.out c hcx]at hin
     obtain⟨ub,huq,hcu⟩:=tu.cells (fun e=>by have e2:=congrArg List.length e;rw[List.length_map]at e2;simp only[List.length_nil]at e2;omega)
     subst huq
     have pcell:=hcu c (by rw[List.length_map];exact hcx)
     rw[List.getElem_map]at pcell
     obtain⟨mm,hmm,hfe,hfp⟩:=findF_there hfm0.1
     have hfeq:FS[mm]=F[c]:=rises_one HRI.out (List.getElem_mem _) hfm0.1 hfp
     have hfd:=findOf_any (.slice tq TL tc) FS F[c].1 wr (HFL.out wr hb) (by omega)
     rw[hfe]at hfd
     obtain⟨fb,fo,htq,hcf⟩:=(HFL.out wr hb).cells (fun e=>by rw[e]at hmm;simp at hmm)
     have hfc:=hcf mm hmm
     rw[hfeq]at hfc
     have HPA:Hid (F[c].2.1=zg.1):=HGR.out.part _ (List.getElem_mem _)
     have HNN:=HFS.out F[c] (List.getElem_mem _)
     have HSM:Hid (sumN F (c+1)=sumN F c+F[c].2.2.1):=sumN_one hcx
     have hsb:=sumN_le HFS.out c (by omega)
     have HS1:Hid (seenP ws n F (c+1)=seenP ws n F c++ [F[c].1]):=seen_one hcx
     have hg45:F[c].2.1.data.toList≠ [45]:=fun e=>by
       have h1:=gone_part (HRI.out.1 _ hfm0.1).1
       rw[decide_eq_true e]at h1
       have h2:=hfm0.2
       unfold fewB at h2
       rw[h1]at h2
       simp at h2
     have hlst:F[c].2.2.1<least:=by
       have h2:=hfm0.2
       unfold fewB at h2
       rw[Bool.and_eq_true,decide_eq_true_eq]at h2
       exact h2.2
     have hTL:mm<TL:=by rw[←HTT.out];exact hmm
     clear hfm0 hcu hfp hfe hfeq hcf hmm
     generalize F[c]=f at *
     clear hcx
     obtain⟨f0,f1,f2,f3,f4,f5⟩:=f
     dsimp only at *
     obtain⟨k0,k1,k2,k3,k4,k5⟩:=hfc
     have htq':=htq
     subst htq
     have d1:(f1.toList == [45])=false:=neB_of hg45
     have HPS:Hid (0<c→(f1.toList == ps.toList)=true):=fun h0=>by rw[hps h0,HPA.out];simp
     have g1:(c:Int)<(UL:Int):=by omega
     have g2':(0:Int)≤(c:Int):=by omega
     have g3:¬(mm:Int)<0:=by omega
     have g4:(0:Int)≤(mm:Int):=by omega
     have g5:(mm:Int)<(TL:Int):=by omega
     have g6:¬least≤f2:=by omega
     have hal:Below wr.heap.size wr (wr.alloc (.cells #[.string f0,.string f1,.int .i64 f2,.int .i64 f3,.int .i64 f4,.int .i64 f5] 43)):=(Below.refl _ _).alloc (Nat.le_refl _) _
     have hfa:=FlAt.new wr (f0,f1,f2,f3,f4,f5)
     dsimp only at hfa
     obtain⟨v',W6,hr,ho6,hbut,-⟩:=str_run (own_but (P:=fun _=>False) HO.out (But.of_below hal) (fun _ _ h=>h)) (Nat.le_trans hb.size hal.size) f0 rfl (by have:=HSL.out n F c (by rw[HUL.out];omega);omega)
     have hbA:Below w6.heap.size w6 (wr.alloc (.cells #[.string f0,.string f1,.int .i64 f2,.int .i64 f3,.int .i64 f4,.int .i64 f5] 43)):=hb.trans (hal.mono hb.size)
     have hB6:Below w6.heap.size w6 W6:=hbA.trans (hbut.below hbA.size (fun k hk=>(own_blk (own_but (P:=fun _=>False) HO.out (But.of_below hal) (fun _ _ h=>h)) hk).1))
     have HR:Hid (W6.ownsRow w6.heap.size 9 1 v' (seenP ws n F (c+1)).length ((seenP ws n F (c+1)).map Value.string)):=by
       show World.ownsRow _ _ _ _ _ _ _
       rw[HS1.out]
       exact ho6
     have pc2:=(HU.out _ hbA).1
     have pp2:=below_keep hal pcell
     have hw2:IntKind.i64.wrap (sumN F c+f2)=sumN F c+f2:=IntWalk.i64_in _ (by omega)
     clear ho6 hbut HO tu
     generalize sumN F c=su at *
     go_upto_region 20 with fail
     go_wp2_with fail
     refine hfd.mono ?_
     rintro e wq ⟨rfl,hwq⟩
     replace hwq:=hwq.symm
     subst hwq
     go_upto_region 21 with fail
     go_wp2_with fail
     refine hin.mono ?_
     rintro e wq ⟨rfl,hwq⟩
     replace hwq:=hwq.symm
     subst hwq
     clear hfd hin
     go_upto_region 24 with fail
     clear k0 k1 k2 k3 k4 k5 pc pcell
     generalize hWA:wr.alloc (.cells #[.string f0,.string f1,.int .i64 f2,.int .i64 f3,.int .i64 f4,.int .i64 f5] 43)=WA at *
     clear hWA
     generalize wr.heap.size=xb at *
     obtain⟨y0,y1,y2,y3,y4,y5,-⟩:=hfa.cells
     dsimp only at y0 y1 y2 y3 y4 y5
     by_cases hc0:c=0
     · subst hc0
       go_wp2_with (at_builtin;refine wpList_append_run (by rfl) _ _ _ (by rfl) _ _ _ (by rfl) (by rfl) hr ?_)
       go_roundw
       case rel=>exact ⟨0+1,by omega,by go_num,by rw[HSM.out],⟨_,rfl,fun _=>HPA.out⟩,HR.out,hB6⟩
       case measure=>simp [intOf];omega
     · have d2:=HPS.out (by omega)
       have g7:(0:Int)<(c:Int):=by omega
       have g8:decide (0<c)=true:=decide_eq_true (by omega)
       go_wp2_with (at_builtin;refine wpList_append_run (by rfl) _ _ _ (by rfl) _ _ _ (by rfl) (by rfl) hr ?_)
       go_roundw
       case rel=>exact ⟨c+1,by omega,by go_num,by rw[HSM.out],⟨_,rfl,fun _=>HPA.out⟩,HR.out,hB6⟩
       case measure=>simp [intOf];omega
 case neg =>
 obtain rfl:n=WL:=by omega
 have HSP:Hid (seenP ws n [] 0=(ws.flatMap (·.2)).map (·.1)):=by
   show _=_
   unfold seenP
   rw[←HWL.out.1,List.take_length]
   simp
 have hTSn:=tsAt_own HO.out
 rw[HSP.out]at hTSn
 obtain⟨SF,hSF⟩:∃l,ws.flatMap (·.2)=l:=⟨_,rfl⟩
 have HSF:Hid (ws.flatMap (·.2)=SF):=hSF
 rw[hSF]at hTSn
 have HTS:Hid (∀W,Below wr.heap.size wr W→TsAt W u13 (SF.map (·.1))):=fun W hb'=>hTSn.below hb'
 have hSL:SF.length≤60:=by rw[←hSF];exact Nat.le_trans HKW.out.len hF60
 have HSM:Hid (∀f∈SF,f∈FS∧goneP f.1=false):=fun f hf=>by
   have h1:=HKW.out.mem f (by rw[hSF];exact hf)
   refine⟨h1.1,?_⟩
   have h2:=h1.2
   unfold fewB at h2
   rw[Bool.and_eq_true,Bool.not_eq_true']at h2
   exact h2.1
 have HND:Hid ((SF.map (·.1)).Pairwise fun p q=>p≠q):=by rw[←hSF];exact HKW.out.nd
 clear hTSn hSF HO
 have HI7:Hid (∀W,Below wr.heap.size wr W→ScI EM SAt w W (.pointer (some pt)) FP ST sb (id,par,seq,day,idx,op,FS) (.slice tq TL tc)):=fun W hb'=>HI6.out W (hb.trans (hb'.mono hb.size))
 have HT7:Hid (∀W,Below wr.heap.size wr W→TssAt W (.slice q6 n c6) (ws.map fun z=>z.2.map (·.1))):=fun W hb'=>HT6.out W (hb.trans (hb'.mono hb.size))
 clear HT6 HI6 HFL hb
 have HOW:Hid (∀W,Below wr.heap.size wr W→Calls Tryz.prog 15 #[.agg #[.int .i64 id,.int .i64 par,.int .i64 seq,.int .i64 day,.int .i64 idx,.string op,.slice tq TL tc]] W fun e w'=> ∃v',e= .returned (.agg #[.int .i64 id,.int .i64 par,.int .i64 seq,.int .i64 day,.int .i64 idx,.string op,v'])∧FlsAt w' v' FS∧Below W.heap.size W w'):=fun W hb'=>ownSnap_any (id,par,seq,day,idx,op,FS) (.slice tq TL tc) W (HI7.out W hb').files (by have:=HSH.out.1;show FS.length≤1000;omega)
 have HRV:Hid (∀W v',Below wr.heap.size wr W→FlsAt W v' FS→Calls Tryz.prog 14 #[.pointer (some pt),.agg #[.int .i64 id,.int .i64 par,.int .i64 seq,.int .i64 day,.int .i64 idx,.string op,v'],.int .i64 minI,.int .i64 maxI] W fun e w'=> ∃v' ev,e= .returned (.tuple #[v',ev])∧RowsAt w' v' (rowsS ST.obs (id,par,seq,day,idx,op,FS) minI maxI).1∧ToldE w' a ev (rowsS ST.obs (id,par,seq,day,idx,op,FS) minI maxI).2∧Below W.heap.size W w'):=fun W v' hb' hf =>
   KSU.out.rows W _ FP ST (id,par,seq,day,idx,op,FS) v' minI maxI (HI7.out W hb').ok.env (HI7.out W hb').ok.at_ HK.out hf (by have:=HSH.out.1;show FS.length≤100;omega) HSH.out.2
 have HBX:Hid (∀W,Below wr.heap.size wr W→Below w.heap.size w W):=fun W hb'=>HBW.out W (HI7.out W hb')
 have HSE:Hid (∀W,Below wr.heap.size wr W→W.cell? ⟨sb,0,none⟩=some (.int .i64 id)∧W.cell? ⟨sb,1,none⟩=some (.int .i64 par)∧W.cell? ⟨sb,2,none⟩=some (.int .i64 seq)∧W.cell? ⟨sb,3,none⟩=some (.int .i64 day)∧W.cell? ⟨sb,4,none⟩=some (.int .i64 idx)∧W.cell? ⟨sb,5,none⟩=some (.string op)∧W.cell? ⟨sb,6,none⟩=some (.slice tq TL tc)):=fun W hb'=>(HI7.out W hb').snap.cells
 have HLN:Hid ((rowsS ST.obs (id,par,seq,day,idx,op,FS) minI maxI).1.length≤4000):=rows_len ST.obs (id,par,seq,day,idx,op,FS) minI maxI (by have:=HSH.out.1;show FS.length≤100;omega)
 have g0:¬(n:Int)<(n:Int):=by omega
 obtain⟨z0,z1,z2,z3,z4,z5,z6⟩:=HSE.out wr (Below.refl _ _)
 have how:=HOW.out wr (Below.refl _ _)
 go_wp2_with fail
 refine how.mono ?_
 rintro e w7 ⟨v7,rfl,hf7,hb7⟩
 clear how z0 z1 z2 z3 z4 z5 z6
 have hrw:=HRV.out w7 v7 hb7 hf7
 clear hf7 HRV
 unfold minI maxI at hrw
 go_wp2_with fail
 refine hrw.mono ?_
 rintro e w8 ⟨v8,ev8,rfl,hr8,ht8,hb8⟩
 clear hrw
 have hb78:=hb7.trans (hb8.mono hb7.size)
 have HR8:Hid (RowsAt w8 v8 (rowsS ST.obs (id,par,seq,day,idx,op,FS) minI maxI).1):=hr8
 have HT8:Hid (ToldE w8 a ev8 (rowsS ST.obs (id,par,seq,day,idx,op,FS) minI maxI).2):=ht8
 clear hr8 ht8 hb7 hb8
 by_cases hE:(rowsS ST.obs (id,par,seq,day,idx,op,FS) minI maxI).2.1=0
 case neg =>
   obtain⟨tt,uu,rfl⟩:=HT8.out.bad hE
   have HB8:Hid (Below w.heap.size w w8):=HBX.out w8 hb78
   clear hE HR8 HT8
   go_wp2
   go_ret
   exact⟨rfl,HB8.out⟩
 case pos =>
 obtain rfl:=HT8.out.ok hE
 have HE:Hid ((rowsS ST.obs (id,par,seq,day,idx,op,FS) minI maxI).2.1=0):=hE
 clear hE HT8
 obtain⟨q8,c8,hv8⟩:=HR8.out.form
 obtain⟨RL,hRL⟩:∃k,(rowsS ST.obs (id,par,seq,day,idx,op,FS) minI maxI).1.length=k:=⟨_,rfl⟩
 rw[hRL]at hv8
 clear hRL
 subst hv8
 have HUP:Hid (∀W,Below w8.heap.size w8 W→Below wr.heap.size wr W):=fun W hb'=>hb78.trans (hb'.mono hb78.size)
 have HRT:Hid (∀W v' qv (ps:List ByteArray),Below w8.heap.size w8 W→FlsAt W v' FS→TsAt W qv ps→ps.length≤1000→(∀p∈ps,dataP FS p)→Calls Tryz.prog 16 #[.pointer (some pt),.agg #[.int .i64 id,.int .i64 par,.int .i64 seq,.int .i64 day,.int .i64 idx,.string op,v'],qv] W fun e w'=> ∃v2,e= .returned (.tuple #[v2,.nilIface])∧RowsAt w' v2 (sortR ((FS.filter fun f=> !goneP f.1 && inT ps f.1).flatMap (rowsF ST.obs FS)))∧Below W.heap.size W w'):=fun W v' qv ps hb' hf hq hl hd=>by
   have hrs:=rows_some HE.out ps
   have h1:=rewrite_ok KU.out KSU.out HEL.out W pt FP ST sb _ _ (HI7.out W (HUP.out W hb')) HK.out (id,par,seq,day,idx,op,FS) v' hf (by have:=HSH.out.1;show FS.length≤100;omega) HSH.out.2 qv ps hq hl (rows_ok HE.out).1 hd (by rw[hrs])
   rw[hrs]at h1
   exact h1
 have HFC:Hid (∀W,Below w8.heap.size w8 W→FlsAt W (.slice tq TL tc) FS):=fun W hb'=>(HI7.out W (HUP.out W hb')).files
 have HOW8:Hid (∀W,Below w8.heap.size w8 W→Calls Tryz.prog 15 #[.agg #[.int .i64 id,.int .i64 par,.int .i64 seq,.int .i64 day,.int .i64 idx,.string op,.slice tq TL tc]] W fun e w'=> ∃v',e= .returned (.agg #[.int .i64 id,.int .i64 par,.int .i64 seq,.int .i64 day,.int .i64 idx,.string op,v'])∧FlsAt w' v' FS∧Below W.heap.size W w'):=fun W hb'=>HOW.out W (HUP.out W hb')
 have HSE8:Hid (∀W,Below w8.heap.size w8 W→W.cell? ⟨sb,0,none⟩=some (.int .i64 id)∧W.cell? ⟨sb,1,none⟩=some (.int .i64 par)∧W.cell? ⟨sb,2,none⟩=some (.int .i64 seq)∧W.cell? ⟨sb,3,none⟩=some (.int .i64 day)∧W.cell? ⟨sb,4,none⟩=some (.int .i64 idx)∧W.cell? ⟨sb,5,none⟩=some (.string op)∧W.cell? ⟨sb,6,none⟩=some (.slice tq TL tc)):=fun W hb'=>HSE.out W (HUP.out W hb')
 have HTS8:Hid (∀W,Below w8.heap.size w8 W→TsAt W u13 (SF.map (·.1))):=fun W hb'=>HTS.out W (HUP.out W hb')
 have HTP8:Hid (∀W,Below w8.heap.size w8 W→TssAt W (.slice q6 n c6) (ws.map fun z=>z.2.map (·.1))):=fun W hb'=>HT7.out W (HUP.out W hb')
 have HBX8:Hid (∀W,Below w8.heap.size w8 W→Below w.heap.size w W):=fun W hb'=>HBX.out W (HUP.out W hb')
 have HRL:Hid (∀F:List Fl,(F.flatMap (rowsF ST.obs FS)).length≤(F.flatMap (rowsF ST.obs FS)).length):=fun F=>Nat.le_refl _
 clear HOW HSE HTS HT7 HBX HUP hb78 HRL HEL HEM KSU KU HQ HBW
 have hTL15:TL≤15:=by rw[←HTT.out];exact HSH.out.1
 have HONE:Hid (∀ps,(sortR ((FS.filter fun f=> !goneP f.1 && inT ps f.1).flatMap (rowsF ST.obs FS))).length≤4000):=fun ps=>by
   have hrs:=rows_some HE.out ps
   have h1:=rows_len ST.obs (snF (id,par,seq,day,idx,op,FS) (FS.filter fun f=> !dropB ps f)) minI maxI (Nat.le_trans (List.length_filter_le _ _) (by have:=HSH.out.1;omega))
   have e:rowsS ST.obs (snF (id,par,seq,day,idx,op,FS) (FS.filter fun f=> !dropB ps f)) minI maxI=(sortR ((FS.filter fun f=> !goneP f.1 && inT ps f.1).flatMap (rowsF ST.obs FS)),0,none):=hrs
   rw[e]at h1
   exact h1
 go_wp2_with fail
 go_loopw [21,22,23,24,25] (fun rv i _ _ _ wr=> ∃(k:Nat) (R:List Rw),k≤TL∧i= .int .i64 k∧wr.ownsRow w8.heap.size 112 3 rv R.length (flatR R)∧R.Perm (((FS.take k).filter fun f=> !goneP f.1 && !inT (SF.map (·.1)) f.1).flatMap (rowsF ST.obs FS))∧R.length≤4000*k∧Below w8.heap.size w8 wr) (fun _ i _ _ _ _=>TL-(intOf i).toNat)
 case atStart=>exact ⟨0, [],by omega,rfl,World.ownsRow_nil _ _ _ _,by simp,by simp,Below.refl _ _⟩
 case round =>
 obtain⟨k,R,hk,rfl,ho,hpm,hRl,hb⟩:=hrel
 have HO:Hid (wr.ownsRow w8.heap.size 112 3 u21 R.length (flatR R)∧R.Perm (((FS.take k).filter fun f=> !goneP f.1 && !inT (SF.map (·.1)) f.1).flatMap (rowsF ST.obs FS))):=⟨ho,hpm⟩
 clear ho hpm
 by_cases hlt3:k<TL
 case pos =>
   have hkx:k<FS.length:=by rw[HTT.out];exact hlt3
   obtain⟨fb,fo,htq,hcf⟩:=(HFC.out wr hb).cells (fun e=>by rw[e]at hkx;simp at hkx)
   have hfc:=hcf k hkx
   have HF0:Hid (FS[k]∈FS):=List.getElem_mem _
   have hgp:=gone_part (HRI.out.1 _ HF0.out).1
   have HNX:Hid (∀q:Fl→Bool,(FS.take (k+1)).filter q=(FS.take k).filter q++(if q FS[k]=true then [FS[k]] else [])):=fun q=>by
     rw[List.take_succ_eq_append_getElem hkx,List.filter_append,List.filter_cons]
     rfl
   clear hcf
   generalize FS[k]=f at *
   clear hkx
   have HRX:Hid (goneP f.1=false→(sortR ((FS.filter fun x=> !goneP x.1 && inT [f.1] x.1).flatMap (rowsF ST.obs FS))).Perm (rowsF ST.obs FS f)):=fun hg=>by
     have h1:=files_of HRI.out (F:= [f]) (fun x hx=>by rw[List.mem_singleton.1 hx];exact⟨HF0.out,hg⟩) (List.pairwise_singleton _ _)
     have h2:=(sortR_perm ((FS.filter fun x=> !goneP x.1 && inT [f.1] x.1).flatMap (rowsF ST.obs FS))).trans (h1.flatMap_right _)
     simpa using h2
   have HDP:Hid (goneP f.1=false→∀p∈ [f.1],dataP FS p):=fun hg p hp=>by rw[List.mem_singleton.1 hp];exact⟨f,HF0.out,rfl,hg⟩
   have hin:=inTs_any f.1 u13 (SF.map (·.1)) wr (HTS8.out wr hb) (by rw[List.length_map];omega)
   obtain⟨f0,f1,f2,f3,f4,f5⟩:=f
   dsimp only at *
   obtain⟨k0,k1,-,-,-,-⟩:=hfc
   subst htq
   have g1:(k:Int)<(TL:Int):=by omega
   have g2:(0:Int)≤(k:Int):=by omega
   by_cases hg:f1.data.toList= [45]
   case pos =>
     rw[decide_eq_true hg]at hgp
     have d1:(f1.toList == [45])=true:=eqB_of hg
     have HA:Hid (R.Perm (((FS.take (k+1)).filter fun f=> !goneP f.1 && !inT (SF.map (·.1)) f.1).flatMap (rowsF ST.obs FS))):=by
       have e:=HNX.out fun f=> !goneP f.1 && !inT (SF.map (·.1)) f.1
       rw[hgp]at e
       show List.Perm _ _
       rw[e]
       simpa using HO.out.2
     clear hin HNX HRX HDP hgp HF0 hg
     go_wp2
     go_roundw
     case rel=>exact ⟨k+1,R,by omega,by go_num,HO.out.1,HA.out,by omega,hb⟩
     case measure=>simp [intOf];omega
   case neg =>
   rw[decide_eq_false hg]at hgp
   have d1:(f1.toList == [45])=false:=neB_of hg
   clear hg
   have HGP:Hid (goneP f0=false):=hgp
   clear hgp
   cases hI:inT (SF.map (·.1)) f0
   case true =>
     rw[hI]at hin
     have HA:Hid (R.Perm (((FS.take (k+1)).filter fun f=> !goneP f.1 && !inT (SF.map (·.1)) f.1).flatMap (rowsF ST.obs FS))):=by
       have e:=HNX.out fun f=> !goneP f.1 && !inT (SF.map (·.1)) f.1
       rw[hI]at e
       show List.Perm _ _
       rw[e]
       simpa using HO.out.2
     clear HNX HRX HDP HF0 HGP hI
     go_wp2_with fail
     refine hin.mono ?_
     rintro e wq ⟨rfl,hwq⟩
     replace hwq:=hwq.symm
     subst hwq
     clear hin
     go_wp2
     go_roundw
     case rel=>exact ⟨k+1,R,by omega,by go_num,HO.out.1,HA.out,by omega,hb⟩
     case measure=>simp [intOf];omega
   case false =>
   rw[hI]at hin
   have HNY:Hid (((FS.take (k+1)).filter fun f=> !goneP f.1 && !inT (SF.map (·.1)) f.1).flatMap (rowsF ST.obs FS)=((FS.take k).filter fun f=> !goneP f.1 && !inT (SF.map (·.1)) f.1).flatMap (rowsF ST.obs FS)++rowsF ST.obs FS (f0,f1,f2,f3,f4,f5)):=by
     have e:=HNX.out fun f=> !goneP f.1 && !inT (SF.map (·.1)) f.1
     rw[hI,HGP.out]at e
     show _=_
     rw[e]
     simp
   clear hI HNX
   go_wp2_with fail
   refine hin.mono ?_
   rintro e wq ⟨rfl,hwq⟩
   replace hwq:=hwq.symm
   subst hwq
   clear hin
   have HONX:=HONE.out [f0]
   have HRW:=fun W v' qv hb' hf hq=>HRT.out W v' qv [f0] hb' hf hq (by simp) (HDP.out HGP.out)
   have HRP:=HRX.out HGP.out
   generalize hRX:sortR ((FS.filter fun x=> !goneP x.1 && inT [f0] x.1).flatMap (rowsF ST.obs FS))=RX at *
   clear hRX HRX HDP
   have HRW':Hid (∀W v' qv,Below w8.heap.size w8 W→FlsAt W v' FS→TsAt W qv [f0]→Calls Tryz.prog 16 #[.pointer (some pt),.agg #[.int .i64 id,.int .i64 par,.int .i64 seq,.int .i64 day,.int .i64 idx,.string op,v'],qv] W fun e w'=> ∃v2,e= .returned (.tuple #[v2,.nilIface])∧RowsAt w' v2 RX∧Below W.heap.size W w'):=HRW
   have HRP':Hid (RX.Perm (rowsF ST.obs FS (f0,f1,f2,f3,f4,f5))):=HRP
   clear HRW HRP
   obtain⟨z0,z1,z2,z3,z4,z5,z6⟩:=HSE8.out wr hb
   go_upto_region 41 with fail
   go_cut [24,25] from 179 to 191 (fun x y wx=>y= .nilIface∧RowsAt wx x RX∧Below wr.heap.size wr wx)
   case first =>
     have hdr:Below wr.heap.size wr wr.drew:=(Below.refl _ _).drew
     have hBd:Below w8.heap.size w8 wr.drew:=hb.trans (hdr.mono hb.size)
     have hal:Below wr.heap.size wr (wr.alloc (.cells #[.string f0] 9)).drew:=((Below.refl _ _).alloc (Nat.le_refl _) _).drew
     have hBa:Below w8.heap.size w8 (wr.alloc (.cells #[.string f0] 9)).drew:=hb.trans (hal.mono hb.size)
     have zd0:=below_keep hdr z0
     have zd1:=below_keep hdr z1
     have zd2:=below_keep hdr z2
     have zd3:=below_keep hdr z3
     have zd4:=below_keep hdr z4
     have zd5:=below_keep hdr z5
     have zd6:=below_keep hdr z6
     have kd0:=below_keep hdr k0
     have za0:=below_keep hal z0
     have za1:=below_keep hal z1
     have za2:=below_keep hal z2
     have za3:=below_keep hal z3
     have za4:=below_keep hal z4
     have za5:=below_keep hal z5
     have za6:=below_keep hal z6
     have hsA:TsAt (wr.alloc (.cells #[.string f0] 9)).drew (.slice (some ⟨wr.heap.size,0,none⟩) 1 1) [f0]:=(ts_one wr f0).below (Below.refl _ _).drew
     first
       | (go_region_with (first
         | (go_at_call 15;(with_reducible refine(HOW8.out _ hBd).mono ?_);rintro e wX ⟨vX,rfl,hfX,hbX⟩;have kX:=below_keep hbX kd0;have hBX:Below w8.heap.size w8 wX:=hBd.trans (hbX.mono hBd.size);have hrX:Below wr.heap.size wr wX:=hdr.trans (hbX.mono hdr.size))
         | (go_at_call 15;(with_reducible refine(HOW8.out _ hBa).mono ?_);rintro e wX ⟨vX,rfl,hfX,hbX⟩;have hsX:=hsA.below hbX;have hBX:Below w8.heap.size w8 wX:=hBa.trans (hbX.mono hBa.size);have hrX:Below wr.heap.size wr wX:=hal.trans (hbX.mono hal.size))
         | (go_at_call 16;(with_reducible refine(HRW'.out _ _ _ hBX hfX hsX).mono ?_);rintro e wY ⟨vY,rfl,hrY,hbY⟩;have hZ:Below wr.heap.size wr wY:=hrX.trans (hbY.mono hrX.size))
         | (go_at_call 16;have hX2:Below wX.heap.size wX (wX.alloc (.cells #[.string f0] 9)):=(Below.refl _ _).alloc (Nat.le_refl _) _;(with_reducible refine(HRW'.out _ _ _ (hBX.trans (hX2.mono hBX.size)) (hfX.below hX2) (ts_one wX f0)).mono ?_);rintro e wY ⟨vY,rfl,hrY,hbY⟩;have hZ:Below wr.heap.size wr wY:=(hrX.trans (hX2.mono hrX.size)).trans (hbY.mono (hrX.trans (hX2.mono hrX.size)).size))))
       | fail
     all_goals go_wp2
     all_goals go_meet
     all_goals exact⟨rfl,hrY,hZ⟩
   case rest =>
   obtain⟨rfl,hr2,hb2⟩:=hcut
   have hb9:Below w8.heap.size w8 wc:=hb.trans (hb2.mono hb.size)
   have hown:=own_but (P:=fun _=>False) HO.out.1 (But.of_below hb2) (fun _ _ h=>h)
   clear z0 z1 z2 z3 z4 z5 z6 k0 k1 hb2
   obtain⟨q9,c9,rfl⟩:=hr2.form
   obtain⟨v',w',hrun,hown',hgr,hm⟩:=run_append_rows wc w8.heap.size u21 R.length (flatR R) hown q9 RX.length c9 RX hr2 (by omega) hb9.size
   have hbW:Below w8.heap.size w8 w':=hb9.grown hgr hb9.size fun k hk=>(own_in hown hk).1
   rw[←flat_append,←List.length_append]at hown'
   have HW:Hid (w'.ownsRow w8.heap.size 112 3 v' (R++RX).length (flatR (R++RX))):=hown'
   have HA:Hid ((R++RX).Perm (((FS.take (k+1)).filter fun f=> !goneP f.1 && !inT (SF.map (·.1)) f.1).flatMap (rowsF ST.obs FS))):=by
     show List.Perm _ _
     rw[HNY.out]
     exact HO.out.2.append HRP'.out
   have HL:Hid ((R++RX).length≤4000*(k+1)):=by
     show _≤_
     rw[List.length_append]
     omega
   clear hown hown' hgr hm hr2 HO HNY HRP' HRW' hb9 HONX
   generalize R++RX=R2 at *
   generalize RX.length=m9 at *
   go_wp2_with (at_builtin;refine wpList_append_run (by rfl) _ _ _ (by rfl) _ _ _ (by rfl) (by rfl) hrun ?_)
   go_roundw
   case rel=>exact ⟨k+1,R2,by omega,by go_num,HW.out,HA.out,HL.out,hbW⟩
   case measure=>simp [intOf];omega
 case neg =>
 obtain rfl:k=TL:=by omega
 obtain⟨U,hU⟩:∃U,(FS.filter fun f=> !goneP f.1 && !inT (SF.map (·.1)) f.1)=U:=⟨_,rfl⟩
 have HU:Hid ((FS.filter fun f=> !goneP f.1 && !inT (SF.map (·.1)) f.1)=U):=hU
 have HA0:Hid (R.Perm ((U++(ws.take 0).flatMap (·.2)).flatMap (rowsF ST.obs FS))):=by
   have h1:=HO.out.2
   rw[←HTT.out,List.take_length,hU]at h1
   show List.Perm _ _
   simpa using h1
 have HO0:Hid (wr.ownsRow w8.heap.size 112 3 u21 R.length (flatR R)):=HO.out.1
 have hR6:R.length≤60000:=by omega
 clear hU HO hRl
 have g1:¬(k:Int)<(k:Int):=by omega
 go_wp2_with fail
 go_loopw [21,26,27,28] (fun rv i _ _ wr=> ∃(m:Nat) (R:List Rw),m≤n∧i= .int .i64 m∧wr.ownsRow w8.heap.size 112 3 rv R.length (flatR R)∧R.Perm ((U++(ws.take m).flatMap (·.2)).flatMap (rowsF ST.obs FS))∧R.length≤60000+4000*m∧Below w8.heap.size w8 wr) (fun _ i _ _ _=>n-(intOf i).toNat)
 case atStart=>exact ⟨0,R,by omega,rfl,HO0.out,HA0.out,by omega,hb⟩
 case round =>
 clear HO0 HA0 hb hR6
 obtain⟨m,R,hm,rfl,ho,hpm,hRl,hb⟩:=hrel
 have HO:Hid (wr.ownsRow w8.heap.size 112 3 u21 R.length (flatR R)∧R.Perm ((U++(ws.take m).flatMap (·.2)).flatMap (rowsF ST.obs FS))):=⟨ho,hpm⟩
 clear ho hpm
 by_cases hlt4:m<n
 case pos =>
   have hmx:m<ws.length:=by rw[HWL.out.1];exact hlt4
   have hzm:ws[m]∈ws:=List.getElem_mem _
   have HFM:Hid (∀f∈ws[m].2,f∈FS∧goneP f.1=false):=fun f hf=>HSM.out f (by rw[←HSF.out];exact List.mem_flatMap.2 ⟨_,hzm,hf⟩)
   have hnd:(ws[m].2.map (·.1)).Pairwise fun p q=>p≠q:=by
     have h1:=HND.out
     rw[←HSF.out]at h1
     refine h1.sublist ?_
     exact List.Sublist.map _ (group_sub hzm)
   have HTK:Hid ((U++(ws.take (m+1)).flatMap (·.2)).flatMap (rowsF ST.obs FS)=(U++(ws.take m).flatMap (·.2)).flatMap (rowsF ST.obs FS)++ws[m].2.flatMap (rowsF ST.obs FS)):=by
     exact takes_next hmx
   have hgl:=group_len HKW.out hzm
   obtain⟨b6,hq6,hc6⟩:=(HTP8.out wr hb).at_ (fun e=>by have e2:=congrArg List.length e;rw[List.length_map]at e2;simp only[List.length_nil]at e2;omega)
   obtain⟨u6,p6,t6⟩:=hc6 m (by rw[List.length_map];exact hmx)
   rw[List.getElem_map]at t6
   subst hq6
   generalize ws[m].2=F at *
   clear hc6 hzm hmx
   have HRP:Hid ((sortR ((FS.filter fun x=> !goneP x.1 && inT (F.map (·.1)) x.1).flatMap (rowsF ST.obs FS))).Perm (F.flatMap (rowsF ST.obs FS))) :=
     (sortR_perm _).trans ((files_of HRI.out HFM.out hnd).flatMap_right _)
   have HDP:Hid (∀p∈F.map (·.1),dataP FS p):=fun p hp=>by
     obtain⟨f,hf,rfl⟩:=List.mem_map.1 hp
     exact⟨f,(HFM.out f hf).1,rfl,(HFM.out f hf).2⟩
   have HONX:=HONE.out (F.map (·.1))
   have HRW:=fun W v' qv hb' hf hq=>HRT.out W v' qv (F.map (·.1)) hb' hf hq (by rw[List.length_map];omega) HDP.out
   generalize hRX:sortR ((FS.filter fun x=> !goneP x.1 && inT (F.map (·.1)) x.1).flatMap (rowsF ST.obs FS))=RX at *
   generalize hRF:F.flatMap (rowsF ST.obs FS)=RF at *
   generalize hPS:F.map (·.1)=PS at *
   have HRW':Hid (∀W v',Below w8.heap.size w8 W→FlsAt W v' FS→TsAt W u6 PS→Calls Tryz.prog 16 #[.pointer (some pt),.agg #[.int .i64 id,.int .i64 par,.int .i64 seq,.int .i64 day,.int .i64 idx,.string op,v'],u6] W fun e w'=> ∃v2,e= .returned (.tuple #[v2,.nilIface])∧RowsAt w' v2 RX∧Below W.heap.size W w'):=fun W v'=>HRW W v' u6
   clear hRX hRF hPS HDP hnd HFM HRW hgl
   obtain⟨uq,uc,hu6⟩:=t6.form
   generalize hUL:PS.length=UL at *
   clear hUL
   subst hu6
   have g2:(m:Int)<(n:Int):=by omega
   have g3:(0:Int)≤(m:Int):=by omega
   obtain⟨z0,z1,z2,z3,z4,z5,z6⟩:=HSE8.out wr hb
   go_upto_region 48 with fail
   go_cut [27,28] from 203 to 213 (fun x y wx=>y= .nilIface∧RowsAt wx x RX∧Below wr.heap.size wr wx)
   case first =>
     have hdr:Below wr.heap.size wr wr.drew:=(Below.refl _ _).drew
     have hBd:Below w8.heap.size w8 wr.drew:=hb.trans (hdr.mono hb.size)
     have zd0:=below_keep hdr z0
     have zd1:=below_keep hdr z1
     have zd2:=below_keep hdr z2
     have zd3:=below_keep hdr z3
     have zd4:=below_keep hdr z4
     have zd5:=below_keep hdr z5
     have zd6:=below_keep hdr z6
     have pd6:=below_keep hdr p6
     have td6:=t6.below hdr
     first
       | (go_region_with (first
         | (go_at_call 15;(with_reducible refine(HOW8.out _ hBd).mono ?_);rintro e wX ⟨vX,rfl,hfX,hbX⟩;have kX:=below_keep hbX pd6;have hsX:=td6.below hbX;have hBX:Below w8.heap.size w8 wX:=hBd.trans (hbX.mono hBd.size);have hrX:Below wr.heap.size wr wX:=hdr.trans (hbX.mono hdr.size))
         | (go_at_call 16;(with_reducible refine(HRW'.out _ _ hBX hfX hsX).mono ?_);rintro e wY ⟨vY,rfl,hrY,hbY⟩;have hZ:Below wr.heap.size wr wY:=hrX.trans (hbY.mono hrX.size))))
       | fail
     all_goals go_wp2
     all_goals go_meet
     all_goals exact⟨rfl,hrY,hZ⟩
   case rest =>
   obtain⟨rfl,hr2,hb2⟩:=hcut
   have hb9:Below w8.heap.size w8 wc:=hb.trans (hb2.mono hb.size)
   have hown:=own_but (P:=fun _=>False) HO.out.1 (But.of_below hb2) (fun _ _ h=>h)
   clear z0 z1 z2 z3 z4 z5 z6 p6 t6 hb2
   obtain⟨q9,c9,rfl⟩:=hr2.form
   obtain⟨v',w',hrun,hown',hgr,hm9⟩:=run_append_rows wc w8.heap.size u21 R.length (flatR R) hown q9 RX.length c9 RX hr2 (by omega) hb9.size
   have hbW:Below w8.heap.size w8 w':=hb9.grown hgr hb9.size fun k hk=>(own_in hown hk).1
   rw[←flat_append,←List.length_append]at hown'
   have HW:Hid (w'.ownsRow w8.heap.size 112 3 v' (R++RX).length (flatR (R++RX))):=hown'
   have HA:Hid ((R++RX).Perm ((U++(ws.take (m+1)).flatMap (·.2)).flatMap (rowsF ST.obs FS))):=by
     show List.Perm _ _
     rw[HTK.out]
     exact HO.out.2.append HRP.out
   have HL:Hid ((R++RX).length≤60000+4000*(m+1)):=by
     show _≤_
     rw[List.length_append]
     omega
   clear hown hown' hgr hm9 hr2 HO HTK HRP HRW' hb9 HONX
   generalize R++RX=R2 at *
   generalize RX.length=m9 at *
   go_wp2_with (at_builtin;refine wpList_append_run (by rfl) _ _ _ (by rfl) _ _ _ (by rfl) (by rfl) hrun ?_)
   go_roundw
   case rel=>exact ⟨m+1,R2,by omega,by go_num,HW.out,HA.out,HL.out,hbW⟩
   case measure=>simp [intOf];omega
 case neg =>
 obtain rfl:m=n:=by omega
 have htot:=rows_total HE.out (S:=SF) HSM.out HND.out (R:=R) (by
   have h1:=HO.out.2
   rw[←HWL.out.1,List.take_length,HSF.out,←HU.out]at h1
   exact h1)
 have hA8:=HR8.out.below hb
 have hsm:=same_any u21 (.slice q8 RL c8) R _ wr (rowsAt_of_own HO.out.1).1 hA8 (by rw[htot.2];have:=HLN.out;omega) (by have:=HLN.out;omega)
 rw[decide_eq_true htot.1]at hsm
 have HB:Hid (Below w.heap.size w wr):=HBX8.out wr hb
 obtain⟨gq,gc,hgv⟩:=(rowsAt_of_own HO.out.1).1.form
 have g5:¬(m:Int)<(m:Int):=by omega
 generalize hRL9:R.length=r9 at *
 clear hRL9
 clear htot hA8 HO
 subst hgv
 go_wp2_with fail
 refine hsm.mono ?_
 rintro e w14 ⟨rfl,hb14⟩
 clear hsm
 go_wp2
 go_ret
 exact⟨rfl,HB.out.trans (hb14.mono HB.out.size)⟩
end
end Go.Proofs.YtgckdomafbnmkaaGreatDoor
