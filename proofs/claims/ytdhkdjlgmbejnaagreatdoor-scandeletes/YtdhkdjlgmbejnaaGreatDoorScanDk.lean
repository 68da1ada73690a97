/- By an AI agent. -/
import Derived.Test.YtdhkdjlgmbejnaaGreatDoorScanOnce
namespace Go.Proofs.YtdhkdjlgmbejnaaGreatDoor
open Go.RowKit Go.Extern.Stop Go.Stop Go.Extern Go.Sort Go.Shelf Go.Lib
def longFs (fs:List Fl):Bool:=(decide (40<fs.length) && decide (fs.length≠60) && decide (fs.length≠61)) || fs.any longFB
theorem anyLong_succ {fs:List Fl} {n:Nat} (h:∀j (h:j<fs.length),j<n→longFB fs[j]=false) (hn:n<fs.length) (e:longFB fs[n]=false):∀j (h:j<fs.length),j<n+1→longFB fs[j]=false:=fun j hj hjn=>by
 rcases Nat.lt_or_ge j n with h' | h'
 · exact h j hj h'
 · obtain rfl:j=n:=by omega
   exact e
set_option maxRecDepth 100000 in
set_option maxHeartbeats 4000000 in
theorem longFiles_any (v:Value) (fs:List Fl) (w:World) (hx:FlsAt w v fs) (hl:fs.length≤maxLen) (hsz:∀f∈fs,f.1.size≤maxLen∧f.2.1.size≤maxLen) :
   Calls Tryz.prog 30 #[v] w fun e w'=>e= .returned (.int .i64 (if longFs fs then 1 else 0))∧Below w.heap.size w w':=by
 obtain⟨q,cap,rfl⟩:=hx.form
 have HFX:Hid (FlsAt w (.slice q fs.length cap) fs):=hx
 have HSZ:Hid (∀f∈fs,f.1.size≤maxLen∧f.2.1.size≤maxLen):=hsz
 obtain⟨L,hL⟩:∃L,fs.length=L:=⟨_,rfl⟩
 have HX:Hid (fs.length=L):=hL
 rw[hL]at hl ⊢
 unfold maxLen at hl
 generalize hR:(if longFs fs then (1:Int) else 0)=R
 have HR:Hid ((if longFs fs then (1:Int) else 0)=R):=hR
 clear hL hx hsz hR
 by_cases hbig:40<L∧L≠60∧L≠61
 · have hRR:R=1:=by
     rw[←HR.out,if_pos]
     unfold longFs
     rw[HX.out]
     simp[hbig.1,hbig.2.1,hbig.2.2]
   subst hRR
   obtain⟨b1,b2,b3⟩:=hbig
   have i1:(40:Int)<(L:Int):=by omega
   have j2:((L:Int) != 60)=true:=by simp;omega
   have j3:((L:Int) != 61)=true:=by simp;omega
   go_enter Tryz.func30,Tryz.ntmps30
   go_wp2
   go_ret
   exact⟨rfl,Below.refl _ _⟩
 · have HS :Hid ((decide (40<fs.length) && decide (fs.length≠60) && decide (fs.length≠61))=false):=by
     show _=_
     rw[HX.out]
     rw[Bool.eq_false_iff]
     intro h
     simp only[Bool.and_eq_true,decide_eq_true_eq]at h
     exact hbig ⟨h.1.1,h.1.2,h.2⟩
   have hc3:(¬(40:Int)<(L:Int))∨((40:Int)<(L:Int)∧(L:Int)=60)∨((40:Int)<(L:Int)∧¬(L:Int)=60∧(L:Int)=61):=by omega
   clear hbig
   rcases hc3 with i1 | ⟨i1,i2⟩|⟨i1,i2,i3⟩
   · skip
     go_enter Tryz.func30,Tryz.ntmps30
     go_wp2
     go_loopw [3] (fun k wr=> ∃n:Nat,n≤L∧k= .int .i64 n∧(∀j (h:j<fs.length),j<n→longFB fs[j]=false)∧Below w.heap.size w wr) (fun k _=>L-(intOf k).toNat)
     case atStart=>exact ⟨0,by omega,rfl,fun j h h'=>absurd h' (Nat.not_lt_zero _),Below.refl _ _⟩
     case round =>
       obtain⟨n,hn,rfl,hno,hb⟩:=hrel
       have HNO:Hid (∀j (h:j<fs.length),j<n→longFB fs[j]=false):=hno
       clear hno
       by_cases hlt:n<L
       · have hltx:n<fs.length:=by rw[HX.out];exact hlt
         obtain⟨b,o,hq,hc⟩:=(HFX.out.below hb).cells (fun e=>by rw[e]at hltx;simp at hltx)
         subst hq
         obtain⟨c0,c1,c2,c3,c4,c5⟩:=hc n hltx
         obtain⟨k1,k2⟩:=HSZ.out fs[n] (List.getElem_mem _)
         have hlf:=longFile_any fs[n] wr k1 k2
         have hyes:longFB fs[n]=true→R=1:=fun e=>by
           rw[←HR.out,if_pos]
           unfold longFs
           rw[Bool.or_eq_true]
           exact Or.inr (List.any_eq_true.2 ⟨fs[n],List.getElem_mem _,e⟩)
         have hnx:=fun e=>anyLong_succ HNO.out hltx e
         unfold flV at hlf
         generalize longFB fs[n]=lb at hlf hyes hnx
         generalize fs[n]=f at c0 c1 c2 c3 c4 c5 hlf
         obtain⟨fp,fq,fn,flo,fhi,fseq⟩:=f
         dsimp only at c0 c1 c2 c3 c4 c5 hlf
         have hiL:(n:Int)<(L:Int):=by omega
         have hi0':(0:Int)≤(n:Int):=by omega
         clear hc k1 k2 hltx
         cases lb with
         | true =>
           obtain rfl:=hyes rfl
           simp only[if_true]at hlf
           clear hyes hnx
           go_wp2_with fail
           refine hlf.mono ?_
           rintro e w3 ⟨rfl,hb3⟩
           clear hlf
           go_wp2
           go_ret
           exact⟨rfl,hb.trans (hb3.mono hb.size)⟩
         | false =>
           have HNX:Hid (∀j (h:j<fs.length),j<n+1→longFB fs[j]=false):=hnx rfl
           simp only[Bool.false_eq_true,if_false]at hlf
           clear hyes hnx
           go_wp2_with fail
           refine hlf.mono ?_
           rintro e w3 ⟨rfl,hb3⟩
           clear hlf
           have hb4:Below w.heap.size w w3:=hb.trans (hb3.mono hb.size)
           go_wp2
           go_roundw
           case rel=>exact ⟨n+1,by omega,by go_num,HNX.out,hb4⟩
           case measure=>simp [intOf];omega
       · obtain rfl:n=L:=by omega
         have hRR:R=0:=by
           rw[←HR.out,if_neg]
           unfold longFs
           rw[HS.out,Bool.false_or]
           intro h
           obtain⟨f,hf,e⟩:=List.any_eq_true.1 h
           obtain⟨j,hj,rfl⟩:=List.mem_iff_getElem.1 hf
           rw[HNO.out j hj (by rw[←HX.out];exact hj)]at e
           cases e
         subst hRR
         go_wp2
         go_ret
         exact⟨rfl,hb⟩
   · have j2:((L:Int) != 60)=false:=by rw[i2];rfl
     go_enter Tryz.func30,Tryz.ntmps30
     go_wp2
     go_loopw [3] (fun k wr=> ∃n:Nat,n≤L∧k= .int .i64 n∧(∀j (h:j<fs.length),j<n→longFB fs[j]=false)∧Below w.heap.size w wr) (fun k _=>L-(intOf k).toNat)
     case atStart=>exact ⟨0,by omega,rfl,fun j h h'=>absurd h' (Nat.not_lt_zero _),Below.refl _ _⟩
     case round =>
       obtain⟨n,hn,rfl,hno,hb⟩:=hrel
       have HNO:Hid (∀j (h:j<fs.length),j<n→longFB fs[j]=false):=hno
       clear hno
       by_cases hlt:n<L
       · have hltx:n<fs.length:=by rw[HX.out];exact hlt
         obtain⟨b,o,hq,hc⟩:=(HFX.out.below hb).cells (fun e=>by rw[e]at hltx;simp at hltx)
         subst hq
         obtain⟨c0,c1,c2,c3,c4,c5⟩:=hc n hltx
         obtain⟨k1,k2⟩:=HSZ.out fs[n] (List.getElem_mem _)
         have hlf:=longFile_any fs[n] wr k1 k2
         have hyes:longFB fs[n]=true→R=1:=fun e=>by
           rw[←HR.out,if_pos]
           unfold longFs
           rw[Bool.or_eq_true]
           exact Or.inr (List.any_eq_true.2 ⟨fs[n],List.getElem_mem _,e⟩)
         have hnx:=fun e=>anyLong_succ HNO.out hltx e
         unfold flV at hlf
         generalize longFB fs[n]=lb at hlf hyes hnx
         generalize fs[n]=f at c0 c1 c2 c3 c4 c5 hlf
         obtain⟨fp,fq,fn,flo,fhi,fseq⟩:=f
         dsimp only at c0 c1 c2 c3 c4 c5 hlf
         have hiL:(n:Int)<(L:Int):=by omega
         have hi0':(0:Int)≤(n:Int):=by omega
         clear hc k1 k2 hltx
         cases lb with
         | true =>
           obtain rfl:=hyes rfl
           simp only[if_true]at hlf
           clear hyes hnx
           go_wp2_with fail
           refine hlf.mono ?_
           rintro e w3 ⟨rfl,hb3⟩
           clear hlf
           go_wp2
           go_ret
           exact⟨rfl,hb.trans (hb3.mono hb.size)⟩
         | false =>
           have HNX:Hid (∀j (h:j<fs.length),j<n+1→longFB fs[j]=false):=hnx rfl
           simp only[Bool.false_eq_true,if_false]at hlf
           clear hyes hnx
           go_wp2_with fail
           refine hlf.mono ?_
           rintro e w3 ⟨rfl,hb3⟩
           clear hlf
           have hb4:Below w.heap.size w w3:=hb.trans (hb3.mono hb.size)
           go_wp2
           go_roundw
           case rel=>exact ⟨n+1,by omega,by go_num,HNX.out,hb4⟩
           case measure=>simp [intOf];omega
       · obtain rfl:n=L:=by omega
         have hRR:R=0:=by
           rw[←HR.out,if_neg]
           unfold longFs
           rw[HS.out,Bool.false_or]
           intro h
           obtain⟨f,hf,e⟩:=List.any_eq_true.1 h
           obtain⟨j,hj,rfl⟩:=List.mem_iff_getElem.1 hf
           rw[HNO.out j hj (by rw[←HX.out];exact hj)]at e
           cases e
         subst hRR
         go_wp2
         go_ret
         exact⟨rfl,hb⟩
   · have j2:((L:Int) != 60)=true:=by simp[i2]
     have j3:((L:Int) != 61)=false:=by rw[i3];rfl
     go_enter Tryz.func30,Tryz.ntmps30
     go_wp2
     go_loopw [3] (fun k wr=> ∃n:Nat,n≤L∧k= .int .i64 n∧(∀j (h:j<fs.length),j<n→longFB fs[j]=false)∧Below w.heap.size w wr) (fun k _=>L-(intOf k).toNat)
     case atStart=>exact ⟨0,by omega,rfl,fun j h h'=>absurd h' (Nat.not_lt_zero _),Below.refl _ _⟩
     case round =>
       obtain⟨n,hn,rfl,hno,hb⟩:=hrel
       have HNO:Hid (∀j (h:j<fs.length),j<n→longFB fs[j]=false):=hno
       clear hno
       by_cases hlt:n<L
       · have hltx:n<fs.length:=by rw[HX.out];exact hlt
         obtain⟨b,o,hq,hc⟩:=(HFX.out.below hb).cells (fun e=>by rw[e]at hltx;simp at hltx)
         subst hq
         obtain⟨c0,c1,c2,c3,c4,c5⟩:=hc n hltx
         obtain⟨k1,k2⟩:=HSZ.out fs[n] (List.getElem_mem _)
         have hlf:=longFile_any fs[n] wr k1 k2
         have hyes:longFB fs[n]=true→R=1:=fun e=>by
           rw[←HR.out,if_pos]
           unfold longFs
           rw[Bool.or_eq_true]
           exact Or.inr (List.any_eq_true.2 ⟨fs[n],List.getElem_mem _,e⟩)
         have hnx:=fun e=>anyLong_succ HNO.out hltx e
         unfold flV at hlf
         generalize longFB fs[n]=lb at hlf hyes hnx
         generalize fs[n]=f at c0 c1 c2 c3 c4 c5 hlf
         obtain⟨fp,fq,fn,flo,fhi,fseq⟩:=f
         dsimp only at c0 c1 c2 c3 c4 c5 hlf
         have hiL:(n:Int)<(L:Int):=by omega
         have hi0':(0:Int)≤(n:Int):=by omega
         clear hc k1 k2 hltx
         cases lb with
         | true =>
           obtain rfl:=hyes rfl
           simp only[if_true]at hlf
           clear hyes hnx
           go_wp2_with fail
           refine hlf.mono ?_
           rintro e w3 ⟨rfl,hb3⟩
           clear hlf
           go_wp2
           go_ret
           exact⟨rfl,hb.trans (hb3.mono hb.size)⟩
         | false =>
           have HNX:Hid (∀j (h:j<fs.length),j<n+1→longFB fs[j]=false):=hnx rfl
           simp only[Bool.false_eq_true,if_false]at hlf
           clear hyes hnx
           go_wp2_with fail
           refine hlf.mono ?_
           rintro e w3 ⟨rfl,hb3⟩
           clear hlf
           have hb4:Below w.heap.size w w3:=hb.trans (hb3.mono hb.size)
           go_wp2
           go_roundw
           case rel=>exact ⟨n+1,by omega,by go_num,HNX.out,hb4⟩
           case measure=>simp [intOf];omega
       · obtain rfl:n=L:=by omega
         have hRR:R=0:=by
           rw[←HR.out,if_neg]
           unfold longFs
           rw[HS.out,Bool.false_or]
           intro h
           obtain⟨f,hf,e⟩:=List.any_eq_true.1 h
           obtain⟨j,hj,rfl⟩:=List.mem_iff_getElem.1 hf
           rw[HNO.out j hj (by rw[←HX.out];exact hj)]at e
           cases e
         subst hRR
         go_wp2
         go_ret
         exact⟨rfl,hb⟩
def longSn (s:Sn):Bool:=decide (30<s.2.2.2.2.2.1.size) || longFs s.2.2.2.2.2.2
set_option maxRecDepth 100000 in
set_option maxHeartbeats 2000000 in
theorem longSnap_any (s:Sn) (vf:Value) (w:World) (hx:FlsAt w vf s.2.2.2.2.2.2) (ho:s.2.2.2.2.2.1.size≤maxLen) (hl:s.2.2.2.2.2.2.length≤maxLen) (hsz:∀f∈s.2.2.2.2.2.2,f.1.size≤maxLen∧f.2.1.size≤maxLen) :
   Calls Tryz.prog 8 #[snV s vf] w fun e w'=>e= .returned (.int .i64 (if longSn s then 1 else 0))∧Below w.heap.size w w':=by
 have hlf:=fun W (hb:Below w.heap.size w W)=>longFiles_any vf s.2.2.2.2.2.2 W (hx.below hb) hl hsz
 generalize hR:(if longSn s then (1:Int) else 0)=R
 have hbg:30<s.2.2.2.2.2.1.size→R=1:=fun e=>by rw[←hR,if_pos];unfold longSn;simp[e]
 have hsm:¬30<s.2.2.2.2.2.1.size→R=if longFs s.2.2.2.2.2.2 then 1 else 0:=fun e=>by rw[←hR];unfold longSn;simp[e]
 unfold maxLen at ho
 obtain⟨q,cap,rfl⟩:=hx.form
 clear hR hx hsz
 obtain⟨id,par,seq,day,idx,op,fs⟩:=s
 unfold snV
 dsimp only at *
 generalize (if longFs fs then (1:Int) else 0)=LF at *
 generalize fs.length=L at *
 have hal:Below w.heap.size w (w.alloc (.cells #[.int .i64 id,.int .i64 par,.int .i64 seq,.int .i64 day,.int .i64 idx,.string op,.slice q L cap] 25)):=(Below.refl _ _).alloc (Nat.le_refl _) _
 by_cases hb:30<op.size
 · obtain rfl:=hbg hb
   have hi:(30:Int)<(op.size:Int):=by omega
   clear hbg hsm hlf hb
   go_enter Tryz.func8,Tryz.ntmps8
   go_wp2
   go_ret
   exact⟨rfl,hal⟩
 · obtain rfl:=hsm hb
   have hi:¬(30:Int)<(op.size:Int):=by omega
   have hl1:=hlf _ hal
   clear hbg hsm hlf hb
   go_enter Tryz.func8,Tryz.ntmps8
   go_wp2_with fail
   generalize w.alloc (.cells #[.int .i64 id,.int .i64 par,.int .i64 seq,.int .i64 day,.int .i64 idx,.string op,.slice q L cap] 25)=WA at hal hl1 ⊢
   refine hl1.mono ?_
   rintro e w1 ⟨rfl,hb1⟩
   go_wp2
   go_ret
   exact⟨rfl,hal.trans (hb1.mono hal.size)⟩
theorem tab_all {l:List Pc} (h:pcsLong l=false):TabOk (tabT l) l.length∧l.length≤15∧TabX (tabT l) l.length:=by
 unfold pcsLong at h
 rw[Bool.or_eq_false_iff,decide_eq_false_iff_not]at h
 have hp:∀p∈l,pcLong p=false:=fun p hp=>by
   have:=List.any_eq_false.1 h.2 p hp
   simpa using this
 have hl:l.length≤15:=by omega
 have h1:=tabT_ok hp l.length (Nat.le_refl _)
 have h2:=tabX hp hl l.length (Nat.le_refl _)
 rw[List.take_length]at h1 h2
 exact⟨h1,hl,h2⟩
theorem tab_short {l:List Pc} (h:pcsLong l=false):(tabT l).1.length≤15∧Short (tabT l).1:=by
 obtain⟨h1,h2,-⟩:=tab_all h
 exact⟨Nat.le_trans h1.many h2,fun g hg=>by have:=h1.size g hg;omega⟩
structure ScI (EM:World→Prop) (SAt:World→Value→(Nat→Prop)→St→Prop) (w W:World) (v:Value) (FP:Nat→Prop) (st:St) (sb:Nat) (s:Sn) (vf:Value):Prop where
 ok:SOk (upE EM w.heap.size) SAt w.heap.size w W v FP st
 off:¬FP sb
 le:w.heap.size≤sb
 snap:SnAt W sb s vf
 files:FlsAt W vf s.2.2.2.2.2.2
section
variable {a : Nat → Addr} {B : Nat} {EM : World → Prop} {SAt : World → Value → (Nat → Prop) → St → Prop}
theorem SOk.but {w W W':World} {v:Value} {FP P:Nat→Prop} {st:St} (K:StoreK a w.heap.size (upE EM w.heap.size) SAt) (h:SOk (upE EM w.heap.size) SAt w.heap.size w W v FP st) (hb:But P W W') (hp:∀k,P k→w.heap.size≤k) (hn:∀k,FP k→¬P k):SOk (upE EM w.heap.size) SAt w.heap.size w W' v FP st:=by
 have hbl:=hb.below (K.size _ h.env) hp
 exact⟨K.below _ _ h.env hbl,h.frame.trans hbl,Nat.le_refl _,K.keep _ _ _ _ P _ h.at_ hb hn,h.new⟩
theorem ScI.quiet {w W W':World} {v:Value} {FP:Nat→Prop} {st:St} {sb:Nat} {s:Sn} {vf:Value} (K:StoreK a w.heap.size (upE EM w.heap.size) SAt) (h:ScI EM SAt w W v FP st sb s vf) (hb:Below W.heap.size W W'):ScI EM SAt w W' v FP st sb s vf :=
 ⟨h.ok.quiet K hb,h.off,h.le,h.snap.below hb,h.files.below hb⟩
theorem SnAt.set6 {W:World} {sb:Nat} {id par seq day idx:Int} {op:ByteArray} {fs gs:List Fl} {v vg:Value} (h:SnAt W sb (id,par,seq,day,idx,op,fs) v):SnAt (W.setCell ⟨sb,6,none⟩ vg) sb (id,par,seq,day,idx,op,gs) vg:=by
 unfold SnAt at *
 rw[heap_setCell_same _ _ _ _ _ _ h]
 rfl
theorem ScI.set {w W:World} {v:Value} {FP:Nat→Prop} {st:St} {sb:Nat} {id par seq day idx:Int} {op:ByteArray} {fs gs:List Fl} {q:Option Addr} {n c:Nat} {vg:Value} (K:StoreK a w.heap.size (upE EM w.heap.size) SAt) (h:SOk (upE EM w.heap.size) SAt w.heap.size w W v FP st) (ho:¬FP sb) (hle:w.heap.size≤sb) (hs:SnAt W sb (id,par,seq,day,idx,op,fs) (.slice q n c)) (hg:FlsAt W vg gs):ScI EM SAt w (W.setCell ⟨sb,6,none⟩ vg) v FP st sb (id,par,seq,day,idx,op,gs) vg:=by
 have hb:But (fun k=>k=sb) W (W.setCell ⟨sb,6,none⟩ vg):=(But.refl (fun k=>k=sb) W).setCell (b:=sb) (o:=6) (Or.inl rfl) _
 exact⟨h.but K hb (fun k e=>e▸hle) (fun k hk e=>ho (e▸hk)),ho,hle,hs.set6,hg.set_off (off_of hs hg) 6 vg⟩
theorem tab_ok {w w2 W:World} {v:Value} {FP:Nat→Prop} {fs:List Fl} {s r:St} {b:Nat} {vf:Value} (h:TabI (upE EM w2.heap.size) SAt w2.heap.size w2 W v FP fs s r b vf) (hb:Below w.heap.size w w2):SOk (upE EM w.heap.size) SAt w.heap.size w W v FP s∧(∀k,k<w2.heap.size→¬FP k):=by
 obtain⟨h1,h2,h3,h4,h5⟩:=h.both.ok
 exact⟨⟨⟨h1.1,Nat.le_trans hb.size h1.2⟩,hb.trans (h2.mono hb.size),Nat.le_refl _,h4,fun k hk=>Nat.le_trans hb.size (h5 k hk)⟩,fun k hk hF=>by have:=h5 k hF;omega⟩
end
section
variable {P : Program} (w : World)
end
structure ScanN (a:Nat→Addr) (EM:World→Prop) (SAt:World→Value→(Nat→Prop)→St→Prop):Prop where
 rows:∀(W:World) (v:Value) (FP:Nat→Prop) (st:St) (s:Sn) (vf:Value) (lo hi:Int),EM W→SAt W v FP st→Keeps st→FlsAt W vf s.2.2.2.2.2.2→s.2.2.2.2.2.2.length≤100→Short s.2.2.2.2.2.2→Calls Tryz.prog 10 #[v,snV s vf,.int .i64 lo,.int .i64 hi] W fun e w'=> ∃v' ev,e= .returned (.tuple #[v',ev])∧RowsAt w' v' (rowsS st.obs s lo hi).1∧ToldE w' a ev (rowsS st.obs s lo hi).2∧Below W.heap.size W w'∧NewF W v'
theorem find_none {fs:List Fl} {p:ByteArray} (h:findF fs p<0):∀f∈fs,f.1≠p:=by
 intro f hf e
 unfold findF at h
 cases hi:fs.findIdx? (fun f=>decide (f.1=p)) with
 | some i=>rw [hi]at h;simp only at h;omega
 | none =>
   have:=List.findIdx?_eq_none_iff.1 hi f hf
   simp[e]at this
theorem tab_put {l:List Pc} (h:pcsLong l=false) {zs:List Int} (hl:zs.length≤40) (hf:findF (tabT l).1 g99<0) :
   putC (tabT l).2 g99 (goneT zs)=0∧More (tabT l).2.obs (putS (tabT l).2 g99 (goneT zs)).obs zs∧Keeps (putS (tabT l).2 g99 (goneT zs))∧∀f∈(tabT l).1,f.1≠g99:=by
 obtain⟨h1,h2,h3⟩:=tab_all h
 have hn:=find_none hf
 have hx:∀o∈(tabT l).2.obs,o.1≠g99:=fun o ho=>by
   obtain⟨f,hf,e⟩:=h3.names o ho
   rw[←e]
   exact hn f hf
 have hsz:=goneT_size hl
 have hob:objB g99.data.toList=true:=path_obj (by rw[g99_path];exact fun e=>by cases e)
 have hm:=h3.many
 have hby:=h3.bytes
 obtain⟨p1,p2⟩:=put_fine (s:=(tabT l).2) (n:=g99) (t:=goneT zs) h1.cut h3.off hob (by omega) hx (by omega) (by omega)
 refine⟨p1,?_,putS_keeps h1.keeps _ _,hn⟩
 rw[p2]
 obtain⟨q1,q2⟩:=put_get h1.keeps (t:=goneT zs) hx
 exact⟨q1,q2⟩
theorem place_short {fs:List Fl} {f:Fl} (h:Short fs) (hf:f.1.size≤30∧f.2.1.size≤30):Short (placeL fs f)∧(placeL fs f).length≤fs.length+1:=by
 refine⟨fun g hg=>?_,?_⟩
 · rcases placeL_mem.1 hg with h' | h'
   · rw[h'];exact hf
   · exact h g h'
 · exact Nat.le_of_eq (placeL_len _ _)
section
variable {a : Nat → Addr} {EM : World → Prop} {SAt : World → Value → (Nat → Prop) → St → Prop}
theorem dx_post {w W W2 W3:World} {v:Value} {FP:Nat→Prop} {st st':St} {sb:Nat} {s:Sn} {vf va:Value} {all:List Rw} (K:StoreK a w.heap.size (upE EM w.heap.size) SAt) (hI:ScI EM SAt w W v FP st sb s vf) (hR:RowsAt W va all) (hRo:all≠ []→∀k,va.ownBlock=some k→¬FP k) (hFo:s.2.2.2.2.2.2≠ []→∀k,vf.ownBlock=some k→¬FP k) (hb:Below W.heap.size W W2) (hlt:W.heap.size<W2.heap.size) (hp:SPost SAt W2 v FP st' W3) :
   ∃FP',(∀X,But (fun k=>k=W.heap.size) W3 X→ScI EM SAt w X v FP' st' sb s vf∧RowsAt X va all)∧¬FP' W.heap.size∧(∀k,FP' k→k<W3.heap.size)∧But FP W2 W3∧¬FP W.heap.size:=by
 obtain⟨FP',h1,h2,h3⟩:=hp
 have hltF:∀k,FP k→k<W.heap.size:=fun k hk=>K.lt _ _ _ _ _ hI.ok.at_ hk
 have hwW:w.heap.size≤W.heap.size:=hI.ok.frame.size
 have hI2:=hI.quiet K hb
 have hsl:=hI.snap.lt
 have hB3:Below w.heap.size W2 W3:=h2.below (Nat.le_trans hwW hb.size) (fun k hk=>hI.ok.new k hk)
 have hnb:¬FP' W.heap.size:=fun h=>by
   rcases h3 _ h with h' | h'
   · exact Nat.lt_irrefl _ (hltF _ h')
   · omega
 refine⟨FP',fun X hX=>?_,hnb,fun k hk=>K.lt _ _ _ _ _ h1 hk,h2,fun h=>Nat.lt_irrefl _ (hltF _ h)⟩
 have hBX:Below w.heap.size W3 X:=hX.below (Nat.le_trans (Nat.le_trans hwW hb.size) h2.size) (fun k hk=>by rw[hk];exact hwW)
 refine⟨⟨⟨K.below _ _ (K.below _ _ hI2.ok.env hB3) hBX,(hI2.ok.frame.trans hB3).trans hBX,Nat.le_refl _,K.keep _ _ _ _ _ _ h1 hX (fun k hk e=>hnb (e▸hk)),fun k hk=>?_⟩,fun h=>?_,hI.le,?_,?_⟩,?_⟩
 · rcases h3 k hk with h' | h'
   · exact hI.ok.new k h'
   · exact Nat.le_trans (Nat.le_trans hwW hb.size) h'
 · rcases h3 _ h with h' | h'
   · exact hI.off h'
   · have:=hb.size;omega
 · have e1:W3.heap[sb]? =W2.heap[sb]? :=h2.block sb (by have:=hb.size;omega) hI.off
   have e2:X.heap[sb]? =W3.heap[sb]? :=hX.block sb (by have:=hb.size;have:=h2.size;omega) (by omega)
   exact(e2.trans e1).trans hI2.snap
 · exact fls_but (fls_but hI2.files hFo h2) (fun hne k hk e=>by have:=fls_lt hI.files hne hk;omega) hX
 · exact((hR.below hb).but h2 hRo).but hX (fun hne k hk e=>by have:=rows_lt hR hne hk;omega)
end
set_option maxRecDepth 100000 in
set_option maxHeartbeats 2000000 in
theorem ownInts3_any (q:Option Addr) (c:Nat) (zs:List Int) (w:World) (hz:KeysAt w (.slice q zs.length c) zs) (hq:q=none→c=0) (hl:zs.length≤1000) :
   Calls Tryz.prog 23 #[.slice q zs.length c] w fun e w'=> ∃v',e= .returned v'∧KeysAt w' v' zs∧Below w.heap.size w w':=by
 obtain⟨i0,hi0,hz0,hs0,hby0⟩:=Tryz.numInfo
 have HSR:Hid (Src w q zs.length c (zs.map (Value.int .i64))):=src_keys hz hq
 obtain⟨L,hL⟩:∃L,zs.length=L:=⟨_,rfl⟩
 have HX:Hid (zs.length=L):=hL
 rw[hL]at hl ⊢
 clear hL hz hq
 go_enter Tryz.func23,Tryz.ntmps23
 go_wp2_with (at_builtin;(refine wpList_append_src rfl _ _ 50 rfl w.heap.size 3 i0 (.int .i64 0) 1 8 Tryz.underlying50 hi0 hz0 hs0 hby0 rfl (by decide) (.slice none 0 0) 0 [] rfl (World.ownsRow_nil _ _ _ _) q L c (zs.map encZ) rfl ?qf1 ?qf2 ?qf3 ?qf4 ?qf5 ?qf6 ?_))
 any_goals first
   | (intro u hu;obtain⟨x,_,rfl⟩:=List.mem_map.1 hu;rfl)
   | (rw[List.length_map,HX.out];simp)
   | (have h':=HSR.out;rw[HX.out]at h';exact h')
   | (unfold maxLen;omega)
   | omega
   | exact Nat.le_refl _
 intro v3 w3 ho3 hg3 _
 have hb3:Below w.heap.size w w3:=(Below.refl _ _).grown hg3 (Nat.le_refl _) (fun k hk=>by simp[Value.ownBlock]at hk)
 have OW:Hid (KeysAt w3 v3 zs):=by
   show KeysAt _ _ _
   refine keysAt_of_own (base:=w.heap.size) ?_
   rw[HX.out]
   simpa using ho3
 clear ho3 hg3
 go_wp2
 go_ret
 exact⟨v3,rfl,OW.out,hb3⟩
end Go.Proofs.YtdhkdjlgmbejnaaGreatDoor
