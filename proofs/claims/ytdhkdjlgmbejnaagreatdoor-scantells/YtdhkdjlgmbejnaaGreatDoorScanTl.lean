/- By an AI agent. -/
import Derived.Test.YtdhkdjlgmbejnaaGreatDoorLaw2
namespace Go.Proofs.YtdhkdjlgmbejnaaGreatDoor
open Go.RowKit Go.Extern.Stop Go.Stop Go.Extern Go.Sort Go.Shelf Go.Lib
def longSn (s:Sn):Bool:=decide (30<s.2.2.2.2.2.1.size) || longFs s.2.2.2.2.2.2
theorem longSn_no {s:Sn} (h:longSn s=false):s.2.2.2.2.2.1.size≤30∧s.2.2.2.2.2.2.length≤61∧Short s.2.2.2.2.2.2:=by
 unfold longSn at h
 rw[Bool.or_eq_false_iff,decide_eq_false_iff_not]at h
 obtain⟨h1,h2⟩:=longFs_no h.2
 exact⟨by omega,h1,h2⟩
set_option maxRecDepth 100000 in
set_option maxHeartbeats 2000000 in
theorem longSnap_any (s:Sn) (vf:Value) (w:World) (hx:FlsAt w vf s.2.2.2.2.2.2) (ho:s.2.2.2.2.2.1.size≤maxLen) (hl:s.2.2.2.2.2.2.length≤maxLen) (hsz:∀f∈s.2.2.2.2.2.2,f.1.size≤maxLen∧f.2.1.size≤maxLen) :
   Calls Tryz.prog 8 #[snV s vf] w fun e w'=>e= .returned (.int .i64 (if longSn s then 1 else 0))∧Below w.heap.size w w':=by
 have hlf:=fun W (hb:Below w.heap.size w W)=>longFiles_any vf s.2.2.2.2.2.2 W (hx.below hb) hl hsz
 generalize hR:(if longSn s then (1:Int) else 0)=R
 have hbg:30<s.2.2.2.2.2.1.size→R=1:=fun e=>by rw[←hR,if_pos];unfold longSn;simp[e]
 have hsm:¬30<s.2.2.2.2.2.1.size→R=if longFs s.2.2.2.2.2.2 then 1 else 0:=fun e=>by rw[←hR];unfold longSn;simp[e]
 unfold maxLen at ho
 obtain⟨q,cap,rfl⟩:=hx.form
 clear hR hx hsz
 obtain⟨id,par,seq,day,idx,op,fs⟩:=s
 unfold snV
 dsimp only at *
 generalize (if longFs fs then (1:Int) else 0)=LF at *
 generalize fs.length=L at *
 have hal:Below w.heap.size w (w.alloc (.cells #[.int .i64 id,.int .i64 par,.int .i64 seq,.int .i64 day,.int .i64 idx,.string op,.slice q L cap] 25)):=(Below.refl _ _).alloc (Nat.le_refl _) _
 by_cases hb:30<op.size
 · obtain rfl:=hbg hb
   have hi:(30:Int)<(op.size:Int):=by omega
   clear hbg hsm hlf hb
   go_enter Tryz.func8,Tryz.ntmps8
   go_wp2
   go_ret
   exact⟨rfl,hal⟩
 · obtain rfl:=hsm hb
   have hi:¬(30:Int)<(op.size:Int):=by omega
   have hl1:=hlf _ hal
   clear hbg hsm hlf hb
   go_enter Tryz.func8,Tryz.ntmps8
   go_wp2_with fail
   generalize w.alloc (.cells #[.int .i64 id,.int .i64 par,.int .i64 seq,.int .i64 day,.int .i64 idx,.string op,.slice q L cap] 25)=WA at hal hl1 ⊢
   refine hl1.mono ?_
   rintro e w1 ⟨rfl,hb1⟩
   go_wp2
   go_ret
   exact⟨rfl,hal.trans (hb1.mono hal.size)⟩
set_option maxRecDepth 100000 in
set_option maxHeartbeats 4000000 in
theorem ownSnapN_any (s:Sn) (vf:Value) (w:World) (hx:FlsAt w vf s.2.2.2.2.2.2) (hl:s.2.2.2.2.2.2.length≤1000) :
   Calls Tryz.prog 16 #[snV s vf] w fun e w'=> ∃v',e= .returned (snV s v')∧FlsAt w' v' s.2.2.2.2.2.2∧(∀k,v'.ownBlock=some k→w.heap.size≤k)∧Below w.heap.size w w':=by
 have how:=fun W (hb:Below w.heap.size w W)=>ownFiles_any vf s.2.2.2.2.2.2 W (hx.below hb) hl
 obtain⟨q,cap,rfl⟩:=hx.form
 clear hx
 obtain⟨id,par,seq,day,idx,op,fs⟩:=s
 unfold snV
 dsimp only at *
 have hal:Below w.heap.size w ((w.alloc (.cells #[.int .i64 id,.int .i64 par,.int .i64 seq,.int .i64 day,.int .i64 idx,.string op,.slice q fs.length cap] 25)).alloc (.cells #[.int .i64 0,.int .i64 0,.int .i64 0,.int .i64 0,.int .i64 0,.string ⟨#[]⟩,.slice none 0 0] 25)):=((Below.refl _ _).alloc (Nat.le_refl _) _).alloc (by simp) _
 have hsn:SnAt ((w.alloc (.cells #[.int .i64 id,.int .i64 par,.int .i64 seq,.int .i64 day,.int .i64 idx,.string op,.slice q fs.length cap] 25)).alloc (.cells #[.int .i64 0,.int .i64 0,.int .i64 0,.int .i64 0,.int .i64 0,.string ⟨#[]⟩,.slice none 0 0] 25)) w.heap.size (id,par,seq,day,idx,op,fs) (.slice q fs.length cap):=heap_alloc2_old w _ _
 have hz:SnAt ((w.alloc (.cells #[.int .i64 id,.int .i64 par,.int .i64 seq,.int .i64 day,.int .i64 idx,.string op,.slice q fs.length cap] 25)).alloc (.cells #[.int .i64 0,.int .i64 0,.int .i64 0,.int .i64 0,.int .i64 0,.string ⟨#[]⟩,.slice none 0 0] 25)) (w.heap.size+1) zeroS (.slice none 0 0):=heap_alloc2_new w _ _
 have ho1:=how _ hal
 clear how
 obtain⟨L,hL⟩:∃L,fs.length=L:=⟨_,rfl⟩
 have HL:Hid (fs.length=L):=hL
 rw[hL]at hal hsn hz ho1 hl ⊢
 clear hL
 go_enter Tryz.func16,Tryz.ntmps16
 go_upto_region 1 with fail
 generalize (w.alloc (.cells #[.int .i64 id,.int .i64 par,.int .i64 seq,.int .i64 day,.int .i64 idx,.string op,.slice q L cap] 25)).alloc (.cells #[.int .i64 0,.int .i64 0,.int .i64 0,.int .i64 0,.int .i64 0,.string ⟨#[]⟩,.slice none 0 0] 25)=WA at hal hsn hz ho1 ⊢
 have z6:=hsn.cells.2.2.2.2.2.2
 go_wp2_with fail
 refine ho1.mono ?_
 rintro e w1 ⟨v',rfl,ow,hb1⟩
 clear ho1 z6
 have HNW:Hid (∀k,v'.ownBlock=some k→w.heap.size≤k):=fun k hk=>by
   rcases ow.2 with⟨e,_⟩|⟨g,cap',cur,e,hbse,_⟩
   · rw[e]at hk;cases hk
   · rw[e]at hk
     simp only[Value.ownBlock,Option.some.injEq]at hk
     have:=hal.size
     omega
 have hv1:FlsAt w1 v' fs:=(flsAt_of_own ow).1
 have hB1:Below w.heap.size w w1:=hal.trans (hb1.mono hal.size)
 have hs1:=hsn.below hb1
 have hz1:=hz.below hb1
 clear hsn hz hb1 hal ow
 obtain⟨qv,cv,hq⟩:=hv1.form
 subst hq
 have hoS:=off_of hs1 hv1
 have hv2:=hv1.set_off hoS 6 (.slice qv fs.length cv)
 have hs2:SnAt (w1.setCell ⟨w.heap.size,6,none⟩ (.slice qv fs.length cv)) w.heap.size (id,par,seq,day,idx,op,fs) (.slice qv fs.length cv):=by
   have:=hs1
   unfold SnAt at *
   rw[heap_setCell_same _ _ _ _ _ _ this];rfl
 have hz2:=sn_other hz1 (show w.heap.size≠w.heap.size+1 by omega) 6 (.slice qv fs.length cv)
 have hB2:Below w.heap.size w (w1.setCell ⟨w.heap.size,6,none⟩ (.slice qv fs.length cv)):=hB1.setCell (Nat.le_refl _) _
 have fS:=hs1.fz
 have x6:=hs1.cells.2.2.2.2.2.2
 clear hs1 hz1 hv1 hB1 hoS
 rw[HL.out]at hv2 hs2 hz2 hB2 HNW ⊢
 go_upto_region 2 with fail
 generalize w1.setCell ⟨w.heap.size,6,none⟩ (.slice qv L cv)=w2 at hv2 hs2 hz2 hB2 ⊢
 clear fS x6
 obtain⟨p0,p1,p2,p3,p4,p5,p6⟩:=hs2.cells
 dsimp only at p0 p1 p2 p3 p4 p5
 have hoZ:=off_of hz2 hv2
 have hle:w.heap.size≤w.heap.size+1:=Nat.le_succ _
 have fz:=hz2.fz
 obtain⟨y0,y1,y2,y3,y4,y5,y6⟩:=hz2.cells
 have HV3:=(((((((hv2.set_off hoZ 0 (.int .i64 id)).set_off hoZ 1 (.int .i64 par)).set_off hoZ 2 (.int .i64 seq)).set_off hoZ 3 (.int .i64 day)).set_off hoZ 4 (.int .i64 idx)).set_off hoZ 5 (.string op)).set_off hoZ 6 (.slice qv L cv))
 obtain⟨u0,u1,u2,u3,u4,u5,u6⟩:=(hz2.set (id,par,seq,day,idx,op,fs) (.slice qv L cv)).cells
 have hB3:=snSet_below (s:=(id,par,seq,day,idx,op,fs)) (vf:=.slice qv L cv) hB2 hle
 unfold snSet at u0 u1 u2 u3 u4 u5 u6 hB3
 dsimp only at u0 u1 u2 u3 u4 u5 hB3 y0 y1 y2 y3 y4 y5
 clear hz2 hs2 hv2 hoZ
 go_wp2
 refine bodyPost_ret (v:=.agg #[.int .i64 id,.int .i64 par,.int .i64 seq,.int .i64 day,.int .i64 idx,.string op,.slice qv L cv]) (by simp[results,Tryz.results16,go_sem,u0,u1,u2,u3,u4,u5,u6]) rfl ?_
 exact⟨.slice qv L cv,rfl,HV3,HNW.out,hB3⟩
theorem ownSnap_any (s:Sn) (vf:Value) (w:World) (hx:FlsAt w vf s.2.2.2.2.2.2) (hl:s.2.2.2.2.2.2.length≤1000) :
   Calls Tryz.prog 16 #[snV s vf] w fun e w'=> ∃v',e= .returned (snV s v')∧FlsAt w' v' s.2.2.2.2.2.2∧Below w.heap.size w w' :=
 (ownSnapN_any s vf w hx hl).mono fun _ _ ⟨v',he,hf,_,hb⟩=>⟨v',he,hf,hb⟩
def snapT (l:List Pc) (s:Sn):Sn:=if s.2.2.2.2.2.2= [] then (s.1,s.2.1,s.2.2.1,s.2.2.2.1,s.2.2.2.2.1,s.2.2.2.2.2.1,(tabT l).1) else s
theorem tab_all {l:List Pc} (h:pcsLong l=false):TabOk (tabT l) l.length∧l.length≤15∧TabX (tabT l) l.length:=by
 unfold pcsLong at h
 rw[Bool.or_eq_false_iff,decide_eq_false_iff_not]at h
 have hp:∀p∈l,pcLong p=false:=fun p hp=>by
   have:=List.any_eq_false.1 h.2 p hp
   simpa using this
 have hl:l.length≤15:=by omega
 have h1:=tabT_ok hp l.length (Nat.le_refl _)
 have h2:=tabX hp hl l.length (Nat.le_refl _)
 rw[List.take_length]at h1 h2
 exact⟨h1,hl,h2⟩
theorem tab_short {l:List Pc} (h:pcsLong l=false):(tabT l).1.length≤15∧Short (tabT l).1:=by
 obtain⟨h1,h2,-⟩:=tab_all h
 exact⟨Nat.le_trans h1.many h2,fun g hg=>by have:=h1.size g hg;omega⟩
theorem snapT_short {l:List Pc} {s:Sn} (h:pcsLong l=false) (hs:longSn s=false):(snapT l s).2.2.2.2.2.2.length≤100∧Short (snapT l s).2.2.2.2.2.2:=by
 unfold snapT
 split
 · obtain⟨h1,h2⟩:=tab_short h
   exact⟨by dsimp only;omega,h2⟩
 · obtain⟨_,h1,h2⟩:=longSn_no hs
   exact⟨by omega,h2⟩
structure ScI (EM:World→Prop) (SAt:World→Value→(Nat→Prop)→St→Prop) (w W:World) (v:Value) (FP:Nat→Prop) (st:St) (sb:Nat) (s:Sn) (vf:Value):Prop where
 ok:SOk (upE EM w.heap.size) SAt w.heap.size w W v FP st
 off:¬FP sb
 le:w.heap.size≤sb
 snap:SnAt W sb s vf
 files:FlsAt W vf s.2.2.2.2.2.2
section
variable {a : Nat → Addr} {B : Nat} {EM : World → Prop} {SAt : World → Value → (Nat → Prop) → St → Prop}
theorem SOk.but {w W W':World} {v:Value} {FP P:Nat→Prop} {st:St} (K:StoreK a w.heap.size (upE EM w.heap.size) SAt) (h:SOk (upE EM w.heap.size) SAt w.heap.size w W v FP st) (hb:But P W W') (hp:∀k,P k→w.heap.size≤k) (hn:∀k,FP k→¬P k):SOk (upE EM w.heap.size) SAt w.heap.size w W' v FP st:=by
 have hbl:=hb.below (K.size _ h.env) hp
 exact⟨K.below _ _ h.env hbl,h.frame.trans hbl,Nat.le_refl _,K.keep _ _ _ _ P _ h.at_ hb hn,h.new⟩
theorem ScI.quiet {w W W':World} {v:Value} {FP:Nat→Prop} {st:St} {sb:Nat} {s:Sn} {vf:Value} (K:StoreK a w.heap.size (upE EM w.heap.size) SAt) (h:ScI EM SAt w W v FP st sb s vf) (hb:Below W.heap.size W W'):ScI EM SAt w W' v FP st sb s vf :=
 ⟨h.ok.quiet K hb,h.off,h.le,h.snap.below hb,h.files.below hb⟩
theorem SnAt.set6 {W:World} {sb:Nat} {id par seq day idx:Int} {op:ByteArray} {fs gs:List Fl} {v vg:Value} (h:SnAt W sb (id,par,seq,day,idx,op,fs) v):SnAt (W.setCell ⟨sb,6,none⟩ vg) sb (id,par,seq,day,idx,op,gs) vg:=by
 unfold SnAt at *
 rw[heap_setCell_same _ _ _ _ _ _ h]
 rfl
theorem ScI.set {w W:World} {v:Value} {FP:Nat→Prop} {st:St} {sb:Nat} {id par seq day idx:Int} {op:ByteArray} {fs gs:List Fl} {q:Option Addr} {n c:Nat} {vg:Value} (K:StoreK a w.heap.size (upE EM w.heap.size) SAt) (h:SOk (upE EM w.heap.size) SAt w.heap.size w W v FP st) (ho:¬FP sb) (hle:w.heap.size≤sb) (hs:SnAt W sb (id,par,seq,day,idx,op,fs) (.slice q n c)) (hg:FlsAt W vg gs):ScI EM SAt w (W.setCell ⟨sb,6,none⟩ vg) v FP st sb (id,par,seq,day,idx,op,gs) vg:=by
 have hb:But (fun k=>k=sb) W (W.setCell ⟨sb,6,none⟩ vg):=(But.refl (fun k=>k=sb) W).setCell (b:=sb) (o:=6) (Or.inl rfl) _
 exact⟨h.but K hb (fun k e=>e▸hle) (fun k hk e=>ho (e▸hk)),ho,hle,hs.set6,hg.set_off (off_of hs hg) 6 vg⟩
theorem mat_off {W:World} {b sb:Nat} {st:St} {s:Sn} {q:Option Addr} {n c:Nat} (h:MAt W b st) (hs:SnAt W sb s (.slice q n c)) (z:Value):MAt (W.setCell ⟨sb,6,none⟩ z) b st:=by
 obtain⟨vL,h1,h2⟩:=h
 have hb:But (fun k=>k=sb) W (W.setCell ⟨sb,6,none⟩ z):=(But.refl (fun k=>k=sb) W).setCell (b:=sb) (o:=6) (Or.inl rfl) _
 have hne:b≠sb:=fun e=>by
   subst e
   have h3:W.heap[b]? =_:=h1
   have h4:W.heap[b]? =_:=hs
   rw[h3]at h4
   injection h4 with h4
   injection h4 with _ h4
   revert h4
   decide
 refine⟨vL,h1.but hb hne,?_⟩
 rcases h2 with h2 | ⟨b',o,cap,hv,hl,hc⟩
 · exact Or.inl h2
 · refine Or.inr ⟨b',o,cap,hv,hl,fun j hj=>?_⟩
   obtain⟨c1,c2,c3⟩:=hc j hj
   have hn':b'≠sb:=fun e=>by
     subst e
     rw[cell_of_row _ _ _ _ _ _ hs]at c1 c2
     generalize o+j*3=k at c1 c2
     match k,c1,c2 with
     | 0,c1,_=>simp at c1
     | 1,c1,_=>simp at c1
     | 2,c1,_=>simp at c1
     | 3,c1,_=>simp at c1
     | 4,c1,_=>simp at c1
     | 5,_,c2=>simp at c2
     | 6,c1,_=>simp at c1
     | k+7,c1,_=>simp at c1
   exact⟨hb.keep hn' c1,hb.keep hn' c2,hb.keep hn' c3⟩
theorem tab_ok {w w2 W:World} {v:Value} {FP:Nat→Prop} {fs:List Fl} {s r:St} {b:Nat} {vf:Value} (h:TabI (upE EM w2.heap.size) SAt w2.heap.size w2 W v FP fs s r b vf) (hb:Below w.heap.size w w2):SOk (upE EM w.heap.size) SAt w.heap.size w W v FP s∧(∀k,k<w2.heap.size→¬FP k):=by
 obtain⟨h1,h2,h3,h4,h5⟩:=h.both.ok
 exact⟨⟨⟨h1.1,Nat.le_trans hb.size h1.2⟩,hb.trans (h2.mono hb.size),Nat.le_refl _,h4,fun k hk=>Nat.le_trans hb.size (h5 k hk)⟩,fun k hk hF=>by have:=h5 k hF;omega⟩
end
section
variable {P : Program} (w : World)
end
theorem chkS_le (f:Fl):(chkF f).2≤12:=by
 unfold chkF
 split
 · exact Nat.zero_le _
 · have:=fileE_le f;dsimp only;omega
theorem keysS_le (g:Bool) (l:List UInt8):(keysF g l).2≤12:=by
 cases g
 · exact(readG_le dataK rd_le l).1
 · exact(readG_le goneK (fun l=>by
     show (keyO l).2≤12
     unfold keyO
     split
     · exact(by decide:(1:Nat)≤12)
     · split
       · exact Nat.zero_le _
       · exact(by decide:(2:Nat)≤12)) l).1
theorem ofS_le (p q:ByteArray) (l:List UInt8) (seq:Int):(ofF p q l seq).2≤12:=by
 unfold ofF
 split
 · exact(by decide:(5:Nat)≤12)
 · split
   · exact chkS_le _
   · exact keysS_le _ _
theorem getS_le (l:List Ob) (n:ByteArray):(getT l n).2≤12:=by
 unfold getT
 split<;>simp
theorem fileR_le (obs:List Ob) (x:Fl):(fileR obs x).1≤12:=by
 unfold fileR
 split
 · exact getS_le _ _
 · split
   · exact ofS_le _ _ _ _
   · split
     · exact(by decide:(3:Nat)≤12)
     · exact Nat.zero_le _
theorem scanG_le (obs:List Ob) (lo hi:Int):∀(fs:List Fl) (i:Nat) (acc:List (Rw×Int)),(scanG obs lo hi fs i acc).2.1≤12
 | [],_,_=>Nat.zero_le _
 | x :: r,i,acc=>by
   unfold scanG
   split
   · exact scanG_le obs lo hi r _ _
   · split
     · exact fileR_le _ _
     · exact scanG_le obs lo hi r _ _
theorem rowsS_le (obs:List Ob) (s:Sn) (lo hi:Int):(rowsS obs s lo hi).2.1≤12:=by
 unfold rowsS
 split
 · exact snapE_le s
 · split
   · exact scanG_le _ _ _ _ _ _
   · exact Nat.zero_le _
structure ScanF (a:Nat→Addr) (EM:World→Prop) (SAt:World→Value→(Nat→Prop)→St→Prop):Prop where
 find:∀(W:World) (v:Value) (FP:Nat→Prop) (st:St) (s:Sn) (vf:Value) (key:Int),EM W→SAt W v FP st→Keeps st→FlsAt W vf s.2.2.2.2.2.2→s.2.2.2.2.2.2.length≤100→Short s.2.2.2.2.2.2→Calls Tryz.prog 19 #[v,snV s vf,.int .i64 key] W fun e w'=> ∃v' ev,e= .returned (.tuple #[v',ev])∧KeysAt w' v' (valsZ (rowsS st.obs s key key).1)∧ToldE w' a ev (rowsS st.obs s key key).2∧Below W.heap.size W w'∧NewF W v'
theorem KeysAt.but {W W':World} {P:Nat→Prop} {v:Value} {xs:List Int} (h:KeysAt W v xs) (hB:But P W W') (ho:xs≠ []→∀k,v.ownBlock=some k→¬P k):KeysAt W' v xs:=by
 rcases h with⟨q,c,e,hx⟩|⟨b,o,c,e,hc⟩
 · exact Or.inl ⟨q,c,e,hx⟩
 · refine Or.inr ⟨b,o,c,e,fun j hj=>?_⟩
   subst e
   have hP:¬P b:=ho (fun e=>by rw[e]at hj;exact absurd hj (Nat.not_lt_zero _)) b (by simp[Value.ownBlock])
   exact but_cell hB hP (hc j hj)
theorem told_below {W W':World} {a:Nat→Addr} {ev:Value} {c:Nat×Option Nat} (ht:ToldE W a ev c) (hb:Below W.heap.size W W'):ToldE W' a ev c:=by
 obtain⟨n,p⟩:=c
 cases p with
 | none=>exact ht
 | some j =>
   obtain⟨h0,fb,e,c0,c1⟩:=ht
   exact⟨h0,fb,e,below_keep hb c0,below_keep hb c1⟩
theorem told_off {W:World} {F:Nat} {x y:Int} {a:Nat→Addr} {ev:Value} {c:Nat×Option Nat} (h:FC W F x y) (ht:ToldE W a ev c) (o:Nat) (z:Value) (o2:Nat) (z2:Value):ToldE ((W.setCell ⟨F,o,none⟩ z).setCell ⟨F,o2,none⟩ z2) a ev c:=by
 obtain⟨n,p⟩:=c
 cases p with
 | none=>exact ht
 | some j =>
   obtain⟨h0,fb,e,c0,c1⟩:=ht
   have hne:F≠fb:=by
     intro e'
     subst e'
     rw[h.c1]at c1
     unfold errV at c1
     split at c1<;>simp at c1
   refine⟨h0,fb,e,?_,?_⟩
   · exact but_cell (((But.refl (fun k=>k=F) W).setCell (Or.inl rfl) z).setCell (Or.inl rfl) z2) (fun e=>hne e.symm) c0
   · exact but_cell (((But.refl (fun k=>k=F) W).setCell (Or.inl rfl) z).setCell (Or.inl rfl) z2) (fun e=>hne e.symm) c1
def sortV (zs:List Int):List Int:=zs.mergeSort (fun x y=>decide (x≤y))
theorem valsZ_eq (rs:List Rw):valsZ rs=sortV (rs.map (·.2.2)):=rfl
theorem sortV_sorted (zs:List Int):(sortV zs).Pairwise (· ≤ ·):=by
 have:=List.pairwise_mergeSort (le:=fun x y:Int=>decide (x≤y)) (by intro a b c h1 h2;simp only[decide_eq_true_eq]at *;omega) (by intro a b;simp only[Bool.or_eq_true,decide_eq_true_eq];omega) zs
 exact this.imp fun h=>by simpa using h
theorem sortV_nil:sortV []= []:=by simp[sortV]
theorem sortV_len (zs:List Int):(sortV zs).length=zs.length:=by simp[sortV]
theorem sortV_perm (zs:List Int):(sortV zs).Perm zs:=List.mergeSort_perm _ _
theorem sortV_insert (zs O:List Int) (x:Int) (k:Nat) (hO:O=sortV zs) (hk:k≤O.length) (h1:∀j (h:j<O.length),k≤j→x<O[j]) (h2:0<k→∀h:k-1<O.length,O[k-1]≤x):O.take k++x :: O.drop k=sortV (zs++ [x]):=by
 have hs:O.Pairwise (· ≤ ·):=by rw[hO];exact sortV_sorted zs
 have hpr:=List.pairwise_iff_getElem.1 hs
 refine List.Perm.eq_of_pairwise (le:=fun a b:Int=>a≤b) (fun a b _ _ h1 h2=>by omega) ?_ (sortV_sorted _) ?_
 · have hs':=hs
   rw[←List.take_append_drop k O,List.pairwise_append]at hs'
   rw[List.pairwise_append]
   refine⟨hs'.1,?_,?_⟩
   · rw[List.pairwise_cons]
     refine⟨fun b hb=>?_,hs'.2.1⟩
     obtain⟨j,hj,rfl⟩:=List.mem_iff_getElem.1 hb
     rw[List.getElem_drop]
     have hj':k+j<O.length:=by rw[List.length_drop]at hj;omega
     have:=h1 (k+j) hj' (by omega)
     omega
   · intro a ha b hb
     obtain⟨i,hi,rfl⟩:=List.mem_iff_getElem.1 ha
     rw[List.mem_cons]at hb
     rcases hb with rfl | hb
     · rw[List.getElem_take]
       rw[List.length_take]at hi
       have hi2:i<k:=by omega
       have h3:=h2 (by omega) (by omega)
       rcases Nat.lt_or_ge i (k-1) with h4 | h4
       · have:=hpr i (k-1) (by omega) (by omega) h4
         omega
       · have e:i=k-1:=by omega
         subst e
         exact h3
     · exact hs'.2.2 _ ha b hb
 · have p1:(O.take k++x :: O.drop k).Perm (x :: O):=by
     have:=List.perm_middle (a:=x) (l₁:=O.take k) (l₂:=O.drop k)
     rwa [List.take_append_drop]at this
   refine p1.trans (List.Perm.trans ?_ (sortV_perm (zs++ [x])).symm)
   rw[hO]
   exact((sortV_perm zs).cons x).trans (List.perm_append_comm (l₁:= [x]) (l₂:=zs))
end Go.Proofs.YtdhkdjlgmbejnaaGreatDoor
