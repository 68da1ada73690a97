/- By an AI agent. -/
import Derived.Test.YtdhkdjlgmbejnaaGreatDoorStoUp
import Derived.Test.YtdhkdjlgmbejnaaGreatDoorScanRead
namespace Go.Proofs.YtdhkdjlgmbejnaaGreatDoor
open Go.RowKit Go.Extern.Stop Go.Stop Go.Extern Go.Sort Go.Shelf Go.Lib
def pcText (p:Pc):ByteArray:=if p.2.1.data.toList= [45] then goneT p.2.2.2.2.1 else dataT p.2.2.2.1
def pcKnown (p:Pc):Fl×Nat:=ofF p.1 p.2.1 (pcText p).data.toList p.2.2.2.2.2
def pcPut (p:Pc):ByteArray:=if p.2.2.1.data.toList= [] then pcText p else p.2.2.1
def stepT (a:List Fl×St) (p:Pc):List Fl×St:=if (pcKnown p).2≠0∨0≤findF a.1 p.1 then a else (placeL a.1 (pcKnown p).1,putS a.2 p.1 (pcPut p))
def tabT (l:List Pc):List Fl×St:=l.foldl stepT ([],newS)
theorem tabT_step (l:List Pc) {n:Nat} (h:n<l.length):tabT (l.take (n+1))=stepT (tabT (l.take n)) l[n]:=by
 unfold tabT
 rw[List.take_succ_eq_append_getElem h,List.foldl_append]
 rfl
theorem known_path {p q:ByteArray} {s:List UInt8} {n:Int} (h:(ofF p q s n).2=0):(ofF p q s n).1.1=p∧(ofF p q s n).1.2.1=q:=by
 unfold ofF at h ⊢
 split
 · rename_i e
   rw[e]at h
   cases h
 · rename_i g m e
   rw[e]at h
   dsimp only at h
   split
   · rename_i hk
     rw[if_pos hk]at h
     unfold chkF at h ⊢
     split
     · exact⟨rfl,rfl⟩
     · rename_i hf
       rw[if_neg hf]at h
       exact absurd h hf
   · rename_i hk
     rw[if_neg hk]at h
     exact absurd h hk
theorem pcText_size {p:Pc} (h:pcLong p=false):(pcText p).size≤1400:=by
 obtain⟨_,_,_,h4,_,h6⟩:=pc_short h
 unfold pcText
 split
 · exact goneT_size (by omega)
 · exact dataT_size (by omega)
theorem pcPut_size {p:Pc} (h:pcLong p=false):(pcPut p).size≤1400:=by
 unfold pcPut
 split
 · exact pcText_size h
 · have:=(pc_short h).2.2.1;omega
theorem placeL_mem {fs:List Fl} {f g:Fl} :g∈placeL fs f↔g=f∨g∈fs:=by
 unfold placeL
 have h:g∈fs↔g∈fs.takeWhile (fun g=>decide (fk g<fk f))∨g∈fs.dropWhile (fun g=>decide (fk g<fk f)):=by
   rw[←List.mem_append,List.takeWhile_append_dropWhile]
 rw[List.mem_append,List.mem_cons,h]
 constructor
 · rintro(h | h | h)
   · exact Or.inr (Or.inl h)
   · exact Or.inl h
   · exact Or.inr (Or.inr h)
 · rintro(h | h | h)
   · exact Or.inr (Or.inl h)
   · exact Or.inl h
   · exact Or.inr (Or.inr h)
theorem placeL_len (fs:List Fl) (f:Fl):(placeL fs f).length=fs.length+1:=by
 unfold placeL
 rw[List.length_append,List.length_cons,←Nat.add_assoc,←List.length_append,List.takeWhile_append_dropWhile]
theorem putS_cut {s:St} (h:s.cut= -1) (n t:ByteArray):(putS s n t).cut= -1:=by
 unfold putS
 split
 · exact h
 · unfold wrtS
   rw[if_pos (by omega)]
   exact h
structure TabOk (a:List Fl×St) (n:Nat):Prop where
 keeps:Keeps a.2
 cut:a.2.cut= -1
 many:a.1.length≤n
 size:∀g∈a.1,g.1.size≤20∧g.2.1.size≤20
theorem stepT_ok {a:List Fl×St} {n:Nat} (h:TabOk a n) {p:Pc} (hp:pcLong p=false):TabOk (stepT a p) (n+1):=by
 unfold stepT
 by_cases hc:(pcKnown p).2≠0∨0≤findF a.1 p.1
 · rw[if_pos hc]
   exact⟨h.keeps,h.cut,Nat.le_succ_of_le h.many,h.size⟩
 · rw [if_neg hc]
   have h0:(pcKnown p).2=0:=by
     rcases Nat.eq_zero_or_pos (pcKnown p).2 with e | e
     · exact e
     · exact absurd (Or.inl (by omega)) hc
   obtain⟨k1,k2⟩:=known_path h0
   obtain⟨z1,z2,_⟩:=pc_short hp
   refine⟨putS_keeps h.keeps _ _,putS_cut h.cut _ _,?_,fun g hg=>?_⟩
   · show (placeL a.1 _).length≤_
     rw[placeL_len]
     exact Nat.succ_le_succ h.many
   · rcases placeL_mem.1 hg with rfl | hg
     · unfold pcKnown
       rw[k1,k2]
       exact⟨z1,z2⟩
     · exact h.size g hg
theorem tabT_ok {l:List Pc} (hp:∀p∈l,pcLong p=false):∀n,n≤l.length→TabOk (tabT (l.take n)) n
 | 0,_=>⟨newS_keeps,rfl,Nat.le_refl _,fun _ h=>(nomatch h)⟩
 | n+1,h=>by
   rw[tabT_step l (Nat.lt_of_succ_le h)]
   exact stepT_ok (tabT_ok hp n (Nat.le_of_succ_le h)) (hp _ (List.getElem_mem _))
section
variable {a : Nat → Addr} {B : Nat} {EM : World → Prop} {SAt : World → Value → (Nat → Prop) → St → Prop}
theorem fls_but {W W':World} {P:Nat→Prop} {v:Value} {fs:List Fl} (h:FlsAt W v fs) (ho:fs≠ []→∀k,v.ownBlock=some k→¬P k) (hb:But P W W'):FlsAt W' v fs:=by
 rcases h with h | ⟨b,o,c,hv,hl,hc⟩
 · exact Or.inl h
 · by_cases hne:fs= []
   · exact Or.inl ⟨some ⟨b,o,none⟩,c,by rw[hv,hne];rfl,fun e=>(nomatch e),hne⟩
   · have hn:=ho hne b (by rw[hv];rfl)
     exact Or.inr ⟨b,o,c,hv,hl,fun j hj=>⟨hb.keep hn (hc j hj).1,hb.keep hn (hc j hj).2.1,hb.keep hn (hc j hj).2.2.1,hb.keep hn (hc j hj).2.2.2.1,hb.keep hn (hc j hj).2.2.2.2.1,hb.keep hn (hc j hj).2.2.2.2.2⟩⟩
theorem fls_lt {W:World} {v:Value} {fs:List Fl} (h:FlsAt W v fs) (hne:fs≠ []) {k:Nat} (e:v.ownBlock=some k):k<W.heap.size:=by
 rcases h with⟨_,_,_,_,e'⟩|⟨b,o,c,hv,hl,hc⟩
 · exact absurd e' hne
 · rw[hv]at e
   simp only[Value.ownBlock,Option.some.injEq]at e
   rw[←e]
   exact cell_lt (hc 0 (List.length_pos_iff.2 hne)).1
structure TabI (EM:World→Prop) (SAt:World→Value→(Nat→Prop)→St→Prop) (B:Nat) (w W:World) (v:Value) (FP:Nat→Prop) (fs:List Fl) (s r:St) (b:Nat) (vf:Value):Prop where
 both:Both EM SAt B w W v FP s b r
 files:FlsAt W vf fs
 own:fs≠ []→∀k,vf.ownBlock=some k→¬FP k∧k≠b
theorem TabI.quiet (K:StoreK a B EM SAt) {w W w':World} {v:Value} {FP:Nat→Prop} {fs:List Fl} {s r:St} {b:Nat} {vf:Value} (h:TabI EM SAt B w W v FP fs s r b vf) (hb:Below W.heap.size W w'):TabI EM SAt B w w' v FP fs s r b vf :=
 ⟨h.both.quiet K hb,h.files.below hb,h.own⟩
theorem TabI.placed (K:StoreK a B EM SAt) {w W w':World} {v:Value} {FP:Nat→Prop} {fs fs':List Fl} {s r:St} {b:Nat} {vf vf':Value} (h:TabI EM SAt B w W v FP fs s r b vf) (hb:Below W.heap.size W w') (hf:FlsAt w' vf' fs') (hn:NewF W vf'):TabI EM SAt B w w' v FP fs' s r b vf' :=
 ⟨h.both.quiet K hb,hf,fun _ k hk=>⟨fun hF=>by have:=hn k hk;have:=K.lt _ _ _ _ _ h.both.ok.at_ hF;omega,fun e=>by have:=hn k hk;have:=h.both.mat.lt;omega⟩⟩
theorem TabI.prog (K:StoreK a B EM SAt) {w W w':World} {v:Value} {FP:Nat→Prop} {fs:List Fl} {s s' r:St} {b:Nat} {vf:Value} (h:TabI EM SAt B w W v FP fs s r b vf) (hp:SPost SAt W v FP s' w'):∃FP',TabI EM SAt B w w' v FP' fs s' r b vf:=by
 obtain⟨FP',h1,h2,h3⟩:=h.both.prog K hp
 refine⟨FP',h1,fls_but h.files (fun hne k hk=>(h.own hne k hk).1) h2,fun hne k hk=>⟨fun hF=>?_,(h.own hne k hk).2⟩⟩
 rcases h3 k hF with h4 | h4
 · exact(h.own hne k hk).1 h4
 · have:=fls_lt h.files hne hk;omega
theorem TabI.doc (K:StoreK a B EM SAt) {w W w':World} {v:Value} {FP:Nat→Prop} {fs:List Fl} {s r r':St} {b:Nat} {vf:Value} (h:TabI EM SAt B w W v FP fs s r b vf) (hp:MPost W b r' w'):TabI EM SAt B w w' v FP fs s r' b vf :=
 ⟨h.both.doc K hp,fls_but h.files (fun hne k hk=>(h.own hne k hk).2) hp.2.1,h.own⟩
def PcB (W:World) (b:Nat) (p:Pc) (vr vk:Value):Prop:=W.heap[b]? =some (.cells #[.string p.1,.string p.2.1,.string p.2.2.1,vr,vk,.int .i64 p.2.2.2.2.2] 72 (0,0))
theorem PcB.below {W W':World} {b:Nat} {p:Pc} {vr vk:Value} (h:PcB W b p vr vk) (hb:Below W.heap.size W W'):PcB W' b p vr vk:=(hb.block b (lt_of_block h)).trans h
theorem PcB.but {P:Nat→Prop} {W W':World} {b:Nat} {p:Pc} {vr vk:Value} (h:PcB W b p vr vk) (hb:But P W W') (hn:¬P b):PcB W' b p vr vk:=(hb.block b (lt_of_block h) hn).trans h
theorem PcB.cells {W:World} {b:Nat} {p:Pc} {vr vk:Value} (h:PcB W b p vr vk):W.cell? ⟨b,0,none⟩=some (.string p.1)∧W.cell? ⟨b,1,none⟩=some (.string p.2.1)∧W.cell? ⟨b,2,none⟩=some (.string p.2.2.1)∧W.cell? ⟨b,3,none⟩=some vr∧W.cell? ⟨b,4,none⟩=some vk∧W.cell? ⟨b,5,none⟩=some (.int .i64 p.2.2.2.2.2):=by
 refine⟨?_,?_,?_,?_,?_,?_⟩<;>rw [cell_of_row _ _ _ _ _ _ h]<;>rfl
set_option maxRecDepth 100000 in
set_option maxHeartbeats 8000000 in
theorem table_any (K:StoreK a B EM SAt) (v:Value) (l:List Pc) (w:World) (hE:EM w) (h:PcsAt w v l) (hs:pcsLong l=false) :
   Calls Tryz.prog 9 #[v] w fun e w'=> ∃vs FP b vf,e= .returned (.tuple #[vs,.pointer (some ⟨b,0,none⟩),vf])∧TabI (upE EM w.heap.size) SAt w.heap.size w w' vs FP (tabT l).1 (tabT l).2 (tabT l).2 b vf:=by
 have KU:Hid (StoreK a w.heap.size (upE EM w.heap.size) SAt):=K.up (K.size w hE)
 obtain⟨q,cap,rfl⟩:=h.form
 have HA:Hid (∀W,Below w.heap.size w W→PcsAt W (.slice q l.length cap) l):=fun W hb=>h.below hb
 obtain⟨hl,hps⟩:=pcs_short hs
 have HPS:Hid (∀p∈l,pcLong p=false):=hps
 have HOK:Hid (∀n,n≤l.length→TabOk (tabT (l.take n)) n):=tabT_ok hps
 have HSTEP:Hid (∀n (h:n<l.length),tabT (l.take (n+1))=stepT (tabT (l.take n)) l[n]):=fun n h=>tabT_step l h
 have HALL:Hid (tabT (l.take l.length)=tabT l):=by show _=_;rw[List.take_length]
 obtain⟨L,hL⟩:∃L,l.length=L:=⟨_,rfl⟩
 have HX:Hid (l.length=L):=hL
 rw[hL]at hl HA ⊢
 clear hL h hs hps
 have hnw:=K.new w hE
 have HKB:Hid (∀W,Below w.heap.size w W→upE EM w.heap.size W):=fun W hb=>⟨K.below _ _ hE (hb.mono (K.size w hE)),hb.size⟩
 go_enter Tryz.func9,Tryz.ntmps9
 go_wp2_with fail
 refine hnw.mono ?_
 rintro e w1 ⟨vs,FP0,rfl,hat,hfp,hb1⟩
 clear hnw
 obtain⟨pt,rfl⟩:=K.ptr _ _ _ _ hat
 have hms:=newStore_any w1
 go_wp2_with fail
 refine hms.mono ?_
 rintro e w2 ⟨b,rfl,hm2,hc2,hle2,hb2⟩
 clear hms
 have hB2:Below w.heap.size w w2:=hb1.trans (hb2.mono hb1.size)
 have TI0:Hid (TabI (upE EM w.heap.size) SAt w.heap.size w w2 (.pointer (some pt)) FP0 [] newS newS b (.slice none 0 0)) :=
   ⟨⟨⟨HKB.out _ hB2,hB2,Nat.le_refl _,K.keep _ _ _ _ (fun _=>False) _ hat (But.of_below hb2) (fun _ _ h=>h),hfp⟩,hm2,fun hF=>by have:=K.lt _ _ _ _ _ hat hF;omega,Nat.le_trans hb1.size hle2,fun _ _ hne=>absurd rfl hne⟩,Or.inl ⟨none,0,rfl,fun _=>rfl,rfl⟩,fun hne=>absurd rfl hne⟩
 clear hat hfp hm2 hc2 hle2 hb1 hb2 hB2 HKB hE K
 go_wp2
 go_loopw [7,8] (fun vf k wr=> ∃(n:Nat) (FP:Nat→Prop),n≤L∧k= .int .i64 n∧TabI (upE EM w.heap.size) SAt w.heap.size w wr (.pointer (some pt)) FP (tabT (l.take n)).1 (tabT (l.take n)).2 (tabT (l.take n)).2 b vf) (fun _ k _=>L-(intOf k).toNat)
 case atStart=>exact ⟨0,FP0,by omega,rfl,TI0.out⟩
 case round =>
   clear TI0
   obtain⟨n,FP,hn,rfl,hTI⟩:=hrel
   by_cases hlt:n<L
   case neg =>
     obtain rfl:n=L:=by omega
     have TI:Hid (TabI (upE EM w.heap.size) SAt w.heap.size w wr (.pointer (some pt)) FP (tabT l).1 (tabT l).2 (tabT l).2 b u7):=by
       have h:=hTI
       rw[←HX.out,HALL.out]at h
       exact h
     clear hTI HA HPS HOK HSTEP HALL KU
     go_wp2
     go_ret3
     exact⟨_,FP,b,u7,rfl,TI.out⟩
   have hltx:n<l.length:=by rw[HX.out];exact hlt
   have hok:=HOK.out n (Nat.le_of_lt hltx)
   have hpl:=HPS.out l[n] (List.getElem_mem _)
   have HS0:Hid (tabT (l.take (n+1))=stepT (tabT (l.take n)) l[n]):=HSTEP.out n hltx
   obtain⟨bq,oq,hq,hc⟩:=(HA.out wr hTI.both.ok.frame).cells (fun e=>by rw[e]at hltx;simp at hltx)
   subst hq
   obtain⟨vr,vk,hp⟩:=hc n hltx
   obtain⟨rq,rn,rc,rfl⟩:∃q n c,vr= .slice q n c:=by
     rcases hp.rows with⟨q,c,h1,_⟩|⟨b,o,c,h1,_⟩
     · exact⟨_,_,_,h1⟩
     · exact⟨_,_,_,h1⟩
   obtain⟨kq,kn,kc,rfl⟩:∃q n c,vk= .slice q n c:=by
     rcases hp.keys with⟨q,c,h1,_⟩|⟨b,o,c,h1,_⟩
     · exact⟨_,_,_,h1⟩
     · exact⟨_,_,_,h1⟩
   obtain⟨A,hAe⟩:∃A,tabT (l.take n)=A:=⟨_,rfl⟩
   rw[hAe]at hok HS0 hTI
   generalize l[n]=p at hp hpl HS0
   obtain⟨fs,st⟩:=A
   have TI:Hid (TabI (upE EM w.heap.size) SAt w.heap.size w wr (.pointer (some pt)) FP fs st st b u7):=hTI
   have OK:Hid (TabOk (fs,st) n):=hok
   have HRS:Hid (RowsAt wr (.slice rq rn rc) p.2.2.2.1):=hp.rows
   have HKS:Hid (KeysAt wr (.slice kq kn kc) p.2.2.2.2.1):=hp.keys
   have c0:=hp.path
   have c1:=hp.part
   have c2:=hp.other
   have c3:=hp.crow
   have c4:=hp.ckey
   have c5:=hp.seq
   have HTZ:Hid ((pcText p).size≤1400∧(pcPut p).size≤1400):=⟨pcText_size hpl,pcPut_size hpl⟩
   obtain⟨z1,z2,z3,z4,z5,z6⟩:=pc_short hpl
   have HZ5:Hid (∀x∈p.2.2.2.1,x.1.size≤30):=z5
   have hiL:(n:Int)<(L:Int):=by omega
   have hi00:(0:Int)≤(n:Int):=by omega
   clear hTI hok hc hp hpl hltx hAe z5
   have hal5:Below wr.heap.size wr (wr.alloc (.cells #[.string p.1,.string p.2.1,.string p.2.2.1,(.slice rq rn rc),(.slice kq kn kc),.int .i64 p.2.2.2.2.2] 72)):=(Below.refl _ _).alloc (Nat.le_refl _) _
   have HB5:Hid (PcB (wr.alloc (.cells #[.string p.1,.string p.2.1,.string p.2.2.1,(.slice rq rn rc),(.slice kq kn kc),.int .i64 p.2.2.2.2.2] 72)) wr.heap.size p (.slice rq rn rc) (.slice kq kn kc)):=heap_alloc_new _ _
   have T5:Hid (TabI (upE EM w.heap.size) SAt w.heap.size w (wr.alloc (.cells #[.string p.1,.string p.2.1,.string p.2.2.1,(.slice rq rn rc),(.slice kq kn kc),.int .i64 p.2.2.2.2.2] 72)) (.pointer (some pt)) FP fs st st b u7):=TI.out.quiet KU.out hal5
   have R5:Hid (RowsAt (wr.alloc (.cells #[.string p.1,.string p.2.1,.string p.2.2.1,(.slice rq rn rc),(.slice kq kn kc),.int .i64 p.2.2.2.2.2] 72)) (.slice rq rn rc) p.2.2.2.1):=HRS.out.below hal5
   have K5:Hid (KeysAt (wr.alloc (.cells #[.string p.1,.string p.2.1,.string p.2.2.1,(.slice rq rn rc),(.slice kq kn kc),.int .i64 p.2.2.2.2.2] 72)) (.slice kq kn kc) p.2.2.2.2.1):=HKS.out.below hal5
   have hbn:∀P:Nat→Prop,(∀k,P k→k<wr.heap.size)→¬P wr.heap.size:=fun P h hP=>Nat.lt_irrefl _ (h _ hP)
   have HFN:Hid (¬FP wr.heap.size∧wr.heap.size≠b):=⟨fun hF=>by have:=KU.out.lt _ _ _ _ _ TI.out.both.ok.at_ hF;omega,fun e=>by have:=TI.out.both.mat.lt;omega⟩
   clear hal5 TI HRS HKS hbn
   go_upto_region 8 with fail
   generalize wr.alloc (.cells #[.string p.1,.string p.2.1,.string p.2.2.1,(.slice rq rn rc),(.slice kq kn kc),.int .i64 p.2.2.2.2.2] 72)=w5 at *
   generalize wr.heap.size=pb at *
   clear c0 c1 c2 c3 c4 c5
   obtain⟨d0,d1,d2,d3,d4,d5⟩:=HB5.out.cells
   have hdo:=dataOf_tot (.slice rq rn rc) p.2.2.2.1 w5 R5.out (by omega) HZ5.out
   go_wp2_with fail
   refine hdo.mono ?_
   rintro e w6 ⟨x6,y6,rfl,hb6⟩
   clear hdo d0 d1 d2 d3 d4 d5 R5 HZ5
   have hal7:Below w6.heap.size w6 (w6.alloc (.cells #[.int .i64 x6,.int .i64 y6] 46)):=(Below.refl _ _).alloc (Nat.le_refl _) _
   have hb57:Below w5.heap.size w5 (w6.alloc (.cells #[.int .i64 x6,.int .i64 y6] 46)):=hb6.trans (hal7.mono hb6.size)
   have T7:Hid (TabI (upE EM w.heap.size) SAt w.heap.size w (w6.alloc (.cells #[.int .i64 x6,.int .i64 y6] 46)) (.pointer (some pt)) FP fs st st b u7):=T5.out.quiet KU.out hb57
   have B7:Hid (PcB (w6.alloc (.cells #[.int .i64 x6,.int .i64 y6] 46)) pb p (.slice rq rn rc) (.slice kq kn kc)):=HB5.out.below hb57
   have K7:Hid (KeysAt (w6.alloc (.cells #[.int .i64 x6,.int .i64 y6] 46)) (.slice kq kn kc) p.2.2.2.2.1):=K5.out.below hb57
   clear hb6 hal7 hb57 T5 HB5 K5
   go_upto_region 9 with fail
   generalize w6.alloc (.cells #[.int .i64 x6,.int .i64 y6] 46)=w7 at *
   obtain⟨d0,d1,d2,d3,d4,d5⟩:=B7.out.cells
   by_cases hP:p.2.1.data.toList= [45]
   case neg =>
     have hPq:=neB_of hP
     have HTX:Hid (pcText p=dataT p.2.2.2.1):=by show _=_;unfold pcText;rw[if_neg hP]
     generalize dataT p.2.2.2.1=T at HTX ⊢
     clear hP K7
     obtain⟨w8,hw8⟩:∃W,w7=W:=⟨_,rfl⟩
     rw[hw8]at T7 B7 d0 d1 d2 d3 d4 d5 ⊢
     clear hw8
     have T8:=T7
     have B8:=B7
     clear T7 B7
     have htz:T.size≤1400:=by have h:=HTZ.out.1;rw[HTX.out]at h;exact h
     have hof:=ofText_any p.1 p.2.1 T p.2.2.2.2.2 w8 (by omega) (by omega) (by unfold maxLen;omega)
     have HKN:Hid (pcKnown p=ofF p.1 p.2.1 T.data.toList p.2.2.2.2.2):=by show _=_;unfold pcKnown;rw[HTX.out]
     obtain⟨Y,hY⟩:∃Y,ofF p.1 p.2.1 T.data.toList p.2.2.2.2.2=Y:=⟨_,rfl⟩
     have HKP:Hid (Y.2=0→Y.1.1=p.1):=fun h0=>by
       rw[←hY]at h0 ⊢
       exact(known_path h0).1
     rw[hY]at hof HKN
     obtain⟨y,ec⟩:=Y
     dsimp only at hof HKP
     unfold flV at hof
     clear hY
     go_wp2_with fail
     refine hof.mono ?_
     rintro e' w9 ⟨rfl,hb9⟩
     clear hof d0 d1 d2 d3 d4 d5 hPq
     have hal9:Below w9.heap.size w9 (w9.alloc (.cells #[.string y.1,.string y.2.1,.int .i64 y.2.2.1,.int .i64 y.2.2.2.1,.int .i64 y.2.2.2.2.1,.int .i64 y.2.2.2.2.2] 63)):=(Below.refl _ _).alloc (Nat.le_refl _) _
     have Y9:Hid (FlAt (w9.alloc (.cells #[.string y.1,.string y.2.1,.int .i64 y.2.2.1,.int .i64 y.2.2.2.1,.int .i64 y.2.2.2.2.1,.int .i64 y.2.2.2.2.2] 63)) w9.heap.size y):=FlAt.new w9 y
     have T9:Hid (TabI (upE EM w.heap.size) SAt w.heap.size w (w9.alloc (.cells #[.string y.1,.string y.2.1,.int .i64 y.2.2.1,.int .i64 y.2.2.2.1,.int .i64 y.2.2.2.2.1,.int .i64 y.2.2.2.2.2] 63)) (.pointer (some pt)) FP fs st st b u7):=(T8.out.quiet KU.out hb9).quiet KU.out hal9
     have B9:Hid (PcB (w9.alloc (.cells #[.string y.1,.string y.2.1,.int .i64 y.2.2.1,.int .i64 y.2.2.2.1,.int .i64 y.2.2.2.2.1,.int .i64 y.2.2.2.2.2] 63)) pb p (.slice rq rn rc) (.slice kq kn kc)):=(B8.out.below hb9).below hal9
     clear T8 B8 hb9 hal9
     go_upto_region 12 with fail
     generalize w9.alloc (.cells #[.string y.1,.string y.2.1,.int .i64 y.2.2.1,.int .i64 y.2.2.2.1,.int .i64 y.2.2.2.2.1,.int .i64 y.2.2.2.2.2] 63)=w10 at *
     generalize w9.heap.size=yb at *
     obtain⟨d0,d1,d2,d3,d4,d5⟩:=B9.out.cells
     by_cases hec:ec=0
     case neg =>
       have HNX:Hid (tabT (l.take (n+1))=(fs,st)):=by
         show _=_
         rw[HS0.out]
         unfold stepT
         rw[if_pos (Or.inl (by rw[HKN.out];exact hec))]
       have hep:(0:Int)<(ec:Int):=by omega
       clear HS0 HKN HKP HTX htz HTZ OK B9 Y9
       go_wp2
       go_roundw
       case rel=>exact ⟨n+1,FP,by omega,by go_num,by rw[HNX.out];exact T9.out⟩
       case measure=>simp [intOf];omega
     have heZ:((ec:Nat):Int)=0:=by omega
     rw[heZ]
     clear heZ
     subst hec
     have HYP:Hid (y.1=p.1):=HKP.out rfl
     clear HKP
     have hom:=OK.out.many
     dsimp only at hom
     have hfi:=findOf_any u7 fs p.1 w10 T9.out.files (by omega)
     by_cases hfd:0≤findF fs p.1
     case pos =>
       have HNX:Hid (tabT (l.take (n+1))=(fs,st)):=by
         show _=_
         rw[HS0.out]
         unfold stepT
         rw[if_pos (Or.inr hfd)]
       generalize findF fs p.1=z at hfi hfd
       clear HS0 HKN HTX htz HTZ OK B9 Y9 HYP
       go_wp2_with fail
       refine hfi.mono ?_
       rintro e w11 ⟨rfl,rfl⟩
       clear hfi
       go_wp2
       go_roundw
       case rel=>exact ⟨n+1,FP,by omega,by go_num,by rw[HNX.out];exact T9.out⟩
       case measure=>simp [intOf];omega
     have HNX:Hid (tabT (l.take (n+1))=(placeL fs y,putS st p.1 (pcPut p))):=by
       show _=_
       rw[HS0.out]
       unfold stepT
       rw[if_neg (by rw[HKN.out];rintro(h | h);exact h rfl;exact hfd h),HKN.out]
     generalize findF fs p.1=z at hfi hfd
     clear HS0 HKN
     go_wp2_with fail
     refine hfi.mono ?_
     rintro e w11 ⟨rfl,rfl⟩
     clear hfi
     obtain⟨PT,hPT⟩:∃t,pcPut p=t:=⟨_,rfl⟩
     rw[hPT]at HNX HTZ
     have hptz:=HTZ.out.2
     go_upto_region 13 with fail
     by_cases hS:p.2.2.1.data.toList= []
     case neg =>
       have hSq:=neB_of hS
       have hSe:p.2.2.1.toList.isEmpty=false:=by rw[ByteArray.toList_eq];cases h:p.2.2.1.data.toList with | nil=>exact absurd h hS | cons _ _=>rfl
       have hPTe:PT=p.2.2.1:=by
         rw[←hPT]
         unfold pcPut
         rw[if_neg hS]
       clear hPT HTZ hS HTX
       rw[←hPTe]at d2 hSq hSe
       clear hPTe
       obtain⟨f0,f1,f2,f3,f4,f5,-⟩:=Y9.out.cells
       have hpn:=placed_new u7 fs y _ T9.out.files (by omega) (fun g hg=>by have:=(OK.out.size g hg).1;omega) (by rw[HYP.out];omega)
       unfold flV at hpn
       generalize placeL fs y=fs' at hpn HNX
       go_upto_region 15 with fail
       clear d0 d1 d2 d3 d4 d5 hSq hSe hfd
       go_wp2_with fail
       refine hpn.mono ?_
       rintro e w12 ⟨v12,rfl,hf12,hn12,hb12⟩
       clear hpn f0 f1 f2 f3 f4 f5 Y9
       have T12:Hid (TabI (upE EM w.heap.size) SAt w.heap.size w w12 (.pointer (some pt)) FP fs' st st b v12):=T9.out.placed KU.out hb12 hf12 hn12
       have B12:Hid (PcB w12 pb p (.slice rq rn rc) (.slice kq kn kc)):=B9.out.below hb12
       clear T9 B9 hf12 hn12 hb12
       have hpu:=KU.out.put w12 (.pointer (some pt)) FP st p.1 PT T12.out.both.ok.env T12.out.both.ok.at_ OK.out.keeps (by omega) (by omega)
       obtain⟨d0,d1,d2,d3,d4,d5⟩:=B12.out.cells
       go_wp2_with fail
       refine hpu.mono ?_
       rintro e w13 ⟨rfl,hp13⟩
       clear hpu d0 d1 d2 d3 d4 d5
       have B13:Hid (PcB w13 pb p (.slice rq rn rc) (.slice kq kn kc)):=by
         obtain⟨_,_,hbt,_⟩:=hp13
         exact B12.out.but hbt HFN.out.1
       obtain⟨FP',hT13⟩:=T12.out.prog KU.out hp13
       have T13:Hid (TabI (upE EM w.heap.size) SAt w.heap.size w w13 (.pointer (some pt)) FP' fs' (putS st p.1 PT) st b v12):=hT13
       clear hT13 hp13 T12 B12
       have hmp:=mput_any b st p.1 PT w13 T13.out.both.mat OK.out.keeps (by have:=OK.out.cut;dsimp only at this;omega) (by unfold maxLen;omega) (by unfold maxLen;omega)
       obtain⟨d0,d1,d2,d3,d4,d5⟩:=B13.out.cells
       go_wp2_with fail
       refine hmp.mono ?_
       rintro e w14 ⟨rfl,hp14⟩
       clear hmp d0 d1 d2 d3 d4 d5 B13
       have T14:Hid (TabI (upE EM w.heap.size) SAt w.heap.size w w14 (.pointer (some pt)) FP' fs' (putS st p.1 PT) (putS st p.1 PT) b v12):=T13.out.doc KU.out hp14
       clear T13 hp14 OK
       generalize errV a (putC st p.1 PT)=ev
       generalize putC st p.1 PT=pc
       go_wp2
       go_roundw
       case rel=>exact ⟨n+1,FP',by omega,by go_num,by rw[HNX.out];exact T14.out⟩
       case measure=>simp [intOf];omega
     case pos =>
       have hSq:=eqB_of hS
       have hSe:p.2.2.1.toList.isEmpty=true:=by rw[ByteArray.toList_eq];rw[hS];rfl
       have hPTe:PT=T:=by
         rw[←hPT]
         unfold pcPut
         rw[if_pos hS];exact HTX.out
       clear hPT HTZ hS HTX
       rw[←hPTe]
       clear hPTe
       obtain⟨f0,f1,f2,f3,f4,f5,-⟩:=Y9.out.cells
       have hpn:=placed_new u7 fs y _ T9.out.files (by omega) (fun g hg=>by have:=(OK.out.size g hg).1;omega) (by rw[HYP.out];omega)
       unfold flV at hpn
       generalize placeL fs y=fs' at hpn HNX
       go_upto_region 15 with fail
       clear d0 d1 d2 d3 d4 d5 hSq hSe hfd
       go_wp2_with fail
       refine hpn.mono ?_
       rintro e w12 ⟨v12,rfl,hf12,hn12,hb12⟩
       clear hpn f0 f1 f2 f3 f4 f5 Y9
       have T12:Hid (TabI (upE EM w.heap.size) SAt w.heap.size w w12 (.pointer (some pt)) FP fs' st st b v12):=T9.out.placed KU.out hb12 hf12 hn12
       have B12:Hid (PcB w12 pb p (.slice rq rn rc) (.slice kq kn kc)):=B9.out.below hb12
       clear T9 B9 hf12 hn12 hb12
       have hpu:=KU.out.put w12 (.pointer (some pt)) FP st p.1 PT T12.out.both.ok.env T12.out.both.ok.at_ OK.out.keeps (by omega) (by omega)
       obtain⟨d0,d1,d2,d3,d4,d5⟩:=B12.out.cells
       go_wp2_with fail
       refine hpu.mono ?_
       rintro e w13 ⟨rfl,hp13⟩
       clear hpu d0 d1 d2 d3 d4 d5
       have B13:Hid (PcB w13 pb p (.slice rq rn rc) (.slice kq kn kc)):=by
         obtain⟨_,_,hbt,_⟩:=hp13
         exact B12.out.but hbt HFN.out.1
       obtain⟨FP',hT13⟩:=T12.out.prog KU.out hp13
       have T13:Hid (TabI (upE EM w.heap.size) SAt w.heap.size w w13 (.pointer (some pt)) FP' fs' (putS st p.1 PT) st b v12):=hT13
       clear hT13 hp13 T12 B12
       have hmp:=mput_any b st p.1 PT w13 T13.out.both.mat OK.out.keeps (by have:=OK.out.cut;dsimp only at this;omega) (by unfold maxLen;omega) (by unfold maxLen;omega)
       obtain⟨d0,d1,d2,d3,d4,d5⟩:=B13.out.cells
       go_wp2_with fail
       refine hmp.mono ?_
       rintro e w14 ⟨rfl,hp14⟩
       clear hmp d0 d1 d2 d3 d4 d5 B13
       have T14:Hid (TabI (upE EM w.heap.size) SAt w.heap.size w w14 (.pointer (some pt)) FP' fs' (putS st p.1 PT) (putS st p.1 PT) b v12):=T13.out.doc KU.out hp14
       clear T13 hp14 OK
       generalize errV a (putC st p.1 PT)=ev
       generalize putC st p.1 PT=pc
       go_wp2
       go_roundw
       case rel=>exact ⟨n+1,FP',by omega,by go_num,by rw[HNX.out];exact T14.out⟩
       case measure=>simp [intOf];omega
   case pos =>
     have hPq:=eqB_of hP
     have HTX:Hid (pcText p=goneT p.2.2.2.2.1):=by show _=_;unfold pcText;rw[if_pos hP]
     have hgo:=goneOf_tot (.slice kq kn kc) p.2.2.2.2.1 w7 K7.out (by omega)
     clear hP K7
     go_wp2_with fail
     refine hgo.mono ?_
     rintro e w8 ⟨x8,y8,rfl,hb8⟩
     clear hgo d0 d1 d2 d3 d4 d5
     have T8:Hid (TabI (upE EM w.heap.size) SAt w.heap.size w w8 (.pointer (some pt)) FP fs st st b u7):=T7.out.quiet KU.out hb8
     have B8:Hid (PcB w8 pb p (.slice rq rn rc) (.slice kq kn kc)):=B7.out.below hb8
     clear T7 B7 hb8
     obtain⟨d0,d1,d2,d3,d4,d5⟩:=B8.out.cells
     generalize goneT p.2.2.2.2.1=T at HTX ⊢
     have htz:T.size≤1400:=by have h:=HTZ.out.1;rw[HTX.out]at h;exact h
     have hof:=ofText_any p.1 p.2.1 T p.2.2.2.2.2 w8 (by omega) (by omega) (by unfold maxLen;omega)
     have HKN:Hid (pcKnown p=ofF p.1 p.2.1 T.data.toList p.2.2.2.2.2):=by show _=_;unfold pcKnown;rw[HTX.out]
     obtain⟨Y,hY⟩:∃Y,ofF p.1 p.2.1 T.data.toList p.2.2.2.2.2=Y:=⟨_,rfl⟩
     have HKP:Hid (Y.2=0→Y.1.1=p.1):=fun h0=>by
       rw[←hY]at h0 ⊢
       exact(known_path h0).1
     rw[hY]at hof HKN
     obtain⟨y,ec⟩:=Y
     dsimp only at hof HKP
     unfold flV at hof
     clear hY
     go_wp2_with fail
     refine hof.mono ?_
     rintro e' w9 ⟨rfl,hb9⟩
     clear hof d0 d1 d2 d3 d4 d5 hPq
     have hal9:Below w9.heap.size w9 (w9.alloc (.cells #[.string y.1,.string y.2.1,.int .i64 y.2.2.1,.int .i64 y.2.2.2.1,.int .i64 y.2.2.2.2.1,.int .i64 y.2.2.2.2.2] 63)):=(Below.refl _ _).alloc (Nat.le_refl _) _
     have Y9:Hid (FlAt (w9.alloc (.cells #[.string y.1,.string y.2.1,.int .i64 y.2.2.1,.int .i64 y.2.2.2.1,.int .i64 y.2.2.2.2.1,.int .i64 y.2.2.2.2.2] 63)) w9.heap.size y):=FlAt.new w9 y
     have T9:Hid (TabI (upE EM w.heap.size) SAt w.heap.size w (w9.alloc (.cells #[.string y.1,.string y.2.1,.int .i64 y.2.2.1,.int .i64 y.2.2.2.1,.int .i64 y.2.2.2.2.1,.int .i64 y.2.2.2.2.2] 63)) (.pointer (some pt)) FP fs st st b u7):=(T8.out.quiet KU.out hb9).quiet KU.out hal9
     have B9:Hid (PcB (w9.alloc (.cells #[.string y.1,.string y.2.1,.int .i64 y.2.2.1,.int .i64 y.2.2.2.1,.int .i64 y.2.2.2.2.1,.int .i64 y.2.2.2.2.2] 63)) pb p (.slice rq rn rc) (.slice kq kn kc)):=(B8.out.below hb9).below hal9
     clear T8 B8 hb9 hal9
     go_upto_region 12 with fail
     generalize w9.alloc (.cells #[.string y.1,.string y.2.1,.int .i64 y.2.2.1,.int .i64 y.2.2.2.1,.int .i64 y.2.2.2.2.1,.int .i64 y.2.2.2.2.2] 63)=w10 at *
     generalize w9.heap.size=yb at *
     obtain⟨d0,d1,d2,d3,d4,d5⟩:=B9.out.cells
     by_cases hec:ec=0
     case neg =>
       have HNX:Hid (tabT (l.take (n+1))=(fs,st)):=by
         show _=_
         rw[HS0.out]
         unfold stepT
         rw[if_pos (Or.inl (by rw[HKN.out];exact hec))]
       have hep:(0:Int)<(ec:Int):=by omega
       clear HS0 HKN HKP HTX htz HTZ OK B9 Y9
       go_wp2
       go_roundw
       case rel=>exact ⟨n+1,FP,by omega,by go_num,by rw[HNX.out];exact T9.out⟩
       case measure=>simp [intOf];omega
     have heZ:((ec:Nat):Int)=0:=by omega
     rw[heZ]
     clear heZ
     subst hec
     have HYP:Hid (y.1=p.1):=HKP.out rfl
     clear HKP
     have hom:=OK.out.many
     dsimp only at hom
     have hfi:=findOf_any u7 fs p.1 w10 T9.out.files (by omega)
     by_cases hfd:0≤findF fs p.1
     case pos =>
       have HNX:Hid (tabT (l.take (n+1))=(fs,st)):=by
         show _=_
         rw[HS0.out]
         unfold stepT
         rw[if_pos (Or.inr hfd)]
       generalize findF fs p.1=z at hfi hfd
       clear HS0 HKN HTX htz HTZ OK B9 Y9 HYP
       go_wp2_with fail
       refine hfi.mono ?_
       rintro e w11 ⟨rfl,rfl⟩
       clear hfi
       go_wp2
       go_roundw
       case rel=>exact ⟨n+1,FP,by omega,by go_num,by rw[HNX.out];exact T9.out⟩
       case measure=>simp [intOf];omega
     have HNX:Hid (tabT (l.take (n+1))=(placeL fs y,putS st p.1 (pcPut p))):=by
       show _=_
       rw[HS0.out]
       unfold stepT
       rw[if_neg (by rw[HKN.out];rintro(h | h);exact h rfl;exact hfd h),HKN.out]
     generalize findF fs p.1=z at hfi hfd
     clear HS0 HKN
     go_wp2_with fail
     refine hfi.mono ?_
     rintro e w11 ⟨rfl,rfl⟩
     clear hfi
     obtain⟨PT,hPT⟩:∃t,pcPut p=t:=⟨_,rfl⟩
     rw[hPT]at HNX HTZ
     have hptz:=HTZ.out.2
     go_upto_region 13 with fail
     by_cases hS:p.2.2.1.data.toList= []
     case neg =>
       have hSq:=neB_of hS
       have hSe:p.2.2.1.toList.isEmpty=false:=by rw[ByteArray.toList_eq];cases h:p.2.2.1.data.toList with | nil=>exact absurd h hS | cons _ _=>rfl
       have hPTe:PT=p.2.2.1:=by
         rw[←hPT]
         unfold pcPut
         rw[if_neg hS]
       clear hPT HTZ hS HTX
       rw[←hPTe]at d2 hSq hSe
       clear hPTe
       obtain⟨f0,f1,f2,f3,f4,f5,-⟩:=Y9.out.cells
       have hpn:=placed_new u7 fs y _ T9.out.files (by omega) (fun g hg=>by have:=(OK.out.size g hg).1;omega) (by rw[HYP.out];omega)
       unfold flV at hpn
       generalize placeL fs y=fs' at hpn HNX
       go_upto_region 15 with fail
       clear d0 d1 d2 d3 d4 d5 hSq hSe hfd
       go_wp2_with fail
       refine hpn.mono ?_
       rintro e w12 ⟨v12,rfl,hf12,hn12,hb12⟩
       clear hpn f0 f1 f2 f3 f4 f5 Y9
       have T12:Hid (TabI (upE EM w.heap.size) SAt w.heap.size w w12 (.pointer (some pt)) FP fs' st st b v12):=T9.out.placed KU.out hb12 hf12 hn12
       have B12:Hid (PcB w12 pb p (.slice rq rn rc) (.slice kq kn kc)):=B9.out.below hb12
       clear T9 B9 hf12 hn12 hb12
       have hpu:=KU.out.put w12 (.pointer (some pt)) FP st p.1 PT T12.out.both.ok.env T12.out.both.ok.at_ OK.out.keeps (by omega) (by omega)
       obtain⟨d0,d1,d2,d3,d4,d5⟩:=B12.out.cells
       go_wp2_with fail
       refine hpu.mono ?_
       rintro e w13 ⟨rfl,hp13⟩
       clear hpu d0 d1 d2 d3 d4 d5
       have B13:Hid (PcB w13 pb p (.slice rq rn rc) (.slice kq kn kc)):=by
         obtain⟨_,_,hbt,_⟩:=hp13
         exact B12.out.but hbt HFN.out.1
       obtain⟨FP',hT13⟩:=T12.out.prog KU.out hp13
       have T13:Hid (TabI (upE EM w.heap.size) SAt w.heap.size w w13 (.pointer (some pt)) FP' fs' (putS st p.1 PT) st b v12):=hT13
       clear hT13 hp13 T12 B12
       have hmp:=mput_any b st p.1 PT w13 T13.out.both.mat OK.out.keeps (by have:=OK.out.cut;dsimp only at this;omega) (by unfold maxLen;omega) (by unfold maxLen;omega)
       obtain⟨d0,d1,d2,d3,d4,d5⟩:=B13.out.cells
       go_wp2_with fail
       refine hmp.mono ?_
       rintro e w14 ⟨rfl,hp14⟩
       clear hmp d0 d1 d2 d3 d4 d5 B13
       have T14:Hid (TabI (upE EM w.heap.size) SAt w.heap.size w w14 (.pointer (some pt)) FP' fs' (putS st p.1 PT) (putS st p.1 PT) b v12):=T13.out.doc KU.out hp14
       clear T13 hp14 OK
       generalize errV a (putC st p.1 PT)=ev
       generalize putC st p.1 PT=pc
       go_wp2
       go_roundw
       case rel=>exact ⟨n+1,FP',by omega,by go_num,by rw[HNX.out];exact T14.out⟩
       case measure=>simp [intOf];omega
     case pos =>
       have hSq:=eqB_of hS
       have hSe:p.2.2.1.toList.isEmpty=true:=by rw[ByteArray.toList_eq];rw[hS];rfl
       have hPTe:PT=T:=by
         rw[←hPT]
         unfold pcPut
         rw[if_pos hS];exact HTX.out
       clear hPT HTZ hS HTX
       rw[←hPTe]
       clear hPTe
       obtain⟨f0,f1,f2,f3,f4,f5,-⟩:=Y9.out.cells
       have hpn:=placed_new u7 fs y _ T9.out.files (by omega) (fun g hg=>by have:=(OK.out.size g hg).1;omega) (by rw[HYP.out];omega)
       unfold flV at hpn
       generalize placeL fs y=fs' at hpn HNX
       go_upto_region 15 with fail
       clear d0 d1 d2 d3 d4 d5 hSq hSe hfd
       go_wp2_with fail
       refine hpn.mono ?_
       rintro e w12 ⟨v12,rfl,hf12,hn12,hb12⟩
       clear hpn f0 f1 f2 f3 f4 f5 Y9
       have T12:Hid (TabI (upE EM w.heap.size) SAt w.heap.size w w12 (.pointer (some pt)) FP fs' st st b v12):=T9.out.placed KU.out hb12 hf12 hn12
       have B12:Hid (PcB w12 pb p (.slice rq rn rc) (.slice kq kn kc)):=B9.out.below hb12
       clear T9 B9 hf12 hn12 hb12
       have hpu:=KU.out.put w12 (.pointer (some pt)) FP st p.1 PT T12.out.both.ok.env T12.out.both.ok.at_ OK.out.keeps (by omega) (by omega)
       obtain⟨d0,d1,d2,d3,d4,d5⟩:=B12.out.cells
       go_wp2_with fail
       refine hpu.mono ?_
       rintro e w13 ⟨rfl,hp13⟩
       clear hpu d0 d1 d2 d3 d4 d5
       have B13:Hid (PcB w13 pb p (.slice rq rn rc) (.slice kq kn kc)):=by
         obtain⟨_,_,hbt,_⟩:=hp13
         exact B12.out.but hbt HFN.out.1
       obtain⟨FP',hT13⟩:=T12.out.prog KU.out hp13
       have T13:Hid (TabI (upE EM w.heap.size) SAt w.heap.size w w13 (.pointer (some pt)) FP' fs' (putS st p.1 PT) st b v12):=hT13
       clear hT13 hp13 T12 B12
       have hmp:=mput_any b st p.1 PT w13 T13.out.both.mat OK.out.keeps (by have:=OK.out.cut;dsimp only at this;omega) (by unfold maxLen;omega) (by unfold maxLen;omega)
       obtain⟨d0,d1,d2,d3,d4,d5⟩:=B13.out.cells
       go_wp2_with fail
       refine hmp.mono ?_
       rintro e w14 ⟨rfl,hp14⟩
       clear hmp d0 d1 d2 d3 d4 d5 B13
       have T14:Hid (TabI (upE EM w.heap.size) SAt w.heap.size w w14 (.pointer (some pt)) FP' fs' (putS st p.1 PT) (putS st p.1 PT) b v12):=T13.out.doc KU.out hp14
       clear T13 hp14 OK
       generalize errV a (putC st p.1 PT)=ev
       generalize putC st p.1 PT=pc
       go_wp2
       go_roundw
       case rel=>exact ⟨n+1,FP',by omega,by go_num,by rw[HNX.out];exact T14.out⟩
       case measure=>simp [intOf];omega
end
set_option maxRecDepth 100000 in
set_option maxHeartbeats 1000000 in
theorem faulted3_same (v:Value) (x y:Int) (w:World)
   (hc:Calls Tryz.prog 58 #[v] (w.alloc (.cells #[.int .i64 x,.int .i64 y] 46)) fun e w'=>e= .returned (.tuple #[.int .i64 x,.int .i64 y])∧Below (w.alloc (.cells #[.int .i64 x,.int .i64 y] 46)).heap.size (w.alloc (.cells #[.int .i64 x,.int .i64 y] 46)) w') :
   Calls Tryz.prog 18 #[v,.agg #[.int .i64 x,.int .i64 y]] w fun e w'=>e= .returned (.bool true)∧Below w.heap.size w w':=by
 have hal:Below w.heap.size w (w.alloc (.cells #[.int .i64 x,.int .i64 y] 46)):=(Below.refl _ _).alloc (Nat.le_refl _) _
 have x0:(w.alloc (.cells #[.int .i64 x,.int .i64 y] 46)).cell? ⟨w.heap.size,0,none⟩=some (.int .i64 x):=by simp
 have x1:(w.alloc (.cells #[.int .i64 x,.int .i64 y] 46)).cell? ⟨w.heap.size,1,none⟩=some (.int .i64 y):=by simp
 go_enter Tryz.func18,Tryz.ntmps18
 go_wp2_with fail
 refine hc.mono ?_
 rintro e w1 ⟨rfl,hb1⟩
 clear hc
 have y0:=below_keep hb1 x0
 have y1:=below_keep hb1 x1
 have hB:Below w.heap.size w w1:=hal.trans (hb1.mono hal.size)
 clear x0 x1
 by_cases hx:x=0
 · subst hx
   go_wp2
   go_ret
   exact⟨rfl,hB⟩
 · go_wp2
   go_ret
   exact⟨by simp,hB⟩
theorem faulted3_err (n:Nat) (hn:n≤12) (w:World) (a:Nat→Addr) (h:Errs w a) :
   Calls Tryz.prog 18 #[errV a n,.agg #[.int .i64 n,.int .i64 (-1)]] w fun e w'=>e= .returned (.bool true)∧Below w.heap.size w w' :=
 faulted3_same _ _ _ w (err_code n hn _ a (h.below ((Below.refl _ _).alloc (Nat.le_refl _) _)))
theorem faulted3_at (n:Nat) (h0:n≠0) (hn:n≤12) (w:World) (a:Nat→Addr) (h:Errs w a) (fb:Nat) (j:Int) (c0:w.cell? ⟨fb,0,none⟩=some (.int .i64 j)) (c1:w.cell? ⟨fb,1,none⟩=some (errV a n)) :
   Calls Tryz.prog 18 #[.iface 92 (.pointer (some ⟨fb,0,none⟩)),.agg #[.int .i64 n,.int .i64 j]] w fun e w'=>e= .returned (.bool true)∧Below w.heap.size w w' :=
 faulted3_same _ _ _ w (fault_code n h0 hn _ a (h.below ((Below.refl _ _).alloc (Nat.le_refl _) _)) fb j (below_keep ((Below.refl _ _).alloc (Nat.le_refl _) _) c0) (below_keep ((Below.refl _ _).alloc (Nat.le_refl _) _) c1))
theorem coded3_of (v:Value) (c:Int) (w:World) (w1:World→Prop)
   (hc:Calls Tryz.prog 58 #[v] w fun e w'=>e= .returned (.tuple #[.int .i64 c,.int .i64 (-1)])∧w1 w') :
   Calls Tryz.prog 21 #[v,.int .i64 c] w fun e w'=>e= .returned (.bool true)∧w1 w':=by
 go_enter Tryz.func21,Tryz.ntmps21
 go_wp2_with (go_at_call 58;refine hc.mono ?_;rintro e w' ⟨rfl,hw⟩)
 go_ret
 exact⟨by simp,hw⟩
theorem coded3_any (W:World) (a:Nat→Addr) (h:Errs W a) (n:Nat) (hn:n≤12) :
   Calls Tryz.prog 21 #[errV a n,.int .i64 n] W fun e w'=>e= .returned (.bool true)∧Below W.heap.size W w':=by
 cases n with
 | zero =>
   refine(coded3_of .nilIface 0 W (fun w'=>w'=W) (code_nil W)).mono fun e w' ⟨he,hw⟩=>⟨he,?_⟩
   subst hw
   exact Below.refl _ _
 | succ i =>
   have hi:i<12:=by omega
   obtain⟨cp,tp,hp⟩:=h.block i hi
   have hcn:codeNum i=((i+1:Nat):Int):=by unfold codeNum;rw[if_pos hi];rfl
   have hc:=code_bare W a h (a i) cp tp hp i (fun n hn=>⟨fun e=>(h.inj i n hi hn e).symm,fun e=>e▸rfl⟩)
   rw[hcn]at hc
   exact coded3_of _ _ W _ hc
theorem ToldE.same3 {W:World} {a:Nat→Addr} {ev:Value} {c:Nat×Option Nat} (h:ToldE W a ev c) (hc:c.1≤12) (hE:Errs W a) :
   Calls Tryz.prog 18 #[ev,.agg #[.int .i64 c.1,.int .i64 (atZ c.2)]] W fun e w'=>e= .returned (.bool true)∧Below W.heap.size W w':=by
 obtain⟨n,o⟩:=c
 cases o with
 | none =>
   obtain rfl:ev=errV a n:=h
   exact faulted3_err n hc W a hE
 | some j =>
   obtain⟨h0,fb,rfl,c0,c1⟩:=h
   exact faulted3_at n h0 hc W a hE fb j c0 c1
end Go.Proofs.YtdhkdjlgmbejnaaGreatDoor
