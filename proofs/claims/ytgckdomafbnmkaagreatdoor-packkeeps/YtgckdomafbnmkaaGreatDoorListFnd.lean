/- By an AI agent. -/
import Derived.Test.YtgckdomafbnmkaaGreatDoorScanRead
namespace Go.Proofs.YtgckdomafbnmkaaGreatDoor
open Go.RowKit Go.Extern.Stop Go.Stop Go.Extern Go.Sort Go.Shelf Go.Lib
set_option maxRecDepth 100000 in
set_option maxHeartbeats 8000000 in
theorem prune_any (v:Value) (fs:List Fl) (lo hi:Int) (w:World) (hx:FlsAt w v fs) (hl:fs.length≤20000) :
   Calls Tryz.prog 47 #[v,.int .i64 lo,.int .i64 hi] w fun e w'=> ∃v',e= .returned v'∧FlsAt w' v' (fs.filter (inP lo hi))∧Below w.heap.size w w':=by
 obtain⟨i0,hi0,hz0,hs0,hby0⟩:=Tryz.fileInfo
 obtain⟨q,cap,rfl⟩:=hx.form
 have HFX:Hid (FlsAt w (.slice q fs.length cap) fs):=hx
 obtain⟨L,hL⟩:∃L,fs.length=L:=⟨_,rfl⟩
 have HX:Hid (fs.length=L):=hL
 rw[hL]at hl ⊢
 clear hL hx
 go_enter Tryz.func47,Tryz.ntmps47
 go_wp2
 go_loopw [7,12] (fun out k wr=> ∃n:Nat,n≤L∧k= .int .i64 n∧Below w.heap.size w wr∧wr.ownsRow w.heap.size 43 6 out (kept (inP lo hi) fs n).length (flatF (kept (inP lo hi) fs n))) (fun _ k _=>L-(intOf k).toNat)
 case atStart=>exact ⟨0,by omega,rfl,Below.refl _ _,by rw[kept_zero];exact World.ownsRow_nil _ _ _ _⟩
 case round =>
   obtain⟨n,hn,rfl,hb,hown⟩:=hrel
   have OW:Hid (wr.ownsRow w.heap.size 43 6 u7 (kept (inP lo hi) fs n).length (flatF (kept (inP lo hi) fs n))):=hown
   clear hown
   by_cases hlt:n<L
   · have hltx:n<fs.length:=by rw[HX.out];exact hlt
     obtain⟨b,o,hq,hc⟩:=(HFX.out.below hb).cells (fun e=>by rw[e]at hltx;simp at hltx)
     subst hq
     obtain⟨c0,c1,c2,c3,c4,c5⟩:=hc n hltx
     have HKL:Hid ((kept (inP lo hi) fs n).length≤L):=by
       show _≤_
       have:=kept_len (inP lo hi) fs n
       omega
     have hke:(kept (inP lo hi) fs (n+1))=if (inP lo hi) fs[n]=true then (kept (inP lo hi) fs n)++ [fs[n]] else (kept (inP lo hi) fs n):=kept_succ (inP lo hi) fs n hltx
     generalize fs[n]=f at c0 c1 c2 c3 c4 c5 hke
     have hfb:=boxW_at wr f
     have hbb:=boxW_below wr f
     unfold boxW at hfb hbb
     obtain⟨fp,fq,fn,flo,fhi,fseq⟩:=f
     dsimp only at c0 c1 c2 c3 c4 c5 hfb hbb
     have hiL:(n:Int)<(L:Int):=by omega
     have hi0':(0:Int)≤(n:Int):=by omega
     clear hc hltx
     go_upto_region 5 with fail
     clear c0 c1 c2 c3 c4 c5
     generalize wr.alloc (.cells #[.string fp,.string fq,.int .i64 fn,.int .i64 flo,.int .i64 fhi,.int .i64 fseq] 43)=W5 at hfb hbb ⊢
     have hB5:Below w.heap.size w W5:=hb.trans (hbb.mono hb.size)
     have OW5:Hid (W5.ownsRow w.heap.size 43 6 u7 (kept (inP lo hi) fs n).length (flatF (kept (inP lo hi) fs n))):=own_below OW.out hbb
     obtain⟨z0,z1,z2,z3,z4,z5,-⟩:=hfb.cells
     dsimp only at z0 z1 z2 z3 z4 z5
     have hal:Below W5.heap.size W5 (W5.alloc (.cells #[.string fp,.string fq,.int .i64 fn,.int .i64 flo,.int .i64 fhi,.int .i64 fseq] 43)):=(Below.refl _ _).alloc (Nat.le_refl _) _
     have hbA:Below w.heap.size w (W5.alloc (.cells #[.string fp,.string fq,.int .i64 fn,.int .i64 flo,.int .i64 fhi,.int .i64 fseq] 43)):=hB5.alloc hB5.size _
     clear hfb hbb OW
     have split8:((flo<lo∧hi<fhi∧lo≤hi)∨(flo<lo∧hi<fhi∧¬lo≤hi))∨((flo<lo∧¬hi<fhi∧lo≤fhi)∨(flo<lo∧¬hi<fhi∧¬lo≤fhi))∨((¬flo<lo∧hi<fhi∧flo≤hi)∨(¬flo<lo∧hi<fhi∧¬flo≤hi))∨((¬flo<lo∧¬hi<fhi∧flo≤fhi)∨(¬flo<lo∧¬hi<fhi∧¬flo≤fhi)):=by omega
     rcases split8 with(hs8 | hs8) | (hs8 | hs8) | (hs8 | hs8) | (hs8 | hs8)<;>obtain ⟨q1,q2,q3⟩:=hs8
     · have HKE:Hid ((kept (inP lo hi) fs (n+1))=(kept (inP lo hi) fs n)++ [(fp,fq,fn,flo,fhi,fseq)]):=by
         show _=_
         rw[hke,if_pos (by simp[inP,q1,q2,q3])]
       clear hke
       go_wp2_with (at_builtin;refine wpList_append_own _ rfl _ _ 23 rfl w.heap.size 43 i0 (.agg #[.string ⟨#[]⟩,.string ⟨#[]⟩,.int .i64 0,.int .i64 0,.int .i64 0,.int .i64 0]) 6 64 Tryz.underlying23 hi0 hz0 hs0 hby0 rfl (by decide) u7 (kept (inP lo hi) fs n).length (flatF (kept (inP lo hi) fs n)) rfl ?qc0 ⟨W5.heap.size,0,none⟩ 1 1 (encF (fp,fq,fn,flo,fhi,fseq)) rfl ?qc1 ?qc2 ?qc3 ?qc4 ?qc5 ?qc6 ?_)
       case qc0=>exact own_below OW5.out hal
       case qc1=>rfl
       case qc2=>first | exact cells6 _ _ | exact fun j u hu=>hu
       case qc3=>exact encF_one _
       case qc4=>have:=HKL.out;unfold maxLen;omega
       case qc5=>have:=HKL.out;omega
       case qc6=>first | exact hbA.size | (have:=hB5.size;omega)
       intro v' w4 hown4 hgrow hnil
       have hbC:Below w.heap.size w w4:=hbA.grown hgrow hbA.size (fun k hk=>by
         rcases OW5.out.2 with⟨e,_⟩|⟨g',cap',cur,e,hg',_⟩
         · rw[e]at hk;simp[Value.ownBlock]at hk
         · rw[e]at hk;simp[Value.ownBlock]at hk;omega)
       have OW4:Hid (w4.ownsRow w.heap.size 43 6 v' ((kept (inP lo hi) fs n).length+1) (flatF (kept (inP lo hi) fs n)++encF (fp,fq,fn,flo,fhi,fseq))):=hown4
       clear hown4 hnil hgrow
       go_wp2
       go_roundw
       case rel=>exact ⟨n+1,by omega,by go_num,hbC,by rw[HKE.out,List.length_append,flatF_append];simpa [flatF] using OW4.out⟩
       case measure=>simp [intOf];omega
     · have HKE:Hid ((kept (inP lo hi) fs (n+1))=(kept (inP lo hi) fs n)):=by
         show _=_
         rw[hke,if_neg (by simp[inP,q1,q2,q3])]
       clear hke hal hbA
       go_wp2
       go_roundw
       case rel=>exact ⟨n+1,by omega,by go_num,hB5,by rw[HKE.out];exact OW5.out⟩
       case measure=>simp [intOf];omega
     · have HKE:Hid ((kept (inP lo hi) fs (n+1))=(kept (inP lo hi) fs n)++ [(fp,fq,fn,flo,fhi,fseq)]):=by
         show _=_
         rw[hke,if_pos (by simp[inP,q1,q2,q3])]
       clear hke
       go_wp2_with (at_builtin;refine wpList_append_own _ rfl _ _ 23 rfl w.heap.size 43 i0 (.agg #[.string ⟨#[]⟩,.string ⟨#[]⟩,.int .i64 0,.int .i64 0,.int .i64 0,.int .i64 0]) 6 64 Tryz.underlying23 hi0 hz0 hs0 hby0 rfl (by decide) u7 (kept (inP lo hi) fs n).length (flatF (kept (inP lo hi) fs n)) rfl ?qc0 ⟨W5.heap.size,0,none⟩ 1 1 (encF (fp,fq,fn,flo,fhi,fseq)) rfl ?qc1 ?qc2 ?qc3 ?qc4 ?qc5 ?qc6 ?_)
       case qc0=>exact own_below OW5.out hal
       case qc1=>rfl
       case qc2=>first | exact cells6 _ _ | exact fun j u hu=>hu
       case qc3=>exact encF_one _
       case qc4=>have:=HKL.out;unfold maxLen;omega
       case qc5=>have:=HKL.out;omega
       case qc6=>first | exact hbA.size | (have:=hB5.size;omega)
       intro v' w4 hown4 hgrow hnil
       have hbC:Below w.heap.size w w4:=hbA.grown hgrow hbA.size (fun k hk=>by
         rcases OW5.out.2 with⟨e,_⟩|⟨g',cap',cur,e,hg',_⟩
         · rw[e]at hk;simp[Value.ownBlock]at hk
         · rw[e]at hk;simp[Value.ownBlock]at hk;omega)
       have OW4:Hid (w4.ownsRow w.heap.size 43 6 v' ((kept (inP lo hi) fs n).length+1) (flatF (kept (inP lo hi) fs n)++encF (fp,fq,fn,flo,fhi,fseq))):=hown4
       clear hown4 hnil hgrow
       go_wp2
       go_roundw
       case rel=>exact ⟨n+1,by omega,by go_num,hbC,by rw[HKE.out,List.length_append,flatF_append];simpa [flatF] using OW4.out⟩
       case measure=>simp [intOf];omega
     · have HKE:Hid ((kept (inP lo hi) fs (n+1))=(kept (inP lo hi) fs n)):=by
         show _=_
         rw[hke,if_neg (by simp[inP,q1,q2,q3])]
       clear hke hal hbA
       go_wp2
       go_roundw
       case rel=>exact ⟨n+1,by omega,by go_num,hB5,by rw[HKE.out];exact OW5.out⟩
       case measure=>simp [intOf];omega
     · have HKE:Hid ((kept (inP lo hi) fs (n+1))=(kept (inP lo hi) fs n)++ [(fp,fq,fn,flo,fhi,fseq)]):=by
         show _=_
         rw[hke,if_pos (by simp[inP,q1,q2,q3])]
       clear hke
       go_wp2_with (at_builtin;refine wpList_append_own _ rfl _ _ 23 rfl w.heap.size 43 i0 (.agg #[.string ⟨#[]⟩,.string ⟨#[]⟩,.int .i64 0,.int .i64 0,.int .i64 0,.int .i64 0]) 6 64 Tryz.underlying23 hi0 hz0 hs0 hby0 rfl (by decide) u7 (kept (inP lo hi) fs n).length (flatF (kept (inP lo hi) fs n)) rfl ?qc0 ⟨W5.heap.size,0,none⟩ 1 1 (encF (fp,fq,fn,flo,fhi,fseq)) rfl ?qc1 ?qc2 ?qc3 ?qc4 ?qc5 ?qc6 ?_)
       case qc0=>exact own_below OW5.out hal
       case qc1=>rfl
       case qc2=>first | exact cells6 _ _ | exact fun j u hu=>hu
       case qc3=>exact encF_one _
       case qc4=>have:=HKL.out;unfold maxLen;omega
       case qc5=>have:=HKL.out;omega
       case qc6=>first | exact hbA.size | (have:=hB5.size;omega)
       intro v' w4 hown4 hgrow hnil
       have hbC:Below w.heap.size w w4:=hbA.grown hgrow hbA.size (fun k hk=>by
         rcases OW5.out.2 with⟨e,_⟩|⟨g',cap',cur,e,hg',_⟩
         · rw[e]at hk;simp[Value.ownBlock]at hk
         · rw[e]at hk;simp[Value.ownBlock]at hk;omega)
       have OW4:Hid (w4.ownsRow w.heap.size 43 6 v' ((kept (inP lo hi) fs n).length+1) (flatF (kept (inP lo hi) fs n)++encF (fp,fq,fn,flo,fhi,fseq))):=hown4
       clear hown4 hnil hgrow
       go_wp2
       go_roundw
       case rel=>exact ⟨n+1,by omega,by go_num,hbC,by rw[HKE.out,List.length_append,flatF_append];simpa [flatF] using OW4.out⟩
       case measure=>simp [intOf];omega
     · have HKE:Hid ((kept (inP lo hi) fs (n+1))=(kept (inP lo hi) fs n)):=by
         show _=_
         rw[hke,if_neg (by simp[inP,q1,q2,q3])]
       clear hke hal hbA
       go_wp2
       go_roundw
       case rel=>exact ⟨n+1,by omega,by go_num,hB5,by rw[HKE.out];exact OW5.out⟩
       case measure=>simp [intOf];omega
     · have HKE:Hid ((kept (inP lo hi) fs (n+1))=(kept (inP lo hi) fs n)++ [(fp,fq,fn,flo,fhi,fseq)]):=by
         show _=_
         rw[hke,if_pos (by simp[inP,q1,q2,q3])]
       clear hke
       go_wp2_with (at_builtin;refine wpList_append_own _ rfl _ _ 23 rfl w.heap.size 43 i0 (.agg #[.string ⟨#[]⟩,.string ⟨#[]⟩,.int .i64 0,.int .i64 0,.int .i64 0,.int .i64 0]) 6 64 Tryz.underlying23 hi0 hz0 hs0 hby0 rfl (by decide) u7 (kept (inP lo hi) fs n).length (flatF (kept (inP lo hi) fs n)) rfl ?qc0 ⟨W5.heap.size,0,none⟩ 1 1 (encF (fp,fq,fn,flo,fhi,fseq)) rfl ?qc1 ?qc2 ?qc3 ?qc4 ?qc5 ?qc6 ?_)
       case qc0=>exact own_below OW5.out hal
       case qc1=>rfl
       case qc2=>first | exact cells6 _ _ | exact fun j u hu=>hu
       case qc3=>exact encF_one _
       case qc4=>have:=HKL.out;unfold maxLen;omega
       case qc5=>have:=HKL.out;omega
       case qc6=>first | exact hbA.size | (have:=hB5.size;omega)
       intro v' w4 hown4 hgrow hnil
       have hbC:Below w.heap.size w w4:=hbA.grown hgrow hbA.size (fun k hk=>by
         rcases OW5.out.2 with⟨e,_⟩|⟨g',cap',cur,e,hg',_⟩
         · rw[e]at hk;simp[Value.ownBlock]at hk
         · rw[e]at hk;simp[Value.ownBlock]at hk;omega)
       have OW4:Hid (w4.ownsRow w.heap.size 43 6 v' ((kept (inP lo hi) fs n).length+1) (flatF (kept (inP lo hi) fs n)++encF (fp,fq,fn,flo,fhi,fseq))):=hown4
       clear hown4 hnil hgrow
       go_wp2
       go_roundw
       case rel=>exact ⟨n+1,by omega,by go_num,hbC,by rw[HKE.out,List.length_append,flatF_append];simpa [flatF] using OW4.out⟩
       case measure=>simp [intOf];omega
     · have HKE:Hid ((kept (inP lo hi) fs (n+1))=(kept (inP lo hi) fs n)):=by
         show _=_
         rw[hke,if_neg (by simp[inP,q1,q2,q3])]
       clear hke hal hbA
       go_wp2
       go_roundw
       case rel=>exact ⟨n+1,by omega,by go_num,hB5,by rw[HKE.out];exact OW5.out⟩
       case measure=>simp [intOf];omega
   · obtain rfl:n=L:=by omega
     have HKA:Hid (FlsAt wr u7 (fs.filter (inP lo hi))):=by
       have h':=(flsAt_of_own OW.out).1
       rw[←HX.out,kept_all]at h'
       exact h'
     go_wp2
     go_ret
     exact⟨_,rfl,HKA.out,hb⟩
set_option maxRecDepth 100000 in
set_option maxHeartbeats 1000000 in
theorem find1_any (f:Fl) (p:ByteArray) (pb:Nat) (w:World) (hp:w.cell? ⟨pb,0,none⟩=some (.string p)) :
   Calls Tryz.prog 103 #[flV f,.pointer (some ⟨pb,0,none⟩)] w fun e w'=>e= .returned (.bool (decide (f.1=p)))∧Below w.heap.size w w':=by
 have hal:Below w.heap.size w (w.alloc (.cells #[.string f.1,.string f.2.1,.int .i64 f.2.2.1,.int .i64 f.2.2.2.1,.int .i64 f.2.2.2.2.1,.int .i64 f.2.2.2.2.2] 43)):=(Below.refl _ _).alloc (Nat.le_refl _) _
 have z0:=(FlAt.new w f).cells.1
 have hp2:=below_keep hal hp
 unfold flV
 obtain⟨fp,fq,fn,flo,fhi,fseq⟩:=f
 dsimp only at hal z0 hp2 ⊢
 by_cases he:fp=p
 · subst he
   have d1:(fp.toList == fp.toList)=true:=by simp
   rw[decide_eq_true rfl]
   go_enter Tryz.func103,Tryz.ntmps103
   go_upto_region 1 with fail
   generalize w.alloc (.cells #[.string fp,.string fq,.int .i64 fn,.int .i64 flo,.int .i64 fhi,.int .i64 fseq] 43)=WA at hal z0 hp2 ⊢
   go_wp2
   go_ret
   exact⟨rfl,hal⟩
 · have d1:(fp.toList == p.toList)=false:=neBB (fun e=>he (part_ext e))
   rw[decide_eq_false he]
   go_enter Tryz.func103,Tryz.ntmps103
   go_upto_region 1 with fail
   generalize w.alloc (.cells #[.string fp,.string fq,.int .i64 fn,.int .i64 flo,.int .i64 fhi,.int .i64 fseq] 43)=WA at hal z0 hp2 ⊢
   go_wp2
   go_ret
   exact⟨rfl,hal⟩
set_option maxRecDepth 100000 in
set_option maxHeartbeats 4000000 in
theorem indexF_any (v:Value) (fs:List Fl) (p:ByteArray) (pb:Nat) (w:World) (hx:FlsAt w v fs) (hl:fs.length≤20000) (hp:w.cell? ⟨pb,0,none⟩=some (.string p)) :
   Calls Tryz.prog 102 #[v,.func (.func 103) #[] #[.pointer (some ⟨pb,0,none⟩)]] w fun e w'=>e= .returned (.int .i64 (findF fs p))∧Below w.heap.size w w':=by
 have eg:∀args w,(callFunc 103 args).run Tryz.prog w= .ok (.enter 103 args) w:=enters_of Tryz.func103 (by kernel_rfl) rfl
 obtain⟨q,cap,rfl⟩:=hx.form
 have HFX:Hid (FlsAt w (.slice q fs.length cap) fs):=hx
 have HP:Hid (∀W,Below w.heap.size w W→W.cell? ⟨pb,0,none⟩=some (.string p)):=fun W hb=>below_keep hb hp
 obtain⟨L,hL⟩:∃L,fs.length=L:=⟨_,rfl⟩
 have HX:Hid (fs.length=L):=hL
 rw[hL]at hl ⊢
 generalize hR:findF fs p=R
 have HR:Hid (findF fs p=R):=hR
 clear hL hx hR hp
 go_enter Tryz.func102,Tryz.ntmps102
 go_wp2
 go_loopw [8] (fun k wr=> ∃n:Nat,n≤L∧k= .int .i64 n∧(∀j (h:j<fs.length),j<n→fs[j].1≠p)∧Below w.heap.size w wr) (fun k _=>L-(intOf k).toNat)
 case atStart=>exact ⟨0,by omega,rfl,fun j h h'=>absurd h' (Nat.not_lt_zero _),Below.refl _ _⟩
 case round =>
   obtain⟨n,hn,rfl,hno,hb⟩:=hrel
   have HNO:Hid (∀j (h:j<fs.length),j<n→fs[j].1≠p):=hno
   clear hno
   by_cases hlt:n<L
   · have hltx:n<fs.length:=by rw[HX.out];exact hlt
     obtain⟨b,o,hq,hc⟩:=(HFX.out.below hb).cells (fun e=>by rw[e]at hltx;simp at hltx)
     subst hq
     obtain⟨c0,c1,c2,c3,c4,c5⟩:=hc n hltx
     have hcl:=find1_any fs[n] p pb wr (HP.out wr hb)
     have hi:(n:Int)<(L:Int):=by omega
     have hi0':(0:Int)≤(n:Int):=by omega
     by_cases he:fs[n].1=p
     · have hRR:R=n:=by rw[←HR.out];exact findF_at hltx HNO.out he
       subst hRR
       rw[decide_eq_true he]at hcl
       unfold flV at hcl
       clear hc he
       generalize fs[n]=f at c0 c1 c2 c3 c4 c5 hcl
       clear hltx
       obtain⟨fp,fq,fn,flo,fhi,fseq⟩:=f
       dsimp only at c0 c1 c2 c3 c4 c5 hcl
       go_wp2_with (go_at_fn 103;refine hcl.mono ?_;rintro e w2 ⟨rfl,hb2⟩)
       go_ret
       exact⟨rfl,hb.trans (hb2.mono hb.size)⟩
     · have HN1:Hid (∀j (h:j<fs.length),j<n+1→fs[j].1≠p):=nopath_succ HNO.out hltx he
       rw[decide_eq_false he]at hcl
       unfold flV at hcl
       clear hc he
       generalize fs[n]=f at c0 c1 c2 c3 c4 c5 hcl
       clear hltx
       obtain⟨fp,fq,fn,flo,fhi,fseq⟩:=f
       dsimp only at c0 c1 c2 c3 c4 c5 hcl
       go_wp2_with (go_at_fn 103;refine hcl.mono ?_;rintro e w2 ⟨rfl,hb2⟩)
       have hb3:Below w.heap.size w w2:=hb.trans (hb2.mono hb.size)
       go_roundw
       case rel=>exact ⟨n+1,by omega,by go_num,HN1.out,hb3⟩
       case measure=>simp [intOf];omega
   · obtain rfl:n=L:=by omega
     have hRR:R= -1:=by rw[←HR.out];exact findF_no (fun j hj=>HNO.out j hj (by rw[←HX.out];exact hj))
     subst hRR
     go_wp2
     go_ret
     exact⟨rfl,hb⟩
set_option maxRecDepth 100000 in
set_option maxHeartbeats 1000000 in
theorem find_any (v:Value) (fs:List Fl) (p:ByteArray) (w:World) (hx:FlsAt w v fs) (hl:fs.length≤20000) :
   Calls Tryz.prog 49 #[v,.string p] w fun e w'=>e= .returned (.int .i64 (findF fs p))∧Below w.heap.size w w':=by
 have hal:Below w.heap.size w (w.alloc (.cells #[.string p] 9)):=(Below.refl _ _).alloc (Nat.le_refl _) _
 have hix:=indexF_any v fs p w.heap.size (w.alloc (.cells #[.string p] 9)) (hx.below hal) hl (by simp)
 obtain⟨q,cap,rfl⟩:=hx.form
 generalize fs.length=L at hix ⊢
 clear hx
 go_enter Tryz.func49,Tryz.ntmps49
 go_wp2_with fail
 refine hix.mono ?_
 rintro e w1 ⟨rfl,hb1⟩
 clear hix
 go_wp2
 go_ret
 exact⟨rfl,hal.trans (hb1.mono hal.size)⟩
end Go.Proofs.YtgckdomafbnmkaaGreatDoor
