/- By an AI agent. -/
import Derived.Test.YtdhkdjlgmbejnaaGreatDoorFileOf
import Derived.Test.YtdhkdjlgmbejnaaGreatDoorRefStore2
namespace Go.Proofs.YtdhkdjlgmbejnaaGreatDoor
open Go.RowKit Go.Extern.Stop Go.Stop Go.Extern Go.Sort Go.Shelf Go.Lib
theorem fkeys_any (g:Bool) (s:ByteArray) (w:World) (a:Nat→Addr) (h:EnvD w a) (hs:s.size≤maxLen) :
   Calls Tryz.prog 120 #[.string (bytesOf (kindL g)),.string s] w fun e w'=>FKPost w a (keysF g s.data.toList) e w':=by
 cases g
 · exact fkeys_data s w a h hs
 · exact fkeys_gone s w a h.weak hs
theorem bare_any (E:Nat) (ev:Value) (w:World) (a:Nat→Addr) (h:Hand w) (hv:ev=errV a (E+1)∨∃fb,ev= .iface 92 (.pointer (some ⟨fb,0,none⟩))∧w.cell? ⟨fb,1,none⟩=some (errV a (E+1))) :
   Calls Tryz.prog 121 #[ev] w fun e w'=>e= .returned (errV a (E+1))∧Below w.heap.size w w':=by
 rcases hv with rfl | ⟨fb,rfl,hc⟩
 · exact bare_err E w a h
 · exact bare_fault fb E w a h hc
theorem minmax_any (b o cap:Nat) (zs:List Int) (w:World) (hne:zs≠ []) (hl:zs.length≤100000) (hc:∀j (h:j<zs.length),w.cell? ⟨b,o+j,none⟩=some (.int .i64 zs[j])) :
   Calls Tryz.prog 122 #[.slice (some ⟨b,o,none⟩) zs.length cap] w (fun e w'=>e= .returned (.int .i64 (endsZ zs).1)∧w'=w) ∧
   Calls Tryz.prog 123 #[.slice (some ⟨b,o,none⟩) zs.length cap] w (fun e w'=>e= .returned (.int .i64 (endsZ zs).2)∧w'=w):=by
 have hp:0<zs.length:=List.length_pos_iff.2 hne
 have hc':∀j,j<zs.length→w.cell? ⟨b,o+j,none⟩=some (.int .i64 (zs.getD j 0)):=fun j hj=>by
   rw[hc j hj];simp[List.getD,hj]
 have h1:=Tryz.slices_Min_int b o zs.length cap zs w hp (Nat.le_refl _) (by omega) hc'
 have h2:=Tryz.slices_Max_int b o zs.length cap zs w hp (Nat.le_refl _) (by omega) hc'
 rw[List.take_length,(min_ends hne).1]at h1
 rw[List.take_length,(min_ends hne).2]at h2
 exact⟨h1,h2⟩
theorem ofF_none {p q:ByteArray} {s:List UInt8} {seq:Int} (h:pathO p.data.toList=none):ofF p q s seq=(zeroF,5):=by unfold ofF;rw[h]
theorem ofF_some {p q:ByteArray} {s:List UInt8} {seq:Int} {g:Bool} {n:Int} (h:pathO p.data.toList=some (g,n)):ofF p q s seq=if (keysF g s).2=0 then chkF (p,q,(keysF g s).1.length,(endsZ (keysF g s).1).1,(endsZ (keysF g s).1).2,seq) else (zeroF,(keysF g s).2):=by unfold ofF;rw[h]
theorem goneO_le (s:List UInt8):(goneO s).1.length≤40:=(readG_le goneK (fun l=>by
 show (keyO l).2≤12
 unfold keyO
 split
 · exact(by decide:(1:Nat)≤12)
 · split
   · exact Nat.zero_le _
   · exact(by decide:(2:Nat)≤12)) s).2
theorem keysF_len (g:Bool) (s:List UInt8):(keysF g s).1.length≤40:=by
 cases g
 · show (keysR (dataO s).1).length≤40
   rw[keysR_len]
   exact(readG_le dataK rd_le s).2
 · exact goneO_le s
set_option maxRecDepth 100000 in
set_option maxHeartbeats 8000000 in
theorem fof_any (p q s:ByteArray) (seq:Int) (w:World) (a:Nat→Addr) (h:EnvF w a) (hEr:∀g n,pathO p.data.toList=some (g,n)→(keysF g s.data.toList).2≠0→Hand w) (h1:p.size≤100000) (h2:q.size≤100000) (hs:s.size≤maxLen) :
   Calls Tryz.prog 67 #[.string p,.string q,.string s,.int .i64 seq] w fun e w'=>e= .returned (.tuple #[flV (ofF p q s.data.toList seq).1,errV a (ofF p q s.data.toList seq).2])∧Below w.heap.size w w':=by
 have hal:Below w.heap.size w (w.alloc (.cells #[.string ⟨#[]⟩,.string ⟨#[]⟩,.int .i64 0,.int .i64 0,.int .i64 0,.int .i64 0] 63)):=(Below.refl _ _).alloc (Nat.le_refl _) _
 have hfz:FlAt (w.alloc (.cells #[.string ⟨#[]⟩,.string ⟨#[]⟩,.int .i64 0,.int .i64 0,.int .i64 0,.int .i64 0] 63)) w.heap.size zeroF:=FlAt.new w zeroF
 have hnm:=fnumber_any p _ a (h.below hal).data.env h1
 generalize hR:ofF p q s.data.toList seq=R
 have HR:Hid (ofF p q s.data.toList seq=R):=hR
 clear hR
 have zero:∀W,FlAt W w.heap.size zeroF→(W.cell? ⟨w.heap.size,0,none⟩=some (.string ⟨#[]⟩)∧W.cell? ⟨w.heap.size,1,none⟩=some (.string ⟨#[]⟩)∧W.cell? ⟨w.heap.size,2,none⟩=some (.int .i64 0)∧W.cell? ⟨w.heap.size,3,none⟩=some (.int .i64 0)∧W.cell? ⟨w.heap.size,4,none⟩=some (.int .i64 0)∧W.cell? ⟨w.heap.size,5,none⟩=some (.int .i64 0)∧∀o,W.frozen? ⟨w.heap.size,o,none⟩=false):=fun W hW=>hW.cells
 have ZERO:Hid (∀W,FlAt W w.heap.size zeroF→(W.cell? ⟨w.heap.size,0,none⟩=some (.string ⟨#[]⟩)∧W.cell? ⟨w.heap.size,1,none⟩=some (.string ⟨#[]⟩)∧W.cell? ⟨w.heap.size,2,none⟩=some (.int .i64 0)∧W.cell? ⟨w.heap.size,3,none⟩=some (.int .i64 0)∧W.cell? ⟨w.heap.size,4,none⟩=some (.int .i64 0)∧W.cell? ⟨w.heap.size,5,none⟩=some (.int .i64 0)∧∀o,W.frozen? ⟨w.heap.size,o,none⟩=false)):=zero
 clear zero
 go_enter Tryz.func67,Tryz.ntmps67
 go_wp2_with fail
 generalize w.alloc (.cells #[.string ⟨#[]⟩,.string ⟨#[]⟩,.int .i64 0,.int .i64 0,.int .i64 0,.int .i64 0] 63)=WA at hal hfz hnm ⊢
 refine hnm.mono ?_
 rintro e w1 ⟨rfl,hb1⟩
 clear hnm
 have hB1:Below w.heap.size w w1:=hal.trans (hb1.mono hal.size)
 have hfz1:=hfz.below hb1
 have HF1:Hid (FlAt w1 w.heap.size zeroF):=hfz1
 clear hfz hb1 hal hfz1
 cases hp:pathO p.data.toList with
 | none =>
   have hRR:=HR.out
   rw[ofF_none hp]at hRR
   subst hRR
   rw[pathR_none hp]
   simp only[errV,bytesOf]
   obtain⟨y0,y1,y2,y3,y4,y5,yf⟩:=ZERO.out w1 HF1.out
   have s0:=setCell_self y0
   have s1:=setCell_self y1
   have s2:=setCell_self y2
   have s3:=setCell_self y3
   have s4:=setCell_self y4
   have s5:=setCell_self y5
   clear hp
   go_wp2
   exact bodyPost_ret (v:=.tuple #[.agg #[.string ⟨#[]⟩,.string ⟨#[]⟩,.int .i64 0,.int .i64 0,.int .i64 0,.int .i64 0],.iface 327 (.pointer (some (a 4)))]) (by simp[results,Tryz.results67,go_sem,y0,y1,y2,y3,y4,y5]) rfl ⟨rfl,hB1⟩
 | some gn =>
   obtain⟨g,k⟩:=gn
   have hRR:=HR.out
   rw[ofF_some hp]at hRR
   rw[pathR_some hp]
   have hkf:=fkeys_any g s w1 a (h.below hB1).data hs
   have hkl:=keysF_len g s.data.toList
   have hEr2:=hEr g k hp
   clear hEr hp
   simp only[errV]
   generalize keysF g s.data.toList=K at hRR hkf hkl hEr2
   obtain⟨zs,E⟩:=K
   dsimp only at hRR hkl hEr2
   go_wp2_with fail
   refine hkf.mono ?_
   rintro e w2 ⟨hb2,hres⟩
   clear hkf
   have hB2:Below w.heap.size w w2:=hB1.trans (hb2.mono hB1.size)
   have HF2:Hid (FlAt w2 w.heap.size zeroF):=HF1.out.below hb2
   dsimp only at hres
   rcases hres with⟨h0,v,rfl,hv⟩|⟨h0,ev,rfl,hev⟩
   · rw [if_pos h0]at hRR
     obtain⟨L,hL⟩:∃L,zs.length=L:=⟨_,rfl⟩
     have HL:Hid (zs.length=L):=hL
     obtain⟨vq,vc,rfl⟩:=hv.form
     rw[hL]at hRR hkl ⊢
     clear h0 hEr2 hL
     have hba:Below w2.heap.size w2 (w2.alloc (.cells #[.string p,.string q,.int .i64 L,.int .i64 0,.int .i64 0,.int .i64 seq] 63)):=(Below.refl _ _).alloc (Nat.le_refl _) _
     have hfA:=FlAt.new w2 (p,q,(L:Int),0,0,seq)
     have hzA:=HF2.out.below hba
     dsimp only at hfA
     have hBA:Below w.heap.size w (w2.alloc (.cells #[.string p,.string q,.int .i64 L,.int .i64 0,.int .i64 0,.int .i64 seq] 63)):=hB2.trans (hba.mono hB2.size)
     by_cases hz:zs= []
     · subst hz
       have hL0:L=0:=by rw[←HL.out];rfl
       subst hL0
       have e0:endsZ []=(0,0):=rfl
       rw[e0]at hRR
       dsimp only at hRR
       have hck:=checked_any (p,q,((0:Nat):Int),0,0,seq) _ a (h.below hBA).lean h1 h2
       rw[hRR]at hck
       unfold flV at hck
       dsimp only at hck
       obtain⟨x0,x1,x2,x3,x4,x5,_⟩:=hfA.cells
       dsimp only at x0 x1 x2 x3 x4 x5
       obtain⟨⟨rp,rq,rn,rlo,rhi,rseq⟩,rE⟩:=R
       dsimp only at hck
       have HZA:Hid (FlAt (w2.alloc (.cells #[.string p,.string q,.int .i64 ((0:Nat):Int),.int .i64 0,.int .i64 0,.int .i64 seq] 63)) w.heap.size zeroF):=hzA
       clear hRR hv hba hfA hzA HL hkl e0
       go_wp2_with fail
       generalize w2.alloc (.cells #[.string p,.string q,.int .i64 ((0:Nat):Int),.int .i64 0,.int .i64 0,.int .i64 seq] 63)=WF at hck hBA x0 x1 x2 x3 x4 x5 HZA ⊢
       refine hck.mono ?_
       rintro e w5 ⟨rfl,hb5⟩
       clear hck x0 x1 x2 x3 x4 x5
       have hB5:Below w.heap.size w w5:=hBA.trans (hb5.mono hBA.size)
       have hz5:=HZA.out.below hb5
       obtain⟨y0,y1,y2,y3,y4,y5,yf⟩:=ZERO.out w5 hz5
       obtain⟨z0,z1,z2,z3,z4,z5,_⟩:=(hz5.set (rp,rq,rn,rlo,rhi,rseq)).cells
       have hB6:=flSet_below (f:=(rp,rq,rn,rlo,rhi,rseq)) hB5 (Nat.le_refl w.heap.size)
       unfold flSet at z0 z1 z2 z3 z4 z5 hB6
       dsimp only at z0 z1 z2 z3 z4 z5 hB6
       clear hz5
       go_wp2
       exact bodyPost_ret (v:=.tuple #[.agg #[.string rp,.string rq,.int .i64 rn,.int .i64 rlo,.int .i64 rhi,.int .i64 rseq],errV a rE]) (by simp[results,Tryz.results67,go_sem,z0,z1,z2,z3,z4,z5]) rfl ⟨rfl,hB6⟩
     · have hLp:0<L:=by rw[←HL.out];exact List.length_pos_iff.2 hz
       obtain⟨b,o,cap,hve,hc⟩:∃b o cap,Value.slice vq zs.length vc= .slice (some ⟨b,o,none⟩) zs.length cap∧∀j (h:j<zs.length),w2.cell? ⟨b,o+j,none⟩=some (.int .i64 zs[j]):=by
         rcases hv with⟨_,_,_,e⟩ | hv
         · exact absurd e hz
         · exact hv
       simp only[Value.slice.injEq,true_and]at hve
       obtain⟨rfl,rfl⟩:=hve
       obtain⟨hmi,hma⟩:=minmax_any b o vc zs (w2.alloc (.cells #[.string p,.string q,.int .i64 L,.int .i64 0,.int .i64 0,.int .i64 seq] 63)) hz (by rw[HL.out];omega) (fun j hj=>below_keep hba (hc j hj))
       rw[HL.out]at hmi hma
       generalize (endsZ zs).1=lo at hmi hRR
       generalize (endsZ zs).2=hi at hma hRR
       have hi0:(0:Int)<(L:Int):=by omega
       obtain⟨x0,x1,x2,x3,x4,x5,xf⟩:=hfA.cells
       dsimp only at x0 x1 x2 x3 x4 x5
       have hfB:=FlAt.new w2 (p,q,(L:Int),lo,hi,seq)
       dsimp only at hfB
       have hbb:Below w2.heap.size w2 (w2.alloc (.cells #[.string p,.string q,.int .i64 L,.int .i64 lo,.int .i64 hi,.int .i64 seq] 63)):=(Below.refl _ _).alloc (Nat.le_refl _) _
       have hzB:=HF2.out.below hbb
       have hBB:Below w.heap.size w (w2.alloc (.cells #[.string p,.string q,.int .i64 L,.int .i64 lo,.int .i64 hi,.int .i64 seq] 63)):=hB2.trans (hbb.mono hB2.size)
       have hck:=checked_any (p,q,(L:Int),lo,hi,seq) _ a (h.below hBB).lean h1 h2
       rw[hRR]at hck
       unfold flV at hck
       dsimp only at hck
       obtain⟨g0,g1,g2,g3,g4,g5,_⟩:=hfB.cells
       dsimp only at g0 g1 g2 g3 g4 g5
       obtain⟨⟨rp,rq,rn,rlo,rhi,rseq⟩,rE⟩:=R
       dsimp only at hck
       have HZB:Hid (FlAt (w2.alloc (.cells #[.string p,.string q,.int .i64 L,.int .i64 lo,.int .i64 hi,.int .i64 seq] 63)) w.heap.size zeroF):=hzB
       clear hRR hv hba hfA hzA hfB hzB hkl hc hz hbb
       go_wp2_with fail
       refine hmi.mono ?_
       rintro e w3 ⟨rfl,hw3⟩
       rw[hw3]
       clear hmi hw3
       go_wp2_with fail
       refine hma.mono ?_
       rintro e w4 ⟨rfl,hw4⟩
       rw[hw4]
       clear hma hw4
       go_wp2_with fail
       refine hck.mono ?_
       rintro e w5 ⟨rfl,hb5⟩
       have hB5:Below w.heap.size w w5:=hBB.trans (hb5.mono hBB.size)
       have hz5:=HZB.out.below hb5
       clear hck x0 x1 x2 x3 x4 x5 g0 g1 g2 g3 g4 g5 HZB
       obtain⟨y0,y1,y2,y3,y4,y5,yf⟩:=ZERO.out w5 hz5
       obtain⟨z0,z1,z2,z3,z4,z5,_⟩:=(hz5.set (rp,rq,rn,rlo,rhi,rseq)).cells
       have hB6:=flSet_below (f:=(rp,rq,rn,rlo,rhi,rseq)) hB5 (Nat.le_refl w.heap.size)
       unfold flSet at z0 z1 z2 z3 z4 z5 hB6
       dsimp only at z0 z1 z2 z3 z4 z5 hB6
       clear hz5 hb5
       go_wp2
       exact bodyPost_ret (v:=.tuple #[.agg #[.string rp,.string rq,.int .i64 rn,.int .i64 rlo,.int .i64 rhi,.int .i64 rseq],errV a rE]) (by simp[results,Tryz.results67,go_sem,z0,z1,z2,z3,z4,z5]) rfl ⟨rfl,hB6⟩
   · rw[if_neg h0]at hRR
     subst hRR
     obtain⟨j,rfl⟩:∃j,E=j+1:=⟨E-1,by omega⟩
     have hbr:=bare_any j ev w2 a ((hEr2 h0).below hB2) hev
     have hnil:∃ty pv,ev= .iface ty pv:=by
       rcases hev with rfl | ⟨fb,rfl,_⟩
       · exact⟨_,_,rfl⟩
       · exact⟨_,_,rfl⟩
     obtain⟨ty,pv,rfl⟩:=hnil
     simp only[errV,bytesOf]at hbr ⊢
     clear hEr2 hev h0
     go_wp2_with fail
     refine hbr.mono ?_
     rintro e w3 ⟨rfl,hb3⟩
     clear hbr
     have hB3:Below w.heap.size w w3:=hB2.trans (hb3.mono hB2.size)
     obtain⟨y0,y1,y2,y3,y4,y5,yf⟩:=ZERO.out w3 (HF2.out.below hb3)
     have s0:=setCell_self y0
     have s1:=setCell_self y1
     have s2:=setCell_self y2
     have s3:=setCell_self y3
     have s4:=setCell_self y4
     have s5:=setCell_self y5
     go_wp2
     exact bodyPost_ret (v:=.tuple #[.agg #[.string ⟨#[]⟩,.string ⟨#[]⟩,.int .i64 0,.int .i64 0,.int .i64 0,.int .i64 0],.iface 327 (.pointer (some (a j)))]) (by simp[results,Tryz.results67,go_sem,y0,y1,y2,y3,y4,y5]) rfl ⟨rfl,hB3⟩
set_option maxRecDepth 100000 in
set_option maxHeartbeats 8000000 in
theorem ofText_any (p q s:ByteArray) (seq:Int) (w:World) (h1:p.size≤100000) (h2:q.size≤100000) (hs:s.size≤maxLen) :
   Calls Tryz.prog 35 #[.string p,.string q,.string s,.int .i64 seq] w fun e w'=>e= .returned (.tuple #[flV (ofF p q s.data.toList seq).1,.int .i64 (ofF p q s.data.toList seq).2])∧Below w.heap.size w w':=by
 have hal:Below w.heap.size w (w.alloc (.cells #[.string ⟨#[]⟩,.string ⟨#[]⟩,.int .i64 0,.int .i64 0,.int .i64 0,.int .i64 0] 63)):=(Below.refl _ _).alloc (Nat.le_refl _) _
 have hfz:FlAt (w.alloc (.cells #[.string ⟨#[]⟩,.string ⟨#[]⟩,.int .i64 0,.int .i64 0,.int .i64 0,.int .i64 0] 63)) w.heap.size zeroF:=FlAt.new w zeroF
 have hnm:=pathOf_any p (w.alloc (.cells #[.string ⟨#[]⟩,.string ⟨#[]⟩,.int .i64 0,.int .i64 0,.int .i64 0,.int .i64 0] 63)) h1
 generalize hR:ofF p q s.data.toList seq=R
 have HR:Hid (ofF p q s.data.toList seq=R):=hR
 clear hR
 have ZERO:Hid (∀W,FlAt W w.heap.size zeroF→(W.cell? ⟨w.heap.size,0,none⟩=some (.string ⟨#[]⟩)∧W.cell? ⟨w.heap.size,1,none⟩=some (.string ⟨#[]⟩)∧W.cell? ⟨w.heap.size,2,none⟩=some (.int .i64 0)∧W.cell? ⟨w.heap.size,3,none⟩=some (.int .i64 0)∧W.cell? ⟨w.heap.size,4,none⟩=some (.int .i64 0)∧W.cell? ⟨w.heap.size,5,none⟩=some (.int .i64 0)∧∀o,W.frozen? ⟨w.heap.size,o,none⟩=false)):=fun W hW=>hW.cells
 have hfe:=fun (L:Nat) (lo hi:Int) W=>fileError_any (p,q,(L:Int),lo,hi,seq) W h1 h2
 unfold flV at hfe
 dsimp only at hfe
 go_enter Tryz.func35,Tryz.ntmps35
 go_wp2_with fail
 generalize w.alloc (.cells #[.string ⟨#[]⟩,.string ⟨#[]⟩,.int .i64 0,.int .i64 0,.int .i64 0,.int .i64 0] 63)=WA at hal hfz hnm ⊢
 refine hnm.mono ?_
 rintro e w1 ⟨rfl,hw1⟩
 rw[hw1]
 clear hnm hw1
 have HF1:Hid (FlAt WA w.heap.size zeroF):=hfz
 clear hfz
 cases hp:pathO p.data.toList with
 | none =>
   have hRR:=HR.out
   rw[ofF_none hp]at hRR
   subst hRR
   rw[pathR_none hp]
   obtain⟨y0,y1,y2,y3,y4,y5,yf⟩:=ZERO.out WA HF1.out
   have s0:=setCell_self y0
   have s1:=setCell_self y1
   have s2:=setCell_self y2
   have s3:=setCell_self y3
   have s4:=setCell_self y4
   have s5:=setCell_self y5
   clear hp hfe
   go_wp2
   exact bodyPost_ret (v:=.tuple #[.agg #[.string ⟨#[]⟩,.string ⟨#[]⟩,.int .i64 0,.int .i64 0,.int .i64 0,.int .i64 0],.int .i64 5]) (by simp[results,Tryz.results35,go_sem,y0,y1,y2,y3,y4,y5]) rfl ⟨rfl,hal⟩
 | some gn =>
   obtain⟨g,k⟩:=gn
   have hRR:=HR.out
   rw[ofF_some hp]at hRR
   rw[pathR_some hp]
   have hkl:=keysF_len g s.data.toList
   have hkd:(bytesOf (kindL g)).data.toList=kindL g:=bytes_data _
   clear hp HR
   cases g
   · have d1:=eqB_of (s:=bytesOf (kindL false)) (l:= [100,97,116,97]) (by rw[hkd];rfl)
     have hrd:=readData_any s WA hs
     have eK:keysF false s.data.toList=(keysR (dataO s.data.toList).1,(dataO s.data.toList).2.1):=rfl
     rw[eK]at hRR hkl
     generalize bytesOf (kindL false)=kB at d1 ⊢
     generalize dataO s.data.toList=Dt at hrd hRR hkl
     obtain⟨xs,E,pl⟩:=Dt
     dsimp only at hRR hkl
     have HRR:Hid ((if E=0 then chkF (p,q,(keysR xs).length,(endsZ (keysR xs)).1,(endsZ (keysR xs)).2,seq) else (zeroF,E))=R):=hRR
     clear hkd eK hRR
     go_wp2_with fail
     refine hrd.mono ?_
     rintro e w2 ⟨hb2,hres⟩
     clear hrd
     have hB2:Below w.heap.size w w2:=hal.trans (hb2.mono hal.size)
     have HF2:Hid (FlAt w2 w.heap.size zeroF):=HF1.out.below hb2
     dsimp only at hres
     clear hb2 hal
     rcases hres with⟨h0,v,rfl,hv⟩|⟨h0,j,rfl,_,_⟩
     · have HX:Hid (chkF (p,q,(keysR xs).length,(endsZ (keysR xs)).1,(endsZ (keysR xs)).2,seq)=R):=by
         show _=_
         rw[←HRR.out,if_pos h0]
       have hba:Below w2.heap.size w2 (w2.alloc (.cells #[.int .i64 0,.int .i64 (-1)] 46)):=(Below.refl _ _).alloc (Nat.le_refl _) _
       have hBA:Below w.heap.size w (w2.alloc (.cells #[.int .i64 0,.int .i64 (-1)] 46)):=hB2.trans (hba.mono hB2.size)
       have hko:=keysOf_any v xs _ (hv.below hba) (by rw[keysR_len]at hkl;omega)
       have HFA:Hid (FlAt (w2.alloc (.cells #[.int .i64 0,.int .i64 (-1)] 46)) w.heap.size zeroF):=HF2.out.below hba
       clear hv hba HRR h0
       go_wp2_with fail
       generalize w2.alloc (.cells #[.int .i64 0,.int .i64 (-1)] 46)=WB at hko hBA HFA ⊢
       refine hko.mono ?_
       rintro e w3 ⟨kv,rfl,hk3,hb3⟩
       clear hko
       have hB3:Below w.heap.size w w3:=hBA.trans (hb3.mono hBA.size)
       have HF3:Hid (FlAt w3 w.heap.size zeroF):=HFA.out.below hb3
       generalize keysR xs=zs at hk3 HX hkl
       clear hb3 hBA HFA
       go_wp2_with fail
       have hen:=ends_any kv zs w3 hk3 (by unfold maxLen;omega)
       obtain⟨q3,c3,rfl⟩:=hk3.form
       have HX2:Hid (R=if fileE (p,q,(zs.length:Int),(endsZ zs).1,(endsZ zs).2,seq)=0 then ((p,q,(zs.length:Int),(endsZ zs).1,(endsZ zs).2,seq),0) else (zeroF,fileE (p,q,(zs.length:Int),(endsZ zs).1,(endsZ zs).2,seq))):=HX.out.symm
       clear HX hk3
       generalize (endsZ zs).1=lo at hen HX2
       generalize (endsZ zs).2=hi at hen HX2
       generalize zs.length=L at hen HX2 hkl ⊢
       have hbf:Below w3.heap.size w3 (w3.alloc (.cells #[.string p,.string q,.int .i64 L,.int .i64 lo,.int .i64 hi,.int .i64 seq] 63)):=(Below.refl _ _).alloc (Nat.le_refl _) _
       have hfB:=FlAt.new w3 (p,q,(L:Int),lo,hi,seq)
       dsimp only at hfB
       have hzF:=HF3.out.below hbf
       have hBF:Below w.heap.size w (w3.alloc (.cells #[.string p,.string q,.int .i64 L,.int .i64 lo,.int .i64 hi,.int .i64 seq] 63)):=hB3.trans (hbf.mono hB3.size)
       have hf4:=hfe L lo hi (w3.alloc (.cells #[.string p,.string q,.int .i64 L,.int .i64 lo,.int .i64 hi,.int .i64 seq] 63))
       refine hen.mono ?_
       rintro e w4 ⟨rfl,hw4⟩
       rw[hw4]
       clear hw4 hen hfe hbf
       go_wp2_with fail
       generalize w3.alloc (.cells #[.string p,.string q,.int .i64 L,.int .i64 lo,.int .i64 hi,.int .i64 seq] 63)=WF at hf4 hBF hzF hfB ⊢
       generalize w3.heap.size=BF at hfB ⊢
       refine hf4.mono ?_
       rintro e w5 ⟨rfl,hb5⟩
       clear hf4
       have hB5:Below w.heap.size w w5:=hBF.trans (hb5.mono hBF.size)
       have hz5:=hzF.below hb5
       have HZ5:Hid (FlAt w5 w.heap.size zeroF):=hz5
       obtain⟨x0,x1,x2,x3,x4,x5,_⟩:=(hfB.below hb5).cells
       dsimp only at x0 x1 x2 x3 x4 x5
       clear hfB hzF hb5 hz5
       have hX3:=HX2.out
       clear HX2
       generalize hfE:fileE (p,q,(L:Int),lo,hi,seq)=Ef at hX3 ⊢
       clear hfE
       obtain⟨y0,y1,y2,y3,y4,y5,yf⟩:=ZERO.out w5 HZ5.out
       by_cases he:Ef=0
       · rw[if_pos he]at hX3
         subst hX3
         subst he
         obtain⟨z0,z1,z2,z3,z4,z5,_⟩:=(HZ5.out.set (p,q,(L:Int),lo,hi,seq)).cells
         have hB6:=flSet_below (f:=(p,q,(L:Int),lo,hi,seq)) hB5 (Nat.le_refl w.heap.size)
         unfold flSet at z0 z1 z2 z3 z4 z5 hB6
         dsimp only at z0 z1 z2 z3 z4 z5 hB6
         go_wp2
         exact bodyPost_ret (v:=.tuple #[.agg #[.string p,.string q,.int .i64 L,.int .i64 lo,.int .i64 hi,.int .i64 seq],.int .i64 0]) (by simp[results,Tryz.results35,go_sem,z0,z1,z2,z3,z4,z5]) rfl ⟨rfl,hB6⟩
       · rw[if_neg he]at hX3
         subst hX3
         have hEp:(0:Int)<(Ef:Int):=by omega
         have s0:=setCell_self y0
         have s1:=setCell_self y1
         have s2:=setCell_self y2
         have s3:=setCell_self y3
         have s4:=setCell_self y4
         have s5:=setCell_self y5
         clear he x0 x1 x2 x3 x4 x5
         go_wp2
         exact bodyPost_ret (v:=.tuple #[.agg #[.string ⟨#[]⟩,.string ⟨#[]⟩,.int .i64 0,.int .i64 0,.int .i64 0,.int .i64 0],.int .i64 Ef]) (by simp[results,Tryz.results35,go_sem,y0,y1,y2,y3,y4,y5]) rfl ⟨rfl,hB5⟩
     · have hX:R=(zeroF,E):=by
         rw[←HRR.out,if_neg h0]
       subst hX
       have hEp:(0:Int)<(E:Int):=by omega
       have hba:Below w2.heap.size w2 (w2.alloc (.cells #[.int .i64 E,.int .i64 j] 46)):=(Below.refl _ _).alloc (Nat.le_refl _) _
       have hBA:Below w.heap.size w (w2.alloc (.cells #[.int .i64 E,.int .i64 j] 46)):=hB2.trans (hba.mono hB2.size)
       have hFC:FC (w2.alloc (.cells #[.int .i64 E,.int .i64 j] 46)) w2.heap.size E j:=heap_alloc_new _ _
       obtain⟨y0,y1,y2,y3,y4,y5,yf⟩:=ZERO.out _ (HF2.out.below hba)
       have s0:=setCell_self y0
       have s1:=setCell_self y1
       have s2:=setCell_self y2
       have s3:=setCell_self y3
       have s4:=setCell_self y4
       have s5:=setCell_self y5
       have k0:=hFC.c0
       clear hba HRR hfe h0 hFC
       go_wp2
       go_region
       all_goals go_wp2
       all_goals exact bodyPost_ret (v:=.tuple #[.agg #[.string ⟨#[]⟩,.string ⟨#[]⟩,.int .i64 0,.int .i64 0,.int .i64 0,.int .i64 0],.int .i64 E]) (by simp[results,Tryz.results35,go_sem,y0,y1,y2,y3,y4,y5]) rfl ⟨rfl,hBA.drew⟩
   · have d1:=neB_of (s:=bytesOf (kindL true)) (l:= [100,97,116,97]) (by rw[hkd];decide)
     have hrd:=readGone_any s WA hs
     have eK:keysF true s.data.toList=((goneO s.data.toList).1,(goneO s.data.toList).2.1):=rfl
     rw[eK]at hRR hkl
     generalize bytesOf (kindL true)=kB at d1 ⊢
     generalize goneO s.data.toList=Dt at hrd hRR hkl
     obtain⟨zs,E,pl⟩:=Dt
     dsimp only at hRR hkl
     have HRR:Hid ((if E=0 then chkF (p,q,zs.length,(endsZ zs).1,(endsZ zs).2,seq) else (zeroF,E))=R):=hRR
     clear hkd eK hRR
     go_wp2_with fail
     refine hrd.mono ?_
     rintro e w2 ⟨hb2,hres⟩
     clear hrd
     have hB2:Below w.heap.size w w2:=hal.trans (hb2.mono hal.size)
     have HF2:Hid (FlAt w2 w.heap.size zeroF):=HF1.out.below hb2
     dsimp only at hres
     clear hb2 hal
     rcases hres with⟨h0,kv,rfl,hv,_⟩|⟨h0,j,rfl,_,_⟩
     · have HX:Hid (chkF (p,q,zs.length,(endsZ zs).1,(endsZ zs).2,seq)=R):=by
         show _=_
         rw[←HRR.out,if_pos h0]
       have hba:Below w2.heap.size w2 (w2.alloc (.cells #[.int .i64 0,.int .i64 (-1)] 46)):=(Below.refl _ _).alloc (Nat.le_refl _) _
       have hB3:Below w.heap.size w (w2.alloc (.cells #[.int .i64 0,.int .i64 (-1)] 46)):=hB2.trans (hba.mono hB2.size)
       have hk3:=hv.below hba
       have HF3:Hid (FlAt (w2.alloc (.cells #[.int .i64 0,.int .i64 (-1)] 46)) w.heap.size zeroF):=HF2.out.below hba
       clear hv hba HRR h0
       go_wp2_with fail
       generalize w2.alloc (.cells #[.int .i64 0,.int .i64 (-1)] 46)=w3 at hk3 hB3 HF3 ⊢
       have hen:=ends_any kv zs w3 hk3 (by unfold maxLen;omega)
       obtain⟨q3,c3,rfl⟩:=hk3.form
       have HX2:Hid (R=if fileE (p,q,(zs.length:Int),(endsZ zs).1,(endsZ zs).2,seq)=0 then ((p,q,(zs.length:Int),(endsZ zs).1,(endsZ zs).2,seq),0) else (zeroF,fileE (p,q,(zs.length:Int),(endsZ zs).1,(endsZ zs).2,seq))):=HX.out.symm
       clear HX hk3
       generalize (endsZ zs).1=lo at hen HX2
       generalize (endsZ zs).2=hi at hen HX2
       generalize zs.length=L at hen HX2 hkl ⊢
       have hbf:Below w3.heap.size w3 (w3.alloc (.cells #[.string p,.string q,.int .i64 L,.int .i64 lo,.int .i64 hi,.int .i64 seq] 63)):=(Below.refl _ _).alloc (Nat.le_refl _) _
       have hfB:=FlAt.new w3 (p,q,(L:Int),lo,hi,seq)
       dsimp only at hfB
       have hzF:=HF3.out.below hbf
       have hBF:Below w.heap.size w (w3.alloc (.cells #[.string p,.string q,.int .i64 L,.int .i64 lo,.int .i64 hi,.int .i64 seq] 63)):=hB3.trans (hbf.mono hB3.size)
       have hf4:=hfe L lo hi (w3.alloc (.cells #[.string p,.string q,.int .i64 L,.int .i64 lo,.int .i64 hi,.int .i64 seq] 63))
       refine hen.mono ?_
       rintro e w4 ⟨rfl,hw4⟩
       rw[hw4]
       clear hw4 hen hfe hbf
       go_wp2_with fail
       generalize w3.alloc (.cells #[.string p,.string q,.int .i64 L,.int .i64 lo,.int .i64 hi,.int .i64 seq] 63)=WF at hf4 hBF hzF hfB ⊢
       generalize w3.heap.size=BF at hfB ⊢
       refine hf4.mono ?_
       rintro e w5 ⟨rfl,hb5⟩
       clear hf4
       have hB5:Below w.heap.size w w5:=hBF.trans (hb5.mono hBF.size)
       have hz5:=hzF.below hb5
       have HZ5:Hid (FlAt w5 w.heap.size zeroF):=hz5
       obtain⟨x0,x1,x2,x3,x4,x5,_⟩:=(hfB.below hb5).cells
       dsimp only at x0 x1 x2 x3 x4 x5
       clear hfB hzF hb5 hz5
       have hX3:=HX2.out
       clear HX2
       generalize hfE:fileE (p,q,(L:Int),lo,hi,seq)=Ef at hX3 ⊢
       clear hfE
       obtain⟨y0,y1,y2,y3,y4,y5,yf⟩:=ZERO.out w5 HZ5.out
       by_cases he:Ef=0
       · rw[if_pos he]at hX3
         subst hX3
         subst he
         obtain⟨z0,z1,z2,z3,z4,z5,_⟩:=(HZ5.out.set (p,q,(L:Int),lo,hi,seq)).cells
         have hB6:=flSet_below (f:=(p,q,(L:Int),lo,hi,seq)) hB5 (Nat.le_refl w.heap.size)
         unfold flSet at z0 z1 z2 z3 z4 z5 hB6
         dsimp only at z0 z1 z2 z3 z4 z5 hB6
         go_wp2
         exact bodyPost_ret (v:=.tuple #[.agg #[.string p,.string q,.int .i64 L,.int .i64 lo,.int .i64 hi,.int .i64 seq],.int .i64 0]) (by simp[results,Tryz.results35,go_sem,z0,z1,z2,z3,z4,z5]) rfl ⟨rfl,hB6⟩
       · rw[if_neg he]at hX3
         subst hX3
         have hEp:(0:Int)<(Ef:Int):=by omega
         have s0:=setCell_self y0
         have s1:=setCell_self y1
         have s2:=setCell_self y2
         have s3:=setCell_self y3
         have s4:=setCell_self y4
         have s5:=setCell_self y5
         clear he x0 x1 x2 x3 x4 x5
         go_wp2
         exact bodyPost_ret (v:=.tuple #[.agg #[.string ⟨#[]⟩,.string ⟨#[]⟩,.int .i64 0,.int .i64 0,.int .i64 0,.int .i64 0],.int .i64 Ef]) (by simp[results,Tryz.results35,go_sem,y0,y1,y2,y3,y4,y5]) rfl ⟨rfl,hB5⟩
     · have hX:R=(zeroF,E):=by
         rw[←HRR.out,if_neg h0]
       subst hX
       have hEp:(0:Int)<(E:Int):=by omega
       have hba:Below w2.heap.size w2 (w2.alloc (.cells #[.int .i64 E,.int .i64 j] 46)):=(Below.refl _ _).alloc (Nat.le_refl _) _
       have hBA:Below w.heap.size w (w2.alloc (.cells #[.int .i64 E,.int .i64 j] 46)):=hB2.trans (hba.mono hB2.size)
       have hFC:FC (w2.alloc (.cells #[.int .i64 E,.int .i64 j] 46)) w2.heap.size E j:=heap_alloc_new _ _
       obtain⟨y0,y1,y2,y3,y4,y5,yf⟩:=ZERO.out _ (HF2.out.below hba)
       have s0:=setCell_self y0
       have s1:=setCell_self y1
       have s2:=setCell_self y2
       have s3:=setCell_self y3
       have s4:=setCell_self y4
       have s5:=setCell_self y5
       have k0:=hFC.c0
       clear hba HRR hfe h0 hFC
       go_wp2
       go_region
       all_goals go_wp2
       all_goals exact bodyPost_ret (v:=.tuple #[.agg #[.string ⟨#[]⟩,.string ⟨#[]⟩,.int .i64 0,.int .i64 0,.int .i64 0,.int .i64 0],.int .i64 E]) (by simp[results,Tryz.results35,go_sem,y0,y1,y2,y3,y4,y5]) rfl ⟨rfl,hBA.drew⟩
end Go.Proofs.YtdhkdjlgmbejnaaGreatDoor
namespace Go.Proofs.YtdhkdjlgmbejnaaGreatDoor
open Go Go.Lib
def fileR (obs:List Ob) (x:Fl):Nat×ByteArray :=
 if (getT obs x.1).2≠0 then ((getT obs x.1).2,⟨#[]⟩) else
 if (ofF x.1 x.2.1 (getT obs x.1).1.data.toList x.2.2.2.2.2).2≠0 then ((ofF x.1 x.2.1 (getT obs x.1).1.data.toList x.2.2.2.2.2).2,⟨#[]⟩) else
 if (ofF x.1 x.2.1 (getT obs x.1).1.data.toList x.2.2.2.2.2).1≠x then (3,⟨#[]⟩) else (0,(getT obs x.1).1)
def addS (lo hi:Int) (x:Fl) (text:ByteArray) (acc:List (Rw×Int)):List (Rw×Int) :=
 if x.2.1.data.toList≠ [45] then acc++((dataO text.data.toList).1.filter (inB lo hi)).map fun r=>(r,x.2.2.2.2.2)
 else acc.filter fun p=> !((goneO text.data.toList).1.contains p.1.2.1 && decide (p.2<x.2.2.2.2.2))
def scanG (obs:List Ob) (lo hi:Int):List Fl→Nat→List (Rw×Int)→List (Rw×Int)×Nat×Option Nat
 | [],_,acc=>(acc,0,none)
 | x :: r,i,acc=>if inP lo hi x=false then scanG obs lo hi r (i+1) acc else
     if (fileR obs x).1≠0 then ([],(fileR obs x).1,some i) else scanG obs lo hi r (i+1) (addS lo hi x (fileR obs x).2 acc)
def rowsS (obs:List Ob) (s:Sn) (lo hi:Int):List Rw×Nat×Option Nat :=
 if (snapE s).1≠0 then ([],snapE s) else
 if (scanG obs lo hi s.2.2.2.2.2.2 0 []).2.1≠0 then ([],(scanG obs lo hi s.2.2.2.2.2.2 0 []).2) else
 (sortR ((scanG obs lo hi s.2.2.2.2.2.2 0 []).1.map (·.1)),0,none)
def ScanLeft (obs:List Ob) (lo hi:Int) (fs:List Fl) (n:Nat) (acc:List (Rw×Int)):Prop:=scanG obs lo hi fs 0 []=scanG obs lo hi (fs.drop n) n acc
theorem scanL_zero (obs:List Ob) (lo hi:Int) (fs:List Fl):ScanLeft obs lo hi fs 0 []:=rfl
section
variable {obs : List Ob} {lo hi : Int} {fs : List Fl} {n : Nat} {acc : List (Rw × Int)}
theorem scanL_skip (h:ScanLeft obs lo hi fs n acc) (hn:n<fs.length) (e:inP lo hi fs[n]=false):ScanLeft obs lo hi fs (n+1) acc:=by
 unfold ScanLeft at h ⊢
 rw[h,List.drop_eq_getElem_cons hn]
 conv=>lhs;unfold scanG
 rw[if_pos e]
theorem scanL_bad (h:ScanLeft obs lo hi fs n acc) (hn:n<fs.length) (e:inP lo hi fs[n]=true) (b:(fileR obs fs[n]).1≠0):scanG obs lo hi fs 0 []=([],(fileR obs fs[n]).1,some n):=by
 unfold ScanLeft at h
 rw[h,List.drop_eq_getElem_cons hn]
 unfold scanG
 rw[if_neg (by rw[e];simp),if_pos b]
theorem scanL_step (h:ScanLeft obs lo hi fs n acc) (hn:n<fs.length) (e:inP lo hi fs[n]=true) (b:(fileR obs fs[n]).1=0):ScanLeft obs lo hi fs (n+1) (addS lo hi fs[n] (fileR obs fs[n]).2 acc):=by
 unfold ScanLeft at h ⊢
 rw[h,List.drop_eq_getElem_cons hn]
 conv=>lhs;unfold scanG
 rw[if_neg (by rw[e];simp),if_neg (by simpa using b)]
theorem scanL_all (h:ScanLeft obs lo hi fs fs.length acc):scanG obs lo hi fs 0 []=(acc,0,none):=by
 unfold ScanLeft at h
 rw[h,List.drop_length]
 rfl
end
theorem addS_data {lo hi:Int} {x:Fl} {text:ByteArray} {acc:List (Rw×Int)} (h:x.2.1.data.toList≠ [45]):addS lo hi x text acc=acc++((dataO text.data.toList).1.filter (inB lo hi)).map fun r=>(r,x.2.2.2.2.2):=by unfold addS;rw[if_pos h]
theorem addS_gone {lo hi:Int} {x:Fl} {text:ByteArray} {acc:List (Rw×Int)} (h:x.2.1.data.toList= [45]):addS lo hi x text acc=acc.filter fun p=> !((goneO text.data.toList).1.contains p.1.2.1 && decide (p.2<x.2.2.2.2.2)):=by unfold addS;rw[if_neg (by simpa using h)]
end Go.Proofs.YtdhkdjlgmbejnaaGreatDoor
namespace Go.Proofs.YtdhkdjlgmbejnaaGreatDoor
open Go Go.Lib Go.Sort
theorem sortR_id {xs:List Rw} (h:xs.Pairwise fun x y=>(!(ltOf cfR) y x)=true):sortR xs=xs:=List.mergeSort_of_pairwise h
theorem fileR_ok {obs:List Ob} {x:Fl} (h:(fileR obs x).1=0):ofF x.1 x.2.1 (fileR obs x).2.data.toList x.2.2.2.2.2=(x,0):=by
 unfold fileR at h ⊢
 by_cases h1:(getT obs x.1).2≠0
 · rw[if_pos h1]at h;exact absurd h h1
 · rw [if_neg h1]at h ⊢
   by_cases h2:(ofF x.1 x.2.1 (getT obs x.1).1.data.toList x.2.2.2.2.2).2≠0
   · rw[if_pos h2]at h;exact absurd h h2
   · rw[if_neg h2]at h ⊢
     by_cases h3:(ofF x.1 x.2.1 (getT obs x.1).1.data.toList x.2.2.2.2.2).1≠x
     · rw[if_pos h3]at h;cases h
     · rw[if_neg h3]
       exact Prod.ext (by simpa using h3) (by simpa using h2)
theorem file_keys {obs:List Ob} {x:Fl} (h:(fileR obs x).1=0):∃g n,pathO x.1.data.toList=some (g,n)∧partB g x.2.1.data.toList=true∧bndB x=true∧∀k∈(keysF g (fileR obs x).2.data.toList).1,x.2.2.2.1≤k∧k≤x.2.2.2.2.1:=by
 have ho:=fileR_ok h
 generalize (fileR obs x).2.data.toList=t at ho ⊢
 unfold ofF at ho
 split at ho
 · cases ho
 · rename_i g n hp
   split at ho
   · rename_i hk
     unfold chkF at ho
     split at ho
     · rename_i he
       obtain⟨e1,_⟩:=Prod.mk.inj ho
       have hx:fileE x=0:=by rw[←e1];exact he
       obtain⟨g',n',hp',hq,hb⟩:=file_good hx
       rw[hp]at hp'
       cases hp'
       refine⟨g,n,hp,hq,hb,fun k hk'=>?_⟩
       have hne:(keysF g t).1≠ []:=fun e=>by rw[e]at hk';cases hk'
       have:=(ends_mem hne).2.2 k hk'
       rw[←e1]
       exact this
     · cases ho
   · rename_i hk
     exact absurd (Prod.mk.inj ho).2 hk
theorem part_gone {g:Bool} {s:List UInt8} (h:partB g s=true):s= [45]↔g=true:=by
 unfold partB at h
 cases g with
 | true=>simpa using h
 | false =>
   simp only[Bool.false_eq_true,if_false]at h
   refine⟨fun e=>?_,fun e=>by cases e⟩
   subst e
   revert h
   decide
end Go.Proofs.YtdhkdjlgmbejnaaGreatDoor
