/- By an AI agent. -/
import Derived.Test.YtdhkdjlgmbejnaaGreatDoorListChk
namespace Go.Proofs.YtdhkdjlgmbejnaaGreatDoor
open Go.RowKit Go.Extern.Stop Go.Stop Go.Extern Go.Sort Go.Shelf Go.Lib
def upB (n m:Int):Bool:=decide (0≤n) && decide (n≤m)
theorem upTo_any (n m:Int) (w:World):Calls Tryz.prog 136 #[.int .i64 n,.int .i64 m] w fun e w'=>e= .returned (.bool (upB n m))∧w'=w:=by
 by_cases h1:0≤n
 · by_cases h2:n≤m
   · have hr:upB n m=true:=by simp[upB,h1,h2]
     rw[hr]
     go_enter Tryz.func136,Tryz.ntmps136
     go_wp2
     go_ret
     exact⟨rfl,rfl⟩
   · have hr:upB n m=false:=by simp[upB,h2]
     rw[hr]
     go_enter Tryz.func136,Tryz.ntmps136
     go_wp2
     go_ret
     exact⟨rfl,rfl⟩
 · have hr:upB n m=false:=by simp[upB,h1]
   rw[hr]
   go_enter Tryz.func136,Tryz.ntmps136
   go_wp2
   go_ret
   exact⟨rfl,rfl⟩
theorem sbnd_up (s:Sn):sbndB s=(decide (1≤s.1) && (decide (s.1≤1073741824) && (decide (0≤s.2.1) && (decide (s.2.1<s.1) && (upB s.2.2.1 1073741824 && (upB s.2.2.2.1 100000 && upB s.2.2.2.2.1 1073741824)))))):=by
 unfold sbndB upB
 simp only[Bool.and_assoc]
set_option maxRecDepth 100000 in
set_option maxHeartbeats 4000000 in
theorem numbersRight_any (s:Sn) (vf:Value) (w:World) :
   Calls Tryz.prog 90 #[snV s vf] w fun e w'=>e= .returned (.bool (sbndB s))∧Below w.heap.size w w':=by
 have hsb:=sbnd_up s
 generalize sbndB s=SB at hsb ⊢
 obtain⟨id,par,seq,day,idx,op,fs⟩:=s
 unfold snV
 dsimp only at hsb ⊢
 have hal:Below w.heap.size w (w.alloc (.cells #[.int .i64 id,.int .i64 par,.int .i64 seq,.int .i64 day,.int .i64 idx,.string op,vf] 25)):=(Below.refl _ _).alloc (Nat.le_refl _) _
 have h5:=fun W=>upTo_any seq 1073741824 W
 have h6:=fun W=>upTo_any day 100000 W
 have h7:=fun W=>upTo_any idx 1073741824 W
 by_cases c0:1≤id
 case neg =>
   obtain rfl:SB=false:=by rw[hsb];simp[c0]
   clear hsb h5 h6 h7
   go_enter Tryz.func90,Tryz.ntmps90
   go_wp2
   go_ret
   exact⟨rfl,hal⟩
 by_cases c1:id≤1073741824
 case neg =>
   obtain rfl:SB=false:=by rw[hsb];simp[c1]
   clear hsb h5 h6 h7
   go_enter Tryz.func90,Tryz.ntmps90
   go_wp2
   go_ret
   exact⟨rfl,hal⟩
 by_cases c2:0≤par
 case neg =>
   obtain rfl:SB=false:=by rw[hsb];simp[c2]
   clear hsb h5 h6 h7
   go_enter Tryz.func90,Tryz.ntmps90
   go_wp2
   go_ret
   exact⟨rfl,hal⟩
 by_cases c3:par<id
 case neg =>
   obtain rfl:SB=false:=by rw[hsb];simp[c3]
   clear hsb h5 h6 h7
   go_enter Tryz.func90,Tryz.ntmps90
   go_wp2
   go_ret
   exact⟨rfl,hal⟩
 cases u0:upB seq 1073741824
 case false =>
   obtain rfl:SB=false:=by rw[hsb];simp[u0]
   rw[u0]at h5
   clear hsb
   go_enter Tryz.func90,Tryz.ntmps90
   go_wp2_with (go_at_call 136;first | (with_reducible refine(h5 _).mono ?_;rintro e w1 ⟨rfl,rfl⟩))
   go_ret
   exact⟨rfl,hal⟩
 rw[u0]at h5
 cases u1:upB day 100000
 case false =>
   obtain rfl:SB=false:=by rw[hsb];simp[u1]
   rw[u1]at h6
   clear hsb
   go_enter Tryz.func90,Tryz.ntmps90
   go_wp2_with (go_at_call 136;first | (with_reducible refine(h5 _).mono ?_;rintro e w1 ⟨rfl,rfl⟩) | (with_reducible refine(h6 _).mono ?_;rintro e w1 ⟨rfl,rfl⟩))
   go_ret
   exact⟨rfl,hal⟩
 rw[u1]at h6
 cases u2:upB idx 1073741824
 case false =>
   obtain rfl:SB=false:=by rw[hsb];simp[u2]
   rw[u2]at h7
   clear hsb
   go_enter Tryz.func90,Tryz.ntmps90
   go_wp2_with (go_at_call 136;first | (with_reducible refine(h5 _).mono ?_;rintro e w1 ⟨rfl,rfl⟩) | (with_reducible refine(h6 _).mono ?_;rintro e w1 ⟨rfl,rfl⟩) | (with_reducible refine(h7 _).mono ?_;rintro e w1 ⟨rfl,rfl⟩))
   go_ret
   exact⟨rfl,hal⟩
 rw[u2]at h7
 obtain rfl:SB=true:=by rw[hsb];simp[c0,c1,c2,c3,u0,u1,u2]
 clear hsb
 go_enter Tryz.func90,Tryz.ntmps90
 go_wp2_with (go_at_call 136;first | (with_reducible refine(h5 _).mono ?_;rintro e w1 ⟨rfl,rfl⟩) | (with_reducible refine(h6 _).mono ?_;rintro e w1 ⟨rfl,rfl⟩) | (with_reducible refine(h7 _).mono ?_;rintro e w1 ⟨rfl,rfl⟩))
 go_ret
 exact⟨rfl,hal⟩
set_option maxRecDepth 100000 in
set_option maxHeartbeats 2000000 in
theorem opRight_any (op:ByteArray) (w:World) :
   Calls Tryz.prog 91 #[.string op] w fun e w'=>e= .returned (.bool (opB op.data.toList))∧w'=w:=by
 by_cases e0:op.data.toList=kStart
 · have hr:opB op.data.toList=true:=by simp[opB,e0]
   rw[hr]
   have d0:=eqB_of e0
   simp only[kStart]at d0
   clear hr e0
   go_enter Tryz.func91,Tryz.ntmps91
   go_wp2
   go_ret
   exact⟨rfl,rfl⟩
 have d0:=neB_of e0
 simp only[kStart]at d0
 by_cases e1:op.data.toList=kAppend
 · have hr:opB op.data.toList=true:=by simp[opB,e1]
   rw[hr]
   have d1:=eqB_of e1
   simp only[kAppend]at d1
   clear hr e1
   go_enter Tryz.func91,Tryz.ntmps91
   go_wp2
   go_ret
   exact⟨rfl,rfl⟩
 have d1:=neB_of e1
 simp only[kAppend]at d1
 by_cases e2:op.data.toList=kDelete
 · have hr:opB op.data.toList=true:=by simp[opB,e2]
   rw[hr]
   have d2:=eqB_of e2
   simp only[kDelete]at d2
   clear hr e2
   go_enter Tryz.func91,Tryz.ntmps91
   go_wp2
   go_ret
   exact⟨rfl,rfl⟩
 have d2:=neB_of e2
 simp only[kDelete]at d2
 by_cases e3:op.data.toList=kRewrite
 · have hr:opB op.data.toList=true:=by simp[opB,e3]
   rw[hr]
   have d3:=eqB_of e3
   simp only[kRewrite]at d3
   clear hr e3
   go_enter Tryz.func91,Tryz.ntmps91
   go_wp2
   go_ret
   exact⟨rfl,rfl⟩
 have d3:=neB_of e3
 simp only[kRewrite]at d3
 have hr:opB op.data.toList=false:=by simp[opB,e0,e1,e2,e3]
 rw[hr]
 clear hr e0 e1 e2 e3
 go_enter Tryz.func91,Tryz.ntmps91
 go_wp2
 go_ret
 exact⟨rfl,rfl⟩
set_option maxRecDepth 100000 in
set_option maxHeartbeats 8000000 in
theorem scheck_any (s:Sn) (vf:Value) (w:World) (a:Nat→Addr) (h:EnvL w a) (hx:FlsAt w vf s.2.2.2.2.2.2) (hl:s.2.2.2.2.2.2.length≤100) (hsz:Short s.2.2.2.2.2.2) :
   Calls Tryz.prog 39 #[snV s vf] w fun e w'=> ∃ev,e= .returned ev∧ToldE w' a ev (snapE s)∧Below w.heap.size w w':=by
 have hrs:=@snapE_rest s
 have hub:sbndB s=false→snapE s=(2,none):=fun e=>by unfold snapE;rw[if_pos e]
 have hnr:=fun W=>numbersRight_any s vf W
 have hop:=fun W=>opRight_any s.2.2.2.2.2.1 W
 have hlc:=fun W (hb:Below w.heap.size w W)=>lcheck_any vf s.2.2.2.2.2.2 W a (h.below hb) (hx.below hb) hl hsz
 have HEN:Hid (∀W,Below w.heap.size w W→EnvL W a):=fun W hb=>h.below hb
 have HXX:Hid (FlsAt w vf s.2.2.2.2.2.2):=hx
 obtain⟨id,par,seq,day,idx,op,fs⟩:=s
 unfold snV at hnr ⊢
 dsimp only at hrs hub hnr hop hlc HXX hl ⊢
 generalize hR:snapE (id,par,seq,day,idx,op,fs)=R at hrs hub ⊢
 generalize hSB:sbndB (id,par,seq,day,idx,op,fs)=SB at hrs hub hnr
 generalize hOB:opB op.data.toList=OB at hrs hop
 generalize hLE:listE fs=LE at hrs hlc
 clear hR hSB hOB hLE hx hsz h
 have hal:Below w.heap.size w (w.alloc (.cells #[.int .i64 id,.int .i64 par,.int .i64 seq,.int .i64 day,.int .i64 idx,.string op,vf] 25)):=(Below.refl _ _).alloc (Nat.le_refl _) _
 have hsn:SnAt (w.alloc (.cells #[.int .i64 id,.int .i64 par,.int .i64 seq,.int .i64 day,.int .i64 idx,.string op,vf] 25)) w.heap.size (id,par,seq,day,idx,op,fs) vf:=SnAt.new w (id,par,seq,day,idx,op,fs) vf
 have hnr1:=hnr (w.alloc (.cells #[.int .i64 id,.int .i64 par,.int .i64 seq,.int .i64 day,.int .i64 idx,.string op,vf] 25))
 go_enter Tryz.func39,Tryz.ntmps39
 go_wp2_with fail
 generalize w.alloc (.cells #[.int .i64 id,.int .i64 par,.int .i64 seq,.int .i64 day,.int .i64 idx,.string op,vf] 25)=WA at hal hsn hnr1 ⊢
 refine hnr1.mono ?_
 rintro e w1 ⟨rfl,hb1⟩
 clear hnr hnr1
 have hB1:Below w.heap.size w w1:=hal.trans (hb1.mono hal.size)
 have hsn1:=hsn.below hb1
 clear hsn hb1 hal
 cases SB
 case false =>
   obtain rfl:=hub rfl
   have et:=(HEN.out w1 hB1).file.env.bound
   clear hub hrs hop hlc
   go_wp2
   go_ret
   exact⟨_,rfl,rfl,hB1⟩
 case true =>
 clear hub
 replace hrs:=hrs rfl
 have z5:=hsn1.cells.2.2.2.2.2.1
 dsimp only at z5
 have hop1:=hop w1
 clear hop
 go_wp2_with fail
 refine hop1.mono ?_
 rintro e w2 ⟨rfl,rfl⟩
 clear hop1 z5
 cases OB
 case false =>
   obtain rfl:=hrs.1 rfl
   have et:=(HEN.out w2 hB1).file.kind
   clear hrs hlc
   go_wp2
   go_ret
   exact⟨_,rfl,rfl,hB1⟩
 case true =>
 obtain⟨hl1,hl2⟩:=hrs.2 rfl
 clear hrs
 have z6:=hsn1.cells.2.2.2.2.2.2
 have hlc1:=hlc w2 hB1
 clear hlc
 obtain⟨qf,cf,hvf⟩:=HXX.out.form
 subst hvf
 obtain⟨L,hL⟩:∃L,fs.length=L:=⟨_,rfl⟩
 have HL:Hid (fs.length=L):=hL
 rw[hL]at hlc1 z6 hl hsn1
 clear hL
 go_wp2_with fail
 refine hlc1.mono ?_
 rintro e w3 ⟨ev,rfl,ht,hb3⟩
 clear hlc1 z6
 have hB3:Below w.heap.size w w3:=hB1.trans (hb3.mono hB1.size)
 have hsn3:=hsn1.below hb3
 clear hsn1 hb3 hB1
 by_cases hE:LE.1=0
 case neg =>
   obtain rfl:=hl1 hE
   obtain⟨t,u,rfl⟩:=ht.bad hE
   have HT:Hid (ToldE w3 a (.iface t u) R):=ht
   clear ht hl1 hl2 hsn3
   go_wp2
   go_ret
   exact⟨_,rfl,HT.out,hB3⟩
 case pos =>
 obtain rfl:=ht.ok hE
 have HRE:Hid (R=seqG seq fs 0):=hl2 hE
 clear ht hl1 hl2 hE
 have z6:=hsn3.cells.2.2.2.2.2.2
 go_wp2
 go_loopw [24] (fun k wr=> ∃n:Nat,n≤L∧k= .int .i64 n∧SeqLeft seq fs n∧Below w.heap.size w wr∧SnAt wr w.heap.size (id,par,seq,day,idx,op,fs) (.slice qf L cf)) (fun k _=>L-(intOf k).toNat)
 case atStart=>exact ⟨0,by omega,rfl,seqL_zero seq fs,hB3,hsn3⟩
 case round =>
   clear hB3 hsn3 z6
   obtain⟨n,hn,rfl,hsl,hb,hsn⟩:=hrel
   have HSL:Hid (SeqLeft seq fs n):=hsl
   have HSN:Hid (SnAt wr w.heap.size (id,par,seq,day,idx,op,fs) (.slice qf L cf)):=hsn
   clear hsl hsn
   by_cases hlt:n<L
   · have hltx:n<fs.length:=by rw[HL.out];exact hlt
     obtain⟨b,o,hq,hc⟩:=(HXX.out.below hb).cells (fun e=>by rw[e]at hltx;simp at hltx)
     subst hq
     obtain⟨c0,c1,c2,c3,c4,c5⟩:=hc n hltx
     have hbad:=fun e=>seqL_bad HSL.out hltx e
     have hnxt:=fun e=>seqL_succ HSL.out hltx e
     generalize fs[n]=f at c0 c1 c2 c3 c4 c5 hbad hnxt
     have hfb:=boxW_at wr f
     have hbb:=boxW_below wr f
     unfold boxW at hfb hbb
     obtain⟨fp,fq,fn,flo,fhi,fseq⟩:=f
     dsimp only at c0 c1 c2 c3 c4 c5 hbad hnxt hfb hbb
     have hiL:(n:Int)<(L:Int):=by omega
     have hi0':(0:Int)≤(n:Int):=by omega
     clear hc hltx
     go_upto_region 11 with fail
     clear c0 c1 c2 c3 c4 c5
     generalize wr.alloc (.cells #[.string fp,.string fq,.int .i64 fn,.int .i64 flo,.int .i64 fhi,.int .i64 fseq] 63)=W5 at hfb hbb ⊢
     have hB5:Below w.heap.size w W5:=hb.trans (hbb.mono hb.size)
     have hsn5:=HSN.out.below hbb
     have HS5:Hid (SnAt W5 w.heap.size (id,par,seq,day,idx,op,fs) (.slice (some ⟨b,o,none⟩) L cf)):=hsn5
     have z5:=hfb.cells.2.2.2.2.2.1
     have y2:=hsn5.cells.2.2.1
     dsimp only at z5 y2
     clear hsn5 hfb hbb
     by_cases hz:seq<fseq
     · have HRR:Hid (R=(9,some n)):=by
         show _=_
         rw[HRE.out];exact hbad hz
       have et:=(HEN.out W5 hB5).order
       have hal:Below W5.heap.size W5 (W5.alloc (.cells #[.int .i64 n,.iface 327 (.pointer (some (a 8)))] 94)):=(Below.refl _ _).alloc (Nat.le_refl _) _
       clear hbad hnxt
       go_wp2
       go_ret
       refine⟨_,rfl,?_,hB5.trans (hal.mono hB5.size)⟩
       rw[HRR.out]
       exact⟨by simp,W5.heap.size,rfl,by simp,by simp[errV]⟩
     · have HNX:Hid (SeqLeft seq fs (n+1)):=hnxt hz
       clear hbad hnxt
       go_wp2
       go_roundw
       case rel=>exact ⟨n+1,by omega,by go_num,HNX.out,hB5,HS5.out⟩
       case measure=>simp [intOf];omega
   · obtain rfl:n=L:=by omega
     have HRR:Hid (R=(0,none)):=by
       show _=_
       rw[HRE.out]
       have h':=HSL.out
       rw[←HL.out]at h'
       exact seqL_all h'
     go_wp2
     go_ret
     refine⟨_,rfl,?_,hb⟩
     rw[HRR.out]
     rfl
set_option maxRecDepth 100000 in
set_option maxHeartbeats 8000000 in
theorem prune_any (v:Value) (fs:List Fl) (lo hi:Int) (w:World) (hx:FlsAt w v fs) (hl:fs.length≤20000) :
   Calls Tryz.prog 41 #[v,.int .i64 lo,.int .i64 hi] w fun e w'=> ∃v',e= .returned v'∧FlsAt w' v' (fs.filter (inP lo hi))∧Below w.heap.size w w':=by
 obtain⟨i0,hi0,hz0,hs0,hby0⟩:=Tryz.fileInfo
 obtain⟨q,cap,rfl⟩:=hx.form
 have HFX:Hid (FlsAt w (.slice q fs.length cap) fs):=hx
 obtain⟨L,hL⟩:∃L,fs.length=L:=⟨_,rfl⟩
 have HX:Hid (fs.length=L):=hL
 rw[hL]at hl ⊢
 clear hL hx
 go_enter Tryz.func41,Tryz.ntmps41
 go_wp2
 go_loopw [7,12] (fun out k wr=> ∃n:Nat,n≤L∧k= .int .i64 n∧Below w.heap.size w wr∧wr.ownsRow w.heap.size 63 6 out (kept (inP lo hi) fs n).length (flatF (kept (inP lo hi) fs n))) (fun _ k _=>L-(intOf k).toNat)
 case atStart=>exact ⟨0,by omega,rfl,Below.refl _ _,by rw[kept_zero];exact World.ownsRow_nil _ _ _ _⟩
 case round =>
   obtain⟨n,hn,rfl,hb,hown⟩:=hrel
   have OW:Hid (wr.ownsRow w.heap.size 63 6 u7 (kept (inP lo hi) fs n).length (flatF (kept (inP lo hi) fs n))):=hown
   clear hown
   by_cases hlt:n<L
   · have hltx:n<fs.length:=by rw[HX.out];exact hlt
     obtain⟨b,o,hq,hc⟩:=(HFX.out.below hb).cells (fun e=>by rw[e]at hltx;simp at hltx)
     subst hq
     obtain⟨c0,c1,c2,c3,c4,c5⟩:=hc n hltx
     have HKL:Hid ((kept (inP lo hi) fs n).length≤L):=by
       show _≤_
       have:=kept_len (inP lo hi) fs n
       omega
     have hke:(kept (inP lo hi) fs (n+1))=if (inP lo hi) fs[n]=true then (kept (inP lo hi) fs n)++ [fs[n]] else (kept (inP lo hi) fs n):=kept_succ (inP lo hi) fs n hltx
     generalize fs[n]=f at c0 c1 c2 c3 c4 c5 hke
     have hfb:=boxW_at wr f
     have hbb:=boxW_below wr f
     unfold boxW at hfb hbb
     obtain⟨fp,fq,fn,flo,fhi,fseq⟩:=f
     dsimp only at c0 c1 c2 c3 c4 c5 hfb hbb
     have hiL:(n:Int)<(L:Int):=by omega
     have hi0':(0:Int)≤(n:Int):=by omega
     clear hc hltx
     go_upto_region 5 with fail
     clear c0 c1 c2 c3 c4 c5
     generalize wr.alloc (.cells #[.string fp,.string fq,.int .i64 fn,.int .i64 flo,.int .i64 fhi,.int .i64 fseq] 63)=W5 at hfb hbb ⊢
     have hB5:Below w.heap.size w W5:=hb.trans (hbb.mono hb.size)
     have OW5:Hid (W5.ownsRow w.heap.size 63 6 u7 (kept (inP lo hi) fs n).length (flatF (kept (inP lo hi) fs n))):=own_below OW.out hbb
     obtain⟨z0,z1,z2,z3,z4,z5,-⟩:=hfb.cells
     dsimp only at z0 z1 z2 z3 z4 z5
     have hal:Below W5.heap.size W5 (W5.alloc (.cells #[.string fp,.string fq,.int .i64 fn,.int .i64 flo,.int .i64 fhi,.int .i64 fseq] 63)):=(Below.refl _ _).alloc (Nat.le_refl _) _
     have hbA:Below w.heap.size w (W5.alloc (.cells #[.string fp,.string fq,.int .i64 fn,.int .i64 flo,.int .i64 fhi,.int .i64 fseq] 63)):=hB5.alloc hB5.size _
     clear hfb hbb OW
     have split8:((flo<lo∧hi<fhi∧lo≤hi)∨(flo<lo∧hi<fhi∧¬lo≤hi))∨((flo<lo∧¬hi<fhi∧lo≤fhi)∨(flo<lo∧¬hi<fhi∧¬lo≤fhi))∨((¬flo<lo∧hi<fhi∧flo≤hi)∨(¬flo<lo∧hi<fhi∧¬flo≤hi))∨((¬flo<lo∧¬hi<fhi∧flo≤fhi)∨(¬flo<lo∧¬hi<fhi∧¬flo≤fhi)):=by omega
     rcases split8 with(hs8 | hs8) | (hs8 | hs8) | (hs8 | hs8) | (hs8 | hs8)<;>obtain ⟨q1,q2,q3⟩:=hs8
     · have HKE:Hid ((kept (inP lo hi) fs (n+1))=(kept (inP lo hi) fs n)++ [(fp,fq,fn,flo,fhi,fseq)]):=by
         show _=_
         rw[hke,if_pos (by simp[inP,q1,q2,q3])]
       clear hke
       go_wp2_with (at_builtin;refine wpList_append_own _ rfl _ _ 23 rfl w.heap.size 63 i0 (.agg #[.string ⟨#[]⟩,.string ⟨#[]⟩,.int .i64 0,.int .i64 0,.int .i64 0,.int .i64 0]) 6 64 Tryz.underlying23 hi0 hz0 hs0 hby0 rfl (by decide) u7 (kept (inP lo hi) fs n).length (flatF (kept (inP lo hi) fs n)) rfl ?qc0 ⟨W5.heap.size,0,none⟩ 1 1 (encF (fp,fq,fn,flo,fhi,fseq)) rfl ?qc1 ?qc2 ?qc3 ?qc4 ?qc5 ?qc6 ?_)
       case qc0=>exact own_below OW5.out hal
       case qc1=>rfl
       case qc2=>first | exact cells6 _ _ | exact fun j u hu=>hu
       case qc3=>exact encF_one _
       case qc4=>have:=HKL.out;unfold maxLen;omega
       case qc5=>have:=HKL.out;omega
       case qc6=>first | exact hbA.size | (have:=hB5.size;omega)
       intro v' w4 hown4 hgrow hnil
       have hbC:Below w.heap.size w w4:=hbA.grown hgrow hbA.size (fun k hk=>by
         rcases OW5.out.2 with⟨e,_⟩|⟨g',cap',cur,e,hg',_⟩
         · rw[e]at hk;simp[Value.ownBlock]at hk
         · rw[e]at hk;simp[Value.ownBlock]at hk;omega)
       have OW4:Hid (w4.ownsRow w.heap.size 63 6 v' ((kept (inP lo hi) fs n).length+1) (flatF (kept (inP lo hi) fs n)++encF (fp,fq,fn,flo,fhi,fseq))):=hown4
       clear hown4 hnil hgrow
       go_wp2
       go_roundw
       case rel=>exact ⟨n+1,by omega,by go_num,hbC,by rw[HKE.out,List.length_append,flatF_append];simpa [flatF] using OW4.out⟩
       case measure=>simp [intOf];omega
     · have HKE:Hid ((kept (inP lo hi) fs (n+1))=(kept (inP lo hi) fs n)):=by
         show _=_
         rw[hke,if_neg (by simp[inP,q1,q2,q3])]
       clear hke hal hbA
       go_wp2
       go_roundw
       case rel=>exact ⟨n+1,by omega,by go_num,hB5,by rw[HKE.out];exact OW5.out⟩
       case measure=>simp [intOf];omega
     · have HKE:Hid ((kept (inP lo hi) fs (n+1))=(kept (inP lo hi) fs n)++ [(fp,fq,fn,flo,fhi,fseq)]):=by
         show _=_
         rw[hke,if_pos (by simp[inP,q1,q2,q3])]
       clear hke
       go_wp2_with (at_builtin;refine wpList_append_own _ rfl _ _ 23 rfl w.heap.size 63 i0 (.agg #[.string ⟨#[]⟩,.string ⟨#[]⟩,.int .i64 0,.int .i64 0,.int .i64 0,.int .i64 0]) 6 64 Tryz.underlying23 hi0 hz0 hs0 hby0 rfl (by decide) u7 (kept (inP lo hi) fs n).length (flatF (kept (inP lo hi) fs n)) rfl ?qc0 ⟨W5.heap.size,0,none⟩ 1 1 (encF (fp,fq,fn,flo,fhi,fseq)) rfl ?qc1 ?qc2 ?qc3 ?qc4 ?qc5 ?qc6 ?_)
       case qc0=>exact own_below OW5.out hal
       case qc1=>rfl
       case qc2=>first | exact cells6 _ _ | exact fun j u hu=>hu
       case qc3=>exact encF_one _
       case qc4=>have:=HKL.out;unfold maxLen;omega
       case qc5=>have:=HKL.out;omega
       case qc6=>first | exact hbA.size | (have:=hB5.size;omega)
       intro v' w4 hown4 hgrow hnil
       have hbC:Below w.heap.size w w4:=hbA.grown hgrow hbA.size (fun k hk=>by
         rcases OW5.out.2 with⟨e,_⟩|⟨g',cap',cur,e,hg',_⟩
         · rw[e]at hk;simp[Value.ownBlock]at hk
         · rw[e]at hk;simp[Value.ownBlock]at hk;omega)
       have OW4:Hid (w4.ownsRow w.heap.size 63 6 v' ((kept (inP lo hi) fs n).length+1) (flatF (kept (inP lo hi) fs n)++encF (fp,fq,fn,flo,fhi,fseq))):=hown4
       clear hown4 hnil hgrow
       go_wp2
       go_roundw
       case rel=>exact ⟨n+1,by omega,by go_num,hbC,by rw[HKE.out,List.length_append,flatF_append];simpa [flatF] using OW4.out⟩
       case measure=>simp [intOf];omega
     · have HKE:Hid ((kept (inP lo hi) fs (n+1))=(kept (inP lo hi) fs n)):=by
         show _=_
         rw[hke,if_neg (by simp[inP,q1,q2,q3])]
       clear hke hal hbA
       go_wp2
       go_roundw
       case rel=>exact ⟨n+1,by omega,by go_num,hB5,by rw[HKE.out];exact OW5.out⟩
       case measure=>simp [intOf];omega
     · have HKE:Hid ((kept (inP lo hi) fs (n+1))=(kept (inP lo hi) fs n)++ [(fp,fq,fn,flo,fhi,fseq)]):=by
         show _=_
         rw[hke,if_pos (by simp[inP,q1,q2,q3])]
       clear hke
       go_wp2_with (at_builtin;refine wpList_append_own _ rfl _ _ 23 rfl w.heap.size 63 i0 (.agg #[.string ⟨#[]⟩,.string ⟨#[]⟩,.int .i64 0,.int .i64 0,.int .i64 0,.int .i64 0]) 6 64 Tryz.underlying23 hi0 hz0 hs0 hby0 rfl (by decide) u7 (kept (inP lo hi) fs n).length (flatF (kept (inP lo hi) fs n)) rfl ?qc0 ⟨W5.heap.size,0,none⟩ 1 1 (encF (fp,fq,fn,flo,fhi,fseq)) rfl ?qc1 ?qc2 ?qc3 ?qc4 ?qc5 ?qc6 ?_)
       case qc0=>exact own_below OW5.out hal
       case qc1=>rfl
       case qc2=>first | exact cells6 _ _ | exact fun j u hu=>hu
       case qc3=>exact encF_one _
       case qc4=>have:=HKL.out;unfold maxLen;omega
       case qc5=>have:=HKL.out;omega
       case qc6=>first | exact hbA.size | (have:=hB5.size;omega)
       intro v' w4 hown4 hgrow hnil
       have hbC:Below w.heap.size w w4:=hbA.grown hgrow hbA.size (fun k hk=>by
         rcases OW5.out.2 with⟨e,_⟩|⟨g',cap',cur,e,hg',_⟩
         · rw[e]at hk;simp[Value.ownBlock]at hk
         · rw[e]at hk;simp[Value.ownBlock]at hk;omega)
       have OW4:Hid (w4.ownsRow w.heap.size 63 6 v' ((kept (inP lo hi) fs n).length+1) (flatF (kept (inP lo hi) fs n)++encF (fp,fq,fn,flo,fhi,fseq))):=hown4
       clear hown4 hnil hgrow
       go_wp2
       go_roundw
       case rel=>exact ⟨n+1,by omega,by go_num,hbC,by rw[HKE.out,List.length_append,flatF_append];simpa [flatF] using OW4.out⟩
       case measure=>simp [intOf];omega
     · have HKE:Hid ((kept (inP lo hi) fs (n+1))=(kept (inP lo hi) fs n)):=by
         show _=_
         rw[hke,if_neg (by simp[inP,q1,q2,q3])]
       clear hke hal hbA
       go_wp2
       go_roundw
       case rel=>exact ⟨n+1,by omega,by go_num,hB5,by rw[HKE.out];exact OW5.out⟩
       case measure=>simp [intOf];omega
     · have HKE:Hid ((kept (inP lo hi) fs (n+1))=(kept (inP lo hi) fs n)++ [(fp,fq,fn,flo,fhi,fseq)]):=by
         show _=_
         rw[hke,if_pos (by simp[inP,q1,q2,q3])]
       clear hke
       go_wp2_with (at_builtin;refine wpList_append_own _ rfl _ _ 23 rfl w.heap.size 63 i0 (.agg #[.string ⟨#[]⟩,.string ⟨#[]⟩,.int .i64 0,.int .i64 0,.int .i64 0,.int .i64 0]) 6 64 Tryz.underlying23 hi0 hz0 hs0 hby0 rfl (by decide) u7 (kept (inP lo hi) fs n).length (flatF (kept (inP lo hi) fs n)) rfl ?qc0 ⟨W5.heap.size,0,none⟩ 1 1 (encF (fp,fq,fn,flo,fhi,fseq)) rfl ?qc1 ?qc2 ?qc3 ?qc4 ?qc5 ?qc6 ?_)
       case qc0=>exact own_below OW5.out hal
       case qc1=>rfl
       case qc2=>first | exact cells6 _ _ | exact fun j u hu=>hu
       case qc3=>exact encF_one _
       case qc4=>have:=HKL.out;unfold maxLen;omega
       case qc5=>have:=HKL.out;omega
       case qc6=>first | exact hbA.size | (have:=hB5.size;omega)
       intro v' w4 hown4 hgrow hnil
       have hbC:Below w.heap.size w w4:=hbA.grown hgrow hbA.size (fun k hk=>by
         rcases OW5.out.2 with⟨e,_⟩|⟨g',cap',cur,e,hg',_⟩
         · rw[e]at hk;simp[Value.ownBlock]at hk
         · rw[e]at hk;simp[Value.ownBlock]at hk;omega)
       have OW4:Hid (w4.ownsRow w.heap.size 63 6 v' ((kept (inP lo hi) fs n).length+1) (flatF (kept (inP lo hi) fs n)++encF (fp,fq,fn,flo,fhi,fseq))):=hown4
       clear hown4 hnil hgrow
       go_wp2
       go_roundw
       case rel=>exact ⟨n+1,by omega,by go_num,hbC,by rw[HKE.out,List.length_append,flatF_append];simpa [flatF] using OW4.out⟩
       case measure=>simp [intOf];omega
     · have HKE:Hid ((kept (inP lo hi) fs (n+1))=(kept (inP lo hi) fs n)):=by
         show _=_
         rw[hke,if_neg (by simp[inP,q1,q2,q3])]
       clear hke hal hbA
       go_wp2
       go_roundw
       case rel=>exact ⟨n+1,by omega,by go_num,hB5,by rw[HKE.out];exact OW5.out⟩
       case measure=>simp [intOf];omega
   · obtain rfl:n=L:=by omega
     have HKA:Hid (FlsAt wr u7 (fs.filter (inP lo hi))):=by
       have h':=(flsAt_of_own OW.out).1
       rw[←HX.out,kept_all]at h'
       exact h'
     go_wp2
     go_ret
     exact⟨_,rfl,HKA.out,hb⟩
set_option maxRecDepth 100000 in
set_option maxHeartbeats 1000000 in
theorem find1_any (f:Fl) (p:ByteArray) (pb:Nat) (w:World) (hp:w.cell? ⟨pb,0,none⟩=some (.string p)) :
   Calls Tryz.prog 66 #[flV f,.pointer (some ⟨pb,0,none⟩)] w fun e w'=>e= .returned (.bool (decide (f.1=p)))∧Below w.heap.size w w':=by
 have hal:Below w.heap.size w (w.alloc (.cells #[.string f.1,.string f.2.1,.int .i64 f.2.2.1,.int .i64 f.2.2.2.1,.int .i64 f.2.2.2.2.1,.int .i64 f.2.2.2.2.2] 63)):=(Below.refl _ _).alloc (Nat.le_refl _) _
 have z0:=(FlAt.new w f).cells.1
 have hp2:=below_keep hal hp
 unfold flV
 obtain⟨fp,fq,fn,flo,fhi,fseq⟩:=f
 dsimp only at hal z0 hp2 ⊢
 by_cases he:fp=p
 · subst he
   have d1:(fp.toList == fp.toList)=true:=by simp
   rw[decide_eq_true rfl]
   go_enter Tryz.func66,Tryz.ntmps66
   go_upto_region 1 with fail
   generalize w.alloc (.cells #[.string fp,.string fq,.int .i64 fn,.int .i64 flo,.int .i64 fhi,.int .i64 fseq] 63)=WA at hal z0 hp2 ⊢
   go_wp2
   go_ret
   exact⟨rfl,hal⟩
 · have d1:(fp.toList == p.toList)=false:=neBB (fun e=>he (part_ext e))
   rw[decide_eq_false he]
   go_enter Tryz.func66,Tryz.ntmps66
   go_upto_region 1 with fail
   generalize w.alloc (.cells #[.string fp,.string fq,.int .i64 fn,.int .i64 flo,.int .i64 fhi,.int .i64 fseq] 63)=WA at hal z0 hp2 ⊢
   go_wp2
   go_ret
   exact⟨rfl,hal⟩
set_option maxRecDepth 100000 in
set_option maxHeartbeats 4000000 in
theorem indexF_any (v:Value) (fs:List Fl) (p:ByteArray) (pb:Nat) (w:World) (hx:FlsAt w v fs) (hl:fs.length≤20000) (hp:w.cell? ⟨pb,0,none⟩=some (.string p)) :
   Calls Tryz.prog 65 #[v,.func (.func 66) #[] #[.pointer (some ⟨pb,0,none⟩)]] w fun e w'=>e= .returned (.int .i64 (findF fs p))∧Below w.heap.size w w':=by
 have eg:∀args w,(callFunc 66 args).run Tryz.prog w= .ok (.enter 66 args) w:=enters_of Tryz.func66 (by kernel_rfl) rfl
 obtain⟨q,cap,rfl⟩:=hx.form
 have HFX:Hid (FlsAt w (.slice q fs.length cap) fs):=hx
 have HP:Hid (∀W,Below w.heap.size w W→W.cell? ⟨pb,0,none⟩=some (.string p)):=fun W hb=>below_keep hb hp
 obtain⟨L,hL⟩:∃L,fs.length=L:=⟨_,rfl⟩
 have HX:Hid (fs.length=L):=hL
 rw[hL]at hl ⊢
 generalize hR:findF fs p=R
 have HR:Hid (findF fs p=R):=hR
 clear hL hx hR hp
 go_enter Tryz.func65,Tryz.ntmps65
 go_wp2
 go_loopw [8] (fun k wr=> ∃n:Nat,n≤L∧k= .int .i64 n∧(∀j (h:j<fs.length),j<n→fs[j].1≠p)∧Below w.heap.size w wr) (fun k _=>L-(intOf k).toNat)
 case atStart=>exact ⟨0,by omega,rfl,fun j h h'=>absurd h' (Nat.not_lt_zero _),Below.refl _ _⟩
 case round =>
   obtain⟨n,hn,rfl,hno,hb⟩:=hrel
   have HNO:Hid (∀j (h:j<fs.length),j<n→fs[j].1≠p):=hno
   clear hno
   by_cases hlt:n<L
   · have hltx:n<fs.length:=by rw[HX.out];exact hlt
     obtain⟨b,o,hq,hc⟩:=(HFX.out.below hb).cells (fun e=>by rw[e]at hltx;simp at hltx)
     subst hq
     obtain⟨c0,c1,c2,c3,c4,c5⟩:=hc n hltx
     have hcl:=find1_any fs[n] p pb wr (HP.out wr hb)
     have hi:(n:Int)<(L:Int):=by omega
     have hi0':(0:Int)≤(n:Int):=by omega
     by_cases he:fs[n].1=p
     · have hRR:R=n:=by rw[←HR.out];exact findF_at hltx HNO.out he
       subst hRR
       rw[decide_eq_true he]at hcl
       unfold flV at hcl
       clear hc he
       generalize fs[n]=f at c0 c1 c2 c3 c4 c5 hcl
       clear hltx
       obtain⟨fp,fq,fn,flo,fhi,fseq⟩:=f
       dsimp only at c0 c1 c2 c3 c4 c5 hcl
       go_wp2_with (go_at_fn 66;refine hcl.mono ?_;rintro e w2 ⟨rfl,hb2⟩)
       go_ret
       exact⟨rfl,hb.trans (hb2.mono hb.size)⟩
     · have HN1:Hid (∀j (h:j<fs.length),j<n+1→fs[j].1≠p):=nopath_succ HNO.out hltx he
       rw[decide_eq_false he]at hcl
       unfold flV at hcl
       clear hc he
       generalize fs[n]=f at c0 c1 c2 c3 c4 c5 hcl
       clear hltx
       obtain⟨fp,fq,fn,flo,fhi,fseq⟩:=f
       dsimp only at c0 c1 c2 c3 c4 c5 hcl
       go_wp2_with (go_at_fn 66;refine hcl.mono ?_;rintro e w2 ⟨rfl,hb2⟩)
       have hb3:Below w.heap.size w w2:=hb.trans (hb2.mono hb.size)
       go_roundw
       case rel=>exact ⟨n+1,by omega,by go_num,HN1.out,hb3⟩
       case measure=>simp [intOf];omega
   · obtain rfl:n=L:=by omega
     have hRR:R= -1:=by rw[←HR.out];exact findF_no (fun j hj=>HNO.out j hj (by rw[←HX.out];exact hj))
     subst hRR
     go_wp2
     go_ret
     exact⟨rfl,hb⟩
set_option maxRecDepth 100000 in
set_option maxHeartbeats 1000000 in
theorem find_any (v:Value) (fs:List Fl) (p:ByteArray) (w:World) (hx:FlsAt w v fs) (hl:fs.length≤20000) :
   Calls Tryz.prog 24 #[v,.string p] w fun e w'=>e= .returned (.int .i64 (findF fs p))∧Below w.heap.size w w':=by
 have hal:Below w.heap.size w (w.alloc (.cells #[.string p] 9)):=(Below.refl _ _).alloc (Nat.le_refl _) _
 have hix:=indexF_any v fs p w.heap.size (w.alloc (.cells #[.string p] 9)) (hx.below hal) hl (by simp)
 obtain⟨q,cap,rfl⟩:=hx.form
 generalize fs.length=L at hix ⊢
 clear hx
 go_enter Tryz.func24,Tryz.ntmps24
 go_wp2_with fail
 refine hix.mono ?_
 rintro e w1 ⟨rfl,hb1⟩
 clear hix
 go_wp2
 go_ret
 exact⟨rfl,hal.trans (hb1.mono hal.size)⟩
end Go.Proofs.YtdhkdjlgmbejnaaGreatDoor
