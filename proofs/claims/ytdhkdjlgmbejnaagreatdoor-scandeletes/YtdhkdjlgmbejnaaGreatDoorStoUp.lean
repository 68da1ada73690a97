/- By an AI agent. -/
import Derived.Test.YtdhkdjlgmbejnaaGreatDoorGoneWalk
namespace Go.Proofs.YtdhkdjlgmbejnaaGreatDoor
open Go.RowKit Go.Extern.Stop Go.Stop Go.Extern Go.Sort Go.Shelf Go.Lib
set_option maxRecDepth 100000 in
set_option maxHeartbeats 2000000 in
theorem goneOf_full (v:Value) (zs:List Int) (w:World) (hz:KeysAt w v zs) (hl:zs.length≤1000) (hn:40<(riseZ zs).length) :
   Calls Tryz.prog 34 #[v] w fun e w'=>e= .returned (.tuple #[.string ⟨#[]⟩,.agg #[.int .i64 8,.int .i64 (-1)]])∧Below w.heap.size w w':=by
 have hi:(40:Int)<((riseZ zs).length:Int):=by omega
 have hf0:=FC.new w
 have hbr:=fun W=>bare_of 8 W
 have hal:Below w.heap.size w (w.alloc (.cells #[.int .i64 0,.int .i64 0] 46)):=(Below.refl _ _).alloc (Nat.le_refl _) _
 have hro:=risingOf_any v zs _ (hz.below hal) hl
 obtain⟨q0,c0,rfl⟩:=hz.form
 clear hz
 go_enter Tryz.func34,Tryz.ntmps34
 go_wp2_with fail
 refine hro.mono ?_
 rintro e w1 ⟨v1,rfl,hk1,hb1⟩
 clear hro
 obtain⟨q1,c1,rfl⟩:=hk1.form
 have hf1:=hf0.below hb1
 have hB1:Below w.heap.size w w1:=hal.trans (hb1.mono hal.size)
 clear hk1 hn hf0 hal hb1
 generalize (riseZ zs).length=L1 at hi ⊢
 go_wp2_with fail
 refine(hbr _).mono ?_
 rintro e w2 ⟨rfl,hb2⟩
 clear hbr
 have hf2:=hf1.below hb2
 have hB2:Below w.heap.size w w2:=hB1.trans (hb2.mono hB1.size)
 have j0:=hf2.c0
 have j1:=hf2.c1
 have jz:=hf2.fz
 clear hf1 hf2
 go_wp2
 refine bodyPost_ret (v:=.tuple #[.string ⟨#[]⟩,.agg #[.int .i64 8,.int .i64 (-1)]]) (by simp[results,Tryz.results34,go_sem,j0,j1]) rfl ⟨rfl,?_⟩
 exact(hB2.setCell (by simp) _).setCell (by simp) _
theorem klines_take (xs:List Int) (n:Nat) (h:n<xs.length):linesG goneK (xs.take (n+1))=linesG goneK (xs.take n)++(itoa xs[n]++ [10]):=by
 rw[←List.take_append_getElem h];exact linesG_snoc goneK _ _
set_option maxRecDepth 100000 in
set_option maxHeartbeats 4000000 in
theorem goneOf_any (v:Value) (zs:List Int) (w:World) (hz:KeysAt w v zs) (hl:zs.length≤1000) (hn40:(riseZ zs).length≤40)
   (m:Nat) (hm:m≤zs.length) (hgood:∀i (h:i<zs.length),i<m→inNum zs[i]=true) (hend:∀(h:m<zs.length),inNum zs[m]=false) :
   Calls Tryz.prog 34 #[v] w fun e w'=>(m=zs.length∧e= .returned (.tuple #[.string (bytesOf (goneF (riseZ zs))),.agg #[.int .i64 0,.int .i64 (-1)]])∧Below w.heap.size w w') ∨
     (m<zs.length∧e= .returned (.tuple #[.string ⟨#[]⟩,.agg #[.int .i64 2,.int .i64 m]])∧Below w.heap.size w w'):=by
 have HALL:Hid (m=zs.length→∀x∈riseZ zs,inNum x=true):=fun e x hxm=>by
   obtain⟨i,hi,e'⟩:=List.mem_iff_getElem.1 ((rise_mem zs x).1 hxm)
   rw[←e']
   exact hgood i hi (by omega)
 have hf0:=FC.new w
 have hal:Below w.heap.size w (w.alloc (.cells #[.int .i64 0,.int .i64 0] 46)):=(Below.refl _ _).alloc (Nat.le_refl _) _
 have hro:=risingOf_any v zs _ (hz.below hal) hl
 obtain⟨q,cap,rfl⟩:=hz.form
 obtain⟨L,hL⟩:∃L,zs.length=L:=⟨_,rfl⟩
 have HX:Hid (zs.length=L):=hL
 have HGOOD:Hid (∀i (h:i<zs.length),i<m→inNum zs[i]=true):=hgood
 have HEND:Hid (∀(h:m<zs.length),inNum zs[m]=false):=hend
 have HZZ:Hid (∀W,Below w.heap.size w W→KeysAt W (.slice q zs.length cap) zs):=fun W hW=>hz.below hW
 rw[hL]at hm hl HZZ
 have harg:(Value.slice q zs.length cap)= .slice q L cap:=by rw[hL]
 rw[harg]at hro ⊢
 obtain⟨L1,hL1⟩:∃L1,(riseZ zs).length=L1:=⟨_,rfl⟩
 have HL1:Hid ((riseZ zs).length=L1):=hL1
 rw[hL1]at hn40
 have hi40:¬(40:Int)<(L1:Int):=by omega
 clear hL hL1 hgood hend harg hz
 go_enter Tryz.func34,Tryz.ntmps34
 go_wp2_with fail
 generalize w.alloc (.cells #[.int .i64 0,.int .i64 0] 46)=w0 at hf0 hal hro ⊢
 refine hro.mono ?_
 rintro e w1 ⟨v1,rfl,hk1,hb1⟩
 clear hro
 obtain⟨q1,c1,hv1⟩:=hk1.form
 rw[HL1.out]at hv1
 subst hv1
 have HK1:Hid (KeysAt w1 (.slice q1 L1 c1) (riseZ zs)):=hk1
 have hf1:=hf0.below hb1
 have hB1:Below w.heap.size w w1:=hal.trans (hb1.mono hal.size)
 clear hk1 hf0 hal hb1
 go_wp2
 go_loopw [5] (fun k wr=> ∃n:Nat,n≤m∧k= .int .i64 n∧Below w1.heap.size w1 wr) (fun k _=>L-(intOf k).toNat)
 case atStart=>exact ⟨0,by omega,rfl,Below.refl _ _⟩
 case round =>
   obtain⟨n,hn,rfl,hb⟩:=hrel
   have hBr:Below w.heap.size w wr:=hB1.trans (hb.mono hB1.size)
   by_cases hlt:n<L
   · have hltx:n<zs.length:=by rw[HX.out];exact hlt
     rcases HZZ.out wr hBr with⟨_,_,e,e'⟩|⟨b,o,cap2,e,hcells⟩
     · exfalso;have:=HX.out;rw[e']at this;simp at this;omega
     injection e with e1 e2 e3
     subst e1
     clear e2 e3
     have d1:=hcells n hltx
     clear hcells
     have hi:(n:Int)<(L:Int):=by omega
     have hi0:(0:Int)≤(n:Int):=by omega
     have hre:=isFar_any zs[n] wr
     by_cases hltm:n<m
     · rw[HGOOD.out n hltx hltm]at hre
       generalize zs[n]=xk at d1 hre
       simp only[Bool.not_true]at hre
       go_wp2_with fail
       refine hre.mono ?_
       rintro e w2 ⟨rfl,rfl⟩
       clear hre
       go_wp2
       go_roundw
       case rel=>exact ⟨n+1,by omega,by go_num,hb⟩
       case measure=>simp [intOf];omega
     · have hnm:n=m:=by omega
       subst hnm
       rw[HEND.out hltx]at hre
       generalize zs[n]=xk at d1 hre
       simp only[Bool.not_false]at hre
       have hf2:=hf1.below hb
       have j0:=hf2.c0
       have j1:=hf2.c1
       have jz:=hf2.fz
       clear hf1 hf2
       go_wp2_with fail
       refine hre.mono ?_
       rintro e w2 ⟨rfl,rfl⟩
       clear hre d1
       go_wp2
       refine bodyPost_ret (v:=.tuple #[.string ⟨#[]⟩,.agg #[.int .i64 2,.int .i64 n]]) (by simp[results,Tryz.results34,go_sem,j0,j1]) rfl (Or.inr ⟨hltx,rfl,?_⟩)
       exact(hBr.setCell (by simp) _).setCell (by simp) _
   · have hn':n=L:=by omega
     subst hn'
     have hmL:m=n:=by omega
     have hall:=HALL.out (by rw[HX.out];exact hmL)
     have HOK:Hid (∀x∈riseZ zs,inNum x=true):=hall
     have HLL:Hid (∀k,(linesG goneK ((riseZ zs).take k)).length≤33*k):=fun k=>by
       have h1:=linesG_len gone_fine ((riseZ zs).take k) (fun x hxx=>hall x (List.mem_of_mem_take hxx))
       rw[List.length_take]at h1
       omega
     have hinE:=ends_inG gone_fine hall
     rw[keysG_gone]at hinE
     have HFL:Hid (bytesOf (headL (⟨#[103,111,110,101]⟩:ByteArray).data.toList (riseZ zs).length (endsZ (riseZ zs)).1 (endsZ (riseZ zs)).2 (sumL (linesG goneK (riseZ zs)))++10 :: linesG goneK (riseZ zs))=bytesOf (goneF (riseZ zs))):=by
       show _=_
       have e:goneF (riseZ zs)=headL kGone (riseZ zs).length (endsZ (keysG goneK (riseZ zs))).1 (endsZ (keysG goneK (riseZ zs))).2 (sumL (linesG goneK (riseZ zs)))++10 :: linesG goneK (riseZ zs):=rfl
       rw[e,keysG_gone]
       rfl
     have HKW:Hid (∀W,Below wr.heap.size wr W→KeysAt W (.slice q1 L1 c1) (riseZ zs)):=fun W hW=>(HK1.out.below hb).below hW
     clear hall
     generalize hSS:riseZ zs=S at HOK HLL HFL HKW HL1 hinE
     have HSS:Hid (riseZ zs=S):=hSS
     clear hSS
     have hfr:=hf1.below hb
     clear hf1
     generalize wr=w2 at *
     go_wp2
     go_loopw [7,8] (fun bd k w3=> ∃i:Nat,i≤L1∧k= .int .i64 i∧Below w2.heap.size w2 w3∧bd= .string (bytesOf (linesG goneK (S.take i)))) (fun _ k _=>L1-(intOf k).toNat)
     case atStart=>exact ⟨0,by omega,rfl,Below.refl _ _,rfl⟩
     case round =>
       obtain⟨i,hin,rfl,hb3,rfl⟩:=hrel
       by_cases hilt:i<L1
       · have hix:i<S.length:=by rw[HL1.out];exact hilt
         rcases HKW.out wr hb3 with⟨_,_,e,e'⟩|⟨b,o,cap2,e,hcells⟩
         · exfalso;rw[e']at hix;simp at hix
         injection e with e1 e2 e3
         subst e1
         clear e2 e3
         have d1:=hcells i hix
         clear hcells
         have hi:(i:Int)<(L1:Int):=by omega
         have hi0:(0:Int)≤(i:Int):=by omega
         have hr0:=HOK.out S[i] (List.getElem_mem _)
         have htl:(bytesOf (itoa S[i])).size≤32:=by rw[bytes_len];exact gone_fine.len _ hr0
         simp only[inNum,Bool.and_eq_true,decide_eq_true_eq]at hr0
         have hrt:=decimal_any S[i] wr (by omega) (by omega)
         have hbl:(bytesOf (linesG goneK (S.take i))).size≤33*i:=by rw[bytes_len];exact HLL.out i
         have HT:Hid (bytesOf (linesG goneK (S.take i))++bytesOf (itoa S[i])++⟨#[10]⟩=bytesOf (linesG goneK (S.take (i+1)))):=by
           show _=_
           apply part_ext
           rw[klines_take S i hix]
           simp[bytesOf,ByteArray.data_append]
         generalize bytesOf (linesG goneK (S.take i))=B0 at hbl HT ⊢
         generalize S[i]=x at d1 hrt htl HT
         generalize bytesOf (itoa x)=tx at hrt htl HT
         clear hix hr0
         go_wp2_with fail
         refine hrt.mono ?_
         rintro e w4 ⟨rfl,hg4⟩
         clear hrt
         have hb4:=hg4.below
         have hb5:Below w2.heap.size w2 w4:=hb3.trans (hb4.mono hb3.size)
         go_wp2
         go_roundw
         case rel=>exact ⟨i+1,by omega,by go_num,hb5,by rw[HT.out]⟩
         case measure=>simp [intOf];omega
       · have hin':i=L1:=by omega
         subst hin'
         have hta:S.take i=S:=List.take_of_length_le (by rw[HL1.out];exact Nat.le_refl _)
         have hll:=HLL.out i
         rw[hta]at hll ⊢
         have hB3:Below w.heap.size w wr:=hBr.trans (hb3.mono hBr.size)
         have hw5:=wholeText_any ⟨#[103,111,110,101]⟩ (by decide) (.slice q1 i c1) S (bytesOf (linesG goneK S)) wr (HKW.out wr hb3) (by rw[HL1.out];omega) (by rw[bytes_len];omega) (by have:=hinE.1;simp only[inNum,Bool.and_eq_true,decide_eq_true_eq]at this;omega) (by have:=hinE.2;simp only[inNum,Bool.and_eq_true,decide_eq_true_eq]at this;omega)
         have eBd:(bytesOf (linesG goneK S)).data.toList=linesG goneK S:=by simp[bytesOf]
         rw[eBd,HFL.out]at hw5
         generalize hTT:bytesOf (goneF S)=T at hw5
         have HTT:Hid (bytesOf (goneF S)=T):=hTT
         clear hTT
         generalize bytesOf (linesG goneK S)=BD at hw5 ⊢
         clear hta hll hinE eBd
         go_wp2_with fail
         refine hw5.mono ?_
         rintro e w6 ⟨rfl,hb6⟩
         clear hw5
         have hfin:=fine_of w6
         go_wp2_with fail
         refine hfin.mono ?_
         rintro e w7 ⟨rfl,hb7⟩
         clear hfin
         have hB6:Below w.heap.size w w6:=hB3.trans (hb6.mono hB3.size)
         have hB:Below w.heap.size w w7:=hB6.trans (hb7.mono hB6.size)
         have hf7:=((hfr.below hb3).below hb6).below hb7
         have j0:=hf7.c0
         have j1:=hf7.c1
         have jz:=hf7.fz
         clear hfr
         go_wp2
         refine bodyPost_ret (v:=.tuple #[.string T,.agg #[.int .i64 0,.int .i64 (-1)]]) (by simp[results,Tryz.results34,go_sem,j0,j1]) rfl (Or.inl ⟨by rw[HX.out];exact hmL,by rw[HSS.out,HTT.out],?_⟩)
         exact(hB.setCell (by simp) _).setCell (by simp) _
abbrev Pc:=ByteArray×ByteArray×ByteArray×List Rw×List Int×Int
structure PcHas (w:World) (b o:Nat) (vr vk:Value) (p:Pc):Prop where
 path:w.cell? ⟨b,o,none⟩=some (.string p.1)
 part:w.cell? ⟨b,o+1,none⟩=some (.string p.2.1)
 other:w.cell? ⟨b,o+2,none⟩=some (.string p.2.2.1)
 crow:w.cell? ⟨b,o+3,none⟩=some vr
 ckey:w.cell? ⟨b,o+4,none⟩=some vk
 seq:w.cell? ⟨b,o+5,none⟩=some (.int .i64 p.2.2.2.2.2)
 rows:RowsAt w vr p.2.2.2.1
 keys:KeysAt w vk p.2.2.2.2.1
theorem PcHas.below {w w':World} {b o:Nat} {vr vk:Value} {p:Pc} (h:PcHas w b o vr vk p) (hb:Below w.heap.size w w'):PcHas w' b o vr vk p :=
 ⟨below_keep hb h.path,below_keep hb h.part,below_keep hb h.other,below_keep hb h.crow,below_keep hb h.ckey,below_keep hb h.seq,h.rows.below hb,h.keys.below hb⟩
def PcsAt (w:World) (v:Value) (l:List Pc):Prop :=
 (∃p c,v= .slice p 0 c∧l= [])∨∃b o cap,v= .slice (some ⟨b,o,none⟩) l.length cap∧∀j (h:j<l.length),∃vr vk,PcHas w b (o+j*6) vr vk l[j]
theorem PcsAt.below {w w':World} {v:Value} {l:List Pc} (h:PcsAt w v l) (hb:Below w.heap.size w w'):PcsAt w' v l:=by
 rcases h with h | ⟨b,o,cap,hv,hc⟩
 · exact Or.inl h
 · exact Or.inr ⟨b,o,cap,hv,fun j hj=>by
     obtain⟨vr,vk,h⟩:=hc j hj
     exact⟨vr,vk,h.below hb⟩⟩
theorem PcsAt.form {w:World} {v:Value} {l:List Pc} (h:PcsAt w v l):∃p c,v= .slice p l.length c:=by
 rcases h with⟨p,c,rfl,rfl⟩|⟨b,o,cap,rfl,_⟩
 · exact⟨_,_,rfl⟩
 · exact⟨_,_,rfl⟩
theorem PcsAt.cells {w:World} {q:Option Addr} {n c:Nat} {l:List Pc} (h:PcsAt w (.slice q n c) l) (hne:l≠ []):∃b o,q=some ⟨b,o,none⟩∧∀j (h:j<l.length),∃vr vk,PcHas w b (o+j*6) vr vk l[j]:=by
 rcases h with⟨_,_,_,e⟩|⟨b,o,cap,e,hc⟩
 · exact absurd e hne
 · simp only[Value.slice.injEq]at e
   exact⟨b,o,e.1,hc⟩
def pcLong (p:Pc):Bool:=decide (20<p.1.size) || (decide (20<p.2.1.size) || (decide (200<p.2.2.1.size) || (longB 30 p.2.2.2.1 || decide (30<p.2.2.2.2.1.length))))
def pcsLong (l:List Pc):Bool:=decide (15<l.length) || l.any pcLong
theorem pc_short {p:Pc} (h:pcLong p=false):p.1.size≤20∧p.2.1.size≤20∧p.2.2.1.size≤200∧p.2.2.2.1.length≤30∧(∀x∈p.2.2.2.1,x.1.size≤30)∧p.2.2.2.2.1.length≤30:=by
 unfold pcLong longB at h
 simp only[Bool.or_eq_false_iff,decide_eq_false_iff_not,List.any_eq_false,decide_eq_true_eq]at h
 obtain⟨h1,h2,h3,⟨h4,h5⟩,h6⟩:=h
 exact⟨by omega,by omega,by omega,by omega,fun x hx=>by have:=h5 x hx;omega,by omega⟩
theorem pcs_short {l:List Pc} (h:pcsLong l=false):l.length≤15∧∀p∈l,pcLong p=false:=by
 unfold pcsLong at h
 simp only[Bool.or_eq_false_iff,decide_eq_false_iff_not,List.any_eq_false]at h
 exact⟨by omega,fun p hp=>by simpa using h.2 p hp⟩
def PcOk (p:Pc):Prop:=p.1.size≤maxLen∧p.2.1.size≤maxLen∧p.2.2.1.size≤maxLen∧p.2.2.2.1.length≤maxLen∧p.2.2.2.2.1.length≤maxLen
set_option maxRecDepth 100000 in
set_option maxHeartbeats 4000000 in
theorem longPieces_any (v:Value) (l:List Pc) (w:World) (h:PcsAt w v l) (hl:l.length≤maxLen) (hz:∀p∈l,PcOk p) :
   Calls Tryz.prog 7 #[v] w fun e w'=>e= .returned (.bool (pcsLong l))∧w'=w:=by
 unfold maxLen at hl
 obtain⟨q,cap,rfl⟩:=h.form
 have HA:Hid (PcsAt w (.slice q l.length cap) l):=h
 have HZ:Hid (∀p∈l,PcOk p):=hz
 obtain⟨L,hL⟩:∃L,l.length=L:=⟨_,rfl⟩
 have HX:Hid (l.length=L):=hL
 rw[hL]at hl ⊢
 generalize hR:pcsLong l=R
 have HR:Hid (pcsLong l=R):=hR
 clear hL h hR hz
 by_cases h15:15<L
 · have h15':(15:Int)<(L:Int):=by omega
   have e:R=true:=by rw[←HR.out];unfold pcsLong;rw[HX.out];simp[h15]
   subst e
   go_enter Tryz.func7,Tryz.ntmps7
   go_wp2
   go_ret
   exact⟨rfl,rfl⟩
 have h15':¬(15:Int)<(L:Int):=by omega
 go_enter Tryz.func7,Tryz.ntmps7
 go_wp2
 go_loop [3] (fun k=> ∃m:Nat,m≤L∧k= .int .i64 m∧∀i (h:i<l.length),i<m→pcLong l[i]=false) (fun k=>L-(intOf k).toNat)
 case atStart=>exact ⟨0,by omega,rfl,fun i h h'=>absurd h' (Nat.not_lt_zero _)⟩
 case round =>
   obtain⟨m,hm,rfl,hno⟩:=hrel
   have HNO:Hid (∀i (h:i<l.length),i<m→pcLong l[i]=false):=hno
   clear hno
   by_cases hlt:m<L
   · have hltx:m<l.length:=by rw[HX.out];exact hlt
     obtain⟨g,o,hq,hc⟩:=HA.out.cells (fun e=>by rw[e]at hltx;simp at hltx)
     subst hq
     obtain⟨vr,vk,hp⟩:=hc m hltx
     have hzm:=HZ.out _ (List.getElem_mem hltx)
     have hi:(m:Int)<(L:Int):=by omega
     have hi0:(0:Int)≤(m:Int):=by omega
     have HT:Hid (pcLong l[m]=true→R=true):=fun e=>by
       show R=true
       rw[←HR.out]
       unfold pcsLong
       rw[Bool.or_eq_true]
       exact Or.inr (List.any_eq_true.2 ⟨_,List.getElem_mem hltx,e⟩)
     have HF:Hid (pcLong l[m]=false→∀i (h:i<l.length),i<m+1→pcLong l[i]=false):=fun e i hi him=>by
       by_cases e':i=m
       · subst e';exact e
       · exact HNO.out i hi (by omega)
     generalize l[m]=p at *
     obtain⟨z1,z2,z3,z4,z5⟩:=hzm
     unfold maxLen at z1 z2 z3 z4 z5
     have HD:Hid (pcLong p=(decide (20<p.1.size) || (decide (20<p.2.1.size) || (decide (200<p.2.2.1.size) || (longB 30 p.2.2.2.1 || decide (30<p.2.2.2.2.1.length)))))):=rfl
     generalize pcLong p=T at HT HF HD
     have c0:=hp.path
     have c1:=hp.part
     have c2:=hp.other
     have c3:=hp.crow
     have c4:=hp.ckey
     have hlr:=longRows_any vr p.2.2.2.1 30 w hp.rows (by unfold maxLen;omega) (by omega)
     obtain⟨kq,kc,hk⟩:∃q c,vk= .slice q p.2.2.2.2.1.length c:=by
       rcases hp.keys with⟨q,c,h1,h2⟩|⟨b,o,c,h1,_⟩
       · exact⟨q,c,by rw[h1,h2];rfl⟩
       · exact⟨_,_,h1⟩
     subst hk
     generalize p.2.2.2.2.1.length=n5 at *
     generalize p.1=s1 at *
     generalize p.2.1=s2 at *
     generalize p.2.2.1=s3 at *
     generalize p.2.2.2.1=rs at *
     clear hc hltx hp
     by_cases h1:20<s1.size
     · have h1':(20:Int)<(s1.size:Int):=by omega
       have e:R=true:=HT.out (by rw[HD.out];simp[h1])
       subst e
       clear hlr
       go_wp2
       go_ret
       exact⟨rfl,rfl⟩
     have h1':¬(20:Int)<(s1.size:Int):=by omega
     by_cases h2:20<s2.size
     · have h2':(20:Int)<(s2.size:Int):=by omega
       have e:R=true:=HT.out (by rw[HD.out];simp[h2])
       subst e
       clear hlr
       go_wp2
       go_ret
       exact⟨rfl,rfl⟩
     have h2':¬(20:Int)<(s2.size:Int):=by omega
     by_cases h3:200<s3.size
     · have h3':(200:Int)<(s3.size:Int):=by omega
       have e:R=true:=HT.out (by rw[HD.out];simp[h3])
       subst e
       clear hlr
       go_wp2
       go_ret
       exact⟨rfl,rfl⟩
     have h3':¬(200:Int)<(s3.size:Int):=by omega
     by_cases h4:longB 30 rs=true
     · rw[longN_yes h4]at hlr
       have e:R=true:=HT.out (by rw[HD.out];simp[h4])
       subst e
       go_wp2_with fail
       refine hlr.mono ?_
       rintro e w' ⟨rfl,rfl⟩
       clear hlr
       go_wp2
       go_ret
       exact⟨rfl,rfl⟩
     rw[longN_no (by simpa using h4)]at hlr
     by_cases h5:30<n5
     · have h5':(30:Int)<(n5:Int):=by omega
       have e:R=true:=HT.out (by rw[HD.out];simp[h5])
       subst e
       go_wp2_with fail
       refine hlr.mono ?_
       rintro e w' ⟨rfl,rfl⟩
       clear hlr
       go_wp2
       go_ret
       exact⟨rfl,rfl⟩
     have h5':¬(30:Int)<(n5:Int):=by omega
     have HN2:Hid (∀i (h:i<l.length),i<m+1→pcLong l[i]=false):=HF.out (by rw[HD.out];simp[h1,h2,h3,h4,h5])
     clear HT HF HD
     go_wp2_with fail
     refine hlr.mono ?_
     rintro e w' ⟨rfl,rfl⟩
     clear hlr
     go_wp2
     go_round
     case rel=>exact ⟨m+1,by omega,by go_num,HN2.out⟩
     case measure=>simp [intOf];omega
   · obtain rfl:m=L:=by omega
     have e:R=false:=by
       rw[←HR.out]
       unfold pcsLong
       simp only[Bool.or_eq_false_iff,decide_eq_false_iff_not,List.any_eq_false]
       refine⟨by rw[HX.out];exact h15,fun p hp=>?_⟩
       obtain⟨i,hi,rfl⟩:=List.mem_iff_getElem.1 hp
       rw[HNO.out i hi (by rw[←HX.out];exact hi)]
       simp
     subst e
     go_wp2
     go_ret
     exact⟨rfl,rfl⟩
theorem first_not {α:Type} (f:α→Bool) (xs:List α):∃m,m≤xs.length∧(∀i (h:i<xs.length),i<m→f xs[i]=true)∧∀h:m<xs.length,f xs[m]=false:=by
 induction xs with
 | nil=>exact ⟨0,Nat.le_refl _,fun i h=>absurd h (Nat.not_lt_zero _),fun h=>absurd h (Nat.not_lt_zero _)⟩
 | cons x r ih =>
   cases hx:f x with
   | false=>exact ⟨0,Nat.zero_le _,fun i _ h=>absurd h (Nat.not_lt_zero _),fun _=>hx⟩
   | true =>
     obtain⟨m,h1,h2,h3⟩:=ih
     refine⟨m+1,by simp;omega,fun i h h'=>?_,fun h=>?_⟩
     · cases i with
       | zero=>exact hx
       | succ i=>exact h2 i (by simpa using h) (by omega)
     · exact h3 (by simpa using h)
theorem dataOf_tot (v:Value) (xs:List Rw) (w:World) (hx:RowsAt w v xs) (hl:xs.length≤40) (hp:∀x∈xs,x.1.size≤30) :
   Calls Tryz.prog 33 #[v] w fun e w'=> ∃x y:Int,e= .returned (.tuple #[.string (dataT xs),.agg #[.int .i64 x,.int .i64 y]])∧Below w.heap.size w w':=by
 obtain⟨q,cap,rfl⟩:∃q c,v= .slice q xs.length c:=by
   rcases hx with⟨q,c,h1,h2⟩|⟨b,o,c,h1,_⟩
   · exact⟨q,c,by rw[h1,h2];rfl⟩
   · exact⟨_,_,h1⟩
 obtain⟨m,hm,h1,h2⟩:=first_not (fun x:Rw=>decide (rowE x=0)) xs
 refine(dataOf_any q cap xs w hx hl hp m hm (fun i h h'=>by simpa using h1 i h h') (fun h=>by simpa using h2 h)).mono ?_
 rintro e w' (⟨e1,e2,hb⟩|⟨h,e2,hb⟩)
 · refine⟨0,-1,?_,hb⟩
   rw[e2]
   unfold dataT
   rw[if_pos]
   rw[List.all_eq_true]
   intro x hx'
   obtain⟨i,hi,rfl⟩:=List.mem_iff_getElem.1 hx'
   exact h1 i hi (by omega)
 · refine⟨(rowE xs[m]:Nat),(m:Nat),?_,hb⟩
   rw[e2]
   unfold dataT
   rw[if_neg]
   intro ha
   rw[List.all_eq_true]at ha
   have h3:=h2 h
   rw[ha _ (List.getElem_mem h)]at h3
   cases h3
theorem goneOf_tot (v:Value) (zs:List Int) (w:World) (hz:KeysAt w v zs) (hl:zs.length≤40) :
   Calls Tryz.prog 34 #[v] w fun e w'=> ∃x y:Int,e= .returned (.tuple #[.string (goneT zs),.agg #[.int .i64 x,.int .i64 y]])∧Below w.heap.size w w':=by
 obtain⟨m,hm,h1,h2⟩:=first_not inNum zs
 refine(goneOf_any v zs w hz (by omega) (Nat.le_trans (rise_len zs) hl) m hm h1 h2).mono ?_
 rintro e w' (⟨e1,e2,hb⟩|⟨h,e2,hb⟩)
 · refine⟨0,-1,?_,hb⟩
   rw[e2]
   unfold goneT
   rw[if_pos]
   rw[List.all_eq_true]
   intro x hx'
   obtain⟨i,hi,rfl⟩:=List.mem_iff_getElem.1 hx'
   exact h1 i hi (by omega)
 · refine⟨2,(m:Nat),?_,hb⟩
   rw[e2]
   unfold goneT
   rw[if_neg]
   intro ha
   rw[List.all_eq_true]at ha
   have h3:=h2 h
   rw[ha _ (List.getElem_mem h)]at h3
   cases h3
def upE (EM:World→Prop) (n:Nat) (W:World):Prop:=EM W∧n≤W.heap.size
section
variable {a : Nat → Addr} {B : Nat} {EM : World → Prop} {SAt : World → Value → (Nat → Prop) → St → Prop}
theorem StoreK.up (K:StoreK a B EM SAt) {n:Nat} (h:B≤n):StoreK a n (upE EM n) SAt where
 below:=fun W W' hE hb=>⟨K.below W W' hE.1 (hb.mono h),Nat.le_trans hE.2 hb.size⟩
 size:=fun _ hE=>hE.2
 ptr:=K.ptr
 lt:=K.lt
 keep:=K.keep
 new:=fun W hE=>K.new W hE.1
 put:=fun W v FP s n t hE=>K.put W v FP s n t hE.1
 get:=fun W v FP s n hE=>K.get W v FP s n hE.1
end
end Go.Proofs.YtdhkdjlgmbejnaaGreatDoor
