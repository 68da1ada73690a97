/- By an AI agent. -/
import Derived.Test.YtdhkdjlgmbejnaaGreatDoorDataRead
import Derived.Maps.AppendAt
import Derived.Deep.Onto
namespace Go.Proofs.YtdhkdjlgmbejnaaGreatDoor
open Go.RowKit Go.Extern.Stop Go.Stop Go.Extern Go.Sort Go.Shelf Go.Lib
def strLen:Value→Nat
 | .string s=>s.size
 | _=>0
def stepE {β:Type} (k:FK β) (acc:List β) (l:List UInt8):Nat:=if (k.rd l).2≠0 then (k.rd l).2 else if acc≠ []∧k.bad (k.rd l).1 (acc.getLastD k.d)=true then 9 else 0
theorem rowsG_step {β:Type} (k:FK β) (l:List UInt8) (r:List (List UInt8)) (hr:r≠ []) (at_:Nat) (acc:List β):rowsG k (l :: r) at_ acc=if stepE k acc l≠0 then ([],stepE k acc l,at_) else rowsG k r (at_+1) (acc++ [(k.rd l).1]):=by
 obtain⟨l2,r2,rfl⟩:=List.exists_cons_of_ne_nil hr
 rw[rowsG_cons]
 unfold stepE
 by_cases h1:(k.rd l).2≠0
 · simp only[if_pos h1]
 · simp only[if_neg h1]
   by_cases h2:acc≠ []∧k.bad (k.rd l).1 (acc.getLastD k.d)=true
   · simp only[if_pos h2];rfl
   · simp only[if_neg h2];rfl
structure Taker {β:Type} (k:FK β) (a:Nat→Addr) (En:World→Prop) (F bl B P Q:Nat) (Inv:World→List β→Prop):Prop where
 env:∀ {W:World},En W→EnvD0 W a
 ent:∀args w,(callFunc F args).run Tryz.prog w= .ok (.enter F args) w
 low:B≤P
 keep:∀ {W W':World} {acc:List β},Inv W acc→Below W.heap.size W W'→Inv W' acc
 set:∀ {W:World} {acc:List β} (j o:Nat) (u:Value),P≤j→j<Q→Inv W acc→Inv (W.setCell ⟨j,o,none⟩ u) acc
 take :∀(W:World) (line:ByteArray) (acc:List β),En W→Inv W acc→Q≤W.heap.size→line.size≤100000→acc.length≤100000 →
   Calls Tryz.prog F #[.string line,.pointer (some ⟨bl,0,none⟩)] W fun e w'=>Below B W w'∧(∀j,P≤j→j<Q→w'.heap[j]? =W.heap[j]?) ∧
     ((stepE k acc line.data.toList≠0∧e= .returned (.tuple #[.int .i64 0,errV a (stepE k acc line.data.toList)])∧Inv w' acc) ∨
      (stepE k acc line.data.toList=0∧e= .returned (.tuple #[.int .i64 (k.key (k.rd line.data.toList).1),.nilIface])∧Inv w' (acc++ [(k.rd line.data.toList).1])))
def FunAt (W:World) (t F bl:Nat):Prop:=W.heap[t]? =some (.cells #[.func (.func F) #[] #[.pointer (some ⟨bl,0,none⟩)]] 180 (0,0))
theorem FunAt.cell {W:World} {t F bl:Nat} (h:FunAt W t F bl):W.cell? ⟨t,0,none⟩=some (.func (.func F) #[] #[.pointer (some ⟨bl,0,none⟩)]):=cell_of_one h
theorem FunAt.below {W W':World} {t F bl:Nat} (h:FunAt W t F bl) (hb:Below W.heap.size W W'):FunAt W' t F bl:=by
 unfold FunAt at *
 exact(hb.block t (lt_of_block h)).trans h
set_option maxRecDepth 100000 in
set_option maxHeartbeats 2000000 in
theorem line1_any {β:Type} {k:FK β} {a:Nat→Addr} {En:World→Prop} {F bl B P Q:Nat} {Inv:World→List β→Prop} (T:Taker k a En F bl B P Q Inv) (t g:Nat) (line:ByteArray) (acc:List β) (W:World) (hE:En W) (hI:Inv W acc) (hQ:Q≤W.heap.size) (hF:FunAt W t F bl) (hH:HeadAt W g acc.length (endsZ (keysG k acc))) (ht:P≤t∧t<Q) (hg:P≤g∧g<Q) (htg:t≠g) (hs:line.size≤100000) (hl:acc.length≤100000) :
   Calls Tryz.prog 233 #[.string line,.pointer (some ⟨t,0,none⟩),.pointer (some ⟨g,0,none⟩)] W fun e w'=>Below B W w'∧FunAt w' t F bl∧(∀j,P≤j→j<Q→j≠g→w'.heap[j]? =W.heap[j]?) ∧
     ((stepE k acc line.data.toList≠0∧e= .returned (errV a (stepE k acc line.data.toList))) ∨
      (stepE k acc line.data.toList=0∧e= .returned .nilIface∧Inv w' (acc++ [(k.rd line.data.toList).1])∧HeadAt w' g (acc.length+1) (endsZ (keysG k (acc++ [(k.rd line.data.toList).1]))))):=by
 have eg:=T.ent
 have htk:=T.take W line acc hE hI hQ hs hl
 have hc:=hF.cell
 have hBg:B≤g:=Nat.le_trans T.low hg.1
 have HFA:Hid (FunAt W t F bl):=hF
 have HHA:Hid (HeadAt W g acc.length (endsZ (keysG k acc))):=hH
 have HKE:Hid (endsZ (keysG k (acc++ [(k.rd line.data.toList).1]))=endsP acc.length (endsZ (keysG k acc)) (k.key (k.rd line.data.toList).1)):=by
   show _=_
   have:=ends_more (keysG k acc) (k.key (k.rd line.data.toList).1)
   rw[show (keysG k acc).length=acc.length by simp[keysG]]at this
   rw[←this]
   simp[keysG]
 have HT:Hid (Taker k a En F bl B P Q Inv):=T
 clear hF hH hI T
 obtain⟨E,hEE⟩:∃E,stepE k acc line.data.toList=E:=⟨_,rfl⟩
 rw[hEE]at htk
 simp only[hEE]
 clear hEE
 obtain⟨x,hx⟩:∃x,(k.rd line.data.toList).1=x:=⟨_,rfl⟩
 rw[hx]at htk HKE
 simp only[hx]
 clear hx
 by_cases hE0:E=0
 · subst hE0
   have htk2:Calls Tryz.prog F #[.string line,.pointer (some ⟨bl,0,none⟩)] W fun e w'=>e= .returned (.tuple #[.int .i64 (k.key x),.nilIface])∧Below B W w'∧(∀j,P≤j→j<Q→w'.heap[j]? =W.heap[j]?)∧Inv w' (acc++ [x]):=htk.mono fun e w' ⟨h1,h2,h3⟩=>by
     rcases h3 with⟨h,_⟩|⟨_,h,h'⟩
     · exact absurd rfl h
     · exact⟨h,h1,h2,h'⟩
   clear htk
   generalize k.key x=key at htk2 HKE
   go_enter Tryz.func233,Tryz.ntmps233
   go_wp2_with (go_at_fn F;refine htk2.mono ?_;rintro e w1 ⟨rfl,hb1,hfr,hI1⟩)
   clear htk2
   have hFA1:FunAt w1 t F bl:=by have:=HFA.out;unfold FunAt at *;rw[hfr t ht.1 ht.2];exact this
   have hHA1:HeadAt w1 g acc.length (endsZ (keysG k acc)):=by have:=HHA.out;unfold HeadAt at *;rw[hfr g hg.1 hg.2];exact this
   have HFR:Hid (∀j,P≤j→j<Q→w1.heap[j]? =W.heap[j]?):=hfr
   have HF1:Hid (FunAt w1 t F bl):=hFA1
   have hct:=count_any g acc.length (endsZ (keysG k acc)) key w1 hHA1 hl
   have HI1:Hid (Inv w1 (acc++ [x])):=hI1
   have HH1:Hid (HeadAt w1 g acc.length (endsZ (keysG k acc))):=hHA1
   clear hfr hFA1 hc hHA1 hI1
   refine hct.mono ?_
   rintro e w2 ⟨rfl,rfl⟩
   clear hct
   go_wp2
   go_ret
   refine⟨headW_below hb1 hBg,?_,fun j h1 h2 h3=>?_,Or.inr ⟨by first | rfl | trivial,rfl,?_,?_⟩⟩
   · have:=HF1.out
     unfold FunAt at *
     rw[headW_other _ _ _ _ _ htg];exact this
   · rw[headW_other _ _ _ _ _ h3];exact HFR.out j h1 h2
   · exact HT.out.set g 0 _ hg.1 hg.2 (HT.out.set g 2 _ hg.1 hg.2 (HT.out.set g 1 _ hg.1 hg.2 HI1.out))
   · rw[HKE.out];exact headW_at HH1.out
 · obtain⟨E',hE'⟩:∃E',E=E'+1:=⟨E-1,by omega⟩
   subst hE'
   have htk2:Calls Tryz.prog F #[.string line,.pointer (some ⟨bl,0,none⟩)] W fun e w'=>e= .returned (.tuple #[.int .i64 0,.iface 327 (.pointer (some (a E')))])∧Below B W w'∧(∀j,P≤j→j<Q→w'.heap[j]? =W.heap[j]?):=htk.mono fun e w' ⟨h1,h2,h3⟩=>by
     rcases h3 with⟨_,h,_⟩|⟨h,_⟩
     · exact⟨h,h1,h2⟩
     · exact absurd h hE0
   clear htk
   simp only[errV]
   go_enter Tryz.func233,Tryz.ntmps233
   go_wp2_with (go_at_fn F;refine htk2.mono ?_;rintro e w1 ⟨rfl,hb1,hfr⟩)
   clear htk2
   have hFA1:FunAt w1 t F bl:=by have:=HFA.out;unfold FunAt at *;rw[hfr t ht.1 ht.2];exact this
   go_ret
   exact⟨hb1,hFA1,fun j h1 h2 _=>hfr j h1 h2,Or.inl ⟨hE0,rfl⟩⟩
def LinesPost {β:Type} (k:FK β) (W:World) (a:Nat→Addr) (B P Q g:Nat) (Inv:World→List β→Prop) (R:List β×Nat×Nat) (e:Ending) (w':World):Prop :=
 Below B W w'∧(∀j,P≤j→j<Q→j≠g→w'.heap[j]? =W.heap[j]?)∧((R.2.1=0∧e= .returned .nilIface∧Inv w' R.1∧HeadAt w' g R.1.length (endsZ (keysG k R.1))) ∨
   (R.2.1≠0∧∃fb,e= .returned (.iface 92 (.pointer (some ⟨fb,0,none⟩)))∧w'.cell? ⟨fb,0,none⟩=some (.int .i64 R.2.2)∧w'.cell? ⟨fb,1,none⟩=some (errV a R.2.1)))
theorem frame_below {B W w w' P Q g} (_:Below B W w) (h:∀j,P≤j→j<Q→j≠g→w.heap[j]? =W.heap[j]?) (hQ:Q≤w.heap.size) (hb:Below w.heap.size w w'):∀j,P≤j→j<Q→j≠g→w'.heap[j]? =W.heap[j]? :=
 fun j h1 h2 h3=>(hb.block j (Nat.lt_of_lt_of_le h2 hQ)).trans (h j h1 h2 h3)
set_option maxRecDepth 100000 in
set_option maxHeartbeats 8000000 in
theorem eachLine_any {β:Type} {k:FK β} {a:Nat→Addr} {En:World→Prop} {F bl B P Q:Nat} {Inv:World→List β→Prop} (T:Taker k a En F bl B P Q Inv) (t g:Nat) (body:ByteArray) (W:World) (hlowE:∀W',Below B W W'→En W') (hI:Inv W []) (hQ:Q≤W.heap.size) (hBW:B≤W.heap.size) (hF:FunAt W t F bl) (hH:HeadAt W g 0 (0,0)) (ht:P≤t∧t<Q) (hg:P≤g∧g<Q) (htg:t≠g) (hs:body.size≤20000) :
   Calls Tryz.prog 232 #[.string body,.func (.func 233) #[] #[.pointer (some ⟨t,0,none⟩),.pointer (some ⟨g,0,none⟩)]] W fun e w'=>LinesPost k W a B P Q g Inv (rowsG k (pieces 10 body.data.toList) 0 []) e w':=by
 have eg:∀args w,(callFunc 233 args).run Tryz.prog w= .ok (.enter 233 args) w:=enters_of Tryz.func233 (by kernel_rfl) rfl
 obtain⟨R,hR⟩:∃R,rowsG k (pieces 10 body.data.toList) 0 []=R:=⟨_,rfl⟩
 rw[hR]
 have HR:Hid (rowsG k (pieces 10 body.data.toList) 0 []=R):=hR
 clear hR
 have HT:Hid (Taker k a En F bl B P Q Inv):=T
 have hHn:HeadAt W g ([]:List β).length (endsZ (keysG k [])):=hH
 clear T hH
 go_enter Tryz.func232,Tryz.ntmps232
 go_wp2
 go_loopw [0,5] (fun sv n wr=> ∃(rest:ByteArray) (acc:List β),sv= .string rest∧n= .int .i64 acc.length∧rest.size+acc.length≤20000∧Below B W wr∧(∀j,P≤j→j<Q→j≠g→wr.heap[j]? =W.heap[j]?)∧Inv wr acc∧FunAt wr t F bl∧HeadAt wr g acc.length (endsZ (keysG k acc))∧rowsG k (pieces 10 rest.data.toList) acc.length acc=R) (fun sv _ _=>strLen sv)
 case atStart=>exact ⟨body, [],rfl,rfl,by simpa using hs,Below.refl _ _,fun _ _ _ _=>rfl,hI,hF,hHn,HR.out⟩
 case round =>
   clear hI hF hHn
   obtain⟨rest,acc,rfl,rfl,hsz,hb,hfr,hIr,hFr,hHr,hrec⟩:=hrel
   have HREC:Hid (rowsG k (pieces 10 rest.data.toList) acc.length acc=R):=hrec
   have HFR:Hid (∀j,P≤j→j<Q→j≠g→wr.heap[j]? =W.heap[j]?):=hfr
   clear hrec HR hfr
   have hEr:=hlowE wr hb
   have hQr:Q≤wr.heap.size:=Nat.le_trans hQ hb.size
   have hBr:B≤wr.heap.size:=Nat.le_trans hBW hb.size
   obtain⟨n,hn⟩:∃n,acc.length=n:=⟨_,rfl⟩
   have HN:Hid (acc.length=n):=hn
   rw[hn]at hsz
   simp only[hn]
   clear hn
   by_cases he:rest.size=0
   · have hre:rest.data.toList= []:=List.length_eq_zero_iff.1 (by rw[size_list];exact he)
     have hbe:(rest.toList == [])=true:=eqB_of hre
     have HRE:Hid (R=(acc,0,0)):=by
       show _=_
       rw[←HREC.out,hre];rfl
     have HIr:Hid (Inv wr acc∧HeadAt wr g acc.length (endsZ (keysG k acc))):=⟨hIr,hHr⟩
     clear hre hIr hHr hFr
     go_wp2
     go_ret
     refine⟨hb,HFR.out,Or.inl ⟨by rw[HRE.out],rfl,?_,?_⟩⟩
     · rw[HRE.out];exact HIr.out.1
     · rw[HRE.out];exact HIr.out.2
   · have hne:rest.data.toList≠ []:=fun e=>he (by rw[←size_list,e];rfl)
     have hbe:(rest.toList == [])=false:=neB_of hne
     obtain⟨mx,hmx⟩:=(HT.out.env hEr).env.maxl
     have hcut:=Tryz.strings_Cut rest ⟨#[10]⟩ mx wr (by omega) hmx
     dsimp only at hcut
     rcases cut_cases 10 rest.data.toList with⟨hno,hc⟩|⟨la,lb,hl,hno,hc⟩
     · rw[hc]at hcut
       dsimp only at hcut
       have HRE:Hid (R=([],1,n)):=by
         show _=_
         rw[←HREC.out,pieces_none 10 _ hno,rowsG_one,if_neg hne,HN.out]
       clear hc hno hne hIr hHr hFr
       generalize (⟨rest.data.toList.toArray⟩:ByteArray)=fB at hcut
       go_wp2_with fail
       refine hcut.mono ?_
       rintro e w1 ⟨rfl,q,rfl⟩
       clear hcut
       have hbq:Below wr.heap.size wr (wr.drewN q):=below_drewN (Below.refl _ _) q
       have hb1:Below B W (wr.drewN q):=hb.trans (hbq.mono hBr)
       have HF1:Hid (∀j,P≤j→j<Q→j≠g→(wr.drewN q).heap[j]? =W.heap[j]?):=frame_below hb HFR.out hQr hbq
       have ht:=(HT.out.env (hlowE _ hb1)).env.text
       have hQ1:Q≤(wr.drewN q).heap.size:=Nat.le_trans hQ hb1.size
       clear hEr hmx hbq
       generalize wr.drewN q=W1 at hb1 ht HF1 hQ1 ⊢
       have hal:Below W1.heap.size W1 (W1.alloc (.cells #[.int .i64 n,.iface 327 (.pointer (some (a 0)))] 94)):=(Below.refl _ _).alloc (Nat.le_refl _) _
       have hb2:Below B W (W1.alloc (.cells #[.int .i64 n,.iface 327 (.pointer (some (a 0)))] 94)):=hb1.trans (hal.mono (Nat.le_trans hBW hb1.size))
       have HF2:Hid (∀j,P≤j→j<Q→j≠g→(W1.alloc (.cells #[.int .i64 n,.iface 327 (.pointer (some (a 0)))] 94)).heap[j]? =W.heap[j]?):=frame_below hb1 HF1.out hQ1 hal
       go_wp2
       go_ret
       exact⟨hb2,HF2.out,Or.inr ⟨by rw[HRE.out];exact Nat.one_ne_zero,W1.heap.size,rfl,by rw[HRE.out];simp,by rw[HRE.out];simp[errV]⟩⟩
     · rw [hc]at hcut
       dsimp only at hcut
       have hlen:la.length+lb.length+1=rest.size:=by rw[←size_list,hl];simp;omega
       have hrw:R=if stepE k acc la≠0 then ([],stepE k acc la,n) else rowsG k (pieces 10 lb) (n+1) (acc++ [(k.rd la).1]):=by
         rw[←HREC.out,hl,pieces_append 10 la lb hno,rowsG_step k la _ (pieces_ne 10 lb),HN.out]
       have eA:(⟨la.toArray⟩:ByteArray)=bytesOf la:=rfl
       have eB:(⟨lb.toArray⟩:ByteArray)=bytesOf lb:=rfl
       rw[eA,eB]at hcut
       have eAd:(bytesOf la).data.toList=la:=by simp[bytesOf]
       have eBd:(bytesOf lb).data.toList=lb:=by simp[bytesOf]
       have hsA:(bytesOf la).size≤100000:=by rw[bytes_len];omega
       have hszB:(bytesOf lb).size+n+1≤20000∧(bytesOf lb).size<rest.size:=by rw[bytes_len];omega
       have hacl:acc.length≤100000:=by rw[HN.out];omega
       clear hc hno hne hl eA eB hlen
       go_wp2_with fail
       refine hcut.mono ?_
       rintro e w1 ⟨rfl,q,rfl⟩
       clear hcut
       have hbq:Below wr.heap.size wr (wr.drewN q):=below_drewN (Below.refl _ _) q
       have hb1:Below B W (wr.drewN q):=hb.trans (hbq.mono hBr)
       have HF1:Hid (∀j,P≤j→j<Q→j≠g→(wr.drewN q).heap[j]? =W.heap[j]?):=frame_below hb HFR.out hQr hbq
       have hE1:=hlowE _ hb1
       have hQ1:Q≤(wr.drewN q).heap.size:=Nat.le_trans hQ hb1.size
       have hI1:=HT.out.keep hIr hbq
       have hFn1:=hFr.below hbq
       have hH1:=hHr.below hbq
       clear hIr hFr hHr hEr hmx hbq
       generalize wr.drewN q=W1 at hb1 HF1 hE1 hQ1 hI1 hFn1 hH1 ⊢
       have hln:=line1_any HT.out t g (bytesOf la) acc W1 hE1 hI1 hQ1 hFn1 hH1 ht hg htg hsA hacl
       rw[eAd]at hln
       have HBD:Hid ((bytesOf lb).data.toList=lb):=eBd
       clear hI1 hFn1 hH1 eAd eBd hacl
       obtain⟨E,hEE⟩:∃E,stepE k acc la=E:=⟨_,rfl⟩
       rw[hEE]at hln hrw
       clear hEE
       by_cases hE0:E=0
       · subst hE0
         rw[if_neg (by simp)]at hrw
         have HRE:Hid (rowsG k (pieces 10 lb) (n+1) (acc++ [(k.rd la).1])=R):=hrw.symm
         clear hrw
         simp only[ne_eq,not_true_eq_false,false_and,false_or,true_and]at hln
         generalize (k.rd la).1=x at hln HRE
         generalize bytesOf la=lA at hln hsA ⊢
         generalize bytesOf lb=lB at hszB HBD ⊢
         go_wp2_with (go_at_fn 233;refine hln.mono ?_;rintro e w2 ⟨hb2,hF2,hfr2,rfl,hI2,hH2⟩)
         have hb3:Below B W w2:=hb1.trans hb2
         have HALL:Hid ((∀j,P≤j→j<Q→j≠g→w2.heap[j]? =W.heap[j]?)∧Inv w2 (acc++ [x])∧FunAt w2 t F bl∧HeadAt w2 g (acc++ [x]).length (endsZ (keysG k (acc++ [x])))) :=
           ⟨fun j h1 h2 h3=>(hfr2 j h1 h2 h3).trans (HF1.out j h1 h2 h3),hI2,hF2,by rw[List.length_append];exact hH2⟩
         clear hfr2 hI2 hF2 hH2 hln
         go_roundw
         case rel=>exact ⟨lB,acc++ [x],rfl,by rw[List.length_append,HN.out];go_num,by rw[List.length_append,HN.out];simp;omega,hb3,HALL.out.1,HALL.out.2.1,HALL.out.2.2.1,HALL.out.2.2.2,by rw[HBD.out,List.length_append,HN.out];exact HRE.out⟩
         case measure=>simp only[strLen];exact hszB.2
       · rw[if_pos hE0]at hrw
         obtain⟨E',hE'⟩:∃E',E=E'+1:=⟨E-1,by omega⟩
         subst hE'
         have HRE:Hid (R=([],E'+1,n)):=hrw
         clear hrw
         simp only[errV,ne_eq,Nat.succ_ne_zero,not_false_eq_true,false_and,or_false,true_and]at hln
         generalize bytesOf la=lA at hln hsA ⊢
         generalize bytesOf lb=lB at hszB HBD ⊢
         go_wp2_with (go_at_fn 233;refine hln.mono ?_;rintro e w2 ⟨hb2,hF2,hfr2,rfl⟩)
         have hb3:Below B W w2:=hb1.trans hb2
         have HF3:Hid (∀j,P≤j→j<Q→j≠g→w2.heap[j]? =W.heap[j]?):=fun j h1 h2 h3=>(hfr2 j h1 h2 h3).trans (HF1.out j h1 h2 h3)
         have hQ3:Q≤w2.heap.size:=Nat.le_trans hQ hb3.size
         have hal:Below w2.heap.size w2 (w2.alloc (.cells #[.int .i64 n,.iface 327 (.pointer (some (a E')))] 94)):=(Below.refl _ _).alloc (Nat.le_refl _) _
         have hb4:Below B W (w2.alloc (.cells #[.int .i64 n,.iface 327 (.pointer (some (a E')))] 94)):=hb3.trans (hal.mono (Nat.le_trans hBW hb3.size))
         have HF4:Hid (∀j,P≤j→j<Q→j≠g→(w2.alloc (.cells #[.int .i64 n,.iface 327 (.pointer (some (a E')))] 94)).heap[j]? =W.heap[j]?):=frame_below hb3 HF3.out hQ3 hal
         clear hfr2 hF2 hln
         go_wp2
         go_ret
         exact⟨hb4,HF4.out,Or.inr ⟨by rw[HRE.out];exact Nat.succ_ne_zero _,w2.heap.size,rfl,by rw[HRE.out];simp,by rw[HRE.out];simp[errV]⟩⟩
abbrev Hd:=Int×Int×Int
def encH (x:Hd):List Value:= [.int .i64 x.1,.int .i64 x.2.1,.int .i64 x.2.2]
theorem eqHead:EqlAt Tryz.prog 174 (fun x:Hd=>.agg (encH x).toArray) (fun x y=>decide (x=y)):=by
 refine⟨fun x y w=>?_,GuardAt.agg _ (by kernel_rfl)⟩
 have u3:=Tryz.underlying3
 have a3:=Tryz.isAgg3
 have z3:=Tryz.sizeOf3
 have hS:Tryz.prog.underlying 174=some (.struct (Tryz.prog.fieldsOf 174)):=by kernel_rfl
 have hp:Tryz.prog.stoodInHeld 174=false:=by kernel_rfl
 obtain⟨x0,x1,x2⟩:=x
 obtain⟨y0,y1,y2⟩:=y
 simp only[encH]
 rw[run_eql_struct,show (10000:Nat)=9999+1 from rfl,run_equalIn_agg w 9999 174 _ _ hS hp]
 simp only[Program.fieldsOf,Tryz.underlying174]
 go_simp
 by_cases h0:x0=y0<;>by_cases h1:x1=y1<;>by_cases h2:x2=y2<;>simp [h0,h1,h2]
theorem neqHead:NeqAt Tryz.prog 174 (fun x:Hd=>.agg (encH x).toArray) (fun x y=>decide (x=y)):=by
 refine⟨fun x y w=>?_,eqHead.2⟩
 have h:=eqHead.1 x y w
 simp only[encH]at h ⊢
 rw[run_eql_struct]at h
 rw[run_neq_struct]
 generalize Sem.run Tryz.prog (Op.equalIn 10000 174 _ _) w=r at h ⊢
 cases r with
 | ok b w' =>
   simp only[Result.andThen,Result.ok.injEq,Value.bool.injEq]at h ⊢
   exact⟨by rw[h.1],h.2⟩
 | halt z w'=>simp [Result.andThen]at h
def AllPost {β:Type} (B:Nat) (w:World) (a:Nat→Addr) (Inv:Nat→World→List β→Prop) (D:List β×Nat×Option Nat) (e:Ending) (w':World):Prop :=
 Below B w w'∧((D.2.1=0∧e= .returned .nilIface∧∃Q,Inv Q w' D.1) ∨
   (D.2.1≠0∧D.1= []∧D.2.2=none∧e= .returned (errV a D.2.1)) ∨
   (D.2.1≠0∧D.1= []∧∃at_,D.2.2=some at_∧∃fb,e= .returned (.iface 92 (.pointer (some ⟨fb,0,none⟩)))∧w'.cell? ⟨fb,0,none⟩=some (.int .i64 at_)∧w'.cell? ⟨fb,1,none⟩=some (errV a D.2.1)))
set_option maxRecDepth 100000 in
set_option maxHeartbeats 8000000 in
theorem readLines_any {β:Type} (k:FK β) (kb s:ByteArray) (hkb:kb.data.toList=k.word) (w:World) (a:Nat→Addr) (En:World→Prop) (F bl B:Nat) (Inv:Nat→World→List β→Prop) (hB:B≤w.heap.size) (hlow1:∀W',Below B w W'→En W')
   (T:∀Q,Taker k a En F bl B w.heap.size Q (Inv Q)) (hI:∀Q W',Below w.heap.size w W'→Q≤W'.heap.size→Inv Q W' []) (hs:s.size≤maxLen) :
   Calls Tryz.prog 209 #[.string kb,.string s,.func (.func F) #[] #[.pointer (some ⟨bl,0,none⟩)]] w fun e w'=>AllPost B w a Inv (readG k s.data.toList) e w':=by
 have hlow:∀W',Below B w W'→EnvD0 W' a:=fun W' hW=>(T 0).env (hlow1 W' hW)
 unfold maxLen at hs
 have hszl:=size_list s
 have hal:Below w.heap.size w (w.alloc (.cells #[.func (.func F) #[] #[.pointer (some ⟨bl,0,none⟩)]] 180)):=(Below.refl _ _).alloc (Nat.le_refl _) _
 have hFun:FunAt (w.alloc (.cells #[.func (.func F) #[] #[.pointer (some ⟨bl,0,none⟩)]] 180)) w.heap.size F bl:=heap_alloc_new _ _
 by_cases hbig:20000<s.size
 · have HD:Hid (readG k s.data.toList=([],2,none)):=by show _=_;unfold readG;rw[if_pos (by omega)]
   have hb':(20000:Int)<(s.size:Int):=by omega
   have hbd:=(hlow _ (hal.mono hB)).env.bound
   clear hszl
   go_enter Tryz.func209,Tryz.ntmps209
   go_wp2
   go_ret
   refine⟨hal.mono hB,?_⟩
   rw[HD.out]
   exact Or.inr (Or.inl ⟨by simp,rfl,rfl,rfl⟩)
 · have hb' : ¬ (20000:Int)<(s.size:Int):=by omega
   have hnb:¬20000<s.data.toList.length:=by omega
   have hE0:=hlow _ (hal.mono hB)
   obtain⟨mx,hmx⟩:=hE0.env.maxl
   have hcut:=Tryz.strings_Cut s ⟨#[10]⟩ mx _ (by omega) hmx
   dsimp only at hcut
   rcases cut_cases 10 s.data.toList with⟨hno,hc⟩|⟨la,lb,hl,hno,hc⟩
   · have HD:Hid (readG k s.data.toList=([],1,none)):=by show _=_;unfold readG;rw[if_neg hnb,hc];rfl
     rw[hc]at hcut
     dsimp only at hcut
     have eA:(⟨s.data.toList.toArray⟩:ByteArray)=bytesOf s.data.toList:=rfl
     rw[eA]at hcut
     have hrh:=fun W (hW:Env0 W a)=>readHead_any kb (bytesOf s.data.toList) W a hW (by rw[bytes_len];omega)
     generalize bytesOf s.data.toList=lA at hcut hrh
     generalize headR kb.data.toList lA.data.toList=H at hrh
     obtain⟨⟨z0,z1,z2⟩,z3,okb⟩:=H
     dsimp only at hrh
     clear hc hno eA hnb hszl hE0
     go_enter Tryz.func209,Tryz.ntmps209
     go_wp2_with fail
     generalize w.alloc (.cells #[.func (.func F) #[] #[.pointer (some ⟨bl,0,none⟩)]] 180)=W0 at hal hFun hmx hcut ⊢
     refine hcut.mono ?_
     rintro e w1 ⟨rfl,q,rfl⟩
     clear hcut
     have hb1:Below w.heap.size w (W0.drewN q):=below_drewN hal q
     have hrh1:=hrh _ (hlow _ (hb1.mono hB)).env
     clear hrh hmx hFun hal
     generalize W0.drewN q=W1 at hb1 hrh1 ⊢
     go_wp2_with fail
     refine hrh1.mono ?_
     rintro e w2 ⟨rfl,hb2⟩
     clear hrh1
     have hB2:Below w.heap.size w w2:=hb1.trans (hb2.mono hb1.size)
     have hB3:Below w.heap.size w (w2.alloc (.cells #[.int .i64 z0,.int .i64 z1,.int .i64 z2] 174)):=hB2.alloc hB2.size _
     have ht:=(hlow _ (hB3.mono hB)).env.text
     go_wp2
     go_ret
     refine⟨hB3.mono hB,?_⟩
     rw[HD.out]
     exact Or.inr (Or.inl ⟨by simp,rfl,rfl,rfl⟩)
   · have hlen : la.length+lb.length+1=s.size:=by rw[←size_list,hl];simp;omega
     rw[hc]at hcut
     dsimp only at hcut
     have eA:(⟨la.toArray⟩:ByteArray)=bytesOf la:=rfl
     have eB:(⟨lb.toArray⟩:ByteArray)=bytesOf lb:=rfl
     rw[eA,eB]at hcut
     have eAd:(bytesOf la).data.toList=la:=by simp[bytesOf]
     have eBd:(bytesOf lb).data.toList=lb:=by simp[bytesOf]
     have hrh:=fun W (hW:Env0 W a)=>readHead_any kb (bytesOf la) W a hW (by rw[bytes_len];omega)
     rw[eAd,hkb]at hrh
     have hsum:=fun W=>sum_any (bytesOf lb) W (by rw[bytes_len];unfold maxLen;omega)
     rw[eBd]at hsum
     unfold headR at hrh
     cases hho:headO k.word la with
     | none =>
       have HD:Hid (readG k s.data.toList=([],1,none)):=by show _=_;unfold readG;rw[if_neg hnb,hc];simp only[hho];rfl
       rw[hho]at hrh
       dsimp only at hrh
       clear hc hno eA eB eAd eBd hnb hszl hsum hho hlen hl hE0
       generalize bytesOf la=lA at hcut hrh
       generalize bytesOf lb=lB at hcut
       go_enter Tryz.func209,Tryz.ntmps209
       go_wp2_with fail
       generalize w.alloc (.cells #[.func (.func F) #[] #[.pointer (some ⟨bl,0,none⟩)]] 180)=W0 at hal hFun hmx hcut ⊢
       refine hcut.mono ?_
       rintro e w1 ⟨rfl,q,rfl⟩
       clear hcut
       have hb1:Below w.heap.size w (W0.drewN q):=below_drewN hal q
       have hrh1:=hrh _ (hlow _ (hb1.mono hB)).env
       clear hrh hmx hFun hal
       generalize W0.drewN q=W1 at hb1 hrh1 ⊢
       go_wp2_with fail
       refine hrh1.mono ?_
       rintro e w2 ⟨rfl,hb2⟩
       clear hrh1
       have hB2:Below w.heap.size w w2:=hb1.trans (hb2.mono hb1.size)
       have hB3:Below w.heap.size w (w2.alloc (.cells #[.int .i64 0,.int .i64 0,.int .i64 0] 174)):=hB2.alloc hB2.size _
       have ht:=(hlow _ (hB3.mono hB)).env.text
       go_wp2
       go_ret
       refine⟨hB3.mono hB,?_⟩
       rw[HD.out]
       exact Or.inr (Or.inl ⟨by simp,rfl,rfl,rfl⟩)
     | some hd =>
       obtain⟨z0,z1,z2,z3⟩:=hd
       rw[hho]at hrh
       dsimp only at hrh
       have hD:readG k s.data.toList=if z3≠sumL lb then ([],10,none) else endG k z0 z1 z2 (rowsG k (pieces 10 lb) 0 []):=by
         unfold readG;rw[if_neg hnb,hc];simp only[hho];rfl
       have HD:Hid (readG k s.data.toList=if z3≠sumL lb then ([],10,none) else endG k z0 z1 z2 (rowsG k (pieces 10 lb) 0 [])):=hD
       have hsl:=sumL_lt lb
       have hlb2:(bytesOf lb).size≤20000:=by rw[bytes_len];omega
       have HBD:Hid (rowsG k (pieces 10 (bytesOf lb).data.toList) 0 []=rowsG k (pieces 10 lb) 0 []):=by show _=_;rw[eBd]
       generalize sumL lb=S at hsum HD hsl
       generalize rowsG k (pieces 10 lb) 0 []=R at HD HBD
       clear hD hc hno eA eB eAd eBd hnb hszl hho hlen hl hE0
       generalize bytesOf la=lA at hcut hrh
       generalize bytesOf lb=lB at hcut hsum hlb2 HBD
       have HTT:Hid (∀Q,Taker k a En F bl B w.heap.size Q (Inv Q)):=T
       have HII:Hid (∀Q W',Below w.heap.size w W'→Q≤W'.heap.size→Inv Q W' []):=hI
       clear T hI
       go_enter Tryz.func209,Tryz.ntmps209
       go_wp2_with fail
       generalize w.alloc (.cells #[.func (.func F) #[] #[.pointer (some ⟨bl,0,none⟩)]] 180)=W0 at hal hFun hmx hcut ⊢
       refine hcut.mono ?_
       rintro e w1 ⟨rfl,q,rfl⟩
       clear hcut
       have hbq:Below W0.heap.size W0 (W0.drewN q):=below_drewN (Below.refl _ _) q
       have hb1:Below w.heap.size w (W0.drewN q):=below_drewN hal q
       have hFun1:=hFun.below hbq
       have hrh1:=hrh _ (hlow _ (hb1.mono hB)).env
       clear hrh hmx hFun hal hbq
       generalize W0.drewN q=W1 at hb1 hrh1 hFun1 ⊢
       go_wp2_with fail
       refine hrh1.mono ?_
       rintro e w2 ⟨rfl,hb2⟩
       clear hrh1
       have hB2:Below w.heap.size w w2:=hb1.trans (hb2.mono hb1.size)
       have hFun2:=hFun1.below hb2
       have hal3:Below w2.heap.size w2 (w2.alloc (.cells #[.int .i64 z0,.int .i64 z1,.int .i64 z2] 174)):=(Below.refl _ _).alloc (Nat.le_refl _) _
       have hB3:Below w.heap.size w (w2.alloc (.cells #[.int .i64 z0,.int .i64 z1,.int .i64 z2] 174)):=hB2.alloc hB2.size _
       have hFun3:=hFun2.below hal3
       have hSd:(w2.alloc (.cells #[.int .i64 z0,.int .i64 z1,.int .i64 z2] 174)).heap[w2.heap.size]? =some (.cells #[.int .i64 z0,.int .i64 z1,.int .i64 z2] 174 (0,0)):=heap_alloc_new _ _
       have hsum3:=hsum (w2.alloc (.cells #[.int .i64 z0,.int .i64 z1,.int .i64 z2] 174))
       have hsd1:w.heap.size≤w2.heap.size:=hB2.size
       have hsd2:w.heap.size≠w2.heap.size:=by have:=lt_of_block hFun2;omega
       clear hsum hFun1 hFun2 hal3
       go_wp2_with fail
       generalize hsd:w2.heap.size=sd at hSd hsd1 hsd2 ⊢
       generalize w2.alloc (.cells #[.int .i64 z0,.int .i64 z1,.int .i64 z2] 174)=W3 at hB3 hsum3 hFun3 hSd ⊢
       clear hsd hB2 hb2 hb1
       refine hsum3.mono ?_
       rintro e w4 ⟨rfl,hb4⟩
       clear hsum3
       have hB4:Below w.heap.size w w4:=hB3.trans (hb4.mono hB3.size)
       have hFun4:=hFun3.below hb4
       have hSd4:w4.heap[sd]? =some (.cells #[.int .i64 z0,.int .i64 z1,.int .i64 z2] 174 (0,0)):=(hb4.block _ (lt_of_block hSd)).trans hSd
       have hw0:IntKind.i64.wrap (S:Int)=(S:Int):=IntWalk.i64_in _ (by omega)
       have hsd4:sd<w4.heap.size:=lt_of_block hSd4
       clear hFun3 hSd hB3 hb4
       by_cases hzs:z3=(S:Int)
       · have HD2:Hid (readG k s.data.toList=endG k z0 z1 z2 R):=by show _=_;rw[HD.out,if_neg (by simpa using hzs)]
         clear HD
         subst hzs
         have hal5:Below w4.heap.size w4 (w4.alloc (.cells #[.int .i64 0,.int .i64 0,.int .i64 0] 174)):=(Below.refl _ _).alloc (Nat.le_refl _) _
         have hB5:Below w.heap.size w (w4.alloc (.cells #[.int .i64 0,.int .i64 0,.int .i64 0] 174)):=hB4.alloc hB4.size _
         have hH5:HeadAt (w4.alloc (.cells #[.int .i64 0,.int .i64 0,.int .i64 0] 174)) w4.heap.size 0 (0,0):=heap_alloc_new _ _
         have hFun5:=hFun4.below hal5
         have hSd5:(w4.alloc (.cells #[.int .i64 0,.int .i64 0,.int .i64 0] 174)).heap[sd]? =some (.cells #[.int .i64 z0,.int .i64 z1,.int .i64 z2] 174 (0,0)):=(hal5.block _ (lt_of_block hSd4)).trans hSd4
         have hP4:w.heap.size<w4.heap.size:=lt_of_block hFun4
         have hel:=eachLine_any (HTT.out (w4.heap.size+1)) w.heap.size w4.heap.size lB _ (fun W' hW=>hlow1 W' ((hB5.mono hB).trans hW)) (HII.out (w4.heap.size+1) _ hB5 (by simp)) (by simp) (Nat.le_trans hB hB5.size) hFun5 hH5 ⟨Nat.le_refl _,by omega⟩ ⟨by omega,by omega⟩ (by omega) hlb2
         rw[HBD.out]at hel
         clear hFun4 hFun5 hH5 hal5 hSd4
         go_wp2_with fail
         generalize hg4:w4.heap.size=g at hel hsd4 hP4 ⊢
         generalize w4.alloc (.cells #[.int .i64 0,.int .i64 0,.int .i64 0] 174)=W5 at hB5 hSd5 hel ⊢
         clear hg4 hB4
         refine hel.mono ?_
         rintro e w6 ⟨hb6,hfr,hres⟩
         clear hel
         have hB6:Below B w w6:=(hB5.mono hB).trans hb6
         have hSd6:w6.heap[sd]? =some (.cells #[.int .i64 z0,.int .i64 z1,.int .i64 z2] 174 (0,0)):=(hfr sd hsd1 (by omega) (by omega)).trans hSd5
         clear hfr hSd5 hB5 hb6
         rcases hres with⟨h0,rfl,hI6,hH6⟩|⟨h0,fb,rfl,c0,c1⟩
         · have HR0:Hid (R.2.1=0):=h0
           have HI6:Hid (∃Q,Inv Q w6 R.1):=⟨_,hI6⟩
           have x0:w6.cell? ⟨sd,0,none⟩=some (.int .i64 z0):=by rw[cell_of_row _ _ _ _ _ _ hSd6];rfl
           have x1:w6.cell? ⟨sd,1,none⟩=some (.int .i64 z1):=by rw[cell_of_row _ _ _ _ _ _ hSd6];rfl
           have x2:w6.cell? ⟨sd,2,none⟩=some (.int .i64 z2):=by rw[cell_of_row _ _ _ _ _ _ hSd6];rfl
           obtain⟨y0,y1,y2,_⟩:=hH6.cells
           have hE6:=hlow _ hB6
           by_cases h40:40<R.1.length
           · have h40':(40:Int)<(R.1.length:Int):=by omega
             have HDE:Hid (readG k s.data.toList=([],8,none)):=by
               show _=_
               rw[HD2.out];unfold endG;rw[if_neg (by simpa using HR0.out),if_pos h40]
             have hfu:=hE6.full
             clear h0 hI6 hH6 x0 x1 x2 y1 y2 hE6 h40 HI6
             generalize R.1.length=LL at h40' y0
             go_wp2
             go_ret
             refine⟨hB6,?_⟩
             rw[HDE.out]
             exact Or.inr (Or.inl ⟨by simp,rfl,rfl,rfl⟩)
           · have h40':¬(40:Int)<(R.1.length:Int):=by omega
             have HDE:Hid (readG k s.data.toList=if z0=(R.1.length:Int)∧z1=(endsZ (keysG k R.1)).1∧z2=(endsZ (keysG k R.1)).2 then (R.1,0,none) else ([],3,none)):=by
               show _=_
               rw[HD2.out];unfold endG;rw[if_neg (by simpa using HR0.out),if_neg h40]
             have hneq:=neqHead.1 ((R.1.length:Int),(endsZ (keysG k R.1)).1,(endsZ (keysG k R.1)).2) (z0,z1,z2)
             simp only[encH]at hneq
             have hgd':∀(op:BinOp) (a b:Operand) (w:World),Sem.run Tryz.prog (eqGuard op 174 a b (.agg #[.int .i64 (R.1.length:Int),.int .i64 (endsZ (keysG k R.1)).1,.int .i64 (endsZ (keysG k R.1)).2]) (.agg #[.int .i64 z0,.int .i64 z1,.int .i64 z2])) w= .ok () w:=fun op a b w=>neqHead.2 op a b ((R.1.length:Int),(endsZ (keysG k R.1)).1,(endsZ (keysG k R.1)).2) (z0,z1,z2) w
             have hqe:decide ((((R.1.length:Int),(endsZ (keysG k R.1)).1,(endsZ (keysG k R.1)).2):Hd)=(z0,z1,z2))=decide (z0=(R.1.length:Int)∧z1=(endsZ (keysG k R.1)).1∧z2=(endsZ (keysG k R.1)).2):=by
               rw[decide_eq_decide];simp only[Prod.mk.injEq]
               exact⟨fun ⟨h1,h2,h3⟩=>⟨h1.symm,h2.symm,h3.symm⟩,fun ⟨h1,h2,h3⟩=>⟨h1.symm,h2.symm,h3.symm⟩⟩
             rw[hqe]at hneq
             obtain⟨bq,hbq⟩:∃bq,decide (z0=(R.1.length:Int)∧z1=(endsZ (keysG k R.1)).1∧z2=(endsZ (keysG k R.1)).2)=bq:=⟨_,rfl⟩
             have HBQ:Hid (decide (z0=(R.1.length:Int)∧z1=(endsZ (keysG k R.1)).1∧z2=(endsZ (keysG k R.1)).2)=bq):=hbq
             rw[hbq]at hneq
             clear hqe hbq h0 hI6 hH6
             generalize hEE:endsZ (keysG k R.1)=E at hneq hgd' y1 y2
             have HEE:Hid (endsZ (keysG k R.1)=E):=hEE
             clear hEE
             obtain⟨e1,e2⟩:=E
             dsimp only at hneq hgd' y1 y2
             obtain⟨LL,hLL⟩:∃LL,R.1.length=LL:=⟨_,rfl⟩
             have HLL:Hid (R.1.length=LL):=hLL
             rw[hLL]at hneq hgd' h40' y0
             clear hLL h40
             have hsh:=hE6.shape
             clear hE6
             cases bq with
             | true =>
               have HFIN:Hid (readG k s.data.toList=(R.1,0,none)):=by
                 show _=_
                 rw[HDE.out,if_pos (of_decide_eq_true HBQ.out)]
               go_wp2
               go_ret
               refine⟨hB6,?_⟩
               rw[HFIN.out]
               exact Or.inl ⟨rfl,rfl,HI6.out⟩
             | false =>
               have HFIN:Hid (readG k s.data.toList=([],3,none)):=by
                 show _=_
                 rw[HDE.out,if_neg (of_decide_eq_false HBQ.out)]
               go_wp2
               go_ret
               refine⟨hB6,?_⟩
               rw[HFIN.out]
               exact Or.inr (Or.inl ⟨by simp,rfl,rfl,rfl⟩)
         · have HR0:Hid (R.2.1≠0):=h0
           have C0:Hid (w6.cell? ⟨fb,0,none⟩=some (.int .i64 R.2.2)):=c0
           have C1:Hid (w6.cell? ⟨fb,1,none⟩=some (errV a R.2.1)):=c1
           have HDE:Hid (readG k s.data.toList=([],R.2.1,some R.2.2)):=by
             show _=_
             rw[HD2.out];unfold endG;rw[if_pos HR0.out]
           clear h0 c0 c1 hSd6
           go_wp2
           go_ret
           refine⟨hB6,?_⟩
           rw[HDE.out]
           exact Or.inr (Or.inr ⟨HR0.out,rfl,R.2.2,rfl,fb,rfl,C0.out,C1.out⟩)
       · have HDE:Hid (readG k s.data.toList=([],10,none)):=by
           show _=_
           rw[HD.out,if_pos hzs]
         have hsu:=(hlow _ (hB4.mono hB)).sum
         clear hFun4 hSd4
         go_wp2
         go_ret
         refine⟨hB4.mono hB,?_⟩
         rw[HDE.out]
         exact Or.inr (Or.inl ⟨by simp,rfl,rfl,rfl⟩)
end Go.Proofs.YtdhkdjlgmbejnaaGreatDoor
