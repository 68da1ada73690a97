/- By an AI agent. -/
import Derived.Test.YtgckdomafbnmkaaGreatDoorStbSeg
import Derived.Test.YtgckdomafbnmkaaGreatDoorPackOne
namespace Go.Proofs.YtgckdomafbnmkaaGreatDoor
open Go.RowKit Go.Extern.Stop Go.Stop Go.Extern Go.Sort Go.Shelf Go.Lib
structure StK (b L:Nat) (kl:Nat→Nat→Bool) (lt:Nat→Nat→Prop) (D:List Nat) (w:World):Prop where
 tr:∀x y z,lt x y→lt y z→lt x z
 ask:AskC b kl D w
 ag:D.Pairwise (Agree kl lt)
 len:D.length=L
 le:L≤10000
def S1 (B b L cap:Nat) (lt:Nat→Nat→Prop) (D:List Nat) (w W:World) (a:Nat):Prop:= ∃E,OwnP B W b L cap E∧But (fun k=>k=b) w W∧Pfx lt D E 20 a∧E.drop a=D.drop a∧a≤L
def S2 (B b L cap:Nat) (lt:Nat→Nat→Prop) (D:List Nat) (w W:World) (z:Nat):Prop:= ∃E,OwnP B W b L cap E∧But (fun k=>k=b) w W∧Bks lt D E z 0
def S3 (B b L cap:Nat) (lt:Nat→Nat→Prop) (D:List Nat) (w W:World) (z a:Nat):Prop:= ∃E,OwnP B W b L cap E∧But (fun k=>k=b) w W∧Pfx lt D E (2*z) a∧Bks lt D E z a∧a≤L
section
variable {B b L cap : Nat} {kl : Nat → Nat → Bool} {lt : Nat → Nat → Prop} {D : List Nat} {w W : World}
theorem seg_drop {E:List Nat} {a c:Nat} (h:E.drop a=D.drop a):seg E a c=seg D a c:=by
 unfold seg
 rw[List.drop_take,List.drop_take,h]
theorem ins_step (K:StK b L kl lt D w) {a:Nat} (h:S1 B b L cap lt D w W a) (ha:a+20≤L) :
   Calls Tryz.prog 136 #[.slice (some ⟨b,0,none⟩) L cap,.int .i64 (a:Int),.int .i64 ((a+20:Nat):Int),cvP] W fun e w'=>e= .returned (.tuple #[])∧S1 B b L cap lt D w w' (a+20):=by
 obtain⟨E,ho,hb,hp,hd,hle⟩:=h
 have hEl:=ho.len
 have hsd:seg E a (a+20)=seg D a (a+20):=seg_drop hd
 have hsp:=seg_split E (a:=a) (b:=a+20) (by omega)
 rw[hsp]at ho
 have hsub:(seg D a (a+20)).Sublist D:=(List.drop_sublist _ _).trans (List.take_sublist _ _)
 have hc:=insert_any B b L cap (E.take a) (seg E a (a+20)) (E.drop (a+20)) kl lt K.tr W ho ((K.ask.but hb).sub (fun x hx=>by rw[hsd]at hx;exact hsub.subset hx)) (by rw[hsd];exact K.ag.sublist hsub) (by have:=K.le;omega)
 have e1:(E.take a).length=a:=by rw[List.length_take];omega
 have e2:a+(seg E a (a+20)).length=a+20:=by rw[seg_len];omega
 rw[e1,e2]at hc
 refine hc.mono fun e w' ⟨he,M,h1,h2,h3,h4⟩=>⟨he,_,h3,hb.trans h4 (fun _ h _=>h),?_⟩
 obtain⟨g1,g2,g3,g4⟩:=seg_same (l:=E) (l':=E.take a++M++E.drop (a+20)) (M:=M) (a:=a) (b:=a+20) rfl (by omega) (by omega) (by rw[h1.length_eq,seg_len];omega)
 refine⟨Pfx.next (hp.same g1 (Nat.le_refl _)) ?_,?_,ha⟩
 · unfold Sg
   rw[g3]
   rw[hsd]at h1
   exact⟨h1,h2⟩
 · have g5:=g2 (a+20) (E.length) (Nat.le_refl _)
   have e3:=seg_far (E.take a++M++E.drop (a+20)) (a:=a+20) (b:=E.length) (by omega)
   have e4:=seg_far E (a:=a+20) (b:=E.length) (Nat.le_refl _)
   rw[e3,e4]at g5
   rw[g5]
   have e5:E.drop (a+20)=(E.drop a).drop 20:=by rw[List.drop_drop]
   have e6:D.drop (a+20)=(D.drop a).drop 20:=by rw[List.drop_drop]
   rw[e5,e6,hd]
theorem ins_last (K:StK b L kl lt D w) {a:Nat} (h:S1 B b L cap lt D w W a) (ha:L<a+20) :
   Calls Tryz.prog 136 #[.slice (some ⟨b,0,none⟩) L cap,.int .i64 (a:Int),.int .i64 (L:Int),cvP] W fun e w'=>e= .returned (.tuple #[])∧S2 B b L cap lt D w w' 20:=by
 obtain⟨E,ho,hb,hp,hd,hle⟩:=h
 have hEl:=ho.len
 have hDl:=K.len
 have hsd:seg E a L=seg D a L:=seg_drop hd
 have hsp:=seg_split E (a:=a) (b:=L) hle
 rw[hsp]at ho
 have hsub:(seg D a L).Sublist D:=(List.drop_sublist _ _).trans (List.take_sublist _ _)
 have hc:=insert_any B b L cap (E.take a) (seg E a L) (E.drop L) kl lt K.tr W ho ((K.ask.but hb).sub (fun x hx=>by rw[hsd]at hx;exact hsub.subset hx)) (by rw[hsd];exact K.ag.sublist hsub) (by have:=K.le;omega)
 have e1:(E.take a).length=a:=by rw[List.length_take];omega
 have e2:a+(seg E a L).length=L:=by rw[seg_len];omega
 rw[e1,e2]at hc
 refine hc.mono fun e w' ⟨he,M,h1,h2,h3,h4⟩=>⟨he,_,h3,hb.trans h4 (fun _ h _=>h),?_⟩
 obtain⟨g1,g2,g3,g4⟩:=seg_same (l:=E) (l':=E.take a++M++E.drop L) (M:=M) (a:=a) (b:=L) rfl hle (by omega) (by rw[h1.length_eq,seg_len];omega)
 refine(hp.same g1 (Nat.le_refl _)).all (Bks.step ?_ (Bks.done (by omega)))
 unfold Sg
 rw[seg_far _ (by omega),seg_far D (by omega)]
 have e3:=seg_far (E.take a++M++E.drop L) (a:=a) (b:=L) (by omega)
 have e4:=seg_far D (a:=a) (b:=L) (by omega)
 rw[←e3,←e4,g3]
 rw[hsd]at h1
 exact⟨h1,h2⟩
theorem bks_step {E:List Nat} {z a:Nat} (h:Bks lt D E z a) (ha:a<E.length):Sg lt D E a (a+z)∧Bks lt D E z (a+z):=by
 cases h with
 | done h=>omega
 | step h1 h2=>exact ⟨h1,h2⟩
theorem mrg_step (K:StK b L kl lt D w) {z a:Nat} (hz:0<z) (h:S3 B b L cap lt D w W z a) (ha:a+2*z≤L) :
   Calls Tryz.prog 137 #[.slice (some ⟨b,0,none⟩) L cap,.int .i64 (a:Int),.int .i64 ((a+z:Nat):Int),.int .i64 ((a+2*z:Nat):Int),cvP] W fun e w'=>e= .returned (.tuple #[])∧S3 B b L cap lt D w w' z (a+2*z):=by
 obtain⟨E,ho,hb,hp,hk,hle⟩:=h
 have hEl:=ho.len
 obtain⟨k1,k2⟩:=bks_step hk (by omega)
 obtain⟨k3,k4⟩:=bks_step k2 (by omega)
 rw[show a+z+z=a+2*z by omega]at k3 k4
 have hsp:=seg_split E (a:=a) (b:=a+2*z) (by omega)
 rw[←seg_join E (a:=a) (b:=a+z) (c:=a+2*z) (by omega) (by omega),←List.append_assoc]at hsp
 rw[hsp]at ho
 have hc:=merge_any B b L cap kl lt K.tr (by have:=K.le;omega) (L+1) (E.take a) (seg E a (a+z)) (seg E (a+z) (a+2*z)) (E.drop (a+2*z)) W (by rw[seg_len,seg_len];omega) (by rw[seg_len];omega) (by rw[seg_len];omega) ho ((K.ask.but hb).sub (fun x hx=>by
   rw[List.mem_append]at hx
   rcases hx with hx | hx
   · exact seg_in k1 x hx
   · exact seg_in k3 x hx)) k1.2 k3.2 (seg_agree K.ag k1 k3)
 have e1:(E.take a).length=a:=by rw[List.length_take];omega
 have e2:a+(seg E a (a+z)).length=a+z:=by rw[seg_len];omega
 have e3:a+z+(seg E (a+z) (a+2*z)).length=a+2*z:=by rw[seg_len];omega
 rw[e1,e2,e3]at hc
 refine hc.mono fun e w' ⟨he,M,h1,h2,h3,h4⟩=>⟨he,_,h3,hb.trans h4 (fun _ h _=>h),?_⟩
 obtain⟨g1,g2,g3,g4⟩:=sg_merged (D:=D) (E':=E.take a++M++E.drop (a+2*z)) (by omega) (by omega) (by omega) k1 k3 h1 h2 rfl
 exact⟨Pfx.next (hp.same g2 (Nat.le_refl _)) g1,k4.same g3 g4 (Nat.le_refl _),ha⟩
theorem mrg_last (K:StK b L kl lt D w) {z a:Nat} (hz:0<z) (h:S3 B b L cap lt D w W z a) (ha:L<a+2*z) (hm:a+z<L) :
   Calls Tryz.prog 137 #[.slice (some ⟨b,0,none⟩) L cap,.int .i64 (a:Int),.int .i64 ((a+z:Nat):Int),.int .i64 (L:Int),cvP] W fun e w'=>e= .returned (.tuple #[])∧S2 B b L cap lt D w w' (2*z):=by
 obtain⟨E,ho,hb,hp,hk,hle⟩:=h
 have hEl:=ho.len
 have hDl:=K.len
 obtain⟨k1,k2⟩:=bks_step hk (by omega)
 obtain⟨k3,k4⟩:=bks_step k2 (by omega)
 have k5:Sg lt D E (a+z) L:=by
   unfold Sg at k3 ⊢
   rw[seg_far E (by omega),seg_far D (by omega)]at k3
   rw[seg_far E (by omega),seg_far D (by omega)]
   exact k3
 have hsp:=seg_split E (a:=a) (b:=L) hle
 rw[←seg_join E (a:=a) (b:=a+z) (c:=L) (by omega) (by omega),←List.append_assoc]at hsp
 rw[hsp]at ho
 have hc:=merge_any B b L cap kl lt K.tr (by have:=K.le;omega) (L+1) (E.take a) (seg E a (a+z)) (seg E (a+z) L) (E.drop L) W (by rw[seg_len,seg_len];omega) (by rw[seg_len];omega) (by rw[seg_len];omega) ho ((K.ask.but hb).sub (fun x hx=>by
   rw[List.mem_append]at hx
   rcases hx with hx | hx
   · exact seg_in k1 x hx
   · exact seg_in k5 x hx)) k1.2 k5.2 (seg_agree K.ag k1 k5)
 have e1:(E.take a).length=a:=by rw[List.length_take];omega
 have e2:a+(seg E a (a+z)).length=a+z:=by rw[seg_len];omega
 have e3:a+z+(seg E (a+z) L).length=L:=by rw[seg_len];omega
 rw[e1,e2,e3]at hc
 refine hc.mono fun e w' ⟨he,M,h1,h2,h3,h4⟩=>⟨he,_,h3,hb.trans h4 (fun _ h _=>h),?_⟩
 obtain⟨g1,g2,g3,g4⟩:=sg_merged (D:=D) (E':=E.take a++M++E.drop L) (by omega) (by omega) (by omega) k1 k5 h1 h2 rfl
 refine(hp.same g2 (Nat.le_refl _)).all (Bks.step ?_ (Bks.done (by omega)))
 unfold Sg at g1 ⊢
 rw[seg_far _ (by omega),seg_far D (by omega)]at g1
 rw[seg_far _ (by omega),seg_far D (by omega)]
 exact g1
theorem mrg_none (K:StK b L kl lt D w) {z a:Nat} (h:S3 B b L cap lt D w W z a) (hm:L≤a+z):S2 B b L cap lt D w W (2*z):=by
 obtain⟨E,ho,hb,hp,hk,hle⟩:=h
 have hEl:=ho.len
 have hDl:=K.len
 refine⟨E,ho,hb,hp.all ?_⟩
 by_cases e:a<L
 · obtain⟨k1,_⟩:=bks_step hk (by omega)
   refine Bks.step ?_ (Bks.done (by omega))
   unfold Sg at k1 ⊢
   rw[seg_far E (by omega),seg_far D (by omega)]at k1
   rw[seg_far E (by omega),seg_far D (by omega)]
   exact k1
 · exact Bks.done (by omega)
theorem s3_begin {z:Nat} (h:S2 B b L cap lt D w W z):S3 B b L cap lt D w W z 0:=by
 obtain⟨E,ho,hb,hk⟩:=h
 exact⟨E,ho,hb,Pfx.zero,hk,Nat.zero_le _⟩
theorem s2_end (K:StK b L kl lt D w) {z:Nat} (h:S2 B b L cap lt D w W z) (hz:L≤z):SortP B b L cap [] D [] lt w W:=by
 obtain⟨E,ho,hb,hk⟩:=h
 have hEl:=ho.len
 obtain⟨g1,g2⟩:=hk.whole (by have:=K.len;omega) (by omega)
 exact⟨E,g1,g2,by rw[List.nil_append,List.append_nil];exact ho,hb⟩
set_option maxRecDepth 100000 in
set_option maxHeartbeats 8000000 in
theorem stable_any (K:StK b L kl lt D w) (ho:OwnP B w b L cap D) :
   Calls Tryz.prog 95 #[.slice (some ⟨b,0,none⟩) L cap,.int .i64 (L:Int),cvP] w fun e w'=>e= .returned (.tuple #[])∧SortP B b L cap [] D [] lt w w':=by
 have HK:Hid (StK b L kl lt D w):=K
 have hL:=K.le
 have HS1:Hid (S1 B b L cap lt D w w 0):=⟨D,ho,But.refl _ _,Pfx.zero,rfl,Nat.zero_le _⟩
 unfold cvP
 clear K ho
 go_enter Tryz.func95,Tryz.ntmps95
 go_wp2
 go_loopw [7,8] (fun x y wr=> ∃a:Nat,a≤L∧x= .int .i64 (a:Int)∧y= .int .i64 ((a+20:Nat):Int)∧S1 B b L cap lt D w wr a) (fun x _ _=>L-(intOf x).toNat)
 case atStart=>exact ⟨0,by omega,rfl,rfl,HS1.out⟩
 case round =>
 clear HS1
 obtain⟨a,haL,rfl,rfl,hS⟩:=hrel
 have HS:Hid (S1 B b L cap lt D w wr a):=hS
 clear hS
 by_cases hlt:a+20≤L
 case pos =>
   have hc:=ins_step HK.out HS.out hlt
   unfold cvP at hc
   obtain⟨c,hcc⟩:∃c,a+20=c:=⟨_,rfl⟩
   have g1:(c:Int)≤(L:Int):=by omega
   have a1:IntKind.i64.wrap ((c:Int)+20)=((c+20:Nat):Int):=by rw[IntWalk.i64_in _ (by omega)];omega
   have HC:Hid (a+20=c):=hcc
   rw[hcc]at hc ⊢
   clear hcc hlt HS
   go_wp2_with fail
   refine hc.mono ?_
   rintro e w1 ⟨rfl,hs1⟩
   have HS:Hid (S1 B b L cap lt D w w1 c):=hs1
   clear hc hs1
   go_wp2
   go_roundw
   case rel=>exact ⟨c,by omega,rfl,rfl,HS.out⟩
   case measure=>have:=HC.out;simp[intOf];omega
 case neg =>
 have hc:=ins_last HK.out HS.out (by omega)
 unfold cvP at hc
 obtain⟨c,hcc⟩:∃c,a+20=c:=⟨_,rfl⟩
 have g1:¬(c:Int)≤(L:Int):=by omega
 rw[hcc]
 clear hcc HS
 go_wp2_with fail
 refine hc.mono ?_
 rintro e w2 ⟨rfl,hs2⟩
 have HS2:Hid (S2 B b L cap lt D w w2 20):=hs2
 clear hc hs2 hlt g1
 go_wp2
 go_loopw [6,7,8,9] (fun x _ _ _ wr=> ∃z:Nat,0<z∧z≤2*L+20∧x= .int .i64 (z:Int)∧S2 B b L cap lt D w wr z) (fun x _ _ _ _=>L-(intOf x).toNat)
 case atStart=>exact ⟨20,by omega,by omega,rfl,HS2.out⟩
 case round =>
 clear HS2
 obtain⟨z,hz0,hzL,rfl,hS⟩:=hrel
 by_cases hlt:z<L
 case neg =>
   have HF:Hid (SortP B b L cap [] D [] lt w wr):=s2_end HK.out hS (by omega)
   have g1:¬(z:Int)<(L:Int):=by omega
   clear hS
   go_wp2
   go_end0
   exact⟨rfl,HF.out⟩
 case pos =>
 have HS3:Hid (S3 B b L cap lt D w wr z 0):=s3_begin hS
 clear hS
 have g1:(z:Int)<(L:Int):=by omega
 obtain⟨z2,hz2⟩:∃k,2*z=k:=⟨_,rfl⟩
 have HZ2:Hid (2*z=z2):=hz2
 have a1:IntKind.i64.wrap (2*(z:Int))=(z2:Int):=by rw[IntWalk.i64_in _ (by omega)];omega
 have a1':IntKind.i64.wrap ((z:Int)*2)=(z2:Int):=by rw[IntWalk.i64_in _ (by omega)];omega
 clear hz2
 go_upto_region 9 with fail
 go_loopw [7,8] (fun x y wr=> ∃a:Nat,a≤L∧x= .int .i64 (a:Int)∧y= .int .i64 ((a+z2:Nat):Int)∧S3 B b L cap lt D w wr z a) (fun x _ _=>L-(intOf x).toNat)
 case atStart=>exact ⟨0,by omega,rfl,by rw[Nat.zero_add],HS3.out⟩
 case round =>
 clear HS3
 obtain⟨a2,haL2,rfl,rfl,hS⟩:=hrel
 have HS:Hid (S3 B b L cap lt D w wr z a2):=hS
 clear hS
 have hz2:=HZ2.out
 obtain⟨c2,hc2⟩:∃c,a2+z2=c:=⟨_,rfl⟩
 obtain⟨m2,hm2⟩:∃c,a2+z=c:=⟨_,rfl⟩
 have HC2:Hid (a2+z2=c2∧a2+z=m2∧0<z2):=⟨hc2,hm2,by omega⟩
 have a2w:IntKind.i64.wrap ((a2:Int)+(z:Int))=(m2:Int):=by rw[IntWalk.i64_in _ (by omega)];omega
 rw[hc2]
 by_cases hlt2:c2≤L
 · have hc:=mrg_step HK.out hz0 HS.out (by omega)
   rw[hz2,hc2,hm2]at hc
   unfold cvP at hc
   have g2:(c2:Int)≤(L:Int):=by omega
   have a3:IntKind.i64.wrap ((c2:Int)+(z2:Int))=((c2+z2:Nat):Int):=by rw[IntWalk.i64_in _ (by omega)];omega
   clear HS hz2 hc2 hm2
   go_wp2_with fail
   refine hc.mono ?_
   rintro e w4 ⟨rfl,hs4⟩
   have HS4:Hid (S3 B b L cap lt D w w4 z c2):=hs4
   clear hc hs4
   go_wp2
   go_roundw
   case rel=>exact ⟨c2,by omega,rfl,rfl,HS4.out⟩
   case measure=>have:=HC2.out;simp[intOf];omega
 · have g2:¬(c2:Int)≤(L:Int):=by omega
   by_cases hm:m2<L
   · have hc:=mrg_last HK.out hz0 HS.out (by omega) (by omega)
     rw[hz2,hm2]at hc
     unfold cvP at hc
     have g3:(m2:Int)<(L:Int):=by omega
     have HZZ:Hid (0<z2∧z2≤2*L+20∧z<z2):=⟨by omega,by omega,by omega⟩
     clear HS hz2 hc2 hm2 hm
     go_wp2_with fail
     refine hc.mono ?_
     rintro e w4 ⟨rfl,hs4⟩
     have HS4:Hid (S2 B b L cap lt D w w4 z2):=hs4
     clear hc hs4
     go_wp2
     go_roundw
     case rel=>exact ⟨z2,HZZ.out.1,HZZ.out.2.1,rfl,HS4.out⟩
     case measure=>have:=HZZ.out;simp[intOf];omega
   · have hs4:=mrg_none HK.out HS.out (by omega)
     rw[hz2]at hs4
     have HS4:Hid (S2 B b L cap lt D w wr z2):=hs4
     have g3:¬(m2:Int)<(L:Int):=by omega
     have HZZ:Hid (0<z2∧z2≤2*L+20∧z<z2):=⟨by omega,by omega,by omega⟩
     clear HS hs4 hz2 hc2 hm2 hm
     go_wp2
     go_roundw
     case rel=>exact ⟨z2,HZZ.out.1,HZZ.out.2.1,rfl,HS4.out⟩
     case measure=>have:=HZZ.out;simp[intOf];omega
set_option maxRecDepth 100000 in
theorem sortS_any (K:StK b L kl lt D w) (ho:OwnP B w b L cap D) :
   Calls Tryz.prog 41 #[.slice (some ⟨b,0,none⟩) L cap,cvP] w fun e w'=>e= .returned (.tuple #[])∧SortP B b L cap [] D [] lt w w':=by
 have hst:=stable_any K ho
 unfold cvP at hst ⊢
 clear K ho
 go_enter Tryz.func41,Tryz.ntmps41
 go_wp2_with fail
 refine hst.mono ?_
 rintro e w1 ⟨rfl,hs⟩
 go_wp2
 go_end0
 exact⟨rfl,hs⟩
end
set_option maxRecDepth 100000 in
set_option maxHeartbeats 2000000 in
theorem cmpP_any (gx gy:Gp) (x y:Nat) (vx vy:Value) (w:World) (hx:GrC w x gx vx) (hy:GrC w y gy vy) :
   Calls Tryz.prog 42 #[pN x,pN y] w fun e w'=>e= .returned (.int .i64 (Lib.compareBytes gx.1.data.toList gy.1.data.toList))∧Below w.heap.size w w':=by
 have c1:=hx.cells.1
 have c2:=hy.cells.1
 have hcb:=Tryz.strings_Compare gx.1 gy.1
 unfold pN
 generalize gx.1=a at c1 hcb ⊢
 generalize gy.1=b at c2 hcb ⊢
 generalize Lib.compareBytes a.data.toList b.data.toList=cb at hcb ⊢
 clear hx hy
 go_enter Tryz.func42,Tryz.ntmps42
 go_upto_region 1 with fail
 go_quiet (first | (go_at_call 43;exact Calls.quiet_of_same (hcb _)))
 go_wp2
 go_ret
 exact⟨rfl,below_drewN (Below.refl _ _) _⟩
def grO (xs:List Gx) (x:Nat):Gx:=(xs.find? fun g=>g.1 == x).getD (x,.slice none 0 0,(⟨#[]⟩,0, []))
theorem grO_fst (xs:List Gx) (x:Nat):(grO xs x).1=x:=by
 unfold grO
 cases h:xs.find? fun g=>g.1 == x with
 | none=>rfl
 | some g =>
   have:=List.find?_some h
   simpa using this
theorem grO_at {xs:List Gx} (hd:xs.Pairwise fun x y=>x.1≠y.1) {g:Gx} (hg:g∈xs):grO xs g.1=g:=by
 unfold grO
 cases h:xs.find? fun y=>y.1 == g.1 with
 | none =>
   have:=List.find?_eq_none.1 h g hg
   simp at this
 | some y =>
   have h1:=List.find?_some h
   have h2:=List.mem_of_find?_eq_some h
   have e:y.1=g.1:=by simpa using h1
   obtain⟨i,hi,rfl⟩:=List.mem_iff_getElem.1 h2
   obtain⟨j,hj,rfl⟩:=List.mem_iff_getElem.1 hg
   have hp:=List.pairwise_iff_getElem.1 hd
   rcases Nat.lt_trichotomy i j with hl | hl | hl
   · exact absurd e (hp i j hi hj hl)
   · subst hl;rfl
   · exact absurd e.symm (hp j i hj hi hl)
def keyG (xs:List Gx) (x:Nat):List UInt8:=(grO xs x).2.2.1.data.toList
def klO (xs:List Gx) (x y:Nat):Bool:=decide (Lib.compareBytes (keyG xs x) (keyG xs y)<0)
def ixO:List Nat→Nat→Nat
 | [],_=>0
 | a :: r,x=>if a=x then 0 else ixO r x+1
theorem ix_at:∀ {D:List Nat},(D.Pairwise fun x y=>x≠y)→∀k (hk:k<D.length),ixO D D[k]=k
 | [],_,k,hk=>by simp at hk
 | a :: r,h,0,_=>by simp[ixO]
 | a :: r,h,k+1,hk=>by
   rw[List.pairwise_cons]at h
   have hk':k<r.length:=by simpa using hk
   have hne:a≠r[k]:=h.1 _ (List.getElem_mem _)
   have e:ixO (a :: r) ((a :: r)[k+1])=if a=r[k] then 0 else ixO r r[k]+1:=rfl
   rw[e,if_neg hne,ix_at h.2 k hk']
def ltO (xs:List Gx) (x y:Nat):Prop:=Lib.compareBytes (keyG xs x) (keyG xs y)<0∨(Lib.compareBytes (keyG xs x) (keyG xs y)≤0∧ixO (xs.map (·.1)) x<ixO (xs.map (·.1)) y)
theorem ltO_trans (xs:List Gx):∀x y z,ltO xs x y→ltO xs y z→ltO xs x z:=fun x y z h1 h2=>by
 have hle1:Lib.compareBytes (keyG xs x) (keyG xs y)≤0:=by
   rcases h1 with h | h
   · omega
   · exact h.1
 have hle2:Lib.compareBytes (keyG xs y) (keyG xs z)≤0:=by
   rcases h2 with h | h
   · omega
   · exact h.1
 obtain⟨g1,g2⟩:=cb_trans _ _ _ hle1 hle2
 unfold ltO
 rcases h1 with h1 | h1
 · exact Or.inl (g2 (Or.inl h1))
 · rcases h2 with h2 | h2
   · exact Or.inl (g2 (Or.inr h2))
   · exact Or.inr ⟨g1,by omega⟩
theorem grs_agree {xs:List Gx} (hd:xs.Pairwise fun x y=>x.1≠y.1):(xs.map (·.1)).Pairwise (Agree (klO xs) (ltO xs)):=by
 have hnd:(xs.map (·.1)).Pairwise fun x y=>x≠y:=by rw[List.pairwise_map];exact hd
 rw[List.pairwise_iff_getElem]
 intro i j hi hj hij
 have hpn:=List.pairwise_iff_getElem.1 hnd
 have hix:∀k (hk:k<(xs.map (·.1)).length),ixO (xs.map (·.1)) (xs.map (·.1))[k]=k:=fun k hk=>ix_at hnd k hk
 unfold Agree klO ltO
 rw[hix i hi,hix j hj]
 constructor
 · intro h
   exact Or.inl (of_decide_eq_true h)
 · intro h
   have h1:=of_decide_eq_false h
   have h2:=cb_swap (keyG xs (xs.map (·.1))[i]) (keyG xs (xs.map (·.1))[j])
   exact Or.inr ⟨by omega,hij⟩
theorem GrsIn.dist {B:Nat} {W:World} {v:Value} {xs:List Gx} (h:GrsIn B W v xs):xs.Pairwise fun x y=>x.1≠y.1:=h.ap.imp fun h=>h.1
theorem grs_own {B:Nat} {W:World} {b L cap:Nat} {xs:List Gx} (h:GrsIn B W (.slice (some ⟨b,0,none⟩) L cap) xs) (hl:xs.length=L):OwnP B W b L cap (xs.map (·.1)):=by
 have h1:=h.row
 rw[hl]at h1
 have e:xs.map ptG=(xs.map (·.1)).map pN:=by rw[List.map_map];rfl
 unfold OwnP
 rw[←e]
 exact h1
theorem grs_blk {B:Nat} {W:World} {b L cap:Nat} {xs:List Gx} (h:GrsIn B W (.slice (some ⟨b,0,none⟩) L cap) xs):∀x∈xs,x.1≠b∧∀k,x.2.1.ownBlock=some k→k≠b:=fun x hx=>by
 obtain⟨_,_,c,hb⟩:=own_blk h.row (k:=b) rfl
 have hc:=h.cell x hx
 refine⟨blk_ne hc.1 hb (by decide),fun k hk=>?_⟩
 obtain⟨_,_,c2,hb2⟩:=own_blk hc.2.2 hk
 exact blk_ne hb2 hb (by decide)
theorem grs_ask {B:Nat} {W:World} {b L cap:Nat} {xs:List Gx} (h:GrsIn B W (.slice (some ⟨b,0,none⟩) L cap) xs):AskC b (klO xs) (xs.map (·.1)) W:=fun x hx y hy W' hW=>by
 obtain⟨g,hg,rfl⟩:=List.mem_map.1 hx
 obtain⟨g',hg',rfl⟩:=List.mem_map.1 hy
 have h1:=(h.cell g hg).1.but hW (grs_blk h g hg).1
 have h2:=(h.cell g' hg').1.but hW (grs_blk h g' hg').1
 refine(cmpP_any g.2.2 g'.2.2 g.1 g'.1 g.2.1 g'.2.1 W' h1 h2).mono fun e w' ⟨he,hb⟩=>⟨_,he,?_,hb⟩
 unfold klO keyG
 rw[grO_at h.dist hg,grO_at h.dist hg']
theorem grs_turned {B:Nat} {W W':World} {b L cap:Nat} {xs:List Gx} (h:GrsIn B W (.slice (some ⟨b,0,none⟩) L cap) xs) (hl:xs.length=L) (hp:SortP B b L cap [] (xs.map (·.1)) [] (ltO xs) W W'):∃ys,GrsIn B W' (.slice (some ⟨b,0,none⟩) L cap) ys∧ys.Perm xs∧(ys.map (·.1)).Pairwise (ltO xs):=by
 obtain⟨M,h1,h2,h3,h4⟩:=hp
 rw[List.nil_append,List.append_nil]at h3
 have hd:=h.dist
 have e1:(M.map (grO xs)).map (·.1)=M:=by
   rw[List.map_map]
   have:((fun x:Gx=>x.1) ∘ grO xs)=id:=funext fun x=>grO_fst xs x
   rw[this,List.map_id]
 have e2:(M.map (grO xs)).Perm xs:=by
   have g:=h1.map (grO xs)
   rw[List.map_map]at g
   have e:xs.map ((grO xs) ∘ fun x:Gx=>x.1)=xs:=by
     have e0:xs.map ((grO xs) ∘ fun x:Gx=>x.1)=xs.map id:=List.map_congr_left fun x hx=>grO_at hd hx
     rw[e0,List.map_id]
   rw[e]at g
   exact g
 refine⟨M.map (grO xs),⟨?_,fun x hx=>?_,?_⟩,e2,by rw[e1];exact h2⟩
 · have e:(M.map (grO xs)).map ptG=M.map pN:=by
     rw[List.map_map]
     apply List.map_congr_left
     intro x _
     show ptG (grO xs x)=pN x
     unfold ptG pN
     rw[grO_fst]
   have e3:(M.map (grO xs)).length=L:=by rw[e2.length_eq];exact hl
   rw[e,e3]
   exact h3
 · have hx':=e2.subset hx
   have hc:=h.cell x hx'
   have hb:=grs_blk h x hx'
   exact⟨hc.1.but h4 hb.1,hc.2.1,own_but hc.2.2 h4 hb.2⟩
 · exact(e2.pairwise_iff (fun {x y} hxy=>⟨fun e=>hxy.1 e.symm,fun k hk e=>hxy.2 k e hk⟩)).2 h.ap
set_option maxRecDepth 100000 in
set_option maxHeartbeats 8000000 in
theorem plan_all (v:Value) (fs:List Fl) (least:Int) (w:World) (a:Nat→Addr) (h:EnvL w a) (hx:FlsAt w v fs) (hl:fs.length≤100) (hsz:Short fs) (hE:(listE fs).1=0) (hb0:0≤least) (hb1:least≤41) :
   Calls Tryz.prog 10 #[v,.int .i64 least] w fun e w'=> ∃v' gs,e= .returned (.tuple #[v',.nilIface])∧TssAt w' v' (sevG gs)∧gs.Perm (plN fs least fs.length)∧Below w.heap.size w w':=by
 have hck:=lcheck_any v fs w a h hx hl hsz
 have HEN:Hid (∀W,Below w.heap.size w W→EnvN W a):=fun W hb=>h.file.env.below hb
 have HX:Hid (∀W,Below w.heap.size w W→FlsAt W v fs):=fun W hb=>hx.below hb
 have HFS:Hid (∀f∈fs,0≤f.2.2.1∧f.2.2.1≤40):=fun f hf=>file_rows ((listE_ok.1 hE).2.1 f hf).1
 have HIG:Hid (∀f∈fs,∀W,Below w.heap.size w W→Calls Tryz.prog 39 #[flV f] W fun e w'=>e= .returned (.bool (goneP f.1))∧Below W.heap.size W w'):=fun f hf W hb=>isGone_any f W a (HEN.out W hb) (by have:=(hsz f hf).1;omega)
 obtain⟨q,cap,rfl⟩:=hx.form
 obtain⟨L,hL⟩:∃L,fs.length=L:=⟨_,rfl⟩
 have HL:Hid (fs.length=L):=hL
 have HPO:Hid (∀n,n≤L→GsOk n (plN fs least n)):=fun n hn=>plN_ok HFS.out n (by omega)
 have hL1:L≤100:=by omega
 rw[hL]at hck HX ⊢
 clear hx hl hL hsz h
 go_enter Tryz.func10,Tryz.ntmps10
 go_wp2_with fail
 refine hck.mono ?_
 rintro e w1 ⟨ev,rfl,ht,hb1'⟩
 obtain rfl:=ht.ok hE
 clear hck ht hE
 go_wp2_with fail
 go_loopw [7,24] (fun u k wr=> ∃(n:Nat) (xs:List Gx),n≤L∧k= .int .i64 n∧GrsIn w.heap.size wr u xs∧xs.map (·.2.2)=plN fs least n∧Below w.heap.size w wr) (fun _ k _=>L-(intOf k).toNat)
 case atStart=>exact ⟨0, [],by omega,rfl,GrsIn.nil _ _,rfl,hb1'⟩
 case round =>
 clear hb1'
 obtain⟨n,xs,hn,rfl,hG,hm,hb⟩:=hrel
 have HM:Hid (xs.map (·.2.2)=plN fs least n):=hm
 have HG:Hid (GrsIn w.heap.size wr u7 xs):=hG
 clear hm hG
 by_cases hlt:n<L
 case neg =>
   obtain rfl:n=L:=by omega
   have hii:¬(n:Int)<(n:Int):=by omega
   have hlx:xs.length≤100:=by
     have e:=congrArg List.length HM.out
     rw[List.length_map]at e
     have:=(HPO.out n (Nat.le_refl _)).1
     omega
   obtain⟨q7,c7,hu7⟩:=own_form HG.out.row
   subst hu7
   by_cases hx0:xs.length≤1
   · have hsv:=several_any w.heap.size _ xs wr HG.out (by omega)
     rw[HM.out]at hsv
     have hst:=fun cv=>sortS_tiny q7 xs.length c7 cv hx0 wr
     generalize xs.length=XL at *
     clear HG HM hlx HPO hx0
     go_upto_region 13 with fail
     go_wp2_with fail
     refine(hst _).mono ?_
     rintro e w2 ⟨rfl,rfl⟩
     clear hst
     go_wp2_with fail
     refine hsv.mono ?_
     rintro e w3 ⟨v3,rfl,ht3,hb3⟩
     clear hsv
     have HT3:Hid (TssAt w3 v3 (sevG (plN fs least n))):=ht3
     have hB3:Below w.heap.size w w3:=hb.trans (hb3.mono hb.size)
     clear ht3
     go_wp2
     refine bodyPost_ret (v:=.tuple #[v3,.nilIface]) (by simp[results,Tryz.results10,go_sem]) rfl ?_
     exact⟨_,_,rfl,HT3.out,List.Perm.refl _,hB3⟩
   · obtain⟨b7,hq7,_⟩:=HG.out.at_ (fun e=>by rw[e]at hx0;simp at hx0)
     subst hq7
     obtain⟨XL,hXL⟩:∃k,xs.length=k:=⟨_,rfl⟩
     have HXL:Hid (xs.length=XL∧XL≤100):=⟨hXL,by omega⟩
     have hG7:=HG.out
     rw[hXL]at hG7 ⊢
     have K:StK b7 XL (klO xs) (ltO xs) (xs.map (·.1)) wr:=⟨ltO_trans xs,grs_ask hG7,grs_agree hG7.dist,by rw[List.length_map];exact hXL,by omega⟩
     have hst:=sortS_any K (grs_own hG7 hXL)
     have HTU:Hid (∀W',SortP w.heap.size b7 XL c7 [] (xs.map (·.1)) [] (ltO xs) wr W'→∃ys,GrsIn w.heap.size W' (.slice (some ⟨b7,0,none⟩) XL c7) ys∧ys.Perm xs∧But (fun k=>k=b7) wr W'∧w.heap.size≤b7):=fun W' hp=>by
       obtain⟨ys,h1,h2,_⟩:=grs_turned hG7 hXL hp
       obtain⟨M,_,_,_,h4⟩:=hp
       exact⟨ys,h1,h2,h4,(own_blk hG7.row (k:=b7) rfl).1⟩
     unfold cvP at hst
     clear K hG7 HG hlx HPO hx0 hXL
     go_upto_region 13 with fail
     go_wp2_with fail
     refine hst.mono ?_
     rintro e w2 ⟨rfl,hp2⟩
     clear hst
     obtain⟨ys,hy1,hy2,hy3,hy4⟩:=HTU.out w2 hp2
     have hB2:Below w.heap.size w w2:=hb.trans (hy3.below hb.size (fun k hk=>by rw[hk];exact hy4))
     have hsv:=several_any w.heap.size _ ys w2 hy1 (by have:=HXL.out;rw[hy2.length_eq];omega)
     have HPM:Hid ((ys.map (·.2.2)).Perm (plN fs least n)):=by
       have h:=hy2.map (·.2.2)
       rw[HM.out]at h
       exact h
     generalize ys.map (·.2.2)=gs at hsv HPM
     clear hy1 hy2 hy3 hp2 HTU HM
     go_wp2_with fail
     refine hsv.mono ?_
     rintro e w3 ⟨v3,rfl,ht3,hb3⟩
     clear hsv
     have HT3:Hid (TssAt w3 v3 (sevG gs)):=ht3
     have hB3:Below w.heap.size w w3:=hB2.trans (hb3.mono hB2.size)
     clear ht3
     go_wp2
     refine bodyPost_ret (v:=.tuple #[v3,.nilIface]) (by simp[results,Tryz.results10,go_sem]) rfl ?_
     exact⟨_,gs,rfl,HT3.out,HPM.out,hB3⟩
 case pos =>
   have hltx:n<fs.length:=by rw[HL.out];exact hlt
   obtain⟨b,o,hq,hc⟩:=(HX.out wr hb).cells (fun e=>by rw[e]at hltx;simp at hltx)
   subst hq
   obtain⟨c0,c1,c2,c3,c4,c5⟩:=hc n hltx
   have hi1:(n:Int)<(L:Int):=by omega
   have hi0:(0:Int)≤(n:Int):=by omega
   have HIY:Hid (fewB least fs[n]=true→plN fs least (n+1)=putG fs[n] (plN fs least n)):=fun e=>plN_yes hltx e
   have HIN:Hid (fewB least fs[n]=false→plN fs least (n+1)=plN fs least n):=fun e=>plN_no hltx e
   have hfr:=HFS.out fs[n] (List.getElem_mem _)
   have hig:=HIG.out fs[n] (List.getElem_mem _)
   have HGO:=HPO.out n (by omega)
   have HXO:Hid (GrOk xs∧xs.length≤900∧∀x∈xs,x.2.2.2.2.length≤900):=by
     have e:=HM.out
     have el:xs.length=(plN fs least n).length:=by rw[←e,List.length_map]
     have em:∀x∈xs,x.2.2∈plN fs least n:=fun x hx=>by rw[←e];exact List.mem_map.2 ⟨x,hx,rfl⟩
     exact⟨fun x hx=>by have:=(HGO.2 _ (em x hx)).1;omega,by have:=HGO.1;omega,fun x hx=>by have:=(HGO.2 _ (em x hx)).2;omega⟩
   generalize fs[n]=g at c0 c1 c2 c3 c4 c5 HIY HIN hig hfr
   have hal:Below wr.heap.size wr (wr.alloc (.cells #[.string g.1,.string g.2.1,.int .i64 g.2.2.1,.int .i64 g.2.2.2.1,.int .i64 g.2.2.2.2.1,.int .i64 g.2.2.2.2.2] 43)):=(Below.refl _ _).alloc (Nat.le_refl _) _
   have hgn:=FlAt.new wr g
   have hB2:Below w.heap.size w (wr.alloc (.cells #[.string g.1,.string g.2.1,.int .i64 g.2.2.1,.int .i64 g.2.2.2.1,.int .i64 g.2.2.2.2.1,.int .i64 g.2.2.2.2.2] 43)):=hb.trans (hal.mono hb.size)
   have HG2:Hid (GrsIn w.heap.size (wr.alloc (.cells #[.string g.1,.string g.2.1,.int .i64 g.2.2.1,.int .i64 g.2.2.2.1,.int .i64 g.2.2.2.2.1,.int .i64 g.2.2.2.2.2] 43)) u7 xs):=HG.out.below hal
   clear hc hltx HG hal hb HGO HPO
   go_upto_region 10 with fail
   clear c0 c1 c2 c3 c4 c5
   generalize wr.alloc (.cells #[.string g.1,.string g.2.1,.int .i64 g.2.2.1,.int .i64 g.2.2.2.1,.int .i64 g.2.2.2.2.1,.int .i64 g.2.2.2.2.2] 43)=W2 at *
   generalize wr.heap.size=gb at *
   obtain⟨d0,d1,d2,d3,d4,d5,-⟩:=hgn.cells
   have hig2:=hig W2 hB2
   unfold flV at hig2
   clear hig HIG
   go_wp2_with fail
   refine hig2.mono ?_
   rintro e w3 ⟨rfl,hb3⟩
   clear hig2 d0 d1 d2 d3 d4 d5
   have hB3:Below w.heap.size w w3:=hB2.trans (hb3.mono hB2.size)
   have HG3:Hid (GrsIn w.heap.size w3 u7 xs):=HG2.out.below hb3
   obtain⟨d0,d1,d2,d3,d4,d5,-⟩:=(hgn.below hb3).cells
   clear HG2 hb3 hB2 hgn
   cases hGG:goneP g.1
   case true =>
     have HS:Hid (plN fs least (n+1)=plN fs least n):=HIN.out (by unfold fewB;rw[hGG];rfl)
     clear hGG HIY HIN
     go_wp2
     go_roundw
     case rel=>exact ⟨n+1,xs,by omega,by go_num,HG3.out,by rw[HS.out];exact HM.out,hB3⟩
     case measure=>simp [intOf];omega
   case false =>
     by_cases hfw:g.2.2.1<least
     · have HS:Hid (plN fs least (n+1)=putG g (plN fs least n)):=HIY.out (by unfold fewB;rw[hGG,decide_eq_true hfw];rfl)
       have hpt:=put_any w.heap.size g u7 xs w3 HG3.out hB3.size HXO.out.1 ⟨hfr.1,by omega⟩ HXO.out.2.1 HXO.out.2.2
       rw[HM.out,←HS.out]at hpt
       unfold flV at hpt
       clear hGG HIY HIN HXO HG3
       go_wp2_with fail
       refine hpt.mono ?_
       rintro e w4 ⟨v4,xs4,rfl,hG4,hm4,hb4⟩
       have HR:Hid (∃(m:Nat) (ys:List Gx),m≤L∧Value.int .i64 ((n:Int)+1)= .int .i64 m∧GrsIn w.heap.size w4 v4 ys∧ys.map (·.2.2)=plN fs least m∧Below w.heap.size w w4):=⟨n+1,xs4,by omega,by go_num,hG4,hm4,hB3.trans hb4⟩
       clear hpt hG4 hm4 hb4 HM HS d0 d1 d2 d3 d4 d5
       go_wp2
       go_roundw
       case rel =>
         obtain⟨m,ys,g1,g2,g3,g4,g5⟩:=HR.out
         exact⟨m,ys,g1,g2,g3,g4,g5⟩
       case measure=>simp [intOf];omega
     · have HS:Hid (plN fs least (n+1)=plN fs least n):=HIN.out (by unfold fewB;rw[hGG,decide_eq_false hfw];rfl)
       clear hGG HIY HIN
       go_wp2
       go_roundw
       case rel=>exact ⟨n+1,xs,by omega,by go_num,HG3.out,by rw[HS.out];exact HM.out,hB3⟩
       case measure=>simp [intOf];omega
end Go.Proofs.YtgckdomafbnmkaaGreatDoor
