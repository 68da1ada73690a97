/- By an AI agent. -/
import Derived.Test.YtdhkdjlgmbejnaaGreatDoorRefList3
namespace Go.Proofs.YtdhkdjlgmbejnaaGreatDoor
open Go.RowKit Go.Extern.Stop Go.Stop Go.Extern Go.Sort Go.Shelf Go.Lib
def SplitT {β:Type} (k:FK β) (w:World) (s:List UInt8) (e:Ending) (w':World):Prop :=
 Below w.heap.size w w'∧((∃c:Nat,c≠0∧e= .returned (.tuple #[.slice none 0 0,.slice none 0 0,.agg #[.int .i64 c,.int .i64 (-1)]])∧readG k s=([],c,none)) ∨
   (∃(n lo hi sum:Int) (b:List UInt8) (v tv:Value) (ts:List ByteArray),e= .returned (.tuple #[v,tv,.agg #[.int .i64 0,.int .i64 (-1)]])∧KeysAt w' v [n,lo,hi,sum]∧TextsAt w' tv ts∧ts.map (·.data.toList)=pieces 10 b∧b.length≤20000∧readG k s=endG k n lo hi (rowsG k (pieces 10 b) 0 [])))
theorem sumOf_low (s:ByteArray) (w:World) (hs:s.size≤maxLen):Calls Tryz.prog 132 #[.string s] w fun e w'=>e= .returned (.int .i64 (sumL s.data.toList:Nat))∧Below w.heap.size w w' :=
 (sumOf_any s w hs).mono fun e w' ⟨h1,h2⟩=>⟨h1,by rw[h2];exact Below.refl _ _⟩
theorem KeysAt.setLow {W:World} {v:Value} {zs:List Int} {F o:Nat} {x:Value} (h:KeysAt W v zs) (hF:∀b o' c n,v= .slice (some ⟨b,o',none⟩) n c→b≠F):KeysAt (W.setCell ⟨F,o,none⟩ x) v zs:=by
 rcases h with h | ⟨b,o',c,rfl,h⟩
 · exact .inl h
 · exact .inr ⟨b,o',c,rfl,fun j hj=>by
     rw[World.cell?_setCell_other _ _ _ _ (by have:=hF b o' c _ rfl;simp)]
     exact h j hj⟩
theorem TextsAt.setLow {W:World} {v:Value} {ts:List ByteArray} {F o:Nat} {x:Value} (h:TextsAt W v ts) (hF:∀b o' c n,v= .slice (some ⟨b,o',none⟩) n c→b≠F):TextsAt (W.setCell ⟨F,o,none⟩ x) v ts:=by
 obtain⟨b,c,rfl,hc,h⟩:=h
 exact⟨b,c,rfl,hc,fun j hj=>by
   rw[World.cell?_setCell_other _ _ _ _ (by have:=hF b 0 c _ rfl;simp)]
   exact h j hj⟩
theorem FC.ne_keys {W:World} {F:Nat} {x y:Int} {v:Value} {zs:List Int} (h:FC W F x y) (hk:KeysAt W v zs) (h4:4≤zs.length):∀b o' c n,v= .slice (some ⟨b,o',none⟩) n c→b≠F:=by
 intro b o' c n hv e
 subst e
 rcases hk with⟨_,_,e1,e2⟩|⟨b2,o2,c2,e1,h2⟩
 · rw[e2]at h4;simp at h4
 · rw[e1]at hv
   injection hv with e3
   injection e3 with e3
   injection e3 with e3 e4
   subst e3
   have:=h2 3 (by omega)
   rw[cell_of_row _ _ _ _ _ _ h,Array.getElem?_eq_none (by simp)]at this
   cases this
theorem FC.ne_texts {W:World} {F:Nat} {x y:Int} {v:Value} {ts:List ByteArray} (h:FC W F x y) (ht:TextsAt W v ts) (hne:ts≠ []):∀b o' c n,v= .slice (some ⟨b,o',none⟩) n c→b≠F:=by
 intro b o' c n hv e
 subst e
 obtain⟨b2,c2,e1,_,h2⟩:=ht
 rw[e1]at hv
 injection hv with e3
 injection e3 with e3
 injection e3 with e3 e4
 subst e3
 have:=h2 0 (List.length_pos_iff.2 hne)
 rw[cell_of_row _ _ _ _ _ _ h]at this
 simp at this
set_option maxRecDepth 100000 in
set_option maxHeartbeats 4000000 in
theorem splitText_any {β:Type} (k:FK β) (kw s:ByteArray) (hkw:kw.data.toList=k.word) (w:World) (hs:s.size≤maxLen) :
   Calls Tryz.prog 103 #[.string kw,.string s] w fun e w'=>SplitT k w s.data.toList e w':=by
 unfold maxLen at hs
 have hszl:=size_list s
 have hf0:=FC.new w
 have hal:Below w.heap.size w (w.alloc (.cells #[.int .i64 0,.int .i64 0] 46)):=(Below.refl _ _).alloc (Nat.le_refl _) _
 by_cases hbig:20000<s.size
 · have HD:Hid (readG k s.data.toList=([],2,none)):=by show _=_;unfold readG;rw[if_pos (by omega)]
   have hb':(20000:Int)<(s.size:Int):=by omega
   go_enter Tryz.func103,Tryz.ntmps103
   have hbr:=fun W=>bare_of 2 W
   go_wp2_with fail
   refine(hbr _).mono ?_
   rintro e wz ⟨rfl,hbz⟩
   clear hbr
   have hfz:=hf0.below hbz
   have hBz:Below w.heap.size w wz:=hal.trans (hbz.mono hal.size)
   have j0:=hfz.c0
   have j1:=hfz.c1
   have jz:=hfz.fz
   go_wp2
   refine bodyPost_ret (v:=.tuple #[.slice none 0 0,.slice none 0 0,.agg #[.int .i64 2,.int .i64 (-1)]]) (by simp[results,Tryz.results103,go_sem,j0,j1]) rfl ⟨(hBz.setCell (by simp) _).setCell (by simp) _,Or.inl ⟨2,by decide,rfl,HD.out⟩⟩
 have hb':¬(20000:Int)<(s.size:Int):=by omega
 rcases cut_cases 10 s.data.toList with⟨hno,hcut⟩|⟨a,b,hab,hna,hcut⟩
 · have HD:Hid (readG k s.data.toList=([],1,none)):=by
     show _=_
     unfold readG
     rw[if_neg (by omega),hcut]
     rfl
   have HNO:Hid (∀c∈s.data.toList,c≠10):=hno
   clear hno hcut
   go_enter Tryz.func103,Tryz.ntmps103
   go_wp2
   go_loop [7] (fun k=> ∃n:Nat,n≤s.size∧k= .int .i64 n) (fun k=>s.size-(intOf k).toNat)
   case atStart=>exact ⟨0,Nat.zero_le _,rfl⟩
   case round =>
     obtain⟨n,hn,rfl⟩:=hrel
     by_cases hlt:n<s.size
     · have hi:(n:Int)<(s.size:Int):=by omega
       have hi0:(0:Int)≤(n:Int):=by omega
       have hne:¬(s[n].toNat:Int)=10:=fun e=>HNO.out s[n] (List.mem_iff_getElem?.2 ⟨n,byte_list s n hlt⟩) (UInt8.toNat_inj.1 (by have e10:(10:UInt8).toNat=10:=rfl;omega))
       go_wp2
       go_round
       case rel=>exact ⟨n+1,by omega,by go_num⟩
       case measure=>simp [intOf];omega
     · obtain rfl:n=s.size:=by omega
       have hbr:=fun W=>bare_of 1 W
       go_wp2_with fail
       refine(hbr _).mono ?_
       rintro e wz ⟨rfl,hbz⟩
       clear hbr
       have hfz:=hf0.below hbz
       have hBz:Below w.heap.size w wz:=hal.trans (hbz.mono hal.size)
       have j0:=hfz.c0
       have j1:=hfz.c1
       have jz:=hfz.fz
       go_wp2
       refine bodyPost_ret (v:=.tuple #[.slice none 0 0,.slice none 0 0,.agg #[.int .i64 1,.int .i64 (-1)]]) (by simp[results,Tryz.results103,go_sem,j0,j1]) rfl ⟨(hBz.setCell (by simp) _).setCell (by simp) _,Or.inl ⟨1,by decide,rfl,HD.out⟩⟩
 have hlen:s.size=a.length+1+b.length:=by rw[←hszl,hab];simp;omega
 have hat:∀(h:a.length<s.size),s[a.length].toNat=10:=fun h=>by
   have h1:=byte_list s a.length h
   rw[hab,List.getElem?_append_right (Nat.le_refl _),Nat.sub_self]at h1
   have h2:s[a.length]=10:=(Option.some.inj h1).symm
   rw[h2];rfl
 have HBE:Hid (∀n (h:n<a.length) (h':n<s.size),¬(s[n].toNat:Int)=10):=fun n h h' e=>by
   have h1:=byte_list s n h'
   rw[hab,List.getElem?_append_left h]at h1
   exact hna s[n] (List.mem_iff_getElem?.2 ⟨n,h1⟩) (UInt8.toNat_inj.1 (by have e10:(10:UInt8).toNat=10:=rfl;omega))
 have hxa:(s.extract 0 a.length).data.toList=a:=by
   rw[extract_data,hab];simp
 have hxb:(s.extract (a.length+1) s.size).data.toList=b:=by
   rw[extract_to_end,hab,List.drop_append,List.drop_eq_nil_of_le (by omega)]
   simp
 have hDat:readG k s.data.toList=match headO k.word a with
     | none=>([],1,none)
     | some (n,lo,hi,sum)=>if sum≠sumL b then ([],10,none) else endG k n lo hi (rowsG k (pieces 10 b) 0 []):=by
   unfold readG
   rw[if_neg (by omega),hcut]
   rfl
 have HDAT:Hid (readG k s.data.toList=match headO k.word a with
     | none=>([],1,none)
     | some (n,lo,hi,sum)=>if sum≠sumL b then ([],10,none) else endG k n lo hi (rowsG k (pieces 10 b) 0 [])):=hDat
 have hcu:=fun W=>cutText_any (s.extract 0 a.length) W (by rw[←size_list,hxa];omega)
 have hcb:=fun W=>cutBy_any 10 (s.extract (a.length+1) s.size) W (by rw[←size_list,hxb];omega)
 have hsu:=fun W=>sumOf_low (s.extract (a.length+1) s.size) W (by rw[←size_list,hxb];unfold maxLen;omega)
 rw[hxa]at hcu
 rw[hxb]at hcb hsu
 have e10:((10:UInt8).toNat:Int)=10:=rfl
 rw[e10]at hcb
 clear hDat hcut hab hna hxa hxb hszl e10
 obtain⟨A,hA⟩:∃A,a.length=A:=⟨_,rfl⟩
 have HA:Hid (a.length=A):=hA
 rw[hA]at hlen hat hcu hcb hsu HBE
 clear hA
 have hb20:b.length≤20000:=by omega
 have HB20:Hid (b.length≤20000):=hb20
 have hAs:A<s.size:=by omega
 clear hb20 hlen
 go_enter Tryz.func103,Tryz.ntmps103
 go_wp2
 go_loop [7] (fun k=> ∃n:Nat,n≤A∧k= .int .i64 n) (fun k=>s.size-(intOf k).toNat)
 case atStart=>exact ⟨0,Nat.zero_le _,rfl⟩
 case round =>
   obtain⟨n,hn,rfl⟩:=hrel
   have hlt:n<s.size:=by omega
   have hi:(n:Int)<(s.size:Int):=by omega
   have hi0:(0:Int)≤(n:Int):=by omega
   by_cases hnA:n<A
   · have hne:=HBE.out n hnA hlt
     clear hcu hcb hsu
     go_wp2
     go_round
     case rel=>exact ⟨n+1,by omega,by go_num⟩
     case measure=>simp [intOf];omega
   obtain rfl:n=A:=by omega
   have heq:(s[n].toNat:Int)=10:=by have:=hat hlt;omega
   have hnl:¬(n:Int)=(s.size:Int):=by omega
   clear hat
   have hcu1:=hcu (w.alloc (.cells #[.int .i64 0,.int .i64 0] 46))
   clear hcu
   generalize w.alloc (.cells #[.int .i64 0,.int .i64 0] 46)=w1 at hf0 hal hcu1 ⊢
   go_wp2_with fail
   refine hcu1.mono ?_
   rintro e w2 ⟨v2,ts,rfl,hts,htm,hb2⟩
   clear hcu1
   have hB2:Below w.heap.size w w2:=hal.trans (hb2.mono hal.size)
   have hf2:=hf0.below hb2
   clear hf0
   have hl5:ts.length=(words a).length:=by have:=congrArg List.length htm;simpa using this
   obtain⟨bt,capt,rfl,hcap,hcell⟩:=hts
   by_cases h5:ts.length=5
   case neg =>
     have HD:Hid (readG k s.data.toList=([],1,none)):=by
       show _=_
       have hh:headO k.word a=none:=by
         unfold headO
         split
         · rename_i e;rw[e]at hl5;exact absurd hl5 h5
         · rfl
       rw[HDAT.out,hh]
     have h5':¬(ts.length:Int)=5:=by omega
     clear hcell htm hl5 hcb hsu
     generalize ts.length=TL at h5 h5' hcap ⊢
     have hbr:=fun W=>bare_of 1 W
     go_wp2_with fail
     refine(hbr _).mono ?_
     rintro e wz ⟨rfl,hbz⟩
     clear hbr
     have hfz:=hf2.below hbz
     have hBz:Below w.heap.size w wz:=hB2.trans (hbz.mono hB2.size)
     have j0:=hfz.c0
     have j1:=hfz.c1
     have jz:=hfz.fz
     go_wp2
     refine bodyPost_ret (v:=.tuple #[.slice none 0 0,.slice none 0 0,.agg #[.int .i64 1,.int .i64 (-1)]]) (by simp[results,Tryz.results103,go_sem,j0,j1]) rfl ⟨(hBz.setCell (by simp) _).setCell (by simp) _,Or.inl ⟨1,by decide,rfl,HD.out⟩⟩
   obtain⟨tk,ta,tb,tc,td,rfl⟩:∃tk ta tb tc td,ts= [tk,ta,tb,tc,td]:=by
     match ts,h5 with
     | [tk,ta,tb,tc,td],_=>exact ⟨tk,ta,tb,tc,td,rfl⟩
   have hc0:=hcell 0 (by simp)
   simp only[List.getElem_cons_zero]at hc0
   have hnl4:=numbersOf_list bt 1 (capt-1) [ta,tb,tc,td] w2 (fun j hj=>by
     have:=hcell (1+j) (by simp at hj ⊢;omega)
     rw[this]
     congr 1
     match j,hj with
     | 0,_=>rfl
     | 1,_=>rfl
     | 2,_=>rfl
     | 3,_=>rfl) (fun t ht=>by
       have hwl:=words_len a t.data.toList (by rw[←htm];simp only[List.map_cons,List.map_nil,List.mem_cons,List.not_mem_nil,or_false]at ht ⊢;rcases ht with rfl | rfl | rfl | rfl<;>simp)
       rw[size_list]at hwl
       have:=HA.out
       unfold maxLen
       omega) (by simp)
   simp only[List.length_cons,List.length_nil,Nat.zero_add,Nat.reduceAdd]at hnl4 hcap ⊢
   have hcap1:1≤capt:=by omega
   clear hcell h5 hl5
   simp only[List.map_cons,List.map_nil]at htm
   have HHD:Hid (headO k.word a=if tk.data.toList=k.word then (match numO ta.data.toList,numO tb.data.toList,numO tc.data.toList,numO td.data.toList with
     | some a,some b,some c,some d=>some (a,b,c,d)
     | _,_,_,_=>none) else none):=by
     show _=_
     unfold headO
     rw[←htm]
     rfl
   clear htm
   go_wp2_with fail
   refine hnl4.mono ?_
   rintro e w3 ⟨hnp,hb3⟩
   clear hnl4
   have hB3:Below w.heap.size w w3:=hB2.trans (hb3.mono hB2.size)
   have hf3:=hf2.below hb3
   have hc3:=below_keep hb3 hc0
   clear hf2 hc0
   rcases hnp with⟨zs,v3,hzl,hzs,rfl,hka⟩|⟨j,t,hj,hjn,rfl⟩
   case inr =>
     have HD:Hid (readG k s.data.toList=([],1,none)):=by
       show _=_
       have hh:headO k.word a=none:=by
         rw[HHD.out]
         split
         · match j,hj with
           | 0,hj=>simp at hj;subst hj;rw[hjn]
           | 1,hj=>simp at hj;subst hj;rw[hjn];split<;>simp_all
           | 2,hj=>simp at hj;subst hj;rw[hjn];split<;>simp_all
           | 3,hj=>simp at hj;subst hj;rw[hjn];split<;>simp_all
           | j+4,hj=>simp at hj
         · rfl
       rw[HDAT.out,hh]
     clear hj hjn hcb hsu
     have hbr:=fun W=>bare_of 1 W
     go_wp2_with fail
     refine(hbr _).mono ?_
     rintro e wz ⟨rfl,hbz⟩
     clear hbr
     have hfz:=hf3.below hbz
     have hBz:Below w.heap.size w wz:=hB3.trans (hbz.mono hB3.size)
     have j0:=hfz.c0
     have j1:=hfz.c1
     have jz:=hfz.fz
     go_wp2
     refine bodyPost_ret (v:=.tuple #[.slice none 0 0,.slice none 0 0,.agg #[.int .i64 1,.int .i64 (-1)]]) (by simp[results,Tryz.results103,go_sem,j0,j1]) rfl ⟨(hBz.setCell (by simp) _).setCell (by simp) _,Or.inl ⟨1,by decide,rfl,HD.out⟩⟩
   obtain⟨x,y,z,u,rfl⟩:∃x y z u,zs= [x,y,z,u]:=by
     simp only[List.length_cons,List.length_nil,Nat.zero_add,Nat.reduceAdd]at hzl
     match zs,hzl with
     | [x,y,z,u],_=>exact ⟨x,y,z,u,rfl⟩
   have g0:=hzs 0 ta rfl
   have g1:=hzs 1 tb rfl
   have g2:=hzs 2 tc rfl
   have g3:=hzs 3 td rfl
   simp only[List.getElem?_cons_zero,List.getElem?_cons_succ]at g0 g1 g2 g3
   rw[g0,g1,g2,g3]at HHD
   clear g0 g1 g2 g3 hzs hzl
   by_cases hk:tk.data.toList=k.word
   case neg =>
     have HD:Hid (readG k s.data.toList=([],1,none)):=by
       show _=_
       rw[HDAT.out,HHD.out,if_neg hk]
     have hkb:=neBB (s:=tk) (t:=kw) (by rw[hkw];exact hk)
     clear hcb hsu hk HHD
     have hbr:=fun W=>bare_of 1 W
     go_wp2_with fail
     refine(hbr _).mono ?_
     rintro e wz ⟨rfl,hbz⟩
     clear hbr
     have hfz:=hf3.below hbz
     have hBz:Below w.heap.size w wz:=hB3.trans (hbz.mono hB3.size)
     have j0:=hfz.c0
     have j1:=hfz.c1
     have jz:=hfz.fz
     go_wp2
     refine bodyPost_ret (v:=.tuple #[.slice none 0 0,.slice none 0 0,.agg #[.int .i64 1,.int .i64 (-1)]]) (by simp[results,Tryz.results103,go_sem,j0,j1]) rfl ⟨(hBz.setCell (by simp) _).setCell (by simp) _,Or.inl ⟨1,by decide,rfl,HD.out⟩⟩
   have hkb:=eqBB (s:=tk) (t:=kw) (by rw[hkw];exact hk)
   rw[if_pos hk]at HHD
   obtain⟨q3,c3,hv3⟩:=hka.form
   have hl4: [x,y,z,u].length=4:=rfl
   rw[hl4]at hv3
   subst hv3
   obtain⟨gb,go,rfl,hg3⟩:∃gb go,q3=some ⟨gb,go,none⟩∧w3.cell? ⟨gb,go+3,none⟩=some (.int .i64 u):=by
     rcases hka with⟨_,_,e,e'⟩|⟨gb,go,cc,e,h⟩
     · cases e'
     · injection e with e1
       exact⟨gb,go,e1,h 3 (by simp)⟩
   have HKA:Hid (KeysAt w3 (.slice (some ⟨gb,go,none⟩) 4 c3) [x,y,z,u]):=hka
   clear hka hl4 hk
   go_wp2_with fail
   have hmxo:Tryz.prog.follows .mixedOrders=true:=by kernel_rfl
   have hsm:=fun d os=>Calls.regrown_of (w:=w3) (d:=d) (os:=os) (hsu _)
   have f3:=cell_regrown hg3
   have hsub:(n:Int)+1≤(s.size:Int):=by omega
   have hsub0:(0:Int)≤(n:Int)+1:=by omega
   clear hsu hg3
   refine wp_region_quiet_below hmxo (by kernel_rfl) ?_
   repeat (go_big_quiet_step (exact hsm _ _))
   refine wpQuiet_nil ?_
   intro _ hw'
   obtain⟨⟨dq,osq⟩,hw''⟩:=hw'
   subst hw''
   clear hsm f3
   have hbW:=below_regrown w3 dq osq
   generalize grow (redrawn w3 dq) osq=w4 at hbW ⊢
   have hB4:Below w.heap.size w w4:=hB3.trans (hbW.mono hB3.size)
   have hf4:=hf3.below hbW
   have hka4:=HKA.out.below hbW
   by_cases hsum:u=(sumL b:Int)
   case neg =>
     have HD:Hid (readG k s.data.toList=([],10,none)):=by
       show _=_
       rw[HDAT.out,HHD.out]
       dsimp only
       rw[if_pos hsum]
     clear hcb HHD hka4
     have hbr:=fun W=>bare_of 10 W
     go_wp2_with fail
     refine(hbr _).mono ?_
     rintro e wz ⟨rfl,hbz⟩
     clear hbr
     have hfz:=hf4.below hbz
     have hBz:Below w.heap.size w wz:=hB4.trans (hbz.mono hB4.size)
     have j0:=hfz.c0
     have j1:=hfz.c1
     have jz:=hfz.fz
     go_wp2
     refine bodyPost_ret (v:=.tuple #[.slice none 0 0,.slice none 0 0,.agg #[.int .i64 10,.int .i64 (-1)]]) (by simp[results,Tryz.results103,go_sem,j0,j1]) rfl ⟨(hBz.setCell (by simp) _).setCell (by simp) _,Or.inl ⟨10,by decide,rfl,HD.out⟩⟩
   have HD:Hid (readG k s.data.toList=endG k x y z (rowsG k (pieces 10 b) 0 [])):=by
     show _=_
     rw[HDAT.out,HHD.out]
     dsimp only
     rw[if_neg (by omega)]
   have hcb4:=hcb w4
   clear hcb
   go_wp2_with fail
   refine hcb4.mono ?_
   rintro e w5 ⟨v5,ts5,rfl,hts5,htm5,hb5⟩
   clear hcb4
   have hfin:=fine_of w5
   go_wp2_with fail
   refine hfin.mono ?_
   rintro e w6 ⟨rfl,hb6⟩
   clear hfin
   have hb56:Below w4.heap.size w4 w6:=hb5.trans (hb6.mono hb5.size)
   have hB6:Below w.heap.size w w6:=hB4.trans (hb56.mono hB4.size)
   have hf6:=hf4.below hb56
   have hka6:=hka4.below hb56
   have hts6:=hts5.below hb6
   have j0:=hf6.c0
   have j1:=hf6.c1
   have jz:=hf6.fz
   have HFIN:Hid (SplitT k w s.data.toList (.returned (.tuple #[.slice (some ⟨gb,go,none⟩) 4 c3,v5,.agg #[.int .i64 0,.int .i64 (-1)]])) ((w6.setCell ⟨w.heap.size,0,none⟩ (.int .i64 0)).setCell ⟨w.heap.size,1,none⟩ (.int .i64 (-1)))):=by
     have n1:=hf6.ne_keys hka6 (by simp)
     have n2:=hf6.ne_texts hts6 (by intro e;rw[e]at htm5;exact pieces_ne 10 b htm5.symm)
     exact⟨(hB6.setCell (by simp) _).setCell (by simp) _,Or.inr ⟨x,y,z,u,b,_,v5,ts5,rfl,(hka6.setLow n1).setLow n1,(hts6.setLow n2).setLow n2,htm5,HB20.out,HD.out⟩⟩
   clear hf4 hf6 hka4 hka6 hts5 hts6
   go_wp2
   exact bodyPost_ret (v:=.tuple #[.slice (some ⟨gb,go,none⟩) 4 c3,v5,.agg #[.int .i64 0,.int .i64 (-1)]]) (by simp[results,Tryz.results103,go_sem,j0,j1]) rfl HFIN.out
def headF (n lo hi:Int) (zs:List Int):Nat:=if 40<zs.length then 8 else if n=zs.length∧lo=(endsZ zs).1∧hi=(endsZ zs).2 then 0 else 3
set_option maxRecDepth 100000 in
set_option maxHeartbeats 4000000 in
theorem headFault_any (v kv:Value) (n lo hi sum:Int) (zs:List Int) (w:World) (hv:KeysAt w v [n,lo,hi,sum]) (hk:KeysAt w kv zs) (hl:zs.length≤20000) :
   Calls Tryz.prog 106 #[v,kv] w fun e w'=>e= .returned (.agg #[.int .i64 (headF n lo hi zs:Nat),.int .i64 (-1)])∧Below w.heap.size w w':=by
 have hf0:=FC.new w
 have hal:Below w.heap.size w (w.alloc (.cells #[.int .i64 0,.int .i64 0] 46)):=(Below.refl _ _).alloc (Nat.le_refl _) _
 have hen:=ends_any kv zs _ (hk.below hal) (by unfold maxLen;omega)
 obtain⟨kq,kc,rfl⟩:=hk.form
 obtain⟨gb,go,gc,rfl,g0,g1,g2⟩:∃gb go gc,v= .slice (some ⟨gb,go,none⟩) 4 gc∧w.cell? ⟨gb,go,none⟩=some (.int .i64 n)∧w.cell? ⟨gb,go+1,none⟩=some (.int .i64 lo)∧w.cell? ⟨gb,go+2,none⟩=some (.int .i64 hi):=by
   rcases hv with⟨_,_,e,e'⟩|⟨gb,go,cc,e,h⟩
   · cases e'
   · exact⟨gb,go,cc,e,h 0 (by simp),h 1 (by simp),h 2 (by simp)⟩
 have d0:=below_keep hal g0
 have d1:=below_keep hal g1
 have d2:=below_keep hal g2
 clear g0 g1 g2 hv hk
 have HH:Hid (headF n lo hi zs=if 40<zs.length then 8 else if n=zs.length∧lo=(endsZ zs).1∧hi=(endsZ zs).2 then 0 else 3):=rfl
 generalize headF n lo hi zs=H at HH ⊢
 generalize (endsZ zs).1=zlo at hen HH
 generalize (endsZ zs).2=zhi at hen HH
 generalize zs.length=L at hl hen HH ⊢
 by_cases h40:40<L
 · have h40':(40:Int)<(L:Int):=by omega
   rw[if_pos h40]at HH
   clear hen
   go_enter Tryz.func106,Tryz.ntmps106
   have hbr:=fun W=>bare_of 8 W
   go_wp2_with fail
   refine(hbr _).mono ?_
   rintro e wz ⟨rfl,hbz⟩
   clear hbr
   have hfz:=hf0.below hbz
   have hBz:Below w.heap.size w wz:=hal.trans (hbz.mono hal.size)
   have j0:=hfz.c0
   have j1:=hfz.c1
   have jz:=hfz.fz
   clear d0 d1 d2
   go_wp2
   refine bodyPost_ret (v:=.agg #[.int .i64 8,.int .i64 (-1)]) (by simp[results,Tryz.results106,go_sem,j0,j1]) rfl ⟨by rw[HH.out];rfl,(hBz.setCell (by simp) _).setCell (by simp) _⟩
 have h40':¬(40:Int)<(L:Int):=by omega
 rw[if_neg h40]at HH
 go_enter Tryz.func106,Tryz.ntmps106
 go_wp2_with fail
 generalize w.alloc (.cells #[.int .i64 0,.int .i64 0] 46)=w1 at hf0 hal hen d0 d1 d2 ⊢
 refine hen.mono ?_
 rintro e w2 ⟨rfl,rfl⟩
 clear hen
 by_cases h1:n=(L:Int)
 case neg =>
   rw[if_neg (fun h=>h1 h.1)]at HH
   have hbr:=fun W=>bare_of 3 W
   go_wp2_with fail
   refine(hbr _).mono ?_
   rintro e wz ⟨rfl,hbz⟩
   clear hbr
   have hfz:=hf0.below hbz
   have hBz:Below w.heap.size w wz:=hal.trans (hbz.mono hal.size)
   have j0:=hfz.c0
   have j1:=hfz.c1
   have jz:=hfz.fz
   clear d0 d1 d2
   go_wp2
   refine bodyPost_ret (v:=.agg #[.int .i64 3,.int .i64 (-1)]) (by simp[results,Tryz.results106,go_sem,j0,j1]) rfl ⟨by rw[HH.out];rfl,(hBz.setCell (by simp) _).setCell (by simp) _⟩
 by_cases h2:lo=zlo
 case neg =>
   rw[if_neg (fun h=>h2 h.2.1)]at HH
   subst h1
   have hbr:=fun W=>bare_of 3 W
   go_wp2_with fail
   refine(hbr _).mono ?_
   rintro e wz ⟨rfl,hbz⟩
   clear hbr
   have hfz:=hf0.below hbz
   have hBz:Below w.heap.size w wz:=hal.trans (hbz.mono hal.size)
   have j0:=hfz.c0
   have j1:=hfz.c1
   have jz:=hfz.fz
   clear d0 d1 d2
   go_wp2
   refine bodyPost_ret (v:=.agg #[.int .i64 3,.int .i64 (-1)]) (by simp[results,Tryz.results106,go_sem,j0,j1]) rfl ⟨by rw[HH.out];rfl,(hBz.setCell (by simp) _).setCell (by simp) _⟩
 by_cases h3:hi=zhi
 case neg =>
   rw[if_neg (fun h=>h3 h.2.2)]at HH
   subst h1 h2
   have hbr:=fun W=>bare_of 3 W
   go_wp2_with fail
   refine(hbr _).mono ?_
   rintro e wz ⟨rfl,hbz⟩
   clear hbr
   have hfz:=hf0.below hbz
   have hBz:Below w.heap.size w wz:=hal.trans (hbz.mono hal.size)
   have j0:=hfz.c0
   have j1:=hfz.c1
   have jz:=hfz.fz
   clear d0 d1 d2
   go_wp2
   refine bodyPost_ret (v:=.agg #[.int .i64 3,.int .i64 (-1)]) (by simp[results,Tryz.results106,go_sem,j0,j1]) rfl ⟨by rw[HH.out];rfl,(hBz.setCell (by simp) _).setCell (by simp) _⟩
 rw[if_pos ⟨h1,h2,h3⟩]at HH
 subst h1 h2 h3
 have hbr:=fun W=>fine_of W
 go_wp2_with fail
 refine(hbr _).mono ?_
 rintro e wz ⟨rfl,hbz⟩
 clear hbr
 have hfz:=hf0.below hbz
 have hBz:Below w.heap.size w wz:=hal.trans (hbz.mono hal.size)
 have j0:=hfz.c0
 have j1:=hfz.c1
 have jz:=hfz.fz
 clear d0 d1 d2
 go_wp2
 refine bodyPost_ret (v:=.agg #[.int .i64 0,.int .i64 (-1)]) (by simp[results,Tryz.results106,go_sem,j0,j1]) rfl ⟨by rw[HH.out];rfl,(hBz.setCell (by simp) _).setCell (by simp) _⟩
end Go.Proofs.YtdhkdjlgmbejnaaGreatDoor
