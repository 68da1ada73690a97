/- By an AI agent. -/
import Derived.Test.YtdhkdjlgmbejnaaGreatDoorRefStore4
import Derived.Deep.AppendLies
namespace Go.Proofs.YtdhkdjlgmbejnaaGreatDoor
open Go.RowKit Go.Extern.Stop Go.Stop Go.Extern Go.Sort Go.Shelf Go.Lib
theorem bytes_take:∀(l:List Ob) (m:Nat) (h:m<l.length),bytesS (l.take (m+1))=bytesS (l.take m)+l[m].2.1.size
 | [],_,h=>by simp at h
 | o :: l,0,_=>by simp[bytesS]
 | o :: l,m+1,h=>by
   have:=bytes_take l m (by simpa using h)
   simp only[bytesS,List.take_succ_cons,List.map_cons,List.sum_cons,List.getElem_cons_succ]at *
   omega
theorem bytes_le:∀(l:List Ob) (_:∀o∈l,o.2.1.size≤20000) (m:Nat),bytesS (l.take m)≤m*20000
 | [],_,_=>by simp[bytesS]
 | o :: l,_,0=>by simp[bytesS]
 | o :: l,h,m+1=>by
   have:=bytes_le l (fun p hp=>h p (List.mem_cons_of_mem _ hp)) m
   have h0:=h o List.mem_cons_self
   simp only[bytesS,List.take_succ_cons,List.map_cons,List.sum_cons]at *
   omega
theorem ins_at {l:List Ob} {o:Ob} {m:Nat} (hm:m≤l.length) (h1:∀i (h:i<l.length),i<m→l[i].1.data.toList<o.1.data.toList) (h2:∀h:m<l.length,¬l[m].1.data.toList<o.1.data.toList):insO l o=l.take m++o :: l.drop m:=by
 have hx:∀p∈l.take m,p.1.data.toList<o.1.data.toList:=fun p hp=>by
   obtain⟨a,ha,rfl⟩:=List.mem_iff_getElem.1 hp
   rw[List.length_take]at ha
   rw[List.getElem_take]
   exact h1 a (by omega) (by omega)
 have hs:l=l.take m++l.drop m:=(List.take_append_drop m l).symm
 have ht:l.takeWhile (fun p=>decide (p.1.data.toList<o.1.data.toList))=l.take m:=by
   conv=>lhs;rw[hs]
   rw[List.takeWhile_append_of_pos (fun p hp=>by simpa using hx p hp)]
   rcases Nat.lt_or_ge m l.length with h | h
   · rw[List.drop_eq_getElem_cons h,List.takeWhile_cons_of_neg (by simpa using h2 h),List.append_nil]
   · rw[List.drop_of_length_le h];simp
 have hd:l.dropWhile (fun p=>decide (p.1.data.toList<o.1.data.toList))=l.drop m:=by
   conv=>lhs;rw[hs]
   rw[List.dropWhile_append_of_pos (fun p hp=>by simpa using hx p hp)]
   rcases Nat.lt_or_ge m l.length with h | h
   · rw[List.drop_eq_getElem_cons h,List.dropWhile_cons_of_neg (by simpa using h2 h)]
   · rw[List.drop_of_length_le h];simp
 unfold insO
 rw[ht,hd]
theorem nm_lt {a b:ByteArray} (h:a.data.toList<b.data.toList):Op.bytesLess a.toList b.toList=true:=by
 rw[ByteArray.toList_eq,ByteArray.toList_eq,bytesLess_eq];simpa using h
theorem nm_nl {a b:ByteArray} (h:¬a.data.toList<b.data.toList):Op.bytesLess a.toList b.toList=false:=by
 rw[ByteArray.toList_eq,ByteArray.toList_eq,bytesLess_eq];simpa using h
theorem obs_but {W W':World} {R:Nat} {v:Value} {l:List Ob} (h:ObsAt W v l) (ho:OffB v l R) (hb:But (fun k=>k=R) W W'):ObsAt W' v l:=by
 rcases h with h | ⟨b,o,c,hv,hl,hc⟩
 · exact Or.inl h
 · by_cases hne:l= []
   · exact Or.inl ⟨some ⟨b,o,none⟩,c,by rw[hv,hne];rfl,fun e=>(nomatch e),hne⟩
   · have hn:=ho b o c _ hv hne
     exact Or.inr ⟨b,o,c,hv,hl,fun j hj=>⟨hb.keep hn (hc j hj).1,hb.keep hn (hc j hj).2.1,hb.keep hn (hc j hj).2.2⟩⟩
theorem own_base {w:World} {base:Nat} {e:TypeId} {size:Nat} {v:Value} {n:Nat} {xs:List Value} (h:w.ownsRow base e size v n xs) {k:Nat} (hk:v.ownBlock=some k):base≤k:=by
 rcases h.2 with⟨e,_⟩|⟨g',cap',cur,e,hg',_⟩
 · rw[e]at hk;simp[Value.ownBlock]at hk
 · rw[e]at hk;simp[Value.ownBlock]at hk;omega
theorem ObsAt.none {w:World} {n c:Nat} {fs:List Ob} (h:ObsAt w (.slice none n c) fs):fs= []∧c=0:=by
 rcases h with⟨p,c',e,hp,rfl⟩|⟨b,o,cap,e,_⟩
 · simp only[Value.slice.injEq]at e
   obtain⟨rfl,_,rfl⟩:=e
   exact⟨rfl,hp rfl⟩
 · simp only[Value.slice.injEq]at e
   exact absurd e.1 (by simp)
theorem src_top {w:World} {a:Addr} {n c d:Nat} {fs:List Ob} (h:ObsAt w (.slice (some a) n c) fs) (hd:d≤fs.length):Src w (some a) d c (flatO (fs.take d)):=by
 rcases h with⟨p,c',e,hp,rfl⟩|⟨b,o,cap,e,_,hc⟩
 · exact Or.inl ⟨by simpa using hd,fun e=>by simp at e⟩
 · simp only[Value.slice.injEq]at e
   exact Or.inr ⟨b,o,e.1,cellsO_flat (obCells_take hc d)⟩
theorem ext_bytes (t:ByteArray) (k:Nat):t.extract 0 k=bytesOf (t.data.toList.take k):=by
 apply name_ext
 rw[extract_data]
 show _=(t.data.toList.take k).toArray.toList
 simp
set_option maxRecDepth 100000 in
set_option maxHeartbeats 4000000 in
theorem mput_any (b :Nat) (s:St) (n t:ByteArray) (w:World) (h:MAt w b s) (K:Keeps s) (hcx:s.cut≤9223372036854775807) (hn:n.size≤maxLen) (ht:t.size≤maxLen) :
   Calls Tryz.prog 38 #[.pointer (some ⟨b,0,none⟩),.string n,.string t] w fun e w'=>e= .returned (.int .i64 (putC s n t))∧MPost w b (putS s n t) w':=by
 obtain⟨i0,hi0,hz0,hs0,hby0⟩:=Tryz.objInfo
 have HM:Hid (MAt w b s):=h
 have HK:Hid (Keeps s):=K
 have hio:=isObject_any n w hn
 have hf:=mfind_any b s n w h (Nat.le_trans K.many (by decide))
 obtain⟨vL,hm,ho⟩:=h
 obtain⟨c0,-,c2,c3,-,cf⟩:=hm.cells
 unfold maxLen at ht
 cases h1:objB n.data.toList
 case false =>
   have e0:putE s n t=5:=by unfold putE;rw[h1];rfl
   obtain⟨e1,e2⟩:=put_same (s:=s) (n:=n) (t:=t) (by rw[e0];decide)
   rw[e1,e2,e0]
   rw[h1]at hio
   clear e0 e1 e2 hm ho h1 hf K
   go_enter Tryz.func38,Tryz.ntmps38
   go_wp2_with fail
   refine hio.mono ?_
   rintro e w1 ⟨rfl,rfl⟩
   go_wp2
   go_ret
   exact⟨rfl,HM.out,But.refl _ _,MNew.refl _ _⟩
 case true =>
 rw[h1]at hio
 by_cases h2:20000<t.size
 · have e0:putE s n t=2:=by unfold putE;rw[h1,if_neg (by simp),if_pos h2]
   obtain⟨e1,e2⟩:=put_same (s:=s) (n:=n) (t:=t) (by rw[e0];decide)
   rw[e1,e2,e0]
   have h2':(20000:Int)<(t.size:Int):=by omega
   clear e0 e1 e2 hm ho h1 hf K
   go_enter Tryz.func38,Tryz.ntmps38
   go_wp2_with fail
   refine hio.mono ?_
   rintro e w1 ⟨rfl,rfl⟩
   go_wp2
   go_ret
   exact⟨rfl,HM.out,But.refl _ _,MNew.refl _ _⟩
 have h2':¬(20000:Int)<(t.size:Int):=by omega
 cases h3:s.off
 case true =>
   have e0:putE s n t=12:=by unfold putE;rw[h1,if_neg (by simp),if_neg h2,if_pos h3]
   obtain⟨e1,e2⟩:=put_same (s:=s) (n:=n) (t:=t) (by rw[e0];decide)
   rw[e1,e2,e0]
   rw[h3]at c3
   clear e0 e1 e2 hm ho h1 h3 hf K
   go_enter Tryz.func38,Tryz.ntmps38
   go_wp2_with fail
   refine hio.mono ?_
   rintro e w1 ⟨rfl,rfl⟩
   go_wp2
   go_ret
   exact⟨rfl,HM.out,But.refl _ _,MNew.refl _ _⟩
 case false =>
 rw[h3]at c3
 rcases findI_get s.obs n with⟨g1,g2⟩|⟨j,hj,g1,g2,g3,-⟩
 case inr =>
   have e0:putE s n t=7:=by unfold putE;rw[h1,if_neg (by simp),if_neg h2,if_neg (by rw[h3];simp),g2,if_pos (by simp)]
   obtain⟨e1,e2⟩:=put_same (s:=s) (n:=n) (t:=t) (by rw[e0];decide)
   rw[e1,e2,e0]
   rw[g1]at hf
   have hj0:(0:Int)≤(j:Int):=by omega
   have hj1:¬(j:Int)<0:=by omega
   clear e0 e1 e2 hm ho h1 h3 g1 g2 g3 K
   go_enter Tryz.func38,Tryz.ntmps38
   go_wp2_with fail
   refine hio.mono ?_
   rintro e w1 ⟨rfl,rfl⟩
   go_wp2_with fail
   refine hf.mono ?_
   rintro e w2 ⟨rfl,rfl⟩
   go_wp2
   go_ret
   exact⟨rfl,HM.out,But.refl _ _,MNew.refl _ _⟩
 rw[g1]at hf
 have HE0:Hid (putE s n t=if 200≤s.obs.length∨262144<bytesS s.obs+t.size then 8 else 0):=by
   show _=_
   unfold putE
   rw[h1,if_neg (by simp),if_neg h2,if_neg (by rw[h3];simp),g2,if_neg (by simp)]
 have HGN:Hid (getO s.obs n=none):=g2
 have HOF:Hid (s.off=false):=h3
 obtain⟨q,cap,rfl⟩:=ho.form
 have HO:Hid (ObsAt w (.slice q s.obs.length cap) s.obs):=ho
 have HMC:Hid (MC w b (.slice q s.obs.length cap) s):=hm
 obtain⟨L,hL⟩:∃L,s.obs.length=L:=⟨_,rfl⟩
 have HX:Hid (s.obs.length=L):=hL
 have hl:L≤200:=by rw[←hL];exact K.many
 rw[hL]at c0
 have HBL:Hid (∀m,bytesS (s.obs.take m)≤m*20000):=bytes_le s.obs K.texts
 clear hm ho h1 h3 g1 g2 hL K
 generalize hPC:putC s n t=PC
 generalize hPS:putS s n t=PS
 have HPC:Hid (putC s n t=PC):=hPC
 have HPS:Hid (putS s n t=PS):=hPS
 clear hPC hPS
 go_enter Tryz.func38,Tryz.ntmps38
 go_wp2_with fail
 refine hio.mono ?_
 rintro e w1 ⟨rfl,rfl⟩
 go_wp2_with fail
 refine hf.mono ?_
 rintro e w2 ⟨rfl,rfl⟩
 clear hf hio
 go_wp2
 go_loop [8,9] (fun z k=> ∃m:Nat,m≤L∧k= .int .i64 m∧z= .int .i64 ((t.size+bytesS (s.obs.take m):Nat):Int)) (fun _ k=>L-(intOf k).toNat)
 case atStart=>exact ⟨0,by omega,rfl,by simp[bytesS]⟩
 case round =>
   obtain⟨m,hm,rfl,rfl⟩:=hrel
   by_cases hlt:m<L
   · have hltx:m<s.obs.length:=by rw[HX.out];exact hlt
     obtain⟨g,o,hq,hc⟩:=HO.out.cells (fun e=>by rw[e]at hltx;simp at hltx)
     subst hq
     have d1:=(hc m hltx).2.1
     have hi:(m:Int)<(L:Int):=by omega
     have hi0:(0:Int)≤(m:Int):=by omega
     have hbm:=HBL.out m
     have HS:Hid (bytesS (s.obs.take (m+1))=bytesS (s.obs.take m)+s.obs[m].2.1.size):=bytes_take s.obs m hltx
     have hsz:=HK.out.texts _ (List.getElem_mem hltx)
     generalize s.obs[m].2.1=tx at d1 HS hsz
     generalize bytesS (s.obs.take m)=B at *
     clear hc hltx
     go_wp2
     go_round
     case rel=>exact ⟨m+1,by omega,by go_num,by rw[HS.out];go_num⟩
     case measure=>simp [intOf];omega
   · obtain rfl:m=L:=by omega
     have HBE:Hid (bytesS (s.obs.take m)=bytesS s.obs):=by show _=_;rw[←HX.out,List.take_length]
     rw[HBE.out]
     have hbm:=HBL.out m
     rw[HBE.out]at hbm
     have HE1:=HE0.out
     rw[HX.out]at HE1
     generalize bytesS s.obs=B at *
     by_cases h200:200≤m
     · have h200':(200:Int)≤(m:Int):=by omega
       rw[if_pos (Or.inl h200)]at HE1
       obtain⟨e1,e2⟩:=put_same (s:=s) (n:=n) (t:=t) (by rw[HE1];decide)
       rw[HPS.out]at e1
       rw[HPC.out,HE1]at e2
       subst e1
       subst e2
       clear HE1
       go_wp2
       go_ret
       exact⟨rfl,HM.out,But.refl _ _,MNew.refl _ _⟩
     have h200':¬(200:Int)≤(m:Int):=by omega
     by_cases hB:262144<B+t.size
     · have hB':(262144:Int)<((t.size+B:Nat):Int):=by omega
       rw[if_pos (Or.inr hB)]at HE1
       obtain⟨e1,e2⟩:=put_same (s:=s) (n:=n) (t:=t) (by rw[HE1];decide)
       rw[HPS.out]at e1
       rw[HPC.out,HE1]at e2
       subst e1
       subst e2
       clear HE1
       go_wp2
       go_ret
       exact⟨rfl,HM.out,But.refl _ _,MNew.refl _ _⟩
     have hB':¬(262144:Int)<((t.size+B:Nat):Int):=by omega
     rw[if_neg (by omega)]at HE1
     obtain⟨e1,e2⟩:=put_wrote HE1
     rw[HPS.out]at e1
     rw[HPC.out]at e2
     have HP1:Hid (PS= { (wrtS s t.size).2 with obs:=insO s.obs (n,bytesOf (t.data.toList.take (wrtS s t.size).1),s.day) }):=e1
     have HP2:Hid (PC=if (wrtS s t.size).2.off=true then 12 else 0):=e2
     clear e1 e2 HE1 HBE hbm
     go_wp2
     go_loop [10] (fun k=> ∃d:Nat,d≤m∧k= .int .i64 d∧∀i (h:i<s.obs.length),i<d→s.obs[i].1.data.toList<n.data.toList) (fun k=>m-(intOf k).toNat)
     case atStart=>exact ⟨0,by omega,rfl,fun i h h'=>absurd h' (Nat.not_lt_zero _)⟩
     case round =>
       obtain⟨d,hd,rfl,hlow⟩:=hrel
       have HLOW:Hid (∀i (h:i<s.obs.length),i<d→s.obs[i].1.data.toList<n.data.toList):=hlow
       clear hlow
       have hd0:(0:Int)≤(d:Int):=by omega
       have hdm:(d:Int)≤(m:Int):=by omega
       by_cases hlt:d<m
       · have hltx :d<s.obs.length:=by rw[HX.out];exact hlt
         obtain⟨g,o,hq,hc⟩:=HO.out.cells (fun e=>by rw[e]at hltx;simp at hltx)
         subst hq
         have d1:=(hc d hltx).1
         have hi:(d:Int)<(m:Int):=by omega
         by_cases hs:s.obs[d].1.data.toList<n.data.toList
         · have HL1:Hid (∀i (h:i<s.obs.length),i<d+1→s.obs[i].1.data.toList<n.data.toList):=fun i hi him=>by
             by_cases e:i=d
             · subst e;exact hs
             · exact HLOW.out i hi (by omega)
           have d2:=nm_lt hs
           generalize s.obs[d].1=nm at d1 d2
           clear hc hs hltx
           go_wp2
           go_round
           case rel=>exact ⟨d+1,by omega,by go_num,HL1.out⟩
           case measure=>simp [intOf];omega
         · have HIN:Hid (∀o:Ob,o.1=n→insO s.obs o=s.obs.take d++o :: s.obs.drop d):=fun o ho=>ins_at (Nat.le_of_lt hltx) (by rw[ho];exact HLOW.out) (fun _=>by rw[ho];exact hs)
           have d2:=nm_nl hs
           generalize s.obs[d].1=nm at d1 d2
           clear hc hs hltx
           have hcap:=(HO.out.room).2 (fun e=>by have h:=HX.out;rw[e]at h;simp at h;omega)
           rw[HX.out]at hcap
           have hi3:(d:Int)≤(cap:Int):=by omega
           have hi4:(m:Int)≤(cap:Int):=by omega
           go_wp2_with fail
           have hwr:=written_any b _ s t.size w2 HMC.out (by omega) ⟨HK.out.cut0,hcx⟩
           refine hwr.mono ?_
           rintro e w3 ⟨rfl,hm3,hb3,hz3⟩
           have HB3:Hid (But (fun k=>k=b) w2 w3):=hb3
           have HO3:Hid (ObsAt w3 (.slice (some ⟨g,o,none⟩) s.obs.length cap) s.obs):=obs_but HO.out (off_store HMC.out HO.out) hb3
           have HM3:Hid (MC w3 b (.slice (some ⟨g,o,none⟩) s.obs.length cap) (wrtS s t.size).2):=hm3
           have hk:=wrtS_le s t.size
           have hday:=(wrtS_obs s t.size).2.2
           clear hwr hm3 hb3 hz3 c0 c2 c3 cf
           generalize wrtS s t.size=X at *
           obtain⟨k,s1⟩:=X
           dsimp only at HP1 HP2 HM3 hk hday ⊢
           obtain⟨a0,-,a2,a3,-,af⟩:=HM3.out.cells
           rw[HX.out]at a0
           rw[hday]at a2
           have hk0:(0:Int)≤(k:Int):=by omega
           have hk1:(k:Int)≤(t.size:Int):=by omega
           go_wp2_with (at_builtin;(refine wpList_append_src rfl _ _ 128 rfl w3.heap.size 146 i0 (.agg #[.string ⟨#[]⟩,.string ⟨#[]⟩,.int .i64 0]) 3 40 Tryz.underlying128 hi0 hz0 hs0 hby0 rfl (by decide) (.slice none 0 0) 0 [] rfl ?a0 _ _ _ (flatO (s.obs.take d)) rfl ?a1 ?a2 ?a3 ?a4 ?a5 ?a6 ?_))
           case a0=>exact World.ownsRow_nil _ _ _ _
           case a1=>have h:=HX.out;rw[flatO_len,List.length_take];omega
           case a2=>obtain ⟨g2,o2,hq2,hc2⟩:=HO3.out.cells (fun e=>by have h:=HX.out;rw[e]at h;simp at h;omega);exact Or.inr ⟨g2,o2,hq2,cellsO_flat (obCells_take hc2 d)⟩
           case a3=>exact flatO_one _
           case a4=>unfold maxLen;omega
           case a5=>omega
           case a6=>exact Nat.le_refl _
           intro v1 y1 ho1 hg1 hk1'
           have HB4:Hid (Below w3.heap.size w3 y1):=(Below.refl _ _).grown hg1 (Nat.le_refl _) (fun k hk=>by simp[Value.ownBlock]at hk)
           have OW1:Hid (y1.ownsRow w3.heap.size 146 3 v1 d (flatO (s.obs.take d))):=by
             show y1.ownsRow _ _ _ _ _ _
             simpa using ho1
           have HN1:Hid (v1.ownBlock≠some b):=fun e=>by
             have h1:=own_base OW1.out e
             have h2:=HM3.out.lt
             omega
           have HM4:Hid (MC y1 b (.slice (some ⟨g,o,none⟩) s.obs.length cap) s1):=HM3.out.below HB4.out
           clear ho1 hg1 hk1' a0 a2 a3 af
           obtain⟨a0,-,a2,a3,-,af⟩:=HM4.out.cells
           rw[HX.out]at a0
           rw[hday]at a2
           go_wp2_with fail
           have lb:b<y1.heap.size:=HM4.out.lt
           go_region_held3 (fun w'=>w'.cell? ⟨b,2,none⟩=some (.int .i64 s.day))
             (first
               | go_keep
               | (rw[hg2.cell_far _ (by simp;omega) (by have h:=HN1.out;exact Ne.symm h)];assumption))
             ((refine step_append_lies _ (by rfl) _ _ _ (by rfl) w3.heap.size 146 i0 (.agg #[.string ⟨#[]⟩,.string ⟨#[]⟩,.int .i64 0]) 3 40 Tryz.underlying128 hi0 hz0 hs0 hby0 rfl (by decide) v1 d (flatO (s.obs.take d)) (by rfl) ((World.ownsRow.alloc OW1.out _).drew)
                   ⟨y1.heap.size,0,none⟩ 1 1 [.string n,.string (t.extract 0 k),.int .i64 s.day] (by rfl) (by rfl) (World.news_of_block (cs:=#[.string n,.string (t.extract 0 k),.int .i64 s.day]) (t:=146) (fr:=(0,0)) (heap_alloc_new y1 _)) (by simp[Value.oneCell'])
                   (by omega) (by unfold maxLen;omega) (by omega) (by have h:=HB4.out.size;simp;omega) (y1.heap.size+1) (by simp) ?_;intro gg cap2 y2 ho2 hg2 hk2 hlt2))
           have hal:Below w3.heap.size w3 ((y1.alloc (.cells #[.string n,.string (t.extract 0 k),.int .i64 s.day] 146)).drew):=Below.drew (HB4.out.alloc HB4.out.size _)
           have HB5:Hid (Below w3.heap.size w3 y2):=hal.grown hg2 hal.size (fun k hk=>own_base OW1.out hk)
           have OW2:Hid (y2.ownsRow w3.heap.size 146 3 (.slice (some ⟨gg,0,none⟩) (d+1) cap2) (d+1) (flatO (s.obs.take d++ [(n,t.extract 0 k,s.day)]))):=by
             show y2.ownsRow _ _ _ _ _ _
             rw[flatO_append]
             exact ho2
           have HM5:Hid (MC y2 b (.slice (some ⟨g,o,none⟩) s.obs.length cap) s1):=HM3.out.below HB5.out
           have HO5:Hid (ObsAt y2 (.slice (some ⟨g,o,none⟩) s.obs.length cap) s.obs):=HO3.out.below (HB5.out)
           clear hal ho2 hg2 hk2 hlt2 a0 a2 a3 af HN1 HM4 HB4 lb OW1
           obtain⟨a0,-,a2,a3,-,af⟩:=HM5.out.cells
           rw[HX.out]at a0
           rw[hday]at a2
           go_wp2_with (at_builtin;(refine wpList_append_src rfl _ _ 128 rfl w3.heap.size 146 i0 (.agg #[.string ⟨#[]⟩,.string ⟨#[]⟩,.int .i64 0]) 3 40 Tryz.underlying128 hi0 hz0 hs0 hby0 rfl (by decide) (.slice (some ⟨gg,0,none⟩) (d+1) cap2) (d+1) (flatO (s.obs.take d++ [(n,t.extract 0 k,s.day)])) rfl ?b0 _ _ _ (flatO (s.obs.drop d)) rfl ?b1 ?b2 ?b3 ?b4 ?b5 ?b6 ?_))
           case b0=>exact OW2.out
           case b1=>have h:=HX.out;rw[flatO_len,List.length_drop];omega
           case b2=>obtain ⟨g2,o2,hq2,hc2⟩:=HO5.out.cells (fun e=>by have h:=HX.out;rw[e]at h;simp at h;omega);cases hq2;exact Or.inr ⟨g,o+d*3,rfl,cellsO_flat (obCells_drop hc2 d)⟩
           case b3=>exact flatO_one _
           case b4=>unfold maxLen;omega
           case b5=>omega
           case b6=>exact HB5.out.size
           all_goals
             intro v2 y3 ho3 hg3 hk3
             have HB6:Hid (Below w3.heap.size w3 y3):=HB5.out.grown hg3 HB5.out.size (fun k hk=>own_base OW2.out hk)
             have OW3:Hid (y3.ownsRow w3.heap.size 146 3 v2 (d+1+(m-d)) (flatO (s.obs.take d++(n,t.extract 0 k,s.day) :: s.obs.drop d))):=by
               show y3.ownsRow _ _ _ _ _ _
               rw[←flatO_append]at ho3
               first
                 | exact ho3
                 | (rw[List.append_assoc]at ho3;exact ho3)
                 | (rw[List.append_assoc]at ho3;rw[Nat.sub_self];exact ho3)
             obtain⟨HO6,hn6⟩:=obsAt_of_own OW3.out
             obtain⟨q2,c2,rfl⟩:=HO6.form
             have HM6:Hid (MC y3 b (.slice (some ⟨g,o,none⟩) s.obs.length cap) s1):=HM3.out.below HB6.out
             have HPP:Hid (MPost w2 b PS (y3.setCell ⟨b,0,none⟩ (.slice q2 (s.obs.take d++(n,t.extract 0 k,s.day) :: s.obs.drop d).length c2))):=by
               show MPost _ _ _ _
               rw[HP1.out,←ext_bytes,HIN.out _ rfl]
               exact⟨⟨_,HM6.out.set0 _ _,HO6.set_off (off_store HM6.out HO6) _ _⟩,But.setCell (P:=fun k=>k=b) (HB3.out.trans (But.of_below (P:=fun k=>k=b) HB6.out) (fun _ h _=>h)) (Or.inl rfl) _,MNew.fresh (HM6.out.set0 _ (s.obs.take d)).cells.1 OW3.out HB3.out.size⟩
             generalize (s.obs.take d++(n,t.extract 0 k,s.day) :: s.obs.drop d).length=n2 at *
             clear ho3 hg3 hk3 HO6 hn6 OW3 a0 a2 a3 af
             obtain⟨a0,-,a2,a3,-,af⟩:=HM6.out.cells
             rw[HX.out]at a0
             cases hoff:s1.off
             · have HP3:Hid (PC=0):=by show _=_;rw[HP2.out,hoff];rfl
               rw[hoff]at a3
               clear hoff
               go_wp2
               go_ret
               exact⟨by rw[HP3.out];rfl,HPP.out⟩
             · have HP3:Hid (PC=12):=by show _=_;rw[HP2.out,hoff];rfl
               rw[hoff]at a3
               clear hoff
               go_wp2
               go_ret
               exact⟨by rw[HP3.out];rfl,HPP.out⟩
       · have hde:d=m:=by omega
         have hi:¬(d:Int)<(m:Int):=by omega
         have HIN:Hid (∀o:Ob,o.1=n→insO s.obs o=s.obs.take d++o :: s.obs.drop d):=fun o ho=>ins_at (by rw[HX.out];omega) (by rw[ho];exact HLOW.out) (fun h=>absurd h (by rw[HX.out];omega))
         rcases q with _ | ⟨g,o,sub⟩
         · obtain ⟨f1,f2⟩:=HO.out.none
           have f3:m=0:=by rw[←HX.out,f1];rfl
           subst f3
           subst f2
           subst hde
           clear f1 hi hlt hd
           go_wp2_with fail
           have hwr:=written_any b _ s t.size w2 HMC.out (by omega) ⟨HK.out.cut0,hcx⟩
           refine hwr.mono ?_
           rintro e w3 ⟨rfl,hm3,hb3,hz3⟩
           have HB3:Hid (But (fun k=>k=b) w2 w3):=hb3
           have HO3:Hid (ObsAt w3 (.slice none s.obs.length 0) s.obs):=obs_but HO.out (off_store HMC.out HO.out) hb3
           have HM3:Hid (MC w3 b (.slice none s.obs.length 0) (wrtS s t.size).2):=hm3
           have hk:=wrtS_le s t.size
           have hday:=(wrtS_obs s t.size).2.2
           clear hwr hm3 hb3 hz3 c0 c2 c3 cf
           generalize wrtS s t.size=X at *
           obtain⟨k,s1⟩:=X
           dsimp only at HP1 HP2 HM3 hk hday ⊢
           obtain⟨a0,-,a2,a3,-,af⟩:=HM3.out.cells
           rw[HX.out]at a0
           rw[hday]at a2
           have hk0:(0:Int)≤(k:Int):=by omega
           have hk1:(k:Int)≤(t.size:Int):=by omega
           go_wp2_with (at_builtin;(refine wpList_append_src rfl _ _ 128 rfl w3.heap.size 146 i0 (.agg #[.string ⟨#[]⟩,.string ⟨#[]⟩,.int .i64 0]) 3 40 Tryz.underlying128 hi0 hz0 hs0 hby0 rfl (by decide) (.slice none 0 0) 0 [] rfl ?a0 _ _ _ (flatO (s.obs.take 0)) rfl ?a1 ?a2 ?a3 ?a4 ?a5 ?a6 ?_))
           case a0=>exact World.ownsRow_nil _ _ _ _
           case a1=>have h:=HX.out;rw[flatO_len,List.length_take];omega
           case a2=>exact Or.inl ⟨rfl,fun _=>rfl⟩
           case a3=>exact flatO_one _
           case a4=>unfold maxLen;omega
           case a5=>omega
           case a6=>exact Nat.le_refl _
           intro v1 y1 ho1 hg1 hk1'
           have HB4:Hid (Below w3.heap.size w3 y1):=(Below.refl _ _).grown hg1 (Nat.le_refl _) (fun k hk=>by simp[Value.ownBlock]at hk)
           have OW1:Hid (y1.ownsRow w3.heap.size 146 3 v1 0 (flatO (s.obs.take 0))):=by
             show y1.ownsRow _ _ _ _ _ _
             simpa using ho1
           have HN1:Hid (v1.ownBlock≠some b):=fun e=>by
             have h1:=own_base OW1.out e
             have h2:=HM3.out.lt
             omega
           have HM4:Hid (MC y1 b (.slice none s.obs.length 0) s1):=HM3.out.below HB4.out
           clear ho1 hg1 hk1' a0 a2 a3 af
           obtain⟨a0,-,a2,a3,-,af⟩:=HM4.out.cells
           rw[HX.out]at a0
           rw[hday]at a2
           go_wp2_with fail
           have lb:b<y1.heap.size:=HM4.out.lt
           go_region_held3 (fun w'=>w'.cell? ⟨b,2,none⟩=some (.int .i64 s.day))
             (first
               | go_keep
               | (rw[hg2.cell_far _ (by simp;omega) (by have h:=HN1.out;exact Ne.symm h)];assumption))
             ((refine step_append_lies _ (by rfl) _ _ _ (by rfl) w3.heap.size 146 i0 (.agg #[.string ⟨#[]⟩,.string ⟨#[]⟩,.int .i64 0]) 3 40 Tryz.underlying128 hi0 hz0 hs0 hby0 rfl (by decide) v1 0 (flatO (s.obs.take 0)) (by rfl) ((World.ownsRow.alloc OW1.out _).drew)
                   ⟨y1.heap.size,0,none⟩ 1 1 [.string n,.string (t.extract 0 k),.int .i64 s.day] (by rfl) (by rfl) (World.news_of_block (cs:=#[.string n,.string (t.extract 0 k),.int .i64 s.day]) (t:=146) (fr:=(0,0)) (heap_alloc_new y1 _)) (by simp[Value.oneCell'])
                   (by omega) (by unfold maxLen;omega) (by omega) (by have h:=HB4.out.size;simp;omega) (y1.heap.size+1) (by simp) ?_;intro gg cap2 y2 ho2 hg2 hk2 hlt2))
           have hal:Below w3.heap.size w3 ((y1.alloc (.cells #[.string n,.string (t.extract 0 k),.int .i64 s.day] 146)).drew):=Below.drew (HB4.out.alloc HB4.out.size _)
           have HB5:Hid (Below w3.heap.size w3 y2):=hal.grown hg2 hal.size (fun k hk=>own_base OW1.out hk)
           have OW2:Hid (y2.ownsRow w3.heap.size 146 3 (.slice (some ⟨gg,0,none⟩) (0+1) cap2) (0+1) (flatO (s.obs.take 0++ [(n,t.extract 0 k,s.day)]))):=by
             show y2.ownsRow _ _ _ _ _ _
             rw[flatO_append]
             exact ho2
           have HM5:Hid (MC y2 b (.slice none s.obs.length 0) s1):=HM3.out.below HB5.out
           have HO5:Hid (ObsAt y2 (.slice none s.obs.length 0) s.obs):=HO3.out.below (HB5.out)
           clear hal ho2 hg2 hk2 hlt2 a0 a2 a3 af HN1 HM4 HB4 lb OW1
           obtain⟨a0,-,a2,a3,-,af⟩:=HM5.out.cells
           rw[HX.out]at a0
           rw[hday]at a2
           go_wp2_with (at_builtin;(refine wpList_append_src rfl _ _ 128 rfl w3.heap.size 146 i0 (.agg #[.string ⟨#[]⟩,.string ⟨#[]⟩,.int .i64 0]) 3 40 Tryz.underlying128 hi0 hz0 hs0 hby0 rfl (by decide) (.slice (some ⟨gg,0,none⟩) (0+1) cap2) (0+1) (flatO (s.obs.take 0++ [(n,t.extract 0 k,s.day)])) rfl ?b0 _ _ _ (flatO (s.obs.drop 0)) rfl ?b1 ?b2 ?b3 ?b4 ?b5 ?b6 ?_))
           case b0=>exact OW2.out
           case b1=>have h:=HX.out;rw[flatO_len,List.length_drop];omega
           case b2=>exact Or.inl ⟨rfl,fun _=>rfl⟩
           case b3=>exact flatO_one _
           case b4=>unfold maxLen;omega
           case b5=>omega
           case b6=>exact HB5.out.size
           all_goals
             intro v2 y3 ho3 hg3 hk3
             have HB6:Hid (Below w3.heap.size w3 y3):=HB5.out.grown hg3 HB5.out.size (fun k hk=>own_base OW2.out hk)
             have OW3:Hid (y3.ownsRow w3.heap.size 146 3 v2 (0+1+(0-0)) (flatO (s.obs.take 0++(n,t.extract 0 k,s.day) :: s.obs.drop 0))):=by
               show y3.ownsRow _ _ _ _ _ _
               rw[←flatO_append]at ho3
               first
                 | exact ho3
                 | (rw[List.append_assoc]at ho3;exact ho3)
                 | (rw[List.append_assoc]at ho3;rw[Nat.sub_self];exact ho3)
             obtain⟨HO6,hn6⟩:=obsAt_of_own OW3.out
             obtain⟨q2,c2,rfl⟩:=HO6.form
             have HM6:Hid (MC y3 b (.slice none s.obs.length 0) s1):=HM3.out.below HB6.out
             have HPP:Hid (MPost w2 b PS (y3.setCell ⟨b,0,none⟩ (.slice q2 (s.obs.take 0++(n,t.extract 0 k,s.day) :: s.obs.drop 0).length c2))):=by
               show MPost _ _ _ _
               rw[HP1.out,←ext_bytes,HIN.out _ rfl]
               exact⟨⟨_,HM6.out.set0 _ _,HO6.set_off (off_store HM6.out HO6) _ _⟩,But.setCell (P:=fun k=>k=b) (HB3.out.trans (But.of_below (P:=fun k=>k=b) HB6.out) (fun _ h _=>h)) (Or.inl rfl) _,MNew.fresh (HM6.out.set0 _ (s.obs.take 0)).cells.1 OW3.out HB3.out.size⟩
             generalize (s.obs.take 0++(n,t.extract 0 k,s.day) :: s.obs.drop 0).length=n2 at *
             clear ho3 hg3 hk3 HO6 hn6 OW3 a0 a2 a3 af
             obtain⟨a0,-,a2,a3,-,af⟩:=HM6.out.cells
             rw[HX.out]at a0
             cases hoff:s1.off
             · have HP3:Hid (PC=0):=by show _=_;rw[HP2.out,hoff];rfl
               rw[hoff]at a3
               clear hoff
               go_wp2
               go_ret
               exact⟨by rw[HP3.out];rfl,HPP.out⟩
             · have HP3:Hid (PC=12):=by show _=_;rw[HP2.out,hoff];rfl
               rw[hoff]at a3
               clear hoff
               go_wp2
               go_ret
               exact⟨by rw[HP3.out];rfl,HPP.out⟩
         · have hcap:m≤cap:=by
             by_cases e:s.obs= []
             · have h:=HX.out;rw[e]at h;simp at h;omega
             · have h:=(HO.out.room).2 e;rw[HX.out]at h;exact h
           have hi3:(d:Int)≤(cap:Int):=by omega
           subst hde
           clear hi hlt hd
           go_wp2_with fail
           have hwr:=written_any b _ s t.size w2 HMC.out (by omega) ⟨HK.out.cut0,hcx⟩
           refine hwr.mono ?_
           rintro e w3 ⟨rfl,hm3,hb3,hz3⟩
           have HB3:Hid (But (fun k=>k=b) w2 w3):=hb3
           have HO3:Hid (ObsAt w3 (.slice (some ⟨g,o,sub⟩) s.obs.length cap) s.obs):=obs_but HO.out (off_store HMC.out HO.out) hb3
           have HM3:Hid (MC w3 b (.slice (some ⟨g,o,sub⟩) s.obs.length cap) (wrtS s t.size).2):=hm3
           have hk:=wrtS_le s t.size
           have hday:=(wrtS_obs s t.size).2.2
           clear hwr hm3 hb3 hz3 c0 c2 c3 cf
           generalize wrtS s t.size=X at *
           obtain⟨k,s1⟩:=X
           dsimp only at HP1 HP2 HM3 hk hday ⊢
           obtain⟨a0,-,a2,a3,-,af⟩:=HM3.out.cells
           rw[HX.out]at a0
           rw[hday]at a2
           have hk0:(0:Int)≤(k:Int):=by omega
           have hk1:(k:Int)≤(t.size:Int):=by omega
           go_wp2_with (at_builtin;(refine wpList_append_src rfl _ _ 128 rfl w3.heap.size 146 i0 (.agg #[.string ⟨#[]⟩,.string ⟨#[]⟩,.int .i64 0]) 3 40 Tryz.underlying128 hi0 hz0 hs0 hby0 rfl (by decide) (.slice none 0 0) 0 [] rfl ?a0 _ _ _ (flatO (s.obs.take d)) rfl ?a1 ?a2 ?a3 ?a4 ?a5 ?a6 ?_))
           case a0=>exact World.ownsRow_nil _ _ _ _
           case a1=>have h:=HX.out;rw[flatO_len,List.length_take];omega
           case a2=>exact src_top HO3.out (by have h:=HX.out;omega)
           case a3=>exact flatO_one _
           case a4=>unfold maxLen;omega
           case a5=>omega
           case a6=>exact Nat.le_refl _
           intro v1 y1 ho1 hg1 hk1'
           have HB4:Hid (Below w3.heap.size w3 y1):=(Below.refl _ _).grown hg1 (Nat.le_refl _) (fun k hk=>by simp[Value.ownBlock]at hk)
           have OW1:Hid (y1.ownsRow w3.heap.size 146 3 v1 d (flatO (s.obs.take d))):=by
             show y1.ownsRow _ _ _ _ _ _
             simpa using ho1
           have HN1:Hid (v1.ownBlock≠some b):=fun e=>by
             have h1:=own_base OW1.out e
             have h2:=HM3.out.lt
             omega
           have HM4:Hid (MC y1 b (.slice (some ⟨g,o,sub⟩) s.obs.length cap) s1):=HM3.out.below HB4.out
           clear ho1 hg1 hk1' a0 a2 a3 af
           obtain⟨a0,-,a2,a3,-,af⟩:=HM4.out.cells
           rw[HX.out]at a0
           rw[hday]at a2
           go_wp2_with fail
           have lb:b<y1.heap.size:=HM4.out.lt
           go_region_held3 (fun w'=>w'.cell? ⟨b,2,none⟩=some (.int .i64 s.day))
             (first
               | go_keep
               | (rw[hg2.cell_far _ (by simp;omega) (by have h:=HN1.out;exact Ne.symm h)];assumption))
             ((refine step_append_lies _ (by rfl) _ _ _ (by rfl) w3.heap.size 146 i0 (.agg #[.string ⟨#[]⟩,.string ⟨#[]⟩,.int .i64 0]) 3 40 Tryz.underlying128 hi0 hz0 hs0 hby0 rfl (by decide) v1 d (flatO (s.obs.take d)) (by rfl) ((World.ownsRow.alloc OW1.out _).drew)
                   ⟨y1.heap.size,0,none⟩ 1 1 [.string n,.string (t.extract 0 k),.int .i64 s.day] (by rfl) (by rfl) (World.news_of_block (cs:=#[.string n,.string (t.extract 0 k),.int .i64 s.day]) (t:=146) (fr:=(0,0)) (heap_alloc_new y1 _)) (by simp[Value.oneCell'])
                   (by omega) (by unfold maxLen;omega) (by omega) (by have h:=HB4.out.size;simp;omega) (y1.heap.size+1) (by simp) ?_;intro gg cap2 y2 ho2 hg2 hk2 hlt2))
           have hal:Below w3.heap.size w3 ((y1.alloc (.cells #[.string n,.string (t.extract 0 k),.int .i64 s.day] 146)).drew):=Below.drew (HB4.out.alloc HB4.out.size _)
           have HB5:Hid (Below w3.heap.size w3 y2):=hal.grown hg2 hal.size (fun k hk=>own_base OW1.out hk)
           have OW2:Hid (y2.ownsRow w3.heap.size 146 3 (.slice (some ⟨gg,0,none⟩) (d+1) cap2) (d+1) (flatO (s.obs.take d++ [(n,t.extract 0 k,s.day)]))):=by
             show y2.ownsRow _ _ _ _ _ _
             rw[flatO_append]
             exact ho2
           have HM5:Hid (MC y2 b (.slice (some ⟨g,o,sub⟩) s.obs.length cap) s1):=HM3.out.below HB5.out
           have HO5:Hid (ObsAt y2 (.slice (some ⟨g,o,sub⟩) s.obs.length cap) s.obs):=HO3.out.below (HB5.out)
           clear hal ho2 hg2 hk2 hlt2 a0 a2 a3 af HN1 HM4 HB4 lb OW1
           obtain⟨a0,-,a2,a3,-,af⟩:=HM5.out.cells
           rw[HX.out]at a0
           rw[hday]at a2
           go_wp2_with (at_builtin;(refine wpList_append_src rfl _ _ 128 rfl w3.heap.size 146 i0 (.agg #[.string ⟨#[]⟩,.string ⟨#[]⟩,.int .i64 0]) 3 40 Tryz.underlying128 hi0 hz0 hs0 hby0 rfl (by decide) (.slice (some ⟨gg,0,none⟩) (d+1) cap2) (d+1) (flatO (s.obs.take d++ [(n,t.extract 0 k,s.day)])) rfl ?b0 _ _ _ (flatO (s.obs.drop d)) rfl ?b1 ?b2 ?b3 ?b4 ?b5 ?b6 ?_))
           case b0=>exact OW2.out
           case b1=>have h:=HX.out;rw[flatO_len,List.length_drop];omega
           try (case b2=>exact Or.inl ⟨by omega,fun e=>by simp at e⟩)
           try (case b2.inl=>exact Or.inl ⟨by omega,fun e=>by simp at e⟩)
           try (case b2.inr=>exact Or.inl ⟨by omega,fun e=>by simp at e⟩)
           case b3=>exact flatO_one _
           case b4=>unfold maxLen;omega
           case b5=>omega
           case b6=>exact HB5.out.size
           all_goals
             intro v2 y3 ho3 hg3 hk3
             have HB6:Hid (Below w3.heap.size w3 y3):=HB5.out.grown hg3 HB5.out.size (fun k hk=>own_base OW2.out hk)
             have OW3:Hid (y3.ownsRow w3.heap.size 146 3 v2 (d+1+(d-d)) (flatO (s.obs.take d++(n,t.extract 0 k,s.day) :: s.obs.drop d))):=by
               show y3.ownsRow _ _ _ _ _ _
               rw[←flatO_append]at ho3
               first
                 | exact ho3
                 | (rw[List.append_assoc]at ho3;exact ho3)
                 | (rw[List.append_assoc]at ho3;rw[Nat.sub_self];exact ho3)
             obtain⟨HO6,hn6⟩:=obsAt_of_own OW3.out
             obtain⟨q2,c2,rfl⟩:=HO6.form
             have HM6:Hid (MC y3 b (.slice (some ⟨g,o,sub⟩) s.obs.length cap) s1):=HM3.out.below HB6.out
             have HPP:Hid (MPost w2 b PS (y3.setCell ⟨b,0,none⟩ (.slice q2 (s.obs.take d++(n,t.extract 0 k,s.day) :: s.obs.drop d).length c2))):=by
               show MPost _ _ _ _
               rw[HP1.out,←ext_bytes,HIN.out _ rfl]
               exact⟨⟨_,HM6.out.set0 _ _,HO6.set_off (off_store HM6.out HO6) _ _⟩,But.setCell (P:=fun k=>k=b) (HB3.out.trans (But.of_below (P:=fun k=>k=b) HB6.out) (fun _ h _=>h)) (Or.inl rfl) _,MNew.fresh (HM6.out.set0 _ (s.obs.take d)).cells.1 OW3.out HB3.out.size⟩
             generalize (s.obs.take d++(n,t.extract 0 k,s.day) :: s.obs.drop d).length=n2 at *
             clear ho3 hg3 hk3 HO6 hn6 OW3 a0 a2 a3 af
             obtain⟨a0,-,a2,a3,-,af⟩:=HM6.out.cells
             rw[HX.out]at a0
             cases hoff:s1.off
             · have HP3:Hid (PC=0):=by show _=_;rw[HP2.out,hoff];rfl
               rw[hoff]at a3
               clear hoff
               go_wp2
               go_ret
               exact⟨by rw[HP3.out];rfl,HPP.out⟩
             · have HP3:Hid (PC=12):=by show _=_;rw[HP2.out,hoff];rfl
               rw[hoff]at a3
               clear hoff
               go_wp2
               go_ret
               exact⟨by rw[HP3.out];rfl,HPP.out⟩
def SPost (SAt:World→Value→(Nat→Prop)→St→Prop) (W:World) (v:Value) (FP:Nat→Prop) (s:St) (w':World):Prop:= ∃FP',SAt w' v FP' s∧But FP W w'∧∀k,FP' k→FP k∨W.heap.size≤k
structure StoreK (a:Nat→Addr) (B:Nat) (EM:World→Prop) (SAt:World→Value→(Nat→Prop)→St→Prop):Prop where
 below:∀W W':World,EM W→Below B W W'→EM W'
 size:∀W:World,EM W→B≤W.heap.size
 ptr:∀(W:World) (v:Value) (FP:Nat→Prop) (s:St),SAt W v FP s→∃p,v= .pointer (some p)
 lt:∀(W:World) (v:Value) (FP:Nat→Prop) (s:St) (k:Nat),SAt W v FP s→FP k→k<W.heap.size
 keep:∀(W W':World) (v:Value) (FP P:Nat→Prop) (s:St),SAt W v FP s→But P W W'→(∀k,FP k→¬P k)→SAt W' v FP s
 new:∀W:World,EM W→Calls Tryz.prog 31 #[] W fun e w'=> ∃v FP,e= .returned v∧SAt w' v FP newS∧(∀k,FP k→W.heap.size≤k)∧Below W.heap.size W w'
 put:∀(W:World) (v:Value) (FP:Nat→Prop) (s:St) (n t:ByteArray),EM W→SAt W v FP s→Keeps s→n.size≤1000→t.size≤100000→Calls Tryz.prog 37 #[v,.string n,.string t] W fun e w'=>e= .returned (errV a (putC s n t))∧SPost SAt W v FP (putS s n t) w'
 get:∀(W:World) (v:Value) (FP:Nat→Prop) (s:St) (n:ByteArray),EM W→SAt W v FP s→Keeps s→n.size≤1000→Calls Tryz.prog 93 #[v,.string n] W fun e w'=>e= .returned (.tuple #[.string (getT s.obs n).1,errV a (getT s.obs n).2])∧Below W.heap.size W w'
section
variable {a : Nat → Addr} {B : Nat} {EM : World → Prop} {SAt : World → Value → (Nat → Prop) → St → Prop}
structure SOk (EM:World→Prop) (SAt:World→Value→(Nat→Prop)→St→Prop) (B:Nat) (w0 W:World) (v:Value) (FP:Nat→Prop) (s:St):Prop where
 env:EM W
 frame:Below B w0 W
 le:B≤w0.heap.size
 at_:SAt W v FP s
 new:∀k,FP k→B≤k
theorem SOk.post (K:StoreK a B EM SAt) {w0 W w':World} {v:Value} {FP:Nat→Prop} {s s':St} (h:SOk EM SAt B w0 W v FP s) (hp:SPost SAt W v FP s' w'):∃FP',SOk EM SAt B w0 w' v FP' s'∧But FP W w'∧∀k,FP' k→FP k∨W.heap.size≤k:=by
 obtain⟨FP',h1,h2,h3⟩:=hp
 have hB:=K.size _ h.env
 have hb:Below B W w':=h2.below hB h.new
 refine⟨FP',⟨K.below _ _ h.env hb,h.frame.trans hb,h.le,h1,fun k hk=>?_⟩,h2,h3⟩
 rcases h3 k hk with h4 | h4
 · exact h.new k h4
 · omega
theorem SOk.quiet (K:StoreK a B EM SAt) {w0 W w':World} {v:Value} {FP:Nat→Prop} {s:St} (h:SOk EM SAt B w0 W v FP s) (hb:Below W.heap.size W w'):SOk EM SAt B w0 w' v FP s :=
 ⟨K.below _ _ h.env (hb.mono (K.size _ h.env)),h.frame.trans (hb.mono (K.size _ h.env)),h.le,K.keep _ _ _ _ (fun _=>False) _ h.at_ (But.of_below hb) (fun _ _ h=>h),h.new⟩
end
end Go.Proofs.YtdhkdjlgmbejnaaGreatDoor
