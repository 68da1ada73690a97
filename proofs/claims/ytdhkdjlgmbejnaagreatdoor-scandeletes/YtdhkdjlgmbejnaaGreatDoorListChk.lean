/- By an AI agent. -/
import Derived.Test.YtdhkdjlgmbejnaaGreatDoorScanTab
namespace Go.Proofs.YtdhkdjlgmbejnaaGreatDoor
open Go.RowKit Go.Extern.Stop Go.Stop Go.Extern Go.Sort Go.Shelf Go.Lib
def valsZ (rs:List Rw):List Int:=(rs.map (·.2.2)).mergeSort (fun x y=>decide (x≤y))
structure ScanK (a:Nat→Addr) (EM:World→Prop) (SAt:World→Value→(Nat→Prop)→St→Prop):Prop where
 rows:∀(W:World) (v:Value) (FP:Nat→Prop) (st:St) (s:Sn) (vf:Value) (lo hi:Int),EM W→SAt W v FP st→Keeps st→FlsAt W vf s.2.2.2.2.2.2→s.2.2.2.2.2.2.length≤100→Short s.2.2.2.2.2.2→Calls Tryz.prog 10 #[v,snV s vf,.int .i64 lo,.int .i64 hi] W fun e w'=> ∃v' ev,e= .returned (.tuple #[v',ev])∧RowsAt w' v' (rowsS st.obs s lo hi).1∧ToldE w' a ev (rowsS st.obs s lo hi).2∧Below W.heap.size W w'
 rows0:∀(W:World) (s:Sn) (vf:Value) (lo hi:Int),EM W→FlsAt W vf s.2.2.2.2.2.2→s.2.2.2.2.2.2.length≤100→Short s.2.2.2.2.2.2→Calls Tryz.prog 10 #[.pointer none,snV s vf,.int .i64 lo,.int .i64 hi] W fun e w'=> ∃v',e= .returned (.tuple #[v',errV a 3])∧Below W.heap.size W w'
 count:∀(W:World) (v:Value) (FP:Nat→Prop) (st:St) (s:Sn) (vf:Value),EM W→SAt W v FP st→Keeps st→FlsAt W vf s.2.2.2.2.2.2→s.2.2.2.2.2.2.length≤100→Short s.2.2.2.2.2.2→Calls Tryz.prog 13 #[v,snV s vf] W fun e w'=> ∃ev,e= .returned (.tuple #[.int .i64 (rowsS st.obs s (-1099511627776) 1099511627776).1.length,ev])∧ToldE w' a ev (rowsS st.obs s (-1099511627776) 1099511627776).2∧Below W.heap.size W w'
 find:∀(W:World) (v:Value) (FP:Nat→Prop) (st:St) (s:Sn) (vf:Value) (key:Int),EM W→SAt W v FP st→Keeps st→FlsAt W vf s.2.2.2.2.2.2→s.2.2.2.2.2.2.length≤100→Short s.2.2.2.2.2.2→Calls Tryz.prog 19 #[v,snV s vf,.int .i64 key] W fun e w'=> ∃v' ev,e= .returned (.tuple #[v',ev])∧KeysAt w' v' (valsZ (rowsS st.obs s key key).1)∧ToldE w' a ev (rowsS st.obs s key key).2∧Below W.heap.size W w'
structure EnvL (w:World) (a:Nat→Addr):Prop where
 file:EnvK w a
 miss:w.cell? ⟨7,0,none⟩=some (.iface 327 (.pointer (some (a 5))))
 exist:w.cell? ⟨8,0,none⟩=some (.iface 327 (.pointer (some (a 6))))
 full:w.cell? ⟨1,0,none⟩=some (.iface 327 (.pointer (some (a 7))))
 order:w.cell? ⟨4,0,none⟩=some (.iface 327 (.pointer (some (a 8))))
theorem EnvL.below {w w':World} {a:Nat→Addr} (h:EnvL w a) (hb:Below w.heap.size w w'):EnvL w' a :=
 ⟨h.file.below hb,below_keep hb h.miss,below_keep hb h.exist,below_keep hb h.full,below_keep hb h.order⟩
def orI (x y:Int):Int:=if x=0 then y else x
set_option maxRecDepth 100000 in
set_option maxHeartbeats 1000000 in
theorem cmpOr_any (x y:Int) (b:Nat) (w:World) (h0:w.cell? ⟨b,0,none⟩=some (.int .i64 x)) (h1:w.cell? ⟨b,1,none⟩=some (.int .i64 y)) :
   Calls Tryz.prog 143 #[.slice (some ⟨b,0,none⟩) 2 2] w fun e w'=>e= .returned (.int .i64 (orI x y))∧w'=w:=by
 go_enter Tryz.func143,Tryz.ntmps143
 go_wp2
 go_loopw [8] (fun k wr=> ∃n:Nat,n≤2∧k= .int .i64 n∧(1≤n→x=0)∧(2≤n→y=0)∧wr=w) (fun k _=>2-(intOf k).toNat)
 case atStart=>exact ⟨0,by omega,rfl,fun h=>absurd h (by omega),fun h=>absurd h (by omega),rfl⟩
 case round =>
   obtain⟨n,hn,rfl,hx,hy,rfl⟩:=hrel
   obtain rfl | rfl | rfl:n=0∨n=1∨n=2:=by omega
   · clear hx hy
     by_cases hx:x=0
     · subst hx
       go_wp2
       go_roundw
       case rel=>exact ⟨1,by omega,by go_num,by simp,by simp,by first | rfl | trivial⟩
       case measure=>simp [intOf]
     · have hb:(x == 0)=false:=beq_eq_false_iff_ne.2 hx
       go_wp2
       go_ret
       exact⟨by rw[orI,if_neg hx];rfl,rfl⟩
   · obtain rfl:=hx (by omega)
     clear hx hy
     by_cases hy:y=0
     · subst hy
       go_wp2
       go_roundw
       case rel=>exact ⟨2,by omega,by go_num,by simp,by simp,by first | rfl | trivial⟩
       case measure=>simp [intOf]
     · have hb:(y == 0)=false:=beq_eq_false_iff_ne.2 hy
       go_wp2
       go_ret
       exact⟨rfl,rfl⟩
   · obtain rfl:=hx (by omega)
     obtain rfl:=hy (by omega)
     clear hx hy
     go_wp2
     go_ret
     exact⟨rfl,rfl⟩
theorem ord_pk {p q:List UInt8} {g k:Bool} {n m:Int} (hp:pathO p=some (g,n)) (hq:pathO q=some (k,m)):orI (Lib.compareBytes (kindL g) (kindL k)) (Lib.compareInt n m)=Lib.compareInt (pk p) (pk q):=by
 obtain⟨e1,a1,a2⟩:=pk_some hp
 obtain⟨e2,b1,b2⟩:=pk_some hq
 rw[e1,e2]
 cases g<;>cases k
 · rfl
 · have:Lib.compareBytes (kindL false) (kindL true)= -1:=by decide
   rw[this]
   unfold Lib.compareInt orI
   rw[if_neg (by decide),if_pos (by simp;omega)]
 · have:Lib.compareBytes (kindL true) (kindL false)=1:=by decide
   rw[this]
   unfold Lib.compareInt orI
   rw[if_neg (by decide),if_neg (by simp;omega),if_pos (by simp;omega)]
 · have:Lib.compareBytes (kindL true) (kindL true)=0:=by decide
   rw[this]
   unfold Lib.compareInt orI
   simp only[if_true]
   congr 1
   · exact propext ⟨fun h=>by omega,fun h=>by omega⟩
   · congr 1
     exact propext ⟨fun h=>by omega,fun h=>by omega⟩
theorem cmpI_neg (x y:Int):(0≤Lib.compareInt x y)↔y≤x:=by
 unfold Lib.compareInt
 split
 · constructor<;>intro h<;>omega
 · split<;>constructor<;>intro h<;>omega
set_option maxRecDepth 100000 in
set_option maxHeartbeats 1000000 in
theorem lorder_any (p q:ByteArray) (w:World) (a:Nat→Addr) (h:EnvN w a) (hp:p.size≤100000) (hq:q.size≤100000) (hpo:pathO p.data.toList≠none) (hqo:pathO q.data.toList≠none) :
   Calls Tryz.prog 183 #[.string p,.string q] w fun e w'=>e= .returned (.int .i64 (Lib.compareInt (pk p.data.toList) (pk q.data.toList)))∧Below w.heap.size w w':=by
 obtain⟨⟨g,n⟩,hp1⟩:=Option.ne_none_iff_exists'.1 hpo
 obtain⟨⟨k,m⟩,hq1⟩:=Option.ne_none_iff_exists'.1 hqo
 have ha:=fnumber_n p w a h hp
 have hb:=fun W (hW:EnvN W a)=>fnumber_n q W a hW hq
 rw[pathR_some hp1]at ha
 rw[pathR_some hq1]at hb
 rw[←ord_pk hp1 hq1]
 have hs:=fun W=>Tryz.strings_Compare (bytesOf (kindL g)) (bytesOf (kindL k)) W
 rw[bytes_data,bytes_data]at hs
 have hc:=fun W=>Tryz.cmp_Compare_int n m W
 generalize Lib.compareBytes (kindL g) (kindL k)=X at hs ⊢
 generalize Lib.compareInt n m=Y at hc ⊢
 simp only[errV]at ha hb
 generalize bytesOf (kindL g)=KA at ha hs
 generalize bytesOf (kindL k)=KB at hb hs
 clear hp1 hq1 hpo hqo hp hq
 go_enter Tryz.func183,Tryz.ntmps183
 go_wp2_with fail
 refine ha.mono ?_
 rintro e w1 ⟨rfl,hb1⟩
 have hq1:=hb w1 (h.below hb1)
 clear ha hb
 go_wp2_with fail
 refine hq1.mono ?_
 rintro e w2 ⟨rfl,hb2⟩
 clear hq1
 have hB2:Below w.heap.size w w2:=hb1.trans (hb2.mono hb1.size)
 clear hb1 hb2
 go_wp2_with fail
 refine(hs _).mono ?_
 rintro e w3 ⟨rfl,rfl⟩
 clear hs
 go_wp2_with fail
 refine(hc _).mono ?_
 rintro e w4 ⟨rfl,rfl⟩
 clear hc
 have hal:Below w4.heap.size w4 (w4.alloc (.cells #[.int .i64 X,.int .i64 Y] 3)):=(Below.refl _ _).alloc (Nat.le_refl _) _
 have hor:=cmpOr_any X Y w4.heap.size (w4.alloc (.cells #[.int .i64 X,.int .i64 Y] 3)) (by simp) (by simp)
 go_wp2_with fail
 refine hor.mono ?_
 rintro e w5 ⟨rfl,rfl⟩
 clear hor
 go_wp2
 go_ret
 exact⟨rfl,hB2.trans (hal.mono hB2.size)⟩
theorem last_of {β:Type} (acc:List β) (k:Nat) (d:β) (hk:acc.length=k+1) (hkk:k<acc.length):acc.getLastD d=acc[k]:=by
 have hne:acc≠ []:=fun e=>by rw[e]at hk;simp at hk
 rw[List.getLastD_eq_getLast?,List.getLast?_eq_some_getLast hne,Option.getD_some,List.getLast_eq_getElem]
 congr 1
 omega
def behE (fs:List Fl) (f:Fl):Nat:=if fs≠ []∧fk f≤fk (fs.getLastD zeroF) then 9 else 0
set_option maxRecDepth 100000 in
set_option maxHeartbeats 2000000 in
theorem behind_any (v:Value) (fs:List Fl) (f:Fl) (w:World) (a:Nat→Addr) (h:EnvL w a) (hx:FlsAt w v fs) (hl:fs.length≤100000) (hsz:∀g∈fs,g.1.size≤100000∧pathO g.1.data.toList≠none) (hf:f.1.size≤100000) (hfo:pathO f.1.data.toList≠none) :
   Calls Tryz.prog 138 #[v,flV f] w fun e w'=>e= .returned (errV a (behE fs f))∧Below w.heap.size w w':=by
 obtain⟨q,cap,rfl⟩:=hx.form
 have hal:Below w.heap.size w (w.alloc (.cells #[.string f.1,.string f.2.1,.int .i64 f.2.2.1,.int .i64 f.2.2.2.1,.int .i64 f.2.2.2.2.1,.int .i64 f.2.2.2.2.2] 63)):=(Below.refl _ _).alloc (Nat.le_refl _) _
 have hfl:=FlAt.new w f
 unfold flV
 by_cases hne:fs= []
 · have hE:behE fs f=0:=by unfold behE;rw[if_neg];rintro⟨h',_⟩;exact h' hne
   rw[hE]
   subst hne
   simp only[errV]
   have hd:decide ((((0:Nat):Int)) > 0)=false:=by decide
   go_enter Tryz.func138,Tryz.ntmps138
   go_wp2
   all_goals
     go_quiet (fail)
     go_wp2
     go_ret
     exact⟨rfl,below_drewN hal nq⟩
 · obtain⟨b,o,rfl,hc⟩:=hx.cells hne
   obtain⟨k,hk⟩:∃k,fs.length=k+1:=⟨fs.length-1,by have:=List.length_pos_iff.2 hne;omega⟩
   have hkk:k<fs.length:=by omega
   have hlast:=last_of fs k zeroF hk hkk
   obtain⟨gs,go⟩:=hsz fs[k] (List.getElem_mem _)
   have c0:=below_keep hal (hc k hkk).1
   have z0:=hfl.cells.1
   have HOD:Hid (∀W,Below w.heap.size w W→Calls Tryz.prog 183 #[.string fs[k].1,.string f.1] W fun e w'=>e= .returned (.int .i64 (Lib.compareInt (fk fs[k]) (fk f)))∧Below W.heap.size W w'):=fun W hW=>lorder_any fs[k].1 f.1 W a (h.below hW).file.env gs hf go hfo
   have HE:Hid (behE fs f=if fk f≤fk fs[k] then 9 else 0):=by
     show _=_
     unfold behE
     rw[hlast]
     simp[hne]
   have hcm:=cmpI_neg (fk fs[k]) (fk f)
   rw[HE.out,hk]
   have hk5:k≤100000:=by omega
   clear HE hlast gs go hsz hc hx hne hfo hl
   obtain⟨fp,fq,fn,flo,fhi,fseq⟩:=f
   dsimp only at hal hfl hf z0 c0 HOD ⊢
   generalize fk (fp,fq,fn,flo,fhi,fseq)=KF at HOD hcm ⊢
   generalize fk fs[k]=KG at HOD hcm ⊢
   generalize fs[k].1=gp at c0 HOD
   clear hkk hk
   generalize Lib.compareInt KG KF=C at HOD hcm
   have hi1:(0:Int)<(k:Int)+1:=by omega
   have hi3:(k:Int)<(k:Int)+1:=by omega
   have hi4:(0:Int)≤(k:Int):=by omega
   have hi5:IntKind.i64.wrap (k:Int)=(k:Int):=IntWalk.i64_in _ (by omega)
   have hd0:decide ((k:Int)+1 > 0)=true:=decide_eq_true hi1
   by_cases hle:KF≤KG
   · have h0:(0:Int)≤C:=hcm.2 hle
     rw[if_pos hle]
     simp only[errV]
     go_enter Tryz.func138,Tryz.ntmps138
     go_upto_region 1 with fail
     generalize w.alloc (.cells #[.string fp,.string fq,.int .i64 fn,.int .i64 flo,.int .i64 fhi,.int .i64 fseq] 63)=WA at hal hfl z0 c0 ⊢
     go_region_held3 (fun w'=>w'.cell? ⟨b,o+k*6,none⟩=some (.string gp)∧w'.cell? ⟨w.heap.size,0,none⟩=some (.string fp)∧Below w.heap.size w w')
       (first
         | (go_split_ands;with_reducible exact⟨below_keep hbX (by assumption),below_keep hbX (by assumption),Below.trans (by assumption) (hbX.mono (Below.size (by assumption)))⟩)
         | (go_split_ands;exact⟨by go_keep,by go_keep,by assumption⟩)
         | (go_split_ands;exact⟨by go_keep,by go_keep,Below.drew (by assumption)⟩))
       (first
         | (go_at_call 183;with_reducible refine(HOD.out _ (by go_split_ands;assumption)).mono ?_;rintro e wX ⟨rfl,hbX⟩))
     go_split_ands
     have hBX:Below w.heap.size w wX:=by assumption
     have ho:=(h.below hBX).order
     go_wp2
     go_ret
     exact⟨rfl,hBX⟩
   · have h0:¬(0:Int)≤C:=fun h'=>hle (hcm.1 h')
     rw[if_neg hle]
     simp only[errV]
     go_enter Tryz.func138,Tryz.ntmps138
     go_upto_region 1 with fail
     generalize w.alloc (.cells #[.string fp,.string fq,.int .i64 fn,.int .i64 flo,.int .i64 fhi,.int .i64 fseq] 63)=WA at hal hfl z0 c0 ⊢
     go_region_held3 (fun w'=>w'.cell? ⟨b,o+k*6,none⟩=some (.string gp)∧w'.cell? ⟨w.heap.size,0,none⟩=some (.string fp)∧Below w.heap.size w w')
       (first
         | (go_split_ands;with_reducible exact⟨below_keep hbX (by assumption),below_keep hbX (by assumption),Below.trans (by assumption) (hbX.mono (Below.size (by assumption)))⟩)
         | (go_split_ands;exact⟨by go_keep,by go_keep,by assumption⟩)
         | (go_split_ands;exact⟨by go_keep,by go_keep,Below.drew (by assumption)⟩))
       (first
         | (go_at_call 183;with_reducible refine(HOD.out _ (by go_split_ands;assumption)).mono ?_;rintro e wX ⟨rfl,hbX⟩))
     go_split_ands
     have hBX:Below w.heap.size w wX:=by assumption
     go_wp2
     go_ret
     exact⟨rfl,hBX⟩
theorem beh_ahead {fs:List Fl} {n:Nat} (hn:n<fs.length) (he:fileE fs[n]=0):behE (fs.take n) fs[n]=if fk fs[n]≤ahead fs n then 9 else 0:=by
 unfold behE
 cases n with
 | zero =>
   have:=fk_pos he
   rw[if_neg (by simp),if_neg]
   show ¬fk fs[0]≤0
   omega
 | succ m =>
   have hm:m<fs.length:=by omega
   have hl:(fs.take (m+1)).length=m+1:=by rw[List.length_take];omega
   rw[last_of (fs.take (m+1)) m zeroF hl (by omega),ahead_succ hm,List.getElem_take]
   have hne:fs.take (m+1)≠ []:=fun e=>by rw[e]at hl;simp at hl
   simp[hne]
set_option maxRecDepth 100000 in
set_option maxHeartbeats 8000000 in
theorem lcheck_any (v:Value) (fs:List Fl) (w:World) (a:Nat→Addr) (h:EnvL w a) (hx:FlsAt w v fs) (hl:fs.length≤100) (hsz:Short fs) :
   Calls Tryz.prog 92 #[v] w fun e w'=> ∃ev,e= .returned ev∧ToldE w' a ev (listE fs)∧Below w.heap.size w w':=by
 obtain⟨q,cap,rfl⟩:=hx.form
 have HFX:Hid (FlsAt w (.slice q fs.length cap) fs):=hx
 have HSZ:Hid (Short fs):=hsz
 have HEN:Hid (∀W,Below w.heap.size w W→EnvL W a):=fun W hb=>h.below hb
 obtain⟨L,hL⟩:∃L,fs.length=L:=⟨_,rfl⟩
 have HX:Hid (fs.length=L):=hL
 rw[hL]at hl ⊢
 generalize hR:listE fs=R
 have HR:Hid (listE fs=R):=hR
 clear hL hx hsz hR
 by_cases hbig:60<L
 · have hRR:R=(8,none):=by rw[←HR.out];unfold listE;rw[if_pos (by rw[HX.out];exact hbig)]
   subst hRR
   have hi:(60:Int)<(L:Int):=by omega
   have hf:=h.full
   go_enter Tryz.func92,Tryz.ntmps92
   go_wp2
   go_ret
   exact⟨_,rfl,rfl,Below.refl _ _⟩
 · have HRR:Hid (R=lstG 0 fs 0):=by
     show _=_
     rw[←HR.out];unfold listE;rw[if_neg (by rw[HX.out];exact hbig)]
   have hi:¬(60:Int)<(L:Int):=by omega
   clear HR
   go_enter Tryz.func92,Tryz.ntmps92
   go_wp2
   go_loopw [12] (fun k wr=> ∃n:Nat,n≤L∧k= .int .i64 n∧LeftG fs n∧(∀j (h:j<fs.length),j<n→fileE fs[j]=0)∧Below w.heap.size w wr) (fun k _=>L-(intOf k).toNat)
   case atStart=>exact ⟨0,by omega,rfl,left_zero fs,fun j h h'=>absurd h' (Nat.not_lt_zero _),Below.refl _ _⟩
   case round =>
     obtain⟨n,hn,rfl,hlg,hall,hb⟩:=hrel
     have HLG:Hid (LeftG fs n):=hlg
     have HAL:Hid (∀j (h:j<fs.length),j<n→fileE fs[j]=0):=hall
     clear hlg hall
     by_cases hlt:n<L
     · have hltx:n<fs.length:=by rw[HX.out];exact hlt
       have hcap:n≤cap∧L≤cap:=by
         have:=HFX.out.room.2 (fun e=>by rw[e]at hltx;simp at hltx)
         rw[HX.out]at this
         omega
       obtain⟨b,o,hq,hc⟩:=(HFX.out.below hb).cells (fun e=>by rw[e]at hltx;simp at hltx)
       subst hq
       have HC:Hid (FlCells wr b o fs):=hc
       obtain⟨c0,c1,c2,c3,c4,c5⟩:=hc n hltx
       obtain⟨k1,k2⟩:=HSZ.out fs[n] (List.getElem_mem _)
       have hck:=fun W (hW:EnvL W a)=>fcheck_any fs[n] W a hW.file (by omega) (by omega)
       have hbad:=fun e=>left_bad HLG.out hltx e
       have hord:=fun e o=>left_order HLG.out hltx e o
       have hnxt:=fun e o=>left_succ HLG.out hltx e o
       have hbeh:fileE fs[n]=0→∀W,Below wr.heap.size wr W→Calls Tryz.prog 138 #[.slice (some ⟨b,o,none⟩) n cap,flV fs[n]] W fun e w'=>e= .returned (errV a (if fk fs[n]≤ahead fs n then 9 else 0))∧Below W.heap.size W w':=fun he W hW=>by
         have h':=behind_any (.slice (some ⟨b,o,none⟩) n cap) (fs.take n) fs[n] W a (HEN.out W (hb.trans (hW.mono hb.size))) (flsAt_take (HC.out.below hW) (Nat.le_of_lt hltx) (by rw[HX.out];exact hcap.2)) (by rw[List.length_take];omega) (fun g hg=>by
           obtain⟨j,hj,rfl⟩:=List.mem_iff_getElem.1 hg
           rw[List.length_take]at hj
           rw[List.getElem_take]
           exact⟨by have:=(HSZ.out fs[j] (List.getElem_mem _)).1;omega,ok_path (HAL.out j (by omega) (by omega))⟩) (by omega) (ok_path he)
         rw[beh_ahead hltx he]at h'
         exact h'
       have HAN:Hid (fileE fs[n]=0→∀j (h:j<fs.length),j<n+1→fileE fs[j]=0):=fun he j hj hjn=>by
         by_cases e:j=n
         · subst e;exact he
         · exact HAL.out j hj (by omega)
       unfold flV at hck hbeh
       generalize fileE fs[n]=E at hck hbad hord hnxt hbeh HAN
       generalize fk fs[n]=Z at hord hnxt hbeh
       generalize ahead fs n=Y at hord hnxt hbeh
       generalize fs[n]=f at c0 c1 c2 c3 c4 c5 hck hbeh k1 k2
       have hfb:=boxW_at wr f
       have hbb:=boxW_below wr f
       unfold boxW at hfb hbb
       obtain⟨fp,fq,fn,flo,fhi,fseq⟩:=f
       dsimp only at c0 c1 c2 c3 c4 c5 hck hbeh k1 k2 hfb hbb
       have hiL:(n:Int)<(L:Int):=by omega
       have hi0':(0:Int)≤(n:Int):=by omega
       have hic:(n:Int)≤(cap:Int):=by omega
       clear hc hltx HC
       go_upto_region 6 with fail
       clear c0 c1 c2 c3 c4 c5
       generalize wr.alloc (.cells #[.string fp,.string fq,.int .i64 fn,.int .i64 flo,.int .i64 fhi,.int .i64 fseq] 63)=W5 at hfb hbb ⊢
       have hB5:Below w.heap.size w W5:=hb.trans (hbb.mono hb.size)
       obtain⟨z0,z1,z2,z3,z4,z5,-⟩:=hfb.cells
       dsimp only at z0 z1 z2 z3 z4 z5
       have hck5:=hck W5 (HEN.out W5 hB5)
       clear hck
       go_wp2_with fail
       refine hck5.mono ?_
       rintro e w6 ⟨rfl,hb6⟩
       clear hck5 z0 z1 z2 z3 z4 z5
       have hB6:Below w.heap.size w w6:=hB5.trans (hb6.mono hB5.size)
       have hw6:Below wr.heap.size wr w6:=hbb.trans (hb6.mono hbb.size)
       by_cases hE:E=0
       · subst hE
         replace hord:=hord rfl
         replace hnxt:=hnxt rfl
         have hbe:=hbeh rfl
         have HA1:Hid (∀j (h:j<fs.length),j<n+1→fileE fs[j]=0):=HAN.out rfl
         obtain⟨z0,z1,z2,z3,z4,z5,-⟩:=(hfb.below hb6).cells
         dsimp only at z0 z1 z2 z3 z4 z5
         clear hbad hbeh HAN hfb hbb hb6 hB5
         by_cases ho:Z≤Y
         · rw [if_pos ho]at hbe
           have HRE:Hid (R=(9,some n)):=by rw[HRR.out];exact hord ho
           have HBE:Hid (∀W,Below wr.heap.size wr W→Calls Tryz.prog 138 #[.slice (some ⟨b,o,none⟩) n cap,.agg #[.string fp,.string fq,.int .i64 fn,.int .i64 flo,.int .i64 fhi,.int .i64 fseq]] W fun e w'=>e= .returned (errV a 9)∧Below W.heap.size W w'):=hbe
           clear hbe hord hnxt
           simp only[errV]
           go_upto_region 8 with fail
           go_region_held3 (fun w'=>w'.cell? ⟨wr.heap.size,0,none⟩=some (.string fp)∧w'.cell? ⟨wr.heap.size,1,none⟩=some (.string fq)∧w'.cell? ⟨wr.heap.size,2,none⟩=some (.int .i64 fn)∧w'.cell? ⟨wr.heap.size,3,none⟩=some (.int .i64 flo)∧w'.cell? ⟨wr.heap.size,4,none⟩=some (.int .i64 fhi)∧w'.cell? ⟨wr.heap.size,5,none⟩=some (.int .i64 fseq)∧Below wr.heap.size wr w')
             (first
               | (go_split_ands;with_reducible exact⟨below_keep hbX (by assumption),below_keep hbX (by assumption),below_keep hbX (by assumption),below_keep hbX (by assumption),below_keep hbX (by assumption),below_keep hbX (by assumption),Below.trans (by assumption) (hbX.mono (Below.size (by assumption)))⟩)
               | (go_split_ands;exact⟨by go_keep,by go_keep,by go_keep,by go_keep,by go_keep,by go_keep,by assumption⟩)
               | (go_split_ands;exact⟨by go_keep,by go_keep,by go_keep,by go_keep,by go_keep,by go_keep,Below.drew (by assumption)⟩))
             (first
               | (go_at_call 138;with_reducible refine(HBE.out _ (by go_split_ands;assumption)).mono ?_;rintro e wX ⟨rfl,hbX⟩))
           go_split_ands
           have hX:Below wr.heap.size wr wX:=by assumption
           have hBX:Below w.heap.size w wX:=hb.trans (hX.mono hb.size)
           try simp only[errV]
           have hal:Below wX.heap.size wX (wX.alloc (.cells #[.int .i64 n,.iface 327 (.pointer (some (a 8)))] 94)):=(Below.refl _ _).alloc (Nat.le_refl _) _
           go_wp2
           go_ret
           refine⟨_,rfl,?_,hBX.trans (hal.mono hBX.size)⟩
           rw[HRE.out]
           exact⟨by simp,wX.heap.size,rfl,by simp,by simp[errV]⟩
         · rw [if_neg ho]at hbe
           have HNX:Hid (LeftG fs (n+1)):=hnxt (by omega)
           have HBE:Hid (∀W,Below wr.heap.size wr W→Calls Tryz.prog 138 #[.slice (some ⟨b,o,none⟩) n cap,.agg #[.string fp,.string fq,.int .i64 fn,.int .i64 flo,.int .i64 fhi,.int .i64 fseq]] W fun e w'=>e= .returned (errV a 0)∧Below W.heap.size W w'):=hbe
           clear hbe hord hnxt
           simp only[errV]
           go_upto_region 8 with fail
           go_region_held3 (fun w'=>w'.cell? ⟨wr.heap.size,0,none⟩=some (.string fp)∧w'.cell? ⟨wr.heap.size,1,none⟩=some (.string fq)∧w'.cell? ⟨wr.heap.size,2,none⟩=some (.int .i64 fn)∧w'.cell? ⟨wr.heap.size,3,none⟩=some (.int .i64 flo)∧w'.cell? ⟨wr.heap.size,4,none⟩=some (.int .i64 fhi)∧w'.cell? ⟨wr.heap.size,5,none⟩=some (.int .i64 fseq)∧Below wr.heap.size wr w')
             (first
               | (go_split_ands;with_reducible exact⟨below_keep hbX (by assumption),below_keep hbX (by assumption),below_keep hbX (by assumption),below_keep hbX (by assumption),below_keep hbX (by assumption),below_keep hbX (by assumption),Below.trans (by assumption) (hbX.mono (Below.size (by assumption)))⟩)
               | (go_split_ands;exact⟨by go_keep,by go_keep,by go_keep,by go_keep,by go_keep,by go_keep,by assumption⟩)
               | (go_split_ands;exact⟨by go_keep,by go_keep,by go_keep,by go_keep,by go_keep,by go_keep,Below.drew (by assumption)⟩))
             (first
               | (go_at_call 138;with_reducible refine(HBE.out _ (by go_split_ands;assumption)).mono ?_;rintro e wX ⟨rfl,hbX⟩))
           go_split_ands
           have hX:Below wr.heap.size wr wX:=by assumption
           have hBX:Below w.heap.size w wX:=hb.trans (hX.mono hb.size)
           try simp only[errV]
           go_wp2
           go_roundw
           case rel=>exact ⟨n+1,by omega,by go_num,HNX.out,HA1.out,hBX⟩
           case measure=>simp [intOf];omega
       · obtain⟨j,rfl⟩:∃j,E=j+1:=⟨E-1,by omega⟩
         have HRE:Hid (R=(j+1,some n)):=by rw[HRR.out];exact hbad hE
         simp only[errV]
         clear hbad hord hnxt hbeh HAN hfb hbb hb6 hB5 hw6
         have hal:Below w6.heap.size w6 (w6.alloc (.cells #[.int .i64 n,.iface 327 (.pointer (some (a j)))] 94)):=(Below.refl _ _).alloc (Nat.le_refl _) _
         go_wp2
         go_ret
         refine⟨_,rfl,?_,hB6.trans (hal.mono hB6.size)⟩
         rw[HRE.out]
         exact⟨by simp,w6.heap.size,rfl,by simp,by simp[errV]⟩
     · obtain rfl:n=L:=by omega
       have HRE:Hid (R=(0,none)):=by
         show _=_
         rw[HRR.out]
         have h':=HLG.out
         rw[←HX.out]at h'
         exact left_all h'
       go_wp2
       go_ret
       refine⟨_,rfl,?_,hb⟩
       rw[HRE.out]
       rfl
end Go.Proofs.YtdhkdjlgmbejnaaGreatDoor
