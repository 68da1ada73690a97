/- By an AI agent. -/
import Derived.Test.YtdhkdjlgmbejnaaGreatDoorScanRows
namespace Go.Proofs.YtdhkdjlgmbejnaaGreatDoor
open Go.RowKit Go.Extern.Stop Go.Stop Go.Extern Go.Sort Go.Shelf Go.Lib
theorem inP_all {lo hi:Int} {x:Fl} (h1:lo≤ -1073741824) (h2:1073741824≤hi) (hx:fileE x=0):inP lo hi x=true:=by
 obtain⟨g,n,hp,hq,hb⟩:=file_good hx
 unfold bndB at hb
 simp only[Bool.and_eq_true,decide_eq_true_eq,inNum]at hb
 unfold inP
 apply decide_eq_true
 split<;>split<;>omega
theorem addS_wide {obs:List Ob} {lo hi lo' hi':Int} (h1:lo≤ -1073741824) (h2:1073741824≤hi) (h1':lo'≤ -1073741824) (h2':1073741824≤hi') {x:Fl} (hx:(fileR obs x).1=0) (acc:List (Rw×Int)):addS lo hi x (fileR obs x).2 acc=addS lo' hi' x (fileR obs x).2 acc:=by
 obtain⟨g,m,hp,hpart,hfe,hk0,hk1,hk2,hk3⟩:=file_count hx
 by_cases hg:x.2.1.data.toList= [45]
 · rw[addS_gone hg,addS_gone hg]
 · rw[addS_data hg,addS_data hg]
   obtain rfl:g=false:=by
     cases g with
     | false=>rfl
     | true=>exact absurd (hpart.2 rfl) hg
   congr 2
   apply List.filter_congr
   intro r hr
   have:=hk3 r.2.1 (by simp only[keysF,Bool.false_eq_true,if_false];exact List.mem_map.2 ⟨r,hr,rfl⟩)
   unfold inB
   rw[decide_eq_true (by omega),decide_eq_true (by omega),decide_eq_true (by omega),decide_eq_true (by omega)]
theorem scan_wide {obs:List Ob} {lo hi lo' hi':Int} (h1:lo≤ -1073741824) (h2:1073741824≤hi) (h1':lo'≤ -1073741824) (h2':1073741824≤hi'):∀(fs:List Fl) (i:Nat) (acc:List (Rw×Int)),(∀x∈fs,fileE x=0)→scanG obs lo hi fs i acc=scanG obs lo' hi' fs i acc
 | [],_,_,_=>rfl
 | x :: r,i,acc,h=>by
   have hx:=h x List.mem_cons_self
   have hr:=fun y hy=>h y (List.mem_cons_of_mem _ hy)
   unfold scanG
   rw[inP_all h1 h2 hx,inP_all h1' h2' hx]
   simp only[Bool.true_eq_false,if_false]
   by_cases hb:(fileR obs x).1≠0
   · rw[if_pos hb,if_pos hb]
   · rw[if_neg hb,if_neg hb,addS_wide h1 h2 h1' h2' (by simpa using hb)]
     exact scan_wide h1 h2 h1' h2' r (i+1) _ hr
theorem rows_wide {obs:List Ob} {s:Sn} {lo hi lo' hi':Int} (h1:lo≤ -1073741824) (h2:1073741824≤hi) (h1':lo'≤ -1073741824) (h2':1073741824≤hi'):rowsS obs s lo hi=rowsS obs s lo' hi':=by
 unfold rowsS
 by_cases he:(snapE s).1≠0
 · rw[if_pos he,if_pos he]
 · rw[if_neg he,if_neg he,scan_wide h1 h2 h1' h2' _ 0 [] (fun x hx=>((snap_list (by simpa using he)).2.1 x hx).1)]
theorem rows_none {obs:List Ob} {s:Sn} {lo hi:Int} (h:(rowsS obs s lo hi).2.1≠0):(rowsS obs s lo hi).1= []:=by
 unfold rowsS at h ⊢
 split
 · rfl
 · rename_i h1
   rw[if_neg h1]at h
   split
   · rfl
   · rename_i h2
     rw[if_neg h2]at h
     exact absurd rfl h
theorem addS_len {obs:List Ob} {lo hi:Int} {x:Fl} (acc:List (Rw×Int)):(addS lo hi x (fileR obs x).2 acc).length≤acc.length+40:=by
 by_cases hg:x.2.1.data.toList= [45]
 · rw[addS_gone hg]
   exact Nat.le_trans (List.length_filter_le _ _) (by omega)
 · rw[addS_data hg,List.length_append,List.length_map]
   have h1:=(readG_le dataK rd_le (fileR obs x).2.data.toList).2
   have h2:=List.length_filter_le (inB lo hi) (dataO (fileR obs x).2.data.toList).1
   have h3:(dataO (fileR obs x).2.data.toList).1.length≤40:=h1
   omega
theorem scan_len {obs:List Ob} {lo hi:Int} :∀(fs:List Fl) (i:Nat) (acc:List (Rw×Int)),(scanG obs lo hi fs i acc).1.length≤acc.length+40*fs.length
 | [],_,_=>by simp[scanG]
 | x :: r,i,acc=>by
   unfold scanG
   rw[List.length_cons]
   by_cases hp:inP lo hi x=false
   · rw[if_pos hp]
     have:=scan_len (obs:=obs) (lo:=lo) (hi:=hi) r (i+1) acc
     omega
   · rw[if_neg hp]
     by_cases hb:(fileR obs x).1≠0
     · rw[if_pos hb];simp
     · rw[if_neg hb]
       have h1:=scan_len (obs:=obs) (lo:=lo) (hi:=hi) r (i+1) (addS lo hi x (fileR obs x).2 acc)
       have h2:=addS_len (obs:=obs) (lo:=lo) (hi:=hi) (x:=x) acc
       omega
theorem rows_len (obs:List Ob) (s:Sn) (lo hi:Int) (h:s.2.2.2.2.2.2.length≤100):(rowsS obs s lo hi).1.length≤4000:=by
 unfold rowsS
 split
 · simp
 · split
   · simp
   · dsimp only
     rw[sortR_len,List.length_map]
     have:=scan_len (obs:=obs) (lo:=lo) (hi:=hi) s.2.2.2.2.2.2 0 []
     simp only[List.length_nil]at this
     omega
section
variable {a : Nat → Addr} {B : Nat} {EM : World → Prop} {SAt : World → Value → (Nat → Prop) → St → Prop}
set_option maxRecDepth 100000 in
set_option maxHeartbeats 2000000 in
theorem srows0_any (HV:∀W,EM W→EnvF W a∧Hand W∧EnvL W a) (W:World) (s:Sn) (vf:Value) (lo hi:Int) (hE:EM W) (hx:FlsAt W vf s.2.2.2.2.2.2) :
   Calls Tryz.prog 10 #[.pointer none,snV s vf,.int .i64 lo,.int .i64 hi] W fun e w'=> ∃v',e= .returned (.tuple #[v',errV a 3])∧Below W.heap.size W w':=by
 have hal:Below W.heap.size W (W.alloc (.cells #[.int .i64 s.1,.int .i64 s.2.1,.int .i64 s.2.2.1,.int .i64 s.2.2.2.1,.int .i64 s.2.2.2.2.1,.string s.2.2.2.2.2.1,vf] 25)):=(Below.refl _ _).alloc (Nat.le_refl _) _
 have hsh:=below_keep hal (HV W hE).1.data.shape
 have hbd:=hal.drew
 have hsd:(W.alloc (.cells #[.int .i64 s.1,.int .i64 s.2.1,.int .i64 s.2.2.1,.int .i64 s.2.2.2.1,.int .i64 s.2.2.2.2.1,.string s.2.2.2.2.2.1,vf] 25)).drew.cell? ⟨0,0,none⟩=some (.iface 327 (.pointer (some (a 2)))):=hsh
 obtain⟨vq,vc,rfl⟩:=hx.form
 unfold snV
 clear hx HV hE
 obtain⟨id,par,seq,day,idx,op,fs⟩:=s
 dsimp only at *
 generalize fs.length=L at *
 go_enter Tryz.func10,Tryz.ntmps10
 go_upto_region 1 with fail
 generalize W.alloc (.cells #[.int .i64 id,.int .i64 par,.int .i64 seq,.int .i64 day,.int .i64 idx,.string op,.slice vq L vc] 25)=W1 at *
 go_wp2
 go_region
 all_goals go_wp2
 all_goals go_ret2
 all_goals exact⟨_,rfl,hbd⟩
set_option maxRecDepth 100000 in
set_option maxHeartbeats 2000000 in
theorem scount_any (K:StoreK a B EM SAt) (HV:∀W,EM W→EnvF W a∧Hand W∧EnvL W a) (W:World) (v:Value) (FP:Nat→Prop) (st:St) (s:Sn) (vf:Value) (hE:EM W) (hat:SAt W v FP st) (ks:Keeps st) (hx:FlsAt W vf s.2.2.2.2.2.2) (hl:s.2.2.2.2.2.2.length≤100) (hsh:Short s.2.2.2.2.2.2) :
   Calls Tryz.prog 13 #[v,snV s vf] W fun e w'=> ∃ev,e= .returned (.tuple #[.int .i64 (rowsS st.obs s (-1099511627776) 1099511627776).1.length,ev])∧ToldE w' a ev (rowsS st.obs s (-1099511627776) 1099511627776).2∧Below W.heap.size W w':=by
 obtain⟨pt,rfl⟩:=K.ptr _ _ _ _ hat
 have hal:Below W.heap.size W (W.alloc (.cells #[.int .i64 s.1,.int .i64 s.2.1,.int .i64 s.2.2.1,.int .i64 s.2.2.2.1,.int .i64 s.2.2.2.2.1,.string s.2.2.2.2.2.1,vf] 25)):=(Below.refl _ _).alloc (Nat.le_refl _) _
 have hrw:=srows_any K HV _ (.pointer (some pt)) FP st s vf (-1073741824) 1073741824 (K.below W _ hE (hal.mono (K.size W hE))) (K.keep _ _ _ _ (fun _=>False) _ hat (But.of_below hal) (fun _ _ h=>h)) ks (hx.below hal) hl hsh
 rw[rows_wide (by omega) (by omega) (show (-1099511627776:Int)≤ -1073741824 by omega) (show (1073741824:Int)≤1099511627776 by omega)]at hrw
 have HN:Hid ((rowsS st.obs s (-1099511627776) 1099511627776).2.1≠0→(rowsS st.obs s (-1099511627776) 1099511627776).1= []):=rows_none
 generalize rowsS st.obs s (-1099511627776) 1099511627776=R at hrw HN ⊢
 have hsn:=SnAt.new W s vf
 obtain⟨vq,vc,rfl⟩:=hx.form
 unfold snV at hrw ⊢
 clear hx HV hE K hat ks hsh
 obtain⟨id,par,seq,day,idx,op,fs⟩:=s
 dsimp only at *
 generalize fs.length=L at *
 go_enter Tryz.func13,Tryz.ntmps13
 go_upto_region 1 with fail
 generalize W.alloc (.cells #[.int .i64 id,.int .i64 par,.int .i64 seq,.int .i64 day,.int .i64 idx,.string op,.slice vq L vc] 25)=W1 at *
 obtain⟨z0,z1,z2,z3,z4,z5,z6⟩:=hsn.cells
 dsimp only at z0 z1 z2 z3 z4 z5 z6
 generalize W.heap.size=sb at z0 z1 z2 z3 z4 z5 z6 ⊢
 clear hsn
 go_wp2_with fail
 refine hrw.mono ?_
 rintro e w2 ⟨v2,ev,rfl,hr2,ht2,hb2⟩
 clear hrw z0 z1 z2 z3 z4 z5 z6
 obtain⟨q2,c2,rfl⟩:=hr2.form
 by_cases h0:R.2.1=0
 · obtain rfl:=ht2.ok h0
   have HT:Hid (ToldE w2 a .nilIface R.2):=ht2
   clear HN ht2 hr2 h0
   generalize hRL:R.1.length=RL at *
   have HRL:Hid (R.1.length=RL):=hRL
   clear hRL
   go_wp2
   go_ret2
   refine⟨_,by rw[HRL.out];rfl,HT.out,hal.trans (hb2.mono hal.size)⟩
 · obtain⟨t,u,rfl⟩:=ht2.bad h0
   have HT:Hid (ToldE w2 a (.iface t u) R.2∧R.1= []):=⟨ht2,HN.out h0⟩
   clear HN ht2 hr2 h0
   generalize R.1.length=RL at *
   go_wp2
   go_ret2
   refine⟨_,by rw[HT.out.2];rfl,HT.out.1,hal.trans (hb2.mono hal.size)⟩
set_option maxRecDepth 100000 in
set_option maxHeartbeats 4000000 in
theorem sfindN_any (K:StoreK a B EM SAt) (HV:∀W,EM W→EnvF W a∧Hand W∧EnvL W a) (W:World) (v:Value) (FP:Nat→Prop) (st:St) (s:Sn) (vf:Value) (key:Int) (hE:EM W) (hat:SAt W v FP st) (ks:Keeps st) (hx:FlsAt W vf s.2.2.2.2.2.2) (hl:s.2.2.2.2.2.2.length≤100) (hsh:Short s.2.2.2.2.2.2) :
   Calls Tryz.prog 19 #[v,snV s vf,.int .i64 key] W fun e w'=>(∃v' ev,e= .returned (.tuple #[v',ev])∧KeysAt w' v' (valsZ (rowsS st.obs s key key).1)∧ToldE w' a ev (rowsS st.obs s key key).2∧Below W.heap.size W w')∧NewE W e:=by
 obtain⟨pt,rfl⟩:=K.ptr _ _ _ _ hat
 have hal:Below W.heap.size W (W.alloc (.cells #[.int .i64 s.1,.int .i64 s.2.1,.int .i64 s.2.2.1,.int .i64 s.2.2.2.1,.int .i64 s.2.2.2.2.1,.string s.2.2.2.2.2.1,vf] 25)):=(Below.refl _ _).alloc (Nat.le_refl _) _
 have hrw:=srows_any K HV _ (.pointer (some pt)) FP st s vf key key (K.below W _ hE (hal.mono (K.size W hE))) (K.keep _ _ _ _ (fun _=>False) _ hat (But.of_below hal) (fun _ _ h=>h)) ks (hx.below hal) hl hsh
 have HN:Hid ((rowsS st.obs s key key).2.1≠0→(rowsS st.obs s key key).1= []):=rows_none
 have hln:=rows_len st.obs s key key hl
 generalize rowsS st.obs s key key=R at hrw HN hln ⊢
 have hsn:=SnAt.new W s vf
 obtain⟨vq,vc,rfl⟩:=hx.form
 unfold snV at hrw ⊢
 clear hx HV hE K hat ks hsh
 obtain⟨id,par,seq,day,idx,op,fs⟩:=s
 dsimp only at *
 generalize fs.length=L at *
 obtain⟨rs,rc⟩:=R
 dsimp only at *
 go_enter Tryz.func19,Tryz.ntmps19
 go_upto_region 1 with fail
 have HA:Hid (Below W.heap.size W (W.alloc (.cells #[.int .i64 id,.int .i64 par,.int .i64 seq,.int .i64 day,.int .i64 idx,.string op,.slice vq L vc] 25))):=hal
 clear hal
 generalize W.alloc (.cells #[.int .i64 id,.int .i64 par,.int .i64 seq,.int .i64 day,.int .i64 idx,.string op,.slice vq L vc] 25)=W1 at *
 obtain⟨z0,z1,z2,z3,z4,z5,z6⟩:=hsn.cells
 dsimp only at z0 z1 z2 z3 z4 z5 z6
 have HZ0:Hid (W1.cell? ⟨W.heap.size,0,none⟩=some (.int .i64 id)):=z0
 generalize W.heap.size=sb at z0 z1 z2 z3 z4 z5 z6 HZ0 ⊢
 clear hsn
 go_wp2_with fail
 refine hrw.mono ?_
 rintro e w2 ⟨v2,ev,rfl,hr2,ht2,hb2⟩
 clear hrw z0 z1 z2 z3 z4 z5 z6
 obtain⟨q2,c2,rfl⟩:=hr2.form
 by_cases h0:rc.1=0
 case neg =>
   obtain⟨t,u,rfl⟩:=ht2.bad h0
   have HT:Hid (ToldE w2 a (.iface t u) rc∧rs= []):=⟨ht2,HN.out h0⟩
   clear HN ht2 hr2 h0
   generalize rs.length=RL at *
   go_wp2
   go_ret2
   exact⟨⟨_,_,rfl,by rw[HT.out.2];exact Or.inl ⟨none,0,rfl,by simp[valsZ]⟩,HT.out.1,HA.out.trans (hb2.mono HA.out.size)⟩,newE_mk (newF_nil _)⟩
 obtain rfl:=ht2.ok h0
 have HT:Hid (∀X,ToldE X a .nilIface rc):=fun X=>by
   obtain⟨cn,o⟩:=rc
   dsimp only at h0
   subst h0
   cases o with
   | none=>rfl
   | some j=>exact absurd rfl ht2.1
 have HRS:Hid (RowsAt w2 (.slice q2 rs.length c2) rs):=hr2
 have HZ2:Hid (w2.cell? ⟨sb,0,none⟩=some (.int .i64 id)):=below_keep hb2 HZ0.out
 have HB2:Hid (Below W.heap.size W w2):=HA.out.trans (hb2.mono HA.out.size)
 clear ht2 h0 HN hr2 hb2 HA HZ0
 obtain⟨M,hM⟩:∃M,rs.length=M:=⟨_,rfl⟩
 have HM:Hid (rs.length=M):=hM
 rw[hM]at hln HRS ⊢
 clear hM
 have hmk:=fun W=>run_make_row' (P:=Tryz.prog) 50 3 (.int .i64 0) 8 Tryz.underlying50 Tryz.numsInfo rfl .i64 .i64 M (by omega) (by omega) W
 have hal3:Below w2.heap.size w2 (w2.alloc (.cells (madeCells #[.int .i64 0] M) 3)):=(Below.refl _ _).alloc (Nat.le_refl _) _
 have hblk:=heap_alloc_new w2 (.cells (madeCells #[.int .i64 0] M) 3)
 have hmd:∀j,j<M→(madeCells #[.int .i64 0] M)[j]? =some (.int .i64 0):=fun j hj=>made_get _ _ _ hj
 have MD:Hid (∀j,j<M→(madeCells #[.int .i64 0] M)[j]? =some (.int .i64 0)):=hmd
 have MS:Hid ((madeCells #[.int .i64 0] M).size=M):=by show _=_;simp[madeCells]
 clear hmd
 go_wp2
 go_loopw [29] (fun k wr=> ∃(n:Nat) (arr:Array Value),n≤M∧k= .int .i64 n∧Below w2.heap.size w2 wr∧wr.heap[w2.heap.size]? =some (.cells arr 3 (0,0))∧arr.size=M∧(∀j (h:j<rs.length),j<n→arr[j]? =some (.int .i64 rs[j].2.2))) (fun k _=>M-(intOf k).toNat)
 case atStart=>exact ⟨0,_,by omega,rfl,hal3,hblk,MS.out,fun j _ h=>absurd h (Nat.not_lt_zero _)⟩
 case round =>
   clear hal3 hblk hmk
   obtain⟨n,arr,hn,rfl,hb,hbk,has,hgo⟩:=hrel
   have HB:Hid (wr.heap[w2.heap.size]? =some (.cells arr 3 (0,0))∧arr.size=M):=⟨hbk,has⟩
   have HGO:Hid (∀j (h:j<rs.length),j<n→arr[j]? =some (.int .i64 rs[j].2.2)):=hgo
   clear hbk has hgo
   by_cases hlt:n<M
   · have hltx:n<rs.length:=by rw[HM.out];exact hlt
     rcases HRS.out.below hb with⟨_,_,e,e'⟩|⟨b,o,cap2,e,hcells⟩
     · exfalso;have:=HM.out;rw[e']at this;simp at this;omega
     injection e with e1 e2 e3
     subst e1
     clear e2 e3
     obtain⟨c1,c2',c3⟩:=hcells n hltx
     clear hcells
     have hi:(n:Int)<(M:Int):=by omega
     have hi0':(0:Int)≤(n:Int):=by omega
     have HNX:Hid (∀j (h:j<rs.length),j<n+1→(arr.setIfInBounds n (.int .i64 rs[n].2.2))[j]? =some (.int .i64 rs[j].2.2)):=fun j hj hjn=>by
       rw[Array.getElem?_setIfInBounds]
       by_cases e:n=j
       · subst e
         rw[if_pos rfl,if_pos (by rw[HB.out.2];exact hlt)]
       · rw[if_neg e]
         exact HGO.out j hj (by omega)
     generalize rs[n]=f at c1 c2' c3 HNX
     obtain⟨fp,fk,fv⟩:=f
     dsimp only at c1 c2' c3 HNX
     have hal:Below wr.heap.size wr (wr.alloc (.cells #[.string fp,.int .i64 fk,.int .i64 fv] 54)):=(Below.refl _ _).alloc (Nat.le_refl _) _
     have hbk3:(wr.alloc (.cells #[.string fp,.int .i64 fk,.int .i64 fv] 54)).heap[w2.heap.size]? =some (.cells arr 3 (0,0)):=(hal.block _ (lt_of_block HB.out.1)).trans HB.out.1
     have hu:arr[n]? =some arr[n]! :=by
       rw[getElem!_pos arr n (by rw[HB.out.2];exact hlt)]
       exact Array.getElem?_eq_getElem _
     generalize arr[n]! =u at hu
     have hcu:(wr.alloc (.cells #[.string fp,.int .i64 fk,.int .i64 fv] 54)).cell? ⟨w2.heap.size,n,none⟩=some u:=by rw[cell_of_row _ _ _ _ _ _ hbk3];exact hu
     have hfz:(wr.alloc (.cells #[.string fp,.int .i64 fk,.int .i64 fv] 54)).frozen? ⟨w2.heap.size,n,none⟩=false:=frozen_of_row _ _ _ _ _ hbk3
     have d2:(wr.alloc (.cells #[.string fp,.int .i64 fk,.int .i64 fv] 54)).cell? ⟨wr.heap.size,2,none⟩=some (.int .i64 fv):=by simp
     have HSET:Hid (((wr.alloc (.cells #[.string fp,.int .i64 fk,.int .i64 fv] 54)).setCell ⟨w2.heap.size,n,none⟩ (.int .i64 fv)).heap[w2.heap.size]? =some (.cells (arr.setIfInBounds n (.int .i64 fv)) 3 (0,0))):=heap_setCell_same _ w2.heap.size n arr 3 (.int .i64 fv) hbk3
     have HB4:Hid (Below w2.heap.size w2 ((wr.alloc (.cells #[.string fp,.int .i64 fk,.int .i64 fv] 54)).setCell ⟨w2.heap.size,n,none⟩ (.int .i64 fv))):=(hb.alloc hb.size _).setCell (Nat.le_refl _) _
     clear hbk3 hu hltx HGO
     go_upto_region 8 with fail
     generalize wr.alloc (.cells #[.string fp,.int .i64 fk,.int .i64 fv] 54)=w3 at *
     go_wp2
     go_roundw
     case rel=>exact ⟨n+1,_,by omega,by go_num,HB4.out,HSET.out,by rw[Array.size_setIfInBounds];exact HB.out.2,HNX.out⟩
     case measure=>simp [intOf];omega
   · obtain rfl:n=M:=by omega
     have hown:wr.ownsRow w2.heap.size 3 1 (.slice (some ⟨w2.heap.size,0,none⟩) n n) n ((rs.map fun r=>r.2.2).map (Value.int .i64)):=by
       refine⟨by rw[List.length_map,List.length_map,HM.out];omega,Or.inr ⟨w2.heap.size,n,arr,rfl,Nat.le_refl _,HB.out.1,Nat.le_refl _,by unfold maxLen;omega,by rw[HB.out.2];omega,?_⟩⟩
       rw[List.take_of_length_le (by rw[Array.length_toList,HB.out.2];omega)]
       apply List.ext_getElem?
       intro j
       rw[Array.getElem?_toList]
       by_cases hj:j<n
       · have hj':j<rs.length:=by rw[HM.out];exact hj
         rw[HGO.out j hj' hj,List.getElem?_map,List.getElem?_map,List.getElem?_eq_getElem hj']
         rfl
       · rw[Array.getElem?_eq_none (by rw[HB.out.2];omega),List.getElem?_eq_none (by rw[List.length_map,List.length_map,HM.out];omega)]
     have hlm:(rs.map fun r=>r.2.2).length=n:=by rw[List.length_map,HM.out]
     have hso:=sortInts_any (.slice (some ⟨w2.heap.size,0,none⟩) n n) (rs.map fun r=>r.2.2) w2.heap.size w2 wr hb (Nat.le_refl _) (by rw[hlm];exact hown) (by rw[hlm];omega) sb _ (below_keep hb HZ2.out) (by
       have:=cell_lt HZ2.out
       simp only[Value.ownBlock,ne_eq,Option.some.injEq]
       have h':sb<w2.heap.size:=this
       omega)
     have HVZ:Hid (sortZ (rs.map fun r=>r.2.2)=valsZ rs):=rfl
     rw[HVZ.out]at hso
     clear hown hlm HGO HB HRS
     go_wp2_with fail
     refine hso.mono ?_
     rintro e w5 ⟨rfl,hk5,hb5,-⟩
     have HEND:Hid (KeysAt w5 (.slice (some ⟨w2.heap.size,0,none⟩) n n) (valsZ rs)∧Below W.heap.size W w5):=⟨hk5,HB2.out.trans (hb5.mono HB2.out.size)⟩
     clear hso hk5 hb5
     go_wp2
     go_ret2
     exact⟨⟨_,_,rfl,HEND.out.1,HT.out _,HEND.out.2⟩,newE_mk fun k hk=>by
       have h1:=HB2.out.size
       have h2:w2.heap.size=k:=by simpa [Value.ownBlock] using hk
       omega⟩
theorem sfind_any (K:StoreK a B EM SAt) (HV:∀W,EM W→EnvF W a∧Hand W∧EnvL W a) (W:World) (v:Value) (FP:Nat→Prop) (st:St) (s:Sn) (vf:Value) (key:Int) (hE:EM W) (hat:SAt W v FP st) (ks:Keeps st) (hx:FlsAt W vf s.2.2.2.2.2.2) (hl:s.2.2.2.2.2.2.length≤100) (hsh:Short s.2.2.2.2.2.2) :
   Calls Tryz.prog 19 #[v,snV s vf,.int .i64 key] W fun e w'=> ∃v' ev,e= .returned (.tuple #[v',ev])∧KeysAt w' v' (valsZ (rowsS st.obs s key key).1)∧ToldE w' a ev (rowsS st.obs s key key).2∧Below W.heap.size W w' :=
 (sfindN_any K HV W v FP st s vf key hE hat ks hx hl hsh).mono fun _ _ h=>h.1
end
end Go.Proofs.YtdhkdjlgmbejnaaGreatDoor
