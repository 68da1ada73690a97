/- By an AI agent. -/
import Derived.Test.YtdhkdjlgmbejnaaGreatDoorScanRows
namespace Go.Proofs.YtdhkdjlgmbejnaaGreatDoor
open Go.RowKit Go.Extern.Stop Go.Stop Go.Extern Go.Sort Go.Shelf Go.Lib
theorem inP_all {lo hi:Int} {x:Fl} (h1:lo≤ -1073741824) (h2:1073741824≤hi) (hx:fileE x=0):inP lo hi x=true:=by
 obtain⟨g,n,hp,hq,hb⟩:=file_good hx
 unfold bndB at hb
 simp only[Bool.and_eq_true,decide_eq_true_eq,inNum]at hb
 unfold inP
 apply decide_eq_true
 split<;>split<;>omega
theorem addS_wide {obs:List Ob} {lo hi lo' hi':Int} (h1:lo≤ -1073741824) (h2:1073741824≤hi) (h1':lo'≤ -1073741824) (h2':1073741824≤hi') {x:Fl} (hx:(fileR obs x).1=0) (acc:List (Rw×Int)):addS lo hi x (fileR obs x).2 acc=addS lo' hi' x (fileR obs x).2 acc:=by
 obtain⟨g,m,hp,hpart,hfe,hk0,hk1,hk2,hk3⟩:=file_count hx
 by_cases hg:x.2.1.data.toList= [45]
 · rw[addS_gone hg,addS_gone hg]
 · rw[addS_data hg,addS_data hg]
   obtain rfl:g=false:=by
     cases g with
     | false=>rfl
     | true=>exact absurd (hpart.2 rfl) hg
   congr 2
   apply List.filter_congr
   intro r hr
   have:=hk3 r.2.1 (by simp only[keysF,Bool.false_eq_true,if_false];exact List.mem_map.2 ⟨r,hr,rfl⟩)
   unfold inB
   rw[decide_eq_true (by omega),decide_eq_true (by omega),decide_eq_true (by omega),decide_eq_true (by omega)]
theorem scan_wide {obs:List Ob} {lo hi lo' hi':Int} (h1:lo≤ -1073741824) (h2:1073741824≤hi) (h1':lo'≤ -1073741824) (h2':1073741824≤hi'):∀(fs:List Fl) (i:Nat) (acc:List (Rw×Int)),(∀x∈fs,fileE x=0)→scanG obs lo hi fs i acc=scanG obs lo' hi' fs i acc
 | [],_,_,_=>rfl
 | x :: r,i,acc,h=>by
   have hx:=h x List.mem_cons_self
   have hr:=fun y hy=>h y (List.mem_cons_of_mem _ hy)
   unfold scanG
   rw[inP_all h1 h2 hx,inP_all h1' h2' hx]
   simp only[Bool.true_eq_false,if_false]
   by_cases hb:(fileR obs x).1≠0
   · rw[if_pos hb,if_pos hb]
   · rw[if_neg hb,if_neg hb,addS_wide h1 h2 h1' h2' (by simpa using hb)]
     exact scan_wide h1 h2 h1' h2' r (i+1) _ hr
theorem rows_wide {obs:List Ob} {s:Sn} {lo hi lo' hi':Int} (h1:lo≤ -1073741824) (h2:1073741824≤hi) (h1':lo'≤ -1073741824) (h2':1073741824≤hi'):rowsS obs s lo hi=rowsS obs s lo' hi':=by
 unfold rowsS
 by_cases he:(snapE s).1≠0
 · rw[if_pos he,if_pos he]
 · rw[if_neg he,if_neg he,scan_wide h1 h2 h1' h2' _ 0 [] (fun x hx=>((snap_list (by simpa using he)).2.1 x hx).1)]
theorem rows_none {obs:List Ob} {s:Sn} {lo hi:Int} (h:(rowsS obs s lo hi).2.1≠0):(rowsS obs s lo hi).1= []:=by
 unfold rowsS at h ⊢
 split
 · rfl
 · rename_i h1
   rw[if_neg h1]at h
   split
   · rfl
   · rename_i h2
     rw[if_neg h2]at h
     exact absurd rfl h
theorem addS_len {obs:List Ob} {lo hi:Int} {x:Fl} (acc:List (Rw×Int)):(addS lo hi x (fileR obs x).2 acc).length≤acc.length+40:=by
 by_cases hg:x.2.1.data.toList= [45]
 · rw[addS_gone hg]
   exact Nat.le_trans (List.length_filter_le _ _) (by omega)
 · rw[addS_data hg,List.length_append,List.length_map]
   have h1:=(readG_le dataK rd_le (fileR obs x).2.data.toList).2
   have h2:=List.length_filter_le (inB lo hi) (dataO (fileR obs x).2.data.toList).1
   have h3:(dataO (fileR obs x).2.data.toList).1.length≤40:=h1
   omega
theorem scan_len {obs:List Ob} {lo hi:Int} :∀(fs:List Fl) (i:Nat) (acc:List (Rw×Int)),(scanG obs lo hi fs i acc).1.length≤acc.length+40*fs.length
 | [],_,_=>by simp[scanG]
 | x :: r,i,acc=>by
   unfold scanG
   rw[List.length_cons]
   by_cases hp:inP lo hi x=false
   · rw[if_pos hp]
     have:=scan_len (obs:=obs) (lo:=lo) (hi:=hi) r (i+1) acc
     omega
   · rw[if_neg hp]
     by_cases hb:(fileR obs x).1≠0
     · rw[if_pos hb];simp
     · rw[if_neg hb]
       have h1:=scan_len (obs:=obs) (lo:=lo) (hi:=hi) r (i+1) (addS lo hi x (fileR obs x).2 acc)
       have h2:=addS_len (obs:=obs) (lo:=lo) (hi:=hi) (x:=x) acc
       omega
theorem rows_len (obs:List Ob) (s:Sn) (lo hi:Int) (h:s.2.2.2.2.2.2.length≤100):(rowsS obs s lo hi).1.length≤4000:=by
 unfold rowsS
 split
 · simp
 · split
   · simp
   · dsimp only
     rw[sortR_len,List.length_map]
     have:=scan_len (obs:=obs) (lo:=lo) (hi:=hi) s.2.2.2.2.2.2 0 []
     simp only[List.length_nil]at this
     omega
section
variable {a : Nat → Addr} {B : Nat} {EM : World → Prop} {SAt : World → Value → (Nat → Prop) → St → Prop}
set_option maxRecDepth 100000 in
set_option maxHeartbeats 2000000 in
theorem srows0_any (HV:∀W,EM W→EnvF W a∧Hand W∧EnvL W a) (W:World) (s:Sn) (vf:Value) (lo hi:Int) (hE:EM W) (hx:FlsAt W vf s.2.2.2.2.2.2) :
   Calls Tryz.prog 10 #[.pointer none,snV s vf,.int .i64 lo,.int .i64 hi] W fun e w'=> ∃v',e= .returned (.tuple #[v',errV a 3])∧Below W.heap.size W w':=by
 have hal:Below W.heap.size W (W.alloc (.cells #[.int .i64 s.1,.int .i64 s.2.1,.int .i64 s.2.2.1,.int .i64 s.2.2.2.1,.int .i64 s.2.2.2.2.1,.string s.2.2.2.2.2.1,vf] 25)):=(Below.refl _ _).alloc (Nat.le_refl _) _
 have hsh:=below_keep hal (HV W hE).1.data.shape
 have hbd:=hal.drew
 have hsd:(W.alloc (.cells #[.int .i64 s.1,.int .i64 s.2.1,.int .i64 s.2.2.1,.int .i64 s.2.2.2.1,.int .i64 s.2.2.2.2.1,.string s.2.2.2.2.2.1,vf] 25)).drew.cell? ⟨0,0,none⟩=some (.iface 327 (.pointer (some (a 2)))):=hsh
 obtain⟨vq,vc,rfl⟩:=hx.form
 unfold snV
 clear hx HV hE
 obtain⟨id,par,seq,day,idx,op,fs⟩:=s
 dsimp only at *
 generalize fs.length=L at *
 go_enter Tryz.func10,Tryz.ntmps10
 go_upto_region 1 with fail
 generalize W.alloc (.cells #[.int .i64 id,.int .i64 par,.int .i64 seq,.int .i64 day,.int .i64 idx,.string op,.slice vq L vc] 25)=W1 at *
 go_wp2
 go_region
 all_goals go_wp2
 all_goals go_ret2
 all_goals exact⟨_,rfl,hbd⟩
set_option maxRecDepth 100000 in
set_option maxHeartbeats 2000000 in
theorem scount_any (K:StoreK a B EM SAt) (HV:∀W,EM W→EnvF W a∧Hand W∧EnvL W a) (W:World) (v:Value) (FP:Nat→Prop) (st:St) (s:Sn) (vf:Value) (hE:EM W) (hat:SAt W v FP st) (ks:Keeps st) (hx:FlsAt W vf s.2.2.2.2.2.2) (hl:s.2.2.2.2.2.2.length≤100) (hsh:Short s.2.2.2.2.2.2) :
   Calls Tryz.prog 13 #[v,snV s vf] W fun e w'=> ∃ev,e= .returned (.tuple #[.int .i64 (rowsS st.obs s (-1099511627776) 1099511627776).1.length,ev])∧ToldE w' a ev (rowsS st.obs s (-1099511627776) 1099511627776).2∧Below W.heap.size W w':=by
 obtain⟨pt,rfl⟩:=K.ptr _ _ _ _ hat
 have hal:Below W.heap.size W (W.alloc (.cells #[.int .i64 s.1,.int .i64 s.2.1,.int .i64 s.2.2.1,.int .i64 s.2.2.2.1,.int .i64 s.2.2.2.2.1,.string s.2.2.2.2.2.1,vf] 25)):=(Below.refl _ _).alloc (Nat.le_refl _) _
 have hrw:=srows_any K HV _ (.pointer (some pt)) FP st s vf (-1073741824) 1073741824 (K.below W _ hE (hal.mono (K.size W hE))) (K.keep _ _ _ _ (fun _=>False) _ hat (But.of_below hal) (fun _ _ h=>h)) ks (hx.below hal) hl hsh
 rw[rows_wide (by omega) (by omega) (show (-1099511627776:Int)≤ -1073741824 by omega) (show (1073741824:Int)≤1099511627776 by omega)]at hrw
 have HN:Hid ((rowsS st.obs s (-1099511627776) 1099511627776).2.1≠0→(rowsS st.obs s (-1099511627776) 1099511627776).1= []):=rows_none
 generalize rowsS st.obs s (-1099511627776) 1099511627776=R at hrw HN ⊢
 have hsn:=SnAt.new W s vf
 obtain⟨vq,vc,rfl⟩:=hx.form
 unfold snV at hrw ⊢
 clear hx HV hE K hat ks hsh
 obtain⟨id,par,seq,day,idx,op,fs⟩:=s
 dsimp only at *
 generalize fs.length=L at *
 go_enter Tryz.func13,Tryz.ntmps13
 go_upto_region 1 with fail
 generalize W.alloc (.cells #[.int .i64 id,.int .i64 par,.int .i64 seq,.int .i64 day,.int .i64 idx,.string op,.slice vq L vc] 25)=W1 at *
 obtain⟨z0,z1,z2,z3,z4,z5,z6⟩:=hsn.cells
 dsimp only at z0 z1 z2 z3 z4 z5 z6
 generalize W.heap.size=sb at z0 z1 z2 z3 z4 z5 z6 ⊢
 clear hsn
 go_wp2_with fail
 refine hrw.mono ?_
 rintro e w2 ⟨v2,ev,rfl,hr2,ht2,hb2⟩
 clear hrw z0 z1 z2 z3 z4 z5 z6
 obtain⟨q2,c2,rfl⟩:=hr2.form
 by_cases h0:R.2.1=0
 · obtain rfl:=ht2.ok h0
   have HT:Hid (ToldE w2 a .nilIface R.2):=ht2
   clear HN ht2 hr2 h0
   generalize hRL:R.1.length=RL at *
   have HRL:Hid (R.1.length=RL):=hRL
   clear hRL
   go_wp2
   go_ret2
   refine⟨_,by rw[HRL.out];rfl,HT.out,hal.trans (hb2.mono hal.size)⟩
 · obtain⟨t,u,rfl⟩:=ht2.bad h0
   have HT:Hid (ToldE w2 a (.iface t u) R.2∧R.1= []):=⟨ht2,HN.out h0⟩
   clear HN ht2 hr2 h0
   generalize R.1.length=RL at *
   go_wp2
   go_ret2
   refine⟨_,by rw[HT.out.2];rfl,HT.out.1,hal.trans (hb2.mono hal.size)⟩
set_option maxRecDepth 100000 in
set_option maxHeartbeats 4000000 in
theorem sfindN_any (K:StoreK a B EM SAt) (HV:∀W,EM W→EnvF W a∧Hand W∧EnvL W a) (W:World) (v:Value) (FP:Nat→Prop) (st:St) (s:Sn) (vf:Value) (key:Int) (hE:EM W) (hat:SAt W v FP st) (ks:Keeps st) (hx:FlsAt W vf s.2.2.2.2.2.2) (hl:s.2.2.2.2.2.2.length≤100) (hsh:Short s.2.2.2.2.2.2) :
   Calls Tryz.prog 19 #[v,snV s vf,.int .i64 key] W fun e w'=>(∃v' ev,e= .returned (.tuple #[v',ev])∧KeysAt w' v' (valsZ (rowsS st.obs s key key).1)∧ToldE w' a ev (rowsS st.obs s key key).2∧Below W.heap.size W w')∧NewE W e:=by
 obtain⟨pt,rfl⟩:=K.ptr _ _ _ _ hat
 have hal:Below W.heap.size W (W.alloc (.cells #[.int .i64 s.1,.int .i64 s.2.1,.int .i64 s.2.2.1,.int .i64 s.2.2.2.1,.int .i64 s.2.2.2.2.1,.string s.2.2.2.2.2.1,vf] 25)):=(Below.refl _ _).alloc (Nat.le_refl _) _
 have hrw:=srows_any K HV _ (.pointer (some pt)) FP st s vf key key (K.below W _ hE (hal.mono (K.size W hE))) (K.keep _ _ _ _ (fun _=>False) _ hat (But.of_below hal) (fun _ _ h=>h)) ks (hx.below hal) hl hsh
 have HN:Hid ((rowsS st.obs s key key).2.1≠0→(rowsS st.obs s key key).1= []):=rows_none
 have hln:=rows_len st.obs s key key hl
 generalize rowsS st.obs s key key=R at hrw HN hln ⊢
 have hsn:=SnAt.new W s vf
 obtain⟨vq,vc,rfl⟩:=hx.form
 unfold snV at hrw ⊢
 clear hx HV hE K hat ks hsh
 obtain⟨id,par,seq,day,idx,op,fs⟩:=s
 dsimp only at *
 generalize fs.length=L at *
 obtain⟨rs,rc⟩:=R
 dsimp only at *
 go_enter Tryz.func19,Tryz.ntmps19
 go_upto_region 1 with fail
 have HA:Hid (Below W.heap.size W (W.alloc (.cells #[.int .i64 id,.int .i64 par,.int .i64 seq,.int .i64 day,.int .i64 idx,.string op,.slice vq L vc] 25))):=hal
 clear hal
 generalize W.alloc (.cells #[.int .i64 id,.int .i64 par,.int .i64 seq,.int .i64 day,.int .i64 idx,.string op,.slice vq L vc] 25)=W1 at *
 obtain⟨z0,z1,z2,z3,z4,z5,z6⟩:=hsn.cells
 dsimp only at z0 z1 z2 z3 z4 z5 z6
 have HZ0:Hid (W1.cell? ⟨W.heap.size,0,none⟩=some (.int .i64 id)):=z0
 generalize W.heap.size=sb at z0 z1 z2 z3 z4 z5 z6 HZ0 ⊢
 clear hsn
 go_wp2_with fail
 refine hrw.mono ?_
 rintro e w2 ⟨v2,ev,rfl,hr2,ht2,hb2⟩
 clear hrw z0 z1 z2 z3 z4 z5 z6
 obtain⟨q2,c2,rfl⟩:=hr2.form
 by_cases h0:rc.1=0
 case neg =>
   obtain⟨t,u,rfl⟩:=ht2.bad h0
   have HT:Hid (ToldE w2 a (.iface t u) rc∧rs= []):=⟨ht2,HN.out h0⟩
   clear HN ht2 hr2 h0
   generalize rs.length=RL at *
   go_wp2
   go_ret2
   exact⟨⟨_,_,rfl,by rw[HT.out.2];exact Or.inl ⟨none,0,rfl,by simp[valsZ]⟩,HT.out.1,HA.out.trans (hb2.mono HA.out.size)⟩,newE_mk (newF_nil _)⟩
 obtain rfl:=ht2.ok h0
 have HT:Hid (∀X,ToldE X a .nilIface rc):=fun X=>by
   obtain⟨cn,o⟩:=rc
   dsimp only at h0
   subst h0
   cases o with
   | none=>rfl
   | some j=>exact absurd rfl ht2.1
 have HRS:Hid (RowsAt w2 (.slice q2 rs.length c2) rs):=hr2
 have HZ2:Hid (w2.cell? ⟨sb,0,none⟩=some (.int .i64 id)):=below_keep hb2 HZ0.out
 have HB2:Hid (Below W.heap.size W w2):=HA.out.trans (hb2.mono HA.out.size)
 clear ht2 h0 HN hr2 hb2 HA HZ0
 obtain⟨M,hM⟩:∃M,rs.length=M:=⟨_,rfl⟩
 have HM:Hid (rs.length=M):=hM
 rw[hM]at hln HRS ⊢
 clear hM
 have hmk:=fun W=>run_make_row' (P:=Tryz.prog) 50 3 (.int .i64 0) 8 Tryz.underlying50 Tryz.numsInfo rfl .i64 .i64 M (by omega) (by omega) W
 have hal3:Below w2.heap.size w2 (w2.alloc (.cells (madeCells #[.int .i64 0] M) 3)):=(Below.refl _ _).alloc (Nat.le_refl _) _
 have hblk:=heap_alloc_new w2 (.cells (madeCells #[.int .i64 0] M) 3)
 have hmd:∀j,j<M→(madeCells #[.int .i64 0] M)[j]? =some (.int .i64 0):=fun j hj=>made_get _ _ _ hj
 have MD:Hid (∀j,j<M→(madeCells #[.int .i64 0] M)[j]? =some (.int .i64 0)):=hmd
 have MS:Hid ((madeCells #[.int .i64 0] M).size=M):=by show _=_;simp[madeCells]
 clear hmd
 go_wp2
 go_loopw [29] (fun k wr=> ∃(n:Nat) (arr:Array Value),n≤M∧k= .int .i64 n∧Below w2.heap.size w2 wr∧wr.heap[w2.heap.size]? =some (.cells arr 3 (0,0))∧arr.size=M∧(∀j (h:j<rs.length),j<n→arr[j]? =some (.int .i64 rs[j].2.2))) (fun k _=>M-(intOf k).toNat)
 case atStart=>exact ⟨0,_,by omega,rfl,hal3,hblk,MS.out,fun j _ h=>absurd h (Nat.not_lt_zero _)⟩
 case round =>
   clear hal3 hblk hmk
   obtain⟨n,arr,hn,rfl,hb,hbk,has,hgo⟩:=hrel
   have HB:Hid (wr.heap[w2.heap.size]? =some (.cells arr 3 (0,0))∧arr.size=M):=⟨hbk,has⟩
   have HGO:Hid (∀j (h:j<rs.length),j<n→arr[j]? =some (.int .i64 rs[j].2.2)):=hgo
   clear hbk has hgo
   by_cases hlt:n<M
   · have hltx:n<rs.length:=by rw[HM.out];exact hlt
     rcases HRS.out.below hb with⟨_,_,e,e'⟩|⟨b,o,cap2,e,hcells⟩
     · exfalso;have:=HM.out;rw[e']at this;simp at this;omega
     injection e with e1 e2 e3
     subst e1
     clear e2 e3
     obtain⟨c1,c2',c3⟩:=hcells n hltx
     clear hcells
     have hi:(n:Int)<(M:Int):=by omega
     have hi0':(0:Int)≤(n:Int):=by omega
     have HNX:Hid (∀j (h:j<rs.length),j<n+1→(arr.setIfInBounds n (.int .i64 rs[n].2.2))[j]? =some (.int .i64 rs[j].2.2)):=fun j hj hjn=>by
       rw[Array.getElem?_setIfInBounds]
       by_cases e:n=j
       · subst e
         rw[if_pos rfl,if_pos (by rw[HB.out.2];exact hlt)]
       · rw[if_neg e]
         exact HGO.out j hj (by omega)
     generalize rs[n]=f at c1 c2' c3 HNX
     obtain⟨fp,fk,fv⟩:=f
     dsimp only at c1 c2' c3 HNX
     have hal:Below wr.heap.size wr (wr.alloc (.cells #[.string fp,.int .i64 fk,.int .i64 fv] 54)):=(Below.refl _ _).alloc (Nat.le_refl _) _
     have hbk3:(wr.alloc (.cells #[.string fp,.int .i64 fk,.int .i64 fv] 54)).heap[w2.heap.size]? =some (.cells arr 3 (0,0)):=(hal.block _ (lt_of_block HB.out.1)).trans HB.out.1
     have hu:arr[n]? =some arr[n]! :=by
       rw[getElem!_pos arr n (by rw[HB.out.2];exact hlt)]
       exact Array.getElem?_eq_getElem _
     generalize arr[n]! =u at hu
     have hcu:(wr.alloc (.cells #[.string fp,.int .i64 fk,.int .i64 fv] 54)).cell? ⟨w2.heap.size,n,none⟩=some u:=by rw[cell_of_row _ _ _ _ _ _ hbk3];exact hu
     have hfz:(wr.alloc (.cells #[.string fp,.int .i64 fk,.int .i64 fv] 54)).frozen? ⟨w2.heap.size,n,none⟩=false:=frozen_of_row _ _ _ _ _ hbk3
     have d2:(wr.alloc (.cells #[.string fp,.int .i64 fk,.int .i64 fv] 54)).cell? ⟨wr.heap.size,2,none⟩=some (.int .i64 fv):=by simp
     have HSET:Hid (((wr.alloc (.cells #[.string fp,.int .i64 fk,.int .i64 fv] 54)).setCell ⟨w2.heap.size,n,none⟩ (.int .i64 fv)).heap[w2.heap.size]? =some (.cells (arr.setIfInBounds n (.int .i64 fv)) 3 (0,0))):=heap_setCell_same _ w2.heap.size n arr 3 (.int .i64 fv) hbk3
     have HB4:Hid (Below w2.heap.size w2 ((wr.alloc (.cells #[.string fp,.int .i64 fk,.int .i64 fv] 54)).setCell ⟨w2.heap.size,n,none⟩ (.int .i64 fv))):=(hb.alloc hb.size _).setCell (Nat.le_refl _) _
     clear hbk3 hu hltx HGO
     go_upto_region 8 with fail
     generalize wr.alloc (.cells #[.string fp,.int .i64 fk,.int .i64 fv] 54)=w3 at *
     go_wp2
     go_roundw
     case rel=>exact ⟨n+1,_,by omega,by go_num,HB4.out,HSET.out,by rw[Array.size_setIfInBounds];exact HB.out.2,HNX.out⟩
     case measure=>simp [intOf];omega
   · obtain rfl:n=M:=by omega
     have hown:wr.ownsRow w2.heap.size 3 1 (.slice (some ⟨w2.heap.size,0,none⟩) n n) n ((rs.map fun r=>r.2.2).map (Value.int .i64)):=by
       refine⟨by rw[List.length_map,List.length_map,HM.out];omega,Or.inr ⟨w2.heap.size,n,arr,rfl,Nat.le_refl _,HB.out.1,Nat.le_refl _,by unfold maxLen;omega,by rw[HB.out.2];omega,?_⟩⟩
       rw[List.take_of_length_le (by rw[Array.length_toList,HB.out.2];omega)]
       apply List.ext_getElem?
       intro j
       rw[Array.getElem?_toList]
       by_cases hj:j<n
       · have hj':j<rs.length:=by rw[HM.out];exact hj
         rw[HGO.out j hj' hj,List.getElem?_map,List.getElem?_map,List.getElem?_eq_getElem hj']
         rfl
       · rw[Array.getElem?_eq_none (by rw[HB.out.2];omega),List.getElem?_eq_none (by rw[List.length_map,List.length_map,HM.out];omega)]
     have hlm:(rs.map fun r=>r.2.2).length=n:=by rw[List.length_map,HM.out]
     have hso:=sortInts_any (.slice (some ⟨w2.heap.size,0,none⟩) n n) (rs.map fun r=>r.2.2) w2.heap.size w2 wr hb (Nat.le_refl _) (by rw[hlm];exact hown) (by rw[hlm];omega) sb _ (below_keep hb HZ2.out) (by
       have:=cell_lt HZ2.out
       simp only[Value.ownBlock,ne_eq,Option.some.injEq]
       have h':sb<w2.heap.size:=this
       omega)
     have HVZ:Hid (sortZ (rs.map fun r=>r.2.2)=valsZ rs):=rfl
     rw[HVZ.out]at hso
     clear hown hlm HGO HB HRS
     go_wp2_with fail
     refine hso.mono ?_
     rintro e w5 ⟨rfl,hk5,hb5,-⟩
     have HEND:Hid (KeysAt w5 (.slice (some ⟨w2.heap.size,0,none⟩) n n) (valsZ rs)∧Below W.heap.size W w5):=⟨hk5,HB2.out.trans (hb5.mono HB2.out.size)⟩
     clear hso hk5 hb5
     go_wp2
     go_ret2
     exact⟨⟨_,_,rfl,HEND.out.1,HT.out _,HEND.out.2⟩,newE_mk fun k hk=>by
       have h1:=HB2.out.size
       have h2:w2.heap.size=k:=by simpa [Value.ownBlock] using hk
       omega⟩
theorem sfind_any (K:StoreK a B EM SAt) (HV:∀W,EM W→EnvF W a∧Hand W∧EnvL W a) (W:World) (v:Value) (FP:Nat→Prop) (st:St) (s:Sn) (vf:Value) (key:Int) (hE:EM W) (hat:SAt W v FP st) (ks:Keeps st) (hx:FlsAt W vf s.2.2.2.2.2.2) (hl:s.2.2.2.2.2.2.length≤100) (hsh:Short s.2.2.2.2.2.2) :
   Calls Tryz.prog 19 #[v,snV s vf,.int .i64 key] W fun e w'=> ∃v' ev,e= .returned (.tuple #[v',ev])∧KeysAt w' v' (valsZ (rowsS st.obs s key key).1)∧ToldE w' a ev (rowsS st.obs s key key).2∧Below W.heap.size W w' :=
 (sfindN_any K HV W v FP st s vf key hE hat ks hx hl hsh).mono fun _ _ h=>h.1
end
end Go.Proofs.YtdhkdjlgmbejnaaGreatDoor
namespace Go.Proofs.YtdhkdjlgmbejnaaGreatDoor
open Go Go.Lib Go.Sort
theorem put_fine {s:St} {n t:ByteArray} (hc:s.cut= -1) (ho:s.off=false) (hn:objB n.data.toList=true) (ht:t.size≤20000) (hx:∀o∈s.obs,o.1≠n) (hl:s.obs.length<200) (hb:bytesS s.obs+t.size≤262144) :
   putC s n t=0∧putS s n t= { s with obs:=insO s.obs (n,t,s.day) } :=by
 have hg:(getO s.obs n).isSome=false:=by
   cases h:getO s.obs n with
   | none=>rfl
   | some o=>exact absurd (getO_some h).2 (hx o (getO_some h).1)
 have hE:putE s n t=0:=by
   unfold putE
   rw[if_neg (by rw[hn];decide),if_neg (by omega),if_neg (by rw[ho];decide),if_neg (by rw[hg];decide),if_neg (by omega)]
 have hw:wrtS s t.size=(t.size,s):=by
   unfold wrtS
   rw[if_pos (by omega)]
 have ht':bytesOf (t.data.toList.take t.size)=t:=by
   rw[List.take_of_length_le (by rw[size_list];exact Nat.le_refl _),bytesOf_data]
 constructor
 · unfold putC
   rw[hE,hw]
   simp[ho]
 · unfold putS
   rw[hE,hw]
   simp only[ne_eq,not_true_eq_false,if_false]
   rw[ht']
theorem put_get {s:St} (K:Keeps s) {n t:ByteArray} (hx:∀o∈s.obs,o.1≠n):getT (insO s.obs (n,t,s.day)) n=(t,0)∧∀m,m≠n→getT (insO s.obs (n,t,s.day)) m=getT s.obs m:=by
 constructor
 · unfold getT
   rw[getO_ins (o:=(n,t,s.day)) K.rise hx]
 · intro m hm
   unfold getT
   rw[getO_other (o:=(n,t,s.day)) K.rise hx hm]
theorem bytesS_ins (l:List Ob) (o:Ob):bytesS (insO l o)=bytesS l+o.2.1.size:=by
 unfold bytesS insO
 have h:(l.map fun o=>o.2.1.size).sum=((l.takeWhile (fun p=>decide (p.1.data.toList<o.1.data.toList))).map fun o=>o.2.1.size).sum+((l.dropWhile (fun p=>decide (p.1.data.toList<o.1.data.toList))).map fun o=>o.2.1.size).sum:=by
   rw[←List.sum_append_nat,←List.map_append,List.takeWhile_append_dropWhile]
 rw[h,List.map_append,List.sum_append_nat,List.map_cons,List.sum_cons]
 omega
structure TabX (a:List Fl×St) (n:Nat):Prop where
 off:a.2.off=false
 names:∀o∈a.2.obs,∃f∈a.1,f.1=o.1
 many:a.2.obs.length≤n
 bytes:bytesS a.2.obs≤1400*n
theorem known_right {p:Pc} (h:(pcKnown p).2=0):fileE (pcKnown p).1=0∧(pcKnown p).1.1=p.1:=by
 refine⟨?_,(known_path h).1⟩
 unfold pcKnown at h ⊢
 unfold ofF at h ⊢
 split at h
 · cases h
 · split at h
   · rename_i hk
     unfold chkF at h ⊢
     rw[if_pos hk]
     split at h
     · rename_i he
       rw[if_pos he];exact he
     · rename_i he
       exact absurd h he
   · rename_i hk
     exact absurd h hk
theorem itoa_small {n:Int} (h1:1≤n) (h2:n≤1073741824):(itoa n).length≤11∧∀c∈itoa n,signB c=true:=by
 refine⟨itoa_len11 n (by omega) (by omega),fun c hc=>?_⟩
 unfold itoa at hc
 rw[if_neg (by omega)]at hc
 have:=digits_are _ _ hc
 unfold signB
 rw[decide_eq_true this.1,decide_eq_true this.2]
 simp
theorem path_obj {s:List UInt8} (h:pathO s≠none):objB s=true:=by
 cases hp:pathO s with
 | none=>exact absurd hp h
 | some q =>
   obtain⟨g,n⟩:=q
   obtain⟨e,_,hc⟩:=path_some hp
   unfold cntB at hc
   simp only[Bool.and_eq_true,decide_eq_true_eq]at hc
   obtain⟨l1,l3⟩:=itoa_small hc.1 hc.2
   have hk:(kindL g).length=4∧∀c∈kindL g,signB c=true:=by cases g<;>decide
   unfold objB
   rw[e]
   simp only[Bool.and_eq_true,decide_eq_true_eq,List.all_eq_true,List.length_append,List.length_cons]
   refine⟨⟨fun c hc'=>?_,by omega⟩,by omega⟩
   rw[List.mem_append,List.mem_cons]at hc'
   rcases hc' with hc' | rfl | hc'
   · exact hk.2 c hc'
   · decide
   · exact l3 c hc'
theorem stepX {a:List Fl×St} {n:Nat} (hT:TabOk a n) (h:TabX a n) {p:Pc} (hp:pcLong p=false) (hn:n≤15):TabX (stepT a p) (n+1):=by
 unfold stepT
 split
 · exact⟨h.off,h.names,Nat.le_succ_of_le h.many,Nat.le_trans h.bytes (by omega)⟩
 · rename_i hc
   obtain⟨h1,h2⟩:=not_or.1 hc
   have h1':(pcKnown p).2=0:=by simpa using h1
   obtain⟨hf,hpth⟩:=known_right h1'
   have hx:∀o∈a.2.obs,o.1≠p.1:=fun o ho e=>by
     obtain⟨f,hf',e'⟩:=h.names o ho
     apply h2
     obtain⟨j,hj,rfl⟩:=List.getElem_of_mem hf'
     rcases Int.lt_or_le (findF a.1 p.1) 0 with hl | hl
     · exfalso
       unfold findF at hl
       split at hl
       · omega
       · rename_i hnone
         rw[List.findIdx?_eq_none_iff]at hnone
         have:=hnone _ (List.getElem_mem hj)
         simp[e',e]at this
     · exact hl
   have hobj:objB p.1.data.toList=true:=by
     have:=path_obj (ok_path hf)
     rw[hpth]at this
     exact this
   have hsz:=pcPut_size hp
   have hm:=h.many
   have hb:=h.bytes
   obtain⟨-,e⟩:=put_fine (s:=a.2) (n:=p.1) (t:=pcPut p) hT.cut h.off hobj (by omega) hx (by omega) (by omega)
   rw[e]
   refine⟨h.off,fun o ho=>?_,?_,?_⟩
   · rw[insO_mem]at ho
     rcases ho with rfl | ho
     · exact⟨(pcKnown p).1,placeL_mem.2 (Or.inl rfl),hpth⟩
     · obtain⟨f,hf',e'⟩:=h.names o ho
       exact⟨f,placeL_mem.2 (Or.inr hf'),e'⟩
   · dsimp only
     rw[insO_len];omega
   · dsimp only
     rw[bytesS_ins]
     dsimp only
     omega
theorem tabX {l:List Pc} (hp:∀p∈l,pcLong p=false) (hl:l.length≤15):∀n,n≤l.length→TabX (tabT (l.take n)) n
 | 0,_=>⟨rfl,fun _ h=>(nomatch h),Nat.le_refl _,Nat.le_refl _⟩
 | n+1,h=>by
   rw[tabT_step l (Nat.lt_of_succ_le h)]
   exact stepX (tabT_ok hp n (Nat.le_of_succ_le h)) (tabX hp hl n (Nat.le_of_succ_le h)) (hp _ (List.getElem_mem _)) (by omega)
def dataC (obs:List Ob) (x:Fl):List (Rw×Int):=if x.2.1.data.toList≠ [45] then (dataO (fileR obs x).2.data.toList).1.map (fun r=>(r,x.2.2.2.2.2)) else []
def goneC (obs:List Ob) (x:Fl):List (Int×Int):=if x.2.1.data.toList≠ [45] then [] else (goneO (fileR obs x).2.data.toList).1.map fun k=>(k,x.2.2.2.2.2)
theorem readC_flat (obs:List Ob):∀(g:List Fl) (c:Ct),readC obs g c=(c.1++g.flatMap (dataC obs),c.2++g.flatMap (goneC obs))
 | [],c=>by simp[readC]
 | x :: r,c=>by
   have e:readC obs (x :: r) c=readC obs r (takeC x (fileR obs x).2 c):=rfl
   rw[e,readC_flat obs r,List.flatMap_cons,List.flatMap_cons]
   unfold dataC goneC
   by_cases hg:x.2.1.data.toList= [45]
   · rw[takeC_gone hg,if_neg (by simpa using hg),if_neg (by simpa using hg)]
     simp
   · rw[takeC_data hg,if_pos hg,if_pos hg]
     simp
theorem rows_left {obs:List Ob} {s:Sn} {lo hi:Int} (he:(snapE s).1=0) (h:∀x∈s.2.2.2.2.2.2.filter (inP lo hi),(fileR obs x).1=0):rowsS obs s lo hi=(sortR ((leftC lo hi (readC obs (s.2.2.2.2.2.2.filter (inP lo hi)) ([], []))).map (·.1)),0,none):=by
 have hr:=(snap_list he).2
 have hg:=scan_good s.2.2.2.2.2.2 0 [] h
 have hf:=fold_left (obs:=obs) (lo:=lo) (hi:=hi) (s.2.2.2.2.2.2.filter (inP lo hi)) ([], []) (ahead_filter (ahead_of hr) _) (Or.inl rfl) (fun x hx=>by
   have:=(file_seq (hr.1 x (List.mem_filter.1 hx).1).1).1
   omega)
 have e0:leftC lo hi ([], [])= []:=rfl
 rw[e0]at hf
 rw[hf]at hg
 unfold rowsS
 rw[if_neg (by simpa using he),hg]
 simp
theorem seq_le {seq:Int} :∀ {fs:List Fl} {i:Nat},(seqG seq fs i).1=0↔∀f∈fs,f.2.2.2.2.2≤seq
 | [],i=>by simp[seqG]
 | f :: r,i=>by
   unfold seqG
   split
   · rename_i h
     constructor
     · intro e;cases e
     · intro e;have:=e f List.mem_cons_self;omega
   · rename_i h
     rw[seq_le]
     constructor
     · intro e g hg
       rw[List.mem_cons]at hg
       rcases hg with rfl | hg
       · omega
       · exact e g hg
     · exact fun e g hg=>e g (List.mem_cons_of_mem _ hg)
theorem snap_fine {s:Sn} :(snapE s).1=0↔sbndB s=true∧opB s.2.2.2.2.2.1.data.toList=true∧(listE s.2.2.2.2.2.2).1=0∧∀f∈s.2.2.2.2.2.2,f.2.2.2.2.2≤s.2.2.1:=by
 unfold snapE
 constructor
 · intro h
   split at h
   · cases h
   · rename_i h1
     split at h
     · cases h
     · rename_i h2
       split at h
       · rename_i h3
         exact absurd h h3
       · rename_i h3
         exact⟨by simpa using h1,by simpa using h2,by simpa using h3,seq_le.1 h⟩
 · rintro⟨h1,h2,h3,h4⟩
   rw[if_neg (by rw[h1];decide),if_neg (by rw[h2];decide),if_neg (by simpa using h3)]
   exact seq_le.2 h4
abbrev g99:ByteArray:=⟨#[103,111,110,101,47,57,57]⟩
def f99 (zs:List Int) (q:Int):Fl:=(g99,⟨#[45]⟩,(riseZ zs).length,(endsZ (riseZ zs)).1,(endsZ (riseZ zs)).2,q)
theorem goneT_read {zs:List Int} (hz:∀z∈zs,inNum z=true) (hl:zs.length≤40):goneO (goneT zs).data.toList=(riseZ zs,0,none):=by
 unfold goneT
 rw[if_pos (by rw[List.all_eq_true];exact hz),bytes_data]
 exact fileG_read gone_fine (riseZ zs) (fun x hx=>hz x ((rise_mem zs x).1 hx)) (Nat.le_trans (rise_len zs) hl) (rise_good zs)
abbrev d1B:ByteArray:=⟨#[100,97,116,97,47,49]⟩
abbrev g2B:ByteArray:=⟨#[103,111,110,101,47,50]⟩
abbrev paB:ByteArray:=⟨#[97]⟩
abbrev pmB:ByteArray:=⟨#[45]⟩
abbrev opA:ByteArray:=⟨#[97,112,112,101,110,100]⟩
abbrev xs12:List Rw:= [(paB,1,5),(paB,2,6)]
abbrev x1F:Fl:=(d1B,paB,2,1,2,1)
abbrev y2F:Fl:=(g2B,pmB,1,2,2,2)
theorem itoa_1:itoa 1= [49]:=by
 unfold itoa
 rw[if_neg (by omega),decDigits,dif_pos (by decide)]
 rfl
theorem itoa_2:itoa 2= [50]:=by
 unfold itoa
 rw[if_neg (by omega),decDigits,dif_pos (by decide)]
 rfl
theorem d1_path:pathO d1B.data.toList=some (false,1):=by
 have h:=path_of false (itoa 1)
 rw[itoa_1]at h
 have e2:d1B.data.toList=kindL false++47 :: [49]:=rfl
 rw[e2,h]
 unfold pathN
 rw[←itoa_1,numO_of 1 (by omega) (by omega)]
 rfl
theorem g2_path:pathO g2B.data.toList=some (true,2):=by
 have h:=path_of true (itoa 2)
 rw[itoa_2]at h
 have e2:g2B.data.toList=kindL true++47 :: [50]:=rfl
 rw[e2,h]
 unfold pathN
 rw[←itoa_2,numO_of 2 (by omega) (by omega)]
 rfl
theorem x1_ok:fileE x1F=0:=by
 unfold fileE
 rw[d1_path]
 decide
theorem y2_ok:fileE y2F=0:=by
 unfold fileE
 rw[g2_path]
 decide
theorem xs12_ok:∀x∈xs12,rowE x=0:=by decide
theorem xs12_sorted:sortR xs12=xs12:=sortR_id (by decide)
theorem dataT_read {xs:List Rw} (hx:∀x∈xs,rowE x=0) (hl:xs.length≤40):dataO (dataT xs).data.toList=(sortR xs,0,none):=by
 unfold dataT
 rw[if_pos (by rw[List.all_eq_true];intro x h;exact decide_eq_true (hx x h)),bytes_data]
 refine file_read (sortR xs) (fun x h=>hx x ((sortR_perm xs).mem_iff.1 h)) (by rw[sortR_len];exact hl) ((sortR_sorted xs).imp fun h=>by simpa using h)
theorem rise_2:riseZ [2]= [2]:=rise_is (by decide) (fun x=>Iff.rfl)
theorem x1_of:ofF d1B paB (dataT xs12).data.toList 1=(x1F,0):=by
 rw[ofF_some d1_path]
 have hk:keysF false (dataT xs12).data.toList=([1,2],0):=by
   show (keysR (dataO (dataT xs12).data.toList).1,(dataO (dataT xs12).data.toList).2.1)=_
   rw[dataT_read xs12_ok (by decide),xs12_sorted]
   rfl
 rw[hk,if_pos rfl]
 unfold chkF
 exact if_pos x1_ok
theorem y2_of:ofF g2B pmB (goneT [2]).data.toList 2=(y2F,0):=by
 rw[ofF_some g2_path]
 have hk:keysF true (goneT [2]).data.toList=([2],0):=by
   show ((goneO (goneT [2]).data.toList).1,(goneO (goneT [2]).data.toList).2.1)=_
   rw[goneT_read (by decide) (by decide),rise_2]
 rw[hk,if_pos rfl]
 unfold chkF
 exact if_pos y2_ok
def st1S:St:= { newS with obs:= [(d1B,dataT xs12,0)] }
def st2S:St:= { newS with obs:=insO [(d1B,dataT xs12,0)] (g2B,goneT [2],0) }
theorem st1_is:putC newS d1B (dataT xs12)=0∧putS newS d1B (dataT xs12)=st1S:=by
 have hs:=dataT_size (xs:=xs12) (by decide)
 exact put_fine (s:=newS) rfl rfl (by decide) (by omega) (fun o ho=>by cases ho) (by decide) (by show 0+_≤_;omega)
theorem st1_keeps:Keeps st1S:=by
 have h:=putS_keeps newS_keeps d1B (dataT xs12)
 rw[st1_is.2]at h
 exact h
theorem st2_is:putC st1S g2B (goneT [2])=0∧putS st1S g2B (goneT [2])=st2S:=by
 have hs:=goneT_size (zs:= [2]) (by decide)
 have hs':=dataT_size (xs:=xs12) (by decide)
 refine put_fine (s:=st1S) rfl rfl (by decide) (by omega) (fun o ho=>?_) (by decide) ?_
 · have:o=(d1B,dataT xs12,0):=by simpa [st1S] using ho
   rw[this]
   decide
 · have:bytesS st1S.obs=(dataT xs12).size:=by simp[bytesS,st1S]
   rw[this]
   omega
theorem st2_keeps:Keeps st2S:=by
 have h:=putS_keeps st1_keeps g2B (goneT [2])
 rw[st2_is.2]at h
 exact h
abbrev s12:Sn:=(3,0,2,0,0,opA, [x1F,y2F])
theorem s12_ok:(snapE s12).1=0:=by
 refine snap_fine.2 ⟨by decide,by decide,?_,by decide⟩
 refine listE_ok.2 ⟨by decide,?_,?_⟩
 · intro f hf
   simp only[List.mem_cons,List.not_mem_nil,or_false]at hf
   rcases hf with rfl | rfl
   · exact⟨x1_ok,fk_pos x1_ok⟩
   · exact⟨y2_ok,fk_pos y2_ok⟩
 · refine List.Pairwise.cons ?_ (List.pairwise_singleton _ _)
   intro f hf
   simp only[List.mem_singleton]at hf
   subst hf
   have e1:=(pk_some d1_path).1
   have e2:=(pk_some g2_path).1
   show pk _<pk _
   rw[e1,e2]
   decide
theorem s12_rows:rowsS st2S.obs s12 0 9=([(paB,1,5)],0,none):=by
 have hne:∀o∈st1S.obs,o.1≠g2B:=fun o ho=>by
   have:o=(d1B,dataT xs12,0):=by simpa [st1S] using ho
   rw[this]
   decide
 obtain⟨g1,g2⟩:=put_get (s:=st1S) st1_keeps (n:=g2B) (t:=goneT [2]) hne
 have h2:getT st2S.obs g2B=(goneT [2],0):=g1
 have h1:getT st2S.obs d1B=(dataT xs12,0):=by
   have:getT st2S.obs d1B=getT st1S.obs d1B:=g2 d1B (by decide)
   rw[this]
   rfl
 have f1:fileR st2S.obs x1F=(0,dataT xs12):=by
   unfold fileR
   rw[h1]
   dsimp only
   rw[x1_of]
   simp
 have f2:fileR st2S.obs y2F=(0,goneT [2]):=by
   unfold fileR
   rw[h2]
   dsimp only
   rw[y2_of]
   simp
 have hf:s12.2.2.2.2.2.2.filter (inP 0 9)= [x1F,y2F]:=by
   rw[List.filter_eq_self]
   decide
 rw[rows_left s12_ok (by
   rw[hf]
   intro x hx
   simp only[List.mem_cons,List.not_mem_nil,or_false]at hx
   rcases hx with rfl | rfl
   · rw[f1]
   · rw[f2]),hf,readC_flat]
 have c1:dataC st2S.obs x1F= [((paB,1,5),1),((paB,2,6),1)]:=by
   unfold dataC
   rw[if_pos (by decide),f1,dataT_read xs12_ok (by decide),xs12_sorted]
   rfl
 have c2:dataC st2S.obs y2F= []:=by
   unfold dataC
   rw[if_neg (by decide)]
 have c3:goneC st2S.obs x1F= []:=by
   unfold goneC
   rw[if_pos (by decide)]
 have c4:goneC st2S.obs y2F= [(2,2)]:=by
   unfold goneC
   rw[if_neg (by decide),f2,goneT_read (by decide) (by decide),rise_2]
   rfl
 simp only[List.flatMap_cons,List.flatMap_nil,c1,c2,c3,c4,List.nil_append,List.append_nil]
 have e:leftC 0 9 ([((paB,1,5),1),((paB,2,6),1)], [(2,2)])= [((paB,1,5),1)]:=by decide
 rw[e]
 have e2:sortR [(paB,1,5)]= [(paB,1,5)]:=sortR_id (List.pairwise_singleton _ _)
 show (sortR [(paB,1,5)],0,none)=_
 rw[e2]
end Go.Proofs.YtdhkdjlgmbejnaaGreatDoor
