/- By an AI agent. -/
import Derived.Test.YtgckdomafbnmkaaGreatDoorRowSort
import Derived.Shelf.Abstract
import Derived.Test.YtgckdomafbnmkaaGreatDoorDataPure
import Derived.Lib.SlicesCompact
import Derived.Lib.Slices
namespace Go.Proofs.YtgckdomafbnmkaaGreatDoor
open Go.RowKit Go.Extern.Stop Go.Stop Go.Extern Go.Sort Go.Shelf Go.Lib
theorem allEq_dec:∀xs ys:List Rw,Lib.allEq (fun x y=>decide (x=y)) xs ys=decide (xs=ys)
 | [], []=>by simp[Lib.allEq]
 | [],_ :: _=>by simp[Lib.allEq]
 | _ :: _, []=>by simp[Lib.allEq]
 | x :: xs,y :: ys=>by
   have:=allEq_dec xs ys
   simp only[Lib.allEq,this]
   by_cases h:x=y<;>by_cases h':xs=ys<;>simp [h,h']
set_option maxHeartbeats 1000000 in
theorem equal_nil (p q:Option Addr) (n m c d:Nat) (w:World) (h0:n=0∨m=0) (hn:n≤20000) (hm:m≤20000) :
   Calls Tryz.prog 59 #[.slice p n c,.slice q m d] w fun e w'=>e= .returned (.bool (decide (n=m)))∧w'=w:=by
 by_cases e:n=m
 · obtain rfl:n=0:=by omega
   subst e
   go_enter Tryz.func59,Tryz.ntmps59
   go_wp2
   refine wp_loop_rounds 1 ?_
   rw[rounds_succ]
   go_wp2
   go_ret
   exact⟨rfl,rfl⟩
 · have e':((n:Int) == (m:Int))=false:=by simp;omega
   go_enter Tryz.func59,Tryz.ntmps59
   go_wp2
   go_ret
   exact⟨by simp[e],rfl⟩
theorem drewN_below (w:World) (q:Nat):Below w.heap.size w (w.drewN q):=⟨rfl,rfl,rfl,Nat.le_refl _,fun _ _=>rfl⟩
theorem cells_bang {w:World} {b o:Nat} {xs:List Rw} (h:RowCells w b o xs):∀j,j<xs.length→∀i v,(encR xs[j]!)[i]? =some v→w.cell? ⟨b,o+j*3+i,none⟩=some v:=by
 intro j hj i v hv
 rw[getElem!_pos xs j hj]at hv
 have hi:i<3:=by
   rcases Nat.lt_or_ge i (encR xs[j]).length with h' | h'
   · rwa [encR_len]at h'
   · rw[List.getElem?_eq_none h']at hv;cases hv
 have:=cells_of_flat h (j*3+i) v (by rw[flat_get xs j i hj hi];exact hv)
 rw[←Nat.add_assoc]at this
 exact this
theorem equal_any (v v':Value) (xs ys:List Rw) (w:World) (h:RowsAt w v xs) (h':RowsAt w v' ys) (hl:xs.length≤20000) (hl':ys.length≤20000) :
   Calls Tryz.prog 59 #[v,v'] w fun e w'=>e= .returned (.bool (decide (xs=ys)))∧Below w.heap.size w w':=by
 have nilL:∀zs:List Rw,decide (0=zs.length)=decide (([]:List Rw)=zs):=fun zs=>by cases zs<;>simp
 have nilR:∀zs:List Rw,decide (zs.length=0)=decide (zs=([]:List Rw)):=fun zs=>by cases zs<;>simp
 rcases h with⟨p,c,rfl,rfl⟩|⟨b,o,cap,rfl,hc⟩
 · rcases h' with⟨p',c',rfl,rfl⟩|⟨b',o',cap',rfl,hc'⟩
   · refine(equal_nil p p' 0 0 c c' w (Or.inl rfl) (by omega) (by omega)).mono fun e w' ⟨he,hw⟩=>⟨he,?_⟩
     subst hw;exact Below.refl _ _
   · refine(equal_nil p _ 0 ys.length c cap' w (Or.inl rfl) (by omega) hl').mono fun e w' ⟨he,hw⟩=>⟨by rw[he,nilL],?_⟩
     subst hw;exact Below.refl _ _
 · rcases h' with⟨p',c',rfl,rfl⟩|⟨b',o',cap',rfl,hc'⟩
   · refine(equal_nil _ p' xs.length 0 cap c' w (Or.inr rfl) hl (by omega)).mono fun e w' ⟨he,hw⟩=>⟨by rw[he,nilR],?_⟩
     subst hw;exact Below.refl _ _
   · have hcon:=AnyQ.slices_Equal Tryz.equalRow 3 Tryz.isAgg112 Tryz.sizeOf112 encR encR_len (fun x y=>decide (x=y)) neqRow b o xs.length cap b' o' ys.length cap' xs ys w (Nat.le_refl _) (Nat.le_refl _) (by omega) (by omega) (cells_bang hc) (cells_bang hc')
     change Calls Tryz.prog 59 _ _ _ at hcon
     rw[List.take_length,List.take_length,allEq_dec]at hcon
     refine hcon.mono fun e w' ⟨he,q,hw⟩=>⟨he,?_⟩
     subst hw;exact drewN_below w q
set_option maxHeartbeats 1000000 in
theorem same_any (v v':Value) (xs ys:List Rw) (w:World) (h:RowsAt w v xs) (h':RowsAt w v' ys) (hl:xs.length≤20000) (hl':ys.length≤20000) :
   Calls Tryz.prog 17 #[v,v'] w fun e w'=>e= .returned (.bool (decide (sortR xs=sortR ys)))∧Below w.heap.size w w':=by
 have hs:=sort_any v xs w h hl
 generalize hr:decide (sortR xs=sortR ys)=r
 have HR:Hid (decide (sortR xs=sortR ys)=r):=hr
 clear hr
 go_enter Tryz.func17,Tryz.ntmps17
 go_wp2_with fail
 refine hs.mono ?_
 rintro e w1 ⟨v1,rfl,hr1,hb1⟩
 have hs2:=sort_any v' ys w1 (h'.below hb1) hl'
 clear hs
 go_wp2_with fail
 refine hs2.mono ?_
 rintro e w2 ⟨v2,rfl,hr2,hb2⟩
 have he:=equal_any v1 v2 (sortR xs) (sortR ys) w2 (hr1.below hb2) hr2 (by rw[sortR_len];exact hl) (by rw[sortR_len];exact hl')
 rw[HR.out]at he
 clear hs2
 go_wp2_with fail
 refine he.mono ?_
 rintro e w3 ⟨rfl,hb3⟩
 have hB:Below w.heap.size w w3:=(hb1.trans (hb2.mono hb1.size)).trans (hb3.mono (Nat.le_trans hb1.size hb2.size))
 clear he
 go_wp2
 go_ret
 exact⟨rfl,hB⟩
set_option maxHeartbeats 1000000 in
theorem less_any (x y:Rw) (w:World) :
   Calls Tryz.prog 196 #[.agg #[.string x.1,.int .i64 x.2.1,.int .i64 x.2.2],.agg #[.string y.1,.int .i64 y.2.1,.int .i64 y.2.2]] w fun e w'=>e= .returned (.bool (ltOf cfR x y))∧Below w.heap.size w w':=by
 have ho:=order_any x y
 unfold ltOf
 generalize cfR x y=r at ho ⊢
 obtain⟨xp,xk,xv⟩:=x
 obtain⟨yp,yk,yv⟩:=y
 dsimp only at ho ⊢
 have hb0:Below w.heap.size w ((w.alloc (.cells #[.string xp,.int .i64 xk,.int .i64 xv] 112)).alloc (.cells #[.string yp,.int .i64 yk,.int .i64 yv] 112)):=((Below.refl _ _).alloc (Nat.le_refl _) _).alloc (by simp) _
 go_enter Tryz.func196,Tryz.ntmps196
 go_wp2_with (go_at_call 106;refine(ho _).mono ?_;rintro e w1 ⟨rfl,q,os,hw⟩)
 go_ret
 refine⟨rfl,?_⟩
 exact(below_drewN hb0 q).trans ((below_grow os).mono (below_drewN hb0 q).size)
theorem own_below {w w':World} {base:Nat} {e:TypeId} {size:Nat} {v:Value} {n:Nat} {xs:List Value} (h:w.ownsRow base e size v n xs) (hb:Below w.heap.size w w'):w'.ownsRow base e size v n xs:=by
 obtain⟨h1,h2⟩:=h
 refine⟨h1,?_⟩
 rcases h2 with h2 | ⟨g,cap,cur,hv,hg,hc,r⟩
 · exact Or.inl h2
 · refine Or.inr ⟨g,cap,cur,hv,hg,?_,r⟩
   have hlt:g<w.heap.size:=by
     rcases Nat.lt_or_ge g w.heap.size with h' | h'
     · exact h'
     · rw[Array.getElem?_eq_none h']at hc;cases hc
   rw[hb.block g hlt];exact hc
theorem flat_single (x:Rw):flatR [x]=encR x:=by simp[flatR]
theorem filter_snoc (p:Rw→Bool) (xs:List Rw) (n:Nat) (h:n<xs.length):(xs.take (n+1)).filter p=(xs.take n).filter p++if p xs[n] then [xs[n]] else []:=by
 rw[List.take_succ_eq_append_getElem h,List.filter_append]
 cases hp:p xs[n]<;>simp [hp]
def Tells (g:Nat) (cb:Array Value) (p:Rw→Bool) (w:World):Prop :=
 ∀(x:Rw) (W:World),Below w.heap.size w W→Calls Tryz.prog g (#[.agg #[.string x.1,.int .i64 x.2.1,.int .i64 x.2.2]]++cb) W fun e w'=>e= .returned (.bool (p x))∧Below W.heap.size W w'
set_option maxHeartbeats 2000000 in
theorem cut_list (b o cap:Nat) (xs:List Rw) (g:Nat) (cb:Array Value) (p:Rw→Bool) (w:World) (eg:∀args w,(callFunc g args).run Tryz.prog w= .ok (.enter g args) w) (hx:RowCells w b o xs) (hl:xs.length≤20000) (hp:Tells g cb p w) :
   Calls Tryz.prog 107 #[.slice (some ⟨b,o,none⟩) xs.length cap,.func (.func g) #[] cb] w fun e w'=> ∃v',e= .returned v'∧w'.ownsRow w.heap.size 112 3 v' (xs.filter p).length (flatR (xs.filter p))∧Below w.heap.size w w':=by
 obtain⟨i0,hi0,hz0,hs0,hby0⟩:=Tryz.rowInfo
 generalize hL:xs.length=L at hl ⊢
 have HX:Hid (xs.length=L):=hL
 clear hL
 go_enter Tryz.func107,Tryz.ntmps107
 go_wp2
 go_loopw [5,10] (fun kept k wr=> ∃n:Nat,n≤L∧k= .int .i64 n∧Below w.heap.size w wr∧wr.ownsRow w.heap.size 112 3 kept ((xs.take n).filter p).length (flatR ((xs.take n).filter p))) (fun _ k _=>L-(intOf k).toNat)
 case atStart=>exact ⟨0,by omega,rfl,Below.refl _ _,by simp[flatR];exact World.ownsRow_nil _ _ _ _⟩
 case round =>
   obtain⟨n,hn,rfl,hb,hown⟩:=hrel
   by_cases hlt:n<L
   · have hltx:n<xs.length:=by rw[HX.out];exact hlt
     obtain⟨h1,h2,h3⟩:=hx.below hb n hltx
     have hi:(n:Int)<(L:Int):=by omega
     have hf:=filter_snoc p xs n hltx
     generalize hxx:xs[n]=x at h1 h2 h3 hf
     have HF:Hid ((xs.take (n+1)).filter p=(xs.take n).filter p++if p x then [x] else []):=hf
     clear hf hxx
     obtain⟨xp,xk,xv⟩:=x
     have hbA:Below w.heap.size w (wr.alloc (.cells #[.string xp,.int .i64 xk,.int .i64 xv] 112)):=hb.alloc hb.size _
     have hpx:=hp (xp,xk,xv) _ hbA
     have OW:Hid (wr.ownsRow w.heap.size 112 3 u5 ((xs.take n).filter p).length (flatR ((xs.take n).filter p))):=hown
     have hlen:((xs.take n).filter p).length≤n:=Nat.le_trans (List.length_filter_le _ _) (List.length_take_le _ _)
     have LEN:Hid (((xs.take n).filter p).length≤n):=hlen
     have c0:(wr.alloc (.cells #[.string xp,.int .i64 xk,.int .i64 xv] 112)).cell? ⟨wr.heap.size,0,none⟩=some (.string xp):=by simp
     have c1:(wr.alloc (.cells #[.string xp,.int .i64 xk,.int .i64 xv] 112)).cell? ⟨wr.heap.size,1,none⟩=some (.int .i64 xk):=by simp
     have c2:(wr.alloc (.cells #[.string xp,.int .i64 xk,.int .i64 xv] 112)).cell? ⟨wr.heap.size,2,none⟩=some (.int .i64 xv):=by simp
     have hal:Below wr.heap.size wr (wr.alloc (.cells #[.string xp,.int .i64 xk,.int .i64 xv] 112)):=(Below.refl _ _).alloc (Nat.le_refl _) _
     clear hown hlen hx
     cases hpv:p (xp,xk,xv)
     · rw[hpv]at hpx
       have HF':Hid ((xs.take (n+1)).filter p=(xs.take n).filter p):=by
         have:=HF.out
         rw[hpv]at this
         simpa [Hid] using this
       clear hpv
       go_wp2_with (go_at_fn g;refine hpx.mono ?_;rintro e w2 ⟨rfl,hb2⟩)
       have hbB:Below w.heap.size w w2:=hbA.trans (hb2.mono hbA.size)
       have hbW:Below wr.heap.size wr w2:=hal.trans (hb2.mono hal.size)
       go_roundw
       case rel=>exact ⟨n+1,by omega,by go_num,hbB,by rw[HF'.out];exact own_below OW.out hbW⟩
       case measure=>simp [intOf];omega
     · rw[hpv]at hpx
       have HF':Hid ((xs.take (n+1)).filter p=(xs.take n).filter p++ [(xp,xk,xv)]):=by
         have:=HF.out
         rw[hpv]at this
         simpa [Hid] using this
       clear hpv
       generalize hK:(xs.take n).filter p=K at OW LEN HF'
       clear hK
       go_wp2_with (first
         | (go_at_fn g;refine hpx.mono ?_;rintro e w2 ⟨rfl,hb2⟩;have d0:=below_keep hb2 c0;have d1:=below_keep hb2 c1;have d2:=below_keep hb2 c2)
         | (at_builtin;refine wpList_append_own _ rfl _ _ 44 rfl w.heap.size 112 i0 (.agg #[.string ⟨#[]⟩,.int .i64 0,.int .i64 0]) 3 32 Tryz.underlying44 hi0 hz0 hs0 hby0 rfl (by decide) u5 K.length (flatR K) rfl ?qc0 ⟨w2.heap.size,0,none⟩ 1 1 (encR (xp,xk,xv)) rfl ?qc1 ?qc2 ?qc3 ?qc4 ?qc5 ?qc6 ?_))
       case qc0=>exact own_below OW.out ((hal.trans (hb2.mono hal.size)).alloc (Nat.le_trans hal.size hb2.size) _)
       case qc1=>rfl
       case qc2 =>
         intro j u hj
         rw[Addr.add_lit,Nat.zero_add]
         match j,hj with
         | 0,hj=>simp [encR]at hj;subst hj;simp
         | 1,hj=>simp [encR]at hj;subst hj;simp
         | 2,hj=>simp [encR]at hj;subst hj;simp
         | j+3,hj=>simp [encR]at hj
       case qc3=>exact encR_one _
       case qc4=>have:=LEN.out;unfold maxLen;omega
       case qc5=>have:=LEN.out;omega
       case qc6=>exact Nat.le_trans hbA.size (Nat.le_trans hb2.size (by simp))
       intro v' w4 hown4 hgrow hnil
       have hbB:Below w.heap.size w (w2.alloc (.cells #[.string xp,.int .i64 xk,.int .i64 xv] 112)):=(hbA.trans (hb2.mono hbA.size)).alloc (Nat.le_trans hbA.size hb2.size) _
       have hbC:Below w.heap.size w w4:=hbB.grown hgrow hbB.size (fun k hk=>by
         rcases OW.out.2 with⟨e,_⟩|⟨g',cap',cur,e,hg',_⟩
         · rw[e]at hk;simp[Value.ownBlock]at hk
         · rw[e]at hk;simp[Value.ownBlock]at hk;omega)
       have OW4:Hid (w4.ownsRow w.heap.size 112 3 v' (K.length+1) (flatR K++encR (xp,xk,xv))):=hown4
       clear hown4 hnil hgrow
       go_wp2
       go_roundw
       case rel=>exact ⟨n+1,by omega,by go_num,hbC,by rw[HF'.out,List.length_append,flat_append,flat_single];exact OW4.out⟩
       case measure=>simp [intOf];omega
   · have hn':n=L:=by omega
     subst hn'
     have ht:xs.take n=xs:=List.take_of_length_le (by rw[HX.out];omega)
     rw[ht]at hown
     have OW:Hid (wr.ownsRow w.heap.size 112 3 u5 (xs.filter p).length (flatR (xs.filter p))):=hown
     clear hown ht
     go_wp2
     go_ret
     exact⟨u5,rfl,OW.out,hb⟩
set_option maxHeartbeats 1000000 in
theorem cut_own (v:Value) (xs:List Rw) (g:Nat) (cb:Array Value) (p:Rw→Bool) (w:World) (eg:∀args w,(callFunc g args).run Tryz.prog w= .ok (.enter g args) w) (hx:RowsAt w v xs) (hl:xs.length≤20000) (hp:Tells g cb p w) :
   Calls Tryz.prog 107 #[v,.func (.func g) #[] cb] w fun e w'=> ∃v',e= .returned v'∧w'.ownsRow w.heap.size 112 3 v' (xs.filter p).length (flatR (xs.filter p))∧Below w.heap.size w w':=by
 rcases hx with⟨p0,c0,rfl,rfl⟩|⟨b,o,cap,rfl,hc⟩
 · clear hp hl
   go_enter Tryz.func107,Tryz.ntmps107
   go_wp2
   refine wp_loop_rounds 1 ?_
   rw[rounds_succ]
   go_wp2
   go_ret
   exact⟨_,rfl,World.ownsRow_nil _ _ _ _,Below.refl _ _⟩
 · exact cut_list b o cap xs g cb p w eg hc hl hp
def inB (lo hi:Int) (x:Rw):Bool:=decide (lo≤x.2.1) && decide (x.2.1≤hi)
set_option maxHeartbeats 1000000 in
theorem within1_any (x:Rw) (lo hi:Int) (a c:Addr) (w:World) (ha:w.cell? a=some (.int .i64 lo)) (hc:w.cell? c=some (.int .i64 hi)) :
   Calls Tryz.prog 108 #[.agg #[.string x.1,.int .i64 x.2.1,.int .i64 x.2.2],.pointer (some a),.pointer (some c)] w fun e w'=>e= .returned (.bool (inB lo hi x))∧Below w.heap.size w w':=by
 obtain⟨xp,xk,xv⟩:=x
 dsimp only
 have ha':(w.alloc (.cells #[.string xp,.int .i64 xk,.int .i64 xv] 112)).cell? a=some (.int .i64 lo):=below_keep ((Below.refl _ _).alloc (Nat.le_refl _) _) ha
 have hc':(w.alloc (.cells #[.string xp,.int .i64 xk,.int .i64 xv] 112)).cell? c=some (.int .i64 hi):=below_keep ((Below.refl _ _).alloc (Nat.le_refl _) _) hc
 by_cases h1:lo≤xk
 · by_cases h2:xk≤hi
   · have hr:inB lo hi (xp,xk,xv)=true:=by simp[inB,h1,h2]
     rw[hr]
     go_enter Tryz.func108,Tryz.ntmps108
     go_wp2
     go_ret
     exact⟨rfl,(Below.refl _ _).alloc (Nat.le_refl _) _⟩
   · have hr:inB lo hi (xp,xk,xv)=false:=by simp[inB,h2]
     rw[hr]
     go_enter Tryz.func108,Tryz.ntmps108
     go_wp2
     go_ret
     exact⟨rfl,(Below.refl _ _).alloc (Nat.le_refl _) _⟩
 · have hr:inB lo hi (xp,xk,xv)=false:=by simp[inB,h1]
   rw[hr]
   go_enter Tryz.func108,Tryz.ntmps108
   go_wp2
   go_ret
   exact⟨rfl,(Below.refl _ _).alloc (Nat.le_refl _) _⟩
set_option maxHeartbeats 1000000 in
theorem within_own (v:Value) (xs:List Rw) (lo hi:Int) (w:World) (hx:RowsAt w v xs) (hl:xs.length≤20000) :
   Calls Tryz.prog 51 #[v,.int .i64 lo,.int .i64 hi] w fun e w'=> ∃v',e= .returned v'∧(∃B,B≥w.heap.size∧w'.ownsRow B 112 3 v' (xs.filter (inB lo hi)).length (flatR (xs.filter (inB lo hi))))∧Below w.heap.size w w':=by
 have hb:Below w.heap.size w ((w.alloc (.cells #[.int .i64 lo] 3)).alloc (.cells #[.int .i64 hi] 3)):=((Below.refl _ _).alloc (Nat.le_refl _) _).alloc (by simp) _
 have eg:∀args w,(callFunc 108 args).run Tryz.prog w= .ok (.enter 108 args) w:=enters_of Tryz.func108 (by kernel_rfl) rfl
 have hcut:=cut_own v xs 108 #[.pointer (some ⟨w.heap.size,0,none⟩),.pointer (some ⟨w.heap.size+1,0,none⟩)] (inB lo hi) _ eg (hx.below hb) hl
   (fun x W hW=>within1_any x lo hi ⟨w.heap.size,0,none⟩ ⟨w.heap.size+1,0,none⟩ W (below_keep hW (by simp)) (below_keep hW (by simp)))
 clear hx eg
 go_enter Tryz.func51,Tryz.ntmps51
 go_wp2_with (go_at_call 107;refine hcut.mono ?_;rintro e w2 ⟨v2,rfl,hr,hb2⟩)
 go_ret
 exact⟨_,rfl,⟨_,hb.size,hr⟩,hb.trans (hb2.mono hb.size)⟩
theorem within_any (v:Value) (xs:List Rw) (lo hi:Int) (w:World) (hx:RowsAt w v xs) (hl:xs.length≤20000) :
   Calls Tryz.prog 51 #[v,.int .i64 lo,.int .i64 hi] w fun e w'=> ∃v',e= .returned v'∧RowsAt w' v' (xs.filter (inB lo hi))∧Below w.heap.size w w' :=
 (within_own v xs lo hi w hx hl).mono fun _ _ ⟨v',he,⟨_,_,ho⟩,hb⟩=>⟨v',he,(rowsAt_of_own ho).1,hb⟩
def KeysAt (w:World) (v:Value) (zs:List Int):Prop :=
 (∃p c,v= .slice p 0 c∧zs= [])∨∃b o cap,v= .slice (some ⟨b,o,none⟩) zs.length cap∧∀j (h:j<zs.length),w.cell? ⟨b,o+j,none⟩=some (.int .i64 zs[j])
theorem KeysAt.below {w w':World} {v:Value} {zs:List Int} (h:KeysAt w v zs) (hb:Below w.heap.size w w'):KeysAt w' v zs:=by
 rcases h with h | ⟨b,o,cap,hv,hc⟩
 · exact Or.inl h
 · exact Or.inr ⟨b,o,cap,hv,fun j hj=>below_keep hb (hc j hj)⟩
def sortZ (zs:List Int):List Int:=zs.mergeSort fun x y=>decide (x≤y)
theorem sortZ_len (zs:List Int):(sortZ zs).length=zs.length:=by simp[sortZ]
theorem sortZ_mem (zs:List Int) (x:Int):x∈sortZ zs↔x∈zs:=(List.mergeSort_perm _ _).mem_iff
theorem sortZ_sorted (zs:List Int):(sortZ zs).Pairwise (· ≤ ·):=by
 have h:=List.pairwise_mergeSort (le:=fun x y:Int=>decide (x≤y)) (fun a b c h1 h2=>by simp at *;omega) (fun a b=>by simp;omega) zs
 exact h.imp fun h=>by simpa using h
def riseZ (zs:List Int):List Int:=Lib.compact (sortZ zs)
theorem compact_up (d:Array Int) (hs:∀i j,i≤j→j<d.size→d[i]! ≤d[j]!):∀m,m≤d.size→(compactUpTo d m).Pairwise (· < ·)∧(∀x,x∈compactUpTo d m↔∃j,j<m∧d[j]! =x)∧∀x∈compactUpTo d m,∀j,m≤j+1→j<d.size→x≤d[j]! :=by
 intro m
 induction m with
 | zero=>intro _;exact⟨by simp[compactUpTo],by simp[compactUpTo],by simp[compactUpTo]⟩
 | succ m ih =>
   intro hm
   obtain⟨h1,h2,h3⟩:=ih (by omega)
   rw[compactUpTo_succ]
   cases hk:keeps d m with
   | true =>
     simp only[if_true]
     have hlt:∀x∈compactUpTo d m,x<d[m]! :=by
       intro x hx
       have hm0:m≠0:=by
         intro e;subst e
         obtain⟨j,hj,_⟩:=(h2 x).1 hx
         omega
       simp only[keeps,decide_eq_true_eq]at hk
       rcases hk with hk | hk
       · exact absurd hk hm0
       · have a1:=h3 x hx (m-1) (by omega) (by omega)
         have a2:=hs (m-1) m (by omega) (by omega)
         omega
     refine⟨List.pairwise_append.2 ⟨h1,List.pairwise_singleton _ _,fun x hx y hy=>by rw[List.mem_singleton.1 hy];exact hlt x hx⟩,fun x=>?_,fun x hx j hj1 hj2=>?_⟩
     · rw [List.mem_append,List.mem_singleton,h2]
       constructor
       · rintro(⟨j,hj,e⟩ | e)
         · exact⟨j,by omega,e⟩
         · exact⟨m,by omega,e.symm⟩
       · rintro⟨j,hj,e⟩
         rcases Nat.lt_or_ge j m with h | h
         · exact Or.inl ⟨j,h,e⟩
         · have:j=m:=by omega
           subst this;exact Or.inr e.symm
     · rw[List.mem_append,List.mem_singleton]at hx
       have hmj:=hs m j (by omega) hj2
       rcases hx with hx | hx
       · have:=hlt x hx;omega
       · omega
   | false =>
     simp only[Bool.false_eq_true,if_false,List.append_nil]
     simp only[keeps,decide_eq_false_iff_not,not_or,ne_eq,Classical.not_not]at hk
     refine⟨h1,fun x=>?_,fun x hx j hj1 hj2=>h3 x hx j (by omega) hj2⟩
     rw[h2]
     constructor
     · rintro⟨j,hj,e⟩;exact⟨j,by omega,e⟩
     · rintro⟨j,hj,e⟩
       rcases Nat.lt_or_ge j m with h | h
       · exact⟨j,h,e⟩
       · have:j=m:=by omega
         subst this
         exact⟨j-1,by omega,by rw[←e,hk.2]⟩
theorem sortZ_get (zs:List Int) (i j:Nat) (hij:i≤j) (hj:j<(sortZ zs).toArray.size):(sortZ zs).toArray[i]! ≤(sortZ zs).toArray[j]! :=by
 have hj':j<(sortZ zs).length:=by simpa using hj
 rw[getElem!_pos _ i (by omega),getElem!_pos _ j hj]
 simp only[List.getElem_toArray]
 rcases Nat.lt_or_eq_of_le hij with h | h
 · exact List.pairwise_iff_getElem.1 (sortZ_sorted zs) i j (by omega) hj' h
 · subst h;exact Int.le_refl _
theorem rise_sorted (zs:List Int):(riseZ zs).Pairwise (· < ·):=by
 have h:=compact_up (sortZ zs).toArray (sortZ_get zs) (sortZ zs).length (by simp)
 exact h.1
theorem rise_mem (zs:List Int) (x:Int):x∈riseZ zs↔x∈zs:=by
 have h:=(compact_up (sortZ zs).toArray (sortZ_get zs) (sortZ zs).length (by simp)).2.1 x
 show x∈compactUpTo (sortZ zs).toArray (sortZ zs).length↔_
 rw[h,←sortZ_mem zs x]
 constructor
 · rintro⟨j,hj,e⟩
   rw[getElem!_pos _ j (by simpa using hj)]at e
   rw[←e]
   simp only[List.getElem_toArray]
   exact List.getElem_mem _
 · intro hx
   obtain⟨j,hj,e⟩:=List.mem_iff_getElem.1 hx
   exact⟨j,hj,by rw[getElem!_pos _ j (by simpa using hj)];simpa using e⟩
theorem rise_unique:∀xs ys:List Int,xs.Pairwise (· < ·)→ys.Pairwise (· < ·)→(∀x,x∈xs↔x∈ys)→xs=ys
 | [], [],_,_,_=>rfl
 | [],y :: ys,_,_,h=>absurd ((h y).2 List.mem_cons_self) (by simp)
 | x :: xs, [],_,_,h=>absurd ((h x).1 List.mem_cons_self) (by simp)
 | x :: xs,y :: ys,hx,hy,h=>by
   obtain⟨hx1,hx2⟩:=List.pairwise_cons.1 hx
   obtain⟨hy1,hy2⟩:=List.pairwise_cons.1 hy
   have e:x=y:=by
     have a:=(h x).1 List.mem_cons_self
     have b:=(h y).2 List.mem_cons_self
     rcases List.mem_cons.1 a with a | a
     · exact a
     · rcases List.mem_cons.1 b with b | b
       · exact b.symm
       · have:=hx1 y b;have:=hy1 x a;omega
   subst e
   rw[rise_unique xs ys hx2 hy2 fun z=>⟨fun hz=>by
     rcases List.mem_cons.1 ((h z).1 (List.mem_cons_of_mem _ hz)) with q | q
     · have:=hx1 z hz;omega
     · exact q,fun hz=>by
     rcases List.mem_cons.1 ((h z).2 (List.mem_cons_of_mem _ hz)) with q | q
     · have:=hy1 z hz;omega
     · exact q⟩]
theorem rise_is {xs zs:List Int} (h:xs.Pairwise (· < ·)) (hm:∀x,x∈xs↔x∈zs):riseZ zs=xs :=
 rise_unique _ _ (rise_sorted zs) h fun x=>(rise_mem zs x).trans (hm x).symm
theorem rise_len (zs:List Int):(riseZ zs).length≤zs.length:=by
 have h:(riseZ zs).length≤(sortZ zs).length:=by
   unfold riseZ Lib.compact compactUpTo
   rw[List.length_map]
   refine Nat.le_trans (List.length_filter_le _ _) ?_
   simp
 rw[sortZ_len]at h
 exact h
theorem rise_nil:riseZ []= []:=rise_is List.Pairwise.nil (fun _=>Iff.rfl)
abbrev goneO (s:List UInt8):List Int×Nat×Option Nat:=readG goneK s
abbrev goneF (zs:List Int):List UInt8:=fileG goneK zs
end Go.Proofs.YtgckdomafbnmkaaGreatDoor
namespace Go.Proofs.YtgckdomafbnmkaaGreatDoor
open Go Go.Lib
abbrev Fl:=ByteArray×ByteArray×Int×Int×Int×Int
def cntB (n:Int):Bool:=decide (1≤n) && decide (n≤1073741824)
def kindL (g:Bool):List UInt8:=if g then kGone else kData
def pathN (s:List UInt8):Option Int:=match numO s with
 | some n=>if cntB n then some n else none
 | none=>none
def pathO (s:List UInt8):Option (Bool×Int) :=
 if s.take 5=kData++ [47] then (pathN (s.drop 5)).map fun n=>(false,n) else
 if s.take 5=kGone++ [47] then (pathN (s.drop 5)).map fun n=>(true,n) else none
theorem num_nil:numO []=none:=by
 cases h:numO [] with
 | none=>rfl
 | some n =>
   have:=(numO_spelt h).1
   unfold itoa at this
   split at this
   · cases this
   · exact absurd this (digits_ne _)
theorem take_kind (k w:List UInt8) (hk:k.length=4):(k++47 :: w).take 5=k++ [47]∧(k++47 :: w).drop 5=w:=by
 have e:k++47 :: w=(k++ [47])++w:=by simp
 have hl:(k++ [47]).length=5:=by simp[hk]
 rw[e]
 exact⟨by rw[←hl,List.take_left],by rw[←hl,List.drop_left]⟩
theorem path_of (g:Bool) (w:List UInt8):pathO (kindL g++47 :: w)=(pathN w).map fun n=>(g,n):=by
 obtain⟨h1,h2⟩:=take_kind (kindL g) w (by cases g<;>rfl)
 unfold pathO
 rw[h1,h2]
 cases g
 · rw[if_pos (show kindL false++ [47]=kData++ [47] from rfl)]
 · rw[if_neg (by decide),if_pos (show kindL true++ [47]=kGone++ [47] from rfl)]
theorem path_some {s:List UInt8} {g:Bool} {n:Int} (h:pathO s=some (g,n)):s=kindL g++47 :: itoa n∧numO (itoa n)=some n∧cntB n=true:=by
 have key:∀(k:List UInt8) (b:Bool),s.take 5=k++ [47]→(pathN (s.drop 5)).map (fun m=>(b,m))=some (g,n)→b=g∧s=k++47 :: itoa n∧numO (itoa n)=some n∧cntB n=true:=fun k b hk hp=>by
   obtain⟨m,hm,he⟩:=Option.map_eq_some_iff.1 hp
   simp only[Prod.mk.injEq]at he
   obtain⟨rfl,rfl⟩:=he
   unfold pathN at hm
   split at hm
   · rename_i x hx
     split at hm
     · rename_i hc
       obtain rfl:=Option.some.inj hm
       have hsp:=(numO_spelt hx).1
       refine⟨rfl,?_,by rw[hsp];exact hx,hc⟩
       rw[hsp]
       conv=>lhs;rw[←List.take_append_drop 5 s,hk]
       simp
     · cases hm
   · cases hm
 unfold pathO at h
 split at h
 · rename_i hk
   obtain⟨rfl,h'⟩:=key _ _ hk h
   exact h'
 · split at h
   · rename_i hk
     obtain⟨rfl,h'⟩:=key _ _ hk h
     exact h'
   · cases h
theorem path_cut (s:List UInt8):pathO s=if (Lib.cut s [47]).1=kData then (pathN (Lib.cut s [47]).2.1).map fun n=>(false,n) else
   if (Lib.cut s [47]).1=kGone then (pathN (Lib.cut s [47]).2.1).map fun n=>(true,n) else none:=by
 rcases cut_cases 47 s with⟨hn,hc⟩|⟨a,b,rfl,hn,hc⟩
 · rw [hc]
   have hp:pathN []=none:=by unfold pathN;rw[num_nil]
   have hnone:pathO s=none:=by
     cases h:pathO s with
     | none=>rfl
     | some p =>
       obtain⟨g,n⟩:=p
       have:=(path_some h).1
       exact absurd rfl (hn 47 (by rw[this];simp))
   rw[hnone]
   dsimp only
   rw[hp]
   split
   · rfl
   · split<;>rfl
 · rw [hc]
   dsimp only
   by_cases h1:a=kData
   · subst h1
     rw[if_pos rfl]
     exact path_of false b
   · rw [if_neg h1]
     by_cases h2:a=kGone
     · subst h2
       rw[if_pos rfl]
       exact path_of true b
     · rw[if_neg h2]
       cases h:pathO (a++47 :: b) with
       | none=>rfl
       | some p =>
         obtain⟨g,n⟩:=p
         have e:=(path_some h).1
         have hk:∀c∈kindL g,c≠47:=by cases g<;>decide
         have e1:=cut_at 47 a b hn
         rw[e,cut_at 47 _ _ hk]at e1
         simp only[Prod.mk.injEq,and_true]at e1
         cases g
         · exact absurd e1.1.symm h1
         · exact absurd e1.1.symm h2
theorem path_parts {s:List UInt8} (h:6≤s.length):pathO s=if (s.take 4=kData∨s.take 4=kGone)∧s[4]? =some 47 then (pathN (s.drop 5)).map fun n=>(decide (s.take 4=kGone),n) else none:=by
 have ht:∀k:List UInt8,k.length=4→(s.take 5=k++ [47]↔s.take 4=k∧s[4]? =some 47):=fun k hk=>by
   have e5:s.take 5=s.take 4++ [s[4]'(by omega)]:=by rw[List.take_succ_eq_append_getElem (by omega)]
   rw[e5,List.getElem?_eq_getElem (by omega:4<s.length)]
   have hl:(s.take 4).length=k.length:=by rw[List.length_take,hk];omega
   constructor
   · intro e
     obtain⟨e1,e2⟩:=List.append_inj e hl
     exact⟨e1,by rw[List.singleton_inj.1 e2]⟩
   · rintro⟨e1,e2⟩
     rw[e1,Option.some.inj e2]
 unfold pathO
 have d1:=ht kData rfl
 have d2:=ht kGone rfl
 by_cases h1:s.take 5=kData++ [47]
 · have e1:=d1.1 h1
   rw[if_pos h1,if_pos ⟨Or.inl e1.1,e1.2⟩,e1.1]
   rfl
 · rw[if_neg h1]
   by_cases h2:s.take 5=kGone++ [47]
   · have e2:=d2.1 h2
     rw[if_pos h2,if_pos ⟨Or.inr e2.1,e2.2⟩,e2.1]
     rfl
   · rw[if_neg h2,if_neg]
     rintro⟨e | e,e'⟩
     · exact h1 (d1.2 ⟨e,e'⟩)
     · exact h2 (d2.2 ⟨e,e'⟩)
theorem path_short {s:List UInt8} (h:s.length<6):pathO s=none:=by
 have e:s.drop 5= []:=by rw[List.drop_eq_nil_iff];omega
 have hp:pathN []=none:=by unfold pathN;rw[num_nil]
 unfold pathO
 rw[e,hp]
 split
 · rfl
 · split<;>rfl
def pathR (s:List UInt8):List UInt8×Int×Nat:=match pathO s with
 | some (g,n)=>(kindL g,n,0)
 | none=>([],0,5)
def partB (g:Bool) (s:List UInt8):Bool:=if g then decide (s= [45]) else wordB 12 s
def bndB (f:Fl):Bool:=decide (1≤f.2.2.1) && decide (f.2.2.1≤40) && inNum f.2.2.2.1 && inNum f.2.2.2.2.1 && decide (f.2.2.2.1≤f.2.2.2.2.1) && cntB f.2.2.2.2.2
def fileE (f:Fl):Nat:=match pathO f.1.data.toList with
 | none=>5
 | some (g,_)=>if partB g f.2.1.data.toList then (if bndB f then 0 else 2) else 4
def zeroF:Fl:=(bytesOf [],bytesOf [],0,0,0,0)
def chkF (f:Fl):Fl×Nat:=if fileE f=0 then (f,0) else (zeroF,fileE f)
def keysF (g:Bool) (s:List UInt8):List Int×Nat:=if g then ((goneO s).1,(goneO s).2.1) else (keysR (dataO s).1,(dataO s).2.1)
def ofF (path part:ByteArray) (s:List UInt8) (seq:Int):Fl×Nat:=match pathO path.data.toList with
 | none=>(zeroF,5)
 | some (g,_)=>if (keysF g s).2=0 then chkF (path,part,(keysF g s).1.length,(endsZ (keysF g s).1).1,(endsZ (keysF g s).1).2,seq) else (zeroF,(keysF g s).2)
theorem file_good {f:Fl} (h:fileE f=0):∃g n,pathO f.1.data.toList=some (g,n)∧partB g f.2.1.data.toList=true∧bndB f=true:=by
 unfold fileE at h
 split at h
 · cases h
 · rename_i g n hp
   split at h
   · rename_i hq
     split at h
     · rename_i hb
       exact⟨g,n,hp,hq,hb⟩
     · cases h
   · cases h
theorem min_ends {zs:List Int} (h:zs≠ []):Lib.minOf zs=(endsZ zs).1∧Lib.maxOf zs=(endsZ zs).2:=by
 have f1:∀(r:List Int) (z:Int),r.foldl min z=r.foldl (fun a k=>if k<a then k else a) z:=fun r=>by
   induction r with
   | nil=>intro z;rfl
   | cons k r ih =>
     intro z
     rw[List.foldl_cons,List.foldl_cons,ih]
     congr 1
     rw[Int.min_def]
     split<;>split<;>omega
 have f2:∀(r:List Int) (z:Int),r.foldl max z=r.foldl (fun a k=>if a<k then k else a) z:=fun r=>by
   induction r with
   | nil=>intro z;rfl
   | cons k r ih =>
     intro z
     rw[List.foldl_cons,List.foldl_cons,ih]
     congr 1
     rw[Int.max_def]
     split<;>split<;>omega
 cases zs with
 | nil=>exact absurd rfl h
 | cons z r =>
   unfold Lib.minOf Lib.maxOf
   simp only[List.headD_cons,List.foldl_cons,Int.min_self,Int.max_self]
   exact⟨f1 r z,f2 r z⟩
def pk (s:List UInt8):Int:=match pathO s with
 | some (g,n)=>if g then 1073741824+n else n
 | none=>0
theorem pk_some {s:List UInt8} {g:Bool} {n:Int} (h:pathO s=some (g,n)):pk s=(if g then 1073741824+n else n)∧1≤n∧n≤1073741824:=by
 have hc:=(path_some h).2.2
 simp only[cntB,Bool.and_eq_true,decide_eq_true_eq]at hc
 exact⟨by unfold pk;rw[h],hc⟩
theorem pk_pos {s:List UInt8} (h:pathO s≠none):0<pk s:=by
 cases hp:pathO s with
 | none=>exact absurd hp h
 | some p =>
   obtain⟨g,n⟩:=p
   obtain⟨e,h1,h2⟩:=pk_some hp
   rw[e]
   split<;>omega
def fk (f:Fl):Int:=pk f.1.data.toList
theorem ok_path {f:Fl} (h:fileE f=0):pathO f.1.data.toList≠none:=by
 obtain⟨g,n,hp,_⟩:=file_good h
 rw[hp];simp
theorem fk_pos {f:Fl} (h:fileE f=0):0<fk f:=pk_pos (ok_path h)
def lstG:Int→List Fl→Nat→Nat×Option Nat
 | _, [],_=>(0,none)
 | prev,f :: r,i=>if fileE f≠0 then (fileE f,some i) else if fk f≤prev then (9,some i) else lstG (fk f) r (i+1)
def listE (fs:List Fl):Nat×Option Nat:=if 60<fs.length then (8,none) else lstG 0 fs 0
def Rises (prev:Int) (fs:List Fl):Prop:=(∀f∈fs,fileE f=0∧prev<fk f)∧fs.Pairwise fun f g=>fk f<fk g
theorem rises_cons {prev:Int} {f:Fl} {r:List Fl} :Rises prev (f :: r)↔fileE f=0∧prev<fk f∧Rises (fk f) r:=by
 unfold Rises
 rw[List.pairwise_cons]
 constructor
 · rintro⟨h1,h2,h3⟩
   have h0:=h1 f List.mem_cons_self
   exact⟨h0.1,h0.2,fun g hg=>⟨(h1 g (List.mem_cons_of_mem _ hg)).1,h2 g hg⟩,h3⟩
 · rintro⟨h1,h2,h3,h4⟩
   refine⟨fun g hg=>?_,fun g hg=>(h3 g hg).2,h4⟩
   rw[List.mem_cons]at hg
   rcases hg with rfl | hg
   · exact⟨h1,h2⟩
   · have:=h3 g hg
     exact⟨this.1,by omega⟩
theorem lstG_ok:∀(fs:List Fl) (prev:Int) (i:Nat),(lstG prev fs i).1=0↔Rises prev fs
 | [],prev,i=>by simp[lstG,Rises]
 | f :: r,prev,i=>by
   have ih:=lstG_ok r (fk f) (i+1)
   unfold lstG
   rw[rises_cons]
   split
   · rename_i h
     simp[h]
   · rename_i h
     have h0:fileE f=0:=by simpa using h
     split
     · rename_i h'
       simp[h0];omega
     · rename_i h'
       rw[ih]
       simp[h0];omega
theorem listE_ok {fs:List Fl} :(listE fs).1=0↔fs.length≤60∧Rises 0 fs:=by
 unfold listE
 split
 · rename_i h
   simp;omega
 · rename_i h
   rw[lstG_ok]
   simp;omega
def placeL (fs:List Fl) (f:Fl):List Fl:=fs.takeWhile (fun g=>decide (fk g<fk f))++f :: fs.dropWhile (fun g=>decide (fk g<fk f))
end Go.Proofs.YtgckdomafbnmkaaGreatDoor
