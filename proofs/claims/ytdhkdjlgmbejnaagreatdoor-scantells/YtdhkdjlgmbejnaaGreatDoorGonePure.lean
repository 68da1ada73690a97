/- By an AI agent. -/
import Derived.Test.YtdhkdjlgmbejnaaGreatDoorRowSort
import Derived.Shelf.Abstract
import Derived.Test.YtdhkdjlgmbejnaaGreatDoorDataPure
import Derived.Lib.SlicesCompact
namespace Go.Proofs
open Go.Shelf
def Tryz.sortInt_ren:Go.Shelf.Ren:=⟨fun | 5=>59 | 8=>111 | 7=>110 | 19=>164 | 20=>165 | 10=>156 | 11=>157 | 12=>158 | 13=>159 | 14=>160 | 15=>161 | 16=>125 | 17=>162 | 18=>163 | 30=>195 | 31=>196 | 32=>197 | 33=>198 | 34=>199 | 35=>176 | 40=>222 | n=>n,fun | 23=>50 | 25=>3 | 3=>3 | 32=>172 | 22=>50 | 0=>0 | 44=>183 | 46=>232 | 4=>4 | 36=>225 | 35=>224 | 41=>119 | 5=>5 | 9=>9 | 53=>270 | 57=>274 | 63=>289 | 64=>107 | n=>n,fun | n=>n⟩
theorem Tryz.sortInt:Go.Proofs.SlLaysM.n5 Tryz.prog Tryz.sortInt_ren:= {
 mixed:=by kernel_rfl
 f5:=⟨Tryz.f59.name,by decide,Tryz.func59.trans (congrArg some (by kernel_rfl))⟩
 f7:=⟨Tryz.f110.name,by decide,Tryz.func110.trans (congrArg some (by kernel_rfl))⟩
 f8:=Tryz.func111.trans (congrArg some (by kernel_rfl))
 f10:=⟨Tryz.f156.name,by decide,Tryz.func156.trans (congrArg some (by kernel_rfl))⟩
 f11:=⟨Tryz.f157.name,by decide,Tryz.func157.trans (congrArg some (by kernel_rfl))⟩
 f12:=⟨Tryz.f158.name,by decide,Tryz.func158.trans (congrArg some (by kernel_rfl))⟩
 f13:=⟨Tryz.f159.name,by decide,Tryz.func159.trans (congrArg some (by kernel_rfl))⟩
 f14:=⟨Tryz.f160.name,by decide,Tryz.func160.trans (congrArg some (by kernel_rfl))⟩
 f15:=⟨Tryz.f161.name,by decide,Tryz.func161.trans (congrArg some (by kernel_rfl))⟩
 f16:=⟨Tryz.f125.name,by decide,Tryz.func125.trans (congrArg some (by kernel_rfl))⟩
 f17:=⟨Tryz.f162.name,by decide,Tryz.func162.trans (congrArg some (by kernel_rfl))⟩
 f18:=⟨Tryz.f163.name,by decide,Tryz.func163.trans (congrArg some (by kernel_rfl))⟩
 f19:=Tryz.func164.trans (congrArg some (by kernel_rfl))
 f20:=Tryz.func165.trans (congrArg some (by kernel_rfl))
 f30:=⟨Tryz.f195.name,by decide,Tryz.func195.trans (congrArg some (by kernel_rfl))⟩
 f31:=Tryz.func196.trans (congrArg some (by kernel_rfl))
 f32:=Tryz.func197.trans (congrArg some (by kernel_rfl))
 f33:=⟨Tryz.f198.name,by decide,Tryz.func198.trans (congrArg some (by kernel_rfl))⟩
 f34:=⟨Tryz.f199.name,by decide,Tryz.func199.trans (congrArg some (by kernel_rfl))⟩
 f35:=⟨Tryz.f176.name,by decide,Tryz.func176.trans (congrArg some (by kernel_rfl))⟩
 f40:=⟨Tryz.f222.name,by decide,Tryz.func222.trans (congrArg some (by kernel_rfl))⟩
 t0:=Tryz.underlying0
 a0:=Tryz.isAgg0
 z0:=Tryz.sizeOf0
 v0:=Tryz.zeroValue0
 t3:=Tryz.underlying3
 a3:=Tryz.isAgg3
 z3:=Tryz.sizeOf3
 v3:=Tryz.zeroValue3
 t4:=Tryz.underlying4
 a4:=Tryz.isAgg4
 z4:=Tryz.sizeOf4
 v4:=Tryz.zeroValue4
 t5:=Tryz.underlying5
 a5:=Tryz.isAgg5
 z5:=Tryz.sizeOf5
 v5:=Tryz.zeroValue5
 t9:=Tryz.underlying9
 a9:=Tryz.isAgg9
 z9:=Tryz.sizeOf9
 v9:=Tryz.zeroValue9
 t22:=Tryz.underlying50
 a22:=Tryz.isAgg50
 z22:=Tryz.sizeOf50
 v22:=Tryz.zeroValue50
 t23:=Tryz.underlying50
 a23:=Tryz.isAgg50
 z23:=Tryz.sizeOf50
 v23:=Tryz.zeroValue50
 t25:=Tryz.underlying3
 a25:=Tryz.isAgg3
 z25:=Tryz.sizeOf3
 v25:=Tryz.zeroValue3
 t32:=Tryz.underlying172
 a32:=Tryz.isAgg172
 z32:=Tryz.sizeOf172
 v32:=Tryz.zeroValue172
 t35:=Tryz.underlying224
 a35:=Tryz.isAgg224
 z35:=Tryz.sizeOf224
 v35:=Tryz.zeroValue224
 t36:=Tryz.underlying225
 a36:=Tryz.isAgg225
 z36:=Tryz.sizeOf225
 v36:=Tryz.zeroValue225
 t41:=Tryz.underlying119
 a41:=Tryz.isAgg119
 z41:=Tryz.sizeOf119
 v41:=Tryz.zeroValue119
 t44:=Tryz.underlying183
 a44:=Tryz.isAgg183
 z44:=Tryz.sizeOf183
 v44:=Tryz.zeroValue183
 t46:=Tryz.underlying232
 a46:=Tryz.isAgg232
 z46:=Tryz.sizeOf232
 v46:=Tryz.zeroValue232
 t53:=Tryz.underlying270
 a53:=Tryz.isAgg270
 z53:=Tryz.sizeOf270
 v53:=Tryz.zeroValue270
 t57:=Tryz.underlying274
 a57:=Tryz.isAgg274
 z57:=Tryz.sizeOf274
 v57:=Tryz.zeroValue274
 t63:=Tryz.underlying289
 a63:=Tryz.isAgg289
 z63:=Tryz.sizeOf289
 v63:=Tryz.zeroValue289
 t64:=Tryz.underlying107
 a64:=Tryz.isAgg107
 z64:=Tryz.sizeOf107
 v64:=Tryz.zeroValue107 }
end Go.Proofs
namespace Go.Proofs.YtdhkdjlgmbejnaaGreatDoor
open Go.RowKit Go.Extern.Stop Go.Stop Go.Extern Go.Sort Go.Shelf Go.Lib
theorem allEq_dec:∀xs ys:List Rw,Lib.allEq (fun x y=>decide (x=y)) xs ys=decide (xs=ys)
 | [], []=>by simp[Lib.allEq]
 | [],_ :: _=>by simp[Lib.allEq]
 | _ :: _, []=>by simp[Lib.allEq]
 | x :: xs,y :: ys=>by
   have:=allEq_dec xs ys
   simp only[Lib.allEq,this]
   by_cases h:x=y<;>by_cases h':xs=ys<;>simp [h,h']
set_option maxHeartbeats 1000000 in
theorem equal_nil (p q:Option Addr) (n m c d:Nat) (w:World) (h0:n=0∨m=0) (hn:n≤20000) (hm:m≤20000) :
   Calls Tryz.prog 47 #[.slice p n c,.slice q m d] w fun e w'=>e= .returned (.bool (decide (n=m)))∧w'=w:=by
 by_cases e:n=m
 · obtain rfl:n=0:=by omega
   subst e
   go_enter Tryz.func47,Tryz.ntmps47
   go_wp2
   refine wp_loop_rounds 1 ?_
   rw[rounds_succ]
   go_wp2
   go_ret
   exact⟨rfl,rfl⟩
 · have e':((n:Int) == (m:Int))=false:=by simp;omega
   go_enter Tryz.func47,Tryz.ntmps47
   go_wp2
   go_ret
   exact⟨by simp[e],rfl⟩
theorem drewN_below (w:World) (q:Nat):Below w.heap.size w (w.drewN q):=⟨rfl,rfl,rfl,Nat.le_refl _,fun _ _=>rfl⟩
theorem cells_bang {w:World} {b o:Nat} {xs:List Rw} (h:RowCells w b o xs):∀j,j<xs.length→∀i v,(encR xs[j]!)[i]? =some v→w.cell? ⟨b,o+j*3+i,none⟩=some v:=by
 intro j hj i v hv
 rw[getElem!_pos xs j hj]at hv
 have hi:i<3:=by
   rcases Nat.lt_or_ge i (encR xs[j]).length with h' | h'
   · rwa [encR_len]at h'
   · rw[List.getElem?_eq_none h']at hv;cases hv
 have:=cells_of_flat h (j*3+i) v (by rw[flat_get xs j i hj hi];exact hv)
 rw[←Nat.add_assoc]at this
 exact this
theorem equal_any (v v':Value) (xs ys:List Rw) (w:World) (h:RowsAt w v xs) (h':RowsAt w v' ys) (hl:xs.length≤20000) (hl':ys.length≤20000) :
   Calls Tryz.prog 47 #[v,v'] w fun e w'=>e= .returned (.bool (decide (xs=ys)))∧Below w.heap.size w w':=by
 have nilL:∀zs:List Rw,decide (0=zs.length)=decide (([]:List Rw)=zs):=fun zs=>by cases zs<;>simp
 have nilR:∀zs:List Rw,decide (zs.length=0)=decide (zs=([]:List Rw)):=fun zs=>by cases zs<;>simp
 rcases h with⟨p,c,rfl,rfl⟩|⟨b,o,cap,rfl,hc⟩
 · rcases h' with⟨p',c',rfl,rfl⟩|⟨b',o',cap',rfl,hc'⟩
   · refine(equal_nil p p' 0 0 c c' w (Or.inl rfl) (by omega) (by omega)).mono fun e w' ⟨he,hw⟩=>⟨he,?_⟩
     subst hw;exact Below.refl _ _
   · refine(equal_nil p _ 0 ys.length c cap' w (Or.inl rfl) (by omega) hl').mono fun e w' ⟨he,hw⟩=>⟨by rw[he,nilL],?_⟩
     subst hw;exact Below.refl _ _
 · rcases h' with⟨p',c',rfl,rfl⟩|⟨b',o',cap',rfl,hc'⟩
   · refine(equal_nil _ p' xs.length 0 cap c' w (Or.inr rfl) hl (by omega)).mono fun e w' ⟨he,hw⟩=>⟨by rw[he,nilR],?_⟩
     subst hw;exact Below.refl _ _
   · have hcon:=AnyQ.slices_Equal Tryz.equalRow 3 Tryz.isAgg54 Tryz.sizeOf54 encR encR_len (fun x y=>decide (x=y)) neqRow b o xs.length cap b' o' ys.length cap' xs ys w (Nat.le_refl _) (Nat.le_refl _) (by omega) (by omega) (cells_bang hc) (cells_bang hc')
     change Calls Tryz.prog 47 _ _ _ at hcon
     rw[List.take_length,List.take_length,allEq_dec]at hcon
     refine hcon.mono fun e w' ⟨he,q,hw⟩=>⟨he,?_⟩
     subst hw;exact drewN_below w q
set_option maxHeartbeats 1000000 in
theorem less_any (x y:Rw) (w:World) :
   Calls Tryz.prog 214 #[.agg #[.string x.1,.int .i64 x.2.1,.int .i64 x.2.2],.agg #[.string y.1,.int .i64 y.2.1,.int .i64 y.2.2]] w fun e w'=>e= .returned (.bool (ltOf cfR x y))∧Below w.heap.size w w':=by
 have ho:=order_any x y
 unfold ltOf
 generalize cfR x y=r at ho ⊢
 obtain⟨xp,xk,xv⟩:=x
 obtain⟨yp,yk,yv⟩:=y
 dsimp only at ho ⊢
 have hb0:Below w.heap.size w ((w.alloc (.cells #[.string xp,.int .i64 xk,.int .i64 xv] 54)).alloc (.cells #[.string yp,.int .i64 yk,.int .i64 yv] 54)):=((Below.refl _ _).alloc (Nat.le_refl _) _).alloc (by simp) _
 go_enter Tryz.func214,Tryz.ntmps214
 go_wp2_with (go_at_call 97;refine(ho _).mono ?_;rintro e w1 ⟨rfl,q,os,hw⟩)
 go_ret
 refine⟨rfl,?_⟩
 exact(below_drewN hb0 q).trans ((below_grow os).mono (below_drewN hb0 q).size)
theorem same_succ {xs ys:List Rw} {n:Nat} (h:∀i,i<n→xs[i]? =ys[i]?) (e:xs[n]? =ys[n]?):∀i,i<n+1→xs[i]? =ys[i]? :=fun i hi=>by
 rcases Nat.lt_or_ge i n with h' | h'
 · exact h i h'
 · obtain rfl:i=n:=by omega
   exact e
set_option maxHeartbeats 2000000 in
theorem sameRows_lists (b o b' o' cap cap':Nat) (xs ys:List Rw) (w:World) (hx:RowCells w b o xs) (hy:RowCells w b' o' ys) (hl:xs.length≤20000) (he:xs.length=ys.length) :
   Calls Tryz.prog 11 #[.slice (some ⟨b,o,none⟩) xs.length cap,.slice (some ⟨b',o',none⟩) ys.length cap'] w fun e w'=>e= .returned (.bool (decide (xs=ys)))∧∃n,w'=w.drewN n:=by
 rw[←he]
 generalize hL:xs.length=L at hl ⊢
 have HX:Hid (xs.length=L):=hL
 have HY:Hid (ys.length=L):=he▸hL
 clear hL he
 generalize hr:decide (xs=ys)=r
 have HR:Hid (decide (xs=ys)=r):=hr
 clear hr
 go_enter Tryz.func11,Tryz.ntmps11
 go_wp2
 go_loopw [5] (fun k wr=> ∃n:Nat,n≤L∧(∀i,i<n→xs[i]? =ys[i]?)∧k= .int .i64 n∧∃m,wr=w.drewN m) (fun k _=>L-(intOf k).toNat)
 case atStart=>exact ⟨0,by omega,by omega,rfl,0,rfl⟩
 case round =>
   obtain⟨n,hn,ht,rfl,m,rfl⟩:=hrel
   have HT:Hid (∀i,i<n→xs[i]? =ys[i]?):=ht
   clear ht
   by_cases hlt:n<L
   · have hltx:n<xs.length:=by rw[HX.out];exact hlt
     have hlty:n<ys.length:=by rw[HY.out];exact hlt
     obtain⟨h1,h2,h3⟩:=hx n hltx
     obtain⟨k1,k2,k3⟩:=hy n hlty
     have heq:=neqRow.1 xs[n] ys[n]
     have hgd:=neqRow.2
     have hi:(n:Int)<(L:Int):=by omega
     generalize hxx:xs[n]=x at h1 h2 h3 heq
     generalize hyy:ys[n]=y at k1 k2 k3 heq
     have EX:Hid (xs[n]=x):=hxx
     have EY:Hid (ys[n]=y):=hyy
     clear hxx hyy hx hy
     obtain⟨xp,xk,xv⟩:=x
     obtain⟨yp,yk,yv⟩:=y
     simp only[encR]at heq
     have hgd':∀(op:BinOp) (a b:Operand) (w:World),Sem.run Tryz.prog (eqGuard op 54 a b (.agg #[.string xp,.int .i64 xk,.int .i64 xv]) (.agg #[.string yp,.int .i64 yk,.int .i64 yv])) w= .ok () w:=fun op a b w=>hgd op a b (xp,xk,xv) (yp,yk,yv) w
     clear hgd
     by_cases e:((xp,xk,xv):Rw)=(yp,yk,yv)
     · have hne:∀w,Sem.run Tryz.prog (binOp .neq 54 (.agg #[.string xp,.int .i64 xk,.int .i64 xv]) (.agg #[.string yp,.int .i64 yk,.int .i64 yv])) w= .ok (.bool false) w:=fun w=>by rw[heq w,decide_eq_true e];rfl
       have EE:Hid (((xp,xk,xv):Rw)=(yp,yk,yv)):=e
       clear heq e
       go_wp2
       go_quiet (fail)
       go_wp2
       go_roundw
       case rel=>exact ⟨n+1,by omega,same_succ HT.out (by rw[List.getElem?_eq_getElem hltx,List.getElem?_eq_getElem hlty,EX.out,EY.out,EE.out]),by go_num,_,rfl⟩
       case measure=>simp [intOf];omega
     · have hne:∀w,Sem.run Tryz.prog (binOp .neq 54 (.agg #[.string xp,.int .i64 xk,.int .i64 xv]) (.agg #[.string yp,.int .i64 yk,.int .i64 yv])) w= .ok (.bool true) w:=fun w=>by rw[heq w,decide_eq_false e];rfl
       have EE:Hid (¬((xp,xk,xv):Rw)=(yp,yk,yv)):=e
       have hr:r=false:=by
         rw[←HR.out,decide_eq_false_iff_not]
         intro e'
         subst e'
         exact EE.out (EX.out.symm.trans EY.out)
       subst hr
       clear heq e
       go_wp2
       go_quiet (fail)
       go_wp2
       go_ret
       exact⟨rfl,_,World.drewN_drewN _ _ _⟩
   · have hr:r=true:=by
       rw[←HR.out,decide_eq_true_eq]
       refine List.ext_getElem? fun i=>?_
       rcases Nat.lt_or_ge i n with h' | h'
       · exact HT.out i h'
       · rw[List.getElem?_eq_none (by rw[HX.out];omega),List.getElem?_eq_none (by rw[HY.out];omega)]
     subst hr
     have hn':n=L:=by omega
     subst hn'
     go_wp2
     go_ret
     exact⟨rfl,m,rfl⟩
set_option maxHeartbeats 1000000 in
theorem sameRows_len (p q:Option Addr) (n m c d:Nat) (w:World) (h0:n≠m∨n=0) (hn:n≤20000) (hm:m≤20000) :
   Calls Tryz.prog 11 #[.slice p n c,.slice q m d] w fun e w'=>e= .returned (.bool (decide (n=m)))∧w'=w:=by
 by_cases e:n=m
 · obtain rfl:n=0:=by omega
   subst e
   go_enter Tryz.func11,Tryz.ntmps11
   go_wp2
   refine wp_loop_rounds 1 ?_
   rw[rounds_succ]
   go_wp2
   go_ret
   exact⟨rfl,rfl⟩
 · have e':((n:Int) == (m:Int))=false:=by simp;omega
   go_enter Tryz.func11,Tryz.ntmps11
   go_wp2
   go_ret
   exact⟨by simp[e],rfl⟩
theorem sameRows_any (v v':Value) (xs ys:List Rw) (w:World) (h:RowsAt w v xs) (h':RowsAt w v' ys) (hl:xs.length≤20000) (hl':ys.length≤20000) :
   Calls Tryz.prog 11 #[v,v'] w fun e w'=>e= .returned (.bool (decide (xs=ys)))∧Below w.heap.size w w':=by
 have nilL:∀zs:List Rw,decide (0=zs.length)=decide (([]:List Rw)=zs):=fun zs=>by cases zs<;>simp
 rcases h with⟨p,c,rfl,rfl⟩|⟨b,o,cap,rfl,hc⟩
 · rcases h' with⟨p',c',rfl,rfl⟩|⟨b',o',cap',rfl,hc'⟩
   · refine(sameRows_len p p' 0 0 c c' w (Or.inr rfl) (by omega) (by omega)).mono fun e w' ⟨he,hw⟩=>⟨he,?_⟩
     subst hw;exact Below.refl _ _
   · refine(sameRows_len p _ 0 ys.length c cap' w (Or.inr rfl) (by omega) hl').mono fun e w' ⟨he,hw⟩=>⟨by rw[he,nilL],?_⟩
     subst hw;exact Below.refl _ _
 · rcases h' with⟨p',c',rfl,rfl⟩|⟨b',o',cap',rfl,hc'⟩
   · refine(sameRows_len _ p' xs.length 0 cap c' w (by omega) hl (by omega)).mono fun e w' ⟨he,hw⟩=>⟨?_,?_⟩
     · rw[he];cases xs<;>simp
     · subst hw;exact Below.refl _ _
   · by_cases hlen:xs.length=ys.length
     · refine(sameRows_lists b o b' o' cap cap' xs ys w hc hc' hl hlen).mono fun e w' ⟨he,q,hw⟩=>⟨he,?_⟩
       subst hw;exact drewN_below w q
     · refine(sameRows_len _ _ xs.length ys.length cap cap' w (Or.inl hlen) hl hl').mono fun e w' ⟨he,hw⟩=>⟨?_,?_⟩
       · rw[he]
         have:¬xs=ys:=fun e=>hlen (e▸rfl)
         simp[this,hlen]
       · subst hw;exact Below.refl _ _
theorem own_below {w w':World} {base:Nat} {e:TypeId} {size:Nat} {v:Value} {n:Nat} {xs:List Value} (h:w.ownsRow base e size v n xs) (hb:Below w.heap.size w w'):w'.ownsRow base e size v n xs:=by
 obtain⟨h1,h2⟩:=h
 refine⟨h1,?_⟩
 rcases h2 with h2 | ⟨g,cap,cur,hv,hg,hc,r⟩
 · exact Or.inl h2
 · refine Or.inr ⟨g,cap,cur,hv,hg,?_,r⟩
   have hlt:g<w.heap.size:=by
     rcases Nat.lt_or_ge g w.heap.size with h' | h'
     · exact h'
     · rw[Array.getElem?_eq_none h']at hc;cases hc
   rw[hb.block g hlt];exact hc
theorem flat_single (x:Rw):flatR [x]=encR x:=by simp[flatR]
theorem filter_snoc (p:Rw→Bool) (xs:List Rw) (n:Nat) (h:n<xs.length):(xs.take (n+1)).filter p=(xs.take n).filter p++if p xs[n] then [xs[n]] else []:=by
 rw[List.take_succ_eq_append_getElem h,List.filter_append]
 cases hp:p xs[n]<;>simp [hp]
def Tells (g:Nat) (cb:Array Value) (p:Rw→Bool) (w:World):Prop :=
 ∀(x:Rw) (W:World),Below w.heap.size w W→Calls Tryz.prog g (#[.agg #[.string x.1,.int .i64 x.2.1,.int .i64 x.2.2]]++cb) W fun e w'=>e= .returned (.bool (p x))∧Below W.heap.size W w'
set_option maxHeartbeats 2000000 in
theorem cut_list (b o cap:Nat) (xs:List Rw) (g:Nat) (cb:Array Value) (p:Rw→Bool) (w:World) (eg:∀args w,(callFunc g args).run Tryz.prog w= .ok (.enter g args) w) (hx:RowCells w b o xs) (hl:xs.length≤20000) (hp:Tells g cb p w) :
   Calls Tryz.prog 45 #[.slice (some ⟨b,o,none⟩) xs.length cap,.func (.func g) #[] cb] w fun e w'=> ∃v',e= .returned v'∧w'.ownsRow w.heap.size 54 3 v' (xs.filter p).length (flatR (xs.filter p))∧Below w.heap.size w w':=by
 obtain⟨i0,hi0,hz0,hs0,hby0⟩:=Tryz.rowInfo
 generalize hL:xs.length=L at hl ⊢
 have HX:Hid (xs.length=L):=hL
 clear hL
 go_enter Tryz.func45,Tryz.ntmps45
 go_wp2
 go_loopw [5,10] (fun kept k wr=> ∃n:Nat,n≤L∧k= .int .i64 n∧Below w.heap.size w wr∧wr.ownsRow w.heap.size 54 3 kept ((xs.take n).filter p).length (flatR ((xs.take n).filter p))) (fun _ k _=>L-(intOf k).toNat)
 case atStart=>exact ⟨0,by omega,rfl,Below.refl _ _,by simp[flatR];exact World.ownsRow_nil _ _ _ _⟩
 case round =>
   obtain⟨n,hn,rfl,hb,hown⟩:=hrel
   by_cases hlt:n<L
   · have hltx:n<xs.length:=by rw[HX.out];exact hlt
     obtain⟨h1,h2,h3⟩:=hx.below hb n hltx
     have hi:(n:Int)<(L:Int):=by omega
     have hf:=filter_snoc p xs n hltx
     generalize hxx:xs[n]=x at h1 h2 h3 hf
     have HF:Hid ((xs.take (n+1)).filter p=(xs.take n).filter p++if p x then [x] else []):=hf
     clear hf hxx
     obtain⟨xp,xk,xv⟩:=x
     have hbA:Below w.heap.size w (wr.alloc (.cells #[.string xp,.int .i64 xk,.int .i64 xv] 54)):=hb.alloc hb.size _
     have hpx:=hp (xp,xk,xv) _ hbA
     have OW:Hid (wr.ownsRow w.heap.size 54 3 u5 ((xs.take n).filter p).length (flatR ((xs.take n).filter p))):=hown
     have hlen:((xs.take n).filter p).length≤n:=Nat.le_trans (List.length_filter_le _ _) (List.length_take_le _ _)
     have LEN:Hid (((xs.take n).filter p).length≤n):=hlen
     have c0:(wr.alloc (.cells #[.string xp,.int .i64 xk,.int .i64 xv] 54)).cell? ⟨wr.heap.size,0,none⟩=some (.string xp):=by simp
     have c1:(wr.alloc (.cells #[.string xp,.int .i64 xk,.int .i64 xv] 54)).cell? ⟨wr.heap.size,1,none⟩=some (.int .i64 xk):=by simp
     have c2:(wr.alloc (.cells #[.string xp,.int .i64 xk,.int .i64 xv] 54)).cell? ⟨wr.heap.size,2,none⟩=some (.int .i64 xv):=by simp
     have hal:Below wr.heap.size wr (wr.alloc (.cells #[.string xp,.int .i64 xk,.int .i64 xv] 54)):=(Below.refl _ _).alloc (Nat.le_refl _) _
     clear hown hlen hx
     cases hpv:p (xp,xk,xv)
     · rw[hpv]at hpx
       have HF':Hid ((xs.take (n+1)).filter p=(xs.take n).filter p):=by
         have:=HF.out
         rw[hpv]at this
         simpa [Hid] using this
       clear hpv
       go_wp2_with (go_at_fn g;refine hpx.mono ?_;rintro e w2 ⟨rfl,hb2⟩)
       have hbB:Below w.heap.size w w2:=hbA.trans (hb2.mono hbA.size)
       have hbW:Below wr.heap.size wr w2:=hal.trans (hb2.mono hal.size)
       go_roundw
       case rel=>exact ⟨n+1,by omega,by go_num,hbB,by rw[HF'.out];exact own_below OW.out hbW⟩
       case measure=>simp [intOf];omega
     · rw[hpv]at hpx
       have HF':Hid ((xs.take (n+1)).filter p=(xs.take n).filter p++ [(xp,xk,xv)]):=by
         have:=HF.out
         rw[hpv]at this
         simpa [Hid] using this
       clear hpv
       generalize hK:(xs.take n).filter p=K at OW LEN HF'
       clear hK
       go_wp2_with (first
         | (go_at_fn g;refine hpx.mono ?_;rintro e w2 ⟨rfl,hb2⟩;have d0:=below_keep hb2 c0;have d1:=below_keep hb2 c1;have d2:=below_keep hb2 c2)
         | (at_builtin;refine wpList_append_own _ rfl _ _ 33 rfl w.heap.size 54 i0 (.agg #[.string ⟨#[]⟩,.int .i64 0,.int .i64 0]) 3 32 Tryz.underlying33 hi0 hz0 hs0 hby0 rfl (by decide) u5 K.length (flatR K) rfl ?qc0 ⟨w2.heap.size,0,none⟩ 1 1 (encR (xp,xk,xv)) rfl ?qc1 ?qc2 ?qc3 ?qc4 ?qc5 ?qc6 ?_))
       case qc0=>exact own_below OW.out ((hal.trans (hb2.mono hal.size)).alloc (Nat.le_trans hal.size hb2.size) _)
       case qc1=>rfl
       case qc2 =>
         intro j u hj
         rw[Addr.add_lit,Nat.zero_add]
         match j,hj with
         | 0,hj=>simp [encR]at hj;subst hj;simp
         | 1,hj=>simp [encR]at hj;subst hj;simp
         | 2,hj=>simp [encR]at hj;subst hj;simp
         | j+3,hj=>simp [encR]at hj
       case qc3=>exact encR_one _
       case qc4=>have:=LEN.out;unfold maxLen;omega
       case qc5=>have:=LEN.out;omega
       case qc6=>exact Nat.le_trans hbA.size (Nat.le_trans hb2.size (by simp))
       intro v' w4 hown4 hgrow hnil
       have hbB:Below w.heap.size w (w2.alloc (.cells #[.string xp,.int .i64 xk,.int .i64 xv] 54)):=(hbA.trans (hb2.mono hbA.size)).alloc (Nat.le_trans hbA.size hb2.size) _
       have hbC:Below w.heap.size w w4:=hbB.grown hgrow hbB.size (fun k hk=>by
         rcases OW.out.2 with⟨e,_⟩|⟨g',cap',cur,e,hg',_⟩
         · rw[e]at hk;simp[Value.ownBlock]at hk
         · rw[e]at hk;simp[Value.ownBlock]at hk;omega)
       have OW4:Hid (w4.ownsRow w.heap.size 54 3 v' (K.length+1) (flatR K++encR (xp,xk,xv))):=hown4
       clear hown4 hnil hgrow
       go_wp2
       go_roundw
       case rel=>exact ⟨n+1,by omega,by go_num,hbC,by rw[HF'.out,List.length_append,flat_append,flat_single];exact OW4.out⟩
       case measure=>simp [intOf];omega
   · have hn':n=L:=by omega
     subst hn'
     have ht:xs.take n=xs:=List.take_of_length_le (by rw[HX.out];omega)
     rw[ht]at hown
     have OW:Hid (wr.ownsRow w.heap.size 54 3 u5 (xs.filter p).length (flatR (xs.filter p))):=hown
     clear hown ht
     go_wp2
     go_ret
     exact⟨u5,rfl,OW.out,hb⟩
set_option maxHeartbeats 1000000 in
theorem cut_own (v:Value) (xs:List Rw) (g:Nat) (cb:Array Value) (p:Rw→Bool) (w:World) (eg:∀args w,(callFunc g args).run Tryz.prog w= .ok (.enter g args) w) (hx:RowsAt w v xs) (hl:xs.length≤20000) (hp:Tells g cb p w) :
   Calls Tryz.prog 45 #[v,.func (.func g) #[] cb] w fun e w'=> ∃v',e= .returned v'∧w'.ownsRow w.heap.size 54 3 v' (xs.filter p).length (flatR (xs.filter p))∧Below w.heap.size w w':=by
 rcases hx with⟨p0,c0,rfl,rfl⟩|⟨b,o,cap,rfl,hc⟩
 · clear hp hl
   go_enter Tryz.func45,Tryz.ntmps45
   go_wp2
   refine wp_loop_rounds 1 ?_
   rw[rounds_succ]
   go_wp2
   go_ret
   exact⟨_,rfl,World.ownsRow_nil _ _ _ _,Below.refl _ _⟩
 · exact cut_list b o cap xs g cb p w eg hc hl hp
def inB (lo hi:Int) (x:Rw):Bool:=decide (lo≤x.2.1) && decide (x.2.1≤hi)
set_option maxHeartbeats 1000000 in
theorem within1_any (x:Rw) (lo hi:Int) (a c:Addr) (w:World) (ha:w.cell? a=some (.int .i64 lo)) (hc:w.cell? c=some (.int .i64 hi)) :
   Calls Tryz.prog 46 #[.agg #[.string x.1,.int .i64 x.2.1,.int .i64 x.2.2],.pointer (some a),.pointer (some c)] w fun e w'=>e= .returned (.bool (inB lo hi x))∧Below w.heap.size w w':=by
 obtain⟨xp,xk,xv⟩:=x
 dsimp only
 have ha':(w.alloc (.cells #[.string xp,.int .i64 xk,.int .i64 xv] 54)).cell? a=some (.int .i64 lo):=below_keep ((Below.refl _ _).alloc (Nat.le_refl _) _) ha
 have hc':(w.alloc (.cells #[.string xp,.int .i64 xk,.int .i64 xv] 54)).cell? c=some (.int .i64 hi):=below_keep ((Below.refl _ _).alloc (Nat.le_refl _) _) hc
 by_cases h1:lo≤xk
 · by_cases h2:xk≤hi
   · have hr:inB lo hi (xp,xk,xv)=true:=by simp[inB,h1,h2]
     rw[hr]
     go_enter Tryz.func46,Tryz.ntmps46
     go_wp2
     go_ret
     exact⟨rfl,(Below.refl _ _).alloc (Nat.le_refl _) _⟩
   · have hr:inB lo hi (xp,xk,xv)=false:=by simp[inB,h2]
     rw[hr]
     go_enter Tryz.func46,Tryz.ntmps46
     go_wp2
     go_ret
     exact⟨rfl,(Below.refl _ _).alloc (Nat.le_refl _) _⟩
 · have hr:inB lo hi (xp,xk,xv)=false:=by simp[inB,h1]
   rw[hr]
   go_enter Tryz.func46,Tryz.ntmps46
   go_wp2
   go_ret
   exact⟨rfl,(Below.refl _ _).alloc (Nat.le_refl _) _⟩
set_option maxHeartbeats 1000000 in
theorem within_own (v:Value) (xs:List Rw) (lo hi:Int) (w:World) (hx:RowsAt w v xs) (hl:xs.length≤20000) :
   Calls Tryz.prog 12 #[v,.int .i64 lo,.int .i64 hi] w fun e w'=> ∃v',e= .returned v'∧(∃B,B≥w.heap.size∧w'.ownsRow B 54 3 v' (xs.filter (inB lo hi)).length (flatR (xs.filter (inB lo hi))))∧Below w.heap.size w w':=by
 have hb:Below w.heap.size w ((w.alloc (.cells #[.int .i64 lo] 3)).alloc (.cells #[.int .i64 hi] 3)):=((Below.refl _ _).alloc (Nat.le_refl _) _).alloc (by simp) _
 have eg:∀args w,(callFunc 46 args).run Tryz.prog w= .ok (.enter 46 args) w:=enters_of Tryz.func46 (by kernel_rfl) rfl
 have hcut:=cut_own v xs 46 #[.pointer (some ⟨w.heap.size,0,none⟩),.pointer (some ⟨w.heap.size+1,0,none⟩)] (inB lo hi) _ eg (hx.below hb) hl
   (fun x W hW=>within1_any x lo hi ⟨w.heap.size,0,none⟩ ⟨w.heap.size+1,0,none⟩ W (below_keep hW (by simp)) (below_keep hW (by simp)))
 clear hx eg
 go_enter Tryz.func12,Tryz.ntmps12
 go_wp2_with (go_at_call 45;refine hcut.mono ?_;rintro e w2 ⟨v2,rfl,hr,hb2⟩)
 go_ret
 exact⟨_,rfl,⟨_,hb.size,hr⟩,hb.trans (hb2.mono hb.size)⟩
theorem within_any (v:Value) (xs:List Rw) (lo hi:Int) (w:World) (hx:RowsAt w v xs) (hl:xs.length≤20000) :
   Calls Tryz.prog 12 #[v,.int .i64 lo,.int .i64 hi] w fun e w'=> ∃v',e= .returned v'∧RowsAt w' v' (xs.filter (inB lo hi))∧Below w.heap.size w w' :=
 (within_own v xs lo hi w hx hl).mono fun _ _ ⟨v',he,⟨_,_,ho⟩,hb⟩=>⟨v',he,(rowsAt_of_own ho).1,hb⟩
def KeysAt (w:World) (v:Value) (zs:List Int):Prop :=
 (∃p c,v= .slice p 0 c∧zs= [])∨∃b o cap,v= .slice (some ⟨b,o,none⟩) zs.length cap∧∀j (h:j<zs.length),w.cell? ⟨b,o+j,none⟩=some (.int .i64 zs[j])
theorem KeysAt.below {w w':World} {v:Value} {zs:List Int} (h:KeysAt w v zs) (hb:Below w.heap.size w w'):KeysAt w' v zs:=by
 rcases h with h | ⟨b,o,cap,hv,hc⟩
 · exact Or.inl h
 · exact Or.inr ⟨b,o,cap,hv,fun j hj=>below_keep hb (hc j hj)⟩
theorem getD_of {zs:List Int} {j:Nat} (h:j<zs.length):zs.getD j 0=zs[j]:=by simp[List.getD,List.getElem?_eq_getElem h]
theorem cloneInts_any (v:Value) (zs:List Int) (w:World) (h:KeysAt w v zs) (hl:zs.length≤20000) :
   Calls Tryz.prog 69 #[v] w fun e w'=> ∃v',e= .returned v'∧w'.ownsRow w.heap.size 3 1 v' zs.length (zs.map (Value.int .i64))∧Below w.heap.size w w':=by
 rcases h with⟨p,c,rfl,rfl⟩|⟨b,o,cap,rfl,hc⟩
 · cases p with
   | none =>
     refine(Tryz.slices_Clone_int_nil 0 c w).mono fun e w' ⟨he,hw⟩=>⟨_,he,World.ownsRow_nil _ _ _ _,?_⟩
     subst hw;exact Below.refl _ _
   | some ad=>exact (Tryz.slices_Clone_int_zero ad c w).mono fun e w' ⟨v',he,ho,_,hb⟩=>⟨v',he,ho,hb⟩
 · refine(Tryz.slices_Clone_int b o zs.length cap zs w (Nat.le_refl _) (by omega) (fun j hj=>by rw[getD_of hj];exact hc j hj)).mono fun e w' ⟨v',he,ho,_,hb⟩=>⟨v',he,?_,hb⟩
   rw[List.take_length]at ho
   exact ho
def sortZ (zs:List Int):List Int:=zs.mergeSort fun x y=>decide (x≤y)
theorem sortZ_len (zs:List Int):(sortZ zs).length=zs.length:=by simp[sortZ]
theorem sortZ_mem (zs:List Int) (x:Int):x∈sortZ zs↔x∈zs:=(List.mergeSort_perm _ _).mem_iff
theorem sortZ_sorted (zs:List Int):(sortZ zs).Pairwise (· ≤ ·):=by
 have h:=List.pairwise_mergeSort (le:=fun x y:Int=>decide (x≤y)) (fun a b c h1 h2=>by simp at *;omega) (fun a b=>by simp;omega) zs
 exact h.imp fun h=>by simpa using h
theorem sortInts_any (v:Value) (zs:List Int) (B:Nat) (w0 w:World) (hb:Below B w0 w) (hB:B≤w0.heap.size) (h:w.ownsRow B 3 1 v zs.length (zs.map (Value.int .i64))) (hl:zs.length≤20000) (c:Nat) (u:Value) (hc:w.cell? ⟨c,0,none⟩=some u) (hne:v.ownBlock≠some c) :
   Calls Tryz.prog 59 #[v] w fun e w'=>e= .returned (.tuple #[])∧KeysAt w' v (sortZ zs)∧Below B w0 w'∧w'.cell? ⟨c,0,none⟩=some u:=by
 by_cases hv:v= .slice none 0 0
 · subst hv
   have hx:zs= []:=by
     rcases h.2 with⟨_,hn⟩|⟨g,cap,cur,e,_⟩
     · exact List.length_eq_zero_iff.1 hn
     · cases e
   subst hx
   have hcon:=AnyM.slices_Sort_int_none Tryz.sortInt none 0 w
   change Calls Tryz.prog 59 _ _ _ at hcon
   refine hcon.mono fun e w' ⟨he,hw⟩=>⟨he,Or.inl ⟨none,0,rfl,by simp[sortZ]⟩,?_,?_⟩
   · subst hw;exact hb
   · subst hw;exact hc
 · obtain⟨g,cap,rfl,hbg,hlt,hn,hm,hlen,hH⟩:=holds_of_ownsRow h hv
   have hcon:=AnyM.slices_Sort_int Tryz.sortInt g 0 cap zs w hH hlt (by omega)
   change Calls Tryz.prog 59 _ _ _ at hcon
   have hgc:c≠g:=fun e=>hne (by simp[Value.ownBlock,e])
   refine hcon.mono fun e w' ⟨he,n,os,hw⟩=>⟨he,?_,?_,?_⟩
   · subst hw
     refine Or.inr ⟨g,0,cap,by rw[sortZ_len],fun j hj=>?_⟩
     have hH2:=holds_grow (Value.int .i64) _ os g 0 (sortZ zs).toArray (by simpa [putRow,mapBlock,Sort.ahead] using hlt) (holds_putRow (Value.int .i64) (Sort.ahead w n) g 0 zs.toArray (sortZ zs).toArray hH (by simp[sortZ_len]))
     have:=(hH2 j (by simpa using hj)).1
     rw[show ((sortZ zs).toArray)[j]! =(sortZ zs)[j] by simp[getElem!_pos,hj]]at this
     exact this
   · subst hw
     have h1:Below B w0 (putRow (Value.int .i64) (Sort.ahead w n) g 0 (zs.mergeSort fun x y=>decide (x≤y)).toArray):=below_putRow hb hbg
     exact h1.trans ((below_grow os).mono (Nat.le_trans hB h1.size))
   · subst hw
     have hcl:c<w.heap.size:=cell_lt hc
     rw[cell?_grow _ _ _ (by simpa [putRow,mapBlock,Sort.ahead] using hcl),cell?_putRow_other _ _ _ _ _ _ (Or.inl hgc)]
     exact hc
def riseZ (zs:List Int):List Int:=Lib.compact (sortZ zs)
theorem compact_up (d:Array Int) (hs:∀i j,i≤j→j<d.size→d[i]! ≤d[j]!):∀m,m≤d.size→(compactUpTo d m).Pairwise (· < ·)∧(∀x,x∈compactUpTo d m↔∃j,j<m∧d[j]! =x)∧∀x∈compactUpTo d m,∀j,m≤j+1→j<d.size→x≤d[j]! :=by
 intro m
 induction m with
 | zero=>intro _;exact⟨by simp[compactUpTo],by simp[compactUpTo],by simp[compactUpTo]⟩
 | succ m ih =>
   intro hm
   obtain⟨h1,h2,h3⟩:=ih (by omega)
   rw[compactUpTo_succ]
   cases hk:keeps d m with
   | true =>
     simp only[if_true]
     have hlt:∀x∈compactUpTo d m,x<d[m]! :=by
       intro x hx
       have hm0:m≠0:=by
         intro e;subst e
         obtain⟨j,hj,_⟩:=(h2 x).1 hx
         omega
       simp only[keeps,decide_eq_true_eq]at hk
       rcases hk with hk | hk
       · exact absurd hk hm0
       · have a1:=h3 x hx (m-1) (by omega) (by omega)
         have a2:=hs (m-1) m (by omega) (by omega)
         omega
     refine⟨List.pairwise_append.2 ⟨h1,List.pairwise_singleton _ _,fun x hx y hy=>by rw[List.mem_singleton.1 hy];exact hlt x hx⟩,fun x=>?_,fun x hx j hj1 hj2=>?_⟩
     · rw [List.mem_append,List.mem_singleton,h2]
       constructor
       · rintro(⟨j,hj,e⟩ | e)
         · exact⟨j,by omega,e⟩
         · exact⟨m,by omega,e.symm⟩
       · rintro⟨j,hj,e⟩
         rcases Nat.lt_or_ge j m with h | h
         · exact Or.inl ⟨j,h,e⟩
         · have:j=m:=by omega
           subst this;exact Or.inr e.symm
     · rw[List.mem_append,List.mem_singleton]at hx
       have hmj:=hs m j (by omega) hj2
       rcases hx with hx | hx
       · have:=hlt x hx;omega
       · omega
   | false =>
     simp only[Bool.false_eq_true,if_false,List.append_nil]
     simp only[keeps,decide_eq_false_iff_not,not_or,ne_eq,Classical.not_not]at hk
     refine⟨h1,fun x=>?_,fun x hx j hj1 hj2=>h3 x hx j (by omega) hj2⟩
     rw[h2]
     constructor
     · rintro⟨j,hj,e⟩;exact⟨j,by omega,e⟩
     · rintro⟨j,hj,e⟩
       rcases Nat.lt_or_ge j m with h | h
       · exact⟨j,h,e⟩
       · have:j=m:=by omega
         subst this
         exact⟨j-1,by omega,by rw[←e,hk.2]⟩
theorem sortZ_get (zs:List Int) (i j:Nat) (hij:i≤j) (hj:j<(sortZ zs).toArray.size):(sortZ zs).toArray[i]! ≤(sortZ zs).toArray[j]! :=by
 have hj':j<(sortZ zs).length:=by simpa using hj
 rw[getElem!_pos _ i (by omega),getElem!_pos _ j hj]
 simp only[List.getElem_toArray]
 rcases Nat.lt_or_eq_of_le hij with h | h
 · exact List.pairwise_iff_getElem.1 (sortZ_sorted zs) i j (by omega) hj' h
 · subst h;exact Int.le_refl _
theorem rise_sorted (zs:List Int):(riseZ zs).Pairwise (· < ·):=by
 have h:=compact_up (sortZ zs).toArray (sortZ_get zs) (sortZ zs).length (by simp)
 exact h.1
theorem rise_mem (zs:List Int) (x:Int):x∈riseZ zs↔x∈zs:=by
 have h:=(compact_up (sortZ zs).toArray (sortZ_get zs) (sortZ zs).length (by simp)).2.1 x
 show x∈compactUpTo (sortZ zs).toArray (sortZ zs).length↔_
 rw[h,←sortZ_mem zs x]
 constructor
 · rintro⟨j,hj,e⟩
   rw[getElem!_pos _ j (by simpa using hj)]at e
   rw[←e]
   simp only[List.getElem_toArray]
   exact List.getElem_mem _
 · intro hx
   obtain⟨j,hj,e⟩:=List.mem_iff_getElem.1 hx
   exact⟨j,hj,by rw[getElem!_pos _ j (by simpa using hj)];simpa using e⟩
theorem rise_unique:∀xs ys:List Int,xs.Pairwise (· < ·)→ys.Pairwise (· < ·)→(∀x,x∈xs↔x∈ys)→xs=ys
 | [], [],_,_,_=>rfl
 | [],y :: ys,_,_,h=>absurd ((h y).2 List.mem_cons_self) (by simp)
 | x :: xs, [],_,_,h=>absurd ((h x).1 List.mem_cons_self) (by simp)
 | x :: xs,y :: ys,hx,hy,h=>by
   obtain⟨hx1,hx2⟩:=List.pairwise_cons.1 hx
   obtain⟨hy1,hy2⟩:=List.pairwise_cons.1 hy
   have e:x=y:=by
     have a:=(h x).1 List.mem_cons_self
     have b:=(h y).2 List.mem_cons_self
     rcases List.mem_cons.1 a with a | a
     · exact a
     · rcases List.mem_cons.1 b with b | b
       · exact b.symm
       · have:=hx1 y b;have:=hy1 x a;omega
   subst e
   rw[rise_unique xs ys hx2 hy2 fun z=>⟨fun hz=>by
     rcases List.mem_cons.1 ((h z).1 (List.mem_cons_of_mem _ hz)) with q | q
     · have:=hx1 z hz;omega
     · exact q,fun hz=>by
     rcases List.mem_cons.1 ((h z).2 (List.mem_cons_of_mem _ hz)) with q | q
     · have:=hy1 z hz;omega
     · exact q⟩]
theorem rise_is {xs zs:List Int} (h:xs.Pairwise (· < ·)) (hm:∀x,x∈xs↔x∈zs):riseZ zs=xs :=
 rise_unique _ _ (rise_sorted zs) h fun x=>(rise_mem zs x).trans (hm x).symm
theorem rise_len (zs:List Int):(riseZ zs).length≤zs.length:=by
 have h:(riseZ zs).length≤(sortZ zs).length:=by
   unfold riseZ Lib.compact compactUpTo
   rw[List.length_map]
   refine Nat.le_trans (List.length_filter_le _ _) ?_
   simp
 rw[sortZ_len]at h
 exact h
theorem rise_nil:riseZ []= []:=rise_is List.Pairwise.nil (fun _=>Iff.rfl)
theorem rise_good (zs:List Int):(riseZ zs).Pairwise (fun x y=>goneK.bad y x=false):=(rise_sorted zs).imp fun {a b} h=>by
 show decide (b≤a)=false
 rw[decide_eq_false_iff_not];omega
abbrev goneO (s:List UInt8):List Int×Nat×Option Nat:=readG goneK s
abbrev goneF (zs:List Int):List UInt8:=fileG goneK zs
end Go.Proofs.YtdhkdjlgmbejnaaGreatDoor
