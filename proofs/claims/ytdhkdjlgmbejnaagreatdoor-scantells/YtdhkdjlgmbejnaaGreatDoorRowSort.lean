/- By an AI agent. -/
import Derived.Test.YtdhkdjlgmbejnaaGreatDoorShelf
import Derived.Test.YtdhkdjlgmbejnaaGreatDoorPure
import Derived.WalkKit
import Derived.StillTailTactics
import Derived.Sort.Grow
import Derived.Deep.QuietTactic
import Derived.BigQuiet
import Derived.Laws.StructEq
import Derived.Shelf.GgSortFunc.RowK
import Derived.Shelf.SlSortCmp.NoneTotal
import Derived.Ground.SlsfProg
import Derived.Lib.OwnBridge
namespace Go.Proofs.YtdhkdjlgmbejnaaGreatDoor
open Go.RowKit Go.Extern.Stop Go.Stop Go.Extern Go.Sort
set_option maxHeartbeats 1000000 in
theorem or3 (x y z:Int) (b:Nat) (w:World) (h0:w.cell? ⟨b,0,none⟩=some (.int .i64 x)) (h1:w.cell? ⟨b,1,none⟩=some (.int .i64 y)) (h2:w.cell? ⟨b,2,none⟩=some (.int .i64 z)) :
   Calls Tryz.prog 143 #[.slice (some ⟨b,0,none⟩) 3 3] w fun e w'=>e= .returned (.int .i64 (orOf x y z))∧w'=w:=by
 unfold orOf
 by_cases e0:x=0
 · subst e0
   by_cases e1:y=0
   · subst e1
     by_cases e2:z=0
     · subst e2
       go_enter Tryz.func143,Tryz.ntmps143
       go_wp2
       refine wp_loop_rounds 4 ?_
       rw[rounds_succ]
       go_wp2
       rw[rounds_succ]
       go_wp2
       rw[rounds_succ]
       go_wp2
       rw[rounds_succ]
       go_wp2
       go_ret
       exact⟨rfl,rfl⟩
     · go_enter Tryz.func143,Tryz.ntmps143
       go_wp2
       refine wp_loop_rounds 3 ?_
       rw[rounds_succ]
       go_wp2
       rw[rounds_succ]
       go_wp2
       rw[rounds_succ]
       go_wp2
       go_ret
       exact⟨rfl,rfl⟩
   · go_enter Tryz.func143,Tryz.ntmps143
     go_wp2
     refine wp_loop_rounds 2 ?_
     rw[rounds_succ]
     go_wp2
     rw[rounds_succ]
     go_wp2
     go_ret
     exact⟨by simp,rfl⟩
 · go_enter Tryz.func143,Tryz.ntmps143
   go_wp2
   refine wp_loop_rounds 1 ?_
   rw[rounds_succ]
   go_wp2
   go_ret
   exact⟨by simp,rfl⟩
theorem grow_alloc {V w:World} {n:Nat} {os:Array Obj} {o:Obj} (h:V=grow (w.drewN n) os):∃q os',V.alloc o=grow (w.drewN q) os':=⟨n,os++ #[o],by rw[alloc_eq_grow,h,grow_grow]⟩
theorem still_tail {P:Program} {id:Nat} {Q:Exit→Act→World→Prop} {a:Act} {w:World} {l:List Oper} (n:Nat) (hm:P.follows .mixedOrders=true) (hB:Region.lexTailB .any l.toArray n=true)
   (h:wpStill P l.toArray w.drew (fun a'=>wpList P l.toArray Q (l.drop n) a' w.drew) (l.take n) a):(Code.region id l.toArray true).wp P Q a w:=wp_region_still_tail n hm hB h
set_option maxRecDepth 100000 in
set_option maxHeartbeats 2000000 in
theorem order_any (x y:Rw) (w:World) :
   Calls Tryz.prog 97 #[.agg #[.string x.1,.int .i64 x.2.1,.int .i64 x.2.2],.agg #[.string y.1,.int .i64 y.2.1,.int .i64 y.2.2]] w fun e w'=>e= .returned (.int .i64 (cfR x y))∧∃q os,w'=grow (w.drewN q) os:=by
 obtain⟨xp,xk,xv⟩:=x
 obtain⟨yp,yk,yv⟩:=y
 have hcb:=Tryz.strings_Compare xp yp
 have hck:=Tryz.cmp_Compare_int xk yk
 have hcv:=Tryz.cmp_Compare_int xv yv
 show Calls Tryz.prog 97 #[.agg #[.string xp,.int .i64 xk,.int .i64 xv],.agg #[.string yp,.int .i64 yk,.int .i64 yv]] w fun e w'=>e= .returned (.int .i64 (cfR (xp,xk,xv) (yp,yk,yv)))∧∃q os,w'=grow (w.drewN q) os
 unfold cfR
 dsimp only
 generalize Lib.compareBytes xp.data.toList yp.data.toList=cb at hcb ⊢
 generalize Lib.compareInt xk yk=ck at hck ⊢
 generalize Lib.compareInt xv yv=cv at hcv ⊢
 have ho:=or3 cb ck cv
 generalize orOf cb ck cv=r at ho ⊢
 have hm:Tryz.prog.follows .mixedOrders=true:=by kernel_rfl
 go_enter Tryz.func97,Tryz.ntmps97
 go_wp2
 refine still_tail 15 hm (by kernel_rfl) ?_
 have c0:((w.alloc (.cells #[.string xp,.int .i64 xk,.int .i64 xv] 54)).alloc (.cells #[.string yp,.int .i64 yk,.int .i64 yv] 54)).drew.cell? ⟨w.heap.size,0,none⟩=some (.string xp):=by simp
 have c1:((w.alloc (.cells #[.string xp,.int .i64 xk,.int .i64 xv] 54)).alloc (.cells #[.string yp,.int .i64 yk,.int .i64 yv] 54)).drew.cell? ⟨w.heap.size,1,none⟩=some (.int .i64 xk):=by simp
 have c2:((w.alloc (.cells #[.string xp,.int .i64 xk,.int .i64 xv] 54)).alloc (.cells #[.string yp,.int .i64 yk,.int .i64 yv] 54)).drew.cell? ⟨w.heap.size,2,none⟩=some (.int .i64 xv):=by simp
 have c3:((w.alloc (.cells #[.string xp,.int .i64 xk,.int .i64 xv] 54)).alloc (.cells #[.string yp,.int .i64 yk,.int .i64 yv] 54)).drew.cell? ⟨w.heap.size+1,0,none⟩=some (.string yp):=by simp
 have c4:((w.alloc (.cells #[.string xp,.int .i64 xk,.int .i64 xv] 54)).alloc (.cells #[.string yp,.int .i64 yk,.int .i64 yv] 54)).drew.cell? ⟨w.heap.size+1,1,none⟩=some (.int .i64 yk):=by simp
 have c5:((w.alloc (.cells #[.string xp,.int .i64 xk,.int .i64 xv] 54)).alloc (.cells #[.string yp,.int .i64 yk,.int .i64 yv] 54)).drew.cell? ⟨w.heap.size+1,2,none⟩=some (.int .i64 yv):=by simp
 have hV:Hid (((w.alloc (.cells #[.string xp,.int .i64 xk,.int .i64 xv] 54)).alloc (.cells #[.string yp,.int .i64 yk,.int .i64 yv] 54)).drew=grow (w.drewN 1) #[.cells #[.string xp,.int .i64 xk,.int .i64 xv] 54,.cells #[.string yp,.int .i64 yk,.int .i64 yv] 54]):=by
   show _=_
   rw[alloc_eq_grow,alloc_eq_grow,grow_grow];rfl
 generalize ((w.alloc (.cells #[.string xp,.int .i64 xk,.int .i64 xv] 54)).alloc (.cells #[.string yp,.int .i64 yk,.int .i64 yv] 54)).drew=V at c0 c1 c2 c3 c4 c5 hV ⊢
 simp only[List.take_succ_cons,List.take_zero,List.drop_succ_cons,List.drop_zero]
 still_step
 still_step
 still_step
 still_step
 still_call (hcb _)
 still_step
 still_step
 still_step
 still_step
 still_call (hck _)
 still_step
 still_step
 still_step
 still_step
 still_call (hcv _)
 refine wpStill_nil ?_
 go_wp2_with (go_at_call 143;refine(ho V.heap.size _ (by simp) (by simp) (by simp)).mono ?_;rintro e w' ⟨rfl,rfl⟩)
 go_ret
 exact⟨rfl,grow_alloc hV.out⟩
end Go.Proofs.YtdhkdjlgmbejnaaGreatDoor
namespace Go.Proofs.YtdhkdjlgmbejnaaGreatDoor
open Go.RowKit Go.Extern.Stop Go.Stop Go.Extern Go.Sort Go.Shelf Go.Lib
theorem cell_lt {W:World} {p:Addr} {v:Value} (h:W.cell? p=some v):p.block<W.heap.size:=by
 rcases Nat.lt_or_ge p.block W.heap.size with h' | h'
 · exact h'
 · simp[World.cell?,Array.getElem?_eq_none h']at h
theorem below_keep {W W':World} (hb:Below W.heap.size W W') {p:Addr} {v:Value} (h:W.cell? p=some v):W'.cell? p=some v :=
 (hb.cell (cell_lt h)).trans h
theorem below_drewN {B:Nat} {a w:World} (h:Below B a w) (n:Nat):Below B a (w.drewN n):=⟨h.os,h.tape,h.output,h.size,h.block⟩
theorem below_grow {w:World} (os:Array Obj):Below w.heap.size w (grow w os) :=
 ⟨rfl,rfl,rfl,by simp[grow],fun k hk=>by simp[grow,Array.getElem?_append,hk]⟩
def RowCells (w:World) (b o:Nat) (xs:List Rw):Prop :=
 ∀j (h:j<xs.length),w.cell? ⟨b,o+j*3,none⟩=some (.string xs[j].1)∧w.cell? ⟨b,o+j*3+1,none⟩=some (.int .i64 xs[j].2.1)∧w.cell? ⟨b,o+j*3+2,none⟩=some (.int .i64 xs[j].2.2)
def RowsAt (w:World) (v:Value) (xs:List Rw):Prop :=
 (∃p c,v= .slice p 0 c∧xs= [])∨∃b o cap,v= .slice (some ⟨b,o,none⟩) xs.length cap∧RowCells w b o xs
theorem RowCells.below {w w':World} {b o:Nat} {xs:List Rw} (h:RowCells w b o xs) (hb:Below w.heap.size w w'):RowCells w' b o xs :=
 fun j hj=>⟨below_keep hb (h j hj).1,below_keep hb (h j hj).2.1,below_keep hb (h j hj).2.2⟩
theorem RowsAt.below {w w':World} {v:Value} {xs:List Rw} (h:RowsAt w v xs) (hb:Below w.heap.size w w'):RowsAt w' v xs:=by
 rcases h with h | ⟨b,o,cap,hv,hc⟩
 · exact Or.inl h
 · exact Or.inr ⟨b,o,cap,hv,hc.below hb⟩
theorem eqRow:EqlAt Tryz.prog 54 (fun x:Rw=>.agg (encR x).toArray) (fun x y=>decide (x=y)):=by
 refine⟨fun x y w=>?_,GuardAt.agg _ (by kernel_rfl)⟩
 have u3:=Tryz.underlying3
 have u9:=Tryz.underlying9
 have a3:=Tryz.isAgg3
 have z3:=Tryz.sizeOf3
 have a9:=Tryz.isAgg9
 have z9:=Tryz.sizeOf9
 have hS:Tryz.prog.underlying 54=some (.struct (Tryz.prog.fieldsOf 54)):=by kernel_rfl
 have hp:Tryz.prog.stoodInHeld 54=false:=by kernel_rfl
 obtain⟨xp,xk,xv⟩:=x
 obtain⟨yp,yk,yv⟩:=y
 simp only[encR]
 rw[run_eql_struct,show (10000:Nat)=9999+1 from rfl,run_equalIn_agg w 9999 54 _ _ hS hp]
 simp only[Program.fieldsOf,Tryz.underlying54]
 go_simp
 by_cases h1:xp=yp
 · by_cases h2:xk=yk<;>by_cases h3:xv=yv<;>simp [h1,h2,h3]
 · have h1':¬xp.toList=yp.toList:=fun e=>h1 (part_ext (by rwa [ByteArray.toList_eq,ByteArray.toList_eq]at e))
   simp[h1,h1']
theorem neqRow:NeqAt Tryz.prog 54 (fun x:Rw=>.agg (encR x).toArray) (fun x y=>decide (x=y)):=by
 refine⟨fun x y w=>?_,eqRow.2⟩
 have h:=eqRow.1 x y w
 simp only[encR]at h ⊢
 rw[run_eql_struct]at h
 rw[run_neq_struct]
 generalize Sem.run Tryz.prog (Op.equalIn 10000 54 _ _) w=r at h ⊢
 cases r with
 | ok b w' =>
   simp only[Result.andThen,Result.ok.injEq,Value.bool.injEq]at h ⊢
   exact⟨by rw[h.1],h.2⟩
 | halt z w'=>simp [Result.andThen]at h
def longB (m:Int) (xs:List Rw):Bool:=decide (m<xs.length) || xs.any fun x=>decide (30<x.1.size)
def longN (m:Int) (xs:List Rw):Int:=if longB m xs then 1 else 0
theorem longN_yes {m:Int} {xs:List Rw} (h:longB m xs=true):longN m xs=1:=by simp[longN,h]
theorem longN_no {m:Int} {xs:List Rw} (h:longB m xs=false):longN m xs=0:=by simp[longN,h]
theorem parts_succ {xs:List Rw} {n:Nat} (h:∀j (h:j<xs.length),j<n→xs[j].1.size≤30) (hn:n<xs.length) (e:xs[n].1.size≤30):∀j (h:j<xs.length),j<n+1→xs[j].1.size≤30:=fun j hj hjn=>by
 rcases Nat.lt_or_ge j n with h' | h'
 · exact h j hj h'
 · obtain rfl:j=n:=by omega
   exact e
set_option maxHeartbeats 1000000 in
theorem longRows_any (v:Value) (xs:List Rw) (m:Int) (w:World) (h:RowsAt w v xs) (hl:xs.length≤maxLen) (h0:0≤m) :
   Calls Tryz.prog 29 #[v,.int .i64 m] w fun e w'=>e= .returned (.int .i64 (longN m xs))∧w'=w:=by
 unfold maxLen at hl
 rcases h with⟨p,c,rfl,rfl⟩|⟨b,o,cap,rfl,hc⟩
 · have hr:longN m []=0:=longN_no (by simp[longB];omega)
   rw[hr]
   clear hl hr
   go_enter Tryz.func29,Tryz.ntmps29
   go_wp2
   refine wp_loop_rounds 1 ?_
   rw[rounds_succ]
   go_wp2
   go_ret
   exact⟨rfl,rfl⟩
 · generalize hL:xs.length=L at hl ⊢
   have HL:Hid (xs.length=L):=hL
   clear hL
   by_cases hm:m<(L:Int)
   · have hr:longN m xs=1:=longN_yes (by simp[longB,HL.out,hm])
     rw[hr]
     go_enter Tryz.func29,Tryz.ntmps29
     go_wp2
     go_ret
     exact⟨rfl,rfl⟩
   · go_enter Tryz.func29,Tryz.ntmps29
     go_wp2
     go_loop [5] (fun k=> ∃n:Nat,n≤L∧(∀j (h:j<xs.length),j<n→xs[j].1.size≤30)∧k= .int .i64 n) (fun k=>L-(intOf k).toNat)
     case atStart=>exact ⟨0,by omega,by omega,rfl⟩
     case round =>
       obtain⟨n,hn,ht,rfl⟩:=hrel
       have HT:Hid (∀j (h:j<xs.length),j<n→xs[j].1.size≤30):=ht
       clear ht
       by_cases hlt:n<L
       · have hlt':n<xs.length:=by rw[HL.out];exact hlt
         have c1:=(hc n hlt').1
         generalize hp:xs[n].1=p at c1
         have HP:Hid (xs[n].1=p):=hp
         clear hp hc
         have hi:(n:Int)<(L:Int):=by omega
         by_cases e:30<p.size
         · have hr:longB m xs=true:=by
             simp only[longB,Bool.or_eq_true,List.any_eq_true,decide_eq_true_eq]
             exact Or.inr ⟨xs[n],List.getElem_mem _,by rw[HP.out];exact e⟩
           have HR:Hid (longN m xs=1):=longN_yes hr
           clear hr
           have e':(30:Int)<(p.size:Int):=by omega
           go_wp2
           go_ret
           exact⟨by rw[HR.out];rfl,rfl⟩
         · have e':¬(30:Int)<(p.size:Int):=by omega
           go_wp2
           go_round
           case rel=>exact ⟨n+1,by omega,parts_succ HT.out hlt' (by rw[HP.out];omega),by go_num⟩
           case measure=>simp [intOf];omega
       · have hr:longB m xs=false:=by
           simp only[longB,Bool.or_eq_false_iff,decide_eq_false_iff_not,List.any_eq_false,decide_eq_true_eq]
           refine⟨by rw[HL.out];omega,fun x hx=>?_⟩
           obtain⟨j,hj,rfl⟩:=List.mem_iff_getElem.1 hx
           have:=HT.out j hj (by rw[HL.out]at hj;omega)
           omega
         have HR:Hid (longN m xs=0):=longN_no hr
         have hn':n=L:=by omega
         subst hn'
         clear hr
         go_wp2
         go_ret
         exact⟨by rw[HR.out];rfl,rfl⟩
def flatR (xs:List Rw):List Value:=xs.flatMap encR
theorem encR_len (x:Rw):(encR x).length=3:=rfl
theorem encR_one (x:Rw):∀u∈encR x,u.oneCell'=true:=by
 intro u hu
 simp only[encR,List.mem_cons,List.not_mem_nil,or_false]at hu
 rcases hu with rfl | rfl | rfl<;>rfl
theorem flat_len:∀xs:List Rw,(flatR xs).length=xs.length*3
 | []=>rfl
 | x :: xs=>by
   have:=flat_len xs
   simp only[flatR,List.flatMap_cons,List.length_append,List.length_cons]at *
   rw[this,encR_len];omega
theorem flat_one (xs:List Rw):∀u∈flatR xs,u.oneCell'=true:=by
 intro u hu
 simp only[flatR,List.mem_flatMap]at hu
 obtain⟨x,_,hx⟩:=hu
 exact encR_one x u hx
theorem flat_append (xs ys:List Rw):flatR (xs++ys)=flatR xs++flatR ys:=by simp[flatR]
theorem flat_get:∀(xs:List Rw) (j c:Nat) (h:j<xs.length),c<3→(flatR xs)[j*3+c]? =(encR xs[j])[c]?
 | [],j,_,h,_=>by simp at h
 | x :: xs,0,c,_,hc=>by
   simp only[flatR,List.flatMap_cons,Nat.zero_mul,Nat.zero_add,List.getElem_cons_zero]
   rw[List.getElem?_append_left (by rw[encR_len];exact hc)]
 | x :: xs,j+1,c,h,hc=>by
   have hj:j<xs.length:=by simp at h;omega
   have:=flat_get xs j c hj hc
   simp only[flatR,List.flatMap_cons,List.getElem_cons_succ]at *
   rw[List.getElem?_append_right (by rw[encR_len];omega),encR_len,show (j+1)*3+c-3=j*3+c by omega]
   exact this
theorem cells_of_flat {w:World} {b o:Nat} {xs:List Rw} (h:RowCells w b o xs):∀t u,(flatR xs)[t]? =some u→w.cell? ⟨b,o+t,none⟩=some u:=by
 intro t u hu
 have ht:t<(flatR xs).length:=by
   rcases Nat.lt_or_ge t (flatR xs).length with h' | h'
   · exact h'
   · rw[List.getElem?_eq_none h']at hu;cases hu
 rw[flat_len]at ht
 have hj:t / 3<xs.length:=by omega
 have e:t=t / 3*3+t % 3:=by omega
 rw[e,flat_get xs (t / 3) (t % 3) hj (by omega)]at hu
 obtain⟨h0,h1,h2⟩:=h (t / 3) hj
 have hm:t % 3=0∨t % 3=1∨t % 3=2:=by omega
 rcases hm with hm | hm | hm
 · rw[hm]at hu
   simp only[encR,List.getElem?_cons_zero,Option.some.injEq]at hu
   rw[←hu,←h0];congr 2;omega
 · rw[hm]at hu
   simp only[encR,List.getElem?_cons_succ,List.getElem?_cons_zero,Option.some.injEq]at hu
   rw[←hu,←h1];congr 2;omega
 · rw[hm]at hu
   simp only[encR,List.getElem?_cons_succ,List.getElem?_cons_zero,Option.some.injEq]at hu
   rw[←hu,←h2];congr 2;omega
theorem rowCells_of {w:World} {b o:Nat} {xs:List Rw} (h:∀t u,(flatR xs)[t]? =some u→w.cell? ⟨b,o+t,none⟩=some u):RowCells w b o xs:=fun j hj =>
 ⟨h (j*3) _ (by have:=flat_get xs j 0 hj (by omega);simpa [encR] using this),
  by have:=h (j*3+1) _ (by have:=flat_get xs j 1 hj (by omega);simpa [encR] using this);rw[←Nat.add_assoc]at this;exact this,
  by have:=h (j*3+2) _ (by have:=flat_get xs j 2 hj (by omega);simpa [encR] using this);rw[←Nat.add_assoc]at this;exact this⟩
theorem own_cases {w:World} {base:Nat} {v:Value} {n:Nat} {xs:List Rw} (h:w.ownsRow base 54 3 v n (flatR xs)):n=xs.length∧((v= .slice none 0 0∧xs= [])∨∃g cap,v= .slice (some ⟨g,0,none⟩) xs.length cap∧RowCells w g 0 xs):=by
 obtain⟨hl,h⟩:=h
 have hn:n=xs.length:=by rw[flat_len]at hl;omega
 refine⟨hn,?_⟩
 subst hn
 rcases h with⟨hv,hn⟩|⟨g,cap,cur,rfl,_,hg,_,_,_,ht⟩
 · exact Or.inl ⟨hv,List.length_eq_zero_iff.1 hn⟩
 · refine Or.inr ⟨g,cap,rfl,rowCells_of fun t u hu=>?_⟩
   have ht':t<xs.length*3:=by
     rw[←flat_len]
     rcases Nat.lt_or_ge t (flatR xs).length with h' | h'
     · exact h'
     · rw[List.getElem?_eq_none h']at hu;cases hu
   rw[←ht,List.getElem?_take,if_pos ht']at hu
   simp only[World.cell?,hg,Nat.zero_add]
   simpa using hu
theorem rowsAt_of_own {w:World} {base:Nat} {v:Value} {n:Nat} {xs:List Rw} (h:w.ownsRow base 54 3 v n (flatR xs)):RowsAt w v xs∧n=xs.length:=by
 obtain⟨hn,h⟩:=own_cases h
 refine⟨?_,hn⟩
 rcases h with⟨hv,hx⟩|⟨g,cap,hv,hc⟩
 · exact Or.inl ⟨none,0,hv,hx⟩
 · exact Or.inr ⟨g,0,cap,hv,hc⟩
theorem flatK_flatR (xs:List Rw):flatK encR 3 xs.toArray=(flatR xs).toArray:=by
 refine ext_get! (by simp[flat_len]) fun t ht=>?_
 simp only[size_flatK,List.size_toArray]at ht
 rw[get_flatK _ _ _ _ (by simpa using ht)]
 have hj:t / 3<xs.length:=by omega
 have:=flat_get xs (t / 3) (t % 3) hj (by omega)
 rw[show t / 3*3+t % 3=t by omega]at this
 simp only[List.getElem!_toArray,List.getElem!_eq_getElem?_getD,this]
 rw[List.getElem?_eq_getElem hj]
 rfl
end Go.Proofs.YtdhkdjlgmbejnaaGreatDoor
namespace Go.Proofs
open Go.Shelf
def Tryz.sortRow_ren:Go.Shelf.Ren:=⟨fun | 6=>96 | 15=>111 | 14=>142 | 28=>164 | 29=>165 | 20=>184 | 21=>185 | 22=>186 | 23=>187 | 24=>188 | 25=>189 | 26=>190 | 27=>191 | 46=>218 | 47=>196 | 48=>197 | 49=>219 | 50=>220 | 57=>239 | n=>n,fun | 22=>33 | 24=>54 | 25=>152 | 3=>3 | 39=>172 | 0=>0 | 53=>183 | 55=>232 | 4=>4 | 46=>225 | 45=>224 | 50=>119 | 5=>5 | 9=>9 | 66=>270 | 70=>274 | 76=>289 | 77=>107 | n=>n,fun | n=>n⟩
theorem Tryz.sortRow:Go.Proofs.SlLaysF0.n6 Tryz.prog Tryz.sortRow_ren:= {
 mixed:=by kernel_rfl
 f6:=⟨Tryz.f96.name,by decide,Tryz.func96.trans (congrArg some (by kernel_rfl))⟩
 f14:=⟨Tryz.f142.name,by decide,Tryz.func142.trans (congrArg some (by kernel_rfl))⟩
 f15:=Tryz.func111.trans (congrArg some (by kernel_rfl))
 f20:=⟨Tryz.f184.name,by decide,Tryz.func184.trans (congrArg some (by kernel_rfl))⟩
 f21:=⟨Tryz.f185.name,by decide,Tryz.func185.trans (congrArg some (by kernel_rfl))⟩
 f22:=⟨Tryz.f186.name,by decide,Tryz.func186.trans (congrArg some (by kernel_rfl))⟩
 f23:=⟨Tryz.f187.name,by decide,Tryz.func187.trans (congrArg some (by kernel_rfl))⟩
 f24:=⟨Tryz.f188.name,by decide,Tryz.func188.trans (congrArg some (by kernel_rfl))⟩
 f25:=⟨Tryz.f189.name,by decide,Tryz.func189.trans (congrArg some (by kernel_rfl))⟩
 f26:=⟨Tryz.f190.name,by decide,Tryz.func190.trans (congrArg some (by kernel_rfl))⟩
 f27:=⟨Tryz.f191.name,by decide,Tryz.func191.trans (congrArg some (by kernel_rfl))⟩
 f28:=Tryz.func164.trans (congrArg some (by kernel_rfl))
 f29:=Tryz.func165.trans (congrArg some (by kernel_rfl))
 f46:=⟨Tryz.f218.name,by decide,Tryz.func218.trans (congrArg some (by kernel_rfl))⟩
 f47:=Tryz.func196.trans (congrArg some (by kernel_rfl))
 f48:=Tryz.func197.trans (congrArg some (by kernel_rfl))
 f49:=⟨Tryz.f219.name,by decide,Tryz.func219.trans (congrArg some (by kernel_rfl))⟩
 f50:=⟨Tryz.f220.name,by decide,Tryz.func220.trans (congrArg some (by kernel_rfl))⟩
 f57:=⟨Tryz.f239.name,by decide,Tryz.func239.trans (congrArg some (by kernel_rfl))⟩
 t0:=Tryz.underlying0
 a0:=Tryz.isAgg0
 z0:=Tryz.sizeOf0
 v0:=Tryz.zeroValue0
 t3:=Tryz.underlying3
 a3:=Tryz.isAgg3
 z3:=Tryz.sizeOf3
 v3:=Tryz.zeroValue3
 t4:=Tryz.underlying4
 a4:=Tryz.isAgg4
 z4:=Tryz.sizeOf4
 v4:=Tryz.zeroValue4
 t5:=Tryz.underlying5
 a5:=Tryz.isAgg5
 z5:=Tryz.sizeOf5
 v5:=Tryz.zeroValue5
 t9:=Tryz.underlying9
 a9:=Tryz.isAgg9
 z9:=Tryz.sizeOf9
 v9:=Tryz.zeroValue9
 t22:=Tryz.underlying33
 a22:=Tryz.isAgg33
 z22:=Tryz.sizeOf33
 v22:=Tryz.zeroValue33
 t25:=Tryz.underlying152
 a25:=Tryz.isAgg152
 z25:=Tryz.sizeOf152
 v25:=Tryz.zeroValue152
 t39:=Tryz.underlying172
 a39:=Tryz.isAgg172
 z39:=Tryz.sizeOf172
 v39:=Tryz.zeroValue172
 t45:=Tryz.underlying224
 a45:=Tryz.isAgg224
 z45:=Tryz.sizeOf224
 v45:=Tryz.zeroValue224
 t46:=Tryz.underlying225
 a46:=Tryz.isAgg225
 z46:=Tryz.sizeOf225
 v46:=Tryz.zeroValue225
 t50:=Tryz.underlying119
 a50:=Tryz.isAgg119
 z50:=Tryz.sizeOf119
 v50:=Tryz.zeroValue119
 t53:=Tryz.underlying183
 a53:=Tryz.isAgg183
 z53:=Tryz.sizeOf183
 v53:=Tryz.zeroValue183
 t55:=Tryz.underlying232
 a55:=Tryz.isAgg232
 z55:=Tryz.sizeOf232
 v55:=Tryz.zeroValue232
 t66:=Tryz.underlying270
 a66:=Tryz.isAgg270
 z66:=Tryz.sizeOf270
 v66:=Tryz.zeroValue270
 t70:=Tryz.underlying274
 a70:=Tryz.isAgg274
 z70:=Tryz.sizeOf274
 v70:=Tryz.zeroValue274
 t76:=Tryz.underlying289
 a76:=Tryz.isAgg289
 z76:=Tryz.sizeOf289
 v76:=Tryz.zeroValue289
 t77:=Tryz.underlying107
 a77:=Tryz.isAgg107
 z77:=Tryz.sizeOf107
 v77:=Tryz.zeroValue107 }
end Go.Proofs
namespace Go.Proofs.YtdhkdjlgmbejnaaGreatDoor
open Go.RowKit Go.Extern.Stop Go.Stop Go.Extern Go.Sort Go.Shelf Go.Lib
def sortR (xs:List Rw):List Rw:=xs.mergeSort fun x y=> !(ltOf cfR) y x
theorem sortR_len (xs:List Rw):(sortR xs).length=xs.length:=by simp[sortR]
theorem sortR_perm (xs:List Rw):(sortR xs).Perm xs:=List.mergeSort_perm _ _
theorem order_lays (blk off size:Nat) (w:World):CmpLays Tryz.prog 97 #[] encR 3 cfR blk off size w :=
 fun _ _ _ _ x y=>order_any x y _
theorem holdsK_of_own {w:World} {base:Nat} {v:Value} {n:Nat} {xs:List Rw} (h:w.ownsRow base 54 3 v n (flatR xs)) (hv:v≠ .slice none 0 0) :
   ∃g cap,v= .slice (some ⟨g,0,none⟩) xs.length cap∧base≤g∧g<w.heap.size∧HoldsK encR 3 w g 0 xs.toArray:=by
 obtain⟨hl,h⟩:=h
 have hn:n=xs.length:=by rw[flat_len]at hl;omega
 subst hn
 rcases h with⟨e,_⟩|⟨g,cap,cur,rfl,hb,hg,_,_,_,ht⟩
 · exact absurd e hv
 · have hlt:g<w.heap.size:=by
     rcases Nat.lt_or_ge g w.heap.size with h' | h'
     · exact h'
     · rw[Array.getElem?_eq_none h']at hg;cases hg
   refine⟨g,cap,rfl,hb,hlt,?_⟩
   unfold HoldsK
   rw[flatK_flatR]
   intro j hj
   have hj':j<xs.length*3:=by simpa [flat_len] using hj
   refine⟨?_,by simp[World.frozen?,hg]⟩
   have e1:(cur.toList.take (xs.length*3))[j]? =(flatR xs)[j]? :=by rw[ht]
   rw[List.getElem?_take,if_pos hj',Array.getElem?_toList]at e1
   simp only[World.cell?,hg,Nat.zero_add]
   simp only[Option.isSome_none,Bool.false_eq_true,if_false]
   rw[e1]
   have hj2:j<(flatR xs).length:=by rw[flat_len];exact hj'
   simp[List.getElem?_eq_getElem hj2]
theorem rowCells_of_holdsK {w:World} {g:Nat} {xs:List Rw} (h:HoldsK encR 3 w g 0 xs.toArray):RowCells w g 0 xs:=by
 refine rowCells_of fun t u hu=>?_
 have ht:t<(flatR xs).length:=by
   rcases Nat.lt_or_ge t (flatR xs).length with h' | h'
   · exact h'
   · rw[List.getElem?_eq_none h']at hu;cases hu
 unfold HoldsK at h
 rw[flatK_flatR]at h
 have:=(h t (by simpa using ht)).1
 rw[this]
 rw[List.getElem?_eq_getElem ht]at hu
 simpa [List.getElem?_eq_getElem ht] using hu
theorem Tryz.rowInfo3:(Tryz.prog.info? 54).map (fun i=>(i.zero,i.size,i.bytes))=some (some (.agg #[.string ⟨#[]⟩,.int .i64 0,.int .i64 0]),3,32):=by kernel_rfl
theorem Tryz.rowInfo:∃i0:TypeInfo,Tryz.prog.info? 54=some i0∧i0.zero=some (.agg #[.string ⟨#[]⟩,.int .i64 0,.int .i64 0])∧i0.size=3∧i0.bytes=32:=by
 obtain⟨i,hi,h⟩:=Option.map_eq_some_iff.1 Tryz.rowInfo3
 simp only[Prod.mk.injEq]at h
 exact⟨i,hi,h.1,h.2.1,h.2.2⟩
set_option maxRecDepth 100000 in
set_option maxHeartbeats 1000000 in
theorem clone_zero (ad:Addr) (c:Nat) (w:World) :
   Calls Tryz.prog 95 #[.slice (some ad) 0 c] w fun e w'=> ∃v',e= .returned v'∧w'.ownsRow w.heap.size 54 3 v' ([]:List Rw).length (flatR [])∧Below w.heap.size w w':=by
 obtain⟨i0,hi,hz,hs,hby⟩:=Tryz.rowInfo
 have q22:∀(w:World) (a:Option Addr) (n c n' c':Nat),(binOp .eql 33 (.slice a n c) (.slice none n' c')).run Tryz.prog w= .ok (.bool a.isNone) w:=fun w a n c n' c'=>Lib.run_eql_slice_nil w _ _ a n c n' c' Tryz.underlying33
 go_enter Tryz.func95,Tryz.ntmps95
 go_wp2_with (at_builtin;refine wpList_append_own _ rfl _ _ 33 rfl w.heap.size 54 i0 (.agg #[.string ⟨#[]⟩,.int .i64 0,.int .i64 0]) 3 32 Tryz.underlying33 hi hz hs hby rfl (by decide) _ _ _ rfl (World.ownsRow_made w #[] 0 (Nat.le_refl _) (Nat.zero_le _) (by simp)) ad 0 c [] rfl ?qc1 ?qc2 ?qc3 ?qc4 ?qc5 ?qc6 ?_)
 case qc1=>rfl
 case qc2=>intro j u hj;simp at hj
 case qc3=>intro u hu;cases hu
 case qc4=>decide
 case qc5=>decide
 case qc6=>simp
 intro v' w1 hown hgrow hnil
 go_wp2
 go_ret
 refine⟨v',rfl,by simpa [flatR] using hown,?_⟩
 exact((Below.refl _ w).alloc (Nat.le_refl _) _).grown hgrow (by simp) (by intro k hk;simp[Value.ownBlock]at hk;omega)
theorem clone_any (v:Value) (xs:List Rw) (w:World) (h:RowsAt w v xs) (hl:xs.length≤20000) :
   Calls Tryz.prog 95 #[v] w fun e w'=> ∃v',e= .returned v'∧w'.ownsRow w.heap.size 54 3 v' xs.length (flatR xs)∧Below w.heap.size w w':=by
 rcases h with⟨p,c,rfl,rfl⟩|⟨b,o,cap,rfl,hc⟩
 · cases p with
   | none =>
     have hcon:=AnyE.slices_Clone_nil Tryz.cloneRow 0 c w
     change Calls Tryz.prog 95 _ _ _ at hcon
     refine hcon.mono fun e w' ⟨he,hw⟩=>⟨_,he,?_,?_⟩
     · exact World.ownsRow_nil _ _ _ _
     · subst hw;exact Below.refl _ _
   | some ad=>exact clone_zero ad c w
 · obtain⟨i0,hi,hz,hs,hby⟩:=Tryz.rowInfo
   have hcon:=AnyE.slices_Clone Tryz.cloneRow i0 _ 3 32 hi hz hs hby rfl (by decide) Tryz.sizeOf54 b o xs.length cap (flatR xs) w (flat_len xs) (by unfold maxLen;omega) (by omega) (cells_of_flat hc) (flat_one xs)
   change Calls Tryz.prog 95 _ _ _ at hcon
   exact hcon.mono fun e w' ⟨v',he,ho,_,hb⟩=>⟨v',he,ho,hb⟩
theorem sortFunc_any (v:Value) (xs:List Rw) (B:Nat) (w0 w:World) (hb:Below B w0 w) (hB:B≤w0.heap.size) (h:w.ownsRow B 54 3 v xs.length (flatR xs)) (hl:xs.length≤20000) :
   Calls Tryz.prog 96 #[v,.func (.func 97) #[] #[]] w fun e w'=>e= .returned (.tuple #[])∧RowsAt w' v (sortR xs)∧Below B w0 w':=by
 by_cases hv:v= .slice none 0 0
 · subst hv
   have hx:xs= []:=by
     rcases h.2 with⟨_,hn⟩|⟨g,cap,cur,e,_⟩
     · exact List.length_eq_zero_iff.1 hn
     · cases e
   subst hx
   have hcon:=AnyF.slices_SortFunc_none Tryz.sortRow none 0 (.func (.func 97) #[] #[]) w
   change Calls Tryz.prog 96 _ _ _ at hcon
   refine hcon.mono fun e w' ⟨he,hw⟩=>⟨he,Or.inl ⟨none,0,rfl,by simp[sortR]⟩,?_⟩
   subst hw;exact hb
 · obtain⟨g,cap,rfl,hbg,hlt,hH⟩:=holdsK_of_own h hv
   have eg:∀args w,(callFunc 97 args).run Tryz.prog w= .ok (.enter 97 args) w:=enters_of Tryz.func97 (by kernel_rfl) rfl
   have hcon:=AnyQ.slices_SortFunc_total Tryz.sortRow 3 Tryz.isAgg54 Tryz.sizeOf54 encR encR_len encR_one cfR swoR 97 #[] g 0 cap xs.toArray w eg (order_lays _ _ _ _) hH hlt (by simp;omega) totR
   change Calls Tryz.prog 96 _ _ _ at hcon
   rw[List.size_toArray]at hcon
   refine hcon.mono fun e w' ⟨he,n,os,hw⟩=>⟨he,?_,?_⟩
   · subst hw
     refine Or.inr ⟨g,0,cap,by rw[sortR_len],rowCells_of_holdsK ?_⟩
     exact holdsK_sortWorldK encR 3 w g 0 n xs.toArray (sortR xs).toArray os hlt hH (by simp[sortR_len])
   · subst hw
     have h1:Below B w0 (putRowK encR 3 (Sort.ahead w n) g 0 (xs.toArray.toList.mergeSort fun x y=> !(ltOf cfR) y x).toArray):=below_putRow hb hbg
     exact h1.trans ((below_grow os).mono (Nat.le_trans hB h1.size))
set_option maxHeartbeats 1000000 in
theorem sort_any (v:Value) (xs:List Rw) (w:World) (h:RowsAt w v xs) (hl:xs.length≤20000) :
   Calls Tryz.prog 43 #[v] w fun e w'=> ∃v',e= .returned v'∧RowsAt w' v' (sortR xs)∧Below w.heap.size w w':=by
 have hc:=clone_any v xs w h hl
 clear h
 go_enter Tryz.func43,Tryz.ntmps43
 go_wp2_with (first
   | (go_at_call 95;refine hc.mono ?_;rintro e w1 ⟨v1,rfl,ho,hb⟩;have hs:=sortFunc_any v1 xs w.heap.size w w1 hb (Nat.le_refl _) ho hl;clear ho)
   | (go_at_call 96;refine hs.mono ?_;rintro e w2 ⟨rfl,hr,hb2⟩))
 go_ret
 exact⟨_,rfl,hr,hb2⟩
end Go.Proofs.YtdhkdjlgmbejnaaGreatDoor
