/- By an AI agent. -/
import Derived.Test.YtgckdomafbnmkaaGreatDoorBl
import Derived.Test.YtgckdomafbnmkaaGreatDoorShelf
import Derived.Test.YtgckdomafbnmkaaGreatDoorPure
import Derived.WalkKit
import Derived.StillTailTactics
import Derived.Sort.Grow
import Derived.Deep.QuietTactic
import Derived.BigQuiet
import Derived.Laws.StructEq
import Derived.Shelf.GgSortFunc.RowK
import Derived.Shelf.SlSortCmp.NoneTotal
import Derived.Ground.SlsfProg
import Derived.Lib.OwnBridge
set_option maxRecDepth 100000
set_option maxHeartbeats 16000000
namespace Go.Proofs.YtgckdomafbnmkaaGreatDoor
open Go.RowKit Go.Extern.Stop Go.Stop Go.Extern Go.Sort
theorem or3 (x y z:Int) (b:Nat) (w:World) (g:w.cell? ⟨b,0,none⟩=some (.int .i64 x)) (i:w.cell? ⟨b,1,none⟩=some (.int .i64 y)) (j:w.cell? ⟨b,2,none⟩=some (.int .i64 z)) :
  Calls Tryz.prog 148 #[.slice (some ⟨b,0,none⟩) 3 3] w fun e w'=>e= .returned (.int .i64 (orOf x y z))/\w'=w:=by
 unfold orOf;by_cases c:x=0
 ·subst c;by_cases d:y=0
  ·subst d;by_cases f:z=0
   ·subst f
    go_enter Tryz.func148,Tryz.ntmps148
    go_wp2;refine wp_loop_rounds 4 ?_;rw[rounds_succ];go_wp2;rw[rounds_succ];go_wp2;rw[rounds_succ];go_wp2;rw[rounds_succ];go_wp2;go_ret;exact⟨rfl,rfl⟩
   ·go_enter Tryz.func148,Tryz.ntmps148
    go_wp2;refine wp_loop_rounds 3 ?_;rw[rounds_succ];go_wp2;rw[rounds_succ];go_wp2;rw[rounds_succ];go_wp2;go_ret;exact⟨rfl,rfl⟩
  ·go_enter Tryz.func148,Tryz.ntmps148
   go_wp2;refine wp_loop_rounds 2 ?_;rw[rounds_succ];go_wp2;rw[rounds_succ];go_wp2;go_ret;exact⟨by simp,rfl⟩
 ·go_enter Tryz.func148,Tryz.ntmps148
  go_wp2;refine wp_loop_rounds 1 ?_;rw[rounds_succ];go_wp2;go_ret;exact⟨by simp,rfl⟩
theorem zb0u {V w:World} {n:Nat} {os:Array Obj} {o:Obj} (h:V=grow (w.drewN n) os):∃q os',V.alloc o=grow (w.drewN q) os':=⟨n,os++ #[o],by rw[alloc_eq_grow,h,grow_grow]⟩
theorem za1s {P:Program} {b:Nat} {Q:Exit->Act->World->Prop} {a:Act} {w:World} {l:List Oper} (n:Nat) (c:P.follows .mixedOrders=true) (d:Region.lexTailB .any l.toArray n=true)
 (h:wpStill P l.toArray w.drew (fun a'=>wpList P l.toArray Q (l.drop n) a' w.drew) (l.take n) a):(Code.region b l.toArray true).wp P Q a w:=wp_region_still_tail n c d h
theorem za1t (x y:Rw) (w:World) :
  Calls Tryz.prog 106 #[.agg #[.string x.1,.int .i64 x.2.1,.int .i64 x.2.2],.agg #[.string y.1,.int .i64 y.2.1,.int .i64 y.2.2]] w fun e w'=>e= .returned (.int .i64 (cfR x y))/\∃q os,w'=grow (w.drewN q) os:=by
 obtain⟨b,c,d⟩:=x;obtain⟨f,g,i⟩:=y;have j:=Tryz.strings_Compare b f;have k:=Tryz.cmp_Compare_int c g;have l:=Tryz.cmp_Compare_int d i;show Calls Tryz.prog 106 #[.agg #[.string b,.int .i64 c,.int .i64 d],.agg #[.string f,.int .i64 g,.int .i64 i]] w fun e w'=>e= .returned (.int .i64 (cfR (b,c,d) (f,g,i)))/\∃q os,w'=grow (w.drewN q) os;unfold cfR;dsimp only;generalize Lib.compareBytes b.data.toList f.data.toList=o at j ⊢;generalize Lib.compareInt c g=p at k ⊢;generalize Lib.compareInt d i=s at l ⊢;have m:=or3 o p s;generalize orOf o p s=r at m ⊢;have t:Tryz.prog.follows .mixedOrders=true:=by kernel_rfl
 go_enter Tryz.func106,Tryz.ntmps106
 go_wp2;refine za1s 15 t (by kernel_rfl) ?_;have u:((w.alloc (.cells #[.string b,.int .i64 c,.int .i64 d] 112)).alloc (.cells #[.string f,.int .i64 g,.int .i64 i] 112)).drew.cell? ⟨w.heap.size,0,none⟩=some (.string b):=by simp
 have v:((w.alloc (.cells #[.string b,.int .i64 c,.int .i64 d] 112)).alloc (.cells #[.string f,.int .i64 g,.int .i64 i] 112)).drew.cell? ⟨w.heap.size,1,none⟩=some (.int .i64 c):=by simp
 have z:((w.alloc (.cells #[.string b,.int .i64 c,.int .i64 d] 112)).alloc (.cells #[.string f,.int .i64 g,.int .i64 i] 112)).drew.cell? ⟨w.heap.size,2,none⟩=some (.int .i64 d):=by simp
 have A:((w.alloc (.cells #[.string b,.int .i64 c,.int .i64 d] 112)).alloc (.cells #[.string f,.int .i64 g,.int .i64 i] 112)).drew.cell? ⟨w.heap.size+1,0,none⟩=some (.string f):=by simp
 have B:((w.alloc (.cells #[.string b,.int .i64 c,.int .i64 d] 112)).alloc (.cells #[.string f,.int .i64 g,.int .i64 i] 112)).drew.cell? ⟨w.heap.size+1,1,none⟩=some (.int .i64 g):=by simp
 have C:((w.alloc (.cells #[.string b,.int .i64 c,.int .i64 d] 112)).alloc (.cells #[.string f,.int .i64 g,.int .i64 i] 112)).drew.cell? ⟨w.heap.size+1,2,none⟩=some (.int .i64 i):=by simp
 have n:Hid (((w.alloc (.cells #[.string b,.int .i64 c,.int .i64 d] 112)).alloc (.cells #[.string f,.int .i64 g,.int .i64 i] 112)).drew=grow (w.drewN 1) #[.cells #[.string b,.int .i64 c,.int .i64 d] 112,.cells #[.string f,.int .i64 g,.int .i64 i] 112]):=by
  show _=_;rw[alloc_eq_grow,alloc_eq_grow,grow_grow];rfl
 generalize ((w.alloc (.cells #[.string b,.int .i64 c,.int .i64 d] 112)).alloc (.cells #[.string f,.int .i64 g,.int .i64 i] 112)).drew=V at u v z A B C n ⊢;simp only[List.take_succ_cons,List.take_zero,List.drop_succ_cons,List.drop_zero]
 still_step
 still_step
 still_step
 still_step
 still_call (j _)
 still_step
 still_step
 still_step
 still_step
 still_call (k _)
 still_step
 still_step
 still_step
 still_step
 still_call (l _)
 refine wpStill_nil ?_
 go_wp2_with (go_at_call 148;refine(m V.heap.size _ (by simp) (by simp) (by simp)).mono ?_;rintro e w' ⟨rfl,rfl⟩)
 go_ret;exact⟨rfl,zb0u n.out⟩
end Go.Proofs.YtgckdomafbnmkaaGreatDoor
namespace Go.Proofs.YtgckdomafbnmkaaGreatDoor
open Go.RowKit Go.Extern.Stop Go.Stop Go.Extern Go.Sort Go.Shelf Go.Lib
theorem zb8 {W:World} {p:Addr} {v:Value} (h:W.cell? p=some v):p.block<W.heap.size:=by
 rcases Nat.lt_or_ge p.block W.heap.size with b | b
 ·exact b
 ·simp[World.cell?,Array.getElem?_eq_none b]at h
theorem za0 {W b:World} (c:BL W b) {p:Addr} {v:Value} (h:W.cell? p=some v):b.cell? p=some v :=
 (c.cell (zb8 h)).trans h
theorem za4 {B:Nat} {a w:World} (h:Below B a w) (n:Nat):Below B a (w.drewN n):=⟨h.os,h.tape,h.output,h.size,h.block⟩
theorem zt4 {w:World} (os:Array Obj):BL w (grow w os) :=
 ⟨rfl,rfl,rfl,by simp[grow],fun k hk=>by simp[grow,Array.getElem?_append,hk]⟩
def RowCells (w:World) (b o:Nat) (xs:List Rw):Prop :=
 ∀j (h:j<xs.length),w.cell? ⟨b,o+j*3,none⟩=some (.string xs[j].1)/\w.cell? ⟨b,o+j*3+1,none⟩=some (.int .i64 xs[j].2.1)/\w.cell? ⟨b,o+j*3+2,none⟩=some (.int .i64 xs[j].2.2)
def RowsAt (w:World) (v:Value) (xs:List Rw):Prop :=
 (∃p c,v= .slice p 0 c/\xs= [])\/∃b o cap,v= .slice (some ⟨b,o,none⟩) xs.length cap/\RowCells w b o xs
theorem RowCells.below {w w':World} {b o:Nat} {xs:List Rw} (h:RowCells w b o xs) (c:BL w w'):RowCells w' b o xs :=
 fun j hj=>⟨za0 c (h j hj).1,za0 c (h j hj).2.1,za0 c (h j hj).2.2⟩
theorem RowsAt.below {w w':World} {v:Value} {xs:List Rw} (h:RowsAt w v xs) (g:BL w w'):RowsAt w' v xs:=by
 rcases h with h | ⟨b,o,c,d,f⟩
 ·exact Or.inl h
 ·exact Or.inr ⟨b,o,c,d,f.below g⟩
theorem eqRow:EqlAt Tryz.prog 112 (fun x:Rw=>.agg (encR x).toArray) (fun x y=>decide (x=y)):=by
 refine⟨fun x y w=>?_,GuardAt.agg _ (by kernel_rfl)⟩;have p:=Tryz.underlying3;have q:=Tryz.underlying9;have r:=Tryz.isAgg3;have s:=Tryz.sizeOf3;have t:=Tryz.isAgg9;have u:=Tryz.sizeOf9;have g:Tryz.prog.underlying 112=some (.struct (Tryz.prog.fieldsOf 112)):=by kernel_rfl
 have i:Tryz.prog.stoodInHeld 112=false:=by kernel_rfl
 obtain⟨d,l,m⟩:=x;obtain⟨f,n,o⟩:=y;simp only[encR];rw[run_eql_struct,show (10000:Nat)=9999+1 from rfl,run_equalIn_agg w 9999 112 _ _ g i];simp only[Program.fieldsOf,Tryz.underlying112]
 go_simp
 by_cases b:d=f
 ·by_cases j:l=n<;>by_cases k:m=o<;>simp [b,j,k]
 ·have c:¬d.toList=f.toList:=fun e=>b (zc1 (by rwa [ByteArray.toList_eq,ByteArray.toList_eq]at e));simp[b,c]
theorem neqRow:NeqAt Tryz.prog 112 (fun x:Rw=>.agg (encR x).toArray) (fun x y=>decide (x=y)):=by
 refine⟨fun x y w=>?_,eqRow.2⟩;have h:=eqRow.1 x y w;simp only[encR]at h ⊢;rw[run_eql_struct]at h;rw[run_neq_struct];generalize Sem.run Tryz.prog (Op.equalIn 10000 112 _ _) w=r at h ⊢
 cases r with
 | ok b w' =>
  simp only[Result.andThen,Result.ok.injEq,Value.bool.injEq]at h ⊢;exact⟨by rw[h.1],h.2⟩
 | halt z w'=>simp [Result.andThen]at h
def longB (m:Int) (xs:List Rw):Bool:=decide (m<xs.length) || xs.any fun x=>decide (30<x.1.size)
def longN (m:Int) (xs:List Rw):Int:=if longB m xs then 1 else 0
theorem zt5 {m:Int} {xs:List Rw} (h:longB m xs=true):longN m xs=1:=by simp[longN,h]
theorem zt6 {m:Int} {xs:List Rw} (h:longB m xs=false):longN m xs=0:=by simp[longN,h]
theorem zb0v {xs:List Rw} {n:Nat} (h:∀j (h:j<xs.length),j<n->xs[j].1.size<=30) (c:n<xs.length) (e:xs[n].1.size<=30):∀j (h:j<xs.length),j<n+1->xs[j].1.size<=30:=fun j hj hjn=>by
 rcases Nat.lt_or_ge j n with b | b
 ·exact h j hj b
 ·obtain rfl:j=n:=by omega
  exact e
theorem zb0w (v:Value) (xs:List Rw) (m:Int) (w:World) (h:RowsAt w v xs) (l:xs.length<=maxLen) (I:0<=m) :
  Calls Tryz.prog 29 #[v,.int .i64 m] w fun e w'=>e= .returned (.int .i64 (longN m xs))/\w'=w:=by
 unfold maxLen at l;rcases h with⟨p,c,rfl,rfl⟩|⟨b,o,F,rfl,z⟩
 ·have d:longN m []=0:=zt6 (by simp[longB];omega);rw[d];clear l d
  go_enter Tryz.func29,Tryz.ntmps29
  go_wp2;refine wp_loop_rounds 1 ?_;rw[rounds_succ];go_wp2;go_ret;exact⟨rfl,rfl⟩
 ·generalize A:xs.length=L at l ⊢;have g:Hid (xs.length=L):=A;clear A;by_cases C:m<(L:Int)
  ·have d:longN m xs=1:=zt5 (by simp[longB,g.out,C]);rw[d]
   go_enter Tryz.func29,Tryz.ntmps29
   go_wp2;go_ret;exact⟨rfl,rfl⟩
  ·go_enter Tryz.func29,Tryz.ntmps29
   go_wp2
   go_loop [5] (fun k=> ∃n:Nat,n<=L/\(∀j (h:j<xs.length),j<n->xs[j].1.size<=30)/\k= .int .i64 n) (fun k=>L-(intOf k).toNat)
   case atStart=>exact ⟨0,by omega,by omega,rfl⟩
   case round =>
    obtain⟨n,H,u,rfl⟩:=hrel;have q:Hid (∀j (h:j<xs.length),j<n->xs[j].1.size<=30):=u;clear u;by_cases r:n<L
    ·have f:n<xs.length:=by rw[g.out];exact r
     have D:=(z n f).1;generalize B:xs[n].1=p at D;have s:Hid (xs[n].1=p):=B;clear B z;have G:(n:Int)<(L:Int):=by omega
     by_cases e:30<p.size
     ·have d:longB m xs=true:=by
       simp only[longB,Bool.or_eq_true,List.any_eq_true,decide_eq_true_eq];exact Or.inr ⟨xs[n],List.getElem_mem _,by rw[s.out];exact e⟩
      have i:Hid (longN m xs=1):=zt5 d;clear d;have E:(30:Int)<(p.size:Int):=by omega
      go_wp2;go_ret;exact⟨by rw[i.out];rfl,rfl⟩
     ·have E:¬(30:Int)<(p.size:Int):=by omega
      go_wp2;go_round
      case rel=>exact ⟨n+1,by omega,zb0v q.out f (by rw[s.out];omega),by go_num⟩
      case measure=>simp [intOf];omega
    ·have d:longB m xs=false:=by
      simp only[longB,Bool.or_eq_false_iff,decide_eq_false_iff_not,List.any_eq_false,decide_eq_true_eq];refine⟨by rw[g.out];omega,fun x hx=>?_⟩;obtain⟨j,y,rfl⟩:=List.mem_iff_getElem.1 hx;have:=q.out j y (by rw[g.out]at y;omega);omega
     have i:Hid (longN m xs=0):=zt6 d;have t:n=L:=by omega
     subst t;clear d;go_wp2;go_ret;exact⟨by rw[i.out];rfl,rfl⟩
def flatR (xs:List Rw):List Value:=xs.flatMap encR
theorem zg5 (x:Rw):(encR x).length=3:=rfl
theorem zc6 (x:Rw):∀u∈encR x,u.oneCell'=true:=by
 intro u b;simp only[encR,List.mem_cons,List.not_mem_nil,or_false]at b;rcases b with rfl | rfl | rfl<;>rfl
theorem zb9:∀xs:List Rw,(flatR xs).length=xs.length*3
 | []=>rfl
 | x :: xs=>by
  have:=zb9 xs;simp only[flatR,List.flatMap_cons,List.length_append,List.length_cons]at *;rw[this,zg5];omega
theorem ze3 (xs:List Rw):∀u∈flatR xs,u.oneCell'=true:=by
 intro u b;simp only[flatR,List.mem_flatMap]at b;obtain⟨x,_,c⟩:=b;exact zc6 x u c
theorem zc3 (xs b:List Rw):flatR (xs++b)=flatR xs++flatR b:=by simp[flatR]
theorem zf4:∀(xs:List Rw) (j c:Nat) (h:j<xs.length),c<3->(flatR xs)[j*3+c]? =(encR xs[j])[c]?
 | [],j,_,h,_=>by simp at h
 | x :: xs,0,c,_,hc=>by
  simp only[flatR,List.flatMap_cons,Nat.zero_mul,Nat.zero_add,List.getElem_cons_zero];rw[List.getElem?_append_left (by rw[zg5];exact hc)]
 | x :: xs,j+1,c,h,hc=>by
  have b:j<xs.length:=by simp at h;omega
  have:=zf4 xs j c b hc;simp only[flatR,List.flatMap_cons,List.getElem_cons_succ]at *;rw[List.getElem?_append_right (by rw[zg5];omega),zg5,show (j+1)*3+c-3=j*3+c by omega];exact this
theorem ze4 {w:World} {b o:Nat} {xs:List Rw} (h:RowCells w b o xs):∀t u,(flatR xs)[t]? =some u->w.cell? ⟨b,o+t,none⟩=some u:=by
 intro t u c;have i:t<(flatR xs).length:=by
  rcases Nat.lt_or_ge t (flatR xs).length with f | f
  ·exact f
  ·rw[List.getElem?_eq_none f]at c;cases c
 rw[zb9]at i;have g:t / 3<xs.length:=by omega
 have e:t=t / 3*3+t % 3:=by omega
 rw[e,zf4 xs (t / 3) (t % 3) g (by omega)]at c;obtain⟨j,k,l⟩:=h (t / 3) g;have d:t % 3=0\/t % 3=1\/t % 3=2:=by omega
 rcases d with d | d | d
 ·rw[d]at c;simp only[encR,List.getElem?_cons_zero,Option.some.injEq]at c;rw[<-c,<-j];congr 2;omega
 ·rw[d]at c;simp only[encR,List.getElem?_cons_succ,List.getElem?_cons_zero,Option.some.injEq]at c;rw[<-c,<-k];congr 2;omega
 ·rw[d]at c;simp only[encR,List.getElem?_cons_succ,List.getElem?_cons_zero,Option.some.injEq]at c;rw[<-c,<-l];congr 2;omega
theorem za1u {w:World} {b o:Nat} {xs:List Rw} (h:∀t u,(flatR xs)[t]? =some u->w.cell? ⟨b,o+t,none⟩=some u):RowCells w b o xs:=fun j hj =>
 ⟨h (j*3) _ (by have:=zf4 xs j 0 hj (by omega);simpa [encR] using this),
  by have:=h (j*3+1) _ (by have:=zf4 xs j 1 hj (by omega);simpa [encR] using this);rw[<-Nat.add_assoc]at this;exact this,
  by have:=h (j*3+2) _ (by have:=zf4 xs j 2 hj (by omega);simpa [encR] using this);rw[<-Nat.add_assoc]at this;exact this⟩
theorem zo3 {w:World} {base:Nat} {v:Value} {n:Nat} {xs:List Rw} (h:w.ownsRow base 112 3 v n (flatR xs)):n=xs.length/\((v= .slice none 0 0/\xs= [])\/∃g cap,v= .slice (some ⟨g,0,none⟩) xs.length cap/\RowCells w g 0 xs):=by
 obtain⟨f,h⟩:=h;have b:n=xs.length:=by rw[zb9]at f;omega
 refine⟨b,?_⟩;subst b;rcases h with⟨i,b⟩|⟨g,cap,l,rfl,_,j,_,_,_,k⟩
 ·exact Or.inl ⟨i,List.length_eq_zero_iff.1 b⟩
 ·refine Or.inr ⟨g,cap,rfl,za1u fun t u hu=>?_⟩;have d:t<xs.length*3:=by
   rw[<-zb9];rcases Nat.lt_or_ge t (flatR xs).length with c | c
   ·exact c
   ·rw[List.getElem?_eq_none c]at hu;cases hu
  rw[<-k,List.getElem?_take,if_pos d]at hu;simp only[World.cell?,j,Nat.zero_add];simpa using hu
theorem ze5 {w:World} {base:Nat} {v:Value} {n:Nat} {xs:List Rw} (h:w.ownsRow base 112 3 v n (flatR xs)):RowsAt w v xs/\n=xs.length:=by
 obtain⟨d,h⟩:=zo3 h;refine⟨?_,d⟩;rcases h with⟨b,f⟩|⟨g,c,b,i⟩
 ·exact Or.inl ⟨none,0,b,f⟩
 ·exact Or.inr ⟨g,0,c,b,i⟩
theorem za1v (xs:List Rw):flatK encR 3 xs.toArray=(flatR xs).toArray:=by
 refine ext_get! (by simp[zb9]) fun t ht=>?_;simp only[size_flatK,List.size_toArray]at ht;rw[get_flatK _ _ _ _ (by simpa using ht)];have b:t / 3<xs.length:=by omega
 have:=zf4 xs (t / 3) (t % 3) b (by omega);rw[show t / 3*3+t % 3=t by omega]at this;simp only[List.getElem!_toArray,List.getElem!_eq_getElem?_getD,this];rw[List.getElem?_eq_getElem b];rfl
end Go.Proofs.YtgckdomafbnmkaaGreatDoor
namespace Go.Proofs
open Go.Shelf
def Tryz.sortRow_ren:Go.Shelf.Ren:=⟨fun | 6=>105 | 15=>147 | 14=>146 | 28=>178 | 29=>179 | 20=>170 | 21=>171 | 22=>172 | 23=>173 | 24=>174 | 25=>175 | 26=>176 | 27=>177 | 46=>197 | 47=>198 | 48=>199 | 49=>200 | 50=>201 | 57=>223 | n=>n,fun | 22=>44 | 24=>112 | 25=>171 | 3=>3 | 39=>210 | 0=>0 | 53=>250 | 55=>252 | 4=>4 | 46=>244 | 45=>243 | 50=>189 | 5=>5 | 9=>9 | 66=>276 | 70=>280 | 76=>302 | 77=>119 | n=>n,fun | n=>n⟩
theorem Tryz.sortRow:Go.Proofs.SlLaysF0.n6 Tryz.prog Tryz.sortRow_ren:= {
 mixed:=by kernel_rfl
 f6:=⟨Tryz.f105.name,by decide,Tryz.func105.trans (congrArg some (by kernel_rfl))⟩
 f14:=⟨Tryz.f146.name,by decide,Tryz.func146.trans (congrArg some (by kernel_rfl))⟩
 f15:=Tryz.func147.trans (congrArg some (by kernel_rfl))
 f20:=⟨Tryz.f170.name,by decide,Tryz.func170.trans (congrArg some (by kernel_rfl))⟩
 f21:=⟨Tryz.f171.name,by decide,Tryz.func171.trans (congrArg some (by kernel_rfl))⟩
 f22:=⟨Tryz.f172.name,by decide,Tryz.func172.trans (congrArg some (by kernel_rfl))⟩
 f23:=⟨Tryz.f173.name,by decide,Tryz.func173.trans (congrArg some (by kernel_rfl))⟩
 f24:=⟨Tryz.f174.name,by decide,Tryz.func174.trans (congrArg some (by kernel_rfl))⟩
 f25:=⟨Tryz.f175.name,by decide,Tryz.func175.trans (congrArg some (by kernel_rfl))⟩
 f26:=⟨Tryz.f176.name,by decide,Tryz.func176.trans (congrArg some (by kernel_rfl))⟩
 f27:=⟨Tryz.f177.name,by decide,Tryz.func177.trans (congrArg some (by kernel_rfl))⟩
 f28:=Tryz.func178.trans (congrArg some (by kernel_rfl))
 f29:=Tryz.func179.trans (congrArg some (by kernel_rfl))
 f46:=⟨Tryz.f197.name,by decide,Tryz.func197.trans (congrArg some (by kernel_rfl))⟩
 f47:=Tryz.func198.trans (congrArg some (by kernel_rfl))
 f48:=Tryz.func199.trans (congrArg some (by kernel_rfl))
 f49:=⟨Tryz.f200.name,by decide,Tryz.func200.trans (congrArg some (by kernel_rfl))⟩
 f50:=⟨Tryz.f201.name,by decide,Tryz.func201.trans (congrArg some (by kernel_rfl))⟩
 f57:=⟨Tryz.f223.name,by decide,Tryz.func223.trans (congrArg some (by kernel_rfl))⟩
 t0:=Tryz.underlying0
 a0:=Tryz.isAgg0
 z0:=Tryz.sizeOf0
 v0:=Tryz.zeroValue0
 t3:=Tryz.underlying3
 a3:=Tryz.isAgg3
 z3:=Tryz.sizeOf3
 v3:=Tryz.zeroValue3
 t4:=Tryz.underlying4
 a4:=Tryz.isAgg4
 z4:=Tryz.sizeOf4
 v4:=Tryz.zeroValue4
 t5:=Tryz.underlying5
 a5:=Tryz.isAgg5
 z5:=Tryz.sizeOf5
 v5:=Tryz.zeroValue5
 t9:=Tryz.underlying9
 a9:=Tryz.isAgg9
 z9:=Tryz.sizeOf9
 v9:=Tryz.zeroValue9
 t22:=Tryz.underlying44
 a22:=Tryz.isAgg44
 z22:=Tryz.sizeOf44
 v22:=Tryz.zeroValue44
 t25:=Tryz.underlying171
 a25:=Tryz.isAgg171
 z25:=Tryz.sizeOf171
 v25:=Tryz.zeroValue171
 t39:=Tryz.underlying210
 a39:=Tryz.isAgg210
 z39:=Tryz.sizeOf210
 v39:=Tryz.zeroValue210
 t45:=Tryz.underlying243
 a45:=Tryz.isAgg243
 z45:=Tryz.sizeOf243
 v45:=Tryz.zeroValue243
 t46:=Tryz.underlying244
 a46:=Tryz.isAgg244
 z46:=Tryz.sizeOf244
 v46:=Tryz.zeroValue244
 t50:=Tryz.underlying189
 a50:=Tryz.isAgg189
 z50:=Tryz.sizeOf189
 v50:=Tryz.zeroValue189
 t53:=Tryz.underlying250
 a53:=Tryz.isAgg250
 z53:=Tryz.sizeOf250
 v53:=Tryz.zeroValue250
 t55:=Tryz.underlying252
 a55:=Tryz.isAgg252
 z55:=Tryz.sizeOf252
 v55:=Tryz.zeroValue252
 t66:=Tryz.underlying276
 a66:=Tryz.isAgg276
 z66:=Tryz.sizeOf276
 v66:=Tryz.zeroValue276
 t70:=Tryz.underlying280
 a70:=Tryz.isAgg280
 z70:=Tryz.sizeOf280
 v70:=Tryz.zeroValue280
 t76:=Tryz.underlying302
 a76:=Tryz.isAgg302
 z76:=Tryz.sizeOf302
 v76:=Tryz.zeroValue302
 t77:=Tryz.underlying119
 a77:=Tryz.isAgg119
 z77:=Tryz.sizeOf119
 v77:=Tryz.zeroValue119 }
end Go.Proofs
namespace Go.Proofs.YtgckdomafbnmkaaGreatDoor
open Go.RowKit Go.Extern.Stop Go.Stop Go.Extern Go.Sort Go.Shelf Go.Lib
def sortR (xs:List Rw):List Rw:=xs.mergeSort fun x y=> !(ltOf cfR) y x
theorem zo4 (xs:List Rw):(sortR xs).length=xs.length:=by simp[sortR]
theorem zd7 (xs:List Rw):(sortR xs).Perm xs:=List.mergeSort_perm _ _
theorem zb0x (c d b:Nat) (w:World):CmpLays Tryz.prog 106 #[] encR 3 cfR c d b w :=
 fun _ _ _ _ x y=>za1t x y _
theorem zb0y {w:World} {base:Nat} {v:Value} {n:Nat} {xs:List Rw} (h:w.ownsRow base 112 3 v n (flatR xs)) (s:v≠ .slice none 0 0) :
  ∃g cap,v= .slice (some ⟨g,0,none⟩) xs.length cap/\base<=g/\g<w.heap.size/\HoldsK encR 3 w g 0 xs.toArray:=by
 obtain⟨o,h⟩:=h;have m:n=xs.length:=by rw[zb9]at o;omega
 subst m;rcases h with⟨e,_⟩|⟨g,cap,l,rfl,q,b,_,_,_,r⟩
 ·exact absurd e s
 ·have f:g<w.heap.size:=by
   rcases Nat.lt_or_ge g w.heap.size with d | d
   ·exact d
   ·rw[Array.getElem?_eq_none d]at b;cases b
  refine⟨g,cap,rfl,q,f,?_⟩;unfold HoldsK;rw[za1v];intro j p;have c:j<xs.length*3:=by simpa [zb9] using p
  refine⟨?_,by simp[World.frozen?,b]⟩;have i:(l.toList.take (xs.length*3))[j]? =(flatR xs)[j]? :=by rw[r]
  rw[List.getElem?_take,if_pos c,Array.getElem?_toList]at i;simp only[World.cell?,b,Nat.zero_add];simp only[Option.isSome_none,Bool.false_eq_true,if_false];rw[i];have k:j<(flatR xs).length:=by rw[zb9];exact c
  simp[List.getElem?_eq_getElem k]
theorem zb0z {w:World} {g:Nat} {xs:List Rw} (h:HoldsK encR 3 w g 0 xs.toArray):RowCells w g 0 xs:=by
 refine za1u fun t u hu=>?_;have b:t<(flatR xs).length:=by
  rcases Nat.lt_or_ge t (flatR xs).length with c | c
  ·exact c
  ·rw[List.getElem?_eq_none c]at hu;cases hu
 unfold HoldsK at h;rw[za1v]at h;have:=(h t (by simpa using b)).1;rw[this];rw[List.getElem?_eq_getElem b]at hu;simpa [List.getElem?_eq_getElem b] using hu
theorem Tryz.rowInfo3:(Tryz.prog.info? 112).map (fun i=>(i.zero,i.size,i.bytes))=some (some (.agg #[.string ⟨#[]⟩,.int .i64 0,.int .i64 0]),3,32):=by kernel_rfl
theorem Tryz.rowInfo:∃i0:TypeInfo,Tryz.prog.info? 112=some i0/\i0.zero=some (.agg #[.string ⟨#[]⟩,.int .i64 0,.int .i64 0])/\i0.size=3/\i0.bytes=32:=by
 obtain⟨i,b,h⟩:=Option.map_eq_some_iff.1 Tryz.rowInfo3;simp only[Prod.mk.injEq]at h;exact⟨i,b,h.1,h.2.1,h.2.2⟩
theorem zb1a (g:Addr) (c:Nat) (w:World) :
  Calls Tryz.prog 104 #[.slice (some g) 0 c] w fun e w'=> ∃v',e= .returned v'/\w'.ownsRow w.heap.size 112 3 v' ([]:List Rw).length (flatR [])/\BL w w':=by
 obtain⟨i,l,m,o,f⟩:=Tryz.rowInfo;have t:∀(w:World) (a:Option Addr) (n c n' c':Nat),(binOp .eql 44 (.slice a n c) (.slice none n' c')).run Tryz.prog w= .ok (.bool a.isNone) w:=fun w a n c n' c'=>Lib.run_eql_slice_nil w _ _ a n c n' c' Tryz.underlying44
 go_enter Tryz.func104,Tryz.ntmps104
 go_wp2_with (at_builtin;refine wpList_append_own _ rfl _ _ 44 rfl w.heap.size 112 i (.agg #[.string ⟨#[]⟩,.int .i64 0,.int .i64 0]) 3 32 Tryz.underlying44 l m o f rfl (by decide) _ _ _ rfl (World.ownsRow_made w #[] 0 (Nat.le_refl _) (Nat.zero_le _) (by simp)) g 0 c [] rfl ?qc1 ?qc2 ?qc3 ?qc4 ?qc5 ?qc6 ?_)
 case qc1=>rfl
 case qc2=>intro j u p;simp at p
 case qc3=>intro u q;cases q
 case qc4=>decide
 case qc5=>decide
 case qc6=>simp
 intro v' v d b r;go_wp2;go_ret;refine⟨v',rfl,by simpa [flatR] using d,?_⟩;exact((Below.refl _ w).alloc (Nat.le_refl _) _).grown b (by simp) (by intro k s;simp[Value.ownBlock]at s;omega)
theorem za1w (v:Value) (xs:List Rw) (w:World) (h:RowsAt w v xs) (n:xs.length<=20000) :
  Calls Tryz.prog 104 #[v] w fun e w'=> ∃v',e= .returned v'/\w'.ownsRow w.heap.size 112 3 v' xs.length (flatR xs)/\BL w w':=by
 rcases h with⟨p,c,rfl,rfl⟩|⟨b,o,g,rfl,m⟩
 ·cases p with
  | none =>
   have d:=AnyE.slices_Clone_nil Tryz.cloneRow 0 c w;change Calls Tryz.prog 104 _ _ _ at d;refine d.mono fun e w' ⟨he,hw⟩=>⟨_,he,?_,?_⟩
   ·exact World.ownsRow_nil _ _ _ _
   ·subst hw;exact Below.refl _ _
  | some ad=>exact zb1a ad c w
 ·obtain⟨i,j,k,l,f⟩:=Tryz.rowInfo;have d:=AnyE.slices_Clone Tryz.cloneRow i _ 3 32 j k l f rfl (by decide) Tryz.sizeOf112 b o xs.length g (flatR xs) w (zb9 xs) (by unfold maxLen;omega) (by omega) (ze4 m) (ze3 xs);change Calls Tryz.prog 104 _ _ _ at d;exact d.mono fun e w' ⟨v',he,ho,_,hb⟩=>⟨v',he,ho,hb⟩
theorem zb1b (v:Value) (xs:List Rw) (B:Nat) (w0 w:World) (l:Below B w0 w) (q:B<=w0.heap.size) (h:w.ownsRow B 112 3 v xs.length (flatR xs)) (s:xs.length<=20000) :
  Calls Tryz.prog 105 #[v,.func (.func 106) #[] #[]] w fun e w'=>e= .returned (.tuple #[])/\RowsAt w' v (sortR xs)/\Below B w0 w':=by
 by_cases f:v= .slice none 0 0
 ·subst f;have m:xs= []:=by
   rcases h.2 with⟨_,p⟩|⟨g,c,r,e,_⟩
   ·exact List.length_eq_zero_iff.1 p
   ·cases e
  subst m;have b:=AnyF.slices_SortFunc_none Tryz.sortRow none 0 (.func (.func 106) #[] #[]) w;change Calls Tryz.prog 105 _ _ _ at b;refine b.mono fun e w' ⟨he,hw⟩=>⟨he,Or.inl ⟨none,0,rfl,by simp[sortR]⟩,?_⟩;subst hw;exact l
 ·obtain⟨g,c,rfl,j,d,k⟩:=zb0y h f;have o:∀args w,(callFunc 106 args).run Tryz.prog w= .ok (.enter 106 args) w:=enters_of Tryz.func106 (by kernel_rfl) rfl;have b:=AnyQ.slices_SortFunc_total Tryz.sortRow 3 Tryz.isAgg112 Tryz.sizeOf112 encR zg5 zc6 cfR swoR 106 #[] g 0 c xs.toArray w o (zb0x _ _ _ _) k d (by simp;omega) totR;change Calls Tryz.prog 105 _ _ _ at b;rw[List.size_toArray]at b;refine b.mono fun e w' ⟨he,n,os,hw⟩=>⟨he,?_,?_⟩
  ·subst hw;refine Or.inr ⟨g,0,c,by rw[zo4],zb0z ?_⟩;exact holdsK_sortWorldK encR 3 w g 0 n xs.toArray (sortR xs).toArray os d k (by simp[zo4])
  ·subst hw;have i:Below B w0 (putRowK encR 3 (Sort.ahead w n) g 0 (xs.toArray.toList.mergeSort fun x y=> !(ltOf cfR) y x).toArray):=below_putRow l j;exact i.trans ((zt4 os).mono (Nat.le_trans q i.size))
end Go.Proofs.YtgckdomafbnmkaaGreatDoor
