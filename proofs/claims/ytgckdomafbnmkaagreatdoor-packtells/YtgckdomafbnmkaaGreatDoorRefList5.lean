/- By an AI agent. -/
import Derived.Test.YtgckdomafbnmkaaGreatDoorAs
import Derived.Deep.CutBlock
set_option maxRecDepth 100000
set_option maxHeartbeats 16000000
namespace Go.Proofs.YtgckdomafbnmkaaGreatDoor
open Go.RowKit Go.Extern.Stop Go.Stop Go.Extern
def errVar:Nat->Nat
 | 0=>6
 | 1=>0
 | 2=>1
 | 3=>4
 | 4=>7
 | 5=>2
 | 6=>8
 | 7=>3
 | 8=>5
 | 9=>9
 | 10=>10
 | _=>11
structure Errs (W:World) (a:Nat->Addr):Prop where
 cell:∀i,i<12->W.cell? ⟨errVar i,0,none⟩=some (.iface 325 (.pointer (some (a i))))
 inj:∀i j,i<12->j<12->a i=a j->i=j
 block:∀i,i<12->∃c t,W.heap[(a i).block]? =some (.cells c t (0,0))
 handle:W.cell? ⟨13,0,none⟩=some (.iface 254 (.agg #[.pointer (some ⟨21,35,none⟩)]))
def Hand (W:World):Prop:=W.cell? ⟨13,0,none⟩=some (.iface 254 (.agg #[.pointer (some ⟨21,35,none⟩)]))
theorem zl6 {W:World} {p:Addr} {v:Value} (h:W.cell? p=some v):p.block<W.heap.size:=by
 rcases Nat.lt_or_ge p.block W.heap.size with b | b
 ·exact b
 ·simp[World.cell?,Array.getElem?_eq_none b]at h
theorem zx9 {W:World} {b:Nat} {o:Obj} (h:W.heap[b]? =some o):b<W.heap.size:=by
 rcases Nat.lt_or_ge b W.heap.size with c | c
 ·exact c
 ·simp[Array.getElem?_eq_none c]at h
theorem Hand.below {W b:World} (h:Hand W) (c:BL W b):Hand b:=(c.cell (zl6 h)).trans h
theorem Errs.below {W f:World} {a:Nat->Addr} (h:Errs W a) (b:BL W f):Errs f a where
 cell i hi:=by rw[b.cell (zl6 (h.cell i hi))];exact h.cell i hi
 inj:=h.inj
 block i hi:=by
  obtain⟨c,t,d⟩:=h.block i hi;exact⟨c,t,by rw[b.block _ (zx9 d)];exact d⟩
 handle:=by rw[b.cell (zl6 h.handle)];exact h.handle
theorem za4q (w:World):Calls Tryz.prog 63 #[.nilIface] w fun e w'=>e= .returned (.tuple #[.int .i64 0,.int .i64 (-1)])/\w'=w:=by
 go_enter Tryz.func63,Tryz.ntmps63
 go_wp2;go_ret2;exact⟨rfl,rfl⟩
theorem za4r (w:World) (a:Nat->Addr) (n:Nat) (b:n<12):(w.alloc (.cells #[.iface 325 (.pointer (some (a 0))),.iface 325 (.pointer (some (a 1))),.iface 325 (.pointer (some (a 2))),.iface 325 (.pointer (some (a 3))),.iface 325 (.pointer (some (a 4))),.iface 325 (.pointer (some (a 5))),.iface 325 (.pointer (some (a 6))),.iface 325 (.pointer (some (a 7))),.iface 325 (.pointer (some (a 8))),.iface 325 (.pointer (some (a 9))),.iface 325 (.pointer (some (a 10))),.iface 325 (.pointer (some (a 11)))] 35)).cell? ⟨w.heap.size,n,none⟩=some (.iface 325 (.pointer (some (a n)))):=by
 rw[World.cell?_alloc_at _ _ _ _ rfl]
 match n,b with
 | 0,_=>rfl
 | 1,_=>rfl
 | 2,_=>rfl
 | 3,_=>rfl
 | 4,_=>rfl
 | 5,_=>rfl
 | 6,_=>rfl
 | 7,_=>rfl
 | 8,_=>rfl
 | 9,_=>rfl
 | 10,_=>rfl
 | 11,_=>rfl
theorem za4s (e t:Addr) (w:World) (h:Hand w) :
  Calls Tryz.prog 113 #[.iface 325 (.pointer (some e)),.iface 179 (.pointer (some t))] w fun ev w'=>ev= .returned (.bool false)/\BL w w':=by
 refine(zb5i e t w h).mono fun ev w' ⟨he,hw⟩=>⟨he,?_⟩;subst hw;exact((alB _ _).alloc (by simp) _).alloc (by simp;omega) _
theorem zb5j (w:World) (a:Nat->Addr) (h:Errs w a) (p:Addr) (j:Array Value) (k:TypeId) (l:w.heap[p.block]? =some (.cells j k (0,0))) (i n:Nat) (m:n<12) (b:p=a n↔n=i) :
  Calls Tryz.prog 114 #[.iface 325 (.pointer (some p)),.iface 325 (.pointer (some (a n)))] w fun e w'=>e= .returned (.bool (decide (n=i)))/\w'=w:=by
 obtain⟨c,t,g⟩:=h.block n m;by_cases e:n=i
 ·have f:=b.2 e;subst f;simp only[e,decide_true];exact zb5d _ w
 ·have d:p≠a n:=fun x=>e (b.1 x);simp only[e,decide_false];exact zb5e _ _ _ _ _ _ w d l g
theorem zb5k (w:World) (a:Nat->Addr) (h:Errs w a) (f g:Nat) (p:Addr) (j:w.cell? ⟨f,g+1,none⟩=some (.iface 325 (.pointer (some p)))) (m:Array Value) (o:TypeId) (q:w.heap[p.block]? =some (.cells m o (0,0))) (i n:Nat) (r:n<12) (b:p=a n↔n=i) :
  Calls Tryz.prog 114 #[.iface 101 (.pointer (some ⟨f,g,none⟩)),.iface 325 (.pointer (some (a n)))] w fun e w'=>e= .returned (.bool (decide (n=i)))/\w'=w:=by
 obtain⟨c,t,l⟩:=h.block n r;by_cases e:n=i
 ·have k:=b.2 e;subst k;simp only[e,decide_true];exact zb5f _ _ _ w (e▸j)
 ·have d:p≠a n:=fun x=>e (b.1 x);simp only[e,decide_false];exact zb5g _ _ _ _ _ _ _ _ w j d q l
theorem za4t {n i:Nat} (c:∀m,m<n->m≠i) (e:¬n=i):∀m,m<n+1->m≠i:=fun m h=>by
 rcases Nat.lt_or_ge m n with b | b
 ·exact c m b
 ·obtain rfl:m=n:=by omega
  exact e
def codeNum (i:Nat):Int:=if i<12 then (i:Int)+1 else -1
theorem za4u (w:World) (a:Nat->Addr) (h:Errs w a) (p:Addr) (u:Array Value) (v:TypeId) (G:w.heap[p.block]? =some (.cells u v (0,0))) (i:Nat) (H:∀n,n<12->(p=a n↔n=i)) :
  Calls Tryz.prog 63 #[.iface 325 (.pointer (some p))] w fun e w'=>e= .returned (.tuple #[.int .i64 (codeNum i),.int .i64 (-1)])/\BL w w':=by
 have y:Errs (w.alloc (.cells #[.pointer none] 101)) a:=h.below (alB _ _);have z:BL w (w.alloc (.cells #[.pointer none] 101)):=alB _ _
 go_enter Tryz.func63,Tryz.ntmps63
 go_wp2_with (go_at_call 113;refine(za4s _ _ _ y.handle).mono ?_;rintro e b ⟨rfl,F⟩;have c:=y.below F;have J:b.cell? ⟨6,0,none⟩=some (.iface 325 (.pointer (some (a 0)))):=c.cell 0 (by decide);have K:b.cell? ⟨0,0,none⟩=some (.iface 325 (.pointer (some (a 1)))):=c.cell 1 (by decide);have L:b.cell? ⟨1,0,none⟩=some (.iface 325 (.pointer (some (a 2)))):=c.cell 2 (by decide);have M:b.cell? ⟨4,0,none⟩=some (.iface 325 (.pointer (some (a 3)))):=c.cell 3 (by decide);have N:b.cell? ⟨7,0,none⟩=some (.iface 325 (.pointer (some (a 4)))):=c.cell 4 (by decide);have O:b.cell? ⟨2,0,none⟩=some (.iface 325 (.pointer (some (a 5)))):=c.cell 5 (by decide);have P:b.cell? ⟨8,0,none⟩=some (.iface 325 (.pointer (some (a 6)))):=c.cell 6 (by decide);have Q:b.cell? ⟨3,0,none⟩=some (.iface 325 (.pointer (some (a 7)))):=c.cell 7 (by decide);have R:b.cell? ⟨5,0,none⟩=some (.iface 325 (.pointer (some (a 8)))):=c.cell 8 (by decide);have S:b.cell? ⟨9,0,none⟩=some (.iface 325 (.pointer (some (a 9)))):=c.cell 9 (by decide);have A:b.cell? ⟨10,0,none⟩=some (.iface 325 (.pointer (some (a 10)))):=c.cell 10 (by decide);have B:b.cell? ⟨11,0,none⟩=some (.iface 325 (.pointer (some (a 11)))):=c.cell 11 (by decide))
 have C:BL w b:=z.trans (F.mono (by simp));have f:BL w (b.alloc (.cells #[.iface 325 (.pointer (some (a 0))),.iface 325 (.pointer (some (a 1))),.iface 325 (.pointer (some (a 2))),.iface 325 (.pointer (some (a 3))),.iface 325 (.pointer (some (a 4))),.iface 325 (.pointer (some (a 5))),.iface 325 (.pointer (some (a 6))),.iface 325 (.pointer (some (a 7))),.iface 325 (.pointer (some (a 8))),.iface 325 (.pointer (some (a 9))),.iface 325 (.pointer (some (a 10))),.iface 325 (.pointer (some (a 11)))] 35)):=C.alloc C.size _;have D:Errs (b.alloc (.cells #[.iface 325 (.pointer (some (a 0))),.iface 325 (.pointer (some (a 1))),.iface 325 (.pointer (some (a 2))),.iface 325 (.pointer (some (a 3))),.iface 325 (.pointer (some (a 4))),.iface 325 (.pointer (some (a 5))),.iface 325 (.pointer (some (a 6))),.iface 325 (.pointer (some (a 7))),.iface 325 (.pointer (some (a 8))),.iface 325 (.pointer (some (a 9))),.iface 325 (.pointer (some (a 10))),.iface 325 (.pointer (some (a 11)))] 35)) a:=h.below f;have E:(b.alloc (.cells #[.iface 325 (.pointer (some (a 0))),.iface 325 (.pointer (some (a 1))),.iface 325 (.pointer (some (a 2))),.iface 325 (.pointer (some (a 3))),.iface 325 (.pointer (some (a 4))),.iface 325 (.pointer (some (a 5))),.iface 325 (.pointer (some (a 6))),.iface 325 (.pointer (some (a 7))),.iface 325 (.pointer (some (a 8))),.iface 325 (.pointer (some (a 9))),.iface 325 (.pointer (some (a 10))),.iface 325 (.pointer (some (a 11)))] 35)).heap[p.block]? =some (.cells u v (0,0)):=by rw[f.block _ (zx9 G)];exact G
 have q:=za4r b a;clear J K L M N O P Q R S A B
 go_loop [3,30] (fun t k=>t= .int .i64 (-1)/\∃n:Nat,n<=12/\(∀m,m<n->m≠i)/\k= .int .i64 n) (fun _ k=>12-(intOf k).toNat)
 case atStart=>exact ⟨rfl,0,by omega,by omega,rfl⟩
 case round =>
  obtain⟨rfl,n,T,o,rfl⟩:=hrel;by_cases j:n<12
  ·have I:=q n j;have g:=zb5j _ a D p u v E i n j (H n j);by_cases e:n=i
   ·have l:decide (n=i)=true:=by simp[e]
    rw[l]at g;have d:codeNum i=(n:Int)+1:=by unfold codeNum;rw[if_pos (by omega),e]
    have r:Hid (codeNum i=(n:Int)+1):=d;clear d l e o q
    go_wp2_with (go_at_call 114;refine g.mono ?_;rintro e w' ⟨rfl,rfl⟩)
    go_ret2;exact⟨by rw[r.out];rfl,f⟩
   ·have l:decide (n=i)=false:=by simp[e]
    rw[l]at g
    go_wp2_with (go_at_call 114;refine g.mono ?_;rintro e w' ⟨rfl,rfl⟩)
    go_round
    case rel=>exact ⟨rfl,n+1,by omega,za4t o e,by go_num⟩
    case measure=>simp [intOf];omega
  ·have d:codeNum i= -1:=by
    unfold codeNum;rw[if_neg];intro U;exact o i (by omega) rfl
   have r:Hid (codeNum i= -1):=d;have s:n=12:=by omega
   subst s;clear d o q;go_wp2;go_ret2;exact⟨by rw[r.out];rfl,f⟩
theorem za4v (e:Addr) (w:World) (h:Hand w) :
  Calls Tryz.prog 113 #[.iface 101 (.pointer (some e)),.iface 179 (.pointer (some ⟨w.heap.size,0,none⟩))] (w.alloc (.cells #[.pointer none] 101)) fun ev w'=>ev= .returned (.bool true)/\BL w w'/\w'.cell? ⟨w.heap.size,0,none⟩=some (.pointer (some e)):=by
 have b:BL w (w.alloc (.cells #[.pointer none] 101)):=alB _ _;refine(zb5h e ⟨w.heap.size,0,none⟩ (.pointer none) _ (h.below b) (by simp) (by simp)).mono fun ev w' ⟨he,hw⟩=>⟨he,?_,?_⟩
 ·subst hw;exact((((b.alloc (by simp) _).alloc (by simp;omega) _).alloc (by simp;omega) _).alloc (by simp;omega) _).setCell (by simp) _
 ·subst hw;refine World.cell?_setCell_same (u:=.pointer none) _ _ _ ?_;rw[World.cell?_alloc_lt _ _ ⟨w.heap.size,0,none⟩ (by simp;omega),World.cell?_alloc_lt _ _ ⟨w.heap.size,0,none⟩ (by simp;omega),World.cell?_alloc_lt _ _ ⟨w.heap.size,0,none⟩ (by simp;omega),World.cell?_alloc_lt _ _ ⟨w.heap.size,0,none⟩ (by simp)];simp
theorem zb5l (w:World) (a:Nat->Addr) (h:Errs w a) (l o:Nat) (j:Int) (G:w.cell? ⟨l,o,none⟩=some (.int .i64 j)) (p:Addr) (H:w.cell? ⟨l,o+1,none⟩=some (.iface 325 (.pointer (some p)))) (A:Array Value) (B:TypeId) (I:w.heap[p.block]? =some (.cells A B (0,0))) (i:Nat) (J:∀n,n<12->(p=a n↔n=i)) :
  Calls Tryz.prog 63 #[.iface 101 (.pointer (some ⟨l,o,none⟩))] w fun e w'=>e= .returned (.tuple #[.int .i64 (codeNum i),.int .i64 j])/\BL w w':=by
 go_enter Tryz.func63,Tryz.ntmps63
 go_wp2_with (go_at_call 113;refine(za4v _ w h.handle).mono ?_;rintro e b ⟨rfl,u,X⟩;have c:=h.below u;have L:b.cell? ⟨l,o,none⟩=some (.int .i64 j):=(u.cell (zl6 G)).trans G;have M:b.cell? ⟨6,0,none⟩=some (.iface 325 (.pointer (some (a 0)))):=c.cell 0 (by decide);have N:b.cell? ⟨0,0,none⟩=some (.iface 325 (.pointer (some (a 1)))):=c.cell 1 (by decide);have O:b.cell? ⟨1,0,none⟩=some (.iface 325 (.pointer (some (a 2)))):=c.cell 2 (by decide);have P:b.cell? ⟨4,0,none⟩=some (.iface 325 (.pointer (some (a 3)))):=c.cell 3 (by decide);have Q:b.cell? ⟨7,0,none⟩=some (.iface 325 (.pointer (some (a 4)))):=c.cell 4 (by decide);have R:b.cell? ⟨2,0,none⟩=some (.iface 325 (.pointer (some (a 5)))):=c.cell 5 (by decide);have S:b.cell? ⟨8,0,none⟩=some (.iface 325 (.pointer (some (a 6)))):=c.cell 6 (by decide);have T:b.cell? ⟨3,0,none⟩=some (.iface 325 (.pointer (some (a 7)))):=c.cell 7 (by decide);have U:b.cell? ⟨5,0,none⟩=some (.iface 325 (.pointer (some (a 8)))):=c.cell 8 (by decide);have V:b.cell? ⟨9,0,none⟩=some (.iface 325 (.pointer (some (a 9)))):=c.cell 9 (by decide);have C:b.cell? ⟨10,0,none⟩=some (.iface 325 (.pointer (some (a 10)))):=c.cell 10 (by decide);have D:b.cell? ⟨11,0,none⟩=some (.iface 325 (.pointer (some (a 11)))):=c.cell 11 (by decide))
 have d:BL w (b.alloc (.cells #[.iface 325 (.pointer (some (a 0))),.iface 325 (.pointer (some (a 1))),.iface 325 (.pointer (some (a 2))),.iface 325 (.pointer (some (a 3))),.iface 325 (.pointer (some (a 4))),.iface 325 (.pointer (some (a 5))),.iface 325 (.pointer (some (a 6))),.iface 325 (.pointer (some (a 7))),.iface 325 (.pointer (some (a 8))),.iface 325 (.pointer (some (a 9))),.iface 325 (.pointer (some (a 10))),.iface 325 (.pointer (some (a 11)))] 35)):=u.alloc u.size _;have E:Errs (b.alloc (.cells #[.iface 325 (.pointer (some (a 0))),.iface 325 (.pointer (some (a 1))),.iface 325 (.pointer (some (a 2))),.iface 325 (.pointer (some (a 3))),.iface 325 (.pointer (some (a 4))),.iface 325 (.pointer (some (a 5))),.iface 325 (.pointer (some (a 6))),.iface 325 (.pointer (some (a 7))),.iface 325 (.pointer (some (a 8))),.iface 325 (.pointer (some (a 9))),.iface 325 (.pointer (some (a 10))),.iface 325 (.pointer (some (a 11)))] 35)) a:=h.below d;have F:(b.alloc (.cells #[.iface 325 (.pointer (some (a 0))),.iface 325 (.pointer (some (a 1))),.iface 325 (.pointer (some (a 2))),.iface 325 (.pointer (some (a 3))),.iface 325 (.pointer (some (a 4))),.iface 325 (.pointer (some (a 5))),.iface 325 (.pointer (some (a 6))),.iface 325 (.pointer (some (a 7))),.iface 325 (.pointer (some (a 8))),.iface 325 (.pointer (some (a 9))),.iface 325 (.pointer (some (a 10))),.iface 325 (.pointer (some (a 11)))] 35)).heap[p.block]? =some (.cells A B (0,0)):=by rw[d.block _ (zx9 I)];exact I
 have v:=za4r b a;have W:(b.alloc (.cells #[.iface 325 (.pointer (some (a 0))),.iface 325 (.pointer (some (a 1))),.iface 325 (.pointer (some (a 2))),.iface 325 (.pointer (some (a 3))),.iface 325 (.pointer (some (a 4))),.iface 325 (.pointer (some (a 5))),.iface 325 (.pointer (some (a 6))),.iface 325 (.pointer (some (a 7))),.iface 325 (.pointer (some (a 8))),.iface 325 (.pointer (some (a 9))),.iface 325 (.pointer (some (a 10))),.iface 325 (.pointer (some (a 11)))] 35)).cell? ⟨l,o+1,none⟩=some (.iface 325 (.pointer (some p))):=by rw[d.cell (zl6 H)];exact H
 clear L X M N O P Q R S T U V C D
 go_loop [3,30] (fun t k=>t= .int .i64 j/\∃n:Nat,n<=12/\(∀m,m<n->m≠i)/\k= .int .i64 n) (fun _ k=>12-(intOf k).toNat)
 case atStart=>exact ⟨rfl,0,by omega,by omega,rfl⟩
 case round =>
  obtain⟨rfl,n,Y,s,rfl⟩:=hrel;by_cases q:n<12
  ·have K:=v n q;have g:=zb5k _ a E l o p W A B F i n q (J n q);by_cases e:n=i
   ·have r:decide (n=i)=true:=by simp[e]
    rw[r]at g;have f:codeNum i=(n:Int)+1:=by unfold codeNum;rw[if_pos (by omega),e]
    have y:Hid (codeNum i=(n:Int)+1):=f;clear f r e s v
    go_wp2_with (go_at_call 114;refine g.mono ?_;rintro e w' ⟨rfl,rfl⟩)
    go_ret2;exact⟨by rw[y.out];rfl,d⟩
   ·have r:decide (n=i)=false:=by simp[e]
    rw[r]at g
    go_wp2_with (go_at_call 114;refine g.mono ?_;rintro e w' ⟨rfl,rfl⟩)
    go_round
    case rel=>exact ⟨rfl,n+1,by omega,za4t s e,by go_num⟩
    case measure=>simp [intOf];omega
  ·have f:codeNum i= -1:=by
    unfold codeNum;rw[if_neg];intro Z;exact s i (by omega) rfl
   have y:Hid (codeNum i= -1):=f;have z:n=12:=by omega
   subst z;clear f s v;go_wp2;go_ret2;exact⟨by rw[y.out];rfl,d⟩
end Go.Proofs.YtgckdomafbnmkaaGreatDoor
namespace Go.Proofs.YtgckdomafbnmkaaGreatDoor
open Go.RowKit Go.Extern.Stop Go.Stop Go.Extern Go.Sort Go.Shelf Go.Lib
theorem zb5m (n:Nat) (d:n<=12) (w:World) (a:Nat->Addr) (h:Errs w a) :
  Calls Tryz.prog 63 #[errV a n] w fun e w'=>e= .returned (.tuple #[.int .i64 n,.int .i64 (-1)])/\BL w w':=by
 cases n with
 | zero =>
  refine(za4q w).mono fun e w' ⟨he,hw⟩=>⟨he,?_⟩;subst hw;exact Below.refl _ _
 | succ i =>
  have b:i<12:=by omega
  obtain⟨f,g,j⟩:=h.block i b;have c:codeNum i=(i:Int)+1:=by unfold codeNum;rw[if_pos b]
  refine(za4u w a h (a i) f g j i (fun n d=>⟨fun e=>(h.inj i n b d e).symm,fun e=>e▸rfl⟩)).mono fun e w' ⟨he,hw⟩=>⟨?_,hw⟩;rw[he,c];simp
theorem zb5n (n:Nat) (m:n≠0) (f:n<=12) (w:World) (a:Nat->Addr) (h:Errs w a) (b:Nat) (j:Int) (o:w.cell? ⟨b,0,none⟩=some (.int .i64 j)) (p:w.cell? ⟨b,1,none⟩=some (errV a n)) :
  Calls Tryz.prog 63 #[.iface 101 (.pointer (some ⟨b,0,none⟩))] w fun e w'=>e= .returned (.tuple #[.int .i64 n,.int .i64 j])/\BL w w':=by
 cases n with
 | zero=>exact absurd rfl m
 | succ i =>
  have c:i<12:=by omega
  obtain⟨g,k,l⟩:=h.block i c;have d:codeNum i=(i:Int)+1:=by unfold codeNum;rw[if_pos c]
  refine(zb5l w a h b 0 j o (a i) p g k l i (fun n f=>⟨fun e=>(h.inj i n c f e).symm,fun e=>e▸rfl⟩)).mono fun e w' ⟨he,hw⟩=>⟨?_,hw⟩;rw[he,d];simp
theorem za4w (v:Value) (xs:List Rw) (w:World) (h:RowsAt w v xs) (f:xs.length<=20000) :
  Calls Tryz.prog 72 #[v] w fun e w'=> ∃v',e= .returned v'/\RowsAt w' v' (sortR xs)/\BL w w':=by
 rcases h with⟨p,c,rfl,rfl⟩|⟨b,o,d,rfl,g⟩
 ·clear f
  go_enter Tryz.func72,Tryz.ntmps72
  go_wp2;refine wp_loop_rounds 1 ?_;rw[rounds_succ];go_wp2;go_ret;exact⟨_,rfl,Or.inl ⟨none,0,rfl,by simp[sortR]⟩,Below.refl _ _⟩
 ·exact zb5c b o d xs w g f
theorem ze1 (w:World):Calls Tryz.prog 62 #[] w fun e w'=>e= .returned (.agg #[.int .i64 0,.int .i64 (-1)])/\BL w w':=by
 go_enter Tryz.func62,Tryz.ntmps62
 go_wp2;refine bodyPost_ret (v:=.agg #[.int .i64 0,.int .i64 (-1)]) (by simp[results,Tryz.results62,go_sem]) rfl ⟨rfl,?_⟩;exact alB _ _
theorem za9 (n:Int) (w:World):Calls Tryz.prog 61 #[.int .i64 n] w fun e w'=>e= .returned (.agg #[.int .i64 n,.int .i64 (-1)])/\BL w w':=by
 go_enter Tryz.func61,Tryz.ntmps61
 go_wp2;refine bodyPost_ret (v:=.agg #[.int .i64 n,.int .i64 (-1)]) (by simp[results,Tryz.results61,go_sem]) rfl ⟨rfl,?_⟩;exact alB _ _
def FC (W:World) (F:Nat) (x y:Int):Prop:=W.heap[F]? =some (.cells #[.int .i64 x,.int .i64 y] 53 (0,0))
theorem FC.lt {W:World} {F:Nat} {x y:Int} (h:FC W F x y):F<W.heap.size:=lt_of_block h
theorem FC.below {W b:World} {F:Nat} {x y:Int} (h:FC W F x y) (c:BL W b):FC b F x y:=(c.block F h.lt).trans h
theorem FC.c0 {W:World} {F:Nat} {x y:Int} (h:FC W F x y):W.cell? ⟨F,0,none⟩=some (.int .i64 x):=by rw[cell_of_row _ _ _ _ _ _ h];rfl
theorem FC.c1 {W:World} {F:Nat} {x y:Int} (h:FC W F x y):W.cell? ⟨F,1,none⟩=some (.int .i64 y):=by rw[cell_of_row _ _ _ _ _ _ h];rfl
theorem FC.fz {W:World} {F:Nat} {x y:Int} (h:FC W F x y) (o:Nat):W.frozen? ⟨F,o,none⟩=false:=frozen_of_row _ _ _ _ _ h
theorem FC.new (w:World):FC (w.alloc (.cells #[.int .i64 0,.int .i64 0] 53)) w.heap.size 0 0:=heap_alloc_new _ _
theorem FC.set {W:World} {F:Nat} {x y:Int} (h:FC W F x y) (a b:Int):FC ((W.setCell ⟨F,0,none⟩ (.int .i64 a)).setCell ⟨F,1,none⟩ (.int .i64 b)) F a b:=by
 have c:(W.setCell ⟨F,0,none⟩ (.int .i64 a)).heap[F]? =some (.cells #[.int .i64 a,.int .i64 y] 53 (0,0)):=by
  rw[heap_setCell_same _ _ _ _ _ _ h];rfl
 show _=_;rw[heap_setCell_same _ _ _ _ _ _ c];rfl
theorem zc8q (q:Option Addr) (n j:Nat) (w:World) (s:40<n) (o:n<=maxLen) :
  Calls Tryz.prog 32 #[.slice q n j] w fun e w'=>e= .returned (.tuple #[.string ⟨#[]⟩,.agg #[.int .i64 8,.int .i64 (-1)]])/\BL w w':=by
 unfold maxLen at o;have p:(40:Int)<(n:Int):=by omega
 have d:=FC.new w;have f:=fun W=>za9 8 W;have g:BL w (w.alloc (.cells #[.int .i64 0,.int .i64 0] 53)):=alB _ _
 go_enter Tryz.func32,Tryz.ntmps32
 go_wp2_with fail
 refine(f _).mono ?_;rintro e m ⟨rfl,c⟩;clear f;have b:=d.below c;have i:BL w m:=trB g c;have k:=b.c0;have l:=b.c1;have r:=b.fz;clear d g c;go_wp2;refine bodyPost_ret (v:=.tuple #[.string ⟨#[]⟩,.agg #[.int .i64 8,.int .i64 (-1)]]) (by simp[results,Tryz.results32,go_sem,k,l]) rfl ⟨rfl,?_⟩;exact(i.setCell (by simp) _).setCell (by simp) _
theorem zb5o (xs:List Rw) (n:Nat) (h:n<xs.length):linesL (xs.take (n+1))=linesL (xs.take n)++(textL xs[n]++ [10]):=by
 rw[<-List.take_append_getElem h,zb1w]
theorem zb5p (q:Option Addr) (f:Nat) (xs:List Rw) (w:World) (hx:RowsAt w (.slice q xs.length f) xs) (hl:xs.length<=40) (hp:∀x∈xs,x.1.size<=30)
  (m:Nat) (hm:m<=xs.length) (y:∀i (h:i<xs.length),i<m->rowE xs[i]=0) (ac:∀(h:m<xs.length),rowE xs[m]≠0) :
  Calls Tryz.prog 32 #[.slice q xs.length f] w fun e w'=>(m=xs.length/\e= .returned (.tuple #[.string (bytesOf (fileOf (sortR xs))),.agg #[.int .i64 0,.int .i64 (-1)]])/\BL w w') \/
   (∃h:m<xs.length,e= .returned (.tuple #[.string ⟨#[]⟩,.agg #[.int .i64 (rowE xs[m]),.int .i64 m]])/\BL w w'):=by
 have av:Hid (m=xs.length->∀x∈xs,rowE x=0):=fun e x hxm=>by
  obtain⟨i,hi,e'⟩:=List.mem_iff_getElem.1 hxm;rw[<-e'];exact y i hi (by omega)
 obtain⟨L,H⟩:∃L,xs.length=L:=⟨_,rfl⟩;have HX:Hid (xs.length=L):=H;have ad:Hid (∀i (h:i<xs.length),i<m->rowE xs[i]=0):=y;have aw:Hid (∀(h:m<xs.length),rowE xs[m]≠0):=ac;have g:(sortR xs).length=L:=by rw[(zd7 xs).length_eq,H]
 have a1:(keysR xs).length=L:=by simp[keysG,H]
 have a2:Hid (endsZ (keysR (sortR xs))=endsZ (keysR xs)):=zb3k (zd7 xs);have HP:Hid (∀x∈xs,x.1.size<=30):=hp;have z:=fun W (hr:RowsAt W (.slice q xs.length f) xs)=>za4w (.slice q xs.length f) xs W hr (by omega);have r:=fun W (hr:RowsAt W (.slice q xs.length f) xs)=>zx2 (.slice q xs.length f) xs W hr (by omega);rw[H]at hx hl hm;simp only[H]at z r;have N:(Value.slice q xs.length f)= .slice q L f:=by rw[H]
 rw[N];have bj:¬(40:Int)<(L:Int):=by omega
 have A:=FC.new w;have I:BL w (w.alloc (.cells #[.int .i64 0,.int .i64 0] 53)):=alB _ _;clear H y ac N hp
 go_enter Tryz.func32,Tryz.ntmps32
 go_wp2;generalize w.alloc (.cells #[.int .i64 0,.int .i64 0] 53)=u at A I ⊢;have j:∀W,BL u W->RowsAt W (.slice q L f) xs:=fun W hW=>hx.below (trB I hW);clear hx
 go_loopw [4] (fun k wr=> ∃n:Nat,n<=m/\k= .int .i64 n/\BL u wr) (fun k _=>L-(intOf k).toNat)
 case atStart=>exact ⟨0,by omega,rfl,Below.refl _ _⟩
 case round =>
  obtain⟨n,hn,rfl,M⟩:=hrel;by_cases a3:n<L
  ·have s:n<xs.length:=by rw[HX.out];exact a3
   have t:=j wr M;rcases t with⟨_,_,e,e'⟩|⟨b,o,a0,e,d⟩
   ·exfalso;have:=HX.out;rw[e']at this;simp at this;omega
   injection e with e1 e2 e3;subst e1;clear e2 e3;obtain⟨c1,c2,c3⟩:=d n s;clear d;have hi:(n:Int)<(L:Int):=by omega
   have a4:(0:Int)<=(n:Int):=by omega
   have O:=HP.out xs[n] (List.getElem_mem _);have c:=zw2 xs[n] wr (by unfold maxLen;omega);by_cases ax:n<m
   ·rw[ad.out n s ax]at c;generalize xs[n]=x at c1 c2 c3 c;obtain⟨xp,xk,xv⟩:=x;dsimp only at c1 c2 c3 c;clear z r j
    go_wp2_with fail
    refine c.mono ?_;rintro e D ⟨rfl,p⟩;clear c;have l:BL u D:=trB M p;go_wp2;go_roundw
    case rel=>exact ⟨n+1,by omega,by go_num,l⟩
    case measure=>simp [intOf];omega
   ·have a5:n=m:=by omega
    subst a5;have hE:=aw.out s;obtain⟨E,aa⟩:∃E,rowE xs[n]=E:=⟨_,rfl⟩;have a6:Hid (rowE xs[n]=E):=aa;rw[aa]at c hE;have bk:(0:Int)<(E:Int):=by omega
    clear aa hE O;generalize xs[n].1=xp at c1 c;generalize xs[n].2.1=xk at c2 c;generalize xs[n].2.2=xv at c3 c;clear z r j;have ae:=A.below M
    go_wp2_with fail
    refine c.mono ?_;rintro e D ⟨rfl,p⟩;clear c;have l:BL u D:=trB M p;have hB:BL w D:=trB I l;have P:=ae.below p;have j0:=P.c0;have j1:=P.c1;have jz:=P.fz;clear A ae c1 c2 c3;go_wp2;refine bodyPost_ret (v:=.tuple #[.string ⟨#[]⟩,.agg #[.int .i64 E,.int .i64 n]]) (by simp[results,Tryz.results32,go_sem,j0,j1]) rfl (Or.inr ⟨s,by rw[a6.out],?_⟩);exact(hB.setCell (by simp) _).setCell (by simp) _
  ·have a7:n=L:=by omega
   subst a7;have af:m=n:=by omega
   have F:=av.out (by rw[HX.out];exact af);have Q:=z wr (j wr M);clear z
   go_wp2_with fail
   refine Q.mono ?_;rintro e D ⟨v2,rfl,K,p⟩;clear Q;have a8:BL u D:=trB M p;obtain⟨p2,c2,ab⟩:=K.form;rw[g]at ab;subst ab;have R:=zb3l F;have ag:Hid (∀x∈sortR xs,rowE x=0):=R;have U:Hid (∀k,(linesL ((sortR xs).take k)).length<=33*k):=fun k=>by
    have h1:=zb1x ((sortR xs).take k) (fun x hxx=>R x (List.mem_of_mem_take hxx));rw[List.length_take]at h1;omega
   have ah:Hid (∀x∈sortR xs,x.1.size<=30):=fun x hxx=>HP.out x ((zd7 xs).mem_iff.1 hxx);have G:=zb1y F;have ai:Hid (bytesOf (headL (⟨#[100,97,116,97]⟩:ByteArray).data.toList (keysR xs).length (endsZ (keysR xs)).1 (endsZ (keysR xs)).2 (sumL (linesL (sortR xs)))++10 :: linesL (sortR xs))=bytesOf (fileOf (sortR xs))):=by
    show _=_;have e:fileOf (sortR xs)=headL kData (sortR xs).length (endsZ (keysR (sortR xs))).1 (endsZ (keysR (sortR xs))).2 (sumL (linesL (sortR xs)))++10 :: linesL (sortR xs):=rfl;rw[e,a2.out,a1,g];rfl
   clear p R F;generalize ar:sortR xs=S at K g ag U ah ai;have a9:Hid (sortR xs=S):=ar;clear ar;go_wp2
   go_loopw [7,8] (fun bd k w3=> ∃i:Nat,i<=n/\k= .int .i64 i/\BL D w3/\bd= .string (bytesOf (linesL (S.take i)))) (fun _ k _=>n-(intOf k).toNat)
   case atStart=>exact ⟨0,by omega,rfl,Below.refl _ _,rfl⟩
   case round =>
    obtain⟨i,bl,rfl,l,rfl⟩:=hrel;by_cases ay:i<n
    ·have V:i<S.length:=by rw[g];exact ay
     have t:=K.below l;rcases t with⟨_,_,e,e'⟩|⟨b,o,a0,e,d⟩
     ·exfalso;rw[e']at g;simp at g;omega
     injection e with e1 e2 e3;subst e1;clear e2 e3;obtain⟨d1,d2,d3⟩:=d i V;clear d;have hi:(i:Int)<(n:Int):=by omega
     have a4:(0:Int)<=(i:Int):=by omega
     have O:=ah.out S[i] (List.getElem_mem _);have J:=ag.out S[i] (List.getElem_mem _);have B:=zb4e S[i] wr (by unfold maxLen;omega);have aj:(textB S[i]).size<=32:=by
      rw[<-za3,za3i _ J];exact za2k _ J
     have ba:(bytesOf (linesL (S.take i))).size<=33*i:=by rw[zf7];exact U.out i
     have HT:Hid (bytesOf (linesL (S.take i))++textB S[i]++⟨#[10]⟩=bytesOf (linesL (S.take (i+1)))):=by
      show _=_;apply zc1;rw[zb5o S i V];simp[bytesOf,ByteArray.data_append,za3i _ J]
     generalize bytesOf (linesL (S.take i))=B0 at ba HT ⊢;generalize S[i]=x at d1 d2 d3 B aj HT;generalize textB x=tx at B aj HT;obtain⟨xp,xk,xv⟩:=x;dsimp only at d1 d2 d3 B;clear V O J r j
     go_wp2_with fail
     refine B.mono ?_;rintro e w4 ⟨rfl,bf⟩;clear B;have X:BL D w4:=trB l bf;go_wp2;go_roundw
     case rel=>exact ⟨i+1,by omega,by go_num,X,by rw[HT.out]⟩
     case measure=>simp [intOf];omega
    ·have az:i=n:=by omega
     subst az;have ak:S.take i=S:=List.take_of_length_le (by rw[g];exact Nat.le_refl _);have al:=U.out i;rw[ak]at al ⊢;have am:BL u wr:=trB a8 l;have an:=r wr (j wr am);have C:=fun W (v:Value) (hz:KeysAt W v (keysR xs))=>za4j ⟨#[100,97,116,97]⟩ (by decide) v (keysR xs) (bytesOf (linesL S)) W hz (by omega) (by rw[zf7];omega) (by have:=G.1;simp only[inNum,Bool.and_eq_true,decide_eq_true_eq]at this;omega) (by have:=G.2;simp only[inNum,Bool.and_eq_true,decide_eq_true_eq]at this;omega);have ao:(bytesOf (linesL S)).data.toList=linesL S:=by simp[bytesOf]
     simp only[ao,ai.out]at C;generalize au:bytesOf (fileOf S)=T at C;have bb:Hid (bytesOf (fileOf S)=T):=au;clear au;generalize bytesOf (linesL S)=BD at C ⊢;clear r j ak al G ao K
     go_wp2_with fail
     refine an.mono ?_;rintro e w5 ⟨v5,rfl,bg,X⟩;clear an;have ap:=C w5 v5 bg;clear C
     go_wp2_with fail
     refine ap.mono ?_;rintro e w6 ⟨rfl,bh⟩;clear ap;have Y:=ze1 w6
     go_wp2_with fail
     refine Y.mono ?_;rintro e w7 ⟨rfl,bi⟩;clear Y;have bc:BL u w5:=trB am X;have be:BL u w6:=trB bc bh;have aq:BL u w7:=trB be bi;have hB:BL w w7:=trB I aq;have Z:=A.below aq;have j0:=Z.c0;have j1:=Z.c1;have jz:=Z.fz;clear A;go_wp2;refine bodyPost_ret (v:=.tuple #[.string T,.agg #[.int .i64 0,.int .i64 (-1)]]) (by simp[results,Tryz.results32,go_sem,j0,j1]) rfl (Or.inl ⟨by rw[HX.out];exact af,by rw[a9.out,bb.out],?_⟩);exact(hB.setCell (by simp) _).setCell (by simp) _
def atZ:Option Nat->Int
 | some i=>i
 | none=> -1
def ahead (fs:List Fl):Nat->Int
 | 0=>0
 | n+1=>match fs[n]? with
  | some f=>fk f
  | none=>0
theorem zy0 {b:List Fl} {n:Nat} (h:n<b.length):ahead b (n+1)=fk b[n]:=by
 show (match b[n]? with
  | some f=>fk f
  | none=>0)=_
 rw[List.getElem?_eq_getElem h]
def LeftG (fs:List Fl) (n:Nat):Prop:=lstG 0 fs 0=lstG (ahead fs n) (fs.drop n) n
theorem za4x (b:List Fl):LeftG b 0:=rfl
theorem za4y {b:List Fl} {n:Nat} (h:LeftG b n) (c:n<b.length) (d:fileE b[n]≠0):lstG 0 b 0=(fileE b[n],some n):=by
 unfold LeftG at h;rw[h,List.drop_eq_getElem_cons c];unfold lstG;rw[if_pos d]
theorem za4z {b:List Fl} {n:Nat} (h:LeftG b n) (c:n<b.length) (d:fileE b[n]=0) (f:fk b[n]<=ahead b n):lstG 0 b 0=(9,some n):=by
 unfold LeftG at h;rw[h,List.drop_eq_getElem_cons c];unfold lstG;rw[if_neg (by simp[d]),if_pos f]
theorem za5a {b:List Fl} {n:Nat} (h:LeftG b n) (c:n<b.length) (d:fileE b[n]=0) (f:ahead b n<fk b[n]):LeftG b (n+1):=by
 unfold LeftG at h ⊢;rw[h,zy0 c]
 conv=>lhs;rw[List.drop_eq_getElem_cons c]
 conv=>lhs;unfold lstG
 rw[if_neg (by simp[d]),if_neg (by omega)]
theorem za5b {b:List Fl} (h:LeftG b b.length):lstG 0 b 0=(0,none):=by
 unfold LeftG at h;rw[h,List.drop_length];rfl
theorem zy1 (v:Value) (c:List Fl) (w:World) (hx:FlsAt w v c) (hl:c.length<=20000) (ak:∀f∈c,f.1.size<=100000/\f.2.1.size<=100000) :
  Calls Tryz.prog 23 #[v] w fun e w'=>e= .returned (.agg #[.int .i64 (listE c).1,.int .i64 (atZ (listE c).2)])/\BL w w':=by
 obtain⟨q,ax,rfl⟩:=hx.form;have am:Hid (FlsAt w (.slice q c.length ax) c):=hx;have X:Hid (∀f∈c,f.1.size<=100000/\f.2.1.size<=100000):=ak;obtain⟨L,hL⟩:∃L,c.length=L:=⟨_,rfl⟩;have S:Hid (c.length=L):=hL;rw[hL]at hl ⊢;have s:=FC.new w;have t:BL w (w.alloc (.cells #[.int .i64 0,.int .i64 0] 53)):=alB _ _;generalize hR:listE c=R;have HR:Hid (listE c=R):=hR;clear hL hx ak hR;by_cases I:60<L
 ·have l:R=(8,none):=by rw[<-HR.out];unfold listE;rw[if_pos (by rw[S.out];exact I)]
  subst l;have hi:(60:Int)<(L:Int):=by omega
  have J:=za9 8 (w.alloc (.cells #[.int .i64 0,.int .i64 0] 53))
  go_enter Tryz.func23,Tryz.ntmps23
  go_wp2_with fail
  generalize w.alloc (.cells #[.int .i64 0,.int .i64 0] 53)=WA at J s t ⊢;refine J.mono ?_;rintro e w1 ⟨rfl,Q⟩;clear J;have K:=s.below Q;have an:BL w w1:=trB t Q;have A:=K.c0;have B:=K.c1;have T:=K.fz;clear s t Q;go_wp2;refine bodyPost_ret (v:=.agg #[.int .i64 8,.int .i64 (-1)]) (by simp[results,Tryz.results23,go_sem,A,B]) rfl ⟨rfl,?_⟩;exact(an.setCell (Nat.le_refl _) _).setCell (Nat.le_refl _) _
 ·have M:Hid (R=lstG 0 c 0):=by
   show _=_;rw[<-HR.out];unfold listE;rw[if_neg (by rw[S.out];exact I)]
  have hi:¬(60:Int)<(L:Int):=by omega
  clear HR
  go_enter Tryz.func23,Tryz.ntmps23
  go_wp2;generalize w.alloc (.cells #[.int .i64 0,.int .i64 0] 53)=WA at s t ⊢
  go_loopw [3] (fun k wr=> ∃n:Nat,n<=L/\k= .int .i64 n/\LeftG c n/\BL w wr/\FC wr w.heap.size 0 0) (fun k _=>L-(intOf k).toNat)
  case atStart=>exact ⟨0,by omega,rfl,za4x c,t,s⟩
  case round =>
   clear s t;obtain⟨n,hn,rfl,ai,hb,aj⟩:=hrel;have G:Hid (LeftG c n):=ai;have aa:Hid (FC wr w.heap.size 0 0):=aj;clear ai aj;by_cases ao:n<L
   ·have j:n<c.length:=by rw[S.out];exact ao
    obtain⟨b,o,hq,hc⟩:=(am.out.below hb).cells (fun e=>by rw[e]at j;simp at j);subst hq;have HC:Hid (FlCells wr b o c):=hc;obtain⟨U,c1,c2,c3,c4,c5⟩:=hc n j;obtain⟨V,k2⟩:=X.out c[n] (List.getElem_mem _);have u:=za4k c[n] wr V k2;have z:=fun e=>za4y G.out j e;have i:=fun e o=>za4z G.out j e o;have g:=fun e o=>za5a G.out j e o;have C:fileE c[n]=0->0<fk c[n]:=fun e=>za2u e;unfold flV at u;have D:Hid (fk c[n]=pk c[n].1.data.toList):=rfl;generalize fileE c[n]=E at u z i g C;generalize fk c[n]=Z at i g C D;generalize c[n]=f at U c1 c2 c3 c4 c5 u D V;obtain⟨fp,fq,fn,a1,a2,ay⟩:=f;dsimp only at U c1 c2 c3 c4 c5 u D V;have ap:(n:Int)<(L:Int):=by omega
    have al:(0:Int)<=(n:Int):=by omega
    clear hc
    go_wp2_with fail
    refine u.mono ?_;rintro e p ⟨rfl,r⟩;have ab:=za0 r U;clear u U c1 c2 c3 c4 c5;have F:BL w p:=trB hb r;have d:=aa.out.below r;have A:=d.c0;have B:=d.c1;have T:=d.fz;by_cases hE:E=0
    ·subst hE;have aq:=C rfl;replace i:=i rfl;replace g:=g rfl;clear C z
     cases n with
     | zero =>
      have ac:ahead c 0<Z:=aq;have N:Hid (LeftG c (0+1)):=g ac;have ar:Hid (FC p w.heap.size 0 0):=d;clear i g ac d A B T ab;go_wp2;go_roundw
      case rel=>exact ⟨0+1,by omega,by go_num,N.out,F,ar.out⟩
      case measure=>simp [intOf];omega
     | succ m =>
      have O:m<c.length:=by omega
      have ad:=zy0 O;have g0:=((HC.out.below r) m O).1;have ae:=(X.out c[m] (List.getElem_mem _)).1;have y:=fun W=>za4m fp c[m].1 W V ae;have af:Hid (ahead c (m+1)=pk c[m].1.data.toList):=ad;rw[<-af.out,<-D.out]at y;generalize c[m].1=gp at g0 y;generalize ahead c (m+1)=Y at i g y;have r1:(0:Int)<(m:Int)+1:=by omega
      have r2:(m:Int)<(L:Int):=by omega
      have r3:(m:Int)+1<(L:Int):=by omega
      have r4:(0:Int)<=(m:Int):=by omega
      have r5:(0:Int)<=(m:Int)+1:=by omega
      have r6:IntKind.i64.wrap (m:Int)=(m:Int):=IntWalk.i64_in _ (by omega);clear ap al;have au:BL p p:=Below.refl _ _;have H:BL p p.drew:=au.drew;have av:=d.below H;have aw:Hid (FC p.drew w.heap.size 0 0):=av;have ag:BL w p.drew:=F.drew;clear af D ad O k2 j ae d
      go_wp2_with fail
      go_region_held3 (fun w'=>w'.cell? ⟨b,o+(m+1)*6,none⟩=some (.string fp)/\w'.cell? ⟨b,o+m*6,none⟩=some (.string gp)/\BL p w')
       (first
        | (go_split_ands;with_reducible exact⟨za0 H ab,za0 H g0,H⟩)
        | (go_split_ands;exact⟨by assumption,by assumption,by assumption⟩))
       (first
        | (go_at_call 67;with_reducible refine(y _).mono ?_;rintro e wX ⟨rfl,rfl⟩))
      go_split_ands;by_cases ho:Z<=Y
      ·have P:decide (Y<Z)=false:=decide_eq_false (by omega);rw[P];have l:R=(9,some (m+1)):=M.out.trans (i ho);subst l;clear i g y ho P;go_wp2;refine bodyPost_ret (v:=.agg #[.int .i64 9,.int .i64 ((m+1:Nat):Int)]) (by simp[results,Tryz.results23,go_sem,A,B]) rfl ⟨rfl,?_⟩;exact(ag.setCell (Nat.le_refl _) _).setCell (Nat.le_refl _) _
      ·have P:decide (Y<Z)=true:=decide_eq_true (by omega);rw[P];have N:Hid (LeftG c (m+1+1)):=g (by omega);clear i g y ho P A B T;go_wp2;go_roundw
       case rel=>exact ⟨m+1+1,by omega,by go_num,N.out,ag,aw.out⟩
       case measure=>simp [intOf];omega
    ·have az:(0:Int)<(E:Int):=by omega
     have a0:¬(E:Int)=0:=by omega
     have l:R=(E,some n):=M.out.trans (z hE);subst l;clear z i g C hE d;go_wp2;refine bodyPost_ret (v:=.agg #[.int .i64 E,.int .i64 n]) (by simp[results,Tryz.results23,go_sem,A,B]) rfl ⟨rfl,?_⟩;exact(F.setCell (Nat.le_refl _) _).setCell (Nat.le_refl _) _
   ·obtain rfl:n=L:=by omega
    have l:R=(0,none):=M.out.trans (za5b (by rw[S.out];exact G.out));subst l;have ah:=ze1 wr
    go_wp2_with fail
    refine ah.mono ?_;rintro e p ⟨rfl,r⟩;clear ah;have F:BL w p:=trB hb r;have d:=aa.out.below r;have A:=d.c0;have B:=d.c1;have T:=d.fz;go_wp2;refine bodyPost_ret (v:=.agg #[.int .i64 0,.int .i64 (-1)]) (by simp[results,Tryz.results23,go_sem,A,B]) rfl ⟨rfl,?_⟩;exact(F.setCell (Nat.le_refl _) _).setCell (Nat.le_refl _) _
def Src (w:World) (q:Option Addr) (m c:Nat) (ys:List Value):Prop :=
 (m=0/\(q=none->c=0))\/∃b o,q=some ⟨b,o,none⟩/\∀j u,ys[j]? =some u->w.cell? ⟨b,o+j,none⟩=some u
theorem Src.below {w w':World} {q:Option Addr} {m c:Nat} {d:List Value} (h:Src w q m c d) (f:BL w w'):Src w' q m c d:=by
 rcases h with h | ⟨b,o,e,h⟩
 ·exact Or.inl h
 ·exact Or.inr ⟨b,o,e,fun j u hu=>za0 f (h j u hu)⟩
theorem zi9 (w:World) (cs:List Value) (t:TypeId) (m c:Nat):Src (w.alloc (.cells cs.toArray t)) (some ⟨w.heap.size,0,none⟩) m c cs:=by
 refine Or.inr ⟨_,_,rfl,fun j u hj=>?_⟩;rw[Nat.zero_add];have h:=heap_alloc_new w (.cells cs.toArray t);unfold World.cell?;dsimp only;rw[h];simpa using hj
theorem zb5q {w:World} {base:Nat} {e:TypeId} {b:Nat} {q:Option Addr} {n c m:Nat} {xs:List Value} (h:w.ownsRow base e b (.slice q n c) m xs):n=m/\Src w q n c xs:=by
 rcases h.2 with⟨e,i⟩|⟨g,d,f,e,_,k,_,_,_,l⟩
 ·injection e with e1 e2 e3;exact⟨by omega,Or.inl ⟨e2,fun _=>e3⟩⟩
 ·injection e with e1 e2 e3;refine⟨e2,Or.inr ⟨g,0,e1,fun j u hj=>?_⟩⟩;have:=h.cells (g:=g) (by rw[e1];rfl) j u hj;rw[Addr.add_lit,Nat.zero_add]at this;rw[Nat.zero_add];exact this
theorem zf1 {P:Program} (w:World) (base:Nat) (t L e:TypeId) (i:TypeInfo) (z:Value) (d k:Nat) (B:P.underlying t=some (.slice e)) (hi:P.info? e=some i) (C:i.zero=some z)
  (r:i.size=d) (D:i.bytes=k) (E:z.cells.size=d) (F:0<d)
  (v:Value) (n:Nat) (xs:List Value) (l:w.ownsRow base e d v n xs)
  (q:Option Addr) (m c:Nat) (f:List Value) (M:f.length=m*d) (N:Src w q m c f) (Q:∀u∈f,u.oneCell'=true)
  (G:n+m<=maxLen) (p:(n+m)*k<=140737488355328) (s:base<=w.heap.size) :
  ∃v' w',(Builtin.append_ #[t,t] L #[v,.slice q m c]).run P w= .ok v' w'/\w'.ownsRow base e d v' (n+m) (xs++f)/\w.grownBy w' v.ownBlock/\(v'.ownBlock=v.ownBlock\/v'.ownBlock=some w.heap.size):=by
 rcases N with⟨R,S⟩|⟨b,o,rfl,y⟩
 ·subst R;have A:f= []:=List.length_eq_zero_iff.1 (by simpa using M);subst A
  cases q with
  | none =>
   have O:=S rfl;subst O;refine⟨v,w,?_,by simpa using l,⟨rfl,rfl,rfl,Nat.le_refl _,fun _ _ _=>rfl⟩,Or.inl rfl⟩;rcases l.2 with⟨rfl,_⟩|⟨g,U,V,rfl,_,_,T,_⟩
   ·simp[Builtin.append_,run_underlying B,sizeOf,typeInfo,zeroValue,hi,C,Builtin.lenOf,run_firstCells_none]
   ·simp[Builtin.append_,run_underlying B,sizeOf,typeInfo,zeroValue,hi,C,Builtin.lenOf,run_firstCells_none,T,storeCells]
  | some ad =>
   obtain⟨v',w',H,I,J,_,K⟩:=run_append_own_at (P:=P) w base t L e i z d k B hi C r D E F v n xs l ad 0 c [] M (fun j u hj=>by simp at hj) Q G p s;exact⟨v',w',H,I,J,K⟩
 ·obtain⟨v',w',H,I,J,_,K⟩:=run_append_own_at (P:=P) w base t L e i z d k B hi C r D E F v n xs l ⟨b,o,none⟩ m c f M (fun j u hj=>by rw[Addr.add_lit];exact y j u hj) Q G p s;exact⟨v',w',H,I,J,K⟩
theorem zb1 {P:Program} {w:World} {l:Array Oper} {rest:List Oper} {o:Oper} {a:Act} {Q:Exit->Act->World->Prop} (y:o.guard=none) (s x:Operand) (t:TypeId)
  (I:o.op= .call { callee:=.builtin .append,args:=#[s,x],argTypes:=#[t,t] })
  (base:Nat) (e:TypeId) (i:TypeInfo) (z:Value) (b f:Nat) (J:P.underlying t=some (.slice e)) (hi:P.info? e=some i) (L:i.zero=some z)
  (j:i.size=b) (A:i.bytes=f) (B:z.cells.size=b) (C:0<b)
  (v:Value) (n:Nat) (xs:List Value) (M:a.eval s=v) (p:w.ownsRow base e b v n xs)
  (q:Option Addr) (m c:Nat) (d:List Value) (N:a.eval x= .slice q m c) (O:d.length=m*b) (r:Src w q m c d) (R:∀u∈d,u.oneCell'=true)
  (D:n+m<=maxLen) (g:(n+m)*f<=140737488355328) (k:base<=w.heap.size)
  (h:∀v' w',w'.ownsRow base e b v' (n+m) (xs++d)->w.grownBy w' v.ownBlock->(v'.ownBlock=v.ownBlock\/v'.ownBlock=some w.heap.size)->wpList P l Q rest (a.put o.dst v') w') :
  wpList P l Q (o :: rest) a w:=by
 refine wpList_plain y fun K hK=>?_;obtain⟨v',w',E,F,G,H⟩:=zf1 (P:=P) w base t o.type e i z b f J hi L j A B C v n xs p q m c d O r R D g k;unfold Oper.wp execOp;simp only[I,resolve,invoke,builtin,Sem.run_bind,Sem.run_pure,Result.andThen_ok,List.map_toArray,List.map_cons,List.map_nil,M,N,E];exact hK _ _ (h v' w' F G H)
theorem za5c {w:World} {q:Option Addr} {n c:Nat} {d:List Fl} (h:FlsAt w (.slice q n c) d):Src w q n c (flatF d):=by
 rcases h with⟨p,j,e,f,rfl⟩|⟨b,o,i,e,k,g⟩
 ·simp only[Value.slice.injEq]at e;obtain⟨rfl,rfl,rfl⟩:=e;exact Or.inl ⟨rfl,f⟩
 ·simp only[Value.slice.injEq]at e;obtain⟨rfl,rfl,rfl⟩:=e;exact Or.inr ⟨b,o,rfl,zq4 g⟩
theorem zy2 {w:World} {b o:Nat} {c:List Fl} (h:FlCells w b o c) (n:Nat):FlCells w b o (c.take n):=fun j hj=>by
 rw[List.length_take]at hj;have:=h j (by omega);rw[List.getElem_take];exact this
theorem zb5r {w:World} {b o:Nat} {c:List Fl} (h:FlCells w b o c) (n:Nat):FlCells w b (o+n*6) (c.drop n):=fun j hj=>by
 rw[List.length_drop]at hj;have:=h (n+j) (by omega);rw[List.getElem_drop];have e:o+n*6+j*6=o+(n+j)*6:=by omega
 rw[e];exact this
theorem zb5s {b:List Fl} {f:Fl} {n:Nat} (p:n<=b.length) (o:∀j (h:j<b.length),j<n->fk b[j]<fk f) (i:∀h:n<b.length,¬fk b[n]<fk f):placeL b f=b.take n++f :: b.drop n:=by
 have c:∀g∈b.take n,fk g<fk f:=fun g hg=>by
  obtain⟨a,m,rfl⟩:=List.mem_iff_getElem.1 hg;rw[List.length_take]at m;rw[List.getElem_take];exact o a (by omega) (by omega)
 have d:b=b.take n++b.drop n:=(List.take_append_drop n b).symm;have k:b.takeWhile (fun g=>decide (fk g<fk f))=b.take n:=by
  conv=>lhs;rw[d]
  rw[List.takeWhile_append_of_pos (fun g hg=>by simpa using c g hg)];rcases Nat.lt_or_ge n b.length with h | h
  ·rw[List.drop_eq_getElem_cons h,List.takeWhile_cons_of_neg (by simpa using i h),List.append_nil]
  ·rw[List.drop_of_length_le h];simp
 have l:b.dropWhile (fun g=>decide (fk g<fk f))=b.drop n:=by
  conv=>lhs;rw[d]
  rw[List.dropWhile_append_of_pos (fun g hg=>by simpa using c g hg)];rcases Nat.lt_or_ge n b.length with h | h
  ·rw[List.drop_eq_getElem_cons h,List.dropWhile_cons_of_neg (by simpa using i h)]
  ·rw[List.drop_of_length_le h];simp
 unfold placeL;rw[k,l]
theorem za5d (v:Value) (b:List Fl) (w:World) (l:FlsAt w v b) (A:b.length<=1000) :
  Calls Tryz.prog 11 #[v] w fun e w'=> ∃v',e= .returned v'/\w'.ownsRow w.heap.size 43 6 v' b.length (flatF b)/\BL w w':=by
 obtain⟨z,r,s,t,g⟩:=Tryz.fileInfo;obtain⟨q,c,rfl⟩:=l.form;have m:Hid (Src w q b.length c (flatF b)):=za5c l;obtain⟨L,i⟩:∃L,b.length=L:=⟨_,rfl⟩;have n:Hid (b.length=L):=i;rw[i]at A ⊢;clear i l
 go_enter Tryz.func11,Tryz.ntmps11
 go_wp2_with (at_builtin;(refine zb1 rfl _ _ 23 rfl w.heap.size 43 z (.agg #[.string ⟨#[]⟩,.string ⟨#[]⟩,.int .i64 0,.int .i64 0,.int .i64 0,.int .i64 0]) 6 64 Tryz.underlying23 r s t g rfl (by decide) (.slice none 0 0) 0 [] rfl (World.ownsRow_nil _ _ _ _) q L c (flatF b) rfl ?qf1 ?qf2 ?qf3 ?qf4 ?qf5 ?qf6 ?_))
 any_goals first
  | exact ze0 b
  | (rw[zb2,n.out])
  | (have o:=m.out;rw[n.out]at o;exact o)
  | (unfold maxLen;omega)
  | omega
  | exact Nat.le_refl _
 intro u j d f _;have p:BL w j:=(Below.refl _ _).grown f (Nat.le_refl _) (fun k hk=>by simp[Value.ownBlock]at hk);have y:Hid (j.ownsRow w.heap.size 43 6 u L (flatF b)):=by
  show j.ownsRow _ _ _ _ _ _;simpa using d
 clear d f;go_wp2;go_ret;exact⟨u,rfl,y.out,p⟩
theorem zb5t {b:List Fl} {z:Int} {n:Nat} (h:∀j (h:j<b.length),j<n->fk b[j]<z) (d:n<b.length) (e:fk b[n]<z):∀j (h:j<b.length),j<n+1->fk b[j]<z:=fun j hj hjn=>by
 rcases Nat.lt_or_ge j n with c | c
 ·exact h j hj c
 ·obtain rfl:j=n:=by omega
  exact e
def NewF (w:World) (v:Value):Prop:= ∀k,v.ownBlock=some k->w.heap.size<=k
theorem zq9 (v:Value) (c:List Fl) (f:Fl) (w:World) (hx:FlsAt w v c) (hl:c.length<=1000) (bd:∀g∈c,g.1.size<=100000) (hf:f.1.size<=100000) :
  Calls Tryz.prog 35 #[v,flV f] w fun e w'=> ∃v',e= .returned v'/\FlsAt w' v' (placeL c f)/\NewF w v'/\BL w w':=by
 obtain⟨Y,F,G,H,A⟩:=Tryz.fileInfo;obtain⟨q,ag,rfl⟩:=hx.form;have a7:Hid (FlsAt w (.slice q c.length ag) c):=hx;have be:Hid (∀g∈c,g.1.size<=100000):=bd;obtain⟨L,hL⟩:∃L,c.length=L:=⟨_,rfl⟩;have V:Hid (c.length=L):=hL;rw[hL]at hl ⊢;obtain⟨FK,ap⟩:∃z,fk f=z:=⟨_,rfl⟩;have bn:Hid (fk f=FK):=ap;have a8:Hid (pk f.1.data.toList=FK):=ap;have aq:Hid (∀n,n<=c.length->(∀j (h:j<c.length),j<n->fk c[j]<FK)->(∀h:n<c.length,¬fk c[n]<FK)->placeL c f=c.take n++f :: c.drop n):=fun n h1 h2 h3=>zb5s h1 (by rw[ap];exact h2) (by rw[ap];exact h3);have an:Hid (FlAt (w.alloc (.cells #[.string f.1,.string f.2.1,.int .i64 f.2.2.1,.int .i64 f.2.2.2.1,.int .i64 f.2.2.2.2.1,.int .i64 f.2.2.2.2.2] 43)) w.heap.size f):=FlAt.new w f;have ao:BL w (w.alloc (.cells #[.string f.1,.string f.2.1,.int .i64 f.2.2.1,.int .i64 f.2.2.2.1,.int .i64 f.2.2.2.2.1,.int .i64 f.2.2.2.2.2] 43)):=alB _ _;clear hL hx bd ap;unfold flV;obtain⟨P,hP⟩:∃P,placeL c f=P:=⟨_,rfl⟩;rw[hP];rw[hP]at aq;clear hP;obtain⟨m,r,s,i,l,d⟩:=f;dsimp only at an ao hf a8 aq ⊢
 go_enter Tryz.func35,Tryz.ntmps35
 go_upto_block 0 with fail
 generalize w.alloc (.cells #[.string m,.string r,.int .i64 s,.int .i64 i,.int .i64 l,.int .i64 d] 43)=WA at an ao ⊢
 go_cut [5,6] from 8 to 23 (fun k _ wx=> ∃n:Nat,n<=L/\k= .int .i64 n/\(∀j (h:j<c.length),j<n->fk c[j]<FK)/\(∀h:n<c.length,¬fk c[n]<FK)/\BL w wx/\FlAt wx w.heap.size (m,r,s,i,l,d))
 case first =>
  go_wp2_with fail
  go_loopw [5,6] (fun k _ wr=> ∃n:Nat,n<=L/\k= .int .i64 n/\(∀j (h:j<c.length),j<n->fk c[j]<FK)/\BL w wr/\FlAt wr w.heap.size (m,r,s,i,l,d)) (fun k _ _=>L-(intOf k).toNat)
  case atStart=>exact ⟨0,by omega,rfl,fun j h h'=>absurd h' (Nat.not_lt_zero _),ao,an.out⟩
  case round =>
   clear an ao;obtain⟨n,hn,rfl,ah,I,ai⟩:=hrel;have aw:Hid (∀j (h:j<c.length),j<n->fk c[j]<FK):=ah;have al:Hid (FlAt wr w.heap.size (m,r,s,i,l,d)):=ai;clear ah;by_cases bf:n<L
   ·have am:n<c.length:=by rw[V.out];exact bf
    obtain⟨b,o,hq,hc⟩:=(a7.out.below I).cells (fun e=>by rw[e]at am;simp at am);subst hq;have c0:=(hc n am).1;have X:=ai.cells.1;dsimp only at X;have ax:=fun W=>za4m m c[n].1 W hf (be.out c[n] (List.getElem_mem _));rw[a8.out]at ax;have aa:∀W,Calls Tryz.prog 67 #[.string m,.string c[n].1] W fun e w'=>e= .returned (.bool (decide (fk c[n]<FK)))/\w'=W:=ax;have ar:=fun e=>zb5t aw.out am e;obtain⟨Z,hZ⟩:∃z,fk c[n]=z:=⟨_,rfl⟩;have HZ:Hid (fk c[n]=Z):=hZ;rw[hZ]at aa ar;clear hc ax hZ;generalize c[n].1=gp at c0 aa;have bo:(n:Int)<(L:Int):=by omega
    have bl:(0:Int)<=(n:Int):=by omega
    have bg:BL wr wr:=Below.refl _ _;have au:BL wr wr.drew:=bg.drew;have a9:BL w wr.drew:=I.drew;have ba:Hid (FlAt wr.drew w.heap.size (m,r,s,i,l,d)):=ai.below au;clear ai
    go_wp2_with fail
    go_region_held3 (fun w'=>w'.cell? ⟨b,o+n*6,none⟩=some (.string gp)/\w'.cell? ⟨w.heap.size,0,none⟩=some (.string m)/\BL wr w')
     (first
      | (go_split_ands;with_reducible exact⟨za0 au c0,za0 au X,au⟩)
      | (go_split_ands;exact⟨by assumption,by assumption,by assumption⟩))
     (first
      | (go_at_call 67;with_reducible refine(aa _).mono ?_;rintro e wX ⟨rfl,rfl⟩))
    go_split_ands;by_cases ho:Z<FK
    ·have hd:decide (Z<FK)=true:=decide_eq_true ho;rw[hd];have bh:Hid (∀j (h:j<c.length),j<n+1->fk c[j]<FK):=ar ho;clear aa ar;go_wp2;go_roundw
     case rel=>exact ⟨n+1,by omega,by go_num,bh.out,a9,ba.out⟩
     case measure=>simp [intOf];omega
    ·have hd:decide (Z<FK)=false:=decide_eq_false ho;rw[hd];have ay:Hid (∀h:n<c.length,¬fk c[n]<FK):=fun _=>by rw[HZ.out];exact ho
     clear aa ar;go_wp2;go_meet
     case rel=>exact ⟨n,by omega,rfl,aw.out,ay.out,a9,ba.out⟩
   ·obtain rfl:n=L:=by omega
    have ay:Hid (∀h:n<c.length,¬fk c[n]<FK):=fun h=>absurd h (by rw[V.out];exact Nat.lt_irrefl _);go_wp2;go_meet
    case rel=>exact ⟨n,by omega,rfl,aw.out,ay.out,I,al.out⟩
 case rest =>
  obtain⟨n,hn,rfl,ah,bb,I,ai⟩:=hcut;have av:Hid (P=c.take n++(m,r,s,i,l,d) :: c.drop n):=aq.out n (by rw[V.out];exact hn) ah bb;have al:Hid (FlAt wc w.heap.size (m,r,s,i,l,d)):=ai;clear ah bb ai aq an ao;have bi:(q=none/\L=0/\ag=0)\/(∃ad,q=some ad/\L=0)\/∃b o,q=some ⟨b,o,none⟩/\L<=ag/\FlCells w b o c:=by
   have h:=a7.out;rcases h with⟨p,c',e,hp,he⟩|⟨b,o,c',e,bk,hc⟩
   ·simp only[Value.slice.injEq]at e;obtain⟨rfl,h0,rfl⟩:=e;rw[V.out]at h0
    cases q with
    | none=>exact Or.inl ⟨rfl,h0,hp rfl⟩
    | some ad=>exact Or.inr (Or.inl ⟨ad,rfl,h0⟩)
   ·simp only[Value.slice.injEq]at e;obtain⟨rfl,_,rfl⟩:=e;exact Or.inr (Or.inr ⟨b,o,rfl,by rw[<-V.out];exact bk,hc⟩)
  rcases bi with⟨rfl,rfl,rfl⟩|⟨ad,rfl,rfl⟩|⟨b,o,rfl,bm,bc⟩
  ·obtain rfl:n=0:=by omega
   go_wp2_with (at_builtin;(refine zb1 rfl _ _ 23 rfl w.heap.size 43 Y (.agg #[.string ⟨#[]⟩,.string ⟨#[]⟩,.int .i64 0,.int .i64 0,.int .i64 0,.int .i64 0]) 6 64 Tryz.underlying23 F G H A rfl (by decide) (.slice none 0 0) 0 [] rfl ?a0 _ _ _ (flatF (c.take 0)) rfl ?a1 ?a2 ?a3 ?a4 ?a5 ?a6 ?_))
   case a0=>exact World.ownsRow_nil _ _ _ _
   case a1=>have h:=V.out;rw[zb2];simp
   case a2=>exact Or.inl ⟨rfl,fun _=>rfl⟩
   case a3=>exact ze0 _
   case a4=>unfold maxLen;omega
   case a5=>omega
   case a6=>exact I.size
   intro v1 t M D _;have C:BL w t:=I.grown D I.size (fun k hk=>by simp[Value.ownBlock]at hk);have ab:BL wc t:=(Below.refl _ _).grown D (Nat.le_refl _) (fun k hk=>by simp[Value.ownBlock]at hk);have J:Hid (t.ownsRow w.heap.size 43 6 v1 0 (flatF (c.take 0))):=by
    show t.ownsRow _ _ _ _ _ _;simpa using M
   obtain⟨X,z1,z2,z3,z4,z5,-⟩:=(al.out.below ab).cells;dsimp only at X z1 z2 z3 z4 z5;clear M D;have R:BL t (t.alloc (.cells #[.string m,.string r,.int .i64 s,.int .i64 i,.int .i64 l,.int .i64 d] 43)):=alB _ _;have y:BL w (t.alloc (.cells #[.string m,.string r,.int .i64 s,.int .i64 i,.int .i64 l,.int .i64 d] 43)):=C.alloc C.size _
   go_wp2_with (at_builtin;refine wpList_append_own _ rfl _ _ 23 rfl w.heap.size 43 Y (.agg #[.string ⟨#[]⟩,.string ⟨#[]⟩,.int .i64 0,.int .i64 0,.int .i64 0,.int .i64 0]) 6 64 Tryz.underlying23 F G H A rfl (by decide) v1 0 (flatF (c.take 0)) rfl ?qc0 ⟨t.heap.size,0,none⟩ 1 1 (encF (m,r,s,i,l,d)) rfl ?qc1 ?qc2 ?qc3 ?qc4 ?qc5 ?qc6 ?_)
   case qc0=>exact za2 J.out R
   case qc1=>rfl
   case qc2=>first | exact cells6 _ _ | exact fun j u hu=>hu
   case qc3=>exact zc5 _
   case qc4=>unfold maxLen;omega
   case qc5=>omega
   case qc6=>first | exact y.size | (have:=C.size;omega)
   intro v2 S N O _;have B:BL w S:=y.grown O y.size (fun k hk=>by
    rcases J.out.2 with⟨e,_⟩|⟨g',U,aj,e,ak,_⟩
    ·rw[e]at hk;simp[Value.ownBlock]at hk
    ·rw[e]at hk;simp[Value.ownBlock]at hk;omega)
   have K:Hid (S.ownsRow w.heap.size 43 6 v2 (0+1) (flatF (c.take 0++ [(m,r,s,i,l,d)]))):=by
    show S.ownsRow _ _ _ _ _ _;rw[zb7];simpa [flatF] using N
   clear N O X z1 z2 z3 z4 z5
   go_wp2_with (at_builtin;(refine zb1 rfl _ _ 23 rfl w.heap.size 43 Y (.agg #[.string ⟨#[]⟩,.string ⟨#[]⟩,.int .i64 0,.int .i64 0,.int .i64 0,.int .i64 0]) 6 64 Tryz.underlying23 F G H A rfl (by decide) v2 (0+1) (flatF (c.take 0++ [(m,r,s,i,l,d)])) rfl ?a0 _ _ _ (flatF (c.drop 0)) rfl ?a1 ?a2 ?a3 ?a4 ?a5 ?a6 ?_))
   case a0=>exact K.out
   case a1=>have h:=V.out;rw[zb2];simp[h]
   case a2=>exact Or.inl ⟨rfl,fun _=>rfl⟩
   case a3=>exact ze0 _
   case a4=>unfold maxLen;omega
   case a5=>omega
   case a6=>exact B.size
   intro T y3 E Q _;have ac:BL w y3:=B.grown Q B.size (fun k hk=>by
    rcases K.out.2 with⟨e,_⟩|⟨g',U,aj,e,ak,_⟩
    ·rw[e]at hk;simp[Value.ownBlock]at hk
    ·rw[e]at hk;simp[Value.ownBlock]at hk;omega)
   have ae:Hid (FlsAt y3 T P):=by
    show FlsAt _ _ _;rw[av.out];have e:c.take 0++(m,r,s,i,l,d) :: c.drop 0=(c.take 0++ [(m,r,s,i,l,d)])++c.drop 0:=by simp
    rw[e];refine(zd3 (base:=w.heap.size) (n:=0+1+0) ?_).1;rw[zb7];exact E
   have af:Hid (NewF w T):=fun k hk=>(E.lt k hk).1;clear E Q;go_wp2;go_ret;exact⟨T,rfl,ae.out,af.out,ac⟩
  ·obtain rfl:n=0:=by omega
   go_wp2_with (at_builtin;(refine zb1 rfl _ _ 23 rfl w.heap.size 43 Y (.agg #[.string ⟨#[]⟩,.string ⟨#[]⟩,.int .i64 0,.int .i64 0,.int .i64 0,.int .i64 0]) 6 64 Tryz.underlying23 F G H A rfl (by decide) (.slice none 0 0) 0 [] rfl ?a0 _ _ _ (flatF (c.take 0)) rfl ?a1 ?a2 ?a3 ?a4 ?a5 ?a6 ?_))
   case a0=>exact World.ownsRow_nil _ _ _ _
   case a1=>have h:=V.out;rw[zb2];simp
   case a2=>exact Or.inl ⟨rfl,fun h=>nomatch h⟩
   case a3=>exact ze0 _
   case a4=>unfold maxLen;omega
   case a5=>omega
   case a6=>exact I.size
   intro v1 t M D _;have C:BL w t:=I.grown D I.size (fun k hk=>by simp[Value.ownBlock]at hk);have ab:BL wc t:=(Below.refl _ _).grown D (Nat.le_refl _) (fun k hk=>by simp[Value.ownBlock]at hk);have J:Hid (t.ownsRow w.heap.size 43 6 v1 0 (flatF (c.take 0))):=by
    show t.ownsRow _ _ _ _ _ _;simpa using M
   obtain⟨X,z1,z2,z3,z4,z5,-⟩:=(al.out.below ab).cells;dsimp only at X z1 z2 z3 z4 z5;clear M D;have R:BL t (t.alloc (.cells #[.string m,.string r,.int .i64 s,.int .i64 i,.int .i64 l,.int .i64 d] 43)):=alB _ _;have y:BL w (t.alloc (.cells #[.string m,.string r,.int .i64 s,.int .i64 i,.int .i64 l,.int .i64 d] 43)):=C.alloc C.size _
   go_wp2_with (at_builtin;refine wpList_append_own _ rfl _ _ 23 rfl w.heap.size 43 Y (.agg #[.string ⟨#[]⟩,.string ⟨#[]⟩,.int .i64 0,.int .i64 0,.int .i64 0,.int .i64 0]) 6 64 Tryz.underlying23 F G H A rfl (by decide) v1 0 (flatF (c.take 0)) rfl ?qc0 ⟨t.heap.size,0,none⟩ 1 1 (encF (m,r,s,i,l,d)) rfl ?qc1 ?qc2 ?qc3 ?qc4 ?qc5 ?qc6 ?_)
   case qc0=>exact za2 J.out R
   case qc1=>rfl
   case qc2=>first | exact cells6 _ _ | exact fun j u hu=>hu
   case qc3=>exact zc5 _
   case qc4=>unfold maxLen;omega
   case qc5=>omega
   case qc6=>first | exact y.size | (have:=C.size;omega)
   intro v2 S N O _;have B:BL w S:=y.grown O y.size (fun k hk=>by
    rcases J.out.2 with⟨e,_⟩|⟨g',U,aj,e,ak,_⟩
    ·rw[e]at hk;simp[Value.ownBlock]at hk
    ·rw[e]at hk;simp[Value.ownBlock]at hk;omega)
   have K:Hid (S.ownsRow w.heap.size 43 6 v2 (0+1) (flatF (c.take 0++ [(m,r,s,i,l,d)]))):=by
    show S.ownsRow _ _ _ _ _ _;rw[zb7];simpa [flatF] using N
   clear N O X z1 z2 z3 z4 z5
   go_wp2_with (at_builtin;(refine zb1 rfl _ _ 23 rfl w.heap.size 43 Y (.agg #[.string ⟨#[]⟩,.string ⟨#[]⟩,.int .i64 0,.int .i64 0,.int .i64 0,.int .i64 0]) 6 64 Tryz.underlying23 F G H A rfl (by decide) v2 (0+1) (flatF (c.take 0++ [(m,r,s,i,l,d)])) rfl ?a0 _ _ _ (flatF (c.drop 0)) rfl ?a1 ?a2 ?a3 ?a4 ?a5 ?a6 ?_))
   case a0=>exact K.out
   case a1=>have h:=V.out;rw[zb2];simp[h]
   case a2=>exact Or.inl ⟨rfl,fun h=>nomatch h⟩
   case a3=>exact ze0 _
   case a4=>unfold maxLen;omega
   case a5=>omega
   case a6=>exact B.size
   intro T y3 E Q _;have ac:BL w y3:=B.grown Q B.size (fun k hk=>by
    rcases K.out.2 with⟨e,_⟩|⟨g',U,aj,e,ak,_⟩
    ·rw[e]at hk;simp[Value.ownBlock]at hk
    ·rw[e]at hk;simp[Value.ownBlock]at hk;omega)
   have ae:Hid (FlsAt y3 T P):=by
    show FlsAt _ _ _;rw[av.out];have e:c.take 0++(m,r,s,i,l,d) :: c.drop 0=(c.take 0++ [(m,r,s,i,l,d)])++c.drop 0:=by simp
    rw[e];refine(zd3 (base:=w.heap.size) (n:=0+1+0) ?_).1;rw[zb7];exact E
   have af:Hid (NewF w T):=fun k hk=>(E.lt k hk).1;clear E Q;go_wp2;go_ret;exact⟨T,rfl,ae.out,af.out,ac⟩
  ·have bp:n<=c.length:=by rw[V.out];exact hn
   have az:Hid (FlCells w b o c):=bc;have i1:(0:Int)<=(n:Int):=by omega
   have i2:(n:Int)<=(L:Int):=by omega
   have i3:(n:Int)<=(ag:Int):=by omega
   have i4:(L:Int)<=(ag:Int):=by omega
   clear bc;by_cases bj:ag=n
   ·obtain rfl:n=ag:=bj.symm;obtain rfl:L=n:=by omega
    go_wp2_with (at_builtin;(refine zb1 rfl _ _ 23 rfl w.heap.size 43 Y (.agg #[.string ⟨#[]⟩,.string ⟨#[]⟩,.int .i64 0,.int .i64 0,.int .i64 0,.int .i64 0]) 6 64 Tryz.underlying23 F G H A rfl (by decide) (.slice none 0 0) 0 [] rfl ?a0 _ _ _ (flatF (c.take L)) rfl ?a1 ?a2 ?a3 ?a4 ?a5 ?a6 ?_))
    case a0=>exact World.ownsRow_nil _ _ _ _
    case a1=>rw [zb2,List.length_take];have:=V.out;omega
    case a2=>exact Or.inr ⟨b,o,rfl,zq4 (zy2 (az.out.below I) L)⟩
    case a3=>exact ze0 _
    case a4=>unfold maxLen;omega
    case a5=>omega
    case a6=>exact I.size
    intro v1 t M D _;have C:BL w t:=I.grown D I.size (fun k hk=>by simp[Value.ownBlock]at hk);have ab:BL wc t:=(Below.refl _ _).grown D (Nat.le_refl _) (fun k hk=>by simp[Value.ownBlock]at hk);have J:Hid (t.ownsRow w.heap.size 43 6 v1 L (flatF (c.take L))):=by
     show t.ownsRow _ _ _ _ _ _;simpa using M
    obtain⟨X,z1,z2,z3,z4,z5,-⟩:=(al.out.below ab).cells;dsimp only at X z1 z2 z3 z4 z5;clear M D;have R:BL t (t.alloc (.cells #[.string m,.string r,.int .i64 s,.int .i64 i,.int .i64 l,.int .i64 d] 43)):=alB _ _;have y:BL w (t.alloc (.cells #[.string m,.string r,.int .i64 s,.int .i64 i,.int .i64 l,.int .i64 d] 43)):=C.alloc C.size _
    go_wp2_with (at_builtin;refine wpList_append_own _ rfl _ _ 23 rfl w.heap.size 43 Y (.agg #[.string ⟨#[]⟩,.string ⟨#[]⟩,.int .i64 0,.int .i64 0,.int .i64 0,.int .i64 0]) 6 64 Tryz.underlying23 F G H A rfl (by decide) v1 L (flatF (c.take L)) rfl ?qc0 ⟨t.heap.size,0,none⟩ 1 1 (encF (m,r,s,i,l,d)) rfl ?qc1 ?qc2 ?qc3 ?qc4 ?qc5 ?qc6 ?_)
    case qc0=>exact za2 J.out R
    case qc1=>rfl
    case qc2=>first | exact cells6 _ _ | exact fun j u hu=>hu
    case qc3=>exact zc5 _
    case qc4=>unfold maxLen;omega
    case qc5=>omega
    case qc6=>first | exact y.size | (have:=C.size;omega)
    intro v2 S N O _;have B:BL w S:=y.grown O y.size (fun k hk=>by
     rcases J.out.2 with⟨e,_⟩|⟨g',U,aj,e,ak,_⟩
     ·rw[e]at hk;simp[Value.ownBlock]at hk
     ·rw[e]at hk;simp[Value.ownBlock]at hk;omega)
    have K:Hid (S.ownsRow w.heap.size 43 6 v2 (L+1) (flatF (c.take L++ [(m,r,s,i,l,d)]))):=by
     show S.ownsRow _ _ _ _ _ _;rw[zb7];simpa [flatF] using N
    clear N O X z1 z2 z3 z4 z5
    go_wp2_with (at_builtin;(refine zb1 rfl _ _ 23 rfl w.heap.size 43 Y (.agg #[.string ⟨#[]⟩,.string ⟨#[]⟩,.int .i64 0,.int .i64 0,.int .i64 0,.int .i64 0]) 6 64 Tryz.underlying23 F G H A rfl (by decide) v2 (L+1) (flatF (c.take L++ [(m,r,s,i,l,d)])) rfl ?a0 _ _ _ (flatF (c.drop L)) rfl ?a1 ?a2 ?a3 ?a4 ?a5 ?a6 ?_))
    case a0=>exact K.out
    case a1=>rw [zb2,List.length_drop];have:=V.out;omega
    case a2=>exact Or.inl ⟨by omega,fun h=>nomatch h⟩
    case a3=>exact ze0 _
    case a4=>unfold maxLen;omega
    case a5=>omega
    case a6=>exact B.size
    intro T y3 E Q _;have ac:BL w y3:=B.grown Q B.size (fun k hk=>by
     rcases K.out.2 with⟨e,_⟩|⟨g',U,aj,e,ak,_⟩
     ·rw[e]at hk;simp[Value.ownBlock]at hk
     ·rw[e]at hk;simp[Value.ownBlock]at hk;omega)
    have ae:Hid (FlsAt y3 T P):=by
     show FlsAt _ _ _;rw[av.out];have e:c.take L++(m,r,s,i,l,d) :: c.drop L=(c.take L++ [(m,r,s,i,l,d)])++c.drop L:=by simp
     rw[e];refine(zd3 (base:=w.heap.size) (n:=L+1+0) ?_).1;rw[zb7];exact E
    have af:Hid (NewF w T):=fun k hk=>(E.lt k hk).1;clear E Q;go_wp2;go_ret;exact⟨T,rfl,ae.out,af.out,ac⟩
   ·skip
    go_wp2_with (at_builtin;(refine zb1 rfl _ _ 23 rfl w.heap.size 43 Y (.agg #[.string ⟨#[]⟩,.string ⟨#[]⟩,.int .i64 0,.int .i64 0,.int .i64 0,.int .i64 0]) 6 64 Tryz.underlying23 F G H A rfl (by decide) (.slice none 0 0) 0 [] rfl ?a0 _ _ _ (flatF (c.take n)) rfl ?a1 ?a2 ?a3 ?a4 ?a5 ?a6 ?_))
    case a0=>exact World.ownsRow_nil _ _ _ _
    case a1=>rw [zb2,List.length_take];have:=V.out;omega
    case a2=>exact Or.inr ⟨b,o,rfl,zq4 (zy2 (az.out.below I) n)⟩
    case a3=>exact ze0 _
    case a4=>unfold maxLen;omega
    case a5=>omega
    case a6=>exact I.size
    intro v1 t M D _;have C:BL w t:=I.grown D I.size (fun k hk=>by simp[Value.ownBlock]at hk);have ab:BL wc t:=(Below.refl _ _).grown D (Nat.le_refl _) (fun k hk=>by simp[Value.ownBlock]at hk);have J:Hid (t.ownsRow w.heap.size 43 6 v1 n (flatF (c.take n))):=by
     show t.ownsRow _ _ _ _ _ _;simpa using M
    obtain⟨X,z1,z2,z3,z4,z5,-⟩:=(al.out.below ab).cells;dsimp only at X z1 z2 z3 z4 z5;clear M D;have R:BL t (t.alloc (.cells #[.string m,.string r,.int .i64 s,.int .i64 i,.int .i64 l,.int .i64 d] 43)):=alB _ _;have y:BL w (t.alloc (.cells #[.string m,.string r,.int .i64 s,.int .i64 i,.int .i64 l,.int .i64 d] 43)):=C.alloc C.size _
    go_wp2_with (at_builtin;refine wpList_append_own _ rfl _ _ 23 rfl w.heap.size 43 Y (.agg #[.string ⟨#[]⟩,.string ⟨#[]⟩,.int .i64 0,.int .i64 0,.int .i64 0,.int .i64 0]) 6 64 Tryz.underlying23 F G H A rfl (by decide) v1 n (flatF (c.take n)) rfl ?qc0 ⟨t.heap.size,0,none⟩ 1 1 (encF (m,r,s,i,l,d)) rfl ?qc1 ?qc2 ?qc3 ?qc4 ?qc5 ?qc6 ?_)
    case qc0=>exact za2 J.out R
    case qc1=>rfl
    case qc2=>first | exact cells6 _ _ | exact fun j u hu=>hu
    case qc3=>exact zc5 _
    case qc4=>unfold maxLen;omega
    case qc5=>omega
    case qc6=>first | exact y.size | (have:=C.size;omega)
    intro v2 S N O _;have B:BL w S:=y.grown O y.size (fun k hk=>by
     rcases J.out.2 with⟨e,_⟩|⟨g',U,aj,e,ak,_⟩
     ·rw[e]at hk;simp[Value.ownBlock]at hk
     ·rw[e]at hk;simp[Value.ownBlock]at hk;omega)
    have K:Hid (S.ownsRow w.heap.size 43 6 v2 (n+1) (flatF (c.take n++ [(m,r,s,i,l,d)]))):=by
     show S.ownsRow _ _ _ _ _ _;rw[zb7];simpa [flatF] using N
    clear N O X z1 z2 z3 z4 z5
    go_wp2_with (at_builtin;(refine zb1 rfl _ _ 23 rfl w.heap.size 43 Y (.agg #[.string ⟨#[]⟩,.string ⟨#[]⟩,.int .i64 0,.int .i64 0,.int .i64 0,.int .i64 0]) 6 64 Tryz.underlying23 F G H A rfl (by decide) v2 (n+1) (flatF (c.take n++ [(m,r,s,i,l,d)])) rfl ?a0 _ _ _ (flatF (c.drop n)) rfl ?a1 ?a2 ?a3 ?a4 ?a5 ?a6 ?_))
    case a0=>exact K.out
    case a1=>rw [zb2,List.length_drop];have:=V.out;omega
    case a2=>exact Or.inr ⟨b,o+n*6,rfl,zq4 (zb5r (az.out.below B) n)⟩
    case a3=>exact ze0 _
    case a4=>unfold maxLen;omega
    case a5=>omega
    case a6=>exact B.size
    intro T y3 E Q _;have ac:BL w y3:=B.grown Q B.size (fun k hk=>by
     rcases K.out.2 with⟨e,_⟩|⟨g',U,aj,e,ak,_⟩
     ·rw[e]at hk;simp[Value.ownBlock]at hk
     ·rw[e]at hk;simp[Value.ownBlock]at hk;omega)
    have ae:Hid (FlsAt y3 T P):=by
     show FlsAt _ _ _;rw[av.out];have e:c.take n++(m,r,s,i,l,d) :: c.drop n=(c.take n++ [(m,r,s,i,l,d)])++c.drop n:=by simp
     rw[e];refine(zd3 (base:=w.heap.size) (n:=n+1+(L-n)) ?_).1;rw[zb7];exact E
    have af:Hid (NewF w T):=fun k hk=>(E.lt k hk).1;clear E Q;go_wp2;go_ret;exact⟨T,rfl,ae.out,af.out,ac⟩
end Go.Proofs.YtgckdomafbnmkaaGreatDoor
