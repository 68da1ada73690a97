/- By an AI agent. -/
import Derived.Test.YtgckdomafbnmkaaGreatDoorRowSort
import Derived.Shelf.Abstract
import Derived.Test.YtgckdomafbnmkaaGreatDoorDataPure
import Derived.Lib.SlicesCompact
import Derived.Lib.Slices
import Derived.Shelf.SlSortCmp.QuietGrown
import Derived.Lib.AtoiErrMem
import Derived.Lib.LaidTab
import Derived.Laws.BitsAll
import Derived.Laws.BitsAllLaws
import Derived.Laws.Rows
import Derived.Laws.CopyRow
import Derived.Laws.Tables
import Derived.Deep.OwnRows
import Derived.OneCell
import Derived.BigRegion
import Derived.Lib.QuietBelow
import Derived.Deep.RegionHeld3
import Derived.Lib.JoinLaws
set_option maxRecDepth 100000
set_option maxHeartbeats 16000000
namespace Go.Proofs.YtgckdomafbnmkaaGreatDoor
open Go.RowKit Go.Extern.Stop Go.Stop Go.Extern Go.Sort Go.Shelf Go.Lib
theorem za2l:∀xs ys:List Rw,Lib.allEq (fun x y=>decide (x=y)) xs ys=decide (xs=ys)
 | [], []=>by simp[Lib.allEq]
 | [],_ :: _=>by simp[Lib.allEq]
 | _ :: _, []=>by simp[Lib.allEq]
 | x :: xs,y :: ys=>by
  have:=za2l xs ys;simp only[Lib.allEq,this];by_cases h:x=y<;>by_cases b:xs=ys<;>simp [h,b]
theorem zv0 (p q:Option Addr) (n m c d:Nat) (w:World) (f:n=0\/m=0) (g:n<=20000) (i:m<=20000) :
  Calls Tryz.prog 59 #[.slice p n c,.slice q m d] w fun e w'=>e= .returned (.bool (decide (n=m)))/\w'=w:=by
 by_cases e:n=m
 ·obtain rfl:n=0:=by omega
  subst e
  go_enter Tryz.func59,Tryz.ntmps59
  go_wp2;refine wp_loop_rounds 1 ?_;rw[rounds_succ];go_wp2;go_ret;exact⟨rfl,rfl⟩
 ·have b:((n:Int) == (m:Int))=false:=by simp;omega
  go_enter Tryz.func59,Tryz.ntmps59
  go_wp2;go_ret;exact⟨by simp[e],rfl⟩
theorem za2m (w:World) (q:Nat):BL w (w.drewN q):=⟨rfl,rfl,rfl,Nat.le_refl _,fun _ _=>rfl⟩
theorem za2n {w:World} {b o:Nat} {xs:List Rw} (h:RowCells w b o xs):∀j,j<xs.length->∀i v,(encR xs[j]!)[i]? =some v->w.cell? ⟨b,o+j*3+i,none⟩=some v:=by
 intro j f i v c;rw[getElem!_pos xs j f]at c;have g:i<3:=by
  rcases Nat.lt_or_ge i (encR xs[j]).length with d | d
  ·rwa [zg5]at d
  ·rw[List.getElem?_eq_none d]at c;cases c
 have:=ze4 h (j*3+i) v (by rw[zf4 xs j i f g];exact c);rw[<-Nat.add_assoc]at this;exact this
theorem zc8p (v t:Value) (xs g:List Rw) (w:World) (h:RowsAt w v xs) (u:RowsAt w t g) (B:xs.length<=20000) (z:g.length<=20000) :
  Calls Tryz.prog 59 #[v,t] w fun e w'=>e= .returned (.bool (decide (xs=g)))/\BL w w':=by
 have k:∀zs:List Rw,decide (0=zs.length)=decide (([]:List Rw)=zs):=fun zs=>by cases zs<;>simp
 have l:∀zs:List Rw,decide (zs.length=0)=decide (zs=([]:List Rw)):=fun zs=>by cases zs<;>simp
 rcases h with⟨p,c,rfl,rfl⟩|⟨b,o,i,rfl,A⟩
 ·rcases u with⟨m,n,rfl,rfl⟩|⟨r,s,f,rfl,j⟩
  ·refine(zv0 p m 0 0 c n w (Or.inl rfl) (by omega) (by omega)).mono fun e w' ⟨he,hw⟩=>⟨he,?_⟩;subst hw;exact Below.refl _ _
  ·refine(zv0 p _ 0 g.length c f w (Or.inl rfl) (by omega) z).mono fun e w' ⟨he,hw⟩=>⟨by rw[he,k],?_⟩;subst hw;exact Below.refl _ _
 ·rcases u with⟨m,n,rfl,rfl⟩|⟨r,s,f,rfl,j⟩
  ·refine(zv0 _ m xs.length 0 i n w (Or.inr rfl) B (by omega)).mono fun e w' ⟨he,hw⟩=>⟨by rw[he,l],?_⟩;subst hw;exact Below.refl _ _
  ·have d:=AnyQ.slices_Equal Tryz.equalRow 3 Tryz.isAgg112 Tryz.sizeOf112 encR zg5 (fun x y=>decide (x=y)) neqRow b o xs.length i r s g.length f xs g w (Nat.le_refl _) (Nat.le_refl _) (by omega) (by omega) (za2n A) (za2n j);change Calls Tryz.prog 59 _ _ _ at d;rw[List.take_length,List.take_length,za2l]at d;refine d.mono fun e w' ⟨he,q,hw⟩=>⟨he,?_⟩;subst hw;exact za2m w q
theorem zb2c (x y:Rw) (w:World) :
  Calls Tryz.prog 196 #[.agg #[.string x.1,.int .i64 x.2.1,.int .i64 x.2.2],.agg #[.string y.1,.int .i64 y.2.1,.int .i64 y.2.2]] w fun e w'=>e= .returned (.bool (ltOf cfR x y))/\BL w w':=by
 have c:=za1t x y;unfold ltOf;generalize cfR x y=r at c ⊢;obtain⟨d,f,g⟩:=x;obtain⟨i,j,k⟩:=y;dsimp only at c ⊢;have b:BL w ((w.alloc (.cells #[.string d,.int .i64 f,.int .i64 g] 112)).alloc (.cells #[.string i,.int .i64 j,.int .i64 k] 112)):=(alB _ _).alloc (by simp) _
 go_enter Tryz.func196,Tryz.ntmps196
 go_wp2_with (go_at_call 106;refine(c _).mono ?_;rintro e m ⟨rfl,q,l,n⟩)
 go_ret;refine⟨rfl,?_⟩;exact(za4 b q).trans ((zt4 l).mono (za4 b q).size)
theorem zb2d {xs b:List Rw} {n:Nat} (h:∀i,i<n->xs[i]? =b[i]?) (e:xs[n]? =b[n]?):∀i,i<n+1->xs[i]? =b[i]? :=fun i hi=>by
 rcases Nat.lt_or_ge i n with c | c
 ·exact h i c
 ·obtain rfl:i=n:=by omega
  exact e
theorem zb2e (b o R S T E:Nat) (xs c:List Rw) (w:World) (U:RowCells w b o xs) (V:RowCells w R S c) (hl:xs.length<=20000) (F:xs.length=c.length) :
  Calls Tryz.prog 26 #[.slice (some ⟨b,o,none⟩) xs.length T,.slice (some ⟨R,S,none⟩) c.length E] w fun e w'=>e= .returned (.bool (decide (xs=c)))/\∃n,w'=w.drewN n:=by
 rw[<-F];generalize D:xs.length=L at hl ⊢;have G:Hid (xs.length=L):=D;have H:Hid (c.length=L):=F▸D;clear D F;generalize s:decide (xs=c)=r;have I:Hid (decide (xs=c)=r):=s;clear s
 go_enter Tryz.func26,Tryz.ntmps26
 go_wp2
 go_loopw [5] (fun k wr=> ∃n:Nat,n<=L/\(∀i,i<n->xs[i]? =c[i]?)/\k= .int .i64 n/\∃m,wr=w.drewN m) (fun k _=>L-(intOf k).toNat)
 case atStart=>exact ⟨0,by omega,by omega,rfl,0,rfl⟩
 case round =>
  obtain⟨n,hn,P,rfl,m,rfl⟩:=hrel;have J:Hid (∀i,i<n->xs[i]? =c[i]?):=P;clear P;by_cases v:n<L
  ·have t:n<xs.length:=by rw[G.out];exact v
   have u:n<c.length:=by rw[H.out];exact v
   obtain⟨X,Y,Z⟩:=U n t;obtain⟨k1,k2,k3⟩:=V n u;have d:=neqRow.1 xs[n] c[n];have z:=neqRow.2;have hi:(n:Int)<(L:Int):=by omega
   generalize A:xs[n]=x at X Y Z d;generalize B:c[n]=y at k1 k2 k3 d;have K:Hid (xs[n]=x):=A;have M:Hid (c[n]=y):=B;clear A B U V;obtain⟨f,g,j⟩:=x;obtain⟨l,p,q⟩:=y;simp only[encR]at d;have W:∀(op:BinOp) (a b:Operand) (w:World),Sem.run Tryz.prog (eqGuard op 112 a b (.agg #[.string f,.int .i64 g,.int .i64 j]) (.agg #[.string l,.int .i64 p,.int .i64 q])) w= .ok () w:=fun op a b w=>z op a b (f,g,j) (l,p,q) w;clear z;by_cases e:((f,g,j):Rw)=(l,p,q)
   ·have N:∀w,Sem.run Tryz.prog (binOp .neq 112 (.agg #[.string f,.int .i64 g,.int .i64 j]) (.agg #[.string l,.int .i64 p,.int .i64 q])) w= .ok (.bool false) w:=fun w=>by rw[d w,decide_eq_true e];rfl
    have C:Hid (((f,g,j):Rw)=(l,p,q)):=e;clear d e;go_wp2
    go_quiet (fail)
    go_wp2;go_roundw
    case rel=>exact ⟨n+1,by omega,zb2d J.out (by rw[List.getElem?_eq_getElem t,List.getElem?_eq_getElem u,K.out,M.out,C.out]),by go_num,_,rfl⟩
    case measure=>simp [intOf];omega
   ·have N:∀w,Sem.run Tryz.prog (binOp .neq 112 (.agg #[.string f,.int .i64 g,.int .i64 j]) (.agg #[.string l,.int .i64 p,.int .i64 q])) w= .ok (.bool true) w:=fun w=>by rw[d w,decide_eq_false e];rfl
    have C:Hid (¬((f,g,j):Rw)=(l,p,q)):=e;have s:r=false:=by
     rw[<-I.out,decide_eq_false_iff_not];intro e';subst e';exact C.out (K.out.symm.trans M.out)
    subst s;clear d e;go_wp2
    go_quiet (fail)
    go_wp2;go_ret;exact⟨rfl,_,World.drewN_drewN _ _ _⟩
  ·have s:r=true:=by
    rw[<-I.out,decide_eq_true_eq];refine List.ext_getElem? fun i=>?_;rcases Nat.lt_or_ge i n with Q | Q
    ·exact J.out i Q
    ·rw[List.getElem?_eq_none (by rw[G.out];omega),List.getElem?_eq_none (by rw[H.out];omega)]
   subst s;have O:n=L:=by omega
   subst O;go_wp2;go_ret;exact⟨rfl,m,rfl⟩
theorem zp1 (p q:Option Addr) (n m c d:Nat) (w:World) (f:n≠m\/n=0) (g:n<=20000) (i:m<=20000) :
  Calls Tryz.prog 26 #[.slice p n c,.slice q m d] w fun e w'=>e= .returned (.bool (decide (n=m)))/\w'=w:=by
 by_cases e:n=m
 ·obtain rfl:n=0:=by omega
  subst e
  go_enter Tryz.func26,Tryz.ntmps26
  go_wp2;refine wp_loop_rounds 1 ?_;rw[rounds_succ];go_wp2;go_ret;exact⟨rfl,rfl⟩
 ·have b:((n:Int) == (m:Int))=false:=by simp;omega
  go_enter Tryz.func26,Tryz.ntmps26
  go_wp2;go_ret;exact⟨by simp[e],rfl⟩
theorem zb2f (v u:Value) (xs g:List Rw) (w:World) (h:RowsAt w v xs) (y:RowsAt w u g) (r:xs.length<=20000) (k:g.length<=20000) :
  Calls Tryz.prog 26 #[v,u] w fun e w'=>e= .returned (.bool (decide (xs=g)))/\BL w w':=by
 have l:∀zs:List Rw,decide (0=zs.length)=decide (([]:List Rw)=zs):=fun zs=>by cases zs<;>simp
 rcases h with⟨p,c,rfl,rfl⟩|⟨b,o,i,rfl,z⟩
 ·rcases y with⟨m,n,rfl,rfl⟩|⟨s,t,f,rfl,j⟩
  ·refine(zp1 p m 0 0 c n w (Or.inr rfl) (by omega) (by omega)).mono fun e w' ⟨he,hw⟩=>⟨he,?_⟩;subst hw;exact Below.refl _ _
  ·refine(zp1 p _ 0 g.length c f w (Or.inr rfl) (by omega) k).mono fun e w' ⟨he,hw⟩=>⟨by rw[he,l],?_⟩;subst hw;exact Below.refl _ _
 ·rcases y with⟨m,n,rfl,rfl⟩|⟨s,t,f,rfl,j⟩
  ·refine(zp1 _ m xs.length 0 i n w (by omega) r (by omega)).mono fun e w' ⟨he,hw⟩=>⟨?_,?_⟩
   ·rw[he];cases xs<;>simp
   ·subst hw;exact Below.refl _ _
  ·by_cases d:xs.length=g.length
   ·refine(zb2e b o s t i f xs g w z j r d).mono fun e w' ⟨he,q,hw⟩=>⟨he,?_⟩;subst hw;exact za2m w q
   ·refine(zp1 _ _ xs.length g.length i f w (Or.inl d) r k).mono fun e w' ⟨he,hw⟩=>⟨?_,?_⟩
    ·rw[he];have:¬xs=g:=fun e=>d (e▸rfl);simp[this,d]
    ·subst hw;exact Below.refl _ _
theorem za2 {w w':World} {base:Nat} {e:TypeId} {b:Nat} {v:Value} {n:Nat} {xs:List Value} (h:w.ownsRow base e b v n xs) (p:BL w w'):w'.ownsRow base e b v n xs:=by
 obtain⟨l,c⟩:=h;refine⟨l,?_⟩;rcases c with c | ⟨g,j,k,m,o,d,r⟩
 ·exact Or.inl c
 ·refine Or.inr ⟨g,j,k,m,o,?_,r⟩;have i:g<w.heap.size:=by
   rcases Nat.lt_or_ge g w.heap.size with f | f
   ·exact f
   ·rw[Array.getElem?_eq_none f]at d;cases d
  rw[p.block g i];exact d
theorem zi2 (x:Rw):flatR [x]=encR x:=by simp[flatR]
theorem zp2 (p:Rw->Bool) (xs:List Rw) (n:Nat) (h:n<xs.length):(xs.take (n+1)).filter p=(xs.take n).filter p++if p xs[n] then [xs[n]] else []:=by
 rw[List.take_succ_eq_append_getElem h,List.filter_append];cases b:p xs[n]<;>simp [b]
def Tells (g:Nat) (cb:Array Value) (p:Rw->Bool) (w:World):Prop :=
 ∀(x:Rw) (W:World),BL w W->Calls Tryz.prog g (#[.agg #[.string x.1,.int .i64 x.2.1,.int .i64 x.2.2]]++cb) W fun e w'=>e= .returned (.bool (p x))/\BL W w'
theorem zb2g (b o aa:Nat) (xs:List Rw) (g:Nat) (cb:Array Value) (p:Rw->Bool) (w:World) (eg:∀args w,(callFunc g args).run Tryz.prog w= .ok (.enter g args) w) (hx:RowCells w b o xs) (hl:xs.length<=20000) (hp:Tells g cb p w) :
  Calls Tryz.prog 107 #[.slice (some ⟨b,o,none⟩) xs.length aa,.func (.func g) #[] cb] w fun e w'=> ∃v',e= .returned v'/\w'.ownsRow w.heap.size 112 3 v' (xs.filter p).length (flatR (xs.filter p))/\BL w w':=by
 obtain⟨i0,U,V,W,I⟩:=Tryz.rowInfo;generalize Y:xs.length=L at hl ⊢;have M:Hid (xs.length=L):=Y;clear Y
 go_enter Tryz.func107,Tryz.ntmps107
 go_wp2
 go_loopw [5,10] (fun kept k wr=> ∃n:Nat,n<=L/\k= .int .i64 n/\BL w wr/\wr.ownsRow w.heap.size 112 3 kept ((xs.take n).filter p).length (flatR ((xs.take n).filter p))) (fun _ k _=>L-(intOf k).toNat)
 case atStart=>exact ⟨0,by omega,rfl,Below.refl _ _,by simp[flatR];exact World.ownsRow_nil _ _ _ _⟩
 case round =>
  obtain⟨n,hn,rfl,G,m⟩:=hrel;by_cases N:n<L
  ·have B:n<xs.length:=by rw[M.out];exact N
   obtain⟨h1,h2,h3⟩:=hx.below G n B;have hi:(n:Int)<(L:Int):=by omega
   have H:=zp2 p xs n B;generalize Z:xs[n]=x at h1 h2 h3 H;have O:Hid ((xs.take (n+1)).filter p=(xs.take n).filter p++if p x then [x] else []):=H;clear H Z;obtain⟨d,f,i⟩:=x;have r:BL w (wr.alloc (.cells #[.string d,.int .i64 f,.int .i64 i] 112)):=G.alloc G.size _;have s:=hp (d,f,i) _ r;have A:Hid (wr.ownsRow w.heap.size 112 3 u5 ((xs.take n).filter p).length (flatR ((xs.take n).filter p))):=m;have C:((xs.take n).filter p).length<=n:=Nat.le_trans (List.length_filter_le _ _) (List.length_take_le _ _);have D:Hid (((xs.take n).filter p).length<=n):=C;have c0:(wr.alloc (.cells #[.string d,.int .i64 f,.int .i64 i] 112)).cell? ⟨wr.heap.size,0,none⟩=some (.string d):=by simp
   have c1:(wr.alloc (.cells #[.string d,.int .i64 f,.int .i64 i] 112)).cell? ⟨wr.heap.size,1,none⟩=some (.int .i64 f):=by simp
   have c2:(wr.alloc (.cells #[.string d,.int .i64 f,.int .i64 i] 112)).cell? ⟨wr.heap.size,2,none⟩=some (.int .i64 i):=by simp
   have E:BL wr (wr.alloc (.cells #[.string d,.int .i64 f,.int .i64 i] 112)):=alB _ _;clear m C hx;cases q:p (d,f,i)
   ·rw[q]at s;have t:Hid ((xs.take (n+1)).filter p=(xs.take n).filter p):=by
     have:=O.out;rw[q]at this;simpa [Hid] using this
    clear q
    go_wp2_with (go_at_fn g;refine s.mono ?_;rintro e F ⟨rfl,c⟩)
    have v:BL w F:=trB r c;have P:BL wr F:=trB E c;go_roundw
    case rel=>exact ⟨n+1,by omega,by go_num,v,by rw[t.out];exact za2 A.out P⟩
    case measure=>simp [intOf];omega
   ·rw[q]at s;have t:Hid ((xs.take (n+1)).filter p=(xs.take n).filter p++ [(d,f,i)]):=by
     have:=O.out;rw[q]at this;simpa [Hid] using this
    clear q;generalize hK:(xs.take n).filter p=K at A D t;clear hK
    go_wp2_with (first
     | (go_at_fn g;refine s.mono ?_;rintro e F ⟨rfl,c⟩;have d0:=za0 c c0;have d1:=za0 c c1;have d2:=za0 c c2)
     | (at_builtin;refine wpList_append_own _ rfl _ _ 44 rfl w.heap.size 112 i0 (.agg #[.string ⟨#[]⟩,.int .i64 0,.int .i64 0]) 3 32 Tryz.underlying44 U V W I rfl (by decide) u5 K.length (flatR K) rfl ?qc0 ⟨F.heap.size,0,none⟩ 1 1 (encR (d,f,i)) rfl ?qc1 ?qc2 ?qc3 ?qc4 ?qc5 ?qc6 ?_))
    case qc0=>exact za2 A.out ((trB E c).alloc (Nat.le_trans E.size c.size) _)
    case qc1=>rfl
    case qc2 =>
     intro j u l;rw[Addr.add_lit,Nat.zero_add]
     match j,l with
     | 0,l=>simp [encR]at l;subst l;simp
     | 1,l=>simp [encR]at l;subst l;simp
     | 2,l=>simp [encR]at l;subst l;simp
     | j+3,l=>simp [encR]at l
    case qc3=>exact zc6 _
    case qc4=>have:=D.out;unfold maxLen;omega
    case qc5=>have:=D.out;omega
    case qc6=>exact Nat.le_trans r.size (Nat.le_trans c.size (by simp))
    intro v' X y z J;have v:BL w (F.alloc (.cells #[.string d,.int .i64 f,.int .i64 i] 112)):=(trB r c).alloc (Nat.le_trans r.size c.size) _;have Q:BL w X:=v.grown z v.size (fun k hk=>by
     rcases A.out.2 with⟨e,_⟩|⟨g',ab,ac,e,ad,_⟩
     ·rw[e]at hk;simp[Value.ownBlock]at hk
     ·rw[e]at hk;simp[Value.ownBlock]at hk;omega)
    have R:Hid (X.ownsRow w.heap.size 112 3 v' (K.length+1) (flatR K++encR (d,f,i))):=y;clear y J z;go_wp2;go_roundw
    case rel=>exact ⟨n+1,by omega,by go_num,Q,by rw[t.out,List.length_append,zc3,zi2];exact R.out⟩
    case measure=>simp [intOf];omega
  ·have S:n=L:=by omega
   subst S;have T:xs.take n=xs:=List.take_of_length_le (by rw[M.out];omega);rw[T]at m;have A:Hid (wr.ownsRow w.heap.size 112 3 u5 (xs.filter p).length (flatR (xs.filter p))):=m;clear m T;go_wp2;go_ret;exact⟨u5,rfl,A.out,G⟩
theorem zb2h (v:Value) (xs:List Rw) (g:Nat) (c:Array Value) (p:Rw->Bool) (w:World) (k:∀args w,(callFunc g args).run Tryz.prog w= .ok (.enter g args) w) (l:RowsAt w v xs) (f:xs.length<=20000) (i:Tells g c p w) :
  Calls Tryz.prog 107 #[v,.func (.func g) #[] c] w fun e w'=> ∃v',e= .returned v'/\w'.ownsRow w.heap.size 112 3 v' (xs.filter p).length (flatR (xs.filter p))/\BL w w':=by
 rcases l with⟨m,n,rfl,rfl⟩|⟨b,o,d,rfl,j⟩
 ·clear i f
  go_enter Tryz.func107,Tryz.ntmps107
  go_wp2;refine wp_loop_rounds 1 ?_;rw[rounds_succ];go_wp2;go_ret;exact⟨_,rfl,World.ownsRow_nil _ _ _ _,Below.refl _ _⟩
 ·exact zb2g b o d xs g c p w k j f i
def inB (lo hi:Int) (x:Rw):Bool:=decide (lo<=x.2.1) && decide (x.2.1<=hi)
theorem zb2i (x:Rw) (lo hi:Int) (a c:Addr) (w:World) (k:w.cell? a=some (.int .i64 lo)) (l:w.cell? c=some (.int .i64 hi)) :
  Calls Tryz.prog 108 #[.agg #[.string x.1,.int .i64 x.2.1,.int .i64 x.2.2],.pointer (some a),.pointer (some c)] w fun e w'=>e= .returned (.bool (inB lo hi x))/\BL w w':=by
 obtain⟨f,b,g⟩:=x;dsimp only;have m:(w.alloc (.cells #[.string f,.int .i64 b,.int .i64 g] 112)).cell? a=some (.int .i64 lo):=za0 (alB _ _) k;have n:(w.alloc (.cells #[.string f,.int .i64 b,.int .i64 g] 112)).cell? c=some (.int .i64 hi):=za0 (alB _ _) l;by_cases i:lo<=b
 ·by_cases j:b<=hi
  ·have d:inB lo hi (f,b,g)=true:=by simp[inB,i,j]
   rw[d]
   go_enter Tryz.func108,Tryz.ntmps108
   go_wp2;go_ret;exact⟨rfl,alB _ _⟩
  ·have d:inB lo hi (f,b,g)=false:=by simp[inB,j]
   rw[d]
   go_enter Tryz.func108,Tryz.ntmps108
   go_wp2;go_ret;exact⟨rfl,alB _ _⟩
 ·have d:inB lo hi (f,b,g)=false:=by simp[inB,i]
  rw[d]
  go_enter Tryz.func108,Tryz.ntmps108
  go_wp2;go_ret;exact⟨rfl,alB _ _⟩
theorem zb2j (v:Value) (xs:List Rw) (lo hi:Int) (w:World) (f:RowsAt w v xs) (i:xs.length<=20000) :
  Calls Tryz.prog 51 #[v,.int .i64 lo,.int .i64 hi] w fun e w'=> ∃v',e= .returned v'/\(∃B,B>=w.heap.size/\w'.ownsRow B 112 3 v' (xs.filter (inB lo hi)).length (flatR (xs.filter (inB lo hi))))/\BL w w':=by
 have b:BL w ((w.alloc (.cells #[.int .i64 lo] 3)).alloc (.cells #[.int .i64 hi] 3)):=(alB _ _).alloc (by simp) _;have c:∀args w,(callFunc 108 args).run Tryz.prog w= .ok (.enter 108 args) w:=enters_of Tryz.func108 (by kernel_rfl) rfl;have hcut:=zb2h v xs 108 #[.pointer (some ⟨w.heap.size,0,none⟩),.pointer (some ⟨w.heap.size+1,0,none⟩)] (inB lo hi) _ c (f.below b) i
  (fun x W hW=>zb2i x lo hi ⟨w.heap.size,0,none⟩ ⟨w.heap.size+1,0,none⟩ W (za0 hW (by simp)) (za0 hW (by simp)))
 clear f c
 go_enter Tryz.func51,Tryz.ntmps51
 go_wp2_with (go_at_call 107;refine hcut.mono ?_;rintro e j ⟨k,rfl,g,d⟩)
 go_ret;exact⟨_,rfl,⟨_,b.size,g⟩,(trB b d)⟩
theorem zb2k (v:Value) (xs:List Rw) (lo hi:Int) (w:World) (b:RowsAt w v xs) (c:xs.length<=20000) :
  Calls Tryz.prog 51 #[v,.int .i64 lo,.int .i64 hi] w fun e w'=> ∃v',e= .returned v'/\RowsAt w' v' (xs.filter (inB lo hi))/\BL w w' :=
 (zb2j v xs lo hi w b c).mono fun _ _ ⟨v',he,⟨_,_,ho⟩,hb⟩=>⟨v',he,(ze5 ho).1,hb⟩
def KeysAt (w:World) (v:Value) (zs:List Int):Prop :=
 (∃p c,v= .slice p 0 c/\zs= [])\/∃b o cap,v= .slice (some ⟨b,o,none⟩) zs.length cap/\∀j (h:j<zs.length),w.cell? ⟨b,o+j,none⟩=some (.int .i64 zs[j])
theorem KeysAt.below {w w':World} {v:Value} {d:List Int} (h:KeysAt w v d) (i:BL w w'):KeysAt w' v d:=by
 rcases h with h | ⟨b,o,c,f,g⟩
 ·exact Or.inl h
 ·exact Or.inr ⟨b,o,c,f,fun j hj=>za0 i (g j hj)⟩
def sortZ (zs:List Int):List Int:=zs.mergeSort fun x y=>decide (x<=y)
theorem zb2l (b:List Int):(sortZ b).length=b.length:=by simp[sortZ]
theorem zb2m (b:List Int) (x:Int):x∈sortZ b↔x∈b:=(List.mergeSort_perm _ _).mem_iff
theorem zb2n (d:List Int):(sortZ d).Pairwise (· <= ·):=by
 have h:=List.pairwise_mergeSort (le:=fun x y:Int=>decide (x<=y)) (fun a b c h1 h2=>by simp at *;omega) (fun a b=>by simp;omega) d;exact h.imp fun h=>by simpa using h
def riseZ (zs:List Int):List Int:=Lib.compact (sortZ zs)
theorem za2o (d:Array Int) (p:∀i j,i<=j->j<d.size->d[i]! <=d[j]!):∀m,m<=d.size->(compactUpTo d m).Pairwise (· < ·)/\(∀x,x∈compactUpTo d m↔∃j,j<m/\d[j]! =x)/\∀x∈compactUpTo d m,∀j,m<=j+1->j<d.size->x<=d[j]! :=by
 intro m
 induction m with
 | zero=>intro _;exact⟨by simp[compactUpTo],by simp[compactUpTo],by simp[compactUpTo]⟩
 | succ m ih =>
  intro t;obtain⟨n,k,o⟩:=ih (by omega);rw[compactUpTo_succ]
  cases c:keeps d m with
  | true =>
   simp only[if_true];have g:∀x∈compactUpTo d m,x<d[m]! :=by
    intro x b;have l:m≠0:=by
     intro e;subst e;obtain⟨j,f,_⟩:=(k x).1 b;omega
    simp only[keeps,decide_eq_true_eq]at c;rcases c with c | c
    ·exact absurd c l
    ·have r:=o x b (m-1) (by omega) (by omega);have s:=p (m-1) m (by omega) (by omega);omega
   refine⟨List.pairwise_append.2 ⟨n,List.pairwise_singleton _ _,fun x b y hy=>by rw[List.mem_singleton.1 hy];exact g x b⟩,fun x=>?_,fun x b j hj1 hj2=>?_⟩
   ·rw[List.mem_append,List.mem_singleton,k];constructor
    ·rintro(⟨j,f,e⟩ | e)
     ·exact⟨j,by omega,e⟩
     ·exact⟨m,by omega,e.symm⟩
    ·rintro⟨j,f,e⟩;rcases Nat.lt_or_ge j m with h | h
     ·exact Or.inl ⟨j,h,e⟩
     ·have:j=m:=by omega
      subst this;exact Or.inr e.symm
   ·rw[List.mem_append,List.mem_singleton]at b;have q:=p m j (by omega) hj2;rcases b with b | b
    ·have:=g x b;omega
    ·omega
  | false =>
   simp only[Bool.false_eq_true,if_false,List.append_nil];simp only[keeps,decide_eq_false_iff_not,not_or,ne_eq,Classical.not_not]at c;refine⟨n,fun x=>?_,fun x b j hj1 hj2=>o x b j (by omega) hj2⟩;rw[k];constructor
   ·rintro⟨j,f,e⟩;exact⟨j,by omega,e⟩
   ·rintro⟨j,f,e⟩;rcases Nat.lt_or_ge j m with h | h
    ·exact⟨j,h,e⟩
    ·have:j=m:=by omega
     subst this;exact⟨j-1,by omega,by rw[<-e,c.2]⟩
theorem za2p (b:List Int) (i j:Nat) (d:i<=j) (f:j<(sortZ b).toArray.size):(sortZ b).toArray[i]! <=(sortZ b).toArray[j]! :=by
 have c:j<(sortZ b).length:=by simpa using f
 rw[getElem!_pos _ i (by omega),getElem!_pos _ j f];simp only[List.getElem_toArray];rcases Nat.lt_or_eq_of_le d with h | h
 ·exact List.pairwise_iff_getElem.1 (zb2n b) i j (by omega) c h
 ·subst h;exact Int.le_refl _
theorem zv1 (b:List Int):(riseZ b).Pairwise (· < ·):=by
 have h:=za2o (sortZ b).toArray (za2p b) (sortZ b).length (by simp);exact h.1
theorem zk7 (b:List Int) (x:Int):x∈riseZ b↔x∈b:=by
 have h:=(za2o (sortZ b).toArray (za2p b) (sortZ b).length (by simp)).2.1 x;show x∈compactUpTo (sortZ b).toArray (sortZ b).length↔_;rw[h,<-zb2m b x];constructor
 ·rintro⟨j,c,e⟩;rw[getElem!_pos _ j (by simpa using c)]at e;rw[<-e];simp only[List.getElem_toArray];exact List.getElem_mem _
 ·intro d;obtain⟨j,c,e⟩:=List.mem_iff_getElem.1 d;exact⟨j,c,by rw[getElem!_pos _ j (by simpa using c)];simpa using e⟩
theorem za2q:∀xs ys:List Int,xs.Pairwise (· < ·)->ys.Pairwise (· < ·)->(∀x,x∈xs↔x∈ys)->xs=ys
 | [], [],_,_,_=>rfl
 | [],y :: ys,_,_,h=>absurd ((h y).2 List.mem_cons_self) (by simp)
 | x :: xs, [],_,_,h=>absurd ((h x).1 List.mem_cons_self) (by simp)
 | x :: xs,y :: ys,hx,hy,h=>by
  obtain⟨c,f⟩:=List.pairwise_cons.1 hx;obtain⟨d,g⟩:=List.pairwise_cons.1 hy;have e:x=y:=by
   have a:=(h x).1 List.mem_cons_self;have b:=(h y).2 List.mem_cons_self;rcases List.mem_cons.1 a with a | a
   ·exact a
   ·rcases List.mem_cons.1 b with b | b
    ·exact b.symm
    ·have:=c y b;have:=d x a;omega
  subst e;rw[za2q xs ys f g fun z=>⟨fun hz=>by
   rcases List.mem_cons.1 ((h z).1 (List.mem_cons_of_mem _ hz)) with q | q
   ·have:=c z hz;omega
   ·exact q,fun hz=>by
   rcases List.mem_cons.1 ((h z).2 (List.mem_cons_of_mem _ hz)) with q | q
   ·have:=d z hz;omega
   ·exact q⟩]
theorem zv2 {xs b:List Int} (h:xs.Pairwise (· < ·)) (c:∀x,x∈xs↔x∈b):riseZ b=xs :=
 za2q _ _ (zv1 b) h fun x=>(zk7 b x).trans (c x).symm
theorem zv3 (b:List Int):(riseZ b).length<=b.length:=by
 have h:(riseZ b).length<=(sortZ b).length:=by
  unfold riseZ Lib.compact compactUpTo;rw[List.length_map];refine Nat.le_trans (List.length_filter_le _ _) ?_;simp
 rw[zb2l]at h;exact h
theorem zb2o:riseZ []= []:=zv2 List.Pairwise.nil (fun _=>Iff.rfl)
abbrev goneO (s:List UInt8):List Int×Nat×Option Nat:=readG goneK s
abbrev goneF (zs:List Int):List UInt8:=fileG goneK zs
end Go.Proofs.YtgckdomafbnmkaaGreatDoor
namespace Go.Proofs.YtgckdomafbnmkaaGreatDoor
open Go Go.Lib
abbrev Fl:=ByteArray×ByteArray×Int×Int×Int×Int
def cntB (n:Int):Bool:=decide (1<=n) && decide (n<=1073741824)
def kindL (g:Bool):List UInt8:=if g then kGone else kData
def pathN (s:List UInt8):Option Int:=match numO s with
 | some n=>if cntB n then some n else none
 | none=>none
def pathO (s:List UInt8):Option (Bool×Int) :=
 if s.take 5=kData++ [47] then (pathN (s.drop 5)).map fun n=>(false,n) else
 if s.take 5=kGone++ [47] then (pathN (s.drop 5)).map fun n=>(true,n) else none
theorem za2r:numO []=none:=by
 cases h:numO [] with
 | none=>rfl
 | some n =>
  have:=(za2b h).1;unfold itoa at this;split at this
  ·cases this
  ·exact absurd this (zo6 _)
theorem zb2p (k w:List UInt8) (c:k.length=4):(k++47 :: w).take 5=k++ [47]/\(k++47 :: w).drop 5=w:=by
 have e:k++47 :: w=(k++ [47])++w:=by simp
 have b:(k++ [47]).length=5:=by simp[c]
 rw[e];exact⟨by rw[<-b,List.take_left],by rw[<-b,List.drop_left]⟩
theorem zp3 (g:Bool) (w:List UInt8):pathO (kindL g++47 :: w)=(pathN w).map fun n=>(g,n):=by
 obtain⟨b,c⟩:=zb2p (kindL g) w (by cases g<;>rfl)
 unfold pathO;rw[b,c];cases g
 ·rw[if_pos (show kindL false++ [47]=kData++ [47] from rfl)]
 ·rw[if_neg (by decide),if_pos (show kindL true++ [47]=kGone++ [47] from rfl)]
theorem zp4 {s:List UInt8} {g:Bool} {n:Int} (h:pathO s=some (g,n)):s=kindL g++47 :: itoa n/\numO (itoa n)=some n/\cntB n=true:=by
 have f:∀(k:List UInt8) (b:Bool),s.take 5=k++ [47]->(pathN (s.drop 5)).map (fun m=>(b,m))=some (g,n)->b=g/\s=k++47 :: itoa n/\numO (itoa n)=some n/\cntB n=true:=fun k b d hp=>by
  obtain⟨m,c,l⟩:=Option.map_eq_some_iff.1 hp;simp only[Prod.mk.injEq]at l;obtain⟨rfl,rfl⟩:=l;unfold pathN at c;split at c
  ·rename_i x o;split at c
   ·rename_i p;obtain rfl:=Option.some.inj c;have i:=(za2b o).1;refine⟨rfl,?_,by rw[i];exact o,p⟩;rw[i]
    conv=>lhs;rw[<-List.take_append_drop 5 s,d]
    simp
   ·cases c
  ·cases c
 unfold pathO at h;split at h
 ·rename_i d;obtain⟨rfl,j⟩:=f _ _ d h;exact j
 ·split at h
  ·rename_i d;obtain⟨rfl,j⟩:=f _ _ d h;exact j
  ·cases h
theorem zb2q (s:List UInt8):pathO s=if (Lib.cut s [47]).1=kData then (pathN (Lib.cut s [47]).2.1).map fun n=>(false,n) else
  if (Lib.cut s [47]).1=kGone then (pathN (Lib.cut s [47]).2.1).map fun n=>(true,n) else none:=by
 rcases zg8 47 s with⟨k,l⟩|⟨a,b,rfl,k,l⟩
 ·rw[l];have m:pathN []=none:=by unfold pathN;rw[za2r]
  have d:pathO s=none:=by
   cases h:pathO s with
   | none=>rfl
   | some p =>
    obtain⟨g,n⟩:=p;have:=(zp4 h).1;exact absurd rfl (k 47 (by rw[this];simp))
  rw[d];dsimp only;rw[m];split
  ·rfl
  ·split<;>rfl
 ·rw[l];dsimp only;by_cases i:a=kData
  ·subst i;rw[if_pos rfl];exact zp3 false b
  ·rw[if_neg i];by_cases j:a=kGone
   ·subst j;rw[if_pos rfl];exact zp3 true b
   ·rw[if_neg j]
    cases h:pathO (a++47 :: b) with
    | none=>rfl
    | some p =>
     obtain⟨g,n⟩:=p;have e:=(zp4 h).1;have o:∀c∈kindL g,c≠47:=by cases g<;>decide
     have f:=za2a 47 a b k;rw[e,za2a 47 _ _ o]at f;simp only[Prod.mk.injEq,and_true]at f;cases g
     ·exact absurd f.1.symm i
     ·exact absurd f.1.symm j
theorem zb2r {s:List UInt8} (h:6<=s.length):pathO s=if (s.take 4=kData\/s.take 4=kGone)/\s[4]? =some 47 then (pathN (s.drop 5)).map fun n=>(decide (s.take 4=kGone),n) else none:=by
 have g:∀k:List UInt8,k.length=4->(s.take 5=k++ [47]↔s.take 4=k/\s[4]? =some 47):=fun k hk=>by
  have m:s.take 5=s.take 4++ [s[4]'(by omega)]:=by rw[List.take_succ_eq_append_getElem (by omega)]
  rw[m,List.getElem?_eq_getElem (by omega:4<s.length)];have o:(s.take 4).length=k.length:=by rw[List.length_take,hk];omega
  constructor
  ·intro e;obtain⟨b,c⟩:=List.append_inj e o;exact⟨b,by rw[List.singleton_inj.1 c]⟩
  ·rintro⟨b,c⟩;rw[b,Option.some.inj c]
 unfold pathO;have i:=g kData rfl;have j:=g kGone rfl;by_cases d:s.take 5=kData++ [47]
 ·have b:=i.1 d;rw[if_pos d,if_pos ⟨Or.inl b.1,b.2⟩,b.1];rfl
 ·rw[if_neg d];by_cases f:s.take 5=kGone++ [47]
  ·have c:=j.1 f;rw[if_pos f,if_pos ⟨Or.inr c.1,c.2⟩,c.1];rfl
  ·rw[if_neg f,if_neg];rintro⟨e | e,l⟩
   ·exact d (i.2 ⟨e,l⟩)
   ·exact f (j.2 ⟨e,l⟩)
theorem zb2s {s:List UInt8} (h:s.length<6):pathO s=none:=by
 have e:s.drop 5= []:=by rw[List.drop_eq_nil_iff];omega
 have b:pathN []=none:=by unfold pathN;rw[za2r]
 unfold pathO;rw[e,b];split
 ·rfl
 ·split<;>rfl
def pathR (s:List UInt8):List UInt8×Int×Nat:=match pathO s with
 | some (g,n)=>(kindL g,n,0)
 | none=>([],0,5)
def partB (g:Bool) (s:List UInt8):Bool:=if g then decide (s= [45]) else wordB 12 s
def bndB (f:Fl):Bool:=decide (1<=f.2.2.1) && decide (f.2.2.1<=40) && inNum f.2.2.2.1 && inNum f.2.2.2.2.1 && decide (f.2.2.2.1<=f.2.2.2.2.1) && cntB f.2.2.2.2.2
def fileE (f:Fl):Nat:=match pathO f.1.data.toList with
 | none=>5
 | some (g,_)=>if partB g f.2.1.data.toList then (if bndB f then 0 else 2) else 4
def zeroF:Fl:=(bytesOf [],bytesOf [],0,0,0,0)
def chkF (f:Fl):Fl×Nat:=if fileE f=0 then (f,0) else (zeroF,fileE f)
def keysF (g:Bool) (s:List UInt8):List Int×Nat:=if g then ((goneO s).1,(goneO s).2.1) else (keysR (dataO s).1,(dataO s).2.1)
def ofF (path part:ByteArray) (s:List UInt8) (seq:Int):Fl×Nat:=match pathO path.data.toList with
 | none=>(zeroF,5)
 | some (g,_)=>if (keysF g s).2=0 then chkF (path,part,(keysF g s).1.length,(endsZ (keysF g s).1).1,(endsZ (keysF g s).1).2,seq) else (zeroF,(keysF g s).2)
theorem za2s (f:Fl):fileE f<=5:=by
 unfold fileE;split
 ·omega
 ·split
  ·split<;>omega
  ·omega
theorem zh0 {f:Fl} (h:fileE f=0):∃g n,pathO f.1.data.toList=some (g,n)/\partB g f.2.1.data.toList=true/\bndB f=true:=by
 unfold fileE at h;split at h
 ·cases h
 ·rename_i g n b;split at h
  ·rename_i c;split at h
   ·rename_i d;exact⟨g,n,b,c,d⟩
   ·cases h
  ·cases h
theorem za2t {b:List Int} (h:b≠ []):Lib.minOf b=(endsZ b).1/\Lib.maxOf b=(endsZ b).2:=by
 have c:∀(r:List Int) (z:Int),r.foldl min z=r.foldl (fun a k=>if k<a then k else a) z:=fun r=>by
  induction r with
  | nil=>intro z;rfl
  | cons k r ih =>
   intro z;rw[List.foldl_cons,List.foldl_cons,ih];congr 1;rw[Int.min_def];split<;>split<;>omega
 have d:∀(r:List Int) (z:Int),r.foldl max z=r.foldl (fun a k=>if a<k then k else a) z:=fun r=>by
  induction r with
  | nil=>intro z;rfl
  | cons k r ih =>
   intro z;rw[List.foldl_cons,List.foldl_cons,ih];congr 1;rw[Int.max_def];split<;>split<;>omega
 cases b with
 | nil=>exact absurd rfl h
 | cons z r =>
  unfold Lib.minOf Lib.maxOf;simp only[List.headD_cons,List.foldl_cons,Int.min_self,Int.max_self];exact⟨c r z,d r z⟩
def pk (s:List UInt8):Int:=match pathO s with
 | some (g,n)=>if g then 1073741824+n else n
 | none=>0
theorem ze8 {s:List UInt8} {g:Bool} {n:Int} (h:pathO s=some (g,n)):pk s=(if g then 1073741824+n else n)/\1<=n/\n<=1073741824:=by
 have b:=(zp4 h).2.2;simp only[cntB,Bool.and_eq_true,decide_eq_true_eq]at b;exact⟨by unfold pk;rw[h],b⟩
theorem zb2t {s:List UInt8} (h:pathO s≠none):0<pk s:=by
 cases b:pathO s with
 | none=>exact absurd b h
 | some p =>
  obtain⟨g,n⟩:=p;obtain⟨e,c,d⟩:=ze8 b;rw[e];split<;>omega
def fk (f:Fl):Int:=pk f.1.data.toList
theorem zp5 {f:Fl} (h:fileE f=0):pathO f.1.data.toList≠none:=by
 obtain⟨g,n,b,_⟩:=zh0 h;rw[b];simp
theorem za2u {f:Fl} (h:fileE f=0):0<fk f:=zb2t (zp5 h)
def lstG:Int->List Fl->Nat->Nat×Option Nat
 | _, [],_=>(0,none)
 | prev,f :: r,i=>if fileE f≠0 then (fileE f,some i) else if fk f<=prev then (9,some i) else lstG (fk f) r (i+1)
def listE (fs:List Fl):Nat×Option Nat:=if 60<fs.length then (8,none) else lstG 0 fs 0
def Rises (prev:Int) (fs:List Fl):Prop:=(∀f∈fs,fileE f=0/\prev<fk f)/\fs.Pairwise fun f g=>fk f<fk g
theorem zv4 {c:Int} {f:Fl} {r:List Fl} :Rises c (f :: r)↔fileE f=0/\c<fk f/\Rises (fk f) r:=by
 unfold Rises;rw[List.pairwise_cons];constructor
 ·rintro⟨d,j,i⟩;have k:=d f List.mem_cons_self;exact⟨k.1,k.2,fun g b=>⟨(d g (List.mem_cons_of_mem _ b)).1,j g b⟩,i⟩
 ·rintro⟨d,j,i,l⟩;refine⟨fun g b=>?_,fun g b=>(i g b).2,l⟩;rw[List.mem_cons]at b;rcases b with rfl | b
  ·exact⟨d,j⟩
  ·have:=i g b;exact⟨this.1,by omega⟩
theorem za2v:∀(fs:List Fl) (prev:Int) (i:Nat),(lstG prev fs i).1=0↔Rises prev fs
 | [],prev,i=>by simp[lstG,Rises]
 | f :: r,prev,i=>by
  have c:=za2v r (fk f) (i+1);unfold lstG;rw[zv4];split
  ·rename_i h;simp[h]
  ·rename_i h;have b:fileE f=0:=by simpa using h
   split
   ·rename_i d;simp[b];omega
   ·rename_i d;rw[c];simp[b];omega
theorem ze9 {b:List Fl} :(listE b).1=0↔b.length<=60/\Rises 0 b:=by
 unfold listE;split
 ·rename_i h;simp;omega
 ·rename_i h;rw[za2v];simp;omega
theorem zv5:∀(fs:List Fl) (prev:Int) (i:Nat),(lstG prev fs i).1<=12
 | [],_,_=>by simp[lstG]
 | f :: r,prev,i=>by
  unfold lstG;have:=za2s f;split
  ·dsimp only;omega
  ·split
   ·exact(by decide:(9:Nat)<=12)
   ·exact zv5 r _ _
def placeL (fs:List Fl) (f:Fl):List Fl:=fs.takeWhile (fun g=>decide (fk g<fk f))++f :: fs.dropWhile (fun g=>decide (fk g<fk f))
end Go.Proofs.YtgckdomafbnmkaaGreatDoor
namespace Go.Proofs.YtgckdomafbnmkaaGreatDoor
open Go.RowKit Go.Extern.Stop Go.Stop Go.Extern Go.Sort Go.Shelf Go.Lib
theorem zb2u (n:Int) (w:World):Calls Tryz.prog 184 #[.int .u8 n] w fun e w'=>e= .returned (.bool (nbI n))/\w'=w:=by
 by_cases f:97<=n
 ·by_cases g:n<=122
  ·have b:nbI n=true:=by simp[nbI,f,g]
   rw[b]
   go_enter Tryz.func184,Tryz.ntmps184
   go_wp2;go_ret;exact⟨rfl,rfl⟩
  ·have b:nbI n=false:=by simp[nbI];omega
   rw[b];have c:(48:Int)<=n:=by omega
   have d:¬n<=57:=by omega
   go_enter Tryz.func184,Tryz.ntmps184
   go_wp2;go_ret;exact⟨rfl,rfl⟩
 ·by_cases c:48<=n
  ·by_cases d:n<=57
   ·have b:nbI n=true:=by simp[nbI,c,d]
    rw[b]
    go_enter Tryz.func184,Tryz.ntmps184
    go_wp2;go_ret;exact⟨rfl,rfl⟩
   ·have b:nbI n=false:=by simp[nbI];omega
    rw[b]
    go_enter Tryz.func184,Tryz.ntmps184
    go_wp2;go_ret;exact⟨rfl,rfl⟩
  ·have b:nbI n=false:=by simp[nbI];omega
   rw[b]
   go_enter Tryz.func184,Tryz.ntmps184
   go_wp2;go_ret;exact⟨rfl,rfl⟩
theorem zk8 (n:Int) (w:World):Calls Tryz.prog 131 #[.int .i64 n] w fun e w'=>e= .returned (.bool (inNum n))/\w'=w:=by
 by_cases c: -1073741824<=n
 ·by_cases d:n<=1073741824
  ·have b:inNum n=true:=by simp[inNum,c,d]
   rw[b]
   go_enter Tryz.func131,Tryz.ntmps131
   go_wp2;go_ret;exact⟨rfl,rfl⟩
  ·have b:inNum n=false:=by simp[inNum,d]
   rw[b]
   go_enter Tryz.func131,Tryz.ntmps131
   go_wp2;go_ret;exact⟨rfl,rfl⟩
 ·have b:inNum n=false:=by simp[inNum,c]
  rw[b]
  go_enter Tryz.func131,Tryz.ntmps131
  go_wp2;go_ret;exact⟨rfl,rfl⟩
theorem za3 (s:ByteArray):s.data.toList.length=s.size:=by cases s;simp[ByteArray.size]
theorem zc4 (s:ByteArray) (k:Nat) (h:k<s.size):s.data.toList[k]? =some s[k]:=by
 cases s with | mk d=>simp [ByteArray.size]at h;simp[h];rfl
theorem za2w {s:ByteArray} {n:Nat} (h:∀j c,j<n->s.data.toList[j]? =some c->nbI c.toNat=true) (d:n<s.size) (e:nbI s[n].toNat=true):∀j c,j<n+1->s.data.toList[j]? =some c->nbI c.toNat=true:=fun j c hj hc=>by
 rcases Nat.lt_or_ge j n with b | b
 ·exact h j c b hc
 ·obtain rfl:j=n:=by omega
  rw[zc4 s j d]at hc;rw[<-Option.some.inj hc];exact e
theorem zv6 (s:ByteArray) (m:Nat) (w:World) (y:s.size<=maxLen) (E:m<=1000):Calls Tryz.prog 162 #[.string s,.int .i64 m] w fun e w'=>e= .returned (.bool (wordB m s.data.toList))/\w'=w:=by
 unfold maxLen at y;have d:=za3 s;by_cases A:s.size<1
 ·have b:wordB m s.data.toList=false:=by simp only[wordB,d];simp;omega
  rw[b];clear d b
  go_enter Tryz.func162,Tryz.ntmps162
  go_wp2;go_ret;exact⟨rfl,rfl⟩
 ·by_cases B:m<s.size
  ·have b:wordB m s.data.toList=false:=by simp only[wordB,d];simp;omega
   rw[b];clear d b
   go_enter Tryz.func162,Tryz.ntmps162
   go_wp2;go_ret;exact⟨rfl,rfl⟩
  ·generalize b:wordB m s.data.toList=r;have o:Hid (wordB m s.data.toList=r):=b;have u:Hid (s.data.toList.length=s.size):=d;clear b d
   go_enter Tryz.func162,Tryz.ntmps162
   go_wp2
   go_loop [5] (fun k=> ∃n:Nat,n<=s.size/\(∀j c,j<n->s.data.toList[j]? =some c->nbI c.toNat=true)/\k= .int .i64 n) (fun k=>s.size-(intOf k).toNat)
   case atStart=>exact ⟨0,by omega,by omega,rfl⟩
   case round =>
    obtain⟨n,D,t,rfl⟩:=hrel;have p:Hid (∀j c,j<n->s.data.toList[j]? =some c->nbI c.toNat=true):=t;clear t;by_cases i:n<s.size
    ·have C:(n:Int)<(s.size:Int):=by omega
     have g:=zb2u (s[n].toNat:Int) w;cases f:nbI (s[n].toNat:Int)
     ·rw[f]at g;have b:r=false:=by
       rw[<-o.out];simp only[wordB,Bool.and_eq_false_iff];right;rw[List.all_eq_false];exact⟨s[n],List.mem_of_getElem? (zc4 s n i),by rw[f];simp⟩
      subst b;clear f
      go_wp2_with (go_at_call 184;refine g.mono ?_;rintro e w' ⟨rfl,rfl⟩)
      go_ret;exact⟨rfl,rfl⟩
     ·rw[f]at g;have v:Hid (nbI (s[n].toNat:Int)=true):=f;clear f
      go_wp2_with (go_at_call 184;refine g.mono ?_;rintro e w' ⟨rfl,rfl⟩)
      go_round
      case rel=>exact ⟨n+1,by omega,za2w p.out i v.out,by go_num⟩
      case measure=>simp [intOf];omega
    ·have b:r=true:=by
      rw[<-o.out];simp only[wordB,Bool.and_eq_true,decide_eq_true_eq,List.all_eq_true];have:=u.out;refine⟨⟨by omega,by omega⟩,fun c hc=>?_⟩;obtain⟨k,l⟩:=List.mem_iff_getElem?.1 hc;have z:k<s.data.toList.length:=by
       rcases Nat.lt_or_ge k s.data.toList.length with h | h
       ·exact h
       ·rw[List.getElem?_eq_none h]at l;cases l
      exact p.out k c (by omega) l
     subst b;have q:n=s.size:=by omega
     subst q;go_wp2;go_ret;exact⟨rfl,rfl⟩
theorem zb2v (s:ByteArray) (w:World) (c:s.size<=maxLen):Calls Tryz.prog 236 #[.string s] w fun e w'=>e= .returned (.bool (nameB s.data.toList))/\w'=w:=by
 have b:Calls Tryz.prog 162 #[.string s,.int .i64 8] w fun e w'=>e= .returned (.bool (nameB s.data.toList))/\w'=w:=zv6 s 8 w c (by omega)
 go_enter Tryz.func236,Tryz.ntmps236
 go_wp2_with (go_at_call 162;refine b.mono ?_;rintro e w' ⟨rfl,rfl⟩)
 go_ret;exact⟨rfl,rfl⟩
structure Env (w:World) (a:Nat->Addr):Prop where
 text:w.cell? ⟨6,0,none⟩=some (.iface 325 (.pointer (some (a 0))))
 bound:w.cell? ⟨0,0,none⟩=some (.iface 325 (.pointer (some (a 1))))
 name:w.cell? ⟨7,0,none⟩=some (.iface 325 (.pointer (some (a 4))))
 maxl:∃m,w.cell? ⟨12,0,none⟩=some (.int .i64 m)
 syn:∃te pe,w.cell? ⟨14,0,none⟩=some (.iface te pe)
 tab : Lib.TabIs Tryz.prog w "internal/strconv.uint64pow10" .u64 Lib.pow10Tab
theorem zk9 {w w':World} {n:String} {k:IntKind} {f:List Int} (h:Lib.TabIs Tryz.prog w n k f) (i:BL w w'):Lib.TabIs Tryz.prog w' n k f:=by
 unfold Lib.TabIs World.var? at *
 cases d:Tryz.prog.globalNamed n with
 | none=>rw [d]at h;simp at h
 | some g =>
  rw[d]at h;simp only[Option.bind_some]at h ⊢;have c:g<w.heap.size:=by
   rcases Nat.lt_or_ge g w.heap.size with b | b
   ·exact b
   ·simp[Array.getElem?_eq_none b]at h
  rw[i.block g c];exact h
theorem Env.below {w w':World} {a:Nat->Addr} (h:Env w a) (b:BL w w'):Env w' a where
 text:=za0 b h.text
 bound:=za0 b h.bound
 name:=za0 b h.name
 maxl:=let ⟨m,hm⟩:=h.maxl;⟨m,za0 b hm⟩
 syn:=let ⟨t,p,hm⟩:=h.syn;⟨t,p,za0 b hm⟩
 tab:=zk9 h.tab b
structure Env0 (w:World) (a:Nat->Addr):Prop where
 text:w.cell? ⟨6,0,none⟩=some (.iface 325 (.pointer (some (a 0))))
 bound:w.cell? ⟨0,0,none⟩=some (.iface 325 (.pointer (some (a 1))))
 maxl:∃m,w.cell? ⟨12,0,none⟩=some (.int .i64 m)
 syn:∃te pe,w.cell? ⟨14,0,none⟩=some (.iface te pe)
 tab : Lib.TabIs Tryz.prog w "internal/strconv.uint64pow10" .u64 Lib.pow10Tab
theorem Env0.below {w w':World} {a:Nat->Addr} (h:Env0 w a) (b:BL w w'):Env0 w' a where
 text:=za0 b h.text
 bound:=za0 b h.bound
 maxl:=let ⟨m,hm⟩:=h.maxl;⟨m,za0 b hm⟩
 syn:=let ⟨t,p,hm⟩:=h.syn;⟨t,p,za0 b hm⟩
 tab:=zk9 h.tab b
theorem Env.weak {w:World} {a:Nat->Addr} (h:Env w a):Env0 w a:=⟨h.text,h.bound,h.maxl,h.syn,h.tab⟩
structure EnvS (w:World):Prop where
 maxl:∃m,w.cell? ⟨12,0,none⟩=some (.int .i64 m)
 syn:∃te pe,w.cell? ⟨14,0,none⟩=some (.iface te pe)
 tab : Lib.TabIs Tryz.prog w "internal/strconv.uint64pow10" .u64 Lib.pow10Tab
theorem EnvS.below {w w':World} (h:EnvS w) (b:BL w w'):EnvS w' where
 maxl:=let ⟨m,hm⟩:=h.maxl;⟨m,za0 b hm⟩
 syn:=let ⟨t,p,hm⟩:=h.syn;⟨t,p,za0 b hm⟩
 tab:=zk9 h.tab b
theorem Env0.s {w:World} {a:Nat->Addr} (h:Env0 w a):EnvS w:=⟨h.maxl,h.syn,h.tab⟩
theorem Env.s {w:World} {a:Nat->Addr} (h:Env w a):EnvS w:=⟨h.maxl,h.syn,h.tab⟩
def errV (a:Nat->Addr):Nat->Value
 | 0=>.nilIface
 | n+1=>.iface 325 (.pointer (some (a n)))
theorem zb2w (x:Rw) (w:World) (a:Nat->Addr) (h:Env w a) (g:x.1.size<=maxLen) :
  Calls Tryz.prog 222 #[.agg #[.string x.1,.int .i64 x.2.1,.int .i64 x.2.2]] w fun e w'=>e= .returned (errV a (rowE x))/\BL w w':=by
 obtain⟨p,k,v⟩:=x;dsimp only at g ⊢;have b:BL w (w.alloc (.cells #[.string p,.int .i64 k,.int .i64 v] 112)):=alB _ _;have c:=zb2v p (w.alloc (.cells #[.string p,.int .i64 k,.int .i64 v] 112)) g;have i:=(h.below b).name;have j:=(h.below b).bound;unfold rowE;dsimp only;cases d:nameB p.data.toList
 ·rw[d]at c;simp only[Bool.false_eq_true,if_false];clear d
  go_enter Tryz.func222,Tryz.ntmps222
  go_wp2_with (go_at_call 236;refine c.mono ?_;rintro e w' ⟨rfl,rfl⟩)
  go_ret;exact⟨rfl,b⟩
 ·rw[d]at c;clear d;have f:=fun n W=>zk8 n W;cases l:inNum k
  ·simp only[if_true,Bool.false_and,Bool.false_eq_true,if_false]
   go_enter Tryz.func222,Tryz.ntmps222
   go_wp2_with (first | (go_at_call 236;refine c.mono ?_;rintro e w' ⟨rfl,rfl⟩) | (go_at_call 131;refine(f _ _).mono ?_;rintro e w' ⟨rfl,rfl⟩))
   go_ret;exact⟨rfl,b⟩
  ·cases m:inNum v
   ·simp only[if_true,Bool.true_and,Bool.false_eq_true,if_false]
    go_enter Tryz.func222,Tryz.ntmps222
    go_wp2_with (first | (go_at_call 236;refine c.mono ?_;rintro e w' ⟨rfl,rfl⟩) | (go_at_call 131;refine(f _ _).mono ?_;rintro e w' ⟨rfl,rfl⟩))
    go_ret;exact⟨rfl,b⟩
   ·simp only[if_true,Bool.true_and]
    go_enter Tryz.func222,Tryz.ntmps222
    go_wp2_with (first | (go_at_call 236;refine c.mono ?_;rintro e w' ⟨rfl,rfl⟩) | (go_at_call 131;refine(f _ _).mono ?_;rintro e w' ⟨rfl,rfl⟩))
    go_ret;exact⟨rfl,b⟩
theorem zp6 {w:World} (k:Nat) (os:Array Obj):BL w (grow (w.drewN k) os) :=
 (za4 (Below.refl _ _) k).trans (show Below w.heap.size (w.drewN k) _ from zt4 (w:=w.drewN k) os)
theorem za2x (n : Int) (w : World) (b : Lib.TabIs Tryz.prog w "internal/strconv.uint64pow10" .u64 Lib.pow10Tab) (c : -9223372036854775808 ≤ n) (d : n ≤ 9223372036854775807) :
  Calls Tryz.prog 166 #[.int .i64 n] w fun e w'=>e= .returned (.string (bytesOf (itoa n)))/\∃k os,w'=grow (w.drewN k) os :=
 Tryz.strconv_Itoa n c d w b
def numR (s:List UInt8):Value×Bool:=match numO s with
 | some n=>(.int .i64 n,true)
 | none=>(.int .i64 0,false)
theorem za2y (s:ByteArray) (w:World) (h:EnvS w) (u:s.size<=maxLen) :
  Calls Tryz.prog 135 #[.string s] w fun e w'=>e= .returned (.tuple #[(numR s.data.toList).1,.bool (numR s.data.toList).2])/\BL w w':=by
 unfold maxLen at u;have d:=za3 s;by_cases z:11<s.size
 ·have b:numR s.data.toList=(.int .i64 0,false):=by
   unfold numR numO;rw[if_neg (by omega)]
  rw[b];clear b d
  go_enter Tryz.func135,Tryz.ntmps135
  go_wp2;go_ret2;exact⟨rfl,Below.refl _ _⟩
 ·cases c:atoi s.data.toList with
  | none =>
   have b:numR s.data.toList=(.int .i64 0,false):=by
    unfold numR numO;rw[if_pos (by omega),c]
   rw[b];obtain⟨l,m,o⟩:=h.syn;have g:=Tryz.strconv_Atoi_err s (by omega) c (.iface l m) w o (Or.inr ⟨l,m,rfl⟩);clear b d c o
   go_enter Tryz.func135,Tryz.ntmps135
   go_wp2_with (go_at_call 165;refine g.mono ?_;rintro e w' ⟨N,rfl,_,_,p⟩)
   go_ret2;exact⟨rfl,p⟩
  | some n =>
   have g:=Tryz.strconv_Atoi s n (by omega) c w;have v:=atoi_bound c (by omega);by_cases f:itoa n=s.data.toList
   ·have b:numR s.data.toList=(.int .i64 n,true):=by
     unfold numR numO;rw[if_pos (by omega),c];simp[f]
    rw[b];have j:bytesOf (itoa n)=s:=by rw[f];exact zd8 s
    clear b d c f
    go_enter Tryz.func135,Tryz.ntmps135
    go_wp2_with (first
     | (go_at_call 165;refine g.mono ?_;rintro e q ⟨rfl,t,rfl⟩)
     | (go_at_call 166;refine(za2x n _ (zk9 h.tab (bytesWorld_below w _ t)) (by omega) (by omega)).mono ?_;rintro e r ⟨rfl,k,i,rfl⟩;rw[j]))
    go_ret2;exact⟨rfl,(bytesWorld_below w _ t).trans ((zp6 k i).mono (bytesWorld_below w _ t).size)⟩
   ·have b:numR s.data.toList=(.int .i64 0,false):=by
     unfold numR numO;rw[if_pos (by omega),c];simp[f]
    rw[b];have y:((bytesOf (itoa n)).toList == s.toList)=false:=by
     rw[ByteArray.toList_eq,ByteArray.toList_eq];simpa [bytesOf] using f
    clear b d c f
    go_enter Tryz.func135,Tryz.ntmps135
    go_wp2_with (first
     | (go_at_call 165;refine g.mono ?_;rintro e q ⟨rfl,t,rfl⟩)
     | (go_at_call 166;refine(za2x n _ (zk9 h.tab (bytesWorld_below w _ t)) (by omega) (by omega)).mono ?_;rintro e r ⟨rfl,k,i,rfl⟩))
    go_ret2;exact⟨rfl,(bytesWorld_below w _ t).trans ((zp6 k i).mono (bytesWorld_below w _ t).size)⟩
theorem za2z (s:ByteArray) (w:World) (a:Nat->Addr) (h:Env0 w a) (b:s.size<=maxLen) :
  Calls Tryz.prog 135 #[.string s] w fun e w'=>e= .returned (.tuple #[(numR s.data.toList).1,.bool (numR s.data.toList).2])/\BL w w' :=
 za2y s w h.s b
def textB (x:Rw):ByteArray:=if rowE x=0 then x.1++sp++bytesOf (itoa x.2.1)++sp++bytesOf (itoa x.2.2) else bytesOf []
def tabA (n:Nat):Array Value:=(Array.range 256).map fun i=>.int .u32 (if i<n then (crcF8 i:Int) else 0)
theorem zc7 (n:Nat):(tabA n).size=256:=by simp[tabA]
theorem zi3 (n i:Nat) (h:i<256):(tabA n)[i]? =some (.int .u32 (if i<n then (crcF8 i:Int) else 0)):=by
 simp[tabA,h]
theorem zb2x (n:Nat) (h:n<256):(tabA n).setIfInBounds n (.int .u32 (crcF8 n:Int))=tabA (n+1):=by
 apply Array.ext_getElem?;intro i;rw[Array.getElem?_setIfInBounds];by_cases b:i<256
 ·rw[zi3 _ _ b,zi3 _ _ b,zc7];by_cases e:n=i
  ·subst e;simp[h]
  ·rw[if_neg e];by_cases c:i<n
   ·rw[if_pos c,if_pos (by omega)]
   ·rw[if_neg c,if_neg (by omega)]
 ·have d:∀k,(tabA k)[i]? =none:=fun k=>Array.getElem?_eq_none (by rw[zc7];omega);rw[d,d,zc7];by_cases e:n=i
  ·subst e;omega
  ·rw[if_neg e]
theorem zb2y:tabA 0=Array.replicate 256 (.int .u32 0):=by
 apply Array.ext_getElem?;intro i;by_cases b:i<256
 ·rw[zi3 _ _ b];simp[b]
 ·rw[Array.getElem?_eq_none (by rw[zc7];omega),Array.getElem?_eq_none (by simp;omega)]
def crcI (j:Nat) (x:Nat):Nat:=Nat.repeat crcF j x
theorem zv7 (j x:Nat):crcI (j+1) x=crcF (crcI j x):=rfl
theorem za3a (j:Nat) {x:Nat} (h:x<4294967296):crcI j x<4294967296:=by
 induction j with
 | zero=>exact h
 | succ j ih=>rw [zv7];exact ze6 ih
theorem zb2z (x:Nat):crcI 8 x=crcF8 x:=rfl
theorem Tryz.zeroTab:Tryz.zeroCells315=tabA 0:=by rw[zb2y];kernel_rfl
theorem Tryz.sizeTab:(Tryz.prog.info? 315).map (·.size)=some 256:=by kernel_rfl
theorem za3b (n:Nat):(tabA n).all (·.oneCell')=true:=by
 rw[Array.all_eq_true];intro i b;have h:=zi3 n i (by rw[zc7]at b;exact b);rw[Array.getElem?_eq_getElem b]at h;rw[Option.some.inj h];rfl
theorem za3c {B:Nat} {a w:World} (h:Below B a w) (g:Nat) (b:B<=g) (cs:Array Value):Below B a (w.setRow g cs):=by
 refine⟨h.os,h.tape,h.output,by rw[size_setRow];exact h.size,fun k hk=>?_⟩;have e:(w.setRow g cs).heap[k]? =w.heap[k]? :=by
  unfold World.setRow;simp only[Array.getElem?_modify];rw[if_neg (by omega)]
 rw[e];exact h.block k hk
theorem zb3a (w:World):Calls Tryz.prog 234 #[] w fun e w'=>e= .returned (.agg (tabA 256))/\BL w w':=by
 have G:=Tryz.zeroTab;have o:BL w ((w.alloc (.cells (tabA 0) 315)).alloc (.cells (tabA 0) 315)):=(alB _ _).alloc (by simp) _;have z:=heap_alloc2_old w (.cells (tabA 0) 315) (.cells (tabA 0) 315);have A:=heap_alloc2_new w (.cells (tabA 0) 315) (.cells (tabA 0) 315)
 go_enter Tryz.func234,Tryz.ntmps234
 go_wp2;clear G
 go_loopw [5] (fun k wr=> ∃n:Nat,n<=256/\k= .int .i64 n/\BL w wr/\wr.heap[w.heap.size]? =some (.cells (tabA 0) 315 (0,0))/\wr.heap[w.heap.size+1]? =some (.cells (tabA n) 315 (0,0))) (fun k _=>256-(intOf k).toNat)
 case atStart=>exact ⟨0,by omega,rfl,o,z,A⟩
 case round =>
  clear z A o;obtain⟨n,O,rfl,C,D,E⟩:=hrel;have t:Hid (wr.heap[w.heap.size]? =some (.cells (tabA 0) 315 (0,0))):=D;have i:Hid (wr.heap[w.heap.size+1]? =some (.cells (tabA n) 315 (0,0))):=E;clear D E;by_cases p:n<256
  ·have M:(n:Int)<256:=by omega
   have I:(0:Int)<=(n:Int):=by omega
   have F:wr.cell? ⟨w.heap.size+1,n,none⟩=some (.int .u32 0):=by rw[cell_of_row _ _ _ _ _ _ i.out,zi3 _ _ p,if_neg (by omega)]
   have J:wr.frozen? ⟨w.heap.size+1,n,none⟩=false:=frozen_of_row _ _ _ _ _ i.out;have K:IntKind.u32.wrap (n:Int)=(n:Int):=by rw[IntKind.wrap_u32'];omega
   go_wp2
   go_loop [3,10] (fun s j=> ∃m:Nat,m<=8/\j= .int .i64 m/\s= .int .u32 (crcI m n:Nat)) (fun _ j=>8-(intOf j).toNat)
   case atStart=>exact ⟨0,by omega,rfl,rfl⟩
   case round =>
    obtain⟨m,P,rfl,rfl⟩:=hrel;by_cases H:m<8
    ·have L:(m:Int)<8:=by omega
     have q:=za3a m (x:=n) (by omega);have u:=zv7 m n;generalize crcI m n=c at q u ⊢;have r:Hid (crcI (m+1) n=crcF c):=u;clear u;have b:bits .and .u32 (c:Int) 1=((c % 2:Nat):Int):=by
      have:=u32_and_nat c 1 q (by decide);rw[nat_mask1]at this;exact this
     by_cases d:c % 2=1
     ·have v:(bits .and .u32 (c:Int) 1 == 1)=true:=by rw[b,d];rfl
      have N:bits .xor .u32 ((c:Int) / 2) 3988292384=((c / 2 ^^^ 3988292384:Nat):Int):=by
       have:=u32_xor_nat (c / 2) 3988292384 (by omega) (by decide);simpa using this
      clear b;go_wp2;go_round
      case rel=>exact ⟨m+1,by omega,by go_num,by rw[r.out];unfold crcF;rw[if_pos d]⟩
      case measure=>simp [intOf];omega
     ·have v:(bits .and .u32 (c:Int) 1 == 1)=false:=by rw[b,show c % 2=0 by omega];rfl
      clear b;go_wp2;go_round
      case rel=>exact ⟨m+1,by omega,by go_num,by rw[r.out];unfold crcF;rw[if_neg d];simp⟩
      case measure=>simp [intOf];omega
    ·obtain rfl:m=8:=by omega
     rw[zb2z];have g:=heap_setCell_same wr (w.heap.size+1) n (tabA n) 315 (.int .u32 (crcF8 n:Nat)) i.out;have f:=heap_setCell_other wr ⟨w.heap.size+1,n,none⟩ w.heap.size (.int .u32 (crcF8 n:Nat)) (by simp);have y:Hid ((wr.setCell ⟨w.heap.size+1,n,none⟩ (.int .u32 (crcF8 n:Nat))).heap[w.heap.size+1]? =some (.cells (tabA (n+1)) 315 (0,0))):=by
      show _=_;rw[g,zb2x n p]
     have l:Hid ((wr.setCell ⟨w.heap.size+1,n,none⟩ (.int .u32 (crcF8 n:Nat))).heap[w.heap.size]? =some (.cells (tabA 0) 315 (0,0))):=by
      show _=_;rw[f];exact t.out
     have B:BL w (wr.setCell ⟨w.heap.size+1,n,none⟩ (.int .u32 (crcF8 n:Nat))):=C.setCell (by simp) _;clear g f;go_wp2;go_roundw
     case rel=>exact ⟨n+1,by omega,by go_num,B,l.out,y.out⟩
     case measure=>simp [intOf];omega
  ·obtain rfl:n=256:=by omega
   go_wp2_with (first
    | (refine wpList_load_row rfl 315 _ rfl (w.heap.size+1) rfl 315 (tabA 256) (0,0) _ i.out Tryz.underlying315 rfl (by rw[zc7];exact Tryz.sizeTab) ?_)
    | (refine wpList_store_row rfl 315 _ _ rfl w.heap.size (tabA 256) rfl rfl 315 (tabA 0) t.out (by rw[zc7];exact Tryz.sizeTab) (by rw[zc7,zc7]) (za3b _) ?_))
   refine bodyPost_ret (results_cell_row rfl _ _ w.heap.size 315 (tabA 256) (0,0) _ rfl (setRow_heap wr w.heap.size (tabA 0) _ _ _ t.out) Tryz.underlying315 rfl (by rw[zc7];exact Tryz.sizeTab)) rfl ⟨rfl,?_⟩;exact za3c C _ (Nat.le_refl _) _
theorem zb3b (s:ByteArray) (w:World) (P:s.size<=maxLen):Calls Tryz.prog 216 #[.string s] w fun e w'=>e= .returned (.int .u32 (sumL s.data.toList:Nat))/\BL w w':=by
 unfold maxLen at P;have L:=Tryz.zeroTab;have r:=zb3a w
 go_enter Tryz.func216,Tryz.ntmps216
 go_wp2_with fail
 refine r.mono ?_;rintro e d ⟨rfl,l⟩;clear r;have A:=heap_alloc_new d (.cells (tabA 0) 315);have t:BL w (d.alloc (.cells (tabA 0) 315)):=l.alloc l.size _
 go_wp2_with (refine wpList_store_row rfl 315 _ _ rfl d.heap.size (tabA 256) rfl rfl 315 (tabA 0) A (by rw[zc7];exact Tryz.sizeTab) (by rw[zc7,zc7]) (za3b _) ?_)
 clear L;have m:=setRow_heap (d.alloc (.cells (tabA 0) 315)) d.heap.size (tabA 0) (tabA 256) _ _ A;have j:BL w ((d.alloc (.cells (tabA 0) 315)).setRow d.heap.size (tabA 256)):=za3c t _ l.size _;generalize d.heap.size=g at m j ⊢;generalize (d.alloc (.cells (tabA 0) 315)).setRow g (tabA 256)=O at m j ⊢;have M:Hid (∀i,i<256->O.cell? ⟨g,i,none⟩=some (.int .u32 (crcF8 i:Nat))):=fun i B=>by
  rw[cell_of_row _ _ _ _ _ _ m,zi3 _ _ B,if_pos B]
 clear A t m
 go_loop [4,5] (fun c k=> ∃n:Nat,n<=s.size/\k= .int .i64 n/\c= .int .u32 (crcL (s.data.toList.take n):Nat)) (fun _ k=>s.size-(intOf k).toNat)
 case atStart=>exact ⟨0,Nat.zero_le _,rfl,rfl⟩
 case round =>
  obtain⟨n,T,rfl,rfl⟩:=hrel;have f:=zu2 (s.data.toList.take n);by_cases E:n<s.size
  ·have B:(n:Int)<(s.size:Int):=by omega
   have Q:(0:Int)<=(n:Int):=by omega
   have u:s.data.toList.take (n+1)=s.data.toList.take n++ [s[n]]:=by
    rw[List.take_succ_eq_append_getElem (by simpa using E)];rfl
   have F:Hid (crcL (s.data.toList.take (n+1))=crcB (crcL (s.data.toList.take n)) s[n]):=by
    show _=_;rw[u,za2e]
   clear u;have o:=zb1s (crcL (s.data.toList.take n)) s[n];generalize crcL (s.data.toList.take n)=C at f F o ⊢;have K:=s[n].toNat_lt;obtain⟨I,D⟩:∃I,(C ^^^ s[n].toNat) % 256=I:=⟨_,rfl⟩;have p:I<256:=by omega
   have N:bits .xor .u8 ((C:Int) % 256) (s[n].toNat:Int)=(I:Int):=by
    have G:=u8_xor_nat (C % 256) s[n].toNat (by omega) (by omega);have H:=Nat.xor_mod_two_pow (a:=C) (b:=s[n].toNat) (n:=8);rw[show (2:Nat) ^ 8=256 from rfl,Nat.mod_eq_of_lt (a:=s[n].toNat) (by omega)]at H;rw[<-H,D]at G;simpa using G
   have q:=M.out I p;have v:=za2c (x:=I) (by omega);have J:bits .xor .u32 (crcF8 I:Int) ((C:Int) / 256)=((crcF8 I ^^^ C / 256:Nat):Int):=by
    have:=u32_xor_nat (crcF8 I) (C / 256) v (by omega);simpa using this
   rw[D]at o;have y:Hid (crcB C s[n]=crcF8 I ^^^ C / 256):=o;clear o D v;generalize crcF8 I=U at q J y;have R:(I:Int)<256:=by omega
   have S:(0:Int)<=(I:Int):=by omega
   go_wp2;go_round
   case rel=>exact ⟨n+1,by omega,by go_num,by rw[F.out,y.out]⟩
   case measure=>simp [intOf];omega
  ·obtain rfl:n=s.size:=by omega
   have z:s.data.toList.take s.size=s.data.toList:=List.take_of_length_le (by rw[za3];exact Nat.le_refl _);rw[z]at f ⊢;have J:bits .xor .u32 IntKind.u32.max (crcL s.data.toList:Int)=((sumL s.data.toList:Nat):Int):=by
    have e:IntKind.u32.max=4294967295:=by decide
    rw[e];have:=u32_xor_nat 4294967295 (crcL s.data.toList) (by decide) f;unfold sumL;rw[Nat.xor_comm];exact this
   clear z;go_wp2;go_ret;exact⟨rfl,j⟩
theorem zl0:∀(l:List UInt8),∀x∈words l,x.length<=l.length
 | [],x,h=>by simp[words]at h;simp[h]
 | c :: r,x,h=>by
  have b:=zl0 r;unfold words at h;split at h
  ·rw[List.mem_cons]at h;rcases h with rfl | h
   ·simp
   ·have:=b x h;simp;omega
  ·split at h
   ·simp at h;simp[h]
   ·rename_i w f d;rw[d]at b;rw[List.mem_cons]at h;rcases h with rfl | h
    ·have:=b w List.mem_cons_self;simp;omega
    ·have:=b x (List.mem_cons_of_mem _ h);simp;omega
theorem za1 {w:World} {b o:Nat} {v:Value} (h:w.cell? ⟨b,o,none⟩=some v):w.setCell ⟨b,o,none⟩ v=w:=by
 have d:(w.setCell ⟨b,o,none⟩ v).heap=w.heap:=by
  unfold World.setCell;apply Array.ext_getElem?;intro i;dsimp only;rw[Array.getElem?_modify];split
  ·rename_i e;subst e;unfold World.cell? at h;dsimp only at h
   cases g:w.heap[b]? with
   | none=>rfl
   | some ob =>
    rw[g]at h
    cases ob with
    | cells c t f =>
     simp only[Option.isSome_none,Bool.false_eq_true,if_false]at h;simp only[Option.map_some,Option.isSome_none,Bool.false_eq_true,if_false,Option.some.injEq,Obj.cells.injEq,and_true];apply Array.ext_getElem?;intro k;rw[Array.getElem?_setIfInBounds];split
     ·rename_i e;subst e;split
      ·exact h.symm
      ·rename_i j;rw[Array.getElem?_eq_none (by omega)]
     ·rfl
    | _=>simp at h
  ·rfl
 cases w
 simp only[World.setCell]at d ⊢;rw[d]
def TxAt (w:World) (v:Value) (ts:List ByteArray):Prop :=
 ∃b,v= .slice (some ⟨b,0,none⟩) ts.length ts.length/\∀j (h:j<ts.length),w.cell? ⟨b,j,none⟩=some (.string ts[j])
theorem za3d (s:ByteArray) (w:World) (a:Nat->Addr) (h:Env0 w a) (g:s.size<4294967281) :
  Calls Tryz.prog 220 #[.string s,.string ⟨#[32]⟩] w fun e w'=> ∃v ts,e= .returned v/\TxAt w' v ts/\ts.map (·.data.toList)=words s.data.toList/\BL w w':=by
 obtain⟨m,f⟩:=h.maxl;have c:=Tryz.strings_Split s sp m _ g f (by decide);obtain⟨b,i⟩:=zb1c s.size s (Nat.le_refl _);have d:(splitB sp 0 (countB s sp) s).length=countB s sp+1:=by
  have:=congrArg List.length b;simp only[List.length_map]at this;omega
 refine c.mono fun e w' ⟨he,hw⟩=>⟨_,splitB sp 0 (countB s sp) s,he,⟨w.heap.size,by rw[d],fun j hj=>?_⟩,b,?_⟩
 ·rw[hw,cell_of_row _ _ _ _ _ _ (heap_alloc_new _ _)];simp[hj]
 ·rw[hw];exact alB _ _
theorem Tryz.numsInfo:(Tryz.prog.info? 3).map (fun i=>(i.zero,i.size,i.bytes))=some (some (.int .i64 0),1,8):=by kernel_rfl
def NumsRow (w:World) (e:Ending) (ts:List ByteArray):Prop :=
 (∃(zs:List Int) (g:Nat),zs.length=ts.length/\(∀(j:Nat) (t:ByteArray),ts[j]? =some t->numO t.data.toList=zs[j]?)/\e= .returned (.tuple #[.slice (some ⟨g,0,none⟩) ts.length ts.length,.bool true])/\∀j (h:j<zs.length),w.cell? ⟨g,j,none⟩=some (.int .i64 zs[j])) \/
 (∃(j:Nat) (t:ByteArray),ts[j]? =some t/\numO t.data.toList=none/\e= .returned (.tuple #[.slice none 0 0,.bool false]))
def NumsRowN (B:Nat) (w:World) (e:Ending) (ts:List ByteArray):Prop :=
 (∃(zs:List Int) (g:Nat),zs.length=ts.length/\(∀(j:Nat) (t:ByteArray),ts[j]? =some t->numO t.data.toList=zs[j]?)/\e= .returned (.tuple #[.slice (some ⟨g,0,none⟩) ts.length ts.length,.bool true])/\(∀j (h:j<zs.length),w.cell? ⟨g,j,none⟩=some (.int .i64 zs[j]))/\B<=g) \/
 (∃(j:Nat) (t:ByteArray),ts[j]? =some t/\numO t.data.toList=none/\e= .returned (.tuple #[.slice none 0 0,.bool false]))
theorem NumsRowN.weak {B:Nat} {w:World} {e:Ending} {b:List ByteArray} (h:NumsRowN B w e b):NumsRow w e b:=by
 rcases h with⟨c,g,d,f,i,j,_⟩ | h
 ·exact Or.inl ⟨c,g,d,f,i,j⟩
 ·exact Or.inr h
theorem za3e (z:Value) (n j:Nat) (h:j<n):(madeCells #[z] n)[j]? =some z:=by
 unfold madeCells;simp[h,Nat.mod_one]
theorem zb3c (b o aa:Nat) (f:List ByteArray) (w:World) (a:Nat->Addr) (h:Env0 w a) (hc:∀j (h:j<f.length),w.cell? ⟨b,o+j,none⟩=some (.string f[j])) (hs:∀t∈f,t.size<=maxLen) (hl:f.length<=20000) :
  Calls Tryz.prog 221 #[.slice (some ⟨b,o,none⟩) f.length aa] w fun e w'=>NumsRowN w.heap.size w' e f/\BL w w':=by
 have HC:Hid (∀j (h:j<f.length),w.cell? ⟨b,o+j,none⟩=some (.string f[j])):=hc;have HS:Hid (∀t∈f,t.size<=maxLen):=hs;obtain⟨L,V⟩:∃L,f.length=L:=⟨_,rfl⟩;have B:Hid (f.length=L):=V;rw[V]at hl ⊢;clear V hc hs;have X:=fun W=>run_make_row' (P:=Tryz.prog) 69 3 (.int .i64 0) 8 Tryz.underlying69 Tryz.numsInfo rfl .i64 .i64 L (by omega) (by omega) W;have D:BL w (w.alloc (.cells (madeCells #[.int .i64 0] L) 3)):=alB _ _;have v:=heap_alloc_new w (.cells (madeCells #[.int .i64 0] L) 3);have E:∀j,j<L->(madeCells #[.int .i64 0] L)[j]? =some (.int .i64 0):=fun j hj=>za3e _ _ _ hj;have MD:Hid (∀j,j<L->(madeCells #[.int .i64 0] L)[j]? =some (.int .i64 0)):=E;clear E
 go_enter Tryz.func221,Tryz.ntmps221
 go_wp2
 go_loopw [14] (fun k wr=> ∃(n:Nat) (g:List Int) (d:Array Value),n<=L/\k= .int .i64 n/\BL w wr/\g.length=n/\(∀j t,j<n->f[j]? =some t->numO t.data.toList=g[j]?)/\wr.heap[w.heap.size]? =some (.cells d 3 (0,0))/\(∀j,j<L->∃u,d[j]? =some u)/\∀j (h:j<g.length),d[j]? =some (.int .i64 g[j])) (fun k _=>L-(intOf k).toNat)
 case atStart=>exact ⟨0, [],_,by omega,rfl,D,rfl,fun j t h=>absurd h (Nat.not_lt_zero _),v,fun j hj=>⟨_,MD.out j hj⟩,fun j h=>absurd h (Nat.not_lt_zero _)⟩
 case round =>
  clear D v X;obtain⟨n,g,d,hn,rfl,A,K,M,N,O,Q⟩:=hrel;have R:Hid (wr.heap[w.heap.size]? =some (.cells d 3 (0,0))):=N;have i:Hid (g.length=n):=K;have F:Hid (∀j t,j<n->f[j]? =some t->numO t.data.toList=g[j]?):=M;have G:Hid (∀j,j<L->∃u,d[j]? =some u):=O;have H:Hid (∀j (h:j<g.length),d[j]? =some (.int .i64 g[j])):=Q;clear N K M O Q;by_cases I:n<L
  ·have p:n<f.length:=by rw[B.out];exact I
   have c1:=za0 A (HC.out n p);have S:Hid (f[n]? =some f[n]):=List.getElem?_eq_getElem p;have c:=za2z f[n] wr a (h.below A) (HS.out _ (List.getElem_mem _));generalize f[n]=t at c1 S c;unfold numR at c;have hi:(n:Int)<(L:Int):=by omega
   have ab:(0:Int)<=(n:Int):=by omega
   clear p
   cases s:numO t.data.toList with
   | none =>
    rw[s]at c;dsimp only at c;have T:Hid (numO t.data.toList=none):=s;clear s
    go_wp2_with fail
    refine c.mono ?_;rintro e m ⟨rfl,r⟩;clear c;have y:BL w m:=trB A r;go_wp2;go_ret2;exact⟨Or.inr ⟨n,t,S.out,T.out,rfl⟩,y⟩
   | some x =>
    rw[s]at c;dsimp only at c;have T:Hid (numO t.data.toList=some x):=s;clear s
    go_wp2_with fail
    refine c.mono ?_;rintro e m ⟨rfl,r⟩;clear c;have y:BL w m:=trB A r;have l:m.heap[w.heap.size]? =some (.cells d 3 (0,0)):=(r.block _ (lt_of_block R.out)).trans R.out;obtain⟨u,C⟩:=G.out n I;have ac:m.cell? ⟨w.heap.size,n,none⟩=some u:=by rw[cell_of_row _ _ _ _ _ _ l];exact C
    have ad:m.frozen? ⟨w.heap.size,n,none⟩=false:=frozen_of_row _ _ _ _ _ l;have z:=heap_setCell_same m w.heap.size n d 3 (.int .i64 x) l;have U:Hid ((m.setCell ⟨w.heap.size,n,none⟩ (.int .i64 x)).heap[w.heap.size]? =some (.cells (d.setIfInBounds n (.int .i64 x)) 3 (0,0))):=z;have Y:Hid (n<d.size):=by
     show n<d.size;rcases Nat.lt_or_ge n d.size with q | q
     ·exact q
     ·rw[Array.getElem?_eq_none q]at C;cases C
    have Z:BL w (m.setCell ⟨w.heap.size,n,none⟩ (.int .i64 x)):=y.setCell (Nat.le_refl _) _;clear z l C;go_wp2;go_roundw
    case rel =>
     refine⟨n+1,g++ [x],_,by omega,by go_num,Z,by rw[List.length_append,i.out];rfl,fun j t' hj ht'=>?_,U.out,fun j hj=>?_,fun j hj=>?_⟩
     ·rcases Nat.lt_or_ge j n with q | q
      ·rw[F.out j t' q ht',List.getElem?_append_left (by rw[i.out];exact q)]
      ·obtain rfl:j=n:=by omega
       rw[S.out]at ht';rw[<-Option.some.inj ht',T.out,List.getElem?_append_right (by rw[i.out];exact Nat.le_refl _),i.out,Nat.sub_self];rfl
     ·rw[Array.getElem?_setIfInBounds];split
      ·rw[if_pos Y.out];exact⟨_,rfl⟩
      ·exact G.out j hj
     ·rw[Array.getElem?_setIfInBounds];split
      ·rename_i e;subst e;rw[if_pos Y.out,List.getElem_append_right (by rw[i.out];exact Nat.le_refl _)];simp
      ·rename_i e;have J:j<g.length:=by rw[List.length_append]at hj;simp at hj;have:=i.out;omega
       rw[List.getElem_append_left J];exact H.out j J
    case measure=>simp [intOf];omega
  ·obtain rfl:n=L:=by omega
   go_wp2;go_ret2;refine⟨Or.inl ⟨g,w.heap.size,by rw[i.out,B.out],fun j t ht=>F.out j t (by
    rw[<-B.out];rcases Nat.lt_or_ge j f.length with h | h
    ·exact h
    ·rw[List.getElem?_eq_none h]at ht;cases ht) ht,by rw[B.out];rfl,fun j hj=>?_,Nat.le_refl _⟩,A⟩
   rw[cell_of_row _ _ _ _ _ _ R.out];exact H.out j hj
theorem za3f (b o d:Nat) (c:List ByteArray) (w:World) (a:Nat->Addr) (h:Env0 w a) (f:∀j (h:j<c.length),w.cell? ⟨b,o+j,none⟩=some (.string c[j])) (g:∀t∈c,t.size<=maxLen) (i:c.length<=20000) :
  Calls Tryz.prog 221 #[.slice (some ⟨b,o,none⟩) c.length d] w fun e w'=>NumsRow w' e c/\BL w w' :=
 (zb3c b o d c w a h f g i).mono fun _ _ ⟨h1,h2⟩=>⟨h1.weak,h2⟩
def rowV (x:Rw):Value:=.agg #[.string x.1,.int .i64 x.2.1,.int .i64 x.2.2]
theorem za3g {l:List UInt8} (h:(words l).length≠3):readO l=((bytesOf [],0,0),1):=by
 unfold readO;split
 ·rename_i p k v e;rw[e]at h;simp at h
 ·rfl
theorem za3h {l p k v:List UInt8} (h:words l= [p,k,v]):readO l=(match numO k,numO v with
  | some a,some b=>if rowE (bytesOf p,a,b)=0 then ((bytesOf p,a,b),0) else ((bytesOf [],0,0),rowE (bytesOf p,a,b))
  | _,_=>((bytesOf [],0,0),1)):=by
 unfold readO;rw[h];rfl
theorem zv8 (s:ByteArray) (w:World) (a:Nat->Addr) (h:Env w a) (hs:s.size<4294967281) :
  Calls Tryz.prog 195 #[.string s] w fun e w'=>e= .returned (.tuple #[rowV (readO s.data.toList).1,errV a (readO s.data.toList).2])/\BL w w':=by
 generalize hR:readO s.data.toList=R;have X:Hid (readO s.data.toList=R):=hR;clear hR;have ab:BL w (w.alloc (.cells #[.string ⟨#[]⟩,.int .i64 0,.int .i64 0] 112)):=alB _ _
 go_enter Tryz.func195,Tryz.ntmps195
 go_wp2_with fail
 refine(za3d s _ a (h.below ab).weak hs).mono ?_;rintro e q ⟨v,U,rfl,hT,i,B⟩;obtain⟨b,rfl,f⟩:=hT;have J:q.cell? ⟨w.heap.size,0,none⟩=some (.string ⟨#[]⟩):=za0 B (by simp);have Y:q.cell? ⟨w.heap.size,1,none⟩=some (.int .i64 0):=za0 B (by simp);have Z:q.cell? ⟨w.heap.size,2,none⟩=some (.int .i64 0):=za0 B (by simp);have fz:∀o,q.frozen? ⟨w.heap.size,o,none⟩=false:=fun o=>by rw[B.frozen (p:=⟨w.heap.size,o,none⟩) (by simp)];simp
 have E:BL w q:=trB ab B;have M:U.length=(words s.data.toList).length:=by rw[<-i,List.length_map]
 have k:=zl0 s.data.toList;by_cases h3:U.length=3
 ·obtain⟨P,K,V,rfl⟩:∃P K V,U= [P,K,V]:=by
   match U,h3 with
   | [P,K,V],_=>exact ⟨P,K,V,rfl⟩
  simp only[List.map_cons,List.map_nil]at i;have c0:q.cell? ⟨b,0,none⟩=some (.string P):=f 0 (by simp);have c1:q.cell? ⟨b,1,none⟩=some (.string K):=f 1 (by simp);have c2:q.cell? ⟨b,2,none⟩=some (.string V):=f 2 (by simp);have ag:K.size<=maxLen:=by
   have:=k K.data.toList (by rw[<-i];simp);rw[za3,za3]at this;unfold maxLen;omega
  have ah:V.size<=maxLen:=by
   have:=k V.data.toList (by rw[<-i];simp);rw[za3,za3]at this;unfold maxLen;omega
  have ai:P.size<=maxLen:=by
   have:=k P.data.toList (by rw[<-i];simp);rw[za3,za3]at this;unfold maxLen;omega
  have H:=za3h i.symm;rw[zd8]at H;have ac:=X.out.symm.trans H;clear X H i M k f h3;simp only[List.length_cons,List.length_nil,Nat.zero_add,Nat.reduceAdd]at ⊢;have HE:Hid (R=match numO K.data.toList,numO V.data.toList with
   | some a,some b=>if rowE (P,a,b)=0 then ((P,a,b),0) else ((bytesOf [],0,0),rowE (P,a,b))
   | _,_=>((bytesOf [],0,0),1)):=ac
  clear ac
  go_wp2_with fail
  refine(za3f b 1 2 [K,V] q a (h.below E).weak (fun j hj=>by
   match j,hj with
   | 0,_=>exact c1
   | 1,_=>exact c2) (fun t C=>by
   simp only[List.mem_cons,List.not_mem_nil,or_false]at C;rcases C with rfl | rfl
   ·exact ag
   ·exact ah) (by simp)).mono ?_
  rintro e c ⟨af,z⟩;have hN:(∃x y g,numO K.data.toList=some x/\numO V.data.toList=some y/\e= .returned (.tuple #[.slice (some ⟨g,0,none⟩) 2 2,.bool true])/\c.cell? ⟨g,0,none⟩=some (.int .i64 x)/\c.cell? ⟨g,1,none⟩=some (.int .i64 y))\/((numO K.data.toList=none\/numO V.data.toList=none)/\e= .returned (.tuple #[.slice none 0 0,.bool false])):=by
   rcases af with⟨zs,g,ak,F,A,G⟩|⟨j,t,C,D,A⟩
   ·match zs,ak,F,G with
    | [x,y],_,F,G=>exact Or.inl ⟨x,y,g,F 0 K rfl,F 1 V rfl,A,G 0 (by simp),G 1 (by simp)⟩
   ·refine Or.inr ⟨?_,A⟩
    match j,C with
    | 0,C=>left;rw[Option.some.inj C];exact D
    | 1,C=>right;rw[Option.some.inj C];exact D
  clear af;have N:BL w c:=trB E z;have I:=za0 z J;have O:=za0 z Y;have Q:=za0 z Z;have d0:=za0 z c0;have ad:w.heap.size<q.heap.size:=zb8 J;have fy:∀o,c.frozen? ⟨w.heap.size,o,none⟩=false:=fun o=>by rw[z.frozen (p:=⟨w.heap.size,o,none⟩) ad];exact fz o
  have ae:w.heap.size<c.heap.size:=zb8 I;clear J Y Z fz c0 c1 c2 ad;have m:=HE.out;clear HE;rcases hN with⟨x,y,g,hx,hy,rfl,k0,k1⟩|⟨D,rfl⟩
  ·rw[hx,hy]at m;dsimp only at m;have r:BL c (c.alloc (.cells #[.string P,.int .i64 x,.int .i64 y] 112)).drew:=(alB _ _).drew;have S:BL w (c.alloc (.cells #[.string P,.int .i64 x,.int .i64 y] 112)).drew:=trB N r;have n:=zb2w (P,x,y) ((c.alloc (.cells #[.string P,.int .i64 x,.int .i64 y] 112)).drew) a (h.below S) ai;dsimp only at n;have q0:=za0 r I;have q1:=za0 r O;have q2:=za0 r Q;have r0:(c.alloc (.cells #[.string P,.int .i64 x,.int .i64 y] 112)).drew.cell? ⟨c.heap.size,0,none⟩=some (.string P):=by simp
   have r1:(c.alloc (.cells #[.string P,.int .i64 x,.int .i64 y] 112)).drew.cell? ⟨c.heap.size,1,none⟩=some (.int .i64 x):=by simp
   have r2:(c.alloc (.cells #[.string P,.int .i64 x,.int .i64 y] 112)).drew.cell? ⟨c.heap.size,2,none⟩=some (.int .i64 y):=by simp
   have u:BL c (c.alloc (.cells #[.string ⟨#[]⟩,.int .i64 0,.int .i64 0] 112)):=alB _ _;have j0:=za0 u k0;have j1:=za0 u k1;have j2:=za0 u d0;have l0:=za0 u.drew k0;have l1:=za0 u.drew k1;have l2:=za0 u.drew d0;have m0:=za0 (Below.refl c.heap.size c).drew k0;have m1:=za0 (Below.refl c.heap.size c).drew k1;have m2:=za0 (Below.refl c.heap.size c).drew d0;by_cases A:rowE (P,x,y)=0
   ·rw[if_pos A]at m;subst m;rw[A]at n;simp only[errV]at n ⊢;clear A;go_wp2
    go_region
    all_goals go_wp2_with fail
    refine n.mono ?_;rintro e W ⟨rfl,d⟩;have g0:=za0 d q0;have g1:=za0 d q1;have g2:=za0 d q2;have u0:=za0 d r0;have u1:=za0 d r1;have u2:=za0 d r2;have T:BL w W:=trB S d;have f5:∀o,W.frozen? ⟨w.heap.size,o,none⟩=false:=fun o=>by
     rw[d.frozen (p:=⟨w.heap.size,o,none⟩) (by simp;omega),r.frozen (p:=⟨w.heap.size,o,none⟩) ae];exact fy o
    clear n q0 q1 q2 r0 r1 r2 I O Q fy;go_wp2;refine bodyPost_ret (v:=.tuple #[.agg #[.string P,.int .i64 x,.int .i64 y],.nilIface]) (by simp[results,Tryz.results195,go_sem,g0,g1,g2]) rfl ⟨rfl,?_⟩;exact((T.setCell (by simp) _).setCell (by simp) _).setCell (by simp) _
   ·rw[if_neg A]at m;obtain⟨j,hj⟩:∃j,rowE (P,x,y)=j+1:=⟨rowE (P,x,y)-1,by omega⟩;rw[hj]at n m;subst m;simp only[errV]at n ⊢;clear A hj;go_wp2
    go_region
    all_goals go_wp2_with fail
    refine n.mono ?_;rintro e W ⟨rfl,d⟩;have g0:=za0 d q0;have g1:=za0 d q1;have g2:=za0 d q2;have T:BL w W:=trB S d;have f5:∀o,W.frozen? ⟨w.heap.size,o,none⟩=false:=fun o=>by
     rw[d.frozen (p:=⟨w.heap.size,o,none⟩) (by simp;omega),r.frozen (p:=⟨w.heap.size,o,none⟩) ae];exact fy o
    have s0:=za1 g0;have s1:=za1 g1;have s2:=za1 g2;clear n q0 q1 q2 r0 r1 r2 I O Q fy;go_wp2;exact bodyPost_ret (v:=.tuple #[.agg #[.string ⟨#[]⟩,.int .i64 0,.int .i64 0],.iface 325 (.pointer (some (a j)))]) (by simp[results,Tryz.results195,go_sem,g0,g1,g2]) rfl ⟨rfl,T⟩
  ·have aa:R=((bytesOf [],0,0),1):=by
    rw[m];rcases D with e | e
    ·rw[e]
    ·rw[e];split<;>simp_all
   subst aa;clear m D;have et:=(h.below N).text;simp only;have s0:=za1 I;have s1:=za1 O;have s2:=za1 Q;go_wp2
   go_region
   all_goals go_wp2
   all_goals exact bodyPost_ret (v:=.tuple #[.agg #[.string ⟨#[]⟩,.int .i64 0,.int .i64 0],.iface 325 (.pointer (some (a 0)))]) (by simp[results,Tryz.results195,go_sem,I,O,Q]) rfl ⟨rfl,N.drew⟩
 ·have H:=za3g (l:=s.data.toList) (by omega);have aj:=X.out.symm.trans H;subst aj;generalize U.length=L at h3 ⊢;have al:¬(L:Int)=3:=by omega
  clear H i M k f X h3;have s0:=za1 J;have s1:=za1 Y;have s2:=za1 Z;have et:=(h.below E).text;simp only;go_wp2
  go_region
  all_goals go_wp2
  all_goals exact bodyPost_ret (v:=.tuple #[.agg #[.string ⟨#[]⟩,.int .i64 0,.int .i64 0],.iface 325 (.pointer (some (a 0)))]) (by simp[results,Tryz.results195,go_sem,J,Y,Z]) rfl ⟨rfl,E.drew⟩
theorem zb3d (x y z:Rw) (b:(!(ltOf cfR) y x)=true) (c:(!(ltOf cfR) z y)=true):(!(ltOf cfR) z x)=true:=by
 simp only[Bool.not_eq_true']at *;exact swoR.ntrans z y x c b
theorem zb3e (x y:Rw):((!(ltOf cfR) y x) || (!(ltOf cfR) x y))=true:=by
 cases h:ltOf cfR y x
 ·rfl
 ·cases b:ltOf cfR x y
  ·rfl
  ·have:=swoR.trans x y x b h;rw[swoR.irrefl]at this;cases this
theorem zp7 (xs:List Rw):(sortR xs).Pairwise fun x y=>(!(ltOf cfR) y x)=true :=
 List.pairwise_mergeSort zb3d zb3e xs
theorem zb3f {xs c:List Rw} (h:xs.Perm c):sortR xs=sortR c:=by
 refine List.Perm.eq_of_pairwise (le:=fun x y=>(!(ltOf cfR) y x)=true) (fun a b _ _ h1 h2=>?_) (zp7 xs) (zp7 c) (((zd7 xs).trans h).trans (zd7 c).symm);simp only[Bool.not_eq_true']at h1 h2;exact totR a b h2 h1
def okKey (x:Rw):Prop:= -9223372036854775808<=x.2.1/\x.2.1<=9223372036854775807
theorem za3i (x:Rw) (h:rowE x=0):(textB x).data.toList=textL x:=by
 unfold textB;rw[if_pos h];simp[textL,sp,bytesOf,ByteArray.data_append]
theorem RowsAt.form {w:World} {v:Value} {xs:List Rw} (h:RowsAt w v xs):∃p c,v= .slice p xs.length c:=by
 rcases h with⟨p,c,rfl,rfl⟩|⟨b,o,d,rfl,_⟩
 ·exact⟨_,_,rfl⟩
 ·exact⟨_,_,rfl⟩
theorem KeysAt.form {w:World} {v:Value} {d:List Int} (h:KeysAt w v d):∃p c,v= .slice p d.length c:=by
 rcases h with⟨p,c,rfl,rfl⟩|⟨b,o,f,rfl,_⟩
 ·exact⟨_,_,rfl⟩
 ·exact⟨_,_,rfl⟩
theorem zp8 (p:Option Addr) (n c:Nat) (g:TypeId) (w:World) (h:n<=c):(Builtin.append_ #[44,44] g #[.slice p n c,.slice none 0 0]).run Tryz.prog w= .ok (.slice p n c) w:=by
 obtain⟨j,b,d,i,f⟩:=Tryz.rowInfo
 cases p with
 | none=>simp [Builtin.append_,run_underlying Tryz.underlying44,sizeOf,typeInfo,zeroValue,b,d,Builtin.lenOf,run_firstCells_none,h]
 | some a=>simp [Builtin.append_,run_underlying Tryz.underlying44,sizeOf,typeInfo,zeroValue,b,d,Builtin.lenOf,run_firstCells_none,h,storeCells]
theorem zp9 {P:Program} {w:World} {b:Array Oper} {rest:List Oper} {o:Oper} {a:Act} {Q:Exit->Act->World->Prop} (c:o.guard=none) (s x:Operand) (t:TypeId)
  (d:o.op= .call { callee:=.builtin .append,args:=#[s,x],argTypes:=#[t,t] }) (v:Value) (f:a.eval s=v) (g:a.eval x= .slice none 0 0)
  (i:∀ty w,(Builtin.append_ #[t,t] ty #[v,.slice none 0 0]).run P w= .ok v w) (h:wpList P b Q rest (a.put o.dst v) w):wpList P b Q (o :: rest) a w:=by
 refine wpList_plain c fun K hK=>?_;unfold Oper.wp execOp;simp only[d,resolve,invoke,builtin,Sem.run_bind,Sem.run_pure,Result.andThen_ok,List.map_toArray,List.map_cons,List.map_nil,f,g,i];exact hK _ _ h
theorem za3j {w:World} {base:Nat} {e:TypeId} {b:Nat} {p:Option Addr} {n c m:Nat} {xs:List Value} (h:w.ownsRow base e b (.slice p n c) m xs):n<=c:=by
 rcases h.2 with⟨e,_⟩|⟨g,d,f,e,_,_,i,_⟩
 ·injection e with _ e2 e3;omega
 ·injection e with _ e2 e3;omega
theorem za6 {s:ByteArray} {l:List UInt8} (h:s.data.toList=l):(s.toList == l)=true:=by
 rw[ByteArray.toList_eq];simpa using h
theorem za7 {s:ByteArray} {l:List UInt8} (h:s.data.toList≠l):(s.toList == l)=false:=by
 rw[ByteArray.toList_eq];simpa using h
theorem zd9 (l:List UInt8):(bytesOf l).size=l.length:=by rw[<-za3];simp[bytesOf]
theorem za3k (b:List Int) (k:Int) (h:b≠ []):endsZ (b++ [k])=(if k<(endsZ b).1 then k else (endsZ b).1,if (endsZ b).2<k then k else (endsZ b).2):=by
 cases b with
 | nil=>exact absurd rfl h
 | cons z r =>
  show ((r++ [k]).foldl _ z,(r++ [k]).foldl _ z)=_;rw[List.foldl_append,List.foldl_append];rfl
def HeadAt (W:World) (g:Nat) (n:Nat) (E:Int×Int):Prop:=W.heap[g]? =some (.cells #[.int .i64 n,.int .i64 E.1,.int .i64 E.2] 293 (0,0))
def headW (W:World) (g:Nat) (n:Nat) (E:Int×Int):World:=((W.setCell ⟨g,1,none⟩ (.int .i64 E.1)).setCell ⟨g,2,none⟩ (.int .i64 E.2)).setCell ⟨g,0,none⟩ (.int .i64 n)
def endsP (n:Nat) (E:Int×Int) (key:Int):Int×Int:=if n=0 then (key,key) else (if key<E.1 then key else E.1,if E.2<key then key else E.2)
theorem zb3g (b:List Int) (c:Int):endsZ (b++ [c])=endsP b.length (endsZ b) c:=by
 unfold endsP;by_cases h:b= []
 ·subst h;rfl
 ·rw[za3k _ _ h,if_neg (fun e=>h (List.length_eq_zero_iff.1 e))]
theorem zb3h {W:World} {g n m:Nat} {E E':Int×Int} (h:HeadAt W g n E):HeadAt (headW W g m E') g m E':=by
 unfold HeadAt headW at *;rw[heap_setCell_same _ _ _ _ _ _ (heap_setCell_same _ _ _ _ _ _ (heap_setCell_same _ _ _ _ _ _ h))];rfl
theorem za3l (W:World) (g m j:Nat) (E':Int×Int) (b:j≠g):(headW W g m E').heap[j]? =W.heap[j]? :=by
 unfold headW;rw[heap_setCell_other _ _ _ _ b,heap_setCell_other _ _ _ _ b,heap_setCell_other _ _ _ _ b]
theorem zb3i {W c:World} {B g m:Nat} {E':Int×Int} (h:Below B c W) (b:B<=g):Below B c (headW W g m E'):=((h.setCell b _).setCell b _).setCell b _
theorem HeadAt.cells {W:World} {g n:Nat} {E:Int×Int} (h:HeadAt W g n E):W.cell? ⟨g,0,none⟩=some (.int .i64 n)/\W.cell? ⟨g,1,none⟩=some (.int .i64 E.1)/\W.cell? ⟨g,2,none⟩=some (.int .i64 E.2)/\∀o,W.frozen? ⟨g,o,none⟩=false:=by
 unfold HeadAt at h;exact⟨by rw[cell_of_row _ _ _ _ _ _ h];rfl,by rw[cell_of_row _ _ _ _ _ _ h];rfl,by rw[cell_of_row _ _ _ _ _ _ h];rfl,fun o=>frozen_of_row _ _ _ _ _ h⟩
theorem HeadAt.below {W b:World} {g n:Nat} {E:Int×Int} (h:HeadAt W g n E) (c:BL W b):HeadAt b g n E:=by
 unfold HeadAt at *;exact(c.block g (lt_of_block h)).trans h
theorem zb3j (g n:Nat) (E:Int×Int) (b:Int) (W:World) (h:HeadAt W g n E) (J:n<=100000) :
  Calls Tryz.prog 219 #[.pointer (some ⟨g,0,none⟩),.int .i64 b] W fun e w'=>e= .returned (.tuple #[])/\w'=headW W g (n+1) (endsP n E b):=by
 obtain⟨f,d⟩:=E;have C:Hid (HeadAt W g n (f,d)):=h;obtain⟨H,A,B,I⟩:=h.cells;dsimp only at A B;have F:IntKind.i64.wrap ((n:Int)+1)=(n:Int)+1:=IntWalk.i64_in _ (by omega);have c:∀lo' hi',Hid (HeadAt (W.setCell ⟨g,1,none⟩ (.int .i64 lo')) g n (lo',d)/\HeadAt ((W.setCell ⟨g,1,none⟩ (.int .i64 lo')).setCell ⟨g,2,none⟩ (.int .i64 hi')) g n (lo',hi')):=fun lo' hi'=>by
  have z:HeadAt (W.setCell ⟨g,1,none⟩ (.int .i64 lo')) g n (lo',d):=by
   have:=C.out;unfold HeadAt at *;rw[heap_setCell_same _ _ _ _ _ _ this];rfl
  refine⟨z,?_⟩;unfold HeadAt at *;rw[heap_setCell_same _ _ _ _ _ _ z];rfl
 by_cases m:n=0
 ·subst m;have l:Hid (endsP 0 (f,d) b=(b,b)):=rfl;obtain⟨j,i⟩:=(c b b).out;obtain⟨t,p,k,u⟩:=j.cells;obtain⟨v,q,r,y⟩:=i.cells;clear c j i h;dsimp only at p k q r
  go_enter Tryz.func219,Tryz.ntmps219
  go_wp2;go_end0;refine⟨rfl,?_⟩;rw[l.out];rfl
 ·have G:((n:Int) == 0)=false:=by rw[beq_eq_false_iff_ne];omega
  have D:¬(n:Int)=0:=by omega
  by_cases s:b<f
  ·by_cases o:d<b
   ·have l:Hid (endsP n (f,d) b=(b,b)):=by show _=_;unfold endsP;rw[if_neg m];simp[s,o]
    obtain⟨j,i⟩:=(c b b).out;obtain⟨t,p,k,u⟩:=j.cells;obtain⟨v,q,r,y⟩:=i.cells;clear c j i h;dsimp only at p k q r
    go_enter Tryz.func219,Tryz.ntmps219
    go_wp2;go_end0;refine⟨rfl,?_⟩;rw[l.out];rfl
   ·have l:Hid (endsP n (f,d) b=(b,d)):=by show _=_;unfold endsP;rw[if_neg m];simp[s,o]
    obtain⟨j,i⟩:=(c b d).out;obtain⟨t,p,k,u⟩:=j.cells;have S:Hid ((W.setCell ⟨g,1,none⟩ (.int .i64 b)).setCell ⟨g,2,none⟩ (.int .i64 d)=W.setCell ⟨g,1,none⟩ (.int .i64 b)):=za1 k;clear c j i h;dsimp only at p k
    go_enter Tryz.func219,Tryz.ntmps219
    go_wp2;go_end0;refine⟨rfl,?_⟩;rw[l.out];unfold headW;dsimp only;rw[S.out];rfl
  ·have S1:Hid (W.setCell ⟨g,1,none⟩ (.int .i64 f)=W):=za1 A;have S2:Hid (W.setCell ⟨g,2,none⟩ (.int .i64 d)=W):=za1 B;by_cases o:d<b
   ·have l:Hid (endsP n (f,d) b=(f,b)):=by show _=_;unfold endsP;rw[if_neg m];simp[s,o]
    obtain⟨j,i⟩:=(c f b).out;rw[S1.out]at i;obtain⟨v,q,r,y⟩:=i.cells;clear c j i h;dsimp only at q r
    go_enter Tryz.func219,Tryz.ntmps219
    go_wp2;go_end0;refine⟨rfl,?_⟩;rw[l.out];unfold headW;dsimp only;rw[S1.out];rfl
   ·have l:Hid (endsP n (f,d) b=(f,d)):=by show _=_;unfold endsP;rw[if_neg m];simp[s,o]
    clear c h
    go_enter Tryz.func219,Tryz.ntmps219
    go_wp2;go_end0;refine⟨rfl,?_⟩;rw[l.out];unfold headW;dsimp only;rw[S1.out,S2.out];rfl
structure EnvD (w:World) (a:Nat->Addr):Prop where
 env:Env w a
 shape:w.cell? ⟨1,0,none⟩=some (.iface 325 (.pointer (some (a 2))))
 full:w.cell? ⟨3,0,none⟩=some (.iface 325 (.pointer (some (a 7))))
 order:w.cell? ⟨5,0,none⟩=some (.iface 325 (.pointer (some (a 8))))
 sum:w.cell? ⟨9,0,none⟩=some (.iface 325 (.pointer (some (a 9))))
theorem EnvD.below {w w':World} {a:Nat->Addr} (h:EnvD w a) (b:BL w w'):EnvD w' a :=
 ⟨h.env.below b,za0 b h.shape,za0 b h.full,za0 b h.order,za0 b h.sum⟩
structure EnvD0 (w:World) (a:Nat->Addr):Prop where
 env:Env0 w a
 shape:w.cell? ⟨1,0,none⟩=some (.iface 325 (.pointer (some (a 2))))
 full:w.cell? ⟨3,0,none⟩=some (.iface 325 (.pointer (some (a 7))))
 order:w.cell? ⟨5,0,none⟩=some (.iface 325 (.pointer (some (a 8))))
 sum:w.cell? ⟨9,0,none⟩=some (.iface 325 (.pointer (some (a 9))))
theorem EnvD0.below {w w':World} {a:Nat->Addr} (h:EnvD0 w a) (b:BL w w'):EnvD0 w' a :=
 ⟨h.env.below b,za0 b h.shape,za0 b h.full,za0 b h.order,za0 b h.sum⟩
theorem EnvD.weak {w:World} {a:Nat->Addr} (h:EnvD w a):EnvD0 w a:=⟨h.env.weak,h.shape,h.full,h.order,h.sum⟩
theorem zb3k {xs b:List Rw} (h:xs.Perm b):endsZ (keysR xs)=endsZ (keysR b):=zb1t (h.map _)
theorem zb3l {xs:List Rw} (h:∀x∈xs,rowE x=0):∀x∈sortR xs,rowE x=0:=fun x hx=>h x ((zd7 xs).mem_iff.1 hx)
theorem zb3m {Kw l k A B C D:List UInt8} (h:words l= [k,A,B,C,D]):headO Kw l=if k=Kw then (match numO A,numO B,numO C,numO D with
  | some a,some b,some c,some d=>some (a,b,c,d)
  | _,_,_,_=>none) else none:=by
 unfold headO;rw[h];rfl
theorem zb3n {Kw l:List UInt8} (h:(words l).length≠5):headO Kw l=none:=by
 unfold headO;split
 ·rename_i e;rw[e]at h;simp at h
 ·rfl
theorem zb3o {α:Type} {f:List α} (h:f.length=5):∃a b c d e,f= [a,b,c,d,e]:=by
 match f,h with
 | [a,b,c,d,e],_=>exact ⟨a,b,c,d,e,rfl⟩
theorem eqBB {s t:ByteArray} (h:s.data.toList=t.data.toList):(s.toList == t.toList)=true:=by
 rw[ByteArray.toList_eq,ByteArray.toList_eq];simpa using h
theorem neBB {s t:ByteArray} (h:s.data.toList≠t.data.toList):(s.toList == t.toList)=false:=by
 rw[ByteArray.toList_eq,ByteArray.toList_eq];simpa using h
def headR (K l:List UInt8):(Int×Int×Int)×Int×Bool:=match headO K l with
 | some (n,lo,hi,sum)=>((n,lo,hi),sum,true)
 | none=>((0,0,0),0,false)
theorem za3m (k s:ByteArray) (w:World) (a:Nat->Addr) (h:Env0 w a) (hs:s.size<=100000) :
  Calls Tryz.prog 215 #[.string k,.string s] w fun e w'=>e= .returned (.tuple #[.agg #[.int .i64 (headR k.data.toList s.data.toList).1.1,.int .i64 (headR k.data.toList s.data.toList).1.2.1,.int .i64 (headR k.data.toList s.data.toList).1.2.2],.int .i64 (headR k.data.toList s.data.toList).2.1,.bool (headR k.data.toList s.data.toList).2.2])/\BL w w':=by
 have H:BL w (w.alloc (.cells #[.int .i64 0,.int .i64 0,.int .i64 0] 293)):=alB _ _;have O:=za3d s _ a (h.below H) (by omega);have p:=heap_alloc_new w (.cells #[.int .i64 0,.int .i64 0,.int .i64 0] 293);have P:=zl0 s.data.toList
 go_enter Tryz.func215,Tryz.ntmps215
 go_wp2_with fail
 generalize aj:w.alloc (.cells #[.int .i64 0,.int .i64 0,.int .i64 0] 293)=WA at H O p ⊢;refine O.mono ?_;rintro e G ⟨v1,ts,rfl,ac,y,V⟩;clear O;have n:BL w G:=trB H V;have I:G.heap[w.heap.size]? =some (.cells #[.int .i64 0,.int .i64 0,.int .i64 0] 293 (0,0)):=(V.block _ (lt_of_block p)).trans p;clear p V H aj;have ab:∀W:World,BL w W->W.heap[w.heap.size]? =some (.cells #[.int .i64 0,.int .i64 0,.int .i64 0] 293 (0,0))->(W.cell? ⟨w.heap.size,0,none⟩=some (.int .i64 0)/\W.cell? ⟨w.heap.size,1,none⟩=some (.int .i64 0)/\W.cell? ⟨w.heap.size,2,none⟩=some (.int .i64 0)/\∀o,W.frozen? ⟨w.heap.size,o,none⟩=false):=fun W _ hW =>
  ⟨by rw[cell_of_row _ _ _ _ _ _ hW];rfl,by rw[cell_of_row _ _ _ _ _ _ hW];rfl,by rw[cell_of_row _ _ _ _ _ _ hW];rfl,fun o=>frozen_of_row _ _ _ _ _ hW⟩
 have Q:Hid (∀W:World,BL w W->W.heap[w.heap.size]? =some (.cells #[.int .i64 0,.int .i64 0,.int .i64 0] 293 (0,0))->(W.cell? ⟨w.heap.size,0,none⟩=some (.int .i64 0)/\W.cell? ⟨w.heap.size,1,none⟩=some (.int .i64 0)/\W.cell? ⟨w.heap.size,2,none⟩=some (.int .i64 0)/\∀o,W.frozen? ⟨w.heap.size,o,none⟩=false)):=ab;have l:Hid (G.heap[w.heap.size]? =some (.cells #[.int .i64 0,.int .i64 0,.int .i64 0] 293 (0,0))):=I;clear ab I;by_cases Y:ts.length=5
 ·obtain⟨K,A,B,C,D,rfl⟩:=zb3o Y;have hw:words s.data.toList= [K.data.toList,A.data.toList,B.data.toList,C.data.toList,D.data.toList]:=by rw[<-y];rfl
  have hf:=zb3m (Kw:=k.data.toList) hw;have af:∀t∈ [K,A,B,C,D],t.size<=maxLen:=fun t i=>by
   have:=P t.data.toList (by rw[<-y];exact List.mem_map.2 ⟨t,i,rfl⟩);rw[za3,za3]at this;unfold maxLen;omega
  have HF:Hid (headO k.data.toList s.data.toList=if K.data.toList=k.data.toList then (match numO A.data.toList,numO B.data.toList,numO C.data.toList,numO D.data.toList with
   | some a,some b,some c,some d=>some (a,b,c,d)
   | _,_,_,_=>none) else none):=hf
  obtain⟨b,rfl,q⟩:=ac;have c0:=q 0 (by simp);simp only[List.getElem_cons_zero]at c0;have Z:Hid (∀j (h:j < [K,A,B,C,D].length),G.cell? ⟨b,j,none⟩=some (.string [K,A,B,C,D][j])):=q;clear hf hw y P q Y;simp only[List.length_cons,List.length_nil,Nat.zero_add,Nat.reduceAdd];by_cases R:K.data.toList=k.data.toList
  ·have ag:=eqBB R;have S:=za3f b 1 4 [A,B,C,D] G a (h.below n) (fun j hj=>by
    have ah:j+1 < [K,A,B,C,D].length:=by simp at hj ⊢;omega
    have:=Z.out (j+1) ah;rw[Nat.add_comm 1 j];simpa using this) (fun t i=>af t (List.mem_cons_of_mem _ i)) (by simp)
   simp only[List.length_cons,List.length_nil,Nat.zero_add,Nat.reduceAdd]at S
   go_wp2_with fail
   refine S.mono ?_;rintro e w3 ⟨ae,X⟩;clear S c0;have T:BL w w3:=trB n X;obtain⟨m,r,u,fz⟩:=Q.out w3 T ((X.block _ (lt_of_block l.out)).trans l.out);have s0:=za1 m;have s1:=za1 r;have s2:=za1 u;rcases ae with⟨zs,g,ad,z,rfl,E⟩|⟨j,t,i,F,rfl⟩
   ·obtain⟨J,L,M,N,ai⟩:∃J L M N,zs= [J,L,M,N]:=by
     match zs,ad with
     | [J,L,M,N],_=>exact ⟨J,L,M,N,rfl⟩
    subst ai;have aa:Hid (headO k.data.toList s.data.toList=some (J,L,M,N)):=by
     show _=_;have q0:=z 0 A rfl;have q1:=z 1 B rfl;have q2:=z 2 C rfl;have q3:=z 3 D rfl;rw[HF.out,if_pos R,q0,q1,q2,q3];rfl
    have k0:=E 0 (by simp);have k1:=E 1 (by simp);have k2:=E 2 (by simp);have k3:=E 3 (by simp);simp only[List.getElem_cons_succ,List.getElem_cons_zero]at k0 k1 k2 k3;have U:g≠w.heap.size:=by
     intro e;subst e;have:=m.symm.trans k0;have e1:=k3;rw[cell_of_row _ _ _ _ _ _ ((X.block _ (lt_of_block l.out)).trans l.out)]at e1;simp at e1
    have ak:¬g=w.heap.size:=U;have al:¬w.heap.size=g:=fun e=>U e.symm;clear z E ad U s0 s1 s2;simp only[List.length_cons,List.length_nil,Nat.zero_add,Nat.reduceAdd];go_wp2
    go_region
    go_wp2;refine bodyPost_ret (v:=.tuple #[.agg #[.int .i64 J,.int .i64 L,.int .i64 M],.int .i64 N,.bool true]) (by simp[results,Tryz.results215,go_sem,m,r,u]) rfl ⟨by unfold headR;rw[aa.out],?_⟩;exact(((T.setCell (by simp) _).setCell (by simp) _).setCell (by simp) _).drew
   ·have f:Hid (headO k.data.toList s.data.toList=none):=by
     show _=_;rw[HF.out,if_pos R]
     match j,i with
     | 0,i=>rw [Option.some.inj i,F]
     | 1,i=>rw [Option.some.inj i,F];split<;>simp_all
     | 2,i=>rw [Option.some.inj i,F];split<;>simp_all
     | 3,i=>rw [Option.some.inj i,F];split<;>simp_all
    clear i F;go_wp2;exact bodyPost_ret (v:=.tuple #[.agg #[.int .i64 0,.int .i64 0,.int .i64 0],.int .i64 0,.bool false]) (by simp[results,Tryz.results215,go_sem,m,r,u]) rfl ⟨by unfold headR;rw[f.out],T⟩
  ·have ag:=neBB R;have f:Hid (headO k.data.toList s.data.toList=none):=by
    show _=_;rw[HF.out,if_neg R]
   obtain⟨m,r,u,fz⟩:=Q.out G n l.out;have s0:=za1 m;have s1:=za1 r;have s2:=za1 u;go_wp2;exact bodyPost_ret (v:=.tuple #[.agg #[.int .i64 0,.int .i64 0,.int .i64 0],.int .i64 0,.bool false]) (by simp[results,Tryz.results215,go_sem,m,r,u]) rfl ⟨by unfold headR;rw[f.out],n⟩
 ·have f:Hid (headO k.data.toList s.data.toList=none):=zb3n (fun e=>Y (by rw[<-e,<-y,List.length_map]));have am:¬(ts.length:Int)=5:=by omega
  obtain⟨b,rfl,_⟩:=ac;obtain⟨m,r,u,fz⟩:=Q.out G n l.out;have s0:=za1 m;have s1:=za1 r;have s2:=za1 u;clear y P Y;go_wp2;exact bodyPost_ret (v:=.tuple #[.agg #[.int .i64 0,.int .i64 0,.int .i64 0],.int .i64 0,.bool false]) (by simp[results,Tryz.results215,go_sem,m,r,u]) rfl ⟨by unfold headR;rw[f.out],n⟩
end Go.Proofs.YtgckdomafbnmkaaGreatDoor
