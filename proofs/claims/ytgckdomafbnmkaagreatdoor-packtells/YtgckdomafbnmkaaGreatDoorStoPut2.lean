/- By an AI agent. -/
import Derived.Test.YtgckdomafbnmkaaGreatDoorPackGn
import Derived.RangeFuncNested
import Derived.RangeFuncBound
import Derived.RangeFuncCalls
import Derived.RangeFuncLeaves
import Derived.Sort.MapsRangeIn
import Derived.Shelf.RegionOpen
import Derived.OwnWalkIn
import Derived.TacticsInMore
import Derived.RegionIn
import Derived.LoopNIn
import Derived.LoopIn
import Derived.Shelf.AbstractIn
import Derived.Deep.RegionWith
import Derived.RangeFuncFrom
import Derived.RangeFuncWrites
import Derived.RangeFuncBox
set_option maxRecDepth 100000
set_option maxHeartbeats 16000000
namespace Go.Proofs.YtgckdomafbnmkaaGreatDoor
open Go.RowKit Go.Extern.Stop Go.Stop Go.Extern Go.Sort Go.Shelf Go.Lib
def takeQ (x:Fl) (qs:List Int):List Int:=if x.2.1.data.toList≠ [45] then x.2.2.2.2.2 :: qs else qs
theorem za0h {obs:List Ob} {x:Fl} (h:(fileR obs x).1=0):∃g n,pathO x.1.data.toList=some (g,n)/\(x.2.1.data.toList= [45]↔g=true)/\fileE x=0/\(keysF g (fileR obs x).2.data.toList).2=0/\1<=(keysF g (fileR obs x).2.data.toList).1.length/\(keysF g (fileR obs x).2.data.toList).1.length<=40/\∀k∈(keysF g (fileR obs x).2.data.toList).1,-1073741824<=k/\k<=1073741824:=by
 have b:=za6a h;obtain⟨g,n,d,m,f,i⟩:=zb7e h;generalize (fileR obs x).2.data.toList=t at b i ⊢;rw[zz4 d]at b;split at b
 ·rename_i c;unfold chkF at b;split at b
  ·rename_i l;obtain⟨j,_⟩:=Prod.mk.inj b;rw[j]at l;have o:x.2.2.1=(keysF g t).1.length:=by rw[<-j]
   unfold bndB at f;simp only[Bool.and_eq_true,decide_eq_true_eq,inNum]at f;refine⟨g,n,d,za6b m,l,c,by omega,by omega,fun k hk'=>?_⟩;have:=i k hk';omega
  ·cases b
 ·rename_i c;exact absurd (Prod.mk.inj b).2 c
theorem zb9b (W:World) (a:Nat->Addr) (V:EnvF W a) (obs:List Ob) (base b d:Nat) (c:Ct) (l:List Int) (x:Fl) (h:CtAt W base b d c l) (N:base<=W.heap.size) (hx:(fileR obs x).1=0) (hp:x.1.size<=100000) (X:(fileR obs x).2.size<=maxLen) (ab:l.length<=100) (ac:c.1.length<=10000) (ad:c.2.length<=10000) :
  Calls Tryz.prog 101 #[ctV b d,flV x,.string (fileR obs x).2] W fun e w'=>e= .returned .nilIface/\CtAt w' base b d (takeC x (fileR obs x).2 c) (takeQ x l)/\But (OfC W base b d) W w':=by
 obtain⟨g,n,E,f,aa,q,J,F,G⟩:=za0h hx;have O:=za6g aa;generalize (fileR obs x).2=t at X q J F G ⊢;have v:BL W ((W.alloc (.cells #[.map (some b),.map (some d)] 97)).alloc (.cells #[.string x.1,.string x.2.1,.int .i64 x.2.2.1,.int .i64 x.2.2.2.1,.int .i64 x.2.2.2.2.1,.int .i64 x.2.2.2.2.2] 43)):=(alB _ _).alloc (by simp) _;have y:FlAt ((W.alloc (.cells #[.map (some b),.map (some d)] 97)).alloc (.cells #[.string x.1,.string x.2.1,.int .i64 x.2.2.1,.int .i64 x.2.2.2.1,.int .i64 x.2.2.2.2.1,.int .i64 x.2.2.2.2.2] 43)) (W.heap.size+1) x:=by
  have:=FlAt.new (W.alloc (.cells #[.map (some b),.map (some d)] 97)) x;simpa using this
 have m:((W.alloc (.cells #[.map (some b),.map (some d)] 97)).alloc (.cells #[.string x.1,.string x.2.1,.int .i64 x.2.2.1,.int .i64 x.2.2.2.1,.int .i64 x.2.2.2.2.1,.int .i64 x.2.2.2.2.2] 43)).heap[W.heap.size]? =some (.cells #[.map (some b),.map (some d)] 97 (0,0)):=(Below.heap_alloc _ _ _ (by simp)).trans (heap_alloc_new _ _);have A:=zh9 x _ a (V.below v).data.env.n hp;have Y:goneP x.1=g:=by unfold goneP;rw[E]
 rw[Y]at A;unfold flV at A;have Z:Hid (CtAt ((W.alloc (.cells #[.map (some b),.map (some d)] 97)).alloc (.cells #[.string x.1,.string x.2.1,.int .i64 x.2.2.1,.int .i64 x.2.2.2.1,.int .i64 x.2.2.2.2.1,.int .i64 x.2.2.2.2.2] 43)) base b d c l):=h.below v;have HE:Hid (EnvF W a):=V;unfold flV;clear h V E Y
 go_enter Tryz.func101,Tryz.ntmps101
 go_upto_region 1 with fail
 have R:Hid (BL W ((W.alloc (.cells #[.map (some b),.map (some d)] 97)).alloc (.cells #[.string x.1,.string x.2.1,.int .i64 x.2.2.1,.int .i64 x.2.2.2.1,.int .i64 x.2.2.2.2.1,.int .i64 x.2.2.2.2.2] 43))):=v;clear v;generalize (W.alloc (.cells #[.map (some b),.map (some d)] 97)).alloc (.cells #[.string x.1,.string x.2.1,.int .i64 x.2.2.1,.int .i64 x.2.2.2.1,.int .i64 x.2.2.2.2.1,.int .i64 x.2.2.2.2.2] 43)=W1 at *;generalize W.heap.size+1=xb at y ⊢;generalize T:W.heap.size=U at m ⊢;obtain⟨d0,d1,d2,d3,d4,d5,-⟩:=y.cells
 go_wp2_with fail
 refine A.mono ?_;rintro e u ⟨rfl,s⟩;clear A d0 d1 d2 d3 d4 d5;have B:BL W u:=R.out.trans (s.mono R.out.size);have P:=y.below s;have C:=Z.out.below s;have D:=HE.out.below B;have o:=(s.block U (Array.getElem?_eq_some_iff.1 m).1).trans m;have k0:u.cell? ⟨U,0,none⟩=some (.map (some b)):=by
  rw[cell_of_row _ _ _ _ _ _ o];rfl
 have k1:u.cell? ⟨U,1,none⟩=some (.map (some d)):=by
  rw[cell_of_row _ _ _ _ _ _ o];rfl
 obtain⟨d0,d1,d2,d3,d4,d5,-⟩:=P.cells;have Q:Hid (BL W u):=B;have S:base<=u.heap.size:=Nat.le_trans N B.size;clear s B y P m o R Z HE T
 cases g with
 | true =>
  have i:x.2.1.data.toList= [45]:=f.2 rfl;have j:=zb8s u a D.data.weak base b d c l x.2.2.2.2.2 t C O X q (fun z hz=>by have:=G z hz;omega) (by have:(goneO t.data.toList).1.length<=40:=F;omega);have p:Hid (takeC x t c=(c.1,c.2++(goneO t.data.toList).1.map fun k=>(k,x.2.2.2.2.2))):=zz6 i;have H:Hid (takeQ x l=l):=by show _=_;unfold takeQ;rw[if_neg (by simpa using i)]
  generalize (goneO t.data.toList).1.map (fun k=>(k,x.2.2.2.2.2))=L at j p;clear q J F G i f C D
  go_wp2_with fail
  refine j.mono ?_;rintro e w3 ⟨rfl,K,M⟩;clear j;go_wp2;go_ret;refine⟨rfl,?_,?_⟩
  ·rw[p.out,H.out];exact K
  ·exact zh8 (But.of_below Q.out) M
 | false =>
  have i:x.2.1.data.toList≠ [45]:=fun e=>by cases f.1 e
  have I:(dataO t.data.toList).1.length=(keysF false t.data.toList).1.length:=by
   show _=(keysR (dataO t.data.toList).1).length;rw[zj3]
  have j:=zb8p u a D.data base b d c l x.2.2.2.2.2 t C S O X q (fun e=>by rw[e]at I;simp at I;omega) (by omega) (by omega);have p:Hid (takeC x t c=(c.1++(dataO t.data.toList).1.map (fun r=>(r,x.2.2.2.2.2)),c.2)):=zr2 i;have H:Hid (takeQ x l=x.2.2.2.2.2 :: l):=by show _=_;unfold takeQ;rw[if_pos i]
  generalize (dataO t.data.toList).1.map (fun r=>(r,x.2.2.2.2.2))=L at j p;clear q J F G i f C D I
  go_wp2_with fail
  refine j.mono ?_;rintro e w3 ⟨rfl,K,M⟩;clear j;go_wp2;go_ret;refine⟨rfl,?_,?_⟩
  ·rw[p.out,H.out];exact K
  ·exact zh8 (But.of_below Q.out) M
def ReadCP (a:Nat->Addr) (W:World) (obs:List Ob) (base b1 b2:Nat) (c:Ct) (qs:List Int) (x:Fl) (e:Ending) (w':World):Prop :=
 ((fileR obs x).1≠0/\e= .returned (errV a (fileR obs x).1)/\BL W w')\/((fileR obs x).1=0/\e= .returned .nilIface/\CtAt w' base b1 b2 (takeC x (fileR obs x).2 c) (takeQ x qs)/\But (OfC W base b1 b2) W w')
section
variable {a : Nat → Addr} {B : Nat} {EM : World → Prop} {SAt : World → Value → (Nat → Prop) → St → Prop}
theorem zb9c (K:StoreK a B EM SAt) (HV:∀W,EM W->EnvF W a/\Hand W) (W:World) (hE:EM W) (v:Value) (FP:Nat->Prop) (d:St) (af:SAt W v FP d) (ks:Keeps d) (base g i:Nat) (c:Ct) (Z:List Int) (x:Fl) (h:CtAt W base g i c Z) (ag:base<=W.heap.size) (ap:x.1.size<=1000) (ax:x.2.1.size<=1000) (aq:Z.length<=100) (ar:c.1.length<=10000) (au:c.2.length<=10000) :
  Calls Tryz.prog 48 #[ctV g i,v,flV x] W (ReadCP a W d.obs base g i c Z x):=by
 have O:BL W ((W.alloc (.cells #[.map (some g),.map (some i)] 97)).alloc (.cells #[.string x.1,.string x.2.1,.int .i64 x.2.2.1,.int .i64 x.2.2.2.1,.int .i64 x.2.2.2.2.1,.int .i64 x.2.2.2.2.2] 43)):=(alB _ _).alloc (by simp) _;have P:FlAt ((W.alloc (.cells #[.map (some g),.map (some i)] 97)).alloc (.cells #[.string x.1,.string x.2.1,.int .i64 x.2.2.1,.int .i64 x.2.2.2.1,.int .i64 x.2.2.2.2.1,.int .i64 x.2.2.2.2.2] 43)) (W.heap.size+1) x:=by
  have:=FlAt.new (W.alloc (.cells #[.map (some g),.map (some i)] 97)) x;simpa using this
 have s:((W.alloc (.cells #[.map (some g),.map (some i)] 97)).alloc (.cells #[.string x.1,.string x.2.1,.int .i64 x.2.2.1,.int .i64 x.2.2.2.1,.int .i64 x.2.2.2.2.1,.int .i64 x.2.2.2.2.2] 43)).heap[W.heap.size]? =some (.cells #[.map (some g),.map (some i)] 97 (0,0)):=(Below.heap_alloc _ _ _ (by simp)).trans (heap_alloc_new _ _);obtain⟨pt,rfl⟩:=K.ptr _ _ _ _ af;have ah:=K.size W hE;have aa:Hid (∀X,BL W X->EM X):=fun X hX=>K.below W X hE (hX.mono ah);have ai:Hid (∀X,BL W X->SAt X (.pointer (some pt)) FP d):=fun X hX=>K.keep _ X _ _ (fun _=>False) _ af (But.of_below hX) (fun _ _ h=>h);have k:=K.get _ _ _ _ x.1 (aa.out _ O) (ai.out _ O) ks ap;have o:=za6q ks x.1;have HC:Hid (∀X,BL W X->CtAt X base g i c Z):=fun X hX=>h.below hX;have l:Hid (∀X,BL W X->EnvF X a/\Hand X):=fun X hX=>HV X (aa.out X hX);have C:Hid (∀X,BL W X->(fileR d.obs x).1=0->(fileR d.obs x).2.size<=20000->Calls Tryz.prog 101 #[ctV g i,flV x,.string (fileR d.obs x).2] X fun e w'=>e= .returned .nilIface/\CtAt w' base g i (takeC x (fileR d.obs x).2 c) (takeQ x Z)/\But (OfC X base g i) X w'):=fun X hX h0 hz =>
  zb9b X a (l.out X hX).1 d.obs base g i c Z x (HC.out X hX) (Nat.le_trans ag hX.size) h0 (by omega) (by unfold maxLen;omega) aq ar au
 unfold flV ctV at *;clear h hE K HV af ks ah aa ai HC
 go_enter Tryz.func48,Tryz.ntmps48
 go_upto_region 1 with fail
 have HA:Hid (BL W ((W.alloc (.cells #[.map (some g),.map (some i)] 97)).alloc (.cells #[.string x.1,.string x.2.1,.int .i64 x.2.2.1,.int .i64 x.2.2.2.1,.int .i64 x.2.2.2.2.1,.int .i64 x.2.2.2.2.2] 43))):=O;clear O;generalize (W.alloc (.cells #[.map (some g),.map (some i)] 97)).alloc (.cells #[.string x.1,.string x.2.1,.int .i64 x.2.2.1,.int .i64 x.2.2.2.1,.int .i64 x.2.2.2.2.1,.int .i64 x.2.2.2.2.2] 43)=W1 at *;generalize W.heap.size+1=xb at P ⊢;generalize av:W.heap.size=cb at s ⊢;obtain⟨H,I,J,L,M,N,-⟩:=P.cells;rcases za6p d.obs x.1 with G | G
 case inr =>
  have m:Hid ((fileR d.obs x).1=6):=by
   show _=_;rw[za6s (x:=x) (obs:=d.obs) (by rw[G];simp),G]
  rw[G]at k;simp only[errV]at k;generalize (getT d.obs x.1).1=F at k;clear G o C l
  go_wp2_with fail
  refine k.mono ?_;rintro e w2 ⟨rfl,r⟩;clear k H I J L M N;go_wp2;go_ret;exact Or.inl ⟨by rw[m.out];decide,by rw[m.out];rfl,HA.out.trans (r.mono HA.out.size)⟩
 have f:=za6t (x:=x) G;rw[G]at k;have e0:errV a 0= .nilIface:=rfl;rw[e0]at k;obtain⟨F,al⟩:∃t,(getT d.obs x.1).1=t:=⟨_,rfl⟩;rw[al]at k f o;have D:Hid (∀X,BL W X->Calls Tryz.prog 100 #[.string x.1,.string x.2.1,.string F,.int .i64 x.2.2.2.2.2] X fun e w'=>e= .returned (.tuple #[flV (ofF x.1 x.2.1 F.data.toList x.2.2.2.2.2).1,errV a (ofF x.1 x.2.1 F.data.toList x.2.2.2.2.2).2])/\BL X w'):=fun X hX =>
  zb6y x.1 x.2.1 F x.2.2.2.2.2 X a (l.out X hX).1 (fun _ _ _ _=>(l.out X hX).2) (by omega) (by omega) (by unfold maxLen;omega)
 obtain⟨Y,hY⟩:∃Y,ofF x.1 x.2.1 F.data.toList x.2.2.2.2.2=Y:=⟨_,rfl⟩;rw[hY]at D f;obtain⟨y,ec⟩:=Y;dsimp only at D f;unfold flV at D;clear G al hY
 go_wp2_with fail
 refine k.mono ?_;rintro e w2 ⟨rfl,r⟩;clear k H I J L M N;have Q:BL W w2:=HA.out.trans (r.mono HA.out.size);have ab:=P.below r;have u:=(r.block cb (Array.getElem?_eq_some_iff.1 s).1).trans s;have p:=D.out w2 Q;obtain⟨H,I,J,L,M,N,-⟩:=ab.cells;clear r P s HA D e0;by_cases ac:ec=0
 case neg =>
  have m:Hid ((fileR d.obs x).1=ec):=by
   show _=_;rw[if_pos ac]at f;rw[f]
  obtain⟨j,rfl⟩:∃j,ec=j+1:=⟨ec-1,by omega⟩;simp only[errV]at p;clear f o C l ac
  go_wp2_with fail
  refine p.mono ?_;rintro e n ⟨rfl,V⟩;clear p H I J L M N;have z:BL n (n.alloc (.cells #[.string y.1,.string y.2.1,.int .i64 y.2.2.1,.int .i64 y.2.2.2.1,.int .i64 y.2.2.2.2.1,.int .i64 y.2.2.2.2.2] 43)):=alB _ _;have am:BL W n:=trB Q V;go_wp2;go_ret;exact Or.inl ⟨by rw[m.out];omega,by rw[m.out];rfl,(trB am z)⟩
 subst ac;have e0:errV a 0= .nilIface:=rfl;rw[e0]at p
 go_wp2_with fail
 refine p.mono ?_;rintro e n ⟨rfl,V⟩;clear p H I J L M N e0;have z:BL n (n.alloc (.cells #[.string y.1,.string y.2.1,.int .i64 y.2.2.1,.int .i64 y.2.2.2.1,.int .i64 y.2.2.2.2.1,.int .i64 y.2.2.2.2.2] 43)):=alB _ _;have R:BL w2 (n.alloc (.cells #[.string y.1,.string y.2.1,.int .i64 y.2.2.1,.int .i64 y.2.2.2.1,.int .i64 y.2.2.2.2.1,.int .i64 y.2.2.2.2.2] 43)):=trB V z;have E:BL W (n.alloc (.cells #[.string y.1,.string y.2.1,.int .i64 y.2.2.1,.int .i64 y.2.2.2.1,.int .i64 y.2.2.2.2.1,.int .i64 y.2.2.2.2.2] 43)):=trB Q R;have ad:=FlAt.new n y;have ae:=ab.below R;have A:=(R.block cb (Array.getElem?_eq_some_iff.1 u).1).trans u;clear V z R Q ab u
 go_upto_region 5 with fail
 generalize n.alloc (.cells #[.string y.1,.string y.2.1,.int .i64 y.2.2.1,.int .i64 y.2.2.2.1,.int .i64 y.2.2.2.2.1,.int .i64 y.2.2.2.2.2] 43)=w4 at *;generalize n.heap.size=yb at *;have aj:Hid (BL W w4):=E;obtain⟨H,I,J,L,M,N,-⟩:=ae.cells;obtain⟨f0,f1,f2,f3,f4,f5,-⟩:=ad.cells;have aw:=(l.out w4 E).1.data.shape;by_cases q:y=x
 case neg =>
  have m:Hid ((fileR d.obs x).1=3):=by
   show _=_;rw[if_neg (by simp),if_pos q]at f;rw[f]
  have S:=fun W=>neqF2 y x q W;have T:∀(bo:BinOp) (a b:Operand) (w:World),Sem.run Tryz.prog (eqGuard bo 43 a b (flV y) (flV x)) w= .ok () w:=fun bo a b w=>guardF bo a b y x w;unfold flV at S T;clear f q o ae ad C l E;go_wp2;go_ret;exact Or.inl ⟨by rw[m.out];decide,by rw[m.out];rfl,aj.out⟩
 have e1:fileR d.obs x=(0,F):=by rw[f,if_neg (by simp),if_neg (by simpa using q)]
 obtain rfl:x=y:=q.symm;have S:=fun W=>neqF x W;have T:∀(bo:BinOp) (a b:Operand) (w:World),Sem.run Tryz.prog (eqGuard bo 43 a b (flV x) (flV x)) w= .ok () w:=fun bo a b w=>guardF bo a b x x w;have U:=C.out w4 E (by rw[e1]) (by rw[e1];exact o);have k0:w4.cell? ⟨cb,0,none⟩=some (.map (some g)):=by
  rw[cell_of_row _ _ _ _ _ _ A];rfl
 have k1:w4.cell? ⟨cb,1,none⟩=some (.map (some i)):=by
  rw[cell_of_row _ _ _ _ _ _ A];rfl
 have ak:Hid (fileR d.obs x=(0,F)):=e1;rw[e1]at U;dsimp only at U;unfold flV at S T;clear q f C l e1 ae ad E o A
 go_wp2_with fail
 refine U.mono ?_;rintro e w5 ⟨rfl,an,ao⟩;clear U H I J L M N f0 f1 f2 f3 f4 f5 S T;go_wp2;go_ret;refine Or.inr ⟨by rw[ak.out],rfl,by rw[ak.out];exact an,?_⟩;exact zh8 (But.of_below aj.out) ao
end
def TellsB (fn:Nat) (cb:Array Value) (xs:List Rw) (p:Rw->Bool) (P:Nat->Prop) (w:World):Prop :=
 ∀(x:Rw) (W:World),x∈xs->But P w W->Calls Tryz.prog fn (#[.agg #[.string x.1,.int .i64 x.2.1,.int .i64 x.2.2]]++cb) W fun e w'=>e= .returned (.bool (p x))/\BL W w'
def idxR (p:Rw->Bool) (xs:List Rw):Int:=match xs.findIdx? p with
 | some i=>i
 | none=> -1
theorem zb9d {p:Rw->Bool} {xs:List Rw} {n:Nat} (b:n<xs.length) (h:∀j (h:j<xs.length),j<n->p xs[j]=false) (e:p xs[n]=true):idxR p xs=n:=by
 unfold idxR;have:xs.findIdx? p=some n:=by
  rw[List.findIdx?_eq_some_iff_getElem];exact⟨b,e,fun j hj=>by simpa using h j (by omega) hj⟩
 rw[this]
theorem zb9e {p:Rw->Bool} {xs:List Rw} (h:∀j (h:j<xs.length),p xs[j]=false):idxR p xs= -1:=by
 unfold idxR;have:xs.findIdx? p=none:=by
  rw[List.findIdx?_eq_none_iff];intro x c;obtain⟨j,b,rfl⟩:=List.getElem_of_mem c;exact h j b
 rw[this]
theorem zb9f (p:Rw->Bool) (xs:List Rw):(idxR p xs= -1/\∀j (h:j<xs.length),p xs[j]=false)\/∃n:Nat,∃hn:n<xs.length,idxR p xs=n/\p xs[n]=true/\∀j (h:j<xs.length),j<n->p xs[j]=false:=by
 unfold idxR
 cases b:xs.findIdx? p with
 | none =>
  rw[List.findIdx?_eq_none_iff]at b;exact Or.inl ⟨rfl,fun j hj=>b _ (List.getElem_mem _)⟩
 | some n =>
  rw[List.findIdx?_eq_some_iff_getElem]at b;obtain⟨hn,e,h⟩:=b;exact Or.inr ⟨n,hn,rfl,e,fun j hj hlt=>by simpa using h j hlt⟩
theorem za7h (v:Value) (xs:List Rw) (i:Nat) (E:Array Value) (p:Rw->Bool) (w:World) (eg:∀args w,(callFunc i args).run Tryz.prog w= .ok (.enter i args) w) (F:RowsAt w v xs) (X:xs.length<=20000) (O:∀(x:Rw) (W:World),x∈xs->BL w W->Calls Tryz.prog i (#[.agg #[.string x.1,.int .i64 x.2.1,.int .i64 x.2.2]]++E) W fun e w'=>e= .returned (.bool (p x))/\BL W w') :
  Calls Tryz.prog 151 #[v,.func (.func i) #[] E] w fun e w'=>e= .returned (.int .i64 (idxR p xs))/\BL w w':=by
 obtain⟨q,K,rfl⟩:=F.form;have A:Hid (RowsAt w (.slice q xs.length K) xs):=F;obtain⟨L,D⟩:∃L,xs.length=L:=⟨_,rfl⟩;have C:Hid (xs.length=L):=D;rw[D]at X A ⊢;generalize N:idxR p xs=R;have G:Hid (idxR p xs=R):=N;have P:Hid (∀(x:Rw) (W:World),x∈xs->BL w W->Calls Tryz.prog i (#[.agg #[.string x.1,.int .i64 x.2.1,.int .i64 x.2.2]]++E) W fun e w'=>e= .returned (.bool (p x))/\BL W w'):=O;clear D F N O
 go_enter Tryz.func151,Tryz.ntmps151
 go_wp2
 go_loopw [8] (fun k wr=> ∃n:Nat,n<=L/\k= .int .i64 n/\(∀j (h:j<xs.length),j<n->p xs[j]=false)/\BL w wr) (fun k _=>L-(intOf k).toNat)
 case atStart=>exact ⟨0,by omega,rfl,fun j h h'=>absurd h' (Nat.not_lt_zero _),Below.refl _ _⟩
 case round =>
  obtain⟨n,Z,rfl,B,s⟩:=hrel;have m:Hid (∀j (h:j<xs.length),j<n->p xs[j]=false):=B;clear B;by_cases H:n<L
  ·have d:n<xs.length:=by rw[C.out];exact H
   rcases A.out.below s with⟨_,_,e,U⟩|⟨b,o,V,e,g⟩
   ·exfalso;have:=C.out;rw[U]at this;simp at this;omega
   injection e with e1 e2 e3;subst e1;clear e2 e3;obtain⟨u,y,z⟩:=g n d;have c:=P.out xs[n] wr (List.getElem_mem _) s;have Y:(n:Int)<(L:Int):=by omega
   have Q:(0:Int)<=(n:Int):=by omega
   clear g;cases l:p xs[n]
   ·have I:Hid (∀j (h:j<xs.length),j<n+1->p xs[j]=false):=fun j hj hjn=>by
     by_cases e:j=n
     ·subst e;exact l
     ·exact m.out j hj (by omega)
    rw[l]at c;clear l;generalize xs[n]=f at u y z c;clear d;obtain⟨S,fk,T⟩:=f;dsimp only at u y z c
    go_wp2_with (go_at_fn i;refine c.mono ?_;rintro e M ⟨rfl,t⟩)
    have J:BL w M:=trB s t;go_roundw
    case rel=>exact ⟨n+1,by omega,by go_num,I.out,J⟩
    case measure=>simp [intOf];omega
   ·have r:R=n:=by rw[<-G.out];exact zb9d d m.out l
    subst r;rw[l]at c;clear l;generalize xs[n]=f at u y z c;clear d;obtain⟨S,fk,T⟩:=f;dsimp only at u y z c
    go_wp2_with (go_at_fn i;refine c.mono ?_;rintro e M ⟨rfl,t⟩)
    go_ret;exact⟨rfl,(trB s t)⟩
  ·obtain rfl:n=L:=by omega
   have r:R= -1:=by rw[<-G.out];exact zb9e (fun j hj=>m.out j hj (by rw[<-C.out];exact hj))
   subst r;go_wp2;go_ret;exact⟨rfl,s⟩
def At3 (cur:Array Value) (t:Nat) (r:Rw):Prop:=cur[t*3]? =some (.string r.1)/\cur[t*3+1]? =some (.int .i64 r.2.1)/\cur[t*3+2]? =some (.int .i64 r.2.2)
def put3 (cur:Array Value) (t:Nat) (r:Rw):Array Value:=((cur.setIfInBounds (t*3) (.string r.1)).setIfInBounds (t*3+1) (.int .i64 r.2.1)).setIfInBounds (t*3+2) (.int .i64 r.2.2)
theorem zb9g (b:Array Value) (t:Nat) (r:Rw):(put3 b t r).size=b.size:=by simp[put3]
theorem zb9h {b:Array Value} {t:Nat} {r:Rw} (h:t*3+2<b.size):At3 (put3 b t r) t r:=by
 unfold At3 put3;refine⟨?_,?_,?_⟩
 ·rw[Array.getElem?_setIfInBounds_ne (by omega),Array.getElem?_setIfInBounds_ne (by omega),Array.getElem?_setIfInBounds_self_of_lt (by omega)]
 ·rw[Array.getElem?_setIfInBounds_ne (by omega),Array.getElem?_setIfInBounds_self_of_lt (by simp;omega)]
 ·rw[Array.getElem?_setIfInBounds_self_of_lt (by simp;omega)]
theorem za7i {b:Array Value} {t s:Nat} {r x:Rw} (h:s≠t) (g:At3 b s x):At3 (put3 b t r) s x:=by
 unfold At3 put3 at *;obtain⟨c,d,f⟩:=g;refine⟨?_,?_,?_⟩
 ·rw[Array.getElem?_setIfInBounds_ne (by omega),Array.getElem?_setIfInBounds_ne (by omega),Array.getElem?_setIfInBounds_ne (by omega)];exact c
 ·rw[Array.getElem?_setIfInBounds_ne (by omega),Array.getElem?_setIfInBounds_ne (by omega),Array.getElem?_setIfInBounds_ne (by omega)];exact d
 ·rw[Array.getElem?_setIfInBounds_ne (by omega),Array.getElem?_setIfInBounds_ne (by omega),Array.getElem?_setIfInBounds_ne (by omega)];exact f
structure DelI (xs:List Rw) (p:Rw->Bool) (n:Nat) (cur:Array Value):Prop where
 kept:∀t (h:t<((xs.take n).filter fun x=> !p x).length),At3 cur t ((xs.take n).filter fun x=> !p x)[t]
 rest:∀t (h:t<xs.length),n<=t->At3 cur t xs[t]
theorem zb9i {xs:List Rw} {p:Rw->Bool} {n m:Nat} (i:m<n) (j:m<xs.length) (h:p xs[m]=true):((xs.take n).filter fun x=> !p x).length<n:=by
 rcases Nat.lt_or_ge ((xs.take n).filter fun x=> !p x).length n with d | d
 ·exact d
 ·exfalso;have f:(xs.take n).length<=n:=List.length_take_le _ _;have g:=List.length_filter_le (fun x=> !p x) (xs.take n);have b:((xs.take n).filter fun x=> !p x).length=(xs.take n).length:=by omega
  rw[List.length_filter_eq_length_iff]at b;have c:=b xs[m] (by
   rw[List.mem_take_iff_getElem];exact⟨m,by omega,rfl⟩)
  rw[h]at c;cases c
theorem DelI.skip {xs:List Rw} {p:Rw->Bool} {n:Nat} {b:Array Value} (h:DelI xs p n b) (c:n<xs.length) (d:p xs[n]=true):((xs.take (n+1)).filter fun x=> !p x)=((xs.take n).filter fun x=> !p x)/\DelI xs p (n+1) b:=by
 have e:((xs.take (n+1)).filter fun x=> !p x)=((xs.take n).filter fun x=> !p x):=by
  rw[zp2 (fun x=> !p x) xs n c];simp[d]
 exact⟨e,⟨by rw[e];exact h.kept,fun t ht hle=>h.rest t ht (by omega)⟩⟩
theorem DelI.step {xs:List Rw} {p:Rw->Bool} {n:Nat} {b:Array Value} (h:DelI xs p n b) (g:n<xs.length) (i:p xs[n]=false) (k:xs.length*3<=b.size) (j:((xs.take n).filter fun x=> !p x).length<n):((xs.take (n+1)).filter fun x=> !p x).length=((xs.take n).filter fun x=> !p x).length+1/\DelI xs p (n+1) (put3 b ((xs.take n).filter fun x=> !p x).length xs[n]):=by
 have e:((xs.take (n+1)).filter fun x=> !p x)=((xs.take n).filter fun x=> !p x)++ [xs[n]]:=by
  rw[zp2 (fun x=> !p x) xs n g];simp[i]
 refine⟨by rw[e,List.length_append];rfl,⟨?_,fun t c hle=>?_⟩⟩
 ·rw[e];intro t c;by_cases d:t<((xs.take n).filter fun x=> !p x).length
  ·rw[List.getElem_append_left d];exact za7i (by omega) (h.kept t d)
  ·rw[List.length_append,List.length_singleton]at c;have f:t=((xs.take n).filter fun x=> !p x).length:=by omega
   subst f;rw[List.getElem_append_right (Nat.le_refl _)];simp only[Nat.sub_self,List.getElem_cons_zero];exact zb9h (by omega)
 ·exact za7i (by omega) (h.rest t c (by omega))
theorem zf3 {w:World} {g o:Nat} {b:Array Value} {t:TypeId} {f:Nat×Nat} {v:Value} (h:w.heap[g]? =some (.cells b t f)) (c:b[o]? =some v):w.cell? ⟨g,o,none⟩=some v:=by
 simp[World.cell?,h,c]
theorem za0i {w:World} {g o:Nat} {b:Array Value} {t:TypeId} (h:w.heap[g]? =some (.cells b t (0,0))):w.frozen? ⟨g,o,none⟩=false:=by
 simp[World.frozen?,h]
theorem zb9j {w:World} {g n:Nat} {b:Array Value} {t:TypeId} (r:Rw) (h:w.heap[g]? =some (.cells b t (0,0))):(((w.setCell ⟨g,n*3,none⟩ (.string r.1)).setCell ⟨g,n*3+1,none⟩ (.int .i64 r.2.1)).setCell ⟨g,n*3+2,none⟩ (.int .i64 r.2.2)).heap[g]? =some (.cells (put3 b n r) t (0,0)):=by
 have i:=setCell_eq_setRow w g (n*3) b t (0,0) (.string r.1) h;have c:=setRow_heap w g b (b.setIfInBounds (n*3) (.string r.1)) t (0,0) h;rw[<-i]at c;have j:=setCell_eq_setRow _ g (n*3+1) _ t (0,0) (.int .i64 r.2.1) c;have d:=setRow_heap _ g _ ((b.setIfInBounds (n*3) (.string r.1)).setIfInBounds (n*3+1) (.int .i64 r.2.1)) t (0,0) c;rw[<-j]at d;have k:=setCell_eq_setRow _ g (n*3+2) _ t (0,0) (.int .i64 r.2.2) d;have f:=setRow_heap _ g _ (((b.setIfInBounds (n*3) (.string r.1)).setIfInBounds (n*3+1) (.int .i64 r.2.1)).setIfInBounds (n*3+2) (.int .i64 r.2.2)) t (0,0) d;rw[<-k]at f;exact f
theorem zb9k {w:World} {g i m c:Nat} {b:Array Value} (h:w.heap[g]? =some (.cells b 112 (0,0))) (y:0<m) (z:(i+m)*3<=b.size) :
  ∃cur',(∀ty,(Builtin.clear_ #[44] ty #[.slice (some ⟨g,i*3,none⟩) m c]).run Tryz.prog w= .ok (.tuple #[]) (w.setRow g cur'))/\∀t r,t<i->At3 b t r->At3 cur' t r:=by
 obtain⟨k,rfl⟩:∃k,m=k+1:=⟨m-1,by omega⟩;have p:(Builtin.zeroCells (Value.agg #[.string ⟨#[]⟩,.int .i64 0,.int .i64 0]).cells (k+1)).size=(k+1)*3:=by rw[size_zeroCells];rfl
 have q:∀v∈(Builtin.zeroCells (Value.agg #[.string ⟨#[]⟩,.int .i64 0,.int .i64 0]).cells (k+1)).toList,v.oneCell'=true:=by
  intro v n;simp only[Builtin.zeroCells,Array.toList_map,List.mem_map]at n;obtain⟨j,_,rfl⟩:=n;have d:j % (Value.agg #[.string ⟨#[]⟩,.int .i64 0,.int .i64 0]).cells.size=0\/j % (Value.agg #[.string ⟨#[]⟩,.int .i64 0,.int .i64 0]).cells.size=1\/j % (Value.agg #[.string ⟨#[]⟩,.int .i64 0,.int .i64 0]).cells.size=2:=by
   have e:(Value.agg #[.string ⟨#[]⟩,.int .i64 0,.int .i64 0]).cells.size=3:=rfl;rw[e];omega
  rcases d with d | d | d<;>rw [d]<;>rfl
 have f:=run_storeCells_at (P:=Tryz.prog) g (i*3) 112 (Builtin.zeroCells (Value.agg #[.string ⟨#[]⟩,.int .i64 0,.int .i64 0]).cells (k+1)).toList 0 b w h (by rw[Array.length_toList,p];omega) q;simp only[Nat.add_zero]at f;refine⟨(b.toList.take (i*3)++(Builtin.zeroCells (Value.agg #[.string ⟨#[]⟩,.int .i64 0,.int .i64 0]).cells (k+1)).toList++b.toList.drop (i*3+(Builtin.zeroCells (Value.agg #[.string ⟨#[]⟩,.int .i64 0,.int .i64 0]).cells (k+1)).toList.length)).toArray,fun ty=>?_,fun t r ht hr=>?_⟩
 ·generalize u:Builtin.zeroCells (Value.agg #[.string ⟨#[]⟩,.int .i64 0,.int .i64 0]).cells (k+1)=Z at f ⊢;simp[Builtin.clear_,run_underlying Tryz.underlying44,u,f]
 ·generalize (Builtin.zeroCells (Value.agg #[.string ⟨#[]⟩,.int .i64 0,.int .i64 0]).cells (k+1)).toList=Z;have l:∀o,o<i*3->((b.toList.take (i*3)++Z++b.toList.drop (i*3+Z.length)).toArray)[o]? =b[o]? :=fun o ho=>by
   have s:o<(b.toList.take (i*3)).length:=by
    rw[List.length_take,Array.length_toList];omega
   rw[List.getElem?_toArray,List.append_assoc,List.getElem?_append_left s,List.getElem?_take,if_pos ho,Array.getElem?_toList]
  unfold At3 at *;rw[l _ (by omega),l _ (by omega),l _ (by omega)];exact hr
def DelP (g cap:Nat) (ys:List Rw) (w:World) (e:Ending) (w':World):Prop:=e= .returned (.slice (some ⟨g,0,none⟩) ys.length cap)/\RowCells w' g 0 ys/\But (fun k=>k=g) w w'
theorem za0j {w:World} {g:Nat} {b:Array Value} {t:TypeId} {f:Nat×Nat} {c:List Rw} (h:w.heap[g]? =some (.cells b t f)) (l:∀j (h:j<c.length),At3 b j c[j]):RowCells w g 0 c:=fun j hj=>by
 obtain⟨d,i,k⟩:=l j hj;rw[Nat.zero_add];exact⟨zf3 h d,zf3 h i,zf3 h k⟩
theorem zb9l {w:World} (g:Nat) (cs:Array Value):But (fun k=>k=g) w (w.setRow g cs):=⟨rfl,rfl,rfl,by simp,fun k _ hk=>setRow_other w g k cs hk⟩
theorem zb9m (g s:Nat) (xs:List Rw) (J:Nat) (cb:Array Value) (p:Rw->Bool) (b:Array Value) (w:World) (eg:∀args w,(callFunc J args).run Tryz.prog w= .ok (.enter J args) w) (hg:w.heap[g]? =some (.cells b 112 (0,0))) (B:∀t (h:t<xs.length),At3 b t xs[t]) (ak:xs.length*3<=b.size) (am:xs.length<=s) (hl:xs.length<=20000) (hp:TellsB J cb xs p (fun k=>k=g) w) :
  Calls Tryz.prog 111 #[.slice (some ⟨g,0,none⟩) xs.length s,.func (.func J) #[] cb] w (DelP g s (xs.filter fun x=> !p x) w):=by
 have y:=za7h (.slice (some ⟨g,0,none⟩) xs.length s) xs J cb p w eg (Or.inr ⟨g,0,s,rfl,za0j hg B⟩) hl (fun x W B hb=>hp x W B (But.of_below hb));have HP:Hid (TellsB J cb xs p (fun k=>k=g) w):=hp;have HG:Hid (w.heap[g]? =some (.cells b 112 (0,0))):=hg;have aa:=(Array.getElem?_eq_some_iff.1 hg).1;have M:Hid (∀t (h:t<xs.length),At3 b t xs[t]):=B;obtain⟨L,hL⟩:∃L,xs.length=L:=⟨_,rfl⟩;have R:Hid (xs.length=L):=hL;rw[hL]at y ak am hl ⊢;clear hp hg B hL;rcases zb9f p xs with⟨O,ag⟩|⟨m,X,O,Y,ah⟩
 ·have HF:Hid (xs.filter (fun x=> !p x)=xs):=by
   show _=_;rw[List.filter_eq_self];intro x B;obtain⟨j,U,rfl⟩:=List.getElem_of_mem B;rw[ag j U];rfl
  rw[O]at y;clear ag O
  go_enter Tryz.func111,Tryz.ntmps111
  go_wp2_with fail
  refine y.mono ?_;rintro e w1 ⟨rfl,D⟩;clear y;go_wp2;go_ret;unfold DelP;rw[HF.out];refine⟨by rw[R.out];rfl,za0j ((D.block g aa).trans HG.out) M.out,But.of_below D⟩
 ·rw[O]at y;have aw:m<L:=by rw[<-R.out];exact X
  have HM:Hid (∃X:m<xs.length,p xs[m]=true):=⟨X,Y⟩;have ab:Hid (DelI xs p (m+1) b/\((xs.take (m+1)).filter fun x=> !p x).length=m):=by
   have e0:(xs.take m).filter (fun x=> !p x)=xs.take m:=by
    rw[List.filter_eq_self];intro x B;rw[List.mem_take_iff_getElem]at B;obtain⟨j,U,rfl⟩:=B;rw[ah j (by omega) (by omega)];rfl
   have h0:DelI xs p m b:=⟨by
    rw[e0];intro t K;rw[List.getElem_take];exact M.out t (by rw[List.length_take]at K;omega),fun t K _=>M.out t K⟩
   obtain⟨e1,h1⟩:=h0.skip X Y;refine⟨h1,?_⟩;rw[e1,e0,List.length_take];omega
  clear O Y ah X M;have ax:((m:Int) == -1)=false:=by simp
  go_enter Tryz.func111,Tryz.ntmps111
  go_wp2_with fail
  refine y.mono ?_;rintro e w1 ⟨rfl,D⟩;clear y;have an:Hid (w1.heap[g]? =some (.cells b 112 (0,0))):=(D.block g aa).trans HG.out;have ao:Hid (But (fun k=>k=g) w w1):=But.of_below D;clear D HG;go_wp2
  go_loopw [5,6] (fun i j wr=> ∃n:Nat,m<n/\n<=L/\j= .int .i64 n/\i= .int .i64 ((xs.take n).filter fun x=> !p x).length/\∃d,wr.heap[g]? =some (.cells d 112 (0,0))/\d.size=b.size/\DelI xs p n d/\But (fun k=>k=g) w wr) (fun _ j _=>L-(intOf j).toNat)
  case atStart=>exact ⟨m+1,by omega,by omega,by go_num,by rw[ab.out.2],b,an.out,rfl,ab.out.1,ao.out⟩
  case round =>
   obtain⟨n,ar,hn,rfl,rfl,d,r,N,V,I⟩:=hrel;have ac:((xs.take n).filter fun x=> !p x).length<n:=by
    obtain⟨au,al⟩:=HM.out;exact zb9i ar au al
   have Z:Hid (DelI xs p n d):=V;by_cases ap:n<L
   ·have z:n<xs.length:=by rw[R.out];exact ap
    obtain⟨a1,a2,a3⟩:=V.rest n z (Nat.le_refl _);have c1:=zf3 r a1;have c2:=zf3 r a2;have c3:=zf3 r a3;have O:(n:Int)<(L:Int):=by omega
    have av:(0:Int)<=(n:Int):=by omega
    have S:=(Array.getElem?_eq_some_iff.1 r).1;clear V a1 a2 a3;cases F:p xs[n]
    case true =>
     have P:=Z.out.skip z F;have l:=HP.out xs[n] (wr.alloc (.cells #[.string xs[n].1,.int .i64 xs[n].2.1,.int .i64 xs[n].2.2] 112)) (List.getElem_mem _) (I.trans (Q:=fun _=>False) (But.of_below (alB _ _)) (fun _ h=>h.elim));rw[F]at l;have C:Hid (((xs.take (n+1)).filter fun x=> !p x).length=((xs.take n).filter fun x=> !p x).length/\DelI xs p (n+1) d):=⟨by rw[P.1],P.2⟩;clear P F;generalize ((xs.take n).filter fun x=> !p x).length=q at *;generalize xs[n]=f at c1 c2 c3 l;clear z;obtain⟨u,fk,v⟩:=f;dsimp only at c1 c2 c3 l;have T:BL wr (wr.alloc (.cells #[.string u,.int .i64 fk,.int .i64 v] 112)):=alB _ _;have d1:(wr.alloc (.cells #[.string u,.int .i64 fk,.int .i64 v] 112)).cell? ⟨wr.heap.size,0,none⟩=some (.string u):=by simp
     have d2:(wr.alloc (.cells #[.string u,.int .i64 fk,.int .i64 v] 112)).cell? ⟨wr.heap.size,1,none⟩=some (.int .i64 fk):=by simp
     have d3:(wr.alloc (.cells #[.string u,.int .i64 fk,.int .i64 v] 112)).cell? ⟨wr.heap.size,2,none⟩=some (.int .i64 v):=by simp
     go_wp2_with (go_at_fn J;refine l.mono ?_;rintro e w2 ⟨rfl,E⟩)
     have H:BL wr w2:=trB T E;go_roundw
     case rel=>exact ⟨n+1,by omega,by omega,by go_num,by rw[C.out.1],d,(H.block g S).trans r,N,C.out.2,I.trans (Q:=fun _=>False) (But.of_below H) (fun _ h=>h.elim)⟩
     case measure=>simp [intOf];omega
    case false =>
     have P:=Z.out.step z F (by rw[R.out,N];exact ak) ac;have l:=HP.out xs[n] (wr.alloc (.cells #[.string xs[n].1,.int .i64 xs[n].2.1,.int .i64 xs[n].2.2] 112)) (List.getElem_mem _) (I.trans (Q:=fun _=>False) (But.of_below (alB _ _)) (fun _ h=>h.elim));rw[F]at l;have C:Hid (((xs.take (n+1)).filter fun x=> !p x).length=((xs.take n).filter fun x=> !p x).length+1/\DelI xs p (n+1) (put3 d ((xs.take n).filter fun x=> !p x).length xs[n])):=P;clear P F Z;generalize ((xs.take n).filter fun x=> !p x).length=q at *;generalize xs[n]=f at c1 c2 c3 l C;clear z;obtain⟨u,fk,v⟩:=f;dsimp only at c1 c2 c3 l;have T:BL wr (wr.alloc (.cells #[.string u,.int .i64 fk,.int .i64 v] 112)):=alB _ _;have d1:(wr.alloc (.cells #[.string u,.int .i64 fk,.int .i64 v] 112)).cell? ⟨wr.heap.size,0,none⟩=some (.string u):=by simp
     have d2:(wr.alloc (.cells #[.string u,.int .i64 fk,.int .i64 v] 112)).cell? ⟨wr.heap.size,1,none⟩=some (.int .i64 fk):=by simp
     have d3:(wr.alloc (.cells #[.string u,.int .i64 fk,.int .i64 v] 112)).cell? ⟨wr.heap.size,2,none⟩=some (.int .i64 v):=by simp
     have ay:(q:Int)<(L:Int):=by omega
     have az:(0:Int)<=(q:Int):=by omega
     go_wp2_with (go_at_fn J;refine l.mono ?_;rintro e w2 ⟨rfl,E⟩;have H:BL wr w2:=(trB T E);have A:=(H.block g S).trans r;have f1:=za0 E d1;have f2:=za0 E d2;have f3:=za0 E d3;have o1:=zf3 A (Array.getElem?_eq_getElem (by omega:q*3<d.size));have o2:=zf3 A (Array.getElem?_eq_getElem (by omega:q*3+1<d.size));have o3:=zf3 A (Array.getElem?_eq_getElem (by omega:q*3+2<d.size));have z1:=za0i (o:=q*3) A;have z2:=za0i (o:=q*3+1) A;have z3:=za0i (o:=q*3+2) A)
     have hw:=zb9j (n:=q) (u,fk,v) A;dsimp only at hw;go_roundw
     case rel=>exact ⟨n+1,by omega,by omega,by go_num,by rw[C.out.1];go_num,_,hw,by rw[zb9g];exact N,C.out.2,(((I.trans (Q:=fun _=>False) (But.of_below H) (fun _ h=>h.elim)).setCell (Or.inl rfl) _).setCell (Or.inl rfl) _).setCell (Or.inl rfl) _⟩
     case measure=>simp [intOf];omega
   ·obtain rfl:n=L:=by omega
    have K:xs.take n=xs:=List.take_of_length_le (by rw[R.out];omega);have ad:∀t (h:t<(xs.filter fun x=> !p x).length),At3 d t (xs.filter fun x=> !p x)[t]:=by
     have:=V.kept;rw[K]at this;exact this
    rw[K]at ac ⊢;obtain⟨G,l,af⟩:=zb9k (i:=(xs.filter fun x=> !p x).length) (m:=n-(xs.filter fun x=> !p x).length) (c:=s-(xs.filter fun x=> !p x).length) r (by omega) (by rw[N];omega);have HE:Hid (RowCells (wr.setRow g G) g 0 (xs.filter fun x=> !p x)):=za0j (setRow_heap wr g d G _ _ r) fun j U=>af j _ U (ad j U);have HB:Hid (But (fun k=>k=g) w (wr.setRow g G)):=I.trans (zb9l g G) fun _ e _=>e;clear V Z ad af K;generalize ai:xs.filter (fun x=> !p x)=ys at *;have ae:Hid (xs.filter (fun x=> !p x)=ys):=ai;clear ai;generalize aj:ys.length=q at *;have aq:Hid (ys.length=q):=aj;clear aj;have a0:¬s=q:=by omega
    have a4:(q:Int)<=(n:Int):=by omega
    have a5:(q:Int)<=(s:Int):=by omega
    go_wp2;go_ret;exact⟨by rw[ae.out,aq.out];rfl,by rw[ae.out];exact HE.out,HB.out⟩
end Go.Proofs.YtgckdomafbnmkaaGreatDoor
namespace Go.Proofs.YtgckdomafbnmkaaGreatDoor
open Go.RowKit Go.Maps Go.Sort Go.Shelf
abbrev OneOf (l:List Ob):= { o:Ob // o∈l }
structure Came (l:List Ob) (left:Lit->Bool) (ps:List (OneOf l)):Prop where
 once:ps.Nodup
 left:∀o:OneOf l,left (keyL o.1.1)=true↔o∉ps
theorem zb9n {l:List Ob} (c:RiseO l) {o p:Ob} (d:o∈l) (f:p∈l) (h:o.1=p.1):o=p:=by
 have b:=zl9 c d;rw[h,zl9 c f]at b;exact(Option.some.inj b).symm
theorem zb9o {l:List Ob} (b:RiseO l):l.Nodup:=b.imp fun h e=>by subst e;exact zr0 _ h
theorem Came.start {l:List Ob} (q:ByteArray->Nat) (b:RiseO l):Came l (Maps.has (mapQ q l)) [] :=
 ⟨List.nodup_nil,fun o=>by rw[zm7,zl9 b o.2];simp⟩
theorem Came.step {l:List Ob} {c:Lit->Bool} {d:List (OneOf l)} (h:Came l c d) (g:RiseO l) (o:OneOf l) (i:c (keyL o.1.1)=true):Came l (fun z=>c z && !z.sameKey (keyL o.1.1)) (d++ [o]):=by
 have f:=(h.left o).1 i;refine⟨?_,fun p=>?_⟩
 ·rw[List.nodup_append];refine⟨h.once,by simp,fun a ha b hb=>?_⟩;simp only[List.mem_singleton]at hb;subst hb;exact fun e=>f (e▸ha)
 ·rw[za0c];by_cases e:p=o
  ·subst e;simp
  ·have:p.1.1≠o.1.1:=fun e'=>e (Subtype.ext (zb9n g p.2 o.2 e'));simp[this,h.left p,e]
theorem Came.done {l:List Ob} {b:Lit->Bool} {d:List (OneOf l)} (h:Came l b d) (f:RiseO l) (g:∀z,b z=false):(d.map (·.1)).Perm l:=by
 rw[List.perm_ext_iff_of_nodup]
 ·intro o;constructor
  ·intro c;obtain⟨p,_,rfl⟩:=List.mem_map.1 c;exact p.2
  ·intro c;refine List.mem_map.2 ⟨⟨o,c⟩,?_,rfl⟩;have:=h.left ⟨o,c⟩;rw[g]at this;simpa using this
 ·show List.Pairwise _ _;rw[List.pairwise_map];exact h.once.imp fun h e=>h (Subtype.ext e)
 ·exact zb9o f
theorem zb9p {l:List Ob} {q:ByteArray->Nat} {x:List UInt8} {c:Option Addr} {y:DataW Unit×List MemPlace} (r:ptrR (.pointer c)=some y) (d:∀zd,(mapQ q l).atKey (.string x) zd=y.1) :
  ∃o:OneOf l,x=o.1.1.data.toList/\encStr x= .string o.1.1/\c=some ⟨q o.1.1,0,none⟩:=by
 have m:Lit.string x=keyL (bytesOf x):=by simp[keyL,bytesOf]
 rw[m]at d;have b:=d (ptrD (-7));have f:=d (ptrD (-8));rw[zm8]at b f
 cases j:getO l (bytesOf x) with
 | none =>
  rw[j]at b f;simp at b f;have:=zj6 (b.trans f.symm);omega
 | some o =>
  obtain⟨p,g⟩:=zh2 j;rw[j]at b;simp at b;refine⟨⟨o,p⟩,?_,?_,?_⟩
  ·simp[g,bytesOf]
  ·simp[g,bytesOf,encStr]
  ·rcases zr4 r with⟨k,e,i⟩|⟨e,i⟩
   ·rw[i]at b;have:=zj6 b;have n:q (bytesOf x)=k:=by omega
    simp only[Value.pointer.injEq]at e;rw[e];simp[g,n]
   ·rw[i]at b;have:=zj6 b;omega
structure KpM (n₀:Nat) (W W':World):Prop where
 size:W.heap.size<=W'.heap.size
 old:∀k:Nat,k<n₀->W'.heap[k]? =W.heap[k]?
 iter:∀(k:Nat) p s e c,W.heap[k]? =some (Obj.mapIter p s e c)->W'.heap[k]? =some (Obj.mapIter p s e c)
theorem KpM.trans {b:Nat} {X Y Z:World} (h:KpM b X Y) (k:KpM b Y Z):KpM b X Z:=⟨Nat.le_trans h.size k.size,fun i hi=>(k.old i hi).trans (h.old i hi),fun i p s e c hi=>k.iter i p s e c (h.iter i p s e c hi)⟩
theorem KpM.put {b:Nat} (W:World) (l:Nat) (o d:Obj) (g:b<=l) (h:W.heap[l]? =some o) (f:o.isWalk=false):KpM b W (W.putObj l d) :=
 ⟨by simp,fun k hk=>World.putObj_heap_other (by omega),fun k p s e c hk=>(World.putObj_heap_other (fun e'=>by subst e';rw[h]at hk;cases hk;cases f)).trans hk⟩
theorem zb9q {k:TypeId} {R:Value->Option (DataW Unit×List MemPlace)} {w w':World} {b r n l:Nat} {D:DataW Unit} {c:Lit->Bool} {g:Nat}
  (h:w.ranges Tryz.prog k R b r n D c g) (m:KpM l w w') (u:b<l):w'.ranges Tryz.prog k R b r n D c g:=by
 obtain⟨o,d,f,i,p,j,F,q,s,t,rest⟩:=h;exact⟨o,d,f,i,p,(m.old b u).trans j,F,q,s,m.iter r _ _ _ _ t,rest⟩
abbrev encV {l:List Ob} (q:ByteArray->Nat) (o:OneOf l):Array Value:=#[.pointer (some ⟨q o.1.1,0,none⟩)]
theorem zb9r (n:Nat) (hn:1<=n) (r Z b:Nat) (q:ByteArray->Nat) (l:List Ob) (I:RiseO l) (J Jx:List (OneOf l)->World->Prop)
  (hY:∀pre x W,J pre W->pre.length<l.length->YieldAt Fence.wide (n-1) Tryz.prog r (encV q x) W fun e W' =>
   (e= .returned (.bool true)/\J (pre++ [x]) W'/\KeepsWalks W W')\/(e= .returned (.bool false)/\Jx (pre++ [x]) W'))
  (W:World) (hJ:AbidesFrom W.heap.size J) (hm:W.cell? ⟨Z,0,none⟩=some (.map (some b))) (K:PtrMap W b q l) (h0:J [] W) :
  CallsIn Fence.wide n Tryz.prog 185 #[.func (.yield r) #[] #[],.pointer (some ⟨Z,0,none⟩)] W fun e W'=>(∃v,e= .returned v) /\
   ((∃ps,(ps.map (·.1)).Perm l/\J ps W')\/(∃pre,True/\Jx pre W')):=by
 have L:Fence.wide.round=none:=rfl;have hN:=za6y q l;refine callsIn_of_wp Tryz.func185 rfl trivial ?_ L;simp only[Tryz.ntmps185,List.size_toArray,List.length_cons,List.length_nil,Nat.reduceAdd,Nat.reduceSub,Array.replicate_succ,Array.replicate_zero,List.push_toArray,List.append_toArray,List.nil_append,List.cons_append]
 gi_wp2_with (first
  | (gi_at_range;refine wpListIn_range_own _ rfl _ 126 rfl 9 149 Tryz.keyedS Tryz.underlying126 ptrR b l.length _ rfl K ?_;intro w0 E R ab)
  | gi_in)
 go_frame
 gi_loopw [4] (fun _ wr=> ∃(d:Lit->Bool) (i:Nat) (ps:List (OneOf l)),wr.ranges Tryz.prog 9 ptrR b W.heap.size l.length (mapQ q l) d i/\ps.length+i<=l.length/\Came l d ps/\J ps wr)
  (fun _ wr=>wr.rangeLeft b W.heap.size)
 case atStart =>
  exact⟨_,_, [],E,by simp[hN],Came.start q I,hJ [] W w0 none h0 R (fun r e=>by cases e)⟩
 case round =>
  obtain⟨d,i,ps,j,aa,N,A⟩:=hrel
  gi_wp2_with (first
   | (gi_at_next;refine wpListIn_next_ranges _ rfl _ rfl 9 Tryz.keyedS ptrR encStr (fun c:Option Addr=>Value.pointer c) (fun key kl hk=>by obtain⟨x,hx,_⟩:=Maps.keyOf_str Tryz.underlying9 hk;exact⟨x,hx⟩) (fun v y t=>by rcases zr4 t with⟨k,rfl,_⟩|⟨rfl,_⟩<;>exact ⟨_,rfl⟩) b W.heap.size l.length _ _ _ rfl j ?_ ?_)
   | gi_in)
  ·intro ac S
   gi_wp2
   go_end0;exact⟨⟨_,rfl⟩,.inl ⟨ps,N.done I S,A⟩⟩
  ·intro x c kl yd yp F G p s t C f T U V D;obtain⟨x',O,rfl,_⟩:=Maps.keyOf_str Tryz.underlying9 p;obtain rfl:x=x':=encStr_inj O;obtain⟨o,B,m,rfl⟩:=zb9p t C;rw[m]at D;rw[m];have u:Lit.string x=keyL o.1.1:=by rw[B];rfl
   rw[u]at s f;have M:J ps F:=hJ ps wr F (some W.heap.size) A U (fun r e=>by cases e;exact⟨Nat.le_refl _,j.iter_walk⟩);obtain⟨fn,tmps,assign,body,P,Q⟩:=hY ps o F M (by omega);dsimp only[encV]at P;have z:=N.step I o s;clear V O B m u p t C;obtain⟨⟨on,ot,od⟩,ho⟩:=o;dsimp only at D P f z Q s ⊢
   gi_wp2
   refine Q.mono ?_;rintro e W3 (⟨rfl,X,Y⟩|⟨rfl,H⟩)
   ·gi_wp2
    have g:=f.of_walks Y;go_roundw
    case rel=>exact ⟨_,G,_,g,by simp;omega,z,X⟩
    case measure=>rw [g.left_eq,j.left_eq];exact T
   ·gi_wp2
    refine bodyPost_ret (results_none rfl _ _ _) rfl ?_;exact⟨⟨_,rfl⟩,.inr ⟨_,trivial,H⟩⟩
theorem zb9s (n:Nat) (g:1<=n) (d b:Nat) (q:ByteArray->Nat) (l:List Ob) (i:RiseO l) (w:World) (f:w.cell? ⟨d,0,none⟩=some (.map (some b))) (c:PtrMap w b q l) :
  SeqStopsK Fence.wide n Tryz.prog 185 #[.pointer (some ⟨d,0,none⟩)] (encV q) KeepsWalks (fun j:List (OneOf l)=>(j.map (·.1)).Perm l) (fun _=>True) l.length w:=fun r J Jx W hW hJ _ hY h0 =>
 zb9r n g r d b q l i J Jx hY W hJ ((hW.cell (p:=⟨d,0,none⟩) (zb8 f)).trans f) (c.keep (hW.block b c.lt)) h0
theorem zb9t (n:Nat) (b:Nat) (q:ByteArray->Nat) (w:World) (c:w.cell? ⟨b,0,none⟩=some (.map none)) :
  SeqStopsK Fence.wide n Tryz.prog 185 #[.pointer (some ⟨b,0,none⟩)] (encV q) KeepsWalks (fun f:List (OneOf [])=>(f.map (·.1)).Perm []) (fun _=>True) 0 w:=fun r J Jx W hW hJ _ hY h0=>by
 have g:W.cell? ⟨b,0,none⟩=some (.map none):=(hW.cell (p:=⟨b,0,none⟩) (zb8 c)).trans c;have d:Fence.wide.round=none:=rfl;show CallsIn _ _ _ _ #[.func (.yield r) #[] #[],.pointer (some ⟨b,0,none⟩)] _ _;refine callsIn_of_wp Tryz.func185 rfl trivial ?_ d;simp only[Tryz.ntmps185,List.size_toArray,List.length_cons,List.length_nil,Nat.reduceAdd,Nat.reduceSub,Array.replicate_succ,Array.replicate_zero,List.push_toArray,List.append_toArray,List.nil_append,List.cons_append];have i:=run_range_nilMap (P:=Tryz.prog) W 126 9 149 Tryz.underlying126;have j:∀ty,(Instr.next (.pointer (some ⟨W.heap.size,0,none⟩)) false ty).run Tryz.prog (W.alloc (.mapIter none 0 #[] 0))=_:=fun ty=>run_next_nilMap _ ty 0 0 #[];clear c hW
 gi_wp2
 refine wpIn_loop_rounds 1 ?_;rw[roundsIn_succ]
 gi_wp2
 go_end0;exact⟨⟨_,rfl⟩,.inl ⟨[],List.Perm.nil,hJ [] W _ none h0 (World.grownBy_alloc W _ none) (fun r e=>by cases e)⟩⟩
theorem zb9u (n:Nat) (i:1<=n) (d:Nat) (f:Option Nat) (q:ByteArray->Nat) (l:List Ob) (j:RiseO l) (w:World) (g:w.cell? ⟨d,0,none⟩=some (.map f)) (c:MapAt w f q l) :
  SeqStopsK Fence.wide n Tryz.prog 185 #[.pointer (some ⟨d,0,none⟩)] (encV q) KeepsWalks (fun k:List (OneOf l)=>(k.map (·.1)).Perm l) (fun _=>True) l.length w:=by
 rcases c with⟨rfl,rfl⟩|⟨b,rfl,c⟩
 ·exact zb9t n d q w g
 ·exact zb9s n i d b q l j w g c
theorem zb9v (n:Nat) (b:Option Nat) (w:World):CallsIn Fence.wide n Tryz.prog 163 #[.map b] w fun e w'=>e= .returned (.func (.func 185) #[] #[.pointer (some ⟨w.heap.size,0,none⟩)])/\w'=w.alloc (.cells #[.map b] 126):=by
 refine callsIn_of_wp Tryz.func163 rfl trivial ?_ rfl;simp only[Tryz.ntmps163,List.size_toArray,List.length_cons,List.length_nil,Nat.reduceAdd,Nat.reduceSub,Array.replicate_succ,Array.replicate_zero,List.push_toArray,List.append_toArray,List.nil_append,List.cons_append]
 gi_wp2
 go_ret;exact⟨rfl,rfl⟩
end Go.Proofs.YtgckdomafbnmkaaGreatDoor
namespace Go.Proofs.YtgckdomafbnmkaaGreatDoor
open Go.RowKit Go.Extern.Stop Go.Stop Go.Extern Go.Maps Go.Sort Go.Shelf Go.Lib
structure CameI (D:DataW Unit) (left:Lit->Bool) (ps:List Int):Prop where
 once:ps.Nodup
 left:∀z:Int,left (.int .i64 z)=true↔Maps.has D (.int .i64 z)=true/\z∉ps
theorem zb9w (z y:Int):(Lit.int .i64 z).sameKey (.int .i64 y)=decide (z=y):=by
 by_cases h:z=y
 ·subst h;rw[WideAt.sameKey_self (show WideAt.IsKeyLit (.int .i64 z) from trivial),decide_eq_true rfl]
 ·rw[decide_eq_false h]
  cases c:(Lit.int .i64 z).sameKey (.int .i64 y) with
  | false=>rfl
  | true =>
   have:=(WideAt.sameKey_iff (b:=.int .i64 y) trivial).1 c;injection this with _ e;exact absurd e h
theorem CameI.start (D:DataW Unit):CameI D (Maps.has D) []:=⟨List.nodup_nil,fun z=>by simp⟩
theorem CameI.step {D:DataW Unit} {c:Lit->Bool} {d:List Int} (h:CameI D c d) (z:Int) (g:c (.int .i64 z)=true):CameI D (fun k=>c k && !k.sameKey (.int .i64 z)) (d++ [z]):=by
 have f:=((h.left z).1 g).2;refine⟨?_,fun y=>?_⟩
 ·rw[List.nodup_append];refine⟨h.once,by simp,fun a ha b hb=>?_⟩;simp only[List.mem_singleton]at hb;subst hb;exact fun e=>f (e▸ha)
 ·rw[zb9w];by_cases e:y=z
  ·subst e;simp
  ·simp[e,h.left y]
theorem CameI.done {D:DataW Unit} {b:Lit->Bool} {c:List Int} (h:CameI D b c) (d:∀z,b z=false):c.Nodup/\∀z:Int,Maps.has D (.int .i64 z)=true->z∈c:=by
 refine⟨h.once,fun z hz=>?_⟩;have:=h.left z;rw[d]at this;simp only[Bool.false_eq_true,hz,true_and,false_iff,Classical.not_not]at this;exact this
abbrev encAR (hv:Int->Value) (z:Int):Array Value:=#[.int .i64 z,hv z]
abbrev sliceOf (t:Option Addr×Nat×Nat):Value:=.slice t.1 t.2.1 t.2.2
theorem zb9x (n:Nat) (hn:1<=n) (n₀ r Bm b:Nat) (aa:b<n₀) (M:Nat) (D:DataW Unit) (f:Int->Value) (hd:∀z,hdQ (f z)=some (D.atKey (.int .i64 z) .nil, [])) (J Jx:List Int->World->Prop)
  (hY:∀pre x W,J pre W->pre.length<M->YieldAt Fence.wide (n-1) Tryz.prog r (encAR f x) W fun e W' =>
   (e= .returned (.bool true)/\J (pre++ [x]) W'/\KpM n₀ W W')\/(e= .returned (.bool false)/\Jx (pre++ [x]) W'))
  (W:World) (hJ:AbidesFrom W.heap.size J) (hm:W.cell? ⟨Bm,0,none⟩=some (.map (some b))) (p:W.ownsMap Tryz.prog 3 hdQ b M D) (h0:J [] W) :
  CallsIn Fence.wide n Tryz.prog 150 #[.func (.yield r) #[] #[],.pointer (some ⟨Bm,0,none⟩)] W fun e W'=>(∃v,e= .returned v) /\
   ((∃ps,(ps.Nodup/\∀z:Int,Maps.has D (.int .i64 z)=true->z∈ps)/\J ps W')\/(∃pre,True/\Jx pre W')):=by
 have L:Fence.wide.round=none:=rfl;have hN:=p.size_le;refine callsIn_of_wp Tryz.func150 rfl trivial ?_ L;simp only[Tryz.ntmps150,List.size_toArray,List.length_cons,List.length_nil,Nat.reduceAdd,Nat.reduceSub,Array.replicate_succ,Array.replicate_zero,List.push_toArray,List.append_toArray,List.nil_append,List.cons_append]
 gi_wp2_with (first
  | (gi_at_range;refine wpListIn_range_own _ rfl _ 94 rfl 3 44 Tryz.keyedI Tryz.underlying94 hdQ b M _ rfl p ?_;intro w0 G R ac)
  | gi_in)
 go_frame
 gi_loopw [3,4] (fun _ _ wr=> ∃(d:Lit->Bool) (i:Nat) (ps:List Int),wr.ranges Tryz.prog 3 hdQ b W.heap.size M D d i/\ps.length+i<=M/\CameI D d ps/\J ps wr)
  (fun _ _ wr=>wr.rangeLeft b W.heap.size)
 case atStart =>
  exact⟨_,_, [],G,by simpa using hN,CameI.start D,hJ [] W w0 none h0 R (fun r e=>by cases e)⟩
 case round =>
  obtain⟨d,i,ps,j,ab,O,B⟩:=hrel
  gi_wp2_with (first
   | (gi_at_next;refine wpListIn_next_ranges _ rfl _ rfl 3 Tryz.keyedI hdQ (Value.int .i64) sliceOf (fun key kl hk=>by obtain⟨x,hx,_⟩:=Maps.keyOf_int_inv Tryz.underlying3 hk;exact⟨x,hx⟩) (fun v y f=>by obtain⟨q,m,c,e⟩:=zh7 f;exact⟨(q,m,c),e⟩) b W.heap.size M _ _ _ rfl j ?_ ?_)
   | gi_in)
  ·intro ad S
   gi_wp2
   go_end0;exact⟨⟨_,rfl⟩,.inl ⟨ps,O.done S,B⟩⟩
  ·intro x cq cm cc kl yd yp H I k C l E o T U V X;obtain⟨x',P,rfl,_⟩:=Maps.keyOf_int_inv Tryz.underlying3 k;obtain rfl:x=x':=by injection P
   have s:hdQ (f x)=some (yd, []):=by rw[hd x,E .nil]
   have t:=za7a l;simp only at t;subst t;have u:Value.slice cq cm cc=f x:=za7b l s;have N:J ps H:=hJ ps wr H (some W.heap.size) B U (fun r e=>by cases e;exact⟨Nat.le_refl _,j.iter_walk⟩);obtain⟨fn,tmps,assign,body,F,Q⟩:=hY ps x H N (by omega);dsimp only[encAR]at F;rw[<-u]at F;have A:=O.step x C;clear V P k l E s u;dsimp only[sliceOf]at X F o A Q C ⊢
   gi_wp2
   refine Q.mono ?_;rintro e W3 (⟨rfl,Y,Z⟩|⟨rfl,K⟩)
   ·gi_wp2
    have g:=zb9q o Z aa;go_roundw
    case rel=>exact ⟨_,I,_,g,by simp;omega,A,Y⟩
    case measure=>rw [g.left_eq,j.left_eq];exact T
   ·gi_wp2
    refine bodyPost_ret (results_none rfl _ _ _) rfl ?_;exact⟨⟨_,rfl⟩,.inr ⟨_,trivial,K⟩⟩
theorem zb9y (n:Nat) (s:1<=n) (f d b:Nat) (k:b<f) (M:Nat) (D:DataW Unit) (g:Int->Value) (t:∀z,hdQ (g z)=some (D.atKey (.int .i64 z) .nil, [])) (w:World) (l:w.cell? ⟨d,0,none⟩=some (.map (some b))) (i:w.ownsMap Tryz.prog 3 hdQ b M D) :
  SeqStopsK Fence.wide n Tryz.prog 150 #[.pointer (some ⟨d,0,none⟩)] (encAR g) (KpM f) (fun m:List Int=>m.Nodup/\∀z:Int,Maps.has D (.int .i64 z)=true->z∈m) (fun _=>True) M w:=fun r J Jx W hW hJ _ hY h0 =>
 zb9x n s f r d b k M D g t J Jx hY W hJ ((hW.cell (p:=⟨d,0,none⟩) (zb8 l)).trans l) (by
  obtain⟨o,c,j,q⟩:=i;exact⟨o,c,(hW.block b (Array.getElem?_eq_some_iff.1 j).1).trans j,q⟩) h0
theorem zb9z (n:Nat) (b:Option Nat) (w:World):CallsIn Fence.wide n Tryz.prog 109 #[.map b] w fun e w'=>e= .returned (.func (.func 150) #[] #[.pointer (some ⟨w.heap.size,0,none⟩)])/\w'=w.alloc (.cells #[.map b] 94):=by
 refine callsIn_of_wp Tryz.func109 rfl trivial ?_ rfl;simp only[Tryz.ntmps109,List.size_toArray,List.length_cons,List.length_nil,Nat.reduceAdd,Nat.reduceSub,Array.replicate_succ,Array.replicate_zero,List.push_toArray,List.append_toArray,List.nil_append,List.cons_append]
 gi_wp2
 go_ret;exact⟨rfl,rfl⟩
def CutP (v:Value) (ys:List Rw) (w:World) (e:Ending) (w':World):Prop:= ∃q n c,e= .returned (.slice q n c)/\n=ys.length/\Src w' q n c (flatR ys)/\But (fun k=>some k=v.ownBlock) w w'
theorem zc0a {d:Array Value} {xs:List Rw} (h:d.toList.take (xs.length*3)=flatR xs):∀t (ht:t<xs.length),At3 d t xs[t]:=fun t ht=>by
 have b:∀c,c<3->d[t*3+c]? =(encR xs[t])[c]? :=fun c hc=>by
  rw[<-zf4 xs t c ht hc,<-h,List.getElem?_take,if_pos (by omega),Array.getElem?_toList]
 exact⟨by have:=b 0 (by omega);simpa [encR] using this,by have:=b 1 (by omega);simpa [encR] using this,by have:=b 2 (by omega);simpa [encR] using this⟩
theorem zc0b (v:Value) (xs:List Rw) (base:Nat) (b:Nat) (f:Array Value) (p:Rw->Bool) (w:World) (t:∀args w,(callFunc b args).run Tryz.prog w= .ok (.enter b args) w) (i:w.ownsRow base 112 3 v xs.length (flatR xs)) (F:xs.length<=20000) (u:TellsB b f xs p (fun k=>some k=v.ownBlock) w) :
  Calls Tryz.prog 111 #[v,.func (.func b) #[] f] w (CutP v (xs.filter fun x=> !p x) w):=by
 rcases i.2 with⟨rfl,D⟩|⟨g,l,q,rfl,G,E,r,H,s,j⟩
 ·have c:xs= []:=List.length_eq_zero_iff.1 D;subst c;have d:=za7h (.slice none 0 0) [] b f p w t (Or.inl ⟨none,0,rfl,rfl⟩) (by simp) (fun x W c _=>by cases c);have y:idxR p []= -1:=rfl;rw[y]at d;clear u i
  go_enter Tryz.func111,Tryz.ntmps111
  go_wp2_with fail
  refine d.mono ?_;rintro e z ⟨rfl,o⟩;clear d;go_wp2;go_ret;exact⟨none,0,0,rfl,rfl,Or.inl ⟨rfl,fun _=>rfl⟩,But.of_below o⟩
 ·have m:∀k,(some k=(Value.slice (some ⟨g,0,none⟩) xs.length l).ownBlock)↔k=g:=fun k=>by simp[Value.ownBlock]
  have n:TellsB b f xs p (fun k=>k=g) w:=fun x W c hB=>u x W c (hB.mono fun k hk=>(m k).2 hk);refine(zb9m g l xs b f p q w t E (zc0a j) (by rw[s];omega) r F n).mono ?_;rintro e z ⟨A,B,C⟩;exact⟨_,_,_,A,rfl,Or.inr ⟨g,0,rfl,ze4 B⟩,C.mono fun k hk=>(m k).2 hk⟩
end Go.Proofs.YtgckdomafbnmkaaGreatDoor
namespace Go.Proofs
open Go.Shelf
def Tryz.indexIt_ren:Go.Shelf.Ren:=⟨fun | 143=>204 | 219=>186 | 217=>205 | 225=>206 | 224=>207 | 267=>208 | 266=>225 | 314=>226 | n=>n,fun | 9=>9 | 3=>3 | 4=>4 | 5=>5 | 46=>210 | 146=>304 | 51=>250 | n=>n,fun | 1=>12 | n=>n⟩
theorem Tryz.indexIt:Go.Proofs.Lays.n143 Tryz.prog Tryz.indexIt_ren:= {
 mixed:=by kernel_rfl
 f143:=Tryz.func204.trans (congrArg some (by kernel_rfl))
 f217:=Tryz.func205.trans (congrArg some (by kernel_rfl))
 f219:=Tryz.func186.trans (congrArg some (by kernel_rfl))
 f224:=Tryz.func207.trans (congrArg some (by kernel_rfl))
 f225:=Tryz.func206.trans (congrArg some (by kernel_rfl))
 f266:=Tryz.func225.trans (congrArg some (by kernel_rfl))
 f267:=Tryz.func208.trans (congrArg some (by kernel_rfl))
 f314:=Tryz.func226.trans (congrArg some (by kernel_rfl))
 t3:=Tryz.underlying3
 a3:=Tryz.isAgg3
 z3:=Tryz.sizeOf3
 v3:=Tryz.zeroValue3
 t4:=Tryz.underlying4
 a4:=Tryz.isAgg4
 z4:=Tryz.sizeOf4
 v4:=Tryz.zeroValue4
 t5:=Tryz.underlying5
 a5:=Tryz.isAgg5
 z5:=Tryz.sizeOf5
 v5:=Tryz.zeroValue5
 t9:=Tryz.underlying9
 a9:=Tryz.isAgg9
 z9:=Tryz.sizeOf9
 v9:=Tryz.zeroValue9
 t46:=Tryz.underlying210
 a46:=Tryz.isAgg210
 z46:=Tryz.sizeOf210
 v46:=Tryz.zeroValue210
 t51:=Tryz.underlying250
 a51:=Tryz.isAgg250
 z51:=Tryz.sizeOf250
 v51:=Tryz.zeroValue250
 t146:=Tryz.underlying304
 a146:=Tryz.isAgg304
 z146:=Tryz.sizeOf304
 v146:=Tryz.zeroValue304
 g1:=by kernel_rfl }
end Go.Proofs
namespace Go.Proofs.YtgckdomafbnmkaaGreatDoor
open Go.RowKit Go.Maps Go.Sort Go.Shelf Go.Lib
attribute [local go_sem] Oper.semAt_some
def goodP (p:List UInt8):Bool:=p.isEmpty || wordB 16 p
theorem zc0c (c:UInt8):signB c=(nbI c.toNat || decide (c=47)):=by
 rw[za5q]
 unfold nbI
 have e : decide ((c.toNat : Int) = 47) = decide (c=47):=by
   congr 1
   exact propext ⟨fun h => UInt8.toNat_inj.1 (by have:c.toNat=47:=by omega
                                                 rw[this];rfl),fun h=>by rw[h];rfl⟩
 rw[e]
theorem za7j {p:List UInt8} (h:p.length<=16):goodP p=p.all fun c=>nbI c.toNat:=by
 unfold goodP wordB
 cases p with
 | nil=>rfl
 | cons c r=>simp only[List.isEmpty_cons,Bool.false_or];rw[decide_eq_true (by simp),decide_eq_true h];rfl
theorem za7k:∀l:List UInt8,((pieces 47 l).all fun p=>p.all fun c=>nbI c.toNat)=l.all signB
 | []=>rfl
 | c :: r=>by
  have b:=za7k r;unfold pieces;rw[List.all_cons,zc0c];split
  ·rename_i h;subst h;simp[<-b]
  ·rename_i h;rw[decide_eq_false h,Bool.or_false,<-b];split
   ·rename_i e;exact absurd e (zk6 47 r)
   ·rename_i w d e;rw[e];simp[Bool.and_assoc]
theorem za0k (d:UInt8):∀(l:List UInt8),∀x∈pieces d l,x.length<=l.length
 | [],x,h=>by simp only[pieces,List.mem_singleton]at h;subst h;exact Nat.le_refl _
 | c :: r,x,h=>by
  have b:=za0k d r;unfold pieces at h;split at h
  ·rcases List.mem_cons.1 h with rfl | h
   ·simp
   ·have:=b x h;simp;omega
  ·split at h
   ·rename_i e;exact absurd e (zk6 d r)
   ·rename_i w f e;rw[e]at b;rcases List.mem_cons.1 h with rfl | h
    ·have:=b w (by simp);simp;omega
    ·have:=b x (by simp[h]);simp;omega
theorem zc0d {l:List UInt8} (h:l.length<=16):(pieces 47 l).all goodP=l.all signB:=by
 rw[<-za7k];apply Bool.eq_iff_iff.2;rw[List.all_eq_true,List.all_eq_true];constructor
 ·intro c p b;rw[<-za7j (Nat.le_trans (za0k 47 l p b) h)];exact c p b
 ·intro c p b;rw[za7j (Nat.le_trans (za0k 47 l p b) h)];exact c p b
theorem zc0e (s:ByteArray):(Lib.indexByte s.data.toList 47= -1/\pieces 47 s.data.toList= [s.data.toList])\/∃i:Nat,i<s.size/\Lib.indexByte s.data.toList 47=i/\pieces 47 s.data.toList=(s.extract 0 i).data.toList :: pieces 47 (s.extract (i+1) s.size).data.toList:=by
 have m:=za3 s;have t:=indexByte_ge s.data.toList 47;rcases Int.lt_or_le (Lib.indexByte s.data.toList 47) 0 with u | v
 ·have n:Lib.indexByte s.data.toList 47= -1:=by omega
  have f:=indexByte_none n;refine Or.inl ⟨n,zo7 47 _ fun c d e=>?_⟩;obtain⟨k,b⟩:=List.mem_iff_getElem?.1 d;exact f k (by rw[b,e])
 ·obtain⟨i,p⟩:∃i:Nat,Lib.indexByte s.data.toList 47=i:=⟨(Lib.indexByte s.data.toList 47).toNat,by omega⟩;obtain⟨d,f⟩:=indexByte_some p;have j:i<s.data.toList.length:=by
   rcases Nat.lt_or_ge i s.data.toList.length with l | l
   ·exact l
   ·rw[List.getElem?_eq_none l]at d;cases d
  refine Or.inr ⟨i,by omega,p,?_⟩;have o:s.data.toList=s.data.toList.take i++47 :: s.data.toList.drop (i+1):=by
   have g:=List.take_append_drop i s.data.toList;rw[List.drop_eq_getElem_cons j]at g;rw[List.getElem?_eq_getElem j]at d;rw[Option.some.inj d]at g;exact g.symm
  have g:(s.extract 0 i).data.toList=s.data.toList.take i:=by simp[ByteArray.data_extract,Array.toList_extract,List.extract]
  have r:(s.extract (i+1) s.size).data.toList=s.data.toList.drop (i+1):=by
   simp only[ByteArray.data_extract,Array.toList_extract,List.extract];rw[List.take_of_length_le (by rw[List.length_drop,m];exact Nat.le_refl _)]
  rw[g,r]
  conv=>lhs;rw[o]
  refine zg7 47 _ _ fun c hc' e=>?_;obtain⟨k,b⟩:=List.mem_iff_getElem?.1 hc';rw[List.getElem?_take]at b;split at b
  ·rename_i q;exact f k q (by rw[b,e])
  ·cases b
def leftS (B:Nat) (w:World):Nat:=match w.cell? ⟨B,0,none⟩ with
 | some (.string r)=>r.size
 | _=>0
theorem za7l {B:Nat} {w:World} {r:ByteArray} {t:TypeId} (h:Boxed w B t (.string r)):leftS B w=r.size:=by unfold leftS;rw[h.cell]
theorem zc0f (n:Nat) (hn:1<=n) (l B:Nat) (R Rx:World->Prop) (s:ByteArray)
  (hY:∀(x:ByteArray) (W:World),x.size<=s.size->R W->YieldAt Fence.wide (n-1) Tryz.prog l #[.string x] W fun e W' =>
   (goodP x.data.toList=true/\e= .returned (.bool true)/\R W'/\∀k,B<=k->k<B+3->W'.heap[k]? =W.heap[k]?)\/(goodP x.data.toList=false/\e= .returned (.bool false)/\Rx W'))
  (z:∀W v,R W->R (W.setCell ⟨B,0,none⟩ v))
  (W:World) (N:Boxed W B 9 (.string s)) (A:Boxed W (B+1) 9 (.string ⟨#[47]⟩)) (O:Boxed W (B+2) 3 (.int .i64 0)) (hs:s.size<=maxLen) (h0:R W) :
  CallsIn Fence.wide n Tryz.prog 202 #[.func (.yield l) #[] #[],.pointer (some ⟨B+1,0,none⟩),.pointer (some ⟨B,0,none⟩),.pointer (some ⟨B+2,0,none⟩)] W fun e W'=>(∃v,e= .returned v) /\
   (((pieces 47 s.data.toList).all goodP=true/\R W')\/((pieces 47 s.data.toList).all goodP=false/\Rx W')):=by
 unfold maxLen at hs;have P:Fence.wide.round=none:=rfl;generalize M:(pieces 47 s.data.toList).all goodP=G;have Q:Hid _:=hY;have I:Hid _:=z;have S:=A.cell;clear hY z;refine callsIn_of_wp Tryz.func202 rfl trivial ?_ P;simp only[Tryz.ntmps202,List.size_toArray,List.length_cons,List.length_nil,Nat.reduceAdd,Nat.reduceSub,Array.replicate_succ,Array.replicate_zero,List.push_toArray,List.append_toArray,List.nil_append,List.cons_append]
 gi_wp2
 gi_loopw [7,8] (fun _ _ wr=> ∃r:ByteArray,Boxed wr B 9 (.string r)/\Boxed wr (B+1) 9 (.string ⟨#[47]⟩)/\Boxed wr (B+2) 3 (.int .i64 0)/\R wr/\r.size<=s.size/\(pieces 47 r.data.toList).all goodP=G) (fun _ _ wr=>leftS B wr)
 case atStart=>exact ⟨s,N,A,O,h0,Nat.le_refl _,M⟩
 case round =>
  obtain⟨r,p,J,K,H,q,j⟩:=hrel;have k0:=p.cell;have k1:=J.cell;have k2:=K.cell;have f0:=p.frozen;have b:=(callsIn_wide (n:=n-1)).2 (Any.strings_Index_one Tryz.indexIt r 47 wr);change CallsIn Fence.wide (n-1) Tryz.prog 204 _ _ _ at b;rcases zc0e r with⟨u,y⟩|⟨i,ab,u,y⟩
  ·rw[u]at b;rw[y]at j;have m:Hid (goodP r.data.toList=G):=by simpa [Hid] using j
   obtain⟨fn,tmps,assign,body,hy,L⟩:=Q.out r wr q H;clear u y j N A O S M
   gi_wp2_with (refine⟨trivial,?_⟩;gi_at_call 204;refine b.mono ?_;rintro e w' ⟨rfl,rfl⟩)
   refine L.mono ?_;rintro e d (⟨c,rfl,t,_⟩|⟨c,rfl,f⟩)
   ·gi_wp2
    go_end0;exact⟨⟨_,rfl⟩,.inl ⟨by rw[<-m.out];exact c,t⟩⟩
   ·gi_wp2
    go_end0;exact⟨⟨_,rfl⟩,.inr ⟨by rw[<-m.out];exact c,f⟩⟩
  ·rw[u]at b;rw[y]at j;have C:(r.extract 0 i).size<=s.size:=by rw[ByteArray.size_extract];omega
   have D:(r.extract (i+1) r.size).size<r.size:=by rw[ByteArray.size_extract];omega
   have m:Hid ((goodP (r.extract 0 i).data.toList && (pieces 47 (r.extract (i+1) r.size).data.toList).all goodP)=G):=by simpa [Hid] using j
   obtain⟨fn,tmps,assign,body,hy,L⟩:=Q.out (r.extract 0 i) wr C H;have ac:(0:Int)<=(i:Int):=by omega
   have ad:(i:Int)<=(r.size:Int):=by omega
   have ae:(i:Int)+1<=(r.size:Int):=by omega
   have af:decide ((i:Int)<0)=false:=decide_eq_false (by omega);have ag:wrap64 (i:Int)=(i:Int):=by unfold wrap64;omega
   have ah:wrap64 ((i:Int)+1)=(i:Int)+1:=by unfold wrap64;omega
   have HM:Hid (leftS B wr=r.size):=za7l p;have E:Hid ((r.extract (i+1) r.size).size<r.size):=D;have T:Hid (r.size<=s.size):=q;clear u y j N A O S M hs ab C D q
   gi_wp2_with (refine⟨trivial,?_⟩;gi_at_call 204;refine b.mono ?_;rintro e w' ⟨rfl,rfl⟩)
   refine L.mono ?_;rintro e d (⟨c,rfl,t,g⟩|⟨c,rfl,f⟩)
   ·have o:Boxed d B 9 (.string r):=(g B (Nat.le_refl _) (by omega)).trans p;have F:Boxed d (B+1) 9 (.string ⟨#[47]⟩):=(g (B+1) (by omega) (by omega)).trans J;have U:Boxed d (B+2) 3 (.int .i64 0):=(g (B+2) (by omega) (by omega)).trans K;have j0:=o.cell;have j1:=F.cell;have jf:=o.frozen;have V:Hid (Boxed (d.setCell ⟨B,0,none⟩ (.string (r.extract (i+1) r.size))) B 9 (.string (r.extract (i+1) r.size))):=o.set _;have X:Hid (Boxed (d.setCell ⟨B,0,none⟩ (.string (r.extract (i+1) r.size))) (B+1) 9 (.string ⟨#[47]⟩)):=(Below.heap_setCell d ⟨B,0,none⟩ _ (B+1) (by show B+1≠B;omega)).trans F;have Y:Hid (Boxed (d.setCell ⟨B,0,none⟩ (.string (r.extract (i+1) r.size))) (B+2) 3 (.int .i64 0)):=(Below.heap_setCell d ⟨B,0,none⟩ _ (B+2) (by show B+2≠B;omega)).trans U;have Z:Hid (R (d.setCell ⟨B,0,none⟩ (.string (r.extract (i+1) r.size)))):=I.out _ _ t;have aa:Hid ((pieces 47 (r.extract (i+1) r.size).data.toList).all goodP=G):=by
     have:=m.out;rw[c,Bool.true_and]at this;exact this
    clear p J K k0 k1 k2 f0 g
    gi_wp2
    exact⟨⟨_,V.out,X.out,Y.out,Z.out,by have:=E.out;have:=T.out;omega,aa.out⟩,by rw[za7l V.out,HM.out];exact E.out⟩
   ·gi_wp2
    refine bodyPost_ret (results_none rfl _ _ _) rfl ?_;exact⟨⟨_,rfl⟩,.inr ⟨by rw[<-m.out,c];rfl,f⟩⟩
def splitW (w:World) (s:ByteArray):World:=((w.alloc (.cells #[.string s] 9)).alloc (.cells #[.string ⟨#[47]⟩] 9)).alloc (.cells #[.int .i64 0] 3)
theorem zc0g (s:ByteArray) (w:World):Calls Tryz.prog 161 #[.string s,.string ⟨#[47]⟩] w fun e w'=>e= .returned (.func (.func 202) #[] #[.pointer (some ⟨w.heap.size+1,0,none⟩),.pointer (some ⟨w.heap.size,0,none⟩),.pointer (some ⟨w.heap.size+2,0,none⟩)])/\w'=splitW w s:=by
 have b:Calls Tryz.prog 183 #[.string s,.string ⟨#[47]⟩,.int .i64 0] w fun e w'=>e= .returned (.func (.func 202) #[] #[.pointer (some ⟨w.heap.size+1,0,none⟩),.pointer (some ⟨w.heap.size,0,none⟩),.pointer (some ⟨w.heap.size+2,0,none⟩)])/\w'=splitW w s:=by
  go_enter Tryz.func183,Tryz.ntmps183
  go_wp2;go_ret;exact⟨rfl,rfl⟩
 go_enter Tryz.func161,Tryz.ntmps161
 go_wp2_with (go_at_call 183;refine b.mono ?_;rintro e w' ⟨rfl,rfl⟩)
 go_ret;exact⟨rfl,rfl⟩
def readP (good:Bool) (Rx:World->Prop) (W:World):Exit->Act->World->Prop
 | .normal,_,W'=>good=true/\W'=W
 | .ret,_,W'=>good=false/\Rx W'/\KeepsOthers W W'
 | _,_,_=>False
theorem zc0h {n:Nat} {g:Operand} {p:Tmp} {assign body:Code} {Q:Exit->Act->World->Prop} {a:Act} {w:World} (s:ByteArray) (B:Nat) (hB:B+3<=w.heap.size)
  (hg:a.eval g= .func (.func 202) #[] #[.pointer (some ⟨B+1,0,none⟩),.pointer (some ⟨B,0,none⟩),.pointer (some ⟨B+2,0,none⟩)])
  (b0:Boxed w B 9 (.string s)) (b1:Boxed w (B+1) 9 (.string ⟨#[47]⟩)) (b2:Boxed w (B+2) 3 (.int .i64 0)) (hs:s.size<=maxLen) (hn:3<=n)
  (R D:World->Prop) (E:∀W l o,R W->w.heap.size<=l->R (W.putObj l o)) (M:∀W l o,D W->w.heap.size<=l->D (W.putObj l o)) (N:∀W o,R W->R (W.alloc o)) (Y:∀W v,R W->R (W.setCell ⟨B,0,none⟩ v)) (h0:R w) (Z:ByteArray->Act)
  (y:∀(l:Nat) (x:ByteArray) (W:World) (K:Act->World->Prop),K (Z x) W->assign.wpIn (Fence.wide.inRound l) (n-1-1) Tryz.prog (Exit.then K (fun _ _ _=>False)) { tmps:=a.tmps.setIfInBounds p (.string x),defers:= [] } W)
  (F:∀(l:Nat) (x:ByteArray) (W:World),x.size<=s.size->R W->body.wpIn (Fence.wide.inRound l) (n-1-1) Tryz.prog (readP (goodP x.data.toList) D W) (Z x) W)
  (G:∀W:World,(pieces 47 s.data.toList).all goodP=true->R W->W.heap[w.heap.size]? =some (.deferred (some []))->Q .normal { a with defers:= { target:=.collected w.heap.size,args:=#[] } :: a.defers } W)
  (H:∀W:World,(pieces 47 s.data.toList).all goodP=false->D W->W.heap[w.heap.size]? =some (.deferred (some []))->Code.ret.wpIn Fence.wide n Tryz.prog Q { a with defers:= { target:=.collected w.heap.size,args:=#[] } :: a.defers } W) :
  (Code.rangeFunc g #[p] assign body).wpIn Fence.wide n Tryz.prog Q a w:=by
 refine wpIn_rangeFunc fun fn hfn=>?_;obtain⟨b,c⟩:∃b:LoopState->Option Code->Loop,b=fun st pe=> { state:=st,pending:=pe,fn,tmps:=a.tmps,params:=#[p],assign,body,defers:=w.heap.size } :=⟨_,rfl⟩;have d:∀k,k<w.heap.size->((w.alloc (.deferred (some []))).alloc (.loop (b .ready none))).heap[k]? =w.heap[k]? :=fun k hk=>(Below.heap_alloc _ _ k (by simp;omega)).trans (Below.heap_alloc _ _ k hk);have z:(Instr.enterLoop fn a.tmps #[p] assign body none).run Tryz.prog w= .ok (w.heap.size+1, [{ target:=.collected w.heap.size,args:=#[] }]) ((w.alloc (.deferred (some []))).alloc (.loop (b .ready none))):=by rw[c];exact run_enterLoop_outer _ _ _ _ _
 have r:((w.alloc (.deferred (some []))).alloc (.loop (b .ready none))).heap[w.heap.size+1]? =some (.loop (b .ready none)):=by
  have:=World.alloc_heap_new (w.alloc (.deferred (some []))) (.loop (b .ready none))
  rwa [World.size_alloc]at this
 have A:((w.alloc (.deferred (some []))).alloc (.loop (b .ready none))).heap[w.heap.size]? =some (.deferred (some [])):=(Below.heap_alloc _ _ _ (by simp)).trans (World.alloc_heap_new w _);have eg:∀args w,(callFunc 202 args).run Tryz.prog w= .ok (.enter 202 args) w:=enters_of Tryz.func202 (by kernel_rfl) rfl;have I:R ((w.alloc (.deferred (some []))).alloc (.loop (b .ready none))):=N _ _ (N _ _ h0);generalize (w.alloc (.deferred (some []))).alloc (.loop (b .ready none))=O at d z r A I;refine⟨w.heap.size+1, [{ target:=.collected w.heap.size,args:=#[] }],O, { target:=.fn (.func 202) #[.pointer (some ⟨B+1,0,none⟩),.pointer (some ⟨B,0,none⟩),.pointer (some ⟨B+2,0,none⟩)],args:=#[.func (.yield (w.heap.size+1)) #[] #[]] },O,202,#[.func (.yield (w.heap.size+1)) #[] #[],.pointer (some ⟨B+1,0,none⟩),.pointer (some ⟨B,0,none⟩),.pointer (some ⟨B+2,0,none⟩)],O,z,?_,fun _ _=>trivial,?_,fun _=>by omega,?_⟩
 ·simp only[resolve,hg];simp[go_sem]
 ·simp[invoke,go_sem,eg]
 refine(zc0f (n-1) (by omega) (w.heap.size+1) B
  (fun W=>R W/\W.heap[w.heap.size+1]? =some (.loop (b .ready none))/\W.heap[w.heap.size]? =some (.deferred (some [])))
  (fun W=>D W/\W.heap[w.heap.size+1]? =some (.loop (b .done (some .ret)))/\W.heap[w.heap.size]? =some (.deferred (some []))) s ?yield ?set _
  ((d B (by omega)).trans b0) ((d (B+1) (by omega)).trans b1) ((d (B+2) (by omega)).trans b2) hs ⟨I,r,A⟩).mono ?_
 case set =>
  rintro W v ⟨i,f,m⟩;exact⟨Y W v i,(Below.heap_setCell W ⟨B,0,none⟩ v _ (by show w.heap.size+1≠B;omega)).trans f,(Below.heap_setCell W ⟨B,0,none⟩ v _ (by show w.heap.size≠B;omega)).trans m⟩
 case yield =>
  rintro x W hx ⟨i,f,m⟩;have J:w.heap.size+1<W.heap.size:=(Array.getElem?_eq_some_iff.1 f).1;have hy:=run_yield (P:=Tryz.prog) (args:=#[.string x]) f (by rw[c];rfl);have S:(Instr.yield (w.heap.size+1) #[.string x]).run Tryz.prog W= .ok (.round (w.heap.size+1) fn (a.tmps.setIfInBounds p (.string x)) assign body) W:=by rw[hy,c];simp
  refine⟨fn,_,assign,body,S,roundIn_of_wpIn hfn ?_⟩;refine y _ x W _ ?_;refine⟨_,run_beginRound f (by rw[c]),?_⟩;have T:(W.putObj (w.heap.size+1) (.loop { b .ready none with state:=.busy })).heap[w.heap.size+1]? =some (.loop { b .ready none with state:=.busy }):=World.putObj_heap_same J;have U:(W.putObj (w.heap.size+1) (.loop { b .ready none with state:=.busy })).heap[w.heap.size]? =some (.deferred (some [])):=(World.putObj_heap_other (by omega)).trans m;refine wpIn_mono (F _ x _ hx (E _ _ _ i (by omega))) ?_;intro e a3 W3 u
  cases e with
  | normal =>
   obtain⟨C,rfl⟩:=u;have j:=run_endRound (P:=Tryz.prog) none T;refine⟨_,_,j,.inl ⟨C,rfl,⟨E _ _ _ (E _ _ _ i (by omega)) (by omega),?_,?_⟩,fun k h4 h5=>?_⟩⟩
   ·rw[World.putObj_heap_same (by simpa using J),c];rfl
   ·exact(World.putObj_heap_other (by omega)).trans U
   ·exact(World.putObj_heap_other (by omega)).trans (World.putObj_heap_other (by omega))
  | ret =>
   obtain⟨C,X,L⟩:=u;have V:=L.same _ _ T rfl;have j:=run_endRound (P:=Tryz.prog) (some .ret) V;refine⟨_,_,j,.inr ⟨C,rfl,M _ _ _ X (by omega),?_,?_⟩⟩
   ·rw[World.putObj_heap_same (Array.getElem?_eq_some_iff.1 V).1,c];rfl
   ·exact(World.putObj_heap_other (by omega)).trans (L.same _ _ U rfl)
  | exit id=>exact u.elim
  | goto t=>exact u.elim
  | panic ch=>exact u.elim
  | outgrown=>exact u.elim
 rintro e W2 ⟨⟨v,rfl⟩,(⟨q,i,f,m⟩|⟨q,i,f,m⟩)⟩
 ·refine⟨none,_,by have:=run_endLoop (P:=Tryz.prog) f (by rw[c];simp);rw[c]at this;exact this,G _ q (E _ _ _ i (by omega)) ((World.putObj_heap_other (by omega)).trans m)⟩
 ·refine⟨some .ret,_,by have:=run_endLoop (P:=Tryz.prog) f (by rw[c];simp);rw[c]at this;exact this,H _ q (M _ _ _ i (by omega)) ((World.putObj_heap_other (by omega)).trans m)⟩
theorem zc0i (s:ByteArray) (w:World) (M:s.size<=maxLen):Calls Tryz.prog 128 #[.string s] w fun e w'=>e= .returned (.bool (objB s.data.toList))/\BL w w':=by
 unfold maxLen at M;have y:=za3 s;have d:BL w (w.alloc (.cells #[.bool false] 4)):=alB _ _;have z:=Boxed.new w 4 (.bool false);by_cases q:s.size<1\/16<s.size
 ·have A:objB s.data.toList=false:=by
   unfold objB;rw[y];rcases q with h | h
   ·rw[decide_eq_false (show ¬1<=s.size by omega)];simp
   ·rw[decide_eq_false (show ¬s.size<=16 by omega)];simp
  rw[A];have B:=z.cell;have N:=z.frozen;have c2:=(z.set (.bool false)).cell;have ac:BL w ((w.alloc (.cells #[.bool false] 4)).setCell ⟨w.heap.size,0,none⟩ (.bool false)):=d.setCell (p:=⟨w.heap.size,0,none⟩) (Nat.le_refl _) _;clear y A;rcases q with h | h
  ·have O:decide ((s.size:Int)<1)=true:=decide_eq_true (by omega)
   go_enter Tryz.func128,Tryz.ntmps128
   go_wp2;exact bodyPost_ret (v:=.bool false) (by simp[results,Tryz.f128,go_sem,B]) rfl ⟨rfl,d⟩
  ·have O:decide ((s.size:Int)<1)=false:=decide_eq_false (by omega);have d2:decide ((16:Int)<(s.size:Int))=true:=decide_eq_true (by omega)
   go_enter Tryz.func128,Tryz.ntmps128
   go_wp2;exact bodyPost_ret (v:=.bool false) (by simp[results,Tryz.f128,go_sem,B]) rfl ⟨rfl,d⟩
 ·have A:objB s.data.toList=(pieces 47 s.data.toList).all goodP:=by
   unfold objB;rw[zc0d (by omega),decide_eq_true (by omega),decide_eq_true (by omega),Bool.and_true,Bool.and_true]
  rw[A];generalize hG:(pieces 47 s.data.toList).all goodP=G;have ab:s.size<=16:=by omega
  have O:decide ((s.size:Int)<1)=false:=decide_eq_false (by omega);have d2:decide ((16:Int)<(s.size:Int))=false:=decide_eq_false (by omega);have P:Hid (s.size<=maxLen):=M;clear A q y M;refine(callsIn_wide (n:=9)).1 ?_;refine callsIn_of_wp_marks Tryz.func128 rfl trivial ?_ rfl;simp only[Tryz.ntmps128,List.size_toArray,List.length_cons,List.length_nil,Nat.reduceAdd,Nat.reduceSub,Array.replicate_succ,Array.replicate_zero,List.push_toArray,List.append_toArray,List.nil_append,List.cons_append];have C:=(callsIn_wide (n:=9-1)).2 (zc0g s (w.alloc (.cells #[.bool false] 4)));simp only[World.size_alloc]at C
  gi_wp2_with (refine⟨trivial,?_⟩;gi_at_call 161;refine C.mono ?_;rintro e w' ⟨rfl,rfl⟩)
  clear C;have F:Below (w.heap.size+1) (w.alloc (.cells #[.bool false] 4)) (splitW (w.alloc (.cells #[.bool false] 4)) s):=(((Below.refl _ _).alloc (by simp) _).alloc (by simp) _).alloc (by simp) _;have H:BL w (splitW (w.alloc (.cells #[.bool false] 4)) s):=d.trans (F.mono (by omega));have Q:Boxed (splitW (w.alloc (.cells #[.bool false] 4)) s) w.heap.size 4 (.bool false):=((z.alloc _).alloc _).alloc _;have R:Boxed (splitW (w.alloc (.cells #[.bool false] 4)) s) (w.heap.size+1) 9 (.string s):=by
   have:=((Boxed.new (w.alloc (.cells #[.bool false] 4)) 9 (.string s)).alloc (.cells #[.string ⟨#[47]⟩] 9)).alloc (.cells #[.int .i64 0] 3);simpa [splitW] using this
  have S:Boxed (splitW (w.alloc (.cells #[.bool false] 4)) s) (w.heap.size+1+1) 9 (.string ⟨#[47]⟩):=by
   have:=(Boxed.new ((w.alloc (.cells #[.bool false] 4)).alloc (.cells #[.string s] 9)) 9 (.string ⟨#[47]⟩)).alloc (.cells #[.int .i64 0] 3);simpa [splitW] using this
  have T:Boxed (splitW (w.alloc (.cells #[.bool false] 4)) s) (w.heap.size+1+2) 3 (.int .i64 0):=by
   have:=Boxed.new (((w.alloc (.cells #[.bool false] 4)).alloc (.cells #[.string s] 9)).alloc (.cells #[.string ⟨#[47]⟩] 9)) 3 (.int .i64 0);simpa [splitW] using this
  have I:(splitW (w.alloc (.cells #[.bool false] 4)) s).heap.size=w.heap.size+4:=by simp[splitW]
  generalize splitW (w.alloc (.cells #[.bool false] 4)) s=j at H Q R S T I ⊢;clear F d z;have g:∀W l o,(Boxed W w.heap.size 4 (.bool false)/\BL w W)->j.heap.size<=l->Boxed (W.putObj l o) w.heap.size 4 (.bool false)/\BL w (W.putObj l o):=fun W l o h hl =>
   ⟨(World.putObj_heap_other (by omega)).trans h.1,h.2.trans ((Below.refl _ W).grown (grownBy_putObj' W l o) (h.2.size) (fun k e=>by cases e;omega))⟩
  refine zc0h s (w.heap.size+1) (by omega) rfl R S T P.out (by decide) (fun W=>Boxed W w.heap.size 4 (.bool false)/\BL w W) (fun W=>Boxed W w.heap.size 4 (.bool false)/\BL w W) g g
   (fun W o h=>⟨h.1.alloc o,h.2.alloc h.2.size o⟩) (fun W v h=>⟨(Below.heap_setCell W ⟨w.heap.size+1,0,none⟩ v _ (by show w.heap.size≠w.heap.size+1;omega)).trans h.1,h.2.setCell (p:=⟨w.heap.size+1,0,none⟩) (by show w.heap.size<=w.heap.size+1;omega) _⟩) ⟨Q,H⟩ ?a1 ?assign ?body ?done ?stop
  case assign =>
   intro l x W K D
   gi_wp2
   exact D
  case body =>
   rintro l x W L ⟨b,u⟩;have B:=b.cell;have N:=b.frozen;by_cases t:x.data.toList= []
   ·have d3:(x.toList == [])=true:=by rw[ByteArray.toList_eq,t];rfl
    have f:goodP x.data.toList=true:=by rw[t];rfl
    rw[f];clear t L f
    gi_wp2
    refine⟨trivial,?_⟩
    gi_wp2
    exact⟨rfl,rfl⟩
   ·have d3:(x.toList == [])=false:=by rw[beq_eq_false_iff_ne,ByteArray.toList_eq];exact t
    have f:goodP x.data.toList=wordB 16 x.data.toList:=by
     unfold goodP
     cases aa:x.data.toList with
     | nil=>exact absurd aa t
     | cons c r=>rfl
    have m:=CallsIn.inRound l ((callsIn_wide (n:=9-1-1-1)).2 (zv6 x 16 W (Nat.le_trans L P.out) (by decide)));have HV:Hid (Boxed W w.heap.size 4 (.bool false)):=b;have HB:Hid (BL w W):=u;rw[f];clear f t L b u
    cases E:wordB 16 x.data.toList with
    | true =>
     rw[E]at m;clear E
     gi_wp2_with (refine⟨trivial,?_⟩;gi_at_call 162;refine m.mono ?_;rintro e w' ⟨rfl,rfl⟩)
     exact⟨rfl,rfl⟩
    | false =>
     rw[E]at m;clear E
     gi_wp2_with (refine⟨trivial,?_⟩;gi_at_call 162;refine m.mono ?_;rintro e w' ⟨rfl,rfl⟩)
     exact⟨rfl,⟨HV.out.set _,HB.out.setCell (p:=⟨w.heap.size,0,none⟩) (Nat.le_refl _) _⟩,KeepsOthers.setCell _ _ _⟩
  case done =>
   rintro W i ⟨b,u⟩ D;have B:=b.cell;have N:=b.frozen;obtain rfl:G=true:=hG.symm.trans i;have U:(W.setCell ⟨w.heap.size,0,none⟩ (.bool true)).heap[j.heap.size]? =some (.deferred (some [])):=(Below.heap_setCell W ⟨w.heap.size,0,none⟩ _ _ (by show j.heap.size≠w.heap.size;omega)).trans D;have V:Boxed ((W.setCell ⟨w.heap.size,0,none⟩ (.bool true)).putObj j.heap.size (.deferred none)) w.heap.size 4 (.bool true):=(World.putObj_heap_other (by omega)).trans (b.set (.bool true));have X:BL w ((W.setCell ⟨w.heap.size,0,none⟩ (.bool true)).putObj j.heap.size (.deferred none)):=by
    have q:=u.setCell (p:=⟨w.heap.size,0,none⟩) (Nat.le_refl _) (.bool true);exact q.trans ((Below.refl _ _).grown (grownBy_putObj' _ j.heap.size (.deferred none)) q.size (fun k e=>by cases e;omega))
   have J:=V.cell
   gi_wp2
   refine⟨by simp,.inl ⟨_,_,rfl,run_takeDeferred U,?_⟩⟩;exact⟨.bool true,by simp[results,Tryz.f128,go_sem,J],rfl,X⟩
  case stop =>
   rintro W i ⟨b,u⟩ D;have B:=b.cell;obtain rfl:G=false:=hG.symm.trans i;obtain⟨Y,Z⟩:=g _ j.heap.size (.deferred none) ⟨b,u⟩ (Nat.le_refl _);have J:=Y.cell
   gi_wp2
   refine⟨by simp,.inl ⟨_,_,rfl,run_takeDeferred D,?_⟩⟩;exact⟨.bool false,by simp[results,Tryz.f128,go_sem,J],rfl,Z⟩
end Go.Proofs.YtgckdomafbnmkaaGreatDoor
namespace Go.Proofs.YtgckdomafbnmkaaGreatDoor
open Go.RowKit Go.Extern.Stop Go.Stop Go.Extern
def EMw (w:World):World->Prop:=fun W=>BL w W
end Go.Proofs.YtgckdomafbnmkaaGreatDoor
namespace Go.Proofs.YtgckdomafbnmkaaGreatDoor
open Go.RowKit Go.Extern.Stop Go.Stop Go.Extern Go.Sort Go.Shelf Go.Lib
structure EnvO (w:World) (a:Nat->Addr):Prop where
 bound:w.cell? ⟨0,0,none⟩=some (.iface 325 (.pointer (some (a 1))))
 name:w.cell? ⟨7,0,none⟩=some (.iface 325 (.pointer (some (a 4))))
 miss:w.cell? ⟨2,0,none⟩=some (.iface 325 (.pointer (some (a 5))))
 exist:w.cell? ⟨8,0,none⟩=some (.iface 325 (.pointer (some (a 6))))
 full:w.cell? ⟨3,0,none⟩=some (.iface 325 (.pointer (some (a 7))))
 off:w.cell? ⟨11,0,none⟩=some (.iface 325 (.pointer (some (a 11))))
theorem EnvO.below {w w':World} {a:Nat->Addr} (h:EnvO w a) (b:BL w w'):EnvO w' a where
 bound:=za0 b h.bound
 name:=za0 b h.name
 miss:=za0 b h.miss
 exist:=za0 b h.exist
 full:=za0 b h.full
 off:=za0 b h.off
theorem zc0j (w:World):Calls Tryz.prog 30 #[] w fun e w'=>e= .returned (.pointer (some ⟨w.heap.size,0,none⟩))/\SIn w' w.heap.size none (fun _=>0) newS/\BL w w':=by
 have b:BL w (w.alloc (.cells #[.map none,.string ⟨#[]⟩,.int .i64 0,.bool false,.bool false,.int .i64 0] 130)):=alB _ _;have c:Hid (SIn (w.alloc (.cells #[.map none,.string ⟨#[]⟩,.int .i64 0,.bool false,.bool false,.int .i64 0] 130)) w.heap.size none (fun _=>0) newS):=⟨heap_alloc_new _ _,Or.inl ⟨rfl,rfl⟩,fun _ h=>(nomatch h),List.Pairwise.nil,by decide⟩
 go_enter Tryz.func30,Tryz.ntmps30
 go_wp2;go_ret;exact⟨rfl,c.out,b⟩
section
variable {w : World} {b : Nat} {mo : Option Nat} {hd : ByteArray} {d : Int} {off waits : Bool} {left : Int}
def powW (w:World) (b:Nat) (x y:Bool) (z:Int):World:=((w.setCell ⟨b,3,none⟩ (.bool x)).setCell ⟨b,4,none⟩ (.bool y)).setCell ⟨b,5,none⟩ (.int .i64 z)
theorem SC.pow (h:SC w b mo hd d off waits left) (x y:Bool) (z:Int):SC (powW w b x y z) b mo hd d x y z:=by
 have c:SC (w.setCell ⟨b,3,none⟩ (.bool x)) b mo hd d x waits left:=by
  unfold SC at *;rw[heap_setCell_same _ _ _ _ _ _ h];rfl
 have f:SC ((w.setCell ⟨b,3,none⟩ (.bool x)).setCell ⟨b,4,none⟩ (.bool y)) b mo hd d x y left:=by
  unfold SC at *;rw[heap_setCell_same _ _ _ _ _ _ c];rfl
 unfold powW;unfold SC at *;rw[heap_setCell_same _ _ _ _ _ _ f];rfl
theorem za7m (w:World) (b:Nat) (x y:Bool) (z:Int):But (fun k=>k=b) w (powW w b x y z):=(((But.refl (fun k=>k=b) w).setCell (Or.inl rfl) _).setCell (Or.inl rfl) _).setCell (Or.inl rfl) _
theorem SC.objs (h:SC w b mo hd d off waits left) (c:Option Nat):SC (w.setCell ⟨b,0,none⟩ (.map c)) b c hd d off waits left:=by
 unfold SC at *;rw[heap_setCell_same _ _ _ _ _ _ h];rfl
theorem zc0k (w:World) (b o:Nat) (v:Value):But (fun k=>k=b) w (w.setCell ⟨b,o,none⟩ v):=(But.refl (fun k=>k=b) w).setCell (Or.inl rfl) _
end
theorem MapAt.look {w:World} {b:Option Nat} {q:ByteArray->Nat} {l:List Ob} (h:MapAt w b q l) {n:ByteArray} (c:n.size<=maxLen) :
  (Instr.lookup 126 (.map b) (.string n) false).run Tryz.prog w= .ok (lookP q l n) w:=by
 rcases h with⟨rfl,rfl⟩|⟨d,rfl,h⟩
 ·exact Maps.look_nil false Tryz.keyedS Tryz.underlying126 (Tryz.zeroObj w) (za0d c)
 ·exact h.look c
theorem MapAt.len {w:World} {c:Option Nat} {q:ByteArray->Nat} {l:List Ob} (h:MapAt w c q l) (b:TypeId) :
  (Builtin.len_ #[126] b #[.map c]).run Tryz.prog w= .ok (.int .i64 l.length) w:=by
 rcases h with⟨rfl,rfl⟩|⟨d,rfl,h⟩
 ·exact Maps.len_nil Tryz.underlying126 b
 ·exact h.len b
theorem za7n {q:ByteArray->Nat} {l:List Ob} {n:ByteArray} (h:(getO l n).isSome=true):lookP q l n=ptrV (q n):=by unfold lookP;rw[if_pos h]
theorem za7o {q:ByteArray->Nat} {l:List Ob} {n:ByteArray} (h:getO l n=none):lookP q l n= .pointer none:=by unfold lookP;rw[h];rfl
theorem ObjsAt.get {W:World} {q:ByteArray->Nat} {l:List Ob} (h:ObjsAt W q l) {n:ByteArray} {o:Ob} (c:getO l n=some o):W.cell? ⟨q n,0,none⟩=some (.string o.2.1)/\W.cell? ⟨q n,1,none⟩=some (.int .i64 o.2.2):=by
 obtain⟨b,rfl⟩:=zh2 c;exact h.cells b
section
variable {w : World} {b : Nat} {mo : Option Nat} {q : ByteArray → Nat} {s : St}
def GetP (a:Nat->Addr) (w:World) (l:List Ob) (n:ByteArray) (e:Ending) (w':World):Prop:=e= .returned (.tuple #[.string (getT l n).1,errV a (getT l n).2])/\BL w w'
theorem zc0l (h:SIn w b mo q s) {a:Nat->Addr} (g:EnvO w a) (n:ByteArray) (i:n.size<=maxLen):Calls Tryz.prog 99 #[.pointer (some ⟨b,0,none⟩),.string n] w (GetP a w s.obs n):=by
 have l:=h.block.cells.1;have d:=h.map.look i;have m:=g.miss
 cases c:getO s.obs n with
 | none =>
  have f:Hid (∀w',BL w w'->GetP a w s.obs n (.returned (.tuple #[.string ⟨#[]⟩,errV a 6])) w'):=fun w' hb=>by unfold GetP getT;rw[c];exact⟨rfl,hb⟩
  rw[za7o c]at d;clear h g c i
  go_enter Tryz.func99,Tryz.ntmps99
  go_wp2
  go_quiet (fail)
  go_wp2;go_ret2;exact f.out _ (za4 (Below.refl _ _) nq)
 | some o =>
  have f:Hid (GetP a w s.obs n (.returned (.tuple #[.string o.2.1,.nilIface])) w):=by unfold GetP getT;rw[c];exact⟨rfl,Below.refl _ _⟩
  rw[za7n (by rw[c];rfl)]at d;obtain⟨j,_⟩:=h.objs.get c;generalize q n=k at d j;clear h g c i
  go_enter Tryz.func99,Tryz.ntmps99
  go_wp2;go_ret2;exact f.out
def WrtP (a:Nat->Addr) (w:World) (b:Nat) (mo:Option Nat) (s:St) (t:ByteArray) (e:Ending) (w':World):Prop :=
 e= .returned (.tuple #[.string (t.extract 0 (wrtS s t.size).1),errV a (if (wrtS s t.size).2.off=true then 12 else 0)])/\SC w' b mo s.head s.day (wrtS s t.size).2.off (waitsB (wrtS s t.size).2) (leftI (wrtS s t.size).2)/\But (fun k=>k=b) w w'
theorem za7p (t:ByteArray):t.extract 0 t.size=t:=by rw[zm9,List.take_of_length_le (by rw[za3];exact Nat.le_refl _),zd8]
theorem zc0m (h:SC w b mo s.head s.day s.off (waitsB s) (leftI s)) {a:Nat->Addr} (p:EnvO w a) (t:ByteArray) (G:t.size<=maxLen) (f:s.off=false) (hcut:s.cut<=9223372036854775807):Calls Tryz.prog 84 #[.pointer (some ⟨b,3,none⟩),.string t] w (WrtP a w b mo s t):=by
 obtain⟨E,M,N,O,B,F,j⟩:=h.cells;have J:=j 3;have K:=j 4;have L:=j 5;have r:=p.off;unfold maxLen at G;by_cases g:s.cut<0
 ·have d:wrtS s t.size=(t.size,s):=by unfold wrtS;rw[if_pos g]
  have c:waitsB s=false:=by unfold waitsB;rw[f,decide_eq_false (by omega)];rfl
  have l:Hid (WrtP a w b mo s t (.returned (.tuple #[.string t,.nilIface])) w):=by
   unfold WrtP;rw[d];dsimp only;rw[f,za7p];rw[f]at h;exact⟨rfl,h,But.refl _ _⟩
  rw[c]at B;clear h j p d c g hcut
  go_enter Tryz.func84,Tryz.ntmps84
  go_wp2;go_ret2;exact l.out
 ·have c:waitsB s=true:=by unfold waitsB;rw[f,decide_eq_true (by omega)];rfl
  have m:leftI s=s.cut:=by unfold leftI;rw[c];rfl
  obtain⟨k,n⟩:∃k:Nat,s.cut=k:=⟨s.cut.toNat,by omega⟩;rw[m,n]at F;rw[c]at B;by_cases H:k<t.size
  ·have d:wrtS s t.size=(k, { s with off:=true }):=by unfold wrtS;rw[if_neg g,if_pos (by omega),n];rfl
   have l:Hid (∀w',Below w.heap.size (powW w b true false 0) w'->WrtP a w b mo s t (.returned (.tuple #[.string (t.extract 0 k),errV a 12])) w'):=fun w' hb=>by
    unfold WrtP;rw[d];dsimp only;have u:(powW w b true false 0).heap.size=w.heap.size:=by simp[powW,World.setCell]
    have v:=h.pow true false 0;refine⟨rfl,?_,(za7m w b true false 0).trans (Q:=fun _=>False) (But.of_below (by show Below _ _ _;rw[u];exact hb)) fun i hi=>hi.elim⟩;exact(hb.block b h.lt).trans v
   have C:decide ((k:Int)<(t.size:Int))=true:=decide_eq_true (by omega);have y:(k:Int)<=9223372036854775807:=by omega
   have o:(powW w b true false 0).cell? ⟨11,0,none⟩=some (.iface 325 (.pointer (some (a 11)))):=by
    have z:b≠11:=by
     rintro rfl;rw[E]at r;cases r
    exact(za7m w b true false 0).keep (fun e=>z e.symm) r
   unfold powW at o;have D:Hid (∀nq,Below w.heap.size (powW w b true false 0) ((((w.setCell ⟨b,3,none⟩ (.bool true)).setCell ⟨b,4,none⟩ (.bool false)).setCell ⟨b,5,none⟩ (.int .i64 0)).drewN nq)):=fun nq=>za4 (Below.refl _ _) nq;have I:k<=t.size:=by omega
   clear h j p d c g hcut m n
   go_enter Tryz.func84,Tryz.ntmps84
   go_wp2
   go_quiet (fail)
   go_wp2;go_ret2;exact l.out _ (D.out _)
  ·have d:wrtS s t.size=(t.size, { s with cut:=s.cut-t.size }):=by unfold wrtS;rw[if_neg g,if_neg (by omega)]
   have C:decide ((k:Int)<(t.size:Int))=false:=decide_eq_false (by omega);have y:(k:Int)<=9223372036854775807:=by omega
   have l:Hid (WrtP a w b mo s t (.returned (.tuple #[.string t,.nilIface])) (w.setCell ⟨b,5,none⟩ (.int .i64 ((k:Int)-(t.size:Int))))):=by
    unfold WrtP;rw[d];dsimp only;have q:waitsB { s with cut:=s.cut-(t.size:Int) } =true:=by unfold waitsB;dsimp only;rw[f,decide_eq_true (by omega)];rfl
    have A:leftI { s with cut:=s.cut-(t.size:Int) } =(k:Int)-t.size:=by unfold leftI;rw[q];dsimp only;rw[if_pos rfl,n]
    rw[q,A,za7p,f];refine⟨rfl,?_,zc0k _ _ _ _⟩;rw[f,c]at h;unfold SC at *;rw[heap_setCell_same _ _ _ _ _ _ h];rfl
   clear h j p d c g hcut m n
   go_enter Tryz.func84,Tryz.ntmps84
   go_wp2;go_ret2;exact l.out
end
end Go.Proofs.YtgckdomafbnmkaaGreatDoor
namespace Go.Proofs.YtgckdomafbnmkaaGreatDoor
open Go.RowKit Go.Maps Go.Sort Go.Shelf
attribute [local go_sem] Oper.semAt_some
theorem zc0n {l m:List Ob} (h:l.Perm m):bytesS l=bytesS m:=(h.map _).sum_nat
theorem za7q {l:List Ob} (h:∀o∈l,o.2.1.size<=20000):bytesS l<=20000*l.length:=by
 induction l with
 | nil=>simp [bytesS]
 | cons o l ih =>
  have:=ih fun p hp=>h p (List.mem_cons_of_mem _ hp);have:=h o (by simp);simp only[bytesS,List.map_cons,List.sum_cons,List.length_cons]at *;omega
theorem zc0o {l:List Ob} (b:List (OneOf l)) (o:OneOf l):bytesS ((b++ [o]).map (·.1))=bytesS (b.map (·.1))+o.1.2.1.size:=by
 simp[bytesS]
theorem zc0p {w:World} {b:Nat} {g:Option Nat} {q:ByteArray->Nat} {s:St} (h:SIn w b g q s) (v:Keeps s) :
  Calls Tryz.prog 129 #[.pointer (some ⟨b,0,none⟩)] w fun e w'=>e= .returned (.int .i64 (bytesS s.obs))/\BL w w':=by
 have D:=h.block.cells.1;refine(callsIn_wide (n:=5)).1 ?_;refine callsIn_of_wp_marks Tryz.func129 rfl trivial ?_ rfl;simp only[Tryz.ntmps129,List.size_toArray,List.length_cons,List.length_nil,Nat.reduceAdd,Nat.reduceSub,Array.replicate_succ,Array.replicate_zero,List.push_toArray,List.append_toArray,List.nil_append,List.cons_append];have E:(w.alloc (.cells #[.int .i64 0] 3)).cell? ⟨b,0,none⟩=some (.map g):=za0 ((Below.refl w.heap.size w).alloc (Nat.le_refl _) _) D
 gi_wp2_with (refine⟨trivial,?_⟩;gi_at_call 163;refine(zb9v _ _ _).mono ?_;rintro e w' ⟨rfl,rfl⟩)
 have i:BL w ((w.alloc (.cells #[.int .i64 0] 3)).alloc (.cells #[.map g] 126)):=((Below.refl w.heap.size w).alloc (Nat.le_refl _) _).alloc (by simp) _;have G:=h.below i;have j:=Boxed.new (w.alloc (.cells #[.int .i64 0] 3)) 126 (.map g);have y:=(Boxed.new w 3 (.int .i64 0)).alloc (.cells #[.map g] 126);simp only[World.size_alloc]at j;refine wpIn_rangeFunc_ownG (F:=Fence.wide) rfl (by decide) (gf:=185) (lb:=#[.pointer (some ⟨w.heap.size+1,0,none⟩)]) rfl trivial (enters_of Tryz.func185 (by kernel_rfl) rfl)
  (zb9u _ (by decide) (w.heap.size+1) g q s.obs h.rise _ j.cell G.map) walksK_t walksK_b (Below.refl _ _) (fun _=>rfl)
  (fun d W=>Boxed W w.heap.size 3 (.int .i64 (bytesS (d.map (·.1))))/\BL w W)
  (fun _ _ _=>False)
  (OwnFrom.and (Own.from (boxed_own w.heap.size 3 (fun d:List (OneOf s.obs)=>Value.int .i64 (bytesS (d.map (·.1))))) _) (ownFrom_below (Nat.le_refl _) (by simp;omega)))
  (fun _ _ _ _ _ hs _ _=>hs.elim) ?start ?a1 ?assign ?body ?done ?stop
 case assign =>
  intro l x W K u
  gi_wp2
  exact u
 case start=>exact ⟨y,i⟩
 case stop =>
  rintro B c d W _ _ H _;exact H.elim
 case body =>
  rintro l d x W ⟨f,r⟩ C;have z:=f.cell;have H:=f.frozen;have I:=za0 r (h.objs.cells x.2).1;have k:bytesS (d.map (·.1))<=20000*d.length:=by
   have:=za7q (l:=d.map (·.1)) fun o ho=>by
    obtain⟨p,_,rfl⟩:=List.mem_map.1 ho;exact v.texts _ p.2
   simpa using this
  have t:=v.many;have O:=v.texts _ x.2;have m:Hid (((bytesS ((d++ [x]).map (·.1)):Nat):Int)=(bytesS (d.map (·.1)):Int)+(x.1.2.1.size:Int)):=by rw[zc0o];rfl
  obtain⟨A,M⟩:∃A,bytesS (d.map (·.1))=A:=⟨_,rfl⟩;rw[M]at z f k m;have P:Hid (Boxed W w.heap.size 3 (.int .i64 A)):=f;have Q:Hid (BL w W):=r;have T:A<=4000000:=by omega
  generalize x.1.2.1=N at I O m;generalize q x.1.1=V at I ⊢;clear f r M k C t y G i h v D E j;have J:IntKind.i64.wrap ((A:Int)+(N.size:Int))=(A:Int)+(N.size:Int):=IntWalk.i64_in _ (by omega)
  gi_wp2
  gi_region
  all_goals gi_wp2
  all_goals (try rw[J])
  all_goals exact⟨((KeepsOthers.setCell _ _ _).trans (KeepsOthers.drew _)).from _,((KeepsOthers.setCell _ _ _).trans (KeepsOthers.drew _)).walks,by rw[m.out];exact P.out.set _,((Q.out.setCell (p:=⟨w.heap.size,0,none⟩) (Nat.le_refl _) _).drew)⟩
 case done =>
  rintro B U W R S ⟨f,r⟩ u;have z:=f.cell;rw[zc0n S]at z;have L:BL w (W.putObj B (.deferred none)):=r.trans (belowK_b (w:=w) (Nat.le_refl _) W B _ _ (by simp at R;omega) u rfl rfl)
  gi_wp2
  refine⟨by simp,.inl ⟨_,_,rfl,run_takeDeferred u,?_⟩⟩;exact⟨_,results_tmp rfl _ _ _,rfl,L⟩
end Go.Proofs.YtgckdomafbnmkaaGreatDoor
namespace Go.Proofs.YtgckdomafbnmkaaGreatDoor
open Go.RowKit Go.Extern.Stop Go.Stop Go.Extern Go.Sort Go.Shelf Go.Lib
section
variable {w : World} {b : Nat} {mo : Option Nat} {q : ByteArray → Nat} {s : St}
theorem zc0q (h:SIn w b mo q s) (E:Keeps s) {a:Nat->Addr} (P:EnvO w a) (n t:ByteArray) (U:n.size<=1000) (V:t.size<=100000) :
  Calls Tryz.prog 83 #[.pointer (some ⟨b,0,none⟩),.string n,.string t] w fun e w'=>e= .returned (errV a (putE s n t))/\BL w w':=by
 have v:n.size<=maxLen:=by unfold maxLen;omega
 have g:=zc0i n w v;have j:Hid (SIn w b mo q s):=h;have Q:Hid (Keeps s):=E;have r:Hid (EnvO w a):=P;have m:=za7q E.texts;have i:=E.many;unfold putE;clear h E P
 cases D:objB n.data.toList with
 | false =>
  rw[D]at g;simp only[if_true];clear D
  go_enter Tryz.func83,Tryz.ntmps83
  go_wp2_with (go_at_call 128;refine g.mono ?_;rintro e d ⟨rfl,c⟩;have y:=(r.out.below c).name)
  go_ret;exact⟨rfl,c⟩
 | true =>
  rw[D]at g;rw[if_neg (by decide)];clear D;by_cases C:20000<t.size
  ·rw[if_pos C];have R:decide ((20000:Int)<(t.size:Int))=true:=decide_eq_true (by omega)
   go_enter Tryz.func83,Tryz.ntmps83
   go_wp2_with (go_at_call 128;refine g.mono ?_;rintro e d ⟨rfl,c⟩;have y:=(r.out.below c).bound)
   go_ret;exact⟨rfl,c⟩
  ·rw[if_neg C];have R:decide ((20000:Int)<(t.size:Int))=false:=decide_eq_false (by omega);rcases Bool.eq_false_or_eq_true s.off with f | f
   ·rw[if_pos f]
    go_enter Tryz.func83,Tryz.ntmps83
    go_wp2_with (go_at_call 128;refine g.mono ?_;rintro e d ⟨rfl,c⟩;have y:=(r.out.below c).off;have k:=(j.out.below c).block.cells.2.2.2.1;rw[f]at k)
    go_ret;exact⟨rfl,c⟩
   ·rw[if_neg (by rw[f];decide)]
    cases N:getO s.obs n with
    | some o =>
     have l:∀d,BL w d->(Instr.lookup 126 (.map mo) (.string n) false).run Tryz.prog d= .ok (ptrV (q n)) d:=fun d c=>by
      have:=(j.out.below c).map.look v;rw[za7n (by rw[N];rfl)]at this;exact this
     have z:Hid _:=l;rw[if_pos (by rfl)];clear l
     go_enter Tryz.func83,Tryz.ntmps83
     go_wp2_with (go_at_call 128;refine g.mono ?_;rintro e d ⟨rfl,c⟩;have y:=(r.out.below c).exist;obtain⟨K,_,_,k,_⟩:=(j.out.below c).block.cells;rw[f]at k;have l:=z.out d c)
     go_ret;exact⟨rfl,c⟩
    | none =>
     have l:∀d,BL w d->(Instr.lookup 126 (.map mo) (.string n) false).run Tryz.prog d= .ok (.pointer none) d:=fun d c=>by
      have:=(j.out.below c).map.look v;rw[za7o N]at this;exact this
     have z:Hid _:=l;rw[if_neg (by decide)];clear l N;by_cases A:200<=s.obs.length
     ·rw[if_pos (Or.inl A)];have G:decide ((200:Int)<=(s.obs.length:Int))=true:=decide_eq_true (by omega);have u:Hid (∀d,BL w d->∀ty,(Builtin.len_ #[126] ty #[.map mo]).run Tryz.prog d= .ok (.int .i64 s.obs.length) d):=fun d c ty=>(j.out.below c).map.len ty;generalize s.obs.length=L at G u i m A
      go_enter Tryz.func83,Tryz.ntmps83
      go_wp2_with (go_at_call 128;refine g.mono ?_;rintro e d ⟨rfl,c⟩;have y:=(r.out.below c).full;obtain⟨K,_,_,k,_⟩:=(j.out.below c).block.cells;rw[f]at k;have l:=z.out d c;have F:=u.out d c)
      go_ret;exact⟨rfl,c⟩
     ·have G:decide ((200:Int)<=(s.obs.length:Int))=false:=decide_eq_false (by omega);have u:Hid (∀d,BL w d->∀ty,(Builtin.len_ #[126] ty #[.map mo]).run Tryz.prog d= .ok (.int .i64 s.obs.length) d):=fun d c ty=>(j.out.below c).map.len ty;have H:Hid (∀d,BL w d->Calls Tryz.prog 129 #[.pointer (some ⟨b,0,none⟩)] d fun e w'=>e= .returned (.int .i64 (bytesS s.obs))/\BL d w'):=fun d c=>zc0p (j.out.below c) Q.out;generalize O:s.obs.length=L at G u i m A ⊢;generalize bytesS s.obs=Z at H m ⊢;have T:(Z:Int)+(t.size:Int)<=9223372036854775807:=by omega
      by_cases I:262144<Z+t.size
      ·rw[if_pos (Or.inr I)];have S:decide ((262144:Int)<(Z:Int)+(t.size:Int))=true:=decide_eq_true (by omega);clear I A m i C O
       go_enter Tryz.func83,Tryz.ntmps83
       go_wp2_with (first | (go_at_call 128;refine g.mono ?_;rintro e d ⟨rfl,c⟩;obtain⟨K,_,_,k,_⟩:=(j.out.below c).block.cells;rw[f]at k;have l:=z.out d c;have F:=u.out d c;have J:=H.out d c) | (go_at_call 129;refine J.mono ?_;rintro e M ⟨rfl,B⟩;have p:BL w M:=(trB c B);have y:=(r.out.below p).full))
       go_ret;exact⟨rfl,p⟩
      ·rw[if_neg (by omega)];have S:decide ((262144:Int)<(Z:Int)+(t.size:Int))=false:=decide_eq_false (by omega);clear I A m i C O
       go_enter Tryz.func83,Tryz.ntmps83
       go_wp2_with (first | (go_at_call 128;refine g.mono ?_;rintro e d ⟨rfl,c⟩;obtain⟨K,_,_,k,_⟩:=(j.out.below c).block.cells;rw[f]at k;have l:=z.out d c;have F:=u.out d c;have J:=H.out d c) | (go_at_call 129;refine J.mono ?_;rintro e M ⟨rfl,B⟩;have p:BL w M:=trB c B))
       go_ret;exact⟨rfl,p⟩
end
theorem zc0r {s:St} {n:Nat} (h:s.cut<=9223372036854775807):(wrtS s n).2.cut<=9223372036854775807:=by
 unfold wrtS;split
 ·exact h
 ·split
  ·exact h
  ·dsimp only;omega
section
variable {w : World} {b : Nat} {mo : Option Nat} {q : ByteArray → Nat} {s : St}
theorem SIn.added {w':World} {g k:Nat} {n t:ByteArray} {d:Int} {c:St} (h:SIn w b mo q s) (i:∀p∈s.obs,p.1≠n) (j:SC w' b (some g) c.head c.day c.off (waitsB c) (leftI c)) (l:c.cut<=9223372036854775807)
  (m:PtrMap w' g (setQ q n k) (insO s.obs (n,t,d))) (r:w'.heap[k]? =some (.cells #[.string t,.int .i64 d] 151 (0,0))) (u:∀o∈s.obs,w'.heap[q o.1]? =w.heap[q o.1]?):SIn w' b (some g) (setQ q n k) { c with obs:=insO s.obs (n,t,d) } :=by
 refine⟨j,Or.inr ⟨g,rfl,m⟩,fun o hm'=>?_,zm0 (o:=(n,t,d)) h.rise i,l⟩;rcases zg0.1 hm' with rfl | f
 ·rw[za0a];exact r
 ·rw[za0b _ _ (i o f)];exact(u o f).trans (h.objs o f)
end
end Go.Proofs.YtgckdomafbnmkaaGreatDoor
