/- By an AI agent. -/
import Derived.Test.YtgckdomafbnmkaaGreatDoorScanPc
set_option maxRecDepth 100000
set_option maxHeartbeats 16000000
namespace Go.Proofs.YtgckdomafbnmkaaGreatDoor
open Go.RowKit Go.Extern.Stop Go.Stop Go.Extern Go.Sort Go.Shelf Go.Lib
def pcText (p:Pc):ByteArray:=if p.2.1.data.toList= [45] then goneT p.2.2.2.2.1 else dataT p.2.2.2.1
def pcKnown (p:Pc):Fl×Nat:=ofF p.1 p.2.1 (pcText p).data.toList p.2.2.2.2.2
def pcPut (p:Pc):ByteArray:=if p.2.2.1.data.toList= [] then pcText p else p.2.2.1
def stepT (a:List Fl×St) (p:Pc):List Fl×St:=if (pcKnown p).2≠0\/0<=findF a.1 p.1 then a else (placeL a.1 (pcKnown p).1,putS a.2 p.1 (pcPut p))
def tabT (l:List Pc):List Fl×St:=l.foldl stepT ([],newS)
theorem za0n (l:List Pc) {n:Nat} (h:n<l.length):tabT (l.take (n+1))=stepT (tabT (l.take n)) l[n]:=by
 unfold tabT;rw[List.take_succ_eq_append_getElem h,List.foldl_append];rfl
theorem zs3 {p q:ByteArray} {s:List UInt8} {n:Int} (h:(ofF p q s n).2=0):(ofF p q s n).1.1=p/\(ofF p q s n).1.2.1=q:=by
 unfold ofF at h ⊢;split
 ·rename_i e;rw[e]at h;cases h
 ·rename_i g m e;rw[e]at h;dsimp only at h;split
  ·rename_i b;rw[if_pos b]at h;unfold chkF at h ⊢;split
   ·exact⟨rfl,rfl⟩
   ·rename_i c;rw[if_neg c]at h;exact absurd h c
  ·rename_i b;rw[if_neg b]at h;exact absurd h b
theorem za7u {p:Pc} (h:pcLong p=false):(pcText p).size<=1400:=by
 obtain⟨_,_,_,b,_,c⟩:=zs2 h;unfold pcText;split
 ·exact zc1n (by omega)
 ·exact zc1m (by omega)
theorem za7v {p:Pc} (h:pcLong p=false):(pcPut p).size<=1400:=by
 unfold pcPut;split
 ·exact za7u h
 ·have:=(zs2 h).2.2.1;omega
theorem za0o {b:List Fl} {f g:Fl} :g∈placeL b f↔g=f\/g∈b:=by
 unfold placeL;have h:g∈b↔g∈b.takeWhile (fun g=>decide (fk g<fk f))\/g∈b.dropWhile (fun g=>decide (fk g<fk f)):=by
  rw[<-List.mem_append,List.takeWhile_append_dropWhile]
 rw[List.mem_append,List.mem_cons,h];constructor
 ·rintro(h | h | h)
  ·exact Or.inr (Or.inl h)
  ·exact Or.inl h
  ·exact Or.inr (Or.inr h)
 ·rintro(h | h | h)
  ·exact Or.inr (Or.inl h)
  ·exact Or.inl h
  ·exact Or.inr (Or.inr h)
theorem zc1o (b:List Fl) (f:Fl):(placeL b f).length=b.length+1:=by
 unfold placeL;rw[List.length_append,List.length_cons,<-Nat.add_assoc,<-List.length_append,List.takeWhile_append_dropWhile]
theorem zc1p {s:St} (h:s.cut= -1) (n t:ByteArray):(putS s n t).cut= -1:=by
 unfold putS;split
 ·exact h
 ·unfold wrtS;rw[if_pos (by omega)];exact h
structure TabOk (a:List Fl×St) (n:Nat):Prop where
 keeps:Keeps a.2
 cut:a.2.cut= -1
 many:a.1.length<=n
 size:∀g∈a.1,g.1.size<=20/\g.2.1.size<=20
theorem zc1q {a:List Fl×St} {n:Nat} (h:TabOk a n) {p:Pc} (l:pcLong p=false):TabOk (stepT a p) (n+1):=by
 unfold stepT;by_cases b:(pcKnown p).2≠0\/0<=findF a.1 p.1
 ·rw[if_pos b];exact⟨h.keeps,h.cut,Nat.le_succ_of_le h.many,h.size⟩
 ·rw[if_neg b];have d:(pcKnown p).2=0:=by
   rcases Nat.eq_zero_or_pos (pcKnown p).2 with e | e
   ·exact e
   ·exact absurd (Or.inl (by omega)) b
  obtain⟨f,i⟩:=zs3 d;obtain⟨j,k,_⟩:=zs2 l;refine⟨zb6a h.keeps _ _,zc1p h.cut _ _,?_,fun g c=>?_⟩
  ·show (placeL a.1 _).length<=_;rw[zc1o];exact Nat.succ_le_succ h.many
  ·rcases za0o.1 c with rfl | c
   ·unfold pcKnown;rw[f,i];exact⟨j,k⟩
   ·exact h.size g c
theorem zs4 {l:List Pc} (b:∀p∈l,pcLong p=false):∀n,n<=l.length->TabOk (tabT (l.take n)) n
 | 0,_=>⟨zb5u,rfl,Nat.le_refl _,fun _ h=>(nomatch h)⟩
 | n+1,h=>by
  rw[za0n l (Nat.lt_of_succ_le h)];exact zc1q (zs4 b n (Nat.le_of_succ_le h)) (b _ (List.getElem_mem _))
def upE (EM:World->Prop) (n:Nat) (W:World):Prop:=EM W/\n<=W.heap.size
section
variable {a : Nat → Addr} {B : Nat} {EM : World → Prop} {SAt : World → Value → (Nat → Prop) → St → Prop}
theorem StoreK.up (K:StoreK a B EM SAt) {n:Nat} (h:B<=n):StoreK a n (upE EM n) SAt where
 below:=fun W W' hE hb=>⟨K.below W W' hE.1 (hb.mono h),Nat.le_trans hE.2 hb.size⟩
 size:=fun _ hE=>hE.2
 ptr:=K.ptr
 lt:=K.lt
 keep:=K.keep
 new:=fun W hE=>K.new W hE.1
 put:=fun W v FP s n t hE=>K.put W v FP s n t hE.1
 get:=fun W v FP s n hE=>K.get W v FP s n hE.1
theorem za7w {W n:World} {P:Nat->Prop} {v:Value} {l:List Fl} (h:FlsAt W v l) (q:l≠ []->∀k,v.ownBlock=some k->¬P k) (g:But P W n):FlsAt n v l:=by
 rcases h with h | ⟨b,o,c,m,p,f⟩
 ·exact Or.inl h
 ·by_cases i:l= []
  ·exact Or.inl ⟨some ⟨b,o,none⟩,c,by rw[m,i];rfl,fun e=>(nomatch e),i⟩
  ·have d:=q i b (by rw[m];rfl);exact Or.inr ⟨b,o,c,m,p,fun j hj=>⟨g.keep d (f j hj).1,g.keep d (f j hj).2.1,g.keep d (f j hj).2.2.1,g.keep d (f j hj).2.2.2.1,g.keep d (f j hj).2.2.2.2.1,g.keep d (f j hj).2.2.2.2.2⟩⟩
theorem zc1r {W:World} {v:Value} {f:List Fl} (h:FlsAt W v f) (d:f≠ []) {k:Nat} (e:v.ownBlock=some k):k<W.heap.size:=by
 rcases h with⟨_,_,_,_,g⟩|⟨b,o,c,i,l,j⟩
 ·exact absurd g d
 ·rw[i]at e;simp only[Value.ownBlock,Option.some.injEq]at e;rw[<-e];exact zb8 (j 0 (List.length_pos_iff.2 d)).1
structure TabI (EM:World->Prop) (SAt:World->Value->(Nat->Prop)->St->Prop) (B:Nat) (w W:World) (v:Value) (FP:Nat->Prop) (fs:List Fl) (s r:St) (b:Nat) (vf:Value):Prop where
 both:Both EM SAt B w W v FP s b r
 files:FlsAt W vf fs
 own:fs≠ []->∀k,vf.ownBlock=some k->¬FP k/\k≠b
theorem TabI.quiet (K:StoreK a B EM SAt) {w W w':World} {v:Value} {c:Nat->Prop} {d:List Fl} {s r:St} {b:Nat} {vf:Value} (h:TabI EM SAt B w W v c d s r b vf) (f:BL W w'):TabI EM SAt B w w' v c d s r b vf :=
 ⟨h.both.quiet K f,h.files.below f,h.own⟩
theorem TabI.placed (K:StoreK a B EM SAt) {w W w':World} {v:Value} {f:Nat->Prop} {i d:List Fl} {s r:St} {b:Nat} {vf c:Value} (h:TabI EM SAt B w W v f i s r b vf) (j:BL W w') (l:FlsAt w' c d) (g:NewF W c):TabI EM SAt B w w' v f d s r b c :=
 ⟨h.both.quiet K j,l,fun _ k hk=>⟨fun hF=>by have:=g k hk;have:=K.lt _ _ _ _ _ h.both.ok.at_ hF;omega,fun e=>by have:=g k hk;have:=h.both.mat.lt;omega⟩⟩
theorem TabI.prog (K:StoreK a B EM SAt) {w W w':World} {v:Value} {d:Nat->Prop} {f:List Fl} {s g r:St} {b:Nat} {vf:Value} (h:TabI EM SAt B w W v d f s r b vf) (m:SPost SAt W v d g w'):∃FP',TabI EM SAt B w w' v FP' f g r b vf:=by
 obtain⟨FP',i,j,l⟩:=h.both.prog K m;refine⟨FP',i,za7w h.files (fun hne k hk=>(h.own hne k hk).1) j,fun hne k hk=>⟨fun hF=>?_,(h.own hne k hk).2⟩⟩;rcases l k hF with c | c
 ·exact(h.own hne k hk).1 c
 ·have:=zc1r h.files hne hk;omega
theorem TabI.doc (K:StoreK a B EM SAt) {w W w':World} {v:Value} {c:Nat->Prop} {d:List Fl} {s r f:St} {b:Nat} {vf:Value} (h:TabI EM SAt B w W v c d s r b vf) (g:MPost W b f w'):TabI EM SAt B w w' v c d s f b vf :=
 ⟨h.both.doc K g,za7w h.files (fun hne k hk=>(h.own hne k hk).2) g.2.1,h.own⟩
def PcB (W:World) (b:Nat) (p:Pc) (vr vk:Value):Prop:=W.heap[b]? =some (.cells #[.string p.1,.string p.2.1,.string p.2.2.1,vr,vk,.int .i64 p.2.2.2.2.2] 71 (0,0))
theorem PcB.below {W c:World} {b:Nat} {p:Pc} {d f:Value} (h:PcB W b p d f) (g:BL W c):PcB c b p d f:=(g.block b (lt_of_block h)).trans h
theorem PcB.but {P:Nat->Prop} {W c:World} {b:Nat} {p:Pc} {d f:Value} (h:PcB W b p d f) (g:But P W c) (i:¬P b):PcB c b p d f:=(g.block b (lt_of_block h) i).trans h
theorem PcB.cells {W:World} {b:Nat} {p:Pc} {c d:Value} (h:PcB W b p c d):W.cell? ⟨b,0,none⟩=some (.string p.1)/\W.cell? ⟨b,1,none⟩=some (.string p.2.1)/\W.cell? ⟨b,2,none⟩=some (.string p.2.2.1)/\W.cell? ⟨b,3,none⟩=some c/\W.cell? ⟨b,4,none⟩=some d/\W.cell? ⟨b,5,none⟩=some (.int .i64 p.2.2.2.2.2):=by
 refine⟨?_,?_,?_,?_,?_,?_⟩<;>rw [cell_of_row _ _ _ _ _ _ h]<;>rfl
theorem zc1s (K:StoreK a B EM SAt) (v:Value) (l:List Pc) (w:World) (hE:EM w) (h:PcsAt w v l) (hs:pcsLong l=false) :
  Calls Tryz.prog 9 #[v] w fun e w'=> ∃vs FP b vf,e= .returned (.tuple #[vs,.pointer (some ⟨b,0,none⟩),vf])/\TabI (upE EM w.heap.size) SAt w.heap.size w w' vs FP (tabT l).1 (tabT l).2 (tabT l).2 b vf:=by
 have M:Hid (StoreK a w.heap.size (upE EM w.heap.size) SAt):=K.up (K.size w hE);obtain⟨q,ce,rfl⟩:=h.form;have HA:Hid (∀W,BL w W->PcsAt W (.slice q l.length ce) l):=fun W hb=>h.below hb;obtain⟨hl,bk⟩:=zc1i hs;have bs:Hid (∀p∈l,pcLong p=false):=bk;have bt:Hid (∀n,n<=l.length->TabOk (tabT (l.take n)) n):=zs4 bk;have ba:Hid (∀n (h:n<l.length),tabT (l.take (n+1))=stepT (tabT (l.take n)) l[n]):=fun n h=>za0n l h;have bd:Hid (tabT (l.take l.length)=tabT l):=by show _=_;rw[List.take_length]
 obtain⟨L,hL⟩:∃L,l.length=L:=⟨_,rfl⟩;have HX:Hid (l.length=L):=hL;rw[hL]at hl HA ⊢;clear hL h hs bk;have bu:=K.new w hE;have bv:Hid (∀W,BL w W->upE EM w.heap.size W):=fun W hb=>⟨K.below _ _ hE (hb.mono (K.size w hE)),hb.size⟩
 go_enter Tryz.func9,Tryz.ntmps9
 go_wp2_with fail
 refine bu.mono ?_;rintro e w1 ⟨vs,b6,rfl,bc,b7,bl⟩;clear bu;obtain⟨N,rfl⟩:=K.ptr _ _ _ _ bc;have bw:=zb6e w1
 go_wp2_with fail
 refine bw.mono ?_;rintro e w2 ⟨b,rfl,b8,cf,bm,bn⟩;clear bw;have be:BL w w2:=trB bl bn;have bx:Hid (TabI (upE EM w.heap.size) SAt w.heap.size w w2 (.pointer (some N)) b6 [] newS newS b (.slice none 0 0)) :=
  ⟨⟨⟨bv.out _ be,be,Nat.le_refl _,K.keep _ _ _ _ (fun _=>False) _ bc (But.of_below bn) (fun _ _ h=>h),b7⟩,b8,fun hF=>by have:=K.lt _ _ _ _ _ bc hF;omega,Nat.le_trans bl.size bm,fun _ _ hne=>absurd rfl hne⟩,Or.inl ⟨none,0,rfl,fun _=>rfl,rfl⟩,fun hne=>absurd rfl hne⟩
 clear bc b7 b8 cf bm bl bn be bv hE K;go_wp2
 go_loopw [7,8] (fun vf k wr=> ∃(n:Nat) (FP:Nat->Prop),n<=L/\k= .int .i64 n/\TabI (upE EM w.heap.size) SAt w.heap.size w wr (.pointer (some N)) FP (tabT (l.take n)).1 (tabT (l.take n)).2 (tabT (l.take n)).2 b vf) (fun _ k _=>L-(intOf k).toNat)
 case atStart=>exact ⟨0,b6,by omega,rfl,bx.out⟩
 case round =>
  clear bx;obtain⟨n,FP,hn,rfl,a3⟩:=hrel;by_cases cb:n<L
  case neg =>
   obtain rfl:n=L:=by omega
   have TI:Hid (TabI (upE EM w.heap.size) SAt w.heap.size w wr (.pointer (some N)) FP (tabT l).1 (tabT l).2 (tabT l).2 b u7):=by
    have h:=a3;rw[<-HX.out,bd.out]at h;exact h
   clear a3 HA bs bt ba bd M;go_wp2
   go_ret3
   exact⟨_,FP,b,u7,rfl,TI.out⟩
  have ax:n<l.length:=by rw[HX.out];exact cb
  have bf:=bt.out n (Nat.le_of_lt ax);have a6:=bs.out l[n] (List.getElem_mem _);have ai:Hid (tabT (l.take (n+1))=stepT (tabT (l.take n)) l[n]):=ba.out n ax;obtain⟨bq,oq,hq,hc⟩:=(HA.out wr a3.both.ok.frame).cells (fun e=>by rw[e]at ax;simp at ax);subst hq;obtain⟨vr,vk,hp⟩:=hc n ax;obtain⟨rq,rn,rc,rfl⟩:∃q n c,vr= .slice q n c:=by
   rcases hp.rows with⟨q,c,h1,_⟩|⟨b,o,c,h1,_⟩
   ·exact⟨_,_,_,h1⟩
   ·exact⟨_,_,_,h1⟩
  obtain⟨U,V,X,rfl⟩:∃q n c,vk= .slice q n c:=by
   rcases hp.keys with⟨q,c,h1,_⟩|⟨b,o,c,h1,_⟩
   ·exact⟨_,_,_,h1⟩
   ·exact⟨_,_,_,h1⟩
  obtain⟨A,b4⟩:∃A,tabT (l.take n)=A:=⟨_,rfl⟩;rw[b4]at bf ai a3;generalize l[n]=p at hp a6 ai;obtain⟨C,d⟩:=A;have TI:Hid (TabI (upE EM w.heap.size) SAt w.heap.size w wr (.pointer (some N)) FP C d d b u7):=a3;have I:Hid (TabOk (C,d) n):=bf;have bz:Hid (RowsAt wr (.slice rq rn rc) p.2.2.2.1):=hp.rows;have b0:Hid (KeysAt wr (.slice U V X) p.2.2.2.2.1):=hp.keys;have c0:=hp.path;have c1:=hp.part;have c2:=hp.other;have c3:=hp.crow;have c4:=hp.ckey;have c5:=hp.seq;have aj:Hid ((pcText p).size<=1400/\(pcPut p).size<=1400):=⟨za7u a6,za7v a6⟩;obtain⟨z1,z2,z3,z4,z5,z6⟩:=zs2 a6;have b1:Hid (∀x∈p.2.2.2.1,x.1.size<=30):=z5;have ch:(n:Int)<(L:Int):=by omega
  have cg:(0:Int)<=(n:Int):=by omega
  clear a3 bf hc hp a6 ax b4 z5;have a4:BL wr (wr.alloc (.cells #[.string p.1,.string p.2.1,.string p.2.2.1,(.slice rq rn rc),(.slice U V X),.int .i64 p.2.2.2.2.2] 71)):=alB _ _;have bg:Hid (PcB (wr.alloc (.cells #[.string p.1,.string p.2.1,.string p.2.2.1,(.slice rq rn rc),(.slice U V X),.int .i64 p.2.2.2.2.2] 71)) wr.heap.size p (.slice rq rn rc) (.slice U V X)):=heap_alloc_new _ _;have T5:Hid (TabI (upE EM w.heap.size) SAt w.heap.size w (wr.alloc (.cells #[.string p.1,.string p.2.1,.string p.2.2.1,(.slice rq rn rc),(.slice U V X),.int .i64 p.2.2.2.2.2] 71)) (.pointer (some N)) FP C d d b u7):=TI.out.quiet M.out a4;have R5:Hid (RowsAt (wr.alloc (.cells #[.string p.1,.string p.2.1,.string p.2.2.1,(.slice rq rn rc),(.slice U V X),.int .i64 p.2.2.2.2.2] 71)) (.slice rq rn rc) p.2.2.2.1):=bz.out.below a4;have K5:Hid (KeysAt (wr.alloc (.cells #[.string p.1,.string p.2.1,.string p.2.2.1,(.slice rq rn rc),(.slice U V X),.int .i64 p.2.2.2.2.2] 71)) (.slice U V X) p.2.2.2.2.1):=b0.out.below a4;have cc:∀P:Nat->Prop,(∀k,P k->k<wr.heap.size)->¬P wr.heap.size:=fun P h hP=>Nat.lt_irrefl _ (h _ hP);have bb:Hid (¬FP wr.heap.size/\wr.heap.size≠b):=⟨fun hF=>by have:=M.out.lt _ _ _ _ _ TI.out.both.ok.at_ hF;omega,fun e=>by have:=TI.out.both.mat.lt;omega⟩;clear a4 TI bz b0 cc
  go_upto_region 8 with fail
  generalize wr.alloc (.cells #[.string p.1,.string p.2.1,.string p.2.2.1,(.slice rq rn rc),(.slice U V X),.int .i64 p.2.2.2.2.2] 71)=w5 at *;generalize wr.heap.size=pb at *;clear c0 c1 c2 c3 c4 c5;obtain⟨D,E,i,F,G,H⟩:=bg.out.cells;have b2:=zc1k (.slice rq rn rc) p.2.2.2.1 w5 R5.out (by omega) b1.out
  go_wp2_with fail
  refine b2.mono ?_;rintro e w6 ⟨x6,y6,rfl,b9⟩;clear b2 D E i F G H R5 b1;have bh:BL w6 (w6.alloc (.cells #[.int .i64 x6,.int .i64 y6] 53)):=alB _ _;have a5:BL w5 (w6.alloc (.cells #[.int .i64 x6,.int .i64 y6] 53)):=trB b9 bh;have T7:Hid (TabI (upE EM w.heap.size) SAt w.heap.size w (w6.alloc (.cells #[.int .i64 x6,.int .i64 y6] 53)) (.pointer (some N)) FP C d d b u7):=T5.out.quiet M.out a5;have B7:Hid (PcB (w6.alloc (.cells #[.int .i64 x6,.int .i64 y6] 53)) pb p (.slice rq rn rc) (.slice U V X)):=bg.out.below a5;have K7:Hid (KeysAt (w6.alloc (.cells #[.int .i64 x6,.int .i64 y6] 53)) (.slice U V X) p.2.2.2.2.1):=K5.out.below a5;clear b9 bh a5 T5 bg K5
  go_upto_region 9 with fail
  generalize w6.alloc (.cells #[.int .i64 x6,.int .i64 y6] 53)=w7 at *;obtain⟨D,E,i,F,G,H⟩:=B7.out.cells;by_cases hP:p.2.1.data.toList= [45]
  case neg =>
   have bi:=za7 hP;have J:Hid (pcText p=dataT p.2.2.2.1):=by show _=_;unfold pcText;rw[if_neg hP]
   generalize dataT p.2.2.2.1=T at J ⊢;clear hP K7;obtain⟨w8,b5⟩:∃W,w7=W:=⟨_,rfl⟩;rw[b5]at T7 B7 D E i F G H ⊢;clear b5;have T8:=T7;have B8:=B7;clear T7 B7;have a7:T.size<=1400:=by have h:=aj.out.1;rw[J.out]at h;exact h
   have am:=zz5 p.1 p.2.1 T p.2.2.2.2.2 w8 (by omega) (by omega) (by unfold maxLen;omega);have O:Hid (pcKnown p=ofF p.1 p.2.1 T.data.toList p.2.2.2.2.2):=by show _=_;unfold pcKnown;rw[J.out]
   obtain⟨Y,hY⟩:∃Y,ofF p.1 p.2.1 T.data.toList p.2.2.2.2.2=Y:=⟨_,rfl⟩;have au:Hid (Y.2=0->Y.1.1=p.1):=fun h0=>by
    rw[<-hY]at h0 ⊢;exact(zs3 h0).1
   rw[hY]at am O;obtain⟨y,ec⟩:=Y;dsimp only at am au;unfold flV at am;clear hY
   go_wp2_with fail
   refine am.mono ?_;rintro e' w9 ⟨rfl,a1⟩;clear am D E i F G H bi;have ar:BL w9 (w9.alloc (.cells #[.string y.1,.string y.2.1,.int .i64 y.2.2.1,.int .i64 y.2.2.2.1,.int .i64 y.2.2.2.2.1,.int .i64 y.2.2.2.2.2] 43)):=alB _ _;have Y9:Hid (FlAt (w9.alloc (.cells #[.string y.1,.string y.2.1,.int .i64 y.2.2.1,.int .i64 y.2.2.2.1,.int .i64 y.2.2.2.2.1,.int .i64 y.2.2.2.2.2] 43)) w9.heap.size y):=FlAt.new w9 y;have T9:Hid (TabI (upE EM w.heap.size) SAt w.heap.size w (w9.alloc (.cells #[.string y.1,.string y.2.1,.int .i64 y.2.2.1,.int .i64 y.2.2.2.1,.int .i64 y.2.2.2.2.1,.int .i64 y.2.2.2.2.2] 43)) (.pointer (some N)) FP C d d b u7):=(T8.out.quiet M.out a1).quiet M.out ar;have B9:Hid (PcB (w9.alloc (.cells #[.string y.1,.string y.2.1,.int .i64 y.2.2.1,.int .i64 y.2.2.2.1,.int .i64 y.2.2.2.2.1,.int .i64 y.2.2.2.2.2] 43)) pb p (.slice rq rn rc) (.slice U V X)):=(B8.out.below a1).below ar;clear T8 B8 a1 ar
   go_upto_region 12 with fail
   generalize w9.alloc (.cells #[.string y.1,.string y.2.1,.int .i64 y.2.2.1,.int .i64 y.2.2.2.1,.int .i64 y.2.2.2.2.1,.int .i64 y.2.2.2.2.2] 43)=br at *;generalize w9.heap.size=yb at *;obtain⟨D,E,i,F,G,H⟩:=B9.out.cells;by_cases a8:ec=0
   case neg =>
    have r:Hid (tabT (l.take (n+1))=(C,d)):=by
     show _=_;rw[ai.out];unfold stepT;rw[if_pos (Or.inl (by rw[O.out];exact a8))]
    have cd:(0:Int)<(ec:Int):=by omega
    clear ai O au J a7 aj I B9 Y9;go_wp2;go_roundw
    case rel=>exact ⟨n+1,FP,by omega,by go_num,by rw[r.out];exact T9.out⟩
    case measure=>simp [intOf];omega
   have a9:((ec:Nat):Int)=0:=by omega
   rw[a9];clear a9;subst a8;have ay:Hid (y.1=p.1):=au.out rfl;clear au;have bj:=I.out.many;dsimp only at bj;have ak:=zx4 u7 C p.1 br T9.out.files (by omega);by_cases al:0<=findF C p.1
   case pos =>
    have r:Hid (tabT (l.take (n+1))=(C,d)):=by
     show _=_;rw[ai.out];unfold stepT;rw[if_pos (Or.inr al)]
    generalize findF C p.1=z at ak al;clear ai O J a7 aj I B9 Y9 ay
    go_wp2_with fail
    refine ak.mono ?_;rintro e bo ⟨rfl,rfl⟩;clear ak;go_wp2;go_roundw
    case rel=>exact ⟨n+1,FP,by omega,by go_num,by rw[r.out];exact T9.out⟩
    case measure=>simp [intOf];omega
   have r:Hid (tabT (l.take (n+1))=(placeL C y,putS d p.1 (pcPut p))):=by
    show _=_;rw[ai.out];unfold stepT;rw[if_neg (by rw[O.out];rintro(h | h);exact h rfl;exact al h),O.out]
   generalize findF C p.1=z at ak al;clear ai O
   go_wp2_with fail
   refine ak.mono ?_;rintro e bo ⟨rfl,rfl⟩;clear ak;obtain⟨f,aq⟩:∃t,pcPut p=t:=⟨_,rfl⟩;rw[aq]at r aj;have ca:=aj.out.2
   go_upto_region 13 with fail
   by_cases hS:p.2.2.1.data.toList= []
   case neg =>
    have av:=za7 hS;have aw:p.2.2.1.toList.isEmpty=false:=by rw[ByteArray.toList_eq];cases h:p.2.2.1.data.toList with | nil=>exact absurd h hS | cons _ _=>rfl
    have Q:f=p.2.2.1:=by
     rw[<-aq];unfold pcPut;rw[if_neg hS]
    clear aq aj hS J;rw[<-Q]at i av aw;clear Q;obtain⟨f0,f1,f2,f3,f4,f5,-⟩:=Y9.out.cells;have s:=zq9 u7 C y _ T9.out.files (by omega) (fun g hg=>by have:=(I.out.size g hg).1;omega) (by rw[ay.out];omega);unfold flV at s;generalize placeL C y=ah at s r
    go_upto_region 15 with fail
    clear D E i F G H av aw al
    go_wp2_with fail
    refine s.mono ?_;rintro e ab ⟨ac,rfl,ad,ae,j⟩;clear s f0 f1 f2 f3 f4 f5 Y9;have u:Hid (TabI (upE EM w.heap.size) SAt w.heap.size w ab (.pointer (some N)) FP ah d d b ac):=T9.out.placed M.out j ad ae;have R:Hid (PcB ab pb p (.slice rq rn rc) (.slice U V X)):=B9.out.below j;clear T9 B9 ad ae j;have an:=M.out.put ab (.pointer (some N)) FP d p.1 f u.out.both.ok.env u.out.both.ok.at_ I.out.keeps (by omega) (by omega);obtain⟨D,E,i,F,G,H⟩:=R.out.cells
    go_wp2_with fail
    refine an.mono ?_;rintro e af ⟨rfl,m⟩;clear an D E i F G H;have ao:Hid (PcB af pb p (.slice rq rn rc) (.slice U V X)):=by
     obtain⟨_,_,a0,_⟩:=m;exact R.out.but a0 bb.out.1
    obtain⟨Z,aa⟩:=u.out.prog M.out m;have S:Hid (TabI (upE EM w.heap.size) SAt w.heap.size w af (.pointer (some N)) Z ah (putS d p.1 f) d b ac):=aa;clear aa m u R;have ap:=zr7 b d p.1 f af S.out.both.mat I.out.keeps (by have:=I.out.cut;dsimp only at this;omega) (by unfold maxLen;omega) (by unfold maxLen;omega);obtain⟨D,E,i,F,G,H⟩:=ao.out.cells
    go_wp2_with fail
    refine ap.mono ?_;rintro e a2 ⟨rfl,ag⟩;clear ap D E i F G H ao;have az:Hid (TabI (upE EM w.heap.size) SAt w.heap.size w a2 (.pointer (some N)) Z ah (putS d p.1 f) (putS d p.1 f) b ac):=S.out.doc M.out ag;clear S ag I;generalize errV a (putC d p.1 f)=ev;generalize putC d p.1 f=pc;go_wp2;go_roundw
    case rel=>exact ⟨n+1,Z,by omega,by go_num,by rw[r.out];exact az.out⟩
    case measure=>simp [intOf];omega
   case pos =>
    have av:=za6 hS;have aw:p.2.2.1.toList.isEmpty=true:=by rw[ByteArray.toList_eq];rw[hS];rfl
    have Q:f=T:=by
     rw[<-aq];unfold pcPut;rw[if_pos hS];exact J.out
    clear aq aj hS J;rw[<-Q];clear Q;obtain⟨f0,f1,f2,f3,f4,f5,-⟩:=Y9.out.cells;have s:=zq9 u7 C y _ T9.out.files (by omega) (fun g hg=>by have:=(I.out.size g hg).1;omega) (by rw[ay.out];omega);unfold flV at s;generalize placeL C y=ah at s r
    go_upto_region 15 with fail
    clear D E i F G H av aw al
    go_wp2_with fail
    refine s.mono ?_;rintro e ab ⟨ac,rfl,ad,ae,j⟩;clear s f0 f1 f2 f3 f4 f5 Y9;have u:Hid (TabI (upE EM w.heap.size) SAt w.heap.size w ab (.pointer (some N)) FP ah d d b ac):=T9.out.placed M.out j ad ae;have R:Hid (PcB ab pb p (.slice rq rn rc) (.slice U V X)):=B9.out.below j;clear T9 B9 ad ae j;have an:=M.out.put ab (.pointer (some N)) FP d p.1 f u.out.both.ok.env u.out.both.ok.at_ I.out.keeps (by omega) (by omega);obtain⟨D,E,i,F,G,H⟩:=R.out.cells
    go_wp2_with fail
    refine an.mono ?_;rintro e af ⟨rfl,m⟩;clear an D E i F G H;have ao:Hid (PcB af pb p (.slice rq rn rc) (.slice U V X)):=by
     obtain⟨_,_,a0,_⟩:=m;exact R.out.but a0 bb.out.1
    obtain⟨Z,aa⟩:=u.out.prog M.out m;have S:Hid (TabI (upE EM w.heap.size) SAt w.heap.size w af (.pointer (some N)) Z ah (putS d p.1 f) d b ac):=aa;clear aa m u R;have ap:=zr7 b d p.1 f af S.out.both.mat I.out.keeps (by have:=I.out.cut;dsimp only at this;omega) (by unfold maxLen;omega) (by unfold maxLen;omega);obtain⟨D,E,i,F,G,H⟩:=ao.out.cells
    go_wp2_with fail
    refine ap.mono ?_;rintro e a2 ⟨rfl,ag⟩;clear ap D E i F G H ao;have az:Hid (TabI (upE EM w.heap.size) SAt w.heap.size w a2 (.pointer (some N)) Z ah (putS d p.1 f) (putS d p.1 f) b ac):=S.out.doc M.out ag;clear S ag I;generalize errV a (putC d p.1 f)=ev;generalize putC d p.1 f=pc;go_wp2;go_roundw
    case rel=>exact ⟨n+1,Z,by omega,by go_num,by rw[r.out];exact az.out⟩
    case measure=>simp [intOf];omega
  case pos =>
   have bi:=za6 hP;have J:Hid (pcText p=goneT p.2.2.2.2.1):=by show _=_;unfold pcText;rw[if_pos hP]
   have b3:=zc1l (.slice U V X) p.2.2.2.2.1 w7 K7.out (by omega);clear hP K7
   go_wp2_with fail
   refine b3.mono ?_;rintro e w8 ⟨x8,y8,rfl,bp⟩;clear b3 D E i F G H;have T8:Hid (TabI (upE EM w.heap.size) SAt w.heap.size w w8 (.pointer (some N)) FP C d d b u7):=T7.out.quiet M.out bp;have B8:Hid (PcB w8 pb p (.slice rq rn rc) (.slice U V X)):=B7.out.below bp;clear T7 B7 bp;obtain⟨D,E,i,F,G,H⟩:=B8.out.cells;generalize goneT p.2.2.2.2.1=T at J ⊢;have a7:T.size<=1400:=by have h:=aj.out.1;rw[J.out]at h;exact h
   have am:=zz5 p.1 p.2.1 T p.2.2.2.2.2 w8 (by omega) (by omega) (by unfold maxLen;omega);have O:Hid (pcKnown p=ofF p.1 p.2.1 T.data.toList p.2.2.2.2.2):=by show _=_;unfold pcKnown;rw[J.out]
   obtain⟨Y,hY⟩:∃Y,ofF p.1 p.2.1 T.data.toList p.2.2.2.2.2=Y:=⟨_,rfl⟩;have au:Hid (Y.2=0->Y.1.1=p.1):=fun h0=>by
    rw[<-hY]at h0 ⊢;exact(zs3 h0).1
   rw[hY]at am O;obtain⟨y,ec⟩:=Y;dsimp only at am au;unfold flV at am;clear hY
   go_wp2_with fail
   refine am.mono ?_;rintro e' w9 ⟨rfl,a1⟩;clear am D E i F G H bi;have ar:BL w9 (w9.alloc (.cells #[.string y.1,.string y.2.1,.int .i64 y.2.2.1,.int .i64 y.2.2.2.1,.int .i64 y.2.2.2.2.1,.int .i64 y.2.2.2.2.2] 43)):=alB _ _;have Y9:Hid (FlAt (w9.alloc (.cells #[.string y.1,.string y.2.1,.int .i64 y.2.2.1,.int .i64 y.2.2.2.1,.int .i64 y.2.2.2.2.1,.int .i64 y.2.2.2.2.2] 43)) w9.heap.size y):=FlAt.new w9 y;have T9:Hid (TabI (upE EM w.heap.size) SAt w.heap.size w (w9.alloc (.cells #[.string y.1,.string y.2.1,.int .i64 y.2.2.1,.int .i64 y.2.2.2.1,.int .i64 y.2.2.2.2.1,.int .i64 y.2.2.2.2.2] 43)) (.pointer (some N)) FP C d d b u7):=(T8.out.quiet M.out a1).quiet M.out ar;have B9:Hid (PcB (w9.alloc (.cells #[.string y.1,.string y.2.1,.int .i64 y.2.2.1,.int .i64 y.2.2.2.1,.int .i64 y.2.2.2.2.1,.int .i64 y.2.2.2.2.2] 43)) pb p (.slice rq rn rc) (.slice U V X)):=(B8.out.below a1).below ar;clear T8 B8 a1 ar
   go_upto_region 12 with fail
   generalize w9.alloc (.cells #[.string y.1,.string y.2.1,.int .i64 y.2.2.1,.int .i64 y.2.2.2.1,.int .i64 y.2.2.2.2.1,.int .i64 y.2.2.2.2.2] 43)=br at *;generalize w9.heap.size=yb at *;obtain⟨D,E,i,F,G,H⟩:=B9.out.cells;by_cases a8:ec=0
   case neg =>
    have r:Hid (tabT (l.take (n+1))=(C,d)):=by
     show _=_;rw[ai.out];unfold stepT;rw[if_pos (Or.inl (by rw[O.out];exact a8))]
    have cd:(0:Int)<(ec:Int):=by omega
    clear ai O au J a7 aj I B9 Y9;go_wp2;go_roundw
    case rel=>exact ⟨n+1,FP,by omega,by go_num,by rw[r.out];exact T9.out⟩
    case measure=>simp [intOf];omega
   have a9:((ec:Nat):Int)=0:=by omega
   rw[a9];clear a9;subst a8;have ay:Hid (y.1=p.1):=au.out rfl;clear au;have bj:=I.out.many;dsimp only at bj;have ak:=zx4 u7 C p.1 br T9.out.files (by omega);by_cases al:0<=findF C p.1
   case pos =>
    have r:Hid (tabT (l.take (n+1))=(C,d)):=by
     show _=_;rw[ai.out];unfold stepT;rw[if_pos (Or.inr al)]
    generalize findF C p.1=z at ak al;clear ai O J a7 aj I B9 Y9 ay
    go_wp2_with fail
    refine ak.mono ?_;rintro e bo ⟨rfl,rfl⟩;clear ak;go_wp2;go_roundw
    case rel=>exact ⟨n+1,FP,by omega,by go_num,by rw[r.out];exact T9.out⟩
    case measure=>simp [intOf];omega
   have r:Hid (tabT (l.take (n+1))=(placeL C y,putS d p.1 (pcPut p))):=by
    show _=_;rw[ai.out];unfold stepT;rw[if_neg (by rw[O.out];rintro(h | h);exact h rfl;exact al h),O.out]
   generalize findF C p.1=z at ak al;clear ai O
   go_wp2_with fail
   refine ak.mono ?_;rintro e bo ⟨rfl,rfl⟩;clear ak;obtain⟨f,aq⟩:∃t,pcPut p=t:=⟨_,rfl⟩;rw[aq]at r aj;have ca:=aj.out.2
   go_upto_region 13 with fail
   by_cases hS:p.2.2.1.data.toList= []
   case neg =>
    have av:=za7 hS;have aw:p.2.2.1.toList.isEmpty=false:=by rw[ByteArray.toList_eq];cases h:p.2.2.1.data.toList with | nil=>exact absurd h hS | cons _ _=>rfl
    have Q:f=p.2.2.1:=by
     rw[<-aq];unfold pcPut;rw[if_neg hS]
    clear aq aj hS J;rw[<-Q]at i av aw;clear Q;obtain⟨f0,f1,f2,f3,f4,f5,-⟩:=Y9.out.cells;have s:=zq9 u7 C y _ T9.out.files (by omega) (fun g hg=>by have:=(I.out.size g hg).1;omega) (by rw[ay.out];omega);unfold flV at s;generalize placeL C y=ah at s r
    go_upto_region 15 with fail
    clear D E i F G H av aw al
    go_wp2_with fail
    refine s.mono ?_;rintro e ab ⟨ac,rfl,ad,ae,j⟩;clear s f0 f1 f2 f3 f4 f5 Y9;have u:Hid (TabI (upE EM w.heap.size) SAt w.heap.size w ab (.pointer (some N)) FP ah d d b ac):=T9.out.placed M.out j ad ae;have R:Hid (PcB ab pb p (.slice rq rn rc) (.slice U V X)):=B9.out.below j;clear T9 B9 ad ae j;have an:=M.out.put ab (.pointer (some N)) FP d p.1 f u.out.both.ok.env u.out.both.ok.at_ I.out.keeps (by omega) (by omega);obtain⟨D,E,i,F,G,H⟩:=R.out.cells
    go_wp2_with fail
    refine an.mono ?_;rintro e af ⟨rfl,m⟩;clear an D E i F G H;have ao:Hid (PcB af pb p (.slice rq rn rc) (.slice U V X)):=by
     obtain⟨_,_,a0,_⟩:=m;exact R.out.but a0 bb.out.1
    obtain⟨Z,aa⟩:=u.out.prog M.out m;have S:Hid (TabI (upE EM w.heap.size) SAt w.heap.size w af (.pointer (some N)) Z ah (putS d p.1 f) d b ac):=aa;clear aa m u R;have ap:=zr7 b d p.1 f af S.out.both.mat I.out.keeps (by have:=I.out.cut;dsimp only at this;omega) (by unfold maxLen;omega) (by unfold maxLen;omega);obtain⟨D,E,i,F,G,H⟩:=ao.out.cells
    go_wp2_with fail
    refine ap.mono ?_;rintro e a2 ⟨rfl,ag⟩;clear ap D E i F G H ao;have az:Hid (TabI (upE EM w.heap.size) SAt w.heap.size w a2 (.pointer (some N)) Z ah (putS d p.1 f) (putS d p.1 f) b ac):=S.out.doc M.out ag;clear S ag I;generalize errV a (putC d p.1 f)=ev;generalize putC d p.1 f=pc;go_wp2;go_roundw
    case rel=>exact ⟨n+1,Z,by omega,by go_num,by rw[r.out];exact az.out⟩
    case measure=>simp [intOf];omega
   case pos =>
    have av:=za6 hS;have aw:p.2.2.1.toList.isEmpty=true:=by rw[ByteArray.toList_eq];rw[hS];rfl
    have Q:f=T:=by
     rw[<-aq];unfold pcPut;rw[if_pos hS];exact J.out
    clear aq aj hS J;rw[<-Q];clear Q;obtain⟨f0,f1,f2,f3,f4,f5,-⟩:=Y9.out.cells;have s:=zq9 u7 C y _ T9.out.files (by omega) (fun g hg=>by have:=(I.out.size g hg).1;omega) (by rw[ay.out];omega);unfold flV at s;generalize placeL C y=ah at s r
    go_upto_region 15 with fail
    clear D E i F G H av aw al
    go_wp2_with fail
    refine s.mono ?_;rintro e ab ⟨ac,rfl,ad,ae,j⟩;clear s f0 f1 f2 f3 f4 f5 Y9;have u:Hid (TabI (upE EM w.heap.size) SAt w.heap.size w ab (.pointer (some N)) FP ah d d b ac):=T9.out.placed M.out j ad ae;have R:Hid (PcB ab pb p (.slice rq rn rc) (.slice U V X)):=B9.out.below j;clear T9 B9 ad ae j;have an:=M.out.put ab (.pointer (some N)) FP d p.1 f u.out.both.ok.env u.out.both.ok.at_ I.out.keeps (by omega) (by omega);obtain⟨D,E,i,F,G,H⟩:=R.out.cells
    go_wp2_with fail
    refine an.mono ?_;rintro e af ⟨rfl,m⟩;clear an D E i F G H;have ao:Hid (PcB af pb p (.slice rq rn rc) (.slice U V X)):=by
     obtain⟨_,_,a0,_⟩:=m;exact R.out.but a0 bb.out.1
    obtain⟨Z,aa⟩:=u.out.prog M.out m;have S:Hid (TabI (upE EM w.heap.size) SAt w.heap.size w af (.pointer (some N)) Z ah (putS d p.1 f) d b ac):=aa;clear aa m u R;have ap:=zr7 b d p.1 f af S.out.both.mat I.out.keeps (by have:=I.out.cut;dsimp only at this;omega) (by unfold maxLen;omega) (by unfold maxLen;omega);obtain⟨D,E,i,F,G,H⟩:=ao.out.cells
    go_wp2_with fail
    refine ap.mono ?_;rintro e a2 ⟨rfl,ag⟩;clear ap D E i F G H ao;have az:Hid (TabI (upE EM w.heap.size) SAt w.heap.size w a2 (.pointer (some N)) Z ah (putS d p.1 f) (putS d p.1 f) b ac):=S.out.doc M.out ag;clear S ag I;generalize errV a (putC d p.1 f)=ev;generalize putC d p.1 f=pc;go_wp2;go_roundw
    case rel=>exact ⟨n+1,Z,by omega,by go_num,by rw[r.out];exact az.out⟩
    case measure=>simp [intOf];omega
end
theorem za7x (v:Value) (x y:Int) (w:World)
  (i:Calls Tryz.prog 63 #[v] (w.alloc (.cells #[.int .i64 x,.int .i64 y] 53)) fun e w'=>e= .returned (.tuple #[.int .i64 x,.int .i64 y])/\Below (w.alloc (.cells #[.int .i64 x,.int .i64 y] 53)).heap.size (w.alloc (.cells #[.int .i64 x,.int .i64 y] 53)) w') :
  Calls Tryz.prog 20 #[v,.agg #[.int .i64 x,.int .i64 y]] w fun e w'=>e= .returned (.bool true)/\BL w w':=by
 have c:BL w (w.alloc (.cells #[.int .i64 x,.int .i64 y] 53)):=alB _ _;have d:(w.alloc (.cells #[.int .i64 x,.int .i64 y] 53)).cell? ⟨w.heap.size,0,none⟩=some (.int .i64 x):=by simp
 have f:(w.alloc (.cells #[.int .i64 x,.int .i64 y] 53)).cell? ⟨w.heap.size,1,none⟩=some (.int .i64 y):=by simp
 go_enter Tryz.func20,Tryz.ntmps20
 go_wp2_with fail
 refine i.mono ?_;rintro e k ⟨rfl,b⟩;clear i;have l:=za0 b d;have m:=za0 b f;have g:BL w k:=trB c b;clear d f;by_cases j:x=0
 ·subst j;go_wp2;go_ret;exact⟨rfl,g⟩
 ·go_wp2;go_ret;exact⟨by simp,g⟩
theorem zc1t (n:Nat) (b:n<=12) (w:World) (a:Nat->Addr) (h:Errs w a) :
  Calls Tryz.prog 20 #[errV a n,.agg #[.int .i64 n,.int .i64 (-1)]] w fun e w'=>e= .returned (.bool true)/\BL w w' :=
 za7x _ _ _ w (zb5m n b _ a (h.below (alB _ _)))
theorem zc1u (n:Nat) (c:n≠0) (d:n<=12) (w:World) (a:Nat->Addr) (h:Errs w a) (b:Nat) (j:Int) (f:w.cell? ⟨b,0,none⟩=some (.int .i64 j)) (g:w.cell? ⟨b,1,none⟩=some (errV a n)) :
  Calls Tryz.prog 20 #[.iface 101 (.pointer (some ⟨b,0,none⟩)),.agg #[.int .i64 n,.int .i64 j]] w fun e w'=>e= .returned (.bool true)/\BL w w' :=
 za7x _ _ _ w (zb5n n c d _ a (h.below (alB _ _)) b j (za0 (alB _ _) f) (za0 (alB _ _) g))
theorem za7y (v:Value) (c:Int) (w:World) (w1:World->Prop)
  (d:Calls Tryz.prog 63 #[v] w fun e w'=>e= .returned (.tuple #[.int .i64 c,.int .i64 (-1)])/\w1 w') :
  Calls Tryz.prog 27 #[v,.int .i64 c] w fun e w'=>e= .returned (.bool true)/\w1 w':=by
 go_enter Tryz.func27,Tryz.ntmps27
 go_wp2_with (go_at_call 63;refine d.mono ?_;rintro e w' ⟨rfl,b⟩)
 go_ret;exact⟨by simp,b⟩
theorem zc1v (W:World) (a:Nat->Addr) (h:Errs W a) (n:Nat) (f:n<=12) :
  Calls Tryz.prog 27 #[errV a n,.int .i64 n] W fun e w'=>e= .returned (.bool true)/\BL W w':=by
 cases n with
 | zero =>
  refine(za7y .nilIface 0 W (fun w'=>w'=W) (za4q W)).mono fun e w' ⟨he,hw⟩=>⟨he,?_⟩;subst hw;exact Below.refl _ _
 | succ i =>
  have b:i<12:=by omega
  obtain⟨g,j,k⟩:=h.block i b;have c:codeNum i=((i+1:Nat):Int):=by unfold codeNum;rw[if_pos b];rfl
  have d:=za4u W a h (a i) g j k i (fun n f=>⟨fun e=>(h.inj i n b f e).symm,fun e=>e▸rfl⟩);rw[c]at d;exact za7y _ _ W _ d
theorem ToldE.same3 {W:World} {a:Nat->Addr} {b:Value} {c:Nat×Option Nat} (h:ToldE W a b c) (d:c.1<=12) (f:Errs W a) :
  Calls Tryz.prog 20 #[b,.agg #[.int .i64 c.1,.int .i64 (atZ c.2)]] W fun e w'=>e= .returned (.bool true)/\BL W w':=by
 obtain⟨n,o⟩:=c
 cases o with
 | none =>
  obtain rfl:b=errV a n:=h;exact zc1t n d W a f
 | some j =>
  obtain⟨g,i,rfl,k,l⟩:=h;exact zc1u n g d W a f i j k l
structure ScanK (a:Nat->Addr) (EM:World->Prop) (SAt:World->Value->(Nat->Prop)->St->Prop):Prop where
 rows:∀(W:World) (v:Value) (FP:Nat->Prop) (st:St) (s:Sn) (vf:Value) (lo hi:Int),EM W->SAt W v FP st->Keeps st->FlsAt W vf s.2.2.2.2.2.2->s.2.2.2.2.2.2.length<=100->Short s.2.2.2.2.2.2->Calls Tryz.prog 14 #[v,snV s vf,.int .i64 lo,.int .i64 hi] W fun e w'=> ∃v' ev,e= .returned (.tuple #[v',ev])/\RowsAt w' v' (rowsS st.obs s lo hi).1/\ToldE w' a ev (rowsS st.obs s lo hi).2/\BL W w'
 rows0:∀(W:World) (s:Sn) (vf:Value) (lo hi:Int),EM W->FlsAt W vf s.2.2.2.2.2.2->s.2.2.2.2.2.2.length<=100->Short s.2.2.2.2.2.2->Calls Tryz.prog 14 #[.pointer none,snV s vf,.int .i64 lo,.int .i64 hi] W fun e w'=> ∃v',e= .returned (.tuple #[v',errV a 3])/\BL W w'
structure EnvL (w:World) (a:Nat->Addr):Prop where
 file:EnvK w a
 miss:w.cell? ⟨2,0,none⟩=some (.iface 325 (.pointer (some (a 5))))
 exist:w.cell? ⟨8,0,none⟩=some (.iface 325 (.pointer (some (a 6))))
 full:w.cell? ⟨3,0,none⟩=some (.iface 325 (.pointer (some (a 7))))
 order:w.cell? ⟨5,0,none⟩=some (.iface 325 (.pointer (some (a 8))))
theorem EnvL.below {w w':World} {a:Nat->Addr} (h:EnvL w a) (b:BL w w'):EnvL w' a :=
 ⟨h.file.below b,za0 b h.miss,za0 b h.exist,za0 b h.full,za0 b h.order⟩
def orI (x y:Int):Int:=if x=0 then y else x
theorem zc1w (x y:Int) (b:Nat) (w:World) (i:w.cell? ⟨b,0,none⟩=some (.int .i64 x)) (j:w.cell? ⟨b,1,none⟩=some (.int .i64 y)) :
  Calls Tryz.prog 148 #[.slice (some ⟨b,0,none⟩) 2 2] w fun e w'=>e= .returned (.int .i64 (orI x y))/\w'=w:=by
 go_enter Tryz.func148,Tryz.ntmps148
 go_wp2
 go_loopw [8] (fun k wr=> ∃n:Nat,n<=2/\k= .int .i64 n/\(1<=n->x=0)/\(2<=n->y=0)/\wr=w) (fun k _=>2-(intOf k).toNat)
 case atStart=>exact ⟨0,by omega,rfl,fun h=>absurd h (by omega),fun h=>absurd h (by omega),rfl⟩
 case round =>
  obtain⟨n,g,rfl,c,d,rfl⟩:=hrel;obtain rfl | rfl | rfl:n=0\/n=1\/n=2:=by omega
  ·clear c d;by_cases c:x=0
   ·subst c;go_wp2;go_roundw
    case rel=>exact ⟨1,by omega,by go_num,by simp,by simp,by first | rfl | trivial⟩
    case measure=>simp [intOf]
   ·have f:(x == 0)=false:=beq_eq_false_iff_ne.2 c;go_wp2;go_ret;exact⟨by rw[orI,if_neg c];rfl,rfl⟩
  ·obtain rfl:=c (by omega);clear c d;by_cases d:y=0
   ·subst d;go_wp2;go_roundw
    case rel=>exact ⟨2,by omega,by go_num,by simp,by simp,by first | rfl | trivial⟩
    case measure=>simp [intOf]
   ·have f:(y == 0)=false:=beq_eq_false_iff_ne.2 d;go_wp2;go_ret;exact⟨rfl,rfl⟩
  ·obtain rfl:=c (by omega);obtain rfl:=d (by omega);clear c d;go_wp2;go_ret;exact⟨rfl,rfl⟩
theorem zc1x {p q:List UInt8} {g k:Bool} {n m:Int} (d:pathO p=some (g,n)) (f:pathO q=some (k,m)):orI (Lib.compareBytes (kindL g) (kindL k)) (Lib.compareInt n m)=Lib.compareInt (pk p) (pk q):=by
 obtain⟨b,i,j⟩:=ze8 d;obtain⟨c,l,o⟩:=ze8 f;rw[b,c];cases g<;>cases k
 ·rfl
 ·have:Lib.compareBytes (kindL false) (kindL true)= -1:=by decide
  rw[this];unfold Lib.compareInt orI;rw[if_neg (by decide),if_pos (by simp;omega)]
 ·have:Lib.compareBytes (kindL true) (kindL false)=1:=by decide
  rw[this];unfold Lib.compareInt orI;rw[if_neg (by decide),if_neg (by simp;omega),if_pos (by simp;omega)]
 ·have:Lib.compareBytes (kindL true) (kindL true)=0:=by decide
  rw[this];unfold Lib.compareInt orI;simp only[if_true];congr 1
  ·exact propext ⟨fun h=>by omega,fun h=>by omega⟩
  ·congr 1;exact propext ⟨fun h=>by omega,fun h=>by omega⟩
theorem zc1y (x y:Int):(0<=Lib.compareInt x y)↔y<=x:=by
 unfold Lib.compareInt;split
 ·constructor<;>intro h<;>omega
 ·split<;>constructor<;>intro h<;>omega
theorem zc1z (p q:ByteArray) (w:World) (a:Nat->Addr) (h:EnvN w a) (z:p.size<=100000) (A:q.size<=100000) (s:pathO p.data.toList≠none) (t:pathO q.data.toList≠none) :
  Calls Tryz.prog 133 #[.string p,.string q] w fun e w'=>e= .returned (.int .i64 (Lib.compareInt (pk p.data.toList) (pk q.data.toList)))/\BL w w':=by
 obtain⟨⟨g,n⟩,i⟩:=Option.ne_none_iff_exists'.1 s;obtain⟨⟨k,m⟩,b⟩:=Option.ne_none_iff_exists'.1 t;have d:=zl3 p w a h z;have f:=fun W (hW:EnvN W a)=>zl3 q W a hW A;rw[zd0 i]at d;rw[zd0 b]at f;rw[<-zc1x i b];have c:=fun W=>Tryz.strings_Compare (bytesOf (kindL g)) (bytesOf (kindL k)) W;rw[zc8,zc8]at c;have u:=fun W=>Tryz.cmp_Compare_int n m W;generalize Lib.compareBytes (kindL g) (kindL k)=X at c ⊢;generalize Lib.compareInt n m=Y at u ⊢;simp only[errV]at d f;generalize bytesOf (kindL g)=F at d c;generalize bytesOf (kindL k)=G at f c;clear i b s t z A
 go_enter Tryz.func133,Tryz.ntmps133
 go_wp2_with fail
 refine d.mono ?_;rintro e B ⟨rfl,j⟩;have b:=f B (h.below j);clear d f
 go_wp2_with fail
 refine b.mono ?_;rintro e C ⟨rfl,r⟩;clear b;have v:BL w C:=trB j r;clear j r
 go_wp2_with fail
 refine(c _).mono ?_;rintro e D ⟨rfl,rfl⟩;clear c
 go_wp2_with fail
 refine(u _).mono ?_;rintro e l ⟨rfl,rfl⟩;clear u;have y:BL l (l.alloc (.cells #[.int .i64 X,.int .i64 Y] 3)):=alB _ _;have o:=zc1w X Y l.heap.size (l.alloc (.cells #[.int .i64 X,.int .i64 Y] 3)) (by simp) (by simp)
 go_wp2_with fail
 refine o.mono ?_;rintro e E ⟨rfl,rfl⟩;clear o;go_wp2;go_ret;exact⟨rfl,(trB v y)⟩
theorem za7z {β:Type} (b:List β) (k:Nat) (d:β) (f:b.length=k+1) (g:k<b.length):b.getLastD d=b[k]:=by
 have c:b≠ []:=fun e=>by rw[e]at f;simp at f
 rw[List.getLastD_eq_getLast?,List.getLast?_eq_some_getLast c,Option.getD_some,List.getLast_eq_getElem];congr 1;omega
def behE (fs:List Fl) (f:Fl):Nat:=if fs≠ []/\fk f<=fk (fs.getLastD zeroF) then 9 else 0
theorem zc2a (v:Value) (c:List Fl) (f:Fl) (w:World) (a:Nat->Addr) (h:EnvL w a) (L:FlsAt w v c) (Z:c.length<=100000) (D:∀g∈c,g.1.size<=100000/\pathO g.1.data.toList≠none) (U:f.1.size<=100000) (E:pathO f.1.data.toList≠none) :
  Calls Tryz.prog 89 #[v,flV f] w fun e w'=>e= .returned (errV a (behE c f))/\BL w w':=by
 obtain⟨q,af,rfl⟩:=L.form;have l:BL w (w.alloc (.cells #[.string f.1,.string f.2.1,.int .i64 f.2.2.1,.int .i64 f.2.2.2.1,.int .i64 f.2.2.2.2.1,.int .i64 f.2.2.2.2.2] 43)):=alB _ _;have p:=FlAt.new w f;unfold flV;by_cases j:c= []
 ·have V:behE c f=0:=by unfold behE;rw[if_neg];rintro⟨J,_⟩;exact J j
  rw[V];subst j;simp only[errV];have hd:decide ((((0:Nat):Int)) > 0)=false:=by decide
  go_enter Tryz.func89,Tryz.ntmps89
  go_wp2
  all_goals
   go_quiet (fail)
   go_wp2;go_ret;exact⟨rfl,za4 l nq⟩
 ·obtain⟨b,o,rfl,O⟩:=L.cells j;obtain⟨k,G⟩:∃k,c.length=k+1:=⟨c.length-1,by have:=List.length_pos_iff.2 j;omega⟩;have u:k<c.length:=by omega
  have r:=za7z c k zeroF G u;obtain⟨P,Q⟩:=D c[k] (List.getElem_mem _);have B:=za0 l (O k u).1;have F:=p.cells.1;have d:Hid (∀W,BL w W->Calls Tryz.prog 133 #[.string c[k].1,.string f.1] W fun e w'=>e= .returned (.int .i64 (Lib.compareInt (fk c[k]) (fk f)))/\BL W w'):=fun W hW=>zc1z c[k].1 f.1 W a (h.below hW).file.env P U Q E;have M:Hid (behE c f=if fk f<=fk c[k] then 9 else 0):=by
   show _=_;unfold behE;rw[r];simp[j]
  have m:=zc1y (fk c[k]) (fk f);rw[M.out,G];have aa:k<=100000:=by omega
  clear M r P Q D O L j E Z;obtain⟨y,H,I,z,A,n⟩:=f;dsimp only at l p U F B d ⊢;generalize fk (y,H,I,z,A,n)=R at d m ⊢;generalize fk c[k]=S at d m ⊢;generalize c[k].1=T at B d;clear u G;generalize Lib.compareInt S R=C at d m;have N:(0:Int)<(k:Int)+1:=by omega
  have ab:(k:Int)<(k:Int)+1:=by omega
  have ac:(0:Int)<=(k:Int):=by omega
  have ad:IntKind.i64.wrap (k:Int)=(k:Int):=IntWalk.i64_in _ (by omega);have ae:decide ((k:Int)+1 > 0)=true:=decide_eq_true N;by_cases s:R<=S
  ·have X:(0:Int)<=C:=m.2 s;rw[if_pos s];simp only[errV]
   go_enter Tryz.func89,Tryz.ntmps89
   go_upto_region 1 with fail
   generalize w.alloc (.cells #[.string y,.string H,.int .i64 I,.int .i64 z,.int .i64 A,.int .i64 n] 43)=Y at l p F B ⊢
   go_region_held3 (fun w'=>w'.cell? ⟨b,o+k*6,none⟩=some (.string T)/\w'.cell? ⟨w.heap.size,0,none⟩=some (.string y)/\BL w w')
    (first
     | (go_split_ands;with_reducible exact⟨za0 i (by assumption),za0 i (by assumption),Below.trans (by assumption) (i.mono (Below.size (by assumption)))⟩)
     | (go_split_ands;exact⟨by go_keep,by go_keep,by assumption⟩)
     | (go_split_ands;exact⟨by go_keep,by go_keep,Below.drew (by assumption)⟩))
    (first
     | (go_at_call 133;with_reducible refine(d.out _ (by go_split_ands;assumption)).mono ?_;rintro e K ⟨rfl,i⟩))
   go_split_ands;have t:BL w K:=by assumption
   have ho:=(h.below t).order;go_wp2;go_ret;exact⟨rfl,t⟩
  ·have X:¬(0:Int)<=C:=fun J=>s (m.1 J);rw[if_neg s];simp only[errV]
   go_enter Tryz.func89,Tryz.ntmps89
   go_upto_region 1 with fail
   generalize w.alloc (.cells #[.string y,.string H,.int .i64 I,.int .i64 z,.int .i64 A,.int .i64 n] 43)=Y at l p F B ⊢
   go_region_held3 (fun w'=>w'.cell? ⟨b,o+k*6,none⟩=some (.string T)/\w'.cell? ⟨w.heap.size,0,none⟩=some (.string y)/\BL w w')
    (first
     | (go_split_ands;with_reducible exact⟨za0 i (by assumption),za0 i (by assumption),Below.trans (by assumption) (i.mono (Below.size (by assumption)))⟩)
     | (go_split_ands;exact⟨by go_keep,by go_keep,by assumption⟩)
     | (go_split_ands;exact⟨by go_keep,by go_keep,Below.drew (by assumption)⟩))
    (first
     | (go_at_call 133;with_reducible refine(d.out _ (by go_split_ands;assumption)).mono ?_;rintro e K ⟨rfl,i⟩))
   go_split_ands;have t:BL w K:=by assumption
   go_wp2;go_ret;exact⟨rfl,t⟩
theorem zc2b {b:List Fl} {n:Nat} (i:n<b.length) (g:fileE b[n]=0):behE (b.take n) b[n]=if fk b[n]<=ahead b n then 9 else 0:=by
 unfold behE
 cases n with
 | zero =>
  have:=za2u g;rw[if_neg (by simp),if_neg];show ¬fk b[0]<=0;omega
 | succ m =>
  have f:m<b.length:=by omega
  have c:(b.take (m+1)).length=m+1:=by rw[List.length_take];omega
  rw[za7z (b.take (m+1)) m zeroF c (by omega),zy0 f,List.getElem_take];have d:b.take (m+1)≠ []:=fun e=>by rw[e]at c;simp at c
  simp[d]
theorem zn1 (v:Value) (c:List Fl) (w:World) (a:Nat->Addr) (h:EnvL w a) (hx:FlsAt w v c) (hl:c.length<=100) (af:Short c) :
  Calls Tryz.prog 38 #[v] w fun e w'=> ∃ev,e= .returned ev/\ToldE w' a ev (listE c)/\BL w w':=by
 obtain⟨q,r,rfl⟩:=hx.form;have aa:Hid (FlsAt w (.slice q c.length r) c):=hx;have ab:Hid (Short c):=af;have ac:Hid (∀W,BL w W->EnvL W a):=fun W C=>h.below C;obtain⟨L,hL⟩:∃L,c.length=L:=⟨_,rfl⟩;have N:Hid (c.length=L):=hL;rw[hL]at hl ⊢;generalize hR:listE c=R;have HR:Hid (listE c=R):=hR;clear hL hx af hR;by_cases O:60<L
 ·have ah:R=(8,none):=by rw[<-HR.out];unfold listE;rw[if_pos (by rw[N.out];exact O)]
  subst ah;have hi:(60:Int)<(L:Int):=by omega
  have hf:=h.full
  go_enter Tryz.func38,Tryz.ntmps38
  go_wp2;go_ret;exact⟨_,rfl,rfl,Below.refl _ _⟩
 ·have P:Hid (R=lstG 0 c 0):=by
   show _=_;rw[<-HR.out];unfold listE;rw[if_neg (by rw[N.out];exact O)]
  have hi:¬(60:Int)<(L:Int):=by omega
  clear HR
  go_enter Tryz.func38,Tryz.ntmps38
  go_wp2
  go_loopw [12] (fun k wr=> ∃n:Nat,n<=L/\k= .int .i64 n/\LeftG c n/\(∀j (h:j<c.length),j<n->fileE c[j]=0)/\BL w wr) (fun k _=>L-(intOf k).toNat)
  case atStart=>exact ⟨0,by omega,rfl,za4x c,fun j h I=>absurd I (Nat.not_lt_zero _),Below.refl _ _⟩
  case round =>
   obtain⟨n,hn,rfl,ae,V,C⟩:=hrel;have J:Hid (LeftG c n):=ae;have ad:Hid (∀j (h:j<c.length),j<n->fileE c[j]=0):=V;clear ae V;by_cases ai:n<L
   ·have d:n<c.length:=by rw[N.out];exact ai
    have ag:n<=r/\L<=r:=by
     have:=aa.out.room.2 (fun e=>by rw[e]at d;simp at d);rw[N.out]at this;omega
    obtain⟨b,o,hq,hc⟩:=(aa.out.below C).cells (fun e=>by rw[e]at d;simp at d);subst hq;have HC:Hid (FlCells wr b o c):=hc;obtain⟨c0,c1,c2,c3,c4,c5⟩:=hc n d;obtain⟨k1,k2⟩:=ab.out c[n] (List.getElem_mem _);have y:=fun W (hW:EnvL W a)=>za4g c[n] W a hW.file (by omega) (by omega);have A:=fun e=>za4y J.out d e;have l:=fun e o=>za4z J.out d e o;have m:=fun e o=>za5a J.out d e o;have p:fileE c[n]=0->∀W,BL wr W->Calls Tryz.prog 89 #[.slice (some ⟨b,o,none⟩) n r,flV c[n]] W fun e w'=>e= .returned (errV a (if fk c[n]<=ahead c n then 9 else 0))/\BL W w':=fun he W hW=>by
     have I:=zc2a (.slice (some ⟨b,o,none⟩) n r) (c.take n) c[n] W a (ac.out W (trB C hW)) (zb8z (HC.out.below hW) (Nat.le_of_lt d) (by rw[N.out];exact ag.2)) (by rw[List.length_take];omega) (fun g hg=>by
      obtain⟨j,hj,rfl⟩:=List.mem_iff_getElem.1 hg;rw[List.length_take]at hj;rw[List.getElem_take];exact⟨by have:=(ab.out c[j] (List.getElem_mem _)).1;omega,zp5 (ad.out j (by omega) (by omega))⟩) (by omega) (zp5 he)
     rw[zc2b d he]at I;exact I
    have K:Hid (fileE c[n]=0->∀j (h:j<c.length),j<n+1->fileE c[j]=0):=fun he j hj hjn=>by
     by_cases e:j=n
     ·subst e;exact he
     ·exact ad.out j hj (by omega)
    unfold flV at y p;generalize fileE c[n]=E at y A l m p K;generalize fk c[n]=Z at l m p;generalize ahead c n=Y at l m p;generalize c[n]=f at c0 c1 c2 c3 c4 c5 y p k1 k2;have s:=zr8 wr f;have t:=zr9 wr f;unfold boxW at s t;obtain⟨X,fq,fn,D,F,u⟩:=f;dsimp only at c0 c1 c2 c3 c4 c5 y p k1 k2 s t;have ao:(n:Int)<(L:Int):=by omega
    have an:(0:Int)<=(n:Int):=by omega
    have ap:(n:Int)<=(r:Int):=by omega
    clear hc d HC
    go_upto_region 6 with fail
    clear c0 c1 c2 c3 c4 c5;generalize wr.alloc (.cells #[.string X,.string fq,.int .i64 fn,.int .i64 D,.int .i64 F,.int .i64 u] 43)=W5 at s t ⊢;have M:BL w W5:=trB C t;obtain⟨z0,z1,z2,z3,z4,z5,-⟩:=s.cells;dsimp only at z0 z1 z2 z3 z4 z5;have Q:=y W5 (ac.out W5 M);clear y
    go_wp2_with fail
    refine Q.mono ?_;rintro e w6 ⟨rfl,G⟩;clear Q z0 z1 z2 z3 z4 z5;have aj:BL w w6:=trB M G;have ak:BL wr w6:=trB t G;by_cases hE:E=0
    ·subst hE;replace l:=l rfl;replace m:=m rfl;have z:=p rfl;have al:Hid (∀j (h:j<c.length),j<n+1->fileE c[j]=0):=K.out rfl;obtain⟨z0,z1,z2,z3,z4,z5,-⟩:=(s.below G).cells;dsimp only at z0 z1 z2 z3 z4 z5;clear A p K s t G M;by_cases ho:Z<=Y
     ·rw[if_pos ho]at z;have B:Hid (R=(9,some n)):=by rw[P.out];exact l ho
      have S:Hid (∀W,BL wr W->Calls Tryz.prog 89 #[.slice (some ⟨b,o,none⟩) n r,.agg #[.string X,.string fq,.int .i64 fn,.int .i64 D,.int .i64 F,.int .i64 u]] W fun e w'=>e= .returned (errV a 9)/\BL W w'):=z;clear z l m;simp only[errV]
      go_upto_region 8 with fail
      go_region_held3 (fun w'=>w'.cell? ⟨wr.heap.size,0,none⟩=some (.string X)/\w'.cell? ⟨wr.heap.size,1,none⟩=some (.string fq)/\w'.cell? ⟨wr.heap.size,2,none⟩=some (.int .i64 fn)/\w'.cell? ⟨wr.heap.size,3,none⟩=some (.int .i64 D)/\w'.cell? ⟨wr.heap.size,4,none⟩=some (.int .i64 F)/\w'.cell? ⟨wr.heap.size,5,none⟩=some (.int .i64 u)/\BL wr w')
       (first
        | (go_split_ands;with_reducible exact⟨za0 i (by assumption),za0 i (by assumption),za0 i (by assumption),za0 i (by assumption),za0 i (by assumption),za0 i (by assumption),Below.trans (by assumption) (i.mono (Below.size (by assumption)))⟩)
        | (go_split_ands;exact⟨by go_keep,by go_keep,by go_keep,by go_keep,by go_keep,by go_keep,by assumption⟩)
        | (go_split_ands;exact⟨by go_keep,by go_keep,by go_keep,by go_keep,by go_keep,by go_keep,Below.drew (by assumption)⟩))
       (first
        | (go_at_call 89;with_reducible refine(S.out _ (by go_split_ands;assumption)).mono ?_;rintro e H ⟨rfl,i⟩))
      go_split_ands;have hX:BL wr H:=by assumption
      have T:BL w H:=trB C hX
      try simp only[errV]
      have U:BL H (H.alloc (.cells #[.int .i64 n,.iface 325 (.pointer (some (a 8)))] 103)):=alB _ _;go_wp2;go_ret;refine⟨_,rfl,?_,(trB T U)⟩;rw[B.out];exact⟨by simp,H.heap.size,rfl,by simp,by simp[errV]⟩
     ·rw[if_neg ho]at z;have am:Hid (LeftG c (n+1)):=m (by omega);have S:Hid (∀W,BL wr W->Calls Tryz.prog 89 #[.slice (some ⟨b,o,none⟩) n r,.agg #[.string X,.string fq,.int .i64 fn,.int .i64 D,.int .i64 F,.int .i64 u]] W fun e w'=>e= .returned (errV a 0)/\BL W w'):=z;clear z l m;simp only[errV]
      go_upto_region 8 with fail
      go_region_held3 (fun w'=>w'.cell? ⟨wr.heap.size,0,none⟩=some (.string X)/\w'.cell? ⟨wr.heap.size,1,none⟩=some (.string fq)/\w'.cell? ⟨wr.heap.size,2,none⟩=some (.int .i64 fn)/\w'.cell? ⟨wr.heap.size,3,none⟩=some (.int .i64 D)/\w'.cell? ⟨wr.heap.size,4,none⟩=some (.int .i64 F)/\w'.cell? ⟨wr.heap.size,5,none⟩=some (.int .i64 u)/\BL wr w')
       (first
        | (go_split_ands;with_reducible exact⟨za0 i (by assumption),za0 i (by assumption),za0 i (by assumption),za0 i (by assumption),za0 i (by assumption),za0 i (by assumption),Below.trans (by assumption) (i.mono (Below.size (by assumption)))⟩)
        | (go_split_ands;exact⟨by go_keep,by go_keep,by go_keep,by go_keep,by go_keep,by go_keep,by assumption⟩)
        | (go_split_ands;exact⟨by go_keep,by go_keep,by go_keep,by go_keep,by go_keep,by go_keep,Below.drew (by assumption)⟩))
       (first
        | (go_at_call 89;with_reducible refine(S.out _ (by go_split_ands;assumption)).mono ?_;rintro e H ⟨rfl,i⟩))
      go_split_ands;have hX:BL wr H:=by assumption
      have T:BL w H:=trB C hX
      try simp only[errV]
      go_wp2;go_roundw
      case rel=>exact ⟨n+1,by omega,by go_num,am.out,al.out,T⟩
      case measure=>simp [intOf];omega
    ·obtain⟨j,rfl⟩:∃j,E=j+1:=⟨E-1,by omega⟩;have B:Hid (R=(j+1,some n)):=by rw[P.out];exact A hE
     simp only[errV];clear A l m p K s t G M ak;have U:BL w6 (w6.alloc (.cells #[.int .i64 n,.iface 325 (.pointer (some (a j)))] 103)):=alB _ _;go_wp2;go_ret;refine⟨_,rfl,?_,(trB aj U)⟩;rw[B.out];exact⟨by simp,w6.heap.size,rfl,by simp,by simp[errV]⟩
   ·obtain rfl:n=L:=by omega
    have B:Hid (R=(0,none)):=by
     show _=_;rw[P.out];have I:=J.out;rw[<-N.out]at I;exact za5b I
    go_wp2;go_ret;refine⟨_,rfl,?_,C⟩;rw[B.out];rfl
def upB (n m:Int):Bool:=decide (0<=n) && decide (n<=m)
theorem za0p (n m:Int) (w:World):Calls Tryz.prog 139 #[.int .i64 n,.int .i64 m] w fun e w'=>e= .returned (.bool (upB n m))/\w'=w:=by
 by_cases c:0<=n
 ·by_cases d:n<=m
  ·have b:upB n m=true:=by simp[upB,c,d]
   rw[b]
   go_enter Tryz.func139,Tryz.ntmps139
   go_wp2;go_ret;exact⟨rfl,rfl⟩
  ·have b:upB n m=false:=by simp[upB,d]
   rw[b]
   go_enter Tryz.func139,Tryz.ntmps139
   go_wp2;go_ret;exact⟨rfl,rfl⟩
 ·have b:upB n m=false:=by simp[upB,c]
  rw[b]
  go_enter Tryz.func139,Tryz.ntmps139
  go_wp2;go_ret;exact⟨rfl,rfl⟩
theorem zc2c (s:Sn):sbndB s=(decide (1<=s.1) && (decide (s.1<=1073741824) && (decide (0<=s.2.1) && (decide (s.2.1<s.1) && (upB s.2.2.1 1073741824 && (upB s.2.2.2.1 100000 && upB s.2.2.2.2.1 1073741824)))))):=by
 unfold sbndB upB;simp only[Bool.and_assoc]
theorem zc2d (s:Sn) (vf:Value) (w:World) :
  Calls Tryz.prog 97 #[snV s vf] w fun e w'=>e= .returned (.bool (sbndB s))/\BL w w':=by
 have b:=zc2c s;generalize sbndB s=j at b ⊢;obtain⟨o,k,l,m,n,z,A⟩:=s;unfold snV;dsimp only at b ⊢;have c:BL w (w.alloc (.cells #[.int .i64 o,.int .i64 k,.int .i64 l,.int .i64 m,.int .i64 n,.string z,vf] 25)):=alB _ _;have d:=fun W=>za0p l 1073741824 W;have f:=fun W=>za0p m 100000 W;have g:=fun W=>za0p n 1073741824 W;by_cases t:1<=o
 case neg =>
  obtain rfl:j=false:=by rw[b];simp[t]
  clear b d f g
  go_enter Tryz.func97,Tryz.ntmps97
  go_wp2;go_ret;exact⟨rfl,c⟩
 by_cases u:o<=1073741824
 case neg =>
  obtain rfl:j=false:=by rw[b];simp[u]
  clear b d f g
  go_enter Tryz.func97,Tryz.ntmps97
  go_wp2;go_ret;exact⟨rfl,c⟩
 by_cases v:0<=k
 case neg =>
  obtain rfl:j=false:=by rw[b];simp[v]
  clear b d f g
  go_enter Tryz.func97,Tryz.ntmps97
  go_wp2;go_ret;exact⟨rfl,c⟩
 by_cases y:k<o
 case neg =>
  obtain rfl:j=false:=by rw[b];simp[y]
  clear b d f g
  go_enter Tryz.func97,Tryz.ntmps97
  go_wp2;go_ret;exact⟨rfl,c⟩
 cases p:upB l 1073741824
 case false =>
  obtain rfl:j=false:=by rw[b];simp[p]
  rw[p]at d;clear b
  go_enter Tryz.func97,Tryz.ntmps97
  go_wp2_with (go_at_call 139;first | (with_reducible refine(d _).mono ?_;rintro e i ⟨rfl,rfl⟩))
  go_ret;exact⟨rfl,c⟩
 rw[p]at d;cases q:upB m 100000
 case false =>
  obtain rfl:j=false:=by rw[b];simp[q]
  rw[q]at f;clear b
  go_enter Tryz.func97,Tryz.ntmps97
  go_wp2_with (go_at_call 139;first | (with_reducible refine(d _).mono ?_;rintro e i ⟨rfl,rfl⟩) | (with_reducible refine(f _).mono ?_;rintro e i ⟨rfl,rfl⟩))
  go_ret;exact⟨rfl,c⟩
 rw[q]at f;cases r:upB n 1073741824
 case false =>
  obtain rfl:j=false:=by rw[b];simp[r]
  rw[r]at g;clear b
  go_enter Tryz.func97,Tryz.ntmps97
  go_wp2_with (go_at_call 139;first | (with_reducible refine(d _).mono ?_;rintro e i ⟨rfl,rfl⟩) | (with_reducible refine(f _).mono ?_;rintro e i ⟨rfl,rfl⟩) | (with_reducible refine(g _).mono ?_;rintro e i ⟨rfl,rfl⟩))
  go_ret;exact⟨rfl,c⟩
 rw[r]at g;obtain rfl:j=true:=by rw[b];simp[t,u,v,y,p,q,r]
 clear b
 go_enter Tryz.func97,Tryz.ntmps97
 go_wp2_with (go_at_call 139;first | (with_reducible refine(d _).mono ?_;rintro e i ⟨rfl,rfl⟩) | (with_reducible refine(f _).mono ?_;rintro e i ⟨rfl,rfl⟩) | (with_reducible refine(g _).mono ?_;rintro e i ⟨rfl,rfl⟩))
 go_ret;exact⟨rfl,c⟩
theorem zc2e (c:ByteArray) (w:World) :
  Calls Tryz.prog 98 #[.string c] w fun e w'=>e= .returned (.bool (opB c.data.toList))/\w'=w:=by
 by_cases d:c.data.toList=kStart
 ·have b:opB c.data.toList=true:=by simp[opB,d]
  rw[b];have j:=za6 d;simp only[kStart]at j;clear b d
  go_enter Tryz.func98,Tryz.ntmps98
  go_wp2;go_ret;exact⟨rfl,rfl⟩
 have j:=za7 d;simp only[kStart]at j;by_cases f:c.data.toList=kAppend
 ·have b:opB c.data.toList=true:=by simp[opB,f]
  rw[b];have k:=za6 f;simp only[kAppend]at k;clear b f
  go_enter Tryz.func98,Tryz.ntmps98
  go_wp2;go_ret;exact⟨rfl,rfl⟩
 have k:=za7 f;simp only[kAppend]at k;by_cases g:c.data.toList=kDelete
 ·have b:opB c.data.toList=true:=by simp[opB,g]
  rw[b];have l:=za6 g;simp only[kDelete]at l;clear b g
  go_enter Tryz.func98,Tryz.ntmps98
  go_wp2;go_ret;exact⟨rfl,rfl⟩
 have l:=za7 g;simp only[kDelete]at l;by_cases i:c.data.toList=kRewrite
 ·have b:opB c.data.toList=true:=by simp[opB,i]
  rw[b];have m:=za6 i;simp only[kRewrite]at m;clear b i
  go_enter Tryz.func98,Tryz.ntmps98
  go_wp2;go_ret;exact⟨rfl,rfl⟩
 have m:=za7 i;simp only[kRewrite]at m;have b:opB c.data.toList=false:=by simp[opB,d,f,g,i]
 rw[b];clear b d f g i
 go_enter Tryz.func98,Tryz.ntmps98
 go_wp2;go_ret;exact⟨rfl,rfl⟩
theorem za8a (s:Sn) (vf:Value) (w:World) (a:Nat->Addr) (h:EnvL w a) (hx:FlsAt w vf s.2.2.2.2.2.2) (hl:s.2.2.2.2.2.2.length<=100) (ag:Short s.2.2.2.2.2.2) :
  Calls Tryz.prog 45 #[snV s vf] w fun e w'=> ∃ev,e= .returned ev/\ToldE w' a ev (snapE s)/\BL w w':=by
 have d:=@za6n s;have A:sbndB s=false->snapE s=(2,none):=fun e=>by unfold snapE;rw[if_pos e]
 have F:=fun W=>zc2d s vf W;have G:=fun W=>zc2e s.2.2.2.2.2.1 W;have B:=fun W (J:BL w W)=>zn1 vf s.2.2.2.2.2.2 W a (h.below J) (hx.below J) hl ag;have P:Hid (∀W,BL w W->EnvL W a):=fun W J=>h.below J;have Q:Hid (FlsAt w vf s.2.2.2.2.2.2):=hx;obtain⟨z,g,c,i,j,p,l⟩:=s;unfold snV at F ⊢;dsimp only at d A F G B Q hl ⊢;generalize hR:snapE (z,g,c,i,j,p,l)=R at d A ⊢;generalize ao:sbndB (z,g,c,i,j,p,l)=SB at d A F;generalize ap:opB p.data.toList=OB at d G;generalize aq:listE l=LE at d B;clear hR ao ap aq hx ag h;have H:BL w (w.alloc (.cells #[.int .i64 z,.int .i64 g,.int .i64 c,.int .i64 i,.int .i64 j,.string p,vf] 25)):=alB _ _;have C:SnAt (w.alloc (.cells #[.int .i64 z,.int .i64 g,.int .i64 c,.int .i64 i,.int .i64 j,.string p,vf] 25)) w.heap.size (z,g,c,i,j,p,l) vf:=SnAt.new w (z,g,c,i,j,p,l) vf;have K:=F (w.alloc (.cells #[.int .i64 z,.int .i64 g,.int .i64 c,.int .i64 i,.int .i64 j,.string p,vf] 25))
 go_enter Tryz.func45,Tryz.ntmps45
 go_wp2_with fail
 generalize w.alloc (.cells #[.int .i64 z,.int .i64 g,.int .i64 c,.int .i64 i,.int .i64 j,.string p,vf] 25)=WA at H C K ⊢;refine K.mono ?_;rintro e w1 ⟨rfl,ac⟩;clear F K;have q:BL w w1:=trB H ac;have r:=C.below ac;clear C ac H;cases SB
 case false =>
  obtain rfl:=A rfl;have et:=(P.out w1 q).file.env.bound;clear A d G B;go_wp2;go_ret;exact⟨_,rfl,rfl,q⟩
 case true =>
 clear A;replace d:=d rfl;have z5:=r.cells.2.2.2.2.2.1;dsimp only at z5;have S:=G w1;clear G
 go_wp2_with fail
 refine S.mono ?_;rintro e w2 ⟨rfl,rfl⟩;clear S z5;cases OB
 case false =>
  obtain rfl:=d.1 rfl;have et:=(P.out w2 q).file.kind;clear d B;go_wp2;go_ret;exact⟨_,rfl,rfl,q⟩
 case true =>
 obtain⟨Z,aa⟩:=d.2 rfl;clear d;have z6:=r.cells.2.2.2.2.2.2;have M:=B w2 q;clear B;obtain⟨qf,cf,al⟩:=Q.out.form;subst al;obtain⟨L,hL⟩:∃L,l.length=L:=⟨_,rfl⟩;have HL:Hid (l.length=L):=hL;rw[hL]at M z6 hl r;clear hL
 go_wp2_with fail
 refine M.mono ?_;rintro e w3 ⟨ev,rfl,ht,ad⟩;clear M z6;have T:BL w w3:=trB q ad;have E:=r.below ad;clear r ad q;by_cases U:LE.1=0
 case neg =>
  obtain rfl:=Z U;obtain⟨t,u,rfl⟩:=ht.bad U;have HT:Hid (ToldE w3 a (.iface t u) R):=ht;clear ht Z aa E;go_wp2;go_ret;exact⟨_,rfl,HT.out,T⟩
 case pos =>
 obtain rfl:=ht.ok U;have ae:Hid (R=seqG c l 0):=aa U;clear ht Z aa U;have z6:=E.cells.2.2.2.2.2.2;go_wp2
 go_loopw [24] (fun k wr=> ∃n:Nat,n<=L/\k= .int .i64 n/\SeqLeft c l n/\BL w wr/\SnAt wr w.heap.size (z,g,c,i,j,p,l) (.slice qf L cf)) (fun k _=>L-(intOf k).toNat)
 case atStart=>exact ⟨0,by omega,rfl,za6j c l,T,E⟩
 case round =>
  clear T E z6;obtain⟨n,hn,rfl,af,J,C⟩:=hrel;have V:Hid (SeqLeft c l n):=af;have ah:Hid (SnAt wr w.heap.size (z,g,c,i,j,p,l) (.slice qf L cf)):=C;clear af C;by_cases ai:n<L
  ·have m:n<l.length:=by rw[HL.out];exact ai
   obtain⟨b,o,hq,hc⟩:=(Q.out.below J).cells (fun e=>by rw[e]at m;simp at m);subst hq;obtain⟨c0,c1,c2,c3,c4,c5⟩:=hc n m;have v:=fun e=>za6k V.out m e;have y:=fun e=>za6l V.out m e;generalize l[n]=f at c0 c1 c2 c3 c4 c5 v y;have I:=zr8 wr f;have D:=zr9 wr f;unfold boxW at I D;obtain⟨fp,fq,fn,am,an,ab⟩:=f;dsimp only at c0 c1 c2 c3 c4 c5 v y I D;have au:(n:Int)<(L:Int):=by omega
   have ar:(0:Int)<=(n:Int):=by omega
   clear hc m
   go_upto_region 11 with fail
   clear c0 c1 c2 c3 c4 c5;generalize wr.alloc (.cells #[.string fp,.string fq,.int .i64 fn,.int .i64 am,.int .i64 an,.int .i64 ab] 43)=O at I D ⊢;have X:BL w O:=trB J D;have N:=ah.out.below D;have aj:Hid (SnAt O w.heap.size (z,g,c,i,j,p,l) (.slice (some ⟨b,o,none⟩) L cf)):=N;have z5:=I.cells.2.2.2.2.2.1;have y2:=N.cells.2.2.1;dsimp only at z5 y2;clear N I D;by_cases hz:c<ab
   ·have Y:Hid (R=(9,some n)):=by
     show _=_;rw[ae.out];exact v hz
    have et:=(P.out O X).order;have H:BL O (O.alloc (.cells #[.int .i64 n,.iface 325 (.pointer (some (a 8)))] 103)):=alB _ _;clear v y;go_wp2;go_ret;refine⟨_,rfl,?_,(trB X H)⟩;rw[Y.out];exact⟨by simp,O.heap.size,rfl,by simp,by simp[errV]⟩
   ·have ak:Hid (SeqLeft c l (n+1)):=y hz;clear v y;go_wp2;go_roundw
    case rel=>exact ⟨n+1,by omega,by go_num,ak.out,X,aj.out⟩
    case measure=>simp [intOf];omega
  ·obtain rfl:n=L:=by omega
   have Y:Hid (R=(0,none)):=by
    show _=_;rw[ae.out];have h':=V.out;rw[<-HL.out]at h';exact za6m h'
   go_wp2;go_ret;refine⟨_,rfl,?_,J⟩;rw[Y.out];rfl
theorem zc2f (v:Value) (c:List Fl) (lo hi:Int) (w:World) (hx:FlsAt w v c) (hl:c.length<=20000) :
  Calls Tryz.prog 47 #[v,.int .i64 lo,.int .i64 hi] w fun e w'=> ∃v',e= .returned v'/\FlsAt w' v' (c.filter (inP lo hi))/\BL w w':=by
 obtain⟨i0,T,U,V,M⟩:=Tryz.fileInfo;obtain⟨q,ad,rfl⟩:=hx.form;have aa:Hid (FlsAt w (.slice q c.length ad) c):=hx;obtain⟨L,hL⟩:∃L,c.length=L:=⟨_,rfl⟩;have HX:Hid (c.length=L):=hL;rw[hL]at hl ⊢;clear hL hx
 go_enter Tryz.func47,Tryz.ntmps47
 go_wp2
 go_loopw [7,12] (fun out k wr=> ∃n:Nat,n<=L/\k= .int .i64 n/\BL w wr/\wr.ownsRow w.heap.size 43 6 out (kept (inP lo hi) c n).length (flatF (kept (inP lo hi) c n))) (fun _ k _=>L-(intOf k).toNat)
 case atStart=>exact ⟨0,by omega,rfl,Below.refl _ _,by rw[za4o];exact World.ownsRow_nil _ _ _ _⟩
 case round =>
  obtain⟨n,hn,rfl,hb,X⟩:=hrel;have OW:Hid (wr.ownsRow w.heap.size 43 6 u7 (kept (inP lo hi) c n).length (flatF (kept (inP lo hi) c n))):=X;clear X;by_cases ab:n<L
  ·have G:n<c.length:=by rw[HX.out];exact ab
   obtain⟨b,o,hq,hc⟩:=(aa.out.below hb).cells (fun e=>by rw[e]at G;simp at G);subst hq;obtain⟨c0,c1,c2,c3,c4,c5⟩:=hc n G;have D:Hid ((kept (inP lo hi) c n).length<=L):=by
    show _<=_;have:=zx5 (inP lo hi) c n;omega
   have p:(kept (inP lo hi) c (n+1))=if (inP lo hi) c[n]=true then (kept (inP lo hi) c n)++ [c[n]] else (kept (inP lo hi) c n):=zi8 (inP lo hi) c n G;generalize c[n]=f at c0 c1 c2 c3 c4 c5 p;have O:=zr8 wr f;have K:=zr9 wr f;unfold boxW at O K;obtain⟨z,A,B,d,g,i⟩:=f;dsimp only at c0 c1 c2 c3 c4 c5 O K;have af:(n:Int)<(L:Int):=by omega
   have ae:(0:Int)<=(n:Int):=by omega
   clear hc G
   go_upto_region 5 with fail
   clear c0 c1 c2 c3 c4 c5;generalize wr.alloc (.cells #[.string z,.string A,.int .i64 B,.int .i64 d,.int .i64 g,.int .i64 i] 43)=N at O K ⊢;have y:BL w N:=trB hb K;have t:Hid (N.ownsRow w.heap.size 43 6 u7 (kept (inP lo hi) c n).length (flatF (kept (inP lo hi) c n))):=za2 OW.out K;obtain⟨z0,z1,z2,z3,z4,z5,-⟩:=O.cells;dsimp only at z0 z1 z2 z3 z4 z5;have E:BL N (N.alloc (.cells #[.string z,.string A,.int .i64 B,.int .i64 d,.int .i64 g,.int .i64 i] 43)):=alB _ _;have r:BL w (N.alloc (.cells #[.string z,.string A,.int .i64 B,.int .i64 d,.int .i64 g,.int .i64 i] 43)):=y.alloc y.size _;clear O K OW;have W:((d<lo/\hi<g/\lo<=hi)\/(d<lo/\hi<g/\¬lo<=hi))\/((d<lo/\¬hi<g/\lo<=g)\/(d<lo/\¬hi<g/\¬lo<=g))\/((¬d<lo/\hi<g/\d<=hi)\/(¬d<lo/\hi<g/\¬d<=hi))\/((¬d<lo/\¬hi<g/\d<=g)\/(¬d<lo/\¬hi<g/\¬d<=g)):=by omega
   rcases W with(F | F) | (F | F) | (F | F) | (F | F)<;>obtain ⟨P,Q,R⟩:=F
   ·have s:Hid ((kept (inP lo hi) c (n+1))=(kept (inP lo hi) c n)++ [(z,A,B,d,g,i)]):=by
     show _=_;rw[p,if_pos (by simp[inP,P,Q,R])]
    clear p
    go_wp2_with (at_builtin;refine wpList_append_own _ rfl _ _ 23 rfl w.heap.size 43 i0 (.agg #[.string ⟨#[]⟩,.string ⟨#[]⟩,.int .i64 0,.int .i64 0,.int .i64 0,.int .i64 0]) 6 64 Tryz.underlying23 T U V M rfl (by decide) u7 (kept (inP lo hi) c n).length (flatF (kept (inP lo hi) c n)) rfl ?qc0 ⟨N.heap.size,0,none⟩ 1 1 (encF (z,A,B,d,g,i)) rfl ?qc1 ?qc2 ?qc3 ?qc4 ?qc5 ?qc6 ?_)
    case qc0=>exact za2 t.out E
    case qc1=>rfl
    case qc2=>first | exact cells6 _ _ | exact fun j u hu=>hu
    case qc3=>exact zc5 _
    case qc4=>have:=D.out;unfold maxLen;omega
    case qc5=>have:=D.out;omega
    case qc6=>first | exact r.size | (have:=y.size;omega)
    intro v' J l m C;have H:BL w J:=r.grown m r.size (fun k hk=>by
     rcases t.out.2 with⟨e,_⟩|⟨g',S,Y,e,Z,_⟩
     ·rw[e]at hk;simp[Value.ownBlock]at hk
     ·rw[e]at hk;simp[Value.ownBlock]at hk;omega)
    have I:Hid (J.ownsRow w.heap.size 43 6 v' ((kept (inP lo hi) c n).length+1) (flatF (kept (inP lo hi) c n)++encF (z,A,B,d,g,i))):=l;clear l C m;go_wp2;go_roundw
    case rel=>exact ⟨n+1,by omega,by go_num,H,by rw[s.out,List.length_append,zb7];simpa [flatF] using I.out⟩
    case measure=>simp [intOf];omega
   ·have s:Hid ((kept (inP lo hi) c (n+1))=(kept (inP lo hi) c n)):=by
     show _=_;rw[p,if_neg (by simp[inP,P,Q,R])]
    clear p E r;go_wp2;go_roundw
    case rel=>exact ⟨n+1,by omega,by go_num,y,by rw[s.out];exact t.out⟩
    case measure=>simp [intOf];omega
   ·have s:Hid ((kept (inP lo hi) c (n+1))=(kept (inP lo hi) c n)++ [(z,A,B,d,g,i)]):=by
     show _=_;rw[p,if_pos (by simp[inP,P,Q,R])]
    clear p
    go_wp2_with (at_builtin;refine wpList_append_own _ rfl _ _ 23 rfl w.heap.size 43 i0 (.agg #[.string ⟨#[]⟩,.string ⟨#[]⟩,.int .i64 0,.int .i64 0,.int .i64 0,.int .i64 0]) 6 64 Tryz.underlying23 T U V M rfl (by decide) u7 (kept (inP lo hi) c n).length (flatF (kept (inP lo hi) c n)) rfl ?qc0 ⟨N.heap.size,0,none⟩ 1 1 (encF (z,A,B,d,g,i)) rfl ?qc1 ?qc2 ?qc3 ?qc4 ?qc5 ?qc6 ?_)
    case qc0=>exact za2 t.out E
    case qc1=>rfl
    case qc2=>first | exact cells6 _ _ | exact fun j u hu=>hu
    case qc3=>exact zc5 _
    case qc4=>have:=D.out;unfold maxLen;omega
    case qc5=>have:=D.out;omega
    case qc6=>first | exact r.size | (have:=y.size;omega)
    intro v' J l m C;have H:BL w J:=r.grown m r.size (fun k hk=>by
     rcases t.out.2 with⟨e,_⟩|⟨g',S,Y,e,Z,_⟩
     ·rw[e]at hk;simp[Value.ownBlock]at hk
     ·rw[e]at hk;simp[Value.ownBlock]at hk;omega)
    have I:Hid (J.ownsRow w.heap.size 43 6 v' ((kept (inP lo hi) c n).length+1) (flatF (kept (inP lo hi) c n)++encF (z,A,B,d,g,i))):=l;clear l C m;go_wp2;go_roundw
    case rel=>exact ⟨n+1,by omega,by go_num,H,by rw[s.out,List.length_append,zb7];simpa [flatF] using I.out⟩
    case measure=>simp [intOf];omega
   ·have s:Hid ((kept (inP lo hi) c (n+1))=(kept (inP lo hi) c n)):=by
     show _=_;rw[p,if_neg (by simp[inP,P,Q,R])]
    clear p E r;go_wp2;go_roundw
    case rel=>exact ⟨n+1,by omega,by go_num,y,by rw[s.out];exact t.out⟩
    case measure=>simp [intOf];omega
   ·have s:Hid ((kept (inP lo hi) c (n+1))=(kept (inP lo hi) c n)++ [(z,A,B,d,g,i)]):=by
     show _=_;rw[p,if_pos (by simp[inP,P,Q,R])]
    clear p
    go_wp2_with (at_builtin;refine wpList_append_own _ rfl _ _ 23 rfl w.heap.size 43 i0 (.agg #[.string ⟨#[]⟩,.string ⟨#[]⟩,.int .i64 0,.int .i64 0,.int .i64 0,.int .i64 0]) 6 64 Tryz.underlying23 T U V M rfl (by decide) u7 (kept (inP lo hi) c n).length (flatF (kept (inP lo hi) c n)) rfl ?qc0 ⟨N.heap.size,0,none⟩ 1 1 (encF (z,A,B,d,g,i)) rfl ?qc1 ?qc2 ?qc3 ?qc4 ?qc5 ?qc6 ?_)
    case qc0=>exact za2 t.out E
    case qc1=>rfl
    case qc2=>first | exact cells6 _ _ | exact fun j u hu=>hu
    case qc3=>exact zc5 _
    case qc4=>have:=D.out;unfold maxLen;omega
    case qc5=>have:=D.out;omega
    case qc6=>first | exact r.size | (have:=y.size;omega)
    intro v' J l m C;have H:BL w J:=r.grown m r.size (fun k hk=>by
     rcases t.out.2 with⟨e,_⟩|⟨g',S,Y,e,Z,_⟩
     ·rw[e]at hk;simp[Value.ownBlock]at hk
     ·rw[e]at hk;simp[Value.ownBlock]at hk;omega)
    have I:Hid (J.ownsRow w.heap.size 43 6 v' ((kept (inP lo hi) c n).length+1) (flatF (kept (inP lo hi) c n)++encF (z,A,B,d,g,i))):=l;clear l C m;go_wp2;go_roundw
    case rel=>exact ⟨n+1,by omega,by go_num,H,by rw[s.out,List.length_append,zb7];simpa [flatF] using I.out⟩
    case measure=>simp [intOf];omega
   ·have s:Hid ((kept (inP lo hi) c (n+1))=(kept (inP lo hi) c n)):=by
     show _=_;rw[p,if_neg (by simp[inP,P,Q,R])]
    clear p E r;go_wp2;go_roundw
    case rel=>exact ⟨n+1,by omega,by go_num,y,by rw[s.out];exact t.out⟩
    case measure=>simp [intOf];omega
   ·have s:Hid ((kept (inP lo hi) c (n+1))=(kept (inP lo hi) c n)++ [(z,A,B,d,g,i)]):=by
     show _=_;rw[p,if_pos (by simp[inP,P,Q,R])]
    clear p
    go_wp2_with (at_builtin;refine wpList_append_own _ rfl _ _ 23 rfl w.heap.size 43 i0 (.agg #[.string ⟨#[]⟩,.string ⟨#[]⟩,.int .i64 0,.int .i64 0,.int .i64 0,.int .i64 0]) 6 64 Tryz.underlying23 T U V M rfl (by decide) u7 (kept (inP lo hi) c n).length (flatF (kept (inP lo hi) c n)) rfl ?qc0 ⟨N.heap.size,0,none⟩ 1 1 (encF (z,A,B,d,g,i)) rfl ?qc1 ?qc2 ?qc3 ?qc4 ?qc5 ?qc6 ?_)
    case qc0=>exact za2 t.out E
    case qc1=>rfl
    case qc2=>first | exact cells6 _ _ | exact fun j u hu=>hu
    case qc3=>exact zc5 _
    case qc4=>have:=D.out;unfold maxLen;omega
    case qc5=>have:=D.out;omega
    case qc6=>first | exact r.size | (have:=y.size;omega)
    intro v' J l m C;have H:BL w J:=r.grown m r.size (fun k hk=>by
     rcases t.out.2 with⟨e,_⟩|⟨g',S,Y,e,Z,_⟩
     ·rw[e]at hk;simp[Value.ownBlock]at hk
     ·rw[e]at hk;simp[Value.ownBlock]at hk;omega)
    have I:Hid (J.ownsRow w.heap.size 43 6 v' ((kept (inP lo hi) c n).length+1) (flatF (kept (inP lo hi) c n)++encF (z,A,B,d,g,i))):=l;clear l C m;go_wp2;go_roundw
    case rel=>exact ⟨n+1,by omega,by go_num,H,by rw[s.out,List.length_append,zb7];simpa [flatF] using I.out⟩
    case measure=>simp [intOf];omega
   ·have s:Hid ((kept (inP lo hi) c (n+1))=(kept (inP lo hi) c n)):=by
     show _=_;rw[p,if_neg (by simp[inP,P,Q,R])]
    clear p E r;go_wp2;go_roundw
    case rel=>exact ⟨n+1,by omega,by go_num,y,by rw[s.out];exact t.out⟩
    case measure=>simp [intOf];omega
  ·obtain rfl:n=L:=by omega
   have ac:Hid (FlsAt wr u7 (c.filter (inP lo hi))):=by
    have h':=(zd3 OW.out).1;rw[<-HX.out,zx6]at h';exact h'
   go_wp2;go_ret;exact⟨_,rfl,ac.out,hb⟩
theorem zc2g (f:Fl) (p:ByteArray) (o:Nat) (w:World) (s:w.cell? ⟨o,0,none⟩=some (.string p)) :
  Calls Tryz.prog 103 #[flV f,.pointer (some ⟨o,0,none⟩)] w fun e w'=>e= .returned (.bool (decide (f.1=p)))/\BL w w':=by
 have b:BL w (w.alloc (.cells #[.string f.1,.string f.2.1,.int .i64 f.2.2.1,.int .i64 f.2.2.2.1,.int .i64 f.2.2.2.2.1,.int .i64 f.2.2.2.2.2] 43)):=alB _ _;have k:=(FlAt.new w f).cells.1;have d:=za0 b s;unfold flV;obtain⟨c,m,n,i,j,g⟩:=f;dsimp only at b k d ⊢;by_cases l:c=p
 ·subst l;have q:(c.toList == c.toList)=true:=by simp
  rw[decide_eq_true rfl]
  go_enter Tryz.func103,Tryz.ntmps103
  go_upto_region 1 with fail
  generalize w.alloc (.cells #[.string c,.string m,.int .i64 n,.int .i64 i,.int .i64 j,.int .i64 g] 43)=r at b k d ⊢;go_wp2;go_ret;exact⟨rfl,b⟩
 ·have q:(c.toList == p.toList)=false:=neBB (fun e=>l (zc1 e));rw[decide_eq_false l]
  go_enter Tryz.func103,Tryz.ntmps103
  go_upto_region 1 with fail
  generalize w.alloc (.cells #[.string c,.string m,.int .i64 n,.int .i64 i,.int .i64 j,.int .i64 g] 43)=r at b k d ⊢;go_wp2;go_ret;exact⟨rfl,b⟩
theorem zc2h (v:Value) (c:List Fl) (p:ByteArray) (C:Nat) (w:World) (H:FlsAt w v c) (hl:c.length<=20000) (V:w.cell? ⟨C,0,none⟩=some (.string p)) :
  Calls Tryz.prog 102 #[v,.func (.func 103) #[] #[.pointer (some ⟨C,0,none⟩)]] w fun e w'=>e= .returned (.int .i64 (findF c p))/\BL w w':=by
 have eg:∀args w,(callFunc 103 args).run Tryz.prog w= .ok (.enter 103 args) w:=enters_of Tryz.func103 (by kernel_rfl) rfl;obtain⟨q,P,rfl⟩:=H.form;have I:Hid (FlsAt w (.slice q c.length P) c):=H;have X:Hid (∀W,BL w W->W.cell? ⟨C,0,none⟩=some (.string p)):=fun W i=>za0 i V;obtain⟨L,E⟩:∃L,c.length=L:=⟨_,rfl⟩;have J:Hid (c.length=L):=E;rw[E]at hl ⊢;generalize U:findF c p=R;have K:Hid (findF c p=R):=U;clear E H U V
 go_enter Tryz.func102,Tryz.ntmps102
 go_wp2
 go_loopw [8] (fun k wr=> ∃n:Nat,n<=L/\k= .int .i64 n/\(∀j (h:j<c.length),j<n->c[j].1≠p)/\BL w wr) (fun k _=>L-(intOf k).toNat)
 case atStart=>exact ⟨0,by omega,rfl,fun j h h'=>absurd h' (Nat.not_lt_zero _),Below.refl _ _⟩
 case round =>
  obtain⟨n,hn,rfl,D,i⟩:=hrel;have m:Hid (∀j (h:j<c.length),j<n->c[j].1≠p):=D;clear D;by_cases M:n<L
  ·have g:n<c.length:=by rw[J.out];exact M
   obtain⟨b,o,Z,F⟩:=(I.out.below i).cells (fun e=>by rw[e]at g;simp at g);subst Z;obtain⟨t,u,y,z,A,B⟩:=F n g;have d:=zc2g c[n] p C wr (X.out wr i);have hi:(n:Int)<(L:Int):=by omega
   have Y:(0:Int)<=(n:Int):=by omega
   by_cases l:c[n].1=p
   ·have r:R=n:=by rw[<-K.out];exact zq7 g m.out l
    subst r;rw[decide_eq_true l]at d;unfold flV at d;clear F l;generalize c[n]=f at t u y z A B d;clear g;obtain⟨fp,fq,fn,Q,S,G⟩:=f;dsimp only at t u y z A B d
    go_wp2_with (go_at_fn 103;refine d.mono ?_;rintro e T ⟨rfl,s⟩)
    go_ret;exact⟨rfl,(trB i s)⟩
   ·have N:Hid (∀j (h:j<c.length),j<n+1->c[j].1≠p):=za4n m.out g l;rw[decide_eq_false l]at d;unfold flV at d;clear F l;generalize c[n]=f at t u y z A B d;clear g;obtain⟨fp,fq,fn,Q,S,G⟩:=f;dsimp only at t u y z A B d
    go_wp2_with (go_at_fn 103;refine d.mono ?_;rintro e T ⟨rfl,s⟩)
    have O:BL w T:=trB i s;go_roundw
    case rel=>exact ⟨n+1,by omega,by go_num,N.out,O⟩
    case measure=>simp [intOf];omega
  ·obtain rfl:n=L:=by omega
   have r:R= -1:=by rw[<-K.out];exact zq8 (fun j hj=>m.out j hj (by rw[<-J.out];exact hj))
   subst r;go_wp2;go_ret;exact⟨rfl,i⟩
theorem za0q (v:Value) (c:List Fl) (p:ByteArray) (w:World) (f:FlsAt w v c) (i:c.length<=20000) :
  Calls Tryz.prog 49 #[v,.string p] w fun e w'=>e= .returned (.int .i64 (findF c p))/\BL w w':=by
 have d:BL w (w.alloc (.cells #[.string p] 9)):=alB _ _;have b:=zc2h v c p w.heap.size (w.alloc (.cells #[.string p] 9)) (f.below d) i (by simp);obtain⟨q,j,rfl⟩:=f.form;generalize c.length=L at b ⊢;clear f
 go_enter Tryz.func49,Tryz.ntmps49
 go_wp2_with fail
 refine b.mono ?_;rintro e k ⟨rfl,g⟩;clear b;go_wp2;go_ret;exact⟨rfl,(trB d g)⟩
end Go.Proofs.YtgckdomafbnmkaaGreatDoor
