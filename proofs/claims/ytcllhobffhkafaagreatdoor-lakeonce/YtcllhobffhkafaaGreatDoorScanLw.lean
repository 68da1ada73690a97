/- By an AI agent. -/
import Derived.Test.YtcllhobffhkafaaGreatDoorExpBin
import Derived.Test.YtcllhobffhkafaaGreatDoorLkwPure
set_option maxRecDepth 100000
set_option maxHeartbeats 16000000
open Go.Proofs.Tryz
open Go renaming World->A,Value->Qa,Calls->Qc,cell_of_row->Qh,heap_alloc_new->Ql,callsIn_wide->Qq,lt_of_block->Qy,heap_setCell_same->Q9
open Go.Ending renaming returned->V
open Go.Fence renaming wide->Qf
open Go.Obj renaming cells->J
open Go.Proofs.Tryz renaming prog->H,func92->Qt
open Go.RowKit renaming Hid->Z
open Go.RowKit.Below renaming refl->Qg,size->Qp,trans->Q6,drew->Q7,alloc->Q8
open Go.Value renaming pointer->I,string->S,slice->G,int->Qb,iface->Qi,nilIface->Qj,tuple->Qm
open Go.World.ownsRow renaming mono->Qs
open List renaming length_map->Qk,mem_iff_getElem->Qo,map_map->Qr,mem_map->Qu,length_filter_le->Qv,mem_filter->Qw,getElem_mem->Qx,pairwise_map->Qz,size_toArray->Q0,length_cons->Q1,mem_cons_self->Q3,length_append->Q4,mem_append->Q5
open Nat renaming le_trans->Qn,le_refl->Q2
open Option renaming some->O,none->U
open Or renaming inl->Qd,inr->Qe
namespace Go.Proofs.YtcllhobffhkafaaGreatDoor
open Go.Sort
section
open Go.Maps Go.RowKit Go.Shelf
theorem Tryz.sortsItO (m:Nat):AnyZ.SortsIn H sortedO_ren Qf m :=
 ⟨fun blk off cap ss W hH hblk hsz=>Qq.2 (AnyM.slices_Sort_string sortO blk off cap ss W hH hblk hsz),
  fun p cap W=>Qq.2 (AnyM.slices_Sort_string_none sortO p cap W)⟩
theorem Tryz.mapsKeysO (b:Option Nat) (W:A):CallsIn Qf 5 H 167 #[.map b] W fun e w'=>e=V (.func (.func 257) #[] #[I (O ⟨W.heap.size,0,U⟩)])/\w'=W.alloc (J #[.map b] 68) :=
 AnyZ.keys_in keysO Qf 5 trivial rfl b W
def GZ (l:List Ob):List (List UInt8):=l.map fun o=>o.1.data.toList
theorem uC (q:ByteArray->Nat) (l:List Ob):strKeys (Cf q l)=GZ l:=by simp[strKeys,Cf,GZ,BJ,strOf]
theorem uD {l:List Ob} (j:DR l) {d:List (List UInt8)} (k:d.Perm (GZ l)):d.mergeSort (fun x y=>decide (x<=y))=GZ l:=by
 have f:(GZ l).Pairwise fun x y=>x<=y:=by
  unfold GZ;rw[Qz];exact j.imp fun h=>List.le_of_lt h
 have g:=List.pairwise_mergeSort (le:=fun x y:List UInt8=>decide (x<=y)) (fun a b c f g=>by simp only[decide_eq_true_eq]at *;exact List.le_trans f g) (fun a b=>by simp only[Bool.or_eq_true,decide_eq_true_eq];exact List.le_total a b) d;have i:(d.mergeSort (fun x y=>decide (x<=y))).Pairwise fun x y=>x<=y:=g.imp fun h=>by simpa using h
 exact((List.mergeSort_perm _ _).trans k).eq_of_pairwise (fun a b _ _ h h'=>List.le_antisymm h h') i f
theorem uE (l:List Ob):(GZ l).map encStr=(l.map fun o=>o.1).map S:=by
 unfold GZ;rw[Qr,Qr];apply List.map_congr_left;intro o _;simp[encStr]
theorem uF (k:Option Nat) (q:ByteArray->Nat) (l:List Ob) (w:A) (h:GW w k q l) (F:DR l) (K:l.length<=200) :
  CallsIn Qf 5 H 166 #[.func (.func 257) #[] #[I (O ⟨w.heap.size,0,U⟩)]] (w.alloc (J #[.map k] 68)) fun e w'=> ∃v,e=V v/\w'.ownsRow w.heap.size 9 1 v (l.map fun o=>o.1).length ((l.map fun o=>o.1).map S)/\BL w w':=by
 have n:BL w (w.alloc (J #[.map k] 68)):=Af _ _;have d:∃N,N<=200/\SeqGives Qf 2 H 257 #[I (O ⟨w.heap.size,0,U⟩)] encStr (fun i=>i.Perm (GZ l)) N (w.alloc (J #[.map k] 68)):=by
  rcases h with⟨rfl,rfl⟩|⟨b,rfl,j⟩
  ·refine⟨0,by decide,?_⟩;have g:SeqGives Qf 2 H 257 #[I (O ⟨w.heap.size,0,U⟩)] encStr (fun i:List (List UInt8)=>i= []) 0 (w.alloc (J #[.map U] 68)) :=
    AnyZ.keys_gives_nil (ρ:=keysO_ren) { keysO with } Qf _ trivial rfl w.heap.size _ (by simp) (by simp)
   intro r c W u y z B;refine(g r c W u y z B).mono ?_;rintro e M ⟨C,i,rfl,s⟩;exact⟨C, [],List.Perm.nil,s⟩
  ·refine⟨Maps.size (Cf q l),by rw[Mp];exact K,?_⟩;rw[<-uC q l];exact AnyZ.keys_gives (ρ:=keysO_ren) { keysO with } Qf _ trivial rfl (by omega) w.heap.size b l.length (Cf q l) _ (by simp) (by simp) (j.keep (Below.heap_alloc _ _ b j.lt))
 obtain⟨N,L,d⟩:=d;have p:=AnyZ.sorted_in sortedO Qf 5 trivial trivial trivial trivial rfl (by omega) (Tryz.sortsItO _) (enters_of func87 (by kernel_rfl) rfl) 257 #[I (O ⟨w.heap.size,0,U⟩)] trivial (enters_of func257 (by kernel_rfl) rfl) _ N (by unfold maxLen;omega) (by omega) _ d;change CallsIn _ _ H 166 _ _ _ at p;refine p.mono ?_;rintro e w' ⟨v,i,rfl,t,f,D,E⟩;refine⟨v,rfl,?_,n.trans (E.mono (by simp))⟩;rw[uD F t,uE]at f;have m:i.length=(l.map fun o=>o.1).length:=by rw[t.length_eq];simp[GZ]
 rw[m]at f;exact Qs f (by simp)
theorem VA {w:A} {b:Nat} {c:Option Nat} {q:ByteArray->Nat} {s:St} (h:Be w b c q s) (j:AR s):Qc H 91 #[I (O ⟨b,0,U⟩)] w fun e w'=> ∃v,e=V v/\w'.ownsRow w.heap.size 9 1 v (s.obs.map fun o=>o.1).length ((s.obs.map fun o=>o.1).map S)/\BL w w':=by
 have m:=h.block.cells.1;have d:=uF c q s.obs w h.map h.rise j.many;have f:=Tryz.mapsKeysO c w;refine(Qq (n:=6)).1 ?_;have k:Fence.wide.fn 167:=trivial;have l:Fence.wide.fn 166:=trivial;refine callsIn_of_wp func91 rfl trivial ?_ rfl;simp only[ntmps91,Q0,Q1,List.length_nil,Nat.reduceAdd,Nat.reduceSub,Array.replicate_succ,Array.replicate_zero,List.push_toArray,List.append_toArray,List.nil_append,List.cons_append]
 gi_wp2_with (first
  | (gi_at_call 167;refine f.mono ?_;rintro e w' ⟨rfl,rfl⟩)
  | (gi_at_call 166;refine d.mono ?_;rintro e w' ⟨v,rfl,g,i⟩))
 go_ret;exact⟨v,rfl,g,i⟩
theorem uG {w:A} {b:Nat} {c:Option Nat} {q:ByteArray->Nat} {s:St} (h:Be w b c q s) (d:AR s):Qc H 91 #[I (O ⟨b,0,U⟩)] w fun e w'=> ∃v,e=V v/\Ez w' v (s.obs.map fun o=>o.1)/\BL w w' :=
 (VA h d).mono fun _ _ ⟨v,he,ho,hb⟩=>⟨v,he,KC ho,hb⟩
end
section
open Go.Extern Go.Extern.Stop Go.Lib Go.Maps Go.RowKit Go.Shelf Go.Stop
theorem uH (x:ByteArray) (t:x.size<=maxLen) (f g i j:Nat) (k:Qa) (d:List ByteArray) (age:Int) {W:A} {b:Nat} {u:Option Nat} {q:ByteArray->Nat} {s:St} (v:Be W b u q s) (K:AR s) (y:KP s) (N:W.cell? ⟨f,0,U⟩=O k) (p:Ez W k d) (z:P2 d) (B:d.length<=20000) (Q:W.cell? ⟨g,0,U⟩=O (Qb .i64 s.day)) (R:W.cell? ⟨i,0,U⟩=O (I (O ⟨b,0,U⟩))) (T:W.cell? ⟨j,0,U⟩=O (Qb .i64 age)) :
  FnGives H 92 #[I (O ⟨f,0,U⟩),I (O ⟨g,0,U⟩),I (O ⟨i,0,U⟩),I (O ⟨j,0,U⟩)] #[S x] (.bool (KQ s d age x)) W:=by
 show Qc H 92 #[S x,I (O ⟨f,0,U⟩),I (O ⟨g,0,U⟩),I (O ⟨i,0,U⟩),I (O ⟨j,0,U⟩)] W _;have c:=uB k d x W p B z;have l:=fun W' (hb:BL W W')=>UJ (v.keep (Ac.of_below (P:=fun _=>False) hb) (fun _ _ h=>h)) x t;obtain⟨D,E⟩:=lT y x;obtain⟨F,L⟩:0<=s.day/\s.day<=100000:=⟨K.day0,K.day1⟩;unfold KQ;obtain⟨M,C,rfl⟩:=p.form;cases o:BI d x
 case true =>
  rw[o]at c
  go_enter Qt,ntmps92
  go_wp2_with fail
  refine c.mono ?_;rintro e r ⟨n,rfl,rfl⟩;go_wp2
  go_quiet (fail)
  go_wp2;go_ret;exact⟨rfl,nq,rfl⟩
 case false =>
  rw[o]at c;have m:Z _:=l
  go_enter Qt,ntmps92
  go_wp2_with fail
  refine c.mono ?_;rintro e r ⟨n,rfl,rfl⟩;go_wp2
  go_quiet (first | (go_at_call 94;exact Calls.quiet_of_same (m.out _ (AH (Qg _ _) _))))
  go_wp2;go_ret;exact⟨rfl,nq,rfl⟩
theorem uI (g:Nat) (lb:Array Qa) (w:A):Qc H 90 #[G U 0 0,.func (.func g) #[] lb] w fun e w'=>e=V (G U 0 0)/\w'=w:=by
 have b:=slices_IndexFunc_empty (α:=ByteArray) U 0 (.func (.func g) #[] lb) w
 go_enter func90,ntmps90
 go_wp2_with fail
 refine b.mono ?_;rintro e c ⟨rfl,rfl⟩;go_wp2;go_ret;exact⟨rfl,rfl⟩
theorem uJ (v:Qa) (d:List ByteArray) (w:A) (h:Ez w v d) (i:d.length<=20000) :
  Qc H 89 #[v] w fun e w'=> ∃v',e=V v'/\w'.ownsRow w.heap.size 9 1 v' d.length (d.map S)/\BL w w':=by
 rcases h with⟨p,c,rfl,rfl⟩|⟨b,o,f,rfl,g⟩
 ·cases p with
  | none=>exact (slices_Clone_string_nil 0 c w).mono fun e w' ⟨he,hw⟩=>⟨_,he,World.ownsRow_nil _ _ _ _,by subst hw;exact Qg _ _⟩
  | some a=>exact (slices_Clone_string_zero a c w).mono fun e w' ⟨v',he,ho,_,hb⟩=>⟨v',he,ho,hb⟩
 ·refine(slices_Clone_string b o d.length f d w (Q2 _) (by omega) (fun j hj=>by rw[List.getD_eq_getElem?_getD,List.getElem?_eq_getElem hj];exact g j hj)).mono fun e w' ⟨v',he,ho,_,hb⟩=>⟨v',he,?_,hb⟩;rw[List.take_length]at ho;exact ho
theorem uK {α:Type} [Inhabited α] {enc:α->Qa} {w:A} {g n:Nat} {b:Array α} {os:Array Obj} :Ac (fun k=>k=g) w (sortWorld enc w g 0 n b os) :=
 (P1 (q:=n)).trans (Ac.of_below (P:=fun _=>False) (Hg os)) (fun _ h _=>h.elim)
theorem uL {b c:List ByteArray} (h:b.map AW=Di (c.map AW)) (x:ByteArray):x∈b↔x∈c:=by
 have d:AW x∈b.map AW↔AW x∈c.map AW:=by rw[h];exact(O1 _).mem_iff
 have f:∀l:List ByteArray,AW x∈l.map AW↔x∈l:=fun l=>by
  rw[Qu];exact⟨fun ⟨y,hy,e⟩=>O0 e▸hy,fun hy=>⟨x,hy,rfl⟩⟩
 rw[f,f]at d;exact d
theorem uM {c d:List ByteArray} (h:c.map AW=Di (d.map AW)):P2 c:=by
 have b:=Uq (d.map AW);rw[<-h,Qz]at b;exact b.imp fun hab=>by
  rw[Up];exact decide_eq_false hab
theorem uN {b c:List ByteArray} (h:b.map AW=Di (c.map AW)):b.length=c.length:=by
 have:=congrArg List.length h;rw[Qk,O2,Qk]at this;exact this
abbrev Nm:= { x:ByteArray // x.size<=maxLen }
instance:Inhabited Nm:=⟨⟨⟨#[]⟩,by decide⟩⟩
def P3 (x:Nm):Qa:=S x.1
def P4 (ts:List ByteArray) (h:∀t∈ts,t.size<=maxLen):List Nm:=ts.pmap (fun x hx=>⟨x,hx⟩) h
theorem uO (b:List ByteArray) (h:∀t∈b,t.size<=maxLen):(P4 b h).map (fun x=>x.1)=b:=by
 unfold P4;rw[List.map_pmap];simp
theorem VB (zs:List Nm):zs.map P3=(zs.map fun x=>x.1).map S:=by
 rw[Qr];rfl
theorem uP {B:Nat} {w:A} {v:Qa} {b:List ByteArray} (y:w.ownsRow B 9 1 v b.length (b.map S)) (T:B<=w.heap.size) (o:∀t∈b,t.size<=maxLen) (X:b.length<=20000) (g:Nat) (lb:Array Qa) (M:∀args w,(callFunc g args).run H w= .ok (.enter g args) w) (p:ByteArray->Bool)
  (E:∀W,Ac (fun k=>v.ownBlock=O k) w W->∀x:ByteArray,x.size<=maxLen->FnGives H g lb #[S x] (.bool (p x)) W) :
  Qc H 90 #[v,.func (.func g) #[] lb] w fun e w'=> ∃v',e=V v'/\w'.ownsRow B 9 1 v' (b.filter fun x=> !p x).length ((b.filter fun x=> !p x).map S)/\Below B w w':=by
 by_cases r:v=G U 0 0
 ·have s:b= []:=by
   rcases y.2 with⟨_,s⟩|⟨g,m,P,e,_⟩
   ·exact List.length_eq_zero_iff.1 s
   ·rw[r]at e;cases e
  subst r s;refine(uI g lb w).mono ?_;rintro e w' ⟨rfl,rfl⟩;exact⟨_,rfl,y,Qg _ _⟩
 ·have f:=uO b o;obtain⟨c,C⟩:∃c,P4 b o=c:=⟨_,rfl⟩;rw[C]at f;have j:w.ownsRow B 9 1 v b.length (c.map P3):=by rw[VB,f];exact y
  obtain⟨K,m,rfl,D,N,Q,R,d,L⟩:=holds_of_ownsRow j r;have i:=slices_DeleteFunc P3 (fun _=>rfl) (fun x=>p x.1) g lb M ⟨⟨#[]⟩,by decide⟩ zeroValue9 K 0 m c.toArray w
   (fun W x hb=>E W (Ac.of_below hb) x.1 x.2)
   (fun n os dk x _=>E _ (uK.mono fun k hk=>by rw[hk];rfl) x.1 x.2)
   L (by simp[d];omega) (by simp[d];omega)
  simp only[Q0,d]at i;refine i.mono ?_;rintro e w' ⟨rfl,q,rfl⟩;have l:(c.filter fun x=> !p x.1).map (fun x=>x.1)=b.filter fun x=> !p x:=by
   rw[<-f,List.filter_map];rfl
  have z:(c.filter fun x=> !p x.1).length<=b.length:=by rw[<-d];exact Qv _ _
  have u:=ownsRow_putRow (q:=q) (k:=(c.filter fun x=> !p x.1).length) (ys:=(c.filter fun x=> !p x.1)++List.replicate (b.length-(c.filter fun x=> !p x.1).length) ⟨⟨#[]⟩,by decide⟩) j (by simp;omega) z;rw[List.take_left',VB,l]at u
  ·have F:(c.filter fun x=> !p x.1).length=(b.filter fun x=> !p x).length:=by rw[<-l,Qk]
   rw[F]at u ⊢;exact⟨_,rfl,u,below_putRow (Qg _ _) D⟩
  ·rfl
theorem uQ {s:St} (K:AR s):∀t∈(s.obs.map fun o=>o.1),t.size<=maxLen:=fun t ht=>by
 obtain⟨o,b,rfl⟩:=Qu.1 ht;have:=K.names o b;simp only[CF,Bool.and_eq_true,decide_eq_true_eq]at this;rw[<-AA];unfold maxLen;omega
theorem uR {w:A} {b:Nat} {mo:Option Nat} {q:ByteArray->Nat} {s:St} (hs:Be w b mo q s) (K:AR s) (hA:KP s) (v:Qa) (c:List ByteArray) (age:Int) (hN:Ez w v c) (hl:c.length<=20000) :
  Qc H 43 #[I (O ⟨b,0,U⟩),v,Qb .i64 age] w fun e w'=> ∃v',e=V v'/\w'.ownsRow w.heap.size 9 1 v' (FT s c age).length ((FT s c age).map S)/\BL w w':=by
 have L:Z _:=hs;have r:Z _:=K;have HA:Z _:=hA;have Q:Z _:=fun W (hb:BL w W)=>hN.below hb;have eg:=enters_of Qt (by kernel_rfl) rfl;obtain⟨NQ,NC,rfl⟩:=hN.form;obtain⟨C,aa⟩:∃n,c.length=n:=⟨_,rfl⟩;rw[aa]at Q hl ⊢;have m:Z _:=aa;have a1:(w.alloc (J #[I (O ⟨b,0,U⟩)] 30)).cell? ⟨w.heap.size,0,U⟩=O (I (O ⟨b,0,U⟩)):=by rw[Qh _ _ _ _ _ _ (Ql _ _)];rfl
 have b1:BL w (w.alloc (J #[I (O ⟨b,0,U⟩)] 30)):=Af _ _;have s1:(w.alloc (J #[I (O ⟨b,0,U⟩)] 30)).heap.size=w.heap.size+1:=by simp
 have a2:((w.alloc (J #[I (O ⟨b,0,U⟩)] 30)).alloc (J #[Qb .i64 age] 3)).cell? ⟨w.heap.size+1,0,U⟩=O (Qb .i64 age):=by rw[<-s1,Qh _ _ _ _ _ _ (Ql _ _)];rfl
 have j:Below (w.alloc (J #[I (O ⟨b,0,U⟩)] 30)).heap.size (w.alloc (J #[I (O ⟨b,0,U⟩)] 30)) ((w.alloc (J #[I (O ⟨b,0,U⟩)] 30)).alloc (J #[Qb .i64 age] 3)):=Af _ _;have c3:=Aa j a1;have t:=Ad b1 j
 go_enter func43,ntmps43
 go_upto_region 1 with fail
 generalize (w.alloc (J #[I (O ⟨b,0,U⟩)] 30)).alloc (J #[Qb .i64 age] 3)=N at a2 c3 t ⊢;have bb:=BD a2
 go_wp2_with fail
 refine(uJ _ c N (Q.out N t) (by rw[m.out];omega)).mono ?_;rintro e l ⟨v1,rfl,o,p⟩;obtain⟨D,E,ab⟩:=(KC o).form;rw[m.out]at ab;subst ab;have g:Z (∀k,(G D C E).ownBlock=O k->N.heap.size<=k/\k<l.heap.size):=fun k hk=>⟨(AF o hk).1,(AF o hk).2.1⟩;have ae:=Ad t p;have af:=Aa p c3;have ag:=Aa p a2;have ah:N.heap.size<=l.heap.size:=p.size;have a7:(l.alloc (J #[G D C E] 82)).cell? ⟨l.heap.size,0,U⟩=O (G D C E):=by rw[Qh _ _ _ _ _ _ (Ql _ _)];rfl
 have j:BL l (l.alloc (J #[G D C E] 82)):=Af _ _;have R:=Ad ae j;have ai:=Aa j af;have aj:=Aa j ag;have ak:Z _:=AO (P:=fun _=>False) o (Ac.of_below j) (fun _ _ h=>h)
 go_upto_region 4 with fail
 have al:=BD a7;generalize l.heap.size=rb at a7 g ah al ⊢;have am:=V7 ak.out (by rw[m.out];omega)
 go_wp2_with fail
 refine am.mono ?_;rintro e F ⟨rfl,us,a4,a5,d⟩;have u:Z _:=a4;have an:Z _:=a5;have T:=R.trans (d.below R.size (fun k hk=>by have:=(g.out k hk).1;omega));have ao:=d.keep (fun e=>by have:=(g.out _ e).1;omega) ai;have ap:=d.keep (fun e=>by have:=(g.out _ e).1;omega) aj;have aq:=d.keep (fun e=>by have:=(g.out _ e).2;omega) a7;have M:=d.size;have ar:Z _:=L.out.keep (Ac.of_below (P:=fun _=>False) T) (fun _ _ h=>h);have ad:=UG ar.out.block
 go_wp2_with fail
 refine ad.mono ?_;rintro e w4 ⟨rfl,a6⟩;rw[a6];have a8:(F.alloc (J #[Qb .i64 s.day] 3)).cell? ⟨F.heap.size,0,U⟩=O (Qb .i64 s.day):=by rw[Qh _ _ _ _ _ _ (Ql _ _)];rfl
 have y:BL F (F.alloc (J #[Qb .i64 s.day] 3)):=Af _ _;have z:=Ad T y;have au:=Aa y ao;have av:=Aa y ap;have aw:=Aa y aq;have ax:Z _:=AO (P:=fun _=>False) an.out (Ac.of_below y) (fun _ _ h=>h)
 go_upto_region 6 with fail
 have ay:=BD a8;generalize F.heap.size=db at a8 M ay ⊢;have az:Z _:=L.out.keep (Ac.of_below (P:=fun _=>False) z) (fun _ _ h=>h);have a0:=VA az.out r.out
 go_wp2_with fail
 refine a0.mono ?_;rintro e w5 ⟨v5,rfl,ac,f⟩;have X:=Ad z f;have i:Z _:=fun k (hk:v5.ownBlock=O k)=>(AF ac hk).1;have Y:=z.size;have B:=uP ac f.size (uQ r.out) (by rw[Qk];have:=r.out.many;omega) 92 #[I (O ⟨rb,0,U⟩),I (O ⟨db,0,U⟩),I (O ⟨w.heap.size,0,U⟩),I (O ⟨w.heap.size+1,0,U⟩)] eg (KQ s us age) (fun W hW x hx =>
  uH x hx rb db w.heap.size (w.heap.size+1) (G D C E) us age
   (L.out.keep ((Ac.of_below (P:=fun k=>v5.ownBlock=O k) X).trans hW (fun _ h _=>h)) (fun k hk hown=>by have h1:=L.out.lt hk;have h2:=i.out k hown;omega))
   r.out HA.out
   (hW.keep (fun e=>by have:=i.out _ e;omega) (Aa f aw))
   (KC (AO (AO (P:=fun _=>False) ax.out (Ac.of_below f) (fun _ _ h=>h)) hW (fun k hk e=>by have h1:=(g.out k hk).2;have h2:=i.out k e;omega)))
   (uM u.out) (by rw[uN u.out,m.out];omega)
   (hW.keep (fun e=>by have:=i.out _ e;omega) (Aa f a8))
   (hW.keep (fun e=>by have:=i.out _ e;omega) (Aa f au))
   (hW.keep (fun e=>by have:=i.out _ e;omega) (Aa f av)))
 rw[lV r.out (uL u.out) age]at B
 go_wp2_with fail
 refine B.mono ?_;rintro e w6 ⟨v6,rfl,a9,ba⟩;have HE:Z _:=Qs a9 Y;have a3:=X.trans (ba.mono Y);go_wp2;go_ret;exact⟨_,rfl,HE.out,a3⟩
end
section
open Go.Extern Go.Extern.Stop Go.Lib Go.RowKit Go.Shelf Go.Stop
def P5 (k:Lk) (s':St):Prop:= ∃N,Lw N k.st s'/\k.st.head∈N/\∀id∈k.ids,∃x,D6 k.st id x/\∀n∈B9 x,n∈N
def MX (W:A) (kb:Nat) (vs:Qa) (SP:Nat->Prop) (vi vf:Qa) (k:Lk) (e:Ending) (w':A):Prop :=
 ∃SP' s' m ev,e=V (Qm #[Qb .i64 m,ev])/\(ev=Qj\/∃t u,ev=Qi t u)/\Ac SP W w'/\(∀j,SP' j->SP j\/W.heap.size<=j)/\An w' kb vs SP' k.st.head vi vf { k with st:=s' } /\P5 k s'
theorem VC:∀ss:List Sn,(∀x∈ss,x.2.2.2.2.2.2.length<=60)->(ss.flatMap B9).length<=ss.length*61
 | [],_=>by simp
 | s :: r,h=>by
  have b:=VC r fun x hx=>h x (List.mem_cons_of_mem _ hx);have c:=h s Q3;simp only[List.flatMap_cons,Q4,B9,Q1,Qk]at *;omega
theorem uS {s:St} {N:List ByteArray} {age:Int} {x:ByteArray} (h:x∈FT s N age):x∉N/\x.size<=1000\/¬AR s:=by
 by_cases b:AR s
 ·refine Qd ?_;obtain⟨o,d,rfl⟩:=Qu.1 h;obtain⟨f,c⟩:=Qw.1 d;have:=G5 (b.names o f);simp only[Bool.and_eq_true,Bool.not_eq_true',decide_eq_true_eq]at c;refine⟨fun e=>?_,by omega⟩;have:=Jc.2 e;rw[c.1]at this;cases this
 ·exact Qe b
section
variable {a : Nat → Addr} {B : Nat} {EM : A → Prop}
theorem P6 {D:Nat} {X:A} {v:Qa} {c:List ByteArray} (f:X.ownsRow D 9 1 v c.length (c.map S)) (g:D<=X.heap.size) (b:Nat) (d:ByteArray) (i:X.cell? ⟨b,0,U⟩=O (S d)) (l:c.length<=10000) :
  ∃v' W2,(Builtin.append_ #[82,82] 82 #[v,G (O ⟨b,0,U⟩) 1 1]).run H X= .ok v' W2/\W2.ownsRow D 9 1 v' (c++ [d]).length ((c++ [d]).map S)/\Ac (fun k=>v.ownBlock=O k) X W2 :=
 Un f g (O ⟨b,0,U⟩) 1 1 rfl (Qe ⟨b,0,rfl,fun j u hu=>by
  cases j with
  | zero=>simp only[List.map_cons,List.map_nil,List.getElem?_cons_zero,Option.some.injEq]at hu;subst hu;exact i
  | succ j=>simp at hu⟩) (by simp;omega)
theorem uT (K:AJ a B EM A0) (HL:∀X,EM X->Bg X a) {W:A} {E:Nat} {vs:Qa} {f:Nat->Prop} {N vf:Qa} {k:Lk} (hE:EM W) (h:An W E vs f k.st.head N vf k) (hi:Ax k) (hB:∀j,f j->B<=j) (age:Int) :
  Qc H 14 #[I (O ⟨E,0,U⟩),Qb .i64 age] W (MX W E vs f N vf k):=by
 obtain⟨y,rfl⟩:=h.ptr K;have bs:Z _:=K.size _ hE;have ah:Z _:=fun X (hb:BL W X)=>K.below _ _ hE (hb.mono (K.size _ hE));have bt:Z _:=fun X (hb:Ac f W X)=>K.below _ _ hE (hb.below bs.out hB);have HQ:Z _:=fun X (hb:BL W X)=>h.quiet K hb;obtain⟨d,hl,au,bh⟩:=V5 K HL hE h hi;have bu:=(Py hi.ids).1;have ae:∀x∈d,(Am x).1=0/\ -9223372036854775808<=x.1/\x.1<=9223372036854775807:=fun x hx=>by
  obtain⟨i,h1,rfl⟩:=Qo.1 hx;have hs:=au i h1 (by omega);have:=MQ hs.fine;exact⟨hs.fine,by omega,by omega⟩
 have a2:(d.flatMap B9).length<=5000:=by
  have:=VC d fun x hx=>(Ju (ae x hx).1).1;omega
 have bv:(Cy d).length<=(d.flatMap B9).length:=by rw[<-iZ];exact jA d _
 have ai:Z _:=bh;have a3:Z (∀X,BL W X->Qc H 31 #[I (O y)] X fun e w'=>e=V (S k.st.head)/\BL X w'):=fun X hb=>K.head X _ f k.st (ah.out X hb) (HQ.out X hb).st hi.good.keeps;have a4:Z (∀Y X v,BL W Y->BL Y X->FX Y v d->Qc H 42 #[v] X fun e w'=> ∃v',e=V v'/\w'.ownsRow Y.heap.size 9 1 v' (Cy d).length ((Cy d).map S)/\BL X w'):=fun Y X v hY hb hv=>(tW v d X (HL X (ah.out X (Ad hY hb))).s.tab (hv.below hb) a2 fun x hx=>(ae x hx).2).mono fun e w' ⟨v',e1,e2,e3⟩=>⟨v',e1,Qs e2 hb.size,e3⟩;have bw:Z (∀X vN,BL W X->Ez X vN (Cy d++ [k.st.head])->Qc H 43 #[I (O y),vN,Qb .i64 age] X fun e w'=> ∃v',e=V v'/\w'.ownsRow X.heap.size 9 1 v' (FT k.st (Cy d++ [k.st.head]) age).length ((FT k.st (Cy d++ [k.st.head]) age).map S)/\BL X w'):=fun X vN hb hN=>by
  obtain⟨b,mo,q,hv,-,hs⟩:=(HQ.out X hb).st;injection hv with hv;obtain rfl:y=⟨b,0,U⟩:=by first | exact hv | exact Option.some.inj hv
  exact uR hs hi.good.keeps hi.good.aged vN _ age hN (by rw[Q4,List.length_singleton];omega)
 have aj:Z ((Cy d).length<=10000):=by
  show _<=10000;omega
 have bx:Z ((FT k.st (Cy d++ [k.st.head]) age).length<=1000):=by
  show _<=1000;unfold FT;rw[Qk];have:=hi.good.keeps.many;exact Qn (Qv _ _) (by omega)
 have ak:Z (∀s',Lw (Cy d++ [k.st.head]) k.st s'->P5 k s'):=fun s' hs=>⟨_,hs,Q5.2 (Qe Q3),fun id hid=>by
  obtain⟨i,h2,rfl⟩:=Qo.1 hid;have h1:i<d.length:=by omega
  exact⟨d[i],au i h1 h2,fun n T=>Q5.2 (Qd (Oh.2 ⟨_,Qx h1,T⟩))⟩⟩
 have bz:Z (∀x∈FT k.st (Cy d++ [k.st.head]) age,x∉Cy d++ [k.st.head]/\x.size<=1000):=fun x hx=>(uS hx).resolve_right (fun e=>e hi.good.keeps);have b0:Z (∀X C s n,Ac f W X->An X E (I (O y)) C k.st.head N vf { k with st:=s } ->Lw (Cy d++ [k.st.head]) k.st s->n∈FT k.st (Cy d++ [k.st.head]) age->Qc H 44 #[I (O y),S n] X fun e w'=>e=V (Ae a (Fg s n))/\Lw (Cy d++ [k.st.head]) k.st (Ep s n)/\∃M,An w' E (I (O y)) M k.st.head N vf { k with st:=Ep s n } /\Ac C X w'/\∀j,M j->C j\/X.heap.size<=j):=fun X C s n hb hQ hw T=>by
  obtain⟨f1,f2⟩:=bz.out n T;refine(K.drop X _ C s n (bt.out X hb) hQ.st hw.good.keeps f2).mono fun e w' ⟨e1,e2⟩=>?_;obtain⟨M,q1,q2,q3⟩:=hQ.post e2;exact⟨e1,hw.trans (sY hw.good f1),M,q1,q2,q3⟩
 have a5:Z (Lw (Cy d++ [k.st.head]) k.st k.st):=Lw.refl hi.good;have b1:Z (∀X m ev,(ev=Qj\/∃t u,ev=Qi t u)->BL W X->MX W E (I (O y)) f N vf k (V (Qm #[Qb .i64 m,ev])) X):=fun X m ev hev hb=>⟨f,k.st,m,ev,rfl,hev,Ac.of_below hb,fun _ h=>Qd h,HQ.out X hb,ak.out _ a5.out⟩;have a6:Z (∀X,BL W X->X.cell? ⟨1,0,U⟩=O (Qi 410 (I (O (a 1))))):=fun X hb=>(HL X (ah.out X hb)).m.bound;have b2:Z (∀j,f j->j<W.heap.size):=(h.sizes K).2;obtain⟨c0,-,c2,-⟩:=h.blk.cells;have a7:=I2 c0;generalize Cy d=RL at *;generalize FT k.st (RL++ [k.st.head]) age=OL at *;clear hE h hi hB hl au bh ae a2 bv bu
 go_enter func14,ntmps14
 go_wp2_with fail
 refine a7.mono ?_;rintro e w1 ⟨rfl,e1⟩;rw[e1];clear a7 e1;by_cases ce:age<0
 case pos =>
  have cg:=a6.out W (Qg _ _);clear c0 c2;go_wp2
  go_quiet (fail)
  go_wp2;go_ret2;exact b1.out _ _ _ (Qe ⟨_,_,rfl⟩) (AH (Qg _ _) nq)
 case neg =>
 have g:BL W W.drew:=(Qg _ _).drew;have b3:=Aa g c0;have a8:=Aa g c2;clear a6
 go_upto_region 5 with fail
 go_cut [28] from 19 to 28 (fun c wx=>(∃z,z=c/\z= .bool false)/\BL W wx)
 case first =>
  go_region_with (go_at_call 31;(with_reducible refine(a3.out _ g).mono ?_);rintro e wX ⟨rfl,bj⟩;have br:=(Ad g bj);have ch:=Aa bj a8)
  all_goals
   go_wp2;go_meet
   case rel=>exact ⟨⟨_,rfl,by simp⟩,br⟩
 case rest =>
 obtain⟨⟨z,rfl,rfl⟩,av⟩:=hcut;obtain⟨W1,ca⟩:∃X,X=wc:=⟨_,rfl⟩;subst ca;have a9:=ai.out W1 av
 go_wp2_with fail
 refine a9.mono ?_;rintro e r ⟨v2,rfl,bk,bl⟩;have aa:=Ad av bl;have al:=bk.sns;obtain⟨q2,cf,rfl⟩:=al.form;have R:Z (∀X,BL r X->_):=fun X hb=>a4.out r X _ aa hb al;have k0:=Aa aa c0;have k2:=Aa aa c2;have ba:Z (BL W r):=aa;clear a9 bk bl al av b3 a8 g c0 c2 aa a4 ai a3;generalize d.length=SL at R ⊢;have g:BL r r.drew:=(Qg _ _).drew;have bb:BL r (r.drew.alloc (J #[S k.st.head] 9)):=g.alloc g.size _;have b4:=Aa g k2;have bc:=Ql r.drew (J #[S k.st.head] 9);have kA:(r.drew.alloc (J #[S k.st.head] 9)).cell? ⟨r.drew.heap.size,0,U⟩=O (S k.st.head):=by rw[Qh _ _ _ _ _ _ bc];rfl
 clear bc
 go_upto_region 10 with fail
 go_cut [8] from 38 to 45 (fun v wx=> ∃u,u=v/\wx.ownsRow r.heap.size 9 1 u (RL++ [k.st.head]).length ((RL++ [k.st.head]).map S)/\BL r wx)
 case first =>
  have ci:BL r r:=Qg _ _
  go_region_held3 (fun w'=>BL r w'/\w'.cell? ⟨E,2,U⟩=O (S k.st.head))
   (first
    | (go_split_ands;with_reducible exact⟨ao,Aa ao k2⟩)
    | (go_split_ands;with_reducible exact⟨Q6 (by with_reducible assumption) (l.mono (Qp (by with_reducible assumption))),Aa l (by with_reducible assumption)⟩)
    | (go_split_ands;with_reducible refine⟨Q7 (by with_reducible assumption),?_⟩;all_goals go_keep)
    | (go_split_ands;with_reducible refine⟨Q8 (by with_reducible assumption) (Qp (by with_reducible assumption)) _,?_⟩;all_goals go_keep)
    | (go_split_ands;with_reducible refine⟨Q7 (Q8 (by with_reducible assumption) (Qp (by with_reducible assumption)) _),?_⟩;all_goals go_keep)
    | (go_split_ands;with_reducible exact⟨by assumption,by assumption⟩))
   (first
   | (go_at_call 42;(with_reducible refine(R.out _ g).mono ?_);rintro e wX ⟨v5,rfl,Q,l⟩;have b5:=(Ad g l);have cj:=Aa l b4;have am:BL wX (wX.alloc (J #[S k.st.head] 9)):=Af _ _;have F:=(Ad b5 am);have an:=P6 (AO (P:=fun _=>False) Q (Ac.of_below am) (fun _ _ h=>h)) F.size wX.heap.size k.st.head (by rw[Qh _ _ _ _ _ _ (Ql wX (J #[S k.st.head] 9))];rfl) aj.out)
   | (go_at_call 42;(with_reducible refine(R.out _ bb).mono ?_);rintro e wX ⟨v5,rfl,Q,l⟩;have F:=(Ad bb l);have an:=P6 Q F.size _ _ (Aa l kA) aj.out)
   | (go_at_call 42;(with_reducible refine(R.out _ (by go_split_ands;with_reducible assumption)).mono ?_);rintro e wX ⟨v5,rfl,Q,l⟩;have F:=Q6 (by go_split_ands;with_reducible assumption) (l.mono (Qp (by go_split_ands;with_reducible assumption)));have an:=P6 Q F.size _ _ (Aa l kA) aj.out)
   | (obtain⟨v8,W8,cb,aw,a1⟩:=an;refine Oz (by rfl) _ _ _ (by rfl) _ _ _ (by rfl) (by rfl) cb ?_;have ao:=F.trans (a1.below F.size (fun j hj=>(AF Q hj).1))))
  all_goals
   go_wp2;go_meet
   case rel=>exact ⟨_,rfl,aw,ao⟩
 case rest =>
 obtain⟨u8,rfl,aw,bi⟩:=hcut;obtain⟨W3,cc⟩:∃X,X=wc:=⟨_,rfl⟩;subst cc;have af:=ba.out.trans (bi.mono ba.out.size);have bd:=bw.out W3 _ af (KC aw);have ck:=Aa bi k0
 go_wp2_with fail
 refine bd.mono ?_;rintro e D ⟨v9,rfl,a0,bm⟩;have ap:=Ad af bm;have hT:=KC a0;have b6:Z (∀j,v9.ownBlock=O j->¬f j):=fun j hj e=>by
  have h1:=(AF a0 hj).1;have h2:=b2.out j e;have h3:=af.size;omega
 obtain⟨p9,c9,rfl⟩:∃p c,v9=G p OL.length c:=by
  rcases hT with⟨p,c,rfl,e⟩|⟨b,o,cd,rfl,-⟩
  ·exact⟨p,c,by rw[e];rfl⟩
  ·exact⟨_,_,rfl⟩
 have b7:Z (∀X,Ac f D X->∀n (T:n<OL.length),∃b o,p9=O ⟨b,o,U⟩/\X.cell? ⟨b,o+n,U⟩=O (S OL[n])):=fun X hb n T=>by
  rcases hT with⟨p,c,-,e⟩|⟨b,o,cd,hv,hc⟩
  ·rw[e]at T;simp at T
  ·injection hv with hq;subst hq;exact⟨b,o,rfl,Mz hb (b6.out b rfl) (hc n T)⟩
 have b8:Z (An D E (I (O y)) f k.st.head N vf k):=HQ.out D ap;have ab:Z (BL W D):=ap;obtain⟨LO,ax⟩:∃L,OL.length=L:=⟨_,rfl⟩;have be:Z (OL.length=LO):=ax;rw[ax];clear bd af bm a0 hT ax ap
 go_wp2_with fail
 go_loopw [11,12,55] (fun _ _ i wr=> ∃(n:Nat) (s:St) (C:Nat->Prop),n<=LO/\i=Qb .i64 n/\An wr E (I (O y)) C k.st.head N vf { k with st:=s } /\Lw (RL++ [k.st.head]) k.st s/\Ac f D wr/\∀j,C j->f j\/D.heap.size<=j) (fun _ _ i _=>LO-(intOf i).toNat)
 case atStart=>exact ⟨0,k.st,f,by omega,rfl,b8.out,a5.out,Ac.refl _ _,fun _ h=>Qd h⟩
 case round =>
 obtain⟨n,s,C,T,rfl,ag,ay,ad,az⟩:=hrel;have HP:Z (∀m ev,(ev=Qj\/∃t u,ev=Qi t u)->MX W E (I (O y)) f N vf k (V (Qm #[Qb .i64 m,ev])) wr):=fun m ev hev=>⟨C,s,m,ev,rfl,hev,(Ac.of_below (P:=f) ab.out).trans ad (fun _ h _=>h),fun j hj=>(az j hj).imp_right (Qn ab.out.size),ag,ak.out _ ay⟩;obtain⟨k0,-⟩:=ag.blk.cells;by_cases b9:n<LO
 case neg =>
  obtain rfl:n=LO:=by omega
  have cl:¬(n:Int)<(n:Int):=by omega
  go_wp2;go_ret2;exact HP.out _ _ (by first | exact Qd rfl | exact Qe ⟨_,_,rfl⟩)
 case pos =>
 have cm:(n:Int)<(LO:Int):=by omega
 have cn:LO<=1000:=by have:=bx.out;rw[be.out]at this;exact this
 have co:(0:Int)<=(n:Int):=by omega
 have aq:n<OL.length:=by rw[be.out];exact b9
 obtain⟨b,o,rfl,e0⟩:=b7.out wr ad n aq;have ar:=b0.out wr C s OL[n] ((Ac.of_below (P:=f) ab.out).trans ad (fun _ h _=>h)) ag ay (Qx aq);generalize OL[n]=nm at e0 ar;have ac:Z (Ac f D wr/\∀j,C j->f j\/D.heap.size<=j):=⟨ad,az⟩;clear ag ay ad az HP aq
 go_wp2_with fail
 refine ar.mono ?_;rintro e w6 ⟨rfl,bn,M,bo,bp,bq⟩;have bf:Ac f D w6:=ac.out.1.trans bp (fun j hj hjl=>(ac.out.2 j hj).elim id (fun e=>absurd hjl (by omega)));have bg:∀j,M j->f j\/D.heap.size<=j:=fun j hj=>(bq j hj).elim (ac.out.2 j) (fun e=>Qe (Qn ac.out.1.size e));clear ar bp bq ac e0 k0;by_cases hC:Fg s nm=0
 case neg =>
  have HP:Z (∀m ev,(ev=Qj\/∃t u,ev=Qi t u)->MX W E (I (O y)) f N vf k (V (Qm #[Qb .i64 m,ev])) w6):=fun m ev hev=>⟨M,Ep s nm,m,ev,rfl,hev,(Ac.of_below (P:=f) ab.out).trans bf (fun _ h _=>h),fun j hj=>(bg j hj).imp_right (Qn ab.out.size),bo,ak.out _ bn⟩;obtain⟨m,hm⟩:∃m,Fg s nm=m+1:=⟨Fg s nm-1,by omega⟩;rw[hm];simp only[Ae];go_wp2;go_ret2;exact HP.out _ _ (by first | exact Qd rfl | exact Qe ⟨_,_,rfl⟩)
 case pos =>
 rw[hC];simp only[Ae];have HR:Z (An w6 E (I (O y)) M k.st.head N vf { k with st:=Ep s nm } /\Lw (RL++ [k.st.head]) k.st (Ep s nm)/\Ac f D w6/\∀j,M j->f j\/D.heap.size<=j):=⟨bo,bn,bf,bg⟩;go_wp2;go_roundw
 case rel=>exact ⟨n+1,Ep s nm,M,by omega,by go_num,HR.out.1,HR.out.2.1,HR.out.2.2.1,HR.out.2.2.2⟩
 case measure=>simp [intOf];omega
end
def Db (nm:ByteArray) (xs:List Rw):Dr:=(⟨#[100,97,116,97,47]⟩,nm,Ab (EK (A5 xs)))
def Ed (xs:List Rw):Prop:=xs.length<=40/\∀x∈xs,Ay x=0
def Ee (W:A) (cb:Nat) (v vr:Qa):Prop:=W.heap[cb]? =O (J #[v,vr] 100 (0,0))
theorem VD {W:A} {D b:Nat} {v d f:Qa} {ds:List Dr} (i:AZ W D v ds) (j:Ee W b d f):v.ownBlock≠O b:=fun e=>by
 rcases i.2 with⟨h,_⟩|⟨g,k,l,h,_,c,_⟩
 ·rw[h]at e;cases e
 ·rw[h]at e;injection e with e;have e:g=b:=e;rw[e,show W.heap[b]? =_ from j]at c;cases c
theorem VE:∀xs:List Rw,∃m,m<=xs.length/\(∀i (h:i<xs.length),i<m->Ay xs[i]=0)/\(∀(h:m<xs.length),Ay xs[m]≠0)
 | []=>⟨0,Q2 _,fun i h=>by simp at h,fun h=>by simp at h⟩
 | x :: r=>by
  by_cases b:Ay x=0
  ·obtain⟨m,c,d,f⟩:=VE r;refine⟨m+1,by simpa using c,fun i hi him=>?_,fun h=>?_⟩
   ·cases i with
    | zero=>exact b
    | succ i=>exact d i (by simpa using hi) (by omega)
   ·exact f (by simpa using h)
  ·exact⟨0,Nat.zero_le _,fun i _ h=>absurd h (Nat.not_lt_zero _),fun _=>b⟩
def P7 (W:A) (cb D:Nat) (v vr:Qa) (ds:List Dr) (nm:ByteArray) (xs:List Rw) (e:Ending) (w':A):Prop :=
 (Ed xs/\e= .returned Qj/\∃v',Ee w' cb v' vr/\AZ w' D v' (ds++ [Db nm xs])/\Ac (fun j=>j=cb\/v.ownBlock=O j) W w')\/(¬Ed xs/\(∃t u,e=V (Qi t u))/\BL W w')
theorem VF {W:A} {a:Nat->Addr} (hE:DE W a) {b D:Nat} {v B:Qa} {ds:List Dr} (hc:Ee W b v B) (hd:AZ W D v ds) (hD:D<=W.heap.size) (ae:ds.length<=1000) {vx:Qa} {xs:List Rw} (M:Ar W vx xs) (af:xs.length<=10000) (hp:∀x∈xs,x.1.size<=30) (nm:ByteArray) :
  Qc H 59 #[I (O ⟨b,0,U⟩),S nm,vx] W (P7 W b D v B ds nm xs):=by
 obtain⟨q,c,rfl⟩:=M.form;have N:Qc H 109 #[G q xs.length c] W fun e w'=>((Ed xs/\e=V (Qm #[S (Ab (EK (A5 xs))),Qj]))\/(¬Ed xs/\∃s t u,e=V (Qm #[S s,Qi t u])))/\BL W w':=by
  by_cases aa:40<xs.length
  ·exact(eO q xs.length c W a hE aa (by unfold maxLen;omega)).mono fun e w' ⟨C,E⟩=>⟨Qe ⟨fun h=>absurd h.1 (by omega),_,_,_,C⟩,E⟩
  ·obtain⟨m,hm,C,E⟩:=VE xs;refine(eP q c xs W a hE M (by omega) hp m hm C E).mono fun e w' r=>?_;rcases r with⟨he,h3,h4⟩|⟨l,fb,h3,-,-,h4⟩
   ·refine⟨Qd ⟨⟨by omega,fun x M=>?_⟩,h3⟩,h4⟩;obtain⟨i,hi,rfl⟩:=Qo.1 M;exact C i hi (by omega)
   ·exact⟨Qe ⟨fun h=>absurd (h.2 _ (Qx l)) (E l),_,_,_,h3⟩,h4⟩
 obtain⟨f,g,ad,-⟩:=hd.at;subst ad;have HC:Z _:=hc;have HD:Z (AZ W D (G f ds.length g) ds/\D<=W.heap.size):=⟨hd,hD⟩;have HL:Z _:=ae;obtain⟨L,hL⟩:∃L,ds.length=L:=⟨_,rfl⟩;have P:Z _:=hL;have R:Z (Db nm xs=(⟨#[100,97,116,97,47]⟩,nm,Ab (EK (A5 xs)))):=rfl;generalize Ab (EK (A5 xs))=z at N R;rw[hL]
 go_enter func59,ntmps59
 go_wp2_with fail
 refine N.mono ?_;rintro e K ⟨r,k⟩;rcases r with⟨hg,rfl⟩|⟨hg,s,t,u,rfl⟩
 case inr =>
  have X:Z (P7 W b D (G f L g) B ds nm xs (V (Qi t u)) K):=Qe ⟨hg,⟨_,_,rfl⟩,k⟩;go_wp2;go_ret;exact X.out
 case inl =>
 have ab:=Qy HC.out;have d:Ee K b (G f L g) B:=by
  have:=(k.block b ab).trans HC.out;rw[P.out]at this;exact this
 have T:AZ K D (G f L g) ds:=by
  have:=HD.out.1.below k;rw[P.out]at this;exact this
 have n:=VD T d;have k0:K.cell? ⟨b,0,U⟩=O (G f L g):=by rw[Qh _ _ _ _ _ _ d];rfl
 obtain⟨v',F,hr,ho,p,hv⟩:=V0 T (Qn HD.out.2 k.size) (⟨#[100,97,116,97,47]⟩,nm,z) rfl HL.out;have ac:=(Ac.of_below k).trans p (fun _ h _=>h);have o:=(p.block b (Qy d) n).trans d;have k6:F.cell? ⟨b,0,U⟩=O (G f L g):=by rw[Qh _ _ _ _ _ _ o];rfl
 have kf:F.frozen? ⟨b,0,U⟩=false:=frozen_of_row _ _ _ _ _ o;obtain⟨Y,c',rfl,-⟩:=ho.at;have l:∀j,(G Y (ds++ [((⟨#[100,97,116,97,47]⟩:ByteArray),nm,z)]).length c').ownBlock=O j->j≠b:=fun j hj e=>by
  rcases hv with y | ⟨i,y,e2,-⟩
  ·exact n (by rw[<-y,hj,e])
  ·rw[hj]at y;injection y with y;have:=Qy d;omega
 have X:Z (P7 W b D (G f L g) B ds nm xs (.returned Qj) (F.setCell ⟨b,0,U⟩ (G Y (ds++ [((⟨#[100,97,116,97,47]⟩:ByteArray),nm,z)]).length c'))):=by
  refine Qd ⟨hg,rfl,G Y (ds++ [((⟨#[100,97,116,97,47]⟩:ByteArray),nm,z)]).length c',?_,?_,(Ac.mono (Q:=fun j=>j=b\/(G f L g).ownBlock=O j) ac (fun _ h=>Qe h)).setCell (Qd (Qd rfl)) _⟩
  ·unfold Ee at *;rw[Q9 _ _ _ _ _ _ o];rfl
  ·rw[R.out];exact ho.but ((Ac.refl (fun j=>j=b) F).setCell (Qd rfl) _) l
 generalize (ds++ [((⟨#[100,97,116,97,47]⟩:ByteArray),nm,z)]).length=L2 at *
 go_wp2_with (at_builtin;refine wpList_append_run (by rfl) _ _ _ (by rfl) _ _ _ (by rfl) (by rfl) hr ?_)
 go_ret;exact X.out
def J0 (g f:Fl):Bool:= !Ck f.1 && decide (f.2.2.2.2.2<g.2.2.2.2.2)
def G9 (fs:List Fl) (g:Fl):Bool:=Ck g.1 && !(fs.any (J0 g))
def GA (fs:List Fl):List ByteArray:=(fs.filter (G9 fs)).map (·.1)
def Ha (s:Sn) (fs:List Fl):Sn:=(s.1,s.2.1,s.2.2.1,s.2.2.2.1,s.2.2.2.2.1,s.2.2.2.2.2.1,fs)
theorem VG {s:Sn} (h:(Am s).1=0) (p:Fl->Bool):(Am (Ha s (s.2.2.2.2.2.2.filter p))).1=0:=by
 obtain⟨c,d,g,i⟩:=KX.1 h;refine KX.2 ⟨c,d,?_,fun f hf=>i f (Qw.1 hf).1⟩;obtain⟨j,b⟩:=GJ.1 g;refine GJ.2 ⟨Qn (Qv _ _) j,fun f hf=>b.1 f (Qw.1 hf).1,b.2.sublist List.filter_sublist⟩
theorem uU {b:List Fl} (l:Fc 0 b) {f g:Fl} (m:f∈b) (n:g∈b) (e:f.1=g.1):f=g:=by
 have o:fk f=fk g:=by unfold fk;rw[e]
 obtain⟨i,d,rfl⟩:=Qo.1 m;obtain⟨j,k,rfl⟩:=Qo.1 n;have c:=List.pairwise_iff_getElem.1 l.2;rcases Nat.lt_trichotomy i j with h | h | h
 ·have:=c i j d k h;omega
 ·subst h;rfl
 ·have:=c j i k d h;omega
end
section
open Go Go.Lib
abbrev Ef:ByteArray:=⟨#[97]⟩
abbrev P8:ByteArray:=⟨#[45]⟩
abbrev BU:List Rw:= [(Ef,1,5),(Ef,2,6)]
theorem P9:∀x∈BU,Ay x=0:=by decide
theorem PA:A5 BU=BU:=Uw (by decide)
theorem MY:A4 [2]= [2]:=Sa (by decide) (fun x=>Iff.rfl)
end
section
open Go.Extern Go.Extern.Stop Go.Lib Go.RowKit Go.Shelf Go.Stop
section
variable {a : Nat → Addr} {B : Nat} {EM : A → Prop} {SAt : A → Qa → (Nat → Prop) → St → Prop}
theorem Al.set6 {W:A} {f:Nat} {g b c day d:Int} {i:ByteArray} {k gs:List Fl} {v j:Qa} (h:Al W f (g,b,c,day,d,i,k) v):Al (W.setCell ⟨f,6,U⟩ j) f (g,b,c,day,d,i,gs) j:=by
 unfold Al at *;rw[Q9 _ _ _ _ _ _ h];rfl
end
section
variable {P : Program} (w : A)
end
end
end Go.Proofs.YtcllhobffhkafaaGreatDoor
