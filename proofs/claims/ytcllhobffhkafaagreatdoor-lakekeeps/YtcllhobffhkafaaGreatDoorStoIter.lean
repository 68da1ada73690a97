/- By an AI agent. -/
import Derived.Test.YtcllhobffhkafaaGreatDoorRefExp2
import Derived.Sort.Walk0
import Derived.RangeFuncNested
import Derived.RangeFuncBound
import Derived.RangeFuncCalls
import Derived.RangeFuncLeaves
import Derived.Sort.MapsRangeIn
import Derived.Shelf.RegionOpen
import Derived.OwnWalkIn
import Derived.TacticsInMore
import Derived.RegionIn
import Derived.LoopNIn
import Derived.LoopIn
set_option maxRecDepth 100000
set_option maxHeartbeats 16000000
open Go.Proofs.Tryz
open Array renaming getElem?_setIfInBounds_ne->Qk,getElem?_eq_some_iff->Qt,getElem?_setIfInBounds_self_of_lt->Xi,getElem?_eq_getElem->Xk,getElem?_eq_none->X4,length_toList->XU,replicate_succ->Yc,replicate_zero->Yd
open Bool renaming false->Qa,true->Qc,and_eq_true->QK,false_eq_true->QX,eq_iff_iff->X0
open Go renaming World->I,DataW->Qg,Addr->Qi,TypeId->Qj,Calls->Qm,maxLen->Qn,cell_of_row->Qu,MemPlace->Q7,heap_alloc_new->QQ,setRow_heap->QS,KeepsWalks->QT,Ending->Xb,plainElem->Xg,setCell_eq_setRow->Xj,CallsIn->Xl,callsIn_of_wp->Xm,SeqStopsK->Xn,bodyPost_ret->XL
open Go.Builtin renaming zeroCells->Qv,append_->QG,max_->XM,clear_->XT,append->Yl,max2->Ym
open Go.Ending renaming returned->Qh
open Go.Fence renaming wide->Q8
open Go.Instr renaming lookup->QP,mapUpdate->Xh
open Go.IntKind renaming i64->U
open Go.Maps renaming has->Xe,IsMap->XC,isMap_empty->XD,atKey_put_same->XF,atKey_put_other->XG,keyOf_str->Yj
open Go.Obj renaming cells->J,mapIter->XV
open Go.Proofs.Tryz renaming prog->V,underlying3->QO,underlying133->XE,underlying134->XH,underlying35->XJ,underlying68->Yi,underlying9->Yk
open Go.RowKit renaming Hid->G
open Go.Value renaming int->Z,string->A,slice->Qb,agg->Qf,pointer->Ql,ownBlock->Qx,nilIface->Q1,tuple->QD,bool->QE
open Go.WideAt renaming IsKeyLit->Xf
open Go.World renaming cell?->Qq,ownsRow_nil->Xr,ownsMap_made->XK,putObj_heap_other->XW
open Int.ofNat renaming inj->Xd
open List renaming mem_map->Qp,mem_cons_self->Qs,flatMap_cons->Qw,getElem_mem->Qy,mem_cons_of_mem->Q0,length_append->Q2,mem_singleton->Q3,filter_map->Q4,filter_congr->Q5,filter_filter->Q6,length_map->QA,mem_append->QB,map_append->QH,filter_eq_self->QJ,filter_append->QL,mem_filter->QM,filter_cons->QN,length_take->QR,mem_cons->QU,length_pos_iff->QV,le_trans->QW,append_nil->QY,pairwise_map->QZ,foldl_append->Xa,foldl_cons->Xc,getElem_cons_zero->Xp,getElem?_append_left->Xq,getElem?_take->Xs,le_antisymm->Xt,pairwise_iff_getElem->Xu,mem_iff_getElem->Xv,lt_irrefl->Xw,perm_ext_iff_of_nodup->Xx,Pairwise->Xy,mem_flatMap->Xz,take_append_getElem->X1,reverse_append->X2,getElem?_eq_some_iff->X3,filter_sublist->X6,filter_eq_nil_iff->X7,getElem?_cons_succ->XA,pairwise_cons->XB,length_filter_le->XI,append_assoc->XN,take_of_length_le->XO,findIdx?_eq_some_iff_getElem->XP,findIdx?_eq_none_iff->XQ,getElem_of_mem->XR,mem_take_iff_getElem->XS,size_toArray->XX,length_cons->XY,length_nil->XZ,push_toArray->Ye,append_toArray->Yf,nil_append->Yg,cons_append->Yh
open Nat renaming le_trans->Qo,add_assoc->Qr,lt_or_ge->QC,zero_add->QF,le_refl->QI,not_lt_zero->X5,add_comm->X8,reduceAdd->Ya,reduceSub->Yb
open Option renaming some->O,none->S
open Option.some renaming injEq->Q9,inj->X9
open Or renaming inl->Qd,inr->Qe
open Prod.mk renaming inj->Qz,injEq->Xo
namespace Go.Proofs.YtcllhobffhkafaaGreatDoor
section
open Go.Extern Go.Extern.Stop Go.Lib Go.RowKit Go.Shelf Go.Sort Go.Stop
theorem Tryz.snapInfo3:(Tryz.prog.info? 40).map (fun i=>(i.zero,i.size,i.bytes))=O (O (Qf #[Z U 0,Z U 0,Z U 0,Z U 0,Z U 0,A ⟨#[]⟩,Qb S 0 0]),7,80):=by kernel_rfl
theorem Tryz.snapInfo:∃i0:TypeInfo,Tryz.prog.info? 40=O i0/\i0.zero=O (Qf #[Z U 0,Z U 0,Z U 0,Z U 0,Z U 0,A ⟨#[]⟩,Qb S 0 0])/\i0.size=7/\i0.bytes=80:=by
 obtain⟨i,b,h⟩:=Option.map_eq_some_iff.1 Tryz.snapInfo3;simp only[Xo]at h;exact⟨i,b,h.1,h.2.1,h.2.2⟩
def EB (p:Sn×Value):List Value:= [Z U p.1.1,Z U p.1.2.1,Z U p.1.2.2.1,Z U p.1.2.2.2.1,Z U p.1.2.2.2.2.1,A p.1.2.2.2.2.2.1,p.2]
def FM (ps:List (Sn×Value)):List Value:=ps.flatMap EB
theorem MF (p:Sn×Value):(EB p).length=7:=rfl
theorem nX (xs ys:List (Sn×Value)):FM (xs++ys)=FM xs++FM ys:=by simp[FM]
theorem UM:∀(ps:List (Sn×Value)) (j c:Nat) (h:j<ps.length),c<7->(FM ps)[j*7+c]? =(EB ps[j])[c]?
 | [],j,_,h,_=>by simp at h
 | p :: ps,0,c,_,hc=>by
  simp only[FM,Qw,Nat.zero_mul,QF,Xp];rw[Xq (by rw[MF];exact hc)]
 | p :: ps,j+1,c,h,hc=>by
  have b:j<ps.length:=by simp at h;omega
  have:=UM ps j c b hc;simp only[FM,Qw,List.getElem_cons_succ]at *;rw[List.getElem?_append_right (by rw[MF];omega),MF,show (j+1)*7+c-7=j*7+c by omega];exact this
theorem nY {B:Nat} {W f:I} {v:Value} {ps:List (Sn×Value)} (C:W.ownsRow B 40 7 v ps.length (FM ps)) (D:B<=W.heap.size) (s:Sn) (q:Option Qi) (n c:Nat) (g:f=W.alloc (J #[Z U s.1,Z U s.2.1,Z U s.2.2.1,Z U s.2.2.2.1,Z U s.2.2.2.2.1,A s.2.2.2.2.2.1,Qb q n c] 40)) (E:ps.length<=1000) :
  ∃v' W2,(QG #[79,79] 79 #[v,Qb (O ⟨W.heap.size,0,S⟩) 1 1]).run V f= .ok v' W2/\W2.ownsRow B 40 7 v' (ps++ [(s,Qb q n c)]).length (FM (ps++ [(s,Qb q n c)]))/\Ac (fun k=>v.ownBlock=O k) W W2/\(v'.ownBlock=v.ownBlock\/∃k,v'.ownBlock=O k/\W.heap.size<=k):=by
 obtain⟨m,o,p,r,l⟩:=Tryz.snapInfo;have b:BL W f:=by rw[g];exact Af _ _
 have i:CR f (O ⟨W.heap.size,0,S⟩) 1 1 (EB (s,Qb q n c)):=by
  rw[g];exact Ih W (EB (s,Qb q n c)) 40 1 1
 obtain⟨v',W2,t,y,z,d⟩:=Fc (P:=V) f B 79 79 40 m (Qf #[Z U 0,Z U 0,Z U 0,Z U 0,Z U 0,A ⟨#[]⟩,Qb S 0 0]) 7 80 underlying79 o p r l rfl (by decide) v ps.length (FM ps) (AG (P:=fun _=>False) C (Ac.of_below b) (fun _ _ h=>h)) (O ⟨W.heap.size,0,S⟩) 1 1 (EB (s,Qb q n c)) rfl i (fun u hu=>by
   simp only[EB,QU,List.not_mem_nil,or_false]at hu;rcases hu with rfl | rfl | rfl | rfl | rfl | rfl | rfl<;>rfl) (by unfold Qn;omega) (by omega) (Qo D b.size)
 have j:W2.ownsRow B 40 7 v' (ps++ [(s,Qb q n c)]).length (FM (ps++ [(s,Qb q n c)])):=by
  rw[Q2,nX];simpa [FM] using y
 refine⟨v',W2,t,j,(Ac.of_below b).trans (Ac.grown z) (fun _ h _=>h),?_⟩;rcases d with d | d
 ·exact Qd d
 ·exact Qe ⟨_,d,b.size⟩
theorem nZ {W n:I} {P:Nat->Prop} {v:Value} {l:List Fl} (h:Ai W v l) (q:l≠ []->∀k,v.ownBlock=O k->¬P k) (g:Ac P W n):Ai n v l:=by
 rcases h with h | ⟨b,o,c,m,p,f⟩
 ·exact Qd h
 ·by_cases i:l= []
  ·exact Qd ⟨O ⟨b,o,S⟩,c,by rw[m,i];rfl,fun e=>(nomatch e),i⟩
  ·have d:=q i b (by rw[m];rfl);exact Qe ⟨b,o,c,m,p,fun j hj=>⟨g.keep d (f j hj).1,g.keep d (f j hj).2.1,g.keep d (f j hj).2.2.1,g.keep d (f j hj).2.2.2.1,g.keep d (f j hj).2.2.2.2.1,g.keep d (f j hj).2.2.2.2.2⟩⟩
theorem J5 {W:I} {v:Value} {f:List Fl} (h:Ai W v f) (d:f≠ []) {k:Nat} (e:v.ownBlock=O k):k<W.heap.size:=by
 rcases h with⟨_,_,_,_,g⟩|⟨b,o,c,i,l,j⟩
 ·exact absurd g d
 ·rw[i]at e;simp only[Qx,Q9]at e;rw[<-e];exact BF (j 0 (QV.2 d)).1
def DD (W:I) (B:Nat) (v:Value) (ss:List Sn):Prop :=
 ∃ps:List (Sn×Value),ps.map (fun p=>p.1)=ss/\W.ownsRow B 40 7 v ps.length (FM ps)/\∀p∈ps,Ai W p.2 p.1.2.2.2.2.2.2/\(p.1.2.2.2.2.2.2≠ []->∀k,p.2.ownBlock=O k->v.ownBlock≠O k)
theorem DD.nil (W:I) (B:Nat):DD W B (Qb S 0 0) []:=⟨[],rfl,Xr _ _ _ _,fun _ h=>(nomatch h)⟩
theorem DD.below {W c:I} {B:Nat} {v:Value} {d:List Sn} (h:DD W B v d) (f:BL W c):DD c B v d:=by
 obtain⟨g,i,j,b⟩:=h;exact⟨g,i,AG (P:=fun _=>False) j (Ac.of_below f) (fun _ _ h=>h),fun p hp=>⟨(b p hp).1.below f,(b p hp).2⟩⟩
theorem DD.blk {W:I} {B:Nat} {v:Value} {d:List Sn} (h:DD W B v d) {k:Nat} (c:v.ownBlock=O k):B<=k/\k<W.heap.size:=by
 obtain⟨f,g,b,i⟩:=h;exact⟨(A7 b c).1,(A7 b c).2.1⟩
theorem DD.run {W:I} {B:Nat} {v:Value} {j:List Sn} (h:DD W B v j) (o:B<=W.heap.size) (s:Sn) (q:Option Qi) (n c:Nat) (z:Ai W (Qb q n c) s.2.2.2.2.2.2) (C:s.2.2.2.2.2.2≠ []->∀k,(Qb q n c).ownBlock=O k->v.ownBlock≠O k) (i:j.length<=1000) :
  ∃v' W2,(QG #[79,79] 79 #[v,Qb (O ⟨W.heap.size,0,S⟩) 1 1]).run V (W.alloc (J #[Z U s.1,Z U s.2.1,Z U s.2.2.1,Z U s.2.2.2.1,Z U s.2.2.2.2.1,A s.2.2.2.2.2.1,Qb q n c] 40))= .ok v' W2/\DD W2 B v' (j++ [s])/\Below B W W2:=by
 obtain⟨r,l,m,t⟩:=h;obtain⟨v',W2,u,y,f,g⟩:=nY m o s q n c rfl (by rw[<-l,QA]at i;exact i);refine⟨v',W2,u,⟨r++ [(s,Qb q n c)],by rw[QH,l];rfl,y,fun p d=>?_⟩,f.below o (fun k hk=>(A7 m hk).1)⟩;have b:Ai W p.2 p.1.2.2.2.2.2.2/\(p.1.2.2.2.2.2.2≠ []->∀k,p.2.ownBlock=O k->v.ownBlock≠O k):=by
  rcases QB.1 d with d | d
  ·exact t p d
  ·rw[Q3]at d;subst d;exact⟨z,C⟩
 refine⟨nZ b.1 b.2 f,fun hne k hk e=>?_⟩;rcases g with g | ⟨E,g,D⟩
 ·exact b.2 hne k hk (g▸e)
 ·rw[g]at e;injection e with e;have:=J5 b.1 hne hk;omega
theorem DD.sns {W:I} {B:Nat} {v:Value} {l:List Sn} (h:DD W B v l):FJ W v l:=by
 obtain⟨d,o,p,q⟩:=h;subst o;rcases p.2 with⟨s,t⟩|⟨g,i,z,rfl,_,u,k,_,_,y⟩
 ·have m:=List.length_eq_zero_iff.1 t;subst m;exact Qd ⟨S,0,s,fun _=>rfl,rfl⟩
 ·refine Qe ⟨g,0,i,by rw[QA],by rw[QA];exact k,fun j hj=>?_⟩;have f:j<d.length:=by simpa using hj
  have b:∀c,c<7->W.cell? ⟨g,0+(j*7+c),S⟩=(EB d[j])[c]? :=fun c b=>by
   have e:=UM d j c f b;have n:c<(EB d[j]).length:=by rw[MF];exact b
   rw[List.getElem?_eq_getElem n]at e ⊢;rw[<-y,Xs,if_pos (by omega)]at e;simp only[Qq,u,QF];simpa using e
  obtain⟨r,-⟩:=q d[j] (Qy _);rw[List.getElem_map];refine⟨?_,?_,d[j].2,?_,r,?_,?_,?_,?_⟩
  ·simpa [EB] using b 0 (by omega)
  ·simpa [EB,Qr] using b 3 (by omega)
  ·simpa [EB,Qr] using b 6 (by omega)
  ·simpa [EB,Qr] using b 1 (by omega)
  ·simpa [EB,Qr] using b 2 (by omega)
  ·simpa [EB,Qr] using b 4 (by omega)
  ·simpa [EB,Qr] using b 5 (by omega)
structure AX (W:I) (a:Nat->Qi):Prop where
 x:GE W a
 p:Lj W a
 m:Gm W a
 f:G9 W a
theorem AX.s {W:I} {a:Nat->Qi} (h:AX W a):DR W:=h.m.base
theorem J6 {W:I} {v:Value} {zs:List Int} (h:A4 W v zs) (d:zs≠ []) {j:Nat} (e:v.ownBlock=O j):j<W.heap.size:=by
 rcases h with⟨_,_,_,f⟩|⟨b,o,c,g,i⟩
 ·exact absurd f d
 ·rw[g]at e;simp only[Qx,Q9]at e;rw[<-e];exact BF (i 0 (QV.2 d))
def DY {α:Type} (v:Value) (l:List α) (kb:Nat) (SP:Nat->Prop):Prop:=l≠ []->∀j,v.ownBlock=O j->j≠kb/\¬SP j
theorem DY.nil {α:Type} (v:Value) (b:Nat) (c:Nat->Prop):DY v ([]:List α) b c:=fun h=>absurd rfl h
structure Al (W:I) (kb:Nat) (vs:Value) (SP:Nat->Prop) (hd:ByteArray) (vi vf:Value) (k:Lk):Prop where
 blk:CB W kb vs k.spec hd vi k.now vf
 st:An W vs SP k.st
 ids:CA W vi k.ids
 fls:Ai W vf k.now.2.2.2.2.2.2
 off:¬SP kb
 offi:DY vi k.ids kb SP
 offf:DY vf k.now.2.2.2.2.2.2 kb SP
def UN (W:I) (kb:Nat) (k:Lk) (j:Nat):Prop:= ∃o v,(o=3\/o=10/\k.now.2.2.2.2.2.2≠ [])/\W.cell? ⟨kb,o,S⟩=O v/\v.ownBlock=O j
def FO (W:I) (kb:Nat) (k:Lk) (vi vf:Value) (k':Lk):Prop:= ∀j,vi.ownBlock=O j\/(k'.now.2.2.2.2.2.2≠ []/\vf.ownBlock=O j)->W.heap.size<=j\/UN W kb k j
theorem FO.low {W X:I} {b:Nat} {k c:Lk} {d vf:Value} (h:FO X b k d vf c) (f:BL W X) (g:b<W.heap.size):FO W b k d vf c:=fun j hj=>(h j hj).imp (Qo f.size) fun ⟨o,v,ho,hc,e⟩=>⟨o,v,ho,by
 have:=f.block b g;unfold Qq at *;dsimp only at *;rw[this]at hc;exact hc,e⟩
section
variable {a : Nat → Qi} {B : Nat} {EM : I → Prop} {W w' : I} {kb : Nat} {vs vi vf : Value} {SP : Nat → Prop} {hd : ByteArray} {k : Lk}
theorem Al.owt (h:Al W kb vs SP hd vi vf k):FO W kb k vi vf k:=fun _ hj=>Qe (hj.elim (fun e=>⟨3,vi,Qd rfl,h.blk.cells.2.2.2.1,e⟩) (fun e=>⟨10,vf,Qe ⟨rfl,e.1⟩,h.blk.cells.2.2.2.2.2.2.2.2.2.2.1,e.2⟩))
theorem Al.quiet (K:A2 a B EM An) (h:Al W kb vs SP hd vi vf k) (b:BL W w'):Al w' kb vs SP hd vi vf k :=
 ⟨(b.block kb h.blk.lt).trans h.blk,K.keep _ _ _ _ (fun _=>False) _ h.st (Ac.of_below b) (fun _ _ h=>h),⟨h.ids.1.below b,h.ids.2⟩,h.fls.below b,h.off,h.offi,h.offf⟩
theorem DY.up {α:Type} {v:Value} {l:List α} {b:Nat->Prop} (h:DY v l kb SP) (c:l≠ []->∀j,v.ownBlock=O j->j<W.heap.size) (d:∀j,b j->SP j\/W.heap.size<=j):DY v l kb b:=fun hne j hj=>⟨(h hne j hj).1,fun e=>(d j e).elim (h hne j hj).2 (fun e'=>absurd (c hne j hj) (by omega))⟩
theorem Al.post (h:Al W kb vs SP hd vi vf k) {d:St} (g:Dt An W vs SP d w'):∃SP',Al w' kb vs SP' hd vi vf { k with st:=d } /\Ac SP W w'/\∀j,SP' j->SP j\/W.heap.size<=j:=by
 obtain⟨SP',f,b,c⟩:=g;refine⟨SP',⟨(b.block kb h.blk.lt h.off).trans h.blk,f,⟨Kr h.ids.1 (fun hne j hj=>(h.offi hne j hj).2) b,h.ids.2⟩,Ks h.fls (fun hne j hj=>(h.offf hne j hj).2) b,fun e=>(c kb e).elim h.off (fun e'=>absurd h.blk.lt (by omega)),h.offi.up (fun hne j hj=>J6 h.ids.1 hne hj) c,h.offf.up (fun hne j hj=>J5 h.fls hne hj) c⟩,b,c⟩
theorem Al.but (K:A2 a B EM An) (h:Al W kb vs SP hd vi vf k) {P:Nat->Prop} (b:Ac P W w') (c:∀j,SP j->¬P j) (d:¬P kb) (hi:k.ids≠ []->∀j,vi.ownBlock=O j->¬P j) (f:k.now.2.2.2.2.2.2≠ []->∀j,vf.ownBlock=O j->¬P j):Al w' kb vs SP hd vi vf k :=
 ⟨(b.block kb h.blk.lt d).trans h.blk,K.keep _ _ _ _ P _ h.st b c,⟨Kr h.ids.1 hi b,h.ids.2⟩,Ks h.fls f b,h.off,h.offi,h.offf⟩
theorem Al.ptr (K:A2 a B EM An) (h:Al W kb vs SP hd vi vf k):∃p,vs=Ql (O p):=K.ptr _ _ _ _ h.st
theorem Al.sizes (K:A2 a B EM An) (h:Al W kb vs SP hd vi vf k):kb<W.heap.size/\∀j,SP j->j<W.heap.size:=⟨h.blk.lt,fun j hj=>K.lt _ _ _ _ j h.st hj⟩
end
def Bb (b:ByteArray):List UInt8:=b.data.toList
theorem OZ {a b:ByteArray} (h:Bb a=Bb b):a=b:=Iw h
theorem UO (a b:ByteArray):Bu a b=decide (Bb a<Bb b):=by
 unfold Bu Bb;rw[ByteArray.toList_eq,ByteArray.toList_eq,bytesLess_eq]
def Du (zs:List (List UInt8)):List (List UInt8):=zs.mergeSort fun x y=>decide (x<=y)
theorem Pa (zs:List (List UInt8)):(Du zs).Perm zs:=List.mergeSort_perm _ _
theorem Pb (zs:List (List UInt8)):(Du zs).length=zs.length:=(Pa zs).length_eq
theorem UP (zs:List (List UInt8)):(Du zs).Pairwise fun x y=>x<=y:=by
 have d:=List.pairwise_mergeSort (le:=fun x y:List UInt8=>decide (x<=y)) (fun a b c h1 d=>by simp only[decide_eq_true_eq]at *;exact QW h1 d) (fun a b=>by simp only[Bool.or_eq_true,decide_eq_true_eq];exact List.le_total a b) zs;exact d.imp fun h=>by simpa using h
theorem oA {a b:List UInt8} (h:a<=b) (c:a≠b):a<b:=Classical.byContradiction fun hn=>c (Xt h hn)
theorem UQ (d:Array (List UInt8)) (s:∀i j,i<=j->j<d.size->d[i]! <=d[j]!):∀m,m<=d.size->(compactUpTo d m).Pairwise (· < ·)/\(∀x,x∈compactUpTo d m↔∃j,j<m/\d[j]! =x)/\∀x∈compactUpTo d m,∀j,m<=j+1->j<d.size->x<=d[j]! :=by
 intro m
 induction m with
 | zero=>intro _;exact⟨by simp[compactUpTo],by simp[compactUpTo],by simp[compactUpTo]⟩
 | succ m ih =>
  intro t;obtain⟨q,n,r⟩:=ih (by omega);rw[compactUpTo_succ]
  cases c:keeps d m with
  | true =>
   simp only[if_true];have g:∀x∈compactUpTo d m,x<d[m]! :=by
    intro x b;have o:m≠0:=by
     intro e;subst e;obtain⟨j,f,_⟩:=(n x).1 b;omega
    simp only[keeps,decide_eq_true_eq]at c;rcases c with c | c
    ·exact absurd c o
    ·have l:=r x b (m-1) (by omega) (by omega);have p:=s (m-1) m (by omega) (by omega);refine oA (QW l p) fun e=>c ?_;rw[e]at l;exact Xt l p
   refine⟨List.pairwise_append.2 ⟨q,List.pairwise_singleton _ _,fun x b y hy=>by rw[Q3.1 hy];exact g x b⟩,fun x=>?_,fun x b j hj1 hj2=>?_⟩
   ·rw[QB,Q3,n];constructor
    ·rintro(⟨j,f,e⟩ | e)
     ·exact⟨j,by omega,e⟩
     ·exact⟨m,by omega,e.symm⟩
    ·rintro⟨j,f,e⟩;rcases QC j m with h | h
     ·exact Qd ⟨j,h,e⟩
     ·have:j=m:=by omega
      subst this;exact Qe e.symm
   ·rw[QB,Q3]at b;have k:=s m j (by omega) hj2;rcases b with b | b
    ·exact QW (List.le_of_lt (g x b)) k
    ·rw[b];exact k
  | false =>
   simp only[QX,if_false,QY];simp only[keeps,decide_eq_false_iff_not,not_or,ne_eq,Classical.not_not]at c;refine⟨q,fun x=>?_,fun x b j hj1 hj2=>r x b j (by omega) hj2⟩;rw[n];constructor
   ·rintro⟨j,f,e⟩;exact⟨j,by omega,e⟩
   ·rintro⟨j,f,e⟩;rcases QC j m with h | h
    ·exact⟨j,h,e⟩
    ·have:j=m:=by omega
     subst this;exact⟨j-1,by omega,by rw[<-e,c.2]⟩
theorem UR (zs:List (List UInt8)) (i j:Nat) (c:i<=j) (d:j<(Du zs).toArray.size):(Du zs).toArray[i]! <=(Du zs).toArray[j]! :=by
 have b:j<(Du zs).length:=by simpa using d
 rw[getElem!_pos _ i (by omega),getElem!_pos _ j d];rcases Nat.lt_or_eq_of_le c with h | h
 ·exact Xu.1 (UP zs) i j (by omega) b h
 ·subst h;exact List.le_refl _
def MG (zs:List (List UInt8)):List (List UInt8):=Lib.compact (Du zs)
theorem US (zs:List (List UInt8)):(MG zs).Pairwise (· < ·):=(UQ (Du zs).toArray (UR zs) (Du zs).length (by simp)).1
theorem oB (zs:List (List UInt8)) (x:List UInt8):x∈MG zs↔x∈zs:=by
 have h:=(UQ (Du zs).toArray (UR zs) (Du zs).length (by simp)).2.1 x;show x∈compactUpTo (Du zs).toArray (Du zs).length↔_;rw[h,<-(Pa zs).mem_iff];constructor
 ·rintro⟨j,b,e⟩;rw[getElem!_pos _ j (by simpa using b)]at e;rw[<-e];exact Qy _
 ·intro c;obtain⟨j,b,e⟩:=Xv.1 c;exact⟨j,b,by rw[getElem!_pos _ j (by simpa using b)];simpa using e⟩
theorem oC (c:List Sn):MG ((c.flatMap BE).map Bb)=(C7 c).map Bb:=by
 refine List.Perm.eq_of_pairwise (le:=fun a b:List UInt8=>a<b) (fun a b _ _ h1 h2=>absurd (List.lt_trans h1 h2) (Xw _)) (US _) ?_ ?_
 ·rw[QZ];exact(Ui c).imp fun h=>by rw[UO,decide_eq_true_eq]at h;exact h
 ·refine(Xx ((US _).imp fun h e=>by subst e;exact Xw _ h) ?_).2 fun x=>?_
  ·show Xy _ _;rw[QZ];exact(Ui c).imp fun h e=>Mb h (OZ e)
  ·rw[oB,Qp,Qp];constructor
   ·rintro⟨a,d,rfl⟩;exact⟨a,OE.2 (by simpa [Xz] using d),rfl⟩
   ·rintro⟨a,d,rfl⟩;exact⟨a,by simpa [Xz] using OE.1 d,rfl⟩
def Lo (s:St):Prop:= ∀o∈s.obs,0<=o.2.2/\o.2.2<=100000
theorem oD:Lo E1:=fun _ h=>(nomatch h)
theorem oE {s:St} (h:Lo s) (n:ByteArray): -1<=Ib s.obs n/\Ib s.obs n<=100000:=by
 unfold Ib
 cases b:B5 s.obs n with
 | none=>simp
 | some o =>
  have:=h o (Ge b).1;simp only;omega
theorem oF {s:St} (K:AY s) {o:Ob} (b:o∈s.obs):Ib s.obs o.1=o.2.2:=by
 unfold Ib;rw[Jl K.rise b]
def Lp (s:St) (us:List ByteArray) (age:Int) (x:ByteArray):Bool:=AQ us x || decide (s.day-Ib s.obs x<age)
theorem oG {s:St} (K:AY s) {c b:List ByteArray} (i:∀x,x∈c↔x∈b) (age:Int):((s.obs.map fun o=>o.1).filter fun x=> !Lp s c age x)=Gj s b age:=by
 unfold Gj;rw[Q4];congr 1;apply Q5;intro o g;simp only[Function.comp,Lp];rw[oF K g];have d:AQ c o.1=AQ b o.1:=by
  rw[X0,Ju,Ju,i]
 have f:decide (s.day-o.2.2<age)= !decide (age<=s.day-o.2.2):=by
  rw[X0];simp
 rw[d,f];cases AQ b o.1<;>cases decide (age<=s.day-o.2.2)<;>rfl
theorem oH {l:List UInt8} {n:Int} (h:At l=O n): -1000000000000000000<n/\n<1000000000000000000:=by
 unfold At at h;split at h
 ·rename_i c
  cases b:atoi l with
  | none=>rw [b]at h;cases h
  | some x =>
   rw[b]at h;dsimp only at h;split at h
   ·cases h
    exact atoi_bound b (by omega)
   ·cases h
 ·cases h
theorem oI {n:Int} (o:Ob) (h:0<=n/\n<1000000000000000000):0<=Fd n o/\Fd n o<1000000000000000000:=by
 unfold Fd;split
 ·rename_i x b;have:=oH b;split<;>omega
 ·exact h
theorem UT:∀(l:List Ob) (n:Int),0<=n/\n<1000000000000000000->0<=l.foldl Fd n/\l.foldl Fd n<1000000000000000000
 | [],_,h=>h
 | o :: r,n,h=>UT r (Fd n o) (oI o h)
theorem Pc (l:List Ob):0<=Fe l/\Fe l<1000000000000000000:=UT l 0 (by decide)
theorem oJ {l:List Ob} {n:Nat} (h:n<l.length):Fe (l.take (n+1))=Fd (Fe (l.take n)) l[n]:=by
 unfold Fe;rw[<-X1 h,Xa];rfl
theorem oK {l:List UInt8} {j:Nat} (q:j<=l.length) (o:∀i (h:i<l.length),j<=i->l[i]≠47) (p:∀k,j=k+1->l[k]? =O 47):IB l=l.drop j:=by
 unfold IB;have e:l.reverse=(l.drop j).reverse++(l.take j).reverse:=by rw[<-X2,List.take_append_drop]
 have d:∀c∈(l.drop j).reverse,decide (c≠47)=Qc:=fun c hc=>by
  rw[List.mem_reverse,Xv]at hc;obtain⟨i,n,rfl⟩:=hc;rw[List.getElem_drop];exact decide_eq_true (o (j+i) (by rw[List.length_drop]at n;omega) (by omega))
 have b:(l.take j).reverse.takeWhile (fun c=>decide (c≠47))= []:=by
  cases j with
  | zero=>rfl
  | succ k =>
   have m:=p k rfl;obtain⟨f,g⟩:=X3.1 m;rw[<-X1 f,X2,g];rfl
 rw[e,List.takeWhile_append_of_pos d,b,QY,List.reverse_reverse]
theorem oL (v:Value) (xs:List Rw) (w:I) (h:Ap w v xs) (g:xs.length<=20000) :
  Qm V 53 #[v] w fun e w'=> ∃v',e=Qh v'/\Ap w' v' (A3 xs)/\BL w w'/\∀k,v'.ownBlock=O k->w.heap.size<=k:=by
 have i:=LW v xs w h g
 go_enter func53,ntmps53
 go_wp2_with (first
  | (go_at_call 102;refine i.mono ?_;rintro e l ⟨d,rfl,c,m⟩;have j:=NR d xs w.heap.size w l m (QI _) c g;have b:∀k,d.ownBlock=O k->w.heap.size<=k:=(fun k hk=>(c.lt k hk).1);clear c)
  | (go_at_call 103;refine j.mono ?_;rintro e o ⟨rfl,n,f,-⟩))
 go_ret;exact⟨_,rfl,n,f,b⟩
theorem UU (w:I):F8 w (Qb S 0 0):=fun k h=>by simp[Qx]at h
def IG (w:I) (e:Xb):Prop:= ∀v' ev,e=Qh (QD #[v',ev])->F8 w v'
theorem Pd {w:I} {v b:Value} (h:F8 w v):IG w (Qh (QD #[v,b])):=by
 intro d c e;cases e
 exact h
theorem F8.up {w w':I} {v:Value} (h:F8 w' v) (b:w.heap.size<=w'.heap.size):F8 w v:=fun k hk=>Qo b (h k hk)
theorem MH {W f:I} {P:Nat->Prop} {b o:Nat} {u:Value} (g:Ac P W f) (i:¬P b) (h:W.cell? ⟨b,o,S⟩=O u):f.cell? ⟨b,o,S⟩=O u:=by
 have d:b<W.heap.size:=by
  rcases QC b W.heap.size with c | c
  ·exact c
  ·simp[Qq,X4 c]at h
 simp only[Qq]at h ⊢;rw[g.block b d i];exact h
theorem Ap.but {W g:I} {P:Nat->Prop} {v:Value} {xs:List Rw} (h:Ap W v xs) (f:Ac P W g) (r:xs≠ []->∀k,v.ownBlock=O k->¬P k):Ap g v xs:=by
 rcases h with⟨q,c,e,n⟩|⟨b,o,c,e,p⟩
 ·exact Qd ⟨q,c,e,n⟩
 ·refine Qe ⟨b,o,c,e,fun j hj=>?_⟩;subst e;have d:¬P b:=r (fun e=>by rw[e]at hj;exact absurd hj (X5 _)) b (by simp[Qx]);obtain⟨i,l,m⟩:=p j hj;exact⟨MH f d i,MH f d l,MH f d m⟩
theorem Pe {W:I} {v:Value} {xs:List Rw} (h:Ap W v xs) (d:xs≠ []) {k:Nat} (e:v.ownBlock=O k):k<W.heap.size:=by
 rcases h with⟨q,c,g,l⟩|⟨b,o,c,g,m⟩
 ·exact absurd l d
 ·subst g;obtain⟨j,-⟩:=m 0 (QV.2 d);have i:b=k:=by simpa [Qx] using e
  subst i;rcases QC b W.heap.size with f | f
  ·exact f
  ·simp[Qq,X4 f]at j
end
section
open Go Go.Lib
def Aj (obs:List Ob) (x:Fl):Nat×ByteArray :=
 if (Ba obs x.1).2≠0 then ((Ba obs x.1).2,⟨#[]⟩) else
 if (B1 x.1 x.2.1 (Ba obs x.1).1.data.toList x.2.2.2.2.2).2≠0 then ((B1 x.1 x.2.1 (Ba obs x.1).1.data.toList x.2.2.2.2.2).2,⟨#[]⟩) else
 if (B1 x.1 x.2.1 (Ba obs x.1).1.data.toList x.2.2.2.2.2).1≠x then (3,⟨#[]⟩) else (0,(Ba obs x.1).1)
def EC (lo hi:Int) (x:Fl) (text:ByteArray) (acc:List (Rw×Int)):List (Rw×Int) :=
 if x.2.1.data.toList≠ [45] then acc++((Bn text.data.toList).1.filter (Bs lo hi)).map fun r=>(r,x.2.2.2.2.2)
 else acc.filter fun p=> !((B8 text.data.toList).1.contains p.1.2.1 && decide (p.2<x.2.2.2.2.2))
def Cj (obs:List Ob) (lo hi:Int):List Fl->Nat->List (Rw×Int)->List (Rw×Int)×Nat×Option Nat
 | [],_,acc=>(acc,0,S)
 | x :: r,i,acc=>if As lo hi x=Qa then Cj obs lo hi r (i+1) acc else
  if (Aj obs x).1≠0 then ([],(Aj obs x).1,O i) else Cj obs lo hi r (i+1) (EC lo hi x (Aj obs x).2 acc)
def AR (obs:List Ob) (s:Sn) (lo hi:Int):List Rw×Nat×Option Nat :=
 if (Am s).1≠0 then ([],Am s) else
 if (Cj obs lo hi s.2.2.2.2.2.2 0 []).2.1≠0 then ([],(Cj obs lo hi s.2.2.2.2.2.2 0 []).2) else
 (A3 ((Cj obs lo hi s.2.2.2.2.2.2 0 []).1.map (·.1)),0,S)
section
variable {obs : List Ob} {lo hi : Int} {fs : List Fl} {n : Nat} {acc : List (Rw × Int)}
end
theorem J7 {lo hi:Int} {x:Fl} {b:ByteArray} {c:List (Rw×Int)} (h:x.2.1.data.toList≠ [45]):EC lo hi x b c=c++((Bn b.data.toList).1.filter (Bs lo hi)).map fun r=>(r,x.2.2.2.2.2):=by unfold EC;rw[if_pos h]
theorem J8 {lo hi:Int} {x:Fl} {b:ByteArray} {c:List (Rw×Int)} (h:x.2.1.data.toList= [45]):EC lo hi x b c=c.filter fun p=> !((B8 b.data.toList).1.contains p.1.2.1 && decide (p.2<x.2.2.2.2.2)):=by unfold EC;rw[if_neg (by simpa using h)]
end
section
open Go Go.Lib Go.Sort
abbrev Be:Int:= -9223372036854775808
abbrev Bf:Int:=9223372036854775807
theorem UV {xs:List Rw} (h:xs.Pairwise fun x y=>(!(ltOf AP) y x)=Qc):A3 xs=xs:=List.mergeSort_of_pairwise h
theorem UW (p:Rw->Bool) (xs:List Rw):A3 (xs.filter p)=(A3 xs).filter p:=by
 rw[<-UV ((LZ xs).sublist (X6 (p:=p)))];exact Je ((Dy xs).symm.filter p)
theorem UX {obs:List Ob} {x:Fl} (h:(Aj obs x).1=0):B1 x.1 x.2.1 (Aj obs x).2.data.toList x.2.2.2.2.2=(x,0):=by
 unfold Aj at h ⊢;by_cases c:(Ba obs x.1).2≠0
 ·rw[if_pos c]at h;exact absurd h c
 ·rw[if_neg c]at h ⊢;by_cases b:(B1 x.1 x.2.1 (Ba obs x.1).1.data.toList x.2.2.2.2.2).2≠0
  ·rw[if_pos b]at h;exact absurd h b
  ·rw[if_neg b]at h ⊢;by_cases d:(B1 x.1 x.2.1 (Ba obs x.1).1.data.toList x.2.2.2.2.2).1≠x
   ·rw[if_pos d]at h;cases h
   ·rw[if_neg d];exact Prod.ext (by simpa using d) (by simpa using b)
theorem UY {obs:List Ob} {x:Fl} (h:(Aj obs x).1=0):∃g n,AB x.1.data.toList=O (g,n)/\Dz g x.2.1.data.toList=Qc/\Db x=Qc/\∀k∈(Bp g (Aj obs x).2.data.toList).1,x.2.2.2.1<=k/\k<=x.2.2.2.2.1:=by
 have b:=UX h;generalize (Aj obs x).2.data.toList=t at b ⊢;unfold B1 at b;split at b
 ·cases b
 ·rename_i g n i;split at b
  ·rename_i j;unfold Eg at b;split at b
   ·rename_i p;obtain⟨f,_⟩:=Qz b;have l:Au x=0:=by rw[<-f];exact p
    obtain⟨q,r,c,m,o⟩:=D0 l;rw[i]at c;cases c
    refine⟨g,n,i,m,o,fun k hk'=>?_⟩;have d:(Bp g t).1≠ []:=fun e=>by rw[e]at hk';cases hk'
    have:=(Su d).2.2 k hk';rw[<-f];exact this
   ·cases b
  ·rename_i j;exact absurd (Qz b).2 j
theorem Lq {g:Bool} {s:List UInt8} (h:Dz g s=Qc):s= [45]↔g=Qc:=by
 unfold Dz at h
 cases g with
 | true=>simpa using h
 | false =>
  refine⟨fun e=>?_,fun e=>by cases e⟩;subst e;revert h;decide
theorem oM {obs:List Ob} {lo hi:Int} {x:Fl} {d:List (Rw×Int)} (h:(Aj obs x).1=0) (t:As lo hi x=Qa) (u:∀p∈d,Bs lo hi p.1=Qc):EC lo hi x (Aj obs x).2 d=d:=by
 obtain⟨g,n,o,c,v,m⟩:=UY h;have l:∀k:Int,x.2.2.2.1<=k->k<=x.2.2.2.2.1->¬(lo<=k/\k<=hi):=fun k i j h3=>by
  have:=of_decide_eq_false t;apply this;split<;>split<;>omega
 by_cases f:x.2.1.data.toList= [45]
 ·rw[J8 f];obtain rfl:=(Lq c).1 f;refine QJ.2 fun p hp'=>?_;have b:=u p hp';unfold Bs at b;simp only[QK,decide_eq_true_eq]at b;have:(B8 (Aj obs x).2.data.toList).1.contains p.1.2.1=Qa:=by
   cases s:(B8 (Aj obs x).2.data.toList).1.contains p.1.2.1 with
   | false=>rfl
   | true =>
    obtain⟨i,j⟩:=m p.1.2.1 (by simpa [Bp] using s);exact absurd b (l _ i j)
  rw[this];rfl
 ·rw[J7 f];obtain rfl:g=Qa:=by
   cases g with
   | false=>rfl
   | true=>exact absurd ((Lq c).2 rfl) f
  have:((Bn (Aj obs x).2.data.toList).1.filter (Bs lo hi))= []:=by
   rw[X7];intro r q b;unfold Bs at b;simp only[QK,decide_eq_true_eq]at b;obtain⟨i,j⟩:=m r.2.1 (by simp only[Bp,QX,if_false];exact Qp.2 ⟨r,q,rfl⟩);exact l _ i j b
  rw[this];simp
theorem oN {lo hi:Int} (k:Be<=lo) (l:hi<=Bf) (x:Fl) (b:ByteArray) (d:List (Rw×Int)):EC lo hi x b (d.filter fun p=>Bs lo hi p.1)=(EC Be Bf x b d).filter fun p=>Bs lo hi p.1:=by
 by_cases c:x.2.1.data.toList= [45]
 ·rw[J8 c,J8 c,Q6,Q6];congr 1;funext p;exact Bool.and_comm _ _
 ·rw[J7 c,J7 c,QL,Q4,Q6];congr 2;apply Q5;intro r _;unfold Bs;by_cases f:lo<=r.2.1
  ·by_cases g:r.2.1<=hi
   ·have i:Be<=r.2.1:=Int.le_trans k f;have j:r.2.1<=Bf:=Int.le_trans g l;simp[f,g,i,j]
   ·simp[g]
  ·simp[f]
theorem oO {lo hi:Int} {x:Fl} (b:Be<=lo) (c:hi<=Bf) (h:As lo hi x=Qc):As Be Bf x=Qc:=by
 have:=of_decide_eq_true h;apply decide_eq_true;split at this<;>split at this<;>split<;>split<;>omega
theorem Pf {obs:List Ob} {lo hi:Int} (g:Be<=lo) (j:hi<=Bf):∀(fs:List Fl) (i:Nat) (acc out:List (Rw×Int)),Cj obs Be Bf fs i acc=(out,0,S)->Cj obs lo hi fs i (acc.filter fun p=>Bs lo hi p.1)=(out.filter fun p=>Bs lo hi p.1,0,S)
 | [],i,acc,out,h=>by
  obtain⟨rfl,_⟩:=Qz h;rfl
 | x :: r,i,acc,out,h=>by
  unfold Cj at h ⊢;by_cases d:As Be Bf x=Qa
  ·rw[if_pos d]at h;have l:As lo hi x=Qa:=by
    cases c:As lo hi x with
    | false=>rfl
    | true=>rw [oO g j c]at d;cases d
   rw[if_pos l];exact Pf g j r (i+1) acc out h
  ·rw[if_neg d]at h;by_cases b:(Aj obs x).1≠0
   ·rw[if_pos b]at h;have:=(Qz (Qz h).2).1;exact absurd this b
   ·rw[if_neg b]at h;have k:(Aj obs x).1=0:=by simpa using b
    have f:=Pf g j r (i+1) _ out h;rw[<-oN g j]at f;by_cases c:As lo hi x=Qa
    ·rw[if_pos c];rw[oM k c (fun p hp'=>(QM.1 hp').2)]at f;exact f
    ·rw[if_neg c,if_neg b];exact f
theorem Pg {obs:List Ob} {lo hi:Int} :∀ {fs:List Fl} {i:Nat} {acc:List (Rw×Int)},(Cj obs lo hi fs i acc).2.1=0->Cj obs lo hi fs i acc=((Cj obs lo hi fs i acc).1,0,S)
 | [],i,acc,h=>rfl
 | x :: r,i,acc,h=>by
  unfold Cj at h ⊢;by_cases c:As lo hi x=Qa
  ·rw[if_pos c]at h ⊢;exact Pg h
  ·rw[if_neg c]at h ⊢;by_cases b:(Aj obs x).1≠0
   ·rw[if_pos b]at h;exact absurd h b
   ·rw[if_neg b]at h ⊢;exact Pg h
theorem oP {obs:List Ob} {s:Sn} {lo hi:Int} (g:Be<=lo) (i:hi<=Bf) (h:(AR obs s Be Bf).2.1=0):AR obs s lo hi=((AR obs s Be Bf).1.filter (Bs lo hi),0,S):=by
 unfold AR at h ⊢;by_cases b:(Am s).1≠0
 ·rw[if_pos b]at h;exact absurd h b
 ·rw[if_neg b]at h ⊢;rw[if_neg b];by_cases c:(Cj obs Be Bf s.2.2.2.2.2.2 0 []).2.1≠0
  ·rw[if_pos c]at h;exact absurd h c
  ·rw[if_neg c];have d:Cj obs Be Bf s.2.2.2.2.2.2 0 []=((Cj obs Be Bf s.2.2.2.2.2.2 0 []).1,0,S):=Pg (by simpa using c);have f:=Pf g i _ 0 [] _ d;rw[List.filter_nil]at f;rw[f];rw[<-UW,Q4];rfl
abbrev Ct:=List (Rw×Int)×List (Int×Int)
def B0 (l:List (Int×Int)) (k:Int):Int:=l.foldl (fun m p=>if p.1=k then max m p.2 else m) 0
theorem UZ (l:List (Int×Int)) (z q k:Int):B0 (l++ [(z,q)]) k=if z=k then max (B0 l k) q else B0 l k:=by
 unfold B0;rw[Xa];rfl
theorem oQ (l:List (Int×Int)) (q k:Int):∀ks:List Int,B0 (l++ks.map fun z=>(z,q)) k=if ks.contains k then max (B0 l k) q else B0 l k:=by
 intro ks
 induction ks generalizing l with
 | nil=>simp
 | cons z r ih =>
  have e:l++(z :: r).map (fun z=>(z,q))=(l++ [(z,q)])++r.map fun z=>(z,q):=by simp
  rw[e,ih,UZ];by_cases b:z=k
  ·subst b;by_cases c:r.contains z=Qc
   ·rw[if_pos c,if_pos rfl,if_pos (by simp)];omega
   ·rw[if_neg c,if_pos rfl,if_pos (by simp)]
  ·have d:(z :: r).contains k=r.contains k:=by
    rw[List.contains_cons];have:(k == z)=Qa:=by simpa using fun e=>b e.symm
    rw[this,Bool.false_or]
   rw[if_neg b,d]
theorem oR {l:List (Int×Int)} {B:Int} (h:∀p∈l,p.2<=B) (g:0<=B) (k:Int):0<=B0 l k/\B0 l k<=B:=by
 unfold B0;have b:∀(l:List (Int×Int)) (m:Int),(∀p∈l,p.2<=B)->0<=m->m<=B->0<=l.foldl (fun m p=>if p.1=k then max m p.2 else m) m/\l.foldl (fun m p=>if p.1=k then max m p.2 else m) m<=B:=by
  intro l
  induction l with
  | nil=>intro m _ c d;exact⟨c,d⟩
  | cons p r ih =>
   intro m f c d;rw[Xc];have i:=f p Qs;refine ih _ (fun q hq=>f q (Q0 _ hq)) ?_ ?_
   ·split<;>omega
   ·split<;>omega
 exact b l 0 h (Int.le_refl _) g
def ED (x:Fl) (text:ByteArray) (c:Ct):Ct :=
 if x.2.1.data.toList≠ [45] then (c.1++(Bn text.data.toList).1.map (fun r=>(r,x.2.2.2.2.2)),c.2) else (c.1,c.2++(B8 text.data.toList).1.map fun k=>(k,x.2.2.2.2.2))
theorem Lr {x:Fl} {b:ByteArray} {c:Ct} (h:x.2.1.data.toList≠ [45]):ED x b c=(c.1++(Bn b.data.toList).1.map (fun r=>(r,x.2.2.2.2.2)),c.2):=by unfold ED;rw[if_pos h]
theorem MI {x:Fl} {b:ByteArray} {c:Ct} (h:x.2.1.data.toList= [45]):ED x b c=(c.1,c.2++(B8 b.data.toList).1.map fun k=>(k,x.2.2.2.2.2)):=by unfold ED;rw[if_neg (by simpa using h)]
def BO (obs:List Ob) (g:List Fl) (c:Ct):Ct:=g.foldl (fun c x=>ED x (Aj obs x).2 c) c
theorem oS (obs:List Ob) (g:List Fl) (x:Fl) (c:Ct):BO obs (g++ [x]) c=ED x (Aj obs x).2 (BO obs g c):=by
 unfold BO;rw[Xa];rfl
def BP (l:List (Int×Int)) (p:Rw×Int):Bool:=decide (p.2<B0 l p.1.2.1)
def EP (lo hi:Int) (c:Ct):List (Rw×Int):=c.1.filter fun p=>Bs lo hi p.1 && !BP c.2 p
theorem MJ {obs:List Ob} {lo hi:Int} :∀(fs:List Fl) (i:Nat) (acc:List (Rw×Int)),(∀x∈fs.filter (As lo hi),(Aj obs x).1=0)->Cj obs lo hi fs i acc=((fs.filter (As lo hi)).foldl (fun a x=>EC lo hi x (Aj obs x).2 a) acc,0,S)
 | [],i,acc,_=>rfl
 | x :: r,i,acc,h=>by
  unfold Cj;by_cases b:As lo hi x=Qa
  ·rw[if_pos b];have e:(x :: r).filter (As lo hi)=r.filter (As lo hi):=by rw[QN,b];rfl
   rw[e]at h ⊢;exact MJ r (i+1) acc h
  ·have c:As lo hi x=Qc:=by simpa using b
   have e:(x :: r).filter (As lo hi)=x :: r.filter (As lo hi):=by rw[QN,c];rfl
   rw[e]at h ⊢;rw[if_neg b,if_neg (by simpa using h x Qs),Xc];exact MJ r (i+1) _ fun y hy=>h y (Q0 _ hy)
theorem Ph {obs:List Ob} {lo hi:Int} :∀(fs:List Fl) (i:Nat) (acc:List (Rw×Int)) (n:Nat) (x:Fl),(fs.filter (As lo hi))[n]? =O x->(∀m y,m<n->(fs.filter (As lo hi))[m]? =O y->(Aj obs y).1=0)->(Aj obs x).1≠0->∃j,fs[j]? =O x/\Cj obs lo hi fs i acc=([],(Aj obs x).1,O (i+j))
 | [],i,acc,n,x,h,_,_=>by simp at h
 | y :: r,i,acc,n,x,h,hm,hb=>by
  unfold Cj;by_cases b:As lo hi y=Qa
  ·rw[if_pos b];have e:(y :: r).filter (As lo hi)=r.filter (As lo hi):=by rw[QN,b];rfl
   rw[e]at h hm;obtain⟨j,c,d⟩:=Ph r (i+1) acc n x h hm hb;exact⟨j+1,by simpa using c,by rw[d,Qr,X8 1 j]⟩
  ·have f:As lo hi y=Qc:=by simpa using b
   have e:(y :: r).filter (As lo hi)=y :: r.filter (As lo hi):=by rw[QN,f];rfl
   rw[e]at h hm;rw[if_neg b]
   cases n with
   | zero =>
    rw[List.getElem?_cons_zero]at h;obtain rfl:=X9 h;rw[if_pos hb];exact⟨0,rfl,rfl⟩
   | succ k =>
    have g:=hm 0 y (by omega) rfl;rw[if_neg (by simpa using g)];rw[XA]at h;obtain⟨j,c,d⟩:=Ph r (i+1) _ k x h (fun m z hk hz=>hm (m+1) z (by omega) (by rw[XA];exact hz)) hb;exact⟨j+1,by simpa using c,by rw[d,Qr,X8 1 j]⟩
def Ls (g:List Fl):Prop:=g.Pairwise fun x y=>x.2.1.data.toList= [45]->y.2.1.data.toList= [45]
theorem Va {f:Fl} (h:Au f=0):f.2.1.data.toList= [45]↔1073741824<fk f:=by
 obtain⟨g,n,b,c,d⟩:=D0 h;rw[Lq c];obtain⟨e,i,j⟩:=Kd b;unfold fk;rw[e];cases g
 ·simp only[QX,if_false,false_iff];omega
 ·simp only[if_true,true_iff];omega
theorem Vb {d:List Fl} (h:Eh 0 d):Ls d:=by
 unfold Ls;obtain⟨b,c⟩:=h
 induction d with
 | nil=>exact List.Pairwise.nil
 | cons f r ih =>
  rw[XB]at c ⊢;refine⟨fun g hg hf=>?_,ih (fun g hg=>b g (Q0 _ hg)) c.2⟩;have i:=(Va (b f Qs).1).1 hf;have j:=c.1 g hg;exact(Va (b g (Q0 _ hg)).1).2 (by omega)
theorem Vc {b:List Fl} (h:Ls b) (p:Fl->Bool):Ls (b.filter p):=h.sublist X6
theorem oT {lo hi:Int} {c:Ct} {x:Fl} {b:ByteArray} (d:x.2.1.data.toList≠ [45]) (f:c.2= []) (g:0<=x.2.2.2.2.2):EC lo hi x b (EP lo hi c)=EP lo hi (ED x b c):=by
 rw[J7 d,Lr d];unfold EP;rw[QL];congr 1;rw[Q4];congr 1;apply Q5;intro r _;have:BP c.2 (r,x.2.2.2.2.2)=Qa:=by
  unfold BP;rw[f];apply decide_eq_false;show ¬(x.2.2.2.2.2<0);omega
 simp[this]
theorem oU {lo hi:Int} {c:Ct} {x:Fl} {b:ByteArray} (g:x.2.1.data.toList= [45]):EC lo hi x b (EP lo hi c)=EP lo hi (ED x b c):=by
 rw[J8 g,MI g];unfold EP;rw[Q6];apply Q5;intro p _;have:BP (c.2++(B8 b.data.toList).1.map fun k=>(k,x.2.2.2.2.2)) p=(BP c.2 p || ((B8 b.data.toList).1.contains p.1.2.1 && decide (p.2<x.2.2.2.2.2))):=by
  unfold BP;rw[oQ];cases i:(B8 b.data.toList).1.contains p.1.2.1
  ·simp
  ·simp only[if_true,Bool.true_and];by_cases d:p.2<B0 c.2 p.1.2.1
   ·rw[decide_eq_true d,decide_eq_true (by omega)];rfl
   ·rw[decide_eq_false d];by_cases f:p.2<x.2.2.2.2.2
    ·rw[decide_eq_true f,decide_eq_true (by omega)];rfl
    ·rw[decide_eq_false f,decide_eq_false (by omega)];rfl
 rw[this];cases Bs lo hi p.1<;>cases BP c.2 p<;>cases ((B8 b.data.toList).1.contains p.1.2.1 && decide (p.2<x.2.2.2.2.2))<;>rfl
theorem MK {obs:List Ob} {lo hi:Int} :∀(g:List Fl) (c:Ct),Ls g->(c.2= []\/∀x∈g,x.2.1.data.toList= [45])->(∀x∈g,0<=x.2.2.2.2.2)->g.foldl (fun a x=>EC lo hi x (Aj obs x).2 a) (EP lo hi c)=EP lo hi (BO obs g c)
 | [],c,_,_,_=>rfl
 | x :: r,c,ha,f,hq=>by
  rw[Xc];have k:BO obs (x :: r) c=BO obs r (ED x (Aj obs x).2 c):=rfl;rw[k];have b:=XB.1 ha;have i:=fun y hy=>hq y (Q0 _ hy);by_cases d:x.2.1.data.toList= [45]
  ·rw[oU d];exact MK r _ b.2 (Qe fun y hy=>b.1 y hy d) i
  ·have j:c.2= []:=by
    rcases f with f | f
    ·exact f
    ·exact absurd (f x Qs) d
   rw[oT d j (hq x Qs)];refine MK r _ b.2 (Qd ?_) i;rw[Lr d];exact j
def Br (ys:List (Rw×Int)) (q:Int):List Rw:=(ys.filter fun p=>decide (p.2=q)).map (·.1)
theorem oV (ys zs:List (Rw×Int)) (q:Int):Br (ys++zs) q=Br ys q++Br zs q:=by
 unfold Br;rw[QL,QH]
theorem oW (l:List Rw) (q:Int):Br (l.map fun r=>(r,q)) q=l:=by
 unfold Br;rw[QJ.2 (fun p hp=>by obtain⟨r,_,rfl⟩:=Qp.1 hp;simp)];rw[List.map_map]
 conv=>rhs;rw[<-List.map_id l]
 rfl
theorem oX (l:List Rw) (q z:Int) (h:z≠q):Br (l.map fun r=>(r,q)) z= []:=by
 unfold Br;rw[X7.2 (fun p hp=>by obtain⟨r,_,rfl⟩:=Qp.1 hp;simpa using fun e=>h e.symm)];rfl
theorem oY {r:List Int} {f g:Int->List (Rw×Int)} (h:∀z∈r,f z=g z):r.flatMap f=r.flatMap g:=by
 induction r with
 | nil=>rfl
 | cons z t ih=>rw [Qw,Qw,h z Qs,ih fun y hy=>h y (Q0 _ hy)]
theorem Vd:∀(qs:List Int) (ys:List (Rw×Int)),qs.Nodup->(∀p∈ys,p.2∈qs)->(qs.flatMap fun q=>ys.filter fun p=>decide (p.2=q)).Perm ys
 | [],ys,_,h=>by
  cases ys with
  | nil=>exact List.Perm.refl _
  | cons p r=>have:=h p Qs;cases this
 | q :: r,ys,hn,h=>by
  rw[Qw];have d:=List.nodup_cons.1 hn;have e:(r.flatMap fun z=>ys.filter fun p=>decide (p.2=z))=r.flatMap fun z=>(ys.filter fun p=> !decide (p.2=q)).filter fun p=>decide (p.2=z):=by
   apply oY;intro z g;rw[Q6];apply Q5;intro p _;by_cases b:p.2=z
   ·have:¬p.2=q:=fun e=>d.1 (by rw[<-e,b];exact g);simp[b];rw[b]at this;exact this
   ·simp[b]
  rw[e];refine(List.Perm.append_left _ (Vd r _ d.2 ?_)).trans ?_
  ·intro p i;obtain⟨b,f⟩:=QM.1 i;have c:=h p b;rw[QU]at c;rcases c with c | c
   ·simp[c]at f
   ·exact c
  ·exact List.filter_append_perm _ _
def BQ (c:Ct) (qs:List Int):List Rw:=qs.flatMap fun q=>(Br c.1 q).filter fun r=> !BP c.2 (r,q)
theorem Ve (c:Ct) (b:List Int) (g:b.Nodup) (h:∀p∈c.1,p.2∈b):(BQ c b).Perm ((c.1.filter fun p=> !BP c.2 p).map (·.1)):=by
 have d:=((Vd b c.1 g h).filter fun p=> !BP c.2 p).map (·.1);have e:BQ c b=((b.flatMap fun q=>c.1.filter fun p=>decide (p.2=q)).filter fun p=> !BP c.2 p).map (·.1):=by
  unfold BQ;clear g h d
  induction b with
  | nil=>rfl
  | cons q r ih =>
   rw[Qw,Qw,QL,QH,ih];congr 1;unfold Br;rw[Q4];congr 1;apply Q5;intro p d;have f:=(QM.1 d).2;simp only[decide_eq_true_eq]at f;obtain⟨i,j⟩:=p;subst f;rfl
 rw[e];exact d
theorem oZ (lo hi:Int) (c:Ct) (b:List Int) (d:b.Nodup) (h:∀p∈c.1,p.2∈b):A3 ((BQ c b).filter (Bs lo hi))=A3 ((EP lo hi c).map (·.1)):=by
 have e:((c.1.filter fun p=> !BP c.2 p).map (·.1)).filter (Bs lo hi)=(EP lo hi c).map (·.1):=by
  unfold EP;rw[Q4,Q6];rfl
 rw[<-e];exact Je ((Ve c b d h).filter _)
theorem pA {b:List Fl} (h:Eh 0 b) {j:Nat} {x:Fl} (d:b[j]? =O x):Dp b x.1=j:=by
 obtain⟨c,rfl⟩:=X3.1 d;refine My c (fun i hi hlt e=>?_) rfl;have:=Xu.1 h.2 i j hi c hlt;unfold fk at this;rw[e]at this;omega
theorem Fg {s:Sn} (h:(Am s).1=0):s.2.2.2.2.2.2.length<=60/\Eh 0 s.2.2.2.2.2.2:=by
 unfold Am at h;split at h
 ·cases h
 ·split at h
  ·cases h
  ·split at h
   ·rename_i b;exact absurd h b
   ·rename_i b;exact GW.1 (by simpa using b)
theorem Pi {f:Fl} (h:Au f=0):1<=f.2.2.2.2.2/\f.2.2.2.2.2<=1073741824:=by
 obtain⟨g,n,c,d,b⟩:=D0 h;unfold Db at b;simp only[QK,decide_eq_true_eq,Do]at b;omega
theorem pB {obs:List Ob} {s:Sn} {lo hi:Int} (g:(Am s).1=0) (h:∀x∈s.2.2.2.2.2.2.filter (As lo hi),(Aj obs x).1=0) (b:List Int) (j:b.Nodup) (k:∀p∈(BO obs (s.2.2.2.2.2.2.filter (As lo hi)) ([], [])).1,p.2∈b) :
  AR obs s lo hi=(A3 ((BQ (BO obs (s.2.2.2.2.2.2.filter (As lo hi)) ([], [])) b).filter (Bs lo hi)),0,S):=by
 have c:=(Fg g).2;have d:=MJ s.2.2.2.2.2.2 0 [] h;have f:=MK (obs:=obs) (lo:=lo) (hi:=hi) (s.2.2.2.2.2.2.filter (As lo hi)) ([], []) (Vc (Vb c) _) (Qd rfl) (fun x hx=>by
  have:=(Pi (c.1 x (QM.1 hx).1).1).1;omega)
 have i:EP lo hi ([], [])= []:=rfl;rw[i]at f;rw[f]at d;unfold AR;rw[if_neg (by simpa using g),d];simp only[ne_eq,not_true_eq_false,if_false];rw[oZ lo hi _ b j k]
theorem pC {obs:List Ob} {s:Sn} {lo hi:Int} (f:(Am s).1=0) (n:Nat) (x:Fl) (g:(s.2.2.2.2.2.2.filter (As lo hi))[n]? =O x) (i:∀m y,m<n->(s.2.2.2.2.2.2.filter (As lo hi))[m]? =O y->(Aj obs y).1=0) (c:(Aj obs x).1≠0) :
  ∃j,s.2.2.2.2.2.2[j]? =O x/\AR obs s lo hi=([],(Aj obs x).1,O j):=by
 obtain⟨j,d,b⟩:=Ph s.2.2.2.2.2.2 0 [] n x g i c;rw[QF]at b;refine⟨j,d,?_⟩;unfold AR;rw[if_neg (by simpa using f),b,if_pos c]
end
section
open Go.Extern Go.Extern.Stop Go.Lib Go.RowKit Go.Shelf Go.Sort Go.Stop
theorem ML {W:I} {base:Nat} {e:Qj} {d:Nat} {v:Value} {n:Nat} {xs:List Value} (h:W.ownsRow base e d v n xs) {k:Nat} (b:v.ownBlock=O k):base<=k/\∃cur,W.heap[k]? =O (J cur e (0,0)):=by
 rcases h.2 with⟨c,_⟩|⟨g,j,cur,c,f,i,_⟩
 ·rw[c]at b;simp[Qx]at b
 ·rw[c]at b;simp[Qx]at b;subst b;exact⟨f,cur,i⟩
theorem pD {W i:I} {base:Nat} {e:Qj} {d:Nat} {v:Value} {n:Nat} {xs:List Value} (m:W.ownsRow base e d v n xs) (o:W.grownBy i v.ownBlock) {k:Nat} {c:Array Value} {t:Qj} {f:Nat×Nat} (g:W.heap[k]? =O (J c t f)) (j:t≠e):i.heap[k]? =O (J c t f):=by
 have l:O k≠v.ownBlock:=fun e'=>by
  obtain⟨_,p,b⟩:=ML m e'.symm;rw[g]at b;injection b with b;injection b with _ b;exact j b
 rw[o.block k (lt_of_block g) l];exact g
theorem pE (l:List Ob) (n:ByteArray):(Ba l n).2=0\/(Ba l n).2=6:=by
 unfold Ba;split
 ·exact Qd rfl
 ·exact Qe rfl
theorem pF {s:St} (K:AY s) (n:ByteArray):(Ba s.obs n).1.size<=20000:=by
 unfold Ba;split
 ·rename_i o b;exact K.texts o (Ge b).1
 ·exact Nat.zero_le _
theorem pG {obs:List Ob} {x:Fl} (h:(Ba obs x.1).2≠0):(Aj obs x).1=(Ba obs x.1).2:=by unfold Aj;rw[if_pos h]
theorem pH {obs:List Ob} {x:Fl} (h:(Ba obs x.1).2=0):Aj obs x=if (B1 x.1 x.2.1 (Ba obs x.1).1.data.toList x.2.2.2.2.2).2≠0 then ((B1 x.1 x.2.1 (Ba obs x.1).1.data.toList x.2.2.2.2.2).2,⟨#[]⟩) else if (B1 x.1 x.2.1 (Ba obs x.1).1.data.toList x.2.2.2.2.2).1≠x then (3,⟨#[]⟩) else (0,(Ba obs x.1).1):=by unfold Aj;rw[if_neg (by simpa using h)]
section
variable {w wr w' : I} {rb sb : Nat} {s : Sn} {vf out seqs : Value} {rs : List Rw} {ns : List Int}
end
def CJ:Value->Option (Qg Unit×List Q7)
 | .slice S 0 0=>O (.nil, [])
 | .slice (O ⟨g,0,S⟩) n c=>O (.agg [.lit (.int .i64 g),.lit (.int .i64 n),.lit (.int .i64 c)], [])
 | _=>S
theorem Vf {v:Value} {z:Qg Unit×List Q7} (h:CJ v=O z):z.2= []:=by
 unfold CJ at h;split at h
 ·cases h;rfl
 ·cases h;rfl
 ·cases h
theorem Vg {v v':Value} {z:Qg Unit×List Q7} (h:CJ v=O z) (b:CJ v'=O z):v=v':=by
 unfold CJ at h;split at h
 ·cases h
  unfold CJ at b;split at b
  ·rfl
  ·cases b
  ·cases b
 ·cases h
  unfold CJ at b;split at b
  ·cases b
  ·simp only[Q9,Xo,and_true,DataW.agg.injEq,List.cons.injEq,DataW.lit.injEq,Lit.int.injEq,true_and]at b;obtain⟨g,i,j⟩:=b;have c:=Xd g;have d:=Xd i;have f:=Xd j;subst c d f;rfl
  ·cases b
 ·cases h
theorem J9 {v:Value} {z:Qg Unit×List Q7} (h:CJ v=O z):∃q n c,v= .slice q n c:=by
 unfold CJ at h;split at h
 ·exact⟨_,_,_,rfl⟩
 ·exact⟨_,_,_,rfl⟩
 ·cases h
theorem MM {W:I} {base:Nat} {e:Qj} {b:Nat} {v:Value} {n:Nat} {xs:List Value} (h:W.ownsRow base e b v n xs):∃d,CJ v=O (d, []):=by
 rcases h.2 with⟨e,_⟩|⟨g,c,f,e,_⟩
 ·exact⟨_,by rw[e];rfl⟩
 ·exact⟨_,by rw[e];rfl⟩
theorem GF {W:I} {base:Nat} {e:Qj} {b:Nat} {v:Value} {n:Nat} {xs:List Value} (h:W.ownsRow base e b v n xs) {g:Nat} (f:v.ownBlock=O g):base<=g/\g<W.heap.size:=by
 obtain⟨c,i,d⟩:=ML h f;exact⟨c,(Qt.1 d).1⟩
theorem Tryz.keyedI:Maps.Keyed V 3:=Maps.int_keyed QO
theorem Tryz.zeroRows2 (w:I):(zeroValue 35).run V w= .ok (Qb S 0 0) w:=by kernel_rfl
theorem Tryz.zeroInt2 (w:I):(zeroValue 3).run V w= .ok (Z U 0) w:=by kernel_rfl
theorem Vh {z:Int} (b: -9223372036854775808<=z) (c:z<=9223372036854775807):(Lit.int .i64 z).wf=Qc:=by
 have h:=wrap64_wf z;have e:wrap64 z=z:=by unfold wrap64;omega
 rw[e]at h;exact h
theorem MN {z:Int} (b: -9223372036854775808<=z) (c:z<=9223372036854775807):keyOf V 3 (.int .i64 z)=O (.int .i64 z):=Maps.keyOf_int_mk QO (Vh b c)
structure EE (W:I) (base bm:Nat) (ys:List (Rw×Int)) (qs:List Int) (D:Qg Unit) (hv:Int->Value):Prop where
 map:W.ownsMap V 3 CJ bm qs.length D
 isMap:XC D
 hd:∀z,CJ (hv z)=O (D.atKey (.int .i64 z) .nil, [])
 has:∀z,Xe D (.int .i64 z)=Qc↔z∈qs
 own:∀z,W.ownsRow base 62 3 (hv z) (Br ys z).length (Az (Br ys z))
 apart:∀x y,x≠y->(hv x).ownBlock=S\/(hv x).ownBlock≠(hv y).ownBlock
 low:bm<base
 all:∀p∈ys,p.2∈qs
theorem EE.keep {W i:I} {base c:Nat} {ys:List (Rw×Int)} {n:List Int} {D:Qg Unit} {j:Int->Value} (h:EE W base c ys n D j) (t:i.heap[c]? =W.heap[c]?) (u:∀z g,(j z).ownBlock=O g->i.heap[g]? =W.heap[g]?):EE i base c ys n D j where
 map:=by
  obtain⟨o,b,k,r⟩:=h.map;exact⟨o,b,t.trans k,r⟩
 isMap:=h.isMap
 hd:=h.hd
 has:=h.has
 own:=fun z=>by
  obtain⟨p,f⟩:=h.own z;refine⟨p,?_⟩;rcases f with f | ⟨g,l,m,d,q,s,r⟩
  ·exact Qd f
  ·exact Qe ⟨g,l,m,d,q,(u z g (by rw[d];rfl)).trans s,r⟩
 apart:=h.apart
 low:=h.low
 all:=h.all
theorem EE.below {W c:I} {base b:Nat} {ys:List (Rw×Int)} {d:List Int} {D:Qg Unit} {f:Int->Value} (h:EE W base b ys d D f) (i:BL W c):EE c base b ys d D f :=
 h.keep (i.block b h.map.lt) fun z g hg=>i.block g (GF (h.own z) hg).2
theorem EE.made (W:I) (b base:Nat) (c:W.ownsMap V 3 CJ b 0 (.map [])) (d:b<base):EE W base b [] [] (.map []) (fun _=>.slice S 0 0) where
 map:=c
 isMap:=XD
 hd:=fun _=>rfl
 has:=fun z=>by simp[Xe]
 own:=fun z=>by simp[Br,Az];exact Xr _ _ _ _
 apart:=fun _ _ _=>Qd rfl
 low:=d
 all:=fun p hp=>by cases hp
theorem EE.look {W:I} {base d:Nat} {ys:List (Rw×Int)} {i:List Int} {D:Qg Unit} {f:Int->Value} (h:EE W base d ys i D f) {z:Int} (j: -9223372036854775808<=z) (k:z<=9223372036854775807) :
  (QP 133 (.map (O d)) (.int .i64 z) Qa).run V W= .ok (f z) W:=by
 obtain⟨v,l,b,c⟩:=h.map.lookup Tryz.keyedI XE (Tryz.zeroRows2 W) (zd:=.nil) (zp:= []) rfl (MN j k);have g:=Vf c;subst g;rw[b,Vg c (h.hd z)]
theorem EE.step {W k W4:I} {base f:Nat} {ys:List (Rw×Int)} {t:List Int} {D:Qg Unit} {i:Int->Value} (h:EE W base f ys t D i) (q:Int) (l:List Rw) (v':Value) (d:Qg Unit)
  (j:k.ownsRow base 62 3 v' ((Br ys q).length+l.length) (Az (Br ys q)++Az l))
  (K:W.grownBy k (i q).ownBlock) (b:v'.ownBlock=(i q).ownBlock\/v'.ownBlock=O W.heap.size)
  (L:W4.ownsMap V 3 CJ f (t.length+1) (D.put (.int .i64 q) d)) (s:k.grownBy W4 (O f)) (M:CJ v'=O (d, [])) :
  EE W4 base f (ys++l.map fun r=>(r,q)) (q :: t) (D.put (.int .i64 q) d) (fun m=>if m=q then v' else i m):=by
 have u:∀ {v:Value} {n:Nat} {l:List Value},k.ownsRow base 62 3 v n l->v.ownBlock=S\/v.ownBlock≠O f:=fun {v n l} hr=>by
  cases E:v.ownBlock with
  | none=>exact Qd rfl
  | some g =>
   refine Qe fun e=>?_;have:=(GF hr E).1;have N:=h.low;simp only[Q9]at e;omega
 have o:∀ {x y:Int},x≠y->Lit.int .i64 x≠Lit.int .i64 y:=fun h e=>h (by injection e);refine⟨L,h.isMap.put _ _,fun m=>?_,fun m=>?_,fun m=>?_,fun x' y' hxy=>?_,h.low,fun p c=>?_⟩
 ·by_cases e:m=q
  ·subst e;rw[if_pos rfl,XF h.isMap (show Xf (.int .i64 m) from trivial)];exact M
  ·rw[if_neg e,XG (o e)];exact h.hd m
 ·by_cases e:m=q
  ·subst e;rw[Maps.has_put_same h.isMap (show Xf (.int .i64 m) from trivial)];simp
  ·rw[Maps.has_put_other (o e),QU];rw[h.has m];simp[e]
 ·rw[oV];by_cases e:m=q
  ·subst e;rw[if_pos rfl,oW,Q2,KE];exact j.kept s (u j)
  ·rw[if_neg e,oX l q m e,QY];have z:=(h.own m).kept K (h.apart m q e);exact z.kept s (u z)
 ·by_cases B:x'=q
  ·subst B;rw[if_pos rfl,if_neg (fun e'=>hxy e'.symm)];rcases b with b | b
   ·rw[b];exact h.apart _ _ hxy
   ·rw[b];refine Qe fun e=>?_;have:=(GF (h.own y') e.symm).2;omega
  ·rw[if_neg B];by_cases C:y'=q
   ·subst C;rw[if_pos rfl];rcases b with b | b
    ·rw[b];exact h.apart _ _ hxy
    ·rw[b]
     cases F:(i x').ownBlock with
     | none=>exact Qd rfl
     | some g =>
      refine Qe fun e=>?_;have:=(GF (h.own x') F).2;simp only[Q9]at e;omega
   ·rw[if_neg C];exact h.apart _ _ hxy
 ·rw[QB]at c;rcases c with c | c
  ·exact Q0 _ (h.all p c)
  ·obtain⟨r,_,rfl⟩:=Qp.1 c;exact Qs
structure Fh (W:I) (bm:Nat) (l:List (Int×Int)) (D:Qg Unit):Prop where
 map:W.ownsMap V 3 (Xg V 3) bm l.length D
 isMap:XC D
 at_:∀z,D.atKey (.int .i64 z) (.lit (.int .i64 0))= .lit (.int .i64 (B0 l z))
 bnd:∀p∈l,p.2<=1073741824
theorem Fh.keep {W f:I} {c:Nat} {l:List (Int×Int)} {D:Qg Unit} (h:Fh W c l D) (i:f.heap[c]? =W.heap[c]?):Fh f c l D where
 map:=by
  obtain⟨g,b,d,r⟩:=h.map;exact⟨g,b,i.trans d,r⟩
 isMap:=h.isMap
 at_:=h.at_
 bnd:=h.bnd
theorem Fh.made (W:I) (b:Nat) (c:W.ownsMap (H:=Unit) V 3 (Xg V 3) b 0 (.map [])):Fh W b [] (.map []) where
 map:=c
 isMap:=XD
 at_:=fun _=>rfl
 bnd:=fun p hp=>by cases hp
theorem Fh.look {W:I} {f:Nat} {l:List (Int×Int)} {D:Qg Unit} (h:Fh W f l D) {z:Int} (g: -9223372036854775808<=z) (i:z<=9223372036854775807) :
  (QP 134 (.map (O f)) (.int .i64 z) Qa).run V W= .ok (.int .i64 (B0 l z)) W:=by
 obtain⟨c,d,b,_⟩:=h.map.lookup_int Tryz.keyedI XH QO (Tryz.zeroInt2 W) (MN g i);rw[h.at_ z]at b;have:B0 l z=c:=by simpa using b
 rw[this];exact d
theorem Fh.step {W:I} {c:Nat} {l:List (Int×Int)} {D:Qg Unit} (h:Fh W c l D) {z q:Int} (i: -9223372036854775808<=z) (j:z<=9223372036854775807) (o:l.length<1000000) (m:0<=q/\q<=1073741824) :
  ∃w',(Xh 134 (.map (O c)) (.int .i64 z) (.int .i64 (max (B0 l z) q))).run V W= .ok () w'/\(∃D',Fh w' c (l++ [(z,q)]) D')/\W.mapTurned w' c:=by
 have n:=oR h.bnd (by omega) z;obtain⟨w',d,f,g⟩:=h.map.store Tryz.keyedI XH (by unfold Qn;omega) (MN i j) (plainElem_int QO (Vh (z:=max (B0 l z) q) (by omega) (by omega)));refine⟨w',d,⟨_,⟨by rw[Q2];exact f,h.isMap.put _ _,fun k=>?_,fun p b=>?_⟩⟩,g⟩
 rotate_left
 ·rw[QB,Q3]at b;rcases b with b | rfl
  ·exact h.bnd p b
  ·exact m.2
 rw[UZ];by_cases e:z=k
 ·subst e;rw[XF h.isMap (show Xf (.int .i64 z) from trivial),if_pos rfl]
 ·rw[XG (fun e'=>e (by injection e' with _ e';exact e'.symm)),if_neg e];exact h.at_ k
structure B6 (W:I) (base b1 b2:Nat) (c:Ct) (qs:List Int):Prop where
 rows:∃D hv,EE W base b1 c.1 qs D hv
 keys:∃D,Fh W b2 c.2 D
 low:b2<base
 ne:b1≠b2
theorem B6.below {W f:I} {base g b:Nat} {c:Ct} {i:List Int} (h:B6 W base g b c i) (j:BL W f):B6 f base g b c i:=by
 obtain⟨⟨D,k,l⟩,⟨m,d⟩,n,o⟩:=h;exact⟨⟨D,k,l.below j⟩,⟨m,d.keep (j.block b d.map.lt)⟩,n,o⟩
theorem B6.addKey {W:I} {base j b:Nat} {c:Ct} {o:List Int} (h:B6 W base j b c o) {z q:Int} (p: -9223372036854775808<=z) (r:z<=9223372036854775807) (y:c.2.length<1000000) (B:0<=q/\q<=1073741824) :
  ∃w',(QP 134 (.map (O b)) (Z U z) Qa).run V W= .ok (Z U (B0 c.2 z)) W/\(Xh 134 (.map (O b)) (Z U z) (Z U (max (B0 c.2 z) q))).run V W= .ok () w' /\
   B6 w' base j b (c.1,c.2++ [(z,q)]) o/\Ac (fun k=>k=b) W w':=by
 obtain⟨⟨D,s,f⟩,⟨C,l⟩,t,m⟩:=h;obtain⟨w',i,n,u⟩:=l.step (q:=q) p r y B;have d:=Ac.of_turned u;refine⟨w',l.look p r,i,⟨⟨D,s,f.keep (d.block j f.map.lt m) fun z g hg=>?_⟩,n,t,m⟩,d⟩;obtain⟨E,v⟩:=GF (f.own z) hg;exact d.block g v (by omega)
theorem B6.noCell {W:I} {base g i:Nat} {c:Ct} {n:List Int} (h:B6 W base g i c n) {b o:Nat} {v:Value} (j:W.cell? ⟨b,o,S⟩=O v):b≠g/\b≠i:=by
 obtain⟨⟨D,p,k⟩,⟨q,l⟩,r,s⟩:=h;constructor
 ·rintro rfl;obtain⟨m,d,f,_⟩:=k.map;simp[Qq,f]at j
 ·rintro rfl;obtain⟨m,d,f,_⟩:=l.map;simp[Qq,f]at j
def Dk (W:I) (base b1 b2:Nat) (k:Nat):Prop:=k=b1\/k=b2\/(base<=k/\∃c f,W.heap[k]? =O (J c 62 f))
theorem JA {W j m:I} {base d g:Nat} (h:Ac (Dk W base d g) W j) (k:Ac (Dk j base d g) j m):Ac (Dk W base d g) W m:=by
 refine h.trans k fun i b hlt=>?_;rcases b with b | b | ⟨n,c,f,o⟩
 ·exact Qd b
 ·exact Qe (Qd b)
 ·by_cases l:Dk W base d g i
  ·exact l
  ·exact Qe (Qe ⟨n,c,f,(h.block i hlt l).symm.trans o⟩)
theorem pI {W b:I} {base c d B:Nat} (h:Ac (Dk W base c d) W b) (f:B<=W.heap.size) (g:B<=c) (i:B<=d) (l:B<=base):Below B W b :=
 h.below f fun k hk=>by
  rcases hk with rfl | rfl | ⟨j,_⟩
  ·exact g
  ·exact i
  ·omega
theorem Pj {W b:I} {base c d k:Nat} (h:Ac (Dk W base c d) W b) (f:k<W.heap.size) (l:k<base) (g:k≠c) (i:k≠d):b.heap[k]? =W.heap[k]? :=
 h.block k f fun hP=>by
  rcases hP with e | e | ⟨j,_⟩
  ·exact g e
  ·exact i e
  ·omega
theorem Vi {W:I} {q:Option Qi} {n c:Nat} {l:List Rw} (h:Ap W (Qb q n c) l) (d:l≠ []):n=l.length/\CR W q n c (Az l):=by
 rcases h with⟨_,_,_,e⟩|⟨b,o,g,e,f⟩
 ·exact absurd e d
 ·injection e with e1 e2 e3;subst e1 e2;exact⟨rfl,Qe ⟨b,o,rfl,KG f⟩⟩
theorem B6.addRows {W:I} {base m j:Nat} {c:Ct} {y:List Int} (h:B6 W base m j c y) (z:base<=W.heap.size) {q:Int} (h1: -9223372036854775808<=q) (h2:q<=9223372036854775807) {L:Option Qi} {sn M:Nat} {l:List Rw} (hs:Ap W (Qb L sn M) l) (ag:l≠ []) (hq:y.length<1000000) (hc:c.1.length+l.length<=1000000) :
  ∃v v' w1 w2,(QP 133 (.map (O m)) (Z U q) Qa).run V W= .ok v W/\(∃vq vn vc,v=Qb vq vn vc)/\(∃vq vn vc,v'=Qb vq vn vc) /\
   (QG #[35,35] 35 #[v,Qb L sn M]).run V W= .ok v' w1/\(Xh 133 (.map (O m)) (Z U q) v').run V w1= .ok () w2 /\
   (∀(k:Nat) (c:Array Value) (t:Qj) (f:Nat×Nat),W.heap[k]? =O (J c t f)->t≠62->w1.heap[k]? =O (J c t f)) /\
   B6 w2 base m j (c.1++l.map (fun r=>(r,q)),c.2) (q :: y)/\Ac (Dk W base m j) W w2:=by
 obtain⟨i0,aa,ab,ac,B⟩:=Tryz.rowInfo;obtain⟨⟨D,s,g⟩,⟨D2,C⟩,h3,h4⟩:=h;have p:=g.look h1 h2;obtain⟨rfl,E⟩:=Vi hs ag;have ah:(Br c.1 q).length<=c.1.length:=by
  unfold Br;rw[QA];exact XI _ _
 obtain⟨v',w1,F,n,b,ad⟩:=Fc (P:=V) W base 35 35 62 i0 (Qf #[A ⟨#[]⟩,Z U 0,Z U 0]) 3 32 XJ aa ab ac B rfl (by decide) (s q) (Br c.1 q).length (Az (Br c.1 q)) (g.own q) L l.length M (Az l) (Ft l) E (KD l) (by unfold Qn;omega) (by omega) z;obtain⟨d,K⟩:=MM n;have N:O m≠(s q).ownBlock:=fun e=>by
  have:=(GF (g.own q) e.symm).1;have:=g.low;omega
 have Q:w1.ownsMap V 3 CJ m y.length D:=g.map.kept b N;obtain⟨w2,u,ae,o⟩:=Q.store Tryz.keyedI XE (by unfold Qn;omega) (MN h1 h2) K;have R:=g.step q l v' d n b ad ae o.grown K;have T:O j≠(s q).ownBlock:=fun e=>by
  have:=(GF (g.own q) e.symm).1;omega
 have X:w2.heap[j]? =W.heap[j]? :=(o.grown.block j (Nat.lt_of_lt_of_le C.map.lt b.size) (fun e=>h4 (by injection e with e;exact e.symm))).trans (b.block j C.map.lt T);refine⟨s q,v',w1,w2,p,J9 (g.hd q),J9 K,F,u,fun k c t f hk ht=>?_,⟨⟨_,_,R⟩,⟨D2,C.keep X⟩,h3,h4⟩,?_⟩
 ·exact pD (g.own q) b hk ht
 ·have Y:Ac (Dk W base m j) W w1:=⟨b.os,b.tape,b.output,b.size,fun k hk hP=>b.block k hk fun e=>hP (by
   obtain⟨g1,af,g2⟩:=ML (g.own q) e.symm;exact Qe (Qe ⟨g1,af,_,g2⟩))⟩
  exact Y.trans (Ac.of_turned o) fun i hi _=>Qd hi
theorem pJ {P:Program} {b:Array Oper} {o:Oper} {a:Act} {w w':I} {K:Act->I->Prop} {Q:Exit->Act->I->Prop} {E:Prop}
  (g:o.guard=S) (s x:Operand) (t:Qj) (d:o.op=Op.call { callee:=Callee.builtin Yl,args:=#[s,x],argTypes:=#[t,t] }) (v u v':Value) (i:a.eval s=v) (j:a.eval x=u)
  (c:(QG #[t,t] o.type #[v,u]).run P w= .ok v' w') (k:K (a.put o.dst v') w'):if Region.wanted o (yielded b a.tmps)=Qc then Oper.wp P o a w K Q else E:=by
 have f:Region.wanted o (yielded b a.tmps)=Qc:=by simp[Region.wanted,g]
 rw[if_pos f];unfold Oper.wp;simp[execOp,d,resolve,invoke,builtin,i,j,c,Result.andThen];exact k
abbrev GG (b1 b2:Nat):Value:=Qf #[.map (O b1),.map (O b2)]
theorem pK (w:I):Qm V 80 #[] w fun e w'=> ∃b1 b2,e=Qh (GG b1 b2)/\w.heap.size<=b1/\w.heap.size<=b2/\b1<w'.heap.size/\b2<w'.heap.size/\(∀base,b1<base->b2<base->B6 w' base b1 b2 ([], []) [])/\BL w w':=by
 have l:=@run_makeMap V;have f:BL w (((w.alloc (J #[.map (O (w.heap.size+1)),.map (O (w.heap.size+1+1))] 136)).alloc (.map #[] 0)).alloc (.map #[] 0)):=((Af _ _).alloc (by simp) _).alloc (by simp;omega) _;have g:G _:=f;have i:G (∀base,w.heap.size+1<base->w.heap.size+1+1<base->B6 (((w.alloc (J #[.map (O (w.heap.size+1)),.map (O (w.heap.size+1+1))] 136)).alloc (.map #[] 0)).alloc (.map #[] 0)) base (w.heap.size+1) (w.heap.size+1+1) ([], []) []):=fun base h1 h2=>by
  have b:=XK (w.alloc (J #[.map (O (w.heap.size+1)),.map (O (w.heap.size+1+1))] 136)) V 3 CJ;have c:=XK ((w.alloc (J #[.map (O (w.heap.size+1)),.map (O (w.heap.size+1+1))] 136)).alloc (.map #[] 0)) V 3 (Xg (H:=Unit) V 3);have j:(w.alloc (J #[.map (O (w.heap.size+1)),.map (O (w.heap.size+1+1))] 136)).heap.size=w.heap.size+1:=by simp
  have k:((w.alloc (J #[.map (O (w.heap.size+1)),.map (O (w.heap.size+1+1))] 136)).alloc (.map #[] 0)).heap.size=w.heap.size+1+1:=by simp
  rw[j]at b;rw[k]at c;refine⟨⟨_,_,EE.made _ _ base (b.alloc _) h1⟩,⟨_,Fh.made _ _ c⟩,h2,by omega⟩
 have d:G ((((w.alloc (J #[.map (O (w.heap.size+1)),.map (O (w.heap.size+1+1))] 136)).alloc (.map #[] 0)).alloc (.map #[] 0)).heap.size=w.heap.size+3):=by show _=_;simp
 go_enter func80,ntmps80
 go_wp2;refine XL (v:=GG (w.heap.size+1) (w.heap.size+1+1)) (by simp[results,results80,go_sem]) rfl ?_;exact⟨_,_,rfl,by omega,by omega,by rw[d.out];omega,by rw[d.out];omega,i.out,g.out⟩
theorem pL (W:I) (a:Nat->Qi) (hE:DI W a) (base b d:Nat) (c:Ct) (p:List Int) (q:Int) (t:ByteArray) (h:B6 W base b d c p) (s:base<=W.heap.size) (hq:1<=q/\q<=1073741824) (ht:t.size<=Qn) (C:(Bn t.data.toList).2.1=0) (z:(Bn t.data.toList).1≠ []) (Q:p.length<1000000) (R:c.1.length+(Bn t.data.toList).1.length<=1000000) :
  Qm V 244 #[GG b d,Z U q,A t] W fun e w'=>e= .returned Q1/\B6 w' base b d (c.1++(Bn t.data.toList).1.map (fun r=>(r,q)),c.2) (q :: p)/\Ac (Dk W base b d) W w':=by
 have k:BL W (W.alloc (J #[.map (O b),.map (O d)] 136)):=Af _ _;have i:(W.alloc (J #[.map (O b),.map (O d)] 136)).heap[W.heap.size]? =O (J #[.map (O b),.map (O d)] 136 (0,0)):=QQ _ _;have y:=Tu t (W.alloc (J #[.map (O b),.map (O d)] 136)) a (hE.below k) ht;generalize hD:Bn t.data.toList=D at y C z R ⊢;have T:G _:=h.below k;have E:=Qo s k.size
 go_enter func244,ntmps244
 go_upto_region 1 with fail
 have F:G _:=k;generalize W.alloc (J #[.map (O b),.map (O d)] 136)=W1 at *;generalize W.heap.size=n at i ⊢
 go_wp2_with fail
 refine y.mono ?_;rintro e f ⟨m,j⟩;obtain⟨-,v,rfl,K⟩:D.2.1=0/\∃v,e=Qh (QD #[v,Q1])/\Ap f v D.1:=by
  rcases j with j | j | j
  ·exact j
  ·exact absurd C j.1
  ·exact absurd C j.1
 obtain⟨sq,sc,rfl⟩:=K.form;have l:BL f f.drew:=(Below.refl _ _).drew;have g:f.drew.heap[n]? =O (J #[.map (O b),.map (O d)] 136 (0,0)):=(m.block n (Qt.1 i).1).trans i;obtain⟨u,u',Y,L,r1,⟨uq,un,uc,rfl⟩,⟨vq,vn,vc,rfl⟩,r2,r3,M,N,P⟩:=((T.out.below m).below l).addRows (q:=q) (Qo E (Qo m.size l.size)) (by omega) (by omega) (K.below l) z Q R;have o:=M _ _ _ _ g (by decide);have B:G (B6 L base b d (c.1++D.1.map (fun r=>(r,q)),c.2) (q :: p)/\Ac (Dk f.drew base b d) f.drew L/\BL W1 f.drew):=⟨N,P,(Ad m l)⟩;have k0:f.cell? ⟨n,0,S⟩=O (.map (O b)):=by
  rw[Qu _ _ _ _ _ _ (show f.heap[n]? =_ from g)];rfl
 have k1:f.drew.cell? ⟨n,0,S⟩=O (.map (O b)):=by
  rw[Qu _ _ _ _ _ _ g];rfl
 have k2:Y.cell? ⟨n,0,S⟩=O (.map (O b)):=by
  rw[Qu _ _ _ _ _ _ o];rfl
 go_wp2
 go_region_law (refine pJ (by rfl) _ _ _ (by rfl) _ _ _ (by rfl) (by rfl) r2 ?_)
 all_goals go_wp2
 all_goals go_ret
 all_goals
  refine⟨rfl,B.out.1,?_⟩;have X:Ac (Dk W base b d) W f.drew:=Ac.of_below (F.out.trans (B.out.2.2.mono F.out.size));exact JA X B.out.2.1
theorem pM (x y:Int) (w:I):(XM #[3,3] 3 #[Z U x,Z U y]).run V w= .ok (Z U (max x y)) w:=by
 have e:max x y=if y > x then y else x:=by split<;>omega
 rw[e];simp[XM,Ym]
theorem pO (b:List Int) (q:Int) (n:Nat) (h:n<b.length):(b.take (n+1)).map (fun z=>(z,q))=(b.take n).map (fun z=>(z,q))++ [(b[n],q)]:=by
 rw[List.take_succ_eq_append_getElem h,QH];rfl
theorem pP (W:I) (a:Nat->Qi) (hE:DT W a) (base g d:Nat) (c:Ct) (B:List Int) (q:Int) (t:ByteArray) (h:B6 W base g d c B) (hq:1<=q/\q<=1073741824) (ht:t.size<=Qn) (h0:(B8 t.data.toList).2.1=0) (F:∀z∈(B8 t.data.toList).1,-9223372036854775808<=z/\z<=9223372036854775807) (hc:c.2.length+(B8 t.data.toList).1.length<=1000000) :
  Qm V 243 #[GG g d,Z U q,A t] W fun e w'=>e= .returned Q1/\B6 w' base g d (c.1,c.2++(B8 t.data.toList).1.map fun z=>(z,q)) B/\Ac (Dk W base g d) W w':=by
 have C:BL W (W.alloc (J #[.map (O g),.map (O d)] 136)):=Af _ _;have l:(W.alloc (J #[.map (O g),.map (O d)] 136)).heap[W.heap.size]? =O (J #[.map (O g),.map (O d)] 136 (0,0)):=QQ _ _;have M:=Oz t (W.alloc (J #[.map (O g),.map (O d)] 136)) a (hE.below C) ht;generalize hD:B8 t.data.toList=D at M h0 F hc ⊢;obtain⟨f,E0⟩:=D;have HC:G _:=h.below C
 go_enter func243,ntmps243
 go_upto_region 1 with fail
 have HA:G _:=C;generalize W.alloc (J #[.map (O g),.map (O d)] 136)=W1 at *;generalize W.heap.size=K at l ⊢
 go_wp2_with fail
 refine M.mono ?_;rintro e j ⟨y,r⟩;obtain⟨-,v,rfl,hv,-⟩:E0.1=0/\∃v,e=Qh (QD #[v,Q1])/\A4 j v f/\Oy W1 v:=by
  rcases r with r | r | r
  ·exact r
  ·exact absurd h0 r.1
  ·exact absurd h0 r.1
 obtain⟨kq,kc,rfl⟩:=hv.form;have E:=HC.out.below y;have s:j.heap[K]? =O (J #[.map (O g),.map (O d)] 136 (0,0)):=(y.block K (Qt.1 l).1).trans l;have k0:j.cell? ⟨K,1,S⟩=O (.map (O d)):=by
  rw[Qu _ _ _ _ _ _ s];rfl
 have N:G (A4 j (Qb kq f.length kc) f):=hv;have aa:G (BL W1 j):=y;have ab:G (∀z∈f,-9223372036854775808<=z/\z<=9223372036854775807):=F;have X:=(E.noCell k0).2;obtain⟨L,hL⟩:∃L,f.length=L:=⟨_,rfl⟩;have Y:G (f.length=L):=hL;rw[hL]at N hc ⊢;have P:G (B6 j base g d c B):=E;clear hL hv y F E l s HC;go_wp2
 go_loopw [18] (fun k wr=> ∃n:Nat,n<=L/\k=Z U n/\B6 wr base g d (c.1,c.2++(f.take n).map fun z=>(z,q)) B/\Ac (fun k=>k=d) j wr) (fun k _=>L-(intOf k).toNat)
 case atStart=>exact ⟨0,by omega,rfl,by simpa using P.out,Ac.refl _ _⟩
 case round =>
  obtain⟨n,hn,rfl,T,u⟩:=hrel;have Q:G (B6 wr base g d (c.1,c.2++(f.take n).map fun z=>(z,q)) B):=T;have ac:G (Ac (fun k=>k=d) j wr):=u;have k1:wr.cell? ⟨K,1,S⟩=O (.map (O d)):=u.keep X k0;by_cases ad:n<L
  ·have p:n<f.length:=by rw[Y.out];exact ad
   rcases N.out with⟨_,_,e,e'⟩|⟨b,o,ah,e,m⟩
   ·exfalso;have:=Y.out;rw[e']at this;simp at this;omega
   injection e with e1 e2 e3;subst e1;have c1:wr.cell? ⟨b,o+n,S⟩=O (Z U f[n]):=u.keep (P.out.noCell (m n p)).2 (m n p);obtain⟨z1,z2⟩:=ab.out f[n] (Qy _);obtain⟨w4,r1,r2,af,ag⟩:=T.addKey (z:=f[n]) (q:=q) z1 z2 (by simp only[Q2,QA,QR];omega) (by omega);have R:G (B6 w4 base g d (c.1,c.2++(f.take (n+1)).map fun z=>(z,q)) B/\Ac (fun k=>k=d) j w4):=⟨by
    rw[pO f q n p,<-XN];exact af,u.trans ag fun _ e _=>e⟩
   have ae:=fun W=>pM (B0 (c.2++(f.take n).map fun z=>(z,q)) f[n]) q W;generalize B0 (c.2++(f.take n).map fun z=>(z,q)) f[n]=lc at r1 r2 ae;go_wp2;go_roundw
   case rel=>exact ⟨n+1,by omega,by go_num,R.out.1,R.out.2⟩
   case measure=>simp [intOf];omega
  ·obtain rfl:n=L:=by omega
   rw[XO (by rw[Y.out];omega)]at Q;go_wp2;go_ret;refine⟨rfl,Q.out,?_⟩;have h1:Ac (Dk W base g d) W j:=Ac.of_below (HA.out.trans (aa.out.mono HA.out.size));exact h1.trans ac.out fun i e _=>Qe (Qd e)
def Gq (x:Fl) (qs:List Int):List Int:=if x.2.1.data.toList≠ [45] then x.2.2.2.2.2 :: qs else qs
theorem Pk {obs:List Ob} {x:Fl} (h:(Aj obs x).1=0):∃g n,AB x.1.data.toList=O (g,n)/\(x.2.1.data.toList= [45]↔g=Qc)/\Au x=0/\(Bp g (Aj obs x).2.data.toList).2=0/\1<=(Bp g (Aj obs x).2.data.toList).1.length/\(Bp g (Aj obs x).2.data.toList).1.length<=40/\∀k∈(Bp g (Aj obs x).2.data.toList).1,-1073741824<=k/\k<=1073741824:=by
 have b:=UX h;obtain⟨g,n,d,m,f,i⟩:=UY h;generalize (Aj obs x).2.data.toList=t at b i ⊢;rw[ME d]at b;split at b
 ·rename_i c;unfold Eg at b;split at b
  ·rename_i l;obtain⟨j,_⟩:=Qz b;rw[j]at l;have o:x.2.2.1=(Bp g t).1.length:=by rw[<-j]
   unfold Db at f;simp only[QK,decide_eq_true_eq,Aq]at f;refine⟨g,n,d,Lq m,l,c,by omega,by omega,fun k hk'=>?_⟩;have:=i k hk';omega
  ·cases b
 ·rename_i c;exact absurd (Qz b).2 c
theorem pQ (W:I) (a:Nat->Qi) (hE:G9 W a) (obs:List Ob) (base b d:Nat) (c:Ct) (f:List Int) (x:Fl) (h:B6 W base b d c f) (K:base<=W.heap.size) (hx:(Aj obs x).1=0) (hp:x.1.size<=100000) (ht:(Aj obs x).2.size<=Qn) (ae:f.length<=100) (af:c.1.length<=10000) (ag:c.2.length<=10000) :
  Qm V 156 #[GG b d,A6 x,A (Aj obs x).2] W fun e w'=>e= .returned Q1/\B6 w' base b d (ED x (Aj obs x).2 c) (Gq x f)/\Ac (Dk W base b d) W w':=by
 obtain⟨g,n,E,m,ab,B,ac,T,X⟩:=Pk hx;have L:=Pi ab;generalize (Aj obs x).2=t at ht B ac T X ⊢;have p:BL W ((W.alloc (J #[.map (O b),.map (O d)] 136)).alloc (J #[A x.1,A x.2.1,Z U x.2.2.1,Z U x.2.2.2.1,Z U x.2.2.2.2.1,Z U x.2.2.2.2.2] 77)):=(Af _ _).alloc (by simp) _;have q:A1 ((W.alloc (J #[.map (O b),.map (O d)] 136)).alloc (J #[A x.1,A x.2.1,Z U x.2.2.1,Z U x.2.2.2.1,Z U x.2.2.2.2.1,Z U x.2.2.2.2.2] 77)) (W.heap.size+1) x:=by
  have:=A1.new (W.alloc (J #[.map (O b),.map (O d)] 136)) x;simpa using this
 have j:((W.alloc (J #[.map (O b),.map (O d)] 136)).alloc (J #[A x.1,A x.2.1,Z U x.2.2.1,Z U x.2.2.2.1,Z U x.2.2.2.2.1,Z U x.2.2.2.2.2] 77)).heap[W.heap.size]? =O (J #[.map (O b),.map (O d)] 136 (0,0)):=(Below.heap_alloc _ _ _ (by simp)).trans (QQ _ _);have M:=IF x _ a (hE.below p).data.env.n hp;have e0:AL x.1=g:=by unfold AL;rw[E]
 rw[e0]at M;have HC:G _:=h.below p;have HE:G _:=hE;unfold A6
 go_enter func156,ntmps156
 go_upto_region 1 with fail
 have HA:G _:=p;generalize W.heap.size+1=xb at q ⊢;generalize ad:W.heap.size=cb at j ⊢;obtain⟨d0,d1,d2,d3,d4,d5,-⟩:=q.cells
 go_wp2_with fail
 refine M.mono ?_;rintro e F ⟨rfl,o⟩;have s:=HA.out.trans (o.mono HA.out.size);have aa:=q.below o;have N:=HC.out.below o;have P:=HE.out.below s;have l:=(o.block cb (Qt.1 j).1).trans j;have k0:F.cell? ⟨cb,0,S⟩=O (.map (O b)):=by
  rw[Qu _ _ _ _ _ _ l];rfl
 have k1:F.cell? ⟨cb,1,S⟩=O (.map (O d)):=by
  rw[Qu _ _ _ _ _ _ l];rfl
 obtain⟨d0,d1,d2,d3,d4,d5,-⟩:=aa.cells;have Q:G _:=s;have Y:=Qo K s.size
 cases g with
 | true =>
  have i:=m.2 rfl;have u:=pP F a P.data.weak base b d c f x.2.2.2.2.2 t N L ht B (fun z hz=>by have:=X z hz;omega) (by have:(B8 t.data.toList).1.length<=40:=T;omega);have v:G (ED x t c=(c.1,c.2++(B8 t.data.toList).1.map fun k=>(k,x.2.2.2.2.2))):=MI i;have y:G (Gq x f=f):=by show _=_;unfold Gq;rw[if_neg (by simpa using i)]
  go_wp2_with fail
  refine u.mono ?_;rintro e w3 ⟨rfl,C,D⟩;go_wp2;go_ret;refine⟨rfl,?_,?_⟩
  ·rw[v.out,y.out];exact C
  ·exact JA (Ac.of_below Q.out) D
 | false =>
  have i:x.2.1.data.toList≠ [45]:=fun e=>by cases m.1 e
  have R:(Bn t.data.toList).1.length=(Bp Qa t.data.toList).1.length:=by
   show _=(BG (Bn t.data.toList).1).length;rw[Ll]
  have u:=pL F a P.data base b d c f x.2.2.2.2.2 t N Y L ht B (fun e=>by rw[e]at R;simp at R;omega) (by omega) (by omega);have v:G (ED x t c=(c.1++(Bn t.data.toList).1.map (fun r=>(r,x.2.2.2.2.2)),c.2)):=Lr i;have y:G (Gq x f=x.2.2.2.2.2 :: f):=by show _=_;unfold Gq;rw[if_pos i]
  go_wp2_with fail
  refine u.mono ?_;rintro e w3 ⟨rfl,C,D⟩;go_wp2;go_ret;refine⟨rfl,?_,?_⟩
  ·rw[v.out,y.out];exact C
  ·exact JA (Ac.of_below Q.out) D
def pR (a:Nat->Qi) (W:I) (obs:List Ob) (base b1 b2:Nat) (c:Ct) (qs:List Int) (x:Fl) (e:Xb) (w':I):Prop :=
 ((Aj obs x).1≠0/\e=Qh (Ae a (Aj obs x).1)/\BL W w')\/((Aj obs x).1=0/\e= .returned Q1/\B6 w' base b1 b2 (ED x (Aj obs x).2 c) (Gq x qs)/\Ac (Dk W base b1 b2) W w')
section
variable {a : Nat → Qi} {B : Nat} {EM : I → Prop} {SAt : I → Value → (Nat → Prop) → St → Prop}
theorem pS (K:A2 a B EM SAt) (HV:∀W,EM W->G9 W a/\F7 W) (W:I) (hE:EM W) (v:Value) (FP:Nat->Prop) (d:St) (ai:SAt W v FP d) (ks:AY d) (base k l:Nat) (c:Ct) (qs:List Int) (x:Fl) (h:B6 W base k l c qs) (aa:base<=W.heap.size) (aw:x.1.size<=1000) (a2:x.2.1.size<=1000) (ax:qs.length<=100) (ay:c.1.length<=10000) (az:c.2.length<=10000) :
  Qm V 82 #[GG k l,v,A6 x] W (pR a W d.obs base k l c qs x):=by
 have D:BL W ((W.alloc (J #[.map (O k),.map (O l)] 136)).alloc (J #[A x.1,A x.2.1,Z U x.2.2.1,Z U x.2.2.2.1,Z U x.2.2.2.2.1,Z U x.2.2.2.2.2] 77)):=(Af _ _).alloc (by simp) _;have E:A1 ((W.alloc (J #[.map (O k),.map (O l)] 136)).alloc (J #[A x.1,A x.2.1,Z U x.2.2.1,Z U x.2.2.2.1,Z U x.2.2.2.2.1,Z U x.2.2.2.2.2] 77)) (W.heap.size+1) x:=by
  have:=A1.new (W.alloc (J #[.map (O k),.map (O l)] 136)) x;simpa using this
 have n:((W.alloc (J #[.map (O k),.map (O l)] 136)).alloc (J #[A x.1,A x.2.1,Z U x.2.2.1,Z U x.2.2.2.1,Z U x.2.2.2.2.1,Z U x.2.2.2.2.2] 77)).heap[W.heap.size]? =O (J #[.map (O k),.map (O l)] 136 (0,0)):=(Below.heap_alloc _ _ _ (by simp)).trans (QQ _ _);obtain⟨pt,rfl⟩:=K.ptr _ _ _ _ ai;have aj:=K.size W hE;have ab:G _:=fun X (hX:BL W X)=>K.below W X hE (hX.mono aj);have ak:G _:=fun X (hX:BL W X)=>K.keep _ X _ _ (fun _=>False) _ ai (Ac.of_below hX) (fun _ _ h=>h);have g:=K.get _ _ _ _ x.1 (ab.out _ D) (ak.out _ D) ks aw;have ac:=pF ks x.1;have HC:G _:=fun X (hX:BL W X)=>h.below hX;have q:G _:=fun X (hX:BL W X)=>HV X (ab.out X hX);have al:G _:=fun X (hX:BL W X) (h0:(Aj d.obs x).1=0) (hz:(Aj d.obs x).2.size<=20000) =>
  pQ X a (q.out X hX).1 d.obs base k l c qs x (HC.out X hX) (Qo aa hX.size) h0 (by omega) (by unfold Qn;omega) ax ay az
 unfold A6 GG at *
 go_enter func82,ntmps82
 go_upto_region 1 with fail
 have Q:G _:=D;generalize W.heap.size+1=xb at E ⊢;generalize a0:W.heap.size=cb at n ⊢;obtain⟨d0,d1,d2,d3,d4,d5,-⟩:=E.cells;rcases pE d.obs x.1 with C | C
 case inr =>
  have f:G ((Aj d.obs x).1=6):=by
   show _=_;rw[pG (x:=x) (obs:=d.obs) (by rw[C];simp),C]
  rw[C]at g;simp only[Ae]at g
  go_wp2_with fail
  refine g.mono ?_;rintro e w2 ⟨rfl,m⟩;go_wp2;go_ret;exact Qd ⟨by rw[f.out];decide,by rw[f.out];rfl,Q.out.trans (m.mono Q.out.size)⟩
 have i:=pH (x:=x) C;rw[C]at g;have e0:Ae a 0=Q1:=rfl;rw[e0]at g;obtain⟨tx,ar⟩:∃t,(Ba d.obs x.1).1=t:=⟨_,rfl⟩;rw[ar]at g i ac;have F:G _:=fun X (hX:BL W X) =>
  UI x.1 x.2.1 tx x.2.2.2.2.2 X a (q.out X hX).1 (fun _ _ _ _=>(q.out X hX).2) (by omega) (by omega) (by unfold Qn;omega)
 obtain⟨Y,hY⟩:∃Y,B1 x.1 x.2.1 tx.data.toList x.2.2.2.2.2=Y:=⟨_,rfl⟩;rw[hY]at F i;obtain⟨y,T⟩:=Y;unfold A6 at F
 go_wp2_with fail
 refine g.mono ?_;rintro e w2 ⟨rfl,m⟩;have L:=Q.out.trans (m.mono Q.out.size);have ad:=E.below m;have r:=(m.block cb (Qt.1 n).1).trans n;have s:=F.out w2 L;obtain⟨d0,d1,d2,d3,d4,d5,-⟩:=ad.cells;by_cases ae:T=0
 case neg =>
  have f:G ((Aj d.obs x).1=T):=by
   show _=_;rw[if_pos ae]at i;rw[i]
  obtain⟨j,rfl⟩:∃j,T=j+1:=⟨T-1,by omega⟩;simp only[Ae]at s
  go_wp2_with fail
  refine s.mono ?_;rintro e p ⟨rfl,P⟩;have o:BL p (p.alloc (J #[A y.1,A y.2.1,Z U y.2.2.1,Z U y.2.2.2.1,Z U y.2.2.2.2.1,Z U y.2.2.2.2.2] 77)):=Af _ _;have am:=Ad L P;go_wp2;go_ret;exact Qd ⟨by rw[f.out];omega,by rw[f.out];rfl,(Ad am o)⟩
 subst ae;rw[e0]at s
 go_wp2_with fail
 refine s.mono ?_;rintro e p ⟨rfl,P⟩;have o:BL p (p.alloc (J #[A y.1,A y.2.1,Z U y.2.2.1,Z U y.2.2.2.1,Z U y.2.2.2.2.1,Z U y.2.2.2.2.2] 77)):=Af _ _;have M:=Ad P o;have N:=Ad L M;have an:=A1.new p y;have ao:=ad.below M;have u:=(M.block cb (Qt.1 r).1).trans r
 go_upto_region 5 with fail
 generalize p.alloc (J #[A y.1,A y.2.1,Z U y.2.2.1,Z U y.2.2.2.1,Z U y.2.2.2.2.1,Z U y.2.2.2.2.2] 77)=w4 at *;have af:G _:=N;obtain⟨d0,d1,d2,d3,d4,d5,-⟩:=ao.cells;obtain⟨f0,f1,f2,f3,f4,f5,-⟩:=an.cells;have a1:=(q.out w4 N).1.data.shape;by_cases z:y=x
 case neg =>
  have f:G ((Aj d.obs x).1=3):=by
   show _=_;rw[if_neg (by simp),if_pos z]at i;rw[i]
  have ap:=fun W=>jH y x z W;have aq:=fun bo a b w=>jI bo a b y x w;unfold A6 at ap aq;go_wp2;go_ret;exact Qd ⟨by rw[f.out];decide,by rw[f.out];rfl,af.out⟩
 have R:Aj d.obs x=(0,tx):=by rw[i,if_neg (by simp),if_neg (by simpa using z)]
 obtain rfl:x=y:=z.symm;have ag:=al.out w4 N (by rw[R]) (by rw[R];exact ac);have k0:w4.cell? ⟨cb,0,S⟩=O (.map (O k)):=by
  rw[Qu _ _ _ _ _ _ u];rfl
 have k1:w4.cell? ⟨cb,1,S⟩=O (.map (O l)):=by
  rw[Qu _ _ _ _ _ _ u];rfl
 have ah:G _:=R;rw[R]at ag
 go_wp2_with fail
 refine ag.mono ?_;rintro e w5 ⟨rfl,au,av⟩;go_wp2;go_ret;refine Qe ⟨by rw[ah.out],rfl,by rw[ah.out];exact au,?_⟩;exact JA (Ac.of_below af.out) av
end
def Pn (fn:Nat) (cb:Array Value) (xs:List Rw) (p:Rw->Bool) (P:Nat->Prop) (w:I):Prop :=
 ∀(x:Rw) (W:I),x∈xs->Ac P w W->Qm V fn (#[Qf #[A x.1,Z U x.2.1,Z U x.2.2]]++cb) W fun e w'=>e=Qh (QE (p x))/\BL W w'
def GH (p:Rw->Bool) (xs:List Rw):Int:=match xs.findIdx? p with
 | some i=>i
 | none=> -1
theorem pT {p:Rw->Bool} {xs:List Rw} {n:Nat} (b:n<xs.length) (h:∀j (h:j<xs.length),j<n->p xs[j]=Qa) (e:p xs[n]=Qc):GH p xs=n:=by
 unfold GH;have:xs.findIdx? p=O n:=by
  rw[XP];exact⟨b,e,fun j hj=>by simpa using h j (by omega) hj⟩
 rw[this]
theorem pU {p:Rw->Bool} {xs:List Rw} (h:∀j (h:j<xs.length),p xs[j]=Qa):GH p xs= -1:=by
 unfold GH;have:xs.findIdx? p=S:=by
  rw[XQ];intro x c;obtain⟨j,b,rfl⟩:=XR c;exact h j b
 rw[this]
theorem pV (p:Rw->Bool) (xs:List Rw):(GH p xs= -1/\∀j (h:j<xs.length),p xs[j]=Qa)\/∃n:Nat,∃hn:n<xs.length,GH p xs=n/\p xs[n]=Qc/\∀j (h:j<xs.length),j<n->p xs[j]=Qa:=by
 unfold GH
 cases b:xs.findIdx? p with
 | none =>
  rw[XQ]at b;exact Qd ⟨rfl,fun j hj=>b _ (Qy _)⟩
 | some n =>
  rw[XP]at b;obtain⟨hn,e,h⟩:=b;exact Qe ⟨n,hn,rfl,e,fun j hj hlt=>by simpa using h j hlt⟩
theorem Vj (v:Value) (xs:List Rw) (d:Nat) (z:Array Value) (p:Rw->Bool) (w:I) (eg:∀args w,(callFunc d args).run V w= .ok (.enter d args) w) (X:Ap w v xs) (hl:xs.length<=20000) (hp:∀(x:Rw) (W:I),x∈xs->BL w W->Qm V d (#[Qf #[A x.1,Z U x.2.1,Z U x.2.2]]++z) W fun e w'=>e=Qh (QE (p x))/\BL W w') :
  Qm V 246 #[v,.func (.func d) #[] z] w fun e w'=>e=Qh (Z U (GH p xs))/\BL w w':=by
 obtain⟨q,F,rfl⟩:=X.form;have u:G (Ap w (Qb q xs.length F) xs):=X;obtain⟨L,K⟩:∃L,xs.length=L:=⟨_,rfl⟩;have y:G (xs.length=L):=K;rw[K]at hl u ⊢;generalize hR:GH p xs=R;have B:G (GH p xs=R):=hR;have Y:G (∀(x:Rw) (W:I),x∈xs->BL w W->Qm V d (#[Qf #[A x.1,Z U x.2.1,Z U x.2.2]]++z) W fun e w'=>e=Qh (QE (p x))/\BL W w'):=hp
 go_enter func246,ntmps246
 go_wp2
 go_loopw [8] (fun k wr=> ∃n:Nat,n<=L/\k=Z U n/\(∀j (h:j<xs.length),j<n->p xs[j]=Qa)/\BL w wr) (fun k _=>L-(intOf k).toNat)
 case atStart=>exact ⟨0,by omega,rfl,fun j h h'=>absurd h' (X5 _),Below.refl _ _⟩
 case round =>
  obtain⟨n,hn,rfl,M,m⟩:=hrel;have g:G (∀j (h:j<xs.length),j<n->p xs[j]=Qa):=M;by_cases C:n<L
  ·have i:n<xs.length:=by rw[y.out];exact C
   rcases u.out.below m with⟨_,_,e,e'⟩|⟨b,o,aa,e,s⟩
   ·exfalso;have:=y.out;rw[e']at this;simp at this;omega
   injection e with e1 e2 e3;subst e1;clear e2 e3;obtain⟨N,P,Q⟩:=s n i;have c:=Y.out xs[n] wr (Qy _) m;cases t:p xs[n]
   ·have D:G (∀j (h:j<xs.length),j<n+1->p xs[j]=Qa):=fun j hj hjn=>by
     by_cases e:j=n
     ·subst e;exact t
     ·exact g.out j hj (by omega)
    rw[t]at c;generalize xs[n]=f at N P Q c;obtain⟨fp,fk,fv⟩:=f
    go_wp2_with (go_at_fn d;refine c.mono ?_;rintro e T ⟨rfl,r⟩)
    have E:BL w T:=Ad m r;go_roundw
    case rel=>exact ⟨n+1,by omega,by go_num,D.out,E⟩
    case measure=>simp [intOf];omega
   ·have l:R=n:=by rw[<-B.out];exact pT i g.out t
    subst l;rw[t]at c;generalize xs[n]=f at N P Q c;obtain⟨fp,fk,fv⟩:=f
    go_wp2_with (go_at_fn d;refine c.mono ?_;rintro e T ⟨rfl,r⟩)
    go_ret;exact⟨rfl,(Ad m r)⟩
  ·obtain rfl:n=L:=by omega
   have l:R= -1:=by rw[<-B.out];exact pU (fun j hj=>g.out j hj (by rw[<-y.out];exact hj))
   subst l;go_wp2;go_ret;exact⟨rfl,m⟩
def Fi (cur:Array Value) (t:Nat) (r:Rw):Prop:=cur[t*3]? =O (A r.1)/\cur[t*3+1]? =O (Z U r.2.1)/\cur[t*3+2]? =O (Z U r.2.2)
def II (cur:Array Value) (t:Nat) (r:Rw):Array Value:=((cur.setIfInBounds (t*3) (A r.1)).setIfInBounds (t*3+1) (Z U r.2.1)).setIfInBounds (t*3+2) (Z U r.2.2)
theorem pW (b:Array Value) (t:Nat) (r:Rw):(II b t r).size=b.size:=by simp[II]
theorem pX {b:Array Value} {t:Nat} {r:Rw} (h:t*3+2<b.size):Fi (II b t r) t r:=by
 unfold Fi II;refine⟨?_,?_,?_⟩
 ·rw[Qk (by omega),Qk (by omega),Xi (by omega)]
 ·rw[Qk (by omega),Xi (by simp;omega)]
 ·rw[Xi (by simp;omega)]
theorem Vk {b:Array Value} {t s:Nat} {r x:Rw} (h:s≠t) (g:Fi b s x):Fi (II b t r) s x:=by
 unfold Fi II at *;obtain⟨c,d,f⟩:=g;refine⟨?_,?_,?_⟩
 ·rw[Qk (by omega),Qk (by omega),Qk (by omega)];exact c
 ·rw[Qk (by omega),Qk (by omega),Qk (by omega)];exact d
 ·rw[Qk (by omega),Qk (by omega),Qk (by omega)];exact f
structure Hk (xs:List Rw) (p:Rw->Bool) (n:Nat) (cur:Array Value):Prop where
 kept:∀t (h:t<((xs.take n).filter fun x=> !p x).length),Fi cur t ((xs.take n).filter fun x=> !p x)[t]
 rest:∀t (h:t<xs.length),n<=t->Fi cur t xs[t]
theorem pY {xs:List Rw} {p:Rw->Bool} {n m:Nat} (i:m<n) (j:m<xs.length) (h:p xs[m]=Qc):((xs.take n).filter fun x=> !p x).length<n:=by
 rcases QC ((xs.take n).filter fun x=> !p x).length n with d | d
 ·exact d
 ·exfalso;have f:(xs.take n).length<=n:=List.length_take_le _ _;have g:=XI (fun x=> !p x) (xs.take n);have b:((xs.take n).filter fun x=> !p x).length=(xs.take n).length:=by omega
  rw[List.length_filter_eq_length_iff]at b;have c:=b xs[m] (by
   rw[XS];exact⟨m,by omega,rfl⟩)
  rw[h]at c;cases c
theorem Hk.skip {xs:List Rw} {p:Rw->Bool} {n:Nat} {b:Array Value} (h:Hk xs p n b) (c:n<xs.length) (d:p xs[n]=Qc):((xs.take (n+1)).filter fun x=> !p x)=((xs.take n).filter fun x=> !p x)/\Hk xs p (n+1) b:=by
 have e:((xs.take (n+1)).filter fun x=> !p x)=((xs.take n).filter fun x=> !p x):=by
  rw[NX (fun x=> !p x) xs n c];simp[d]
 exact⟨e,⟨by rw[e];exact h.kept,fun t ht hle=>h.rest t ht (by omega)⟩⟩
theorem Hk.step {xs:List Rw} {p:Rw->Bool} {n:Nat} {b:Array Value} (h:Hk xs p n b) (g:n<xs.length) (i:p xs[n]=Qa) (k:xs.length*3<=b.size) (j:((xs.take n).filter fun x=> !p x).length<n):((xs.take (n+1)).filter fun x=> !p x).length=((xs.take n).filter fun x=> !p x).length+1/\Hk xs p (n+1) (II b ((xs.take n).filter fun x=> !p x).length xs[n]):=by
 have e:((xs.take (n+1)).filter fun x=> !p x)=((xs.take n).filter fun x=> !p x)++ [xs[n]]:=by
  rw[NX (fun x=> !p x) xs n g];simp[i]
 refine⟨by rw[e,Q2];rfl,⟨?_,fun t c hle=>?_⟩⟩
 ·rw[e];intro t c;by_cases d:t<((xs.take n).filter fun x=> !p x).length
  ·rw[List.getElem_append_left d];exact Vk (by omega) (h.kept t d)
  ·rw[Q2,List.length_singleton]at c;have f:t=((xs.take n).filter fun x=> !p x).length:=by omega
   subst f;rw[List.getElem_append_right (QI _)];simp only[Nat.sub_self,Xp];exact pX (by omega)
 ·exact Vk (by omega) (h.rest t c (by omega))
theorem Io {w:I} {g o:Nat} {b:Array Value} {t:Qj} {f:Nat×Nat} {v:Value} (h:w.heap[g]? =O (J b t f)) (c:b[o]? =O v):w.cell? ⟨g,o,S⟩=O v:=by
 simp[Qq,h,c]
theorem Po {w:I} {g o:Nat} {b:Array Value} {t:Qj} (h:w.heap[g]? =O (J b t (0,0))):w.frozen? ⟨g,o,S⟩=Qa:=by
 simp[World.frozen?,h]
theorem pZ {w:I} {g n:Nat} {b:Array Value} {t:Qj} (r:Rw) (h:w.heap[g]? =O (J b t (0,0))):(((w.setCell ⟨g,n*3,S⟩ (A r.1)).setCell ⟨g,n*3+1,S⟩ (Z U r.2.1)).setCell ⟨g,n*3+2,S⟩ (Z U r.2.2)).heap[g]? =O (J (II b n r) t (0,0)):=by
 have i:=Xj w g (n*3) b t (0,0) (A r.1) h;have c:=QS w g b (b.setIfInBounds (n*3) (A r.1)) t (0,0) h;rw[<-i]at c;have j:=Xj _ g (n*3+1) _ t (0,0) (Z U r.2.1) c;have d:=QS _ g _ ((b.setIfInBounds (n*3) (A r.1)).setIfInBounds (n*3+1) (Z U r.2.1)) t (0,0) c;rw[<-j]at d;have k:=Xj _ g (n*3+2) _ t (0,0) (Z U r.2.2) d;have f:=QS _ g _ (((b.setIfInBounds (n*3) (A r.1)).setIfInBounds (n*3+1) (Z U r.2.1)).setIfInBounds (n*3+2) (Z U r.2.2)) t (0,0) d;rw[<-k]at f;exact f
theorem qA {w:I} {g i m c:Nat} {d:Array Value} (h:w.heap[g]? =O (J d 62 (0,0))) (z:0<m) (B:(i+m)*3<=d.size) :
  ∃cur',(∀ty,(XT #[35] ty #[Qb (O ⟨g,i*3,S⟩) m c]).run V w= .ok (QD #[]) (w.setRow g cur'))/\∀t r,t<i->Fi d t r->Fi cur' t r:=by
 obtain⟨k,rfl⟩:∃k,m=k+1:=⟨m-1,by omega⟩;have q:(Qv (Qf #[A ⟨#[]⟩,Z U 0,Z U 0]).cells (k+1)).size=(k+1)*3:=by rw[size_zeroCells];rfl
 have s:∀v∈(Qv (Qf #[A ⟨#[]⟩,Z U 0,Z U 0]).cells (k+1)).toList,v.oneCell'=Qc:=by
  intro v p;simp only[Qv,Array.toList_map,Qp]at p;obtain⟨j,_,rfl⟩:=p;have f:j % (Qf #[A ⟨#[]⟩,Z U 0,Z U 0]).cells.size=0\/j % (Qf #[A ⟨#[]⟩,Z U 0,Z U 0]).cells.size=1\/j % (Qf #[A ⟨#[]⟩,Z U 0,Z U 0]).cells.size=2:=by
   have e:(Qf #[A ⟨#[]⟩,Z U 0,Z U 0]).cells.size=3:=rfl;rw[e];omega
  rcases f with f | f | f<;>rw [f]<;>rfl
 have n:=run_storeCells_at (P:=V) g (i*3) 62 (Qv (Qf #[A ⟨#[]⟩,Z U 0,Z U 0]).cells (k+1)).toList 0 d w h (by rw[XU,q];omega) s;refine⟨(d.toList.take (i*3)++(Qv (Qf #[A ⟨#[]⟩,Z U 0,Z U 0]).cells (k+1)).toList++d.toList.drop (i*3+(Qv (Qf #[A ⟨#[]⟩,Z U 0,Z U 0]).cells (k+1)).toList.length)).toArray,fun ty=>?_,fun t r ht hr=>?_⟩
 ·generalize y:Qv (Qf #[A ⟨#[]⟩,Z U 0,Z U 0]).cells (k+1)=b at n ⊢;simp[XT,run_underlying XJ,y,n]
 ·generalize (Qv (Qf #[A ⟨#[]⟩,Z U 0,Z U 0]).cells (k+1)).toList=b;have l:∀o,o<i*3->((d.toList.take (i*3)++b++d.toList.drop (i*3+b.length)).toArray)[o]? =d[o]? :=fun o ho=>by
   have u:o<(d.toList.take (i*3)).length:=by
    rw[QR,XU];omega
   rw[List.getElem?_toArray,XN,Xq u,Xs,if_pos ho,Array.getElem?_toList]
  unfold Fi at *;rw[l _ (by omega),l _ (by omega),l _ (by omega)];exact hr
def Vl (g cap:Nat) (ys:List Rw) (w:I) (e:Xb) (w':I):Prop:=e=Qh (Qb (O ⟨g,0,S⟩) ys.length cap)/\Ed w' g 0 ys/\Ac (fun k=>k=g) w w'
theorem Pp {w:I} {g:Nat} {b:Array Value} {t:Qj} {f:Nat×Nat} {ys:List Rw} (h:w.heap[g]? =O (J b t f)) (k:∀j (h:j<ys.length),Fi b j ys[j]):Ed w g 0 ys:=fun j hj=>by
 obtain⟨c,d,i⟩:=k j hj;rw[QF];exact⟨Io h c,Io h d,Io h i⟩
theorem qB {w:I} (g:Nat) (b:Array Value):Ac (fun k=>k=g) w (w.setRow g b):=⟨rfl,rfl,rfl,by simp,fun k _ hk=>setRow_other w g k b hk⟩
theorem qC (g s:Nat) (xs:List Rw) (R:Nat) (cb:Array Value) (p:Rw->Bool) (l:Array Value) (w:I) (eg:∀args w,(callFunc R args).run V w= .ok (.enter R args) w) (hg:w.heap[g]? =O (J l 62 (0,0))) (D:∀t (h:t<xs.length),Fi l t xs[t]) (ak:xs.length*3<=l.size) (am:xs.length<=s) (hl:xs.length<=20000) (hp:Pn R cb xs p (fun k=>k=g) w) :
  Qm V 162 #[Qb (O ⟨g,0,S⟩) xs.length s,.func (.func R) #[] cb] w (Vl g s (xs.filter fun x=> !p x) w):=by
 have E:=Vj (Qb (O ⟨g,0,S⟩) xs.length s) xs R cb p w eg (Qe ⟨g,0,s,rfl,Pp hg D⟩) hl (fun x W D hb=>hp x W D (Ac.of_below hb));have HP:G _:=hp;have HG:G _:=hg;have ac:=(Qt.1 hg).1;have Y:G _:=D;obtain⟨L,hL⟩:∃L,xs.length=L:=⟨_,rfl⟩;have HL:G _:=hL;rw[hL]at E ak am hl ⊢;rcases pV p xs with⟨hi,av⟩|⟨m,hm,hi,ai,aw⟩
 ·have HF:G (xs.filter (fun x=> !p x)=xs):=by
   show _=_;rw[QJ];intro x D;obtain⟨j,hj,rfl⟩:=XR D;rw[av j hj];rfl
  rw[hi]at E
  go_enter func162,ntmps162
  go_wp2_with fail
  refine E.mono ?_;rintro e w1 ⟨rfl,M⟩;go_wp2;go_ret;unfold Vl;rw[HF.out];refine⟨by rw[HL.out];rfl,Pp ((M.block g ac).trans HG.out) Y.out,Ac.of_below M⟩
 ·rw[hi]at E;have az:m<L:=by rw[<-HL.out];exact hm
  have HM:G (∃hm:m<xs.length,p xs[m]=Qc):=⟨hm,ai⟩;have ad:G (Hk xs p (m+1) l/\((xs.take (m+1)).filter fun x=> !p x).length=m):=by
   have e0:(xs.take m).filter (fun x=> !p x)=xs.take m:=by
    rw[QJ];intro x D;rw[XS]at D;obtain⟨j,hj,rfl⟩:=D;rw[aw j (by omega) (by omega)];rfl
   have h0:Hk xs p m l:=⟨by
    rw[e0];intro t P;rw[List.getElem_take];exact Y.out t (by rw[QR]at P;omega),fun t P _=>Y.out t P⟩
   obtain⟨e1,h1⟩:=h0.skip hm ai;refine⟨h1,?_⟩;rw[e1,e0,QR];omega
  have a0:((m:Int) == -1)=Qa:=by simp
  go_enter func162,ntmps162
  go_wp2_with fail
  refine E.mono ?_;rintro e w1 ⟨rfl,M⟩;have an:G _:=(M.block g ac).trans HG.out;have ao:G (Ac (fun k=>k=g) w w1):=Ac.of_below M;go_wp2
  go_loopw [5,6] (fun i j wr=> ∃n:Nat,m<n/\n<=L/\j=Z U n/\i=Z U ((xs.take n).filter fun x=> !p x).length/\∃b,wr.heap[g]? =O (J b 62 (0,0))/\b.size=l.size/\Hk xs p n b/\Ac (fun k=>k=g) w wr) (fun _ j _=>L-(intOf j).toNat)
  case atStart=>exact ⟨m+1,by omega,by omega,by go_num,by rw[ad.out.2],l,an.out,rfl,ad.out.1,ao.out⟩
  case round =>
   obtain⟨n,ar,hn,rfl,rfl,b,r,T,hI,K⟩:=hrel;have ae:((xs.take n).filter fun x=> !p x).length<n:=by
    obtain⟨au,al⟩:=HM.out;exact pY ar au al
   have HI:G _:=hI;by_cases ap:n<L
   ·have N:n<xs.length:=by rw[HL.out];exact ap
    obtain⟨a1,a2,a3⟩:=hI.rest n N (QI _);have c1:=Io r a1;have c2:=Io r a2;have c3:=Io r a3;have hi:(n:Int)<(L:Int):=by omega
    have ay:(0:Int)<=(n:Int):=by omega
    have aa:=(Qt.1 r).1;cases X:p xs[n]
    case true =>
     have HS:=HI.out.skip N X;have d:=HP.out xs[n] (wr.alloc (J #[A xs[n].1,Z U xs[n].2.1,Z U xs[n].2.2] 62)) (Qy _) (K.trans (Q:=fun _=>False) (Ac.of_below (Af _ _)) (fun _ h=>h.elim));rw[X]at d;have z:G (((xs.take (n+1)).filter fun x=> !p x).length=((xs.take n).filter fun x=> !p x).length/\Hk xs p (n+1) b):=⟨by rw[HS.1],HS.2⟩;generalize ((xs.take n).filter fun x=> !p x).length=q at *;generalize xs[n]=f at c1 c2 c3 d;obtain⟨u,fk,v⟩:=f;dsimp only at c1 c2 c3 d;have ab:BL wr (wr.alloc (J #[A u,Z U fk,Z U v] 62)):=Af _ _;have d1:(wr.alloc (J #[A u,Z U fk,Z U v] 62)).cell? ⟨wr.heap.size,0,S⟩=O (A u):=by simp
     have d2:(wr.alloc (J #[A u,Z U fk,Z U v] 62)).cell? ⟨wr.heap.size,1,S⟩=O (Z U fk):=by simp
     have d3:(wr.alloc (J #[A u,Z U fk,Z U v] 62)).cell? ⟨wr.heap.size,2,S⟩=O (Z U v):=by simp
     go_wp2_with (go_at_fn R;refine d.mono ?_;rintro e w2 ⟨rfl,B⟩)
     have F:=Ad ab B;go_roundw
     case rel=>exact ⟨n+1,by omega,by omega,by go_num,by rw[z.out.1],b,(F.block g aa).trans r,T,z.out.2,K.trans (Q:=fun _=>False) (Ac.of_below F) (fun _ h=>h.elim)⟩
     case measure=>simp [intOf];omega
    case false =>
     have HS:=HI.out.step N X (by rw[HL.out,T];exact ak) ae;have d:=HP.out xs[n] (wr.alloc (J #[A xs[n].1,Z U xs[n].2.1,Z U xs[n].2.2] 62)) (Qy _) (K.trans (Q:=fun _=>False) (Ac.of_below (Af _ _)) (fun _ h=>h.elim));rw[X]at d;have z:G _:=HS;generalize ((xs.take n).filter fun x=> !p x).length=q at *;generalize xs[n]=f at c1 c2 c3 d z;obtain⟨u,fk,v⟩:=f;dsimp only at c1 c2 c3 d;have ab:BL wr (wr.alloc (J #[A u,Z U fk,Z U v] 62)):=Af _ _;have d1:(wr.alloc (J #[A u,Z U fk,Z U v] 62)).cell? ⟨wr.heap.size,0,S⟩=O (A u):=by simp
     have d2:(wr.alloc (J #[A u,Z U fk,Z U v] 62)).cell? ⟨wr.heap.size,1,S⟩=O (Z U fk):=by simp
     have d3:(wr.alloc (J #[A u,Z U fk,Z U v] 62)).cell? ⟨wr.heap.size,2,S⟩=O (Z U v):=by simp
     have a4:(q:Int)<(L:Int):=by omega
     have a5:(0:Int)<=(q:Int):=by omega
     go_wp2_with (go_at_fn R;refine d.mono ?_;rintro e w2 ⟨rfl,B⟩;have F:BL wr w2:=(Ad ab B);have y:=(F.block g aa).trans r;have f1:=Aa B d1;have f2:=Aa B d2;have f3:=Aa B d3;have o1:=Io y (Xk (by omega:q*3<b.size));have o2:=Io y (Xk (by omega:q*3+1<b.size));have o3:=Io y (Xk (by omega:q*3+2<b.size));have z1:=Po (o:=q*3) y;have z2:=Po (o:=q*3+1) y;have z3:=Po (o:=q*3+2) y)
     have hw:=pZ (n:=q) (u,fk,v) y;dsimp only at hw;go_roundw
     case rel=>exact ⟨n+1,by omega,by omega,by go_num,by rw[z.out.1];go_num,_,hw,by rw[pW];exact T,z.out.2,(((K.trans (Q:=fun _=>False) (Ac.of_below F) (fun _ h=>h.elim)).setCell (Qd rfl) _).setCell (Qd rfl) _).setCell (Qd rfl) _⟩
     case measure=>simp [intOf];omega
   ·obtain rfl:n=L:=by omega
    have P:xs.take n=xs:=XO (by rw[HL.out];omega);have af:∀t (h:t<(xs.filter fun x=> !p x).length),Fi b t (xs.filter fun x=> !p x)[t]:=by
     have:=hI.kept;rw[P]at this;exact this
    rw[P]at ae ⊢;obtain⟨C,d,ah⟩:=qA (i:=(xs.filter fun x=> !p x).length) (m:=n-(xs.filter fun x=> !p x).length) (c:=s-(xs.filter fun x=> !p x).length) r (by omega) (by rw[T];omega);have HE:G (Ed (wr.setRow g C) g 0 (xs.filter fun x=> !p x)):=Pp (QS wr g b C _ _ r) fun j hj=>ah j _ hj (af j hj);have HB:G (Ac (fun k=>k=g) w (wr.setRow g C)):=K.trans (qB g C) fun _ e _=>e;clear hI HI af ah P;generalize aj:xs.filter (fun x=> !p x)=ys at *;have ag:G (xs.filter (fun x=> !p x)=ys):=aj;clear aj;generalize ax:ys.length=q at *;have aq:G _:=ax;have a6:¬s=q:=by omega
    have a7:(q:Int)<=(n:Int):=by omega
    have a8:(q:Int)<=(s:Int):=by omega
    go_wp2;go_ret;exact⟨by rw[ag.out,aq.out];rfl,by rw[ag.out];exact HE.out,HB.out⟩
end
section
open Go.Maps Go.RowKit Go.Shelf Go.Sort
abbrev EQ (l:List Ob):= { o:Ob // o∈l }
structure Ip (l:List Ob) (left:Lit->Bool) (ps:List (EQ l)):Prop where
 once:ps.Nodup
 left:∀o:EQ l,left (BN o.1.1)=Qc↔o∉ps
theorem qD {l:List Ob} (c:DX l) {o p:Ob} (d:o∈l) (f:p∈l) (h:o.1=p.1):o=p:=by
 have b:=Jl c d;rw[h,Jl c f]at b;exact(X9 b).symm
theorem qE {l:List Ob} (b:DX l):l.Nodup:=b.imp fun h e=>by subst e;exact Mj _ h
theorem Ip.start {l:List Ob} (q:ByteArray->Nat) (b:DX l):Ip l (Xe (Ci q l)) [] :=
 ⟨List.nodup_nil,fun o=>by rw[Im,Jl b o.2];simp⟩
theorem Ip.step {l:List Ob} {c:Lit->Bool} {ps:List (EQ l)} (h:Ip l c ps) (f:DX l) (o:EQ l) (g:c (BN o.1.1)=Qc):Ip l (fun z=>c z && !z.sameKey (BN o.1.1)) (ps++ [o]):=by
 have d:=(h.left o).1 g;refine⟨?_,fun p=>?_⟩
 ·rw[List.nodup_append];refine⟨h.once,by simp,fun a ha b hb=>?_⟩;simp only[Q3]at hb;subst hb;exact fun e=>d (e▸ha)
 ·rw[OK];by_cases e:p=o
  ·subst e;simp
  ·have:p.1.1≠o.1.1:=fun e'=>e (Subtype.ext (qD f p.2 o.2 e'));simp[this,h.left p,e]
theorem Ip.done {l:List Ob} {b:Lit->Bool} {ps:List (EQ l)} (h:Ip l b ps) (d:DX l) (f:∀z,b z=Qa):(ps.map (·.1)).Perm l:=by
 rw[Xx]
 ·intro o;constructor
  ·intro c;obtain⟨p,_,rfl⟩:=Qp.1 c;exact p.2
  ·intro c;refine Qp.2 ⟨⟨o,c⟩,?_,rfl⟩;have:=h.left ⟨o,c⟩;rw[f]at this;simpa using this
 ·show Xy _ _;rw[QZ];exact h.once.imp fun h e=>h (Subtype.ext e)
 ·exact qE d
theorem qF {l:List Ob} {q:ByteArray->Nat} {x:List UInt8} {c:Option Qi} {y:Qg Unit×List Q7} (r:Il (.pointer c)=O y) (d:∀zd,(Ci q l).atKey (.string x) zd=y.1) :
  ∃o:EQ l,x=o.1.1.data.toList/\encStr x= .string o.1.1/\c=O ⟨q o.1.1,0,S⟩:=by
 have m:Lit.string x=BN (Ab x):=by simp[BN,Ab]
 rw[m]at d;have b:=d (DW (-7));have f:=d (DW (-8));rw[J0]at b f
 cases j:B5 l (Ab x) with
 | none =>
  rw[j]at b f;simp at b f;have:=Ku (b.trans f.symm);omega
 | some o =>
  obtain⟨p,g⟩:=Ge j;rw[j]at b;simp at b;refine⟨⟨o,p⟩,?_,?_,?_⟩
  ·simp[g,Ab]
  ·simp[g,Ab,encStr]
  ·rcases M3 r with⟨k,e,i⟩|⟨e,i⟩
   ·rw[i]at b;have:=Ku b;have n:q (Ab x)=k:=by omega
    simp only[Value.pointer.injEq]at e;rw[e];simp[g,n]
   ·rw[i]at b;have:=Ku b;omega
structure Fj (n₀:Nat) (W W':I):Prop where
 size:W.heap.size<=W'.heap.size
 old:∀k:Nat,k<n₀->W'.heap[k]? =W.heap[k]?
 iter:∀(k:Nat) p s e c,W.heap[k]? =O (XV p s e c)->W'.heap[k]? =O (XV p s e c)
theorem Fj.trans {d:Nat} {X Y b:I} (h:Fj d X Y) (k:Fj d Y b):Fj d X b:=⟨Qo h.size k.size,fun i hi=>(k.old i hi).trans (h.old i hi),fun i p s e c hi=>k.iter i p s e c (h.iter i p s e c hi)⟩
theorem Fj.put {b:Nat} (W:I) (l:Nat) (o d:Obj) (g:b<=l) (h:W.heap[l]? =O o) (f:o.isWalk=Qa):Fj b W (W.putObj l d) :=
 ⟨by simp,fun k hk=>XW (by omega),fun k p s e c hk=>(XW (fun e'=>by subst e';rw[h]at hk;cases hk;cases f)).trans hk⟩
theorem qG {k:Qj} {R:Value->Option (Qg Unit×List Q7)} {w w':I} {b r n l:Nat} {D:Qg Unit} {c:Lit->Bool} {g:Nat}
  (h:w.ranges V k R b r n D c g) (m:Fj l w w') (u:b<l):w'.ranges V k R b r n D c g:=by
 obtain⟨o,d,f,i,p,j,F,q,s,t,rest⟩:=h;exact⟨o,d,f,i,p,(m.old b u).trans j,F,q,s,m.iter r _ _ _ _ t,rest⟩
abbrev MO {l:List Ob} (q:ByteArray->Nat) (o:EQ l):Array Value:=#[Ql (O ⟨q o.1.1,0,S⟩)]
theorem qH (n:Nat) (hn:1<=n) (r Bm b:Nat) (q:ByteArray->Nat) (l:List Ob) (F:DX l) (d Jx:List (EQ l)->I->Prop)
  (hY:∀pre x W,d pre W->pre.length<l.length->YieldAt Q8 (n-1) V r (MO q x) W fun e W' =>
   (e=Qh (.bool Qc)/\d (pre++ [x]) W'/\QT W W')\/(e=Qh (.bool Qa)/\Jx (pre++ [x]) W'))
  (W:I) (hJ:AbidesFrom W.heap.size d) (hm:W.cell? ⟨Bm,0,S⟩=O (.map (O b))) (K:BW W b q l) (h0:d [] W) :
  Xl Q8 n V 378 #[.func (.yield r) #[] #[],.pointer (O ⟨Bm,0,S⟩)] W fun e W'=>(∃v,e=Qh v) /\
   ((∃ps,(ps.map (·.1)).Perm l/\d ps W')\/(∃pre,True/\Jx pre W')):=by
 have L:Fence.wide.round=S:=rfl;have hN:=M6 q l;refine Xm func378 rfl trivial ?_ L;simp only[ntmps378,XX,XY,XZ,Ya,Yb,Yc,Yd,Ye,Yf,Yg,Yh]
 gi_wp2_with (first
  | (gi_at_range;refine wpListIn_range_own _ rfl _ 68 rfl 9 153 Tryz.keyedS Yi Il b l.length _ rfl K ?_;intro w0 u T ag)
  | gi_in)
 go_frame
 gi_loopw [4] (fun _ wr=> ∃(f:Lit->Bool) (i:Nat) (ps:List (EQ l)),wr.ranges V 9 Il b W.heap.size l.length (Ci q l) f i/\ps.length+i<=l.length/\Ip l f ps/\d ps wr)
  (fun _ wr=>wr.rangeLeft b W.heap.size)
 case atStart =>
  exact⟨_,_, [],u,by simp[hN],Ip.start q F,hJ [] W w0 S h0 T (fun r e=>by cases e)⟩
 case round =>
  obtain⟨f,i,ps,j,af,Q,p⟩:=hrel
  gi_wp2_with (first
   | (gi_at_next;refine wpListIn_next_ranges _ rfl _ rfl 9 Tryz.keyedS Il encStr (fun c:Option Qi=>Ql c) (fun key kl hk=>by obtain⟨x,hx,_⟩:=Yj Yk hk;exact⟨x,hx⟩) (fun v y D=>by rcases M3 D with⟨k,rfl,_⟩|⟨rfl,_⟩<;>exact ⟨_,rfl⟩) b W.heap.size l.length _ _ _ rfl j ?_ ?_)
   | gi_in)
  ·intro ah X
   gi_wp2
   go_end0;exact⟨⟨_,rfl⟩,.inl ⟨ps,Q.done F X,p⟩⟩
  ·intro x c kl yd yp z B C t D Y m aa ab ai ac;obtain⟨x',ex,rfl,_⟩:=Yj Yk C;obtain rfl:x=x':=encStr_inj ex;obtain⟨o,R,s,rfl⟩:=qF D Y;rw[s]at ac;rw[s];have M:Lit.string x=BN o.1.1:=by rw[R];rfl
   rw[M]at t m;have N:d ps z:=hJ ps wr z (O W.heap.size) p ab (fun r e=>by cases e;exact⟨QI _,j.iter_walk⟩);obtain⟨fn,tmps,assign,body,hy,hR⟩:=hY ps o z N (by omega);have P:=Q.step F o t;obtain⟨⟨on,ot,od⟩,ho⟩:=o
   gi_wp2
   refine hR.mono ?_;rintro e W3 (⟨rfl,ad,ae⟩|⟨rfl,E⟩)
   ·gi_wp2
    have g:=m.of_walks ae;go_roundw
    case rel=>exact ⟨_,B,_,g,by simp;omega,P,ad⟩
    case measure=>rw [g.left_eq,j.left_eq];exact aa
   ·gi_wp2
    refine XL (results_none rfl _ _ _) rfl ?_;exact⟨⟨_,rfl⟩,.inr ⟨_,trivial,E⟩⟩
theorem qI (n:Nat) (i:1<=n) (f b:Nat) (q:ByteArray->Nat) (l:List Ob) (j:DX l) (w:I) (g:w.cell? ⟨f,0,S⟩=O (.map (O b))) (d:BW w b q l) :
  Xn Q8 n V 378 #[Ql (O ⟨f,0,S⟩)] (MO q) QT (fun ps:List (EQ l)=>(ps.map (·.1)).Perm l) (fun _=>True) l.length w:=fun r c Jx W hW hJ _ hY h0 =>
 qH n i r f b q l j c Jx hY W hJ ((hW.cell (p:=⟨f,0,S⟩) (BF g)).trans g) (d.keep (hW.block b d.lt)) h0
theorem qJ (n:Nat) (c:Nat) (q:ByteArray->Nat) (w:I) (f:w.cell? ⟨c,0,S⟩=O (.map S)) :
  Xn Q8 n V 378 #[Ql (O ⟨c,0,S⟩)] (MO q) QT (fun ps:List (EQ [])=>(ps.map (·.1)).Perm []) (fun _=>True) 0 w:=fun r b Jx W hW hJ _ hY h0=>by
 have g:=(hW.cell (p:=⟨c,0,S⟩) (BF f)).trans f;have d:Fence.wide.round=S:=rfl;show Xl _ _ _ _ #[.func (.yield r) #[] #[],Ql (O ⟨c,0,S⟩)] _ _;refine Xm func378 rfl trivial ?_ d;simp only[ntmps378,XX,XY,XZ,Ya,Yb,Yc,Yd,Ye,Yf,Yg,Yh];have i:=run_range_nilMap (P:=V) W 68 9 153 Yi;have j:∀ty,(Instr.next (Ql (O ⟨W.heap.size,0,S⟩)) Qa ty).run V (W.alloc (.mapIter S 0 #[] 0))=_:=fun ty=>run_next_nilMap _ ty 0 0 #[]
 gi_wp2
 refine wpIn_loop_rounds 1 ?_;rw[roundsIn_succ]
 gi_wp2
 go_end0;exact⟨⟨_,rfl⟩,.inl ⟨[],List.Perm.nil,hJ [] W _ S h0 (World.grownBy_alloc W _ S) (fun r e=>by cases e)⟩⟩
theorem qK (n:Nat) (i:1<=n) (d:Nat) (f:Option Nat) (q:ByteArray->Nat) (l:List Ob) (j:DX l) (w:I) (g:w.cell? ⟨d,0,S⟩=O (.map f)) (c:Hj w f q l) :
  Xn Q8 n V 378 #[Ql (O ⟨d,0,S⟩)] (MO q) QT (fun ps:List (EQ l)=>(ps.map (·.1)).Perm l) (fun _=>True) l.length w:=by
 rcases c with⟨rfl,rfl⟩|⟨b,rfl,c⟩
 ·exact qJ n d q w g
 ·exact qI n i d b q l j w g c
theorem qL (n:Nat) (b:Option Nat) (w:I):Xl Q8 n V 351 #[.map b] w fun e w'=>e=Qh (.func (.func 378) #[] #[Ql (O ⟨w.heap.size,0,S⟩)])/\w'=w.alloc (J #[.map b] 68):=by
 refine Xm func351 rfl trivial ?_ rfl
 gi_wp2
 go_ret;exact⟨rfl,rfl⟩
end
end Go.Proofs.YtcllhobffhkafaaGreatDoor
