/- By an AI agent. -/
import Derived.Maps.OwnIn
import Derived.Maps.Views
import Derived.Sort.KeysCollected
import Derived.Test.YtcllhobffhkafaaGreatDoorExpPure
import Derived.Deep.AppendLies
set_option maxRecDepth 100000
set_option maxHeartbeats 16000000
open Go.Proofs.Tryz
open Go renaming World->Z,Value->I,TypeId->H,DataW->Qa,MemPlace->Qm,lt_of_block->Qo,cell_of_row->Qw,heap_setCell_same->Qx
open Go.Obj.cells renaming injEq->Qp
open Go.Value renaming string->A,slice->Qb,int->Qc,ownBlock->Qi
open Int.ofNat renaming inj->Qn
open List renaming mem_cons->Qf,mem_cons_self->Qg,mem_cons_of_mem->Qj,drop_eq_getElem_cons->Qk,length_eq_zero_iff->Ql,pairwise_cons->Qq,length_append->Qr,dropLast_concat->Qs,getLast?_concat->Qt,append_nil->Qu,getElem?_take->Qv
open Nat renaming lt_of_lt_of_le->Qd,le_trans->Qh
open Option renaming some->O,none->U
open Option.some renaming injEq->Qe
open Or renaming inl->S,inr->J
namespace Go.Proofs.YtcllhobffhkafaaGreatDoor
open Go.Lib
section
open Go
def Ec:List UInt8:= [109,101,116,97]
def CI (z:Int):Bool:=decide (1<=z) && decide (z<=1073741824)
theorem JN {z:Int} :CI z=true↔1<=z/\z<=1073741824:=by
 simp only[CI,Bool.and_eq_true,decide_eq_true_eq]
def Dq:Int->List Int->Nat->Nat×Option Nat
 | _, [],_=>(0,U)
 | p,z :: r,i=>if CI z=false then (2,O i) else if z<=p then (9,O i) else Dq z r (i+1)
def AD (zs:List Int):Nat×Option Nat:=if zs= [] then (6,U) else if 40<zs.length then (8,U) else Dq 0 zs 0
theorem Tw:∀ {zs:List Int} {p:Int} {i:Nat},(Dq p zs i).1=0->(∀z∈zs,CI z=true)/\(∀z∈zs,p<z)/\zs.Pairwise (· < ·)
 | [],_,_,_=>⟨fun _ h=>(nomatch h),fun _ h=>(nomatch h),List.Pairwise.nil⟩
 | z :: r,p,i,h=>by
  unfold Dq at h;split at h
  ·cases h
  ·rename_i f;split at h
   ·cases h
   ·rename_i g;obtain⟨a,b,c⟩:=Tw h;refine⟨fun y d=>?_,fun y d=>?_,Qq.2 ⟨b,c⟩⟩
    ·rcases Qf.1 d with rfl | d
     ·simpa using f
     ·exact a y d
    ·rcases Qf.1 d with rfl | d
     ·omega
     ·have:=b y d;omega
theorem Oi:∀ {zs:List Int} {p:Int} {i:Nat},(∀z∈zs,CI z=true)->(∀z∈zs,p<z)->zs.Pairwise (· < ·)->Dq p zs i=(0,U)
 | [],_,_,_,_,_=>rfl
 | z :: r,p,i,h1,h2,h3=>by
  obtain⟨b,c⟩:=Qq.1 h3;unfold Dq;rw[if_neg (by rw[h1 z Qg];simp),if_neg (by have:=h2 z Qg;omega)];exact Oi (fun y hy=>h1 y (Qj _ hy)) b c
theorem DO {zs:List Int} :(AD zs).1=0↔zs≠ []/\zs.length<=40/\(∀z∈zs,CI z=true)/\zs.Pairwise (· < ·):=by
 constructor
 ·intro h;unfold AD at h;split at h
  ·cases h
  ·rename_i b;split at h
   ·cases h
   ·rename_i f;obtain⟨a,_,c⟩:=Tw h;exact⟨b,by omega,a,c⟩
 ·rintro⟨b,f,d,g⟩;unfold AD;rw[if_neg b,if_neg (by omega),Oi d (fun z hz=>by have:=JN.1 (d z hz);omega) g]
theorem K7 {zs:List Int} (h:(AD zs).1=0):AD zs=(0,U):=by
 obtain⟨c,f,b,d⟩:=DO.1 h;unfold AD;rw[if_neg c,if_neg (by omega),Oi b (fun z hz=>by have:=JN.1 (b z hz);omega) d]
def It (zs:List Int):Nat->Int
 | 0=>0
 | n+1=>zs.getD n 0
def Hy (zs:List Int) (n:Nat):Prop:=Dq 0 zs 0=Dq (It zs n) (zs.drop n) n
theorem jB (zs:List Int):Hy zs 0:=rfl
theorem jC {zs:List Int} {n:Nat} (h:Hy zs n) (b:n<zs.length) (e:CI zs[n]=false):Dq 0 zs 0=(2,O n):=by
 rw[h,Qk b];unfold Dq;rw[if_pos e]
theorem jD {zs:List Int} {n:Nat} (h:Hy zs n) (b:n<zs.length) (e:CI zs[n]=true) (o:zs[n]<=It zs n):Dq 0 zs 0=(9,O n):=by
 rw[h,Qk b];unfold Dq;rw[if_neg (by rw[e];simp),if_pos o]
theorem jE {zs:List Int} {n:Nat} (h:Hy zs n) (b:n<zs.length) (e:CI zs[n]=true) (o:¬zs[n]<=It zs n):Hy zs (n+1):=by
 unfold Hy at h ⊢;rw[h]
 conv=>lhs;rw[Qk b]
 conv=>lhs;unfold Dq
 rw[if_neg (by rw[e];simp),if_neg o];have:It zs (n+1)=zs[n]:=by simp[It,List.getD,b]
 rw[this]
theorem jF {zs:List Int} (h:Hy zs zs.length):Dq 0 zs 0=(0,U):=by
 rw[h,List.drop_length];rfl
def CW (zs:List Int):List UInt8:=zs.flatMap fun z=>32 :: itoa z
def B6 (zs:List Int):List UInt8:=Ec++CW zs++ [10]
theorem jG (zs:List Int) (z:Int):CW (zs++ [z])=CW zs++(32 :: itoa z):=by simp[CW]
theorem jH {zs:List Int} {n:Nat} (b:n<zs.length):CW (zs.take (n+1))=CW (zs.take n)++(32 :: itoa zs[n]):=by
 rw[List.take_succ_eq_append_getElem b,jG]
theorem Ty:∀(a:List UInt8) (zs:List Int),(∀c∈a,c≠32)->AY (a++CW zs)=a :: zs.map itoa
 | a, [],h=>by simp[CW,ID a h]
 | a,z :: r,h=>by
  have e:a++CW (z :: r)=a++32 :: (itoa z++CW r):=by simp[CW]
  rw[e,Dm _ _ h,Ty (itoa z) r (DI z)];rfl
theorem K8:∀zs:List Int,(∀z∈zs,CI z=true)->(CW zs).length<=12*zs.length
 | [],_=>by simp[CW]
 | z :: r,h=>by
  have b:=K8 r (fun y hy=>h y (Qj _ hy));have c:=JN.1 (h z Qg);have d:=(Fb (EJ z (by omega) (by omega))).2;have e:CW (z :: r)=32 :: (itoa z++CW r):=by simp[CW]
  rw[e];simp only[List.length_cons,Qr];omega
def Ew:List (List UInt8)->Option (List Int)
 | []=>O []
 | w :: r=>match As w,Ew r with
  | some z,O zs=>O (z :: zs)
  | _,_=>U
theorem Tz:∀ {ws:List (List UInt8)} {j:Nat} {t:List UInt8},ws[j]? =O t->As t=U->Ew ws=U
 | [],j,t,h,_=>by simp at h
 | w :: r,0,t,h,hn=>by
  obtain rfl:w=t:=by simpa using h
  unfold Ew;rw[hn]
 | w :: r,j+1,t,h,hn=>by
  have:=Tz (ws:=r) (j:=j) (t:=t) (by simpa using h) hn;unfold Ew;rw[this];split<;>simp_all
theorem T8:∀ {ws:List (List UInt8)} {zs:List Int},zs.length=ws.length->(∀(j:Nat) (t:List UInt8),ws[j]? =O t->As t=zs[j]?)->Ew ws=O zs
 | [],zs,h,_=>by
  obtain rfl:zs= []:=Ql.1 h;rfl
 | w :: r, [],h,_=>by simp at h
 | w :: r,z :: zs,h,hn=>by
  have b:=T8 (ws:=r) (zs:=zs) (by simpa using h) (fun j t ht=>by simpa using hn (j+1) t (by simpa using ht));have c:As w=O z:=by simpa using hn 0 w rfl
  unfold Ew;rw[c,b]
theorem T9:∀zs:List Int,(∀z∈zs,CI z=true)->Ew (zs.map itoa)=O zs
 | [],_=>rfl
 | z :: r,h=>by
  have b:=T9 r (fun y hy=>h y (Qj _ hy));have c:=JN.1 (h z Qg);rw[List.map_cons];unfold Ew;rw[EJ z (by omega) (by omega),b]
def Hz (l:List UInt8):List Int×Nat×Option Nat:=match AY l.dropLast with
 | k :: ws=>if l.getLast? =O 10/\k=Ec then match Ew ws with
   | some zs=>if (AD zs).1≠0 then ([],AD zs) else (zs,0,U)
   | none=>([],1,U)
  else ([],1,U)
 | []=>([],1,U)
theorem Oj {zs:List Int} (h:(AD zs).1=0):Hz (B6 zs)=(zs,0,U):=by
 obtain⟨_,_,b,_⟩:=DO.1 h;unfold Hz B6;rw[Qs,Qt,Ty Ec zs (by decide)];dsimp only;rw[if_pos ⟨rfl,rfl⟩,T9 zs b];dsimp only;rw[if_neg (by simpa using h)]
def Ey (zs:List Int) (z:Int):Nat×Option Nat:=if (AD zs).1≠0 then AD zs else ((AD (zs++ [z])).1,U)
def Fq (zs:List Int) (z:Int):List Int:=if (Ey zs z).1=0 then zs++ [z] else []
def BW (zs some:List Int):List Int:=zs.dropLast.filter (fun z=>some.contains z)++zs.getLast?.toList
def JO (zs O:List Int):List Int:=if (AD zs).1=0 then BW zs O else []
theorem K9 (zs O:List Int):(BW zs O).Sublist zs:=by
 unfold BW;rcases List.eq_nil_or_concat zs with rfl | ⟨b,z,rfl⟩
 ·simp
 ·simp only[List.concat_eq_append,Qs,Qt,Option.toList_some];exact List.Sublist.append List.filter_sublist (List.Sublist.refl _)
theorem TD {zs O:List Int} (h:(AD zs).1=0):(AD (BW zs O)).1=0:=by
 obtain⟨c,g,d,f⟩:=DO.1 h;have b:=K9 zs O;refine DO.2 ⟨fun e=>?_,by have:=b.length_le;omega,fun z hz=>d z (b.mem hz),f.sublist b⟩;have:=congrArg List.length e;unfold BW at this;rw[List.getLast?_eq_some_getLast c]at this;simp at this
end
section
open Go.Extern Go.Extern.Stop Go.RowKit Go.Shelf Go.Sort Go.Stop
structure Ac (P:Nat->Prop) (w w':Z):Prop where
 os:w'.os=w.os
 tape:w'.tape=w.tape
 output:w'.output=w.output
 size:w.heap.size<=w'.heap.size
 block:∀k,k<w.heap.size->¬P k->w'.heap[k]? =w.heap[k]?
theorem Ac.refl (P:Nat->Prop) (w:Z):Ac P w w:=⟨rfl,rfl,rfl,Nat.le_refl _,fun _ _ _=>rfl⟩
theorem Ac.trans {P Q:Nat->Prop} {a b c:Z} (h:Ac P a b) (k:Ac Q b c) (d:∀i,Q i->i<a.heap.size->P i):Ac P a c :=
 ⟨k.os.trans h.os,k.tape.trans h.tape,k.output.trans h.output,Qh h.size k.size,fun i hi hp=>(k.block i (Qd hi h.size) (fun hQ=>hp (d i hQ hi))).trans (h.block i hi hp)⟩
theorem Ac.of_below {P:Nat->Prop} {w w':Z} (h:BL w w'):Ac P w w':=⟨h.os,h.tape,h.output,h.size,fun k hk _=>h.block k hk⟩
theorem Ac.below {P:Nat->Prop} {w w':Z} (h:Ac P w w') {B:Nat} (b:B<=w.heap.size) (c:∀k,P k->B<=k):Below B w w' :=
 ⟨h.os,h.tape,h.output,h.size,fun k hk=>h.block k (Qd hk b) (fun hP=>Nat.lt_irrefl _ (Qd hk (c k hP)))⟩
theorem Ac.mono {P Q:Nat->Prop} {w w':Z} (h:Ac P w w') (b:∀k,P k->Q k):Ac Q w w':=⟨h.os,h.tape,h.output,h.size,fun k hk hQ=>h.block k hk (fun hP=>hQ (b k hP))⟩
theorem Ac.setCell {P:Nat->Prop} {a w:Z} (h:Ac P a w) {b o:Nat} (c:P b\/a.heap.size<=b) (u:I):Ac P a (w.setCell ⟨b,o,U⟩ u):=by
 refine⟨h.os,h.tape,h.output,?_,fun k hk hP=>?_⟩
 ·have:(w.setCell ⟨b,o,U⟩ u).heap.size=w.heap.size:=by simp[World.setCell]
  rw[this];exact h.size
 ·rw[heap_setCell_other _ _ _ _ (fun e=>by
   subst e;rcases c with c | c
   ·exact hP c
   ·omega)]
  exact h.block k hk hP
theorem Ac.keep {P:Nat->Prop} {w w':Z} (h:Ac P w w') {b o:Nat} {v:I} (d:¬P b) (c:w.cell? ⟨b,o,U⟩=O v):w'.cell? ⟨b,o,U⟩=O v:=by
 have e:=h.block b (BD c) d;rw[<-c];unfold World.cell?;rw[e]
theorem jI {a b:ByteArray} (h:a=b):(a.toList == b.toList)=true:=by subst h;simp
theorem jJ {a b:ByteArray} (h:a≠b):(a.toList == b.toList)=false:=by
 rw[beq_eq_false_iff_ne];intro e;apply h;rw[ByteArray.toList_eq,ByteArray.toList_eq]at e;exact JC e
theorem jK (c:UInt8):GM c=((decide (97<=(c.toNat:Int)) && decide ((c.toNat:Int)<=122)) || (decide (48<=(c.toNat:Int)) && decide ((c.toNat:Int)<=57)) || decide ((c.toNat:Int)=47)):=by
 unfold GM;have b:decide (97<=c.toNat)=decide (97<=(c.toNat:Int)):=by congr 1;exact propext (by omega)
 have d:decide (c.toNat<=122)=decide ((c.toNat:Int)<=122):=by congr 1;exact propext (by omega)
 have f:decide (48<=c.toNat)=decide (48<=(c.toNat:Int)):=by congr 1;exact propext (by omega)
 have g:decide (c.toNat<=57)=decide ((c.toNat:Int)<=57):=by congr 1;exact propext (by omega)
 have i:decide (c.toNat=47)=decide ((c.toNat:Int)=47):=by congr 1;exact propext (by omega)
 rw[b,d,f,g,i]
def AV (l:List Ob) (n:ByteArray):ByteArray×Nat:=match B1 l n with
 | some o=>(o.2.1,0)
 | none=>(⟨#[]⟩,6)
theorem jL (s:ByteArray) (w:Z) (a:Nat->Addr) (h:Bd w a) (d:s.size<=1000) :
  Calls prog 29 #[A s] w fun e w'=>e= .returned (Ae a (A8 s.data.toList).1)/\BL w w':=by
 have c:=LY s w a h d
 go_enter func29,ntmps29
 go_wp2_with fail
 refine c.mono ?_;rintro e f ⟨g,rfl,_,b⟩;go_wp2;go_ret;exact⟨rfl,b⟩
def Ce:I->Option (Qa Unit×List Qm)
 | .slice U 0 0=>O (.nil, [])
 | .slice (O ⟨g,0,U⟩) n c=>O (.agg [.lit (.int .i64 g),.lit (.int .i64 n),.lit (.int .i64 c)], [])
 | _=>U
theorem TH {v:I} {z:Qa Unit×List Qm} (h:Ce v=O z):z.2= []:=by
 unfold Ce at h;split at h
 ·cases h;rfl
 ·cases h;rfl
 ·cases h
theorem TI {v v':I} {z:Qa Unit×List Qm} (h:Ce v=O z) (b:Ce v'=O z):v=v':=by
 unfold Ce at h;split at h
 ·cases h
  unfold Ce at b;split at b
  ·rfl
  ·cases b
  ·cases b
 ·cases h
  unfold Ce at b;split at b
  ·cases b
  ·simp only[Qe,Prod.mk.injEq,and_true,DataW.agg.injEq,List.cons.injEq,DataW.lit.injEq,Lit.int.injEq,true_and]at b;obtain⟨g,i,j⟩:=b;have c:=Qn g;have d:=Qn i;have f:=Qn j;subst c d f;rfl
  ·cases b
 ·cases h
def grp (p:Rw->ByteArray) (ys:List Rw) (nm:List UInt8):List Rw:=ys.filter fun x=>decide ((p x).data.toList=nm)
theorem TJ (p:Rw->ByteArray) (ys:List Rw) (x:Rw) (nm:List UInt8):grp p (ys++ [x]) nm=grp p ys nm++if (p x).data.toList=nm then [x] else []:=by
 unfold grp;rw[List.filter_append];by_cases h:(p x).data.toList=nm<;>simp [h]
structure CX (W:Z) (base bm:Nat) (p:Rw->ByteArray) (ys:List Rw) (D:Qa Unit) (hv:List UInt8->I):Prop where
 map:W.ownsMap prog 9 Ce bm ys.length D
 isMap:Maps.IsMap D
 hd:∀nm,Ce (hv nm)=O (D.atKey (.string nm) .nil, [])
 has:∀nm,Maps.has D (.string nm)=true↔grp p ys nm≠ []
 own:∀nm,W.ownsRow base 62 3 (hv nm) (grp p ys nm).length (A2 (grp p ys nm))
 apart:∀x y,x≠y->(hv x).ownBlock=U\/(hv x).ownBlock≠(hv y).ownBlock
 low:bm<base
 keys:∀es,D= .map es->∀q∈es,∃nm,q.1= .string nm
theorem TK (q x:Lit×Qa Unit):∀l:List (Lit×Qa Unit),q∈DataW.insert x l->q=x\/q∈l
 | [],h=>by simp[DataW.insert]at h;exact S h
 | y :: r,h=>by
  unfold DataW.insert at h;split at h
  ·simp only[Qf]at h ⊢;exact h
  ·simp only[Qf]at h ⊢;rcases h with h | h
   ·exact J (S h)
   ·rcases TK q x r h with h | h
    ·exact S h
    ·exact J (J h)
theorem CX.below {W d:Z} {base c:Nat} {p:Rw->ByteArray} {ys:List Rw} {D:Qa Unit} {f:List UInt8->I} (h:CX W base c p ys D f) (g:BL W d):CX d base c p ys D f where
 map:=by
  obtain⟨i,b,j,r⟩:=h.map;exact⟨i,b,(g.block c h.map.lt).trans j,r⟩
 isMap:=h.isMap
 hd:=h.hd
 has:=h.has
 own:=fun nm=>E7 (h.own nm) g
 apart:=h.apart
 low:=h.low
 keys:=h.keys
theorem CX.made (W:Z) (p:Rw->ByteArray):CX (W.alloc (.map #[] 0)) (W.heap.size+1) W.heap.size p [] (.map []) (fun _=>Qb U 0 0) where
 map:=World.ownsMap_made _ _ _ _
 isMap:=Maps.isMap_empty
 hd:=fun nm=>rfl
 has:=fun nm=>by simp[grp,Maps.has]
 own:=fun nm=>by simp[grp,A2];exact World.ownsRow_nil _ _ _ _
 apart:=fun x y _=>S rfl
 low:=Nat.lt_succ_self _
 keys:=fun es e q hq=>by cases e;cases hq
theorem Iu {W:Z} {base:Nat} {e:H} {c:Nat} {v:I} {n:Nat} {xs:List I} (h:W.ownsRow base e c v n xs) {g:Nat} (b:v.ownBlock=O g):base<=g/\g<W.heap.size:=by
 rcases h.2 with⟨e,_⟩|⟨k,d,j,e,f,i,_⟩
 ·rw[e]at b;simp[Qi]at b
 ·rw[e]at b;simp[Qi]at b;subst b;exact⟨f,(Array.getElem?_eq_some_iff.1 i).1⟩
theorem CX.step {W k W4:Z} {base f:Nat} {p:Rw->ByteArray} {ys:List Rw} {D:Qa Unit} {i:List UInt8->I} (h:CX W base f p ys D i) (x:Rw) (v':I) (d:Qa Unit)
  (j:k.ownsRow base 62 3 v' ((grp p ys (p x).data.toList).length+1) (A2 (grp p ys (p x).data.toList)++AN x))
  (F:W.grownBy k (i (p x).data.toList).ownBlock) (b:v'.ownBlock=(i (p x).data.toList).ownBlock\/v'.ownBlock=O W.heap.size)
  (K:W4.ownsMap prog 9 Ce f (ys.length+1) (D.put (.string (p x).data.toList) d)) (r:k.grownBy W4 (O f)) (L:Ce v'=O (d, [])) :
  CX W4 base f p (ys++ [x]) (D.put (.string (p x).data.toList) d) (fun m=>if m=(p x).data.toList then v' else i m):=by
 generalize o:(p x).data.toList=c at *;have t:∀ {v:I} {n:Nat} {l:List I},k.ownsRow base 62 3 v n l->v.ownBlock=U\/v.ownBlock≠O f:=fun {v n l} hr=>by
  cases C:v.ownBlock with
  | none=>exact S rfl
  | some g =>
   refine J fun e=>?_;have:=(Iu hr C).1;have M:=h.low;simp only[Qe]at e;omega
 refine⟨by simpa using K,h.isMap.put _ _,fun m=>?_,fun m=>?_,fun m=>?_,fun x' y' hne=>?_,h.low,fun es e q s=>?_⟩
 ·by_cases e:m=c
  ·subst e;rw[if_pos rfl,Maps.atKey_put_same h.isMap (show WideAt.IsKeyLit (.string m) from trivial)];exact L
  ·rw[if_neg e,Maps.atKey_put_other (by simpa using e)];exact h.hd m
 ·rw[TJ,o];by_cases e:m=c
  ·subst e;rw[Maps.has_put_same h.isMap (show WideAt.IsKeyLit (.string m) from trivial)];simp
  ·rw[Maps.has_put_other (by simpa using e),if_neg (fun e'=>e e'.symm),Qu];exact h.has m
 ·rw[TJ,o];by_cases e:m=c
  ·subst e;rw[if_pos rfl,if_pos rfl,Qr,Kn,Ns];exact j.kept r (t j)
  ·rw[if_neg e,if_neg (fun e'=>e e'.symm),Qu];have u:=(h.own m).kept F (h.apart m c e);exact u.kept r (t u)
 ·by_cases y:x'=c
  ·subst y;rw[if_pos rfl,if_neg (fun e'=>hne e'.symm)];rcases b with b | b
   ·rw[b];exact h.apart _ _ hne
   ·rw[b];refine J fun e=>?_;have:=(Iu (h.own y') e.symm).2;omega
  ·rw[if_neg y];by_cases z:y'=c
   ·subst z;rw[if_pos rfl];rcases b with b | b
    ·rw[b];exact h.apart _ _ hne
    ·rw[b]
     cases E:(i x').ownBlock with
     | none=>exact S rfl
     | some g =>
      refine J fun e=>?_;have:=(Iu (h.own x') E).2;simp only[Qe]at e;omega
   ·rw[if_neg z];exact h.apart _ _ hne
 ·obtain⟨B,rfl⟩:=h.isMap;simp only[DataW.put,DataW.map.injEq]at e;subst e;rcases TK _ _ _ s with rfl | s
  ·exact⟨_,rfl⟩
  ·exact h.keys B rfl q (List.mem_filter.1 s).1
theorem CX.key_mem {W:Z} {base g:Nat} {p:Rw->ByteArray} {ys:List Rw} {D:Qa Unit} {i:List UInt8->I} (h:CX W base g p ys D i) (nm:List UInt8):nm∈strKeys D↔grp p ys nm≠ []:=by
 rw[<-h.has nm];obtain⟨f,rfl⟩:=h.isMap;rw[Maps.has_eq];simp only[strKeys,List.mem_map,List.any_eq_true];constructor
 ·rintro⟨q,d,e⟩;obtain⟨j,c⟩:=h.keys f rfl q d;rw[c]at e;subst e;exact⟨q,d,by rw[c];exact WideAt.sameKey_self trivial⟩
 ·rintro⟨q,d,e⟩;have c:=(WideAt.sameKey_iff (b:= .string nm) trivial).1 e;exact⟨q,d,by rw[c];rfl⟩
theorem CX.size {W:Z} {base d:Nat} {p:Rw->ByteArray} {ys:List Rw} {D:Qa Unit} {f:List UInt8->I} (h:CX W base d p ys D f):Maps.size D<=ys.length:=by
 obtain⟨g,b,_,_,c,rfl⟩:=h.map;rw[Maps.size_eq,length_sorted];simpa using c
structure Lk where
 st:St
 spec:ByteArray
 ids:List Int
 now:Sn
def Iv (l:List UInt8):List UInt8:=(l.reverse.takeWhile fun c=>decide (c≠47)).reverse
def KA (b:ByteArray):Option Int:=As (Iv b.data.toList)
def EP (n:Int) (o:Ob):Int:=match KA o.1 with
 | some x=>if n<x then x else n
 | none=>n
def EQ (obs:List Ob):Int:=obs.foldl EP 0
def Ag (s:St):Int:=EQ s.obs+1
def AG (n:Int):ByteArray:=⟨#[109,101,116,97,47]⟩++Ab (itoa n)
def Ez (w:Z) (v:I) (ts:List ByteArray):Prop :=
 (∃p c,v=Qb p 0 c/\ts= [])\/∃b o cap,v=Qb (O ⟨b,o,U⟩) ts.length cap/\∀j (h:j<ts.length),w.cell? ⟨b,o+j,U⟩=O (A ts[j])
theorem Ez.below {w w':Z} {v:I} {d:List ByteArray} (h:Ez w v d) (i:BL w w'):Ez w' v d:=by
 rcases h with h | ⟨b,o,c,f,g⟩
 ·exact S h
 ·exact J ⟨b,o,c,f,fun j hj=>Aa i (g j hj)⟩
theorem Ez.form {w:Z} {v:I} {f:List ByteArray} (h:Ez w v f):∃q c,v=Qb q f.length c:=by
 rcases h with⟨p,c,rfl,rfl⟩|⟨b,o,d,rfl,_⟩
 ·exact⟨p,c,rfl⟩
 ·exact⟨_,d,rfl⟩
theorem Ez.at {w:Z} {q:Option Addr} {n c:Nat} {d:List ByteArray} (h:Ez w (Qb q n c) d) (f:d≠ []):∃b o,q=O ⟨b,o,U⟩/\∀j (h:j<d.length),w.cell? ⟨b,o+j,U⟩=O (A d[j]):=by
 rcases h with⟨p,k,_,e⟩|⟨b,o,i,e,g⟩
 ·exact absurd e f
 ·injection e with e1;exact⟨b,o,e1,g⟩
theorem KC {w:Z} {base:Nat} {v:I} {b:List ByteArray} (h:w.ownsRow base 9 1 v b.length (b.map A)):Ez w v b:=by
 obtain⟨o,h⟩:=h;rcases h with⟨f,i⟩|⟨g,d,m,rfl,_,k,n,_,_,l⟩
 ·exact S ⟨U,0,by rw[f],Ql.1 i⟩
 ·refine J ⟨g,0,d,rfl,fun j hj=>?_⟩;have c:(b.map A)[j]? =O (A b[j]):=by simp[hj]
  rw[<-l,Qv,if_pos (by simpa using hj)]at c;simp only[World.cell?,k,Nat.zero_add];simpa using c
theorem TL (t:ByteArray) (k:Nat):t.extract 0 k=Ab (t.data.toList.take k):=by
 apply JC;rw[extract_data];show _=(t.data.toList.take k).toArray.toList;simp
theorem Ac.grown {w w':Z} {b:Option Nat} (h:w.grownBy w' b):Ac (fun k=>b=O k) w w':=⟨h.os,h.tape,h.output,h.size,fun k hk hn=>h.block k hk (fun e=>hn e.symm)⟩
theorem Ai.but {P:Nat->Prop} {w w':Z} {v:I} {i:List Fl} (h:Ai w v i) (d:Ac P w w') (u:∀k,v.ownBlock=O k->¬P k):Ai w' v i:=by
 rcases h with h | ⟨b,o,f,g,s,t⟩
 ·exact S h
 ·refine J ⟨b,o,f,g,s,fun j hj=>?_⟩;have c:¬P b:=u b (by rw[g];rfl);obtain⟨l,m,n,p,q,r⟩:=t j hj;exact⟨d.keep c l,d.keep c m,d.keep c n,d.keep c p,d.keep c q,d.keep c r⟩
theorem AO {P:Nat->Prop} {w w':Z} {B:Nat} {e:H} {z:Nat} {v:I} {n:Nat} {xs:List I} (h:w.ownsRow B e z v n xs) (l:Ac P w w') (m:∀k,v.ownBlock=O k->¬P k):w'.ownsRow B e z v n xs:=by
 refine⟨h.1,?_⟩;rcases h.2 with i | ⟨g,b,c,d,j,f,rest⟩
 ·exact S i
 ·exact J ⟨g,b,c,d,j,(l.block g (Qo f) (m g (by rw[d];rfl))).trans f,rest⟩
def BS (w:Z) (v:I) (ts:List ByteArray):Prop :=
 (v=Qb U 0 0/\ts= [])\/∃b cap,v=Qb (O ⟨b,0,U⟩) ts.length cap/\ts.length<=cap/\∀j (h:j<ts.length),w.cell? ⟨b,j,U⟩=O (A ts[j])
theorem BS.form {w:Z} {v:I} {d:List ByteArray} (h:BS w v d):∃q c,v=Qb q d.length c:=by
 rcases h with⟨rfl,rfl⟩|⟨b,f,rfl,_⟩
 ·exact⟨_,_,rfl⟩
 ·exact⟨_,_,rfl⟩
theorem BS.below {w w':Z} {v:I} {d:List ByteArray} (h:BS w v d) (k:BL w w'):BS w' v d:=by
 rcases h with h | ⟨b,c,f,g,i⟩
 ·exact S h
 ·exact J ⟨b,c,f,g,fun j hj=>Aa k (i j hj)⟩
theorem BS.cells {w:Z} {q:Option Addr} {n c:Nat} {d:List ByteArray} (h:BS w (Qb q n c) d) (f:d≠ []):∃b,q=O ⟨b,0,U⟩/\∀j (h:j<d.length),w.cell? ⟨b,j,U⟩=O (A d[j]):=by
 rcases h with⟨_,e⟩|⟨b,i,e,_,g⟩
 ·exact absurd e f
 ·injection e with e1 e2 e3;exact⟨b,e1,g⟩
theorem Iw {w:Z} {B:Nat} {v:I} {b:List ByteArray} (h:w.ownsRow B 9 1 v b.length (b.map A)):BS w v b:=by
 rcases h.2 with⟨c,i⟩|⟨g,d,f,c,_,k,l,_,_,m⟩
 ·exact S ⟨c,Ql.1 i⟩
 ·refine J ⟨g,d,c,l,fun j hj=>?_⟩;rw[Qw _ _ _ _ _ _ k];have e:(f.toList.take (b.length*1))[j]? =(b.map A)[j]? :=by rw[m]
  rw[Qv,if_pos (by omega),Array.getElem?_toList]at e;rw[e];simp[hj]
def Cz (T:H) (W:Z) (tb:Nat) (s:Sn) (vb va vr:I):Prop:=W.heap[tb]? =O (.cells #[Qc .i64 s.1,Qc .i64 s.2.1,Qc .i64 s.2.2.1,Qc .i64 s.2.2.2.1,Qc .i64 s.2.2.2.2.1,A s.2.2.2.2.2.1,vb,va,vr] T (0,0))
theorem Cz.lt {T:H} {W:Z} {b:Nat} {s:Sn} {c d f:I} (h:Cz T W b s c d f):b<W.heap.size:=Qo h
theorem Cz.cells {T:H} {W:Z} {b:Nat} {s:Sn} {c d f:I} (h:Cz T W b s c d f):W.cell? ⟨b,2,U⟩=O (Qc .i64 s.2.2.1)/\W.cell? ⟨b,6,U⟩=O c/\W.cell? ⟨b,7,U⟩=O d/\W.cell? ⟨b,8,U⟩=O f:=by
 refine⟨?_,?_,?_,?_⟩<;>rw [Qw _ _ _ _ _ _ h]<;>rfl
theorem Cz.fz {T:H} {W:Z} {b:Nat} {s:Sn} {c d f:I} (h:Cz T W b s c d f) (o:Nat):W.frozen? ⟨b,o,U⟩=false:=frozen_of_row _ _ _ _ _ h
theorem Cz.set7 {T:H} {W:Z} {b:Nat} {s:Sn} {c f d:I} (h:Cz T W b s c f d) (x:I):Cz T (W.setCell ⟨b,7,U⟩ x) b s c x d:=by
 unfold Cz at *;rw[Qx _ _ _ _ _ _ h];rfl
theorem Cz.set8 {T:H} {W:Z} {b:Nat} {s:Sn} {c d f:I} (h:Cz T W b s c d f) (x:I):Cz T (W.setCell ⟨b,8,U⟩ x) b s c d x:=by
 unfold Cz at *;rw[Qx _ _ _ _ _ _ h];rfl
theorem Cz.but {P:Nat->Prop} {T:H} {W c:Z} {b:Nat} {s:Sn} {d f g:I} (h:Cz T W b s d f g) (i:Ac P W c) (j:¬P b):Cz T c b s d f g:=(i.block b h.lt j).trans h
structure C8 (T:H) (B:Nat) (W:Z) (tb:Nat) (vb va vr:I) (t:Tx):Prop where
 cells:Cz T W tb t.1 vb va vr
 lo:B<=tb
 base:Ai W vb t.1.2.2.2.2.2.2
 adds:W.ownsRow B 77 6 va t.2.1.length (Aw t.2.1)
 rems:W.ownsRow B 9 1 vr t.2.2.length (t.2.2.map A)
 nb:∀k,vb.ownBlock=O k->k≠tb/\va.ownBlock≠O k/\vr.ownBlock≠O k
def EA (tb:Nat) (va vr:I) (k:Nat):Prop:=k=tb\/va.ownBlock=O k\/vr.ownBlock=O k
theorem C8.but {P:Nat->Prop} {T:H} {B:Nat} {W j:Z} {b:Nat} {d f g:I} {t:Tx} (h:C8 T B W b d f g t) (c:Ac P W j) (i:∀k,EA b f g k->¬P k) (l:∀k,d.ownBlock=O k->¬P k):C8 T B j b d f g t :=
 ⟨h.cells.but c (i b (S rfl)),h.lo,h.base.but c l,AO h.adds c (fun k hk=>i k (J (S hk))),AO h.rems c (fun k hk=>i k (J (J hk))),h.nb⟩
theorem C8.below {T:H} {B:Nat} {W b:Z} {c:Nat} {d f g:I} {t:Tx} (h:C8 T B W c d f g t) (i:BL W b):C8 T B b c d f g t :=
 h.but (Ac.of_below (P:=fun _=>False) i) (fun _ _ h=>h) (fun _ _ h=>h)
def DP (w:Z) (v:I):Prop:= ∀j,v.ownBlock=O j->w.heap.size<=j
theorem DP.low {W X:Z} {v:I} (h:DP X v) (b:W.heap.size<=X.heap.size):DP W v:=fun j hj=>Qh b (h j hj)
theorem AF {w:Z} {B:Nat} {e:H} {z:Nat} {v:I} {n:Nat} {xs:List I} (h:w.ownsRow B e z v n xs) {k:Nat} (b:v.ownBlock=O k):B<=k/\k<w.heap.size/\∃cur,w.heap[k]? =O (.cells cur e (0,0)):=by
 rcases h.2 with⟨rfl,_⟩|⟨g,f,cur,rfl,d,c,_⟩
 ·simp[Qi]at b
 ·simp only[Qi,Qe]at b;subst b;exact⟨d,Qo c,cur,c⟩
theorem C8.apart {T:H} {B:Nat} {W:Z} {c:Nat} {l d f:I} {t:Tx} (h:C8 T B W c l d f t) (m:T≠77) (n:T≠9):d.ownBlock≠O c/\f.ownBlock≠O c/\∀k,d.ownBlock=O k->f.ownBlock≠O k:=by
 refine⟨fun e=>?_,fun e=>?_,fun k e1 e2=>?_⟩
 ·obtain⟨_,_,g,b⟩:=AF h.adds e;have:=h.cells.symm.trans b;simp only[Qe,Qp]at this;exact m this.2.1
 ·obtain⟨_,_,g,b⟩:=AF h.rems e;have:=h.cells.symm.trans b;simp only[Qe,Qp]at this;exact n this.2.1
 ·obtain⟨_,_,o,i⟩:=AF h.adds e1;obtain⟨_,_,p,j⟩:=AF h.rems e2;have:=i.symm.trans j;simp only[Qe,Qp]at this;exact absurd this.2.1 (by decide)
theorem C8.added {T:H} {B:Nat} {W g:Z} {f:Nat} {l i j d:I} {t:Tx} (h:C8 T B W f l i j t) (z:T≠77) (C:T≠9) {o:List Fl} (D:g.ownsRow B 77 6 d o.length (Aw o))
  (E:W.grownBy g i.ownBlock) (c:d.ownBlock=i.ownBlock\/d.ownBlock=O W.heap.size) (s:∀k,l.ownBlock=O k->k<W.heap.size) :
  C8 T B (g.setCell ⟨f,7,U⟩ d) f l d j (t.1,o,t.2.2)/\Ac (EA f i j) W (g.setCell ⟨f,7,U⟩ d)/\∀k,EA f d j k->EA f i j k\/W.heap.size<=k:=by
 obtain⟨r,v,y⟩:=h.apart z C;have m:=Ac.grown E;have u:Cz T g f t.1 l i j:=h.cells.but m r;have n:Ac (fun k=>k=f) g (g.setCell ⟨f,7,U⟩ d):=(Ac.refl (fun k=>k=f) g).setCell (S (Eq.refl f)) _;have F:=h.cells.lt;have p:d.ownBlock≠O f:=fun e=>by
  rcases c with c | c
  ·exact r (c.symm.trans e)
  ·rw[c]at e;injection e with e;omega
 have q:∀k,l.ownBlock=O k->¬i.ownBlock=O k:=fun k b=>(h.nb k b).2.1;refine⟨⟨u.set7 _,h.lo,(h.base.but m q).but n (fun k b=>(h.nb k b).1),AO D n (fun k b e=>p (by rw[<-e];exact b)),AO (AO h.rems m (fun k b e=>y k e b)) n (fun k b e=>v (by rw[<-e];exact b)),fun k b=>⟨(h.nb k b).1,fun e=>?_,(h.nb k b).2.2⟩⟩,?_,fun k b=>?_⟩
 ·rcases c with c | c
  ·exact(h.nb k b).2.1 (c.symm.trans e)
  ·rw[c]at e;injection e with e;have:=s k b;omega
 ·exact(m.mono fun k b=>J (S b)).trans n (fun k b _=>S b)
 ·rcases b with b | b | b
  ·exact S (S b)
  ·rcases c with c | c
   ·exact S (J (S (c.symm.trans b)))
   ·rw[c]at b;injection b with b;exact J (by omega)
  ·exact S (J (J b))
theorem C8.removed {T:H} {B:Nat} {W g:Z} {f:Nat} {l j i d:I} {t:Tx} (h:C8 T B W f l j i t) (y:T≠77) (z:T≠9) {ps:List ByteArray} (C:g.ownsRow B 9 1 d ps.length (ps.map A))
  (D:W.grownBy g i.ownBlock) (c:d.ownBlock=i.ownBlock\/d.ownBlock=O W.heap.size) (r:∀k,l.ownBlock=O k->k<W.heap.size) :
  C8 T B (g.setCell ⟨f,8,U⟩ d) f l j d (t.1,t.2.1,ps)/\Ac (EA f j i) W (g.setCell ⟨f,8,U⟩ d)/\∀k,EA f j d k->EA f j i k\/W.heap.size<=k:=by
 obtain⟨u,q,v⟩:=h.apart y z;have m:=Ac.grown D;have s:Cz T g f t.1 l j i:=h.cells.but m q;have n:Ac (fun k=>k=f) g (g.setCell ⟨f,8,U⟩ d):=(Ac.refl (fun k=>k=f) g).setCell (S (Eq.refl f)) _;have E:=h.cells.lt;have o:d.ownBlock≠O f:=fun e=>by
  rcases c with c | c
  ·exact q (c.symm.trans e)
  ·rw[c]at e;injection e with e;omega
 have p:∀k,l.ownBlock=O k->¬i.ownBlock=O k:=fun k b=>(h.nb k b).2.2;refine⟨⟨s.set8 _,h.lo,(h.base.but m p).but n (fun k b=>(h.nb k b).1),AO (AO h.adds m (fun k b e=>v k b e)) n (fun k b e=>u (by rw[<-e];exact b)),AO C n (fun k b e=>o (by rw[<-e];exact b)),fun k b=>⟨(h.nb k b).1,(h.nb k b).2.1,fun e=>?_⟩⟩,?_,fun k b=>?_⟩
 ·rcases c with c | c
  ·exact(h.nb k b).2.2 (c.symm.trans e)
  ·rw[c]at e;injection e with e;have:=r k b;omega
 ·exact(m.mono fun k b=>J (J b)).trans n (fun k b _=>S b)
 ·rcases b with b | b | b
  ·exact S (S b)
  ·exact S (J (S b))
  ·rcases c with c | c
   ·exact S (J (J (c.symm.trans b)))
   ·rw[c]at b;injection b with b;exact J (by omega)
def CJ (T:H) (B:Nat) (W:Z) (v:I) (FP:Nat->Prop) (t:Tx):Prop :=
 ∃tb vb va vr,v= .pointer (O ⟨tb,0,U⟩)/\C8 T B W tb vb va vr t/\(∀k,EA tb va vr k->FP k)/\(∀k,vb.ownBlock=O k->(FP k\/k<B)/\k<W.heap.size)/\∀k,FP k->B<=k/\k<W.heap.size
theorem CJ.but {P:Nat->Prop} {T:H} {B:Nat} {W l:Z} {v:I} {c:Nat->Prop} {t:Tx} (h:CJ T B W v c t) (d:Ac P W l) (f:∀k,P k->B<=k/\¬c k):CJ T B l v c t:=by
 obtain⟨m,n,o,p,rfl,g,i,b,j⟩:=h;refine⟨m,n,o,p,rfl,g.but d (fun k hk hP=>(f k hP).2 (i k hk)) (fun k hk hP=>?_),i,fun k hk=>⟨(b k hk).1,Qd (b k hk).2 d.size⟩,fun k hk=>⟨(j k hk).1,Qd (j k hk).2 d.size⟩⟩;rcases (b k hk).1 with h | h
 ·exact(f k hP).2 h
 ·exact absurd (f k hP).1 (by omega)
theorem CJ.below {T:H} {B:Nat} {W b:Z} {v:I} {c:Nat->Prop} {t:Tx} (h:CJ T B W v c t) (d:BL W b):CJ T B b v c t :=
 h.but (Ac.of_below (P:=fun _=>False) d) (fun _ h=>h.elim)
def H1 (T:H) (B:Nat) (W:Z) (v:I) (FP:Nat->Prop) (t:Tx) (w':Z):Prop:= ∃FP',CJ T B w' v FP' t/\Ac FP W w'/\∀k,FP' k->FP k\/W.heap.size<=k
theorem TM {T:H} {B:Nat} {W p l:Z} {d:Nat} {q r s f g:I} {t:Tx} {i:Nat->Prop} (m:∀k,EA d r s k->i k) (n:∀k,q.ownBlock=O k->(i k\/k<B)/\k<W.heap.size) (o:∀k,i k->B<=k/\k<W.heap.size)
  (u:BL W p) (c:C8 T B l d q f g t) (j:Ac (EA d r s) p l) (v:∀k,EA d f g k->EA d r s k\/p.heap.size<=k):H1 T B W (.pointer (O ⟨d,0,U⟩)) i t l:=by
 have y:W.heap.size<=l.heap.size:=Qh u.size j.size;refine⟨fun k=>i k\/EA d f g k,⟨d,q,f,g,rfl,c,fun k b=>J b,fun k b=>⟨?_,Qd (n k b).2 y⟩,fun k b=>?_⟩,?_,fun k b=>?_⟩
 ·rcases (n k b).1 with h | h
  ·exact S (S h)
  ·exact J h
 ·rcases b with b | b
  ·exact⟨(o k b).1,Qd (o k b).2 y⟩
  ·rcases b with rfl | b | b
   ·exact⟨c.lo,c.cells.lt⟩
   ·exact⟨(AF c.adds b).1,(AF c.adds b).2.1⟩
   ·exact⟨(AF c.rems b).1,(AF c.rems b).2.1⟩
 ·exact(Ac.of_below u).trans (j.mono m) (fun _ h _=>h)
 ·rcases b with b | b
  ·exact S b
  ·rcases v k b with h | h
   ·exact S (m k h)
   ·exact J (Qh u.size h)
theorem TN {T:H} {B:Nat} {W w':Z} {v:I} {b:Nat->Prop} {t:Tx} (h:CJ T B W v b t) (c:BL W w'):H1 T B W v b t w':=⟨b,h.below c,Ac.of_below c,fun _ h=>S h⟩
theorem KD {W g:Z} {P:Nat->Prop} {v:I} {zs:List Int} (h:A3 W v zs) (m:zs≠ []->∀k,v.ownBlock=O k->¬P k) (n:Ac P W g):A3 g v zs:=by
 rcases h with h | ⟨b,o,c,f,l⟩
 ·exact S h
 ·by_cases d:zs= []
  ·exact S ⟨O ⟨b,o,U⟩,c,by rw[f,d];rfl,d⟩
  ·have i:=m d b (by rw[f];rfl);exact J ⟨b,o,c,f,fun j hj=>n.keep i (l j hj)⟩
theorem JP {W n:Z} {P:Nat->Prop} {v:I} {l:List Fl} (h:Ai W v l) (q:l≠ []->∀k,v.ownBlock=O k->¬P k) (g:Ac P W n):Ai n v l:=by
 rcases h with h | ⟨b,o,c,m,p,f⟩
 ·exact S h
 ·by_cases i:l= []
  ·exact S ⟨O ⟨b,o,U⟩,c,by rw[m,i];rfl,fun e=>(nomatch e),i⟩
  ·have d:=q i b (by rw[m];rfl);exact J ⟨b,o,c,m,p,fun j hj=>⟨g.keep d (f j hj).1,g.keep d (f j hj).2.1,g.keep d (f j hj).2.2.1,g.keep d (f j hj).2.2.2.1,g.keep d (f j hj).2.2.2.2.1,g.keep d (f j hj).2.2.2.2.2⟩⟩
end
end Go.Proofs.YtcllhobffhkafaaGreatDoor
