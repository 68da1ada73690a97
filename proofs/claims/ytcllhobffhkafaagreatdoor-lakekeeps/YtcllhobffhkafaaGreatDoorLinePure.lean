/- By an AI agent. -/
import Derived.Test.YtcllhobffhkafaaGreatDoorTextPure
import Derived.Lib.IndexMore
set_option maxRecDepth 100000
set_option maxHeartbeats 16000000
open List renaming mem_cons_of_mem->Qa,mem_cons_self->Qb,mem_iff_getElem?->Qc,mem_cons->Qd
namespace Go.Proofs.YtcllhobffhkafaaGreatDoor
open Go Go.Lib
def Ax (d:UInt8):List UInt8->List (List UInt8)
 | []=> [[]]
 | c :: r=>if c=d then [] :: Ax d r else match Ax d r with
  | []=> [[c]]
  | w :: ws=>(c :: w) :: ws
theorem JY (d:UInt8):∀a:List UInt8,(∀c∈a,c≠d)->Ax d a= [a]
 | [],_=>rfl
 | c :: r,h=>by
  have b:=JY d r (fun e he=>h e (Qa _ he));unfold Ax;rw[if_neg (h c Qb),b]
theorem Hw (d:UInt8):∀a b:List UInt8,(∀c∈a,c≠d)->Ax d (a++d :: b)=a :: Ax d b
 | [],b,_=>by simp[Ax]
 | c :: r,b,h=>by
  have f:=Hw d r b (fun e he=>h e (Qa _ he));rw[List.cons_append,Ax,if_neg (h c Qb),f]
theorem JZ (d:UInt8):∀l:List UInt8,Ax d l≠ []
 | []=>by simp[Ax]
 | c :: r=>by
  unfold Ax;split
  ·simp
  ·split<;>simp
theorem Oc (d:UInt8):∀l:List UInt8,(Ax d l).length=l.count d+1
 | []=>rfl
 | c :: r=>by
  have b:=Oc d r;unfold Ax;split
  ·rename_i h;subst h;simp[b]
  ·rename_i h;have f:=JZ d r;rw[List.count_cons_of_ne h];split
   ·rename_i e;exact absurd e f
   ·rename_i w g e;rw[e]at b;simpa using b
theorem Hx (d:UInt8) (l:List UInt8):((∀c∈l,c≠d)/\Lib.cut l [d]=(l, [],false))\/∃a b,l=a++d :: b/\(∀c∈a,c≠d)/\Lib.cut l [d]=(a,b,true):=by
 have m:=index_one l d;rcases index_spec l [d] with⟨h,_⟩|⟨i,h,s,_,_⟩
 ·rw[h]at m;have j:=indexByte_none m.symm;refine Or.inl ⟨fun c g e=>?_,?_⟩
  ·obtain⟨k,f⟩:=Qc.1 g;exact j k (by rw[f,e])
  ·unfold Lib.cut;rw[if_neg (by omega)]
 ·rw[h]at m;obtain⟨g,j⟩:=indexByte_some m.symm;have n:i<l.length:=by
   rcases Nat.lt_or_ge i l.length with p | p
   ·exact p
   ·rw[List.getElem?_eq_none p]at g;cases g
  have q:l=l.take i++d :: l.drop (i+1):=by
   have o:=List.take_append_drop i l;rw[List.drop_eq_getElem_cons n]at o;rw[List.getElem?_eq_getElem n]at g;rw[Option.some.inj g]at o;exact o.symm
  refine Or.inr ⟨l.take i,l.drop (i+1),q,fun c hc' e=>?_,?_⟩
  ·obtain⟨k,f⟩:=Qc.1 hc';rw[List.getElem?_take]at f;split at f
   ·rename_i r;exact j k r (by rw[f,e])
   ·cases f
  ·unfold Lib.cut;rw[if_pos (by omega),h];simp
theorem dX (d:UInt8) {l a b k m:List UInt8} (h:l=a++d :: b) (q:∀c∈a,c≠d) (f:Lib.cut l [d]=(k,m,true)):k=a/\m=b:=by
 rcases Hx d l with⟨_,i⟩|⟨x,y,e,p,i⟩
 ·rw[i]at f;cases f
 ·rw[i]at f;simp only[Prod.mk.injEq,and_true]at f;obtain⟨rfl,rfl⟩:=f;have j:=Hw d a b q;have g:=Hw d x y p;rw[<-h]at j;rw[<-e]at g;have n:x=a:=by rw[j]at g;simpa using (List.cons.inj g).1.symm
  subst n;rw[h]at e;have o:=List.append_cancel_left e;exact⟨rfl,(List.cons.inj o).2.symm⟩
theorem KI (d:UInt8) (a b:List UInt8) (i:∀c∈a,c≠d):Lib.cut (a++d :: b) [d]=(a,b,true):=by
 rcases Hx d (a++d :: b) with⟨h,_⟩|⟨x,y,e,j,h⟩
 ·exact absurd rfl (h d (by simp))
 ·obtain⟨f,g⟩:=dX d rfl i h;rw[h,f,g]
theorem Fu {l:List UInt8} {n:Int} (h:At l=some n):itoa n=l/\l.length<=11:=by
 unfold At at h;split at h
 ·rename_i b;split at h
  ·split at h
   ·rename_i e;simp only[Option.some.injEq]at h;rw[<-h];exact⟨e,b⟩
   ·cases h
  ·cases h
 ·cases h
theorem Sp (n:Int):∀c∈itoa n,c=45\/(48<=c.toNat/\c.toNat<=57):=by
 intro c b;unfold itoa at b;split at b
 ·rw[Qd]at b;rcases b with b | b
  ·exact Or.inl b
  ·exact Or.inr (JU _ _ b)
 ·exact Or.inr (JU _ _ b)
theorem EJ (n:Int):∀c∈itoa n,c≠10:=by
 intro c b e;subst e;rcases Sp n _ b with h | h
 ·cases h
 ·simp at h
theorem dY {s:List UInt8} (h:Fs s=true):∀c∈s,c≠10:=by
 intro c b e;subst e;simp only[Fs,Bool.and_eq_true,List.all_eq_true]at h;have:=h.2 _ b;simp[C5]at this
theorem KJ {x:Rw} (h:A0 x=0):Fs x.1.data.toList=true:=by
 unfold A0 at h;split at h
 ·assumption
 ·omega
theorem dZ (x:Rw) (h:A0 x=0):∀c∈FY x,c≠10:=by
 intro c b;unfold FY at b;simp only[List.mem_append,Qd]at b;rcases b with b | rfl | b | rfl | b
 ·exact dY (KJ h) c b
 ·decide
 ·exact EJ _ c b
 ·decide
 ·exact EJ _ c b
end Go.Proofs.YtcllhobffhkafaaGreatDoor
