/- By an AI agent. -/
import Derived.Test.YtcllhobffhkafaaGreatDoorTextPure
import Derived.Lib.IndexMore
set_option maxRecDepth 100000
set_option maxHeartbeats 16000000
open List renaming mem_cons_of_mem->Qa,mem_cons_self->Qb,mem_iff_getElem?->Qc,mem_cons->Qd
namespace Go.Proofs.YtcllhobffhkafaaGreatDoor
open Go Go.Lib
def Av (d:UInt8):List UInt8->List (List UInt8)
 | []=> [[]]
 | c :: r=>if c=d then [] :: Av d r else match Av d r with
  | []=> [[c]]
  | w :: ws=>(c :: w) :: ws
theorem J6 (d:UInt8):∀a:List UInt8,(∀c∈a,c≠d)->Av d a= [a]
 | [],_=>rfl
 | c :: r,h=>by
  have b:=J6 d r (fun e he=>h e (Qa _ he));unfold Av;rw[if_neg (h c Qb),b]
theorem Hk (d:UInt8):∀a b:List UInt8,(∀c∈a,c≠d)->Av d (a++d :: b)=a :: Av d b
 | [],b,_=>by simp[Av]
 | c :: r,b,h=>by
  have f:=Hk d r b (fun e he=>h e (Qa _ he));rw[List.cons_append,Av,if_neg (h c Qb),f]
theorem J7 (d:UInt8):∀l:List UInt8,Av d l≠ []
 | []=>by simp[Av]
 | c :: r=>by
  unfold Av;split
  ·simp
  ·split<;>simp
theorem Ny (d:UInt8):∀l:List UInt8,(Av d l).length=l.count d+1
 | []=>rfl
 | c :: r=>by
  have b:=Ny d r;unfold Av;split
  ·rename_i h;subst h;simp[b]
  ·rename_i h;have f:=J7 d r;rw[List.count_cons_of_ne h];split
   ·rename_i e;exact absurd e f
   ·rename_i w g e;rw[e]at b;simpa using b
theorem Hl (d:UInt8) (l:List UInt8):((∀c∈l,c≠d)/\Lib.cut l [d]=(l, [],false))\/∃a b,l=a++d :: b/\(∀c∈a,c≠d)/\Lib.cut l [d]=(a,b,true):=by
 have m:=index_one l d;rcases index_spec l [d] with⟨h,_⟩|⟨i,h,s,_,_⟩
 ·rw[h]at m;have j:=indexByte_none m.symm;refine Or.inl ⟨fun c g e=>?_,?_⟩
  ·obtain⟨k,f⟩:=Qc.1 g;exact j k (by rw[f,e])
  ·unfold Lib.cut;rw[if_neg (by omega)]
 ·rw[h]at m;obtain⟨g,j⟩:=indexByte_some m.symm;have n:i<l.length:=by
   rcases Nat.lt_or_ge i l.length with p | p
   ·exact p
   ·rw[List.getElem?_eq_none p]at g;cases g
  have q:l=l.take i++d :: l.drop (i+1):=by
   have o:=List.take_append_drop i l;rw[List.drop_eq_getElem_cons n]at o;rw[List.getElem?_eq_getElem n]at g;rw[Option.some.inj g]at o;exact o.symm
  refine Or.inr ⟨l.take i,l.drop (i+1),q,fun c hc' e=>?_,?_⟩
  ·obtain⟨k,f⟩:=Qc.1 hc';rw[List.getElem?_take]at f;split at f
   ·rename_i r;exact j k r (by rw[f,e])
   ·cases f
  ·unfold Lib.cut;rw[if_pos (by omega),h];simp
theorem bO (d:UInt8) {l a b k m:List UInt8} (h:l=a++d :: b) (q:∀c∈a,c≠d) (f:Lib.cut l [d]=(k,m,true)):k=a/\m=b:=by
 rcases Hl d l with⟨_,i⟩|⟨x,y,e,p,i⟩
 ·rw[i]at f;cases f
 ·rw[i]at f;simp only[Prod.mk.injEq,and_true]at f;obtain⟨rfl,rfl⟩:=f;have j:=Hk d a b q;have g:=Hk d x y p;rw[<-h]at j;rw[<-e]at g;have n:x=a:=by rw[j]at g;simpa using (List.cons.inj g).1.symm
  subst n;rw[h]at e;have o:=List.append_cancel_left e;exact⟨rfl,(List.cons.inj o).2.symm⟩
theorem Ko (d:UInt8) (a b:List UInt8) (i:∀c∈a,c≠d):Lib.cut (a++d :: b) [d]=(a,b,true):=by
 rcases Hl d (a++d :: b) with⟨h,_⟩|⟨x,y,e,j,h⟩
 ·exact absurd rfl (h d (by simp))
 ·obtain⟨f,g⟩:=bO d rfl i h;rw[h,f,g]
theorem Fb {l:List UInt8} {n:Int} (h:As l=some n):itoa n=l/\l.length<=11:=by
 unfold As at h;split at h
 ·rename_i b;split at h
  ·split at h
   ·rename_i e;simp only[Option.some.injEq]at h;rw[<-h];exact⟨e,b⟩
   ·cases h
  ·cases h
 ·cases h
theorem RC (n:Int):∀c∈itoa n,c=45\/(48<=c.toNat/\c.toNat<=57):=by
 intro c b;unfold itoa at b;split at b
 ·rw[Qd]at b;rcases b with b | b
  ·exact Or.inl b
  ·exact Or.inr (J2 _ _ b)
 ·exact Or.inr (J2 _ _ b)
theorem E8 (n:Int):∀c∈itoa n,c≠10:=by
 intro c b e;subst e;rcases RC n _ b with h | h
 ·cases h
 ·simp at h
theorem bP {s:List UInt8} (h:Fa s=true):∀c∈s,c≠10:=by
 intro c b e;subst e;simp only[Fa,Bool.and_eq_true,List.all_eq_true]at h;have:=h.2 _ b;simp[Cw]at this
theorem Kq {x:Rw} (h:Ay x=0):Fa x.1.data.toList=true:=by
 unfold Ay at h;split at h
 ·assumption
 ·omega
theorem bQ (x:Rw) (h:Ay x=0):∀c∈F8 x,c≠10:=by
 intro c b;unfold F8 at b;simp only[List.mem_append,Qd]at b;rcases b with b | rfl | b | rfl | b
 ·exact bP (Kq h) c b
 ·decide
 ·exact E8 _ c b
 ·decide
 ·exact E8 _ c b
end Go.Proofs.YtcllhobffhkafaaGreatDoor
