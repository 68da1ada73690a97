/- By an AI agent. -/
import Derived.Test.YtgckdomafbnmkaaGreatDoorTextPure
import Derived.Lib.IndexMore
set_option maxRecDepth 100000
set_option maxHeartbeats 16000000
namespace Go.Proofs.YtgckdomafbnmkaaGreatDoor
open Go Go.Lib
def pieces (d:UInt8):List UInt8->List (List UInt8)
 | []=> [[]]
 | c :: r=>if c=d then [] :: pieces d r else match pieces d r with
  | []=> [[c]]
  | w :: ws=>(c :: w) :: ws
theorem zb1h:∀l:List UInt8,pieces 32 l=words l
 | []=>rfl
 | c :: r=>by unfold pieces words;rw[zb1h r];rfl
theorem zo7 (d:UInt8):∀a:List UInt8,(∀c∈a,c≠d)->pieces d a= [a]
 | [],_=>rfl
 | c :: r,h=>by
  have b:=zo7 d r (fun e he=>h e (List.mem_cons_of_mem _ he));unfold pieces;rw[if_neg (h c List.mem_cons_self),b]
theorem zg7 (d:UInt8):∀a b:List UInt8,(∀c∈a,c≠d)->pieces d (a++d :: b)=a :: pieces d b
 | [],b,_=>by simp[pieces]
 | c :: r,b,h=>by
  have f:=zg7 d r b (fun e he=>h e (List.mem_cons_of_mem _ he));rw[List.cons_append,pieces,if_neg (h c List.mem_cons_self),f]
theorem zk6 (d:UInt8):∀l:List UInt8,pieces d l≠ []
 | []=>by simp[pieces]
 | c :: r=>by
  unfold pieces;split
  ·simp
  ·split<;>simp
theorem zt9 (d:UInt8):∀l:List UInt8,(pieces d l).length=l.count d+1
 | []=>rfl
 | c :: r=>by
  have b:=zt9 d r;unfold pieces;split
  ·rename_i h;subst h;simp[b]
  ·rename_i h;have f:=zk6 d r;rw[List.count_cons_of_ne h];split
   ·rename_i e;exact absurd e f
   ·rename_i w g e;rw[e]at b;simpa using b
theorem zg8 (d:UInt8) (l:List UInt8):((∀c∈l,c≠d)/\Lib.cut l [d]=(l, [],false))\/∃a b,l=a++d :: b/\(∀c∈a,c≠d)/\Lib.cut l [d]=(a,b,true):=by
 have m:=index_one l d;rcases index_spec l [d] with⟨h,_⟩|⟨i,h,s,_,_⟩
 ·rw[h]at m;have j:=indexByte_none m.symm;refine Or.inl ⟨fun c g e=>?_,?_⟩
  ·obtain⟨k,f⟩:=List.mem_iff_getElem?.1 g;exact j k (by rw[f,e])
  ·unfold Lib.cut;rw[if_neg (by omega)]
 ·rw[h]at m;obtain⟨g,j⟩:=indexByte_some m.symm;have n:i<l.length:=by
   rcases Nat.lt_or_ge i l.length with p | p
   ·exact p
   ·rw[List.getElem?_eq_none p]at g;cases g
  have q:l=l.take i++d :: l.drop (i+1):=by
   have o:=List.take_append_drop i l;rw[List.drop_eq_getElem_cons n]at o;rw[List.getElem?_eq_getElem n]at g;rw[Option.some.inj g]at o;exact o.symm
  refine Or.inr ⟨l.take i,l.drop (i+1),q,fun c hc' e=>?_,?_⟩
  ·obtain⟨k,f⟩:=List.mem_iff_getElem?.1 hc';rw[List.getElem?_take]at f;split at f
   ·rename_i r;exact j k r (by rw[f,e])
   ·cases f
  ·unfold Lib.cut;rw[if_pos (by omega),h];simp
theorem zb1i (d:UInt8) {l a b k m:List UInt8} (h:l=a++d :: b) (q:∀c∈a,c≠d) (f:Lib.cut l [d]=(k,m,true)):k=a/\m=b:=by
 rcases zg8 d l with⟨_,i⟩|⟨x,y,e,p,i⟩
 ·rw[i]at f;cases f
 ·rw[i]at f;simp only[Prod.mk.injEq,and_true]at f;obtain⟨rfl,rfl⟩:=f;have j:=zg7 d a b q;have g:=zg7 d x y p;rw[<-h]at j;rw[<-e]at g;have n:x=a:=by rw[j]at g;simpa using (List.cons.inj g).1.symm
  subst n;rw[h]at e;have o:=List.append_cancel_left e;exact⟨rfl,(List.cons.inj o).2.symm⟩
theorem za2a (d:UInt8) (a b:List UInt8) (i:∀c∈a,c≠d):Lib.cut (a++d :: b) [d]=(a,b,true):=by
 rcases zg8 d (a++d :: b) with⟨h,_⟩|⟨x,y,e,j,h⟩
 ·exact absurd rfl (h d (by simp))
 ·obtain⟨f,g⟩:=zb1i d rfl i h;rw[h,f,g]
theorem za2b {l:List UInt8} {n:Int} (h:numO l=some n):itoa n=l/\l.length<=11:=by
 unfold numO at h;split at h
 ·rename_i b;split at h
  ·split at h
   ·rename_i e;simp only[Option.some.injEq]at h;rw[<-h];exact⟨e,b⟩
   ·cases h
  ·cases h
 ·cases h
theorem zb1j (n:Int):∀c∈itoa n,c=45\/(48<=c.toNat/\c.toNat<=57):=by
 intro c b;unfold itoa at b;split at b
 ·rw[List.mem_cons]at b;rcases b with b | b
  ·exact Or.inl b
  ·exact Or.inr (zf5 _ _ b)
 ·exact Or.inr (zf5 _ _ b)
theorem zu0 (n:Int):∀c∈itoa n,c≠10:=by
 intro c b e;subst e;rcases zb1j n _ b with h | h
 ·cases h
 ·simp at h
theorem zb1k {s:List UInt8} (h:nameB s=true):∀c∈s,c≠10:=by
 intro c b e;subst e;simp only[nameB,Bool.and_eq_true,List.all_eq_true]at h;have:=h.2 _ b;simp[nbI]at this
theorem zu1 {x:Rw} (h:rowE x=0):nameB x.1.data.toList=true:=by
 unfold rowE at h;split at h
 ·assumption
 ·omega
theorem zb1l (x:Rw) (h:rowE x=0):∀c∈textL x,c≠10:=by
 intro c b;unfold textL at b;simp only[List.mem_append,List.mem_cons]at b;rcases b with b | rfl | b | rfl | b
 ·exact zb1k (zu1 h) c b
 ·decide
 ·exact zu0 _ c b
 ·decide
 ·exact zu0 _ c b
end Go.Proofs.YtgckdomafbnmkaaGreatDoor
