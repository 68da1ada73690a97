/- By an AI agent. -/
import Derived.Test.YtcllhobffhkafaaGreatDoorLinePure
import Derived.Test.YtcllhobffhkafaaGreatDoorCrcPure
set_option maxRecDepth 100000
set_option maxHeartbeats 16000000
open Bool renaming true->O,and_eq_true->Qd,false->Qi
open Go.Lib renaming itoa->U,cut->Qf
open List renaming mem_cons_of_mem->Qb,mem_cons_self->Qc,mem_cons->Qe,length_append->Qg,length_cons->Qh,foldl_cons->Qj,foldl->Qk
open Option renaming none->Z,some->Qa
namespace Go.Proofs.YtcllhobffhkafaaGreatDoor
open Go Go.Lib Go.Sort
def Ap:List Int->Int×Int
 | []=>(0,0)
 | z :: r=>(r.foldl (fun a k=>if k<a then k else a) z,r.foldl (fun a k=>if a<k then k else a) z)
theorem Nz:∀(r:List Int) (z:Int),(r.foldl (fun a k=>if k<a then k else a) z∈z :: r)/\∀k∈z :: r,r.foldl (fun a k=>if k<a then k else a) z<=k
 | [],z=>by simp
 | k :: r,z=>by
  rw[Qj];obtain⟨b,d⟩:=Nz r (if k<z then k else z);generalize Qk (fun a k=>if k<a then k else a) (if k<z then k else z) r=m at b d ⊢;have f:=d (if k<z then k else z) Qc;refine⟨?_,fun j c=>?_⟩
  ·rw[Qe]at b;rcases b with b | b
   ·rw[b];split<;>simp
   ·exact Qb _ (Qb _ b)
  ·simp only[Qe]at c;rcases c with rfl | rfl | c
   ·split at f<;>omega
   ·split at f<;>omega
   ·exact d j (Qb _ c)
theorem N0:∀(r:List Int) (z:Int),(r.foldl (fun a k=>if a<k then k else a) z∈z :: r)/\∀k∈z :: r,k<=r.foldl (fun a k=>if a<k then k else a) z
 | [],z=>by simp
 | k :: r,z=>by
  rw[Qj];obtain⟨b,d⟩:=N0 r (if z<k then k else z);generalize Qk (fun a k=>if a<k then k else a) (if z<k then k else z) r=m at b d ⊢;have f:=d (if z<k then k else z) Qc;refine⟨?_,fun j c=>?_⟩
  ·rw[Qe]at b;rcases b with b | b
   ·rw[b];split<;>simp
   ·exact Qb _ (Qb _ b)
  ·simp only[Qe]at c;rcases c with rfl | rfl | c
   ·split at f<;>omega
   ·split at f<;>omega
   ·exact d j (Qb _ c)
theorem RI {zs:List Int} (h:zs≠ []):(Ap zs).1∈zs/\(Ap zs).2∈zs/\∀k∈zs,(Ap zs).1<=k/\k<=(Ap zs).2:=by
 cases zs with
 | nil=>exact absurd rfl h
 | cons z r=>exact ⟨(Nz r z).1,(N0 r z).1,fun k hk=>⟨(Nz r z).2 k hk,(N0 r z).2 k hk⟩⟩
structure FK (β:Type) where
 word:List UInt8
 rd:List UInt8->β×Nat
 bad:β->β->Bool
 key:β->Int
 text:β->List UInt8
 ok:β->Prop
 d:β
structure FK.Fine {β:Type} (k:FK β):Prop where
 noend:∀x,k.ok x->∀c∈k.text x,c≠10
 len:∀x,k.ok x->(k.text x).length<=32
 back:∀x,k.ok x->k.rd (k.text x)=(x,0)
 inn:∀x,k.ok x->Ao (k.key x)=O
 wlen:k.word.length<=4
 wend:∀c∈k.word,c≠10
 wblank:∀c∈k.word,c≠32
def A6 {β:Type} (k:FK β) (xs:List β):List Int:=xs.map k.key
theorem LH {β:Type} {k:FK β} (K:k.Fine) {xs:List β} (h:∀x∈xs,k.ok x):Ao (Ap (A6 k xs)).1=O/\Ao (Ap (A6 k xs)).2=O:=by
 by_cases c:A6 k xs= []
 ·rw[c];exact⟨by decide,by decide⟩
 ·obtain⟨d,f,_⟩:=RI c;have b:∀z∈A6 k xs,Ao z=O:=fun z hz=>by
   simp only[A6,List.mem_map]at hz;obtain⟨x,g,rfl⟩:=hz;exact K.inn x (h x g)
  exact⟨b _ d,b _ f⟩
def CC (K:List UInt8) (n lo hi sum:Int):List UInt8:=K++32 :: (U n++32 :: (U lo++32 :: (U hi++32 :: U sum)))
def AQ {β:Type} (k:FK β) (xs:List β):List UInt8:=xs.flatMap fun x=>k.text x++ [10]
def J8 {β:Type} (k:FK β) (xs:List β):List UInt8:=CC k.word xs.length (Ap (A6 k xs)).1 (Ap (A6 k xs)).2 (Ba (AQ k xs))++10 :: AQ k xs
def EI (K:List UInt8) (l:List UInt8):Option (Int×Int×Int×Int) :=
 match AY l with
 | [k,a,b,c,d]=>if k=K then (match As a,As b,As c,As d with
  | some a,Qa b,Qa c,Qa d=>Qa (a,b,c,d)
  | _,_,_,_=>Z) else Z
 | _=>Z
def AP {β:Type} (k:FK β):List (List UInt8)->Nat->List β->List β×Nat×Nat
 | [],_,acc=>(acc,0,0)
 | [l],at_,acc=>if l= [] then (acc,0,0) else ([],1,at_)
 | l :: r,at_,acc=>if (k.rd l).2≠0 then ([],(k.rd l).2,at_) else
  if acc≠ []/\k.bad (k.rd l).1 (acc.getLastD k.d)=O then ([],9,at_) else AP k r (at_+1) (acc++ [(k.rd l).1])
def GI {β:Type} (k:FK β) (n lo hi:Int) (R:List β×Nat×Nat):List β×Nat×Option Nat :=
 if R.2.1≠0 then ([],R.2.1,Qa R.2.2) else if 40<R.1.length then ([],8,Z) else
 if n=R.1.length/\lo=(Ap (A6 k R.1)).1/\hi=(Ap (A6 k R.1)).2 then (R.1,0,Z) else ([],3,Z)
def BP {β:Type} (k:FK β) (s:List UInt8):List β×Nat×Option Nat :=
 if 20000<s.length then ([],2,Z) else
 if (Qf s [10]).2.2=Qi then ([],1,Z) else
 match EI k.word (Qf s [10]).1 with
 | none=>([],1,Z)
 | some (n,lo,hi,sum) =>
  if sum≠Ba (Qf s [10]).2.1 then ([],10,Z) else
  GI k n lo hi (AP k (Av 10 (Qf s [10]).2.1) 0 [])
theorem RJ {β:Type} (k:FK β) (x:β) (xs:List β):AQ k (x :: xs)=k.text x++10 :: AQ k xs:=by simp[AQ]
theorem RK {β:Type} (k:FK β) (xs:List β) (x:β):AQ k (xs++ [x])=AQ k xs++(k.text x++ [10]):=by simp[AQ]
theorem RM {β:Type} {k:FK β} (K:k.Fine):∀xs:List β,(∀x∈xs,k.ok x)->Av 10 (AQ k xs)=xs.map k.text++ [[]]
 | [],_=>rfl
 | x :: xs,h=>by
  rw[RJ,Hk 10 _ _ (K.noend x (h x Qc)),RM K xs (fun y hy=>h y (Qb _ hy))];rfl
theorem Kr {β:Type} (k:FK β) (l:List UInt8) (b:Nat) (c:List β):AP k [l] b c=if l= [] then (c,0,0) else ([],1,b):=rfl
theorem J9 {β:Type} (k:FK β) (l f:List UInt8) (r:List (List UInt8)) (b:Nat) (c:List β):AP k (l :: f :: r) b c=if (k.rd l).2≠0 then ([],(k.rd l).2,b) else
 if c≠ []/\k.bad (k.rd l).1 (c.getLastD k.d)=O then ([],9,b) else AP k (f :: r) (b+1) (c++ [(k.rd l).1]):=rfl
theorem RN {β:Type} {k:FK β} (K:k.Fine):∀(xs acc:List β) (at_:Nat),(∀x∈xs,k.ok x)->(acc++xs).Pairwise (fun x y=>k.bad y x=Qi)->AP k (xs.map k.text++ [[]]) at_ acc=(acc++xs,0,0)
 | [],acc,at_,_,_=>by simp[AP]
 | x :: xs,acc,at_,h,hp=>by
  have i:=K.back x (h x Qc);have b:xs.map k.text++ [[]]≠ []:=by simp
  obtain⟨l,r,e⟩:=List.exists_cons_of_ne_nil b;rw[List.map_cons,List.cons_append,e,J9,i,if_neg (by simp)];have c:¬(acc≠ []/\k.bad x (acc.getLastD k.d)=O):=by
   rintro⟨f,g⟩;have j:acc.getLastD k.d∈acc:=by
    rw[List.getLastD_eq_getLast?,List.getLast?_eq_some_getLast f];exact List.getLast_mem f
   have:=(List.pairwise_append.1 hp).2.2 _ j x Qc;rw[this]at g;cases g
  dsimp only;rw[if_neg c,<-e];have:=RN K xs (acc++ [x]) (at_+1) (fun y hy=>h y (Qb _ hy)) (by simpa using hp);simpa using this
theorem RO {β:Type} (k:FK β):∀(ls:List (List UInt8)) (at_:Nat) (acc:List β),ls≠ []->(AP k ls at_ acc).2.1=0->(AP k ls at_ acc).1.length+1=acc.length+ls.length
 | [],_,_,h,_=>absurd rfl h
 | [l],at_,acc,_,h=>by
  rw[Kr]at h ⊢;split at h
  ·rename_i e;rw[if_pos e];rfl
  ·cases h
 | l :: l2 :: r,at_,acc,_,h=>by
  rw[J9]at h ⊢;split at h
  ·rename_i e;exact absurd h e
  ·rename_i e;rw[if_neg e];split at h
   ·cases h
   ·rename_i b;rw[if_neg b];have:=RO k (l2 :: r) (at_+1) (acc++ [(k.rd l).1]) (by simp) h;rw[this];simp only[Qg,Qh,List.length_nil];omega
theorem RP {β:Type} (k:FK β) (b:∀l,(k.rd l).2<=12):∀(ls:List (List UInt8)) (at_:Nat) (acc:List β),(AP k ls at_ acc).2.1<=12
 | [],_,_=>by simp[AP]
 | [l],_,_=>by rw[Kr];split<;>simp
 | l :: l2 :: r,at_,acc=>by
  rw[J9];split
  ·exact b l
  ·split
   ·simp
   ·exact RP k b (l2 :: r) _ _
theorem LI {β:Type} (k:FK β) (b:∀l,(k.rd l).2<=12) (s:List UInt8):(BP k s).2.1<=12/\(BP k s).1.length<=40:=by
 unfold BP;split
 ·simp
 ·split
  ·simp
  ·split
   ·simp
   ·split
    ·simp
    ·have h:=RP k b (Av 10 (Qf s [10]).2.1) 0 [];unfold GI;split
     ·exact⟨h,by simp⟩
     ·split
      ·simp
      ·split
       ·refine⟨by simp,?_⟩;dsimp only;omega
       ·simp
theorem bZ {K:List UInt8} (f:∀c∈K,c≠10) (n lo hi d:Int):∀c∈CC K n lo hi d,c≠10:=by
 intro c b;unfold CC at b;simp only[List.mem_append,Qe]at b;rcases b with b | rfl | b | rfl | b | rfl | b | rfl | b
 all_goals first | exact f c b | decide | exact E8 _ c b
theorem cA {K:List UInt8} (d:∀c∈K,c≠32) (n lo hi b:Int):AY (CC K n lo hi b)= [K,U n,U lo,U hi,U b]:=by
 unfold CC;rw[Dm _ _ d,Dm _ _ (DI _),Dm _ _ (DI _),Dm _ _ (DI _),ID _ (DI _)]
theorem IK (n:Int) (b: -1073741824<=n) (c:n<=4294967296):(U n).length<=11:=by
 unfold U;split
 ·have:=Kk 9 n.natAbs (by omega);simp;omega
 ·have:=Kk 9 n.toNat (by omega);omega
theorem EJ (n:Int) (b: -1073741824<=n) (c:n<=4294967296):As (U n)=Qa n:=by
 unfold As;rw[if_pos (IK n b c),IE];simp
theorem cB {K:List UInt8} (g:∀c∈K,c≠32) (n lo hi b:Int) (i:0<=n/\n<=1000) (d:Ao lo=O) (f:Ao hi=O) (j:0<=b/\b<4294967296):EI K (CC K n lo hi b)=Qa (n,lo,hi,b):=by
 simp only[Ao,Qd,decide_eq_true_eq]at d f;unfold EI;rw[cA g];simp only[if_pos,EJ n (by omega) (by omega),EJ lo (by omega) (by omega),EJ hi (by omega) (by omega),EJ b (by omega) (by omega)]
theorem LJ {K:List UInt8} (k:K.length<=4) (n lo hi b:Int) (l:0<=n/\n<=1000) (c:Ao lo=O) (d:Ao hi=O) (m:0<=b/\b<4294967296):(CC K n lo hi b).length<=60:=by
 simp only[Ao,Qd,decide_eq_true_eq]at c d;have f:=IK n (by omega) (by omega);have g:=IK lo (by omega) (by omega);have i:=IK hi (by omega) (by omega);have j:=IK b (by omega) (by omega);unfold CC;simp only[Qg,Qh];omega
theorem JA {β:Type} {k:FK β} (K:k.Fine):∀xs:List β,(∀x∈xs,k.ok x)->(AQ k xs).length<=33*xs.length
 | [],_=>by simp[AQ]
 | x :: xs,h=>by
  have b:=JA K xs (fun y hy=>h y (Qb _ hy));have c:=K.len x (h x Qc);rw[RJ];simp only[Qg,Qh];omega
theorem LK {β:Type} {k:FK β} (K:k.Fine) (xs:List β) (h:∀x∈xs,k.ok x) (g:xs.length<=40):(J8 k xs).length<=1400:=by
 have d:=JA K xs h;obtain⟨b,c⟩:=LH K h;have f:=LJ K.wlen xs.length _ _ (Ba (AQ k xs)) (by omega) b c (by have:=Hn (AQ k xs);omega);unfold J8;simp only[Qg,Qh];omega
theorem RQ {β:Type} {k:FK β} (K:k.Fine) (xs:List β) (h:∀x∈xs,k.ok x) (j:xs.length<=40) (l:xs.Pairwise (fun x y=>k.bad y x=Qi)):BP k (J8 k xs)=(xs,0,Z):=by
 have c:=LK K xs h j;obtain⟨g,i⟩:=LH K h;have d:=Ko 10 (CC k.word xs.length (Ap (A6 k xs)).1 (Ap (A6 k xs)).2 (Ba (AQ k xs))) (AQ k xs) (bZ K.wend _ _ _ _);have f:=cB K.wblank xs.length _ _ (Ba (AQ k xs)) (by omega) g i (by have:=Hn (AQ k xs);omega);have b:=RN K xs [] 0 h (by simpa using l);rw[<-RM K xs h]at b;unfold BP;rw[if_neg (by omega)];unfold J8;rw[d];simp only[f,b,List.nil_append];simp[GI];omega
def DX:List UInt8:= [100,97,116,97]
theorem RT (x:Rw) (h:Ay x=0):(F8 x).length<=32:=by
 have b:=Kq h;simp only[Fa,Qd,decide_eq_true_eq]at b;have c:Ao x.2.1=O/\Ao x.2.2=O:=by
  unfold Ay at h;rw[if_pos (Kq h)]at h;split at h
  ·rename_i d;simpa using d
  ·omega
 simp only[Ao,Qd,decide_eq_true_eq]at c;have f:=E6 x.2.1 (by omega) (by omega);have g:=E6 x.2.2 (by omega) (by omega);unfold F8;simp only[Qg,Qh];omega
def CD:FK Rw:=⟨DX,Bq,fun x y=>ltOf AM x y,(·.2.1),F8,fun x=>Ay x=0,(Ab [],0,0)⟩
theorem Ks:CD.Fine where
 noend:=fun x h=>bQ x h
 len:=fun x h=>RT x h
 back:=fun x h=>aK x h
 inn:=fun x h=>by
  have h:Ay x=0:=h;unfold Ay at h;split at h
  ·split at h
   ·rename_i b;simp only[Qd]at b;exact b.1
   ·omega
  ·omega
 wlen:=by decide
 wend:=by decide
 wblank:=by decide
abbrev Ci (xs:List Rw):List UInt8:=AQ CD xs
abbrev EK (xs:List Rw):List UInt8:=J8 CD xs
abbrev Bw (s:List UInt8):List Rw×Nat×Option Nat:=BP CD s
abbrev BB (xs:List Rw):List Int:=A6 CD xs
theorem cC (xs:List Rw) (x:Rw):BB (xs++ [x])=BB xs++ [x.2.1]:=by simp[A6,CD]
theorem RU (xs:List Rw) (h:∀x∈xs,Ay x=0) (b:xs.length<=40) (c:xs.Pairwise (fun x y=>ltOf AM y x=Qi)):Bw (EK xs)=(xs,0,Z):=RQ Ks xs h b c
def DY:List UInt8:= [103,111,110,101]
def BE (l:List UInt8):Int×Nat:=match As l with
 | none=>(0,1)
 | some n=>if Ao n then (n,0) else (0,2)
def AB:FK Int:=⟨DY,BE,fun x y=>decide (x<=y),fun x=>x,U,fun x=>Ao x=O,0⟩
theorem IL:AB.Fine where
 noend:=fun x _=>E8 x
 len:=fun x h=>by
  have h:Ao x=O:=h;simp only[Ao,Qd,decide_eq_true_eq]at h;have:=E6 x (by omega) (by omega);show (U x).length<=32;omega
 back:=fun x h=>by
  have h:Ao x=O:=h;show BE (U x)=(x,0);unfold BE;rw[F9 x h];simp[h]
 inn:=fun x h=>h
 wlen:=by decide
 wend:=by decide
 wblank:=by decide
theorem RV (xs:List Int):A6 AB xs=xs:=by simp[A6,AB]
end Go.Proofs.YtcllhobffhkafaaGreatDoor
