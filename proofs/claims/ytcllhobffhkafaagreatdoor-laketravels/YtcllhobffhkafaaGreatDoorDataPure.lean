/- By an AI agent. -/
import Derived.Test.YtcllhobffhkafaaGreatDoorLinePure
import Derived.Test.YtcllhobffhkafaaGreatDoorCrcPure
set_option maxRecDepth 100000
set_option maxHeartbeats 16000000
open Bool renaming true->O,and_eq_true->Qd,false->Qi
open Go.Lib renaming itoa->U,cut->Qf
open List renaming mem_cons_of_mem->Qb,mem_cons_self->Qc,mem_cons->Qe,length_append->Qg,length_cons->Qh,foldl_cons->Qj,foldl->Qk
open Option renaming none->Z,some->Qa
namespace Go.Proofs.YtcllhobffhkafaaGreatDoor
open Go Go.Lib Go.Sort
def Ar:List Int->Int×Int
 | []=>(0,0)
 | z :: r=>(r.foldl (fun a k=>if k<a then k else a) z,r.foldl (fun a k=>if a<k then k else a) z)
theorem Od:∀(r:List Int) (z:Int),(r.foldl (fun a k=>if k<a then k else a) z∈z :: r)/\∀k∈z :: r,r.foldl (fun a k=>if k<a then k else a) z<=k
 | [],z=>by simp
 | k :: r,z=>by
  rw[Qj];obtain⟨b,d⟩:=Od r (if k<z then k else z);generalize Qk (fun a k=>if k<a then k else a) (if k<z then k else z) r=m at b d ⊢;have f:=d (if k<z then k else z) Qc;refine⟨?_,fun j c=>?_⟩
  ·rw[Qe]at b;rcases b with b | b
   ·rw[b];split<;>simp
   ·exact Qb _ (Qb _ b)
  ·simp only[Qe]at c;rcases c with rfl | rfl | c
   ·split at f<;>omega
   ·split at f<;>omega
   ·exact d j (Qb _ c)
theorem Oe:∀(r:List Int) (z:Int),(r.foldl (fun a k=>if a<k then k else a) z∈z :: r)/\∀k∈z :: r,k<=r.foldl (fun a k=>if a<k then k else a) z
 | [],z=>by simp
 | k :: r,z=>by
  rw[Qj];obtain⟨b,d⟩:=Oe r (if z<k then k else z);generalize Qk (fun a k=>if a<k then k else a) (if z<k then k else z) r=m at b d ⊢;have f:=d (if z<k then k else z) Qc;refine⟨?_,fun j c=>?_⟩
  ·rw[Qe]at b;rcases b with b | b
   ·rw[b];split<;>simp
   ·exact Qb _ (Qb _ b)
  ·simp only[Qe]at c;rcases c with rfl | rfl | c
   ·split at f<;>omega
   ·split at f<;>omega
   ·exact d j (Qb _ c)
theorem Su {zs:List Int} (h:zs≠ []):(Ar zs).1∈zs/\(Ar zs).2∈zs/\∀k∈zs,(Ar zs).1<=k/\k<=(Ar zs).2:=by
 cases zs with
 | nil=>exact absurd rfl h
 | cons z r=>exact ⟨(Od r z).1,(Oe r z).1,fun k hk=>⟨(Od r z).2 k hk,(Oe r z).2 k hk⟩⟩
structure FK (β:Type) where
 word:List UInt8
 rd:List UInt8->β×Nat
 bad:β->β->Bool
 key:β->Int
 text:β->List UInt8
 ok:β->Prop
 d:β
structure FK.Fine {β:Type} (k:FK β):Prop where
 noend:∀x,k.ok x->∀c∈k.text x,c≠10
 len:∀x,k.ok x->(k.text x).length<=32
 back:∀x,k.ok x->k.rd (k.text x)=(x,0)
 inn:∀x,k.ok x->Aq (k.key x)=O
 wlen:k.word.length<=4
 wend:∀c∈k.word,c≠10
 wblank:∀c∈k.word,c≠32
def AA {β:Type} (k:FK β) (xs:List β):List Int:=xs.map k.key
theorem Mc {β:Type} {k:FK β} (K:k.Fine) {xs:List β} (h:∀x∈xs,k.ok x):Aq (Ar (AA k xs)).1=O/\Aq (Ar (AA k xs)).2=O:=by
 by_cases c:AA k xs= []
 ·rw[c];exact⟨by decide,by decide⟩
 ·obtain⟨d,f,_⟩:=Su c;have b:∀z∈AA k xs,Aq z=O:=fun z hz=>by
   simp only[AA,List.mem_map]at hz;obtain⟨x,g,rfl⟩:=hz;exact K.inn x (h x g)
  exact⟨b _ d,b _ f⟩
def CN (K:List UInt8) (n lo hi sum:Int):List UInt8:=K++32 :: (U n++32 :: (U lo++32 :: (U hi++32 :: U sum)))
def AW {β:Type} (k:FK β) (xs:List β):List UInt8:=xs.flatMap fun x=>k.text x++ [10]
def Ka {β:Type} (k:FK β) (xs:List β):List UInt8:=CN k.word xs.length (Ar (AA k xs)).1 (Ar (AA k xs)).2 (Bi (AW k xs))++10 :: AW k xs
def EW (K:List UInt8) (l:List UInt8):Option (Int×Int×Int×Int) :=
 match Bc l with
 | [k,a,b,c,d]=>if k=K then (match At a,At b,At c,At d with
  | some a,Qa b,Qa c,Qa d=>Qa (a,b,c,d)
  | _,_,_,_=>Z) else Z
 | _=>Z
def AV {β:Type} (k:FK β):List (List UInt8)->Nat->List β->List β×Nat×Nat
 | [],_,acc=>(acc,0,0)
 | [l],at_,acc=>if l= [] then (acc,0,0) else ([],1,at_)
 | l :: r,at_,acc=>if (k.rd l).2≠0 then ([],(k.rd l).2,at_) else
  if acc≠ []/\k.bad (k.rd l).1 (acc.getLastD k.d)=O then ([],9,at_) else AV k r (at_+1) (acc++ [(k.rd l).1])
def GV {β:Type} (k:FK β) (n lo hi:Int) (R:List β×Nat×Nat):List β×Nat×Option Nat :=
 if R.2.1≠0 then ([],R.2.1,Qa R.2.2) else if 40<R.1.length then ([],8,Z) else
 if n=R.1.length/\lo=(Ar (AA k R.1)).1/\hi=(Ar (AA k R.1)).2 then (R.1,0,Z) else ([],3,Z)
def BS {β:Type} (k:FK β) (s:List UInt8):List β×Nat×Option Nat :=
 if 20000<s.length then ([],2,Z) else
 if (Qf s [10]).2.2=Qi then ([],1,Z) else
 match EW k.word (Qf s [10]).1 with
 | none=>([],1,Z)
 | some (n,lo,hi,sum) =>
  if sum≠Bi (Qf s [10]).2.1 then ([],10,Z) else
  GV k n lo hi (AV k (Ax 10 (Qf s [10]).2.1) 0 [])
theorem Sv {β:Type} (k:FK β) (x:β) (xs:List β):AW k (x :: xs)=k.text x++10 :: AW k xs:=by simp[AW]
theorem Sw {β:Type} (k:FK β) (xs:List β) (x:β):AW k (xs++ [x])=AW k xs++(k.text x++ [10]):=by simp[AW]
theorem Sx {β:Type} {k:FK β} (K:k.Fine):∀xs:List β,(∀x∈xs,k.ok x)->Ax 10 (AW k xs)=xs.map k.text++ [[]]
 | [],_=>rfl
 | x :: xs,h=>by
  rw[Sv,Hw 10 _ _ (K.noend x (h x Qc)),Sx K xs (fun y hy=>h y (Qb _ hy))];rfl
theorem KK {β:Type} (k:FK β) (l:List UInt8) (b:Nat) (c:List β):AV k [l] b c=if l= [] then (c,0,0) else ([],1,b):=rfl
theorem Kb {β:Type} (k:FK β) (l f:List UInt8) (r:List (List UInt8)) (b:Nat) (c:List β):AV k (l :: f :: r) b c=if (k.rd l).2≠0 then ([],(k.rd l).2,b) else
 if c≠ []/\k.bad (k.rd l).1 (c.getLastD k.d)=O then ([],9,b) else AV k (f :: r) (b+1) (c++ [(k.rd l).1]):=rfl
theorem Sy {β:Type} {k:FK β} (K:k.Fine):∀(xs acc:List β) (at_:Nat),(∀x∈xs,k.ok x)->(acc++xs).Pairwise (fun x y=>k.bad y x=Qi)->AV k (xs.map k.text++ [[]]) at_ acc=(acc++xs,0,0)
 | [],acc,at_,_,_=>by simp[AV]
 | x :: xs,acc,at_,h,hp=>by
  have i:=K.back x (h x Qc);have b:xs.map k.text++ [[]]≠ []:=by simp
  obtain⟨l,r,e⟩:=List.exists_cons_of_ne_nil b;rw[List.map_cons,List.cons_append,e,Kb,i,if_neg (by simp)];have c:¬(acc≠ []/\k.bad x (acc.getLastD k.d)=O):=by
   rintro⟨f,g⟩;have j:acc.getLastD k.d∈acc:=by
    rw[List.getLastD_eq_getLast?,List.getLast?_eq_some_getLast f];exact List.getLast_mem f
   have:=(List.pairwise_append.1 hp).2.2 _ j x Qc;rw[this]at g;cases g
  dsimp only;rw[if_neg c,<-e];have:=Sy K xs (acc++ [x]) (at_+1) (fun y hy=>h y (Qb _ hy)) (by simpa using hp);simpa using this
theorem Sz {β:Type} (k:FK β):∀(ls:List (List UInt8)) (at_:Nat) (acc:List β),ls≠ []->(AV k ls at_ acc).2.1=0->(AV k ls at_ acc).1.length+1=acc.length+ls.length
 | [],_,_,h,_=>absurd rfl h
 | [l],at_,acc,_,h=>by
  rw[KK]at h ⊢;split at h
  ·rename_i e;rw[if_pos e];rfl
  ·cases h
 | l :: l2 :: r,at_,acc,_,h=>by
  rw[Kb]at h ⊢;split at h
  ·rename_i e;exact absurd h e
  ·rename_i e;rw[if_neg e];split at h
   ·cases h
   ·rename_i b;rw[if_neg b];have:=Sz k (l2 :: r) (at_+1) (acc++ [(k.rd l).1]) (by simp) h;rw[this];simp only[Qg,Qh,List.length_nil];omega
theorem S0 {β:Type} (k:FK β) (b:∀l,(k.rd l).2<=12):∀(ls:List (List UInt8)) (at_:Nat) (acc:List β),(AV k ls at_ acc).2.1<=12
 | [],_,_=>by simp[AV]
 | [l],_,_=>by rw[KK];split<;>simp
 | l :: l2 :: r,at_,acc=>by
  rw[Kb];split
  ·exact b l
  ·split
   ·simp
   ·exact S0 k b (l2 :: r) _ _
theorem Md {β:Type} (k:FK β) (b:∀l,(k.rd l).2<=12) (s:List UInt8):(BS k s).2.1<=12/\(BS k s).1.length<=40:=by
 unfold BS;split
 ·simp
 ·split
  ·simp
  ·split
   ·simp
   ·split
    ·simp
    ·have h:=S0 k b (Ax 10 (Qf s [10]).2.1) 0 [];unfold GV;split
     ·exact⟨h,by simp⟩
     ·split
      ·simp
      ·split
       ·refine⟨by simp,?_⟩;dsimp only;omega
       ·simp
theorem eN {K:List UInt8} (f:∀c∈K,c≠10) (n lo hi d:Int):∀c∈CN K n lo hi d,c≠10:=by
 intro c b;unfold CN at b;simp only[List.mem_append,Qe]at b;rcases b with b | rfl | b | rfl | b | rfl | b | rfl | b
 all_goals first | exact f c b | decide | exact EJ _ c b
theorem eO {K:List UInt8} (d:∀c∈K,c≠32) (n lo hi b:Int):Bc (CN K n lo hi b)= [K,U n,U lo,U hi,U b]:=by
 unfold CN;rw[Dx _ _ d,Dx _ _ (DQ _),Dx _ _ (DQ _),Dx _ _ (DQ _),IZ _ (DQ _)]
theorem Jg (n:Int) (b: -1073741824<=n) (c:n<=4294967296):(U n).length<=11:=by
 unfold U;split
 ·have:=KA 9 n.natAbs (by omega);simp;omega
 ·have:=KA 9 n.toNat (by omega);omega
theorem EX (n:Int) (b: -1073741824<=n) (c:n<=4294967296):At (U n)=Qa n:=by
 unfold At;rw[if_pos (Jg n b c),Ja];simp
theorem eP {K:List UInt8} (g:∀c∈K,c≠32) (n lo hi b:Int) (i:0<=n/\n<=1000) (d:Aq lo=O) (f:Aq hi=O) (j:0<=b/\b<4294967296):EW K (CN K n lo hi b)=Qa (n,lo,hi,b):=by
 simp only[Aq,Qd,decide_eq_true_eq]at d f;unfold EW;rw[eO g];simp only[if_pos,EX n (by omega) (by omega),EX lo (by omega) (by omega),EX hi (by omega) (by omega),EX b (by omega) (by omega)]
theorem Me {K:List UInt8} (k:K.length<=4) (n lo hi b:Int) (l:0<=n/\n<=1000) (c:Aq lo=O) (d:Aq hi=O) (m:0<=b/\b<4294967296):(CN K n lo hi b).length<=60:=by
 simp only[Aq,Qd,decide_eq_true_eq]at c d;have f:=Jg n (by omega) (by omega);have g:=Jg lo (by omega) (by omega);have i:=Jg hi (by omega) (by omega);have j:=Jg b (by omega) (by omega);unfold CN;simp only[Qg,Qh];omega
theorem Kc {β:Type} {k:FK β} (K:k.Fine):∀xs:List β,(∀x∈xs,k.ok x)->(AW k xs).length<=33*xs.length
 | [],_=>by simp[AW]
 | x :: xs,h=>by
  have b:=Kc K xs (fun y hy=>h y (Qb _ hy));have c:=K.len x (h x Qc);rw[Sv];simp only[Qg,Qh];omega
theorem Mf {β:Type} {k:FK β} (K:k.Fine) (xs:List β) (h:∀x∈xs,k.ok x) (g:xs.length<=40):(Ka k xs).length<=1400:=by
 have d:=Kc K xs h;obtain⟨b,c⟩:=Mc K h;have f:=Me K.wlen xs.length _ _ (Bi (AW k xs)) (by omega) b c (by have:=Hz (AW k xs);omega);unfold Ka;simp only[Qg,Qh];omega
theorem S3 {β:Type} {k:FK β} (K:k.Fine) (xs:List β) (h:∀x∈xs,k.ok x) (j:xs.length<=40) (l:xs.Pairwise (fun x y=>k.bad y x=Qi)):BS k (Ka k xs)=(xs,0,Z):=by
 have c:=Mf K xs h j;obtain⟨g,i⟩:=Mc K h;have d:=KI 10 (CN k.word xs.length (Ar (AA k xs)).1 (Ar (AA k xs)).2 (Bi (AW k xs))) (AW k xs) (eN K.wend _ _ _ _);have f:=eP K.wblank xs.length _ _ (Bi (AW k xs)) (by omega) g i (by have:=Hz (AW k xs);omega);have b:=Sy K xs [] 0 h (by simpa using l);rw[<-Sx K xs h]at b;unfold BS;rw[if_neg (by omega)];unfold Ka;rw[d];simp only[f,b,List.nil_append];simp[GV];omega
def Ee:List UInt8:= [100,97,116,97]
theorem S4 (x:Rw) (h:A0 x=0):(FY x).length<=32:=by
 have b:=KJ h;simp only[Fs,Qd,decide_eq_true_eq]at b;have c:Aq x.2.1=O/\Aq x.2.2=O:=by
  unfold A0 at h;rw[if_pos (KJ h)]at h;split at h
  ·rename_i d;simpa using d
  ·omega
 simp only[Aq,Qd,decide_eq_true_eq]at c;have f:=EI x.2.1 (by omega) (by omega);have g:=EI x.2.2 (by omega) (by omega);unfold FY;simp only[Qg,Qh];omega
def CO:FK Rw:=⟨Ee,Bx,fun x y=>ltOf AP x y,(·.2.1),FY,fun x=>A0 x=0,(Ab [],0,0)⟩
theorem KM:CO.Fine where
 noend:=fun x h=>dZ x h
 len:=fun x h=>S4 x h
 back:=fun x h=>cW x h
 inn:=fun x h=>by
  have h:A0 x=0:=h;unfold A0 at h;split at h
  ·split at h
   ·rename_i b;simp only[Qd]at b;exact b.1
   ·omega
  ·omega
 wlen:=by decide
 wend:=by decide
 wblank:=by decide
abbrev Cm (xs:List Rw):List UInt8:=AW CO xs
abbrev EY (xs:List Rw):List UInt8:=Ka CO xs
abbrev Bn (s:List UInt8):List Rw×Nat×Option Nat:=BS CO s
abbrev BG (xs:List Rw):List Int:=AA CO xs
theorem eQ (xs:List Rw) (x:Rw):BG (xs++ [x])=BG xs++ [x.2.1]:=by simp[AA,CO]
theorem S5 (xs:List Rw) (h:∀x∈xs,A0 x=0) (b:xs.length<=40) (c:xs.Pairwise (fun x y=>ltOf AP y x=Qi)):Bn (EY xs)=(xs,0,Z):=S3 KM xs h b c
def Ef:List UInt8:= [103,111,110,101]
def BJ (l:List UInt8):Int×Nat:=match At l with
 | none=>(0,1)
 | some n=>if Aq n then (n,0) else (0,2)
def AD:FK Int:=⟨Ef,BJ,fun x y=>decide (x<=y),fun x=>x,U,fun x=>Aq x=O,0⟩
theorem Jh:AD.Fine where
 noend:=fun x _=>EJ x
 len:=fun x h=>by
  have h:Aq x=O:=h;simp only[Aq,Qd,decide_eq_true_eq]at h;have:=EI x (by omega) (by omega);show (U x).length<=32;omega
 back:=fun x h=>by
  have h:Aq x=O:=h;show BJ (U x)=(x,0);unfold BJ;rw[FZ x h];simp[h]
 inn:=fun x h=>h
 wlen:=by decide
 wend:=by decide
 wblank:=by decide
theorem S6 (xs:List Int):AA AD xs=xs:=by simp[AA,AD]
end Go.Proofs.YtcllhobffhkafaaGreatDoor
