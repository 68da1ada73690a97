/- By an AI agent. -/
import Derived.Test.YtcllhobffhkafaaGreatDoorPure
import Derived.Lib.Split
import Derived.Lib.SplitLaws
import Derived.Lib.IndexLaws
import Derived.Lib.IndexBytes
import Derived.Lib.Atoi
import Derived.Lib.AtoiBound
import Derived.Lib.ItoaNum
import Derived.Lib.ItoaMem
set_option maxRecDepth 100000
set_option maxHeartbeats 16000000
open Bool renaming true->Qb,and_eq_true->Qh
open Go.Lib renaming decFrom->Qc,digitVal->Qg,countB_miss->Qk,splitB_zero->Ql
open List renaming mem_cons_self->Qf,mem_cons_of_mem->Qi,cons_append->Qj,mem_iff_getElem?->Qm,mem_singleton->Qn,all_eq_true->Qp
open Option renaming some->Qa,none->Qd,map_some->Qo
open UInt8 renaming ofNat->Qe
namespace Go.Proofs.YtcllhobffhkafaaGreatDoor
open Go Go.Lib
def Bc:List UInt8->List (List UInt8)
 | []=> [[]]
 | c :: r=>if c=32 then [] :: Bc r else match Bc r with
  | []=> [[c]]
  | w :: ws=>(c :: w) :: ws
theorem IZ:∀a:List UInt8,(∀c∈a,c≠32)->Bc a= [a]
 | [],_=>rfl
 | c :: r,h=>by
  have b:=IZ r (fun d hd=>h d (Qi _ hd));unfold Bc;rw[if_neg (h c Qf),b]
theorem Dx:∀a b:List UInt8,(∀c∈a,c≠32)->Bc (a++32 :: b)=a :: Bc b
 | [],b,_=>by simp[Bc]
 | c :: r,b,h=>by
  have f:=Dx r b (fun d hd=>h d (Qi _ hd));rw[Qj,Bc,if_neg (h c Qf),f]
def sp:ByteArray:=⟨#[32]⟩
theorem NI (s:ByteArray):indexB s sp=indexByte s.data.toList 32:=one s sp rfl
theorem cS:∀n (s:ByteArray),s.size<=n->(splitB sp 0 (countB s sp) s).map (·.data.toList)=Bc s.data.toList/\countB s sp+1=(Bc s.data.toList).length:=by
 intro n
 induction n with
 | zero =>
  intro s v;have r:s.data.toList= []:=by
   cases s with | mk d=>simp [ByteArray.size]at v;simp[v]
  have b:indexB s sp= -1:=by rw[NI,r];rfl
  rw[Qk s sp b,Ql,r];simp[Bc,r]
 | succ n ih =>
  intro s v;rcases indexB_cases s sp with b | ⟨i,b,F⟩
  ·have l:∀c∈s.data.toList,c≠32:=by
    intro c y e;rw[NI]at b;obtain⟨k,g⟩:=Qm.1 y;exact indexByte_none b k (by rw[g,e])
   rw[Qk s sp b,Ql,IZ _ l];simp
  ·have m:sp.size=1:=rfl;have p:=b;rw[NI]at p;obtain⟨f,j⟩:=indexByte_some p;have q:i<s.data.toList.length:=by
    rcases Nat.lt_or_ge i s.data.toList.length with h | h
    ·exact h
    ·rw[List.getElem?_eq_none h]at f;cases f
   have o:s.data.toList=s.data.toList.take i++32 :: s.data.toList.drop (i+1):=by
    have t:=List.take_append_drop i s.data.toList;rw[List.drop_eq_getElem_cons q]at t;rw[List.getElem?_eq_getElem q]at f;rw[Option.some.inj f]at t;exact t.symm
   have l:∀c∈s.data.toList.take i,c≠32:=by
    intro c y e;obtain⟨k,g⟩:=Qm.1 y;rw[List.getElem?_take]at g;split at g
    ·rename_i C;exact j k C (by rw[g,e])
    ·cases g
   have u:(s.extract (i+sp.size) s.size).size<=n:=by
    rw[ByteArray.size_extract,m];omega
   obtain⟨z,B⟩:=ih (s.extract (i+sp.size) s.size) u;have D:(s.extract (i+sp.size) s.size).data.toList=s.data.toList.drop (i+1):=by
    rw[extract_to_end,m]
   rw[D]at z B;have E:Bc s.data.toList=s.data.toList.take i :: Bc (s.data.toList.drop (i+1)):=by
    conv=>lhs;rw[o]
    exact Dx _ _ l
   rw[countB_hit s sp i (by rw[m];omega) b,Nat.add_comm 1,splitB_hit sp 0 _ s i b,E,List.map_cons,z,extract_from_zero];refine⟨by simp,?_⟩;rw[List.length_cons,<-B]
/-! Numerals -/
theorem RQ:∀(l:List UInt8) (acc:Nat) (r:List UInt8),Qc acc (l++r)=(Qc acc l).bind fun m=>Qc m r
 | [],_,_=>rfl
 | b :: l,acc,r=>by
  simp only[Qj,Qc]
  cases Qg b with
  | none=>rfl
  | some d=>exact RQ l _ r
theorem RT (d:Nat) (h:d<10):Qg (Qe (48+d))=Qa d:=by
 have e:(Qe (48+d)).toNat=48+d:=by simp;omega
 unfold Qg;rw[e,if_pos (by omega)];congr 1;omega
theorem cT (u:Nat):Qc 0 (decDigits u)=Qa u:=by
 induction u using Nat.strongRecOn with
 | _ u ih =>
  rw[decDigits];by_cases h:u<10
  ·rw[dif_pos h];simp only[Qc,RT u h];congr 1;omega
  ·rw[dif_neg h,RQ,ih (u / 10) (by omega)];simp only[Option.bind_some,Qc,RT (u % 10) (by omega)];congr 1;omega
theorem NJ (u:Nat):decDigits u≠ []:=by
 rw[decDigits];by_cases h:u<10
 ·rw[dif_pos h];simp
 ·rw[dif_neg h];simp
theorem JU (u:Nat):∀c∈decDigits u,48<=c.toNat/\c.toNat<=57:=by
 induction u using Nat.strongRecOn with
 | _ u ih =>
  rw[decDigits];by_cases h:u<10
  ·rw[dif_pos h];intro c b;simp only[Qn]at b;subst b;have e:(Qe (48+u)).toNat=48+u:=by simp;omega
   omega
  ·rw[dif_neg h];intro c b;rw[List.mem_append]at b;rcases b with b | b
   ·exact ih (u / 10) (by omega) c b
   ·simp only[Qn]at b;subst b;have e:(Qe (48+u % 10)).toNat=48+u % 10:=by simp;omega
    omega
theorem KA:∀(k u:Nat),u<10 ^ (k+1)->(decDigits u).length<=k+1
 | 0,u,h=>by
  rw[decDigits,dif_pos (by simpa using h)];simp
 | k+1,u,h=>by
  rw[decDigits];by_cases b:u<10
  ·rw[dif_pos b];simp
  ·rw[dif_neg b];have:=KA k (u / 10) (by rw[Nat.pow_succ]at h;omega);simp;omega
theorem RU (u:Nat):decNat (decDigits u)=Qa u:=by
 unfold decNat;rw[if_neg (by simp[NJ]),cT]
theorem Ja (n:Int):atoi (itoa n)=Qa n:=by
 unfold itoa;by_cases h:n<0
 ·rw[if_pos h];simp only[atoi,beq_self_eq_true,if_true,RU,Qo];congr 1;omega
 ·rw[if_neg h]
  cases c:decDigits n.toNat with
  | nil=>exact absurd c (NJ _)
  | cons b r =>
   have d:=JU n.toNat b (by rw[c];exact Qf);have f:¬(b == 45)=Qb:=by
    intro e;rw[beq_iff_eq]at e;subst e;simp at d
   have g:¬(b == 43)=Qb:=by
    intro e;rw[beq_iff_eq]at e;subst e;simp at d
   simp only[atoi,if_neg f,if_neg g];rw[<-c,RU];simp only[Qo];congr 1;omega
theorem DQ (n:Int):∀c∈itoa n,c≠32:=by
 intro c b e;subst e;unfold itoa at b;split at b
 ·rw[List.mem_cons]at b;rcases b with b | b
  ·simp at b
  ·have:=JU _ _ b;simp at this
 ·have:=JU _ _ b;simp at this
theorem EI (n:Int) (b: -1073741824<=n) (c:n<=1073741824):(itoa n).length<=11:=by
 unfold itoa;split
 ·have:=KA 9 n.natAbs (by omega);simp;omega
 ·have:=KA 9 n.toNat (by omega);omega
/-! A row's checks,its text,and what a text is -/
def C5 (n:Int):Bool:=(decide (97<=n) && decide (n<=122)) || (decide (48<=n) && decide (n<=57))
def DG (m:Nat) (s:List UInt8):Bool:=decide (1<=s.length) && decide (s.length<=m) && s.all fun c=>C5 c.toNat
def Fs (s:List UInt8):Bool:=decide (1<=s.length) && decide (s.length<=8) && s.all fun c=>C5 c.toNat
def Aq (n:Int):Bool:=decide (-1073741824<=n) && decide (n<=1073741824)
def A0 (x:Rw):Nat:=if Fs x.1.data.toList then (if Aq x.2.1 && Aq x.2.2 then 0 else 2) else 5
def At (s:List UInt8):Option Int :=
 if s.length<=11 then (match atoi s with
  | some n=>if itoa n=s then Qa n else Qd
  | none=>Qd) else Qd
def Ab (l:List UInt8):ByteArray:=⟨l.toArray⟩
def Bx (s:List UInt8):Rw×Nat :=
 match Bc s with
 | [p,k,v]=>(match At k,At v with
  | some a,Qa b=>if A0 (Ab p,a,b)=0 then ((Ab p,a,b),0) else ((Ab [],0,0),A0 (Ab p,a,b))
  | _,_=>((Ab [],0,0),1))
 | _=>((Ab [],0,0),1)
def FY (x:Rw):List UInt8:=x.1.data.toList++32 :: (itoa x.2.1++32 :: itoa x.2.2)
theorem FZ (n:Int) (h:Aq n=Qb):At (itoa n)=Qa n:=by
 simp only[Aq,Qh,decide_eq_true_eq]at h;unfold At;rw[if_pos (EI n h.1 h.2),Ja];simp
theorem cU {m:Nat} {s:List UInt8} (h:DG m s=Qb):∀c∈s,c≠32:=by
 intro c b e;subst e;simp only[DG,Qh,Qp]at h;have:=h.2 _ b;simp[C5]at this
theorem cV {s:List UInt8} (h:Fs s=Qb):∀c∈s,c≠32:=by
 intro c b e;subst e;simp only[Fs,Qh,Qp]at h;have:=h.2 _ b;simp[C5]at this
theorem D7 (s:ByteArray):Ab s.data.toList=s:=by
 cases s;simp[Ab]
theorem cW (x:Rw) (h:A0 x=0):Bx (FY x)=(x,0):=by
 have b:Fs x.1.data.toList=Qb:=by
  unfold A0 at h;split at h
  ·assumption
  ·omega
 have c:Aq x.2.1=Qb/\Aq x.2.2=Qb:=by
  unfold A0 at h;rw[if_pos b]at h;split at h
  ·rename_i f;simpa using f
  ·omega
 have d:Bc (FY x)= [x.1.data.toList,itoa x.2.1,itoa x.2.2]:=by
  unfold FY;rw[Dx _ _ (cV b),Dx _ _ (DQ _),IZ _ (DQ _)]
 unfold Bx;rw[d];simp only[FZ _ c.1,FZ _ c.2,D7];have e:((x.1,x.2.1,x.2.2):Rw)=x:=rfl;rw[e,if_pos h]
end Go.Proofs.YtcllhobffhkafaaGreatDoor
