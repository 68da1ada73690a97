/- By an AI agent. -/
import Derived.Test.YtcllhobffhkafaaGreatDoorSrtPure
import Derived.Test.YtcllhobffhkafaaGreatDoorDataPure
import Derived.Lib.SlicesCompact
import Derived.Lib.Slices
set_option maxRecDepth 100000
set_option maxHeartbeats 16000000
open Bool renaming true->Z,false->Qa,and_eq_true->Qe,false_eq_true->Qj
open Go.Lib renaming itoa->I,cut->S,compact->Qo,minOf->Qq,maxOf->Qr
open List renaming mem_cons_self->Qb,mem_cons->Qc,mem_append->Qf,mem_cons_of_mem->Qg,foldl_cons->Qi,length_append->Qk,length_cons->Ql,mem_singleton->Qm,pairwise_cons->Qn,pairwise_append->Qp,getLastD_eq_getLast?->Qs
open Option renaming none->O,some->U
open Or renaming inr->Qd,inl->Qh
namespace Go.Proofs.YtcllhobffhkafaaGreatDoor
open Go.Lib
section
open Go.Extern Go.Extern.Stop Go.RowKit Go.Shelf Go.Sort Go.Stop
def A9 (zs:List Int):List Int:=Qo (Bt zs)
theorem S7 (d:Array Int) (p:∀i j,i<=j->j<d.size->d[i]! <=d[j]!):∀m,m<=d.size->(compactUpTo d m).Pairwise (· < ·)/\(∀x,x∈compactUpTo d m↔∃j,j<m/\d[j]! =x)/\∀x∈compactUpTo d m,∀j,m<=j+1->j<d.size->x<=d[j]! :=by
 intro m
 induction m with
 | zero=>intro _;exact⟨by simp[compactUpTo],by simp[compactUpTo],by simp[compactUpTo]⟩
 | succ m ih =>
  intro t;obtain⟨n,k,o⟩:=ih (by omega);rw[compactUpTo_succ]
  cases c:keeps d m with
  | true =>
   simp only[if_true];have g:∀x∈compactUpTo d m,x<d[m]! :=by
    intro x b;have l:m≠0:=by
     intro e;subst e;obtain⟨j,f,_⟩:=(k x).1 b;omega
    simp only[keeps,decide_eq_true_eq]at c;rcases c with c | c
    ·exact absurd c l
    ·have r:=o x b (m-1) (by omega) (by omega);have s:=p (m-1) m (by omega) (by omega);omega
   refine⟨Qp.2 ⟨n,List.pairwise_singleton _ _,fun x b y hy=>by rw[Qm.1 hy];exact g x b⟩,fun x=>?_,fun x b j hj1 hj2=>?_⟩
   ·rw[Qf,Qm,k];constructor
    ·rintro(⟨j,f,e⟩ | e)
     ·exact⟨j,by omega,e⟩
     ·exact⟨m,by omega,e.symm⟩
    ·rintro⟨j,f,e⟩;rcases Nat.lt_or_ge j m with h | h
     ·exact Qh ⟨j,h,e⟩
     ·have:j=m:=by omega
      subst this;exact Qd e.symm
   ·rw[Qf,Qm]at b;have q:=p m j (by omega) hj2;rcases b with b | b
    ·have:=g x b;omega
    ·omega
  | false =>
   simp only[Qj,if_false,List.append_nil];simp only[keeps,decide_eq_false_iff_not,not_or,ne_eq,Classical.not_not]at c;refine⟨n,fun x=>?_,fun x b j hj1 hj2=>o x b j (by omega) hj2⟩;rw[k];constructor
   ·rintro⟨j,f,e⟩;exact⟨j,by omega,e⟩
   ·rintro⟨j,f,e⟩;rcases Nat.lt_or_ge j m with h | h
    ·exact⟨j,h,e⟩
    ·have:j=m:=by omega
     subst this;exact⟨j-1,by omega,by rw[<-e,c.2]⟩
theorem S8 (zs:List Int) (i j:Nat) (c:i<=j) (d:j<(Bt zs).toArray.size):(Bt zs).toArray[i]! <=(Bt zs).toArray[j]! :=by
 have b:j<(Bt zs).length:=by simpa using d
 rw[getElem!_pos _ i (by omega),getElem!_pos _ j d];rcases Nat.lt_or_eq_of_le c with h | h
 ·exact List.pairwise_iff_getElem.1 (Sh zs) i j (by omega) b h
 ·subst h;exact Int.le_refl _
theorem S9 (zs:List Int):(A9 zs).Pairwise (· < ·):=by
 have h:=S7 (Bt zs).toArray (S8 zs) (Bt zs).length (by simp);exact h.1
theorem KN (zs:List Int) (x:Int):x∈A9 zs↔x∈zs:=by
 have h:=(S7 (Bt zs).toArray (S8 zs) (Bt zs).length (by simp)).2.1 x;show x∈compactUpTo (Bt zs).toArray (Bt zs).length↔_;rw[h,<-Sg zs x];constructor
 ·rintro⟨j,b,e⟩;rw[getElem!_pos _ j (by simpa using b)]at e;rw[<-e];exact List.getElem_mem _
 ·intro c;obtain⟨j,b,e⟩:=List.mem_iff_getElem.1 c;exact⟨j,b,by rw[getElem!_pos _ j (by simpa using b)];simpa using e⟩
theorem SA:∀xs ys:List Int,xs.Pairwise (· < ·)->ys.Pairwise (· < ·)->(∀x,x∈xs↔x∈ys)->xs=ys
 | [], [],_,_,_=>rfl
 | [],y :: ys,_,_,h=>absurd ((h y).2 Qb) (by simp)
 | x :: xs, [],_,_,h=>absurd ((h x).1 Qb) (by simp)
 | x :: xs,y :: ys,hx,hy,h=>by
  obtain⟨c,f⟩:=Qn.1 hx;obtain⟨d,g⟩:=Qn.1 hy;have e:x=y:=by
   have a:=(h x).1 Qb;have b:=(h y).2 Qb;rcases Qc.1 a with a | a
   ·exact a
   ·rcases Qc.1 b with b | b
    ·exact b.symm
    ·have:=c y b;have:=d x a;omega
  subst e;rw[SA xs ys f g fun z=>⟨fun hz=>by
   rcases Qc.1 ((h z).1 (Qg _ hz)) with q | q
   ·have:=c z hz;omega
   ·exact q,fun hz=>by
   rcases Qc.1 ((h z).2 (Qg _ hz)) with q | q
   ·have:=d z hz;omega
   ·exact q⟩]
theorem SD {xs zs:List Int} (h:xs.Pairwise (· < ·)) (b:∀x,x∈xs↔x∈zs):A9 zs=xs :=
 SA _ _ (S9 zs) h fun x=>(KN zs x).trans (b x).symm
theorem eR (zs:List Int):(A9 zs).length<=zs.length:=by
 have h:(A9 zs).length<=(Bt zs).length:=by
  unfold A9 Qo compactUpTo;rw[List.length_map];refine Nat.le_trans (List.length_filter_le _ _) ?_;simp
 rw[Jd]at h;exact h
theorem eT:A9 []= []:=SD List.Pairwise.nil (fun _=>Iff.rfl)
theorem eU (zs:List Int):(A9 zs).Pairwise (fun x y=>AD.bad y x=Qa):=(S9 zs).imp fun {a b} h=>by
 show decide (b<=a)=Qa;rw[decide_eq_false_iff_not];omega
abbrev B8 (s:List UInt8):List Int×Nat×Option Nat:=BS AD s
abbrev DS (zs:List Int):List UInt8:=Ka AD zs
end
section
open Go
abbrev Fl:=ByteArray×ByteArray×Int×Int×Int×Int
def Do (n:Int):Bool:=decide (1<=n) && decide (n<=1073741824)
def AH (g:Bool):List UInt8:=if g then Ef else Ee
def Ev (s:List UInt8):Option Int:=match At s with
 | some n=>if Do n then U n else O
 | none=>O
def AB (s:List UInt8):Option (Bool×Int) :=
 if s.take 5=Ee++ [47] then (Ev (s.drop 5)).map fun n=>(Qa,n) else
 if s.take 5=Ef++ [47] then (Ev (s.drop 5)).map fun n=>(Z,n) else O
theorem eV:At []=O:=by
 cases h:At [] with
 | none=>rfl
 | some n =>
  have:=(Fu h).1;unfold I at this;split at this
  ·cases this
  ·exact absurd this (NJ _)
theorem eX (k w:List UInt8) (c:k.length=4):(k++47 :: w).take 5=k++ [47]/\(k++47 :: w).drop 5=w:=by
 have e:k++47 :: w=(k++ [47])++w:=by simp
 have b:(k++ [47]).length=5:=by simp[c]
 rw[e];exact⟨by rw[<-b,List.take_left],by rw[<-b,List.drop_left]⟩
theorem Mg (g:Bool) (w:List UInt8):AB (AH g++47 :: w)=(Ev w).map fun n=>(g,n):=by
 obtain⟨b,c⟩:=eX (AH g) w (by cases g<;>rfl)
 unfold AB;rw[b,c];cases g
 ·rw[if_pos (show AH Qa++ [47]=Ee++ [47] from rfl)]
 ·rw[if_neg (by decide),if_pos (show AH Z++ [47]=Ef++ [47] from rfl)]
theorem Ew {s:List UInt8} {g:Bool} {n:Int} (h:AB s=U (g,n)):s=AH g++47 :: I n/\At (I n)=U n/\Do n=Z:=by
 have f:∀(k:List UInt8) (b:Bool),s.take 5=k++ [47]->(Ev (s.drop 5)).map (fun m=>(b,m))=U (g,n)->b=g/\s=k++47 :: I n/\At (I n)=U n/\Do n=Z:=fun k b d hp=>by
  obtain⟨m,c,o⟩:=Option.map_eq_some_iff.1 hp;obtain⟨rfl,rfl⟩:=o;unfold Ev at c;split at c
  ·rename_i x l;split at c
   ·rename_i p;obtain rfl:=Option.some.inj c;have i:=(Fu l).1;refine⟨rfl,?_,by rw[i];exact l,p⟩;rw[i]
    conv=>lhs;rw[<-List.take_append_drop 5 s,d]
    simp
   ·cases c
  ·cases c
 unfold AB at h;split at h
 ·rename_i d;obtain⟨rfl,j⟩:=f _ _ d h;exact j
 ·split at h
  ·rename_i d;obtain⟨rfl,j⟩:=f _ _ d h;exact j
  ·cases h
theorem eY (s:List UInt8):AB s=if (S s [47]).1=Ee then (Ev (S s [47]).2.1).map fun n=>(Qa,n) else
  if (S s [47]).1=Ef then (Ev (S s [47]).2.1).map fun n=>(Z,n) else O:=by
 rcases Hx 47 s with⟨k,l⟩|⟨a,b,rfl,k,l⟩
 ·rw[l];have m:Ev []=O:=by unfold Ev;rw[eV]
  have d:AB s=O:=by
   cases h:AB s with
   | none=>rfl
   | some p =>
    obtain⟨g,n⟩:=p;have:=(Ew h).1;exact absurd rfl (k 47 (by rw[this];simp))
  rw[d];dsimp only;rw[m];split
  ·rfl
  ·split<;>rfl
 ·rw[l];dsimp only;by_cases i:a=Ee
  ·subst i;rw[if_pos rfl];exact Mg Qa b
  ·rw[if_neg i];by_cases j:a=Ef
   ·subst j;rw[if_pos rfl];exact Mg Z b
   ·rw[if_neg j]
    cases h:AB (a++47 :: b) with
    | none=>rfl
    | some p =>
     obtain⟨g,n⟩:=p;have e:=(Ew h).1;have o:∀c∈AH g,c≠47:=by cases g<;>decide
     have f:=KI 47 a b k;rw[e,KI 47 _ _ o]at f;simp only[Prod.mk.injEq,and_true]at f;cases g
     ·exact absurd f.1.symm i
     ·exact absurd f.1.symm j
def EZ (s:List UInt8):List UInt8×Int×Nat:=match AB s with
 | some (g,n)=>(AH g,n,0)
 | none=>([],0,5)
def Dz (g:Bool) (s:List UInt8):Bool:=if g then decide (s= [45]) else DG 12 s
def Db (f:Fl):Bool:=decide (1<=f.2.2.1) && decide (f.2.2.1<=40) && Aq f.2.2.2.1 && Aq f.2.2.2.2.1 && decide (f.2.2.2.1<=f.2.2.2.2.1) && Do f.2.2.2.2.2
def Au (f:Fl):Nat:=match AB f.1.data.toList with
 | none=>5
 | some (g,_)=>if Dz g f.2.1.data.toList then (if Db f then 0 else 2) else 4
def Ce (f:Fl):List UInt8:=f.1.data.toList++32 :: (f.2.1.data.toList++32 :: (I f.2.2.1++32 :: (I f.2.2.2.1++32 :: (I f.2.2.2.2.1++32 :: I f.2.2.2.2.2))))
def Mh (f:Fl):ByteArray:=if Au f=0 then Ab (Ce f) else Ab []
def BC:Fl:=(Ab [],Ab [],0,0,0,0)
def Eg (f:Fl):Fl×Nat:=if Au f=0 then (f,0) else (BC,Au f)
def BZ (s:List UInt8):Fl×Nat:=match Bc s with
 | [p,q,a,b,c,d]=>(match At a,At b,At c,At d with
  | some n,U lo,U hi,U seq=>Eg (Ab p,Ab q,n,lo,hi,seq)
  | _,_,_,_=>(BC,1))
 | _=>(BC,1)
def Bp (g:Bool) (s:List UInt8):List Int×Nat:=if g then ((B8 s).1,(B8 s).2.1) else (BG (Bn s).1,(Bn s).2.1)
def B1 (path part:ByteArray) (s:List UInt8) (seq:Int):Fl×Nat:=match AB path.data.toList with
 | none=>(BC,5)
 | some (g,_)=>if (Bp g s).2=0 then Eg (path,part,(Bp g s).1.length,(Ar (Bp g s).1).1,(Ar (Bp g s).1).2,seq) else (BC,(Bp g s).2)
theorem D0 {f:Fl} (h:Au f=0):∃g n,AB f.1.data.toList=U (g,n)/\Dz g f.2.1.data.toList=Z/\Db f=Z:=by
 unfold Au at h;split at h
 ·cases h
 ·rename_i g n b;split at h
  ·rename_i c;split at h
   ·rename_i d;exact⟨g,n,b,c,d⟩
   ·cases h
  ·cases h
theorem eZ {n:Int} (h:Do n=Z):Aq n=Z:=by
 simp only[Do,Aq,Qe,decide_eq_true_eq]at h ⊢;omega
theorem Mi {f:Fl} (h:Db f=Z):Aq f.2.2.1=Z/\Aq f.2.2.2.1=Z/\Aq f.2.2.2.2.1=Z/\Aq f.2.2.2.2.2=Z:=by
 simp only[Db,Qe]at h;refine⟨?_,h.1.1.1.2,h.1.1.2,eZ h.2⟩;have b:=h.1.1.1.1;simp only[decide_eq_true_eq]at b;simp only[Aq,Qe,decide_eq_true_eq];omega
theorem fA {s:List UInt8} {g:Bool} {n:Int} (h:AB s=U (g,n)):∀c∈s,c≠32:=by
 intro c b;rw[(Ew h).1,Qf,Qc]at b;rcases b with b | rfl | b
 ·exact(show ∀c∈AH g,c≠32 by cases g<;>decide) c b
 ·decide
 ·exact DQ n c b
theorem fC {s:List UInt8} {g:Bool} (h:Dz g s=Z):∀c∈s,c≠32:=by
 unfold Dz at h;cases g
 ·exact cU (by simpa using h)
 ·simp only[if_true,decide_eq_true_eq]at h;subst h;decide
theorem fD {f:Fl} (h:Au f=0):Bc (Ce f)= [f.1.data.toList,f.2.1.data.toList,I f.2.2.1,I f.2.2.2.1,I f.2.2.2.2.1,I f.2.2.2.2.2]:=by
 obtain⟨g,n,b,c,_⟩:=D0 h;unfold Ce;rw[Dx _ _ (fA b),Dx _ _ (fC c),Dx _ _ (DQ _),Dx _ _ (DQ _),Dx _ _ (DQ _),IZ _ (DQ _)]
theorem fE {f:Fl} (h:Au f=0):BZ (Ce f)=(f,0):=by
 obtain⟨g,n,k,l,b⟩:=D0 h;obtain⟨c,d,i,j⟩:=Mi b;unfold BZ;rw[fD h];dsimp only;rw[FZ _ c,FZ _ d,FZ _ i,FZ _ j,D7,D7];dsimp only;unfold Eg;have e:((f.1,f.2.1,f.2.2.1,f.2.2.2.1,f.2.2.2.2.1,f.2.2.2.2.2):Fl)=f:=rfl;rw[e,if_pos h]
theorem SF {zs:List Int} (h:zs≠ []):Qq zs=(Ar zs).1/\Qr zs=(Ar zs).2:=by
 have b:∀(r:List Int) (z:Int),r.foldl min z=r.foldl (fun a k=>if k<a then k else a) z:=fun r=>by
  induction r with
  | nil=>intro z;rfl
  | cons k r ih =>
   intro z;rw[Qi,Qi,ih];congr 1;rw[Int.min_def];split<;>split<;>omega
 have c:∀(r:List Int) (z:Int),r.foldl max z=r.foldl (fun a k=>if a<k then k else a) z:=fun r=>by
  induction r with
  | nil=>intro z;rfl
  | cons k r ih =>
   intro z;rw[Qi,Qi,ih];congr 1;rw[Int.max_def];split<;>split<;>omega
 cases zs with
 | nil=>exact absurd rfl h
 | cons z r =>
  unfold Qq Qr;simp only[List.headD_cons,Qi,Int.min_self,Int.max_self];exact⟨b r z,c r z⟩
def pk (s:List UInt8):Int:=match AB s with
 | some (g,n)=>if g then 1073741824+n else n
 | none=>0
theorem Kd {s:List UInt8} {g:Bool} {n:Int} (h:AB s=U (g,n)):pk s=(if g then 1073741824+n else n)/\1<=n/\n<=1073741824:=by
 have b:=(Ew h).2.2;simp only[Do,Qe,decide_eq_true_eq]at b;exact⟨by unfold pk;rw[h],b⟩
theorem SG {s:List UInt8} (h:AB s≠O):0<pk s:=by
 cases b:AB s with
 | none=>exact absurd b h
 | some p =>
  obtain⟨g,n⟩:=p;obtain⟨e,c,d⟩:=Kd b;rw[e];split<;>omega
theorem fF {s t:List UInt8} (j:AB s≠O) (l:AB t≠O) (h:pk s=pk t):s=t:=by
 cases b:AB s with
 | none=>exact absurd b j
 | some p =>
  cases c:AB t with
  | none=>exact absurd c l
  | some q =>
   obtain⟨g,n⟩:=p;obtain⟨k,m⟩:=q;obtain⟨f,o,r⟩:=Kd b;obtain⟨i,u,v⟩:=Kd c;rw[f,i]at h;have d:g=k/\n=m:=by
    cases g<;>cases k<;>simp only[if_true,Qj,if_false]at h
    ·exact⟨rfl,h⟩
    ·omega
    ·omega
    ·exact⟨rfl,by omega⟩
   rw[(Ew b).1,(Ew c).1,d.1,d.2]
def fk (f:Fl):Int:=pk f.1.data.toList
theorem H1 {f:Fl} (h:Au f=0):AB f.1.data.toList≠O:=by
 obtain⟨g,n,b,_⟩:=D0 h;rw[b];simp
theorem fG {f:Fl} (h:Au f=0):0<fk f:=SG (H1 h)
def Fa:Int->List Fl->Nat->Nat×Option Nat
 | _, [],_=>(0,O)
 | prev,f :: r,i=>if Au f≠0 then (Au f,U i) else if fk f<=prev then (9,U i) else Fa (fk f) r (i+1)
def BK (fs:List Fl):Nat×Option Nat:=if 60<fs.length then (8,O) else Fa 0 fs 0
def Eh (prev:Int) (fs:List Fl):Prop:=(∀f∈fs,Au f=0/\prev<fk f)/\fs.Pairwise fun f g=>fk f<fk g
theorem fH {c:Int} {f:Fl} {r:List Fl} :Eh c (f :: r)↔Au f=0/\c<fk f/\Eh (fk f) r:=by
 unfold Eh;rw[Qn];constructor
 ·rintro⟨d,j,i⟩;have k:=d f Qb;exact⟨k.1,k.2,fun g b=>⟨(d g (Qg _ b)).1,j g b⟩,i⟩
 ·rintro⟨d,j,i,l⟩;refine⟨fun g b=>?_,fun g b=>(i g b).2,l⟩;rw[Qc]at b;rcases b with rfl | b
  ·exact⟨d,j⟩
  ·have:=i g b;exact⟨this.1,by omega⟩
theorem SH:∀(fs:List Fl) (prev:Int) (i:Nat),(Fa prev fs i).1=0↔Eh prev fs
 | [],prev,i=>by simp[Fa,Eh]
 | f :: r,prev,i=>by
  have c:=SH r (fk f) (i+1);unfold Fa;rw[fH];split
  ·rename_i h;simp[h]
  ·rename_i h;have b:Au f=0:=by simpa using h
   split
   ·rename_i d;simp[b];omega
   ·rename_i d;rw[c];simp[b];omega
theorem GW {b:List Fl} :(BK b).1=0↔b.length<=60/\Eh 0 b:=by
 unfold BK;split
 ·rename_i h;simp;omega
 ·rename_i h;rw[SH];simp;omega
def AO (fs:List Fl):List UInt8:=fs.flatMap fun f=>Ce f++ [10]
def B2:FK Fl:=⟨[],BZ,fun x y=>decide (fk x<=fk y),fk,Ce,fun f=>Au f=0,BC⟩
theorem fI {f:Fl} (h:Au f=0):∀c∈Ce f,c≠10:=by
 obtain⟨g,n,k,d,_⟩:=D0 h;intro c b;unfold Ce at b;have i:∀c∈f.2.1.data.toList,c≠10:=by
  intro c b;unfold Dz at d;cases g
  ·simp only[Qj,if_false,DG,Qe,List.all_eq_true]at d;intro e;subst e;have:=d.2 _ b;simp[C5]at this
  ·simp only[if_true,decide_eq_true_eq]at d;rw[d]at b;simp at b;subst b;decide
 have j:∀c∈f.1.data.toList,c≠10:=by
  intro c b;rw[(Ew k).1,Qf,Qc]at b;rcases b with b | rfl | b
  ·exact(show ∀c∈AH g,c≠10 by cases g<;>decide) c b
  ·decide
  ·exact EJ n c b
 simp only[Qf,Qc]at b;rcases b with b | rfl | b | rfl | b | rfl | b | rfl | b | rfl | b
 ·exact j c b
 ·decide
 ·exact i c b
 ·decide
 ·exact EJ _ c b
 ·decide
 ·exact EJ _ c b
 ·decide
 ·exact EJ _ c b
 ·decide
 ·exact EJ _ c b
theorem SI:∀fs:List Fl,(∀f∈fs,Au f=0)->Ax 10 (AO fs)=fs.map Ce++ [[]]
 | [],_=>rfl
 | f :: r,h=>by
  have e:AO (f :: r)=Ce f++10 :: AO r:=by simp[AO]
  rw[e,Hw 10 _ _ (fI (h f Qb)),SI r (fun g hg=>h g (Qg _ hg))];rfl
def Cu (s:List UInt8):List Fl×Nat×Option Nat :=
 if 60<(if (Ax 10 s).getLastD []= [] then (Ax 10 s).length-1 else (Ax 10 s).length) then ([],8,O) else
 if (AV B2 (Ax 10 s) 0 []).2.1≠0 then ([],(AV B2 (Ax 10 s) 0 []).2.1,U (AV B2 (Ax 10 s) 0 []).2.2) else ((AV B2 (Ax 10 s) 0 []).1,0,O)
theorem SJ:∀(fs acc:List Fl) (at_:Nat),(∀f∈fs,Au f=0)->(acc++fs).Pairwise (fun f g=>fk f<fk g)->AV B2 (fs.map Ce++ [[]]) at_ acc=(acc++fs,0,0)
 | [],acc,at_,_,_=>by simp[AV]
 | f :: r,acc,at_,h,hp=>by
  have j:B2.rd (Ce f)=(f,0):=fE (h f Qb);have b:r.map Ce++ [[]]≠ []:=by simp
  obtain⟨n,q,e⟩:=List.exists_cons_of_ne_nil b;rw[List.map_cons,List.cons_append,e,Kb,j,if_neg (by simp)];have c:¬(acc≠ []/\B2.bad f (acc.getLastD B2.d)=Z):=by
   rintro⟨i,l⟩;have k:acc.getLastD B2.d∈acc:=by
    rw[Qs,List.getLast?_eq_some_getLast i];exact List.getLast_mem i
   have:=(Qp.1 hp).2.2 _ k f Qb;have m:fk f<=fk (acc.getLastD B2.d):=of_decide_eq_true l;omega
  dsimp only;rw[if_neg c,<-e];have:=SJ r (acc++ [f]) (at_+1) (fun y hy=>h y (Qg _ hy)) (by simpa using hp);simpa using this
theorem fJ {b:List Fl} (h:(BK b).1=0):Cu (AO b)=(b,0,O):=by
 obtain⟨k,i,j⟩:=GW.1 h;have c:∀f∈b,Au f=0:=fun f hf=>(i f hf).1;have d:=SJ b [] 0 c (by simpa using j);unfold Cu;rw[SI b c,d];have g:(b.map Ce++ [[]]).getLastD []= []:=by simp[Qs]
 rw[g,if_pos rfl,if_neg (by simp;omega),if_neg (by simp)];rfl
def Fv (fs:List Fl) (f:Fl):List Fl:=fs.takeWhile (fun g=>decide (fk g<fk f))++f :: fs.dropWhile (fun g=>decide (fk g<fk f))
abbrev Sn:=Int×Int×Int×Int×Int×ByteArray×List Fl
def KO:List UInt8:= [115,116,97,114,116]
def Ji:List UInt8:= [97,112,112,101,110,100]
def Jj:List UInt8:= [100,101,108,101,116,101]
def Jk:List UInt8:= [114,101,119,114,105,116,101]
def Gc:List UInt8:= [115,110,97,112]
def Cv (s:List UInt8):Bool:=decide (s=KO) || decide (s=Ji) || decide (s=Jj) || decide (s=Jk)
theorem Of {s:List UInt8} (h:Cv s=Z):s=KO\/s=Ji\/s=Jj\/s=Jk:=by
 simp only[Cv,Bool.or_eq_true,decide_eq_true_eq]at h;rcases h with((h | h) | h) | h
 ·exact Qh h
 ·exact Qd (Qh h)
 ·exact Qd (Qd (Qh h))
 ·exact Qd (Qd (Qd h))
theorem SK {s:List UInt8} (h:Cv s=Z):s.length<=7:=by
 rcases Of h with rfl | rfl | rfl | rfl<;>decide
theorem fK {s:List UInt8} (h:Cv s=Z):∀c∈s,c≠32:=by
 rcases Of h with rfl | rfl | rfl | rfl<;>decide
theorem fM {s:List UInt8} (h:Cv s=Z):∀c∈s,c≠10:=by
 rcases Of h with rfl | rfl | rfl | rfl<;>decide
def Ey (s:Sn):Bool:=decide (1<=s.1) && decide (s.1<=1073741824) && decide (0<=s.2.1) && decide (s.2.1<s.1) && decide (0<=s.2.2.1) && decide (s.2.2.1<=1073741824) && decide (0<=s.2.2.2.1) && decide (s.2.2.2.1<=100000) && decide (0<=s.2.2.2.2.1) && decide (s.2.2.2.2.1<=1073741824)
theorem I1 {s:Sn} :Ey s=Z↔((1<=s.1/\s.1<=1073741824)/\(0<=s.2.1/\s.2.1<s.1))/\((0<=s.2.2.1/\s.2.2.1<=1073741824)/\(0<=s.2.2.2.1/\s.2.2.2.1<=100000))/\0<=s.2.2.2.2.1/\s.2.2.2.2.1<=1073741824:=by
 simp only[Ey,Qe,decide_eq_true_eq];constructor
 ·rintro⟨⟨⟨⟨⟨⟨⟨⟨⟨a,b⟩,c⟩,d⟩,e⟩,f⟩,g⟩,h⟩,i⟩,j⟩;exact⟨⟨⟨a,b⟩,c,d⟩,⟨⟨e,f⟩,g,h⟩,i,j⟩
 ·rintro⟨⟨⟨a,b⟩,c,d⟩,⟨⟨e,f⟩,g,h⟩,i,j⟩;exact⟨⟨⟨⟨⟨⟨⟨⟨⟨a,b⟩,c⟩,d⟩,e⟩,f⟩,g⟩,h⟩,i⟩,j⟩
def Ez (seq:Int):List Fl->Nat->Nat×Option Nat
 | [],_=>(0,O)
 | f :: r,i=>if seq<f.2.2.2.2.2 then (9,U i) else Ez seq r (i+1)
def Am (s:Sn):Nat×Option Nat :=
 if Ey s=Qa then (2,O) else if Cv s.2.2.2.2.2.1.data.toList=Qa then (4,O) else
 if (BK s.2.2.2.2.2.2).1≠0 then BK s.2.2.2.2.2.2 else Ez s.2.2.1 s.2.2.2.2.2.2 0
theorem SN (b:Int):∀(fs:List Fl) (i:Nat),Ez b fs i=(0,O)\/∃j,Ez b fs i=(9,U j)
 | [],_=>Qh rfl
 | f :: r,i=>by
  unfold Ez;split
  ·exact Qd ⟨i,rfl⟩
  ·exact SN b r (i+1)
theorem GX {s:Sn} (h:(Am s).1=0):Ey s=Z/\Cv s.2.2.2.2.2.1.data.toList=Z/\(BK s.2.2.2.2.2.2).1=0/\Am s=(0,O):=by
 unfold Am at h ⊢;by_cases c:Ey s=Qa
 ·rw[if_pos c]at h;cases h
 ·rw[if_neg c]at h ⊢;by_cases d:Cv s.2.2.2.2.2.1.data.toList=Qa
  ·rw[if_pos d]at h;cases h
  ·rw[if_neg d]at h ⊢;by_cases b:(BK s.2.2.2.2.2.2).1≠0
   ·rw[if_pos b]at h;exact absurd h b
   ·rw[if_neg b]at h ⊢;refine⟨by simpa using c,by simpa using d,by simpa using b,?_⟩;rcases SN s.2.2.1 s.2.2.2.2.2.2 0 with e | ⟨j,e⟩
    ·exact e
    ·rw[e]at h;cases h
def DH (s:Sn) (sum:Int):List UInt8:=Gc++32 :: (I s.1++32 :: (I s.2.1++32 :: (I s.2.2.1++32 :: (I s.2.2.2.1++32 :: (I s.2.2.2.2.1++32 :: (s.2.2.2.2.2.1.data.toList++32 :: I sum))))))
def BH (s:Sn):List UInt8:=DH s (Bi (AO s.2.2.2.2.2.2))++10 :: AO s.2.2.2.2.2.2
theorem fN {s:Sn} (h:Cv s.2.2.2.2.2.1.data.toList=Z) (d:Int):∀c∈DH s d,c≠10:=by
 intro c b;simp only[DH,Qf,Qc]at b;rcases b with b | rfl | b | rfl | b | rfl | b | rfl | b | rfl | b | rfl | b | rfl | b
 ·exact(show ∀c∈Gc,c≠10 by decide) c b
 ·decide
 ·exact EJ _ c b
 ·decide
 ·exact EJ _ c b
 ·decide
 ·exact EJ _ c b
 ·decide
 ·exact EJ _ c b
 ·decide
 ·exact EJ _ c b
 ·decide
 ·exact fM h c b
 ·decide
 ·exact EJ _ c b
theorem fO {s:Sn} (h:Cv s.2.2.2.2.2.1.data.toList=Z) (b:Int):Bc (DH s b)= [Gc,I s.1,I s.2.1,I s.2.2.1,I s.2.2.2.1,I s.2.2.2.2.1,s.2.2.2.2.2.1.data.toList,I b]:=by
 unfold DH;rw[Dx _ _ (by decide),Dx _ _ (DQ _),Dx _ _ (DQ _),Dx _ _ (DQ _),Dx _ _ (DQ _),Dx _ _ (DQ _),Dx _ _ (fK h),IZ _ (DQ _)]
def AE:Sn:=(0,0,0,0,0,Ab [], [])
def H3 (w1 w2 w3 w4 w5 w7:List UInt8):Option (Int×Int×Int×Int×Int×Int):=match At w1,At w2,At w3,At w4,At w5,At w7 with
 | some a,U b,U c,U d,U e,U g=>U (a,b,c,d,e,g)
 | _,_,_,_,_,_=>O
def Fw (l:List UInt8):Option (Int×Int×Int×Int×Int×List UInt8×Int):=match Bc l with
 | [k,w1,w2,w3,w4,w5,op,w7]=>match H3 w1 w2 w3 w4 w5 w7 with
  | some (a,b,c,d,e,g)=>if k=Gc then U (a,b,c,d,e,op,g) else O
  | none=>O
 | _=>O
def H8 (l:List UInt8):Sn×Nat×Option Nat :=
 if 20000<l.length then (AE,2,O) else
 if (S l [10]).2.2=Qa then (AE,1,O) else
 match Fw (S l [10]).1 with
 | none=>(AE,1,O)
 | some (a,b,c,d,e,op,g)=>if g≠Bi (S l [10]).2.1 then (AE,10,O) else
  if (Cu (S l [10]).2.1).2.1≠0 then (AE,(Cu (S l [10]).2.1).2) else
  if (Am (a,b,c,d,e,Ab op,(Cu (S l [10]).2.1).1)).1≠0 then (AE,Am (a,b,c,d,e,Ab op,(Cu (S l [10]).2.1).1)) else
  ((a,b,c,d,e,Ab op,(Cu (S l [10]).2.1).1),0,O)
theorem fP {s:Sn} (h:(Am s).1=0) (l:Int) (o:0<=l/\l<4294967296):Fw (DH s l)=U (s.1,s.2.1,s.2.2.1,s.2.2.2.1,s.2.2.2.2.1,s.2.2.2.2.2.1.data.toList,l):=by
 obtain⟨m,n,_⟩:=GX h;obtain⟨⟨⟨a,b⟩,c,d⟩,⟨⟨e,f⟩,g,i⟩,j,k⟩:=I1.1 m;unfold Fw H3;rw[fO n];simp only[EX s.1 (by omega) (by omega),EX s.2.1 (by omega) (by omega),EX s.2.2.1 (by omega) (by omega),EX s.2.2.2.1 (by omega) (by omega),EX s.2.2.2.2.1 (by omega) (by omega),EX l (by omega) (by omega),if_true]
theorem Gd {n:Int} (b: -1073741824<=n) (c:n<=4294967296):(I n).length<=11:=(Fu (EX n b c)).2
theorem SQ {f:Fl} (h:Au f=0):(Ce f).length<=100:=by
 obtain⟨g,n,c,b,d⟩:=D0 h;have m:f.1.data.toList.length<=16:=by
  rw[(Ew c).1];have:=(Fu (Ew c).2.1).2;cases g<;>simp [AH,Ee,Ef]<;>omega
 have o:f.2.1.data.toList.length<=12:=by
  unfold Dz at b;cases g
  ·simp only[Qj,if_false,DG,Qe,decide_eq_true_eq]at b;omega
  ·simp only[if_true,decide_eq_true_eq]at b;rw[b];decide
 obtain⟨i,j,k,l⟩:=Mi d;have p:=(Fu (FZ _ i)).2;have q:=(Fu (FZ _ j)).2;have r:=(Fu (FZ _ k)).2;have s:=(Fu (FZ _ l)).2;unfold Ce;simp only[Qk,Ql];omega
theorem SR:∀fs:List Fl,(∀f∈fs,Au f=0)->(AO fs).length<=101*fs.length
 | [],_=>by simp[AO]
 | f :: r,h=>by
  have b:=SQ (h f Qb);have c:=SR r (fun g hg=>h g (Qg _ hg));have e:AO (f :: r)=Ce f++10 :: AO r:=by simp[AO]
  rw[e];simp only[Qk,Ql];omega
theorem Og {s:Sn} (h:(Am s).1=0):(DH s (Bi (AO s.2.2.2.2.2.2))).length<=100/\(AO s.2.2.2.2.2.2).length<=6060:=by
 obtain⟨l,m,o,_⟩:=GX h;obtain⟨⟨⟨a,b⟩,c,d⟩,⟨⟨e,f⟩,g,i⟩,j,k⟩:=I1.1 l;obtain⟨q,p⟩:=GW.1 o;have r:=Hz (AO s.2.2.2.2.2.2);have t:=SR s.2.2.2.2.2.2 (fun f hf=>(p.1 f hf).1);have u:=Gd (n:=s.1) (by omega) (by omega);have v:=Gd (n:=s.2.1) (by omega) (by omega);have y:=Gd (n:=s.2.2.1) (by omega) (by omega);have z:=Gd (n:=s.2.2.2.1) (by omega) (by omega);have B:=Gd (n:=s.2.2.2.2.1) (by omega) (by omega);have C:=Gd (n:=(Bi (AO s.2.2.2.2.2.2):Int)) (by omega) (by omega);have D:=SK m;refine⟨?_,by omega⟩;unfold DH;simp only[Qk,Ql];have:Gc.length=4:=rfl;omega
theorem Oh {s:Sn} (h:(Am s).1=0):H8 (BH s)=(s,0,O):=by
 obtain⟨j,f,g,k⟩:=GX h;obtain⟨l,m⟩:=Og h;have i:=Hz (AO s.2.2.2.2.2.2);have b:=KI 10 (DH s (Bi (AO s.2.2.2.2.2.2))) (AO s.2.2.2.2.2.2) (fN f _);have c:(BH s).length<=20000:=by
  unfold BH;simp only[Qk,Ql];omega
 have e:S (BH s) [10]=(DH s (Bi (AO s.2.2.2.2.2.2)),AO s.2.2.2.2.2.2,Z):=b;unfold H8;rw[if_neg (by omega),e];dsimp only;rw[if_neg (by simp),fP h _ (by omega)];dsimp only;rw[fJ g];dsimp only;have d:(s.1,s.2.1,s.2.2.1,s.2.2.2.1,s.2.2.2.2.1,Ab s.2.2.2.2.2.1.data.toList,s.2.2.2.2.2.2)=s:=by rw[D7]
 rw[if_neg (by simp),if_neg (by simp),d,if_neg (by simpa using h)]
end
end Go.Proofs.YtcllhobffhkafaaGreatDoor
