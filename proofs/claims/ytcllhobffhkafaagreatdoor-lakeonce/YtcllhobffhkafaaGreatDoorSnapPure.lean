/- By an AI agent. -/
import Derived.Test.YtcllhobffhkafaaGreatDoorSrtPure
import Derived.Test.YtcllhobffhkafaaGreatDoorDataPure
import Derived.Lib.SlicesCompact
import Derived.Lib.Slices
set_option maxRecDepth 100000
set_option maxHeartbeats 16000000
open Bool renaming true->Z,false->Qa,and_eq_true->Qe,false_eq_true->Qj
open Go.Lib renaming itoa->I,cut->S,compact->Qo,minOf->Qq,maxOf->Qr
open List renaming mem_cons_self->Qb,mem_cons->Qc,mem_append->Qf,mem_cons_of_mem->Qg,foldl_cons->Qi,length_append->Qk,length_cons->Ql,mem_singleton->Qm,pairwise_cons->Qn,pairwise_append->Qp,getLastD_eq_getLast?->Qs
open Option renaming none->O,some->U
open Or renaming inr->Qd,inl->Qh
namespace Go.Proofs.YtcllhobffhkafaaGreatDoor
open Go.Lib
section
open Go.Extern Go.Extern.Stop Go.RowKit Go.Shelf Go.Sort Go.Stop
def A4 (zs:List Int):List Int:=Qo (Ca zs)
theorem RW (d:Array Int) (p:∀i j,i<=j->j<d.size->d[i]! <=d[j]!):∀m,m<=d.size->(compactUpTo d m).Pairwise (· < ·)/\(∀x,x∈compactUpTo d m↔∃j,j<m/\d[j]! =x)/\∀x∈compactUpTo d m,∀j,m<=j+1->j<d.size->x<=d[j]! :=by
 intro m
 induction m with
 | zero=>intro _;exact⟨by simp[compactUpTo],by simp[compactUpTo],by simp[compactUpTo]⟩
 | succ m ih =>
  intro t;obtain⟨n,k,o⟩:=ih (by omega);rw[compactUpTo_succ]
  cases c:keeps d m with
  | true =>
   simp only[if_true];have g:∀x∈compactUpTo d m,x<d[m]! :=by
    intro x b;have l:m≠0:=by
     intro e;subst e;obtain⟨j,f,_⟩:=(k x).1 b;omega
    simp only[keeps,decide_eq_true_eq]at c;rcases c with c | c
    ·exact absurd c l
    ·have r:=o x b (m-1) (by omega) (by omega);have s:=p (m-1) m (by omega) (by omega);omega
   refine⟨Qp.2 ⟨n,List.pairwise_singleton _ _,fun x b y hy=>by rw[Qm.1 hy];exact g x b⟩,fun x=>?_,fun x b j hj1 hj2=>?_⟩
   ·rw[Qf,Qm,k];constructor
    ·rintro(⟨j,f,e⟩ | e)
     ·exact⟨j,by omega,e⟩
     ·exact⟨m,by omega,e.symm⟩
    ·rintro⟨j,f,e⟩;rcases Nat.lt_or_ge j m with h | h
     ·exact Qh ⟨j,h,e⟩
     ·have:j=m:=by omega
      subst this;exact Qd e.symm
   ·rw[Qf,Qm]at b;have q:=p m j (by omega) hj2;rcases b with b | b
    ·have:=g x b;omega
    ·omega
  | false =>
   simp only[Qj,if_false,List.append_nil];simp only[keeps,decide_eq_false_iff_not,not_or,ne_eq,Classical.not_not]at c;refine⟨n,fun x=>?_,fun x b j hj1 hj2=>o x b j (by omega) hj2⟩;rw[k];constructor
   ·rintro⟨j,f,e⟩;exact⟨j,by omega,e⟩
   ·rintro⟨j,f,e⟩;rcases Nat.lt_or_ge j m with h | h
    ·exact⟨j,h,e⟩
    ·have:j=m:=by omega
     subst this;exact⟨j-1,by omega,by rw[<-e,c.2]⟩
theorem RX (zs:List Int) (i j:Nat) (c:i<=j) (d:j<(Ca zs).toArray.size):(Ca zs).toArray[i]! <=(Ca zs).toArray[j]! :=by
 have b:j<(Ca zs).length:=by simpa using d
 rw[getElem!_pos _ i (by omega),getElem!_pos _ j d];rcases Nat.lt_or_eq_of_le c with h | h
 ·exact List.pairwise_iff_getElem.1 (bK zs) i j (by omega) b h
 ·subst h;exact Int.le_refl _
theorem RY (zs:List Int):(A4 zs).Pairwise (· < ·):=by
 have h:=RW (Ca zs).toArray (RX zs) (Ca zs).length (by simp);exact h.1
theorem Kt (zs:List Int) (x:Int):x∈A4 zs↔x∈zs:=by
 have h:=(RW (Ca zs).toArray (RX zs) (Ca zs).length (by simp)).2.1 x;show x∈compactUpTo (Ca zs).toArray (Ca zs).length↔_;rw[h,<-bJ zs x];constructor
 ·rintro⟨j,b,e⟩;rw[getElem!_pos _ j (by simpa using b)]at e;rw[<-e];exact List.getElem_mem _
 ·intro c;obtain⟨j,b,e⟩:=List.mem_iff_getElem.1 c;exact⟨j,b,by rw[getElem!_pos _ j (by simpa using b)];simpa using e⟩
theorem RZ:∀xs ys:List Int,xs.Pairwise (· < ·)->ys.Pairwise (· < ·)->(∀x,x∈xs↔x∈ys)->xs=ys
 | [], [],_,_,_=>rfl
 | [],y :: ys,_,_,h=>absurd ((h y).2 Qb) (by simp)
 | x :: xs, [],_,_,h=>absurd ((h x).1 Qb) (by simp)
 | x :: xs,y :: ys,hx,hy,h=>by
  obtain⟨c,f⟩:=Qn.1 hx;obtain⟨d,g⟩:=Qn.1 hy;have e:x=y:=by
   have a:=(h x).1 Qb;have b:=(h y).2 Qb;rcases Qc.1 a with a | a
   ·exact a
   ·rcases Qc.1 b with b | b
    ·exact b.symm
    ·have:=c y b;have:=d x a;omega
  subst e;rw[RZ xs ys f g fun z=>⟨fun hz=>by
   rcases Qc.1 ((h z).1 (Qg _ hz)) with q | q
   ·have:=c z hz;omega
   ·exact q,fun hz=>by
   rcases Qc.1 ((h z).2 (Qg _ hz)) with q | q
   ·have:=d z hz;omega
   ·exact q⟩]
theorem Sa {xs zs:List Int} (h:xs.Pairwise (· < ·)) (b:∀x,x∈xs↔x∈zs):A4 zs=xs :=
 RZ _ _ (RY zs) h fun x=>(Kt zs x).trans (b x).symm
theorem cD (zs:List Int):(A4 zs).length<=zs.length:=by
 have h:(A4 zs).length<=(Ca zs).length:=by
  unfold A4 Qo compactUpTo;rw[List.length_map];refine Nat.le_trans (List.length_filter_le _ _) ?_;simp
 rw[Nu]at h;exact h
theorem cE:A4 []= []:=Sa List.Pairwise.nil (fun _=>Iff.rfl)
theorem cF (zs:List Int):(A4 zs).Pairwise (fun x y=>AB.bad y x=Qa):=(RY zs).imp fun {a b} h=>by
 show decide (b<=a)=Qa;rw[decide_eq_false_iff_not];omega
abbrev B4 (s:List UInt8):List Int×Nat×Option Nat:=BP AB s
abbrev DK (zs:List Int):List UInt8:=J8 AB zs
end
section
open Go
abbrev Fl:=ByteArray×ByteArray×Int×Int×Int×Int
def Dn (n:Int):Bool:=decide (1<=n) && decide (n<=1073741824)
def AE (g:Bool):List UInt8:=if g then DY else DX
def Ek (s:List UInt8):Option Int:=match As s with
 | some n=>if Dn n then U n else O
 | none=>O
def A7 (s:List UInt8):Option (Bool×Int) :=
 if s.take 5=DX++ [47] then (Ek (s.drop 5)).map fun n=>(Qa,n) else
 if s.take 5=DY++ [47] then (Ek (s.drop 5)).map fun n=>(Z,n) else O
theorem cG:As []=O:=by
 cases h:As [] with
 | none=>rfl
 | some n =>
  have:=(Fb h).1;unfold I at this;split at this
  ·cases this
  ·exact absurd this (Nk _)
theorem cH (k w:List UInt8) (c:k.length=4):(k++47 :: w).take 5=k++ [47]/\(k++47 :: w).drop 5=w:=by
 have e:k++47 :: w=(k++ [47])++w:=by simp
 have b:(k++ [47]).length=5:=by simp[c]
 rw[e];exact⟨by rw[<-b,List.take_left],by rw[<-b,List.drop_left]⟩
theorem LM (g:Bool) (w:List UInt8):A7 (AE g++47 :: w)=(Ek w).map fun n=>(g,n):=by
 obtain⟨b,c⟩:=cH (AE g) w (by cases g<;>rfl)
 unfold A7;rw[b,c];cases g
 ·rw[if_pos (show AE Qa++ [47]=DX++ [47] from rfl)]
 ·rw[if_neg (by decide),if_pos (show AE Z++ [47]=DY++ [47] from rfl)]
theorem El {s:List UInt8} {g:Bool} {n:Int} (h:A7 s=U (g,n)):s=AE g++47 :: I n/\As (I n)=U n/\Dn n=Z:=by
 have f:∀(k:List UInt8) (b:Bool),s.take 5=k++ [47]->(Ek (s.drop 5)).map (fun m=>(b,m))=U (g,n)->b=g/\s=k++47 :: I n/\As (I n)=U n/\Dn n=Z:=fun k b d hp=>by
  obtain⟨m,c,o⟩:=Option.map_eq_some_iff.1 hp;obtain⟨rfl,rfl⟩:=o;unfold Ek at c;split at c
  ·rename_i x l;split at c
   ·rename_i p;obtain rfl:=Option.some.inj c;have i:=(Fb l).1;refine⟨rfl,?_,by rw[i];exact l,p⟩;rw[i]
    conv=>lhs;rw[<-List.take_append_drop 5 s,d]
    simp
   ·cases c
  ·cases c
 unfold A7 at h;split at h
 ·rename_i d;obtain⟨rfl,j⟩:=f _ _ d h;exact j
 ·split at h
  ·rename_i d;obtain⟨rfl,j⟩:=f _ _ d h;exact j
  ·cases h
theorem cI (s:List UInt8):A7 s=if (S s [47]).1=DX then (Ek (S s [47]).2.1).map fun n=>(Qa,n) else
  if (S s [47]).1=DY then (Ek (S s [47]).2.1).map fun n=>(Z,n) else O:=by
 rcases Hl 47 s with⟨k,l⟩|⟨a,b,rfl,k,l⟩
 ·rw[l];have m:Ek []=O:=by unfold Ek;rw[cG]
  have d:A7 s=O:=by
   cases h:A7 s with
   | none=>rfl
   | some p =>
    obtain⟨g,n⟩:=p;have:=(El h).1;exact absurd rfl (k 47 (by rw[this];simp))
  rw[d];dsimp only;rw[m];split
  ·rfl
  ·split<;>rfl
 ·rw[l];dsimp only;by_cases i:a=DX
  ·subst i;rw[if_pos rfl];exact LM Qa b
  ·rw[if_neg i];by_cases j:a=DY
   ·subst j;rw[if_pos rfl];exact LM Z b
   ·rw[if_neg j]
    cases h:A7 (a++47 :: b) with
    | none=>rfl
    | some p =>
     obtain⟨g,n⟩:=p;have e:=(El h).1;have o:∀c∈AE g,c≠47:=by cases g<;>decide
     have f:=Ko 47 a b k;rw[e,Ko 47 _ _ o]at f;simp only[Prod.mk.injEq,and_true]at f;cases g
     ·exact absurd f.1.symm i
     ·exact absurd f.1.symm j
def EL (s:List UInt8):List UInt8×Int×Nat:=match A7 s with
 | some (g,n)=>(AE g,n,0)
 | none=>([],0,5)
def Do (g:Bool) (s:List UInt8):Bool:=if g then decide (s= [45]) else DC 12 s
def De (f:Fl):Bool:=decide (1<=f.2.2.1) && decide (f.2.2.1<=40) && Ao f.2.2.2.1 && Ao f.2.2.2.2.1 && decide (f.2.2.2.1<=f.2.2.2.2.1) && Dn f.2.2.2.2.2
def At (f:Fl):Nat:=match A7 f.1.data.toList with
 | none=>5
 | some (g,_)=>if Do g f.2.1.data.toList then (if De f then 0 else 2) else 4
def Cb (f:Fl):List UInt8:=f.1.data.toList++32 :: (f.2.1.data.toList++32 :: (I f.2.2.1++32 :: (I f.2.2.2.1++32 :: (I f.2.2.2.2.1++32 :: I f.2.2.2.2.2))))
def LN (f:Fl):ByteArray:=if At f=0 then Ab (Cb f) else Ab []
def B7:Fl:=(Ab [],Ab [],0,0,0,0)
def DZ (f:Fl):Fl×Nat:=if At f=0 then (f,0) else (B7,At f)
def BV (s:List UInt8):Fl×Nat:=match AY s with
 | [p,q,a,b,c,d]=>(match As a,As b,As c,As d with
  | some n,U lo,U hi,U seq=>DZ (Ab p,Ab q,n,lo,hi,seq)
  | _,_,_,_=>(B7,1))
 | _=>(B7,1)
def Bf (g:Bool) (s:List UInt8):List Int×Nat:=if g then ((B4 s).1,(B4 s).2.1) else (BB (Bw s).1,(Bw s).2.1)
def Bx (path part:ByteArray) (s:List UInt8) (seq:Int):Fl×Nat:=match A7 path.data.toList with
 | none=>(B7,5)
 | some (g,_)=>if (Bf g s).2=0 then DZ (path,part,(Bf g s).1.length,(Ap (Bf g s).1).1,(Ap (Bf g s).1).2,seq) else (B7,(Bf g s).2)
theorem D0 {f:Fl} (h:At f=0):∃g n,A7 f.1.data.toList=U (g,n)/\Do g f.2.1.data.toList=Z/\De f=Z:=by
 unfold At at h;split at h
 ·cases h
 ·rename_i g n b;split at h
  ·rename_i c;split at h
   ·rename_i d;exact⟨g,n,b,c,d⟩
   ·cases h
  ·cases h
theorem cJ {n:Int} (h:Dn n=Z):Ao n=Z:=by
 simp only[Dn,Ao,Qe,decide_eq_true_eq]at h ⊢;omega
theorem LP {f:Fl} (h:De f=Z):Ao f.2.2.1=Z/\Ao f.2.2.2.1=Z/\Ao f.2.2.2.2.1=Z/\Ao f.2.2.2.2.2=Z:=by
 simp only[De,Qe]at h;refine⟨?_,h.1.1.1.2,h.1.1.2,cJ h.2⟩;have b:=h.1.1.1.1;simp only[decide_eq_true_eq]at b;simp only[Ao,Qe,decide_eq_true_eq];omega
theorem cK {s:List UInt8} {g:Bool} {n:Int} (h:A7 s=U (g,n)):∀c∈s,c≠32:=by
 intro c b;rw[(El h).1,Qf,Qc]at b;rcases b with b | rfl | b
 ·exact(show ∀c∈AE g,c≠32 by cases g<;>decide) c b
 ·decide
 ·exact DI n c b
theorem cL {s:List UInt8} {g:Bool} (h:Do g s=Z):∀c∈s,c≠32:=by
 unfold Do at h;cases g
 ·exact aI (by simpa using h)
 ·simp only[if_true,decide_eq_true_eq]at h;subst h;decide
theorem cM {f:Fl} (h:At f=0):AY (Cb f)= [f.1.data.toList,f.2.1.data.toList,I f.2.2.1,I f.2.2.2.1,I f.2.2.2.2.1,I f.2.2.2.2.2]:=by
 obtain⟨g,n,b,c,_⟩:=D0 h;unfold Cb;rw[Dm _ _ (cK b),Dm _ _ (cL c),Dm _ _ (DI _),Dm _ _ (DI _),Dm _ _ (DI _),ID _ (DI _)]
theorem cN {f:Fl} (h:At f=0):BV (Cb f)=(f,0):=by
 obtain⟨g,n,k,l,b⟩:=D0 h;obtain⟨c,d,i,j⟩:=LP b;unfold BV;rw[cM h];dsimp only;rw[F9 _ c,F9 _ d,F9 _ i,F9 _ j,Dy,Dy];dsimp only;unfold DZ;have e:((f.1,f.2.1,f.2.2.1,f.2.2.2.1,f.2.2.2.2.1,f.2.2.2.2.2):Fl)=f:=rfl;rw[e,if_pos h]
theorem Sb {zs:List Int} (h:zs≠ []):Qq zs=(Ap zs).1/\Qr zs=(Ap zs).2:=by
 have b:∀(r:List Int) (z:Int),r.foldl min z=r.foldl (fun a k=>if k<a then k else a) z:=fun r=>by
  induction r with
  | nil=>intro z;rfl
  | cons k r ih =>
   intro z;rw[Qi,Qi,ih];congr 1;rw[Int.min_def];split<;>split<;>omega
 have c:∀(r:List Int) (z:Int),r.foldl max z=r.foldl (fun a k=>if a<k then k else a) z:=fun r=>by
  induction r with
  | nil=>intro z;rfl
  | cons k r ih =>
   intro z;rw[Qi,Qi,ih];congr 1;rw[Int.max_def];split<;>split<;>omega
 cases zs with
 | nil=>exact absurd rfl h
 | cons z r =>
  unfold Qq Qr;simp only[List.headD_cons,Qi,Int.min_self,Int.max_self];exact⟨b r z,c r z⟩
def pk (s:List UInt8):Int:=match A7 s with
 | some (g,n)=>if g then 1073741824+n else n
 | none=>0
theorem JB {s:List UInt8} {g:Bool} {n:Int} (h:A7 s=U (g,n)):pk s=(if g then 1073741824+n else n)/\1<=n/\n<=1073741824:=by
 have b:=(El h).2.2;simp only[Dn,Qe,decide_eq_true_eq]at b;exact⟨by unfold pk;rw[h],b⟩
theorem Sc {s:List UInt8} (h:A7 s≠O):0<pk s:=by
 cases b:A7 s with
 | none=>exact absurd b h
 | some p =>
  obtain⟨g,n⟩:=p;obtain⟨e,c,d⟩:=JB b;rw[e];split<;>omega
theorem cO {s t:List UInt8} (j:A7 s≠O) (l:A7 t≠O) (h:pk s=pk t):s=t:=by
 cases b:A7 s with
 | none=>exact absurd b j
 | some p =>
  cases c:A7 t with
  | none=>exact absurd c l
  | some q =>
   obtain⟨g,n⟩:=p;obtain⟨k,m⟩:=q;obtain⟨f,o,r⟩:=JB b;obtain⟨i,u,v⟩:=JB c;rw[f,i]at h;have d:g=k/\n=m:=by
    cases g<;>cases k<;>simp only[if_true,Qj,if_false]at h
    ·exact⟨rfl,h⟩
    ·omega
    ·omega
    ·exact⟨rfl,by omega⟩
   rw[(El b).1,(El c).1,d.1,d.2]
def fk (f:Fl):Int:=pk f.1.data.toList
theorem Ho {f:Fl} (h:At f=0):A7 f.1.data.toList≠O:=by
 obtain⟨g,n,b,_⟩:=D0 h;rw[b];simp
theorem cP {f:Fl} (h:At f=0):0<fk f:=Sc (Ho h)
def EN:Int->List Fl->Nat->Nat×Option Nat
 | _, [],_=>(0,O)
 | prev,f :: r,i=>if At f≠0 then (At f,U i) else if fk f<=prev then (9,U i) else EN (fk f) r (i+1)
def BF (fs:List Fl):Nat×Option Nat:=if 60<fs.length then (8,O) else EN 0 fs 0
def Fc (prev:Int) (fs:List Fl):Prop:=(∀f∈fs,At f=0/\prev<fk f)/\fs.Pairwise fun f g=>fk f<fk g
theorem cQ {c:Int} {f:Fl} {r:List Fl} :Fc c (f :: r)↔At f=0/\c<fk f/\Fc (fk f) r:=by
 unfold Fc;rw[Qn];constructor
 ·rintro⟨d,j,i⟩;have k:=d f Qb;exact⟨k.1,k.2,fun g b=>⟨(d g (Qg _ b)).1,j g b⟩,i⟩
 ·rintro⟨d,j,i,l⟩;refine⟨fun g b=>?_,fun g b=>(i g b).2,l⟩;rw[Qc]at b;rcases b with rfl | b
  ·exact⟨d,j⟩
  ·have:=i g b;exact⟨this.1,by omega⟩
theorem Sd:∀(fs:List Fl) (prev:Int) (i:Nat),(EN prev fs i).1=0↔Fc prev fs
 | [],prev,i=>by simp[EN,Fc]
 | f :: r,prev,i=>by
  have c:=Sd r (fk f) (i+1);unfold EN;rw[cQ];split
  ·rename_i h;simp[h]
  ·rename_i h;have b:At f=0:=by simpa using h
   split
   ·rename_i d;simp[b];omega
   ·rename_i d;rw[c];simp[b];omega
theorem GJ {b:List Fl} :(BF b).1=0↔b.length<=60/\Fc 0 b:=by
 unfold BF;split
 ·rename_i h;simp;omega
 ·rename_i h;rw[Sd];simp;omega
def AL (fs:List Fl):List UInt8:=fs.flatMap fun f=>Cb f++ [10]
def Bz:FK Fl:=⟨[],BV,fun x y=>decide (fk x<=fk y),fk,Cb,fun f=>At f=0,B7⟩
theorem cR {f:Fl} (h:At f=0):∀c∈Cb f,c≠10:=by
 obtain⟨g,n,k,d,_⟩:=D0 h;intro c b;unfold Cb at b;have i:∀c∈f.2.1.data.toList,c≠10:=by
  intro c b;unfold Do at d;cases g
  ·simp only[Qj,if_false,DC,Qe,List.all_eq_true]at d;intro e;subst e;have:=d.2 _ b;simp[Cw]at this
  ·simp only[if_true,decide_eq_true_eq]at d;rw[d]at b;simp at b;subst b;decide
 have j:∀c∈f.1.data.toList,c≠10:=by
  intro c b;rw[(El k).1,Qf,Qc]at b;rcases b with b | rfl | b
  ·exact(show ∀c∈AE g,c≠10 by cases g<;>decide) c b
  ·decide
  ·exact E8 n c b
 simp only[Qf,Qc]at b;rcases b with b | rfl | b | rfl | b | rfl | b | rfl | b | rfl | b
 ·exact j c b
 ·decide
 ·exact i c b
 ·decide
 ·exact E8 _ c b
 ·decide
 ·exact E8 _ c b
 ·decide
 ·exact E8 _ c b
 ·decide
 ·exact E8 _ c b
theorem Se:∀fs:List Fl,(∀f∈fs,At f=0)->Av 10 (AL fs)=fs.map Cb++ [[]]
 | [],_=>rfl
 | f :: r,h=>by
  have e:AL (f :: r)=Cb f++10 :: AL r:=by simp[AL]
  rw[e,Hk 10 _ _ (cR (h f Qb)),Se r (fun g hg=>h g (Qg _ hg))];rfl
def Co (s:List UInt8):List Fl×Nat×Option Nat :=
 if 60<(if (Av 10 s).getLastD []= [] then (Av 10 s).length-1 else (Av 10 s).length) then ([],8,O) else
 if (AP Bz (Av 10 s) 0 []).2.1≠0 then ([],(AP Bz (Av 10 s) 0 []).2.1,U (AP Bz (Av 10 s) 0 []).2.2) else ((AP Bz (Av 10 s) 0 []).1,0,O)
theorem Sf:∀(fs acc:List Fl) (at_:Nat),(∀f∈fs,At f=0)->(acc++fs).Pairwise (fun f g=>fk f<fk g)->AP Bz (fs.map Cb++ [[]]) at_ acc=(acc++fs,0,0)
 | [],acc,at_,_,_=>by simp[AP]
 | f :: r,acc,at_,h,hp=>by
  have j:Bz.rd (Cb f)=(f,0):=cN (h f Qb);have b:r.map Cb++ [[]]≠ []:=by simp
  obtain⟨n,q,e⟩:=List.exists_cons_of_ne_nil b;rw[List.map_cons,List.cons_append,e,J9,j,if_neg (by simp)];have c:¬(acc≠ []/\Bz.bad f (acc.getLastD Bz.d)=Z):=by
   rintro⟨i,l⟩;have k:acc.getLastD Bz.d∈acc:=by
    rw[Qs,List.getLast?_eq_some_getLast i];exact List.getLast_mem i
   have:=(Qp.1 hp).2.2 _ k f Qb;have m:fk f<=fk (acc.getLastD Bz.d):=of_decide_eq_true l;omega
  dsimp only;rw[if_neg c,<-e];have:=Sf r (acc++ [f]) (at_+1) (fun y hy=>h y (Qg _ hy)) (by simpa using hp);simpa using this
theorem cS {b:List Fl} (h:(BF b).1=0):Co (AL b)=(b,0,O):=by
 obtain⟨k,i,j⟩:=GJ.1 h;have c:∀f∈b,At f=0:=fun f hf=>(i f hf).1;have d:=Sf b [] 0 c (by simpa using j);unfold Co;rw[Se b c,d];have g:(b.map Cb++ [[]]).getLastD []= []:=by simp[Qs]
 rw[g,if_pos rfl,if_neg (by simp;omega),if_neg (by simp)];rfl
def Fd (fs:List Fl) (f:Fl):List Fl:=fs.takeWhile (fun g=>decide (fk g<fk f))++f :: fs.dropWhile (fun g=>decide (fk g<fk f))
abbrev Sn:=Int×Int×Int×Int×Int×ByteArray×List Fl
def Ku:List UInt8:= [115,116,97,114,116]
def IM:List UInt8:= [97,112,112,101,110,100]
def Oi0:List UInt8:= [100,101,108,101,116,101]
def IP:List UInt8:= [114,101,119,114,105,116,101]
def FC:List UInt8:= [115,110,97,112]
def Cp (s:List UInt8):Bool:=decide (s=Ku) || decide (s=IM) || decide (s=Oi0) || decide (s=IP)
theorem N3 {s:List UInt8} (h:Cp s=Z):s=Ku\/s=IM\/s=Oi0\/s=IP:=by
 simp only[Cp,Bool.or_eq_true,decide_eq_true_eq]at h;rcases h with((h | h) | h) | h
 ·exact Qh h
 ·exact Qd (Qh h)
 ·exact Qd (Qd (Qh h))
 ·exact Qd (Qd (Qd h))
theorem Sg {s:List UInt8} (h:Cp s=Z):s.length<=7:=by
 rcases N3 h with rfl | rfl | rfl | rfl<;>decide
theorem cT {s:List UInt8} (h:Cp s=Z):∀c∈s,c≠32:=by
 rcases N3 h with rfl | rfl | rfl | rfl<;>decide
theorem cU {s:List UInt8} (h:Cp s=Z):∀c∈s,c≠10:=by
 rcases N3 h with rfl | rfl | rfl | rfl<;>decide
def Em (s:Sn):Bool:=decide (1<=s.1) && decide (s.1<=1073741824) && decide (0<=s.2.1) && decide (s.2.1<s.1) && decide (0<=s.2.2.1) && decide (s.2.2.1<=1073741824) && decide (0<=s.2.2.2.1) && decide (s.2.2.2.1<=100000) && decide (0<=s.2.2.2.2.1) && decide (s.2.2.2.2.1<=1073741824)
theorem IQ {s:Sn} :Em s=Z↔((1<=s.1/\s.1<=1073741824)/\(0<=s.2.1/\s.2.1<s.1))/\((0<=s.2.2.1/\s.2.2.1<=1073741824)/\(0<=s.2.2.2.1/\s.2.2.2.1<=100000))/\0<=s.2.2.2.2.1/\s.2.2.2.2.1<=1073741824:=by
 simp only[Em,Qe,decide_eq_true_eq];constructor
 ·rintro⟨⟨⟨⟨⟨⟨⟨⟨⟨a,b⟩,c⟩,d⟩,e⟩,f⟩,g⟩,h⟩,i⟩,j⟩;exact⟨⟨⟨a,b⟩,c,d⟩,⟨⟨e,f⟩,g,h⟩,i,j⟩
 ·rintro⟨⟨⟨a,b⟩,c,d⟩,⟨⟨e,f⟩,g,h⟩,i,j⟩;exact⟨⟨⟨⟨⟨⟨⟨⟨⟨a,b⟩,c⟩,d⟩,e⟩,f⟩,g⟩,h⟩,i⟩,j⟩
def Eo (seq:Int):List Fl->Nat->Nat×Option Nat
 | [],_=>(0,O)
 | f :: r,i=>if seq<f.2.2.2.2.2 then (9,U i) else Eo seq r (i+1)
def Am (s:Sn):Nat×Option Nat :=
 if Em s=Qa then (2,O) else if Cp s.2.2.2.2.2.1.data.toList=Qa then (4,O) else
 if (BF s.2.2.2.2.2.2).1≠0 then BF s.2.2.2.2.2.2 else Eo s.2.2.1 s.2.2.2.2.2.2 0
theorem Sh (b:Int):∀(fs:List Fl) (i:Nat),Eo b fs i=(0,O)\/∃j,Eo b fs i=(9,U j)
 | [],_=>Qh rfl
 | f :: r,i=>by
  unfold Eo;split
  ·exact Qd ⟨i,rfl⟩
  ·exact Sh b r (i+1)
theorem GK {s:Sn} (h:(Am s).1=0):Em s=Z/\Cp s.2.2.2.2.2.1.data.toList=Z/\(BF s.2.2.2.2.2.2).1=0/\Am s=(0,O):=by
 unfold Am at h ⊢;by_cases c:Em s=Qa
 ·rw[if_pos c]at h;cases h
 ·rw[if_neg c]at h ⊢;by_cases d:Cp s.2.2.2.2.2.1.data.toList=Qa
  ·rw[if_pos d]at h;cases h
  ·rw[if_neg d]at h ⊢;by_cases b:(BF s.2.2.2.2.2.2).1≠0
   ·rw[if_pos b]at h;exact absurd h b
   ·rw[if_neg b]at h ⊢;refine⟨by simpa using c,by simpa using d,by simpa using b,?_⟩;rcases Sh s.2.2.1 s.2.2.2.2.2.2 0 with e | ⟨j,e⟩
    ·exact e
    ·rw[e]at h;cases h
def DD (s:Sn) (sum:Int):List UInt8:=FC++32 :: (I s.1++32 :: (I s.2.1++32 :: (I s.2.2.1++32 :: (I s.2.2.2.1++32 :: (I s.2.2.2.2.1++32 :: (s.2.2.2.2.2.1.data.toList++32 :: I sum))))))
def BC (s:Sn):List UInt8:=DD s (Ba (AL s.2.2.2.2.2.2))++10 :: AL s.2.2.2.2.2.2
theorem cV {s:Sn} (h:Cp s.2.2.2.2.2.1.data.toList=Z) (d:Int):∀c∈DD s d,c≠10:=by
 intro c b;simp only[DD,Qf,Qc]at b;rcases b with b | rfl | b | rfl | b | rfl | b | rfl | b | rfl | b | rfl | b | rfl | b
 ·exact(show ∀c∈FC,c≠10 by decide) c b
 ·decide
 ·exact E8 _ c b
 ·decide
 ·exact E8 _ c b
 ·decide
 ·exact E8 _ c b
 ·decide
 ·exact E8 _ c b
 ·decide
 ·exact E8 _ c b
 ·decide
 ·exact cU h c b
 ·decide
 ·exact E8 _ c b
theorem cW {s:Sn} (h:Cp s.2.2.2.2.2.1.data.toList=Z) (b:Int):AY (DD s b)= [FC,I s.1,I s.2.1,I s.2.2.1,I s.2.2.2.1,I s.2.2.2.2.1,s.2.2.2.2.2.1.data.toList,I b]:=by
 unfold DD;rw[Dm _ _ (by decide),Dm _ _ (DI _),Dm _ _ (DI _),Dm _ _ (DI _),Dm _ _ (DI _),Dm _ _ (DI _),Dm _ _ (cT h),ID _ (DI _)]
def AC:Sn:=(0,0,0,0,0,Ab [], [])
def Hp (w1 w2 w3 w4 w5 w7:List UInt8):Option (Int×Int×Int×Int×Int×Int):=match As w1,As w2,As w3,As w4,As w5,As w7 with
 | some a,U b,U c,U d,U e,U g=>U (a,b,c,d,e,g)
 | _,_,_,_,_,_=>O
def Fe (l:List UInt8):Option (Int×Int×Int×Int×Int×List UInt8×Int):=match AY l with
 | [k,w1,w2,w3,w4,w5,op,w7]=>match Hp w1 w2 w3 w4 w5 w7 with
  | some (a,b,c,d,e,g)=>if k=FC then U (a,b,c,d,e,op,g) else O
  | none=>O
 | _=>O
def Hq (l:List UInt8):Sn×Nat×Option Nat :=
 if 20000<l.length then (AC,2,O) else
 if (S l [10]).2.2=Qa then (AC,1,O) else
 match Fe (S l [10]).1 with
 | none=>(AC,1,O)
 | some (a,b,c,d,e,op,g)=>if g≠Ba (S l [10]).2.1 then (AC,10,O) else
  if (Co (S l [10]).2.1).2.1≠0 then (AC,(Co (S l [10]).2.1).2) else
  if (Am (a,b,c,d,e,Ab op,(Co (S l [10]).2.1).1)).1≠0 then (AC,Am (a,b,c,d,e,Ab op,(Co (S l [10]).2.1).1)) else
  ((a,b,c,d,e,Ab op,(Co (S l [10]).2.1).1),0,O)
theorem cX {s:Sn} (h:(Am s).1=0) (l:Int) (o:0<=l/\l<4294967296):Fe (DD s l)=U (s.1,s.2.1,s.2.2.1,s.2.2.2.1,s.2.2.2.2.1,s.2.2.2.2.2.1.data.toList,l):=by
 obtain⟨m,n,_⟩:=GK h;obtain⟨⟨⟨a,b⟩,c,d⟩,⟨⟨e,f⟩,g,i⟩,j,k⟩:=IQ.1 m;unfold Fe Hp;rw[cW n];simp only[EJ s.1 (by omega) (by omega),EJ s.2.1 (by omega) (by omega),EJ s.2.2.1 (by omega) (by omega),EJ s.2.2.2.1 (by omega) (by omega),EJ s.2.2.2.2.1 (by omega) (by omega),EJ l (by omega) (by omega),if_true]
theorem FD {n:Int} (b: -1073741824<=n) (c:n<=4294967296):(I n).length<=11:=(Fb (EJ n b c)).2
theorem Si {f:Fl} (h:At f=0):(Cb f).length<=100:=by
 obtain⟨g,n,c,b,d⟩:=D0 h;have m:f.1.data.toList.length<=16:=by
  rw[(El c).1];have:=(Fb (El c).2.1).2;cases g<;>simp [AE,DX,DY]<;>omega
 have o:f.2.1.data.toList.length<=12:=by
  unfold Do at b;cases g
  ·simp only[Qj,if_false,DC,Qe,decide_eq_true_eq]at b;omega
  ·simp only[if_true,decide_eq_true_eq]at b;rw[b];decide
 obtain⟨i,j,k,l⟩:=LP d;have p:=(Fb (F9 _ i)).2;have q:=(Fb (F9 _ j)).2;have r:=(Fb (F9 _ k)).2;have s:=(Fb (F9 _ l)).2;unfold Cb;simp only[Qk,Ql];omega
theorem Sj:∀fs:List Fl,(∀f∈fs,At f=0)->(AL fs).length<=101*fs.length
 | [],_=>by simp[AL]
 | f :: r,h=>by
  have b:=Si (h f Qb);have c:=Sj r (fun g hg=>h g (Qg _ hg));have e:AL (f :: r)=Cb f++10 :: AL r:=by simp[AL]
  rw[e];simp only[Qk,Ql];omega
theorem N4 {s:Sn} (h:(Am s).1=0):(DD s (Ba (AL s.2.2.2.2.2.2))).length<=100/\(AL s.2.2.2.2.2.2).length<=6060:=by
 obtain⟨l,m,o,_⟩:=GK h;obtain⟨⟨⟨a,b⟩,c,d⟩,⟨⟨e,f⟩,g,i⟩,j,k⟩:=IQ.1 l;obtain⟨q,p⟩:=GJ.1 o;have r:=Hn (AL s.2.2.2.2.2.2);have t:=Sj s.2.2.2.2.2.2 (fun f hf=>(p.1 f hf).1);have u:=FD (n:=s.1) (by omega) (by omega);have v:=FD (n:=s.2.1) (by omega) (by omega);have y:=FD (n:=s.2.2.1) (by omega) (by omega);have z:=FD (n:=s.2.2.2.1) (by omega) (by omega);have B:=FD (n:=s.2.2.2.2.1) (by omega) (by omega);have C:=FD (n:=(Ba (AL s.2.2.2.2.2.2):Int)) (by omega) (by omega);have D:=Sg m;refine⟨?_,by omega⟩;unfold DD;simp only[Qk,Ql];have:FC.length=4:=rfl;omega
theorem N5 {s:Sn} (h:(Am s).1=0):Hq (BC s)=(s,0,O):=by
 obtain⟨j,f,g,k⟩:=GK h;obtain⟨l,m⟩:=N4 h;have i:=Hn (AL s.2.2.2.2.2.2);have b:=Ko 10 (DD s (Ba (AL s.2.2.2.2.2.2))) (AL s.2.2.2.2.2.2) (cV f _);have c:(BC s).length<=20000:=by
  unfold BC;simp only[Qk,Ql];omega
 have e:S (BC s) [10]=(DD s (Ba (AL s.2.2.2.2.2.2)),AL s.2.2.2.2.2.2,Z):=b;unfold Hq;rw[if_neg (by omega),e];dsimp only;rw[if_neg (by simp),cX h _ (by omega)];dsimp only;rw[cS g];dsimp only;have d:(s.1,s.2.1,s.2.2.1,s.2.2.2.1,s.2.2.2.2.1,Ab s.2.2.2.2.2.1.data.toList,s.2.2.2.2.2.2)=s:=by rw[Dy]
 rw[if_neg (by simp),if_neg (by simp),d,if_neg (by simpa using h)]
end
end Go.Proofs.YtcllhobffhkafaaGreatDoor
