/- By an AI agent. -/
import Derived.ProofKit
import Derived.Deep.Strs
import Derived.HandedShaped
import Derived.Test.YtcllhobffhkafaaGreatDoorLkbPure
import Derived.Test.YtcllhobffhkafaaGreatDoorRows
import Derived.ChangeSame
import Derived.ChangeVars
import Derived.JoinedOf
import Derived.RowKit
import Derived.LaidLaws
import Derived.LaidHandle
import Derived.Stop.Joined
import Derived.Stop.LaidErr
import Derived.Lay
import Derived.MakeChecks
import Derived.Shelf.Vars
import Derived.Test.YtcllhobffhkafaaGreatDoorCards
import Derived.SevenTiedAt
set_option maxRecDepth 100000
set_option maxHeartbeats 16000000
open Go.Proofs.Tryz
open Bool renaming false->G,true->Qd
open Go renaming Value->I,World->S,DataW->J,maxLen->Qg,MemPlace->Qh,TypeId->Qi,laidMet->Qj,Addr->Qp,handlesMet->Qw,laidMetH->Q1
open Go.Addr renaming add_lit->Qs,add->Qy
open Go.DataW renaming trod->Qc,trod_int->Qq,trod_string->Q2
open Go.Proofs.Tryz renaming prog->U,underlying9->A,underlying27->V,underlying410->Qa,underlying412->Qb,underlying3->Ql,underlying35->Q3,underlying32->Q5
open Go.Value renaming int->Qf,string->Qk,slice->Qm,iface->Qn,pointer->Qo,okWide->Q6
open Go.World renaming var?_cell->Q0,cells?_some->Q4
open List renaming range->Qr,mem_map->Qv,mem_range->Qz,mem_singleton->Q7,contains_iff_mem->Q8
open List.cons renaming injEq->Qe
open Nat renaming add_assoc->Qt,eq_zero_or_pos->Qx
open Option renaming some->O,none->Z
open Option.some renaming inj->Qu,injEq->Q9
namespace Go.Proofs.YtcllhobffhkafaaGreatDoor
section
open Go.ChangeAt Go.ChangeShapes Go.Deep Go.RowKit Go.WideShapes
theorem Tryz.cellsRow:Tryz.prog.cellsOf 62=3:=by kernel_rfl
theorem Tryz.cellsInt:Tryz.prog.cellsOf 3=1:=by kernel_rfl
theorem Tryz.cellsString:Tryz.prog.cellsOf 9=1:=by kernel_rfl
theorem RD {W:S} {a:Qp} {v:I} (h:W.cell? a=O v):a.spot=Z:=by
 unfold World.cell? at h;split at h
 ·split at h
  ·cases h
  ·rename_i b;simpa using b
 ·cases h
theorem RG {n:Int} (h:(Lit.int .i64 n).wf=Qd): -9223372036854775808<=n/\n<=9223372036854775807:=by
 simpa [Lit.wf,IntKind.min,IntKind.max,IntKind.signed,IntKind.bits] using h
section
variable {H : Type} {enc : Qi × I → H} {W : S} {base : Nat} {spare : Nat → Bool} {held : Bool}
theorem zh3 {b:Nat} {c:List I} {x:J H×List Qh} (h:Qc enc U W base spare held b 62 c=O x) :
  ∃r:Rw,c= [.string r.1,.int .i64 r.2.1,.int .i64 r.2.2]/\r.1.size<=Qg/\NY r:=by
 obtain⟨q,t,u,n,_,d,f,g,i⟩:=trod_struct3 underlying62 h;rw[Tryz.cellsRow]at d
 match c,d with
 | [c0,c1,c2],_ =>
  simp only[Tryz.cellsInt,Tryz.cellsString,List.drop_zero,List.drop_succ_cons,List.take_succ_cons,List.take_zero]at f g i;obtain⟨s,j,_,o⟩:=Q2 A f;obtain⟨k,l,_,p⟩:=Qq Ql g;obtain⟨v,m,_,_⟩:=Qq Ql i;simp only[Qe,and_true]at j l m;exact⟨(s,k,v),by rw[j,l,m],o,RG p⟩
theorem zh4 {t:Nat} {v:I} {x:J H×List Qh} (h:Qc enc U W base spare held t 35 [v]=O x) :
  ∃xs:List Rw,Ap W v xs/\xs.length<=Qg/\∀r∈xs,NY r:=by
 rcases open_slice Q3 h with⟨e,_⟩|⟨a,d,F,m,n,D,X,e,_,Y,hm,K,_,L⟩
 ·simp only[Qe,and_true]at e;exact⟨[],Or.inl ⟨Z,0,e,rfl⟩,by decide,fun _ h=>by cases h⟩
 ·simp only[Qe,and_true]at e;rw[Tryz.cellsRow]at L;have R:d<=m:=by rw[K];split<;>omega
  have l:∀i,i<d->∃r:Rw,(W.cell? (a.add (i*3))=O (.string r.1)/\W.cell? (a.add (i*3+1))=O (.int .i64 r.2.1)/\W.cell? (a.add (i*3+2))=O (.int .i64 r.2.2))/\NY r:=fun i E=>by
   obtain⟨T,M,N⟩:=L i (by omega);obtain⟨_,_,c⟩:=Q4 M;obtain⟨r,g,_,P⟩:=zh3 N;subst g;have u:=c 0 (by omega);have y:=c 1 (by omega);have z:=c 2 (by omega);rw[add_add]at u y z;exact⟨r,⟨by simpa using u,by simpa using y,by simpa using z⟩,P⟩
  obtain⟨f,q⟩:=choose_lt l;rcases Qx d with Q | s
  ·subst Q;exact⟨[],Or.inl ⟨_,_,e,rfl⟩,by decide,fun _ h=>by cases h⟩
  ·have B:=RD (q 0 s).1.1;have p:a.spot=Z:=by
    cases a with | mk b o k=>cases k<;>simp [Qy]at B ⊢
   obtain⟨b,o,k⟩:=a;subst p;refine⟨(Qr d).map f,Or.inr ⟨b,o,F,by simpa using e,fun j hj=>?_⟩,by simp;omega,fun r g=>?_⟩
   ·have C:j<d:=by simpa using hj
    have:=(q j C).1;rw[Qs,Qs,Qs]at this;simpa [Qt] using this
   ·simp only[Qv,Qz]at g;obtain⟨i,E,rfl⟩:=g;exact(q i E).2
theorem zh5 {r:Nat} {v:I} {x:J H×List Qh} (h:Qc enc U W base spare held r 32 [v]=O x) :
  ∃zs:List Int,A4 W v zs/\zs.length<=Qg:=by
 rcases open_slice1 Q5 Tryz.cellsInt h with⟨e,_⟩|⟨a,d,B,m,n,c,D,N,e,_,P,Q,C,_,K⟩
 ·simp only[Qe,and_true]at e;exact⟨[],Or.inl ⟨Z,0,e,rfl⟩,by decide⟩
 ·simp only[Qe,and_true]at e;have M:d<=m:=by rw[C];split<;>omega
  have l:∀i,i<d->∃z:Int,W.cell? (a.add i)=O (.int .i64 z):=fun i hi=>by
   obtain⟨E,F⟩:=K i (by omega);obtain⟨k,u,_,_⟩:=Qq Ql F;simp only[Qe,and_true]at u;exact⟨k,by rw[E,u]⟩
  obtain⟨f,y⟩:=choose_lt l;rcases Qx d with L | q
  ·subst L;exact⟨[],Or.inl ⟨_,_,e,rfl⟩,by decide⟩
  ·have s:=RD (y 0 q);have p:a.spot=Z:=by
    cases a with | mk b o g=>cases g<;>simp [Qy]at s ⊢
   obtain⟨b,o,g⟩:=a;subst p;refine⟨(Qr d).map f,Or.inr ⟨b,o,B,by simpa using e,fun j hj=>?_⟩,by simp;omega⟩;have t:j<d:=by simpa using hj
   have:=y j t;rw[Qs]at this;simpa using this
end
theorem bP {H:Type} {enc:Qi×I->H} {a:Assume} {C:Checked} {os:Os} {f:FuncId} {d:Func} {s:ChangeSpec} {k:List PathCond} {b l c m:Bool} {X:S->Array I->Prop}
  (F:∀(w w':S) (args:Array I),w.heap=w'.heap->X w args->X w' args)
  (z:ownKnob C.prog.godebug=Z) (n:os.Started) (p:C.prog.inits.idxOf? f=Z) (B:C.prog.funcs[f]? =O d)
  (o:∃(w:S) (tape:Tape) (i:Input),w.os=os/\(w.forCall tape i).Shaped C.prog/\i.vars= []/\Input.okWide C.prog (w.forCall tape i) .any w.heap.size f i /\
   ((s.pre enc C.prog d k b (w.forCall tape i).memory i.args/\X (w.forCall tape i).memory i.args)/\sizedMet enc C.prog d (OpenSpec.ofChange s) b (w.forCall tape i).memory i.args)/\a.holds C.prog (lone (Frame.enter C.prog f i.args .normal) [] (w.forCall tape i)))
  (g:∀(W:S) (base:Nat) (args:Array I) (ds gs:List (J H)) (before:List Qh),
   (∀(j:Nat) t v,d.params[j]? =O t->args[j]? =O v->Q6 C.prog W .any base t v) ->
   DataW.Whole enc C.prog d.params.toList s.vars b W args.toList ds gs before->W.ShapedOpen C.prog->X W args ->
   Calls C.prog f args W fun e W'=> ∃v,e= .returned v/\s.post enc C.prog d b l c m W args v W') :
  ReturnsInHanded a C os f .any (fun w args=>(s.pre enc C.prog d k b w args/\X w args)/\sizedMet enc C.prog d (OpenSpec.ofChange s) b w args) (s.post enc C.prog d b l c m):=by
 refine returnsInHanded_of_calls z n p o fun w tape i _ hsh _ hok hpre _=>?_;obtain⟨_,_,_,K,q,_,_,_,_,r⟩:=hok;cases Qu (q.symm.trans B)
 obtain⟨⟨⟨ds,gs,before,D,_⟩,E⟩,_⟩:=hpre;have u:=DataW.Whole.of_heap (w':=w.forCall tape i) (by rfl) D;have y:=F _ (w.forCall tape i) _ (by rfl) E;refine(g (w.forCall tape i) w.heap.size i.args ds gs before r u hsh y).mono fun e W' ⟨v,he,hp⟩=>?_;subst he;exact ChangeSpec.post_blind hp
end
section
open Go.ChangeAt Go.ChangeShapes Go.Deep Go.Lib Go.RowKit Go.Shelf Go.WideShapes
theorem Tryz.cellsAk:Tryz.prog.cellsOf 37=5:=by kernel_rfl
theorem Tryz.cellsRowsL:Tryz.prog.cellsOf 35=1:=by kernel_rfl
theorem Tryz.cellsKeysL:Tryz.prog.cellsOf 32=1:=by kernel_rfl
theorem bQ {α:Type} {l:List α} (h:l.length=5):∃a b c d e,l= [a,b,c,d,e]:=by
 match l,h with
 | [a,b,c,d,e],_=>exact ⟨a,b,c,d,e,rfl⟩
def RH (vr vk:I) (p:Ak):List I:= [Qk p.1,Qf .i64 p.2.1,Qf .i64 p.2.2.1,vr,vk]
section
variable {H : Type} {enc : Qi × I → H} {W : S} {base : Nat} {spare : Nat → Bool} {held : Bool}
theorem zh6 {f:Nat} {v:I} {x:J H×List Qh} (h:Qc enc U W base spare held f 32 [v]=O x) :
  ∃zs:List Int,A4 W v zs/\zs.length<=Qg/\∃q c,v= .slice q zs.length c/\(q=Z->c=0):=by
 obtain⟨zs,g,i⟩:=zh5 h;obtain⟨q,c,e⟩:=g.form;refine⟨zs,g,i,q,c,e,fun e2=>?_⟩;subst e2;rcases Go.Deep.open_slice1 Q5 Tryz.cellsInt h with⟨d,_⟩|⟨a,j,k,m,n,b,D,l,d,_⟩
 ·rw[e]at d;simp only[Qe,and_true,Value.slice.injEq,true_and]at d;exact d.2
 ·rw[e]at d;simp at d
theorem zh7 {d:Nat} {v:I} {x:J H×List Qh} (h:Qc enc U W base spare held d 35 [v]=O x) :
  ∃xs:List Rw,Ap W v xs/\xs.length<=Qg/\∃q c,v= .slice q xs.length c/\(q=Z->c=0):=by
 obtain⟨xs,f,g,_⟩:=zh4 h;obtain⟨q,c,e⟩:=f.form;refine⟨xs,f,g,q,c,e,fun e2=>?_⟩;subst e2;rcases open_slice Q3 h with⟨b,_⟩|⟨a,i,j,m,n,D,k,b,_⟩
 ·rw[e]at b;simp only[Qe,and_true,Value.slice.injEq,true_and]at b;exact b.2
 ·rw[e]at b;simp at b
theorem zh8 {f:Nat} {t:List I} {x:J H×List Qh} (h:Qc enc U W base spare held f 37 t=O x):∃(p:Ak) (vr vk:I),t=RH vr vk p/\Ap W vr p.2.2.2.1/\A4 W vk p.2.2.2.2/\(∃q c,vk= .slice q p.2.2.2.2.length c/\(q=Z->c=0))/\(∃q c,vr= .slice q p.2.2.2.1.length c/\(q=Z->c=0))/\(-9223372036854775808<=p.2.1/\p.2.1<=9223372036854775807)/\JQ p:=by
 obtain⟨C,n,_,_,D,d,b⟩:=DataW.trod_struct underlying37 h;obtain⟨E,F,K,g,i,rfl⟩:=bQ (D.trans Tryz.cellsAk);obtain⟨L,M,N,P,Q,rfl⟩:=bQ (show C.length=5 from d);have u:Qc enc U W base spare held n 9 [E]=O L:=by simpa [Tryz.cellsString] using b 0 _ rfl
 have v:Qc enc U W base spare held n 3 [F]=O M:=by simpa [Tryz.cellsInt] using b 1 _ rfl
 have y:Qc enc U W base spare held n 3 [K]=O N:=by simpa [Tryz.cellsInt] using b 2 _ rfl
 have z:Qc enc U W base spare held n 35 [g]=O P:=by simpa [Tryz.cellsRowsL] using b 3 _ rfl
 have B:Qc enc U W base spare held n 32 [i]=O Q:=by simpa [Tryz.cellsKeysL] using b 4 _ rfl
 obtain⟨R,j,_,T⟩:=Q2 A u;obtain⟨X,k,_,Y⟩:=Qq Ql v;obtain⟨k2,l,_,_⟩:=Qq Ql y;obtain⟨rs,hr,m,o⟩:=zh7 z;obtain⟨zs,hz,r,s⟩:=zh6 B;simp only[Qe,and_true]at j k l;exact⟨(R,X,k2,rs,zs),g,i,by rw[j,k,l];rfl,hr,hz,s,o,RG Y,T,m,r⟩
theorem bR {K:Nat} {v:I} {x:J H×List Qh} (h:Qc enc U W base spare held K 22 [v]=O x) :
  ∃l:List Ak,Er W v l/\l.length<=Qg/\∀p∈l,JQ p:=by
 rcases open_slice underlying22 h with⟨e,_⟩|⟨a,d,aa,m,n,D,Pl,e,_,hl,hm,ab,_,hx⟩
 ·simp only[Qe,and_true]at e;exact⟨[],Or.inl ⟨Z,0,e,rfl⟩,by decide,fun _ h=>by cases h⟩
 ·simp only[Qe,and_true]at e;rw[Tryz.cellsAk]at hx;have ac:d<=m:=by rw[ab];split<;>omega
  have z:∀i,i<d->∃f:Ak×I×I,(∀c u,(RH f.2.1 f.2.2 f.1)[c]? =O u->W.cell? (a.add (i*5+c))=O u)/\Ap W f.2.1 f.1.2.2.2.1/\A4 W f.2.2 f.1.2.2.2.2/\(∃q c,f.2.2= .slice q f.1.2.2.2.2.length c/\(q=Z->c=0))/\(∃q c,f.2.1= .slice q f.1.2.2.2.1.length c/\(q=Z->c=0))/\(-9223372036854775808<=f.1.2.1/\f.1.2.1<=9223372036854775807)/\JQ f.1:=fun i Y=>by
   obtain⟨ad,h1,h2⟩:=hx i (by omega);obtain⟨_,_,s⟩:=Q4 h1;obtain⟨p,vr,vk,t,g⟩:=zh8 h2;subst t;refine⟨(p,vr,vk),fun c u hu=>?_,g⟩;have k:c<5:=by
    rcases Nat.lt_or_ge c 5 with E | E
    ·exact E
    ·rw[List.getElem?_eq_none (by simp[RH];exact E)]at hu;cases hu
   have L:=s c k;rw[add_add]at L;rw[L];exact hu
  obtain⟨f,C⟩:=choose_lt z;rcases Qx d with h0 | F
  ·subst h0;exact⟨[],Or.inl ⟨_,_,e,rfl⟩,by decide,fun _ h=>by cases h⟩
  ·have M:=RD ((C 0 F).1 0 _ rfl);have B:a.spot=Z:=by
    cases a with | mk b o y=>cases y<;>simp [Qy]at M ⊢
   obtain⟨b,o,y⟩:=a;subst B;refine⟨(Qr d).map fun i=>(f i).1,Or.inr ⟨b,o,aa,by simpa using e,fun j hj=>?_⟩,by simp;omega,fun r t=>?_⟩
   ·have N:j<d:=by simpa using hj
    obtain⟨k,g1,g2,g3,g4,g5,_⟩:=C j N;have P:=k 0 _ rfl;have Q:=k 1 _ rfl;have R:=k 2 _ rfl;have T:=k 3 _ rfl;have X:=k 4 _ rfl;rw[Qs]at P Q R T X;simp only[List.getElem_map,List.getElem_range];exact⟨(f j).2.1,(f j).2.2,P,by rw[Qt];exact Q,by rw[Qt];exact R,by rw[Qt];exact T,by rw[Qt];exact X,g1,g2,g3,g4,g5⟩
   ·simp only[Qv,Qz]at t;obtain⟨i,Y,rfl⟩:=t;exact(C i Y).2.2.2.2.2.2
end
end
section
open Go.ChangeAt Go.ChangeShapes Go.Lib Go.RowKit Go.Shelf Go.WideShapes
theorem Tryz.own:ownKnob Tryz.prog.godebug=Z:=by kernel_rfl
theorem Tryz.rt : (Tryz.prog.cutTypes.find? (·.1 == "internal/reflectlite.rtype")).map (·.2) =O 368 := by kernel_rfl
theorem Tryz.oneRow:((Qr 446).filter fun t=>Tryz.prog.rowNamed t [101,114,114,111,114])= [27]:=by kernel_rfl
theorem Tryz.size:Tryz.prog.types.size=446:=by kernel_rfl
theorem Tryz.et : Tryz.prog.globalNamed "errors.errorType" =O 12 := by kernel_rfl
theorem Tryz.cellsES:Tryz.prog.cellsOf 412=1:=by kernel_rfl
theorem Tryz.star : "*" ++ "errors.errorString" = "*errors.errorString" := by decide
theorem Tryz.rowES (u : Qi) (h : Tryz.prog.typeName? 3 u =O "*errors.errorString") : u = 410 :=
 typeName_ptr_named (nm := "errors.errorString") (by rw [Tryz.star]; kernel_rfl) (by kernel_rfl) (by decide) u (by rw [Tryz.star]; exact h)
theorem FW {n nm:String} {i:List UInt8} {r:List (String×J Unit)} {W:S} {P:Program} {g:Nat} {ti l m o:Qi} {R:Array (String×Qi)} {f:Field}
  (h:Qj P ((n,.iface nm (.ptr (.agg [.lit (.string i)]))) :: r) W)
  (T:P.globalNamed n=O g) (X:(P.globals[g]?).map (·.type)=O ti) (hi:P.underlying ti=O (.interface R)) (p:∀u,P.typeName? 3 u=O nm->u=l)
  (Y:P.underlying l=O (.pointer m)) (he:P.underlying m=O (.struct #[f])) (E:f.type=o) (F:f.offset=0) (hs:P.underlying o=O .string) (hc:P.cellsOf m=1) (K:P.cellsOf o=1) :
  ∃(a:Qp) (s:ByteArray) (c:Array I) (t:Qi),W.cell? ⟨g,0,Z⟩=O (.iface l (.pointer (O a)))/\W.cell? a=O (.string s)/\s.data.toList=i/\W.heap[a.block]? =O (.cells c t (0,0)):=by
 obtain⟨ps,⟨g0,t0,y,f0,p0,q0,d,z,j,B,_,L⟩,_,b⟩:=h;obtain rfl:=Qu (T.symm.trans d);obtain rfl:=Qu (X.symm.trans z);subst L;obtain⟨M⟩:=y;have q:∀u v,M= [.iface u v]->Q6 P W .any 0 u v:=fun u v e=>by
  subst e;exact(b g 0 (by simp[MemPlace.row])).2 u v (by simpa using Q0 d j 0)
 obtain⟨k,N,rfl,C,D,aa,rfl⟩:=errorString_of_trod hi p Y he E F hs hc K B q;obtain⟨c,t,Q⟩:=(b k.block k.off (by simp[MemPlace.row])).1;exact⟨k,N,c,t,by simpa using Q0 d j 0,C,D,Q⟩
def RI:Nat->List UInt8
 | 0=> [100,101,101,100,98,111,120,58,32,116,101,120,116]
 | 1=> [100,101,101,100,98,111,120,58,32,98,111,117,110,100]
 | 2=> [100,101,101,100,98,111,120,58,32,115,104,97,112,101]
 | 3=> [100,101,101,100,98,111,120,58,32,107,105,110,100]
 | 4=> [100,101,101,100,98,111,120,58,32,110,97,109,101]
 | 5=> [100,101,101,100,98,111,120,58,32,110,111,110,101]
 | 6=> [100,101,101,100,98,111,120,58,32,101,120,105,115,116]
 | 7=> [100,101,101,100,98,111,120,58,32,102,117,108,108]
 | 8=> [100,101,101,100,98,111,120,58,32,111,114,100,101,114]
 | 9=> [100,101,101,100,98,111,120,58,32,115,117,109]
 | 10=> [100,101,101,100,98,111,120,58,32,115,116,97,108,101]
 | _=> [100,101,101,100,98,111,120,58,32,111,102,102]
theorem zh9:∀i,i<12->∀j,j<12->RI i=RI j->i=j:=by decide
def bS:List (String×J Unit) :=
 [("deedbox/api.ErrText", .iface "*errors.errorString" (.ptr (.agg [.lit (.string [100, 101, 101, 100, 98, 111, 120, 58, 32, 116, 101, 120, 116])]))), ("deedbox/api.ErrBound", .iface "*errors.errorString" (.ptr (.agg [.lit (.string [100, 101, 101, 100, 98, 111, 120, 58, 32, 98, 111, 117, 110, 100])]))), ("deedbox/api.ErrShape", .iface "*errors.errorString" (.ptr (.agg [.lit (.string [100, 101, 101, 100, 98, 111, 120, 58, 32, 115, 104, 97, 112, 101])]))), ("deedbox/api.ErrKind", .iface "*errors.errorString" (.ptr (.agg [.lit (.string [100, 101, 101, 100, 98, 111, 120, 58, 32, 107, 105, 110, 100])]))), ("deedbox/api.ErrName", .iface "*errors.errorString" (.ptr (.agg [.lit (.string [100, 101, 101, 100, 98, 111, 120, 58, 32, 110, 97, 109, 101])]))), ("deedbox/api.ErrNone", .iface "*errors.errorString" (.ptr (.agg [.lit (.string [100, 101, 101, 100, 98, 111, 120, 58, 32, 110, 111, 110, 101])]))), ("deedbox/api.ErrExist", .iface "*errors.errorString" (.ptr (.agg [.lit (.string [100, 101, 101, 100, 98, 111, 120, 58, 32, 101, 120, 105, 115, 116])]))), ("deedbox/api.ErrFull", .iface "*errors.errorString" (.ptr (.agg [.lit (.string [100, 101, 101, 100, 98, 111, 120, 58, 32, 102, 117, 108, 108])]))), ("deedbox/api.ErrOrder", .iface "*errors.errorString" (.ptr (.agg [.lit (.string [100, 101, 101, 100, 98, 111, 120, 58, 32, 111, 114, 100, 101, 114])]))), ("deedbox/api.ErrSum", .iface "*errors.errorString" (.ptr (.agg [.lit (.string [100, 101, 101, 100, 98, 111, 120, 58, 32, 115, 117, 109])]))), ("deedbox/api.ErrStale", .iface "*errors.errorString" (.ptr (.agg [.lit (.string [100, 101, 101, 100, 98, 111, 120, 58, 32, 115, 116, 97, 108, 101])]))), ("deedbox/api.ErrOff", .iface "*errors.errorString" (.ptr (.agg [.lit (.string [100, 101, 101, 100, 98, 111, 120, 58, 32, 111, 102, 102])])))]
theorem zi0 {W:S} {r:List (String×J Unit)} (h:Qj U (bS++r) W) (hh:W.cell? ⟨12,0,Z⟩=O (.iface 368 (.agg #[.pointer (O ⟨21,27,Z⟩)]))):∃a,Hc W a:=by
 obtain⟨l,s0,c0,t0,v0,x0,y0,b0⟩:=FW h (g:=4) (ti:=27) (by kernel_rfl) (by kernel_rfl) V Tryz.rowES Qa Qb rfl rfl A Tryz.cellsES Tryz.cellsString;replace h:=h.tail;obtain⟨m,s1,c1,t1,v1,x1,y1,b1⟩:=FW h (g:=1) (ti:=27) (by kernel_rfl) (by kernel_rfl) V Tryz.rowES Qa Qb rfl rfl A Tryz.cellsES Tryz.cellsString;replace h:=h.tail;obtain⟨n,s2,c2,t2,v2,x2,y2,b2⟩:=FW h (g:=0) (ti:=27) (by kernel_rfl) (by kernel_rfl) V Tryz.rowES Qa Qb rfl rfl A Tryz.cellsES Tryz.cellsString;replace h:=h.tail;obtain⟨o,s3,c3,t3,v3,x3,y3,b3⟩:=FW h (g:=8) (ti:=27) (by kernel_rfl) (by kernel_rfl) V Tryz.rowES Qa Qb rfl rfl A Tryz.cellsES Tryz.cellsString;replace h:=h.tail;obtain⟨p,s4,c4,t4,v4,x4,y4,b4⟩:=FW h (g:=10) (ti:=27) (by kernel_rfl) (by kernel_rfl) V Tryz.rowES Qa Qb rfl rfl A Tryz.cellsES Tryz.cellsString;replace h:=h.tail;obtain⟨q,s5,c5,t5,v5,x5,y5,b5⟩:=FW h (g:=3) (ti:=27) (by kernel_rfl) (by kernel_rfl) V Tryz.rowES Qa Qb rfl rfl A Tryz.cellsES Tryz.cellsString;replace h:=h.tail;obtain⟨u,s6,c6,t6,v6,x6,y6,b6⟩:=FW h (g:=11) (ti:=27) (by kernel_rfl) (by kernel_rfl) V Tryz.rowES Qa Qb rfl rfl A Tryz.cellsES Tryz.cellsString;replace h:=h.tail;obtain⟨v,s7,c7,t7,v7,x7,y7,b7⟩:=FW h (g:=6) (ti:=27) (by kernel_rfl) (by kernel_rfl) V Tryz.rowES Qa Qb rfl rfl A Tryz.cellsES Tryz.cellsString;replace h:=h.tail;obtain⟨y,s8,c8,t8,v8,x8,y8,b8⟩:=FW h (g:=7) (ti:=27) (by kernel_rfl) (by kernel_rfl) V Tryz.rowES Qa Qb rfl rfl A Tryz.cellsES Tryz.cellsString;replace h:=h.tail;obtain⟨z,s9,c9,t9,v9,x9,y9,b9⟩:=FW h (g:=9) (ti:=27) (by kernel_rfl) (by kernel_rfl) V Tryz.rowES Qa Qb rfl rfl A Tryz.cellsES Tryz.cellsString;replace h:=h.tail;obtain⟨d,B,C,D,E,F,K,L⟩:=FW h (g:=2) (ti:=27) (by kernel_rfl) (by kernel_rfl) V Tryz.rowES Qa Qb rfl rfl A Tryz.cellsES Tryz.cellsString;replace h:=h.tail;obtain⟨f,M,N,P,Q,R,T,X⟩:=FW h (g:=5) (ti:=27) (by kernel_rfl) (by kernel_rfl) V Tryz.rowES Qa Qb rfl rfl A Tryz.cellsES Tryz.cellsString;refine⟨fun i=>match i with | 0=>l | 1=>m | 2=>n | 3=>o | 4=>p | 5=>q | 6=>u | 7=>v | 8=>y | 9=>z | 10=>d | _=>f,?_,?_,?_,hh⟩
 ·intro i b
  match i,b with
  | 0,_=>exact v0
  | 1,_=>exact v1
  | 2,_=>exact v2
  | 3,_=>exact v3
  | 4,_=>exact v4
  | 5,_=>exact v5
  | 6,_=>exact v6
  | 7,_=>exact v7
  | 8,_=>exact v8
  | 9,_=>exact v9
  | 10,_=>exact E
  | 11,_=>exact Q
 ·have c:∀i,i<12->∃s:ByteArray,W.cell? ((fun i=>match i with | 0=>l | 1=>m | 2=>n | 3=>o | 4=>p | 5=>q | 6=>u | 7=>v | 8=>y | 9=>z | 10=>d | _=>f:Nat->Qp) i)=O (.string s)/\s.data.toList=RI i:=by
   intro i b
   match i,b with
   | 0,_=>exact ⟨s0,x0,y0⟩
   | 1,_=>exact ⟨s1,x1,y1⟩
   | 2,_=>exact ⟨s2,x2,y2⟩
   | 3,_=>exact ⟨s3,x3,y3⟩
   | 4,_=>exact ⟨s4,x4,y4⟩
   | 5,_=>exact ⟨s5,x5,y5⟩
   | 6,_=>exact ⟨s6,x6,y6⟩
   | 7,_=>exact ⟨s7,x7,y7⟩
   | 8,_=>exact ⟨s8,x8,y8⟩
   | 9,_=>exact ⟨s9,x9,y9⟩
   | 10,_=>exact ⟨B,F,K⟩
   | 11,_=>exact ⟨M,R,T⟩
  intro i j b Y e;obtain⟨s,hs,es⟩:=c i b;obtain⟨t,ht,et⟩:=c j Y;refine zh9 i b j Y ?_;have k:=hs.symm.trans ((congrArg W.cell? e).trans ht);simp only[Q9,Value.string.injEq]at k;rw[<-es,<-et,k]
 ·intro i b
  match i,b with
  | 0,_=>exact ⟨c0,t0,b0⟩
  | 1,_=>exact ⟨c1,t1,b1⟩
  | 2,_=>exact ⟨c2,t2,b2⟩
  | 3,_=>exact ⟨c3,t3,b3⟩
  | 4,_=>exact ⟨c4,t4,b4⟩
  | 5,_=>exact ⟨c5,t5,b5⟩
  | 6,_=>exact ⟨c6,t6,b6⟩
  | 7,_=>exact ⟨c7,t7,b7⟩
  | 8,_=>exact ⟨c8,t8,b8⟩
  | 9,_=>exact ⟨c9,t9,b9⟩
  | 10,_=>exact ⟨C,D,L⟩
  | 11,_=>exact ⟨N,P,X⟩
theorem zi1 {W : S} (h : Qw U [("errors.errorType", Rows.laid_errors_errorType)] W) : W.cell? ⟨12, 0, Z⟩ =O (Qn 368 (.agg #[Qo (O ⟨21, 27, Z⟩)])) := by
 obtain⟨g,u,i,j,k,l,m,c⟩:=h _ (Q7.2 rfl);have d:=(Qu j).symm;subst d;obtain rfl:=Qu (Tryz.rt.symm.trans k);have b:i∈(Qr 446).filter fun t=>Tryz.prog.rowNamed t [101,114,114,111,114]:=List.mem_filter.2 ⟨Qz.2 (by rw[<-Tryz.size];exact l),m⟩;rw[Tryz.oneRow]at b;obtain rfl:=Q7.1 b;have f:typeHandle U 27=Qo (O ⟨21,27,Z⟩):=by kernel_rfl
 rw[f]at c;simpa using Q0 Tryz.et c 0
theorem Tryz.laidOut:laidOutB U=Qd:=by kernel_rfl
theorem Tryz.maxLenInt (W:S) (h:W.ShapedOpen U):∃m,W.cell? ⟨13,0,Z⟩=O (Qf .i64 m) :=
 cell_of_shapedOpen_int (zero:=#[Qf .i64 0]) (t:=3) h (of_decide_eq_true (by kernel_rfl)) (by kernel_rfl) rfl (by kernel_rfl) (by kernel_rfl) Ql
theorem zi2:(Rows.laid_internal_strconv_uint64pow10:J Unit)=Lib.tabData .u64 Lib.pow10Tab:=by kernel_rfl
def EH:List (String×J Unit) :=
 [("math/bits.deBruijn32tab", Rows.laid_math_bits_deBruijn32tab), ("math/bits.deBruijn64tab", Rows.laid_math_bits_deBruijn64tab), ("internal/strconv.uint64pow10", Rows.laid_internal_strconv_uint64pow10), ("unicode/utf8.acceptRanges", Rows.laid_unicode_utf8_acceptRanges)] ++ (bS ++ [("strconv.ErrRange", Rows.laid_strconv_ErrRange), ("strconv.ErrSyntax", Rows.laid_strconv_ErrSyntax), ("unicode/utf8.first", Rows.laid_unicode_utf8_first)])
theorem zi3 {W : S} (f : W.ShapedOpen U) (i : Qj U EH W) (m : Qw U [("errors.errorType", Rows.laid_errors_errorType)] W) : ∃ a, Bl W a ∧ Hc W a := by
 have j : Qj U (("internal/strconv.uint64pow10", Lib.tabData .u64 Lib.pow10Tab) :: EH.drop 3) W := by rw [← zi2]; exact i.tail.tail
 have k := tabIs_of_head (P :=U) (name := "internal/strconv.uint64pow10") (g := 14) (t := 390) (e := 242) (n := 20) (by kernel_rfl) (by kernel_rfl) (by kernel_rfl) (by kernel_rfl) (by kernel_rfl) (by kernel_rfl) j;have c := i.tail.tail.tail.tail;obtain ⟨a, b⟩ := zi0 c (zi1 m);have d := c.tail.tail.tail.tail.tail.tail.tail.tail.tail.tail.tail.tail.tail;obtain ⟨o, _, _, _, l, _⟩ := FW d (g := 15) (ti := 27) (by kernel_rfl) (by kernel_rfl) V Tryz.rowES Qa Qb rfl rfl A Tryz.cellsES Tryz.cellsString;exact ⟨a, ⟨b.cell 0 (by decide), b.cell 1 (by decide), b.cell 4 (by decide), Tryz.maxLenInt W f, ⟨_, _, l⟩, k⟩, b⟩
def zi4 (v:I):Obj->Obj
 | .cells _ t frozen=>.cells #[v] t frozen
 | o=>o
noncomputable def bT (os:Os):S :=
 let w0:=World.holding U os ⟨#[],#[], []⟩
 { w0 with heap:=w0.heap.modify 12 (zi4 (Qn 368 (.agg #[Qo (O ⟨21,27,Z⟩)]))) }
noncomputable def JT (os:Os):S:=(bT os).layVars U EH
theorem bU (os:Os):(JT os).os=os:=by
 unfold JT;rw[World.layVars_os];rfl
theorem bV (os:Os):(JT os).Shaped U:=World.shaped_of_ZipB (by kernel_rfl) (by kernel_rfl)
theorem bW (os : Os) (args : Array I) {l : List (String × J Unit)} (d : (l.filter fun x => x.2.handleName?.isNone) = EH) (f : (l.filter fun x => x.2.handleName?.isSome) = [("errors.errorType", Rows.laid_errors_errorType)]) :
  Q1 U l ((JT os).forCall (fun _ _=>0) ⟨#[],args, []⟩).memory:=by
 refine laidMetH_of_parts ?_ ?_
 ·rw[d];have b:(EH.filter fun x=>(EH.map (·.1)).contains x.1)=EH:=List.filter_eq_self.2 fun x hx=>Q8.2 (Qv.2 ⟨x,hx,rfl⟩);have c:(EH.filter fun x=> !(EH.map (·.1)).contains x.1)= []:=List.filter_eq_nil_iff.2 fun x hx=>by rw[Q8.2 (Qv.2 ⟨x,hx,rfl⟩)];simp
  have h:Qj U EH (JT os):=laidMet_layVars (w0:=bT os) (EH.map (·.1)) [] (by rw[b];rfl) (by rw[b];kernel_rfl) (by rw[b];kernel_rfl) (by rw[c];exact LaidIn.none);exact h.of_heap (by simp[World.memory,World.forCall,Input.heap])
 ·rw[f];kernel_rfl
theorem bX {l : List (String × J Unit)} {W : S} (b : (l.filter fun x => x.2.handleName?.isNone) = EH) (c : (l.filter fun x => x.2.handleName?.isSome) = [("errors.errorType", Rows.laid_errors_errorType)]) (h : Q1 U l W) :
  Qj U EH W ∧ Qw U [("errors.errorType", Rows.laid_errors_errorType)] W := by
 unfold Q1 at h;rw[c,b]at h;exact h
theorem AX.below {W X:S} {a:Nat->Qp} (h:AX W a) (b:BL W X):AX X a:=⟨h.x.below b,h.p.below b,h.m.below b,h.f.below b⟩
theorem bY {W : S} (j : W.ShapedOpen U) (k : Qj U EH W) (l : Qw U [("errors.errorType", Rows.laid_errors_errorType)] W) : ∃ a, AX W a ∧ Hc W a := by
 obtain⟨a,b,d⟩:=zi3 j k l;have c:=fun i h=>d.cell i h;have f:G9 W a:=⟨⟨b,c 2 (by decide),c 7 (by decide),c 8 (by decide),c 9 (by decide)⟩,c 3 (by decide)⟩;have g:DC W a:=⟨f.lean,c 5 (by decide),c 6 (by decide),c 7 (by decide),c 8 (by decide)⟩;exact⟨a,⟨⟨g,c 2 (by decide),c 10 (by decide),d.handle⟩,⟨⟨g,c 0 (by decide)⟩,c 9 (by decide)⟩,⟨⟨b.maxl,b.syn,b.tab⟩,c 0 (by decide),c 1 (by decide),c 5 (by decide),c 7 (by decide),c 8 (by decide)⟩,f⟩,d⟩
end
section
open Go
theorem bZ:Qd=Tryz.pinned.checked.prog.looks []:=by kernel_rfl
theorem zi5:Tryz.prog.wantsStandIn 3=G:=by kernel_rfl
theorem cA:Tryz.prog.wantsStandIn 9=G:=by kernel_rfl
theorem cB:Tryz.prog.wantsStandIn 22=G:=by kernel_rfl
end
section
open Go.Extern Go.Extern.Stop Go.Lib Go.RowKit Go.Shelf Go.Sort Go.Stop
theorem zi6 {s:St} {n:Int} (h:H9 s n=0):(E3 s n).head=s.head/\(E3 s n).day=s.day/\(E3 s n).off=G/\DB (E3 s n)=Qd/\EN (E3 s n)=n/\(E3 s n).obs=s.obs/\(E3 s n).cut=n:=by
 have d:¬n<0:=fun e=>by unfold H9 at h;rw[if_pos e]at h;cases h
 have b:s.off=G:=by
  unfold H9 at h;rw[if_neg d]at h
  cases f:s.off with
  | false=>rfl
  | true=>rw [f,if_pos rfl]at h;cases h
 have e:E3 s n= { s with cut:=n } :=by unfold E3;rw[h];rfl
 rw[e];have c:DB { s with cut:=n } =Qd:=by unfold DB;dsimp only;rw[b,decide_eq_true (by omega)];rfl
 exact⟨rfl,rfl,b,c,by unfold EN;rw[c];rfl,rfl,rfl⟩
theorem zi7 (s:St):DB (Bq s)=G/\EN (Bq s)=0:=by
 have b:DB (Bq s)=G:=by unfold DB Bq;rfl
 exact⟨b,by unfold EN;rw[b];rfl⟩
theorem zi8 (N:Nat):∀k,C9 N Z (fun _=>0) E1.obs k->N<=k:=by
 rintro k (rfl | b | ⟨o,c,_⟩)
 ·exact Nat.le_refl _
 ·cases b
 ·cases c
theorem cC (w:S) (a:Nat->Qp) (m:Hc w a):A2 a w.heap.size (Ir w) An where
 below W W' h hb:=Below.trans (h:BL w W) hb
 size W h:=Below.size (h:BL w W)
 ptr W v FP s h:=by
  obtain⟨b,g,q,rfl,rfl,c⟩:=h;exact⟨_,rfl⟩
 lt W v FP s k h hk:=by
  obtain⟨b,g,q,rfl,rfl,c⟩:=h;exact c.lt hk
 keep W W' v FP P s h hB hP:=by
  obtain⟨b,g,q,rfl,rfl,c⟩:=h;exact⟨b,g,q,rfl,rfl,c.keep hB hP⟩
 new W _:=(rB W).mono fun e w' ⟨f,c,hb⟩=>⟨_,_,f,⟨W.heap.size,Z,_,rfl,rfl,c⟩,zi8 W.heap.size,hb⟩
 put W v FP s n t hm h hk l ht:=by
  obtain⟨b,g,q,rfl,rfl,c⟩:=h;exact rT c hk (CW.of (Ir.errs hm m)) n t l ht
 get W v FP s n hm h hk l:=by
  obtain⟨b,g,q,rfl,rfl,c⟩:=h;exact rI c (CW.of (Ir.errs hm m)) n (by unfold Qg;omega)
 drop W v FP s n hm h hk l:=by
  obtain⟨b,g,q,rfl,rfl,c⟩:=h;exact rJ c (CW.of (Ir.errs hm m)) n (by unfold Qg;omega)
 names W v FP s hm h hk:=by
  obtain⟨b,g,q,rfl,rfl,c⟩:=h;exact wU c hk
 born W v FP s n hm h hk l:=by
  obtain⟨b,g,q,rfl,rfl,c⟩:=h;exact(Vt c n (by unfold Qg;omega)).mono fun e w' ⟨f,d⟩=>⟨f,d▸Below.refl _ _⟩
 swap W v FP s n t hm h hk l ht:=by
  obtain⟨b,g,q,rfl,rfl,c⟩:=h;exact rO c (CW.of (Ir.errs hm m)) n t ht
 head W v FP s hm h hk:=by
  obtain⟨b,g,q,rfl,rfl,c⟩:=h;exact(rC c.block).mono fun e w' ⟨f,d⟩=>⟨f,d▸Below.refl _ _⟩
 cut W v FP s z hm h hk hz:=by
  obtain⟨b,g,q,rfl,rfl,c⟩:=h;refine(rF c.block (CW.of (Ir.errs hm m)) z).mono fun e w' ⟨f,d⟩=>?_;have o:=ID c (Ac.refl _ _) fun k hk=>Or.inl hk;by_cases p:H9 s z=0
  ·obtain⟨u,y,C,D,E,F,K⟩:=zi6 p;have i:(if z<0 then 2 else if s.off=Qd then 12 else 0)=0:=p;have j:¬z<0:=fun e=>by rw[if_pos e]at i;cases i
   have r:¬s.off=Qd:=fun e=>by rw[if_neg j,if_pos e]at i;cases i
   rw[if_neg j,if_neg r]at d;subst d;refine⟨f,Lf c (MQ W b G Qd z) ?_ F (by rw[K];exact hz.2)⟩;rw[u,y,C,D,E];exact c.block.pow G Qd z
  ·have i:E3 s z=s:=by unfold E3;rw[if_pos p]
   have B:w'=W:=by
    by_cases j:z<0
    ·rw[if_pos j]at d;exact d
    ·rw[if_neg j]at d;by_cases r:s.off=Qd
     ·rw[if_pos r]at d;exact d
     ·exact absurd (show H9 s z=0 by unfold H9;rw[if_neg j,if_neg r]) p
   subst B;rw[i];exact⟨f,o⟩
 on W v FP s hm h hk:=by
  obtain⟨b,g,q,rfl,rfl,c⟩:=h;refine(rD c.block).mono fun e w' ⟨f,d⟩=>?_;subst d;refine⟨f,Lf c (MQ W b G G 0) ?_ rfl (by show (-1:Int)<=_;omega)⟩;obtain⟨u,y⟩:=zi7 s;rw[u,y];exact c.block.pow G G 0
 next W v FP s z hm h hk hz:=by
  obtain⟨b,g,q,rfl,rfl,c⟩:=h;refine(rH c.block (CW.of (Ir.errs hm m)) z hz hk.day0 hk.day1).mono fun e w' hp=>?_;rcases hp with⟨hb,f,d⟩|⟨hb,f,d⟩
  ·have i:I2 s z=2:=by unfold I2;rw[if_pos hb]
   have l:Ia s z=s:=by unfold Ia;rw[i];rfl
   rw[i,l];exact⟨f,ID (c.below d) (Ac.of_below d) fun k hk=>Or.inl hk⟩
  ·have i:I2 s z=0:=by unfold I2;rw[if_neg hb]
   have l:Ia s z= { s with day:=s.day+z } :=by unfold Ia;rw[i];rfl
   rw[i,l];subst d;refine⟨f,Lf c (Vr W b 2 _) ?_ rfl c.cut⟩;exact c.block.day _
 day W v FP s hm h hk:=by
  obtain⟨b,g,q,rfl,rfl,c⟩:=h;exact(Vq c.block).mono fun e w' ⟨f,d⟩=>⟨f,d▸Below.refl _ _⟩
end
end Go.Proofs.YtcllhobffhkafaaGreatDoor
