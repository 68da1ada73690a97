/- By an AI agent. -/
import Derived.ProofKit
import Derived.Deep.Strs
import Derived.HandedShaped
import Derived.Test.YtgckdomafbnmkaaGreatDoorRows
import Derived.ChangeSame
import Derived.ChangeVars
import Derived.JoinedOf
import Derived.RowKit
import Derived.LaidLaws
import Derived.LaidHandle
import Derived.Stop.Joined
import Derived.Stop.LaidErr
import Derived.Lay
import Derived.MakeChecks
import Derived.Shelf.Vars
import Derived.Test.YtgckdomafbnmkaaGreatDoorScanKs
set_option maxRecDepth 100000
set_option maxHeartbeats 16000000
namespace Go.Proofs.YtgckdomafbnmkaaGreatDoor
open Go.ChangeShapes Go.WideShapes Go.ChangeAt Go.RowKit Go.Deep
theorem Tryz.cellsRow:Tryz.prog.cellsOf 112=3:=by kernel_rfl
theorem Tryz.cellsInt:Tryz.prog.cellsOf 3=1:=by kernel_rfl
theorem Tryz.cellsString:Tryz.prog.cellsOf 9=1:=by kernel_rfl
theorem zn9 {W:World} {a:Addr} {v:Value} (h:W.cell? a=some v):a.spot=none:=by
 unfold World.cell? at h;split at h
 ·split at h
  ·cases h
  ·rename_i b;simpa using b
 ·cases h
theorem zc7s {n:Int} (h:(Lit.int .i64 n).wf=true): -9223372036854775808<=n/\n<=9223372036854775807:=by
 simpa [Lit.wf,IntKind.min,IntKind.max,IntKind.signed,IntKind.bits] using h
section
variable {H : Type} {enc : TypeId × Value → H} {W : World} {base : Nat} {spare : Nat → Bool} {held : Bool}
theorem zc7t {b:Nat} {cs:List Value} {x:DataW H×List MemPlace} (h:DataW.trod enc Tryz.prog W base spare held b 112 cs=some x) :
  ∃r:Rw,cs= [.string r.1,.int .i64 r.2.1,.int .i64 r.2.2]/\r.1.size<=maxLen/\okKey r:=by
 obtain⟨p,q,t,n,_,c,d,f,g⟩:=trod_struct3 Tryz.underlying112 h;rw[Tryz.cellsRow]at c
 match cs,c with
 | [c0,c1,c2],_ =>
  simp only[Tryz.cellsInt,Tryz.cellsString,List.drop_zero,List.drop_succ_cons,List.take_succ_cons,List.take_zero]at d f g;obtain⟨s,i,_,m⟩:=DataW.trod_string Tryz.underlying9 d;obtain⟨k,j,_,o⟩:=DataW.trod_int Tryz.underlying3 f;obtain⟨v,l,_,_⟩:=DataW.trod_int Tryz.underlying3 g;simp only[List.cons.injEq,and_true]at i j l;exact⟨(s,k,v),by rw[i,j,l],m,zc7s o⟩
theorem zc7u {t:Nat} {v:Value} {x:DataW H×List MemPlace} (h:DataW.trod enc Tryz.prog W base spare held t 44 [v]=some x) :
  ∃xs:List Rw,RowsAt W v xs/\xs.length<=maxLen/\∀r∈xs,okKey r:=by
 rcases open_slice Tryz.underlying44 h with⟨e,_⟩|⟨a,d,E,m,n,D,O,e,_,P,Q,F,_,G⟩
 ·simp only[List.cons.injEq,and_true]at e;exact⟨[],Or.inl ⟨none,0,e,rfl⟩,by decide,fun _ h=>by cases h⟩
 ·simp only[List.cons.injEq,and_true]at e;rw[Tryz.cellsRow]at G;have M:d<=m:=by rw[F];split<;>omega
  have p:∀i,i<d->∃r:Rw,(W.cell? (a.add (i*3))=some (.string r.1)/\W.cell? (a.add (i*3+1))=some (.int .i64 r.2.1)/\W.cell? (a.add (i*3+2))=some (.int .i64 r.2.2))/\okKey r:=fun i C=>by
   obtain⟨N,I,J⟩:=G i (by omega);obtain⟨_,_,c⟩:=World.cells?_some I;obtain⟨r,k,_,K⟩:=zc7t J;subst k;have u:=c 0 (by omega);have y:=c 1 (by omega);have z:=c 2 (by omega);rw[add_add]at u y z;exact⟨r,⟨by simpa using u,by simpa using y,by simpa using z⟩,K⟩
  obtain⟨f,q⟩:=choose_lt p;rcases Nat.eq_zero_or_pos d with L | s
  ·subst L;exact⟨[],Or.inl ⟨_,_,e,rfl⟩,by decide,fun _ h=>by cases h⟩
  ·have A:=zn9 (q 0 s).1.1;have g:a.spot=none:=by
    cases a with | mk b o l=>cases l<;>simp [Addr.add]at A ⊢
   obtain⟨b,o,l⟩:=a;simp only at g;subst g;refine⟨(List.range d).map f,Or.inr ⟨b,o,E,by simpa using e,fun j hj=>?_⟩,by simp;omega,fun r k=>?_⟩
   ·have B:j<d:=by simpa using hj
    have:=(q j B).1;rw[Addr.add_lit,Addr.add_lit,Addr.add_lit]at this;simpa [Nat.add_assoc] using this
   ·simp only[List.mem_map,List.mem_range]at k;obtain⟨i,C,rfl⟩:=k;exact(q i C).2
theorem zc7v {q:Nat} {v:Value} {x:DataW H×List MemPlace} (h:DataW.trod enc Tryz.prog W base spare held q 69 [v]=some x) :
  ∃zs:List Int,KeysAt W v zs/\zs.length<=maxLen:=by
 rcases open_slice1 Tryz.underlying69 Tryz.cellsInt h with⟨e,_⟩|⟨a,c,y,m,n,V,D,I,e,_,J,K,A,_,E⟩
 ·simp only[List.cons.injEq,and_true]at e;exact⟨[],Or.inl ⟨none,0,e,rfl⟩,by decide⟩
 ·simp only[List.cons.injEq,and_true]at e;have G:c<=m:=by rw[A];split<;>omega
  have l:∀i,i<c->∃z:Int,W.cell? (a.add i)=some (.int .i64 z):=fun i hi=>by
   obtain⟨B,C⟩:=E i (by omega);obtain⟨k,t,_,_⟩:=DataW.trod_int Tryz.underlying3 C;simp only[List.cons.injEq,and_true]at t;exact⟨k,by rw[B,t]⟩
  obtain⟨f,u⟩:=choose_lt l;rcases Nat.eq_zero_or_pos c with F | p
  ·subst F;exact⟨[],Or.inl ⟨_,_,e,rfl⟩,by decide⟩
  ·have r:=zn9 (u 0 p);have d:a.spot=none:=by
    cases a with | mk b o g=>cases g<;>simp [Addr.add]at r ⊢
   obtain⟨b,o,g⟩:=a;simp only at d;subst d;refine⟨(List.range c).map f,Or.inr ⟨b,o,y,by simpa using e,fun j hj=>?_⟩,by simp;omega⟩;have s:j<c:=by simpa using hj
   have:=u j s;rw[Addr.add_lit]at this;simpa using this
end
theorem zc7w {H:Type} {enc:TypeId×Value->H} {a:Assume} {C:Checked} {os:Os} {f:FuncId} {d:Func} {s:ChangeSpec} {k:List PathCond} {b l c m:Bool} {X:World->Array Value->Prop}
  (E:∀(w w':World) (args:Array Value),w.heap=w'.heap->X w args->X w' args)
  (z:ownKnob C.prog.godebug=none) (n:os.Started) (p:C.prog.inits.idxOf? f=none) (A:C.prog.funcs[f]? =some d)
  (o:∃(w:World) (tape:Tape) (i:Input),w.os=os/\(w.forCall tape i).Shaped C.prog/\i.vars= []/\Input.okWide C.prog (w.forCall tape i) .any w.heap.size f i /\
   ((s.pre enc C.prog d k b (w.forCall tape i).memory i.args/\X (w.forCall tape i).memory i.args)/\sizedMet enc C.prog d (OpenSpec.ofChange s) b (w.forCall tape i).memory i.args)/\a.holds C.prog (lone (Frame.enter C.prog f i.args .normal) [] (w.forCall tape i)))
  (g:∀(W:World) (base:Nat) (args:Array Value) (ds gs:List (DataW H)) (before:List MemPlace),
   (∀(j:Nat) t v,d.params[j]? =some t->args[j]? =some v->Value.okWide C.prog W .any base t v) ->
   DataW.Whole enc C.prog d.params.toList s.vars b W args.toList ds gs before->W.ShapedOpen C.prog->X W args ->
   Calls C.prog f args W fun e W'=> ∃v,e= .returned v/\s.post enc C.prog d b l c m W args v W') :
  ReturnsInHanded a C os f .any (fun w args=>(s.pre enc C.prog d k b w args/\X w args)/\sizedMet enc C.prog d (OpenSpec.ofChange s) b w args) (s.post enc C.prog d b l c m):=by
 refine returnsInHanded_of_calls z n p o fun w tape i _ hsh _ hok hpre _=>?_;obtain⟨_,_,_,F,q,_,_,_,_,r⟩:=hok;cases Option.some.inj (q.symm.trans A)
 obtain⟨⟨⟨ds,gs,before,B,_⟩,D⟩,_⟩:=hpre;have u:=DataW.Whole.of_heap (w':=w.forCall tape i) (by rfl) B;have y:=E _ (w.forCall tape i) _ (by rfl) D;refine(g (w.forCall tape i) w.heap.size i.args ds gs before r u hsh y).mono fun e W' ⟨v,he,hp⟩=>?_;subst he;exact ChangeSpec.post_blind hp
end Go.Proofs.YtgckdomafbnmkaaGreatDoor
namespace Go.Proofs.YtgckdomafbnmkaaGreatDoor
open Go.ChangeShapes Go.WideShapes Go.ChangeAt Go.RowKit Go.Lib Go.Shelf
theorem Tryz.cellsFile:Tryz.prog.cellsOf 43=6:=by kernel_rfl
theorem list6 {α:Type} {l:List α} (h:l.length=6):∃a b c d e f,l= [a,b,c,d,e,f]:=by
 match l,h with
 | [a,b,c,d,e,f],_=>exact ⟨a,b,c,d,e,f,rfl⟩
section
variable {H : Type} {enc : TypeId × Value → H} {W : World} {base : Nat} {spare : Nat → Bool} {held : Bool}
end
end Go.Proofs.YtgckdomafbnmkaaGreatDoor
namespace Go.Proofs.YtgckdomafbnmkaaGreatDoor
open Go.ChangeShapes Go.WideShapes Go.ChangeAt Go.RowKit Go.Deep Go.Lib Go.Shelf
section
variable {H : Type} {enc : TypeId × Value → H} {W : World} {base : Nat} {spare : Nat → Bool} {held : Bool}
theorem zc7x {d:Nat} {cs:List Value} {x:DataW H×List MemPlace} (h:DataW.trod enc Tryz.prog W base spare held d 43 cs=some x) :
  ∃f:Fl,cs=encF f/\f.1.size<=maxLen/\f.2.1.size<=maxLen:=by
 obtain⟨u,n,_,_,v,c,b⟩:=DataW.trod_struct Tryz.underlying43 h;obtain⟨y,z,A,B,C,D,rfl⟩:=list6 (v.trans Tryz.cellsFile);obtain⟨E,F,G,I,J,K,rfl⟩:=list6 (show u.length=6 from c);have o:DataW.trod enc Tryz.prog W base spare held n 9 [y]=some E:=by simpa [Tryz.cellsString] using b 0 _ rfl
 have p:DataW.trod enc Tryz.prog W base spare held n 9 [z]=some F:=by simpa [Tryz.cellsString] using b 1 _ rfl
 have q:DataW.trod enc Tryz.prog W base spare held n 3 [A]=some G:=by simpa [Tryz.cellsInt] using b 2 _ rfl
 have r:DataW.trod enc Tryz.prog W base spare held n 3 [B]=some I:=by simpa [Tryz.cellsInt] using b 3 _ rfl
 have s:DataW.trod enc Tryz.prog W base spare held n 3 [C]=some J:=by simpa [Tryz.cellsInt] using b 4 _ rfl
 have t:DataW.trod enc Tryz.prog W base spare held n 3 [D]=some K:=by simpa [Tryz.cellsInt] using b 5 _ rfl
 obtain⟨L,g,_,M⟩:=DataW.trod_string Tryz.underlying9 o;obtain⟨N,i,_,O⟩:=DataW.trod_string Tryz.underlying9 p;obtain⟨P,j,_,_⟩:=DataW.trod_int Tryz.underlying3 q;obtain⟨Q,k,_,_⟩:=DataW.trod_int Tryz.underlying3 r;obtain⟨R,l,_,_⟩:=DataW.trod_int Tryz.underlying3 s;obtain⟨S,m,_,_⟩:=DataW.trod_int Tryz.underlying3 t;simp only[List.cons.injEq,and_true]at g i j k l m;exact⟨(L,N,P,Q,R,S),by rw[g,i,j,k,l,m];rfl,M,O⟩
theorem zb0p {A:Nat} {v:Value} {x:DataW H×List MemPlace} (h:DataW.trod enc Tryz.prog W base spare held A 23 [v]=some x) :
  ∃fs:List Fl,FlsAt W v fs/\fs.length<=maxLen/\∀g∈fs,g.1.size<=maxLen/\g.2.1.size<=maxLen:=by
 rcases open_slice Tryz.underlying23 h with⟨e,_⟩|⟨a,d,I,m,n,D,U,e,_,Q,V,J,_,K⟩
 ·simp only[List.cons.injEq,and_true]at e;exact⟨[],Or.inl ⟨none,0,e,fun _=>rfl,rfl⟩,by decide,fun _ h=>by cases h⟩
 ·simp only[List.cons.injEq,and_true]at e;rw[Tryz.cellsFile]at K;have S:d<=m:=by rw[J];split<;>omega
  have s:∀i,i<d->∃f:Fl,(∀c u,(encF f)[c]? =some u->W.cell? (a.add (i*6+c))=some u)/\f.1.size<=maxLen/\f.2.1.size<=maxLen:=fun i G=>by
   obtain⟨T,N,O⟩:=K i (by omega);obtain⟨_,_,l⟩:=World.cells?_some N;obtain⟨f,p,P⟩:=zc7x O;subst p;refine⟨f,fun c u hu=>?_,P⟩;have L:c<6:=by
    rcases Nat.lt_or_ge c 6 with j | j
    ·exact j
    ·rw[List.getElem?_eq_none (by rw[zh1];exact j)]at hu;cases hu
   have B:=l c L;rw[add_add]at B;rw[B];exact hu
  obtain⟨f,y⟩:=choose_lt s;rcases Nat.eq_zero_or_pos d with R | z
  ·subst R;exact⟨[],Or.inl ⟨_,_,e,fun h=>(nomatch h),rfl⟩,by decide,fun _ h=>by cases h⟩
  ·have C:=zn9 ((y 0 z).1 0 _ rfl);have k:a.spot=none:=by
    cases a with | mk b o q=>cases q<;>simp [Addr.add]at C ⊢
   obtain⟨b,o,q⟩:=a;simp only at k;subst k;refine⟨(List.range d).map f,Or.inr ⟨b,o,I,by simpa using e,by simpa using Q,za4h fun t u hu=>?_⟩,by simp;omega,fun r p=>?_⟩
   ·have M:t<(flatF ((List.range d).map f)).length:=by
     rcases Nat.lt_or_ge t (flatF ((List.range d).map f)).length with j | j
     ·exact j
     ·rw[List.getElem?_eq_none j]at hu;cases hu
    rw[zb2,List.length_map,List.length_range]at M;have E:t / 6<d:=by omega
    have F:t=t / 6*6+t % 6:=by omega
    rw[F,zl4 _ (t / 6) (t % 6) (by simpa using E) (by omega),List.getElem_map,List.getElem_range]at hu;have j:=(y (t / 6) E).1 (t % 6) u hu;rw[Addr.add_lit,<-F]at j;exact j
   ·simp only[List.mem_map,List.mem_range]at p;obtain⟨i,G,rfl⟩:=p;exact(y i G).2
end
theorem Tryz.cellsSnap:Tryz.prog.cellsOf 25=7:=by kernel_rfl
theorem Tryz.cellsFiles:Tryz.prog.cellsOf 23=1:=by kernel_rfl
theorem list7 {α:Type} {l:List α} (h:l.length=7):∃a b c d e f g,l= [a,b,c,d,e,f,g]:=by
 match l,h with
 | [a,b,c,d,e,f,g],_=>exact ⟨a,b,c,d,e,f,g,rfl⟩
theorem array7 {α:Type} {cs:Array α} (h:cs.size=7):∃a b c d e f g,cs= #[a,b,c,d,e,f,g]:=by
 obtain⟨l⟩:=cs;obtain⟨a,b,c,d,e,f,g,rfl⟩:=list7 (l:=l) h;exact⟨a,b,c,d,e,f,g,rfl⟩
section
variable {H : Type} {enc : TypeId × Value → H} {W : World} {base : Nat} {spare : Nat → Bool} {held : Bool}
theorem zc7y {r:Reach} {b0:Nat} {v:Value} {d:DataW H} {p:List MemPlace} (hv:Value.okWide Tryz.prog W r b0 25 v) (h:DataW.Trod enc Tryz.prog W base spare held 25 v d p) :
  ∃(s:Sn) (q:Option Addr) (f:Nat),v=snV s (.slice q s.2.2.2.2.2.2.length f)/\FlsAt W (.slice q s.2.2.2.2.2.2.length f) s.2.2.2.2.2.2/\s.2.2.2.2.2.1.size<=maxLen/\s.2.2.2.2.2.2.length<=maxLen/\∀g∈s.2.2.2.2.2.2,g.1.size<=maxLen/\g.2.1.size<=maxLen:=by
 obtain⟨cs,rfl,m⟩:=okWide_struct Tryz.underlying25 hv;obtain⟨o,t,u,y,z,A,B,rfl⟩:=array7 (m.trans Tryz.cellsSnap);obtain⟨i,R⟩:=h;have l:DataW.trod enc Tryz.prog W base spare held i 25 [o,t,u,y,z,A,B]=some (d,p):=by simpa [Value.cells] using R
 obtain⟨S,n,_,_,_,j,b⟩:=DataW.trod_struct Tryz.underlying25 l;obtain⟨T,U,V,X,Y,Z,y6,rfl⟩:=list7 (show S.length=7 from j);have K:DataW.trod enc Tryz.prog W base spare held n 3 [o]=some T:=by simpa [Tryz.cellsInt] using b 0 _ rfl
 have L:DataW.trod enc Tryz.prog W base spare held n 3 [t]=some U:=by simpa [Tryz.cellsInt] using b 1 _ rfl
 have M:DataW.trod enc Tryz.prog W base spare held n 3 [u]=some V:=by simpa [Tryz.cellsInt] using b 2 _ rfl
 have N:DataW.trod enc Tryz.prog W base spare held n 3 [y]=some X:=by simpa [Tryz.cellsInt] using b 3 _ rfl
 have O:DataW.trod enc Tryz.prog W base spare held n 3 [z]=some Y:=by simpa [Tryz.cellsInt] using b 4 _ rfl
 have P:DataW.trod enc Tryz.prog W base spare held n 9 [A]=some Z:=by simpa [Tryz.cellsString] using b 5 _ rfl
 have Q:DataW.trod enc Tryz.prog W base spare held n 23 [B]=some y6:=by simpa [Tryz.cellsFiles] using b 6 _ rfl
 obtain⟨k0,C,_,_⟩:=DataW.trod_int Tryz.underlying3 K;obtain⟨k1,D,_,_⟩:=DataW.trod_int Tryz.underlying3 L;obtain⟨k2,E,_,_⟩:=DataW.trod_int Tryz.underlying3 M;obtain⟨k3,F,_,_⟩:=DataW.trod_int Tryz.underlying3 N;obtain⟨k4,G,_,_⟩:=DataW.trod_int Tryz.underlying3 O;obtain⟨s5,I,_,h5⟩:=DataW.trod_string Tryz.underlying9 P;obtain⟨fs,k,hl,hg⟩:=zb0p Q;obtain⟨q,c,J⟩:=k.form;simp only[List.cons.injEq,and_true]at C D E F G I;rw[J]at k;exact⟨(k0,k1,k2,k3,k4,s5,fs),q,c,by rw[C,D,E,F,G,I,J];rfl,k,h5,hl,hg⟩
end
theorem Tryz.cellsPiece:Tryz.prog.cellsOf 71=6:=by kernel_rfl
theorem Tryz.cellsRows:Tryz.prog.cellsOf 44=1:=by kernel_rfl
theorem Tryz.cellsKeys:Tryz.prog.cellsOf 69=1:=by kernel_rfl
theorem list6p {α:Type} {l:List α} (h:l.length=6):∃a b c d e f,l= [a,b,c,d,e,f]:=by
 match l,h with
 | [a,b,c,d,e,f],_=>exact ⟨a,b,c,d,e,f,rfl⟩
def encP (vr vk:Value) (p:Pc):List Value:= [.string p.1,.string p.2.1,.string p.2.2.1,vr,vk,.int .i64 p.2.2.2.2.2]
section
variable {H : Type} {enc : TypeId × Value → H} {W : World} {base : Nat} {spare : Nat → Bool} {held : Bool}
theorem zc7z {d:Nat} {cs:List Value} {x:DataW H×List MemPlace} (h:DataW.trod enc Tryz.prog W base spare held d 71 cs=some x):∃(p:Pc) (vr vk:Value),cs=encP vr vk p/\RowsAt W vr p.2.2.2.1/\KeysAt W vk p.2.2.2.2.1/\PcOk p:=by
 obtain⟨y,n,_,_,z,c,b⟩:=DataW.trod_struct Tryz.underlying71 h;obtain⟨A,B,C,f,g,D,rfl⟩:=list6p (z.trans Tryz.cellsPiece);obtain⟨E,F,G,I,J,K,rfl⟩:=list6p (show y.length=6 from c);have q:DataW.trod enc Tryz.prog W base spare held n 9 [A]=some E:=by simpa [Tryz.cellsString] using b 0 _ rfl
 have r:DataW.trod enc Tryz.prog W base spare held n 9 [B]=some F:=by simpa [Tryz.cellsString] using b 1 _ rfl
 have s:DataW.trod enc Tryz.prog W base spare held n 9 [C]=some G:=by simpa [Tryz.cellsString] using b 2 _ rfl
 have t:DataW.trod enc Tryz.prog W base spare held n 44 [f]=some I:=by simpa [Tryz.cellsRows] using b 3 _ rfl
 have u:DataW.trod enc Tryz.prog W base spare held n 69 [g]=some J:=by simpa [Tryz.cellsKeys] using b 4 _ rfl
 have v:DataW.trod enc Tryz.prog W base spare held n 3 [D]=some K:=by simpa [Tryz.cellsInt] using b 5 _ rfl
 obtain⟨L,i,_,M⟩:=DataW.trod_string Tryz.underlying9 q;obtain⟨N,j,_,O⟩:=DataW.trod_string Tryz.underlying9 r;obtain⟨P,k,_,Q⟩:=DataW.trod_string Tryz.underlying9 s;obtain⟨R,S,l,_⟩:=zc7u t;obtain⟨T,U,m⟩:=zc7v u;obtain⟨V,o,_,_⟩:=DataW.trod_int Tryz.underlying3 v;simp only[List.cons.injEq,and_true]at i j k o;exact⟨(L,N,P,R,T,V),f,g,by rw[i,j,k,o];rfl,S,U,M,O,Q,l,m⟩
theorem zc8a {F:Nat} {v:Value} {x:DataW H×List MemPlace} (h:DataW.trod enc Tryz.prog W base spare held F 22 [v]=some x) :
  ∃l:List Pc,PcsAt W v l/\l.length<=maxLen/\∀p∈l,PcOk p:=by
 rcases open_slice Tryz.underlying22 h with⟨e,_⟩|⟨a,g,R,m,n,D,Pl,e,_,hl,hm,S,_,T⟩
 ·simp only[List.cons.injEq,and_true]at e;exact⟨[],Or.inl ⟨none,0,e,rfl⟩,by decide,fun _ h=>by cases h⟩
 ·simp only[List.cons.injEq,and_true]at e;rw[Tryz.cellsPiece]at T;have aa:g<=m:=by rw[S];split<;>omega
  have y:∀i,i<g->∃f:Pc×Value×Value,(∀c u,(encP f.2.1 f.2.2 f.1)[c]? =some u->W.cell? (a.add (i*6+c))=some u)/\RowsAt W f.2.1 f.1.2.2.2.1/\KeysAt W f.2.2 f.1.2.2.2.2.1/\PcOk f.1:=fun i Q=>by
   obtain⟨ab,U,V⟩:=T i (by omega);obtain⟨_,_,q⟩:=World.cells?_some U;obtain⟨p,X,Y,s,z,A,Z⟩:=zc7z V;subst s;refine⟨(p,X,Y),fun c u hu=>?_,z,A,Z⟩;have d:c<6:=by
    rcases Nat.lt_or_ge c 6 with C | C
    ·exact C
    ·rw[List.getElem?_eq_none (by simp[encP];exact C)]at hu;cases hu
   have G:=q c d;rw[add_add]at G;rw[G];exact hu
  obtain⟨f,B⟩:=choose_lt y;rcases Nat.eq_zero_or_pos g with h0 | E
  ·subst h0;exact⟨[],Or.inl ⟨_,_,e,rfl⟩,by decide,fun _ h=>by cases h⟩
  ·have I:=zn9 ((B 0 E).1 0 _ rfl);have k:a.spot=none:=by
    cases a with | mk b o t=>cases t<;>simp [Addr.add]at I ⊢
   obtain⟨b,o,t⟩:=a;simp only at k;subst k;refine⟨(List.range g).map fun i=>(f i).1,Or.inr ⟨b,o,R,by simpa using e,fun j hj=>?_⟩,by simp;omega,fun r s=>?_⟩
   ·have J:j<g:=by simpa using hj
    obtain⟨d,z,A,_⟩:=B j J;have K:=d 0 _ rfl;have L:=d 1 _ rfl;have M:=d 2 _ rfl;have N:=d 3 _ rfl;have O:=d 4 _ rfl;have P:=d 5 _ rfl;rw[Addr.add_lit]at K L M N O P;simp only[List.getElem_map,List.getElem_range];exact⟨(f j).2.1,(f j).2.2,K,by rw[Nat.add_assoc];exact L,by rw[Nat.add_assoc];exact M,by rw[Nat.add_assoc];exact N,by rw[Nat.add_assoc];exact O,by rw[Nat.add_assoc];exact P,z,A⟩
   ·simp only[List.mem_map,List.mem_range]at s;obtain⟨i,Q,rfl⟩:=s;exact(B i Q).2.2.2
end
section
variable {H : Type} {enc : TypeId × Value → H} {W : World} {base : Nat} {spare : Nat → Bool} {held : Bool}
theorem zc8b {s:Nat} {v:Value} {x:DataW H×List MemPlace} (h:DataW.trod enc Tryz.prog W base spare held s 39 [v]=some x) :
  ∃ts:List ByteArray,TxsAt W v ts/\ts.length<=maxLen/\∀t∈ts,t.size<=maxLen:=by
 rcases open_slice1 Tryz.underlying39 Tryz.cellsString h with⟨e,_⟩|⟨a,c,B,m,n,V,D,L,e,_,M,N,C,_,I⟩
 ·simp only[List.cons.injEq,and_true]at e;exact⟨[],Or.inl ⟨none,0,e,rfl⟩,by decide,fun _ h=>by cases h⟩
 ·simp only[List.cons.injEq,and_true]at e;have K:c<=m:=by rw[C];split<;>omega
  have l:∀i,i<c->∃t:ByteArray,W.cell? (a.add i)=some (.string t)/\t.size<=maxLen:=fun i A=>by
   obtain⟨E,F⟩:=I i (by omega);obtain⟨k,z,_,G⟩:=DataW.trod_string Tryz.underlying9 F;simp only[List.cons.injEq,and_true]at z;exact⟨k,by rw[E,z],G⟩
  obtain⟨f,p⟩:=choose_lt l;rcases Nat.eq_zero_or_pos c with J | q
  ·subst J;exact⟨[],Or.inl ⟨_,_,e,rfl⟩,by decide,fun _ h=>by cases h⟩
  ·have u:=zn9 (p 0 q).1;have d:a.spot=none:=by
    cases a with | mk b o g=>cases g<;>simp [Addr.add]at u ⊢
   obtain⟨b,o,g⟩:=a;simp only at d;subst d;refine⟨(List.range c).map f,Or.inr ⟨b,o,B,by simpa using e,fun j hj=>?_⟩,by simp;omega,fun r hr=>?_⟩
   ·have y:j<c:=by simpa using hj
    have:=(p j y).1;rw[Addr.add_lit]at this;simpa using this
   ·simp only[List.mem_map,List.mem_range]at hr;obtain⟨i,A,rfl⟩:=hr;exact(p i A).2
end
end Go.Proofs.YtgckdomafbnmkaaGreatDoor
namespace Go.Proofs.YtgckdomafbnmkaaGreatDoor
open Go.ChangeShapes Go.WideShapes Go.ChangeAt Go.RowKit Go.Lib Go.Shelf
theorem Tryz.own:ownKnob Tryz.prog.godebug=none:=by kernel_rfl
theorem Tryz.rt : (Tryz.prog.cutTypes.find? (·.1 == "internal/reflectlite.rtype")).map (·.2) = some 254 := by kernel_rfl
theorem Tryz.oneRow:((List.range 362).filter fun t=>Tryz.prog.rowNamed t [101,114,114,111,114])= [35]:=by kernel_rfl
theorem Tryz.size:Tryz.prog.types.size=362:=by kernel_rfl
theorem Tryz.et : Tryz.prog.globalNamed "errors.errorType" = some 13 := by kernel_rfl
theorem Tryz.cellsES:Tryz.prog.cellsOf 327=1:=by kernel_rfl
theorem Tryz.star : "*" ++ "errors.errorString" = "*errors.errorString" := by decide
theorem Tryz.rowES (u : TypeId) (h : Tryz.prog.typeName? 3 u = some "*errors.errorString") : u = 325 :=
 typeName_ptr_named (nm := "errors.errorString") (by rw [Tryz.star]; kernel_rfl) (by kernel_rfl) (by decide) u (by rw [Tryz.star]; exact h)
theorem zc9 {n nm:String} {i:List UInt8} {r:List (String×DataW Unit)} {W:World} {P:Program} {g:Nat} {ti l m o:TypeId} {K:Array (String×TypeId)} {f:Field}
  (h:laidMet P ((n,.iface nm (.ptr (.agg [.lit (.string i)]))) :: r) W)
  (L:P.globalNamed n=some g) (M:(P.globals[g]?).map (·.type)=some ti) (hi:P.underlying ti=some (.interface K)) (p:∀u,P.typeName? 3 u=some nm->u=l)
  (N:P.underlying l=some (.pointer m)) (O:P.underlying m=some (.struct #[f])) (D:f.type=o) (E:f.offset=0) (Q:P.underlying o=some .string) (R:P.cellsOf m=1) (F:P.cellsOf o=1) :
  ∃(a:Addr) (s:ByteArray) (c:Array Value) (t:TypeId),W.cell? ⟨g,0,none⟩=some (.iface l (.pointer (some a)))/\W.cell? a=some (.string s)/\s.data.toList=i/\W.heap[a.block]? =some (.cells c t (0,0)):=by
 obtain⟨T,⟨U,V,y,X,Y,Z,d,z,j,A,_,G⟩,_,b⟩:=h;obtain rfl:=Option.some.inj (L.symm.trans d);obtain rfl:=Option.some.inj (M.symm.trans z);subst G;obtain⟨H⟩:=y;have q:∀u v,H= [.iface u v]->Value.okWide P W .any 0 u v:=fun u v e=>by
  subst e;exact(b g 0 (by simp[MemPlace.row])).2 u v (by simpa using World.var?_cell d j 0)
 obtain⟨k,I,rfl,B,C,S,rfl⟩:=errorString_of_trod hi p N O D E Q R F A q;obtain⟨c,t,J⟩:=(b k.block k.off (by simp[MemPlace.row])).1;exact⟨k,I,c,t,by simpa using World.var?_cell d j 0,B,C,J⟩
def errText:Nat->List UInt8
 | 0=> [100,101,101,100,98,111,120,58,32,116,101,120,116]
 | 1=> [100,101,101,100,98,111,120,58,32,98,111,117,110,100]
 | 2=> [100,101,101,100,98,111,120,58,32,115,104,97,112,101]
 | 3=> [100,101,101,100,98,111,120,58,32,107,105,110,100]
 | 4=> [100,101,101,100,98,111,120,58,32,110,97,109,101]
 | 5=> [100,101,101,100,98,111,120,58,32,110,111,110,101]
 | 6=> [100,101,101,100,98,111,120,58,32,101,120,105,115,116]
 | 7=> [100,101,101,100,98,111,120,58,32,102,117,108,108]
 | 8=> [100,101,101,100,98,111,120,58,32,111,114,100,101,114]
 | 9=> [100,101,101,100,98,111,120,58,32,115,117,109]
 | 10=> [100,101,101,100,98,111,120,58,32,115,116,97,108,101]
 | _=> [100,101,101,100,98,111,120,58,32,111,102,102]
theorem zc8c:∀i,i<12->∀j,j<12->errText i=errText j->i=j:=by decide
def errList:List (String×DataW Unit) :=
 [("deedbox/api.ErrText", .iface "*errors.errorString" (.ptr (.agg [.lit (.string [100, 101, 101, 100, 98, 111, 120, 58, 32, 116, 101, 120, 116])]))), ("deedbox/api.ErrBound", .iface "*errors.errorString" (.ptr (.agg [.lit (.string [100, 101, 101, 100, 98, 111, 120, 58, 32, 98, 111, 117, 110, 100])]))), ("deedbox/api.ErrShape", .iface "*errors.errorString" (.ptr (.agg [.lit (.string [100, 101, 101, 100, 98, 111, 120, 58, 32, 115, 104, 97, 112, 101])]))), ("deedbox/api.ErrKind", .iface "*errors.errorString" (.ptr (.agg [.lit (.string [100, 101, 101, 100, 98, 111, 120, 58, 32, 107, 105, 110, 100])]))), ("deedbox/api.ErrName", .iface "*errors.errorString" (.ptr (.agg [.lit (.string [100, 101, 101, 100, 98, 111, 120, 58, 32, 110, 97, 109, 101])]))), ("deedbox/api.ErrNone", .iface "*errors.errorString" (.ptr (.agg [.lit (.string [100, 101, 101, 100, 98, 111, 120, 58, 32, 110, 111, 110, 101])]))), ("deedbox/api.ErrExist", .iface "*errors.errorString" (.ptr (.agg [.lit (.string [100, 101, 101, 100, 98, 111, 120, 58, 32, 101, 120, 105, 115, 116])]))), ("deedbox/api.ErrFull", .iface "*errors.errorString" (.ptr (.agg [.lit (.string [100, 101, 101, 100, 98, 111, 120, 58, 32, 102, 117, 108, 108])]))), ("deedbox/api.ErrOrder", .iface "*errors.errorString" (.ptr (.agg [.lit (.string [100, 101, 101, 100, 98, 111, 120, 58, 32, 111, 114, 100, 101, 114])]))), ("deedbox/api.ErrSum", .iface "*errors.errorString" (.ptr (.agg [.lit (.string [100, 101, 101, 100, 98, 111, 120, 58, 32, 115, 117, 109])]))), ("deedbox/api.ErrStale", .iface "*errors.errorString" (.ptr (.agg [.lit (.string [100, 101, 101, 100, 98, 111, 120, 58, 32, 115, 116, 97, 108, 101])]))), ("deedbox/api.ErrOff", .iface "*errors.errorString" (.ptr (.agg [.lit (.string [100, 101, 101, 100, 98, 111, 120, 58, 32, 111, 102, 102])])))]
theorem zc8d {W:World} {r:List (String×DataW Unit)} (h:laidMet Tryz.prog (errList++r) W) (hh:W.cell? ⟨13,0,none⟩=some (.iface 254 (.agg #[.pointer (some ⟨21,35,none⟩)]))):∃a,Errs W a:=by
 obtain⟨l,P,Q,R,S,T,U,V⟩:=zc9 h (g:=6) (ti:=35) (by kernel_rfl) (by kernel_rfl) Tryz.underlying35 Tryz.rowES Tryz.underlying325 Tryz.underlying327 rfl rfl Tryz.underlying9 Tryz.cellsES Tryz.cellsString;replace h:=h.tail;obtain⟨m,X,Y,Z,v1,x1,y1,b1⟩:=zc9 h (g:=0) (ti:=35) (by kernel_rfl) (by kernel_rfl) Tryz.underlying35 Tryz.rowES Tryz.underlying325 Tryz.underlying327 rfl rfl Tryz.underlying9 Tryz.cellsES Tryz.cellsString;replace h:=h.tail;obtain⟨n,s2,c2,t2,v2,x2,y2,b2⟩:=zc9 h (g:=1) (ti:=35) (by kernel_rfl) (by kernel_rfl) Tryz.underlying35 Tryz.rowES Tryz.underlying325 Tryz.underlying327 rfl rfl Tryz.underlying9 Tryz.cellsES Tryz.cellsString;replace h:=h.tail;obtain⟨o,s3,c3,t3,v3,x3,y3,b3⟩:=zc9 h (g:=4) (ti:=35) (by kernel_rfl) (by kernel_rfl) Tryz.underlying35 Tryz.rowES Tryz.underlying325 Tryz.underlying327 rfl rfl Tryz.underlying9 Tryz.cellsES Tryz.cellsString;replace h:=h.tail;obtain⟨p,s4,c4,t4,v4,x4,y4,b4⟩:=zc9 h (g:=7) (ti:=35) (by kernel_rfl) (by kernel_rfl) Tryz.underlying35 Tryz.rowES Tryz.underlying325 Tryz.underlying327 rfl rfl Tryz.underlying9 Tryz.cellsES Tryz.cellsString;replace h:=h.tail;obtain⟨q,s5,c5,t5,v5,x5,y5,b5⟩:=zc9 h (g:=2) (ti:=35) (by kernel_rfl) (by kernel_rfl) Tryz.underlying35 Tryz.rowES Tryz.underlying325 Tryz.underlying327 rfl rfl Tryz.underlying9 Tryz.cellsES Tryz.cellsString;replace h:=h.tail;obtain⟨u,s6,c6,t6,v6,x6,y6,b6⟩:=zc9 h (g:=8) (ti:=35) (by kernel_rfl) (by kernel_rfl) Tryz.underlying35 Tryz.rowES Tryz.underlying325 Tryz.underlying327 rfl rfl Tryz.underlying9 Tryz.cellsES Tryz.cellsString;replace h:=h.tail;obtain⟨v,s7,c7,t7,v7,x7,y7,b7⟩:=zc9 h (g:=3) (ti:=35) (by kernel_rfl) (by kernel_rfl) Tryz.underlying35 Tryz.rowES Tryz.underlying325 Tryz.underlying327 rfl rfl Tryz.underlying9 Tryz.cellsES Tryz.cellsString;replace h:=h.tail;obtain⟨y,s8,c8,t8,v8,x8,y8,b8⟩:=zc9 h (g:=5) (ti:=35) (by kernel_rfl) (by kernel_rfl) Tryz.underlying35 Tryz.rowES Tryz.underlying325 Tryz.underlying327 rfl rfl Tryz.underlying9 Tryz.cellsES Tryz.cellsString;replace h:=h.tail;obtain⟨z,s9,c9,t9,v9,x9,y9,b9⟩:=zc9 h (g:=9) (ti:=35) (by kernel_rfl) (by kernel_rfl) Tryz.underlying35 Tryz.rowES Tryz.underlying325 Tryz.underlying327 rfl rfl Tryz.underlying9 Tryz.cellsES Tryz.cellsString;replace h:=h.tail;obtain⟨d,A,B,C,D,E,F,G⟩:=zc9 h (g:=10) (ti:=35) (by kernel_rfl) (by kernel_rfl) Tryz.underlying35 Tryz.rowES Tryz.underlying325 Tryz.underlying327 rfl rfl Tryz.underlying9 Tryz.cellsES Tryz.cellsString;replace h:=h.tail;obtain⟨f,H,I,J,K,L,M,N⟩:=zc9 h (g:=11) (ti:=35) (by kernel_rfl) (by kernel_rfl) Tryz.underlying35 Tryz.rowES Tryz.underlying325 Tryz.underlying327 rfl rfl Tryz.underlying9 Tryz.cellsES Tryz.cellsString;refine⟨fun i=>match i with | 0=>l | 1=>m | 2=>n | 3=>o | 4=>p | 5=>q | 6=>u | 7=>v | 8=>y | 9=>z | 10=>d | _=>f,?_,?_,?_,hh⟩
 ·intro i b
  match i,b with
  | 0,_=>exact S
  | 1,_=>exact v1
  | 2,_=>exact v2
  | 3,_=>exact v3
  | 4,_=>exact v4
  | 5,_=>exact v5
  | 6,_=>exact v6
  | 7,_=>exact v7
  | 8,_=>exact v8
  | 9,_=>exact v9
  | 10,_=>exact D
  | 11,_=>exact K
 ·have c:∀i,i<12->∃s:ByteArray,W.cell? ((fun i=>match i with | 0=>l | 1=>m | 2=>n | 3=>o | 4=>p | 5=>q | 6=>u | 7=>v | 8=>y | 9=>z | 10=>d | _=>f:Nat->Addr) i)=some (.string s)/\s.data.toList=errText i:=by
   intro i b
   match i,b with
   | 0,_=>exact ⟨P,T,U⟩
   | 1,_=>exact ⟨X,x1,y1⟩
   | 2,_=>exact ⟨s2,x2,y2⟩
   | 3,_=>exact ⟨s3,x3,y3⟩
   | 4,_=>exact ⟨s4,x4,y4⟩
   | 5,_=>exact ⟨s5,x5,y5⟩
   | 6,_=>exact ⟨s6,x6,y6⟩
   | 7,_=>exact ⟨s7,x7,y7⟩
   | 8,_=>exact ⟨s8,x8,y8⟩
   | 9,_=>exact ⟨s9,x9,y9⟩
   | 10,_=>exact ⟨A,E,F⟩
   | 11,_=>exact ⟨H,L,M⟩
  intro i j b O e;obtain⟨s,hs,es⟩:=c i b;obtain⟨t,ht,et⟩:=c j O;refine zc8c i b j O ?_;have k:=hs.symm.trans ((congrArg W.cell? e).trans ht);simp only[Option.some.injEq,Value.string.injEq]at k;rw[<-es,<-et,k]
 ·intro i b
  match i,b with
  | 0,_=>exact ⟨Q,R,V⟩
  | 1,_=>exact ⟨Y,Z,b1⟩
  | 2,_=>exact ⟨c2,t2,b2⟩
  | 3,_=>exact ⟨c3,t3,b3⟩
  | 4,_=>exact ⟨c4,t4,b4⟩
  | 5,_=>exact ⟨c5,t5,b5⟩
  | 6,_=>exact ⟨c6,t6,b6⟩
  | 7,_=>exact ⟨c7,t7,b7⟩
  | 8,_=>exact ⟨c8,t8,b8⟩
  | 9,_=>exact ⟨c9,t9,b9⟩
  | 10,_=>exact ⟨B,C,G⟩
  | 11,_=>exact ⟨I,J,N⟩
theorem zc8e {W : World} (h : handlesMet Tryz.prog [("errors.errorType", Rows.laid_errors_errorType)] W) : W.cell? ⟨13, 0, none⟩ = some (.iface 254 (.agg #[.pointer (some ⟨21, 35, none⟩)])) := by
 obtain⟨b,u,i,j,k,l,m,d⟩:=h _ (List.mem_singleton.2 rfl);have f:b= [101,114,114,111,114]:=(Option.some.inj j).symm;subst f;obtain rfl:=Option.some.inj (Tryz.rt.symm.trans k);have c:i∈(List.range 362).filter fun t=>Tryz.prog.rowNamed t [101,114,114,111,114]:=List.mem_filter.2 ⟨List.mem_range.2 (by rw[<-Tryz.size];exact l),m⟩;rw[Tryz.oneRow]at c;obtain rfl:=List.mem_singleton.1 c;have g:typeHandle Tryz.prog 35= .pointer (some ⟨21,35,none⟩):=by kernel_rfl
 rw[g]at d;simpa using World.var?_cell Tryz.et d 0
theorem Tryz.laidOut:laidOutB Tryz.prog=true:=by kernel_rfl
theorem Tryz.maxLenInt (W:World) (h:W.ShapedOpen Tryz.prog):∃m,W.cell? ⟨12,0,none⟩=some (.int .i64 m) :=
 cell_of_shapedOpen_int (zero:=#[.int .i64 0]) (t:=3) h (of_decide_eq_true (by kernel_rfl)) (by kernel_rfl) rfl (by kernel_rfl) (by kernel_rfl) Tryz.underlying3
theorem zc8f:(Rows.laid_internal_strconv_uint64pow10:DataW Unit)=Lib.tabData .u64 Lib.pow10Tab:=by kernel_rfl
def plainList:List (String×DataW Unit) :=
 [("math/bits.deBruijn32tab", Rows.laid_math_bits_deBruijn32tab), ("math/bits.deBruijn64tab", Rows.laid_math_bits_deBruijn64tab), ("internal/strconv.uint64pow10", Rows.laid_internal_strconv_uint64pow10), ("unicode/utf8.acceptRanges", Rows.laid_unicode_utf8_acceptRanges)] ++ (errList ++ [("strconv.ErrRange", Rows.laid_strconv_ErrRange), ("strconv.ErrSyntax", Rows.laid_strconv_ErrSyntax), ("unicode/utf8.first", Rows.laid_unicode_utf8_first)])
theorem zc8g {W : World} (f : W.ShapedOpen Tryz.prog) (i : laidMet Tryz.prog plainList W) (m : handlesMet Tryz.prog [("errors.errorType", Rows.laid_errors_errorType)] W) : ∃ a, Env W a ∧ Errs W a := by
 have j : laidMet Tryz.prog (("internal/strconv.uint64pow10", Lib.tabData .u64 Lib.pow10Tab) :: plainList.drop 3) W := by rw [← zc8f]; exact i.tail.tail
 have k := tabIs_of_head (P := Tryz.prog) (name := "internal/strconv.uint64pow10") (g := 18) (t := 329) (e := 252) (n := 20) (by kernel_rfl) (by kernel_rfl) (by kernel_rfl) (by kernel_rfl) (by kernel_rfl) (by kernel_rfl) j;have c : laidMet Tryz.prog (errList ++ [("strconv.ErrRange", Rows.laid_strconv_ErrRange), ("strconv.ErrSyntax", Rows.laid_strconv_ErrSyntax), ("unicode/utf8.first", Rows.laid_unicode_utf8_first)]) W := i.tail.tail.tail.tail;obtain ⟨a, b⟩ := zc8d c (zc8e m);have d : laidMet Tryz.prog [("strconv.ErrSyntax", Rows.laid_strconv_ErrSyntax), ("unicode/utf8.first", Rows.laid_unicode_utf8_first)] W := c.tail.tail.tail.tail.tail.tail.tail.tail.tail.tail.tail.tail.tail;obtain ⟨o, _, _, _, l, _⟩ := zc9 d (g := 14) (ti := 35) (by kernel_rfl) (by kernel_rfl) Tryz.underlying35 Tryz.rowES Tryz.underlying325 Tryz.underlying327 rfl rfl Tryz.underlying9 Tryz.cellsES Tryz.cellsString;exact ⟨a, ⟨b.cell 0 (by decide), b.cell 1 (by decide), b.cell 4 (by decide), Tryz.maxLenInt W f, ⟨_, _, l⟩, k⟩, b⟩
def layCell (v:Value):Obj->Obj
 | .cells _ t frozen=>.cells #[v] t frozen
 | o=>o
noncomputable def handed (os:Os):World :=
 let w0:=World.holding Tryz.prog os ⟨#[],#[], []⟩
 { w0 with heap:=w0.heap.modify 13 (layCell (.iface 254 (.agg #[.pointer (some ⟨21,35,none⟩)]))) }
noncomputable def tellsWorld (os:Os):World:=(handed os).layVars Tryz.prog plainList
theorem zc8h (os:Os):(tellsWorld os).os=os:=by
 unfold tellsWorld;rw[World.layVars_os];rfl
theorem zc8i (os:Os):(tellsWorld os).Shaped Tryz.prog:=World.shaped_of_ZipB (by kernel_rfl) (by kernel_rfl)
theorem zc8j (os : Os) (args : Array Value) {l : List (String × DataW Unit)} (d : (l.filter fun x => x.2.handleName?.isNone) = plainList) (f : (l.filter fun x => x.2.handleName?.isSome) = [("errors.errorType", Rows.laid_errors_errorType)]) :
  laidMetH Tryz.prog l ((tellsWorld os).forCall (fun _ _=>0) ⟨#[],args, []⟩).memory:=by
 refine laidMetH_of_parts ?_ ?_
 ·rw[d];have b:(plainList.filter fun x=>(plainList.map (·.1)).contains x.1)=plainList:=List.filter_eq_self.2 fun x hx=>List.contains_iff_mem.2 (List.mem_map.2 ⟨x,hx,rfl⟩);have c:(plainList.filter fun x=> !(plainList.map (·.1)).contains x.1)= []:=List.filter_eq_nil_iff.2 fun x hx=>by rw[List.contains_iff_mem.2 (List.mem_map.2 ⟨x,hx,rfl⟩)];simp
  have h:laidMet Tryz.prog plainList (tellsWorld os):=laidMet_layVars (w0:=handed os) (plainList.map (·.1)) [] (by rw[b];rfl) (by rw[b];kernel_rfl) (by rw[b];kernel_rfl) (by rw[c];exact LaidIn.none);exact h.of_heap (by simp[World.memory,World.forCall,Input.heap])
 ·rw[f];kernel_rfl
theorem zc8k {l : List (String × DataW Unit)} {W : World} (b : (l.filter fun x => x.2.handleName?.isNone) = plainList) (c : (l.filter fun x => x.2.handleName?.isSome) = [("errors.errorType", Rows.laid_errors_errorType)]) (h : laidMetH Tryz.prog l W) :
  laidMet Tryz.prog plainList W ∧ handlesMet Tryz.prog [("errors.errorType", Rows.laid_errors_errorType)] W := by
 unfold laidMetH at h;rw[c,b]at h;exact h
theorem zc8l {W : World} (d : W.ShapedOpen Tryz.prog) (f : laidMet Tryz.prog plainList W) (g : handlesMet Tryz.prog [("errors.errorType", Rows.laid_errors_errorType)] W) : ∃ a, ErrsX W a ∧ Errs W a := by
 obtain⟨a,b,c⟩:=zc8g d f g;exact⟨a,⟨fun i hi _=>c.cell i hi,c.handle,⟨b.maxl,b.syn,b.tab⟩⟩,c⟩
end Go.Proofs.YtgckdomafbnmkaaGreatDoor
