/- By an AI agent. -/
import Derived.Test.YtcllhobffhkafaaGreatDoorRefEnds
import Derived.LaidEql
import Derived.Stop.Asserts
import Derived.RowKitTokens
import Derived.Deep.CutBlock
set_option maxRecDepth 100000
set_option maxHeartbeats 16000000
open Go.Proofs.Tryz
open Array renaming getElem?_eq_none->Qv,getLit->QH
open Bool renaming true->Qd,false->Qi,and_eq_true->QU
open Go renaming World->J,Value->Qa,Addr->Qc,run_callFunc_extern->Qe,Calls->Ql,TypeId->Qn,heap_setCell_same->Qr,heap_alloc_new->Qz,method->Q1,cell_of_row->QA,run_typeAssert_lacksB->QC,loadVar->QK,underlying->QL,bodyPost_ret->QS,run_neq_struct->QW,run_equalIn_agg->QX,storeCells->Xf,wp_loop_rounds->Xg,rounds_succ->Xh,run_underlying->Xj,run_firstCells_none->Xl,run_append_own_at->Xm
open Go.Builtin renaming append_->QR,lenOf->Xk
open Go.Ending renaming returned->Qm
open Go.Extern.ReflectliteType renaming relation->Qq,abiMethod->Q2,typeOf->Q5,assignableTo->Q6,toType->QE,method->QM,elem->QN,implements_->QO
open Go.Extern.ReflectliteValue renaming valueError->Qo,method->Qp,unpack->Q0,isNil->Q3,methodAny->QD,parts->QF,elem->QP,set->QQ,flagAddr->Xe,mk->Xn
open Go.Extern.ReflectliteValue.method renaming match_2->Xc
open Go.Instr renaming typeAssert->QB
open Go.IntKind renaming i64->I,u8->Xb
open Go.Lib renaming itoa->Qf,join->QV
open Go.Obj renaming cells->G
open Go.Proofs.Tryz renaming prog->H,results242->QT,underlying77->QY,underlying271->Xd
open Go.Result renaming andThen->Qt
open Go.Sem renaming run_bind->Q4,run->QG
open Go.Value renaming int->Z,pointer->S,string->A,agg->V,iface->Qb,slice->Qg,bool->Qh,tuple->Qk,nilIface->Qx
open Go.World renaming cell?_alloc_lt->Qj,cell?->Qu,frozen?_alloc_old->Q7
open List renaming drop_eq_getElem_cons->Qw,length_cons->Qy,length_append->Q8,getElem_toArray->QI,getElem_cons_zero->QJ,length_take->QZ,take_append_getElem->Xa,drop_length->Xi
open Nat renaming lt_or_ge->Qs,zero_add->Q9
open Option renaming some->O,none->U
namespace Go.Proofs.YtcllhobffhkafaaGreatDoor
open Go.Extern Go.Extern.Stop Go.RowKit Go.Stop
section
open Go.Lib Go.Shelf Go.Sort
def IY (W:J) (b:Nat) (f:Fl):J:=(((((W.setCell ⟨b,0,U⟩ (A f.1)).setCell ⟨b,1,U⟩ (A f.2.1)).setCell ⟨b,2,U⟩ (Z I f.2.2.1)).setCell ⟨b,3,U⟩ (Z I f.2.2.2.1)).setCell ⟨b,4,U⟩ (Z I f.2.2.2.2.1)).setCell ⟨b,5,U⟩ (Z I f.2.2.2.2.2)
theorem Az.set {W:J} {b:Nat} {f:Fl} (h:Az W b f) (c:Fl):Az (IY W b c) b c:=by
 unfold Az IY at *;rw[Qr _ _ _ _ _ _ (Qr _ _ _ _ _ _ (Qr _ _ _ _ _ _ (Qr _ _ _ _ _ _ (Qr _ _ _ _ _ _ (Qr _ _ _ _ _ _ h)))))];rfl
theorem Mf {W d:J} {B b:Nat} {f:Fl} (h:Below B d W) (c:B<=b):Below B d (IY W b f):=(((((h.setCell c _).setCell c _).setCell c _).setCell c _).setCell c _).setCell c _
theorem NU (f:Fl) (w:J) (a:Nat->Qc) (h:GP w a) (W:f.1.size<=100000) (X:f.2.1.size<=100000) :
  Ql H 242 #[A1 f] w fun e w'=>e=Qm (Qk #[A1 (DZ f).1,Ae a (DZ f).2])/\BL w w':=by
 have i:BL w ((w.alloc (G #[A f.1,A f.2.1,Z I f.2.2.1,Z I f.2.2.2.1,Z I f.2.2.2.2.1,Z I f.2.2.2.2.2] 77)).alloc (G #[A ⟨#[]⟩,A ⟨#[]⟩,Z I 0,Z I 0,Z I 0,Z I 0] 77)):=(Af _ _).alloc (by simp) _;have D:Az ((w.alloc (G #[A f.1,A f.2.1,Z I f.2.2.1,Z I f.2.2.2.1,Z I f.2.2.2.2.1,Z I f.2.2.2.2.2] 77)).alloc (G #[A ⟨#[]⟩,A ⟨#[]⟩,Z I 0,Z I 0,Z I 0,Z I 0] 77)) w.heap.size f:=(Az.new w f).below (Af _ _);have s:Az ((w.alloc (G #[A f.1,A f.2.1,Z I f.2.2.1,Z I f.2.2.2.1,Z I f.2.2.2.2.1,Z I f.2.2.2.2.2] 77)).alloc (G #[A ⟨#[]⟩,A ⟨#[]⟩,Z I 0,Z I 0,Z I 0,Z I 0] 77)) (w.heap.size+1) B7:=by
  have:=Az.new (w.alloc (G #[A f.1,A f.2.1,Z I f.2.2.1,Z I f.2.2.2.1,Z I f.2.2.2.2.1,Z I f.2.2.2.2.2] 77)) B7;rw[show (w.alloc (G #[A f.1,A f.2.1,Z I f.2.2.1,Z I f.2.2.2.1,Z I f.2.2.2.2.1,Z I f.2.2.2.2.2] 77)).heap.size=w.heap.size+1 by simp]at this;exact this
 have b:=Me f _ a (h.below i) W X;unfold DZ;by_cases u:At f=0
 ·rw[if_pos u];rw[u]at b;obtain⟨p,q,n,l,m,g⟩:=f;unfold A1 at b ⊢;simp only[Ae]at b ⊢
  go_enter func242,ntmps242
  go_wp2_with fail
  refine b.mono ?_;rintro e T ⟨rfl,c⟩;have k:=Ad i c;obtain⟨x0,x1,x2,x3,x4,x5,_⟩:=(D.below c).cells;have d:=s.below c;obtain⟨o,r,y,z,B,C,P⟩:=d.cells;obtain⟨E,F,K,L,M,N,Q⟩:=(d.set (p,q,n,l,m,g)).cells;have t:=Mf (f:=(p,q,n,l,m,g)) k (Nat.le_succ w.heap.size);unfold IY at E F K L M N Q t;go_wp2;exact QS (v:=Qk #[V #[A p,A q,Z I n,Z I l,Z I m,Z I g],Qx]) (by simp[results,QT,go_sem,E,F,K,L,M,N]) rfl ⟨rfl,t⟩
 ·rw[if_neg u];obtain⟨j,R⟩:∃j,At f=j+1:=⟨At f-1,by omega⟩;rw[R]at b ⊢;obtain⟨p,q,n,l,m,g⟩:=f;unfold A1 B7 at *;simp only[Ae]at b ⊢
  go_enter func242,ntmps242
  go_wp2_with fail
  refine b.mono ?_;rintro e T ⟨rfl,c⟩;have k:=Ad i c;have d:=s.below c;obtain⟨o,r,y,z,B,C,P⟩:=d.cells;simp only[Ab]at o r;have Y:=Ah o;have s1:=Ah r;have s2:=Ah y;have s3:=Ah z;have s4:=Ah B;have s5:=Ah C;go_wp2;exact QS (v:=Qk #[V #[A ⟨#[]⟩,A ⟨#[]⟩,Z I 0,Z I 0,Z I 0,Z I 0],Qb 410 (S (O (a j)))]) (by simp[results,QT,go_sem,o,r,y,z,B,C]) rfl ⟨rfl,k⟩
theorem NV {f:Fl} (h:At f=0):(Cb f).length<=f.1.size+f.2.1.size+60:=by
 obtain⟨g,n,_,_,j⟩:=D0 h;obtain⟨b,c,d,i⟩:=LP j;simp only[Ao,QU,decide_eq_true_eq]at b c d i;have k:=E6 _ b.1 b.2;have l:=E6 _ c.1 c.2;have m:=E6 _ d.1 d.2;have o:=E6 _ i.1 i.2;unfold Cb;simp only[Q8,Qy,AA];omega
theorem fT (f:Fl) (w:J) (a:Nat->Qc) (h:GP w a) (R:f.1.size<=100000) (T:f.2.1.size<=100000) :
  Ql H 306 #[A1 f] w fun e w'=>e=Qm (A (LN f))/\BL w w':=by
 have r:BL w (w.alloc (G #[A f.1,A f.2.1,Z I f.2.2.1,Z I f.2.2.2.1,Z I f.2.2.2.2.1,Z I f.2.2.2.2.2] 77)):=Af _ _;have z:=Az.new w f;have b:=Me f _ a (h.below r) R T;have B:At f=0->(Ao f.2.2.1=Qd/\Ao f.2.2.2.1=Qd/\Ao f.2.2.2.2.1=Qd/\Ao f.2.2.2.2.2=Qd):=fun o=>let ⟨_,_,_,_,v⟩:=D0 o;LP v;have W:=@NV f;unfold LN;by_cases o:At f=0
 ·rw[if_pos o];rw[o]at b;have v:=B o;obtain⟨p,q,n,i,k,c⟩:=f;unfold A1 at b ⊢;simp only[Ae]at b;simp only[Ao,QU,decide_eq_true_eq]at v
  go_enter func306,ntmps306
  go_wp2_with fail
  refine b.mono ?_;rintro e s ⟨rfl,m⟩;have l:=Ad r m;have C:=(h.below l).env;obtain⟨K,L,M,N,P,Q,_⟩:=(z.below m).cells;generalize w.heap.size=g at K L M N P Q;have X:BL s s:=Below.refl _ _
  go_wp2_with fail
  go_region_held3 (fun w'=>w'.cell? ⟨g,0,U⟩=O (A p)/\w'.cell? ⟨g,1,U⟩=O (A q)/\w'.cell? ⟨g,2,U⟩=O (Z I n)/\w'.cell? ⟨g,3,U⟩=O (Z I i)/\w'.cell? ⟨g,4,U⟩=O (Z I k)/\w'.cell? ⟨g,5,U⟩=O (Z I c)/\BL s w')
   (first
    | (go_split_ands;exact⟨Aa d (by assumption),Aa d (by assumption),Aa d (by assumption),Aa d (by assumption),Aa d (by assumption),Aa d (by assumption),Below.trans (by assumption) (d.mono (Below.size (by assumption)))⟩)
    | (go_split_ands;exact⟨by go_keep,by go_keep,by go_keep,by go_keep,by go_keep,by go_keep,by assumption⟩)
    | (go_split_ands;exact⟨by go_keep,by go_keep,by go_keep,by go_keep,by go_keep,by go_keep,Below.drew (by assumption)⟩)
    | (go_split_ands;exact⟨by go_keep,by go_keep,by go_keep,by go_keep,by go_keep,by go_keep,Below.alloc (by assumption) (Below.size (by assumption)) _⟩))
   (first
    | (go_at_call 86;refine(aO _ _ (C.below (by go_split_ands;assumption)).base (by omega) (by omega)).mono ?_;rintro e y ⟨rfl,d⟩))
  go_split_ands;have D:BL s (y.alloc (G #[A p,A q,A (Ab (Qf n)),A (Ab (Qf i)),A (Ab (Qf k)),A (Ab (Qf c))] 9)):=by assumption
  have E:=Ad l D;have u:(QV ([p,q,Ab (Qf n),Ab (Qf i),Ab (Qf k),Ab (Qf c)].map (·.data.toList)) (⟨#[32]⟩:ByteArray).data.toList)=Cb (p,q,n,i,k,c):=by
   simp[QV,Cb,Ab]
  have t:=strings_Join y.heap.size 0 6 [p,q,Ab (Qf n),Ab (Qf i),Ab (Qf k),Ab (Qf c)] ⟨#[32]⟩ (y.alloc (G #[A p,A q,A (Ab (Qf n)),A (Ab (Qf i)),A (Ab (Qf k)),A (Ab (Qf c))] 9)) (fun j x hx=>by
    rw[Q9,QA _ _ _ _ _ _ (Qz _ _)]
    match j,hx with
    | 0,hx=>simp at hx;subst hx;rfl
    | 1,hx=>simp at hx;subst hx;rfl
    | 2,hx=>simp at hx;subst hx;rfl
    | 3,hx=>simp at hx;subst hx;rfl
    | 4,hx=>simp at hx;subst hx;rfl
    | 5,hx=>simp at hx;subst hx;rfl
    | j+6,hx=>simp at hx) (by simp) (by simp) (by simp) (by rw[u];omega)
  rw[u]at t
  go_wp2_with fail
  refine t.mono ?_;rintro e Y ⟨rfl,F⟩;go_wp2;go_ret;exact⟨rfl,(Ad E F)⟩
 ·rw[if_neg o];obtain⟨j,t⟩:∃j,At f=j+1:=⟨At f-1,by omega⟩;rw[t]at b;obtain⟨p,q,n,i,k,c⟩:=f;unfold A1 at b ⊢;simp only[Ae]at b
  go_enter func306,ntmps306
  go_wp2_with fail
  refine b.mono ?_;rintro e s ⟨rfl,m⟩;have l:=Ad r m;go_wp2;go_ret;exact⟨rfl,l⟩
theorem ze1 (f:Fl) (w:J):(binOp .neq 77 (A1 f) (A1 f)).run H w= .ok (Qh Qi) w:=by
 have b:Tryz.prog.underlying 77=O (.struct (Tryz.prog.fieldsOf 77)):=by kernel_rfl
 have c:Tryz.prog.stoodInHeld 77=Qi:=by kernel_rfl
 obtain⟨p,q,n,g,i,d⟩:=f;unfold A1;dsimp only;rw[QW,show (10000:Nat)=9999+1 from rfl,QX w 9999 77 _ _ b c];simp only[Program.fieldsOf,QY]
 go_simp
theorem fU (f g:Fl) (h:f≠g) (w:J):(binOp .neq 77 (A1 f) (A1 g)).run H w= .ok (Qh Qd) w:=by
 have j:Tryz.prog.underlying 77=O (.struct (Tryz.prog.fieldsOf 77)):=by kernel_rfl
 have k:Tryz.prog.stoodInHeld 77=Qi:=by kernel_rfl
 obtain⟨p,q,n,B,C,v⟩:=f;obtain⟨b,c,D,y,z,o⟩:=g;unfold A1;dsimp only;rw[QW,show (10000:Nat)=9999+1 from rfl,QX w 9999 77 _ _ j k];simp only[Program.fieldsOf,QY]
 go_simp
 intro d i r s t u;refine h ?_;rw[ByteArray.toList_eq,ByteArray.toList_eq]at d i;have l:p=b:=by
  cases p;cases b
  simpa using d
 have m:q=c:=by
  cases q;cases c
  simpa using i
 rw[l,m,r,s,t,u]
theorem fV:GuardAt H 77 A1:=GuardAt.agg _ (by kernel_rfl)
theorem JH (w:J) (f:Fl):∀j u,(Bl f)[j]? =O u->(w.alloc (G #[A f.1,A f.2.1,Z I f.2.2.1,Z I f.2.2.2.1,Z I f.2.2.2.2.1,Z I f.2.2.2.2.2] 77)).cell? ((⟨w.heap.size,0,U⟩:Qc).add j)=O u:=by
 intro j u b;rw[Addr.add_lit,Q9,QA _ _ _ _ _ _ (Qz _ _)];rw[<-b];simp[Bl]
def Df (fs:List Fl) (p:ByteArray):Int:=match fs.findIdx? (fun f=>decide (f.1=p)) with
 | some i=>i
 | none=> -1
theorem Mg {b:List Fl} {p:ByteArray} {n:Nat} (c:n<b.length) (h:∀j (h:j<b.length),j<n->b[j].1≠p) (e:b[n].1=p):Df b p=n:=by
 unfold Df;have:b.findIdx? (fun f=>decide (f.1=p))=O n:=by
  rw[List.findIdx?_eq_some_iff_getElem];exact⟨c,by simpa using e,fun j hj=>by simpa using h j (by omega) hj⟩
 rw[this]
theorem SN {b:List Fl} {p:ByteArray} (h:∀j (h:j<b.length),b[j].1≠p):Df b p= -1:=by
 unfold Df;have:b.findIdx? (fun f=>decide (f.1=p))=U:=by
  rw[List.findIdx?_eq_none_iff];intro f d;obtain⟨j,c,rfl⟩:=List.mem_iff_getElem.1 d;simpa using h j c
 rw[this]
theorem fW {b:List Fl} {n:Nat} {p:ByteArray} (h:∀j (h:j<b.length),j<n->b[j].1≠p) (d:n<b.length) (e:b[n].1≠p):∀j (h:j<b.length),j<n+1->b[j].1≠p:=fun j hj hjn=>by
 rcases Qs j n with c | c
 ·exact h j hj c
 ·obtain rfl:j=n:=by omega
  exact e
def kept (P:Fl->Bool) (fs:List Fl) (n:Nat):List Fl:=(fs.take n).filter P
theorem fY (P:Fl->Bool) (b:List Fl):kept P b 0= []:=by simp[kept]
theorem SQ (P:Fl->Bool) (b:List Fl) (n:Nat):(kept P b n).length<=n:=by
 have:=List.length_filter_le P (b.take n);rw[QZ]at this;unfold kept;omega
theorem K6 (P:Fl->Bool) (b:List Fl) (n:Nat) (h:n<b.length):kept P b (n+1)=if P b[n]=Qd then kept P b n++ [b[n]] else kept P b n:=by
 unfold kept;rw[<-Xa h,List.filter_append];split
 ·rename_i c;rw[List.filter_cons_of_pos c];rfl
 ·rename_i c;rw[List.filter_cons_of_neg c];simp
theorem SR (P:Fl->Bool) (b:List Fl):kept P b b.length=b.filter P:=by unfold kept;rw[List.take_length]
def Aq (lo hi:Int) (f:Fl):Bool:=decide ((if f.2.2.2.1<lo then lo else f.2.2.2.1)<=(if hi<f.2.2.2.2.1 then hi else f.2.2.2.2.1))
end
theorem Tryz.noUnwrapE (v:Qa) (b:Qn) (w:J):(QB (Qb 410 v) b 376 Qd).run H w= .ok (Qk #[Qx,Qh Qi]) w:=QC underlying376 (by kernel_rfl) (by kernel_rfl) v b w
theorem Tryz.noUnwrapsE (v:Qa) (b:Qn) (w:J):(QB (Qb 410 v) b 377 Qd).run H w= .ok (Qk #[Qx,Qh Qi]) w:=QC underlying377 (by kernel_rfl) (by kernel_rfl) v b w
theorem Tryz.noAsE (v:Qa) (b:Qn) (w:J):(QB (Qb 410 v) b 373 Qd).run H w= .ok (Qk #[Qx,Qh Qi]) w:=QC underlying373 (by kernel_rfl) (by kernel_rfl) v b w
theorem Tryz.valueOf27 (t:Qc) (w:J):(Q0 (Qb 271 (S (O t)))).run H w
 = .ok (V #[S (O ⟨21,271,U⟩),S (O ⟨w.heap.size,0,U⟩),.int .u64 150]) (w.alloc (G #[S (O t)] 271)):=by kernel_rfl
theorem Tryz.type27 (a : Qc) (w : J) : (QD (Qo "reflectlite.Value.Type" 0) (fun t _ _ _ => QE t) #[V #[S (O ⟨21, 271, U⟩), S (O a), .int .u64 150]]).run H w
 = .ok (Qb 368 (V #[S (O ⟨21,271,U⟩)])) w:=by kernel_rfl
theorem Tryz.methodKind (h : Qa) (w : J) : (Q1 546 368 (V #[h]) "Kind").run H w = .ok (404, h) w := by kernel_rfl
theorem Tryz.kind27 (w:J):((Q2 fun t=>(fun a:Nat=>Z Xb (a:Int)) <$> Rtype.kind t) #[S (O ⟨21,271,U⟩)]).run H w= .ok (.int .u8 22) w:=by kernel_rfl
theorem Tryz.kind25 (w:J):((Q2 fun t=>(fun a:Nat=>Z Xb (a:Int)) <$> Rtype.kind t) #[S (O ⟨21,140,U⟩)]).run H w= .ok (.int .u8 22) w:=by kernel_rfl
theorem Tryz.parts27 (a:Qc) (w:J):(QF (V #[S (O ⟨21,271,U⟩),S (O a),.int .u64 150])).run H w= .ok (O (271,a,150)) w:=by kernel_rfl
theorem Tryz.isNil27 (a p:Qc) (W:J) (b:W.cell? a=O (S (O p))) :
  (Qp (Qo "reflectlite.Value.IsNil" 0) Q3 #[V #[S (O ⟨21, 271, U⟩), S (O a), .int .u64 150]]).run H W = .ok (Qh Qi) W := by
 delta Qp Xc
 dsimp only;refine Eq.trans (congrArg (fun z=>QG H z W) (dif_pos rfl)) ?_;simp only[Q4,QH,QI,QJ,Tryz.parts27,Qt];simp[Q3,QK,isAgg,QL,Xd,b,Qt]
theorem Tryz.methodElem (h : Qa) (w : J) : (Q1 546 368 (V #[h]) "Elem").run H w = .ok (419, V #[h]) w := by kernel_rfl
theorem Tryz.methodImplements (h : Qa) (w : J) : (Q1 546 368 (V #[h]) "Implements").run H w = .ok (420, V #[h]) w := by kernel_rfl
theorem Tryz.methodAssignableTo (h : Qa) (w : J) : (Q1 546 368 (V #[h]) "AssignableTo").run H w = .ok (417, V #[h]) w := by kernel_rfl
theorem Tryz.elem27 (w:J):(QM QN #[V #[S (O ⟨21,271,U⟩)]]).run H w= .ok (Qb 368 (V #[S (O ⟨21,140,U⟩)])) w:=by kernel_rfl
theorem Tryz.implements25 (w : J) : (Qq "Implements" QO #[V #[S (O ⟨21, 140, U⟩)], Qb 368 (V #[S (O ⟨21, 27, U⟩)])]).run H w = .ok (Qh Qd) w := by kernel_rfl
theorem Tryz.typeOf25 (v:Qa) (w:J):(Q5 #[Qb 140 v]).run H w= .ok (Qb 368 (V #[S (O ⟨21,140,U⟩)])) w:=by kernel_rfl
theorem Tryz.assignable25 (w : J) : (Qq "AssignableTo" Q6 #[V #[S (O ⟨21, 140, U⟩)], Qb 368 (V #[S (O ⟨21, 140, U⟩)])]).run H w = .ok (Qh Qd) w := by kernel_rfl
theorem Tryz.valueOf25 (e:Qc) (w:J):(Q0 (Qb 140 (S (O e)))).run H w
 = .ok (V #[S (O ⟨21,140,U⟩),S (O ⟨w.heap.size,0,U⟩),.int .u64 150]) (w.alloc (G #[S (O e)] 140)):=by kernel_rfl
theorem Tryz.elemOf27 (w:J):(Rtype.elem? 271).run H w= .ok (O 140) w:=by kernel_rfl
theorem Tryz.mk25 (p:Qc) (w:J):(Xn 140 p Xe).run H w= .ok (V #[S (O ⟨21,140,U⟩),S (O p),.int .u64 406]) w:=by kernel_rfl
theorem Tryz.elemV27 (a p:Qc) (W:J) (b:W.cell? a=O (S (O p))) :
  (Qp (Qo "reflectlite.Value.Elem" 0) QP #[V #[S (O ⟨21, 271, U⟩), S (O a), .int .u64 150]]).run H W
   = .ok (V #[S (O ⟨21,140,U⟩),S (O p),.int .u64 406]) W:=by
 delta Qp Xc
 dsimp only;refine Eq.trans (congrArg (fun z=>QG H z W) (dif_pos rfl)) ?_;simp only[Q4,QH,QI,QJ,Tryz.parts27,Qt];simp[QP,QK,isAgg,QL,Xd,b,Qt,Tryz.elemOf27,Tryz.mk25]
theorem Tryz.parts25a (a:Qc) (w:J):(QF (V #[S (O ⟨21,140,U⟩),S (O a),.int .u64 406])).run H w= .ok (O (140,a,406)) w:=by kernel_rfl
theorem Tryz.parts25 (a:Qc) (w:J):(QF (V #[S (O ⟨21,140,U⟩),S (O a),.int .u64 150])).run H w= .ok (O (140,a,150)) w:=by kernel_rfl
theorem Tryz.direct25 (w:J):(Rtype.directlyAssignable 140 140).run H w= .ok Qd w:=by kernel_rfl
theorem Tryz.set25 (c b e:Qc) (d:Qa) (W:J) (f:W.cell? b=O (S (O e))) (g:W.cell? c=O d) (i:W.frozen? c=Qi) :
  (QQ #[V #[S (O ⟨21,140,U⟩),S (O c),.int .u64 406],V #[S (O ⟨21,140,U⟩),S (O b),.int .u64 150]]).run H W
   = .ok (Qk #[]) (W.setCell c (S (O e))):=by
 delta QQ ReflectliteValue.set.match_3
 dsimp only;refine Eq.trans (congrArg (fun z=>QG H z W) (dif_pos rfl)) ?_;simp only[Q4,QH,QI,QJ,List.getElem_cons_succ,Tryz.parts25a,Tryz.parts25,Qt];simp[Xe,QK,isAgg,QL,underlying140,f,Qt,Tryz.direct25,storeVar,Value.cells,Xf,Addr.add];rw[run_store H W c _ _ (by rfl)];simp[g,i]
theorem fZ (e t:Qc) (c:Qa) (w:J) (g:w.cell? ⟨12,0,U⟩=O (Qb 368 (V #[S (O ⟨21,27,U⟩)]))) (d:w.cell? t=O c) (i:w.frozen? t=Qi) :
  Ql H 216 #[Qb 140 (S (O e)),Qb 271 (S (O t))] w fun ev w'=>ev=Qm (Qh Qd)/\w'=((((w.alloc (G #[S (O t)] 271)).alloc (G #[S (O ⟨21,271,U⟩),S (O ⟨w.heap.size,0,U⟩),.int .u64 150] 328)).alloc (G #[S (O ⟨21,271,U⟩),S (O ⟨w.heap.size,0,U⟩),.int .u64 150] 328)).alloc (G #[S (O e)] 140)).setCell t (S (O e)):=by
 have B := @Qe H 300 _ (fun args => Q0 (args.getD 0 (Qk #[]))) func300 (by kernel_rfl) (by kernel_rfl) (by kernel_rfl) (by kernel_rfl);have C := @Qe H 301 _ (QD (Qo "reflectlite.Value.Type" 0) (fun t _ _ _ => QE t)) func301 (by kernel_rfl) (by kernel_rfl) (by kernel_rfl) (by kernel_rfl);have D := @Qe H 302 _ (Qp (Qo "reflectlite.Value.IsNil" 0) Q3) func302 (by kernel_rfl) (by kernel_rfl) (by kernel_rfl) (by kernel_rfl);have j := @Qe H 404 _ (Q2 fun t => do pure (.int .u8 (← Rtype.kind t))) func404 (by kernel_rfl) (by kernel_rfl) (by kernel_rfl) (by kernel_rfl);have k := @Qe H 419 _ (QM QN) func419 (by kernel_rfl) (by kernel_rfl) (by kernel_rfl) (by kernel_rfl);have l := @Qe H 420 _ (Qq "Implements" QO) func420 (by kernel_rfl) (by kernel_rfl) (by kernel_rfl) (by kernel_rfl);have m := @Qe H 346 _ Q5 func346 (by kernel_rfl) (by kernel_rfl) (by kernel_rfl) (by kernel_rfl);have n := @Qe H 417 _ (Qq "AssignableTo" Q6) func417 (by kernel_rfl) (by kernel_rfl) (by kernel_rfl) (by kernel_rfl);have o := @Qe H 347 _ (Qp (Qo "reflectlite.Value.Elem" 0) QP) func347 (by kernel_rfl) (by kernel_rfl) (by kernel_rfl) (by kernel_rfl);have p := @Qe H 348 _ QQ func348 (by kernel_rfl) (by kernel_rfl) (by kernel_rfl) (by kernel_rfl);have E := Tryz.typeOf25;have F := Tryz.methodAssignableTo;have q := Tryz.assignable25;have r := Tryz.valueOf25;have K := Tryz.valueOf27;have L := Tryz.type27;have M := Tryz.methodKind;have N := Tryz.methodElem;have P := Tryz.methodImplements;have s := Tryz.kind27;have u := Tryz.kind25;have v := Tryz.elem27;have y := Tryz.implements25;have Q := Tryz.isNil27 ⟨w.heap.size, 0, U⟩ t ((w.alloc (G #[S (O t)] 271)).alloc (G #[S (O ⟨21, 271, U⟩), S (O ⟨w.heap.size, 0, U⟩), .int .u64 150] 328)) (by simp);have f : 12 < w.heap.size := by
  rcases Qs 12 w.heap.size with h | h
  ·exact h
  ·simp[Qu,Qv h]at g
 have z:((w.alloc (G #[S (O t)] 271)).alloc (G #[S (O ⟨21,271,U⟩),S (O ⟨w.heap.size,0,U⟩),.int .u64 150] 328)).cell? ⟨12,0,U⟩=O (Qb 368 (V #[S (O ⟨21,27,U⟩)])):=by
  rw[Qj _ _ ⟨12,0,U⟩ (by simp;omega),Qj _ _ ⟨12,0,U⟩ f];exact g
 have b:t.block<w.heap.size:=by
  rcases Qs t.block w.heap.size with h | h
  ·exact h
  ·simp[Qu,Qv h]at d
 have R:=Tryz.elemV27 ⟨w.heap.size,0,U⟩ t (((w.alloc (G #[S (O t)] 271)).alloc (G #[S (O ⟨21,271,U⟩),S (O ⟨w.heap.size,0,U⟩),.int .u64 150] 328)).alloc (G #[S (O ⟨21,271,U⟩),S (O ⟨w.heap.size,0,U⟩),.int .u64 150] 328)) (by rw[Qj _ _ ⟨w.heap.size,0,U⟩ (by simp;omega)];simp);have T:=Tryz.set25 t ⟨w.heap.size+1+1+1,0,U⟩ e c ((((w.alloc (G #[S (O t)] 271)).alloc (G #[S (O ⟨21,271,U⟩),S (O ⟨w.heap.size,0,U⟩),.int .u64 150] 328)).alloc (G #[S (O ⟨21,271,U⟩),S (O ⟨w.heap.size,0,U⟩),.int .u64 150] 328)).alloc (G #[S (O e)] 140))
  (by rw[World.cell?_alloc_at _ _ _ _ (by simp)];rfl)
  (by rw[Qj _ _ t (by simp;omega),Qj _ _ t (by simp;omega),Qj _ _ t (by simp;omega),Qj _ _ t b];exact d)
  (by rw[Q7 _ _ t (by simp;omega),Q7 _ _ t (by simp;omega),Q7 _ _ t (by simp;omega),Q7 _ _ t (Nat.ne_of_lt b)];exact i)
 go_enter func216,ntmps216
 go_wp2;refine Xg 1 ?_;rw[Xh];go_wp2;go_ret;exact⟨rfl,rfl⟩
theorem Tryz.typeOfE (v:Qa) (w:J):(Q5 #[Qb 410 v]).run H w= .ok (Qb 368 (V #[S (O ⟨21,410,U⟩)])) w:=by kernel_rfl
theorem Tryz.assignableE (w : J) : (Qq "AssignableTo" Q6 #[V #[S (O ⟨21, 410, U⟩)], Qb 368 (V #[S (O ⟨21, 140, U⟩)])]).run H w = .ok (Qh Qi) w := by kernel_rfl
theorem gC (e t:Qc) (w:J) (c:w.cell? ⟨12,0,U⟩=O (Qb 368 (V #[S (O ⟨21,27,U⟩)]))) :
  Ql H 216 #[Qb 410 (S (O e)),Qb 271 (S (O t))] w fun ev w'=>ev=Qm (Qh Qi)/\w'=(((w.alloc (G #[S (O t)] 271)).alloc (G #[S (O ⟨21,271,U⟩),S (O ⟨w.heap.size,0,U⟩),.int .u64 150] 328)).alloc (G #[S (O ⟨21,271,U⟩),S (O ⟨w.heap.size,0,U⟩),.int .u64 150] 328)):=by
 have q := @Qe H 300 _ (fun args => Q0 (args.getD 0 (Qk #[]))) func300 (by kernel_rfl) (by kernel_rfl) (by kernel_rfl) (by kernel_rfl);have r := @Qe H 301 _ (QD (Qo "reflectlite.Value.Type" 0) (fun t _ _ _ => QE t)) func301 (by kernel_rfl) (by kernel_rfl) (by kernel_rfl) (by kernel_rfl);have s := @Qe H 302 _ (Qp (Qo "reflectlite.Value.IsNil" 0) Q3) func302 (by kernel_rfl) (by kernel_rfl) (by kernel_rfl) (by kernel_rfl);have d := @Qe H 404 _ (Q2 fun t => do pure (.int .u8 (← Rtype.kind t))) func404 (by kernel_rfl) (by kernel_rfl) (by kernel_rfl) (by kernel_rfl);have f := @Qe H 419 _ (QM QN) func419 (by kernel_rfl) (by kernel_rfl) (by kernel_rfl) (by kernel_rfl);have g := @Qe H 420 _ (Qq "Implements" QO) func420 (by kernel_rfl) (by kernel_rfl) (by kernel_rfl) (by kernel_rfl);have i := @Qe H 346 _ Q5 func346 (by kernel_rfl) (by kernel_rfl) (by kernel_rfl) (by kernel_rfl);have j := @Qe H 417 _ (Qq "AssignableTo" Q6) func417 (by kernel_rfl) (by kernel_rfl) (by kernel_rfl) (by kernel_rfl);have u := Tryz.typeOfE;have v := Tryz.methodAssignableTo;have k := Tryz.assignableE;have y := Tryz.noAsE;have z := Tryz.noUnwrapE;have B := Tryz.noUnwrapsE;have C := Tryz.valueOf27;have D := Tryz.type27;have E := Tryz.methodKind;have F := Tryz.methodElem;have K := Tryz.methodImplements;have l := Tryz.kind27;have m := Tryz.kind25;have n := Tryz.elem27;have o := Tryz.implements25;have L := Tryz.isNil27 ⟨w.heap.size, 0, U⟩ t ((w.alloc (G #[S (O t)] 271)).alloc (G #[S (O ⟨21, 271, U⟩), S (O ⟨w.heap.size, 0, U⟩), .int .u64 150] 328)) (by simp);have b : 12 < w.heap.size := by
  rcases Qs 12 w.heap.size with h | h
  ·exact h
  ·simp[Qu,Qv h]at c
 have p:((w.alloc (G #[S (O t)] 271)).alloc (G #[S (O ⟨21,271,U⟩),S (O ⟨w.heap.size,0,U⟩),.int .u64 150] 328)).cell? ⟨12,0,U⟩=O (Qb 368 (V #[S (O ⟨21,27,U⟩)])):=by
  rw[Qj _ _ ⟨12,0,U⟩ (by simp;omega),Qj _ _ ⟨12,0,U⟩ b];exact c
 go_enter func216,ntmps216
 go_wp2;refine Xg 1 ?_;rw[Xh];go_wp2;go_ret;exact⟨rfl,rfl⟩
def gD:Nat->Nat
 | 0=>4
 | 1=>1
 | 2=>0
 | 3=>8
 | 4=>10
 | 5=>3
 | 6=>11
 | 7=>6
 | 8=>7
 | 9=>9
 | 10=>2
 | _=>5
structure GQ (W:J) (a:Nat->Qc):Prop where
 cell:∀i,i<12->W.cell? ⟨gD i,0,U⟩=O (Qb 410 (S (O (a i))))
 inj:∀i j,i<12->j<12->a i=a j->i=j
 block:∀i,i<12->∃c t,W.heap[(a i).block]? =O (G c t (0,0))
 handle:W.cell? ⟨12,0,U⟩=O (Qb 368 (V #[S (O ⟨21,27,U⟩)]))
def Fj (W:J):Prop:=W.cell? ⟨12,0,U⟩=O (Qb 368 (V #[S (O ⟨21,27,U⟩)]))
theorem NW {W:J} {p:Qc} {v:Qa} (h:W.cell? p=O v):p.block<W.heap.size:=by
 rcases Qs p.block W.heap.size with b | b
 ·exact b
 ·simp[Qu,Qv b]at h
theorem gE {W:J} {b:Nat} {o:Obj} (h:W.heap[b]? =O o):b<W.heap.size:=by
 rcases Qs b W.heap.size with c | c
 ·exact c
 ·simp[Qv c]at h
theorem Fj.below {W b:J} (h:Fj W) (c:BL W b):Fj b:=(c.cell (NW h)).trans h
theorem GQ.below {W f:J} {a:Nat->Qc} (h:GQ W a) (b:BL W f):GQ f a where
 cell i hi:=by rw[b.cell (NW (h.cell i hi))];exact h.cell i hi
 inj:=h.inj
 block i hi:=by
  obtain⟨c,t,d⟩:=h.block i hi;exact⟨c,t,by rw[b.block _ (gE d)];exact d⟩
 handle:=by rw[b.cell (NW h.handle)];exact h.handle
theorem gF (e t:Qc) (w:J) (h:Fj w) :
  Ql H 216 #[Qb 410 (S (O e)),Qb 271 (S (O t))] w fun ev w'=>ev=Qm (Qh Qi)/\BL w w':=by
 refine(gC e t w h).mono fun ev w' ⟨he,hw⟩=>⟨he,?_⟩;subst hw;exact((Af _ _).alloc (by simp) _).alloc (by simp;omega) _
theorem gG (e:Qc) (w:J) (h:Fj w) :
  Ql H 216 #[Qb 140 (S (O e)),Qb 271 (S (O ⟨w.heap.size,0,U⟩))] (w.alloc (G #[S U] 140)) fun ev w'=>ev=Qm (Qh Qd)/\BL w w'/\w'.cell? ⟨w.heap.size,0,U⟩=O (S (O e)):=by
 have b:BL w (w.alloc (G #[S U] 140)):=Af _ _;refine(fZ e ⟨w.heap.size,0,U⟩ (S U) _ (h.below b) (by simp) (by simp)).mono fun ev w' ⟨he,hw⟩=>⟨he,?_,?_⟩
 ·subst hw;exact((((b.alloc (by simp) _).alloc (by simp;omega) _).alloc (by simp;omega) _).alloc (by simp;omega) _).setCell (by simp) _
 ·subst hw;refine World.cell?_setCell_same (u:=S U) _ _ _ ?_;rw[Qj _ _ ⟨w.heap.size,0,U⟩ (by simp;omega),Qj _ _ ⟨w.heap.size,0,U⟩ (by simp;omega),Qj _ _ ⟨w.heap.size,0,U⟩ (by simp;omega),Qj _ _ ⟨w.heap.size,0,U⟩ (by simp)];simp
section
open Go.Lib Go.Shelf Go.Sort
theorem gH (v v':Qa) (d:List Fl) (w:J) (y:Ai w v d) (z:Ai w v' d) (hl:d.length<=20000) :
  Ql H 54 #[v,v'] w fun e w'=>e=Qm (Qh Qd)/\BL w w':=by
 obtain⟨q,r,rfl⟩:=y.form;obtain⟨C,i,rfl⟩:=z.form;have j:Hid (Ai w (Qg q d.length r) d):=y;have l:Hid (Ai w (Qg C d.length i) d):=z;obtain⟨L,s⟩:∃L,d.length=L:=⟨_,rfl⟩;have B:Hid (d.length=L):=s;rw[s]at hl ⊢
 go_enter func54,ntmps54
 go_wp2
 go_loopw [5] (fun k wr=> ∃n:Nat,n<=L/\k=Z I n/\BL w wr) (fun k _=>L-(intOf k).toNat)
 case atStart=>exact ⟨0,by omega,rfl,Below.refl _ _⟩
 case round =>
  obtain⟨n,hn,rfl,g⟩:=hrel;by_cases m:n<L
  ·have c:n<d.length:=by rw[B.out];exact m
   obtain⟨b,o,D,E⟩:=(j.out.below g).cells (fun e=>by rw[e]at c;simp at c);obtain⟨b',o',t,u⟩:=(l.out.below g).cells (fun e=>by rw[e]at c;simp at c);subst D t;obtain⟨F,K,M,N,P,Q⟩:=E n c;obtain⟨R,T,W,X,Y,d5⟩:=u n c;generalize d[n]=f at F K M N P Q R T W X Y d5;obtain⟨fp,fq,fn,ab,ac,aa⟩:=f;go_wp2
   go_quiet (fail)
   have p:=AH g nq;go_wp2;go_roundw
   case rel=>exact ⟨n+1,by omega,by go_num,p⟩
   case measure=>simp [intOf];omega
  ·obtain rfl:n=L:=by omega
   go_wp2;go_ret;exact⟨rfl,g⟩
theorem gI (b:List Fl) (n:Nat) (h:n<b.length):AL (b.take (n+1))=AL (b.take n)++(Cb b[n]++ [10]):=by
 have e:=(Xa h).symm;unfold AL;rw[e,List.flatMap_append];simp only[List.flatMap_cons,List.flatMap_nil,List.append_nil]
theorem SS:∀fs:List Fl,(∀f∈fs,At f=0/\f.1.size<=100/\f.2.1.size<=100)->(AL fs).length<=300*fs.length
 | [],_=>by simp[AL]
 | f :: r,h=>by
  have c:=SS r (fun g hg=>h g (List.mem_cons_of_mem _ hg));obtain⟨b,d,i⟩:=h f List.mem_cons_self;have:=NV b;have e:AL (f :: r)=Cb f++10 :: AL r:=by simp[AL]
  rw[e,Q8,Qy,Qy];omega
def ahead (fs:List Fl):Nat->Int
 | 0=>0
 | n+1=>match fs[n]? with
  | some f=>fk f
  | none=>0
theorem ST {b:List Fl} {n:Nat} (h:n<b.length):ahead b (n+1)=fk b[n]:=by
 show (match b[n]? with
  | some f=>fk f
  | none=>0)=_
 rw[List.getElem?_eq_getElem h]
def Hw (fs:List Fl) (n:Nat):Prop:=EN 0 fs 0=EN (ahead fs n) (fs.drop n) n
theorem gJ (b:List Fl):Hw b 0:=rfl
theorem gK {b:List Fl} {n:Nat} (h:Hw b n) (c:n<b.length) (d:At b[n]≠0):EN 0 b 0=(At b[n],O n):=by
 rw[h,Qw c];unfold EN;rw[if_pos d]
theorem gL {b:List Fl} {n:Nat} (h:Hw b n) (c:n<b.length) (d:At b[n]=0) (f:fk b[n]<=ahead b n):EN 0 b 0=(9,O n):=by
 rw[h,Qw c];unfold EN;rw[if_neg (by simp[d]),if_pos f]
theorem gM {b:List Fl} {n:Nat} (h:Hw b n) (c:n<b.length) (d:At b[n]=0) (f:ahead b n<fk b[n]):Hw b (n+1):=by
 unfold Hw at h ⊢;rw[h,ST c]
 conv=>lhs;rw[Qw c]
 conv=>lhs;unfold EN
 rw[if_neg (by simp[d]),if_neg (by omega)]
theorem gN {b:List Fl} (h:Hw b b.length):EN 0 b 0=(0,U):=by
 rw[h,Xi];rfl
def A9 (s:Sn) (vf:Qa):Qa:=V #[Z I s.1,Z I s.2.1,Z I s.2.2.1,Z I s.2.2.2.1,Z I s.2.2.2.2.1,A s.2.2.2.2.2.1,vf]
def Al (W:J) (b:Nat) (s:Sn) (vf:Qa):Prop:=W.heap[b]? =O (G #[Z I s.1,Z I s.2.1,Z I s.2.2.1,Z I s.2.2.2.1,Z I s.2.2.2.2.1,A s.2.2.2.2.2.1,vf] 40 (0,0))
theorem Al.lt {W:J} {b:Nat} {s:Sn} {vf:Qa} (h:Al W b s vf):b<W.heap.size:=lt_of_block h
theorem Al.below {W c:J} {b:Nat} {s:Sn} {vf:Qa} (h:Al W b s vf) (d:BL W c):Al c b s vf:=(d.block b h.lt).trans h
theorem Al.cells {W:J} {b:Nat} {s:Sn} {vf:Qa} (h:Al W b s vf):W.cell? ⟨b,0,U⟩=O (Z I s.1)/\W.cell? ⟨b,1,U⟩=O (Z I s.2.1)/\W.cell? ⟨b,2,U⟩=O (Z I s.2.2.1)/\W.cell? ⟨b,3,U⟩=O (Z I s.2.2.2.1)/\W.cell? ⟨b,4,U⟩=O (Z I s.2.2.2.2.1)/\W.cell? ⟨b,5,U⟩=O (A s.2.2.2.2.2.1)/\W.cell? ⟨b,6,U⟩=O vf:=by
 refine⟨?_,?_,?_,?_,?_,?_,?_⟩<;>rw [QA _ _ _ _ _ _ h]<;>rfl
theorem Al.new (w:J) (s:Sn) (vf:Qa):Al (w.alloc (G #[Z I s.1,Z I s.2.1,Z I s.2.2.1,Z I s.2.2.2.1,Z I s.2.2.2.2.1,A s.2.2.2.2.2.1,vf] 40)) w.heap.size s vf:=Qz _ _
def Hx (seq:Int) (fs:List Fl) (n:Nat):Prop:=Eo seq fs 0=Eo seq (fs.drop n) n
theorem gO (b:Int) (c:List Fl):Hx b c 0:=rfl
theorem gP {b:Int} {c:List Fl} {n:Nat} (h:Hx b c n) (d:n<c.length) (e:b<c[n].2.2.2.2.2):Eo b c 0=(9,O n):=by
 rw[h,Qw d];unfold Eo;rw[if_pos e]
theorem gQ {b:Int} {c:List Fl} {n:Nat} (h:Hx b c n) (d:n<c.length) (e:¬b<c[n].2.2.2.2.2):Hx b c (n+1):=by
 unfold Hx at h ⊢;rw[h]
 conv=>lhs;rw[Qw d]
 conv=>lhs;unfold Eo
 rw[if_neg e]
theorem gR {b:Int} {c:List Fl} (h:Hx b c c.length):Eo b c 0=(0,U):=by
 rw[h,Xi];rfl
theorem gS {s:Sn} (b:Em s=Qd):(Cp s.2.2.2.2.2.1.data.toList=Qi->Am s=(4,U))/\(Cp s.2.2.2.2.2.1.data.toList=Qd->((BF s.2.2.2.2.2.2).1≠0->Am s=BF s.2.2.2.2.2.2)/\((BF s.2.2.2.2.2.2).1=0->Am s=Eo s.2.2.1 s.2.2.2.2.2.2 0)):=by
 unfold Am;rw[if_neg (by rw[b];simp)];refine⟨fun h=>by rw[if_pos h],fun h=>⟨fun h1=>?_,fun h1=>?_⟩⟩
 ·rw[if_neg (by rw[h];simp),if_pos h1]
 ·rw[if_neg (by rw[h];simp),if_neg (by simpa using h1)]
theorem SU {f:Fl} (h:At f=0):f.1.size<=100/\f.2.1.size<=100:=by
 have b:=Si h;unfold Cb at b;simp only[Q8,Qy,AA]at b;omega
theorem gT (s:Sn) (p q:Qa) (w:J) (v:Ai w p s.2.2.2.2.2.2) (y:Ai w q s.2.2.2.2.2.2) (C:s.2.2.2.2.2.2.length<=20000) :
  Ql H 22 #[A9 s p,A9 s q] w fun e w'=>e=Qm (Qh Qd)/\BL w w':=by
 have r:=fun W (h:BL w W)=>gH p q s.2.2.2.2.2.2 W (v.below h) (y.below h) C;obtain⟨j,k,rfl⟩:=v.form;obtain⟨l,m,rfl⟩:=y.form;obtain⟨g,b,c,d,f,i,o⟩:=s;unfold A9;generalize o.length=L at *;have n:BL w ((w.alloc (G #[Z I g,Z I b,Z I c,Z I d,Z I f,A i,Qg j L k] 40)).alloc (G #[Z I g,Z I b,Z I c,Z I d,Z I f,A i,Qg l L m] 40)):=(Af _ _).alloc (by simp) _;have z:Al ((w.alloc (G #[Z I g,Z I b,Z I c,Z I d,Z I f,A i,Qg j L k] 40)).alloc (G #[Z I g,Z I b,Z I c,Z I d,Z I f,A i,Qg l L m] 40)) w.heap.size (g,b,c,d,f,i,o) (Qg j L k):=heap_alloc2_old w _ _;have B:Al ((w.alloc (G #[Z I g,Z I b,Z I c,Z I d,Z I f,A i,Qg j L k] 40)).alloc (G #[Z I g,Z I b,Z I c,Z I d,Z I f,A i,Qg l L m] 40)) (w.heap.size+1) (g,b,c,d,f,i,o) (Qg l L m):=heap_alloc2_new w _ _;have t:=r _ n;obtain⟨D,E,F,K,M,N,P⟩:=z.cells;obtain⟨Q,R,T,X,Y,b5,b6⟩:=B.cells
 go_enter func22,ntmps22
 go_upto_region 1 with fail
 go_wp2_with fail
 refine t.mono ?_;rintro e w1 ⟨rfl,u⟩;go_wp2;go_ret;exact⟨rfl,(Ad n u)⟩
def CU (w:J) (q:Option Qc) (m c:Nat) (ys:List Qa):Prop :=
 (m=0/\(q=U->c=0))\/∃b o,q=O ⟨b,o,U⟩/\∀j u,ys[j]? =O u->w.cell? ⟨b,o+j,U⟩=O u
theorem CU.below {w w':J} {q:Option Qc} {m c:Nat} {ys:List Qa} (h:CU w q m c ys) (d:BL w w'):CU w' q m c ys:=by
 rcases h with h | ⟨b,o,e,h⟩
 ·exact Or.inl h
 ·exact Or.inr ⟨b,o,e,fun j u hu=>Aa d (h j u hu)⟩
theorem Iq (w:J) (b:List Qa) (t:Qn) (m c:Nat):CU (w.alloc (G b.toArray t)) (O ⟨w.heap.size,0,U⟩) m c b:=by
 refine Or.inr ⟨_,_,rfl,fun j u hj=>?_⟩;rw[Q9];have h:=Qz w (G b.toArray t);unfold Qu;dsimp only;rw[h];simpa using hj
theorem FO {P:Program} (w:J) (base:Nat) (t T e:Qn) (i:TypeInfo) (z:Qa) (d k:Nat) (C:P.underlying t=O (.slice e)) (hi:P.info? e=O i) (D:i.zero=O z)
  (r:i.size=d) (E:i.bytes=k) (F:z.cells.size=d) (K:0<d)
  (v:Qa) (n:Nat) (xs:List Qa) (l:w.ownsRow base e d v n xs)
  (q:Option Qc) (m c:Nat) (f:List Qa) (W:f.length=m*d) (X:CU w q m c f) (h1:∀u∈f,u.oneCell'=Qd)
  (L:n+m<=maxLen) (p:(n+m)*k<=140737488355328) (s:base<=w.heap.size) :
  ∃v' w',(QR #[t,t] T #[v,Qg q m c]).run P w= .ok v' w'/\w'.ownsRow base e d v' (n+m) (xs++f)/\w.grownBy w' v.ownBlock/\(v'.ownBlock=v.ownBlock\/v'.ownBlock=O w.heap.size):=by
 rcases X with⟨h0,hc⟩|⟨b,o,rfl,y⟩
 ·subst h0;have B:f= []:=List.length_eq_zero_iff.1 (by simpa using W);subst B
  cases q with
  | none =>
   have Y:=hc rfl;subst Y;refine⟨v,w,?_,by simpa using l,⟨rfl,rfl,rfl,Nat.le_refl _,fun _ _ _=>rfl⟩,Or.inl rfl⟩;rcases l.2 with⟨rfl,_⟩|⟨g,aa,ab,rfl,_,_,hn,_⟩
   ·simp[QR,Xj C,sizeOf,typeInfo,zeroValue,hi,D,Xk,Xl]
   ·simp[QR,Xj C,sizeOf,typeInfo,zeroValue,hi,D,Xk,Xl,hn,Xf]
  | some ad =>
   obtain⟨v',w',M,N,Q,_,R⟩:=Xm (P:=P) w base t T e i z d k C hi D r E F K v n xs l ad 0 c [] W (fun j u hj=>by simp at hj) h1 L p s;exact⟨v',w',M,N,Q,R⟩
 ·obtain⟨v',w',M,N,Q,_,R⟩:=Xm (P:=P) w base t T e i z d k C hi D r E F K v n xs l ⟨b,o,U⟩ m c f W (fun j u hj=>by rw[Addr.add_lit];exact y j u hj) h1 L p s;exact⟨v',w',M,N,Q,R⟩
theorem NX {P:Program} {w:J} {l:Array Oper} {rest:List Oper} {o:Oper} {a:Act} {Q:Exit->Act->J->Prop} (y:o.guard=U) (s x:Operand) (t:Qn)
  (R:o.op= .call { callee:=.builtin .append,args:=#[s,x],argTypes:=#[t,t] })
  (base:Nat) (e:Qn) (i:TypeInfo) (z:Qa) (b f:Nat) (T:P.underlying t=O (.slice e)) (hi:P.info? e=O i) (W:i.zero=O z)
  (j:i.size=b) (B:i.bytes=f) (C:z.cells.size=b) (D:0<b)
  (v:Qa) (n:Nat) (xs:List Qa) (X:a.eval s=v) (p:w.ownsRow base e b v n xs)
  (q:Option Qc) (m c:Nat) (d:List Qa) (Y:a.eval x=Qg q m c) (hl:d.length=m*b) (r:CU w q m c d) (h1:∀u∈d,u.oneCell'=Qd)
  (E:n+m<=maxLen) (g:(n+m)*f<=140737488355328) (k:base<=w.heap.size)
  (h:∀v' w',w'.ownsRow base e b v' (n+m) (xs++d)->w.grownBy w' v.ownBlock->(v'.ownBlock=v.ownBlock\/v'.ownBlock=O w.heap.size)->wpList P l Q rest (a.put o.dst v') w') :
  wpList P l Q (o :: rest) a w:=by
 refine wpList_plain y fun K hK=>?_;obtain⟨v',w',F,L,M,N⟩:=FO (P:=P) w base t o.type e i z b f T hi W j B C D v n xs p q m c d hl r h1 E g k;unfold Oper.wp execOp;simp only[R,resolve,invoke,builtin,Q4,Sem.run_pure,Result.andThen_ok,List.map_toArray,List.map_cons,List.map_nil,X,Y,F];exact hK _ _ (h v' w' L M N)
theorem gU {w:J} {q:Option Qc} {n c:Nat} {d:List Fl} (h:Ai w (Qg q n c) d):CU w q n c (Aw d):=by
 rcases h with⟨p,j,e,f,rfl⟩|⟨b,o,i,e,k,g⟩
 ·simp only[Value.slice.injEq]at e;obtain⟨rfl,rfl,rfl⟩:=e;exact Or.inl ⟨rfl,f⟩
 ·simp only[Value.slice.injEq]at e;obtain⟨rfl,rfl,rfl⟩:=e;exact Or.inr ⟨b,o,rfl,fS g⟩
theorem gV {w:J} {b o:Nat} {c:List Fl} (h:Fi w b o c) (n:Nat):Fi w b o (c.take n):=fun j hj=>by
 rw[QZ]at hj;have:=h j (by omega);rw[List.getElem_take];exact this
def FQ (w:J) (v:Qa):Prop:= ∀k,v.ownBlock=O k->w.heap.size<=k
theorem SV {W:J} {base:Nat} {e:Qn} {b:Nat} {v:Qa} {n:Nat} {xs:List Qa} (h:W.ownsRow base e b v n xs):∃q c,v=Qg q n c:=by
 rcases h.2 with⟨rfl,rfl⟩|⟨g,d,f,rfl,_⟩
 ·exact⟨_,_,rfl⟩
 ·exact⟨_,_,rfl⟩
end
end Go.Proofs.YtcllhobffhkafaaGreatDoor
