/- By an AI agent. -/
import Derived.Test.YtcllhobffhkafaaGreatDoorLkwOpen
import Derived.ChangeSame
import Derived.ChangeVars
import Derived.RowKit
import Derived.LaidLaws
import Derived.LaidHandle
import Derived.Stop.Joined
import Derived.Stop.LaidErr
import Derived.Lay
import Derived.MakeChecks
import Derived.Shelf.Vars
set_option maxRecDepth 100000
set_option maxHeartbeats 16000000
open Go.Proofs.Tryz
open Bool renaming false->Z,true->Qc
open Go renaming World->Qb,DataW->Qd,laidMet->Qe,TypeId->Qh,handlesMet->Qj,laidMetH->Ql,maxLen->Qm
open Go.Proofs.Tryz renaming prog->U,underlying27->I,underlying410->S,underlying412->J,underlying9->H
open Go.Value renaming iface->Qf,pointer->Qg,string->Qk
open List renaming range->Qn,mem_singleton->Qo,contains_iff_mem->Qp,mem_map->Qq
open Option renaming some->O,none->Qa
open Option.some renaming inj->Qi,injEq->Qr
namespace Go.Proofs.YtcllhobffhkafaaGreatDoor
section
open Go.ChangeAt Go.ChangeShapes Go.Lib Go.RowKit Go.Shelf Go.WideShapes
theorem Tryz.own:ownKnob Tryz.prog.godebug=Qa:=by kernel_rfl
theorem Tryz.rt : (Tryz.prog.cutTypes.find? (·.1 == "internal/reflectlite.rtype")).map (·.2) =O 368 := by kernel_rfl
theorem Tryz.oneRow:((Qn 446).filter fun t=>Tryz.prog.rowNamed t [101,114,114,111,114])= [27]:=by kernel_rfl
theorem Tryz.size:Tryz.prog.types.size=446:=by kernel_rfl
theorem Tryz.et : Tryz.prog.globalNamed "errors.errorType" =O 12 := by kernel_rfl
theorem Tryz.cellsES:Tryz.prog.cellsOf 412=1:=by kernel_rfl
theorem Tryz.star : "*" ++ "errors.errorString" = "*errors.errorString" := by decide
theorem Tryz.rowES (u : Qh) (h : Tryz.prog.typeName? 3 u =O "*errors.errorString") : u = 410 :=
 typeName_ptr_named (nm := "errors.errorString") (by rw [Tryz.star]; kernel_rfl) (by kernel_rfl) (by decide) u (by rw [Tryz.star]; exact h)
theorem F6 {n nm:String} {i:List UInt8} {r:List (String×Qd Unit)} {W:Qb} {P:Program} {g:Nat} {ti l m o:Qh} {R:Array (String×Qh)} {f:Field}
  (h:Qe P ((n,.iface nm (.ptr (.agg [.lit (.string i)]))) :: r) W)
  (T:P.globalNamed n=O g) (X:(P.globals[g]?).map (·.type)=O ti) (hi:P.underlying ti=O (.interface R)) (p:∀u,P.typeName? 3 u=O nm->u=l)
  (Y:P.underlying l=O (.pointer m)) (he:P.underlying m=O (.struct #[f])) (E:f.type=o) (F:f.offset=0) (hs:P.underlying o=O .string) (hc:P.cellsOf m=1) (K:P.cellsOf o=1) :
  ∃(a:Addr) (s:ByteArray) (c:Array Value) (t:Qh),W.cell? ⟨g,0,Qa⟩=O (Qf l (Qg (O a)))/\W.cell? a=O (Qk s)/\s.data.toList=i/\W.heap[a.block]? =O (.cells c t (0,0)):=by
 obtain⟨ps,⟨g0,t0,y,f0,p0,q0,d,z,j,B,_,L⟩,_,b⟩:=h;obtain rfl:=Qi (T.symm.trans d);obtain rfl:=Qi (X.symm.trans z);subst L;obtain⟨M⟩:=y;have q:∀u v,M= [Qf u v]->Value.okWide P W .any 0 u v:=fun u v e=>by
  subst e;exact(b g 0 (by simp[MemPlace.row])).2 u v (by simpa using World.var?_cell d j 0)
 obtain⟨k,N,rfl,C,D,aa,rfl⟩:=errorString_of_trod hi p Y he E F hs hc K B q;obtain⟨c,t,Q⟩:=(b k.block k.off (by simp[MemPlace.row])).1;exact⟨k,N,c,t,by simpa using World.var?_cell d j 0,C,D,Q⟩
def Rf:Nat->List UInt8
 | 0=> [100,101,101,100,98,111,120,58,32,116,101,120,116]
 | 1=> [100,101,101,100,98,111,120,58,32,98,111,117,110,100]
 | 2=> [100,101,101,100,98,111,120,58,32,115,104,97,112,101]
 | 3=> [100,101,101,100,98,111,120,58,32,107,105,110,100]
 | 4=> [100,101,101,100,98,111,120,58,32,110,97,109,101]
 | 5=> [100,101,101,100,98,111,120,58,32,110,111,110,101]
 | 6=> [100,101,101,100,98,111,120,58,32,101,120,105,115,116]
 | 7=> [100,101,101,100,98,111,120,58,32,102,117,108,108]
 | 8=> [100,101,101,100,98,111,120,58,32,111,114,100,101,114]
 | 9=> [100,101,101,100,98,111,120,58,32,115,117,109]
 | 10=> [100,101,101,100,98,111,120,58,32,115,116,97,108,101]
 | _=> [100,101,101,100,98,111,120,58,32,111,102,102]
theorem zb7:∀i,i<12->∀j,j<12->Rf i=Rf j->i=j:=by decide
def WU:List (String×Qd Unit) :=
 [("deedbox/api.ErrText", .iface "*errors.errorString" (.ptr (.agg [.lit (.string [100, 101, 101, 100, 98, 111, 120, 58, 32, 116, 101, 120, 116])]))), ("deedbox/api.ErrBound", .iface "*errors.errorString" (.ptr (.agg [.lit (.string [100, 101, 101, 100, 98, 111, 120, 58, 32, 98, 111, 117, 110, 100])]))), ("deedbox/api.ErrShape", .iface "*errors.errorString" (.ptr (.agg [.lit (.string [100, 101, 101, 100, 98, 111, 120, 58, 32, 115, 104, 97, 112, 101])]))), ("deedbox/api.ErrKind", .iface "*errors.errorString" (.ptr (.agg [.lit (.string [100, 101, 101, 100, 98, 111, 120, 58, 32, 107, 105, 110, 100])]))), ("deedbox/api.ErrName", .iface "*errors.errorString" (.ptr (.agg [.lit (.string [100, 101, 101, 100, 98, 111, 120, 58, 32, 110, 97, 109, 101])]))), ("deedbox/api.ErrNone", .iface "*errors.errorString" (.ptr (.agg [.lit (.string [100, 101, 101, 100, 98, 111, 120, 58, 32, 110, 111, 110, 101])]))), ("deedbox/api.ErrExist", .iface "*errors.errorString" (.ptr (.agg [.lit (.string [100, 101, 101, 100, 98, 111, 120, 58, 32, 101, 120, 105, 115, 116])]))), ("deedbox/api.ErrFull", .iface "*errors.errorString" (.ptr (.agg [.lit (.string [100, 101, 101, 100, 98, 111, 120, 58, 32, 102, 117, 108, 108])]))), ("deedbox/api.ErrOrder", .iface "*errors.errorString" (.ptr (.agg [.lit (.string [100, 101, 101, 100, 98, 111, 120, 58, 32, 111, 114, 100, 101, 114])]))), ("deedbox/api.ErrSum", .iface "*errors.errorString" (.ptr (.agg [.lit (.string [100, 101, 101, 100, 98, 111, 120, 58, 32, 115, 117, 109])]))), ("deedbox/api.ErrStale", .iface "*errors.errorString" (.ptr (.agg [.lit (.string [100, 101, 101, 100, 98, 111, 120, 58, 32, 115, 116, 97, 108, 101])]))), ("deedbox/api.ErrOff", .iface "*errors.errorString" (.ptr (.agg [.lit (.string [100, 101, 101, 100, 98, 111, 120, 58, 32, 111, 102, 102])])))]
theorem zb8 {W:Qb} {r:List (String×Qd Unit)} (h:Qe U (WU++r) W) (hh:W.cell? ⟨12,0,Qa⟩=O (Qf 368 (.agg #[Qg (O ⟨21,27,Qa⟩)]))):∃a,GQ W a:=by
 obtain⟨l,s0,c0,t0,v0,x0,y0,b0⟩:=F6 h (g:=4) (ti:=27) (by kernel_rfl) (by kernel_rfl) I Tryz.rowES S J rfl rfl H Tryz.cellsES Tryz.cellsString;replace h:=h.tail;obtain⟨m,s1,c1,t1,v1,x1,y1,b1⟩:=F6 h (g:=1) (ti:=27) (by kernel_rfl) (by kernel_rfl) I Tryz.rowES S J rfl rfl H Tryz.cellsES Tryz.cellsString;replace h:=h.tail;obtain⟨n,s2,c2,t2,v2,x2,y2,b2⟩:=F6 h (g:=0) (ti:=27) (by kernel_rfl) (by kernel_rfl) I Tryz.rowES S J rfl rfl H Tryz.cellsES Tryz.cellsString;replace h:=h.tail;obtain⟨o,s3,c3,t3,v3,x3,y3,b3⟩:=F6 h (g:=8) (ti:=27) (by kernel_rfl) (by kernel_rfl) I Tryz.rowES S J rfl rfl H Tryz.cellsES Tryz.cellsString;replace h:=h.tail;obtain⟨p,s4,c4,t4,v4,x4,y4,b4⟩:=F6 h (g:=10) (ti:=27) (by kernel_rfl) (by kernel_rfl) I Tryz.rowES S J rfl rfl H Tryz.cellsES Tryz.cellsString;replace h:=h.tail;obtain⟨q,s5,c5,t5,v5,x5,y5,b5⟩:=F6 h (g:=3) (ti:=27) (by kernel_rfl) (by kernel_rfl) I Tryz.rowES S J rfl rfl H Tryz.cellsES Tryz.cellsString;replace h:=h.tail;obtain⟨u,s6,c6,t6,v6,x6,y6,b6⟩:=F6 h (g:=11) (ti:=27) (by kernel_rfl) (by kernel_rfl) I Tryz.rowES S J rfl rfl H Tryz.cellsES Tryz.cellsString;replace h:=h.tail;obtain⟨v,s7,c7,t7,v7,x7,y7,b7⟩:=F6 h (g:=6) (ti:=27) (by kernel_rfl) (by kernel_rfl) I Tryz.rowES S J rfl rfl H Tryz.cellsES Tryz.cellsString;replace h:=h.tail;obtain⟨y,s8,c8,t8,v8,x8,y8,b8⟩:=F6 h (g:=7) (ti:=27) (by kernel_rfl) (by kernel_rfl) I Tryz.rowES S J rfl rfl H Tryz.cellsES Tryz.cellsString;replace h:=h.tail;obtain⟨z,s9,c9,t9,v9,x9,y9,b9⟩:=F6 h (g:=9) (ti:=27) (by kernel_rfl) (by kernel_rfl) I Tryz.rowES S J rfl rfl H Tryz.cellsES Tryz.cellsString;replace h:=h.tail;obtain⟨d,B,C,D,E,F,K,L⟩:=F6 h (g:=2) (ti:=27) (by kernel_rfl) (by kernel_rfl) I Tryz.rowES S J rfl rfl H Tryz.cellsES Tryz.cellsString;replace h:=h.tail;obtain⟨f,M,N,P,Q,R,T,X⟩:=F6 h (g:=5) (ti:=27) (by kernel_rfl) (by kernel_rfl) I Tryz.rowES S J rfl rfl H Tryz.cellsES Tryz.cellsString;refine⟨fun i=>match i with | 0=>l | 1=>m | 2=>n | 3=>o | 4=>p | 5=>q | 6=>u | 7=>v | 8=>y | 9=>z | 10=>d | _=>f,?_,?_,?_,hh⟩
 ·intro i b
  match i,b with
  | 0,_=>exact v0
  | 1,_=>exact v1
  | 2,_=>exact v2
  | 3,_=>exact v3
  | 4,_=>exact v4
  | 5,_=>exact v5
  | 6,_=>exact v6
  | 7,_=>exact v7
  | 8,_=>exact v8
  | 9,_=>exact v9
  | 10,_=>exact E
  | 11,_=>exact Q
 ·have c:∀i,i<12->∃s:ByteArray,W.cell? ((fun i=>match i with | 0=>l | 1=>m | 2=>n | 3=>o | 4=>p | 5=>q | 6=>u | 7=>v | 8=>y | 9=>z | 10=>d | _=>f:Nat->Addr) i)=O (Qk s)/\s.data.toList=Rf i:=by
   intro i b
   match i,b with
   | 0,_=>exact ⟨s0,x0,y0⟩
   | 1,_=>exact ⟨s1,x1,y1⟩
   | 2,_=>exact ⟨s2,x2,y2⟩
   | 3,_=>exact ⟨s3,x3,y3⟩
   | 4,_=>exact ⟨s4,x4,y4⟩
   | 5,_=>exact ⟨s5,x5,y5⟩
   | 6,_=>exact ⟨s6,x6,y6⟩
   | 7,_=>exact ⟨s7,x7,y7⟩
   | 8,_=>exact ⟨s8,x8,y8⟩
   | 9,_=>exact ⟨s9,x9,y9⟩
   | 10,_=>exact ⟨B,F,K⟩
   | 11,_=>exact ⟨M,R,T⟩
  intro i j b Y e;obtain⟨s,hs,es⟩:=c i b;obtain⟨t,ht,et⟩:=c j Y;refine zb7 i b j Y ?_;have k:=hs.symm.trans ((congrArg W.cell? e).trans ht);simp only[Qr,Value.string.injEq]at k;rw[<-es,<-et,k]
 ·intro i b
  match i,b with
  | 0,_=>exact ⟨c0,t0,b0⟩
  | 1,_=>exact ⟨c1,t1,b1⟩
  | 2,_=>exact ⟨c2,t2,b2⟩
  | 3,_=>exact ⟨c3,t3,b3⟩
  | 4,_=>exact ⟨c4,t4,b4⟩
  | 5,_=>exact ⟨c5,t5,b5⟩
  | 6,_=>exact ⟨c6,t6,b6⟩
  | 7,_=>exact ⟨c7,t7,b7⟩
  | 8,_=>exact ⟨c8,t8,b8⟩
  | 9,_=>exact ⟨c9,t9,b9⟩
  | 10,_=>exact ⟨C,D,L⟩
  | 11,_=>exact ⟨N,P,X⟩
theorem zb9 {W : Qb} (h : Qj U [("errors.errorType", Rows.laid_errors_errorType)] W) : W.cell? ⟨12, 0, Qa⟩ =O (Qf 368 (.agg #[Qg (O ⟨21, 27, Qa⟩)])) := by
 obtain⟨g,u,i,j,k,l,m,c⟩:=h _ (Qo.2 rfl);have d:=(Qi j).symm;subst d;obtain rfl:=Qi (Tryz.rt.symm.trans k);have b:i∈(Qn 446).filter fun t=>Tryz.prog.rowNamed t [101,114,114,111,114]:=List.mem_filter.2 ⟨List.mem_range.2 (by rw[<-Tryz.size];exact l),m⟩;rw[Tryz.oneRow]at b;obtain rfl:=Qo.1 b;have f:typeHandle U 27=Qg (O ⟨21,27,Qa⟩):=by kernel_rfl
 rw[f]at c;simpa using World.var?_cell Tryz.et c 0
theorem Tryz.laidOut:laidOutB U=Qc:=by kernel_rfl
theorem Tryz.maxLenInt (W:Qb) (h:W.ShapedOpen U):∃m,W.cell? ⟨13,0,Qa⟩=O (.int .i64 m) :=
 cell_of_shapedOpen_int (zero:=#[.int .i64 0]) (t:=3) h (of_decide_eq_true (by kernel_rfl)) (by kernel_rfl) rfl (by kernel_rfl) (by kernel_rfl) underlying3
theorem zc0:(Rows.laid_internal_strconv_uint64pow10:Qd Unit)=Lib.tabData .u64 Lib.pow10Tab:=by kernel_rfl
def EH:List (String×Qd Unit) :=
 [("math/bits.deBruijn32tab", Rows.laid_math_bits_deBruijn32tab), ("math/bits.deBruijn64tab", Rows.laid_math_bits_deBruijn64tab), ("internal/strconv.uint64pow10", Rows.laid_internal_strconv_uint64pow10), ("unicode/utf8.acceptRanges", Rows.laid_unicode_utf8_acceptRanges)] ++ (WU ++ [("strconv.ErrRange", Rows.laid_strconv_ErrRange), ("strconv.ErrSyntax", Rows.laid_strconv_ErrSyntax), ("unicode/utf8.first", Rows.laid_unicode_utf8_first)])
theorem zc1 {W : Qb} (f : W.ShapedOpen U) (i : Qe U EH W) (m : Qj U [("errors.errorType", Rows.laid_errors_errorType)] W) : ∃ a, Bd W a ∧ GQ W a := by
 have j : Qe U (("internal/strconv.uint64pow10", Lib.tabData .u64 Lib.pow10Tab) :: EH.drop 3) W := by rw [← zc0]; exact i.tail.tail
 have k := tabIs_of_head (P :=U) (name := "internal/strconv.uint64pow10") (g := 14) (t := 390) (e := 242) (n := 20) (by kernel_rfl) (by kernel_rfl) (by kernel_rfl) (by kernel_rfl) (by kernel_rfl) (by kernel_rfl) j;have c := i.tail.tail.tail.tail;obtain ⟨a, b⟩ := zb8 c (zb9 m);have d := c.tail.tail.tail.tail.tail.tail.tail.tail.tail.tail.tail.tail.tail;obtain ⟨o, _, _, _, l, _⟩ := F6 d (g := 15) (ti := 27) (by kernel_rfl) (by kernel_rfl) I Tryz.rowES S J rfl rfl H Tryz.cellsES Tryz.cellsString;exact ⟨a, ⟨b.cell 0 (by decide), b.cell 1 (by decide), b.cell 4 (by decide), Tryz.maxLenInt W f, ⟨_, _, l⟩, k⟩, b⟩
def zc2 (v:Value):Obj->Obj
 | .cells _ t frozen=>.cells #[v] t frozen
 | o=>o
noncomputable def WV (os:Os):Qb :=
 let w0:=World.holding U os ⟨#[],#[], []⟩
 { w0 with heap:=w0.heap.modify 12 (zc2 (Qf 368 (.agg #[Qg (O ⟨21,27,Qa⟩)]))) }
noncomputable def Kj (os:Os):Qb:=(WV os).layVars U EH
theorem zc3 (os:Os):(Kj os).os=os:=by
 unfold Kj;rw[World.layVars_os];rfl
theorem zc4 (os:Os):(Kj os).Shaped U:=World.shaped_of_ZipB (by kernel_rfl) (by kernel_rfl)
theorem zc5 (os : Os) (args : Array Value) {l : List (String × Qd Unit)} (d : (l.filter fun x => x.2.handleName?.isNone) = EH) (f : (l.filter fun x => x.2.handleName?.isSome) = [("errors.errorType", Rows.laid_errors_errorType)]) :
  Ql U l ((Kj os).forCall (fun _ _=>0) ⟨#[],args, []⟩).memory:=by
 refine laidMetH_of_parts ?_ ?_
 ·rw[d];have b:(EH.filter fun x=>(EH.map (·.1)).contains x.1)=EH:=List.filter_eq_self.2 fun x hx=>Qp.2 (Qq.2 ⟨x,hx,rfl⟩);have c:(EH.filter fun x=> !(EH.map (·.1)).contains x.1)= []:=List.filter_eq_nil_iff.2 fun x hx=>by rw[Qp.2 (Qq.2 ⟨x,hx,rfl⟩)];simp
  have h:Qe U EH (Kj os):=laidMet_layVars (w0:=WV os) (EH.map (·.1)) [] (by rw[b];rfl) (by rw[b];kernel_rfl) (by rw[b];kernel_rfl) (by rw[c];exact LaidIn.none);exact h.of_heap (by simp[World.memory,World.forCall,Input.heap])
 ·rw[f];kernel_rfl
theorem zc6 {l : List (String × Qd Unit)} {W : Qb} (b : (l.filter fun x => x.2.handleName?.isNone) = EH) (c : (l.filter fun x => x.2.handleName?.isSome) = [("errors.errorType", Rows.laid_errors_errorType)]) (h : Ql U l W) :
  Qe U EH W ∧ Qj U [("errors.errorType", Rows.laid_errors_errorType)] W := by
 unfold Ql at h;rw[c,b]at h;exact h
theorem Bg.below {W X:Qb} {a:Nat->Addr} (h:Bg W a) (b:BL W X):Bg X a:=⟨h.x.below b,h.p.below b,h.m.below b,h.f.below b⟩
theorem zc7 {W : Qb} (j : W.ShapedOpen U) (k : Qe U EH W) (l : Qj U [("errors.errorType", Rows.laid_errors_errorType)] W) : ∃ a, Bg W a ∧ GQ W a := by
 obtain⟨a,b,d⟩:=zc1 j k l;have c:=fun i h=>d.cell i h;have f:Gs W a:=⟨⟨b,c 2 (by decide),c 7 (by decide),c 8 (by decide),c 9 (by decide)⟩,c 3 (by decide)⟩;have g:D4 W a:=⟨f.lean,c 5 (by decide),c 6 (by decide),c 7 (by decide),c 8 (by decide)⟩;exact⟨a,⟨⟨g,c 2 (by decide),c 10 (by decide),d.handle⟩,⟨⟨g,c 0 (by decide)⟩,c 9 (by decide)⟩,⟨⟨b.maxl,b.syn,b.tab⟩,c 0 (by decide),c 1 (by decide),c 5 (by decide),c 7 (by decide),c 8 (by decide)⟩,f⟩,d⟩
end
section
open Go
theorem zc8:Qc=Tryz.pinned.checked.prog.looks []:=by kernel_rfl
theorem zc9:Tryz.prog.wantsStandIn 3=Z:=by kernel_rfl
theorem zd0:Tryz.prog.wantsStandIn 9=Z:=by kernel_rfl
theorem zd1:Tryz.prog.wantsStandIn 22=Z:=by kernel_rfl
theorem zd2:Tryz.prog.wantsStandIn 35=Z:=by kernel_rfl
theorem zd3:Tryz.prog.wantsStandIn 32=Z:=by kernel_rfl
end
section
open Go.Extern Go.Extern.Stop Go.Lib Go.RowKit Go.Shelf Go.Sort Go.Stop
theorem zd4 {s:St} {n:Int} (h:Hr s n=0):(Er s n).head=s.head/\(Er s n).day=s.day/\(Er s n).off=Z/\D3 (Er s n)=Qc/\EB (Er s n)=n/\(Er s n).obs=s.obs/\(Er s n).cut=n:=by
 have d:¬n<0:=fun e=>by unfold Hr at h;rw[if_pos e]at h;cases h
 have b:s.off=Z:=by
  unfold Hr at h;rw[if_neg d]at h
  cases f:s.off with
  | false=>rfl
  | true=>rw [f,if_pos rfl]at h;cases h
 have e:Er s n= { s with cut:=n } :=by unfold Er;rw[h];rfl
 rw[e];have c:D3 { s with cut:=n } =Qc:=by unfold D3;dsimp only;rw[b,decide_eq_true (by omega)];rfl
 exact⟨rfl,rfl,b,c,by unfold EB;rw[c];rfl,rfl,rfl⟩
theorem zd5 (s:St):D3 (Br s)=Z/\EB (Br s)=0:=by
 have b:D3 (Br s)=Z:=by unfold D3 Br;rfl
 exact⟨b,by unfold EB;rw[b];rfl⟩
theorem zd6 (N:Nat):∀k,C3 N Qa (fun _=>0) Ff.obs k->N<=k:=by
 rintro k (rfl | b | ⟨o,c,_⟩)
 ·exact Nat.le_refl _
 ·cases b
 ·cases c
theorem zd7 (w:Qb) (a:Nat->Addr) (m:GQ w a):AJ a w.heap.size (Ib w) A0 where
 below W W' h hb:=Below.trans (h:BL w W) hb
 size W h:=Below.size (h:BL w W)
 ptr W v FP s h:=by
  obtain⟨b,g,q,rfl,rfl,c⟩:=h;exact⟨_,rfl⟩
 lt W v FP s k h hk:=by
  obtain⟨b,g,q,rfl,rfl,c⟩:=h;exact c.lt hk
 keep W W' v FP P s h hB hP:=by
  obtain⟨b,g,q,rfl,rfl,c⟩:=h;exact⟨b,g,q,rfl,rfl,c.keep hB hP⟩
 new W _:=(oS W).mono fun e w' ⟨f,c,hb⟩=>⟨_,_,f,⟨W.heap.size,Qa,_,rfl,rfl,c⟩,zd6 W.heap.size,hb⟩
 put W v FP s n t hm h hk l ht:=by
  obtain⟨b,g,q,rfl,rfl,c⟩:=h;exact pJ c hk (CL.of (Ib.errs hm m)) n t l ht
 get W v FP s n hm h hk l:=by
  obtain⟨b,g,q,rfl,rfl,c⟩:=h;exact oY c (CL.of (Ib.errs hm m)) n (by unfold Qm;omega)
 drop W v FP s n hm h hk l:=by
  obtain⟨b,g,q,rfl,rfl,c⟩:=h;exact oZ c (CL.of (Ib.errs hm m)) n (by unfold Qm;omega)
 names W v FP s hm h hk:=by
  obtain⟨b,g,q,rfl,rfl,c⟩:=h;exact uG c hk
 born W v FP s n hm h hk l:=by
  obtain⟨b,g,q,rfl,rfl,c⟩:=h;exact(UJ c n (by unfold Qm;omega)).mono fun e w' ⟨f,d⟩=>⟨f,d▸Below.refl _ _⟩
 swap W v FP s n t hm h hk l ht:=by
  obtain⟨b,g,q,rfl,rfl,c⟩:=h;exact pE c (CL.of (Ib.errs hm m)) n t ht
 head W v FP s hm h hk:=by
  obtain⟨b,g,q,rfl,rfl,c⟩:=h;exact(oT c.block).mono fun e w' ⟨f,d⟩=>⟨f,d▸Below.refl _ _⟩
 cut W v FP s z hm h hk hz:=by
  obtain⟨b,g,q,rfl,rfl,c⟩:=h;refine(oV c.block (CL.of (Ib.errs hm m)) z).mono fun e w' ⟨f,d⟩=>?_;have o:=Ix c (Ac.refl _ _) fun k hk=>Or.inl hk;by_cases p:Hr s z=0
  ·obtain⟨u,y,C,D,E,F,K⟩:=zd4 p;have i:(if z<0 then 2 else if s.off=Qc then 12 else 0)=0:=p;have j:¬z<0:=fun e=>by rw[if_pos e]at i;cases i
   have r:¬s.off=Qc:=fun e=>by rw[if_neg j,if_pos e]at i;cases i
   rw[if_neg j,if_neg r]at d;subst d;refine⟨f,KE c (M8 W b Z Qc z) ?_ F (by rw[K];exact hz.2)⟩;rw[u,y,C,D,E];exact c.block.pow Z Qc z
  ·have i:Er s z=s:=by unfold Er;rw[if_pos p]
   have B:w'=W:=by
    by_cases j:z<0
    ·rw[if_pos j]at d;exact d
    ·rw[if_neg j]at d;by_cases r:s.off=Qc
     ·rw[if_pos r]at d;exact d
     ·exact absurd (show Hr s z=0 by unfold Hr;rw[if_neg j,if_neg r]) p
   subst B;rw[i];exact⟨f,o⟩
 on W v FP s hm h hk:=by
  obtain⟨b,g,q,rfl,rfl,c⟩:=h;refine(oU c.block).mono fun e w' ⟨f,d⟩=>?_;subst d;refine⟨f,KE c (M8 W b Z Z 0) ?_ rfl (by show (-1:Int)<=_;omega)⟩;obtain⟨u,y⟩:=zd5 s;rw[u,y];exact c.block.pow Z Z 0
 next W v FP s z hm h hk hz:=by
  obtain⟨b,g,q,rfl,rfl,c⟩:=h;refine(oX c.block (CL.of (Ib.errs hm m)) z hz hk.day0 hk.day1).mono fun e w' hp=>?_;rcases hp with⟨hb,f,d⟩|⟨hb,f,d⟩
  ·have i:Il s z=2:=by unfold Il;rw[if_pos hb]
   have l:Hs s z=s:=by unfold Hs;rw[i];rfl
   rw[i,l];exact⟨f,Ix (c.below d) (Ac.of_below d) fun k hk=>Or.inl hk⟩
  ·have i:Il s z=0:=by unfold Il;rw[if_neg hb]
   have l:Hs s z= { s with day:=s.day+z } :=by unfold Hs;rw[i];rfl
   rw[i,l];subst d;refine⟨f,KE c (UH W b 2 _) ?_ rfl c.cut⟩;exact c.block.day _
 day W v FP s hm h hk:=by
  obtain⟨b,g,q,rfl,rfl,c⟩:=h;exact(UG c.block).mono fun e w' ⟨f,d⟩=>⟨f,d▸Below.refl _ _⟩
end
end Go.Proofs.YtcllhobffhkafaaGreatDoor
