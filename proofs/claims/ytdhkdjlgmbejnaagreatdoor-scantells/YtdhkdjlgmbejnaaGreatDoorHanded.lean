/- By an AI agent. -/
import Derived.Test.YtdhkdjlgmbejnaaGreatDoorRows
import Derived.JoinedOf
import Derived.ProofKit
import Derived.Deep.Strs
import Derived.HandedShaped
import Derived.Test.YtdhkdjlgmbejnaaGreatDoorStoUp
import Derived.ChangeSame
import Derived.ChangeVars
import Derived.RowKit
import Derived.LaidLaws
import Derived.LaidHandle
import Derived.Stop.Joined
import Derived.Stop.LaidErr
import Derived.Lay
import Derived.MakeChecks
import Derived.Shelf.Vars
namespace Go.Proofs.YtdhkdjlgmbejnaaGreatDoor
open Go
set_option maxRecDepth 100000
theorem scanTells_inPlace:Tryz.prog.inPlace 4=Rows.scanTellsRow.inPlace:=by kernel_rfl
theorem scanTells_unfollowed:Tryz.prog.unfollowed 4=true:=by kernel_rfl
theorem scanTells_recurses:Tryz.prog.recurses 4=true:=by unfold Program.recurses;rw[scanTells_unfollowed];rfl
theorem scanTells_named:Tryz.prog.varsNamed 4=Rows.scanTellsRow.named:=by kernel_rfl
theorem scanTells_facts:joinedFacts Tryz.prog 4 Tryz.f4 Rows.scanTellsSpec Rows.scanTellsRow=true:=by
 unfold joinedFacts
 rw[scanTells_inPlace,scanTells_unfollowed,scanTells_recurses,scanTells_named]
 kernel_rfl
end Go.Proofs.YtdhkdjlgmbejnaaGreatDoor
namespace Go.Proofs.YtdhkdjlgmbejnaaGreatDoor
open Go.ChangeShapes Go.WideShapes Go.ChangeAt Go.RowKit Go.Deep
theorem Tryz.cellsRow:Tryz.prog.cellsOf 54=3:=by kernel_rfl
theorem Tryz.cellsInt:Tryz.prog.cellsOf 3=1:=by kernel_rfl
theorem Tryz.cellsString:Tryz.prog.cellsOf 9=1:=by kernel_rfl
theorem addr_none {W:World} {a:Addr} {v:Value} (h:W.cell? a=some v):a.spot=none:=by
 unfold World.cell? at h
 split at h
 · split at h
   · cases h
   · rename_i hs;simpa using hs
 · cases h
theorem wf_i64 {n:Int} (h:(Lit.int .i64 n).wf=true): -9223372036854775808≤n∧n≤9223372036854775807:=by
 simpa [Lit.wf,IntKind.min,IntKind.max,IntKind.signed,IntKind.bits] using h
section
variable {H : Type} {enc : TypeId × Value → H} {W : World} {base : Nat} {spare : Nat → Bool} {held : Bool}
set_option maxRecDepth 100000 in
theorem open_row {fuel:Nat} {cs:List Value} {x:DataW H×List MemPlace} (h:DataW.trod enc Tryz.prog W base spare held fuel 54 cs=some x) :
   ∃r:Rw,cs= [.string r.1,.int .i64 r.2.1,.int .i64 r.2.2]∧r.1.size≤maxLen∧okKey r:=by
 obtain⟨y0,y1,y2,n,_,hl,h0,h1,h2⟩:=trod_struct3 Tryz.underlying54 h
 rw[Tryz.cellsRow]at hl
 match cs,hl with
 | [c0,c1,c2],_ =>
   simp only[Tryz.cellsInt,Tryz.cellsString,List.drop_zero,List.drop_succ_cons,List.take_succ_cons,List.take_zero]at h0 h1 h2
   obtain⟨s,e0,_,hs⟩:=DataW.trod_string Tryz.underlying9 h0
   obtain⟨k,e1,_,hk⟩:=DataW.trod_int Tryz.underlying3 h1
   obtain⟨v,e2,_,_⟩:=DataW.trod_int Tryz.underlying3 h2
   simp only[List.cons.injEq,and_true]at e0 e1 e2
   exact⟨(s,k,v),by rw[e0,e1,e2],hs,wf_i64 hk⟩
theorem open_rows {fuel:Nat} {v:Value} {x:DataW H×List MemPlace} (h:DataW.trod enc Tryz.prog W base spare held fuel 33 [v]=some x) :
   ∃xs:List Rw,RowsAt W v xs∧xs.length≤maxLen∧∀r∈xs,okKey r:=by
 rcases open_slice Tryz.underlying33 h with⟨e,_⟩|⟨a,len,cap,m,n,D,Pl,e,_,hl,hm,hmm,_,hx⟩
 · simp only[List.cons.injEq,and_true]at e
   exact⟨[],Or.inl ⟨none,0,e,rfl⟩,by decide,fun _ h=>by cases h⟩
 · simp only[List.cons.injEq,and_true]at e
   rw[Tryz.cellsRow]at hx
   have hlm:len≤m:=by rw[hmm];split<;>omega
   have each:∀i,i<len→∃r:Rw,(W.cell? (a.add (i*3))=some (.string r.1)∧W.cell? (a.add (i*3+1))=some (.int .i64 r.2.1)∧W.cell? (a.add (i*3+2))=some (.int .i64 r.2.2))∧okKey r:=fun i hi=>by
     obtain⟨cs',h1,h2⟩:=hx i (by omega)
     obtain⟨_,_,hcell⟩:=World.cells?_some h1
     obtain⟨r,hr,_,hk⟩:=open_row h2
     subst hr
     have e0:=hcell 0 (by omega)
     have e1:=hcell 1 (by omega)
     have e2:=hcell 2 (by omega)
     rw[add_add]at e0 e1 e2
     exact⟨r,⟨by simpa using e0,by simpa using e1,by simpa using e2⟩,hk⟩
   obtain⟨f,hf⟩:=choose_lt each
   rcases Nat.eq_zero_or_pos len with h0 | hpos
   · subst h0
     exact⟨[],Or.inl ⟨_,_,e,rfl⟩,by decide,fun _ h=>by cases h⟩
   · have hsp:=addr_none (hf 0 hpos).1.1
     have hsp':a.spot=none:=by
       cases a with | mk b o spt=>cases spt<;>simp [Addr.add]at hsp ⊢
     obtain⟨b,o,spt⟩:=a
     simp only at hsp'
     subst hsp'
     refine⟨(List.range len).map f,Or.inr ⟨b,o,cap,by simpa using e,fun j hj=>?_⟩,by simp;omega,fun r hr=>?_⟩
     · have hj':j<len:=by simpa using hj
       have:=(hf j hj').1
       rw[Addr.add_lit,Addr.add_lit,Addr.add_lit]at this
       simpa [Nat.add_assoc] using this
     · simp only[List.mem_map,List.mem_range]at hr
       obtain⟨i,hi,rfl⟩:=hr
       exact(hf i hi).2
theorem open_keys {fuel:Nat} {v:Value} {x:DataW H×List MemPlace} (h:DataW.trod enc Tryz.prog W base spare held fuel 50 [v]=some x) :
   ∃zs:List Int,KeysAt W v zs∧zs.length≤maxLen:=by
 rcases open_slice1 Tryz.underlying50 Tryz.cellsInt h with⟨e,_⟩|⟨a,len,cap,m,n,V,D,Pl,e,_,hl,hm,hmm,_,hx⟩
 · simp only[List.cons.injEq,and_true]at e
   exact⟨[],Or.inl ⟨none,0,e,rfl⟩,by decide⟩
 · simp only[List.cons.injEq,and_true]at e
   have hlm:len≤m:=by rw[hmm];split<;>omega
   have each:∀i,i<len→∃z:Int,W.cell? (a.add i)=some (.int .i64 z):=fun i hi=>by
     obtain⟨h1,h2⟩:=hx i (by omega)
     obtain⟨k,e1,_,_⟩:=DataW.trod_int Tryz.underlying3 h2
     simp only[List.cons.injEq,and_true]at e1
     exact⟨k,by rw[h1,e1]⟩
   obtain⟨f,hf⟩:=choose_lt each
   rcases Nat.eq_zero_or_pos len with h0 | hpos
   · subst h0
     exact⟨[],Or.inl ⟨_,_,e,rfl⟩,by decide⟩
   · have hsp:=addr_none (hf 0 hpos)
     have hsp':a.spot=none:=by
       cases a with | mk b o spt=>cases spt<;>simp [Addr.add]at hsp ⊢
     obtain⟨b,o,spt⟩:=a
     simp only at hsp'
     subst hsp'
     refine⟨(List.range len).map f,Or.inr ⟨b,o,cap,by simpa using e,fun j hj=>?_⟩,by simp;omega⟩
     have hj':j<len:=by simpa using hj
     have:=hf j hj'
     rw[Addr.add_lit]at this
     simpa using this
end
theorem returns_and_shaped {H:Type} {enc:TypeId×Value→H} {a:Assume} {C:Checked} {os:Os} {f:FuncId} {fn:Func} {s:ChangeSpec} {conds:List PathCond} {apart fresh handsOn again:Bool} {X:World→Array Value→Prop}
   (hX:∀(w w':World) (args:Array Value),w.heap=w'.heap→X w args→X w' args)
   (own:ownKnob C.prog.godebug=none) (started:os.Started) (noInit:C.prog.inits.idxOf? f=none) (hfn:C.prog.funcs[f]? =some fn)
   (witness:∃(w:World) (tape:Tape) (i:Input),w.os=os∧(w.forCall tape i).Shaped C.prog∧i.vars= []∧Input.okWide C.prog (w.forCall tape i) .any w.heap.size f i ∧
     ((s.pre enc C.prog fn conds apart (w.forCall tape i).memory i.args∧X (w.forCall tape i).memory i.args)∧sizedMet enc C.prog fn (OpenSpec.ofChange s) apart (w.forCall tape i).memory i.args)∧a.holds C.prog (lone (Frame.enter C.prog f i.args .normal) [] (w.forCall tape i)))
   (contract:∀(W:World) (base:Nat) (args:Array Value) (ds gs:List (DataW H)) (before:List MemPlace),
     (∀(j:Nat) t v,fn.params[j]? =some t→args[j]? =some v→Value.okWide C.prog W .any base t v) →
     DataW.Whole enc C.prog fn.params.toList s.vars apart W args.toList ds gs before→W.ShapedOpen C.prog→X W args →
     Calls C.prog f args W fun e W'=> ∃v,e= .returned v∧s.post enc C.prog fn apart fresh handsOn again W args v W') :
   ReturnsInHanded a C os f .any (fun w args=>(s.pre enc C.prog fn conds apart w args∧X w args)∧sizedMet enc C.prog fn (OpenSpec.ofChange s) apart w args) (s.post enc C.prog fn apart fresh handsOn again):=by
 refine returnsInHanded_of_calls own started noInit witness fun w tape i _ hsh _ hok hpre _=>?_
 obtain⟨_,_,_,fn',hfn',_,_,_,_,hval⟩:=hok
 cases Option.some.inj (hfn'.symm.trans hfn)
 obtain⟨⟨⟨ds,gs,before,hw,_⟩,hx⟩,_⟩:=hpre
 have hw':=DataW.Whole.of_heap (w':=w.forCall tape i) (by rfl) hw
 have hx':=hX _ (w.forCall tape i) _ (by rfl) hx
 refine(contract (w.forCall tape i) w.heap.size i.args ds gs before hval hw' hsh hx').mono fun e W' ⟨v,he,hp⟩=>?_
 subst he
 exact ChangeSpec.post_blind hp
end Go.Proofs.YtdhkdjlgmbejnaaGreatDoor
namespace Go.Proofs.YtdhkdjlgmbejnaaGreatDoor
open Go.ChangeShapes Go.WideShapes Go.ChangeAt Go.RowKit Go.Lib Go.Shelf
theorem Tryz.cellsFile:Tryz.prog.cellsOf 63=6:=by kernel_rfl
theorem list6 {α:Type} {l:List α} (h:l.length=6):∃a b c d e f,l= [a,b,c,d,e,f]:=by
 match l,h with
 | [a,b,c,d,e,f],_=>exact ⟨a,b,c,d,e,f,rfl⟩
section
variable {H : Type} {enc : TypeId × Value → H} {W : World} {base : Nat} {spare : Nat → Bool} {held : Bool}
end
end Go.Proofs.YtdhkdjlgmbejnaaGreatDoor
namespace Go.Proofs.YtdhkdjlgmbejnaaGreatDoor
open Go.ChangeShapes Go.WideShapes Go.ChangeAt Go.RowKit Go.Deep Go.Lib Go.Shelf
section
variable {H : Type} {enc : TypeId × Value → H} {W : World} {base : Nat} {spare : Nat → Bool} {held : Bool}
set_option maxRecDepth 100000 in
theorem open_six {fuel:Nat} {cs:List Value} {x:DataW H×List MemPlace} (h:DataW.trod enc Tryz.prog W base spare held fuel 63 cs=some x) :
   ∃f:Fl,cs=encF f∧f.1.size≤maxLen∧f.2.1.size≤maxLen:=by
 obtain⟨xs,n,_,_,hl,hlen,hfs⟩:=DataW.trod_struct Tryz.underlying63 h
 obtain⟨c0,c1,c2,c3,c4,c5,rfl⟩:=list6 (hl.trans Tryz.cellsFile)
 obtain⟨y0,y1,y2,y3,y4,y5,rfl⟩:=list6 (show xs.length=6 from hlen)
 have f0:DataW.trod enc Tryz.prog W base spare held n 9 [c0]=some y0:=by simpa [Tryz.cellsString] using hfs 0 _ rfl
 have f1:DataW.trod enc Tryz.prog W base spare held n 9 [c1]=some y1:=by simpa [Tryz.cellsString] using hfs 1 _ rfl
 have f2:DataW.trod enc Tryz.prog W base spare held n 3 [c2]=some y2:=by simpa [Tryz.cellsInt] using hfs 2 _ rfl
 have f3:DataW.trod enc Tryz.prog W base spare held n 3 [c3]=some y3:=by simpa [Tryz.cellsInt] using hfs 3 _ rfl
 have f4:DataW.trod enc Tryz.prog W base spare held n 3 [c4]=some y4:=by simpa [Tryz.cellsInt] using hfs 4 _ rfl
 have f5:DataW.trod enc Tryz.prog W base spare held n 3 [c5]=some y5:=by simpa [Tryz.cellsInt] using hfs 5 _ rfl
 obtain⟨s0,e0,_,h0⟩:=DataW.trod_string Tryz.underlying9 f0
 obtain⟨s1,e1,_,h1⟩:=DataW.trod_string Tryz.underlying9 f1
 obtain⟨k2,e2,_,_⟩:=DataW.trod_int Tryz.underlying3 f2
 obtain⟨k3,e3,_,_⟩:=DataW.trod_int Tryz.underlying3 f3
 obtain⟨k4,e4,_,_⟩:=DataW.trod_int Tryz.underlying3 f4
 obtain⟨k5,e5,_,_⟩:=DataW.trod_int Tryz.underlying3 f5
 simp only[List.cons.injEq,and_true]at e0 e1 e2 e3 e4 e5
 exact⟨(s0,s1,k2,k3,k4,k5),by rw[e0,e1,e2,e3,e4,e5];rfl,h0,h1⟩
theorem open_files {fuel:Nat} {v:Value} {x:DataW H×List MemPlace} (h:DataW.trod enc Tryz.prog W base spare held fuel 23 [v]=some x) :
   ∃fs:List Fl,FlsAt W v fs∧fs.length≤maxLen∧∀g∈fs,g.1.size≤maxLen∧g.2.1.size≤maxLen:=by
 rcases open_slice Tryz.underlying23 h with⟨e,_⟩|⟨a,len,cap,m,n,D,Pl,e,_,hl,hm,hmm,_,hx⟩
 · simp only[List.cons.injEq,and_true]at e
   exact⟨[],Or.inl ⟨none,0,e,fun _=>rfl,rfl⟩,by decide,fun _ h=>by cases h⟩
 · simp only[List.cons.injEq,and_true]at e
   rw[Tryz.cellsFile]at hx
   have hlm:len≤m:=by rw[hmm];split<;>omega
   have each:∀i,i<len→∃f:Fl,(∀c u,(encF f)[c]? =some u→W.cell? (a.add (i*6+c))=some u)∧f.1.size≤maxLen∧f.2.1.size≤maxLen:=fun i hi=>by
     obtain⟨cs',h1,h2⟩:=hx i (by omega)
     obtain⟨_,_,hcell⟩:=World.cells?_some h1
     obtain⟨f,hr,hk⟩:=open_six h2
     subst hr
     refine⟨f,fun c u hu=>?_,hk⟩
     have hc:c<6:=by
       rcases Nat.lt_or_ge c 6 with h' | h'
       · exact h'
       · rw[List.getElem?_eq_none (by rw[encF_len];exact h')]at hu;cases hu
     have e0:=hcell c hc
     rw[add_add]at e0
     rw[e0]
     exact hu
   obtain⟨f,hf⟩:=choose_lt each
   rcases Nat.eq_zero_or_pos len with h0 | hpos
   · subst h0
     exact⟨[],Or.inl ⟨_,_,e,fun h=>(nomatch h),rfl⟩,by decide,fun _ h=>by cases h⟩
   · have hsp:=addr_none ((hf 0 hpos).1 0 _ rfl)
     have hsp':a.spot=none:=by
       cases a with | mk b o spt=>cases spt<;>simp [Addr.add]at hsp ⊢
     obtain⟨b,o,spt⟩:=a
     simp only at hsp'
     subst hsp'
     refine⟨(List.range len).map f,Or.inr ⟨b,o,cap,by simpa using e,by simpa using hl,flCells_of fun t u hu=>?_⟩,by simp;omega,fun r hr=>?_⟩
     · have ht:t<(flatF ((List.range len).map f)).length:=by
         rcases Nat.lt_or_ge t (flatF ((List.range len).map f)).length with h' | h'
         · exact h'
         · rw[List.getElem?_eq_none h']at hu;cases hu
       rw[flatF_len,List.length_map,List.length_range]at ht
       have hj:t / 6<len:=by omega
       have et:t=t / 6*6+t % 6:=by omega
       rw[et,flatF_get _ (t / 6) (t % 6) (by simpa using hj) (by omega),List.getElem_map,List.getElem_range]at hu
       have h':=(hf (t / 6) hj).1 (t % 6) u hu
       rw[Addr.add_lit,←et]at h'
       exact h'
     · simp only[List.mem_map,List.mem_range]at hr
       obtain⟨i,hi,rfl⟩:=hr
       exact(hf i hi).2
end
theorem Tryz.cellsSnap:Tryz.prog.cellsOf 25=7:=by kernel_rfl
theorem Tryz.cellsFiles:Tryz.prog.cellsOf 23=1:=by kernel_rfl
theorem list7 {α:Type} {l:List α} (h:l.length=7):∃a b c d e f g,l= [a,b,c,d,e,f,g]:=by
 match l,h with
 | [a,b,c,d,e,f,g],_=>exact ⟨a,b,c,d,e,f,g,rfl⟩
theorem array7 {α:Type} {cs:Array α} (h:cs.size=7):∃a b c d e f g,cs= #[a,b,c,d,e,f,g]:=by
 obtain⟨l⟩:=cs
 obtain⟨a,b,c,d,e,f,g,rfl⟩:=list7 (l:=l) h
 exact⟨a,b,c,d,e,f,g,rfl⟩
section
variable {H : Type} {enc : TypeId × Value → H} {W : World} {base : Nat} {spare : Nat → Bool} {held : Bool}
set_option maxRecDepth 100000 in
theorem open_snap {r:Reach} {b0:Nat} {v:Value} {d:DataW H} {p:List MemPlace} (hv:Value.okWide Tryz.prog W r b0 25 v) (h:DataW.Trod enc Tryz.prog W base spare held 25 v d p) :
   ∃(s:Sn) (q:Option Addr) (cap:Nat),v=snV s (.slice q s.2.2.2.2.2.2.length cap)∧FlsAt W (.slice q s.2.2.2.2.2.2.length cap) s.2.2.2.2.2.2∧s.2.2.2.2.2.1.size≤maxLen∧s.2.2.2.2.2.2.length≤maxLen∧∀g∈s.2.2.2.2.2.2,g.1.size≤maxLen∧g.2.1.size≤maxLen:=by
 obtain⟨cs,rfl,hsz⟩:=okWide_struct Tryz.underlying25 hv
 obtain⟨c0,c1,c2,c3,c4,c5,c6,rfl⟩:=array7 (hsz.trans Tryz.cellsSnap)
 obtain⟨fuel,hf⟩:=h
 have hf':DataW.trod enc Tryz.prog W base spare held fuel 25 [c0,c1,c2,c3,c4,c5,c6]=some (d,p):=by simpa [Value.cells] using hf
 obtain⟨xs,n,_,_,_,hlen,hfs⟩:=DataW.trod_struct Tryz.underlying25 hf'
 obtain⟨y0,y1,y2,y3,y4,y5,y6,rfl⟩:=list7 (show xs.length=7 from hlen)
 have f0:DataW.trod enc Tryz.prog W base spare held n 3 [c0]=some y0:=by simpa [Tryz.cellsInt] using hfs 0 _ rfl
 have f1:DataW.trod enc Tryz.prog W base spare held n 3 [c1]=some y1:=by simpa [Tryz.cellsInt] using hfs 1 _ rfl
 have f2:DataW.trod enc Tryz.prog W base spare held n 3 [c2]=some y2:=by simpa [Tryz.cellsInt] using hfs 2 _ rfl
 have f3:DataW.trod enc Tryz.prog W base spare held n 3 [c3]=some y3:=by simpa [Tryz.cellsInt] using hfs 3 _ rfl
 have f4:DataW.trod enc Tryz.prog W base spare held n 3 [c4]=some y4:=by simpa [Tryz.cellsInt] using hfs 4 _ rfl
 have f5:DataW.trod enc Tryz.prog W base spare held n 9 [c5]=some y5:=by simpa [Tryz.cellsString] using hfs 5 _ rfl
 have f6:DataW.trod enc Tryz.prog W base spare held n 23 [c6]=some y6:=by simpa [Tryz.cellsFiles] using hfs 6 _ rfl
 obtain⟨k0,e0,_,_⟩:=DataW.trod_int Tryz.underlying3 f0
 obtain⟨k1,e1,_,_⟩:=DataW.trod_int Tryz.underlying3 f1
 obtain⟨k2,e2,_,_⟩:=DataW.trod_int Tryz.underlying3 f2
 obtain⟨k3,e3,_,_⟩:=DataW.trod_int Tryz.underlying3 f3
 obtain⟨k4,e4,_,_⟩:=DataW.trod_int Tryz.underlying3 f4
 obtain⟨s5,e5,_,h5⟩:=DataW.trod_string Tryz.underlying9 f5
 obtain⟨fs,hx,hl,hg⟩:=open_files f6
 obtain⟨q,c,e6⟩:=hx.form
 simp only[List.cons.injEq,and_true]at e0 e1 e2 e3 e4 e5
 rw[e6]at hx
 exact⟨(k0,k1,k2,k3,k4,s5,fs),q,c,by rw[e0,e1,e2,e3,e4,e5,e6];rfl,hx,h5,hl,hg⟩
end
theorem Tryz.cellsPiece:Tryz.prog.cellsOf 72=6:=by kernel_rfl
theorem Tryz.cellsRows:Tryz.prog.cellsOf 33=1:=by kernel_rfl
theorem Tryz.cellsKeys:Tryz.prog.cellsOf 50=1:=by kernel_rfl
theorem list6p {α:Type} {l:List α} (h:l.length=6):∃a b c d e f,l= [a,b,c,d,e,f]:=by
 match l,h with
 | [a,b,c,d,e,f],_=>exact ⟨a,b,c,d,e,f,rfl⟩
def encP (vr vk:Value) (p:Pc):List Value:= [.string p.1,.string p.2.1,.string p.2.2.1,vr,vk,.int .i64 p.2.2.2.2.2]
section
variable {H : Type} {enc : TypeId × Value → H} {W : World} {base : Nat} {spare : Nat → Bool} {held : Bool}
set_option maxRecDepth 100000 in
theorem open_piece {fuel:Nat} {cs:List Value} {x:DataW H×List MemPlace} (h:DataW.trod enc Tryz.prog W base spare held fuel 72 cs=some x):∃(p:Pc) (vr vk:Value),cs=encP vr vk p∧RowsAt W vr p.2.2.2.1∧KeysAt W vk p.2.2.2.2.1∧PcOk p:=by
 obtain⟨xs,n,_,_,hl,hlen,hfs⟩:=DataW.trod_struct Tryz.underlying72 h
 obtain⟨c0,c1,c2,c3,c4,c5,rfl⟩:=list6p (hl.trans Tryz.cellsPiece)
 obtain⟨y0,y1,y2,y3,y4,y5,rfl⟩:=list6p (show xs.length=6 from hlen)
 have f0:DataW.trod enc Tryz.prog W base spare held n 9 [c0]=some y0:=by simpa [Tryz.cellsString] using hfs 0 _ rfl
 have f1:DataW.trod enc Tryz.prog W base spare held n 9 [c1]=some y1:=by simpa [Tryz.cellsString] using hfs 1 _ rfl
 have f2:DataW.trod enc Tryz.prog W base spare held n 9 [c2]=some y2:=by simpa [Tryz.cellsString] using hfs 2 _ rfl
 have f3:DataW.trod enc Tryz.prog W base spare held n 33 [c3]=some y3:=by simpa [Tryz.cellsRows] using hfs 3 _ rfl
 have f4:DataW.trod enc Tryz.prog W base spare held n 50 [c4]=some y4:=by simpa [Tryz.cellsKeys] using hfs 4 _ rfl
 have f5:DataW.trod enc Tryz.prog W base spare held n 3 [c5]=some y5:=by simpa [Tryz.cellsInt] using hfs 5 _ rfl
 obtain⟨s0,e0,_,h0⟩:=DataW.trod_string Tryz.underlying9 f0
 obtain⟨s1,e1,_,h1⟩:=DataW.trod_string Tryz.underlying9 f1
 obtain⟨s2,e2,_,h2⟩:=DataW.trod_string Tryz.underlying9 f2
 obtain⟨rs,hr,hrl,_⟩:=open_rows f3
 obtain⟨zs,hz,hzl⟩:=open_keys f4
 obtain⟨k5,e5,_,_⟩:=DataW.trod_int Tryz.underlying3 f5
 simp only[List.cons.injEq,and_true]at e0 e1 e2 e5
 exact⟨(s0,s1,s2,rs,zs,k5),c3,c4,by rw[e0,e1,e2,e5];rfl,hr,hz,h0,h1,h2,hrl,hzl⟩
theorem open_pieces {fuel:Nat} {v:Value} {x:DataW H×List MemPlace} (h:DataW.trod enc Tryz.prog W base spare held fuel 22 [v]=some x) :
   ∃l:List Pc,PcsAt W v l∧l.length≤maxLen∧∀p∈l,PcOk p:=by
 rcases open_slice Tryz.underlying22 h with⟨e,_⟩|⟨a,len,cap,m,n,D,Pl,e,_,hl,hm,hmm,_,hx⟩
 · simp only[List.cons.injEq,and_true]at e
   exact⟨[],Or.inl ⟨none,0,e,rfl⟩,by decide,fun _ h=>by cases h⟩
 · simp only[List.cons.injEq,and_true]at e
   rw[Tryz.cellsPiece]at hx
   have hlm:len≤m:=by rw[hmm];split<;>omega
   have each:∀i,i<len→∃f:Pc×Value×Value,(∀c u,(encP f.2.1 f.2.2 f.1)[c]? =some u→W.cell? (a.add (i*6+c))=some u)∧RowsAt W f.2.1 f.1.2.2.2.1∧KeysAt W f.2.2 f.1.2.2.2.2.1∧PcOk f.1:=fun i hi=>by
     obtain⟨cs',h1,h2⟩:=hx i (by omega)
     obtain⟨_,_,hcell⟩:=World.cells?_some h1
     obtain⟨p,vr,vk,hr,g1,g2,g3⟩:=open_piece h2
     subst hr
     refine⟨(p,vr,vk),fun c u hu=>?_,g1,g2,g3⟩
     have hc:c<6:=by
       rcases Nat.lt_or_ge c 6 with h' | h'
       · exact h'
       · rw[List.getElem?_eq_none (by simp[encP];exact h')]at hu;cases hu
     have e0:=hcell c hc
     rw[add_add]at e0
     rw[e0]
     exact hu
   obtain⟨f,hf⟩:=choose_lt each
   rcases Nat.eq_zero_or_pos len with h0 | hpos
   · subst h0
     exact⟨[],Or.inl ⟨_,_,e,rfl⟩,by decide,fun _ h=>by cases h⟩
   · have hsp:=addr_none ((hf 0 hpos).1 0 _ rfl)
     have hsp':a.spot=none:=by
       cases a with | mk b o spt=>cases spt<;>simp [Addr.add]at hsp ⊢
     obtain⟨b,o,spt⟩:=a
     simp only at hsp'
     subst hsp'
     refine⟨(List.range len).map fun i=>(f i).1,Or.inr ⟨b,o,cap,by simpa using e,fun j hj=>?_⟩,by simp;omega,fun r hr=>?_⟩
     · have hj':j<len:=by simpa using hj
       obtain⟨hc,g1,g2,_⟩:=hf j hj'
       have k0:=hc 0 _ rfl
       have k1:=hc 1 _ rfl
       have k2:=hc 2 _ rfl
       have k3:=hc 3 _ rfl
       have k4:=hc 4 _ rfl
       have k5:=hc 5 _ rfl
       rw[Addr.add_lit]at k0 k1 k2 k3 k4 k5
       simp only[List.getElem_map,List.getElem_range]
       exact⟨(f j).2.1,(f j).2.2,k0,by rw[Nat.add_assoc];exact k1,by rw[Nat.add_assoc];exact k2,by rw[Nat.add_assoc];exact k3,by rw[Nat.add_assoc];exact k4,by rw[Nat.add_assoc];exact k5,g1,g2⟩
     · simp only[List.mem_map,List.mem_range]at hr
       obtain⟨i,hi,rfl⟩:=hr
       exact(hf i hi).2.2.2
end
end Go.Proofs.YtdhkdjlgmbejnaaGreatDoor
namespace Go.Proofs.YtdhkdjlgmbejnaaGreatDoor
open Go.ChangeShapes Go.WideShapes Go.ChangeAt Go.RowKit Go.Lib Go.Shelf
theorem Tryz.own:ownKnob Tryz.prog.godebug=none:=by kernel_rfl
theorem Tryz.rt : (Tryz.prog.cutTypes.find? (·.1 == "internal/reflectlite.rtype")).map (·.2) = some 256 := by kernel_rfl
theorem Tryz.oneRow:((List.range 356).filter fun t=>Tryz.prog.rowNamed t [101,114,114,111,114])= [35]:=by kernel_rfl
theorem Tryz.size:Tryz.prog.types.size=356:=by kernel_rfl
theorem Tryz.et : Tryz.prog.globalNamed "errors.errorType" = some 12 := by kernel_rfl
theorem Tryz.cellsES:Tryz.prog.cellsOf 329=1:=by kernel_rfl
theorem Tryz.star : "*" ++ "errors.errorString" = "*errors.errorString" := by decide
theorem Tryz.rowES (u : TypeId) (h : Tryz.prog.typeName? 3 u = some "*errors.errorString") : u = 327 :=
 typeName_ptr_named (nm := "errors.errorString") (by rw [Tryz.star]; kernel_rfl) (by kernel_rfl) (by decide) u (by rw [Tryz.star]; exact h)
theorem sentinel_full {n nm:String} {text:List UInt8} {r:List (String×DataW Unit)} {W:World} {P:Program} {g:Nat} {ti tp te ts:TypeId} {ms:Array (String×TypeId)} {f:Field}
   (h:laidMet P ((n,.iface nm (.ptr (.agg [.lit (.string text)]))) :: r) W)
   (hg:P.globalNamed n=some g) (ht:(P.globals[g]?).map (·.type)=some ti) (hi:P.underlying ti=some (.interface ms)) (hrow:∀u,P.typeName? 3 u=some nm→u=tp)
   (hp:P.underlying tp=some (.pointer te)) (he:P.underlying te=some (.struct #[f])) (hft:f.type=ts) (hfo:f.offset=0) (hs:P.underlying ts=some .string) (hc:P.cellsOf te=1) (hcs:P.cellsOf ts=1) :
   ∃(a:Addr) (s:ByteArray) (c:Array Value) (t:TypeId),W.cell? ⟨g,0,none⟩=some (.iface tp (.pointer (some a)))∧W.cell? a=some (.string s)∧s.data.toList=text∧W.heap[a.block]? =some (.cells c t (0,0)):=by
 obtain⟨ps,⟨g0,t0,cs0,f0,p0,q0,hg0,ht0,hv0,hd0,_,e0⟩,_,hrows⟩:=h
 obtain rfl:=Option.some.inj (hg.symm.trans hg0)
 obtain rfl:=Option.some.inj (ht.symm.trans ht0)
 subst e0
 obtain⟨l0⟩:=cs0
 have ok0:∀u v,l0= [.iface u v]→Value.okWide P W .any 0 u v:=fun u v e=>by
   subst e
   exact(hrows g 0 (by simp[MemPlace.row])).2 u v (by simpa using World.var?_cell hg0 hv0 0)
 obtain⟨a0,s0,rfl,hc0,hs0,hz0,rfl⟩:=errorString_of_trod hi hrow hp he hft hfo hs hc hcs hd0 ok0
 obtain⟨c,t,hb⟩:=(hrows a0.block a0.off (by simp[MemPlace.row])).1
 exact⟨a0,s0,c,t,by simpa using World.var?_cell hg0 hv0 0,hc0,hs0,hb⟩
def errText:Nat→List UInt8
 | 0=> [100,101,101,100,98,111,120,58,32,116,101,120,116]
 | 1=> [100,101,101,100,98,111,120,58,32,98,111,117,110,100]
 | 2=> [100,101,101,100,98,111,120,58,32,115,104,97,112,101]
 | 3=> [100,101,101,100,98,111,120,58,32,107,105,110,100]
 | 4=> [100,101,101,100,98,111,120,58,32,110,97,109,101]
 | 5=> [100,101,101,100,98,111,120,58,32,110,111,110,101]
 | 6=> [100,101,101,100,98,111,120,58,32,101,120,105,115,116]
 | 7=> [100,101,101,100,98,111,120,58,32,102,117,108,108]
 | 8=> [100,101,101,100,98,111,120,58,32,111,114,100,101,114]
 | 9=> [100,101,101,100,98,111,120,58,32,115,117,109]
 | 10=> [100,101,101,100,98,111,120,58,32,115,116,97,108,101]
 | _=> [100,101,101,100,98,111,120,58,32,111,102,102]
theorem errText_inj:∀i,i<12→∀j,j<12→errText i=errText j→i=j:=by decide
def errList:List (String×DataW Unit) :=
 [("deedbox/api.ErrText", .iface "*errors.errorString" (.ptr (.agg [.lit (.string [100, 101, 101, 100, 98, 111, 120, 58, 32, 116, 101, 120, 116])]))), ("deedbox/api.ErrBound", .iface "*errors.errorString" (.ptr (.agg [.lit (.string [100, 101, 101, 100, 98, 111, 120, 58, 32, 98, 111, 117, 110, 100])]))), ("deedbox/api.ErrShape", .iface "*errors.errorString" (.ptr (.agg [.lit (.string [100, 101, 101, 100, 98, 111, 120, 58, 32, 115, 104, 97, 112, 101])]))), ("deedbox/api.ErrKind", .iface "*errors.errorString" (.ptr (.agg [.lit (.string [100, 101, 101, 100, 98, 111, 120, 58, 32, 107, 105, 110, 100])]))), ("deedbox/api.ErrName", .iface "*errors.errorString" (.ptr (.agg [.lit (.string [100, 101, 101, 100, 98, 111, 120, 58, 32, 110, 97, 109, 101])]))), ("deedbox/api.ErrNone", .iface "*errors.errorString" (.ptr (.agg [.lit (.string [100, 101, 101, 100, 98, 111, 120, 58, 32, 110, 111, 110, 101])]))), ("deedbox/api.ErrExist", .iface "*errors.errorString" (.ptr (.agg [.lit (.string [100, 101, 101, 100, 98, 111, 120, 58, 32, 101, 120, 105, 115, 116])]))), ("deedbox/api.ErrFull", .iface "*errors.errorString" (.ptr (.agg [.lit (.string [100, 101, 101, 100, 98, 111, 120, 58, 32, 102, 117, 108, 108])]))), ("deedbox/api.ErrOrder", .iface "*errors.errorString" (.ptr (.agg [.lit (.string [100, 101, 101, 100, 98, 111, 120, 58, 32, 111, 114, 100, 101, 114])]))), ("deedbox/api.ErrSum", .iface "*errors.errorString" (.ptr (.agg [.lit (.string [100, 101, 101, 100, 98, 111, 120, 58, 32, 115, 117, 109])]))), ("deedbox/api.ErrStale", .iface "*errors.errorString" (.ptr (.agg [.lit (.string [100, 101, 101, 100, 98, 111, 120, 58, 32, 115, 116, 97, 108, 101])]))), ("deedbox/api.ErrOff", .iface "*errors.errorString" (.ptr (.agg [.lit (.string [100, 101, 101, 100, 98, 111, 120, 58, 32, 111, 102, 102])])))]
theorem errs_of_list {W:World} {r:List (String×DataW Unit)} (h:laidMet Tryz.prog (errList++r) W) (hh:W.cell? ⟨12,0,none⟩=some (.iface 256 (.agg #[.pointer (some ⟨21,35,none⟩)]))):∃a,Errs W a:=by
 obtain⟨a0,s0,c0,t0,v0,x0,y0,b0⟩:=sentinel_full h (g:=5) (ti:=35) (by kernel_rfl) (by kernel_rfl) Tryz.underlying35 Tryz.rowES Tryz.underlying327 Tryz.underlying329 rfl rfl Tryz.underlying9 Tryz.cellsES Tryz.cellsString
 replace h:=h.tail
 obtain⟨a1,s1,c1,t1,v1,x1,y1,b1⟩:=sentinel_full h (g:=2) (ti:=35) (by kernel_rfl) (by kernel_rfl) Tryz.underlying35 Tryz.rowES Tryz.underlying327 Tryz.underlying329 rfl rfl Tryz.underlying9 Tryz.cellsES Tryz.cellsString
 replace h:=h.tail
 obtain⟨a2,s2,c2,t2,v2,x2,y2,b2⟩:=sentinel_full h (g:=0) (ti:=35) (by kernel_rfl) (by kernel_rfl) Tryz.underlying35 Tryz.rowES Tryz.underlying327 Tryz.underlying329 rfl rfl Tryz.underlying9 Tryz.cellsES Tryz.cellsString
 replace h:=h.tail
 obtain⟨a3,s3,c3,t3,v3,x3,y3,b3⟩:=sentinel_full h (g:=3) (ti:=35) (by kernel_rfl) (by kernel_rfl) Tryz.underlying35 Tryz.rowES Tryz.underlying327 Tryz.underlying329 rfl rfl Tryz.underlying9 Tryz.cellsES Tryz.cellsString
 replace h:=h.tail
 obtain⟨a4,s4,c4,t4,v4,x4,y4,b4⟩:=sentinel_full h (g:=6) (ti:=35) (by kernel_rfl) (by kernel_rfl) Tryz.underlying35 Tryz.rowES Tryz.underlying327 Tryz.underlying329 rfl rfl Tryz.underlying9 Tryz.cellsES Tryz.cellsString
 replace h:=h.tail
 obtain⟨a5,s5,c5,t5,v5,x5,y5,b5⟩:=sentinel_full h (g:=7) (ti:=35) (by kernel_rfl) (by kernel_rfl) Tryz.underlying35 Tryz.rowES Tryz.underlying327 Tryz.underlying329 rfl rfl Tryz.underlying9 Tryz.cellsES Tryz.cellsString
 replace h:=h.tail
 obtain⟨a6,s6,c6,t6,v6,x6,y6,b6⟩:=sentinel_full h (g:=8) (ti:=35) (by kernel_rfl) (by kernel_rfl) Tryz.underlying35 Tryz.rowES Tryz.underlying327 Tryz.underlying329 rfl rfl Tryz.underlying9 Tryz.cellsES Tryz.cellsString
 replace h:=h.tail
 obtain⟨a7,s7,c7,t7,v7,x7,y7,b7⟩:=sentinel_full h (g:=1) (ti:=35) (by kernel_rfl) (by kernel_rfl) Tryz.underlying35 Tryz.rowES Tryz.underlying327 Tryz.underlying329 rfl rfl Tryz.underlying9 Tryz.cellsES Tryz.cellsString
 replace h:=h.tail
 obtain⟨a8,s8,c8,t8,v8,x8,y8,b8⟩:=sentinel_full h (g:=4) (ti:=35) (by kernel_rfl) (by kernel_rfl) Tryz.underlying35 Tryz.rowES Tryz.underlying327 Tryz.underlying329 rfl rfl Tryz.underlying9 Tryz.cellsES Tryz.cellsString
 replace h:=h.tail
 obtain⟨a9,s9,c9,t9,v9,x9,y9,b9⟩:=sentinel_full h (g:=9) (ti:=35) (by kernel_rfl) (by kernel_rfl) Tryz.underlying35 Tryz.rowES Tryz.underlying327 Tryz.underlying329 rfl rfl Tryz.underlying9 Tryz.cellsES Tryz.cellsString
 replace h:=h.tail
 obtain⟨a10,s10,c10,t10,v10,x10,y10,b10⟩:=sentinel_full h (g:=10) (ti:=35) (by kernel_rfl) (by kernel_rfl) Tryz.underlying35 Tryz.rowES Tryz.underlying327 Tryz.underlying329 rfl rfl Tryz.underlying9 Tryz.cellsES Tryz.cellsString
 replace h:=h.tail
 obtain⟨a11,s11,c11,t11,v11,x11,y11,b11⟩:=sentinel_full h (g:=11) (ti:=35) (by kernel_rfl) (by kernel_rfl) Tryz.underlying35 Tryz.rowES Tryz.underlying327 Tryz.underlying329 rfl rfl Tryz.underlying9 Tryz.cellsES Tryz.cellsString
 refine⟨fun i=>match i with | 0=>a0 | 1=>a1 | 2=>a2 | 3=>a3 | 4=>a4 | 5=>a5 | 6=>a6 | 7=>a7 | 8=>a8 | 9=>a9 | 10=>a10 | _=>a11,?_,?_,?_,hh⟩
 · intro i hi
   match i,hi with
   | 0,_=>exact v0
   | 1,_=>exact v1
   | 2,_=>exact v2
   | 3,_=>exact v3
   | 4,_=>exact v4
   | 5,_=>exact v5
   | 6,_=>exact v6
   | 7,_=>exact v7
   | 8,_=>exact v8
   | 9,_=>exact v9
   | 10,_=>exact v10
   | 11,_=>exact v11
 · have key:∀i,i<12→∃s:ByteArray,W.cell? ((fun i=>match i with | 0=>a0 | 1=>a1 | 2=>a2 | 3=>a3 | 4=>a4 | 5=>a5 | 6=>a6 | 7=>a7 | 8=>a8 | 9=>a9 | 10=>a10 | _=>a11:Nat→Addr) i)=some (.string s)∧s.data.toList=errText i:=by
     intro i hi
     match i,hi with
     | 0,_=>exact ⟨s0,x0,y0⟩
     | 1,_=>exact ⟨s1,x1,y1⟩
     | 2,_=>exact ⟨s2,x2,y2⟩
     | 3,_=>exact ⟨s3,x3,y3⟩
     | 4,_=>exact ⟨s4,x4,y4⟩
     | 5,_=>exact ⟨s5,x5,y5⟩
     | 6,_=>exact ⟨s6,x6,y6⟩
     | 7,_=>exact ⟨s7,x7,y7⟩
     | 8,_=>exact ⟨s8,x8,y8⟩
     | 9,_=>exact ⟨s9,x9,y9⟩
     | 10,_=>exact ⟨s10,x10,y10⟩
     | 11,_=>exact ⟨s11,x11,y11⟩
   intro i j hi hj e
   obtain⟨s,hs,es⟩:=key i hi
   obtain⟨t,ht,et⟩:=key j hj
   refine errText_inj i hi j hj ?_
   have e':=hs.symm.trans ((congrArg W.cell? e).trans ht)
   simp only[Option.some.injEq,Value.string.injEq]at e'
   rw[←es,←et,e']
 · intro i hi
   match i,hi with
   | 0,_=>exact ⟨c0,t0,b0⟩
   | 1,_=>exact ⟨c1,t1,b1⟩
   | 2,_=>exact ⟨c2,t2,b2⟩
   | 3,_=>exact ⟨c3,t3,b3⟩
   | 4,_=>exact ⟨c4,t4,b4⟩
   | 5,_=>exact ⟨c5,t5,b5⟩
   | 6,_=>exact ⟨c6,t6,b6⟩
   | 7,_=>exact ⟨c7,t7,b7⟩
   | 8,_=>exact ⟨c8,t8,b8⟩
   | 9,_=>exact ⟨c9,t9,b9⟩
   | 10,_=>exact ⟨c10,t10,b10⟩
   | 11,_=>exact ⟨c11,t11,b11⟩
theorem handle_of {W : World} (h : handlesMet Tryz.prog [("errors.errorType", Rows.laid_errors_errorType)] W) : W.cell? ⟨12, 0, none⟩ = some (.iface 256 (.agg #[.pointer (some ⟨21, 35, none⟩)])) := by
 obtain⟨name,u,ty,e1,e2,e3,e4,e5⟩:=h _ (List.mem_singleton.2 rfl)
 have en:name= [101,114,114,111,114]:=(Option.some.inj e1).symm
 subst en
 obtain rfl:=Option.some.inj (Tryz.rt.symm.trans e2)
 have hm:ty∈(List.range 356).filter fun t=>Tryz.prog.rowNamed t [101,114,114,111,114]:=List.mem_filter.2 ⟨List.mem_range.2 (by rw[←Tryz.size];exact e3),e4⟩
 rw[Tryz.oneRow]at hm
 obtain rfl:=List.mem_singleton.1 hm
 have hh:typeHandle Tryz.prog 35= .pointer (some ⟨21,35,none⟩):=by kernel_rfl
 rw[hh]at e5
 simpa using World.var?_cell Tryz.et e5 0
theorem Tryz.laidOut:laidOutB Tryz.prog=true:=by kernel_rfl
theorem Tryz.maxLenInt (W:World) (h:W.ShapedOpen Tryz.prog):∃m,W.cell? ⟨13,0,none⟩=some (.int .i64 m) :=
 cell_of_shapedOpen_int (zero:=#[.int .i64 0]) (t:=3) h (of_decide_eq_true (by kernel_rfl)) (by kernel_rfl) rfl (by kernel_rfl) (by kernel_rfl) Tryz.underlying3
theorem pow10_laid:(Rows.laid_internal_strconv_uint64pow10:DataW Unit)=Lib.tabData .u64 Lib.pow10Tab:=by kernel_rfl
def plainList:List (String×DataW Unit) :=
 [("math/bits.deBruijn32tab", Rows.laid_math_bits_deBruijn32tab), ("math/bits.deBruijn64tab", Rows.laid_math_bits_deBruijn64tab), ("internal/strconv.uint64pow10", Rows.laid_internal_strconv_uint64pow10), ("unicode/utf8.acceptRanges", Rows.laid_unicode_utf8_acceptRanges)] ++ (errList ++ [("strconv.ErrRange", Rows.laid_strconv_ErrRange), ("strconv.ErrSyntax", Rows.laid_strconv_ErrSyntax), ("unicode/utf8.first", Rows.laid_unicode_utf8_first)])
theorem env_errs {W : World} (hsh : W.ShapedOpen Tryz.prog) (hL : laidMet Tryz.prog plainList W) (hH : handlesMet Tryz.prog [("errors.errorType", Rows.laid_errors_errorType)] W) : ∃ a, Env W a ∧ Errs W a := by
 have h3 : laidMet Tryz.prog (("internal/strconv.uint64pow10", Lib.tabData .u64 Lib.pow10Tab) :: plainList.drop 3) W := by rw [← pow10_laid]; exact hL.tail.tail
 have ht := tabIs_of_head (P := Tryz.prog) (name := "internal/strconv.uint64pow10") (g := 14) (t := 292) (e := 232) (n := 20) (by kernel_rfl) (by kernel_rfl) (by kernel_rfl) (by kernel_rfl) (by kernel_rfl) (by kernel_rfl) h3
 have h4 : laidMet Tryz.prog (errList ++ [("strconv.ErrRange", Rows.laid_strconv_ErrRange), ("strconv.ErrSyntax", Rows.laid_strconv_ErrSyntax), ("unicode/utf8.first", Rows.laid_unicode_utf8_first)]) W := hL.tail.tail.tail.tail
 obtain⟨a,hE⟩:=errs_of_list h4 (handle_of hH)
 have h17 : laidMet Tryz.prog [("strconv.ErrSyntax", Rows.laid_strconv_ErrSyntax), ("unicode/utf8.first", Rows.laid_unicode_utf8_first)] W := h4.tail.tail.tail.tail.tail.tail.tail.tail.tail.tail.tail.tail.tail
 obtain⟨aS,_,_,_,eS,_⟩:=sentinel_full h17 (g:=17) (ti:=35) (by kernel_rfl) (by kernel_rfl) Tryz.underlying35 Tryz.rowES Tryz.underlying327 Tryz.underlying329 rfl rfl Tryz.underlying9 Tryz.cellsES Tryz.cellsString
 exact⟨a,⟨hE.cell 0 (by decide),hE.cell 1 (by decide),hE.cell 4 (by decide),Tryz.maxLenInt W hsh,⟨_,_,eS⟩,ht⟩,hE⟩
def layCell (v:Value):Obj→Obj
 | .cells _ t frozen=>.cells #[v] t frozen
 | o=>o
noncomputable def handed (os:Os):World :=
 let w0:=World.holding Tryz.prog os ⟨#[],#[], []⟩
 { w0 with heap:=w0.heap.modify 12 (layCell (.iface 256 (.agg #[.pointer (some ⟨21,35,none⟩)]))) }
noncomputable def tellsWorld (os:Os):World:=(handed os).layVars Tryz.prog plainList
theorem tellsWorld_os (os:Os):(tellsWorld os).os=os:=by
 unfold tellsWorld
 rw[World.layVars_os]
 rfl
theorem tellsWorld_shaped (os:Os):(tellsWorld os).Shaped Tryz.prog:=World.shaped_of_ZipB (by kernel_rfl) (by kernel_rfl)
theorem tellsWorld_met (os : Os) (args : Array Value) {l : List (String × DataW Unit)} (h1 : (l.filter fun x => x.2.handleName?.isNone) = plainList) (h2 : (l.filter fun x => x.2.handleName?.isSome) = [("errors.errorType", Rows.laid_errors_errorType)]) :
   laidMetH Tryz.prog l ((tellsWorld os).forCall (fun _ _=>0) ⟨#[],args, []⟩).memory:=by
 refine laidMetH_of_parts ?_ ?_
 · rw[h1]
   have e1:(plainList.filter fun x=>(plainList.map (·.1)).contains x.1)=plainList:=List.filter_eq_self.2 fun x hx=>List.contains_iff_mem.2 (List.mem_map.2 ⟨x,hx,rfl⟩)
   have e2:(plainList.filter fun x=> !(plainList.map (·.1)).contains x.1)= []:=List.filter_eq_nil_iff.2 fun x hx=>by rw[List.contains_iff_mem.2 (List.mem_map.2 ⟨x,hx,rfl⟩)];simp
   have h:laidMet Tryz.prog plainList (tellsWorld os):=laidMet_layVars (w0:=handed os) (plainList.map (·.1)) [] (by rw[e1];rfl) (by rw[e1];kernel_rfl) (by rw[e1];kernel_rfl) (by rw[e2];exact LaidIn.none)
   exact h.of_heap (by simp[World.memory,World.forCall,Input.heap])
 · rw[h2]
   kernel_rfl
theorem tells_split {l : List (String × DataW Unit)} {W : World} (h1 : (l.filter fun x => x.2.handleName?.isNone) = plainList) (h2 : (l.filter fun x => x.2.handleName?.isSome) = [("errors.errorType", Rows.laid_errors_errorType)]) (h : laidMetH Tryz.prog l W) :
   laidMet Tryz.prog plainList W ∧ handlesMet Tryz.prog [("errors.errorType", Rows.laid_errors_errorType)] W := by
 unfold laidMetH at h
 rw[h2,h1]at h
 exact h
end Go.Proofs.YtdhkdjlgmbejnaaGreatDoor
