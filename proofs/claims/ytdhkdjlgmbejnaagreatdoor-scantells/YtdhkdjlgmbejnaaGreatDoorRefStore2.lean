/- By an AI agent. -/
import Derived.Test.YtdhkdjlgmbejnaaGreatDoorStorePure
import Derived.Test.YtdhkdjlgmbejnaaGreatDoorRefList5
namespace Go.Proofs.YtdhkdjlgmbejnaaGreatDoor
open Go.RowKit Go.Extern.Stop Go.Stop Go.Extern Go.Sort Go.Shelf Go.Lib
structure But (P:Nat→Prop) (w w':World):Prop where
 os:w'.os=w.os
 tape:w'.tape=w.tape
 output:w'.output=w.output
 size:w.heap.size≤w'.heap.size
 block:∀k,k<w.heap.size→¬P k→w'.heap[k]? =w.heap[k]?
theorem But.refl (P:Nat→Prop) (w:World):But P w w:=⟨rfl,rfl,rfl,Nat.le_refl _,fun _ _ _=>rfl⟩
theorem But.trans {P Q:Nat→Prop} {a b c:World} (h:But P a b) (k:But Q b c) (hq:∀i,Q i→i<a.heap.size→P i):But P a c :=
 ⟨k.os.trans h.os,k.tape.trans h.tape,k.output.trans h.output,Nat.le_trans h.size k.size,fun i hi hp=>(k.block i (Nat.lt_of_lt_of_le hi h.size) (fun hQ=>hp (hq i hQ hi))).trans (h.block i hi hp)⟩
theorem But.of_below {P:Nat→Prop} {w w':World} (h:Below w.heap.size w w'):But P w w':=⟨h.os,h.tape,h.output,h.size,fun k hk _=>h.block k hk⟩
theorem But.below {P:Nat→Prop} {w w':World} (h:But P w w') {B:Nat} (hB:B≤w.heap.size) (hp:∀k,P k→B≤k):Below B w w' :=
 ⟨h.os,h.tape,h.output,h.size,fun k hk=>h.block k (Nat.lt_of_lt_of_le hk hB) (fun hP=>Nat.lt_irrefl _ (Nat.lt_of_lt_of_le hk (hp k hP)))⟩
theorem But.mono {P Q:Nat→Prop} {w w':World} (h:But P w w') (hq:∀k,P k→Q k):But Q w w':=⟨h.os,h.tape,h.output,h.size,fun k hk hQ=>h.block k hk (fun hP=>hQ (hq k hP))⟩
theorem But.setCell {P:Nat→Prop} {a w:World} (h:But P a w) {b o:Nat} (hp:P b∨a.heap.size≤b) (u:Value):But P a (w.setCell ⟨b,o,none⟩ u):=by
 refine⟨h.os,h.tape,h.output,?_,fun k hk hP=>?_⟩
 · have:(w.setCell ⟨b,o,none⟩ u).heap.size=w.heap.size:=by simp[World.setCell]
   rw[this];exact h.size
 · rw[heap_setCell_other _ _ _ _ (fun e=>by
     subst e
     rcases hp with hp | hp
     · exact hP hp
     · omega)]
   exact h.block k hk hP
theorem But.keep {P:Nat→Prop} {w w':World} (h:But P w w') {b o:Nat} {v:Value} (hb:¬P b) (hc:w.cell? ⟨b,o,none⟩=some v):w'.cell? ⟨b,o,none⟩=some v:=by
 have e:=h.block b (cell_lt hc) hb
 rw[←hc]
 unfold World.cell?
 rw[e]
def encO (f:Ob):List Value:= [.string f.1,.string f.2.1,.int .i64 f.2.2]
def ObCells (w:World) (b o:Nat) (fs:List Ob):Prop :=
 ∀j (h:j<fs.length),w.cell? ⟨b,o+j*3,none⟩=some (.string fs[j].1)∧w.cell? ⟨b,o+j*3+1,none⟩=some (.string fs[j].2.1)∧w.cell? ⟨b,o+j*3+2,none⟩=some (.int .i64 fs[j].2.2)
def ObsAt (w:World) (v:Value) (fs:List Ob):Prop :=
 (∃p c,v= .slice p 0 c∧(p=none→c=0)∧fs= [])∨∃b o cap,v= .slice (some ⟨b,o,none⟩) fs.length cap∧fs.length≤cap∧ObCells w b o fs
theorem ObCells.below {w w':World} {b o:Nat} {fs:List Ob} (h:ObCells w b o fs) (hb:Below w.heap.size w w'):ObCells w' b o fs :=
 fun j hj=>⟨below_keep hb (h j hj).1,below_keep hb (h j hj).2.1,below_keep hb (h j hj).2.2⟩
theorem ObsAt.below {w w':World} {v:Value} {fs:List Ob} (h:ObsAt w v fs) (hb:Below w.heap.size w w'):ObsAt w' v fs:=by
 rcases h with h | ⟨b,o,cap,hv,hl,hc⟩
 · exact Or.inl h
 · exact Or.inr ⟨b,o,cap,hv,hl,hc.below hb⟩
theorem ObsAt.form {w:World} {v:Value} {fs:List Ob} (h:ObsAt w v fs):∃p c,v= .slice p fs.length c:=by
 rcases h with⟨p,c,rfl,_,rfl⟩|⟨b,o,cap,rfl,_⟩
 · exact⟨_,_,rfl⟩
 · exact⟨_,_,rfl⟩
theorem ObsAt.cells {w:World} {q:Option Addr} {n c:Nat} {fs:List Ob} (h:ObsAt w (.slice q n c) fs) (hne:fs≠ []):∃b o,q=some ⟨b,o,none⟩∧ObCells w b o fs:=by
 rcases h with⟨_,_,_,_,e⟩|⟨b,o,cap,e,_,hc⟩
 · exact absurd e hne
 · simp only[Value.slice.injEq]at e
   exact⟨b,o,e.1,hc⟩
theorem ObsAt.room {w:World} {q:Option Addr} {n c:Nat} {fs:List Ob} (h:ObsAt w (.slice q n c) fs):n=fs.length∧(fs≠ []→n≤c):=by
 rcases h with⟨p,c',e,_,rfl⟩|⟨b,o,cap,e,hl,hc⟩
 · simp only[Value.slice.injEq]at e
   exact⟨e.2.1,fun h=>absurd rfl h⟩
 · simp only[Value.slice.injEq]at e
   obtain⟨_,rfl,rfl⟩:=e
   exact⟨rfl,fun _=>hl⟩
def flatO (fs:List Ob):List Value:=fs.flatMap encO
theorem encO_len (f:Ob):(encO f).length=3:=rfl
theorem encO_one (f:Ob):∀u∈encO f,u.oneCell'=true:=by
 intro u hu
 simp only[encO,List.mem_cons,List.not_mem_nil,or_false]at hu
 rcases hu with rfl | rfl | rfl<;>rfl
theorem flatO_len:∀fs:List Ob,(flatO fs).length=fs.length*3
 | []=>rfl
 | f :: fs=>by
   have:=flatO_len fs
   simp only[flatO,List.flatMap_cons,List.length_append,List.length_cons]at *
   rw[this,encO_len];omega
theorem flatO_one (fs:List Ob):∀u∈flatO fs,u.oneCell'=true:=by
 intro u hu
 simp only[flatO,List.mem_flatMap]at hu
 obtain⟨f,_,hf⟩:=hu
 exact encO_one f u hf
theorem flatO_append (xs ys:List Ob):flatO (xs++ys)=flatO xs++flatO ys:=by simp[flatO]
theorem flatO_get:∀(fs:List Ob) (j c:Nat) (h:j<fs.length),c<3→(flatO fs)[j*3+c]? =(encO fs[j])[c]?
 | [],j,_,h,_=>by simp at h
 | f :: fs,0,c,_,hc=>by
   simp only[flatO,List.flatMap_cons,Nat.zero_mul,Nat.zero_add,List.getElem_cons_zero]
   rw[List.getElem?_append_left (by rw[encO_len];exact hc)]
 | f :: fs,j+1,c,h,hc=>by
   have hj:j<fs.length:=by simp at h;omega
   have:=flatO_get fs j c hj hc
   simp only[flatO,List.flatMap_cons,List.getElem_cons_succ]at *
   rw[List.getElem?_append_right (by rw[encO_len];omega),encO_len,show (j+1)*3+c-3=j*3+c by omega]
   exact this
theorem cellsO_flat {w:World} {b o:Nat} {fs:List Ob} (h:ObCells w b o fs):∀t u,(flatO fs)[t]? =some u→w.cell? ⟨b,o+t,none⟩=some u:=by
 intro t u hu
 have ht:t<(flatO fs).length:=by
   rcases Nat.lt_or_ge t (flatO fs).length with h' | h'
   · exact h'
   · rw[List.getElem?_eq_none h']at hu;cases hu
 rw[flatO_len]at ht
 have hj:t / 3<fs.length:=by omega
 have e:t=t / 3*3+t % 3:=by omega
 rw[e,flatO_get fs (t / 3) (t % 3) hj (by omega)]at hu
 obtain⟨h0,h1,h2⟩:=h (t / 3) hj
 have hm:t % 3=0∨t % 3=1∨t % 3=2:=by omega
 rcases hm with hm | hm | hm<;>rw [hm]at hu<;>simp only[encO,List.getElem?_cons_succ,List.getElem?_cons_zero,Option.some.injEq]at hu
 · rw[←hu,←h0];congr 2;omega
 · rw[←hu,←h1];congr 2;omega
 · rw[←hu,←h2];congr 2;omega
theorem obCells_of {w:World} {b o:Nat} {fs:List Ob} (h:∀t u,(flatO fs)[t]? =some u→w.cell? ⟨b,o+t,none⟩=some u):ObCells w b o fs:=fun j hj=>by
 have g:∀c (hc:c<3),w.cell? ⟨b,o+(j*3+c),none⟩=(encO fs[j])[c]? :=fun c hc=>by
   have e:=flatO_get fs j c hj hc
   have hl:c<(encO fs[j]).length:=by rw[encO_len];exact hc
   rw[List.getElem?_eq_getElem hl]at e ⊢
   exact h _ _ e
 refine⟨?_,?_,?_⟩
 · simpa [encO] using g 0 (by omega)
 · simpa [encO,Nat.add_assoc] using g 1 (by omega)
 · simpa [encO,Nat.add_assoc] using g 2 (by omega)
theorem obsAt_of_own {w:World} {base:Nat} {v:Value} {n:Nat} {fs:List Ob} (h:w.ownsRow base 146 3 v n (flatO fs)):ObsAt w v fs∧n=fs.length:=by
 obtain⟨hl,h⟩:=h
 have hn:n=fs.length:=by rw[flatO_len]at hl;omega
 refine⟨?_,hn⟩
 subst hn
 rcases h with⟨hv,hn⟩|⟨g,cap,cur,rfl,_,hg,hcp,_,_,ht⟩
 · exact Or.inl ⟨none,0,by rw[hv],fun _=>rfl,List.length_eq_zero_iff.1 hn⟩
 · refine Or.inr ⟨g,0,cap,rfl,hcp,obCells_of fun t u hu=>?_⟩
   have ht':t<fs.length*3:=by
     rw[←flatO_len]
     rcases Nat.lt_or_ge t (flatO fs).length with h' | h'
     · exact h'
     · rw[List.getElem?_eq_none h']at hu;cases hu
   rw[←ht,List.getElem?_take,if_pos ht']at hu
   simp only[World.cell?,hg,Nat.zero_add]
   simpa using hu
theorem Tryz.objInfo3:(Tryz.prog.info? 146).map (fun i=>(i.zero,i.size,i.bytes))=some (some (.agg #[.string ⟨#[]⟩,.string ⟨#[]⟩,.int .i64 0]),3,40):=by kernel_rfl
theorem Tryz.objInfo:∃i0:TypeInfo,Tryz.prog.info? 146=some i0∧i0.zero=some (.agg #[.string ⟨#[]⟩,.string ⟨#[]⟩,.int .i64 0])∧i0.size=3∧i0.bytes=40:=by
 obtain⟨i,hi,h⟩:=Option.map_eq_some_iff.1 Tryz.objInfo3
 simp only[Prod.mk.injEq]at h
 exact⟨i,hi,h.1,h.2.1,h.2.2⟩
set_option maxHeartbeats 1000000 in
theorem sortN_any (v:Value) (xs:List Rw) (w:World) (h:RowsAt w v xs) (hl:xs.length≤20000) :
   Calls Tryz.prog 43 #[v] w fun e w'=> ∃v',e= .returned v'∧RowsAt w' v' (sortR xs)∧Below w.heap.size w w'∧∀k,v'.ownBlock=some k→w.heap.size≤k:=by
 have hc:=clone_any v xs w h hl
 clear h
 go_enter Tryz.func43,Tryz.ntmps43
 go_wp2_with (first
   | (go_at_call 95;refine hc.mono ?_;rintro e w1 ⟨v1,rfl,ho,hb⟩;have hs:=sortFunc_any v1 xs w.heap.size w w1 hb (Nat.le_refl _) ho hl;have hfar:∀k,v1.ownBlock=some k→w.heap.size≤k:=(fun k hk=>(ho.lt k hk).1);clear ho)
   | (go_at_call 96;refine hs.mono ?_;rintro e w2 ⟨rfl,hr,hb2⟩))
 go_ret
 exact⟨_,rfl,hr,hb2,hfar⟩
theorem newF_nil (w:World):NewF w (.slice none 0 0):=fun k h=>by simp[Value.ownBlock]at h
def NewE (w:World) (e:Ending):Prop:= ∀v' ev,e= .returned (.tuple #[v',ev])→NewF w v'
theorem newE_mk {w:World} {v ev:Value} (h:NewF w v):NewE w (.returned (.tuple #[v,ev])):=by
 intro v' ev' e
 cases e
 exact h
theorem NewF.up {w w':World} {v:Value} (h:NewF w' v) (hb:w.heap.size≤w'.heap.size):NewF w v:=fun k hk=>Nat.le_trans hb (h k hk)
theorem but_cell {W W':World} {P:Nat→Prop} {b o:Nat} {u:Value} (hB:But P W W') (hP:¬P b) (h:W.cell? ⟨b,o,none⟩=some u):W'.cell? ⟨b,o,none⟩=some u:=by
 have hlt:b<W.heap.size:=by
   rcases Nat.lt_or_ge b W.heap.size with h' | h'
   · exact h'
   · simp[World.cell?,Array.getElem?_eq_none h']at h
 simp only[World.cell?]at h ⊢
 rw[hB.block b hlt hP]
 exact h
end Go.Proofs.YtdhkdjlgmbejnaaGreatDoor
namespace Go.Proofs.YtdhkdjlgmbejnaaGreatDoor
open Go Go.Lib
abbrev Sn:=Int×Int×Int×Int×Int×ByteArray×List Fl
def kStart:List UInt8:= [115,116,97,114,116]
def kAppend:List UInt8:= [97,112,112,101,110,100]
def kDelete:List UInt8:= [100,101,108,101,116,101]
def kRewrite:List UInt8:= [114,101,119,114,105,116,101]
def opB (s:List UInt8):Bool:=decide (s=kStart) || decide (s=kAppend) || decide (s=kDelete) || decide (s=kRewrite)
def sbndB (s:Sn):Bool:=decide (1≤s.1) && decide (s.1≤1073741824) && decide (0≤s.2.1) && decide (s.2.1<s.1) && decide (0≤s.2.2.1) && decide (s.2.2.1≤1073741824) && decide (0≤s.2.2.2.1) && decide (s.2.2.2.1≤100000) && decide (0≤s.2.2.2.2.1) && decide (s.2.2.2.2.1≤1073741824)
theorem sbnd_all {s:Sn} :sbndB s=true↔((1≤s.1∧s.1≤1073741824)∧(0≤s.2.1∧s.2.1<s.1))∧((0≤s.2.2.1∧s.2.2.1≤1073741824)∧(0≤s.2.2.2.1∧s.2.2.2.1≤100000))∧0≤s.2.2.2.2.1∧s.2.2.2.2.1≤1073741824:=by
 simp only[sbndB,Bool.and_eq_true,decide_eq_true_eq]
 constructor
 · rintro⟨⟨⟨⟨⟨⟨⟨⟨⟨a,b⟩,c⟩,d⟩,e⟩,f⟩,g⟩,h⟩,i⟩,j⟩
   exact⟨⟨⟨a,b⟩,c,d⟩,⟨⟨e,f⟩,g,h⟩,i,j⟩
 · rintro⟨⟨⟨a,b⟩,c,d⟩,⟨⟨e,f⟩,g,h⟩,i,j⟩
   exact⟨⟨⟨⟨⟨⟨⟨⟨⟨a,b⟩,c⟩,d⟩,e⟩,f⟩,g⟩,h⟩,i⟩,j⟩
def seqG (seq:Int):List Fl→Nat→Nat×Option Nat
 | [],_=>(0,none)
 | f :: r,i=>if seq<f.2.2.2.2.2 then (9,some i) else seqG seq r (i+1)
def snapE (s:Sn):Nat×Option Nat :=
 if sbndB s=false then (2,none) else if opB s.2.2.2.2.2.1.data.toList=false then (4,none) else
 if (listE s.2.2.2.2.2.2).1≠0 then listE s.2.2.2.2.2.2 else seqG s.2.2.1 s.2.2.2.2.2.2 0
theorem seqG_vals (seq:Int):∀(fs:List Fl) (i:Nat),seqG seq fs i=(0,none)∨∃j,seqG seq fs i=(9,some j)
 | [],_=>Or.inl rfl
 | f :: r,i=>by
   unfold seqG
   split
   · exact Or.inr ⟨i,rfl⟩
   · exact seqG_vals seq r (i+1)
theorem snapE_le (s:Sn):(snapE s).1≤12:=by
 unfold snapE
 split
 · exact(by decide:(2:Nat)≤12)
 · split
   · exact(by decide:(4:Nat)≤12)
   · split
     · unfold listE
       split
       · exact(by decide:(8:Nat)≤12)
       · exact lstG_le _ _ _
     · rcases seqG_vals s.2.2.1 s.2.2.2.2.2.2 0 with e | ⟨j,e⟩
       · rw[e];exact Nat.zero_le _
       · rw[e];exact(by decide:(9:Nat)≤12)
def zeroS:Sn:=(0,0,0,0,0,bytesOf [], [])
end Go.Proofs.YtdhkdjlgmbejnaaGreatDoor
namespace Go.Proofs.YtdhkdjlgmbejnaaGreatDoor
open Go.RowKit Go.Extern.Stop Go.Stop Go.Extern Go.Sort Go.Shelf Go.Lib
def MC (W:World) (b:Nat) (vL:Value) (s:St):Prop:=W.heap[b]? =some (.cells #[vL,.string s.head,.int .i64 s.day,.bool s.off,.int .i64 s.cut] 130 (0,0))
def MAt (W:World) (b:Nat) (s:St):Prop:= ∃vL,MC W b vL s∧ObsAt W vL s.obs
theorem MC.lt {W:World} {b:Nat} {vL:Value} {s:St} (h:MC W b vL s):b<W.heap.size:=lt_of_block h
theorem MC.below {W W':World} {b:Nat} {vL:Value} {s:St} (h:MC W b vL s) (hb:Below W.heap.size W W'):MC W' b vL s:=(hb.block b h.lt).trans h
theorem MC.but {P:Nat→Prop} {W W':World} {b:Nat} {vL:Value} {s:St} (h:MC W b vL s) (hb:But P W W') (hn:¬P b):MC W' b vL s:=(hb.block b h.lt hn).trans h
theorem MC.cells {W:World} {b:Nat} {vL:Value} {s:St} (h:MC W b vL s):W.cell? ⟨b,0,none⟩=some vL∧W.cell? ⟨b,1,none⟩=some (.string s.head)∧W.cell? ⟨b,2,none⟩=some (.int .i64 s.day)∧W.cell? ⟨b,3,none⟩=some (.bool s.off)∧W.cell? ⟨b,4,none⟩=some (.int .i64 s.cut)∧∀o,W.frozen? ⟨b,o,none⟩=false:=by
 refine⟨?_,?_,?_,?_,?_,fun o=>frozen_of_row _ _ _ _ _ h⟩<;>rw [cell_of_row _ _ _ _ _ _ h]<;>rfl
theorem MAt.below {W W':World} {b:Nat} {s:St} (h:MAt W b s) (hb:Below W.heap.size W W'):MAt W' b s:=by
 obtain⟨vL,h1,h2⟩:=h
 exact⟨vL,h1.below hb,h2.below hb⟩
def OffB (v:Value) (l:List Ob) (R:Nat):Prop:= ∀b o c n,v= .slice (some ⟨b,o,none⟩) n c→l≠ []→b≠R
theorem off_store {W:World} {R:Nat} {q:Option Addr} {n c:Nat} {s:St} {v:Value} {l:List Ob} (h:MC W R (.slice q n c) s) (hr:ObsAt W v l):OffB v l R:=by
 intro b o c' n' hv hne e
 subst e
 rcases hr with⟨_,_,_,_,e⟩|⟨b2,o2,c2,e2,_,hc⟩
 · exact hne e
 · rw[e2]at hv
   injection hv with e3
   injection e3 with e3
   injection e3 with e3 e4
   subst e3
   subst e4
   obtain⟨h0,h1,_⟩:=hc 0 (List.length_pos_iff.2 hne)
   rw[cell_of_row _ _ _ _ _ _ h]at h0 h1
   simp only[Nat.zero_mul,Nat.add_zero]at h0 h1
   match o2,h0,h1 with
   | 0,h0,_=>simp at h0
   | 1,_,h1=>simp at h1
   | 2,h0,_=>simp at h0
   | 3,h0,_=>simp at h0
   | 4,h0,_=>simp at h0
   | k+5,h0,_=>simp at h0
theorem ObsAt.set_off {W:World} {R:Nat} {v:Value} {l:List Ob} (h:ObsAt W v l) (ho:OffB v l R) (k:Nat) (z:Value):ObsAt (W.setCell ⟨R,k,none⟩ z) v l:=by
 rcases h with h | ⟨b,o,c,hv,hl,hc⟩
 · exact Or.inl h
 · by_cases hne:l= []
   · exact Or.inl ⟨some ⟨b,o,none⟩,c,by rw[hv,hne];rfl,fun e=>(nomatch e),hne⟩
   · have hb:=ho b o c _ hv hne
     have hk:∀p,(W.setCell ⟨R,k,none⟩ z).cell? ⟨b,p,none⟩=W.cell? ⟨b,p,none⟩:=fun p=>World.cell?_setCell_other _ _ _ _ (by intro e;injection e with e;exact hb e.symm)
     refine Or.inr ⟨b,o,c,hv,hl,fun j hj=>?_⟩
     obtain⟨h0,h1,h2⟩:=hc j hj
     exact⟨(hk _).trans h0,(hk _).trans h1,(hk _).trans h2⟩
theorem MC.set0 {W:World} {b:Nat} {vL:Value} {s:St} (h:MC W b vL s) (v':Value) (l':List Ob):MC (W.setCell ⟨b,0,none⟩ v') b v' { s with obs:=l' } :=by
 unfold MC at *
 rw[heap_setCell_same _ _ _ _ _ _ h];rfl
theorem MC.set3 {W:World} {b:Nat} {vL:Value} {s:St} (h:MC W b vL s) (x:Bool):MC (W.setCell ⟨b,3,none⟩ (.bool x)) b vL { s with off:=x } :=by
 unfold MC at *
 rw[heap_setCell_same _ _ _ _ _ _ h];rfl
theorem MC.set4 {W:World} {b:Nat} {vL:Value} {s:St} (h:MC W b vL s) (d:Int):MC (W.setCell ⟨b,4,none⟩ (.int .i64 d)) b vL { s with cut:=d } :=by
 unfold MC at *
 rw[heap_setCell_same _ _ _ _ _ _ h];rfl
def MNew (W:World) (b:Nat) (w':World):Prop:= ∀vL,W.cell? ⟨b,0,none⟩=some vL→∃vL',w'.cell? ⟨b,0,none⟩=some vL'∧(vL'=vL∨∀a n c,vL'= .slice (some a) n c→W.heap.size≤a.block)
theorem MNew.refl (W:World) (b:Nat):MNew W b W:=fun vL h=>⟨vL,h,Or.inl rfl⟩
theorem MNew.fresh {W w':World} {b B:Nat} {e:TypeId} {size:Nat} {v:Value} {n:Nat} {xs:List Value} {w2:World} (h':w'.cell? ⟨b,0,none⟩=some v) (ho:w2.ownsRow B e size v n xs) (hB:W.heap.size≤B):MNew W b w':=fun _ _=>⟨v,h',Or.inr fun a n' c e=>by
 rcases ho.2 with⟨e2,_⟩|⟨g',cap',cur,e2,hg',_⟩
 · rw[e2]at e;simp at e
 · rw[e2]at e
   simp only[Value.slice.injEq,Option.some.injEq]at e
   rw[←e.1]
   exact Nat.le_trans hB hg'⟩
def MPost (W:World) (b:Nat) (s:St) (w':World):Prop:=MAt w' b s∧But (fun k=>k=b) W w'∧MNew W b w'
set_option maxRecDepth 100000 in
theorem newStore_any (w:World):Calls Tryz.prog 32 #[] w fun e w'=> ∃b,e= .returned (.pointer (some ⟨b,0,none⟩))∧MAt w' b newS∧w'.cell? ⟨b,0,none⟩=some (.slice none 0 0)∧w.heap.size≤b∧Below w.heap.size w w':=by
 have hal:Below w.heap.size w (w.alloc (.cells #[.slice none 0 0,.string ⟨#[]⟩,.int .i64 0,.bool false,.int .i64 (-1)] 130)):=(Below.refl _ _).alloc (Nat.le_refl _) _
 have HM:Hid (MAt (w.alloc (.cells #[.slice none 0 0,.string ⟨#[]⟩,.int .i64 0,.bool false,.int .i64 (-1)] 130)) w.heap.size newS):=⟨.slice none 0 0,heap_alloc_new _ _,Or.inl ⟨none,0,rfl,fun _=>rfl,rfl⟩⟩
 go_enter Tryz.func32,Tryz.ntmps32
 go_wp2
 go_ret
 exact⟨_,rfl,HM.out,by rw[cell_of_row _ _ _ _ _ _ (heap_alloc_new _ _)];rfl,Nat.le_refl _,hal⟩
def findI (l:List Ob) (n:ByteArray):Int:=match l.findIdx? (fun o=>decide (o.1=n)) with
 | some i=>i
 | none=> -1
theorem findI_at {l:List Ob} {n:ByteArray} {j:Nat} (hj:j<l.length) (h:∀i (h:i<l.length),i<j→l[i].1≠n) (e:l[j].1=n):findI l n=j∧getO l n=some l[j]:=by
 have h1:l.findIdx? (fun o=>decide (o.1=n))=some j:=by
   rw[List.findIdx?_eq_some_iff_getElem]
   exact⟨hj,by simpa using e,fun i hi=>by simpa using h i (by omega) hi⟩
 refine⟨by unfold findI;rw[h1],?_⟩
 unfold getO
 rw[List.find?_eq_some_iff_getElem]
 exact⟨by simpa using e,j,hj,rfl,fun i hi=>by simpa using h i (by omega) hi⟩
theorem findI_no {l:List Ob} {n:ByteArray} (h:∀i (h:i<l.length),l[i].1≠n):findI l n= -1∧getO l n=none:=by
 have h1:l.findIdx? (fun o=>decide (o.1=n))=none:=by
   rw[List.findIdx?_eq_none_iff]
   intro o ho
   obtain⟨i,hi,rfl⟩:=List.mem_iff_getElem.1 ho
   simpa using h i hi
 refine⟨by unfold findI;rw[h1],getO_none.2 fun o ho=>?_⟩
 obtain⟨i,hi,rfl⟩:=List.mem_iff_getElem.1 ho
 exact h i hi
theorem findI_get (l:List Ob) (n:ByteArray):(findI l n= -1∧getO l n=none)∨∃j,∃h:j<l.length,findI l n=j∧getO l n=some l[j]∧l[j].1=n∧∀i (h:i<l.length),i<j→l[i].1≠n:=by
 unfold findI
 cases e:l.findIdx? (fun o=>decide (o.1=n)) with
 | none =>
   rw[List.findIdx?_eq_none_iff]at e
   exact Or.inl ⟨rfl,getO_none.2 fun o ho=>by simpa using e o ho⟩
 | some j =>
   rw[List.findIdx?_eq_some_iff_getElem]at e
   obtain⟨hj,h1,h2⟩:=e
   have h3:∀i (h:i<l.length),i<j→l[i].1≠n:=fun i hi hij=>by simpa using h2 i hij
   have h4:l[j].1=n:=by simpa using h1
   exact Or.inr ⟨j,hj,rfl,(findI_at hj h3 h4).2,h4,h3⟩
theorem nm_eq {a b:ByteArray} (h:a=b):(a.toList == b.toList)=true:=by subst h;simp
theorem nm_ne {a b:ByteArray} (h:a≠b):(a.toList == b.toList)=false:=by
 rw[beq_eq_false_iff_ne]
 intro e
 apply h
 rw[ByteArray.toList_eq,ByteArray.toList_eq]at e
 exact name_ext e
set_option maxRecDepth 100000 in
set_option maxHeartbeats 2000000 in
theorem find_o (b:Nat) (vL:Value) (s:St) (n:ByteArray) (w:World) (h:MC w b vL s) (ho:ObsAt w vL s.obs) (hl:s.obs.length≤1000) :
   Calls Tryz.prog 88 #[.pointer (some ⟨b,0,none⟩),.string n] w fun e w'=>e= .returned (.int .i64 (findI s.obs n))∧w'=w:=by
 obtain⟨q,cap,rfl⟩:=ho.form
 have HO:Hid (ObsAt w (.slice q s.obs.length cap) s.obs):=ho
 have c0:=h.cells.1
 obtain⟨L,hL⟩:∃L,s.obs.length=L:=⟨_,rfl⟩
 have HX:Hid (s.obs.length=L):=hL
 rw[hL]at hl c0
 generalize hR:findI s.obs n=R
 have HR:Hid (findI s.obs n=R):=hR
 clear hL ho hR h
 go_enter Tryz.func88,Tryz.ntmps88
 go_wp2
 go_loop [5] (fun k=> ∃m:Nat,m≤L∧k= .int .i64 m∧∀i (h:i<s.obs.length),i<m→s.obs[i].1≠n) (fun k=>L-(intOf k).toNat)
 case atStart=>exact ⟨0,by omega,rfl,fun i h h'=>absurd h' (Nat.not_lt_zero _)⟩
 case round =>
   obtain⟨m,hm,rfl,hno⟩:=hrel
   have HNO:Hid (∀i (h:i<s.obs.length),i<m→s.obs[i].1≠n):=hno
   clear hno
   by_cases hlt:m<L
   · have hltx:m<s.obs.length:=by rw[HX.out];exact hlt
     obtain⟨g,o,hq,hc⟩:=HO.out.cells (fun e=>by rw[e]at hltx;simp at hltx)
     subst hq
     have c1:=(hc m hltx).1
     have hi:(m:Int)<(L:Int):=by omega
     have hi0:(0:Int)≤(m:Int):=by omega
     by_cases he:s.obs[m].1=n
     · have HRE:Hid (R=(m:Int)):=by show _=_;rw[←HR.out];exact(findI_at hltx HNO.out he).1
       have d1:=nm_eq he
       generalize s.obs[m].1=nm at c1 d1
       clear hc he hltx
       go_wp2
       go_ret
       rw[HRE.out]
       exact⟨rfl,rfl⟩
     · have HN1:Hid (∀i (h:i<s.obs.length),i<m+1→s.obs[i].1≠n):=fun i hi him=>by
         by_cases e:i=m
         · subst e;exact he
         · exact HNO.out i hi (by omega)
       have d1:=nm_ne he
       generalize s.obs[m].1=nm at c1 d1
       clear hc he hltx
       go_wp2
       go_round
       case rel=>exact ⟨m+1,by omega,by go_num,HN1.out⟩
       case measure=>simp [intOf];omega
   · obtain rfl:m=L:=by omega
     have HRE:Hid (R= -1):=by show _=_;rw[←HR.out];exact(findI_no fun i hi=>HNO.out i hi (by rw[←HX.out];exact hi)).1
     go_wp2
     go_ret
     rw[HRE.out]
     exact⟨rfl,rfl⟩
theorem mfind_any (b:Nat) (s:St) (n:ByteArray) (w:World) (h:MAt w b s) (hl:s.obs.length≤1000) :
   Calls Tryz.prog 88 #[.pointer (some ⟨b,0,none⟩),.string n] w fun e w'=>e= .returned (.int .i64 (findI s.obs n))∧w'=w:=by
 obtain⟨vL,h1,h2⟩:=h
 exact find_o b vL s n w h1 h2 hl
theorem signB_int (c:UInt8):signB c=((decide (97≤(c.toNat:Int)) && decide ((c.toNat:Int)≤122)) || (decide (48≤(c.toNat:Int)) && decide ((c.toNat:Int)≤57)) || decide ((c.toNat:Int)=47)):=by
 unfold signB
 have e1:decide (97≤c.toNat)=decide (97≤(c.toNat:Int)):=by congr 1;exact propext (by omega)
 have e2:decide (c.toNat≤122)=decide ((c.toNat:Int)≤122):=by congr 1;exact propext (by omega)
 have e3:decide (48≤c.toNat)=decide (48≤(c.toNat:Int)):=by congr 1;exact propext (by omega)
 have e4:decide (c.toNat≤57)=decide ((c.toNat:Int)≤57):=by congr 1;exact propext (by omega)
 have e5:decide (c.toNat=47)=decide ((c.toNat:Int)=47):=by congr 1;exact propext (by omega)
 rw[e1,e2,e3,e4,e5]
set_option maxRecDepth 100000 in
set_option maxHeartbeats 2000000 in
theorem isObject_any (s:ByteArray) (w:World) (hs:s.size≤maxLen) :
   Calls Tryz.prog 87 #[.string s] w fun e w'=>e= .returned (.bool (objB s.data.toList))∧w'=w:=by
 unfold maxLen at hs
 have hsz:=size_list s
 generalize hr:objB s.data.toList=r
 have HR:Hid (objB s.data.toList=r):=hr
 have HS:Hid (s.data.toList.length=s.size):=hsz
 clear hr hsz
 go_enter Tryz.func87,Tryz.ntmps87
 go_wp2
 go_loop [3] (fun k=> ∃n:Nat,n≤s.size∧(∀j (h:j<s.size),j<n→signB s[j]=true)∧k= .int .i64 n) (fun k=>s.size-(intOf k).toNat)
 case atStart=>exact ⟨0,by omega,fun j h h'=>absurd h' (Nat.not_lt_zero _),rfl⟩
 case round =>
   obtain⟨n,hn,ht,rfl⟩:=hrel
   have HT:Hid (∀j (h:j<s.size),j<n→signB s[j]=true):=ht
   clear ht
   by_cases hlt:n<s.size
   · have hi:(n:Int)<(s.size:Int):=by omega
     have BAD:Hid (signB s[n]=false→r=false):=fun hv=>by
       rw[←HR.out]
       unfold objB
       simp only[Bool.and_eq_false_iff]
       refine Or.inl (Or.inl ?_)
       rw[List.all_eq_false]
       exact⟨s[n],List.mem_of_getElem? (byte_list s n hlt),by rw[hv];simp⟩
     have GOOD:Hid (signB s[n]=true→∀j (h:j<s.size),j<n+1→signB s[j]=true):=fun hv j hj hjn=>by
       by_cases e:j=n
       · subst e;exact hv
       · exact HT.out j hj (by omega)
     have hsg:=signB_int s[n]
     generalize signB s[n]=sg at hsg BAD GOOD
     by_cases h1:97≤(s[n].toNat:Int)
     · have h3:(48:Int)≤(s[n].toNat:Int):=by omega
       have h4:¬(s[n].toNat:Int)≤57:=by omega
       have h5:¬(s[n].toNat:Int)=47:=by omega
       by_cases h2:(s[n].toNat:Int)≤122
       · obtain rfl:sg=true:=by rw[hsg];simp[h1,h2]
         have G:Hid (∀j (h:j<s.size),j<n+1→signB s[j]=true):=GOOD.out rfl
         clear hsg BAD GOOD
         go_wp2
         go_round
         case rel=>exact ⟨n+1,by omega,G.out,by go_num⟩
         case measure=>simp [intOf];omega
       · obtain rfl:sg=false:=by rw[hsg];simp[h2,h4,h5]
         obtain rfl:=BAD.out rfl
         clear hsg BAD GOOD
         go_wp2
         go_ret
         exact⟨rfl,rfl⟩
     · by_cases h3:48≤(s[n].toNat:Int)
       · have h5:¬(s[n].toNat:Int)=47:=by omega
         by_cases h4:(s[n].toNat:Int)≤57
         · obtain rfl:sg=true:=by rw[hsg];simp[h3,h4]
           have G:Hid (∀j (h:j<s.size),j<n+1→signB s[j]=true):=GOOD.out rfl
           clear hsg BAD GOOD
           go_wp2
           go_round
           case rel=>exact ⟨n+1,by omega,G.out,by go_num⟩
           case measure=>simp [intOf];omega
         · obtain rfl:sg=false:=by rw[hsg];simp[h1,h4,h5]
           obtain rfl:=BAD.out rfl
           clear hsg BAD GOOD
           go_wp2
           go_ret
           exact⟨rfl,rfl⟩
       · by_cases h5:(s[n].toNat:Int)=47
         · obtain rfl:sg=true:=by rw[hsg];simp[h5]
           have G:Hid (∀j (h:j<s.size),j<n+1→signB s[j]=true):=GOOD.out rfl
           clear hsg BAD GOOD
           go_wp2
           go_round
           case rel=>exact ⟨n+1,by omega,G.out,by go_num⟩
           case measure=>simp [intOf];omega
         · obtain rfl:sg=false:=by rw[hsg];simp[h1,h3,h5]
           obtain rfl:=BAD.out rfl
           clear hsg BAD GOOD
           go_wp2
           go_ret
           exact⟨rfl,rfl⟩
   · obtain rfl:n=s.size:=by omega
     have hall:s.data.toList.all signB=true:=by
       rw[List.all_eq_true]
       intro c hc
       obtain⟨j,hj,rfl⟩:=List.mem_iff_getElem.1 hc
       rw[HS.out]at hj
       have h1:=byte_list s j hj
       rw[List.getElem?_eq_getElem (by rw[HS.out];exact hj)]at h1
       rw[Option.some.inj h1]
       exact HT.out j hj hj
     by_cases h1:1≤s.size
     · by_cases h2:s.size≤16
       · obtain rfl:r=true:=by rw[←HR.out];unfold objB;rw[hall,HS.out];simp[h1,h2]
         have i1:(1:Int)≤(s.size:Int):=by omega
         have i2:(s.size:Int)≤16:=by omega
         clear hall
         go_wp2
         go_ret
         exact⟨rfl,rfl⟩
       · obtain rfl:r=false:=by rw[←HR.out];unfold objB;rw[hall,HS.out];simp[h2]
         have i1:(1:Int)≤(s.size:Int):=by omega
         have i2:¬(s.size:Int)≤16:=by omega
         clear hall
         go_wp2
         go_ret
         exact⟨rfl,rfl⟩
     · obtain rfl:r=false:=by rw[←HR.out];unfold objB;rw[hall,HS.out];simp[h1]
       have i1:¬(1:Int)≤(s.size:Int):=by omega
       clear hall
       go_wp2
       go_ret
       exact⟨rfl,rfl⟩
set_option maxRecDepth 100000 in
set_option maxHeartbeats 2000000 in
theorem written_any (b:Nat) (vL:Value) (s:St) (n:Nat) (w:World) (h:MC w b vL s) (hn:n≤20000) (hc: -1≤s.cut∧s.cut≤9223372036854775807) :
   Calls Tryz.prog 89 #[.pointer (some ⟨b,0,none⟩),.int .i64 n] w fun e w'=>e= .returned (.int .i64 (wrtS s n).1)∧MC w' b vL (wrtS s n).2∧But (fun k=>k=b) w w'∧w'.heap.size=w.heap.size:=by
 have HM:Hid (MC w b vL s):=h
 obtain⟨c0,c1,c2,c3,c4,cf⟩:=h.cells
 by_cases h1:s.cut<0
 · have e:wrtS s n=(n,s):=by unfold wrtS;rw[if_pos h1]
   rw[e]
   clear h e
   go_enter Tryz.func89,Tryz.ntmps89
   go_wp2
   go_ret
   exact⟨rfl,HM.out,But.refl _ _,rfl⟩
 · by_cases h2:s.cut<(n:Int)
   · have e:wrtS s n=(s.cut.toNat, { s with off:=true }):=by unfold wrtS;rw[if_neg h1,if_pos h2]
     rw[e]
     have HM2:=h.set3 true
     have e4:=HM2.cells.2.2.2.2.1
     have HC:Hid ((s.cut.toNat:Int)=s.cut):=by show _=_;omega
     have HB:Hid (But (fun k=>k=b) w (w.setCell ⟨b,3,none⟩ (.bool true))):=(But.refl (fun k=>k=b) w).setCell (Or.inl rfl) _
     dsimp only at e4 ⊢
     rw[HC.out]
     clear h e
     go_enter Tryz.func89,Tryz.ntmps89
     go_wp2
     go_ret
     exact⟨rfl,HM2,HB.out,by simp[World.setCell]⟩
   · have e:wrtS s n=(n, { s with cut:=s.cut-n }):=by unfold wrtS;rw[if_neg h1,if_neg h2]
     rw[e]
     have hw:IntKind.i64.wrap (s.cut-(n:Int))=s.cut-(n:Int):=IntWalk.i64_in _ (by omega)
     have HM2:=h.set4 (s.cut-(n:Int))
     have HB:Hid (But (fun k=>k=b) w (w.setCell ⟨b,4,none⟩ (.int .i64 (s.cut-(n:Int))))):=(But.refl (fun k=>k=b) w).setCell (Or.inl rfl) _
     clear h e
     go_enter Tryz.func89,Tryz.ntmps89
     go_wp2
     go_ret
     exact⟨rfl,HM2,HB.out,by simp[World.setCell]⟩
def getT (l:List Ob) (n:ByteArray):ByteArray×Nat:=match getO l n with
 | some o=>(o.2.1,0)
 | none=>(⟨#[]⟩,6)
set_option maxRecDepth 100000 in
set_option maxHeartbeats 2000000 in
theorem mget_any (b:Nat) (s:St) (n:ByteArray) (w:World) (h:MAt w b s) (hl:s.obs.length≤1000) :
   Calls Tryz.prog 51 #[.pointer (some ⟨b,0,none⟩),.string n] w fun e w'=>e= .returned (.tuple #[.string (getT s.obs n).1,.int .i64 (getT s.obs n).2])∧w'=w:=by
 have hf:=mfind_any b s n w h hl
 obtain⟨vL,hm,ho⟩:=h
 have c0:=hm.cells.1
 rcases findI_get s.obs n with⟨h1,h2⟩|⟨j,hj,h1,h2,-,-⟩
 · have e:getT s.obs n=(⟨#[]⟩,6):=by unfold getT;rw[h2]
   rw[e]
   rw[h1]at hf
   clear h1 h2 e hm ho
   go_enter Tryz.func51,Tryz.ntmps51
   go_wp2_with fail
   refine hf.mono ?_
   rintro e w1 ⟨rfl,rfl⟩
   go_wp2
   go_ret2
   exact⟨rfl,rfl⟩
 · have e:getT s.obs n=(s.obs[j].2.1,0):=by unfold getT;rw[h2]
   rw[e]
   dsimp only
   rw[h1]at hf
   obtain⟨q,cap,rfl⟩:=ho.form
   obtain⟨g,o,hq,hc⟩:=ho.cells (fun e=>by rw[e]at hj;simp at hj)
   subst hq
   have c1:=(hc j hj).2.1
   generalize s.obs[j].2.1=t at c1
   have hi:(j:Int)<(s.obs.length:Int):=by omega
   have hi0:(0:Int)≤(j:Int):=by omega
   have hn:¬(j:Int)<0:=by omega
   generalize s.obs.length=L at c0 hi
   clear h1 h2 e hm ho hc hj
   go_enter Tryz.func51,Tryz.ntmps51
   go_wp2_with fail
   refine hf.mono ?_
   rintro e w1 ⟨rfl,rfl⟩
   go_wp2
   go_ret2
   exact⟨rfl,rfl⟩
end Go.Proofs.YtdhkdjlgmbejnaaGreatDoor
