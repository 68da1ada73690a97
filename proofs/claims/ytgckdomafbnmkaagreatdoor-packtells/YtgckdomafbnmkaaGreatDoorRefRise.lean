/- By an AI agent. -/
import Derived.Test.YtgckdomafbnmkaaGreatDoorStorePure
import Derived.Test.YtgckdomafbnmkaaGreatDoorRefList5
set_option maxRecDepth 100000
set_option maxHeartbeats 16000000
namespace Go.Proofs.YtgckdomafbnmkaaGreatDoor
open Go.RowKit Go.Extern.Stop Go.Stop Go.Extern Go.Sort Go.Shelf Go.Lib
structure But (P:Nat->Prop) (w w':World):Prop where
 os:w'.os=w.os
 tape:w'.tape=w.tape
 output:w'.output=w.output
 size:w.heap.size<=w'.heap.size
 block:∀k,k<w.heap.size->¬P k->w'.heap[k]? =w.heap[k]?
theorem But.refl (P:Nat->Prop) (w:World):But P w w:=⟨rfl,rfl,rfl,Nat.le_refl _,fun _ _ _=>rfl⟩
theorem But.trans {P Q:Nat->Prop} {a b c:World} (h:But P a b) (k:But Q b c) (d:∀i,Q i->i<a.heap.size->P i):But P a c :=
 ⟨k.os.trans h.os,k.tape.trans h.tape,k.output.trans h.output,Nat.le_trans h.size k.size,fun i hi hp=>(k.block i (Nat.lt_of_lt_of_le hi h.size) (fun hQ=>hp (d i hQ hi))).trans (h.block i hi hp)⟩
theorem But.of_below {P:Nat->Prop} {w w':World} (h:BL w w'):But P w w':=⟨h.os,h.tape,h.output,h.size,fun k hk _=>h.block k hk⟩
theorem But.below {P:Nat->Prop} {w w':World} (h:But P w w') {B:Nat} (b:B<=w.heap.size) (c:∀k,P k->B<=k):Below B w w' :=
 ⟨h.os,h.tape,h.output,h.size,fun k hk=>h.block k (Nat.lt_of_lt_of_le hk b) (fun hP=>Nat.lt_irrefl _ (Nat.lt_of_lt_of_le hk (c k hP)))⟩
theorem But.mono {P Q:Nat->Prop} {w w':World} (h:But P w w') (b:∀k,P k->Q k):But Q w w':=⟨h.os,h.tape,h.output,h.size,fun k hk hQ=>h.block k hk (fun hP=>hQ (b k hP))⟩
theorem But.setCell {P:Nat->Prop} {a w:World} (h:But P a w) {b o:Nat} (c:P b\/a.heap.size<=b) (u:Value):But P a (w.setCell ⟨b,o,none⟩ u):=by
 refine⟨h.os,h.tape,h.output,?_,fun k hk hP=>?_⟩
 ·have:(w.setCell ⟨b,o,none⟩ u).heap.size=w.heap.size:=by simp[World.setCell]
  rw[this];exact h.size
 ·rw[heap_setCell_other _ _ _ _ (fun e=>by
   subst e;rcases c with c | c
   ·exact hP c
   ·omega)]
  exact h.block k hk hP
theorem But.keep {P:Nat->Prop} {w w':World} (h:But P w w') {b o:Nat} {v:Value} (d:¬P b) (c:w.cell? ⟨b,o,none⟩=some v):w'.cell? ⟨b,o,none⟩=some v:=by
 have e:=h.block b (zb8 c) d;rw[<-c];unfold World.cell?;rw[e]
def encO (f:Ob):List Value:= [.string f.1,.string f.2.1,.int .i64 f.2.2]
def ObCells (w:World) (b o:Nat) (fs:List Ob):Prop :=
 ∀j (h:j<fs.length),w.cell? ⟨b,o+j*3,none⟩=some (.string fs[j].1)/\w.cell? ⟨b,o+j*3+1,none⟩=some (.string fs[j].2.1)/\w.cell? ⟨b,o+j*3+2,none⟩=some (.int .i64 fs[j].2.2)
def ObsAt (w:World) (v:Value) (fs:List Ob):Prop :=
 (∃p c,v= .slice p 0 c/\(p=none->c=0)/\fs= [])\/∃b o cap,v= .slice (some ⟨b,o,none⟩) fs.length cap/\fs.length<=cap/\ObCells w b o fs
theorem ObCells.below {w w':World} {b o:Nat} {d:List Ob} (h:ObCells w b o d) (c:BL w w'):ObCells w' b o d :=
 fun j hj=>⟨za0 c (h j hj).1,za0 c (h j hj).2.1,za0 c (h j hj).2.2⟩
theorem ObsAt.below {w w':World} {v:Value} {d:List Ob} (h:ObsAt w v d) (j:BL w w'):ObsAt w' v d:=by
 rcases h with h | ⟨b,o,c,f,g,i⟩
 ·exact Or.inl h
 ·exact Or.inr ⟨b,o,c,f,g,i.below j⟩
theorem ObsAt.form {w:World} {v:Value} {d:List Ob} (h:ObsAt w v d):∃p c,v= .slice p d.length c:=by
 rcases h with⟨p,c,rfl,_,rfl⟩|⟨b,o,f,rfl,_⟩
 ·exact⟨_,_,rfl⟩
 ·exact⟨_,_,rfl⟩
theorem ObsAt.cells {w:World} {q:Option Addr} {n c:Nat} {d:List Ob} (h:ObsAt w (.slice q n c) d) (f:d≠ []):∃b o,q=some ⟨b,o,none⟩/\ObCells w b o d:=by
 rcases h with⟨_,_,_,_,e⟩|⟨b,o,i,e,_,g⟩
 ·exact absurd e f
 ·simp only[Value.slice.injEq]at e;exact⟨b,o,e.1,g⟩
theorem ObsAt.room {w:World} {q:Option Addr} {n c:Nat} {d:List Ob} (h:ObsAt w (.slice q n c) d):n=d.length/\(d≠ []->n<=c):=by
 rcases h with⟨p,i,e,_,rfl⟩|⟨b,o,g,e,f,j⟩
 ·simp only[Value.slice.injEq]at e;exact⟨e.2.1,fun h=>absurd rfl h⟩
 ·simp only[Value.slice.injEq]at e;obtain⟨_,rfl,rfl⟩:=e;exact⟨rfl,fun _=>f⟩
def flatO (fs:List Ob):List Value:=fs.flatMap encO
theorem zm1 (f:Ob):(encO f).length=3:=rfl
theorem zb6b (f:Ob):∀u∈encO f,u.oneCell'=true:=by
 intro u b;simp only[encO,List.mem_cons,List.not_mem_nil,or_false]at b;rcases b with rfl | rfl | rfl<;>rfl
theorem ze2:∀fs:List Ob,(flatO fs).length=fs.length*3
 | []=>rfl
 | f :: fs=>by
  have:=ze2 fs;simp only[flatO,List.flatMap_cons,List.length_append,List.length_cons]at *;rw[this,zm1];omega
theorem zj0 (d:List Ob):∀u∈flatO d,u.oneCell'=true:=by
 intro u b;simp only[flatO,List.mem_flatMap]at b;obtain⟨f,_,c⟩:=b;exact zb6b f u c
theorem zj1 (xs b:List Ob):flatO (xs++b)=flatO xs++flatO b:=by simp[flatO]
theorem zy6:∀(fs:List Ob) (j c:Nat) (h:j<fs.length),c<3->(flatO fs)[j*3+c]? =(encO fs[j])[c]?
 | [],j,_,h,_=>by simp at h
 | f :: fs,0,c,_,hc=>by
  simp only[flatO,List.flatMap_cons,Nat.zero_mul,Nat.zero_add,List.getElem_cons_zero];rw[List.getElem?_append_left (by rw[zm1];exact hc)]
 | f :: fs,j+1,c,h,hc=>by
  have b:j<fs.length:=by simp at h;omega
  have:=zy6 fs j c b hc;simp only[flatO,List.flatMap_cons,List.getElem_cons_succ]at *;rw[List.getElem?_append_right (by rw[zm1];omega),zm1,show (j+1)*3+c-3=j*3+c by omega];exact this
theorem zy7 {w:World} {b o:Nat} {d:List Ob} (h:ObCells w b o d):∀t u,(flatO d)[t]? =some u->w.cell? ⟨b,o+t,none⟩=some u:=by
 intro t u c;have j:t<(flatO d).length:=by
  rcases Nat.lt_or_ge t (flatO d).length with g | g
  ·exact g
  ·rw[List.getElem?_eq_none g]at c;cases c
 rw[ze2]at j;have i:t / 3<d.length:=by omega
 have e:t=t / 3*3+t % 3:=by omega
 rw[e,zy6 d (t / 3) (t % 3) i (by omega)]at c;obtain⟨k,l,m⟩:=h (t / 3) i;have f:t % 3=0\/t % 3=1\/t % 3=2:=by omega
 rcases f with f | f | f<;>rw [f]at c<;>simp only[encO,List.getElem?_cons_succ,List.getElem?_cons_zero,Option.some.injEq]at c
 ·rw[<-c,<-k];congr 2;omega
 ·rw[<-c,<-l];congr 2;omega
 ·rw[<-c,<-m];congr 2;omega
theorem zb6c {w:World} {b o:Nat} {d:List Ob} (h:∀t u,(flatO d)[t]? =some u->w.cell? ⟨b,o+t,none⟩=some u):ObCells w b o d:=fun j hj=>by
 have g:∀c (hc:c<3),w.cell? ⟨b,o+(j*3+c),none⟩=(encO d[j])[c]? :=fun c hc=>by
  have e:=zy6 d j c hj hc;have f:c<(encO d[j]).length:=by rw[zm1];exact hc
  rw[List.getElem?_eq_getElem f]at e ⊢;exact h _ _ e
 refine⟨?_,?_,?_⟩
 ·simpa [encO] using g 0 (by omega)
 ·simpa [encO,Nat.add_assoc] using g 1 (by omega)
 ·simpa [encO,Nat.add_assoc] using g 2 (by omega)
theorem zy8 {w:World} {base:Nat} {v:Value} {n:Nat} {b:List Ob} (h:w.ownsRow base 155 3 v n (flatO b)):ObsAt w v b/\n=b.length:=by
 obtain⟨k,h⟩:=h;have c:n=b.length:=by rw[ze2]at k;omega
 refine⟨?_,c⟩;subst c;rcases h with⟨l,c⟩|⟨g,i,p,rfl,_,m,j,_,_,o⟩
 ·exact Or.inl ⟨none,0,by rw[l],fun _=>rfl,List.length_eq_zero_iff.1 c⟩
 ·refine Or.inr ⟨g,0,i,rfl,j,zb6c fun t u hu=>?_⟩;have f:t<b.length*3:=by
   rw[<-ze2];rcases Nat.lt_or_ge t (flatO b).length with d | d
   ·exact d
   ·rw[List.getElem?_eq_none d]at hu;cases hu
  rw[<-o,List.getElem?_take,if_pos f]at hu;simp only[World.cell?,m,Nat.zero_add];simpa using hu
theorem Tryz.objInfo3:(Tryz.prog.info? 155).map (fun i=>(i.zero,i.size,i.bytes))=some (some (.agg #[.string ⟨#[]⟩,.string ⟨#[]⟩,.int .i64 0]),3,40):=by kernel_rfl
theorem Tryz.objInfo:∃i0:TypeInfo,Tryz.prog.info? 155=some i0/\i0.zero=some (.agg #[.string ⟨#[]⟩,.string ⟨#[]⟩,.int .i64 0])/\i0.size=3/\i0.bytes=40:=by
 obtain⟨i,b,h⟩:=Option.map_eq_some_iff.1 Tryz.objInfo3;simp only[Prod.mk.injEq]at h;exact⟨i,b,h.1,h.2.1,h.2.2⟩
theorem zb6d (v:Value) (xs:List Rw) (w:World) (h:RowsAt w v xs) (g:xs.length<=20000) :
  Calls Tryz.prog 50 #[v] w fun e w'=> ∃v',e= .returned v'/\RowsAt w' v' (sortR xs)/\BL w w'/\∀k,v'.ownBlock=some k->w.heap.size<=k:=by
 have i:=za1w v xs w h g;clear h
 go_enter Tryz.func50,Tryz.ntmps50
 go_wp2_with (first
  | (go_at_call 104;refine i.mono ?_;rintro e l ⟨d,rfl,c,m⟩;have j:=zb1b d xs w.heap.size w l m (Nat.le_refl _) c g;have b:∀k,d.ownBlock=some k->w.heap.size<=k:=(fun k hk=>(c.lt k hk).1);clear c)
  | (go_at_call 105;refine j.mono ?_;rintro e o ⟨rfl,n,f⟩))
 go_ret;exact⟨_,rfl,n,f,b⟩
theorem za5i (w:World):NewF w (.slice none 0 0):=fun k h=>by simp[Value.ownBlock]at h
def NewE (w:World) (e:Ending):Prop:= ∀v' ev,e= .returned (.tuple #[v',ev])->NewF w v'
theorem zy9 {w:World} {v b:Value} (h:NewF w v):NewE w (.returned (.tuple #[v,b])):=by
 intro d c e;cases e
 exact h
theorem NewF.up {w w':World} {v:Value} (h:NewF w' v) (b:w.heap.size<=w'.heap.size):NewF w v:=fun k hk=>Nat.le_trans b (h k hk)
theorem za5j {W f:World} {P:Nat->Prop} {b o:Nat} {u:Value} (g:But P W f) (i:¬P b) (h:W.cell? ⟨b,o,none⟩=some u):f.cell? ⟨b,o,none⟩=some u:=by
 have d:b<W.heap.size:=by
  rcases Nat.lt_or_ge b W.heap.size with c | c
  ·exact c
  ·simp[World.cell?,Array.getElem?_eq_none c]at h
 simp only[World.cell?]at h ⊢;rw[g.block b d i];exact h
end Go.Proofs.YtgckdomafbnmkaaGreatDoor
namespace Go.Proofs.YtgckdomafbnmkaaGreatDoor
open Go Go.Lib
abbrev Sn:=Int×Int×Int×Int×Int×ByteArray×List Fl
def kStart:List UInt8:= [115,116,97,114,116]
def kAppend:List UInt8:= [97,112,112,101,110,100]
def kDelete:List UInt8:= [100,101,108,101,116,101]
def kRewrite:List UInt8:= [114,101,119,114,105,116,101]
def opB (s:List UInt8):Bool:=decide (s=kStart) || decide (s=kAppend) || decide (s=kDelete) || decide (s=kRewrite)
def sbndB (s:Sn):Bool:=decide (1<=s.1) && decide (s.1<=1073741824) && decide (0<=s.2.1) && decide (s.2.1<s.1) && decide (0<=s.2.2.1) && decide (s.2.2.1<=1073741824) && decide (0<=s.2.2.2.1) && decide (s.2.2.2.1<=100000) && decide (0<=s.2.2.2.2.1) && decide (s.2.2.2.2.1<=1073741824)
theorem za5k {s:Sn} :sbndB s=true↔((1<=s.1/\s.1<=1073741824)/\(0<=s.2.1/\s.2.1<s.1))/\((0<=s.2.2.1/\s.2.2.1<=1073741824)/\(0<=s.2.2.2.1/\s.2.2.2.1<=100000))/\0<=s.2.2.2.2.1/\s.2.2.2.2.1<=1073741824:=by
 simp only[sbndB,Bool.and_eq_true,decide_eq_true_eq];constructor
 ·rintro⟨⟨⟨⟨⟨⟨⟨⟨⟨a,b⟩,c⟩,d⟩,e⟩,f⟩,g⟩,h⟩,i⟩,j⟩;exact⟨⟨⟨a,b⟩,c,d⟩,⟨⟨e,f⟩,g,h⟩,i,j⟩
 ·rintro⟨⟨⟨a,b⟩,c,d⟩,⟨⟨e,f⟩,g,h⟩,i,j⟩;exact⟨⟨⟨⟨⟨⟨⟨⟨⟨a,b⟩,c⟩,d⟩,e⟩,f⟩,g⟩,h⟩,i⟩,j⟩
def seqG (seq:Int):List Fl->Nat->Nat×Option Nat
 | [],_=>(0,none)
 | f :: r,i=>if seq<f.2.2.2.2.2 then (9,some i) else seqG seq r (i+1)
def snapE (s:Sn):Nat×Option Nat :=
 if sbndB s=false then (2,none) else if opB s.2.2.2.2.2.1.data.toList=false then (4,none) else
 if (listE s.2.2.2.2.2.2).1≠0 then listE s.2.2.2.2.2.2 else seqG s.2.2.1 s.2.2.2.2.2.2 0
theorem za5l (b:Int):∀(fs:List Fl) (i:Nat),seqG b fs i=(0,none)\/∃j,seqG b fs i=(9,some j)
 | [],_=>Or.inl rfl
 | f :: r,i=>by
  unfold seqG;split
  ·exact Or.inr ⟨i,rfl⟩
  ·exact za5l b r (i+1)
theorem za5m (s:Sn):(snapE s).1<=12:=by
 unfold snapE;split
 ·exact(by decide:(2:Nat)<=12)
 ·split
  ·exact(by decide:(4:Nat)<=12)
  ·split
   ·unfold listE;split
    ·exact(by decide:(8:Nat)<=12)
    ·exact zv5 _ _ _
   ·rcases za5l s.2.2.1 s.2.2.2.2.2.2 0 with e | ⟨j,e⟩
    ·rw[e];exact Nat.zero_le _
    ·rw[e];exact(by decide:(9:Nat)<=12)
def zeroS:Sn:=(0,0,0,0,0,bytesOf [], [])
end Go.Proofs.YtgckdomafbnmkaaGreatDoor
namespace Go.Proofs.YtgckdomafbnmkaaGreatDoor
open Go.RowKit Go.Extern.Stop Go.Stop Go.Extern Go.Sort Go.Shelf Go.Lib
def MC (W:World) (b:Nat) (vL:Value) (s:St):Prop:=W.heap[b]? =some (.cells #[vL,.string s.head,.int .i64 s.day,.bool s.off,.int .i64 s.cut] 133 (0,0))
def MAt (W:World) (b:Nat) (s:St):Prop:= ∃vL,MC W b vL s/\ObsAt W vL s.obs
theorem MC.lt {W:World} {b:Nat} {c:Value} {s:St} (h:MC W b c s):b<W.heap.size:=lt_of_block h
theorem MC.below {W c:World} {b:Nat} {d:Value} {s:St} (h:MC W b d s) (f:BL W c):MC c b d s:=(f.block b h.lt).trans h
theorem MC.but {P:Nat->Prop} {W c:World} {b:Nat} {d:Value} {s:St} (h:MC W b d s) (f:But P W c) (g:¬P b):MC c b d s:=(f.block b h.lt g).trans h
theorem MC.cells {W:World} {b:Nat} {c:Value} {s:St} (h:MC W b c s):W.cell? ⟨b,0,none⟩=some c/\W.cell? ⟨b,1,none⟩=some (.string s.head)/\W.cell? ⟨b,2,none⟩=some (.int .i64 s.day)/\W.cell? ⟨b,3,none⟩=some (.bool s.off)/\W.cell? ⟨b,4,none⟩=some (.int .i64 s.cut)/\∀o,W.frozen? ⟨b,o,none⟩=false:=by
 refine⟨?_,?_,?_,?_,?_,fun o=>frozen_of_row _ _ _ _ _ h⟩<;>rw [cell_of_row _ _ _ _ _ _ h]<;>rfl
theorem MAt.below {W c:World} {b:Nat} {s:St} (h:MAt W b s) (d:BL W c):MAt c b s:=by
 obtain⟨f,g,i⟩:=h;exact⟨f,g.below d,i.below d⟩
def OffB (v:Value) (l:List Ob) (R:Nat):Prop:= ∀b o c n,v= .slice (some ⟨b,o,none⟩) n c->l≠ []->b≠R
theorem zj2 {W:World} {R:Nat} {q:Option Addr} {n c:Nat} {s:St} {v:Value} {l:List Ob} (h:MC W R (.slice q n c) s) (r:ObsAt W v l):OffB v l R:=by
 intro b o t u i g e;subst e;rcases r with⟨_,_,_,_,e⟩|⟨y,j,z,m,_,p⟩
 ·exact g e
 ·rw[m]at i;injection i with e3;injection e3 with e3;injection e3 with e3 e4;subst e3;subst e4;obtain⟨d,f,_⟩:=p 0 (List.length_pos_iff.2 g);rw[cell_of_row _ _ _ _ _ _ h]at d f;simp only[Nat.zero_mul,Nat.add_zero]at d f
  match j,d,f with
  | 0,d,_=>simp at d
  | 1,_,f=>simp at f
  | 2,d,_=>simp at d
  | 3,d,_=>simp at d
  | 4,d,_=>simp at d
  | k+5,d,_=>simp at d
theorem ObsAt.set_off {W:World} {R:Nat} {v:Value} {l:List Ob} (h:ObsAt W v l) (t:OffB v l R) (k:Nat) (z:Value):ObsAt (W.setCell ⟨R,k,none⟩ z) v l:=by
 rcases h with h | ⟨b,o,c,g,r,s⟩
 ·exact Or.inl h
 ·by_cases d:l= []
  ·exact Or.inl ⟨some ⟨b,o,none⟩,c,by rw[g,d];rfl,fun e=>(nomatch e),d⟩
  ·have i:=t b o c _ g d;have f:∀p,(W.setCell ⟨R,k,none⟩ z).cell? ⟨b,p,none⟩=W.cell? ⟨b,p,none⟩:=fun p=>World.cell?_setCell_other _ _ _ _ (by intro e;injection e with e;exact i e.symm);refine Or.inr ⟨b,o,c,g,r,fun j hj=>?_⟩;obtain⟨m,n,q⟩:=s j hj;exact⟨(f _).trans m,(f _).trans n,(f _).trans q⟩
theorem MC.set0 {W:World} {b:Nat} {d:Value} {s:St} (h:MC W b d s) (c:Value) (l':List Ob):MC (W.setCell ⟨b,0,none⟩ c) b c { s with obs:=l' } :=by
 unfold MC at *;rw[heap_setCell_same _ _ _ _ _ _ h];rfl
theorem MC.set3 {W:World} {b:Nat} {c:Value} {s:St} (h:MC W b c s) (x:Bool):MC (W.setCell ⟨b,3,none⟩ (.bool x)) b c { s with off:=x } :=by
 unfold MC at *;rw[heap_setCell_same _ _ _ _ _ _ h];rfl
theorem MC.set4 {W:World} {b:Nat} {c:Value} {s:St} (h:MC W b c s) (d:Int):MC (W.setCell ⟨b,4,none⟩ (.int .i64 d)) b c { s with cut:=d } :=by
 unfold MC at *;rw[heap_setCell_same _ _ _ _ _ _ h];rfl
def MNew (W:World) (b:Nat) (w':World):Prop:= ∀vL,W.cell? ⟨b,0,none⟩=some vL->∃vL',w'.cell? ⟨b,0,none⟩=some vL'/\(vL'=vL\/∀a n c,vL'= .slice (some a) n c->W.heap.size<=a.block)
theorem MNew.refl (W:World) (b:Nat):MNew W b W:=fun vL h=>⟨vL,h,Or.inl rfl⟩
theorem MNew.fresh {W w':World} {b B:Nat} {e:TypeId} {f:Nat} {v:Value} {n:Nat} {xs:List Value} {j:World} (k:w'.cell? ⟨b,0,none⟩=some v) (l:j.ownsRow B e f v n xs) (m:W.heap.size<=B):MNew W b w':=fun _ _=>⟨v,k,Or.inr fun a n' c e=>by
 rcases l.2 with⟨d,_⟩|⟨p,i,o,d,g,_⟩
 ·rw[d]at e;simp at e
 ·rw[d]at e;simp only[Value.slice.injEq,Option.some.injEq]at e;rw[<-e.1];exact Nat.le_trans m g⟩
def MPost (W:World) (b:Nat) (s:St) (w':World):Prop:=MAt w' b s/\But (fun k=>k=b) W w'/\MNew W b w'
theorem zb6e (w:World):Calls Tryz.prog 31 #[] w fun e w'=> ∃b,e= .returned (.pointer (some ⟨b,0,none⟩))/\MAt w' b newS/\w'.cell? ⟨b,0,none⟩=some (.slice none 0 0)/\w.heap.size<=b/\BL w w':=by
 have c:BL w (w.alloc (.cells #[.slice none 0 0,.string ⟨#[]⟩,.int .i64 0,.bool false,.int .i64 (-1)] 133)):=alB _ _;have d:Hid (MAt (w.alloc (.cells #[.slice none 0 0,.string ⟨#[]⟩,.int .i64 0,.bool false,.int .i64 (-1)] 133)) w.heap.size newS):=⟨.slice none 0 0,heap_alloc_new _ _,Or.inl ⟨none,0,rfl,fun _=>rfl,rfl⟩⟩
 go_enter Tryz.func31,Tryz.ntmps31
 go_wp2;go_ret;exact⟨_,rfl,d.out,by rw[cell_of_row _ _ _ _ _ _ (heap_alloc_new _ _)];rfl,Nat.le_refl _,c⟩
def findI (l:List Ob) (n:ByteArray):Int:=match l.findIdx? (fun o=>decide (o.1=n)) with
 | some i=>i
 | none=> -1
theorem za5n {l:List Ob} {n:ByteArray} {j:Nat} (b:j<l.length) (h:∀i (h:i<l.length),i<j->l[i].1≠n) (e:l[j].1=n):findI l n=j/\getO l n=some l[j]:=by
 have c:l.findIdx? (fun o=>decide (o.1=n))=some j:=by
  rw[List.findIdx?_eq_some_iff_getElem];exact⟨b,by simpa using e,fun i hi=>by simpa using h i (by omega) hi⟩
 refine⟨by unfold findI;rw[c],?_⟩;unfold getO;rw[List.find?_eq_some_iff_getElem];exact⟨by simpa using e,j,b,rfl,fun i hi=>by simpa using h i (by omega) hi⟩
theorem zb6f {l:List Ob} {n:ByteArray} (h:∀i (h:i<l.length),l[i].1≠n):findI l n= -1/\getO l n=none:=by
 have d:l.findIdx? (fun o=>decide (o.1=n))=none:=by
  rw[List.findIdx?_eq_none_iff];intro o c;obtain⟨i,b,rfl⟩:=List.mem_iff_getElem.1 c;simpa using h i b
 refine⟨by unfold findI;rw[d],zh3.2 fun o c=>?_⟩;obtain⟨i,b,rfl⟩:=List.mem_iff_getElem.1 c;exact h i b
theorem za5o (l:List Ob) (n:ByteArray):(findI l n= -1/\getO l n=none)\/∃j,∃h:j<l.length,findI l n=j/\getO l n=some l[j]/\l[j].1=n/\∀i (h:i<l.length),i<j->l[i].1≠n:=by
 unfold findI
 cases e:l.findIdx? (fun o=>decide (o.1=n)) with
 | none =>
  rw[List.findIdx?_eq_none_iff]at e;exact Or.inl ⟨rfl,zh3.2 fun o ho=>by simpa using e o ho⟩
 | some j =>
  rw[List.findIdx?_eq_some_iff_getElem]at e;obtain⟨d,f,g⟩:=e;have b:∀i (h:i<l.length),i<j->l[i].1≠n:=fun i hi hij=>by simpa using g i hij
  have c:l[j].1=n:=by simpa using f
  exact Or.inr ⟨j,d,rfl,(za5n d b c).2,c,b⟩
theorem zb6g {a b:ByteArray} (h:a=b):(a.toList == b.toList)=true:=by subst h;simp
theorem zb6h {a b:ByteArray} (h:a≠b):(a.toList == b.toList)=false:=by
 rw[beq_eq_false_iff_ne];intro e;apply h;rw[ByteArray.toList_eq,ByteArray.toList_eq]at e;exact zl8 e
theorem zb6i (b:Nat) (F:Value) (s:St) (n:ByteArray) (w:World) (h:MC w b F s) (v:ObsAt w F s.obs) (K:s.obs.length<=1000) :
  Calls Tryz.prog 86 #[.pointer (some ⟨b,0,none⟩),.string n] w fun e w'=>e= .returned (.int .i64 (findI s.obs n))/\w'=w:=by
 obtain⟨q,D,rfl⟩:=v.form;have G:Hid (ObsAt w (.slice q s.obs.length D) s.obs):=v;have H:=h.cells.1;obtain⟨L,t⟩:∃L,s.obs.length=L:=⟨_,rfl⟩;have y:Hid (s.obs.length=L):=t;rw[t]at K H;generalize E:findI s.obs n=R;have z:Hid (findI s.obs n=R):=E;clear t v E h
 go_enter Tryz.func86,Tryz.ntmps86
 go_wp2
 go_loop [5] (fun k=> ∃m:Nat,m<=L/\k= .int .i64 m/\∀i (h:i<s.obs.length),i<m->s.obs[i].1≠n) (fun k=>L-(intOf k).toNat)
 case atStart=>exact ⟨0,by omega,rfl,fun i h h'=>absurd h' (Nat.not_lt_zero _)⟩
 case round =>
  obtain⟨m,N,rfl,p⟩:=hrel;have f:Hid (∀i (h:i<s.obs.length),i<m->s.obs[i].1≠n):=p;clear p;by_cases A:m<L
  ·have c:m<s.obs.length:=by rw[y.out];exact A
   obtain⟨g,o,I,u⟩:=G.out.cells (fun e=>by rw[e]at c;simp at c);subst I;have B:=(u m c).1;have j:(m:Int)<(L:Int):=by omega
   have M:(0:Int)<=(m:Int):=by omega
   by_cases d:s.obs[m].1=n
   ·have l:Hid (R=(m:Int)):=by show _=_;rw[<-z.out];exact(za5n c f.out d).1
    have r:=zb6g d;generalize s.obs[m].1=J at B r;clear u d c;go_wp2;go_ret;rw[l.out];exact⟨rfl,rfl⟩
   ·have C:Hid (∀i (h:i<s.obs.length),i<m+1->s.obs[i].1≠n):=fun i j him=>by
     by_cases e:i=m
     ·subst e;exact d
     ·exact f.out i j (by omega)
    have r:=zb6h d;generalize s.obs[m].1=J at B r;clear u d c;go_wp2;go_round
    case rel=>exact ⟨m+1,by omega,by go_num,C.out⟩
    case measure=>simp [intOf];omega
  ·obtain rfl:m=L:=by omega
   have l:Hid (R= -1):=by show _=_;rw[<-z.out];exact(zb6f fun i j=>f.out i j (by rw[<-y.out];exact j)).1
   go_wp2;go_ret;rw[l.out];exact⟨rfl,rfl⟩
theorem za5p (b:Nat) (s:St) (n:ByteArray) (w:World) (h:MAt w b s) (g:s.obs.length<=1000) :
  Calls Tryz.prog 86 #[.pointer (some ⟨b,0,none⟩),.string n] w fun e w'=>e= .returned (.int .i64 (findI s.obs n))/\w'=w:=by
 obtain⟨c,d,f⟩:=h;exact zb6i b c s n w d f g
theorem za5q (c:UInt8):signB c=((decide (97<=(c.toNat:Int)) && decide ((c.toNat:Int)<=122)) || (decide (48<=(c.toNat:Int)) && decide ((c.toNat:Int)<=57)) || decide ((c.toNat:Int)=47)):=by
 unfold signB;have b:decide (97<=c.toNat)=decide (97<=(c.toNat:Int)):=by congr 1;exact propext (by omega)
 have d:decide (c.toNat<=122)=decide ((c.toNat:Int)<=122):=by congr 1;exact propext (by omega)
 have f:decide (48<=c.toNat)=decide (48<=(c.toNat:Int)):=by congr 1;exact propext (by omega)
 have g:decide (c.toNat<=57)=decide ((c.toNat:Int)<=57):=by congr 1;exact propext (by omega)
 have i:decide (c.toNat=47)=decide ((c.toNat:Int)=47):=by congr 1;exact propext (by omega)
 rw[b,d,f,g,i]
theorem zb6j (s:ByteArray) (w:World) (H:s.size<=maxLen) :
  Calls Tryz.prog 85 #[.string s] w fun e w'=>e= .returned (.bool (objB s.data.toList))/\w'=w:=by
 unfold maxLen at H;have v:=za3 s;generalize D:objB s.data.toList=r;have t:Hid (objB s.data.toList=r):=D;have p:Hid (s.data.toList.length=s.size):=v;clear D v
 go_enter Tryz.func85,Tryz.ntmps85
 go_wp2
 go_loop [3] (fun k=> ∃n:Nat,n<=s.size/\(∀j (h:j<s.size),j<n->signB s[j]=true)/\k= .int .i64 n) (fun k=>s.size-(intOf k).toNat)
 case atStart=>exact ⟨0,by omega,fun j h h'=>absurd h' (Nat.not_lt_zero _),rfl⟩
 case round =>
  obtain⟨n,J,C,rfl⟩:=hrel;have z:Hid (∀j (h:j<s.size),j<n->signB s[j]=true):=C;clear C;by_cases A:n<s.size
  ·have I:(n:Int)<(s.size:Int):=by omega
   have f:Hid (signB s[n]=false->r=false):=fun hv=>by
    rw[<-t.out];unfold objB;simp only[Bool.and_eq_false_iff];refine Or.inl (Or.inl ?_);rw[List.all_eq_false];exact⟨s[n],List.mem_of_getElem? (zc4 s n A),by rw[hv];simp⟩
   have b:Hid (signB s[n]=true->∀j (h:j<s.size),j<n+1->signB s[j]=true):=fun hv j l hjn=>by
    by_cases e:j=n
    ·subst e;exact hv
    ·exact z.out j l (by omega)
   have d:=za5q s[n];generalize signB s[n]=o at d f b;by_cases i:97<=(s[n].toNat:Int)
   ·have y:(48:Int)<=(s[n].toNat:Int):=by omega
    have u:¬(s[n].toNat:Int)<=57:=by omega
    have m:¬(s[n].toNat:Int)=47:=by omega
    by_cases q:(s[n].toNat:Int)<=122
    ·obtain rfl:o=true:=by rw[d];simp[i,q]
     have G:Hid (∀j (h:j<s.size),j<n+1->signB s[j]=true):=b.out rfl;clear d f b;go_wp2;go_round
     case rel=>exact ⟨n+1,by omega,G.out,by go_num⟩
     case measure=>simp [intOf];omega
    ·obtain rfl:o=false:=by rw[d];simp[q,u,m]
     obtain rfl:=f.out rfl;clear d f b;go_wp2;go_ret;exact⟨rfl,rfl⟩
   ·by_cases y:48<=(s[n].toNat:Int)
    ·have m:¬(s[n].toNat:Int)=47:=by omega
     by_cases u:(s[n].toNat:Int)<=57
     ·obtain rfl:o=true:=by rw[d];simp[y,u]
      have G:Hid (∀j (h:j<s.size),j<n+1->signB s[j]=true):=b.out rfl;clear d f b;go_wp2;go_round
      case rel=>exact ⟨n+1,by omega,G.out,by go_num⟩
      case measure=>simp [intOf];omega
     ·obtain rfl:o=false:=by rw[d];simp[i,u,m]
      obtain rfl:=f.out rfl;clear d f b;go_wp2;go_ret;exact⟨rfl,rfl⟩
    ·by_cases m:(s[n].toNat:Int)=47
     ·obtain rfl:o=true:=by rw[d];simp[m]
      have G:Hid (∀j (h:j<s.size),j<n+1->signB s[j]=true):=b.out rfl;clear d f b;go_wp2;go_round
      case rel=>exact ⟨n+1,by omega,G.out,by go_num⟩
      case measure=>simp [intOf];omega
     ·obtain rfl:o=false:=by rw[d];simp[i,y,m]
      obtain rfl:=f.out rfl;clear d f b;go_wp2;go_ret;exact⟨rfl,rfl⟩
  ·obtain rfl:n=s.size:=by omega
   have g:s.data.toList.all signB=true:=by
    rw[List.all_eq_true];intro c F;obtain⟨j,l,rfl⟩:=List.mem_iff_getElem.1 F;rw[p.out]at l;have i:=zc4 s j l;rw[List.getElem?_eq_getElem (by rw[p.out];exact l)]at i;rw[Option.some.inj i];exact z.out j l l
   by_cases i:1<=s.size
   ·by_cases q:s.size<=16
    ·obtain rfl:r=true:=by rw[<-t.out];unfold objB;rw[g,p.out];simp[i,q]
     have B:(1:Int)<=(s.size:Int):=by omega
     have E:(s.size:Int)<=16:=by omega
     clear g;go_wp2;go_ret;exact⟨rfl,rfl⟩
    ·obtain rfl:r=false:=by rw[<-t.out];unfold objB;rw[g,p.out];simp[q]
     have B:(1:Int)<=(s.size:Int):=by omega
     have E:¬(s.size:Int)<=16:=by omega
     clear g;go_wp2;go_ret;exact⟨rfl,rfl⟩
   ·obtain rfl:r=false:=by rw[<-t.out];unfold objB;rw[g,p.out];simp[i]
    have B:¬(1:Int)<=(s.size:Int):=by omega
    clear g;go_wp2;go_ret;exact⟨rfl,rfl⟩
theorem zz0 (b:Nat) (g:Value) (s:St) (n:Nat) (w:World) (h:MC w b g s) (y:n<=20000) (z: -1<=s.cut/\s.cut<=9223372036854775807) :
  Calls Tryz.prog 87 #[.pointer (some ⟨b,0,none⟩),.int .i64 n] w fun e w'=>e= .returned (.int .i64 (wrtS s n).1)/\MC w' b g (wrtS s n).2/\But (fun k=>k=b) w w'/\w'.heap.size=w.heap.size:=by
 have j:Hid (MC w b g s):=h;obtain⟨p,q,r,t,u,v⟩:=h.cells;by_cases d:s.cut<0
 ·have e:wrtS s n=(n,s):=by unfold wrtS;rw[if_pos d]
  rw[e];clear h e
  go_enter Tryz.func87,Tryz.ntmps87
  go_wp2;go_ret;exact⟨rfl,j.out,But.refl _ _,rfl⟩
 ·by_cases i:s.cut<(n:Int)
  ·have e:wrtS s n=(s.cut.toNat, { s with off:=true }):=by unfold wrtS;rw[if_neg d,if_pos i]
   rw[e];have c:=h.set3 true;have l:=c.cells.2.2.2.2.1;have m:Hid ((s.cut.toNat:Int)=s.cut):=by show _=_;omega
   have f:Hid (But (fun k=>k=b) w (w.setCell ⟨b,3,none⟩ (.bool true))):=(But.refl (fun k=>k=b) w).setCell (Or.inl rfl) _;dsimp only at l ⊢;rw[m.out];clear h e
   go_enter Tryz.func87,Tryz.ntmps87
   go_wp2;go_ret;exact⟨rfl,c,f.out,by simp[World.setCell]⟩
  ·have e:wrtS s n=(n, { s with cut:=s.cut-n }):=by unfold wrtS;rw[if_neg d,if_neg i]
   rw[e];have o:IntKind.i64.wrap (s.cut-(n:Int))=s.cut-(n:Int):=IntWalk.i64_in _ (by omega);have c:=h.set4 (s.cut-(n:Int));have f:Hid (But (fun k=>k=b) w (w.setCell ⟨b,4,none⟩ (.int .i64 (s.cut-(n:Int))))):=(But.refl (fun k=>k=b) w).setCell (Or.inl rfl) _;clear h e
   go_enter Tryz.func87,Tryz.ntmps87
   go_wp2;go_ret;exact⟨rfl,c,f.out,by simp[World.setCell]⟩
def getT (l:List Ob) (n:ByteArray):ByteArray×Nat:=match getO l n with
 | some o=>(o.2.1,0)
 | none=>(⟨#[]⟩,6)
theorem zb6k (b:Nat) (s:St) (n:ByteArray) (w:World) (h:MAt w b s) (z:s.obs.length<=1000) :
  Calls Tryz.prog 117 #[.pointer (some ⟨b,0,none⟩),.string n] w fun e w'=>e= .returned (.tuple #[.string (getT s.obs n).1,.int .i64 (getT s.obs n).2])/\w'=w:=by
 have f:=za5p b s n w h z;obtain⟨D,l,i⟩:=h;have p:=l.cells.1;rcases za5o s.obs n with⟨c,d⟩|⟨j,k,c,d,-,-⟩
 ·have e:getT s.obs n=(⟨#[]⟩,6):=by unfold getT;rw[d]
  rw[e];rw[c]at f;clear c d e l i
  go_enter Tryz.func117,Tryz.ntmps117
  go_wp2_with fail
  refine f.mono ?_;rintro e y ⟨rfl,rfl⟩;go_wp2;go_ret2;exact⟨rfl,rfl⟩
 ·have e:getT s.obs n=(s.obs[j].2.1,0):=by unfold getT;rw[d]
  rw[e];dsimp only;rw[c]at f;obtain⟨q,B,rfl⟩:=i.form;obtain⟨g,o,v,m⟩:=i.cells (fun e=>by rw[e]at k;simp at k);subst v;have r:=(m j k).2.1;generalize s.obs[j].2.1=t at r;have u:(j:Int)<(s.obs.length:Int):=by omega
  have A:(0:Int)<=(j:Int):=by omega
  have C:¬(j:Int)<0:=by omega
  generalize s.obs.length=L at p u;clear c d e l i m k
  go_enter Tryz.func117,Tryz.ntmps117
  go_wp2_with fail
  refine f.mono ?_;rintro e y ⟨rfl,rfl⟩;go_wp2;go_ret2;exact⟨rfl,rfl⟩
def SplitT {β:Type} (k:FK β) (w:World) (s:List UInt8) (e:Ending) (w':World):Prop :=
 BL w w'/\((∃c:Nat,c≠0/\e= .returned (.tuple #[.slice none 0 0,.slice none 0 0,.agg #[.int .i64 c,.int .i64 (-1)]])/\readG k s=([],c,none)) \/
  (∃(n lo hi sum:Int) (b:List UInt8) (v tv:Value) (ts:List ByteArray),e= .returned (.tuple #[v,tv,.agg #[.int .i64 0,.int .i64 (-1)]])/\KeysAt w' v [n,lo,hi,sum]/\TextsAt w' tv ts/\ts.map (·.data.toList)=pieces 10 b/\b.length<=20000/\readG k s=endG k n lo hi (rowsG k (pieces 10 b) 0 [])))
theorem zb6l (s:ByteArray) (w:World) (b:s.size<=maxLen):Calls Tryz.prog 122 #[.string s] w fun e w'=>e= .returned (.int .i64 (sumL s.data.toList:Nat))/\BL w w' :=
 (za4i s w b).mono fun e w' ⟨h1,h2⟩=>⟨h1,by rw[h2];exact Below.refl _ _⟩
theorem KeysAt.setLow {W:World} {v:Value} {d:List Int} {F o:Nat} {x:Value} (h:KeysAt W v d) (f:∀b o' c n,v= .slice (some ⟨b,o',none⟩) n c->b≠F):KeysAt (W.setCell ⟨F,o,none⟩ x) v d:=by
 rcases h with h | ⟨b,o',c,rfl,h⟩
 ·exact .inl h
 ·exact .inr ⟨b,o',c,rfl,fun j hj=>by
   rw[World.cell?_setCell_other _ _ _ _ (by have:=f b o' c _ rfl;simp)];exact h j hj⟩
theorem TextsAt.setLow {W:World} {v:Value} {d:List ByteArray} {F o:Nat} {x:Value} (h:TextsAt W v d) (g:∀b o' c n,v= .slice (some ⟨b,o',none⟩) n c->b≠F):TextsAt (W.setCell ⟨F,o,none⟩ x) v d:=by
 obtain⟨b,c,rfl,f,h⟩:=h;exact⟨b,c,rfl,f,fun j hj=>by
  rw[World.cell?_setCell_other _ _ _ _ (by have:=g b 0 c _ rfl;simp)];exact h j hj⟩
theorem FC.ne_keys {W:World} {F:Nat} {x y:Int} {v:Value} {g:List Int} (h:FC W F x y) (l:KeysAt W v g) (i:4<=g.length):∀b o' c n,v= .slice (some ⟨b,o',none⟩) n c->b≠F:=by
 intro b o' c n d e;subst e;rcases l with⟨_,_,f,j⟩|⟨m,o,p,f,k⟩
 ·rw[j]at i;simp at i
 ·rw[f]at d;injection d with e3;injection e3 with e3;injection e3 with e3 e4;subst e3;have:=k 3 (by omega);rw[cell_of_row _ _ _ _ _ _ h,Array.getElem?_eq_none (by simp)]at this;cases this
theorem FC.ne_texts {W:World} {F:Nat} {x y:Int} {v:Value} {f:List ByteArray} (h:FC W F x y) (k:TextsAt W v f) (g:f≠ []):∀b o' c n,v= .slice (some ⟨b,o',none⟩) n c->b≠F:=by
 intro b o' c n d e;subst e;obtain⟨l,m,i,_,j⟩:=k;rw[i]at d;injection d with e3;injection e3 with e3;injection e3 with e3 e4;subst e3;have:=j 0 (List.length_pos_iff.2 g);rw[cell_of_row _ _ _ _ _ _ h]at this;simp at this
theorem za5r {β:Type} (k:FK β) (kw s:ByteArray) (be:kw.data.toList=k.word) (w:World) (hs:s.size<=maxLen) :
  Calls Tryz.prog 125 #[.string kw,.string s] w fun e w'=>SplitT k w s.data.toList e w':=by
 unfold maxLen at hs;have ai:=za3 s;have J:=FC.new w;have ab:BL w (w.alloc (.cells #[.int .i64 0,.int .i64 0] 53)):=alB _ _;by_cases b3:20000<s.size
 ·have p:Hid (readG k s.data.toList=([],2,none)):=by show _=_;unfold readG;rw[if_pos (by omega)]
  have bk:(20000:Int)<(s.size:Int):=by omega
  go_enter Tryz.func125,Tryz.ntmps125
  have g:=fun W=>za9 2 W
  go_wp2_with fail
  refine(g _).mono ?_;rintro e F ⟨rfl,i⟩;clear g;have f:=J.below i;have m:BL w F:=trB ab i;have q:=f.c0;have r:=f.c1;have jz:=f.fz;go_wp2;refine bodyPost_ret (v:=.tuple #[.slice none 0 0,.slice none 0 0,.agg #[.int .i64 2,.int .i64 (-1)]]) (by simp[results,Tryz.results125,go_sem,q,r]) rfl ⟨(m.setCell (by simp) _).setCell (by simp) _,Or.inl ⟨2,by decide,rfl,p.out⟩⟩
 have bk:¬(20000:Int)<(s.size:Int):=by omega
 rcases zg8 10 s.data.toList with⟨bc,hcut⟩|⟨a,b,I,bd,hcut⟩
 ·have p:Hid (readG k s.data.toList=([],1,none)):=by
   show _=_;unfold readG;rw[if_neg (by omega),hcut];rfl
  have bl:Hid (∀c∈s.data.toList,c≠10):=bc;clear bc hcut
  go_enter Tryz.func125,Tryz.ntmps125
  go_wp2
  go_loop [7] (fun k=> ∃n:Nat,n<=s.size/\k= .int .i64 n) (fun k=>s.size-(intOf k).toNat)
  case atStart=>exact ⟨0,Nat.zero_le _,rfl⟩
  case round =>
   obtain⟨n,hn,rfl⟩:=hrel;by_cases ac:n<s.size
   ·have hi:(n:Int)<(s.size:Int):=by omega
    have bm:(0:Int)<=(n:Int):=by omega
    have bn:¬(s[n].toNat:Int)=10:=fun e=>bl.out s[n] (List.mem_iff_getElem?.2 ⟨n,zc4 s n ac⟩) (UInt8.toNat_inj.1 (by have ad:(10:UInt8).toNat=10:=rfl;omega));go_wp2;go_round
    case rel=>exact ⟨n+1,by omega,by go_num⟩
    case measure=>simp [intOf];omega
   ·obtain rfl:n=s.size:=by omega
    have g:=fun W=>za9 1 W
    go_wp2_with fail
    refine(g _).mono ?_;rintro e F ⟨rfl,i⟩;clear g;have f:=J.below i;have m:BL w F:=trB ab i;have q:=f.c0;have r:=f.c1;have jz:=f.fz;go_wp2;refine bodyPost_ret (v:=.tuple #[.slice none 0 0,.slice none 0 0,.agg #[.int .i64 1,.int .i64 (-1)]]) (by simp[results,Tryz.results125,go_sem,q,r]) rfl ⟨(m.setCell (by simp) _).setCell (by simp) _,Or.inl ⟨1,by decide,rfl,p.out⟩⟩
 have aj:s.size=a.length+1+b.length:=by rw[<-ai,I];simp;omega
 have ak:∀(h:a.length<s.size),s[a.length].toNat=10:=fun h=>by
  have h1:=zc4 s a.length h;rw[I,List.getElem?_append_right (Nat.le_refl _),Nat.sub_self]at h1;have h2:s[a.length]=10:=(Option.some.inj h1).symm;rw[h2];rfl
 have a2:Hid (∀n (h:n<a.length) (h':n<s.size),¬(s[n].toNat:Int)=10):=fun n h h' e=>by
  have h1:=zc4 s n h';rw[I,List.getElem?_append_left h]at h1;exact bd s[n] (List.mem_iff_getElem?.2 ⟨n,h1⟩) (UInt8.toNat_inj.1 (by have ad:(10:UInt8).toNat=10:=rfl;omega))
 have al:(s.extract 0 a.length).data.toList=a:=by
  rw[extract_data,I];simp
 have ae:(s.extract (a.length+1) s.size).data.toList=b:=by
  rw[extract_to_end,I,List.drop_append,List.drop_eq_nil_of_le (by omega)];simp
 have am:readG k s.data.toList=match headO k.word a with
   | none=>([],1,none)
   | some (n,lo,hi,sum)=>if sum≠sumL b then ([],10,none) else endG k n lo hi (rowsG k (pieces 10 b) 0 []):=by
  unfold readG;rw[if_neg (by omega),hcut];rfl
 have E:Hid (readG k s.data.toList=match headO k.word a with
   | none=>([],1,none)
   | some (n,lo,hi,sum)=>if sum≠sumL b then ([],10,none) else endG k n lo hi (rowsG k (pieces 10 b) 0 [])):=am
 have K:=fun W=>za4c (s.extract 0 a.length) W (by rw[<-za3,al];omega);have o:=fun W=>zb4v 10 (s.extract (a.length+1) s.size) W (by rw[<-za3,ae];omega);have B:=fun W=>zb6l (s.extract (a.length+1) s.size) W (by rw[<-za3,ae];unfold maxLen;omega);rw[al]at K;rw[ae]at o B;have ad:((10:UInt8).toNat:Int)=10:=rfl;rw[ad]at o;clear am hcut I bd al ae ai ad;obtain⟨A,hA⟩:∃A,a.length=A:=⟨_,rfl⟩;have HA:Hid (a.length=A):=hA;rw[hA]at aj ak K o B a2;clear hA;have an:b.length<=20000:=by omega
 have bf:Hid (b.length<=20000):=an;have b5:A<s.size:=by omega
 clear an aj
 go_enter Tryz.func125,Tryz.ntmps125
 go_wp2
 go_loop [7] (fun k=> ∃n:Nat,n<=A/\k= .int .i64 n) (fun k=>s.size-(intOf k).toNat)
 case atStart=>exact ⟨0,Nat.zero_le _,rfl⟩
 case round =>
  obtain⟨n,hn,rfl⟩:=hrel;have ac:n<s.size:=by omega
  have hi:(n:Int)<(s.size:Int):=by omega
  have bm:(0:Int)<=(n:Int):=by omega
  by_cases bo:n<A
  ·have bn:=a2.out n bo ac;clear K o B;go_wp2;go_round
   case rel=>exact ⟨n+1,by omega,by go_num⟩
   case measure=>simp [intOf];omega
  obtain rfl:n=A:=by omega
  have b6:(s[n].toNat:Int)=10:=by have:=ak ac;omega
  have b7:¬(n:Int)=(s.size:Int):=by omega
  clear ak;have Q:=K (w.alloc (.cells #[.int .i64 0,.int .i64 0] 53));clear K;generalize w.alloc (.cells #[.int .i64 0,.int .i64 0] 53)=w1 at J ab Q ⊢
  go_wp2_with fail
  refine Q.mono ?_;rintro e w2 ⟨v2,ts,rfl,bv,H,ba⟩;clear Q;have a3:BL w w2:=trB ab ba;have ao:=J.below ba;clear J;have af:ts.length=(words a).length:=by have:=congrArg List.length H;simpa using this
  obtain⟨bt,ax,rfl,ay,D⟩:=bv;by_cases h5:ts.length=5
  case neg =>
   have p:Hid (readG k s.data.toList=([],1,none)):=by
    show _=_;have hh:headO k.word a=none:=by
     unfold headO;split
     ·rename_i e;rw[e]at af;exact absurd af h5
     ·rfl
    rw[E.out,hh]
   have bp:¬(ts.length:Int)=5:=by omega
   clear D H af o B;generalize ts.length=TL at h5 bp ay ⊢;have g:=fun W=>za9 1 W
   go_wp2_with fail
   refine(g _).mono ?_;rintro e F ⟨rfl,i⟩;clear g;have f:=ao.below i;have m:BL w F:=trB a3 i;have q:=f.c0;have r:=f.c1;have jz:=f.fz;go_wp2;refine bodyPost_ret (v:=.tuple #[.slice none 0 0,.slice none 0 0,.agg #[.int .i64 1,.int .i64 (-1)]]) (by simp[results,Tryz.results125,go_sem,q,r]) rfl ⟨(m.setCell (by simp) _).setCell (by simp) _,Or.inl ⟨1,by decide,rfl,p.out⟩⟩
  obtain⟨L,X,Y,Z,td,rfl⟩:∃L X Y Z td,ts= [L,X,Y,Z,td]:=by
   match ts,h5 with
   | [L,X,Y,Z,td],_=>exact ⟨L,X,Y,Z,td,rfl⟩
  have ap:=D 0 (by simp);simp only[List.getElem_cons_zero]at ap;have R:=zb4x bt 1 (ax-1) [X,Y,Z,td] w2 (fun j l=>by
   have:=D (1+j) (by simp at l ⊢;omega);rw[this];congr 1
   match j,l with
   | 0,_=>rfl
   | 1,_=>rfl
   | 2,_=>rfl
   | 3,_=>rfl) (fun t ht=>by
    have bq:=zl0 a t.data.toList (by rw[<-H];simp only[List.map_cons,List.map_nil,List.mem_cons,List.not_mem_nil,or_false]at ht ⊢;rcases ht with rfl | rfl | rfl | rfl<;>simp)
    rw[za3]at bq;have:=HA.out;unfold maxLen;omega) (by simp)
  simp only[List.length_cons,List.length_nil,Nat.zero_add,Nat.reduceAdd]at R ay ⊢;have b1:1<=ax:=by omega
  clear D h5 af;simp only[List.map_cons,List.map_nil]at H;have C:Hid (headO k.word a=if L.data.toList=k.word then (match numO X.data.toList,numO Y.data.toList,numO Z.data.toList,numO td.data.toList with
   | some a,some b,some c,some d=>some (a,b,c,d)
   | _,_,_,_=>none) else none):=by
   show _=_;unfold headO;rw[<-H];rfl
  clear H
  go_wp2_with fail
  refine R.mono ?_;rintro e w3 ⟨bw,az⟩;clear R;have aq:BL w w3:=trB a3 az;have ar:=ao.below az;have b8:=za0 az ap;clear ao ap;rcases bw with⟨zs,v3,a1,O,rfl,ah⟩|⟨j,t,l,P,rfl⟩
  case inr =>
   have p:Hid (readG k s.data.toList=([],1,none)):=by
    show _=_;have hh:headO k.word a=none:=by
     rw[C.out];split
     ·match j,l with
      | 0,l=>simp at l;subst l;rw[P]
      | 1,l=>simp at l;subst l;rw[P];split<;>simp_all
      | 2,l=>simp at l;subst l;rw[P];split<;>simp_all
      | 3,l=>simp at l;subst l;rw[P];split<;>simp_all
      | j+4,l=>simp at l
     ·rfl
    rw[E.out,hh]
   clear l P o B;have g:=fun W=>za9 1 W
   go_wp2_with fail
   refine(g _).mono ?_;rintro e F ⟨rfl,i⟩;clear g;have f:=ar.below i;have m:BL w F:=trB aq i;have q:=f.c0;have r:=f.c1;have jz:=f.fz;go_wp2;refine bodyPost_ret (v:=.tuple #[.slice none 0 0,.slice none 0 0,.agg #[.int .i64 1,.int .i64 (-1)]]) (by simp[results,Tryz.results125,go_sem,q,r]) rfl ⟨(m.setCell (by simp) _).setCell (by simp) _,Or.inl ⟨1,by decide,rfl,p.out⟩⟩
  obtain⟨x,y,z,u,rfl⟩:∃x y z u,zs= [x,y,z,u]:=by
   simp only[List.length_cons,List.length_nil,Nat.zero_add,Nat.reduceAdd]at a1
   match zs,a1 with
   | [x,y,z,u],_=>exact ⟨x,y,z,u,rfl⟩
  have g0:=O 0 X rfl;have g1:=O 1 Y rfl;have g2:=O 2 Z rfl;have g3:=O 3 td rfl;simp only[List.getElem?_cons_zero,List.getElem?_cons_succ]at g0 g1 g2 g3;rw[g0,g1,g2,g3]at C;clear g0 g1 g2 g3 O a1;by_cases hk:L.data.toList=k.word
  case neg =>
   have p:Hid (readG k s.data.toList=([],1,none)):=by
    show _=_;rw[E.out,C.out,if_neg hk]
   have br:=neBB (s:=L) (t:=kw) (by rw[be];exact hk);clear o B hk C;have g:=fun W=>za9 1 W
   go_wp2_with fail
   refine(g _).mono ?_;rintro e F ⟨rfl,i⟩;clear g;have f:=ar.below i;have m:BL w F:=trB aq i;have q:=f.c0;have r:=f.c1;have jz:=f.fz;go_wp2;refine bodyPost_ret (v:=.tuple #[.slice none 0 0,.slice none 0 0,.agg #[.int .i64 1,.int .i64 (-1)]]) (by simp[results,Tryz.results125,go_sem,q,r]) rfl ⟨(m.setCell (by simp) _).setCell (by simp) _,Or.inl ⟨1,by decide,rfl,p.out⟩⟩
  have br:=eqBB (s:=L) (t:=kw) (by rw[be];exact hk);rw[if_pos hk]at C;obtain⟨q3,c3,a7⟩:=ah.form;have a4: [x,y,z,u].length=4:=rfl;rw[a4]at a7;subst a7;obtain⟨M,N,rfl,a8⟩:∃M N,q3=some ⟨M,N,none⟩/\w3.cell? ⟨M,N+3,none⟩=some (.int .i64 u):=by
   rcases ah with⟨_,_,e,e'⟩|⟨M,N,cc,e,h⟩
   ·cases e'
   ·injection e with e1;exact⟨M,N,e1,h 3 (by simp)⟩
  have bs:Hid (KeysAt w3 (.slice (some ⟨M,N,none⟩) 4 c3) [x,y,z,u]):=ah;clear ah a4 hk
  go_wp2_with fail
  have bg:Tryz.prog.follows .mixedOrders=true:=by kernel_rfl
  have a5:=fun d os=>Calls.regrown_of (w:=w3) (d:=d) (os:=os) (B _);have f3:=cell_regrown a8;have b4:(n:Int)+1<=(s.size:Int):=by omega
  have b2:(0:Int)<=(n:Int)+1:=by omega
  clear B a8;refine wp_region_quiet_below bg (by kernel_rfl) ?_
  repeat (go_big_quiet_step (exact a5 _ _))
  refine wpQuiet_nil ?_;intro _ bx;obtain⟨⟨dq,a9⟩,bj⟩:=bx;subst bj;clear a5 f3;have ag:=below_regrown w3 dq a9;generalize grow (redrawn w3 dq) a9=w4 at ag ⊢;have a6:BL w w4:=trB aq ag;have au:=ar.below ag;have S:=bs.out.below ag;by_cases bh:u=(sumL b:Int)
  case neg =>
   have p:Hid (readG k s.data.toList=([],10,none)):=by
    show _=_;rw[E.out,C.out];dsimp only;rw[if_pos bh]
   clear o C S;have g:=fun W=>za9 10 W
   go_wp2_with fail
   refine(g _).mono ?_;rintro e F ⟨rfl,i⟩;clear g;have f:=au.below i;have m:BL w F:=trB a6 i;have q:=f.c0;have r:=f.c1;have jz:=f.fz;go_wp2;refine bodyPost_ret (v:=.tuple #[.slice none 0 0,.slice none 0 0,.agg #[.int .i64 10,.int .i64 (-1)]]) (by simp[results,Tryz.results125,go_sem,q,r]) rfl ⟨(m.setCell (by simp) _).setCell (by simp) _,Or.inl ⟨10,by decide,rfl,p.out⟩⟩
  have p:Hid (readG k s.data.toList=endG k x y z (rowsG k (pieces 10 b) 0 [])):=by
   show _=_;rw[E.out,C.out];dsimp only;rw[if_neg (by omega)]
  have av:=o w4;clear o
  go_wp2_with fail
  refine av.mono ?_;rintro e w5 ⟨v5,bz,rfl,a0,aa,b0⟩;clear av;have aw:=ze1 w5
  go_wp2_with fail
  refine aw.mono ?_;rintro e w6 ⟨rfl,bb⟩;clear aw;have T:BL w4 w6:=trB b0 bb;have bu:BL w w6:=trB a6 T;have G:=au.below T;have U:=S.below T;have V:=a0.below bb;have q:=G.c0;have r:=G.c1;have jz:=G.fz;have bi:Hid (SplitT k w s.data.toList (.returned (.tuple #[.slice (some ⟨M,N,none⟩) 4 c3,v5,.agg #[.int .i64 0,.int .i64 (-1)]])) ((w6.setCell ⟨w.heap.size,0,none⟩ (.int .i64 0)).setCell ⟨w.heap.size,1,none⟩ (.int .i64 (-1)))):=by
   have n1:=G.ne_keys U (by simp);have n2:=G.ne_texts V (by intro e;rw[e]at aa;exact zk6 10 b aa.symm);exact⟨(bu.setCell (by simp) _).setCell (by simp) _,Or.inr ⟨x,y,z,u,b,_,v5,bz,rfl,(U.setLow n1).setLow n1,(V.setLow n2).setLow n2,aa,bf.out,p.out⟩⟩
  clear au G S U a0 V;go_wp2;exact bodyPost_ret (v:=.tuple #[.slice (some ⟨M,N,none⟩) 4 c3,v5,.agg #[.int .i64 0,.int .i64 (-1)]]) (by simp[results,Tryz.results125,go_sem,q,r]) rfl bi.out
def headF (n lo hi:Int) (zs:List Int):Nat:=if 40<zs.length then 8 else if n=zs.length/\lo=(endsZ zs).1/\hi=(endsZ zs).2 then 0 else 3
theorem za5s (v E:Value) (n lo hi O:Int) (j:List Int) (w:World) (P:KeysAt w v [n,lo,hi,O]) (F:KeysAt w E j) (S:j.length<=20000) :
  Calls Tryz.prog 127 #[v,E] w fun e w'=>e= .returned (.agg #[.int .i64 (headF n lo hi j:Nat),.int .i64 (-1)])/\BL w w':=by
 have l:=FC.new w;have f:BL w (w.alloc (.cells #[.int .i64 0,.int .i64 0] 53)):=alB _ _;have k:=zq5 E j _ (F.below f) (by unfold maxLen;omega);obtain⟨T,U,rfl⟩:=F.form;obtain⟨q,r,G,rfl,I,J,K⟩:∃q r G,v= .slice (some ⟨q,r,none⟩) 4 G/\w.cell? ⟨q,r,none⟩=some (.int .i64 n)/\w.cell? ⟨q,r+1,none⟩=some (.int .i64 lo)/\w.cell? ⟨q,r+2,none⟩=some (.int .i64 hi):=by
  rcases P with⟨_,_,e,Q⟩|⟨q,r,R,e,h⟩
  ·cases Q
  ·exact⟨q,r,R,e,h 0 (by simp),h 1 (by simp),h 2 (by simp)⟩
 have s:=za0 f I;have t:=za0 f J;have u:=za0 f K;clear I J K P F;have g:Hid (headF n lo hi j=if 40<j.length then 8 else if n=j.length/\lo=(endsZ j).1/\hi=(endsZ j).2 then 0 else 3):=rfl;generalize headF n lo hi j=H at g ⊢;generalize (endsZ j).1=M at k g;generalize (endsZ j).2=N at k g;generalize j.length=L at S k g ⊢;by_cases B:40<L
 ·have C:(40:Int)<(L:Int):=by omega
  rw[if_pos B]at g;clear k
  go_enter Tryz.func127,Tryz.ntmps127
  have c:=fun W=>za9 8 W
  go_wp2_with fail
  refine(c _).mono ?_;rintro e p ⟨rfl,d⟩;clear c;have b:=l.below d;have i:BL w p:=trB f d;have m:=b.c0;have o:=b.c1;have z:=b.fz;clear s t u;go_wp2;refine bodyPost_ret (v:=.agg #[.int .i64 8,.int .i64 (-1)]) (by simp[results,Tryz.results127,go_sem,m,o]) rfl ⟨by rw[g.out];rfl,(i.setCell (by simp) _).setCell (by simp) _⟩
 have C:¬(40:Int)<(L:Int):=by omega
 rw[if_neg B]at g
 go_enter Tryz.func127,Tryz.ntmps127
 go_wp2_with fail
 generalize w.alloc (.cells #[.int .i64 0,.int .i64 0] 53)=X at l f k s t u ⊢;refine k.mono ?_;rintro e V ⟨rfl,rfl⟩;clear k;by_cases y:n=(L:Int)
 case neg =>
  rw[if_neg (fun h=>y h.1)]at g;have c:=fun W=>za9 3 W
  go_wp2_with fail
  refine(c _).mono ?_;rintro e p ⟨rfl,d⟩;clear c;have b:=l.below d;have i:BL w p:=trB f d;have m:=b.c0;have o:=b.c1;have z:=b.fz;clear s t u;go_wp2;refine bodyPost_ret (v:=.agg #[.int .i64 3,.int .i64 (-1)]) (by simp[results,Tryz.results127,go_sem,m,o]) rfl ⟨by rw[g.out];rfl,(i.setCell (by simp) _).setCell (by simp) _⟩
 by_cases A:lo=M
 case neg =>
  rw[if_neg (fun h=>A h.2.1)]at g;subst y;have c:=fun W=>za9 3 W
  go_wp2_with fail
  refine(c _).mono ?_;rintro e p ⟨rfl,d⟩;clear c;have b:=l.below d;have i:BL w p:=trB f d;have m:=b.c0;have o:=b.c1;have z:=b.fz;clear s t u;go_wp2;refine bodyPost_ret (v:=.agg #[.int .i64 3,.int .i64 (-1)]) (by simp[results,Tryz.results127,go_sem,m,o]) rfl ⟨by rw[g.out];rfl,(i.setCell (by simp) _).setCell (by simp) _⟩
 by_cases D:hi=N
 case neg =>
  rw[if_neg (fun h=>D h.2.2)]at g;subst y A;have c:=fun W=>za9 3 W
  go_wp2_with fail
  refine(c _).mono ?_;rintro e p ⟨rfl,d⟩;clear c;have b:=l.below d;have i:BL w p:=trB f d;have m:=b.c0;have o:=b.c1;have z:=b.fz;clear s t u;go_wp2;refine bodyPost_ret (v:=.agg #[.int .i64 3,.int .i64 (-1)]) (by simp[results,Tryz.results127,go_sem,m,o]) rfl ⟨by rw[g.out];rfl,(i.setCell (by simp) _).setCell (by simp) _⟩
 rw[if_pos ⟨y,A,D⟩]at g;subst y A D;have c:=fun W=>ze1 W
 go_wp2_with fail
 refine(c _).mono ?_;rintro e p ⟨rfl,d⟩;clear c;have b:=l.below d;have i:BL w p:=trB f d;have m:=b.c0;have o:=b.c1;have z:=b.fz;clear s t u;go_wp2;refine bodyPost_ret (v:=.agg #[.int .i64 0,.int .i64 (-1)]) (by simp[results,Tryz.results127,go_sem,m,o]) rfl ⟨by rw[g.out];rfl,(i.setCell (by simp) _).setCell (by simp) _⟩
def ReadPost (w:World) (D:List Rw×Nat×Option Nat) (e:Ending) (w':World):Prop :=
 BL w w'/\((D.2.1=0/\∃v,e= .returned (.tuple #[v,.agg #[.int .i64 0,.int .i64 (-1)]])/\RowsAt w' v D.1) \/
  (D.2.1≠0/\∃j:Int,e= .returned (.tuple #[.slice none 0 0,.agg #[.int .i64 D.2.1,.int .i64 j]])/\(D.2.2=none->j= -1)/\∀k:Nat,D.2.2=some k->j=k))
theorem zm2 {W:World} {base:Nat} {e:TypeId} {b:Nat} {v:Value} {n:Nat} {xs:List Value} (h:W.ownsRow base e b v n xs):∃q c,v= .slice q n c:=by
 rcases h.2 with⟨rfl,rfl⟩|⟨g,d,f,rfl,_⟩
 ·exact⟨_,_,rfl⟩
 ·exact⟨_,_,rfl⟩
theorem zz1 (d:UInt8):∀(l:List UInt8),∀x∈pieces d l,x.length<=l.length
 | [],x,h=>by simp[pieces]at h;simp[h]
 | c :: r,x,h=>by
  have b:=zz1 d r;unfold pieces at h;split at h
  ·rw[List.mem_cons]at h;rcases h with rfl | h
   ·simp
   ·have:=b x h;simp;omega
  ·split at h
   ·rw[List.mem_singleton]at h;subst h;simp
   ·rename_i w f e;rw[e]at b;rw[List.mem_cons]at h;rcases h with rfl | h
    ·have:=b w List.mem_cons_self;simp;omega
    ·have:=b x (List.mem_cons_of_mem _ h);simp;omega
theorem zr1 {W:World} {g b:Nat} {o:Nat} {v:Value} {x:Option Obj} (h:W.heap[g]? =x) (c:g≠b):(W.setCell ⟨b,o,none⟩ v).heap[g]? =x:=by
 rw[heap_setCell_other _ _ _ _ c];exact h
theorem zb6m (n lo hi:Int) (b:List Rw):endO n lo hi (b,0,0)=if headF n lo hi (keysR b)=0 then (b,0,none) else ([],headF n lo hi (keysR b),none):=by
 have e:(keysR b).length=b.length:=by simp[keysG]
 unfold endO endG headF;rw[e];simp only[ne_eq,not_true_eq_false,if_false];split
 ·simp
 ·split<;>simp
theorem za5t (s:ByteArray) (w:World) (hs:s.size<=maxLen) :
  Calls Tryz.prog 80 #[.string s] w fun e w'=>ReadPost w (dataO s.data.toList) e w':=by
 obtain⟨i0,cq,cr,cs,b1⟩:=Tryz.rowInfo;have bf:=FC.new w;have bg:BL w (w.alloc (.cells #[.int .i64 0,.int .i64 0] 53)):=alB _ _;have bh:=za5r dataK ⟨#[100,97,116,97]⟩ s rfl (w.alloc (.cells #[.int .i64 0,.int .i64 0] 53)) hs;obtain⟨D,b2⟩:∃D,dataO s.data.toList=D:=⟨_,rfl⟩;have bi:Hid (dataO s.data.toList=D):=b2;rw[b2];clear b2 hs
 go_enter Tryz.func80,Tryz.ntmps80
 go_wp2_with fail
 generalize w.alloc (.cells #[.int .i64 0,.int .i64 0] 53)=w1 at bf bg bh ⊢;refine bh.mono ?_;rintro e T ⟨b7,hp⟩;clear bh;have bj:BL w T:=trB bg b7;have aw:=bf.below b7;clear bf bg b7;rcases hp with⟨c,cx,rfl,hD⟩|⟨nn,aq,ar,dm,b,v,tv,G,rfl,cy,cz,a7,dn,hD⟩
 ·have N:Hid (D=([],c,none)):=by show _=_;rw[<-bi.out];exact hD
  have dv:(0:Int)<(c:Int):=by omega
  have da:Hid (c≠0):=cx;have J:BL T (T.alloc (.cells #[.int .i64 c,.int .i64 (-1)] 53)):=alB _ _;have U:FC (T.alloc (.cells #[.int .i64 c,.int .i64 (-1)] 53)) T.heap.size c (-1):=heap_alloc_new _ _;have V:=aw.below J;have ab:BL w (T.alloc (.cells #[.int .i64 c,.int .i64 (-1)] 53)):=trB bj J;clear hD cx J aw;go_wp2;generalize T.alloc (.cells #[.int .i64 c,.int .i64 (-1)] 53)=C at U V ab ⊢;generalize T.heap.size=L at U ⊢;have j0:=V.c0;have j1:=V.c1;have jz:=V.fz;have k0:=U.c0;have k1:=U.c1;have bk:=ab.drew;have K:FC C.drew w.heap.size 0 0:=V.below (Below.refl C.heap.size C).drew;have Z:FC C.drew L c (-1):=U.below (Below.refl C.heap.size C).drew;have m0:=K.c0;have m1:=K.c1;have mz:=K.fz;have n0:=Z.c0;have n1:=Z.c1;clear K Z
  go_region
  all_goals go_wp2
  all_goals refine bodyPost_ret (v:=.tuple #[.slice none 0 0,.agg #[.int .i64 c,.int .i64 (-1)]]) (by simp[results,Tryz.results80,go_sem,j0,j1]) rfl ⟨?_,Or.inr ⟨by rw[N.out];exact da.out,-1,by rw[N.out],fun _=>rfl,by rw[N.out];intro k h;cases h⟩⟩
  all_goals first
   | exact(ab.setCell (by simp) _).setCell (by simp) _
   | exact(bk.setCell (by simp) _).setCell (by simp) _
   | exact((ab.setCell (by simp) _).setCell (by simp) _).drew
 obtain⟨R,hR⟩:∃R,rowsO (pieces 10 b) 0 []=R:=⟨_,rfl⟩;have N:Hid (D=endO nn aq ar R):=by show _=_;rw[<-bi.out];exact hD.trans (congrArg (endG dataK nn aq ar) hR)
 have dw:Hid (G.map (·.data.toList)=pieces 10 b):=a7;have db:=zt9 10 b;have dc:=List.count_le_length (a:=(10:UInt8)) (l:=b);have dd:G.length=(pieces 10 b).length:=by have:=congrArg List.length a7;simpa using this
 have c2:1<=G.length:=by omega
 have X:Hid (G.length<=20001):=by show _<=_;omega
 have de:Hid (∀t∈G,t.size<=20000):=fun t ht=>by
  have h1:t.data.toList∈pieces 10 b:=by rw[<-a7];exact List.mem_map_of_mem ht
  have h2:=zz1 10 b _ h1;rw[za3]at h2;omega
 have HR:Hid (rowsO (G.map (·.data.toList)) 0 []=R):=by show _=_;rw[a7];exact hR
 clear hR hD a7 db dc dd dn bi;have J:BL T (T.alloc (.cells #[.int .i64 0,.int .i64 (-1)] 53)):=alB _ _;have U:FC (T.alloc (.cells #[.int .i64 0,.int .i64 (-1)] 53)) T.heap.size 0 (-1):=heap_alloc_new _ _;have V:=aw.below J;have ab:BL w (T.alloc (.cells #[.int .i64 0,.int .i64 (-1)] 53)):=trB bj J;have bl:=cy.below J;obtain⟨tb,du,rfl,cb,ct⟩:=cz.below J;have c3:=aw.lt;clear J aw cy cz bj;obtain⟨TL,bb⟩:∃TL,G.length=TL:=⟨_,rfl⟩;have HX:Hid (G.length=TL):=bb;rw[bb]at c2 X ⊢;obtain⟨M,rfl⟩:∃M,TL=M+1:=⟨TL-1,by omega⟩;have dx:M<=20000:=by have:=X.out;omega
 have cc:Hid (∀j (h:j<G.length),(T.alloc (.cells #[.int .i64 0,.int .i64 (-1)] 53)).cell? ⟨tb,j,none⟩=some (.string G[j])):=ct;clear bb ct cb;go_wp2;generalize T.alloc (.cells #[.int .i64 0,.int .i64 (-1)] 53)=C at U V ab bl cc ⊢;generalize T.heap.size=L at U c3 ⊢;have cd:=V.lt;have ce:=U.lt
 go_loopw [7,8] (fun out k wr=> ∃(n:Nat) (i:List Rw),n<M+1/\k= .int .i64 n/\i.length=n/\BL C wr/\wr.ownsRow C.heap.size 112 3 out n (flatR i)/\rowsO ((G.map (·.data.toList)).drop n) n i=R) (fun _ k _=>M+1-(intOf k).toNat)
 case atStart=>exact ⟨0, [],by omega,rfl,rfl,Below.refl _ _,by simp[flatR];exact World.ownsRow_nil _ _ _ _,HR.out⟩
 case round =>
  obtain⟨n,i,hn,rfl,b3,hb,b4,f⟩:=hrel;have O:Hid (wr.ownsRow C.heap.size 112 3 u7 n (flatR i)):=b4;have ah:Hid (i.length=n):=b3;have bm:n<G.length:=by rw[HX.out];exact hn
  have cf:(G.map (·.data.toList)).drop n=G[n].data.toList :: (G.map (·.data.toList)).drop (n+1):=by
   rw[List.drop_eq_getElem_cons (by rw[List.length_map];exact bm)];simp
  rw[cf]at f;have cl:=za0 hb (cc.out n bm);have aa:=de.out G[n] (List.getElem_mem _);have hi:(n:Int)<(M:Int)+1:=by omega
  have dy:IntKind.i64.wrap (M:Int)=(M:Int):=IntWalk.i64_in _ (by have:=X.out;omega);have c4:(0:Int)<=(n:Int):=by omega
  have bc:BL w wr:=trB ab hb;have ae:=V.below hb;clear b4 b3 cf;by_cases ca:n=M
  ·subst ca;have bn:(G.map (·.data.toList)).drop (n+1)= []:=List.drop_eq_nil_of_le (by rw[List.length_map,HX.out];exact Nat.le_refl _);rw[bn,zb1z]at f;clear bn;generalize G[n]=t at cl aa f;by_cases am:t.data.toList= []
   ·have df:(t.toList == [])=true:=za6 am;rw[if_pos am]at f;have A:Hid (D=if headF nn aq ar (keysR i)=0 then (i,0,none) else ([],headF nn aq ar (keysR i),none)):=by
     show _=_;rw[N.out,<-f,zb6m]
    clear f am aa;have cg:=(ze5 O.out).1;obtain⟨q7,c7,rfl⟩:=zm2 O.out;have ch:=zx2 (.slice q7 n c7) i wr cg (by have:=ah.out;have:=X.out;omega);clear cg
    go_wp2_with fail
    refine ch.mono ?_;rintro e z ⟨kv,rfl,cw,F⟩;clear ch;have a8:BL C z:=trB hb F;have bo:=za5s v kv nn aq ar dm (keysR i) z (bl.below a8) cw (by have:=ah.out;have:=X.out;simp[keysG];omega);generalize headF nn aq ar (keysR i)=H at A bo
    go_wp2_with fail
    refine bo.mono ?_;rintro e w5 ⟨rfl,Q⟩;clear bo cw;have au:BL C w5:=trB a8 Q;have bp:BL w w5:=trB ab au;have ax:=U.below au;have an:=V.below au;have ci:w5.ownsRow C.heap.size 112 3 (.slice q7 n c7) n (flatR i):=za2 O.out (trB F Q);have bd:w.heap.size≠L:=by omega
    have ay:=ax.set H (-1);have af:FC ((w5.setCell ⟨L,0,none⟩ (.int .i64 H)).setCell ⟨L,1,none⟩ (.int .i64 (-1))) w.heap.size 0 0:=zr1 (zr1 an bd) bd;have ai:BL w ((w5.setCell ⟨L,0,none⟩ (.int .i64 H)).setCell ⟨L,1,none⟩ (.int .i64 (-1))):=(bp.setCell (by simp;omega) _).setCell (by simp;omega) _;have aj:((w5.setCell ⟨L,0,none⟩ (.int .i64 H)).setCell ⟨L,1,none⟩ (.int .i64 (-1))).ownsRow C.heap.size 112 3 (.slice q7 n c7) n (flatR i):=ownsRow_setCell_below (ownsRow_setCell_below ci (a:=⟨L,0,none⟩) ce _) (a:=⟨L,1,none⟩) ce _;have k0:=ax.c0;have k1:=ax.c1;have kz:=ax.fz;clear ae bc O ci F Q a8 au an ax cl bp;by_cases hH:H=0
    ·subst hH;rw[if_pos rfl]at A;have bq:Hid (((w5.setCell ⟨L,0,none⟩ (.int .i64 ((0:Nat):Int))).setCell ⟨L,1,none⟩ (.int .i64 (-1))).ownsRow C.heap.size 112 3 (.slice q7 n c7) n (flatR i)):=aj;clear aj ay;have br:((0:Nat):Int)=0:=rfl;rw[br]at af ai bq ⊢;clear br;have bs:=fun W=>ze1 W
     go_wp2_with fail
     generalize (w5.setCell ⟨L,0,none⟩ (.int .i64 0)).setCell ⟨L,1,none⟩ (.int .i64 (-1))=W6 at af ai bq ⊢;refine(bs _).mono ?_;rintro e w7 ⟨rfl,b8⟩;clear bs k0 k1 kz;have be:=af.below b8;have dg:BL w w7:=trB ai b8;have j0:=be.c0;have j1:=be.c1;have jz:=be.fz;have cj:=za2 bq.out b8;have ck:=ownsRow_setCell_below (ownsRow_setCell_below cj (a:=⟨w.heap.size,0,none⟩) cd (.int .i64 0)) (a:=⟨w.heap.size,1,none⟩) cd (.int .i64 (-1));have dh:Hid (RowsAt ((w7.setCell ⟨w.heap.size,0,none⟩ (.int .i64 0)).setCell ⟨w.heap.size,1,none⟩ (.int .i64 (-1))) (.slice q7 n c7) i):=(ze5 ck).1;clear cj ck be;go_wp2;exact bodyPost_ret (v:=.tuple #[.slice q7 n c7,.agg #[.int .i64 0,.int .i64 (-1)]]) (by simp[results,Tryz.results80,go_sem,j0,j1]) rfl ⟨(dg.setCell (by simp) _).setCell (by simp) _,Or.inl ⟨by rw[A.out],_,rfl,by rw[A.out];exact dh.out⟩⟩
    ·rw[if_neg hH]at A;have dz:(0:Int)<(H:Int):=by omega
     have di:Hid (H≠0):=hH;clear aj hH;go_wp2;generalize (w5.setCell ⟨L,0,none⟩ (.int .i64 H)).setCell ⟨L,1,none⟩ (.int .i64 (-1))=W6 at af ay ai ⊢;have j0:=af.c0;have j1:=af.c1;have jz:=af.fz;have l0:=ay.c0;have l1:=ay.c1;have bk:=ai.drew;have K:FC W6.drew w.heap.size 0 0:=af.below (Below.refl W6.heap.size W6).drew;have Z:FC W6.drew L H (-1):=ay.below (Below.refl W6.heap.size W6).drew;have m0:=K.c0;have m1:=K.c1;have mz:=K.fz;have n0:=Z.c0;have n1:=Z.c1;clear K Z k0 k1 kz
     go_region
     all_goals go_wp2
     all_goals refine bodyPost_ret (v:=.tuple #[.slice none 0 0,.agg #[.int .i64 H,.int .i64 (-1)]]) (by simp[results,Tryz.results80,go_sem,j0,j1]) rfl ⟨?_,Or.inr ⟨by rw[A.out];exact di.out,-1,by rw[A.out],fun _=>rfl,by rw[A.out];intro k h;cases h⟩⟩
     all_goals first
      | exact(ai.setCell (by simp) _).setCell (by simp) _
      | exact(bk.setCell (by simp) _).setCell (by simp) _
      | exact((ai.setCell (by simp) _).setCell (by simp) _).drew
   ·have df:(t.toList == [])=false:=za7 am;rw[if_neg am]at f;have A:Hid (R=([],1,n)):=f.symm;clear f am aa;have Y:=ae;have ao:=bc;have j0:=Y.c0;have j1:=Y.c1;have jz:=Y.fz;go_wp2;refine bodyPost_ret (v:=.tuple #[.slice none 0 0,.agg #[.int .i64 1,.int .i64 n]]) (by simp[results,Tryz.results80,go_sem,j0,j1]) rfl ⟨(ao.setCell (by simp) _).setCell (by simp) _,Or.inr ⟨?_,n,?_,?_,?_⟩⟩
    ·rw[N.out,A.out,endO,endG,if_pos (by simp)];simp
    ·rw[N.out,A.out,endO,endG,if_pos (by simp)];rfl
    ·rw[N.out,A.out,endO,endG,if_pos (by simp)];intro h;cases h
    ·rw[N.out,A.out,endO,endG,if_pos (by simp)];intro k h;injection h with h;rw[<-h]
  ·have d0:n<M:=by omega
   obtain⟨l2,r,b5⟩:∃l2 r,(G.map (·.data.toList)).drop (n+1)=l2 :: r:=List.exists_cons_of_ne_nil (fun e=>by
    have:=congrArg List.length e;rw[List.length_drop,List.length_map,HX.out,List.length_nil]at this;omega)
   rw[b5,zb2a,<-b5]at f;have dj:¬(n:Int)=(M:Int):=by omega
   have I:=zb4z G[n] wr (by omega);clear b5;generalize G[n].data.toList=tl at f I;generalize G[n]=t at cl aa I;by_cases ap:(readO tl).2≠0
   ·rw[if_pos ap]at f;obtain⟨E,cu⟩:∃E,(readO tl).2=E:=⟨_,rfl⟩;rw[cu]at I f ap;have d1:(0:Int)<(E:Int):=by omega
    have a2:Hid (E≠0):=ap;have A:Hid (R=([],E,n)):=f.symm;generalize (readO tl).1=x at I;obtain⟨m,o,q⟩:=x;simp only[rowV]at I;clear f cu ap
    go_wp2_with fail
    refine I.mono ?_;rintro e z ⟨rfl,F⟩;clear I;have P:BL z (z.alloc (.cells #[.string m,.int .i64 o,.int .i64 q] 112)):=alB _ _;have B:=trB F P;have Y:=ae.below B;have ao:BL w (z.alloc (.cells #[.string m,.int .i64 o,.int .i64 q] 112)):=trB bc B;have bt:w.heap.size<z.heap.size:=(ae.below F).lt;have dt:¬w.heap.size=z.heap.size:=by omega
    have ds:¬z.heap.size=w.heap.size:=by omega
    have a3:=ae.below F;have a0:=a3.c0;have a1:=a3.c1;have az:=a3.fz;have an:=(a3.set E n).below ((Below.refl _ _).alloc (Nat.le_refl _) (.cells #[.string m,.int .i64 o,.int .i64 q] 112));have j0:=an.c0;have j1:=an.c1;have dk:BL w z:=trB bc F;have bu:=(dk.setCell (p:=⟨w.heap.size,0,none⟩) (Nat.le_refl _) (.int .i64 E)).setCell (p:=⟨w.heap.size,1,none⟩) (Nat.le_refl _) (.int .i64 n);have c5:=bu.alloc bu.size (.cells #[.string m,.int .i64 o,.int .i64 q] 112);clear a3 an B P F cl aa bu Y ao;go_wp2;refine bodyPost_ret (v:=.tuple #[.slice none 0 0,.agg #[.int .i64 E,.int .i64 n]]) (by simp[results,Tryz.results80,go_sem,j0,j1]) rfl ⟨c5,Or.inr ⟨?_,n,?_,?_,?_⟩⟩
    ·rw[N.out,A.out,endO,endG,if_pos (by simp[a2.out])];exact a2.out
    ·rw[N.out,A.out,endO,endG,if_pos (by simp[a2.out])]
    ·rw[N.out,A.out,endO,endG,if_pos (by simp[a2.out])];intro h;cases h
    ·rw[N.out,A.out,endO,endG,if_pos (by simp[a2.out])];intro k h;injection h with h;rw[<-h]
   have bv:(readO tl).2=0:=by omega
   rw[if_neg ap]at f;rw[bv]at I;obtain⟨x,cv⟩:∃x,(readO tl).1=x:=⟨_,rfl⟩;rw[cv]at I f;clear ap bv cv
   cases n with
   | zero =>
    have cm:i= []:=List.length_eq_zero_iff.1 ah.out;rw[if_neg (by rw[cm];simp)]at f;obtain⟨m,o,q⟩:=x;have bw:Hid (rowsO ((G.map (·.data.toList)).drop (0+1)) (0+1) (i++ [(m,o,q)])=R):=f;simp only[rowV]at I;clear f cm;have e0:((0:Nat):Int)=0:=rfl;rw[e0]at dj hi c4 ⊢;clear e0
    go_wp2_with fail
    refine I.mono ?_;rintro e z ⟨rfl,F⟩;clear I;have P:BL z (z.alloc (.cells #[.string m,.int .i64 o,.int .i64 q] 112)):=alB _ _;have B:=trB F P;have ac:BL C (z.alloc (.cells #[.string m,.int .i64 o,.int .i64 q] 112)):=trB hb B;have cn:Hid ((z.alloc (.cells #[.string m,.int .i64 o,.int .i64 q] 112)).ownsRow C.heap.size 112 3 u7 0 (flatR i)):=za2 O.out B;clear O;have O:=cn;have y0:(z.alloc (.cells #[.string m,.int .i64 o,.int .i64 q] 112)).cell? ⟨z.heap.size,0,none⟩=some (.string m):=by simp
    have y1:(z.alloc (.cells #[.string m,.int .i64 o,.int .i64 q] 112)).cell? ⟨z.heap.size,1,none⟩=some (.int .i64 o):=by simp
    have y2:(z.alloc (.cells #[.string m,.int .i64 o,.int .i64 q] 112)).cell? ⟨z.heap.size,2,none⟩=some (.int .i64 q):=by simp
    clear cn F P B cl aa y0 y1 y2;have a9:Below (z.alloc (.cells #[.string m,.int .i64 o,.int .i64 q] 112)).heap.size (z.alloc (.cells #[.string m,.int .i64 o,.int .i64 q] 112)) ((z.alloc (.cells #[.string m,.int .i64 o,.int .i64 q] 112)).alloc (.cells #[.string m,.int .i64 o,.int .i64 q] 112)):=alB _ _;have Q:BL C ((z.alloc (.cells #[.string m,.int .i64 o,.int .i64 q] 112)).alloc (.cells #[.string m,.int .i64 o,.int .i64 q] 112)):=ac.alloc ac.size _
    go_wp2_with (at_builtin;refine wpList_append_own _ rfl _ _ 44 rfl C.heap.size 112 i0 (.agg #[.string ⟨#[]⟩,.int .i64 0,.int .i64 0]) 3 32 Tryz.underlying44 cq cr cs b1 rfl (by decide) _ 0 (flatR i) rfl ?qd0 ⟨z.heap.size+1,0,none⟩ 1 1 (encR (m,o,q)) rfl ?qd1 ?qd2 ?qd3 ?qd4 ?qd5 ?qd6 ?_)
    case qd0=>exact za2 O.out a9
    case qd1=>rfl
    case qd2 =>
     intro j u hj;rw[Addr.add_lit,Nat.zero_add];have:=zf6 (z.alloc (.cells #[.string m,.int .i64 o,.int .i64 q] 112)) m o q j u hj;simpa using this
    case qd3=>exact zc6 _
    case qd4=>have:=X.out;unfold maxLen;omega
    case qd5=>have:=X.out;omega
    case qd6=>first | exact Q.size | (have:=ac.size;omega)
    intro v6 w6 ad S av;have bz:BL C w6:=Q.grown S Q.size (fun k hk=>by
     rcases O.out.2 with⟨e,_⟩|⟨g',b9,dp,e,dr,_⟩
     ·rw[e]at hk;simp[Value.ownBlock]at hk
     ·rw[e]at hk;simp[Value.ownBlock]at hk;omega)
    have aj:Hid (w6.ownsRow C.heap.size 112 3 v6 (0+1) (flatR i++encR (m,o,q))):=ad;clear ad av S;go_wp2;go_roundw
    case rel=>exact ⟨0+1,i++ [(m,o,q)],by omega,by go_num,by rw[List.length_append,ah.out];rfl,bz,by rw[zc3,zi2];exact aj.out,bw.out⟩
    case measure=>simp [intOf]<;>omega
   | succ k =>
    have a4:k<i.length:=by rw[ah.out];omega
    have c6:i≠ []:=fun e=>by rw[e]at a4;simp at a4
    have a5:=zq3 i k (bytesOf [],0,0) ah.out a4;rw[a5]at f;obtain⟨g,cp,rfl⟩:=zf0 O.out;obtain⟨p0,p1,p2⟩:wr.cell? ⟨g,k*3,none⟩=some (.string i[k].1)/\wr.cell? ⟨g,k*3+1,none⟩=some (.int .i64 i[k].2.1)/\wr.cell? ⟨g,k*3+2,none⟩=some (.int .i64 i[k].2.2):=by
     rcases (zo3 O.out).2 with⟨e,_⟩|⟨g',b9,e,hc⟩
     ·cases e
     ·injection e with e1;injection e1 with e1;injection e1 with e1;subst e1;have:=hc k a4;simpa only[Nat.zero_add] using this
    have ag:=fun W=>za3w x i[k] W;generalize i[k]=y at p0 p1 p2 ag f;obtain⟨yp,yk,yv⟩:=y;obtain⟨m,o,q⟩:=x;dsimp only at p0 p1 p2 ag;simp only[rowV]at I;have d2:(0:Int)<(k:Int)+1:=by omega
    have d3:(k:Int)<(k:Int)+1:=by omega
    have d4:(0:Int)<=(k:Int):=by omega
    have d5:IntKind.i64.wrap (k:Int)=(k:Int):=IntWalk.i64_in _ (by have:=X.out;omega);have c8:Tryz.prog.follows .mixedOrders=true:=by kernel_rfl
    clear a5 a4
    go_wp2_with fail
    refine I.mono ?_;rintro e z ⟨rfl,F⟩;clear I;have P:BL z (z.alloc (.cells #[.string m,.int .i64 o,.int .i64 q] 112)):=alB _ _;have B:=trB F P;have co:BL C (z.alloc (.cells #[.string m,.int .i64 o,.int .i64 q] 112)):=trB hb B;have b0:Hid ((z.alloc (.cells #[.string m,.int .i64 o,.int .i64 q] 112)).ownsRow C.heap.size 112 3 (.slice (some ⟨g,0,none⟩) (k+1) cp) (k+1) (flatR i)):=za2 O.out B;have x0:(z.alloc (.cells #[.string m,.int .i64 o,.int .i64 q] 112)).cell? ⟨z.heap.size,0,none⟩=some (.string m):=by simp
    have x1:(z.alloc (.cells #[.string m,.int .i64 o,.int .i64 q] 112)).cell? ⟨z.heap.size,1,none⟩=some (.int .i64 o):=by simp
    have x2:(z.alloc (.cells #[.string m,.int .i64 o,.int .i64 q] 112)).cell? ⟨z.heap.size,2,none⟩=some (.int .i64 q):=by simp
    have z0:=za0 B p0;have z1:=za0 B p1;have z2:=za0 B p2;have ba:=ae.below B;have bt:w.heap.size<z.heap.size:=(ae.below F).lt;clear O p0 p1 p2 P F cl aa ae
    go_wp2_with fail
    generalize z.alloc (.cells #[.string m,.int .i64 o,.int .i64 q] 112)=W2 at co b0 x0 x1 x2 z0 z1 z2 ba B ⊢;generalize z.heap.size=bx at x0 x1 x2 bt ⊢;have ak:=fun d os=>Calls.regrown_of (w:=W2) (d:=d) (os:=os) (ag _);have f0:=cell_regrown x0;have f1:=cell_regrown x1;have f2:=cell_regrown x2;have f4:=cell_regrown z0;have f5:=cell_regrown z1;have f6:=cell_regrown z2;obtain⟨lb,b6⟩:∃lb,ltOf cfR (m,o,q) (yp,yk,yv)=lb:=⟨_,rfl⟩;rw[b6]at f;rw[b6]at ak;clear b6 ag;refine wp_region_quiet_below c8 (by kernel_rfl) ?_
    repeat (go_big_quiet_step (exact ak _ _))
    refine wpQuiet_nil ?_;intro _ dl;obtain⟨⟨dq,a6⟩,c9⟩:=dl;subst c9;clear ak f0 f1 f2 f4 f5 f6;have al:=below_regrown W2 dq a6;have ac:BL C (grow (redrawn W2 dq) a6):=trB co al;have O:Hid ((grow (redrawn W2 dq) a6).ownsRow C.heap.size 112 3 (.slice (some ⟨g,0,none⟩) (k+1) cp) (k+1) (flatR i)):=za2 b0.out al;have y0:=za0 al x0;have y1:=za0 al x1;have y2:=za0 al x2;have Y:=ba.below al;have ao:BL w (grow (redrawn W2 dq) a6):=trB ab ac;clear al x0 x1 x2 z0 z1 z2 b0 ba B;generalize grow (redrawn W2 dq) a6=W4 at ac O y0 y1 y2 Y ao ⊢
    cases lb with
    | true =>
     rw[if_pos ⟨c6,rfl⟩]at f;have A:Hid (R=([],9,k+1)):=f.symm;clear f;have j0:=Y.c0;have j1:=Y.c1;have jz:=Y.fz;go_wp2;refine bodyPost_ret (v:=.tuple #[.slice none 0 0,.agg #[.int .i64 9,.int .i64 ((k+1:Nat):Int)]]) (by simp[results,Tryz.results80,go_sem,j0,j1]) rfl ⟨(ao.setCell (by simp) _).setCell (by simp) _,Or.inr ⟨?_,((k+1:Nat):Int),?_,?_,?_⟩⟩
     ·rw[N.out,A.out,endO,endG,if_pos (by simp)];simp
     ·rw[N.out,A.out,endO,endG,if_pos (by simp)];rfl
     ·rw[N.out,A.out,endO,endG,if_pos (by simp)];intro h;cases h
     ·rw[N.out,A.out,endO,endG,if_pos (by simp)];intro k h;injection h with h;rw[<-h]
    | false =>
     rw[if_neg (fun e=>by cases e.2)]at f;have bw:Hid (rowsO ((G.map (·.data.toList)).drop (k+1+1)) (k+1+1) (i++ [(m,o,q)])=R):=f;clear f;have a9:BL W4 (W4.alloc (.cells #[.string m,.int .i64 o,.int .i64 q] 112)):=alB _ _;have Q:BL C (W4.alloc (.cells #[.string m,.int .i64 o,.int .i64 q] 112)):=ac.alloc ac.size _
     go_wp2_with (at_builtin;refine wpList_append_own _ rfl _ _ 44 rfl C.heap.size 112 i0 (.agg #[.string ⟨#[]⟩,.int .i64 0,.int .i64 0]) 3 32 Tryz.underlying44 cq cr cs b1 rfl (by decide) _ (k+1) (flatR i) rfl ?qd0 ⟨W4.heap.size,0,none⟩ 1 1 (encR (m,o,q)) rfl ?qd1 ?qd2 ?qd3 ?qd4 ?qd5 ?qd6 ?_)
     case qd0=>exact za2 O.out a9
     case qd1=>rfl
     case qd2 =>
      intro j u hj;rw[Addr.add_lit,Nat.zero_add];exact zf6 W4 m o q j u hj
     case qd3=>exact zc6 _
     case qd4=>have:=X.out;unfold maxLen;omega
     case qd5=>have:=X.out;omega
     case qd6=>first | exact Q.size | (have:=ac.size;omega)
     intro v6 w6 ad S av;have bz:BL C w6:=Q.grown S Q.size (fun k hk=>by
      rcases O.out.2 with⟨e,_⟩|⟨g',b9,dp,e,dr,_⟩
      ·rw[e]at hk;simp[Value.ownBlock]at hk
      ·rw[e]at hk;simp[Value.ownBlock]at hk;omega)
     have aj:Hid (w6.ownsRow C.heap.size 112 3 v6 ((k+1)+1) (flatR i++encR (m,o,q))):=ad;clear ad av S;go_wp2;go_roundw
     case rel=>exact ⟨(k+1)+1,i++ [(m,o,q)],by omega,by go_num,by rw[List.length_append,ah.out];rfl,bz,by rw[zc3,zi2];exact aj.out,bw.out⟩
     case measure=>simp [intOf]<;>omega
theorem zz2 {O:List Int} {k j:Nat} {u:Value} (h:((O.take k).map (Value.int .i64))[j]? =some u):∃hj:j<O.length,u= .int .i64 O[j]:=by
 rw[List.getElem?_map,Option.map_eq_some_iff]at h;obtain⟨y,b,rfl⟩:=h;rw[List.getElem?_take]at b;split at b
 ·obtain⟨hj,e⟩:=List.getElem?_eq_some_iff.1 b;exact⟨hj,by rw[e]⟩
 ·cases b
theorem zz3 {O:List Int} {k j:Nat} {u:Value} (h:((O.drop k).map (Value.int .i64))[j]? =some u):∃hj:k+j<O.length,u= .int .i64 O[k+j]:=by
 rw[List.getElem?_map,Option.map_eq_some_iff]at h;obtain⟨y,b,rfl⟩:=h;rw[List.getElem?_drop]at b;obtain⟨hj,e⟩:=List.getElem?_eq_some_iff.1 b;exact⟨hj,by rw[e]⟩
theorem zd1 (c:List Int):∀u∈c.map (Value.int .i64),u.oneCell'=true:=by
 intro u b;obtain⟨y,_,rfl⟩:=List.mem_map.1 b;rfl
theorem zb6n (f O:List Int) (x:Int) (k:Nat) (p:O=riseZ f) (s:∀j (h:j<O.length),j<k->O[j]<x) (t:∀h:k<O.length,x<O[k]):O.take k++x :: O.drop k=riseZ (f++ [x]):=by
 have g:O.Pairwise (· < ·):=by rw[p];exact zv1 f
 have l:=List.pairwise_iff_getElem.1 g;refine(zv2 ?_ fun y=>?_).symm
 ·have c:=g;rw[<-List.take_append_drop k O,List.pairwise_append]at c;rw[List.pairwise_append];refine⟨c.1,?_,?_⟩
  ·rw[List.pairwise_cons];refine⟨fun b d=>?_,c.2.1⟩;obtain⟨j,q,rfl⟩:=List.mem_iff_getElem.1 d;rw[List.getElem_drop];have m:k+j<O.length:=by rw[List.length_drop]at q;omega
   have h:=t (by omega);rcases Nat.eq_zero_or_pos j with o | o
   ·subst o;exact h
   ·have:=l k (k+j) (by omega) m (by omega);omega
  ·intro a n b d;obtain⟨i,r,rfl⟩:=List.mem_iff_getElem.1 n;rw[List.mem_cons]at d;rcases d with rfl | d
   ·rw[List.getElem_take];rw[List.length_take]at r;exact s i (by omega) (by omega)
   ·exact c.2.2 _ n b d
 ·rw[List.mem_append,List.mem_cons,List.mem_append,List.mem_singleton,<-zk7 f y,<-p];constructor
  ·rintro(h | h | h)
   ·exact Or.inl (List.mem_of_mem_take h)
   ·exact Or.inr h
   ·exact Or.inl (List.mem_of_mem_drop h)
  ·rintro(h | h)
   ·rw[<-List.take_append_drop k O,List.mem_append]at h;rcases h with h | h
    ·exact Or.inl h
    ·exact Or.inr (Or.inr h)
   ·exact Or.inr (Or.inl h)
theorem zb6o (b O:List Int) (x:Int) (c:O=riseZ b) (d:x∈O):O=riseZ (b++ [x]):=by
 refine(zv2 (by rw[c];exact zv1 b) fun y=>?_).symm;rw[List.mem_append,List.mem_singleton,<-zk7 b y,<-c];constructor
 ·exact Or.inl
 ·rintro(h | rfl)
  ·exact h
  ·exact d
theorem za5u (v:Value) (c:List Int) (w:World) (hz:KeysAt w v c) (hl:c.length<=1000) :
  Calls Tryz.prog 76 #[v] w fun e w'=> ∃v',e= .returned v'/\KeysAt w' v' (riseZ c)/\BL w w':=by
 obtain⟨i0,K,N,P,C⟩:=Tryz.numInfo;obtain⟨q,bq,rfl⟩:=hz.form;generalize hL:c.length=L at hz hl ⊢;have HX:Hid (c.length=L):=hL;clear hL
 go_enter Tryz.func76,Tryz.ntmps76
 go_wp2
 go_loopw [3,4] (fun out k wr=> ∃n:Nat,n<=L/\k= .int .i64 n/\BL w wr/\wr.ownsRow w.heap.size 3 1 out (riseZ (c.take n)).length ((riseZ (c.take n)).map (Value.int .i64))) (fun _ k _=>L-(intOf k).toNat)
 case atStart=>exact ⟨0,by omega,rfl,Below.refl _ _,by rw[List.take_zero,zb2o];exact World.ownsRow_nil _ _ _ _⟩
 case round =>
  obtain⟨n,hn,rfl,hb,F⟩:=hrel;by_cases a6:n<L
  ·have ak:n<c.length:=by rw[HX.out];exact a6
   have av:=hz.below hb;rcases av with⟨_,_,e,e'⟩|⟨b,o,bn,e,aj⟩
   ·exfalso;have:=HX.out;rw[e']at this;simp at this;omega
   injection e with e1 e2 e3;subst e1;clear e2 e3;have h1:=aj n ak;clear aj;have hi:(n:Int)<(L:Int):=by omega
   have bm:(0:Int)<=(n:Int):=by omega
   have aw:c.take (n+1)=c.take n++ [c[n]]:=by rw[List.take_append_getElem ak]
   have ap:(riseZ (c.take n)).length<=n:=Nat.le_trans (zv3 _) (List.length_take_le _ _);have al:=fun k=>zb6n (c.take n) (riseZ (c.take n)) c[n] k rfl;have am:=zb6o (c.take n) (riseZ (c.take n)) c[n] rfl;rw[<-aw]at al am;have p:Hid (∀k,(∀j (h:j<(riseZ (c.take n)).length),j<k->(riseZ (c.take n))[j]<c[n])->(∀h:k<(riseZ (c.take n)).length,c[n]<(riseZ (c.take n))[k])->(riseZ (c.take n)).take k++c[n] :: (riseZ (c.take n)).drop k=riseZ (c.take (n+1))):=al;have Q:Hid (c[n]∈riseZ (c.take n)->riseZ (c.take n)=riseZ (c.take (n+1))):=am;clear al aw am;generalize c[n]=x at h1 p Q;generalize riseZ (c.take n)=O at F ap p Q;generalize a0:riseZ (c.take (n+1))=G at p Q;have ae:Hid (riseZ (c.take (n+1))=G):=a0;clear a0 ak;obtain⟨M,hM⟩:∃M,O.length=M:=⟨_,rfl⟩;have J:Hid (O.length=M):=hM;rw[hM]at F ap;have OW:Hid (wr.ownsRow w.heap.size 3 1 u3 M (O.map (Value.int .i64))):=F;have a7:u3= .slice none 0 0/\O= []\/∃g d,u3= .slice (some ⟨g,0,none⟩) M d/\M<=d/\g<wr.heap.size/\∀j (h:j<O.length),wr.cell? ⟨g,j,none⟩=some (.int .i64 O[j]):=by
    by_cases hv:u3= .slice none 0 0
    ·refine Or.inl ⟨hv,?_⟩;subst hv;rcases F.2 with⟨_,e0⟩|⟨g',a5,bk,e,_⟩
     ·exact List.length_eq_zero_iff.1 (hM.trans e0)
     ·cases e
    ·obtain⟨g,d,rfl,br,ay,bj,bs,bt,hH⟩:=holds_of_ownsRow F hv;refine Or.inr ⟨g,d,rfl,bj,ay,fun j R=>?_⟩;have:=(hH j (by simpa using R)).1;rw[Nat.zero_add,getElem!_pos _ j (by simpa using R)]at this;simpa using this
   clear F hM;rcases a7 with⟨rfl,rfl⟩|⟨g,d,rfl,bv,ay,az⟩
   ·have M0:Hid (M=0):=J.out.symm;have a8:G= [x]:=by
     have:=p.out 0 (by intro j h;simp at h) (by intro h;simp at h);simpa using this.symm
    subst a8;clear p Q OW ap;go_wp2;refine wp_loop_rounds 1 ?_;rw[rounds_succ];go_wp2
    go_quiet (fail)
    have aq:BL w (wr.drewN nq):=za4 hb nq;have a9:=za0 (za4 (Below.refl wr.heap.size wr) nq) h1;clear h1;generalize wr.drewN nq=WD at aq a9 ⊢;have ad:BL WD (WD.alloc (.cells #[.int .i64 x] 3)):=alB _ _;have ar:BL w (WD.alloc (.cells #[.int .i64 x] 3)):=aq.alloc aq.size _
    go_wp2_with (first
     | (at_builtin;refine zp9 rfl _ _ 69 rfl _ rfl rfl (fun ty W=>zp8 none 0 0 ty W (Nat.le_refl _)) ?_)
     | (at_builtin;refine wpList_append_own _ rfl _ _ 69 rfl w.heap.size 3 i0 (.int .i64 0) 1 8 Tryz.underlying69 K N P C rfl (by decide) (.slice none 0 0) 0 [] rfl ?qc0 ⟨WD.heap.size,0,none⟩ 1 1 [.int .i64 x] rfl ?qc1 ?qc2 ?qc3 ?qc4 ?qc5 ?qc6 ?_))
    case qc0=>exact World.ownsRow_nil _ _ _ _
    case qc1=>rfl
    case qc2=>exact zb6 _ _ _
    case qc3=>exact zd1 [x]
    case qc4=>unfold maxLen;omega
    case qc5=>omega
    case qc6=>exact ar.size
    intro v' w4 aa ao a4;have ba:BL w w4:=ar.grown ao ar.size (fun k hk=>by simp[Value.ownBlock]at hk);obtain⟨g4,c4,rfl⟩:∃g4 c4,v'= .slice (some ⟨g4,0,none⟩) 1 c4:=zf0 aa;have bb:1<=c4:=by
     rcases aa.2 with⟨e,_⟩|⟨g',a5,bk,e,_,_,bw,_⟩
     ·cases e
     ·injection e with _ _ e3;omega
    have bc:Hid (w4.ownsRow w.heap.size 3 1 (.slice (some ⟨g4,0,none⟩) 1 c4) (0+1) ([]++ [.int .i64 x])):=aa;clear aa a4 ao
    go_wp2_with (at_builtin;refine zp9 rfl _ _ 69 rfl _ rfl rfl (fun ty W=>zp8 (some ⟨g4,0,none⟩) 1 c4 ty W bb) ?_)
    go_roundw
    case rel=>exact ⟨n+1,by omega,by go_num,ba,by rw[ae.out];exact bc.out⟩
    case measure=>simp [intOf];omega
   ·have OC:Hid (∀j (h:j<O.length),wr.cell? ⟨g,j,none⟩=some (.int .i64 O[j])):=az;clear az;generalize wr=W0 at *;go_wp2
    go_loopw [5] (fun at_ wi=> ∃k:Nat,k<=M/\at_= .int .i64 k/\BL W0 wi/\∀j (h:j<O.length),j<k->O[j]<x) (fun at_ _=>M-(intOf at_).toNat)
    case atStart=>exact ⟨0,by omega,rfl,Below.refl _ _,fun j _ h'=>absurd h' (by omega)⟩
    case round =>
     obtain⟨k,bu,rfl,ai,au⟩:=hrel;have HA:Hid (∀j (h:j<O.length),j<k->O[j]<x):=au;clear au;have d1:=za0 ai h1;by_cases bd:k<M
     ·have ax:k<O.length:=by rw[J.out];exact bd
      have p1:=za0 ai (OC.out k ax);obtain⟨y,hy⟩:∃y,O[k]=y:=⟨_,rfl⟩;have HY:Hid (O[k]=y):=hy;have be:Hid (y∈O):=by show _∈_;rw[<-hy];exact List.getElem_mem _
      rw[hy]at p1;clear hy;have bf:(k:Int)<(M:Int):=by omega
      have bo:(0:Int)<=(k:Int):=by omega
      by_cases bg:y<x
      ·go_wp2
       go_quiet (fail)
       have S:BL W0 (wr.drewN nq):=za4 ai nq;go_wp2;go_roundw
       case rel=>exact ⟨k+1,by omega,by go_num,S,fun j h R=>by
        rcases Nat.lt_or_ge j k with h' | h'
        ·exact HA.out j h h'
        ·obtain rfl:j=k:=by omega
         rw[HY.out];exact bg⟩
       case measure=>simp [intOf];omega
      ·go_wp2
       go_quiet (fail)
       have S:BL W0 (wr.drewN nq):=za4 ai nq;have d2:=za0 S h1;have p2:(wr.drewN nq).cell? ⟨g,k,none⟩=some (.int .i64 y):=by rw[<-HY.out];exact za0 S (OC.out k ax)
       clear d1 p1;generalize wr.drewN nq=W1 at S d2 p2 ⊢;by_cases a1:y=x
       ·go_wp2
        go_quiet (fail)
        have ab:BL w (W1.drewN nq):=by
         have q:=za4 S nq;exact(trB hb q)
        have a2:Hid ((W1.drewN nq).ownsRow w.heap.size 3 1 (.slice (some ⟨g,0,none⟩) M d) G.length (G.map (Value.int .i64))):=by
         show World.ownsRow _ _ _ _ _ _ _;have e:=Q.out (by rw[<-a1];exact be.out);rw[<-e,J.out];exact za2 OW.out (za4 S nq)
        go_wp2;go_roundw
        case rel=>exact ⟨n+1,by omega,by go_num,ab,by rw[ae.out];exact a2.out⟩
        case measure=>simp [intOf];omega
       ·have ac:=p.out k HA.out (fun h=>by rw[HY.out];omega);have an:Hid (O.take k++x :: O.drop k=G):=ac;clear ac p Q;go_wp2
        go_quiet (fail)
        have D:BL W0 (W1.drewN nq):=za4 S nq;have e1:=za0 D h1;have CT:Hid (∀j (h:j<O.length),(W1.drewN nq).cell? ⟨g,j,none⟩=some (.int .i64 O[j])):=fun j h=>za0 D (OC.out j h);clear OC d2 p2 S;generalize W1.drewN nq=f at D e1 CT ⊢;have bh:¬d=k:=by omega
        clear bf
        go_wp2_with (at_builtin;refine wpList_append_own _ rfl _ _ 69 rfl f.heap.size 3 i0 (.int .i64 0) 1 8 Tryz.underlying69 K N P C rfl (by decide) (.slice none 0 0) 0 [] rfl ?qc0 ⟨g,0,none⟩ (k) d ((O.take (k)).map (Value.int .i64)) rfl ?qc1 ?qc2 ?qc3 ?qc4 ?qc5 ?qc6 ?_)
        case qc0=>exact World.ownsRow_nil _ _ _ _
        case qc1=>have:=J.out;rw[List.length_map,List.length_take];omega
        case qc2 =>
         intro j u R;rw[Addr.add_lit,Nat.zero_add];obtain⟨t,rfl⟩:=zz2 R;exact CT.out j t
        case qc3=>exact zd1 _
        case qc4=>unfold maxLen;omega
        case qc5=>omega
        case qc6=>exact Nat.le_refl _
        intro v1 E z i T;have H:BL f E:=(Below.refl _ _).grown i (Nat.le_refl _) (fun k hk=>by simp[Value.ownBlock]at hk);have Y:Hid (E.ownsRow f.heap.size 3 1 v1 (0+(k)) ([]++(O.take (k)).map (Value.int .i64))):=zb3 z (by omega) (by simp);clear z T i;have g1:=za0 H e1;have ad:BL E (E.alloc (.cells #[.int .i64 x] 3)):=alB _ _;have I:BL f (E.alloc (.cells #[.int .i64 x] 3)):=H.alloc H.size _
        go_wp2_with (at_builtin;refine wpList_append_own _ rfl _ _ 69 rfl f.heap.size 3 i0 (.int .i64 0) 1 8 Tryz.underlying69 K N P C rfl (by decide) v1 (0+(k)) ([]++(O.take (k)).map (Value.int .i64)) rfl ?qc0 ⟨E.heap.size,0,none⟩ 1 1 [.int .i64 x] rfl ?qc1 ?qc2 ?qc3 ?qc4 ?qc5 ?qc6 ?_)
        case qc0=>exact za2 Y.out ad
        case qc1=>rfl
        case qc2=>exact zb6 _ _ _
        case qc3=>exact zd1 [x]
        case qc4=>unfold maxLen;omega
        case qc5=>omega
        case qc6=>exact I.size
        intro v2 w2 A l U;have r:BL f w2:=I.grown l I.size (fun k hk=>zd4 Y.out hk);have Z:Hid (w2.ownsRow f.heap.size 3 1 v2 (0+(k)+1) ([]++(O.take (k)).map (Value.int .i64)++ [.int .i64 x])):=zb3 A (by omega) (by simp);clear A U l;have z1:(((k):Nat):Int)<=(M:Int):=by omega
        have z2:(((k):Nat):Int)<=(d:Int):=by omega
        have af:Hid (∀j (h:j<O.length),w2.cell? ⟨g,j,none⟩=some (.int .i64 O[j])):=fun j h=>za0 r (CT.out j h)
        go_wp2_with (at_builtin;refine wpList_append_own _ rfl _ _ 69 rfl f.heap.size 3 i0 (.int .i64 0) 1 8 Tryz.underlying69 K N P C rfl (by decide) v2 (0+(k)+1) ([]++(O.take (k)).map (Value.int .i64)++ [.int .i64 x]) rfl ?qc0 _ _ _ ((O.drop (k)).map (Value.int .i64)) rfl ?qc1 ?qc2 ?qc3 ?qc4 ?qc5 ?qc6 ?_)
        case qc0=>exact Z.out
        case qc1=>have:=J.out;rw[List.length_map,List.length_drop];omega
        case qc2 =>
         intro j u R;rw[Addr.add_lit];obtain⟨t,rfl⟩:=zz3 R;have:=af.out _ t
         first
          | exact absurd t (by have:=J.out;omega)
          | simpa using this
        case qc3=>exact zd1 _
        case qc4=>unfold maxLen;omega
        case qc5=>omega
        case qc6=>exact r.size
        intro v3 V B m X;have ag:BL f V:=r.grown m r.size (fun k hk=>zd4 Z.out hk);have ab:BL w V:=by
         have q:=trB D ag;exact(trB hb q)
        have s:V.ownsRow w.heap.size 3 1 v3 G.length (G.map (Value.int .i64)):=by
         have q:=B.mono (Nat.le_trans hb.size D.size);rw[<-an.out];exact zb3 q (by have:=J.out;simp;omega) (by simp)
        have ah:Hid (V.ownsRow w.heap.size 3 1 v3 G.length (G.map (Value.int .i64))):=s;clear s B X m;go_wp2;go_roundw
        case rel=>exact ⟨n+1,by omega,by go_num,ab,by rw[ae.out];exact ah.out⟩
        case measure=>simp [intOf];omega
     ·obtain rfl:k=M:=by omega
      have ac:=p.out k HA.out (fun h=>absurd h (by rw[J.out];omega));have an:Hid (O.take k++x :: O.drop k=G):=ac;clear ac p Q;have bp:¬(k:Int)<(k:Int):=by omega
      go_wp2
      go_quiet (fail)
      have D:BL W0 (wr.drewN nq):=za4 ai nq;have e1:=za0 D h1;have CT:Hid (∀j (h:j<O.length),(wr.drewN nq).cell? ⟨g,j,none⟩=some (.int .i64 O[j])):=fun j h=>za0 D (OC.out j h);clear OC d1;generalize wr.drewN nq=f at D e1 CT ⊢;rcases Nat.lt_or_ge k d with bl | bl
      ·have bh:¬d=k:=by omega
       go_wp2_with (at_builtin;refine wpList_append_own _ rfl _ _ 69 rfl f.heap.size 3 i0 (.int .i64 0) 1 8 Tryz.underlying69 K N P C rfl (by decide) (.slice none 0 0) 0 [] rfl ?qc0 ⟨g,0,none⟩ (k) d ((O.take (k)).map (Value.int .i64)) rfl ?qc1 ?qc2 ?qc3 ?qc4 ?qc5 ?qc6 ?_)
       case qc0=>exact World.ownsRow_nil _ _ _ _
       case qc1=>have:=J.out;rw[List.length_map,List.length_take];omega
       case qc2 =>
        intro j u R;rw[Addr.add_lit,Nat.zero_add];obtain⟨t,rfl⟩:=zz2 R;exact CT.out j t
       case qc3=>exact zd1 _
       case qc4=>unfold maxLen;omega
       case qc5=>omega
       case qc6=>exact Nat.le_refl _
       intro v1 E z i T;have H:BL f E:=(Below.refl _ _).grown i (Nat.le_refl _) (fun k hk=>by simp[Value.ownBlock]at hk);have Y:Hid (E.ownsRow f.heap.size 3 1 v1 (0+(k)) ([]++(O.take (k)).map (Value.int .i64))):=zb3 z (by omega) (by simp);clear z T i;have g1:=za0 H e1;have ad:BL E (E.alloc (.cells #[.int .i64 x] 3)):=alB _ _;have I:BL f (E.alloc (.cells #[.int .i64 x] 3)):=H.alloc H.size _
       go_wp2_with (at_builtin;refine wpList_append_own _ rfl _ _ 69 rfl f.heap.size 3 i0 (.int .i64 0) 1 8 Tryz.underlying69 K N P C rfl (by decide) v1 (0+(k)) ([]++(O.take (k)).map (Value.int .i64)) rfl ?qc0 ⟨E.heap.size,0,none⟩ 1 1 [.int .i64 x] rfl ?qc1 ?qc2 ?qc3 ?qc4 ?qc5 ?qc6 ?_)
       case qc0=>exact za2 Y.out ad
       case qc1=>rfl
       case qc2=>exact zb6 _ _ _
       case qc3=>exact zd1 [x]
       case qc4=>unfold maxLen;omega
       case qc5=>omega
       case qc6=>exact I.size
       intro v2 w2 A l U;have r:BL f w2:=I.grown l I.size (fun k hk=>zd4 Y.out hk);have Z:Hid (w2.ownsRow f.heap.size 3 1 v2 (0+(k)+1) ([]++(O.take (k)).map (Value.int .i64)++ [.int .i64 x])):=zb3 A (by omega) (by simp);clear A U l;have z1:(((k):Nat):Int)<=(k:Int):=by omega
       have z2:(((k):Nat):Int)<=(d:Int):=by omega
       have af:Hid (∀j (h:j<O.length),w2.cell? ⟨g,j,none⟩=some (.int .i64 O[j])):=fun j h=>za0 r (CT.out j h)
       go_wp2_with (at_builtin;refine wpList_append_own _ rfl _ _ 69 rfl f.heap.size 3 i0 (.int .i64 0) 1 8 Tryz.underlying69 K N P C rfl (by decide) v2 (0+(k)+1) ([]++(O.take (k)).map (Value.int .i64)++ [.int .i64 x]) rfl ?qc0 _ _ _ ((O.drop (k)).map (Value.int .i64)) rfl ?qc1 ?qc2 ?qc3 ?qc4 ?qc5 ?qc6 ?_)
       case qc0=>exact Z.out
       case qc1=>have:=J.out;rw[List.length_map,List.length_drop];omega
       case qc2 =>
        intro j u R;rw[Addr.add_lit];obtain⟨t,rfl⟩:=zz3 R;have:=af.out _ t
        first
         | exact absurd t (by have:=J.out;omega)
         | simpa using this
       case qc3=>exact zd1 _
       case qc4=>unfold maxLen;omega
       case qc5=>omega
       case qc6=>exact r.size
       intro v3 V B m X;have ag:BL f V:=r.grown m r.size (fun k hk=>zd4 Z.out hk);have ab:BL w V:=by
        have q:=trB D ag;exact(trB hb q)
       have s:V.ownsRow w.heap.size 3 1 v3 G.length (G.map (Value.int .i64)):=by
        have q:=B.mono (Nat.le_trans hb.size D.size);rw[<-an.out];exact zb3 q (by have:=J.out;simp;omega) (by simp)
       have ah:Hid (V.ownsRow w.heap.size 3 1 v3 G.length (G.map (Value.int .i64))):=s;clear s B X m;go_wp2;go_roundw
       case rel=>exact ⟨n+1,by omega,by go_num,ab,by rw[ae.out];exact ah.out⟩
       case measure=>simp [intOf];omega
      ·have a3:d=k:=by omega
       subst a3
       go_wp2_with (at_builtin;refine wpList_append_own _ rfl _ _ 69 rfl f.heap.size 3 i0 (.int .i64 0) 1 8 Tryz.underlying69 K N P C rfl (by decide) (.slice none 0 0) 0 [] rfl ?qc0 ⟨g,0,none⟩ (d) d ((O.take (d)).map (Value.int .i64)) rfl ?qc1 ?qc2 ?qc3 ?qc4 ?qc5 ?qc6 ?_)
       case qc0=>exact World.ownsRow_nil _ _ _ _
       case qc1=>have:=J.out;rw[List.length_map,List.length_take];omega
       case qc2 =>
        intro j u R;rw[Addr.add_lit,Nat.zero_add];obtain⟨t,rfl⟩:=zz2 R;exact CT.out j t
       case qc3=>exact zd1 _
       case qc4=>unfold maxLen;omega
       case qc5=>omega
       case qc6=>exact Nat.le_refl _
       intro v1 E z i T;have H:BL f E:=(Below.refl _ _).grown i (Nat.le_refl _) (fun k hk=>by simp[Value.ownBlock]at hk);have Y:Hid (E.ownsRow f.heap.size 3 1 v1 (0+(d)) ([]++(O.take (d)).map (Value.int .i64))):=zb3 z (by omega) (by simp);clear z T i;have g1:=za0 H e1;have ad:BL E (E.alloc (.cells #[.int .i64 x] 3)):=alB _ _;have I:BL f (E.alloc (.cells #[.int .i64 x] 3)):=H.alloc H.size _
       go_wp2_with (at_builtin;refine wpList_append_own _ rfl _ _ 69 rfl f.heap.size 3 i0 (.int .i64 0) 1 8 Tryz.underlying69 K N P C rfl (by decide) v1 (0+(d)) ([]++(O.take (d)).map (Value.int .i64)) rfl ?qc0 ⟨E.heap.size,0,none⟩ 1 1 [.int .i64 x] rfl ?qc1 ?qc2 ?qc3 ?qc4 ?qc5 ?qc6 ?_)
       case qc0=>exact za2 Y.out ad
       case qc1=>rfl
       case qc2=>exact zb6 _ _ _
       case qc3=>exact zd1 [x]
       case qc4=>unfold maxLen;omega
       case qc5=>omega
       case qc6=>exact I.size
       intro v2 w2 A l U;have r:BL f w2:=I.grown l I.size (fun k hk=>zd4 Y.out hk);have Z:Hid (w2.ownsRow f.heap.size 3 1 v2 (0+(d)+1) ([]++(O.take (d)).map (Value.int .i64)++ [.int .i64 x])):=zb3 A (by omega) (by simp);clear A U l;have z1:(((d):Nat):Int)<=(d:Int):=by omega
       have z2:(((d):Nat):Int)<=(d:Int):=by omega
       have af:Hid (∀j (h:j<O.length),w2.cell? ⟨g,j,none⟩=some (.int .i64 O[j])):=fun j h=>za0 r (CT.out j h)
       go_wp2_with (at_builtin;refine wpList_append_own _ rfl _ _ 69 rfl f.heap.size 3 i0 (.int .i64 0) 1 8 Tryz.underlying69 K N P C rfl (by decide) v2 (0+(d)+1) ([]++(O.take (d)).map (Value.int .i64)++ [.int .i64 x]) rfl ?qc0 _ _ _ ((O.drop (d)).map (Value.int .i64)) rfl ?qc1 ?qc2 ?qc3 ?qc4 ?qc5 ?qc6 ?_)
       case qc0=>exact Z.out
       case qc1=>have:=J.out;rw[List.length_map,List.length_drop];omega
       case qc2 =>
        intro j u R;rw[Addr.add_lit];obtain⟨t,rfl⟩:=zz3 R;have:=af.out _ t
        first
         | exact absurd t (by have:=J.out;omega)
         | simpa using this
       case qc3=>exact zd1 _
       case qc4=>unfold maxLen;omega
       case qc5=>omega
       case qc6=>exact r.size
       intro v3 V B m X;have ag:BL f V:=r.grown m r.size (fun k hk=>zd4 Z.out hk);have ab:BL w V:=by
        have q:=trB D ag;exact(trB hb q)
       have s:V.ownsRow w.heap.size 3 1 v3 G.length (G.map (Value.int .i64)):=by
        have q:=B.mono (Nat.le_trans hb.size D.size);rw[<-an.out];exact zb3 q (by have:=J.out;simp;omega) (by simp)
       have ah:Hid (V.ownsRow w.heap.size 3 1 v3 G.length (G.map (Value.int .i64))):=s;clear s B X m;go_wp2;go_roundw
       case rel=>exact ⟨n+1,by omega,by go_num,ab,by rw[ae.out];exact ah.out⟩
       case measure=>simp [intOf];omega
  ·have bi:n=L:=by omega
   subst bi;have ht:c.take n=c:=List.take_of_length_le (by rw[HX.out];omega);rw[ht]at F;have OW:Hid (KeysAt wr u3 (riseZ c)):=zi7 F;clear F ht;go_wp2;go_ret;exact⟨u3,rfl,OW.out,hb⟩
end Go.Proofs.YtgckdomafbnmkaaGreatDoor
