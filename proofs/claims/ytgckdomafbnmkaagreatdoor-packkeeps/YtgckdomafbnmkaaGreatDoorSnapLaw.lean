/- By an AI agent. -/
import Derived.Test.YtgckdomafbnmkaaGreatDoorPackPure
namespace Go.Proofs.YtgckdomafbnmkaaGreatDoor
open Go Go.Lib
abbrev Tx:=Sn×List Fl×List ByteArray
def inT (ts:List ByteArray) (p:ByteArray):Bool:=ts.any fun t=>decide (t=p)
end Go.Proofs.YtgckdomafbnmkaaGreatDoor
namespace Go.Proofs.YtgckdomafbnmkaaGreatDoor
open Go.RowKit Go.Extern.Stop Go.Stop Go.Extern Go.Sort Go.Shelf Go.Lib
theorem But.grown {w w':World} {row:Option Nat} (h:w.grownBy w' row):But (fun k=>row=some k) w w':=⟨h.os,h.tape,h.output,h.size,fun k hk hn=>h.block k hk (fun e=>hn e.symm)⟩
theorem FlsAt.but {P:Nat→Prop} {w w':World} {v:Value} {fs:List Fl} (h:FlsAt w v fs) (hb:But P w w') (hp:∀k,v.ownBlock=some k→¬P k):FlsAt w' v fs:=by
 rcases h with h | ⟨b,o,cap,hv,hl,hc⟩
 · exact Or.inl h
 · refine Or.inr ⟨b,o,cap,hv,hl,fun j hj=>?_⟩
   have hn:¬P b:=hp b (by rw[hv];rfl)
   obtain⟨c0,c1,c2,c3,c4,c5⟩:=hc j hj
   exact⟨hb.keep hn c0,hb.keep hn c1,hb.keep hn c2,hb.keep hn c3,hb.keep hn c4,hb.keep hn c5⟩
theorem own_but {P:Nat→Prop} {w w':World} {B:Nat} {e:TypeId} {z:Nat} {v:Value} {n:Nat} {xs:List Value} (h:w.ownsRow B e z v n xs) (hb:But P w w') (hp:∀k,v.ownBlock=some k→¬P k):w'.ownsRow B e z v n xs:=by
 refine⟨h.1,?_⟩
 rcases h.2 with h' | ⟨g,cap,cur,hv,hB,hg,rest⟩
 · exact Or.inl h'
 · exact Or.inr ⟨g,cap,cur,hv,hB,(hb.block g (lt_of_block hg) (hp g (by rw[hv];rfl))).trans hg,rest⟩
def TsAt (w:World) (v:Value) (ts:List ByteArray):Prop :=
 (v= .slice none 0 0∧ts= [])∨∃b cap,v= .slice (some ⟨b,0,none⟩) ts.length cap∧ts.length≤cap∧∀j (h:j<ts.length),w.cell? ⟨b,j,none⟩=some (.string ts[j])
theorem TsAt.form {w:World} {v:Value} {ts:List ByteArray} (h:TsAt w v ts):∃q c,v= .slice q ts.length c:=by
 rcases h with⟨rfl,rfl⟩|⟨b,cap,rfl,_⟩
 · exact⟨_,_,rfl⟩
 · exact⟨_,_,rfl⟩
theorem TsAt.below {w w':World} {v:Value} {ts:List ByteArray} (h:TsAt w v ts) (hb:Below w.heap.size w w'):TsAt w' v ts:=by
 rcases h with h | ⟨b,cap,hv,hl,hc⟩
 · exact Or.inl h
 · exact Or.inr ⟨b,cap,hv,hl,fun j hj=>below_keep hb (hc j hj)⟩
theorem TsAt.cells {w:World} {q:Option Addr} {n c:Nat} {ts:List ByteArray} (h:TsAt w (.slice q n c) ts) (hne:ts≠ []):∃b,q=some ⟨b,0,none⟩∧∀j (h:j<ts.length),w.cell? ⟨b,j,none⟩=some (.string ts[j]):=by
 rcases h with⟨_,e⟩|⟨b,cap,e,_,hc⟩
 · exact absurd e hne
 · injection e with e1 e2 e3
   exact⟨b,e1,hc⟩
theorem tsAt_own {w:World} {B:Nat} {v:Value} {ts:List ByteArray} (h:w.ownsRow B 9 1 v ts.length (ts.map Value.string)):TsAt w v ts:=by
 rcases h.2 with⟨hv,hn⟩|⟨g,cap,cur,hv,_,hg,hc,_,_,ht⟩
 · exact Or.inl ⟨hv,List.length_eq_zero_iff.1 hn⟩
 · refine Or.inr ⟨g,cap,hv,hc,fun j hj=>?_⟩
   rw[cell_of_row _ _ _ _ _ _ hg]
   have e:(cur.toList.take (ts.length*1))[j]? =(ts.map Value.string)[j]? :=by rw[ht]
   rw[List.getElem?_take,if_pos (by omega),Array.getElem?_toList]at e
   rw[e]
   simp[hj]
def TxC (T:TypeId) (W:World) (tb:Nat) (s:Sn) (vb va vr:Value):Prop:=W.heap[tb]? =some (.cells #[.int .i64 s.1,.int .i64 s.2.1,.int .i64 s.2.2.1,.int .i64 s.2.2.2.1,.int .i64 s.2.2.2.2.1,.string s.2.2.2.2.2.1,vb,va,vr] T (0,0))
theorem TxC.lt {T:TypeId} {W:World} {tb:Nat} {s:Sn} {vb va vr:Value} (h:TxC T W tb s vb va vr):tb<W.heap.size:=lt_of_block h
theorem TxC.cells {T:TypeId} {W:World} {tb:Nat} {s:Sn} {vb va vr:Value} (h:TxC T W tb s vb va vr):W.cell? ⟨tb,2,none⟩=some (.int .i64 s.2.2.1)∧W.cell? ⟨tb,6,none⟩=some vb∧W.cell? ⟨tb,7,none⟩=some va∧W.cell? ⟨tb,8,none⟩=some vr:=by
 refine⟨?_,?_,?_,?_⟩<;>rw [cell_of_row _ _ _ _ _ _ h]<;>rfl
theorem TxC.but {P:Nat→Prop} {T:TypeId} {W W':World} {tb:Nat} {s:Sn} {vb va vr:Value} (h:TxC T W tb s vb va vr) (hb:But P W W') (hp:¬P tb):TxC T W' tb s vb va vr:=(hb.block tb h.lt hp).trans h
structure TxIn (T:TypeId) (B:Nat) (W:World) (tb:Nat) (vb va vr:Value) (t:Tx):Prop where
 cells:TxC T W tb t.1 vb va vr
 lo:B≤tb
 base:FlsAt W vb t.1.2.2.2.2.2.2
 adds:W.ownsRow B 43 6 va t.2.1.length (flatF t.2.1)
 rems:W.ownsRow B 9 1 vr t.2.2.length (t.2.2.map Value.string)
 nb:∀k,vb.ownBlock=some k→k≠tb∧va.ownBlock≠some k∧vr.ownBlock≠some k
def fpT (tb:Nat) (va vr:Value) (k:Nat):Prop:=k=tb∨va.ownBlock=some k∨vr.ownBlock=some k
theorem TxIn.but {P:Nat→Prop} {T:TypeId} {B:Nat} {W W':World} {tb:Nat} {vb va vr:Value} {t:Tx} (h:TxIn T B W tb vb va vr t) (hb:But P W W') (hp:∀k,fpT tb va vr k→¬P k) (hq:∀k,vb.ownBlock=some k→¬P k):TxIn T B W' tb vb va vr t :=
 ⟨h.cells.but hb (hp tb (Or.inl rfl)),h.lo,h.base.but hb hq,own_but h.adds hb (fun k hk=>hp k (Or.inr (Or.inl hk))),own_but h.rems hb (fun k hk=>hp k (Or.inr (Or.inr hk))),h.nb⟩
theorem TxIn.below {T:TypeId} {B:Nat} {W W':World} {tb:Nat} {vb va vr:Value} {t:Tx} (h:TxIn T B W tb vb va vr t) (hb:Below W.heap.size W W'):TxIn T B W' tb vb va vr t :=
 h.but (But.of_below (P:=fun _=>False) hb) (fun _ _ h=>h) (fun _ _ h=>h)
theorem own_blk {w:World} {B:Nat} {e:TypeId} {z:Nat} {v:Value} {n:Nat} {xs:List Value} (h:w.ownsRow B e z v n xs) {k:Nat} (hk:v.ownBlock=some k):B≤k∧k<w.heap.size∧∃cur,w.heap[k]? =some (.cells cur e (0,0)):=by
 rcases h.2 with⟨rfl,_⟩|⟨g,cap,cur,rfl,hB,hg,_⟩
 · simp[Value.ownBlock]at hk
 · simp only[Value.ownBlock,Option.some.injEq]at hk
   subst hk
   exact⟨hB,lt_of_block hg,cur,hg⟩
def TxHas (T:TypeId) (B:Nat) (W:World) (v:Value) (FP:Nat→Prop) (t:Tx):Prop :=
 ∃tb vb va vr,v= .pointer (some ⟨tb,0,none⟩)∧TxIn T B W tb vb va vr t∧(∀k,fpT tb va vr k→FP k)∧(∀k,vb.ownBlock=some k→(FP k∨k<B)∧k<W.heap.size)∧∀k,FP k→B≤k∧k<W.heap.size
theorem TxHas.but {P:Nat→Prop} {T:TypeId} {B:Nat} {W W':World} {v:Value} {FP:Nat→Prop} {t:Tx} (h:TxHas T B W v FP t) (hb:But P W W') (hp:∀k,P k→B≤k∧¬FP k):TxHas T B W' v FP t:=by
 obtain⟨tb,vb,va,vr,rfl,hin,h1,h2,h3⟩:=h
 refine⟨tb,vb,va,vr,rfl,hin.but hb (fun k hk hP=>(hp k hP).2 (h1 k hk)) (fun k hk hP=>?_),h1,fun k hk=>⟨(h2 k hk).1,Nat.lt_of_lt_of_le (h2 k hk).2 hb.size⟩,fun k hk=>⟨(h3 k hk).1,Nat.lt_of_lt_of_le (h3 k hk).2 hb.size⟩⟩
 rcases (h2 k hk).1 with h | h
 · exact(hp k hP).2 h
 · exact absurd (hp k hP).1 (by omega)
theorem TxHas.below {T:TypeId} {B:Nat} {W W':World} {v:Value} {FP:Nat→Prop} {t:Tx} (h:TxHas T B W v FP t) (hb:Below W.heap.size W W'):TxHas T B W' v FP t :=
 h.but (But.of_below (P:=fun _=>False) hb) (fun _ h=>h.elim)
def IdxOf {β:Type} (p:β→Bool) (fs:List β) (i:Int):Prop:=(i= -1∧fs.any p=false)∨∃n:Nat,∃h:n<fs.length,i=n∧p fs[n]=true∧(∀j (hj:j<fs.length),j<n→p fs[j]=false)∧fs.any p=true
theorem no_succ {β:Type} {p:β→Bool} {fs:List β} {n:Nat} (h:∀j (h:j<fs.length),j<n→p fs[j]=false) (hn:n<fs.length) (e:p fs[n]=false):∀j (h:j<fs.length),j<n+1→p fs[j]=false:=fun j hj hjn=>by
 by_cases e':j=n
 · subst e';exact e
 · exact h j hj (by omega)
theorem idx_yes {β:Type} {p:β→Bool} {fs:List β} {n:Nat} (h:∀j (h:j<fs.length),j<n→p fs[j]=false) (hn:n<fs.length) (e:p fs[n]=true):IdxOf p fs n:=Or.inr ⟨n,hn,rfl,e,h,List.any_eq_true.2 ⟨_,List.getElem_mem hn,e⟩⟩
theorem idx_no {β:Type} {p:β→Bool} {fs:List β} (h:∀j (h:j<fs.length),j<fs.length→p fs[j]=false):IdxOf p fs (-1):=Or.inl ⟨rfl,by
 rw[List.any_eq_false]
 intro x hx
 obtain⟨j,hj,rfl⟩:=List.mem_iff_getElem.1 hx
 rw[h j hj hj]
 simp⟩
def AskF (g:Nat) (cb:Array Value) (p:Fl→Bool) (fs:List Fl) (w:World):Prop:= ∀f∈fs,∀W,Below w.heap.size w W→Calls Tryz.prog g (#[flV f]++cb) W fun e w'=>e= .returned (.bool (p f))∧Below W.heap.size W w'
set_option maxRecDepth 100000 in
set_option maxHeartbeats 4000000 in
theorem indexG_any (g:Nat) (cb:Array Value) (p:Fl→Bool) (v:Value) (fs:List Fl) (w:World) (hx:FlsAt w v fs) (hl:fs.length≤20000) (eg:∀args w,(callFunc g args).run Tryz.prog w= .ok (.enter g args) w) (hp:AskF g cb p fs w) :
   Calls Tryz.prog 102 #[v,.func (.func g) #[] cb] w fun e w'=> ∃i,e= .returned (.int .i64 i)∧IdxOf p fs i∧Below w.heap.size w w':=by
 obtain⟨q,cap,rfl⟩:=hx.form
 have HFX:Hid (FlsAt w (.slice q fs.length cap) fs):=hx
 have HP:Hid (AskF g cb p fs w):=hp
 obtain⟨L,hL⟩:∃L,fs.length=L:=⟨_,rfl⟩
 have HX:Hid (fs.length=L):=hL
 rw[hL]at hl ⊢
 clear hL hx hp
 go_enter Tryz.func102,Tryz.ntmps102
 go_wp2
 go_loopw [8] (fun k wr=> ∃n:Nat,n≤L∧k= .int .i64 n∧(∀j (h:j<fs.length),j<n→p fs[j]=false)∧Below w.heap.size w wr) (fun k _=>L-(intOf k).toNat)
 case atStart=>exact ⟨0,by omega,rfl,fun j h h'=>absurd h' (Nat.not_lt_zero _),Below.refl _ _⟩
 case round =>
   obtain⟨n,hn,rfl,hno,hb⟩:=hrel
   have HNO:Hid (∀j (h:j<fs.length),j<n→p fs[j]=false):=hno
   clear hno
   by_cases hlt:n<L
   · have hltx:n<fs.length:=by rw[HX.out];exact hlt
     obtain⟨b,o,hq,hc⟩:=(HFX.out.below hb).cells (fun e=>by rw[e]at hltx;simp at hltx)
     subst hq
     obtain⟨c0,c1,c2,c3,c4,c5⟩:=hc n hltx
     have hcl:=HP.out fs[n] (List.getElem_mem _) wr hb
     have hi:(n:Int)<(L:Int):=by omega
     have hi0':(0:Int)≤(n:Int):=by omega
     cases he:p fs[n] with
     | true =>
       have HI:Hid (IdxOf p fs n):=idx_yes HNO.out hltx he
       rw[he]at hcl
       unfold flV at hcl
       clear hc he
       generalize fs[n]=f at c0 c1 c2 c3 c4 c5 hcl
       clear hltx
       obtain⟨fp,fq,fn,flo,fhi,fseq⟩:=f
       dsimp only at c0 c1 c2 c3 c4 c5 hcl
       go_wp2_with (go_at_fn g;refine hcl.mono ?_;rintro e w2 ⟨rfl,hb2⟩)
       go_ret
       exact⟨_,rfl,HI.out,hb.trans (hb2.mono hb.size)⟩
     | false =>
       have HN1:Hid (∀j (h:j<fs.length),j<n+1→p fs[j]=false):=no_succ HNO.out hltx he
       rw[he]at hcl
       unfold flV at hcl
       clear hc he
       generalize fs[n]=f at c0 c1 c2 c3 c4 c5 hcl
       clear hltx
       obtain⟨fp,fq,fn,flo,fhi,fseq⟩:=f
       dsimp only at c0 c1 c2 c3 c4 c5 hcl
       go_wp2_with (go_at_fn g;refine hcl.mono ?_;rintro e w2 ⟨rfl,hb2⟩)
       have hb3:Below w.heap.size w w2:=hb.trans (hb2.mono hb.size)
       go_roundw
       case rel=>exact ⟨n+1,by omega,by go_num,HN1.out,hb3⟩
       case measure=>simp [intOf];omega
   · obtain rfl:n=L:=by omega
     have HI:Hid (IdxOf p fs (-1)):=idx_no (fun j hj _=>HNO.out j hj (by rw[←HX.out];exact hj))
     go_wp2
     go_ret
     exact⟨_,rfl,HI.out,hb⟩
set_option maxRecDepth 100000 in
set_option maxHeartbeats 2000000 in
theorem indexT_any (v:Value) (ts:List ByteArray) (p:ByteArray) (w:World) (hx:TsAt w v ts) (hl:ts.length≤20000) :
   Calls Tryz.prog 112 #[v,.string p] w fun e w'=> ∃i,e= .returned (.int .i64 i)∧IdxOf (fun t=>decide (t=p)) ts i∧w'=w:=by
 obtain⟨q,cap,rfl⟩:=hx.form
 have HFX:Hid (TsAt w (.slice q ts.length cap) ts):=hx
 obtain⟨L,hL⟩:∃L,ts.length=L:=⟨_,rfl⟩
 have HX:Hid (ts.length=L):=hL
 rw[hL]at hl ⊢
 clear hL hx
 go_enter Tryz.func112,Tryz.ntmps112
 go_wp2
 go_loopw [8] (fun k wr=> ∃n:Nat,n≤L∧k= .int .i64 n∧(∀j (h:j<ts.length),j<n→decide (ts[j]=p)=false)∧wr=w) (fun k _=>L-(intOf k).toNat)
 case atStart=>exact ⟨0,by omega,rfl,fun j h h'=>absurd h' (Nat.not_lt_zero _),rfl⟩
 case round =>
   obtain⟨n,hn,rfl,hno,rfl⟩:=hrel
   have HNO:Hid (∀j (h:j<ts.length),j<n→decide (ts[j]=p)=false):=hno
   clear hno
   by_cases hlt:n<L
   · have hltx:n<ts.length:=by rw[HX.out];exact hlt
     obtain⟨b,hq,hc⟩:=HFX.out.cells (fun e=>by rw[e]at hltx;simp at hltx)
     subst hq
     have c0:=hc n hltx
     have hi:(n:Int)<(L:Int):=by omega
     have hi0':(0:Int)≤(n:Int):=by omega
     by_cases he:ts[n]=p
     · have HI:Hid (IdxOf (fun t=>decide (t=p)) ts n):=idx_yes (p:=fun t=>decide (t=p)) HNO.out hltx (decide_eq_true he)
       rw[he]at c0
       clear hc he hltx
       have d1:(p.toList == p.toList)=true:=by simp
       go_wp2
       go_ret
       exact⟨_,rfl,HI.out,rfl⟩
     · have HN1:Hid (∀j (h:j<ts.length),j<n+1→decide (ts[j]=p)=false):=no_succ (p:=fun t=>decide (t=p)) HNO.out hltx (decide_eq_false he)
       have d1:(p.toList == ts[n].toList)=false:=neBB (fun e=>he (part_ext e).symm)
       clear hc he
       generalize ts[n]=f at c0 d1
       clear hltx
       go_wp2
       go_roundw
       case rel=>exact ⟨n+1,by omega,by go_num,HN1.out,by first | rfl | trivial⟩
       case measure=>simp [intOf];omega
   · obtain rfl:n=L:=by omega
     have HI:Hid (IdxOf (fun t=>decide (t=p)) ts (-1)):=idx_no (p:=fun t=>decide (t=p)) (fun j hj _=>HNO.out j hj (by rw[←HX.out];exact hj))
     go_wp2
     go_ret
     exact⟨_,rfl,HI.out,rfl⟩
set_option maxRecDepth 100000 in
set_option maxHeartbeats 1000000 in
theorem containsT_any (v:Value) (ts:List ByteArray) (p:ByteArray) (w:World) (hx:TsAt w v ts) (hl:ts.length≤20000) :
   Calls Tryz.prog 57 #[v,.string p] w fun e w'=>e= .returned (.bool (inT ts p))∧w'=w:=by
 have hix:=indexT_any v ts p w hx hl
 unfold inT
 obtain⟨q,cap,rfl⟩:=hx.form
 generalize ts.length=L at hix ⊢
 clear hx
 go_enter Tryz.func57,Tryz.ntmps57
 go_wp2_with fail
 refine hix.mono ?_
 rintro e w1 ⟨i,rfl,hi,rfl⟩
 clear hix
 rcases hi with⟨rfl,ha⟩|⟨n,hn,rfl,-,-,ha⟩
 · have HA:Hid (_=_):=ha
   clear ha
   go_wp2
   go_ret
   exact⟨by rw[HA.out];rfl,rfl⟩
 · have HA:Hid (_=_):=ha
   have hd:(0:Int)≤(n:Int):=by omega
   clear ha hn
   go_wp2
   go_ret
   exact⟨by rw[HA.out];rfl,rfl⟩
theorem But.drew {P:Nat→Prop} {w w':World} (h:But P w w'):But P w w'.drew:=⟨h.os,h.tape,h.output,h.size,h.block⟩
theorem SnAt.drew {W:World} {b:Nat} {s:Sn} {vf:Value} (h:SnAt W b s vf):SnAt W.drew b s vf:=h
theorem FlsAt.drew {W:World} {v:Value} {fs:List Fl} (h:FlsAt W v fs):FlsAt W.drew v fs:=h.below (Below.refl _ _).drew
theorem fls_two (W:World) (x y:Fl):FlsAt (W.alloc (.cells #[.string x.1,.string x.2.1,.int .i64 x.2.2.1,.int .i64 x.2.2.2.1,.int .i64 x.2.2.2.2.1,.int .i64 x.2.2.2.2.2,.string y.1,.string y.2.1,.int .i64 y.2.2.1,.int .i64 y.2.2.2.1,.int .i64 y.2.2.2.2.1,.int .i64 y.2.2.2.2.2] 43)) (.slice (some ⟨W.heap.size,0,none⟩) 2 2) [x,y]:=by
 refine Or.inr ⟨W.heap.size,0,2,rfl,Nat.le_refl _,fun j hj=>?_⟩
 match j,hj with
 | 0,_=>simp
 | 1,_=>simp
section
variable {a : Nat → Addr} {B : Nat} {EM : World → Prop} {SAt : World → Value → (Nat → Prop) → St → Prop}
theorem ScanK.up (K:ScanK a EM SAt) (n:Nat):ScanK a (upE EM n) SAt where
 rows:=fun W v FP st s vf lo hi h=>K.rows W v FP st s vf lo hi h.1
 rows0:=fun W s vf lo hi h=>K.rows0 W s vf lo hi h.1
end
def longFs (fs:List Fl):Bool:=(decide (40<fs.length) && decide (fs.length≠60) && decide (fs.length≠61)) || fs.any longFB
theorem anyLong_succ {fs:List Fl} {n:Nat} (h:∀j (h:j<fs.length),j<n→longFB fs[j]=false) (hn:n<fs.length) (e:longFB fs[n]=false):∀j (h:j<fs.length),j<n+1→longFB fs[j]=false:=fun j hj hjn=>by
 rcases Nat.lt_or_ge j n with h' | h'
 · exact h j hj h'
 · obtain rfl:j=n:=by omega
   exact e
set_option maxRecDepth 100000 in
set_option maxHeartbeats 4000000 in
theorem longFiles_any (v:Value) (fs:List Fl) (w:World) (hx:FlsAt w v fs) (hl:fs.length≤maxLen) (hsz:∀f∈fs,f.1.size≤maxLen∧f.2.1.size≤maxLen) :
   Calls Tryz.prog 18 #[v] w fun e w'=>e= .returned (.int .i64 (if longFs fs then 1 else 0))∧Below w.heap.size w w':=by
 obtain⟨q,cap,rfl⟩:=hx.form
 have HFX:Hid (FlsAt w (.slice q fs.length cap) fs):=hx
 have HSZ:Hid (∀f∈fs,f.1.size≤maxLen∧f.2.1.size≤maxLen):=hsz
 obtain⟨L,hL⟩:∃L,fs.length=L:=⟨_,rfl⟩
 have HX:Hid (fs.length=L):=hL
 rw[hL]at hl ⊢
 unfold maxLen at hl
 generalize hR:(if longFs fs then (1:Int) else 0)=R
 have HR:Hid ((if longFs fs then (1:Int) else 0)=R):=hR
 clear hL hx hsz hR
 by_cases hbig:40<L∧L≠60∧L≠61
 · have hRR:R=1:=by
     rw[←HR.out,if_pos]
     unfold longFs
     rw[HX.out]
     simp[hbig.1,hbig.2.1,hbig.2.2]
   subst hRR
   obtain⟨b1,b2,b3⟩:=hbig
   have i1:(40:Int)<(L:Int):=by omega
   have j2:((L:Int) != 60)=true:=by simp;omega
   have j3:((L:Int) != 61)=true:=by simp;omega
   go_enter Tryz.func18,Tryz.ntmps18
   go_wp2
   go_ret
   exact⟨rfl,Below.refl _ _⟩
 · have HS :Hid ((decide (40<fs.length) && decide (fs.length≠60) && decide (fs.length≠61))=false):=by
     show _=_
     rw[HX.out]
     rw[Bool.eq_false_iff]
     intro h
     simp only[Bool.and_eq_true,decide_eq_true_eq]at h
     exact hbig ⟨h.1.1,h.1.2,h.2⟩
   have hc3:(¬(40:Int)<(L:Int))∨((40:Int)<(L:Int)∧(L:Int)=60)∨((40:Int)<(L:Int)∧¬(L:Int)=60∧(L:Int)=61):=by omega
   clear hbig
   rcases hc3 with i1 | ⟨i1,i2⟩|⟨i1,i2,i3⟩
   · skip
     go_enter Tryz.func18,Tryz.ntmps18
     go_wp2
     go_loopw [3] (fun k wr=> ∃n:Nat,n≤L∧k= .int .i64 n∧(∀j (h:j<fs.length),j<n→longFB fs[j]=false)∧Below w.heap.size w wr) (fun k _=>L-(intOf k).toNat)
     case atStart=>exact ⟨0,by omega,rfl,fun j h h'=>absurd h' (Nat.not_lt_zero _),Below.refl _ _⟩
     case round =>
       obtain⟨n,hn,rfl,hno,hb⟩:=hrel
       have HNO:Hid (∀j (h:j<fs.length),j<n→longFB fs[j]=false):=hno
       clear hno
       by_cases hlt:n<L
       · have hltx:n<fs.length:=by rw[HX.out];exact hlt
         obtain⟨b,o,hq,hc⟩:=(HFX.out.below hb).cells (fun e=>by rw[e]at hltx;simp at hltx)
         subst hq
         obtain⟨c0,c1,c2,c3,c4,c5⟩:=hc n hltx
         obtain⟨k1,k2⟩:=HSZ.out fs[n] (List.getElem_mem _)
         have hlf:=longFile_any fs[n] wr k1 k2
         have hyes:longFB fs[n]=true→R=1:=fun e=>by
           rw[←HR.out,if_pos]
           unfold longFs
           rw[Bool.or_eq_true]
           exact Or.inr (List.any_eq_true.2 ⟨fs[n],List.getElem_mem _,e⟩)
         have hnx:=fun e=>anyLong_succ HNO.out hltx e
         unfold flV at hlf
         generalize longFB fs[n]=lb at hlf hyes hnx
         generalize fs[n]=f at c0 c1 c2 c3 c4 c5 hlf
         obtain⟨fp,fq,fn,flo,fhi,fseq⟩:=f
         dsimp only at c0 c1 c2 c3 c4 c5 hlf
         have hiL:(n:Int)<(L:Int):=by omega
         have hi0':(0:Int)≤(n:Int):=by omega
         clear hc k1 k2 hltx
         cases lb with
         | true =>
           obtain rfl:=hyes rfl
           simp only[if_true]at hlf
           clear hyes hnx
           go_wp2_with fail
           refine hlf.mono ?_
           rintro e w3 ⟨rfl,hb3⟩
           clear hlf
           go_wp2
           go_ret
           exact⟨rfl,hb.trans (hb3.mono hb.size)⟩
         | false =>
           have HNX:Hid (∀j (h:j<fs.length),j<n+1→longFB fs[j]=false):=hnx rfl
           simp only[Bool.false_eq_true,if_false]at hlf
           clear hyes hnx
           go_wp2_with fail
           refine hlf.mono ?_
           rintro e w3 ⟨rfl,hb3⟩
           clear hlf
           have hb4:Below w.heap.size w w3:=hb.trans (hb3.mono hb.size)
           go_wp2
           go_roundw
           case rel=>exact ⟨n+1,by omega,by go_num,HNX.out,hb4⟩
           case measure=>simp [intOf];omega
       · obtain rfl:n=L:=by omega
         have hRR:R=0:=by
           rw[←HR.out,if_neg]
           unfold longFs
           rw[HS.out,Bool.false_or]
           intro h
           obtain⟨f,hf,e⟩:=List.any_eq_true.1 h
           obtain⟨j,hj,rfl⟩:=List.mem_iff_getElem.1 hf
           rw[HNO.out j hj (by rw[←HX.out];exact hj)]at e
           cases e
         subst hRR
         go_wp2
         go_ret
         exact⟨rfl,hb⟩
   · have j2:((L:Int) != 60)=false:=by rw[i2];rfl
     go_enter Tryz.func18,Tryz.ntmps18
     go_wp2
     go_loopw [3] (fun k wr=> ∃n:Nat,n≤L∧k= .int .i64 n∧(∀j (h:j<fs.length),j<n→longFB fs[j]=false)∧Below w.heap.size w wr) (fun k _=>L-(intOf k).toNat)
     case atStart=>exact ⟨0,by omega,rfl,fun j h h'=>absurd h' (Nat.not_lt_zero _),Below.refl _ _⟩
     case round =>
       obtain⟨n,hn,rfl,hno,hb⟩:=hrel
       have HNO:Hid (∀j (h:j<fs.length),j<n→longFB fs[j]=false):=hno
       clear hno
       by_cases hlt:n<L
       · have hltx:n<fs.length:=by rw[HX.out];exact hlt
         obtain⟨b,o,hq,hc⟩:=(HFX.out.below hb).cells (fun e=>by rw[e]at hltx;simp at hltx)
         subst hq
         obtain⟨c0,c1,c2,c3,c4,c5⟩:=hc n hltx
         obtain⟨k1,k2⟩:=HSZ.out fs[n] (List.getElem_mem _)
         have hlf:=longFile_any fs[n] wr k1 k2
         have hyes:longFB fs[n]=true→R=1:=fun e=>by
           rw[←HR.out,if_pos]
           unfold longFs
           rw[Bool.or_eq_true]
           exact Or.inr (List.any_eq_true.2 ⟨fs[n],List.getElem_mem _,e⟩)
         have hnx:=fun e=>anyLong_succ HNO.out hltx e
         unfold flV at hlf
         generalize longFB fs[n]=lb at hlf hyes hnx
         generalize fs[n]=f at c0 c1 c2 c3 c4 c5 hlf
         obtain⟨fp,fq,fn,flo,fhi,fseq⟩:=f
         dsimp only at c0 c1 c2 c3 c4 c5 hlf
         have hiL:(n:Int)<(L:Int):=by omega
         have hi0':(0:Int)≤(n:Int):=by omega
         clear hc k1 k2 hltx
         cases lb with
         | true =>
           obtain rfl:=hyes rfl
           simp only[if_true]at hlf
           clear hyes hnx
           go_wp2_with fail
           refine hlf.mono ?_
           rintro e w3 ⟨rfl,hb3⟩
           clear hlf
           go_wp2
           go_ret
           exact⟨rfl,hb.trans (hb3.mono hb.size)⟩
         | false =>
           have HNX:Hid (∀j (h:j<fs.length),j<n+1→longFB fs[j]=false):=hnx rfl
           simp only[Bool.false_eq_true,if_false]at hlf
           clear hyes hnx
           go_wp2_with fail
           refine hlf.mono ?_
           rintro e w3 ⟨rfl,hb3⟩
           clear hlf
           have hb4:Below w.heap.size w w3:=hb.trans (hb3.mono hb.size)
           go_wp2
           go_roundw
           case rel=>exact ⟨n+1,by omega,by go_num,HNX.out,hb4⟩
           case measure=>simp [intOf];omega
       · obtain rfl:n=L:=by omega
         have hRR:R=0:=by
           rw[←HR.out,if_neg]
           unfold longFs
           rw[HS.out,Bool.false_or]
           intro h
           obtain⟨f,hf,e⟩:=List.any_eq_true.1 h
           obtain⟨j,hj,rfl⟩:=List.mem_iff_getElem.1 hf
           rw[HNO.out j hj (by rw[←HX.out];exact hj)]at e
           cases e
         subst hRR
         go_wp2
         go_ret
         exact⟨rfl,hb⟩
   · have j2:((L:Int) != 60)=true:=by simp[i2]
     have j3:((L:Int) != 61)=false:=by rw[i3];rfl
     go_enter Tryz.func18,Tryz.ntmps18
     go_wp2
     go_loopw [3] (fun k wr=> ∃n:Nat,n≤L∧k= .int .i64 n∧(∀j (h:j<fs.length),j<n→longFB fs[j]=false)∧Below w.heap.size w wr) (fun k _=>L-(intOf k).toNat)
     case atStart=>exact ⟨0,by omega,rfl,fun j h h'=>absurd h' (Nat.not_lt_zero _),Below.refl _ _⟩
     case round =>
       obtain⟨n,hn,rfl,hno,hb⟩:=hrel
       have HNO:Hid (∀j (h:j<fs.length),j<n→longFB fs[j]=false):=hno
       clear hno
       by_cases hlt:n<L
       · have hltx:n<fs.length:=by rw[HX.out];exact hlt
         obtain⟨b,o,hq,hc⟩:=(HFX.out.below hb).cells (fun e=>by rw[e]at hltx;simp at hltx)
         subst hq
         obtain⟨c0,c1,c2,c3,c4,c5⟩:=hc n hltx
         obtain⟨k1,k2⟩:=HSZ.out fs[n] (List.getElem_mem _)
         have hlf:=longFile_any fs[n] wr k1 k2
         have hyes:longFB fs[n]=true→R=1:=fun e=>by
           rw[←HR.out,if_pos]
           unfold longFs
           rw[Bool.or_eq_true]
           exact Or.inr (List.any_eq_true.2 ⟨fs[n],List.getElem_mem _,e⟩)
         have hnx:=fun e=>anyLong_succ HNO.out hltx e
         unfold flV at hlf
         generalize longFB fs[n]=lb at hlf hyes hnx
         generalize fs[n]=f at c0 c1 c2 c3 c4 c5 hlf
         obtain⟨fp,fq,fn,flo,fhi,fseq⟩:=f
         dsimp only at c0 c1 c2 c3 c4 c5 hlf
         have hiL:(n:Int)<(L:Int):=by omega
         have hi0':(0:Int)≤(n:Int):=by omega
         clear hc k1 k2 hltx
         cases lb with
         | true =>
           obtain rfl:=hyes rfl
           simp only[if_true]at hlf
           clear hyes hnx
           go_wp2_with fail
           refine hlf.mono ?_
           rintro e w3 ⟨rfl,hb3⟩
           clear hlf
           go_wp2
           go_ret
           exact⟨rfl,hb.trans (hb3.mono hb.size)⟩
         | false =>
           have HNX:Hid (∀j (h:j<fs.length),j<n+1→longFB fs[j]=false):=hnx rfl
           simp only[Bool.false_eq_true,if_false]at hlf
           clear hyes hnx
           go_wp2_with fail
           refine hlf.mono ?_
           rintro e w3 ⟨rfl,hb3⟩
           clear hlf
           have hb4:Below w.heap.size w w3:=hb.trans (hb3.mono hb.size)
           go_wp2
           go_roundw
           case rel=>exact ⟨n+1,by omega,by go_num,HNX.out,hb4⟩
           case measure=>simp [intOf];omega
       · obtain rfl:n=L:=by omega
         have hRR:R=0:=by
           rw[←HR.out,if_neg]
           unfold longFs
           rw[HS.out,Bool.false_or]
           intro h
           obtain⟨f,hf,e⟩:=List.any_eq_true.1 h
           obtain⟨j,hj,rfl⟩:=List.mem_iff_getElem.1 hf
           rw[HNO.out j hj (by rw[←HX.out];exact hj)]at e
           cases e
         subst hRR
         go_wp2
         go_ret
         exact⟨rfl,hb⟩
def oneF (n:UInt8):Fl:=(⟨#[100,97,116,97,47,n]⟩,⟨#[97]⟩,1,0,0,1)
theorem dig_o (d:Nat) (h:d<10):decDigits d= [UInt8.ofNat (48+d)]:=by rw[decDigits,dif_pos h]
theorem on_1:itoa 1= [49]:=by
 have h:decDigits 1= [49]:=dig_o 1 (by decide)
 simp[itoa,h]
theorem on_2:itoa 2= [50]:=by
 have h:decDigits 2= [50]:=dig_o 2 (by decide)
 simp[itoa,h]
theorem on_path1:pathO (oneF 49).1.data.toList=some (false,1):=by
 have h:=path_of false [49]
 have hn:numO [49]=some 1:=by rw[←on_1];exact numO_itoa 1 (by decide)
 have hp:pathN [49]=some 1:=by unfold pathN;rw[hn];rfl
 rw[hp]at h
 exact h
theorem on_path2:pathO (oneF 50).1.data.toList=some (false,2):=by
 have h:=path_of false [50]
 have hn:numO [50]=some 2:=by rw[←on_2];exact numO_itoa 2 (by decide)
 have hp:pathN [50]=some 2:=by unfold pathN;rw[hn];rfl
 rw[hp]at h
 exact h
theorem on_ok1:fileE (oneF 49)=0:=by
 unfold fileE
 rw[on_path1]
 decide
theorem on_fk1:fk (oneF 49)=1:=by unfold fk;rw[(pk_some on_path1).1];rfl
theorem on_fk2:fk (oneF 50)=2:=by unfold fk;rw[(pk_some on_path2).1];rfl
def longSn (s:Sn):Bool:=decide (30<s.2.2.2.2.2.1.size) || longFs s.2.2.2.2.2.2
set_option maxRecDepth 100000 in
set_option maxHeartbeats 2000000 in
theorem longSnap_any (s:Sn) (vf:Value) (w:World) (hx:FlsAt w vf s.2.2.2.2.2.2) (ho:s.2.2.2.2.2.1.size≤maxLen) (hl:s.2.2.2.2.2.2.length≤maxLen) (hsz:∀f∈s.2.2.2.2.2.2,f.1.size≤maxLen∧f.2.1.size≤maxLen) :
   Calls Tryz.prog 8 #[snV s vf] w fun e w'=>e= .returned (.int .i64 (if longSn s then 1 else 0))∧Below w.heap.size w w':=by
 have hlf:=fun W (hb:Below w.heap.size w W)=>longFiles_any vf s.2.2.2.2.2.2 W (hx.below hb) hl hsz
 generalize hR:(if longSn s then (1:Int) else 0)=R
 have hbg:30<s.2.2.2.2.2.1.size→R=1:=fun e=>by rw[←hR,if_pos];unfold longSn;simp[e]
 have hsm:¬30<s.2.2.2.2.2.1.size→R=if longFs s.2.2.2.2.2.2 then 1 else 0:=fun e=>by rw[←hR];unfold longSn;simp[e]
 unfold maxLen at ho
 obtain⟨q,cap,rfl⟩:=hx.form
 clear hR hx hsz
 obtain⟨id,par,seq,day,idx,op,fs⟩:=s
 unfold snV
 dsimp only at *
 generalize (if longFs fs then (1:Int) else 0)=LF at *
 generalize fs.length=L at *
 have hal:Below w.heap.size w (w.alloc (.cells #[.int .i64 id,.int .i64 par,.int .i64 seq,.int .i64 day,.int .i64 idx,.string op,.slice q L cap] 25)):=(Below.refl _ _).alloc (Nat.le_refl _) _
 by_cases hb:30<op.size
 · obtain rfl:=hbg hb
   have hi:(30:Int)<(op.size:Int):=by omega
   clear hbg hsm hlf hb
   go_enter Tryz.func8,Tryz.ntmps8
   go_wp2
   go_ret
   exact⟨rfl,hal⟩
 · obtain rfl:=hsm hb
   have hi:¬(30:Int)<(op.size:Int):=by omega
   have hl1:=hlf _ hal
   clear hbg hsm hlf hb
   go_enter Tryz.func8,Tryz.ntmps8
   go_wp2_with fail
   generalize w.alloc (.cells #[.int .i64 id,.int .i64 par,.int .i64 seq,.int .i64 day,.int .i64 idx,.string op,.slice q L cap] 25)=WA at hal hl1 ⊢
   refine hl1.mono ?_
   rintro e w1 ⟨rfl,hb1⟩
   go_wp2
   go_ret
   exact⟨rfl,hal.trans (hb1.mono hal.size)⟩
set_option maxRecDepth 100000 in
set_option maxHeartbeats 4000000 in
theorem ownSnap_any (s:Sn) (vf:Value) (w:World) (hx:FlsAt w vf s.2.2.2.2.2.2) (hl:s.2.2.2.2.2.2.length≤1000) :
   Calls Tryz.prog 15 #[snV s vf] w fun e w'=> ∃v',e= .returned (snV s v')∧FlsAt w' v' s.2.2.2.2.2.2∧Below w.heap.size w w':=by
 have how:=fun W (hb:Below w.heap.size w W)=>ownFiles_any vf s.2.2.2.2.2.2 W (hx.below hb) hl
 obtain⟨q,cap,rfl⟩:=hx.form
 clear hx
 obtain⟨id,par,seq,day,idx,op,fs⟩:=s
 unfold snV
 dsimp only at *
 have hal:Below w.heap.size w ((w.alloc (.cells #[.int .i64 id,.int .i64 par,.int .i64 seq,.int .i64 day,.int .i64 idx,.string op,.slice q fs.length cap] 25)).alloc (.cells #[.int .i64 0,.int .i64 0,.int .i64 0,.int .i64 0,.int .i64 0,.string ⟨#[]⟩,.slice none 0 0] 25)):=((Below.refl _ _).alloc (Nat.le_refl _) _).alloc (by simp) _
 have hsn:SnAt ((w.alloc (.cells #[.int .i64 id,.int .i64 par,.int .i64 seq,.int .i64 day,.int .i64 idx,.string op,.slice q fs.length cap] 25)).alloc (.cells #[.int .i64 0,.int .i64 0,.int .i64 0,.int .i64 0,.int .i64 0,.string ⟨#[]⟩,.slice none 0 0] 25)) w.heap.size (id,par,seq,day,idx,op,fs) (.slice q fs.length cap):=heap_alloc2_old w _ _
 have hz:SnAt ((w.alloc (.cells #[.int .i64 id,.int .i64 par,.int .i64 seq,.int .i64 day,.int .i64 idx,.string op,.slice q fs.length cap] 25)).alloc (.cells #[.int .i64 0,.int .i64 0,.int .i64 0,.int .i64 0,.int .i64 0,.string ⟨#[]⟩,.slice none 0 0] 25)) (w.heap.size+1) zeroS (.slice none 0 0):=heap_alloc2_new w _ _
 have ho1:=how _ hal
 clear how
 obtain⟨L,hL⟩:∃L,fs.length=L:=⟨_,rfl⟩
 have HL:Hid (fs.length=L):=hL
 rw[hL]at hal hsn hz ho1 hl ⊢
 clear hL
 go_enter Tryz.func15,Tryz.ntmps15
 go_upto_region 1 with fail
 generalize (w.alloc (.cells #[.int .i64 id,.int .i64 par,.int .i64 seq,.int .i64 day,.int .i64 idx,.string op,.slice q L cap] 25)).alloc (.cells #[.int .i64 0,.int .i64 0,.int .i64 0,.int .i64 0,.int .i64 0,.string ⟨#[]⟩,.slice none 0 0] 25)=WA at hal hsn hz ho1 ⊢
 have z6:=hsn.cells.2.2.2.2.2.2
 go_wp2_with fail
 refine ho1.mono ?_
 rintro e w1 ⟨v',rfl,ow,hb1⟩
 clear ho1 z6
 have hv1:FlsAt w1 v' fs:=(flsAt_of_own ow).1
 have hB1:Below w.heap.size w w1:=hal.trans (hb1.mono hal.size)
 have hs1:=hsn.below hb1
 have hz1:=hz.below hb1
 clear hsn hz hb1 hal ow
 obtain⟨qv,cv,hq⟩:=hv1.form
 subst hq
 have hoS:=off_of hs1 hv1
 have hv2:=hv1.set_off hoS 6 (.slice qv fs.length cv)
 have hs2:SnAt (w1.setCell ⟨w.heap.size,6,none⟩ (.slice qv fs.length cv)) w.heap.size (id,par,seq,day,idx,op,fs) (.slice qv fs.length cv):=by
   have:=hs1
   unfold SnAt at *
   rw[heap_setCell_same _ _ _ _ _ _ this];rfl
 have hz2:=sn_other hz1 (show w.heap.size≠w.heap.size+1 by omega) 6 (.slice qv fs.length cv)
 have hB2:Below w.heap.size w (w1.setCell ⟨w.heap.size,6,none⟩ (.slice qv fs.length cv)):=hB1.setCell (Nat.le_refl _) _
 have fS:=hs1.fz
 have x6:=hs1.cells.2.2.2.2.2.2
 clear hs1 hz1 hv1 hB1 hoS
 rw[HL.out]at hv2 hs2 hz2 hB2 ⊢
 go_upto_region 2 with fail
 generalize w1.setCell ⟨w.heap.size,6,none⟩ (.slice qv L cv)=w2 at hv2 hs2 hz2 hB2 ⊢
 clear fS x6
 obtain⟨p0,p1,p2,p3,p4,p5,p6⟩:=hs2.cells
 dsimp only at p0 p1 p2 p3 p4 p5
 have hoZ:=off_of hz2 hv2
 have hle:w.heap.size≤w.heap.size+1:=Nat.le_succ _
 have fz:=hz2.fz
 obtain⟨y0,y1,y2,y3,y4,y5,y6⟩:=hz2.cells
 have HV3:=(((((((hv2.set_off hoZ 0 (.int .i64 id)).set_off hoZ 1 (.int .i64 par)).set_off hoZ 2 (.int .i64 seq)).set_off hoZ 3 (.int .i64 day)).set_off hoZ 4 (.int .i64 idx)).set_off hoZ 5 (.string op)).set_off hoZ 6 (.slice qv L cv))
 obtain⟨u0,u1,u2,u3,u4,u5,u6⟩:=(hz2.set (id,par,seq,day,idx,op,fs) (.slice qv L cv)).cells
 have hB3:=snSet_below (s:=(id,par,seq,day,idx,op,fs)) (vf:=.slice qv L cv) hB2 hle
 unfold snSet at u0 u1 u2 u3 u4 u5 u6 hB3
 dsimp only at u0 u1 u2 u3 u4 u5 hB3 y0 y1 y2 y3 y4 y5
 clear hz2 hs2 hv2 hoZ
 go_wp2
 refine bodyPost_ret (v:=.agg #[.int .i64 id,.int .i64 par,.int .i64 seq,.int .i64 day,.int .i64 idx,.string op,.slice qv L cv]) (by simp[results,Tryz.results15,go_sem,u0,u1,u2,u3,u4,u5,u6]) rfl ?_
 exact⟨.slice qv L cv,rfl,HV3,hB3⟩
end Go.Proofs.YtgckdomafbnmkaaGreatDoor
