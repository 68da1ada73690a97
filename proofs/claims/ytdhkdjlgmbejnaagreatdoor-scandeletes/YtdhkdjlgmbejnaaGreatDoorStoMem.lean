/- By an AI agent. -/
import Derived.Test.YtdhkdjlgmbejnaaGreatDoorScanPrn
import Derived.Maps.OwnSet
import Derived.Maps.Views
import Derived.Maps.Ext
import Derived.Maps.RangeWalk
namespace Go.Proofs.YtdhkdjlgmbejnaaGreatDoor
open Go Go.Lib Go.Sort
abbrev Ct:=List (Rw×Int)×List (Int×Int)
def lastC (l:List (Int×Int)) (k:Int):Int:=l.foldl (fun m p=>if p.1=k then max m p.2 else m) 0
theorem lastC_snoc (l:List (Int×Int)) (z q k:Int):lastC (l++ [(z,q)]) k=if z=k then max (lastC l k) q else lastC l k:=by
 unfold lastC
 rw[List.foldl_append]
 rfl
theorem lastC_keys (l:List (Int×Int)) (q k:Int):∀ks:List Int,lastC (l++ks.map fun z=>(z,q)) k=if ks.contains k then max (lastC l k) q else lastC l k:=by
 intro ks
 induction ks generalizing l with
 | nil=>simp
 | cons z r ih =>
   have e:l++(z :: r).map (fun z=>(z,q))=(l++ [(z,q)])++r.map fun z=>(z,q):=by simp
   rw[e,ih,lastC_snoc]
   by_cases h1:z=k
   · subst h1
     by_cases h2:r.contains z=true
     · rw[if_pos h2,if_pos rfl,if_pos (by simp)]
       omega
     · rw[if_neg h2,if_pos rfl,if_pos (by simp)]
   · have hc:(z :: r).contains k=r.contains k:=by
       rw[List.contains_cons]
       have:(k == z)=false:=by simpa using fun e=>h1 e.symm
       rw[this,Bool.false_or]
     rw[if_neg h1,hc]
theorem lastC_bound {l:List (Int×Int)} {B:Int} (h:∀p∈l,p.2≤B) (hB:0≤B) (k:Int):0≤lastC l k∧lastC l k≤B:=by
 unfold lastC
 have key:∀(l:List (Int×Int)) (m:Int),(∀p∈l,p.2≤B)→0≤m→m≤B→0≤l.foldl (fun m p=>if p.1=k then max m p.2 else m) m∧l.foldl (fun m p=>if p.1=k then max m p.2 else m) m≤B:=by
   intro l
   induction l with
   | nil=>intro m _ h1 h2;exact⟨h1,h2⟩
   | cons p r ih =>
     intro m hp h1 h2
     rw[List.foldl_cons]
     have h3:=hp p List.mem_cons_self
     refine ih _ (fun q hq=>hp q (List.mem_cons_of_mem _ hq)) ?_ ?_
     · split<;>omega
     · split<;>omega
 exact key l 0 h (Int.le_refl _) hB
def takeC (x:Fl) (text:ByteArray) (c:Ct):Ct :=
 if x.2.1.data.toList≠ [45] then (c.1++(dataO text.data.toList).1.map (fun r=>(r,x.2.2.2.2.2)),c.2) else (c.1,c.2++(goneO text.data.toList).1.map fun k=>(k,x.2.2.2.2.2))
theorem takeC_data {x:Fl} {text:ByteArray} {c:Ct} (h:x.2.1.data.toList≠ [45]):takeC x text c=(c.1++(dataO text.data.toList).1.map (fun r=>(r,x.2.2.2.2.2)),c.2):=by unfold takeC;rw[if_pos h]
theorem takeC_gone {x:Fl} {text:ByteArray} {c:Ct} (h:x.2.1.data.toList= [45]):takeC x text c=(c.1,c.2++(goneO text.data.toList).1.map fun k=>(k,x.2.2.2.2.2)):=by unfold takeC;rw[if_neg (by simpa using h)]
def readC (obs:List Ob) (g:List Fl) (c:Ct):Ct:=g.foldl (fun c x=>takeC x (fileR obs x).2 c) c
theorem readC_snoc (obs:List Ob) (g:List Fl) (x:Fl) (c:Ct):readC obs (g++ [x]) c=takeC x (fileR obs x).2 (readC obs g c):=by
 unfold readC
 rw[List.foldl_append]
 rfl
def deadB (l:List (Int×Int)) (p:Rw×Int):Bool:=decide (p.2<lastC l p.1.2.1)
def leftC (lo hi:Int) (c:Ct):List (Rw×Int):=c.1.filter fun p=>inB lo hi p.1 && !deadB c.2 p
theorem scan_good {obs:List Ob} {lo hi:Int} :∀(fs:List Fl) (i:Nat) (acc:List (Rw×Int)),(∀x∈fs.filter (inP lo hi),(fileR obs x).1=0)→scanG obs lo hi fs i acc=((fs.filter (inP lo hi)).foldl (fun a x=>addS lo hi x (fileR obs x).2 a) acc,0,none)
 | [],i,acc,_=>rfl
 | x :: r,i,acc,h=>by
   unfold scanG
   by_cases hp:inP lo hi x=false
   · rw[if_pos hp]
     have e:(x :: r).filter (inP lo hi)=r.filter (inP lo hi):=by rw[List.filter_cons,hp];rfl
     rw[e]at h ⊢
     exact scan_good r (i+1) acc h
   · have hp':inP lo hi x=true:=by simpa using hp
     have e:(x :: r).filter (inP lo hi)=x :: r.filter (inP lo hi):=by rw[List.filter_cons,hp'];rfl
     rw[e]at h ⊢
     rw[if_neg hp,if_neg (by simpa using h x List.mem_cons_self),List.foldl_cons]
     exact scan_good r (i+1) _ fun y hy=>h y (List.mem_cons_of_mem _ hy)
theorem scan_bad {obs:List Ob} {lo hi:Int} :∀(fs:List Fl) (i:Nat) (acc:List (Rw×Int)) (n:Nat) (x:Fl),(fs.filter (inP lo hi))[n]? =some x→(∀m y,m<n→(fs.filter (inP lo hi))[m]? =some y→(fileR obs y).1=0)→(fileR obs x).1≠0→∃j,fs[j]? =some x∧scanG obs lo hi fs i acc=([],(fileR obs x).1,some (i+j))
 | [],i,acc,n,x,h,_,_=>by simp at h
 | y :: r,i,acc,n,x,h,hm,hb=>by
   unfold scanG
   by_cases hp:inP lo hi y=false
   · rw[if_pos hp]
     have e:(y :: r).filter (inP lo hi)=r.filter (inP lo hi):=by rw[List.filter_cons,hp];rfl
     rw[e]at h hm
     obtain⟨j,h1,h2⟩:=scan_bad r (i+1) acc n x h hm hb
     exact⟨j+1,by simpa using h1,by rw[h2,Nat.add_assoc,Nat.add_comm 1 j]⟩
   · have hp':inP lo hi y=true:=by simpa using hp
     have e:(y :: r).filter (inP lo hi)=y :: r.filter (inP lo hi):=by rw[List.filter_cons,hp'];rfl
     rw[e]at h hm
     rw[if_neg hp]
     cases n with
     | zero =>
       rw[List.getElem?_cons_zero]at h
       obtain rfl:=Option.some.inj h
       rw[if_pos hb]
       exact⟨0,rfl,rfl⟩
     | succ k =>
       have h0:=hm 0 y (by omega) rfl
       rw[if_neg (by simpa using h0)]
       rw[List.getElem?_cons_succ]at h
       obtain⟨j,h1,h2⟩:=scan_bad r (i+1) _ k x h (fun m z hk hz=>hm (m+1) z (by omega) (by rw[List.getElem?_cons_succ];exact hz)) hb
       exact⟨j+1,by simpa using h1,by rw[h2,Nat.add_assoc,Nat.add_comm 1 j]⟩
def Ahead (g:List Fl):Prop:=g.Pairwise fun x y=>x.2.1.data.toList= [45]→y.2.1.data.toList= [45]
theorem file_part {f:Fl} (h:fileE f=0):f.2.1.data.toList= [45]↔1073741824<fk f:=by
 obtain⟨g,n,hp,hq,hb⟩:=file_good h
 rw[part_gone hq]
 obtain⟨e,h1,h2⟩:=pk_some hp
 unfold fk
 rw[e]
 cases g
 · simp only[Bool.false_eq_true,if_false,false_iff];omega
 · simp only[if_true,true_iff];omega
theorem ahead_of {fs:List Fl} (h:Rises 0 fs):Ahead fs:=by
 unfold Ahead
 obtain⟨h1,h2⟩:=h
 induction fs with
 | nil=>exact List.Pairwise.nil
 | cons f r ih =>
   rw[List.pairwise_cons]at h2 ⊢
   refine⟨fun g hg hf=>?_,ih (fun g hg=>h1 g (List.mem_cons_of_mem _ hg)) h2.2⟩
   have e1:=(file_part (h1 f List.mem_cons_self).1).1 hf
   have e2:=h2.1 g hg
   exact(file_part (h1 g (List.mem_cons_of_mem _ hg)).1).2 (by omega)
theorem ahead_filter {fs:List Fl} (h:Ahead fs) (p:Fl→Bool):Ahead (fs.filter p):=h.sublist List.filter_sublist
theorem left_data {lo hi:Int} {c:Ct} {x:Fl} {text:ByteArray} (hx:x.2.1.data.toList≠ [45]) (h0:c.2= []) (hq:0≤x.2.2.2.2.2):addS lo hi x text (leftC lo hi c)=leftC lo hi (takeC x text c):=by
 rw[addS_data hx,takeC_data hx]
 unfold leftC
 rw[List.filter_append]
 congr 1
 rw[List.filter_map]
 congr 1
 apply List.filter_congr
 intro r _
 have:deadB c.2 (r,x.2.2.2.2.2)=false:=by
   unfold deadB
   rw[h0]
   apply decide_eq_false
   show ¬(x.2.2.2.2.2<0)
   omega
 simp[this]
theorem left_gone {lo hi:Int} {c:Ct} {x:Fl} {text:ByteArray} (hx:x.2.1.data.toList= [45]):addS lo hi x text (leftC lo hi c)=leftC lo hi (takeC x text c):=by
 rw[addS_gone hx,takeC_gone hx]
 unfold leftC
 rw[List.filter_filter]
 apply List.filter_congr
 intro p _
 have:deadB (c.2++(goneO text.data.toList).1.map fun k=>(k,x.2.2.2.2.2)) p=(deadB c.2 p || ((goneO text.data.toList).1.contains p.1.2.1 && decide (p.2<x.2.2.2.2.2))):=by
   unfold deadB
   rw[lastC_keys]
   cases hc:(goneO text.data.toList).1.contains p.1.2.1
   · simp
   · simp only[if_true,Bool.true_and]
     by_cases h1:p.2<lastC c.2 p.1.2.1
     · rw[decide_eq_true h1,decide_eq_true (by omega)];rfl
     · rw[decide_eq_false h1]
       by_cases h2:p.2<x.2.2.2.2.2
       · rw[decide_eq_true h2,decide_eq_true (by omega)];rfl
       · rw[decide_eq_false h2,decide_eq_false (by omega)];rfl
 rw[this]
 cases inB lo hi p.1<;>cases deadB c.2 p<;>cases ((goneO text.data.toList).1.contains p.1.2.1 && decide (p.2<x.2.2.2.2.2))<;>rfl
theorem fold_left {obs:List Ob} {lo hi:Int} :∀(g:List Fl) (c:Ct),Ahead g→(c.2= []∨∀x∈g,x.2.1.data.toList= [45])→(∀x∈g,0≤x.2.2.2.2.2)→g.foldl (fun a x=>addS lo hi x (fileR obs x).2 a) (leftC lo hi c)=leftC lo hi (readC obs g c)
 | [],c,_,_,_=>rfl
 | x :: r,c,ha,h0,hq=>by
   rw[List.foldl_cons]
   have hr:readC obs (x :: r) c=readC obs r (takeC x (fileR obs x).2 c):=rfl
   rw[hr]
   have ha':=List.pairwise_cons.1 ha
   have hq':=fun y hy=>hq y (List.mem_cons_of_mem _ hy)
   by_cases hx:x.2.1.data.toList= [45]
   · rw[left_gone hx]
     exact fold_left r _ ha'.2 (Or.inr fun y hy=>ha'.1 y hy hx) hq'
   · have h1:c.2= []:=by
       rcases h0 with h0 | h0
       · exact h0
       · exact absurd (h0 x List.mem_cons_self) hx
     rw[left_data hx h1 (hq x List.mem_cons_self)]
     refine fold_left r _ ha'.2 (Or.inl ?_) hq'
     rw[takeC_data hx]
     exact h1
def rowsQ (ys:List (Rw×Int)) (q:Int):List Rw:=(ys.filter fun p=>decide (p.2=q)).map (·.1)
theorem rowsQ_append (ys zs:List (Rw×Int)) (q:Int):rowsQ (ys++zs) q=rowsQ ys q++rowsQ zs q:=by
 unfold rowsQ
 rw[List.filter_append,List.map_append]
theorem rowsQ_same (l:List Rw) (q:Int):rowsQ (l.map fun r=>(r,q)) q=l:=by
 unfold rowsQ
 rw[List.filter_eq_self.2 (fun p hp=>by obtain⟨r,_,rfl⟩:=List.mem_map.1 hp;simp)]
 rw[List.map_map]
 conv=>rhs;rw[←List.map_id l]
 rfl
theorem rowsQ_other (l:List Rw) (q z:Int) (h:z≠q):rowsQ (l.map fun r=>(r,q)) z= []:=by
 unfold rowsQ
 rw[List.filter_eq_nil_iff.2 (fun p hp=>by obtain⟨r,_,rfl⟩:=List.mem_map.1 hp;simpa using fun e=>h e.symm)]
 rfl
theorem flat_same {r:List Int} {f g:Int→List (Rw×Int)} (h:∀z∈r,f z=g z):r.flatMap f=r.flatMap g:=by
 induction r with
 | nil=>rfl
 | cons z t ih=>rw [List.flatMap_cons,List.flatMap_cons,h z List.mem_cons_self,ih fun y hy=>h y (List.mem_cons_of_mem _ hy)]
theorem byNum_perm:∀(qs:List Int) (ys:List (Rw×Int)),qs.Nodup→(∀p∈ys,p.2∈qs)→(qs.flatMap fun q=>ys.filter fun p=>decide (p.2=q)).Perm ys
 | [],ys,_,h=>by
   cases ys with
   | nil=>exact List.Perm.refl _
   | cons p r=>have:=h p List.mem_cons_self;cases this
 | q :: r,ys,hn,h=>by
   rw[List.flatMap_cons]
   have hn':=List.nodup_cons.1 hn
   have e:(r.flatMap fun z=>ys.filter fun p=>decide (p.2=z))=r.flatMap fun z=>(ys.filter fun p=> !decide (p.2=q)).filter fun p=>decide (p.2=z):=by
     apply flat_same
     intro z hz
     rw[List.filter_filter]
     apply List.filter_congr
     intro p _
     by_cases h1:p.2=z
     · have:¬p.2=q:=fun e=>hn'.1 (by rw[←e,h1];exact hz)
       simp[h1]
       rw[h1]at this
       exact this
     · simp[h1]
   rw[e]
   refine(List.Perm.append_left _ (byNum_perm r _ hn'.2 ?_)).trans ?_
   · intro p hp
     obtain⟨h1,h2⟩:=List.mem_filter.1 hp
     have h3:=h p h1
     rw[List.mem_cons]at h3
     rcases h3 with h3 | h3
     · simp[h3]at h2
     · exact h3
   · exact List.filter_append_perm _ _
def aliveQ (c:Ct) (qs:List Int):List Rw:=qs.flatMap fun q=>(rowsQ c.1 q).filter fun r=> !deadB c.2 (r,q)
theorem alive_perm (c:Ct) (qs:List Int) (hn:qs.Nodup) (h:∀p∈c.1,p.2∈qs):(aliveQ c qs).Perm ((c.1.filter fun p=> !deadB c.2 p).map (·.1)):=by
 have hp:=((byNum_perm qs c.1 hn h).filter fun p=> !deadB c.2 p).map (·.1)
 have e:aliveQ c qs=((qs.flatMap fun q=>c.1.filter fun p=>decide (p.2=q)).filter fun p=> !deadB c.2 p).map (·.1):=by
   unfold aliveQ
   clear hn h hp
   induction qs with
   | nil=>rfl
   | cons q r ih =>
     rw[List.flatMap_cons,List.flatMap_cons,List.filter_append,List.map_append,ih]
     congr 1
     unfold rowsQ
     rw[List.filter_map]
     congr 1
     apply List.filter_congr
     intro p hp
     have hq:=(List.mem_filter.1 hp).2
     simp only[decide_eq_true_eq]at hq
     obtain⟨r',q'⟩:=p
     dsimp only at hq
     subst hq
     rfl
 rw[e]
 exact hp
theorem alive_sorted (lo hi:Int) (c:Ct) (qs:List Int) (hn:qs.Nodup) (h:∀p∈c.1,p.2∈qs):sortR ((aliveQ c qs).filter (inB lo hi))=sortR ((leftC lo hi c).map (·.1)):=by
 have e:((c.1.filter fun p=> !deadB c.2 p).map (·.1)).filter (inB lo hi)=(leftC lo hi c).map (·.1):=by
   unfold leftC
   rw[List.filter_map,List.filter_filter]
   rfl
 rw[←e]
 exact sortR_of_perm ((alive_perm c qs hn h).filter _)
theorem find_rise {fs:List Fl} (h:Rises 0 fs) {j:Nat} {x:Fl} (hx:fs[j]? =some x):findF fs x.1=j:=by
 obtain⟨hj,rfl⟩:=List.getElem?_eq_some_iff.1 hx
 refine findF_at hj (fun i hi hlt e=>?_) rfl
 have:=List.pairwise_iff_getElem.1 h.2 i j hi hj hlt
 unfold fk at this
 rw[e]at this
 omega
theorem snap_list {s:Sn} (h:(snapE s).1=0):s.2.2.2.2.2.2.length≤60∧Rises 0 s.2.2.2.2.2.2:=by
 unfold snapE at h
 split at h
 · cases h
 · split at h
   · cases h
   · split at h
     · rename_i hl
       exact absurd h hl
     · rename_i hl
       exact listE_ok.1 (by simpa using hl)
theorem file_seq {f:Fl} (h:fileE f=0):1≤f.2.2.2.2.2∧f.2.2.2.2.2≤1073741824:=by
 obtain⟨g,n,hp,hq,hb⟩:=file_good h
 unfold bndB at hb
 simp only[Bool.and_eq_true,decide_eq_true_eq,cntB]at hb
 omega
theorem rows_done {obs:List Ob} {s:Sn} {lo hi:Int} (he:(snapE s).1=0) (h:∀x∈s.2.2.2.2.2.2.filter (inP lo hi),(fileR obs x).1=0) (qs:List Int) (hn:qs.Nodup) (hq:∀p∈(readC obs (s.2.2.2.2.2.2.filter (inP lo hi)) ([], [])).1,p.2∈qs) :
   rowsS obs s lo hi=(sortR ((aliveQ (readC obs (s.2.2.2.2.2.2.filter (inP lo hi)) ([], [])) qs).filter (inB lo hi)),0,none):=by
 have hr:=(snap_list he).2
 have hg:=scan_good s.2.2.2.2.2.2 0 [] h
 have hf:=fold_left (obs:=obs) (lo:=lo) (hi:=hi) (s.2.2.2.2.2.2.filter (inP lo hi)) ([], []) (ahead_filter (ahead_of hr) _) (Or.inl rfl) (fun x hx=>by
   have:=(file_seq (hr.1 x (List.mem_filter.1 hx).1).1).1
   omega)
 have e0:leftC lo hi ([], [])= []:=rfl
 rw[e0]at hf
 rw[hf]at hg
 unfold rowsS
 rw[if_neg (by simpa using he),hg]
 simp only[ne_eq,not_true_eq_false,if_false]
 rw[alive_sorted lo hi _ qs hn hq]
theorem rows_bad {obs:List Ob} {s:Sn} {lo hi:Int} (he:(snapE s).1=0) (n:Nat) (x:Fl) (hx:(s.2.2.2.2.2.2.filter (inP lo hi))[n]? =some x) (hm:∀m y,m<n→(s.2.2.2.2.2.2.filter (inP lo hi))[m]? =some y→(fileR obs y).1=0) (hb:(fileR obs x).1≠0) :
   ∃j,s.2.2.2.2.2.2[j]? =some x∧rowsS obs s lo hi=([],(fileR obs x).1,some j):=by
 obtain⟨j,h1,h2⟩:=scan_bad s.2.2.2.2.2.2 0 [] n x hx hm hb
 rw[Nat.zero_add]at h2
 refine⟨j,h1,?_⟩
 unfold rowsS
 rw[if_neg (by simpa using he),h2,if_pos hb]
end Go.Proofs.YtdhkdjlgmbejnaaGreatDoor
namespace Go.Proofs.YtdhkdjlgmbejnaaGreatDoor
open Go.RowKit Go.Extern.Stop Go.Stop Go.Extern Go.Sort Go.Shelf Go.Lib
def snV (s:Sn) (vf:Value):Value:=.agg #[.int .i64 s.1,.int .i64 s.2.1,.int .i64 s.2.2.1,.int .i64 s.2.2.2.1,.int .i64 s.2.2.2.2.1,.string s.2.2.2.2.2.1,vf]
def SnAt (W:World) (b:Nat) (s:Sn) (vf:Value):Prop:=W.heap[b]? =some (.cells #[.int .i64 s.1,.int .i64 s.2.1,.int .i64 s.2.2.1,.int .i64 s.2.2.2.1,.int .i64 s.2.2.2.2.1,.string s.2.2.2.2.2.1,vf] 25 (0,0))
theorem SnAt.lt {W:World} {b:Nat} {s:Sn} {vf:Value} (h:SnAt W b s vf):b<W.heap.size:=lt_of_block h
theorem SnAt.below {W W':World} {b:Nat} {s:Sn} {vf:Value} (h:SnAt W b s vf) (hb:Below W.heap.size W W'):SnAt W' b s vf:=(hb.block b h.lt).trans h
theorem SnAt.cells {W:World} {b:Nat} {s:Sn} {vf:Value} (h:SnAt W b s vf):W.cell? ⟨b,0,none⟩=some (.int .i64 s.1)∧W.cell? ⟨b,1,none⟩=some (.int .i64 s.2.1)∧W.cell? ⟨b,2,none⟩=some (.int .i64 s.2.2.1)∧W.cell? ⟨b,3,none⟩=some (.int .i64 s.2.2.2.1)∧W.cell? ⟨b,4,none⟩=some (.int .i64 s.2.2.2.2.1)∧W.cell? ⟨b,5,none⟩=some (.string s.2.2.2.2.2.1)∧W.cell? ⟨b,6,none⟩=some vf:=by
 refine⟨?_,?_,?_,?_,?_,?_,?_⟩<;>rw [cell_of_row _ _ _ _ _ _ h]<;>rfl
theorem SnAt.new (w:World) (s:Sn) (vf:Value):SnAt (w.alloc (.cells #[.int .i64 s.1,.int .i64 s.2.1,.int .i64 s.2.2.1,.int .i64 s.2.2.2.1,.int .i64 s.2.2.2.2.1,.string s.2.2.2.2.2.1,vf] 25)) w.heap.size s vf:=heap_alloc_new _ _
def SeqLeft (seq:Int) (fs:List Fl) (n:Nat):Prop:=seqG seq fs 0=seqG seq (fs.drop n) n
theorem seqL_zero (seq:Int) (fs:List Fl):SeqLeft seq fs 0:=rfl
theorem seqL_bad {seq:Int} {fs:List Fl} {n:Nat} (h:SeqLeft seq fs n) (hn:n<fs.length) (e:seq<fs[n].2.2.2.2.2):seqG seq fs 0=(9,some n):=by
 unfold SeqLeft at h
 rw[h,List.drop_eq_getElem_cons hn]
 unfold seqG
 rw[if_pos e]
theorem seqL_succ {seq:Int} {fs:List Fl} {n:Nat} (h:SeqLeft seq fs n) (hn:n<fs.length) (e:¬seq<fs[n].2.2.2.2.2):SeqLeft seq fs (n+1):=by
 unfold SeqLeft at h ⊢
 rw[h]
 conv=>lhs;rw[List.drop_eq_getElem_cons hn]
 conv=>lhs;unfold seqG
 rw[if_neg e]
theorem seqL_all {seq:Int} {fs:List Fl} (h:SeqLeft seq fs fs.length):seqG seq fs 0=(0,none):=by
 unfold SeqLeft at h
 rw[h,List.drop_length]
 rfl
theorem snapE_rest {s:Sn} (hb:sbndB s=true):(opB s.2.2.2.2.2.1.data.toList=false→snapE s=(4,none))∧(opB s.2.2.2.2.2.1.data.toList=true→((listE s.2.2.2.2.2.2).1≠0→snapE s=listE s.2.2.2.2.2.2)∧((listE s.2.2.2.2.2.2).1=0→snapE s=seqG s.2.2.1 s.2.2.2.2.2.2 0)):=by
 unfold snapE
 rw[if_neg (by rw[hb];simp)]
 refine⟨fun h=>by rw[if_pos h],fun h=>⟨fun h1=>?_,fun h1=>?_⟩⟩
 · rw[if_neg (by rw[h];simp),if_pos h1]
 · rw[if_neg (by rw[h];simp),if_neg (by simpa using h1)]
theorem own_cur {W:World} {base:Nat} {e:TypeId} {size:Nat} {v:Value} {n:Nat} {xs:List Value} (h:W.ownsRow base e size v n xs) {k:Nat} (hk:v.ownBlock=some k):base≤k∧∃cur,W.heap[k]? =some (.cells cur e (0,0)):=by
 rcases h.2 with⟨e',_⟩|⟨g,cap,cur,e',hg,hc,_⟩
 · rw[e']at hk;simp[Value.ownBlock]at hk
 · rw[e']at hk
   simp[Value.ownBlock]at hk
   subst hk
   exact⟨hg,cur,hc⟩
theorem type_kept {W W':World} {base:Nat} {e:TypeId} {size:Nat} {v:Value} {n:Nat} {xs:List Value} (ho:W.ownsRow base e size v n xs) (hg:W.grownBy W' v.ownBlock) {k:Nat} {c:Array Value} {t:TypeId} {f:Nat×Nat} (hk:W.heap[k]? =some (.cells c t f)) (hne:t≠e):W'.heap[k]? =some (.cells c t f):=by
 have h1:some k≠v.ownBlock:=fun e'=>by
   obtain⟨_,cur,hc⟩:=own_cur ho e'.symm
   rw[hk]at hc
   injection hc with hc
   injection hc with _ hc
   exact hne hc
 rw[hg.block k (lt_of_block hk) h1]
 exact hk
theorem getT_06 (l:List Ob) (n:ByteArray):(getT l n).2=0∨(getT l n).2=6:=by
 unfold getT
 split
 · exact Or.inl rfl
 · exact Or.inr rfl
theorem getT_size {s:St} (K:Keeps s) (n:ByteArray):(getT s.obs n).1.size≤20000:=by
 unfold getT
 split
 · rename_i o ho
   exact K.texts o (getO_some ho).1
 · exact Nat.zero_le _
theorem fileR_get {obs:List Ob} {x:Fl} (h:(getT obs x.1).2≠0):(fileR obs x).1=(getT obs x.1).2:=by unfold fileR;rw[if_pos h]
theorem fileR_of {obs:List Ob} {x:Fl} (h:(getT obs x.1).2=0):fileR obs x=if (ofF x.1 x.2.1 (getT obs x.1).1.data.toList x.2.2.2.2.2).2≠0 then ((ofF x.1 x.2.1 (getT obs x.1).1.data.toList x.2.2.2.2.2).2,⟨#[]⟩) else if (ofF x.1 x.2.1 (getT obs x.1).1.data.toList x.2.2.2.2.2).1≠x then (3,⟨#[]⟩) else (0,(getT obs x.1).1):=by unfold fileR;rw[if_neg (by simpa using h)]
section
variable {w wr w' : World} {rb sb : Nat} {s : Sn} {vf out seqs : Value} {rs : List Rw} {ns : List Int}
end
def ptrD (k:Int):DataW Unit:=.lit (.int .i64 k)
abbrev ptrV (k:Nat):Value:=.pointer (some ⟨k,0,none⟩)
def ptrR (v:Value):Option (DataW Unit×List MemPlace):=match v with
 | .pointer (some ⟨k,0,none⟩)=>some (ptrD k, [])
 | .pointer none=>some (ptrD (-1), [])
 | _=>none
theorem ptrR_mk (k:Nat):ptrR (ptrV k)=some (ptrD k, []):=rfl
theorem ptrR_nil:ptrR (.pointer none)=some (ptrD (-1), []):=rfl
theorem ptrR_inv {v:Value} {z:DataW Unit×List MemPlace} (h:ptrR v=some z):(∃k:Nat,v=ptrV k∧z=(ptrD k, []))∨(v= .pointer none∧z=(ptrD (-1), [])):=by
 unfold ptrR at h
 split at h
 · exact Or.inl ⟨_,rfl,(Option.some.inj h).symm⟩
 · exact Or.inr ⟨rfl,(Option.some.inj h).symm⟩
 · cases h
theorem ptrD_inj {k j:Int} (h:ptrD k=ptrD j):k=j:=by simpa [ptrD] using h
def keyL (n:ByteArray):Lit:=.string n.data.toList
def mapQ (q:ByteArray→Nat) (l:List Ob):DataW Unit:=.map (l.map fun o=>(keyL o.1,ptrD (q o.1)))
def setQ (q:ByteArray→Nat) (n:ByteArray) (k:Nat):ByteArray→Nat:=fun m=>if m=n then k else q m
theorem setQ_same (q:ByteArray→Nat) (n:ByteArray) (k:Nat):setQ q n k n=k:=by simp[setQ]
theorem setQ_other (q:ByteArray→Nat) {n m:ByteArray} (k:Nat) (h:m≠n):setQ q n k m=q m:=by simp[setQ,h]
abbrev RiseO (l:List Ob):Prop:=l.Pairwise fun a b=>a.1.data.toList<b.1.data.toList
theorem keyL_same (n m:ByteArray):(keyL n).sameKey (keyL m)=decide (n=m):=by
 show (n.data.toList == m.data.toList)=_
 by_cases h:n=m
 · subst h;simp
 · rw[decide_eq_false h]
   simp only[beq_eq_false_iff_ne]
   exact fun e=>h (name_ext e)
theorem keyL_ne {n m:ByteArray} (h:n≠m):keyL n≠keyL m:=fun e=>h (name_ext (by simpa [keyL] using e))
theorem mapQ_has (q:ByteArray→Nat) (l:List Ob) (n:ByteArray):Maps.has (mapQ q l) (keyL n)=(getO l n).isSome:=by
 unfold mapQ getO
 rw[Maps.has_eq,List.any_map]
 have e:((fun p:Lit×DataW Unit=>p.1.sameKey (keyL n)) ∘ fun o:Ob=>(keyL o.1,ptrD (q o.1)))=fun o=>decide (o.1=n):=by
   funext o
   exact keyL_same o.1 n
 rw[e,Bool.eq_iff_iff,List.any_eq_true,List.find?_isSome]
theorem mapQ_at (q:ByteArray→Nat) (l:List Ob) (n:ByteArray) (z:DataW Unit):(mapQ q l).atKey (keyL n) z=if (getO l n).isSome=true then ptrD (q n) else z:=by
 unfold mapQ getO DataW.atKey
 dsimp only
 rw[List.find?_map]
 have e:((fun p:Lit×DataW Unit=>p.1.sameKey (keyL n)) ∘ fun o:Ob=>(keyL o.1,ptrD (q o.1)))=fun o=>decide (o.1=n):=by
   funext o
   exact keyL_same o.1 n
 rw[e]
 cases h:l.find? fun o=>decide (o.1=n) with
 | none=>rfl
 | some o =>
   have:=List.find?_some h
   simp only[decide_eq_true_eq]at this
   simp[this]
theorem before_lt:∀(a b:List UInt8),a<b→bytesBefore a b=true
 | [], [],h=>absurd h (List.lt_irrefl _)
 | [],_ :: _,_=>rfl
 | _ :: _, [],h=>by cases h
 | x :: r,y :: s,h=>by
   unfold bytesBefore
   rw[List.cons_lt_cons_iff]at h
   rcases h with h | ⟨rfl,h⟩
   · simp[h]
   · simp[before_lt r s h]
theorem mapQ_canon {q:ByteArray→Nat} {l:List Ob} (h:RiseO l):Maps.Canon (mapQ q l):=by
 refine⟨_,rfl,?_,?_⟩
 · rw[List.pairwise_map]
   exact h.imp fun h'=>before_lt _ _ h'
 · intro p hp
   obtain⟨o,_,rfl⟩:=List.mem_map.1 hp
   exact trivial
theorem lit_key (k:Lit):(∃n,k=keyL n)∨∀q l,Maps.has (mapQ q l) k=false:=by
 cases k with
 | string x=>exact Or.inl ⟨bytesOf x,by simp[keyL,bytesOf]⟩
 | _ =>
   refine Or.inr fun q l=>?_
   unfold mapQ
   rw[Maps.has_eq,List.any_map]
   apply List.any_eq_false.2
   intro o _
   simp[keyL,Lit.sameKey]
theorem mapQ_put {q:ByteArray→Nat} {l:List Ob} {n t:ByteArray} {d:Int} {k:Nat} (hr:RiseO l) (hn:∀p∈l,p.1≠n) (hc:Maps.Canon ((mapQ q l).put (keyL n) (ptrD k))):(mapQ q l).put (keyL n) (ptrD k)=mapQ (setQ q n k) (insO l (n,t,d)):=by
 have hm:Maps.IsMap (mapQ q l):=⟨_,rfl⟩
 have hh:∀z,Maps.has ((mapQ q l).put (keyL n) (ptrD k)) z=Maps.has (mapQ (setQ q n k) (insO l (n,t,d))) z:=fun z=>by
   rcases lit_key z with⟨m,rfl⟩ | hk
   · by_cases e:m=n
     · subst e
       rw[Maps.has_put_same hm (show WideAt.IsKeyLit (keyL m) from trivial),mapQ_has,getO_ins (o:=(m,t,d)) hr hn]
       rfl
     · rw[Maps.has_put_other (keyL_ne e),mapQ_has,mapQ_has,getO_other (o:=(n,t,d)) hr hn e]
   · rw[hk,Maps.has_put_other (fun e=>?_),hk]
     subst e
     have h1:=hk q (insO l (n,t,d))
     rw[mapQ_has,getO_ins (o:=(n,t,d)) hr hn]at h1
     cases h1
 refine Maps.ext hc (mapQ_canon (insO_rise (o:=(n,t,d)) hr hn)) hh (fun z u hk=>?_)
 rcases lit_key z with⟨m,rfl⟩ | hk2
 · by_cases e:m=n
   · subst e
     rw[Maps.atKey_put_same hm (show WideAt.IsKeyLit (keyL m) from trivial),mapQ_at,getO_ins (o:=(m,t,d)) hr hn,setQ_same]
     rfl
   · rw[Maps.atKey_put_other (keyL_ne e),mapQ_at,mapQ_at,getO_other (o:=(n,t,d)) hr hn e,setQ_other _ _ e]
 · rw[hh,hk2]at hk
   cases hk
theorem mapQ_size (q:ByteArray→Nat) (l:List Ob):Maps.size (mapQ q l)=l.length:=by unfold mapQ;rw[Maps.size_eq,List.length_map]
def PtrMap (w:World) (b:Nat) (q:ByteArray→Nat) (l:List Ob):Prop:=w.ownsMap Tryz.prog 9 ptrR b l.length (mapQ q l)
theorem Tryz.keyedS:Maps.Keyed Tryz.prog 9:=Maps.string_keyed Tryz.underlying9
theorem keyOf_name {n:ByteArray} (h:n.size≤maxLen):keyOf Tryz.prog 9 (.string n)=some (keyL n):=WideMaps.keyOf_string_mk Tryz.underlying9 h
theorem PtrMap.block {w:World} {b:Nat} {q:ByteArray→Nat} {l:List Ob} (h:PtrMap w b q l):∃es clock,w.heap[b]? =some (.map es clock):=by
 obtain⟨es,clock,hb,_⟩:=h
 exact⟨es,clock,hb⟩
theorem PtrMap.lt {w:World} {b:Nat} {q:ByteArray→Nat} {l:List Ob} (h:PtrMap w b q l):b<w.heap.size:=World.ownsMap.lt h
theorem PtrMap.keep {w w':World} {b:Nat} {q:ByteArray→Nat} {l:List Ob} (h:PtrMap w b q l) (hb:w'.heap[b]? =w.heap[b]?):PtrMap w' b q l:=by
 obtain⟨es,clock,h1,h2,h3,h4⟩:=h
 exact⟨es,clock,hb.trans h1,h2,h3,h4⟩
def lookP (q:ByteArray→Nat) (l:List Ob) (n:ByteArray):Value:=if (getO l n).isSome=true then ptrV (q n) else .pointer none
theorem Tryz.zeroObj (w:World):(zeroValue 140).run Tryz.prog w= .ok (.pointer none) w:=Tryz.zeroValue140 w
section
variable {w : World} {b : Nat} {q : ByteArray → Nat} {l : List Ob}
theorem PtrMap.look (h:PtrMap w b q l) {n:ByteArray} (hn:n.size≤maxLen) :
   (Instr.lookup 123 (.map (some b)) (.string n) false).run Tryz.prog w= .ok (lookP q l n) w:=by
 obtain⟨v,ps,hrun,hv⟩:=World.ownsMap.lookup h Tryz.keyedS Tryz.underlying123 (Tryz.zeroObj w) ptrR_nil (keyOf_name hn)
 rw[hrun]
 rw[mapQ_at]at hv
 unfold lookP
 by_cases hg:(getO l n).isSome=true
 · rw[if_pos hg]at hv ⊢
   rcases ptrR_inv hv with⟨k,rfl,hz⟩|⟨rfl,hz⟩
   · have:=ptrD_inj (Prod.mk.inj hz).1
     have:q n=k:=by omega
     rw[this]
   · have:=ptrD_inj (Prod.mk.inj hz).1
     omega
 · rw[if_neg hg]at hv ⊢
   rcases ptrR_inv hv with⟨k,rfl,hz⟩|⟨rfl,hz⟩
   · have:=ptrD_inj (Prod.mk.inj hz).1
     omega
   · rfl
theorem PtrMap.len (h:PtrMap w b q l) (ty:TypeId):(Builtin.len_ #[123] ty #[.map (some b)]).run Tryz.prog w= .ok (.int .i64 l.length) w:=by
 rw[World.ownsMap.len h Tryz.underlying123 ty,mapQ_size]
theorem PtrMap.store (h:PtrMap w b q l) (hr:RiseO l) (hl:l.length<maxLen) {n:ByteArray} (hn:n.size≤maxLen) (hne:∀p∈l,p.1≠n) (t:ByteArray) (d:Int) (k:Nat) :
   ∃w',(Instr.mapUpdate 123 (.map (some b)) (.string n) (ptrV k)).run Tryz.prog w= .ok () w'∧PtrMap w' b (setQ q n k) (insO l (n,t,d))∧w.mapTurned w' b:=by
 obtain⟨w',hrun,ho,hm⟩:=World.ownsMap.store h Tryz.keyedS Tryz.underlying123 hl (keyOf_name hn) (ptrR_mk k)
 refine⟨w',hrun,?_,hm⟩
 unfold PtrMap
 rw[←mapQ_put hr hne (World.ownsMap.canon ho Tryz.keyedS),insO_len]
 exact ho
end
theorem PtrMap.made (w:World) (q:ByteArray→Nat):PtrMap (w.alloc (.map #[] 0)) w.heap.size q []:=World.ownsMap_made w _ _ _
theorem But.of_turned {w w':World} {b:Nat} (h:w.mapTurned w' b):But (fun k=>k=b) w w':=by
 have g:=World.mapTurned.grown h
 exact⟨g.os,g.tape,g.output,g.size,fun k hk hP=>g.block k hk (fun e=>hP (Option.some.inj e))⟩
def waitsB (s:St):Bool:= !s.off && decide (0≤s.cut)
def leftI (s:St):Int:=if waitsB s=true then s.cut else 0
def SC (W:World) (b:Nat) (mo:Option Nat) (h:ByteArray) (d:Int) (off waits:Bool) (left:Int):Prop:=W.heap[b]? =some (.cells #[.map mo,.string h,.int .i64 d,.bool off,.bool waits,.int .i64 left] 127 (0,0))
def ObjsAt (W:World) (q:ByteArray→Nat) (l:List Ob):Prop:= ∀o∈l,W.heap[q o.1]? =some (.cells #[.string o.2.1,.int .i64 o.2.2] 142 (0,0))
def MapAt (W:World) (mo:Option Nat) (q:ByteArray→Nat) (l:List Ob):Prop:=(mo=none∧l= [])∨∃mb,mo=some mb∧PtrMap W mb q l
structure SIn (W:World) (b:Nat) (mo:Option Nat) (q:ByteArray→Nat) (s:St):Prop where
 block:SC W b mo s.head s.day s.off (waitsB s) (leftI s)
 map:MapAt W mo q s.obs
 objs:ObjsAt W q s.obs
 rise:RiseO s.obs
 cut:s.cut≤9223372036854775807
def fpS (b:Nat) (mo:Option Nat) (q:ByteArray→Nat) (l:List Ob):Nat→Prop:=fun k=>k=b∨mo=some k∨∃o∈l,q o.1=k
def SAtP (W:World) (v:Value) (FP:Nat→Prop) (s:St):Prop:= ∃b mo q,v= .pointer (some ⟨b,0,none⟩)∧FP=fpS b mo q s.obs∧SIn W b mo q s
theorem SC.lt {W:World} {b:Nat} {mo:Option Nat} {h:ByteArray} {d:Int} {off waits:Bool} {left:Int} (hs:SC W b mo h d off waits left):b<W.heap.size:=lt_of_block hs
theorem SC.cells {W:World} {b:Nat} {mo:Option Nat} {h:ByteArray} {d:Int} {off waits:Bool} {left:Int} (hs:SC W b mo h d off waits left):W.cell? ⟨b,0,none⟩=some (.map mo)∧W.cell? ⟨b,1,none⟩=some (.string h)∧W.cell? ⟨b,2,none⟩=some (.int .i64 d)∧W.cell? ⟨b,3,none⟩=some (.bool off)∧W.cell? ⟨b,4,none⟩=some (.bool waits)∧W.cell? ⟨b,5,none⟩=some (.int .i64 left)∧∀o,W.frozen? ⟨b,o,none⟩=false:=by
 refine⟨?_,?_,?_,?_,?_,?_,fun o=>frozen_of_row _ _ _ _ _ hs⟩<;>rw [cell_of_row _ _ _ _ _ _ hs]<;>rfl
theorem ObjsAt.cells {W:World} {q:ByteArray→Nat} {l:List Ob} (h:ObjsAt W q l) {o:Ob} (ho:o∈l):W.cell? ⟨q o.1,0,none⟩=some (.string o.2.1)∧W.cell? ⟨q o.1,1,none⟩=some (.int .i64 o.2.2):=by
 refine⟨?_,?_⟩<;>rw [cell_of_row _ _ _ _ _ _ (h o ho)]<;>rfl
theorem ObjsAt.lt {W:World} {q:ByteArray→Nat} {l:List Ob} (h:ObjsAt W q l) {o:Ob} (ho:o∈l):q o.1<W.heap.size:=lt_of_block (h o ho)
theorem ObjsAt.keep {W W':World} {q:ByteArray→Nat} {l:List Ob} (h:ObjsAt W q l) (hk:∀o∈l,W'.heap[q o.1]? =W.heap[q o.1]?):ObjsAt W' q l:=fun o ho=>(hk o ho).trans (h o ho)
theorem MapAt.keep {W W':World} {mo:Option Nat} {q:ByteArray→Nat} {l:List Ob} (h:MapAt W mo q l) (hk:∀mb,mo=some mb→W'.heap[mb]? =W.heap[mb]?):MapAt W' mo q l:=by
 rcases h with h | ⟨mb,rfl,h⟩
 · exact Or.inl h
 · exact Or.inr ⟨mb,rfl,h.keep (hk mb rfl)⟩
theorem SIn.lt {W:World} {b:Nat} {mo:Option Nat} {q:ByteArray→Nat} {s:St} (h:SIn W b mo q s) {k:Nat} (hk:fpS b mo q s.obs k):k<W.heap.size:=by
 rcases hk with rfl | hk | ⟨o,ho,rfl⟩
 · exact h.block.lt
 · rcases h.map with⟨e,_⟩|⟨mb,rfl,hm⟩
   · rw[e]at hk;cases hk
   · cases hk;exact hm.lt
 · exact h.objs.lt ho
theorem SIn.keep {W W':World} {b:Nat} {mo:Option Nat} {q:ByteArray→Nat} {s:St} {P:Nat→Prop} (h:SIn W b mo q s) (hB:But P W W') (hP:∀k,fpS b mo q s.obs k→¬P k):SIn W' b mo q s:=by
 have g:∀k,fpS b mo q s.obs k→W'.heap[k]? =W.heap[k]? :=fun k hk=>hB.block k (h.lt hk) (hP k hk)
 refine⟨(g b (Or.inl rfl)).trans h.block,h.map.keep fun mb e=>g mb (Or.inr (Or.inl e)),h.objs.keep fun o ho=>g _ (Or.inr (Or.inr ⟨o,ho,rfl⟩)),h.rise,h.cut⟩
theorem SIn.below {W W':World} {b:Nat} {mo:Option Nat} {q:ByteArray→Nat} {s:St} (h:SIn W b mo q s) (hB:Below W.heap.size W W'):SIn W' b mo q s :=
 h.keep (But.of_below (P:=fun _=>False) hB) fun _ _ h=>h
theorem sc_off_map {W:World} {b mb:Nat} {mo:Option Nat} {h:ByteArray} {d:Int} {off waits:Bool} {left:Int} {q:ByteArray→Nat} {l:List Ob} (hs:SC W b mo h d off waits left) (hm:PtrMap W mb q l):mb≠b:=by
 rintro rfl
 obtain⟨es,c,e⟩:=hm.block
 rw[hs]at e
 cases e
theorem sc_off_obj {W:World} {b:Nat} {mo:Option Nat} {h:ByteArray} {d:Int} {off waits:Bool} {left:Int} {q:ByteArray→Nat} {l:List Ob} (hs:SC W b mo h d off waits left) (ho:ObjsAt W q l) {o:Ob} (hm:o∈l):q o.1≠b:=by
 rintro rfl
 have e:=ho o hm
 rw[hs]at e
 simp at e
theorem map_off_obj {W:World} {mb:Nat} {q:ByteArray→Nat} {l:List Ob} (hm:PtrMap W mb q l) {l':List Ob} {q':ByteArray→Nat} (ho:ObjsAt W q' l') {o:Ob} (h:o∈l'):q' o.1≠mb:=by
 rintro rfl
 obtain⟨es,c,e⟩:=hm.block
 rw[ho o h]at e
 cases e
theorem spost_of {W w':World} {b:Nat} {mo mo':Option Nat} {q q':ByteArray→Nat} {s s':St} (h:SIn w' b mo' q' s') (hB:But (fpS b mo q s.obs) W w') (hn:∀k,fpS b mo' q' s'.obs k→fpS b mo q s.obs k∨W.heap.size≤k) :
   ∃FP',SAtP w' (.pointer (some ⟨b,0,none⟩)) FP' s'∧But (fpS b mo q s.obs) W w'∧∀k,FP' k→fpS b mo q s.obs k∨W.heap.size≤k:=⟨_,⟨b,mo',q',rfl,rfl,h⟩,hB,hn⟩
end Go.Proofs.YtdhkdjlgmbejnaaGreatDoor
