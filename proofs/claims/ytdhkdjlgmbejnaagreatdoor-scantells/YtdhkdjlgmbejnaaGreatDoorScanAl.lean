/- By an AI agent. -/
import Derived.Test.YtdhkdjlgmbejnaaGreatDoorScanPrn
namespace Go.Proofs.YtdhkdjlgmbejnaaGreatDoor
open Go Go.Lib Go.Sort
abbrev Ct:=List (Rw×Int)×List (Int×Int)
def lastC (l:List (Int×Int)) (k:Int):Int:=l.foldl (fun m p=>if p.1=k then max m p.2 else m) 0
theorem lastC_snoc (l:List (Int×Int)) (z q k:Int):lastC (l++ [(z,q)]) k=if z=k then max (lastC l k) q else lastC l k:=by
 unfold lastC
 rw[List.foldl_append]
 rfl
theorem lastC_keys (l:List (Int×Int)) (q k:Int):∀ks:List Int,lastC (l++ks.map fun z=>(z,q)) k=if ks.contains k then max (lastC l k) q else lastC l k:=by
 intro ks
 induction ks generalizing l with
 | nil=>simp
 | cons z r ih =>
   have e:l++(z :: r).map (fun z=>(z,q))=(l++ [(z,q)])++r.map fun z=>(z,q):=by simp
   rw[e,ih,lastC_snoc]
   by_cases h1:z=k
   · subst h1
     by_cases h2:r.contains z=true
     · rw[if_pos h2,if_pos rfl,if_pos (by simp)]
       omega
     · rw[if_neg h2,if_pos rfl,if_pos (by simp)]
   · have hc:(z :: r).contains k=r.contains k:=by
       rw[List.contains_cons]
       have:(k == z)=false:=by simpa using fun e=>h1 e.symm
       rw[this,Bool.false_or]
     rw[if_neg h1,hc]
theorem lastC_bound {l:List (Int×Int)} {B:Int} (h:∀p∈l,p.2≤B) (hB:0≤B) (k:Int):0≤lastC l k∧lastC l k≤B:=by
 unfold lastC
 have key:∀(l:List (Int×Int)) (m:Int),(∀p∈l,p.2≤B)→0≤m→m≤B→0≤l.foldl (fun m p=>if p.1=k then max m p.2 else m) m∧l.foldl (fun m p=>if p.1=k then max m p.2 else m) m≤B:=by
   intro l
   induction l with
   | nil=>intro m _ h1 h2;exact⟨h1,h2⟩
   | cons p r ih =>
     intro m hp h1 h2
     rw[List.foldl_cons]
     have h3:=hp p List.mem_cons_self
     refine ih _ (fun q hq=>hp q (List.mem_cons_of_mem _ hq)) ?_ ?_
     · split<;>omega
     · split<;>omega
 exact key l 0 h (Int.le_refl _) hB
def takeC (x:Fl) (text:ByteArray) (c:Ct):Ct :=
 if x.2.1.data.toList≠ [45] then (c.1++(dataO text.data.toList).1.map (fun r=>(r,x.2.2.2.2.2)),c.2) else (c.1,c.2++(goneO text.data.toList).1.map fun k=>(k,x.2.2.2.2.2))
theorem takeC_data {x:Fl} {text:ByteArray} {c:Ct} (h:x.2.1.data.toList≠ [45]):takeC x text c=(c.1++(dataO text.data.toList).1.map (fun r=>(r,x.2.2.2.2.2)),c.2):=by unfold takeC;rw[if_pos h]
theorem takeC_gone {x:Fl} {text:ByteArray} {c:Ct} (h:x.2.1.data.toList= [45]):takeC x text c=(c.1,c.2++(goneO text.data.toList).1.map fun k=>(k,x.2.2.2.2.2)):=by unfold takeC;rw[if_neg (by simpa using h)]
def readC (obs:List Ob) (g:List Fl) (c:Ct):Ct:=g.foldl (fun c x=>takeC x (fileR obs x).2 c) c
theorem readC_snoc (obs:List Ob) (g:List Fl) (x:Fl) (c:Ct):readC obs (g++ [x]) c=takeC x (fileR obs x).2 (readC obs g c):=by
 unfold readC
 rw[List.foldl_append]
 rfl
def deadB (l:List (Int×Int)) (p:Rw×Int):Bool:=decide (p.2<lastC l p.1.2.1)
def leftC (lo hi:Int) (c:Ct):List (Rw×Int):=c.1.filter fun p=>inB lo hi p.1 && !deadB c.2 p
theorem scan_good {obs:List Ob} {lo hi:Int} :∀(fs:List Fl) (i:Nat) (acc:List (Rw×Int)),(∀x∈fs.filter (inP lo hi),(fileR obs x).1=0)→scanG obs lo hi fs i acc=((fs.filter (inP lo hi)).foldl (fun a x=>addS lo hi x (fileR obs x).2 a) acc,0,none)
 | [],i,acc,_=>rfl
 | x :: r,i,acc,h=>by
   unfold scanG
   by_cases hp:inP lo hi x=false
   · rw[if_pos hp]
     have e:(x :: r).filter (inP lo hi)=r.filter (inP lo hi):=by rw[List.filter_cons,hp];rfl
     rw[e]at h ⊢
     exact scan_good r (i+1) acc h
   · have hp':inP lo hi x=true:=by simpa using hp
     have e:(x :: r).filter (inP lo hi)=x :: r.filter (inP lo hi):=by rw[List.filter_cons,hp'];rfl
     rw[e]at h ⊢
     rw[if_neg hp,if_neg (by simpa using h x List.mem_cons_self),List.foldl_cons]
     exact scan_good r (i+1) _ fun y hy=>h y (List.mem_cons_of_mem _ hy)
theorem scan_bad {obs:List Ob} {lo hi:Int} :∀(fs:List Fl) (i:Nat) (acc:List (Rw×Int)) (n:Nat) (x:Fl),(fs.filter (inP lo hi))[n]? =some x→(∀m y,m<n→(fs.filter (inP lo hi))[m]? =some y→(fileR obs y).1=0)→(fileR obs x).1≠0→∃j,fs[j]? =some x∧scanG obs lo hi fs i acc=([],(fileR obs x).1,some (i+j))
 | [],i,acc,n,x,h,_,_=>by simp at h
 | y :: r,i,acc,n,x,h,hm,hb=>by
   unfold scanG
   by_cases hp:inP lo hi y=false
   · rw[if_pos hp]
     have e:(y :: r).filter (inP lo hi)=r.filter (inP lo hi):=by rw[List.filter_cons,hp];rfl
     rw[e]at h hm
     obtain⟨j,h1,h2⟩:=scan_bad r (i+1) acc n x h hm hb
     exact⟨j+1,by simpa using h1,by rw[h2,Nat.add_assoc,Nat.add_comm 1 j]⟩
   · have hp':inP lo hi y=true:=by simpa using hp
     have e:(y :: r).filter (inP lo hi)=y :: r.filter (inP lo hi):=by rw[List.filter_cons,hp'];rfl
     rw[e]at h hm
     rw[if_neg hp]
     cases n with
     | zero =>
       rw[List.getElem?_cons_zero]at h
       obtain rfl:=Option.some.inj h
       rw[if_pos hb]
       exact⟨0,rfl,rfl⟩
     | succ k =>
       have h0:=hm 0 y (by omega) rfl
       rw[if_neg (by simpa using h0)]
       rw[List.getElem?_cons_succ]at h
       obtain⟨j,h1,h2⟩:=scan_bad r (i+1) _ k x h (fun m z hk hz=>hm (m+1) z (by omega) (by rw[List.getElem?_cons_succ];exact hz)) hb
       exact⟨j+1,by simpa using h1,by rw[h2,Nat.add_assoc,Nat.add_comm 1 j]⟩
def Ahead (g:List Fl):Prop:=g.Pairwise fun x y=>x.2.1.data.toList= [45]→y.2.1.data.toList= [45]
theorem file_part {f:Fl} (h:fileE f=0):f.2.1.data.toList= [45]↔1073741824<fk f:=by
 obtain⟨g,n,hp,hq,hb⟩:=file_good h
 rw[part_gone hq]
 obtain⟨e,h1,h2⟩:=pk_some hp
 unfold fk
 rw[e]
 cases g
 · simp only[Bool.false_eq_true,if_false,false_iff];omega
 · simp only[if_true,true_iff];omega
theorem ahead_of {fs:List Fl} (h:Rises 0 fs):Ahead fs:=by
 unfold Ahead
 obtain⟨h1,h2⟩:=h
 induction fs with
 | nil=>exact List.Pairwise.nil
 | cons f r ih =>
   rw[List.pairwise_cons]at h2 ⊢
   refine⟨fun g hg hf=>?_,ih (fun g hg=>h1 g (List.mem_cons_of_mem _ hg)) h2.2⟩
   have e1:=(file_part (h1 f List.mem_cons_self).1).1 hf
   have e2:=h2.1 g hg
   exact(file_part (h1 g (List.mem_cons_of_mem _ hg)).1).2 (by omega)
theorem ahead_filter {fs:List Fl} (h:Ahead fs) (p:Fl→Bool):Ahead (fs.filter p):=h.sublist List.filter_sublist
theorem left_data {lo hi:Int} {c:Ct} {x:Fl} {text:ByteArray} (hx:x.2.1.data.toList≠ [45]) (h0:c.2= []) (hq:0≤x.2.2.2.2.2):addS lo hi x text (leftC lo hi c)=leftC lo hi (takeC x text c):=by
 rw[addS_data hx,takeC_data hx]
 unfold leftC
 rw[List.filter_append]
 congr 1
 rw[List.filter_map]
 congr 1
 apply List.filter_congr
 intro r _
 have:deadB c.2 (r,x.2.2.2.2.2)=false:=by
   unfold deadB
   rw[h0]
   apply decide_eq_false
   show ¬(x.2.2.2.2.2<0)
   omega
 simp[this]
theorem left_gone {lo hi:Int} {c:Ct} {x:Fl} {text:ByteArray} (hx:x.2.1.data.toList= [45]):addS lo hi x text (leftC lo hi c)=leftC lo hi (takeC x text c):=by
 rw[addS_gone hx,takeC_gone hx]
 unfold leftC
 rw[List.filter_filter]
 apply List.filter_congr
 intro p _
 have:deadB (c.2++(goneO text.data.toList).1.map fun k=>(k,x.2.2.2.2.2)) p=(deadB c.2 p || ((goneO text.data.toList).1.contains p.1.2.1 && decide (p.2<x.2.2.2.2.2))):=by
   unfold deadB
   rw[lastC_keys]
   cases hc:(goneO text.data.toList).1.contains p.1.2.1
   · simp
   · simp only[if_true,Bool.true_and]
     by_cases h1:p.2<lastC c.2 p.1.2.1
     · rw[decide_eq_true h1,decide_eq_true (by omega)];rfl
     · rw[decide_eq_false h1]
       by_cases h2:p.2<x.2.2.2.2.2
       · rw[decide_eq_true h2,decide_eq_true (by omega)];rfl
       · rw[decide_eq_false h2,decide_eq_false (by omega)];rfl
 rw[this]
 cases inB lo hi p.1<;>cases deadB c.2 p<;>cases ((goneO text.data.toList).1.contains p.1.2.1 && decide (p.2<x.2.2.2.2.2))<;>rfl
theorem fold_left {obs:List Ob} {lo hi:Int} :∀(g:List Fl) (c:Ct),Ahead g→(c.2= []∨∀x∈g,x.2.1.data.toList= [45])→(∀x∈g,0≤x.2.2.2.2.2)→g.foldl (fun a x=>addS lo hi x (fileR obs x).2 a) (leftC lo hi c)=leftC lo hi (readC obs g c)
 | [],c,_,_,_=>rfl
 | x :: r,c,ha,h0,hq=>by
   rw[List.foldl_cons]
   have hr:readC obs (x :: r) c=readC obs r (takeC x (fileR obs x).2 c):=rfl
   rw[hr]
   have ha':=List.pairwise_cons.1 ha
   have hq':=fun y hy=>hq y (List.mem_cons_of_mem _ hy)
   by_cases hx:x.2.1.data.toList= [45]
   · rw[left_gone hx]
     exact fold_left r _ ha'.2 (Or.inr fun y hy=>ha'.1 y hy hx) hq'
   · have h1:c.2= []:=by
       rcases h0 with h0 | h0
       · exact h0
       · exact absurd (h0 x List.mem_cons_self) hx
     rw[left_data hx h1 (hq x List.mem_cons_self)]
     refine fold_left r _ ha'.2 (Or.inl ?_) hq'
     rw[takeC_data hx]
     exact h1
def rowsQ (ys:List (Rw×Int)) (q:Int):List Rw:=(ys.filter fun p=>decide (p.2=q)).map (·.1)
theorem rowsQ_append (ys zs:List (Rw×Int)) (q:Int):rowsQ (ys++zs) q=rowsQ ys q++rowsQ zs q:=by
 unfold rowsQ
 rw[List.filter_append,List.map_append]
theorem rowsQ_same (l:List Rw) (q:Int):rowsQ (l.map fun r=>(r,q)) q=l:=by
 unfold rowsQ
 rw[List.filter_eq_self.2 (fun p hp=>by obtain⟨r,_,rfl⟩:=List.mem_map.1 hp;simp)]
 rw[List.map_map]
 conv=>rhs;rw[←List.map_id l]
 rfl
theorem rowsQ_other (l:List Rw) (q z:Int) (h:z≠q):rowsQ (l.map fun r=>(r,q)) z= []:=by
 unfold rowsQ
 rw[List.filter_eq_nil_iff.2 (fun p hp=>by obtain⟨r,_,rfl⟩:=List.mem_map.1 hp;simpa using fun e=>h e.symm)]
 rfl
theorem flat_same {r:List Int} {f g:Int→List (Rw×Int)} (h:∀z∈r,f z=g z):r.flatMap f=r.flatMap g:=by
 induction r with
 | nil=>rfl
 | cons z t ih=>rw [List.flatMap_cons,List.flatMap_cons,h z List.mem_cons_self,ih fun y hy=>h y (List.mem_cons_of_mem _ hy)]
theorem byNum_perm:∀(qs:List Int) (ys:List (Rw×Int)),qs.Nodup→(∀p∈ys,p.2∈qs)→(qs.flatMap fun q=>ys.filter fun p=>decide (p.2=q)).Perm ys
 | [],ys,_,h=>by
   cases ys with
   | nil=>exact List.Perm.refl _
   | cons p r=>have:=h p List.mem_cons_self;cases this
 | q :: r,ys,hn,h=>by
   rw[List.flatMap_cons]
   have hn':=List.nodup_cons.1 hn
   have e:(r.flatMap fun z=>ys.filter fun p=>decide (p.2=z))=r.flatMap fun z=>(ys.filter fun p=> !decide (p.2=q)).filter fun p=>decide (p.2=z):=by
     apply flat_same
     intro z hz
     rw[List.filter_filter]
     apply List.filter_congr
     intro p _
     by_cases h1:p.2=z
     · have:¬p.2=q:=fun e=>hn'.1 (by rw[←e,h1];exact hz)
       simp[h1]
       rw[h1]at this
       exact this
     · simp[h1]
   rw[e]
   refine(List.Perm.append_left _ (byNum_perm r _ hn'.2 ?_)).trans ?_
   · intro p hp
     obtain⟨h1,h2⟩:=List.mem_filter.1 hp
     have h3:=h p h1
     rw[List.mem_cons]at h3
     rcases h3 with h3 | h3
     · simp[h3]at h2
     · exact h3
   · exact List.filter_append_perm _ _
def aliveQ (c:Ct) (qs:List Int):List Rw:=qs.flatMap fun q=>(rowsQ c.1 q).filter fun r=> !deadB c.2 (r,q)
theorem alive_perm (c:Ct) (qs:List Int) (hn:qs.Nodup) (h:∀p∈c.1,p.2∈qs):(aliveQ c qs).Perm ((c.1.filter fun p=> !deadB c.2 p).map (·.1)):=by
 have hp:=((byNum_perm qs c.1 hn h).filter fun p=> !deadB c.2 p).map (·.1)
 have e:aliveQ c qs=((qs.flatMap fun q=>c.1.filter fun p=>decide (p.2=q)).filter fun p=> !deadB c.2 p).map (·.1):=by
   unfold aliveQ
   clear hn h hp
   induction qs with
   | nil=>rfl
   | cons q r ih =>
     rw[List.flatMap_cons,List.flatMap_cons,List.filter_append,List.map_append,ih]
     congr 1
     unfold rowsQ
     rw[List.filter_map]
     congr 1
     apply List.filter_congr
     intro p hp
     have hq:=(List.mem_filter.1 hp).2
     simp only[decide_eq_true_eq]at hq
     obtain⟨r',q'⟩:=p
     dsimp only at hq
     subst hq
     rfl
 rw[e]
 exact hp
theorem alive_sorted (lo hi:Int) (c:Ct) (qs:List Int) (hn:qs.Nodup) (h:∀p∈c.1,p.2∈qs):sortR ((aliveQ c qs).filter (inB lo hi))=sortR ((leftC lo hi c).map (·.1)):=by
 have e:((c.1.filter fun p=> !deadB c.2 p).map (·.1)).filter (inB lo hi)=(leftC lo hi c).map (·.1):=by
   unfold leftC
   rw[List.filter_map,List.filter_filter]
   rfl
 rw[←e]
 exact sortR_of_perm ((alive_perm c qs hn h).filter _)
theorem find_rise {fs:List Fl} (h:Rises 0 fs) {j:Nat} {x:Fl} (hx:fs[j]? =some x):findF fs x.1=j:=by
 obtain⟨hj,rfl⟩:=List.getElem?_eq_some_iff.1 hx
 refine findF_at hj (fun i hi hlt e=>?_) rfl
 have:=List.pairwise_iff_getElem.1 h.2 i j hi hj hlt
 unfold fk at this
 rw[e]at this
 omega
theorem snap_list {s:Sn} (h:(snapE s).1=0):s.2.2.2.2.2.2.length≤60∧Rises 0 s.2.2.2.2.2.2:=by
 unfold snapE at h
 split at h
 · cases h
 · split at h
   · cases h
   · split at h
     · rename_i hl
       exact absurd h hl
     · rename_i hl
       exact listE_ok.1 (by simpa using hl)
theorem file_seq {f:Fl} (h:fileE f=0):1≤f.2.2.2.2.2∧f.2.2.2.2.2≤1073741824:=by
 obtain⟨g,n,hp,hq,hb⟩:=file_good h
 unfold bndB at hb
 simp only[Bool.and_eq_true,decide_eq_true_eq,cntB]at hb
 omega
theorem rows_done {obs:List Ob} {s:Sn} {lo hi:Int} (he:(snapE s).1=0) (h:∀x∈s.2.2.2.2.2.2.filter (inP lo hi),(fileR obs x).1=0) (qs:List Int) (hn:qs.Nodup) (hq:∀p∈(readC obs (s.2.2.2.2.2.2.filter (inP lo hi)) ([], [])).1,p.2∈qs) :
   rowsS obs s lo hi=(sortR ((aliveQ (readC obs (s.2.2.2.2.2.2.filter (inP lo hi)) ([], [])) qs).filter (inB lo hi)),0,none):=by
 have hr:=(snap_list he).2
 have hg:=scan_good s.2.2.2.2.2.2 0 [] h
 have hf:=fold_left (obs:=obs) (lo:=lo) (hi:=hi) (s.2.2.2.2.2.2.filter (inP lo hi)) ([], []) (ahead_filter (ahead_of hr) _) (Or.inl rfl) (fun x hx=>by
   have:=(file_seq (hr.1 x (List.mem_filter.1 hx).1).1).1
   omega)
 have e0:leftC lo hi ([], [])= []:=rfl
 rw[e0]at hf
 rw[hf]at hg
 unfold rowsS
 rw[if_neg (by simpa using he),hg]
 simp only[ne_eq,not_true_eq_false,if_false]
 rw[alive_sorted lo hi _ qs hn hq]
theorem rows_bad {obs:List Ob} {s:Sn} {lo hi:Int} (he:(snapE s).1=0) (n:Nat) (x:Fl) (hx:(s.2.2.2.2.2.2.filter (inP lo hi))[n]? =some x) (hm:∀m y,m<n→(s.2.2.2.2.2.2.filter (inP lo hi))[m]? =some y→(fileR obs y).1=0) (hb:(fileR obs x).1≠0) :
   ∃j,s.2.2.2.2.2.2[j]? =some x∧rowsS obs s lo hi=([],(fileR obs x).1,some j):=by
 obtain⟨j,h1,h2⟩:=scan_bad s.2.2.2.2.2.2 0 [] n x hx hm hb
 rw[Nat.zero_add]at h2
 refine⟨j,h1,?_⟩
 unfold rowsS
 rw[if_neg (by simpa using he),h2,if_pos hb]
end Go.Proofs.YtdhkdjlgmbejnaaGreatDoor
