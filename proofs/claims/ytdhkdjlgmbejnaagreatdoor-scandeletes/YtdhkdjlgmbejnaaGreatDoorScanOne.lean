/- By an AI agent. -/
import Derived.Test.YtdhkdjlgmbejnaaGreatDoorScanFind
namespace Go.Proofs.YtdhkdjlgmbejnaaGreatDoor
open Go Go.Lib Go.Sort
theorem put_fine {s:St} {n t:ByteArray} (hc:s.cut= -1) (ho:s.off=false) (hn:objB n.data.toList=true) (ht:t.size≤20000) (hx:∀o∈s.obs,o.1≠n) (hl:s.obs.length<200) (hb:bytesS s.obs+t.size≤262144) :
   putC s n t=0∧putS s n t= { s with obs:=insO s.obs (n,t,s.day) } :=by
 have hg:(getO s.obs n).isSome=false:=by
   cases h:getO s.obs n with
   | none=>rfl
   | some o=>exact absurd (getO_some h).2 (hx o (getO_some h).1)
 have hE:putE s n t=0:=by
   unfold putE
   rw[if_neg (by rw[hn];decide),if_neg (by omega),if_neg (by rw[ho];decide),if_neg (by rw[hg];decide),if_neg (by omega)]
 have hw:wrtS s t.size=(t.size,s):=by
   unfold wrtS
   rw[if_pos (by omega)]
 have ht':bytesOf (t.data.toList.take t.size)=t:=by
   rw[List.take_of_length_le (by rw[size_list];exact Nat.le_refl _),bytesOf_data]
 constructor
 · unfold putC
   rw[hE,hw]
   simp[ho]
 · unfold putS
   rw[hE,hw]
   simp only[ne_eq,not_true_eq_false,if_false]
   rw[ht']
theorem put_get {s:St} (K:Keeps s) {n t:ByteArray} (hx:∀o∈s.obs,o.1≠n):getT (insO s.obs (n,t,s.day)) n=(t,0)∧∀m,m≠n→getT (insO s.obs (n,t,s.day)) m=getT s.obs m:=by
 constructor
 · unfold getT
   rw[getO_ins (o:=(n,t,s.day)) K.rise hx]
 · intro m hm
   unfold getT
   rw[getO_other (o:=(n,t,s.day)) K.rise hx hm]
theorem bytesS_ins (l:List Ob) (o:Ob):bytesS (insO l o)=bytesS l+o.2.1.size:=by
 unfold bytesS insO
 have h:(l.map fun o=>o.2.1.size).sum=((l.takeWhile (fun p=>decide (p.1.data.toList<o.1.data.toList))).map fun o=>o.2.1.size).sum+((l.dropWhile (fun p=>decide (p.1.data.toList<o.1.data.toList))).map fun o=>o.2.1.size).sum:=by
   rw[←List.sum_append_nat,←List.map_append,List.takeWhile_append_dropWhile]
 rw[h,List.map_append,List.sum_append_nat,List.map_cons,List.sum_cons]
 omega
structure TabX (a:List Fl×St) (n:Nat):Prop where
 off:a.2.off=false
 names:∀o∈a.2.obs,∃f∈a.1,f.1=o.1
 many:a.2.obs.length≤n
 bytes:bytesS a.2.obs≤1400*n
theorem known_right {p:Pc} (h:(pcKnown p).2=0):fileE (pcKnown p).1=0∧(pcKnown p).1.1=p.1:=by
 refine⟨?_,(known_path h).1⟩
 unfold pcKnown at h ⊢
 unfold ofF at h ⊢
 split at h
 · cases h
 · split at h
   · rename_i hk
     unfold chkF at h ⊢
     rw[if_pos hk]
     split at h
     · rename_i he
       rw[if_pos he];exact he
     · rename_i he
       exact absurd h he
   · rename_i hk
     exact absurd h hk
theorem itoa_small {n:Int} (h1:1≤n) (h2:n≤1073741824):(itoa n).length≤11∧∀c∈itoa n,signB c=true:=by
 refine⟨itoa_len11 n (by omega) (by omega),fun c hc=>?_⟩
 unfold itoa at hc
 rw[if_neg (by omega)]at hc
 have:=digits_are _ _ hc
 unfold signB
 rw[decide_eq_true this.1,decide_eq_true this.2]
 simp
theorem path_obj {s:List UInt8} (h:pathO s≠none):objB s=true:=by
 cases hp:pathO s with
 | none=>exact absurd hp h
 | some q =>
   obtain⟨g,n⟩:=q
   obtain⟨e,_,hc⟩:=path_some hp
   unfold cntB at hc
   simp only[Bool.and_eq_true,decide_eq_true_eq]at hc
   obtain⟨l1,l3⟩:=itoa_small hc.1 hc.2
   have hk:(kindL g).length=4∧∀c∈kindL g,signB c=true:=by cases g<;>decide
   unfold objB
   rw[e]
   simp only[Bool.and_eq_true,decide_eq_true_eq,List.all_eq_true,List.length_append,List.length_cons]
   refine⟨⟨fun c hc'=>?_,by omega⟩,by omega⟩
   rw[List.mem_append,List.mem_cons]at hc'
   rcases hc' with hc' | rfl | hc'
   · exact hk.2 c hc'
   · decide
   · exact l3 c hc'
theorem stepX {a:List Fl×St} {n:Nat} (hT:TabOk a n) (h:TabX a n) {p:Pc} (hp:pcLong p=false) (hn:n≤15):TabX (stepT a p) (n+1):=by
 unfold stepT
 split
 · exact⟨h.off,h.names,Nat.le_succ_of_le h.many,Nat.le_trans h.bytes (by omega)⟩
 · rename_i hc
   obtain⟨h1,h2⟩:=not_or.1 hc
   have h1':(pcKnown p).2=0:=by simpa using h1
   obtain⟨hf,hpth⟩:=known_right h1'
   have hx:∀o∈a.2.obs,o.1≠p.1:=fun o ho e=>by
     obtain⟨f,hf',e'⟩:=h.names o ho
     apply h2
     obtain⟨j,hj,rfl⟩:=List.getElem_of_mem hf'
     rcases Int.lt_or_le (findF a.1 p.1) 0 with hl | hl
     · exfalso
       unfold findF at hl
       split at hl
       · omega
       · rename_i hnone
         rw[List.findIdx?_eq_none_iff]at hnone
         have:=hnone _ (List.getElem_mem hj)
         simp[e',e]at this
     · exact hl
   have hobj:objB p.1.data.toList=true:=by
     have:=path_obj (ok_path hf)
     rw[hpth]at this
     exact this
   have hsz:=pcPut_size hp
   have hm:=h.many
   have hb:=h.bytes
   obtain⟨-,e⟩:=put_fine (s:=a.2) (n:=p.1) (t:=pcPut p) hT.cut h.off hobj (by omega) hx (by omega) (by omega)
   rw[e]
   refine⟨h.off,fun o ho=>?_,?_,?_⟩
   · rw[insO_mem]at ho
     rcases ho with rfl | ho
     · exact⟨(pcKnown p).1,placeL_mem.2 (Or.inl rfl),hpth⟩
     · obtain⟨f,hf',e'⟩:=h.names o ho
       exact⟨f,placeL_mem.2 (Or.inr hf'),e'⟩
   · dsimp only
     rw[insO_len];omega
   · dsimp only
     rw[bytesS_ins]
     dsimp only
     omega
theorem tabX {l:List Pc} (hp:∀p∈l,pcLong p=false) (hl:l.length≤15):∀n,n≤l.length→TabX (tabT (l.take n)) n
 | 0,_=>⟨rfl,fun _ h=>(nomatch h),Nat.le_refl _,Nat.le_refl _⟩
 | n+1,h=>by
   rw[tabT_step l (Nat.lt_of_succ_le h)]
   exact stepX (tabT_ok hp n (Nat.le_of_succ_le h)) (tabX hp hl n (Nat.le_of_succ_le h)) (hp _ (List.getElem_mem _)) (by omega)
theorem lastC_from (k:Int):∀(l:List (Int×Int)) (m:Int),0≤m→l.foldl (fun m p=>if p.1=k then max m p.2 else m) m=max m (lastC l k)
 | [],m,h=>by
   show m=max m 0
   omega
 | p :: r,m,h=>by
   unfold lastC
   rw[List.foldl_cons,List.foldl_cons]
   by_cases e:p.1=k
   · rw[if_pos e,if_pos e,lastC_from k r (max m p.2) (by omega),lastC_from k r (max 0 p.2) (by omega)]
     omega
   · rw[if_neg e,if_neg e,lastC_from k r m h,lastC_from k r 0 (Int.le_refl _)]
     omega
theorem lastC_nonneg (l:List (Int×Int)) (k:Int):0≤lastC l k:=by
 have:=lastC_from k l 0 (Int.le_refl _)
 have e:lastC l k=max 0 (lastC l k):=this
 omega
theorem lastC_append (l m:List (Int×Int)) (k:Int):lastC (l++m) k=max (lastC l k) (lastC m k):=by
 have e:lastC (l++m) k=m.foldl (fun m p=>if p.1=k then max m p.2 else m) (lastC l k):=by
   unfold lastC
   rw[List.foldl_append]
 rw[e,lastC_from k m _ (lastC_nonneg l k)]
def dataC (obs:List Ob) (x:Fl):List (Rw×Int):=if x.2.1.data.toList≠ [45] then (dataO (fileR obs x).2.data.toList).1.map (fun r=>(r,x.2.2.2.2.2)) else []
def goneC (obs:List Ob) (x:Fl):List (Int×Int):=if x.2.1.data.toList≠ [45] then [] else (goneO (fileR obs x).2.data.toList).1.map fun k=>(k,x.2.2.2.2.2)
theorem readC_flat (obs:List Ob):∀(g:List Fl) (c:Ct),readC obs g c=(c.1++g.flatMap (dataC obs),c.2++g.flatMap (goneC obs))
 | [],c=>by simp[readC]
 | x :: r,c=>by
   have e:readC obs (x :: r) c=readC obs r (takeC x (fileR obs x).2 c):=rfl
   rw[e,readC_flat obs r,List.flatMap_cons,List.flatMap_cons]
   unfold dataC goneC
   by_cases hg:x.2.1.data.toList= [45]
   · rw[takeC_gone hg,if_neg (by simpa using hg),if_neg (by simpa using hg)]
     simp
   · rw[takeC_data hg,if_pos hg,if_pos hg]
     simp
theorem scan_ok {obs:List Ob} {lo hi:Int} :∀(fs:List Fl) (i:Nat) (acc:List (Rw×Int)),(scanG obs lo hi fs i acc).2.1=0→∀x∈fs.filter (inP lo hi),(fileR obs x).1=0
 | [],_,_,_,x,hx=>by cases hx
 | y :: r,i,acc,h,x,hx=>by
   unfold scanG at h
   by_cases hp:inP lo hi y=false
   · rw[if_pos hp]at h
     rw[List.filter_cons,hp]at hx
     exact scan_ok r (i+1) acc h x hx
   · rw[if_neg hp]at h
     have hp':inP lo hi y=true:=by simpa using hp
     by_cases hb:(fileR obs y).1≠0
     · rw[if_pos hb]at h
       exact absurd h hb
     · rw[if_neg hb]at h
       rw[List.filter_cons,hp']at hx
       simp only[if_true,List.mem_cons]at hx
       rcases hx with rfl | hx
       · simpa using hb
       · exact scan_ok r (i+1) _ h x hx
theorem rows_ok {obs:List Ob} {s:Sn} {lo hi:Int} (h:(rowsS obs s lo hi).2.1=0):(snapE s).1=0∧∀x∈s.2.2.2.2.2.2.filter (inP lo hi),(fileR obs x).1=0:=by
 unfold rowsS at h
 by_cases he:(snapE s).1≠0
 · rw[if_pos he]at h
   exact absurd h he
 · rw[if_neg he]at h
   refine⟨by simpa using he,?_⟩
   by_cases hs:(scanG obs lo hi s.2.2.2.2.2.2 0 []).2.1≠0
   · rw[if_pos hs]at h
     exact absurd h hs
   · exact scan_ok _ 0 [] (by simpa using hs)
theorem rows_left {obs:List Ob} {s:Sn} {lo hi:Int} (he:(snapE s).1=0) (h:∀x∈s.2.2.2.2.2.2.filter (inP lo hi),(fileR obs x).1=0):rowsS obs s lo hi=(sortR ((leftC lo hi (readC obs (s.2.2.2.2.2.2.filter (inP lo hi)) ([], []))).map (·.1)),0,none):=by
 have hr:=(snap_list he).2
 have hg:=scan_good s.2.2.2.2.2.2 0 [] h
 have hf:=fold_left (obs:=obs) (lo:=lo) (hi:=hi) (s.2.2.2.2.2.2.filter (inP lo hi)) ([], []) (ahead_filter (ahead_of hr) _) (Or.inl rfl) (fun x hx=>by
   have:=(file_seq (hr.1 x (List.mem_filter.1 hx).1).1).1
   omega)
 have e0:leftC lo hi ([], [])= []:=rfl
 rw[e0]at hf
 rw[hf]at hg
 unfold rowsS
 rw[if_neg (by simpa using he),hg]
 simp
theorem wide_all {fs:List Fl} (h:∀x∈fs,fileE x=0):fs.filter (inP minI maxI)=fs:=by
 rw[List.filter_eq_self]
 exact fun x hx=>inP_all (by unfold minI;omega) (by unfold maxI;omega) (h x hx)
theorem seq_le {seq:Int} :∀ {fs:List Fl} {i:Nat},(seqG seq fs i).1=0↔∀f∈fs,f.2.2.2.2.2≤seq
 | [],i=>by simp[seqG]
 | f :: r,i=>by
   unfold seqG
   split
   · rename_i h
     constructor
     · intro e;cases e
     · intro e;have:=e f List.mem_cons_self;omega
   · rename_i h
     rw[seq_le]
     constructor
     · intro e g hg
       rw[List.mem_cons]at hg
       rcases hg with rfl | hg
       · omega
       · exact e g hg
     · exact fun e g hg=>e g (List.mem_cons_of_mem _ hg)
theorem snap_fine {s:Sn} :(snapE s).1=0↔sbndB s=true∧opB s.2.2.2.2.2.1.data.toList=true∧(listE s.2.2.2.2.2.2).1=0∧∀f∈s.2.2.2.2.2.2,f.2.2.2.2.2≤s.2.2.1:=by
 unfold snapE
 constructor
 · intro h
   split at h
   · cases h
   · rename_i h1
     split at h
     · cases h
     · rename_i h2
       split at h
       · rename_i h3
         exact absurd h h3
       · rename_i h3
         exact⟨by simpa using h1,by simpa using h2,by simpa using h3,seq_le.1 h⟩
 · rintro⟨h1,h2,h3,h4⟩
   rw[if_neg (by rw[h1];decide),if_neg (by rw[h2];decide),if_neg (by simpa using h3)]
   exact seq_le.2 h4
abbrev g99:ByteArray:=⟨#[103,111,110,101,47,57,57]⟩
theorem g99_path:pathO g99.data.toList=some (true,99):=by
 have e:itoa 99= [57,57]:=by
   unfold itoa
   rw[if_neg (by omega),decDigits,dif_neg (by decide),decDigits,dif_pos (by decide)]
   rfl
 have h:=path_of true (itoa 99)
 rw[e]at h
 have e2:g99.data.toList=kindL true++47 :: [57,57]:=rfl
 rw[e2,h]
 unfold pathN
 rw[←e,numO_of 99 (by omega) (by omega)]
 rfl
def f99 (zs:List Int) (q:Int):Fl:=(g99,⟨#[45]⟩,(riseZ zs).length,(endsZ (riseZ zs)).1,(endsZ (riseZ zs)).2,q)
theorem goneT_read {zs:List Int} (hz:∀z∈zs,inNum z=true) (hl:zs.length≤40):goneO (goneT zs).data.toList=(riseZ zs,0,none):=by
 unfold goneT
 rw[if_pos (by rw[List.all_eq_true];exact hz),bytes_data]
 exact fileG_read gone_fine (riseZ zs) (fun x hx=>hz x ((rise_mem zs x).1 hx)) (Nat.le_trans (rise_len zs) hl) (rise_good zs)
theorem f99_ok {zs:List Int} (hz:∀z∈zs,inNum z=true) (hl:zs.length≤40) (hne:zs≠ []) {q:Int} (h1:1≤q) (h2:q≤1073741824):fileE (f99 zs q)=0∧ofF g99 ⟨#[45]⟩ (goneT zs).data.toList q=(f99 zs q,0):=by
 have hrne:riseZ zs≠ []:=fun e=>by
   obtain⟨z,hz'⟩:=List.exists_mem_of_ne_nil _ hne
   have:=(rise_mem zs z).2 hz'
   rw[e]at this
   cases this
 obtain⟨m1,m2,m3⟩:=ends_mem hrne
 have i1:=hz _ ((rise_mem zs _).1 m1)
 have i2:=hz _ ((rise_mem zs _).1 m2)
 have i3:=m3 _ m1
 have hlr:=Nat.le_trans (rise_len zs) hl
 have hpos:=List.length_pos_iff.2 hrne
 have hE:fileE (f99 zs q)=0:=by
   unfold fileE f99
   rw[g99_path]
   dsimp only
   have hp:partB true (⟨#[45]⟩:ByteArray).data.toList=true:=rfl
   rw[hp]
   have hb:bndB (g99,⟨#[45]⟩,((riseZ zs).length:Int),(endsZ (riseZ zs)).1,(endsZ (riseZ zs)).2,q)=true:=by
     unfold bndB cntB
     dsimp only
     simp only[Bool.and_eq_true,decide_eq_true_eq]
     exact⟨⟨⟨⟨⟨by omega,by omega⟩,i1⟩,i2⟩,i3.2⟩,h1,h2⟩
   rw[hb]
   rfl
 refine⟨hE,?_⟩
 rw[ofF_some g99_path]
 have hk:keysF true (goneT zs).data.toList=(riseZ zs,0):=by
   show ((goneO (goneT zs).data.toList).1,(goneO (goneT zs).data.toList).2.1)=_
   rw[goneT_read hz hl]
 rw[hk,if_pos rfl]
 unfold chkF
 dsimp only
 rw[if_pos (show fileE (g99,⟨#[45]⟩,((riseZ zs).length:Int),(endsZ (riseZ zs)).1,(endsZ (riseZ zs)).2,q)=0 from hE)]
 rfl
structure More (obs obs':List Ob) (zs:List Int):Prop where
 new:getT obs' g99=(goneT zs,0)
 old:∀n,n≠g99→getT obs' n=getT obs n
theorem More.file {obs obs':List Ob} {zs:List Int} (h:More obs obs' zs) {x:Fl} (hx:x.1≠g99):fileR obs' x=fileR obs x:=by
 unfold fileR
 rw[h.old x.1 hx]
theorem More.file99 {obs obs':List Ob} {zs:List Int} (h:More obs obs' zs) (hz:∀z∈zs,inNum z=true) (hl:zs.length≤40) (hne:zs≠ []) {q:Int} (h1:1≤q) (h2:q≤1073741824):fileR obs' (f99 zs q)=(0,goneT zs):=by
 have ho:=(f99_ok hz hl hne h1 h2).2
 have e:getT obs' (f99 zs q).1=(goneT zs,0):=h.new
 have e2:ofF (f99 zs q).1 (f99 zs q).2.1 (goneT zs).data.toList (f99 zs q).2.2.2.2.2=(f99 zs q,0):=ho
 unfold fileR
 rw[e]
 dsimp only
 rw[e2]
 simp
theorem rows_more {obs obs':List Ob} {zs:List Int} (hM:More obs obs' zs) (hz:∀z∈zs,inNum z=true) (hl:zs.length≤40) (hne:zs≠ []) {s s':Sn} (h:(rowsS obs s minI maxI).2.1=0) (hx:∀f∈s.2.2.2.2.2.2,f.1≠g99) (hn:s.2.2.2.2.2.2.length≤50) {q:Int} (h1:1≤q) (h2:q≤1073741824) (hs':s'.2.2.2.2.2.2=placeL s.2.2.2.2.2.2 (f99 zs q)) (hE:sbndB s'=true) (ho:s'.2.2.2.2.2.1=s.2.2.2.2.2.1) (hq:q≤s'.2.2.1) (hsq:s.2.2.1≤s'.2.2.1) :
   ∃ps:List (Rw×Int),(∀p∈ps,1≤p.2∧p.2≤s.2.2.1)∧rowsS obs s minI maxI=(sortR (ps.map (·.1)),0,none)∧rowsS obs' s' minI maxI=(sortR ((ps.filter fun p=> !(zs.contains p.1.2.1 && decide (p.2<q))).map (·.1)),0,none):=by
 obtain⟨he,hall⟩:=rows_ok h
 obtain⟨b1,b2,b3,b4⟩:=snap_fine.1 he
 obtain⟨hlen,hr⟩:=listE_ok.1 b3
 obtain⟨f1,f2⟩:=f99_ok hz hl hne h1 h2
 have hfe:∀x∈s.2.2.2.2.2.2,fileE x=0:=fun x hx=>(hr.1 x hx).1
 have hzz:∀g∈s.2.2.2.2.2.2,fk g≠fk (f99 zs q):=fun g hg e=>hx g hg (fk_path (hfe g hg) f1 e)
 obtain⟨r1,r2,-⟩:=place_rises hr f1 hzz
 have he':(snapE s').1=0:=by
   refine snap_fine.2 ⟨hE,by rw[ho];exact b2,?_,?_⟩
   · rw[hs']
     exact listE_ok.2 ⟨by omega,r1⟩
   · rw[hs']
     intro f hf
     rw[placeL_mem]at hf
     rcases hf with rfl | hf
     · exact hq
     · exact Int.le_trans (b4 f hf) hsq
 have hw:=wide_all hfe
 have hw':s'.2.2.2.2.2.2.filter (inP minI maxI)=placeL s.2.2.2.2.2.2 (f99 zs q):=by
   rw[hs']
   exact wide_all fun x hx=>(r1.1 x hx).1
 rw[hw]at hall
 have hall':∀x∈s'.2.2.2.2.2.2.filter (inP minI maxI),(fileR obs' x).1=0:=by
   rw[hw']
   intro x hx'
   rw[placeL_mem]at hx'
   rcases hx' with rfl | hx'
   · rw[hM.file99 hz hl hne h1 h2]
   · rw[hM.file (hx x hx')]
     exact hall x hx'
 have e1:=rows_left he (lo:=minI) (hi:=maxI) (obs:=obs) (by rw[hw];exact hall)
 have e2:=rows_left he' hall'
 rw[hw,readC_flat]at e1
 rw[hw',readC_flat]at e2
 simp only[List.nil_append]at e1 e2
 have hfs:s.2.2.2.2.2.2=s.2.2.2.2.2.2.takeWhile (fun g=>decide (fk g<fk (f99 zs q)))++s.2.2.2.2.2.2.dropWhile (fun g=>decide (fk g<fk (f99 zs q))):=(List.takeWhile_append_dropWhile).symm
 have hpl:placeL s.2.2.2.2.2.2 (f99 zs q)=s.2.2.2.2.2.2.takeWhile (fun g=>decide (fk g<fk (f99 zs q)))++f99 zs q :: s.2.2.2.2.2.2.dropWhile (fun g=>decide (fk g<fk (f99 zs q))):=rfl
 have hdat:∀x∈s.2.2.2.2.2.2,dataC obs' x=dataC obs x∧goneC obs' x=goneC obs x:=fun x hx'=>by
   unfold dataC goneC
   rw[hM.file (hx x hx')]
   exact⟨rfl,rfl⟩
 have hd99:dataC obs' (f99 zs q)= []:=by
   unfold dataC
   rw[if_neg (by simp[f99])]
 have hg99:goneC obs' (f99 zs q)=(riseZ zs).map fun k=>(k,q):=by
   unfold goneC
   rw[if_neg (by simp[f99]),hM.file99 hz hl hne h1 h2]
   dsimp only
   rw[goneT_read hz hl]
   rfl
 generalize s.2.2.2.2.2.2.takeWhile (fun g=>decide (fk g<fk (f99 zs q)))=A at hfs hpl
 generalize s.2.2.2.2.2.2.dropWhile (fun g=>decide (fk g<fk (f99 zs q)))=C at hfs hpl
 have hA:∀x∈A,x∈s.2.2.2.2.2.2:=fun x hx'=>by rw[hfs];exact List.mem_append_left _ hx'
 have hC:∀x∈C,x∈s.2.2.2.2.2.2:=fun x hx'=>by rw[hfs];exact List.mem_append_right _ hx'
 have fm:∀ {γ:Type} (L:List Fl) (u v:Fl→List γ),(∀x∈L,u x=v x)→L.flatMap u=L.flatMap v:=by
   intro γ L u v huv
   induction L with
   | nil=>rfl
   | cons y r ih=>rw [List.flatMap_cons,List.flatMap_cons,huv y List.mem_cons_self,ih fun x hx'=>huv x (List.mem_cons_of_mem _ hx')]
 rw[hpl,List.flatMap_append,List.flatMap_cons,hd99,List.nil_append,List.flatMap_append,List.flatMap_cons,hg99,fm A (dataC obs') (dataC obs) fun x hx'=>(hdat x (hA x hx')).1,fm C (dataC obs') (dataC obs) fun x hx'=>(hdat x (hC x hx')).1,fm A (goneC obs') (goneC obs) fun x hx'=>(hdat x (hA x hx')).2,fm C (goneC obs') (goneC obs) fun x hx'=>(hdat x (hC x hx')).2]at e2
 rw[hfs,List.flatMap_append,List.flatMap_append]at e1
 have hseq:∀p∈A.flatMap (dataC obs)++C.flatMap (dataC obs),1≤p.2∧p.2≤s.2.2.1:=by
   intro p hp
   have key:∀x∈s.2.2.2.2.2.2,p∈dataC obs x→1≤p.2∧p.2≤s.2.2.1:=fun x hx' hp'=>by
     unfold dataC at hp'
     split at hp'
     · obtain⟨r,_,rfl⟩:=List.mem_map.1 hp'
       exact⟨(file_seq (hfe x hx')).1,b4 x hx'⟩
     · cases hp'
   rw[List.mem_append,List.mem_flatMap,List.mem_flatMap]at hp
   rcases hp with⟨x,hx',hp'⟩|⟨x,hx',hp'⟩
   · exact key x (hA x hx') hp'
   · exact key x (hC x hx') hp'
 refine⟨leftC minI maxI (A.flatMap (dataC obs)++C.flatMap (dataC obs),A.flatMap (goneC obs)++C.flatMap (goneC obs)),fun p hp=>hseq p (List.mem_filter.1 hp).1,e1,?_⟩
 rw[e2]
 congr 2
 unfold leftC
 dsimp only
 rw[List.filter_filter]
 congr 1
 apply List.filter_congr
 intro p hp
 have hdead:deadB (A.flatMap (goneC obs)++((riseZ zs).map (fun k=>(k,q))++C.flatMap (goneC obs))) p=(deadB (A.flatMap (goneC obs)++C.flatMap (goneC obs)) p || (zs.contains p.1.2.1 && decide (p.2<q))):=by
   have hlk:=lastC_keys [] q p.1.2.1 (riseZ zs)
   rw[List.nil_append]at hlk
   have hcz:(riseZ zs).contains p.1.2.1=zs.contains p.1.2.1:=by
     rw[Bool.eq_iff_iff]
     simp[rise_mem]
   rw[hcz]at hlk
   have h0:lastC [] p.1.2.1=0:=rfl
   rw[h0]at hlk
   have hp2:=(hseq p hp).1
   unfold deadB
   rw[lastC_append,lastC_append,lastC_append,hlk]
   have n1:=lastC_nonneg (A.flatMap (goneC obs)) p.1.2.1
   have n2:=lastC_nonneg (C.flatMap (goneC obs)) p.1.2.1
   generalize lastC (A.flatMap (goneC obs)) p.1.2.1=l1 at *
   generalize lastC (C.flatMap (goneC obs)) p.1.2.1=l2 at *
   cases zs.contains p.1.2.1
   · simp only[Bool.false_eq_true,if_false,Bool.false_and,Bool.or_false]
     congr 1
     rw[eq_iff_iff]
     constructor<;>intro h'<;>omega
   · simp only[if_true,Bool.true_and]
     by_cases h3:p.2<q
     · rw[decide_eq_true h3,Bool.or_true,decide_eq_true (by omega)]
     · rw[decide_eq_false h3,Bool.or_false]
       congr 1
       rw[eq_iff_iff]
       constructor<;>intro h'<;>omega
 rw[hdead]
 cases inB minI maxI p.1<;>cases deadB (A.flatMap (goneC obs)++C.flatMap (goneC obs)) p<;>cases (zs.contains p.1.2.1 && decide (p.2<q))<;>rfl
theorem rows_newer {obs obs':List Ob} {zs:List Int} (hM:More obs obs' zs) (hz:∀z∈zs,inNum z=true) (hl:zs.length≤40) (hne:zs≠ []) {s s':Sn} (h:(rowsS obs s minI maxI).2.1=0) (hx:∀f∈s.2.2.2.2.2.2,f.1≠g99) (hn:s.2.2.2.2.2.2.length≤50) (hq:s.2.2.1<1073741824) (he:s'=(s.1,s.2.1,s.2.2.1+1,s.2.2.2.1,s.2.2.2.2.1,s.2.2.2.2.2.1,placeL s.2.2.2.2.2.2 (f99 zs (s.2.2.1+1)))) :
   rowsS obs' s' minI maxI=((rowsS obs s minI maxI).1.filter (outB zs),0,none):=by
 obtain⟨b1,-⟩:=snap_fine.1 (rows_ok h).1
 have hb:=sbnd_all.1 b1
 subst he
 obtain⟨ps,h1,h2,h3⟩:=rows_more hM hz hl hne (s':=(s.1,s.2.1,s.2.2.1+1,s.2.2.2.1,s.2.2.2.2.1,s.2.2.2.2.2.1,placeL s.2.2.2.2.2.2 (f99 zs (s.2.2.1+1)))) h hx hn (q:=s.2.2.1+1) (by omega) (by omega) rfl (sbnd_all.2 (by dsimp only;omega)) rfl (Int.le_refl _) (by dsimp only;omega)
 rw[h3,h2]
 dsimp only
 rw[←sortR_filter,List.filter_map]
 congr 3
 apply List.filter_congr
 intro p hp
 have:=(h1 p hp).2
 rw[decide_eq_true (by omega:p.2<s.2.2.1+1),Bool.and_true]
 rfl
theorem rows_older {obs obs':List Ob} {zs:List Int} (hM:More obs obs' zs) (hz:∀z∈zs,inNum z=true) (hl:zs.length≤40) (hne:zs≠ []) {s s':Sn} (h:(rowsS obs s minI maxI).2.1=0) (hx:∀f∈s.2.2.2.2.2.2,f.1≠g99) (hn:s.2.2.2.2.2.2.length≤50) (hq:1≤s.2.2.1) (he:s'=(s.1,s.2.1,s.2.2.1,s.2.2.2.1,s.2.2.2.2.1,s.2.2.2.2.2.1,placeL s.2.2.2.2.2.2 (f99 zs 1))) :
   rowsS obs' s' minI maxI=((rowsS obs s minI maxI).1,0,none):=by
 obtain⟨b1,-⟩:=snap_fine.1 (rows_ok h).1
 have hb:=sbnd_all.1 b1
 subst he
 obtain⟨ps,h1,h2,h3⟩:=rows_more hM hz hl hne (s':=(s.1,s.2.1,s.2.2.1,s.2.2.2.1,s.2.2.2.2.1,s.2.2.2.2.2.1,placeL s.2.2.2.2.2.2 (f99 zs 1))) h hx hn (q:=1) (by omega) (by omega) rfl b1 rfl hq (Int.le_refl _)
 rw[h3,h2]
 dsimp only
 congr 3
 rw[List.filter_eq_self]
 intro p hp
 have:=(h1 p hp).1
 rw[decide_eq_false (by omega),Bool.and_false]
 rfl
abbrev d1B:ByteArray:=⟨#[100,97,116,97,47,49]⟩
abbrev g2B:ByteArray:=⟨#[103,111,110,101,47,50]⟩
abbrev paB:ByteArray:=⟨#[97]⟩
abbrev pmB:ByteArray:=⟨#[45]⟩
abbrev opA:ByteArray:=⟨#[97,112,112,101,110,100]⟩
abbrev xs12:List Rw:= [(paB,1,5),(paB,2,6)]
abbrev x1F:Fl:=(d1B,paB,2,1,2,1)
abbrev y2F:Fl:=(g2B,pmB,1,2,2,2)
theorem itoa_1:itoa 1= [49]:=by
 unfold itoa
 rw[if_neg (by omega),decDigits,dif_pos (by decide)]
 rfl
theorem itoa_2:itoa 2= [50]:=by
 unfold itoa
 rw[if_neg (by omega),decDigits,dif_pos (by decide)]
 rfl
theorem d1_path:pathO d1B.data.toList=some (false,1):=by
 have h:=path_of false (itoa 1)
 rw[itoa_1]at h
 have e2:d1B.data.toList=kindL false++47 :: [49]:=rfl
 rw[e2,h]
 unfold pathN
 rw[←itoa_1,numO_of 1 (by omega) (by omega)]
 rfl
theorem g2_path:pathO g2B.data.toList=some (true,2):=by
 have h:=path_of true (itoa 2)
 rw[itoa_2]at h
 have e2:g2B.data.toList=kindL true++47 :: [50]:=rfl
 rw[e2,h]
 unfold pathN
 rw[←itoa_2,numO_of 2 (by omega) (by omega)]
 rfl
theorem x1_ok:fileE x1F=0:=by
 unfold fileE
 rw[d1_path]
 decide
theorem y2_ok:fileE y2F=0:=by
 unfold fileE
 rw[g2_path]
 decide
theorem xs12_ok:∀x∈xs12,rowE x=0:=by decide
theorem xs12_sorted:sortR xs12=xs12:=sortR_id (by decide)
theorem dataT_read {xs:List Rw} (hx:∀x∈xs,rowE x=0) (hl:xs.length≤40):dataO (dataT xs).data.toList=(sortR xs,0,none):=by
 unfold dataT
 rw[if_pos (by rw[List.all_eq_true];intro x h;exact decide_eq_true (hx x h)),bytes_data]
 refine file_read (sortR xs) (fun x h=>hx x ((sortR_perm xs).mem_iff.1 h)) (by rw[sortR_len];exact hl) ((sortR_sorted xs).imp fun h=>by simpa using h)
theorem rise_2:riseZ [2]= [2]:=rise_is (by decide) (fun x=>Iff.rfl)
theorem x1_of:ofF d1B paB (dataT xs12).data.toList 1=(x1F,0):=by
 rw[ofF_some d1_path]
 have hk:keysF false (dataT xs12).data.toList=([1,2],0):=by
   show (keysR (dataO (dataT xs12).data.toList).1,(dataO (dataT xs12).data.toList).2.1)=_
   rw[dataT_read xs12_ok (by decide),xs12_sorted]
   rfl
 rw[hk,if_pos rfl]
 unfold chkF
 exact if_pos x1_ok
theorem y2_of:ofF g2B pmB (goneT [2]).data.toList 2=(y2F,0):=by
 rw[ofF_some g2_path]
 have hk:keysF true (goneT [2]).data.toList=([2],0):=by
   show ((goneO (goneT [2]).data.toList).1,(goneO (goneT [2]).data.toList).2.1)=_
   rw[goneT_read (by decide) (by decide),rise_2]
 rw[hk,if_pos rfl]
 unfold chkF
 exact if_pos y2_ok
def st1S:St:= { newS with obs:= [(d1B,dataT xs12,0)] }
def st2S:St:= { newS with obs:=insO [(d1B,dataT xs12,0)] (g2B,goneT [2],0) }
theorem st1_is:putC newS d1B (dataT xs12)=0∧putS newS d1B (dataT xs12)=st1S:=by
 have hs:=dataT_size (xs:=xs12) (by decide)
 exact put_fine (s:=newS) rfl rfl (by decide) (by omega) (fun o ho=>by cases ho) (by decide) (by show 0+_≤_;omega)
theorem st1_keeps:Keeps st1S:=by
 have h:=putS_keeps newS_keeps d1B (dataT xs12)
 rw[st1_is.2]at h
 exact h
theorem st2_is:putC st1S g2B (goneT [2])=0∧putS st1S g2B (goneT [2])=st2S:=by
 have hs:=goneT_size (zs:= [2]) (by decide)
 have hs':=dataT_size (xs:=xs12) (by decide)
 refine put_fine (s:=st1S) rfl rfl (by decide) (by omega) (fun o ho=>?_) (by decide) ?_
 · have:o=(d1B,dataT xs12,0):=by simpa [st1S] using ho
   rw[this]
   decide
 · have:bytesS st1S.obs=(dataT xs12).size:=by simp[bytesS,st1S]
   rw[this]
   omega
theorem st2_keeps:Keeps st2S:=by
 have h:=putS_keeps st1_keeps g2B (goneT [2])
 rw[st2_is.2]at h
 exact h
abbrev s12:Sn:=(3,0,2,0,0,opA, [x1F,y2F])
theorem s12_ok:(snapE s12).1=0:=by
 refine snap_fine.2 ⟨by decide,by decide,?_,by decide⟩
 refine listE_ok.2 ⟨by decide,?_,?_⟩
 · intro f hf
   simp only[List.mem_cons,List.not_mem_nil,or_false]at hf
   rcases hf with rfl | rfl
   · exact⟨x1_ok,fk_pos x1_ok⟩
   · exact⟨y2_ok,fk_pos y2_ok⟩
 · refine List.Pairwise.cons ?_ (List.pairwise_singleton _ _)
   intro f hf
   simp only[List.mem_singleton]at hf
   subst hf
   have e1:=(pk_some d1_path).1
   have e2:=(pk_some g2_path).1
   show pk _<pk _
   rw[e1,e2]
   decide
theorem s12_rows:rowsS st2S.obs s12 0 9=([(paB,1,5)],0,none):=by
 have hne:∀o∈st1S.obs,o.1≠g2B:=fun o ho=>by
   have:o=(d1B,dataT xs12,0):=by simpa [st1S] using ho
   rw[this]
   decide
 obtain⟨g1,g2⟩:=put_get (s:=st1S) st1_keeps (n:=g2B) (t:=goneT [2]) hne
 have h2:getT st2S.obs g2B=(goneT [2],0):=g1
 have h1:getT st2S.obs d1B=(dataT xs12,0):=by
   have:getT st2S.obs d1B=getT st1S.obs d1B:=g2 d1B (by decide)
   rw[this]
   rfl
 have f1:fileR st2S.obs x1F=(0,dataT xs12):=by
   unfold fileR
   rw[h1]
   dsimp only
   rw[x1_of]
   simp
 have f2:fileR st2S.obs y2F=(0,goneT [2]):=by
   unfold fileR
   rw[h2]
   dsimp only
   rw[y2_of]
   simp
 have hf:s12.2.2.2.2.2.2.filter (inP 0 9)= [x1F,y2F]:=by
   rw[List.filter_eq_self]
   decide
 rw[rows_left s12_ok (by
   rw[hf]
   intro x hx
   simp only[List.mem_cons,List.not_mem_nil,or_false]at hx
   rcases hx with rfl | rfl
   · rw[f1]
   · rw[f2]),hf,readC_flat]
 have c1:dataC st2S.obs x1F= [((paB,1,5),1),((paB,2,6),1)]:=by
   unfold dataC
   rw[if_pos (by decide),f1,dataT_read xs12_ok (by decide),xs12_sorted]
   rfl
 have c2:dataC st2S.obs y2F= []:=by
   unfold dataC
   rw[if_neg (by decide)]
 have c3:goneC st2S.obs x1F= []:=by
   unfold goneC
   rw[if_pos (by decide)]
 have c4:goneC st2S.obs y2F= [(2,2)]:=by
   unfold goneC
   rw[if_neg (by decide),f2,goneT_read (by decide) (by decide),rise_2]
   rfl
 simp only[List.flatMap_cons,List.flatMap_nil,c1,c2,c3,c4,List.nil_append,List.append_nil]
 have e:leftC 0 9 ([((paB,1,5),1),((paB,2,6),1)], [(2,2)])= [((paB,1,5),1)]:=by decide
 rw[e]
 have e2:sortR [(paB,1,5)]= [(paB,1,5)]:=sortR_id (List.pairwise_singleton _ _)
 show (sortR [(paB,1,5)],0,none)=_
 rw[e2]
end Go.Proofs.YtdhkdjlgmbejnaaGreatDoor
