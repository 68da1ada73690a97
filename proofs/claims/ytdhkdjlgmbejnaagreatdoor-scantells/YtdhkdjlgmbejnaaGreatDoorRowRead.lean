/- By an AI agent. -/
import Derived.Test.YtdhkdjlgmbejnaaGreatDoorGonePure
import Derived.Lib.Slices
import Derived.Shelf.SlSortCmp.QuietGrown
import Derived.Lib.AtoiErrMem
import Derived.Lib.LaidTab
namespace Go.Proofs.YtdhkdjlgmbejnaaGreatDoor
open Go Go.Lib
abbrev Fl:=ByteArray×ByteArray×Int×Int×Int×Int
def cntB (n:Int):Bool:=decide (1≤n) && decide (n≤1073741824)
def kindL (g:Bool):List UInt8:=if g then kGone else kData
def pathN (s:List UInt8):Option Int:=match numO s with
 | some n=>if cntB n then some n else none
 | none=>none
def pathO (s:List UInt8):Option (Bool×Int) :=
 if s.take 5=kData++ [47] then (pathN (s.drop 5)).map fun n=>(false,n) else
 if s.take 5=kGone++ [47] then (pathN (s.drop 5)).map fun n=>(true,n) else none
theorem num_nil:numO []=none:=by
 cases h:numO [] with
 | none=>rfl
 | some n =>
   have:=(numO_spelt h).1
   unfold itoa at this
   split at this
   · cases this
   · exact absurd this (digits_ne _)
theorem take_kind (k w:List UInt8) (hk:k.length=4):(k++47 :: w).take 5=k++ [47]∧(k++47 :: w).drop 5=w:=by
 have e:k++47 :: w=(k++ [47])++w:=by simp
 have hl:(k++ [47]).length=5:=by simp[hk]
 rw[e]
 exact⟨by rw[←hl,List.take_left],by rw[←hl,List.drop_left]⟩
theorem path_of (g:Bool) (w:List UInt8):pathO (kindL g++47 :: w)=(pathN w).map fun n=>(g,n):=by
 obtain⟨h1,h2⟩:=take_kind (kindL g) w (by cases g<;>rfl)
 unfold pathO
 rw[h1,h2]
 cases g
 · rw[if_pos (show kindL false++ [47]=kData++ [47] from rfl)]
 · rw[if_neg (by decide),if_pos (show kindL true++ [47]=kGone++ [47] from rfl)]
theorem path_some {s:List UInt8} {g:Bool} {n:Int} (h:pathO s=some (g,n)):s=kindL g++47 :: itoa n∧numO (itoa n)=some n∧cntB n=true:=by
 have key:∀(k:List UInt8) (b:Bool),s.take 5=k++ [47]→(pathN (s.drop 5)).map (fun m=>(b,m))=some (g,n)→b=g∧s=k++47 :: itoa n∧numO (itoa n)=some n∧cntB n=true:=fun k b hk hp=>by
   obtain⟨m,hm,he⟩:=Option.map_eq_some_iff.1 hp
   simp only[Prod.mk.injEq]at he
   obtain⟨rfl,rfl⟩:=he
   unfold pathN at hm
   split at hm
   · rename_i x hx
     split at hm
     · rename_i hc
       obtain rfl:=Option.some.inj hm
       have hsp:=(numO_spelt hx).1
       refine⟨rfl,?_,by rw[hsp];exact hx,hc⟩
       rw[hsp]
       conv=>lhs;rw[←List.take_append_drop 5 s,hk]
       simp
     · cases hm
   · cases hm
 unfold pathO at h
 split at h
 · rename_i hk
   obtain⟨rfl,h'⟩:=key _ _ hk h
   exact h'
 · split at h
   · rename_i hk
     obtain⟨rfl,h'⟩:=key _ _ hk h
     exact h'
   · cases h
theorem path_cut (s:List UInt8):pathO s=if (Lib.cut s [47]).1=kData then (pathN (Lib.cut s [47]).2.1).map fun n=>(false,n) else
   if (Lib.cut s [47]).1=kGone then (pathN (Lib.cut s [47]).2.1).map fun n=>(true,n) else none:=by
 rcases cut_cases 47 s with⟨hn,hc⟩|⟨a,b,rfl,hn,hc⟩
 · rw [hc]
   have hp:pathN []=none:=by unfold pathN;rw[num_nil]
   have hnone:pathO s=none:=by
     cases h:pathO s with
     | none=>rfl
     | some p =>
       obtain⟨g,n⟩:=p
       have:=(path_some h).1
       exact absurd rfl (hn 47 (by rw[this];simp))
   rw[hnone]
   dsimp only
   rw[hp]
   split
   · rfl
   · split<;>rfl
 · rw [hc]
   dsimp only
   by_cases h1:a=kData
   · subst h1
     rw[if_pos rfl]
     exact path_of false b
   · rw [if_neg h1]
     by_cases h2:a=kGone
     · subst h2
       rw[if_pos rfl]
       exact path_of true b
     · rw[if_neg h2]
       cases h:pathO (a++47 :: b) with
       | none=>rfl
       | some p =>
         obtain⟨g,n⟩:=p
         have e:=(path_some h).1
         have hk:∀c∈kindL g,c≠47:=by cases g<;>decide
         have e1:=cut_at 47 a b hn
         rw[e,cut_at 47 _ _ hk]at e1
         simp only[Prod.mk.injEq,and_true]at e1
         cases g
         · exact absurd e1.1.symm h1
         · exact absurd e1.1.symm h2
theorem path_parts {s:List UInt8} (h:6≤s.length):pathO s=if (s.take 4=kData∨s.take 4=kGone)∧s[4]? =some 47 then (pathN (s.drop 5)).map fun n=>(decide (s.take 4=kGone),n) else none:=by
 have ht:∀k:List UInt8,k.length=4→(s.take 5=k++ [47]↔s.take 4=k∧s[4]? =some 47):=fun k hk=>by
   have e5:s.take 5=s.take 4++ [s[4]'(by omega)]:=by rw[List.take_succ_eq_append_getElem (by omega)]
   rw[e5,List.getElem?_eq_getElem (by omega:4<s.length)]
   have hl:(s.take 4).length=k.length:=by rw[List.length_take,hk];omega
   constructor
   · intro e
     obtain⟨e1,e2⟩:=List.append_inj e hl
     exact⟨e1,by rw[List.singleton_inj.1 e2]⟩
   · rintro⟨e1,e2⟩
     rw[e1,Option.some.inj e2]
 unfold pathO
 have d1:=ht kData rfl
 have d2:=ht kGone rfl
 by_cases h1:s.take 5=kData++ [47]
 · have e1:=d1.1 h1
   rw[if_pos h1,if_pos ⟨Or.inl e1.1,e1.2⟩,e1.1]
   rfl
 · rw[if_neg h1]
   by_cases h2:s.take 5=kGone++ [47]
   · have e2:=d2.1 h2
     rw[if_pos h2,if_pos ⟨Or.inr e2.1,e2.2⟩,e2.1]
     rfl
   · rw[if_neg h2,if_neg]
     rintro⟨e | e,e'⟩
     · exact h1 (d1.2 ⟨e,e'⟩)
     · exact h2 (d2.2 ⟨e,e'⟩)
theorem path_short {s:List UInt8} (h:s.length<6):pathO s=none:=by
 have e:s.drop 5= []:=by rw[List.drop_eq_nil_iff];omega
 have hp:pathN []=none:=by unfold pathN;rw[num_nil]
 unfold pathO
 rw[e,hp]
 split
 · rfl
 · split<;>rfl
def pathR (s:List UInt8):List UInt8×Int×Nat:=match pathO s with
 | some (g,n)=>(kindL g,n,0)
 | none=>([],0,5)
def partB (g:Bool) (s:List UInt8):Bool:=if g then decide (s= [45]) else wordB 12 s
def bndB (f:Fl):Bool:=decide (1≤f.2.2.1) && decide (f.2.2.1≤40) && inNum f.2.2.2.1 && inNum f.2.2.2.2.1 && decide (f.2.2.2.1≤f.2.2.2.2.1) && cntB f.2.2.2.2.2
def fileE (f:Fl):Nat:=match pathO f.1.data.toList with
 | none=>5
 | some (g,_)=>if partB g f.2.1.data.toList then (if bndB f then 0 else 2) else 4
def zeroF:Fl:=(bytesOf [],bytesOf [],0,0,0,0)
def chkF (f:Fl):Fl×Nat:=if fileE f=0 then (f,0) else (zeroF,fileE f)
def keysF (g:Bool) (s:List UInt8):List Int×Nat:=if g then ((goneO s).1,(goneO s).2.1) else (keysR (dataO s).1,(dataO s).2.1)
def ofF (path part:ByteArray) (s:List UInt8) (seq:Int):Fl×Nat:=match pathO path.data.toList with
 | none=>(zeroF,5)
 | some (g,_)=>if (keysF g s).2=0 then chkF (path,part,(keysF g s).1.length,(endsZ (keysF g s).1).1,(endsZ (keysF g s).1).2,seq) else (zeroF,(keysF g s).2)
theorem fileE_le (f:Fl):fileE f≤5:=by
 unfold fileE
 split
 · omega
 · split
   · split<;>omega
   · omega
theorem file_good {f:Fl} (h:fileE f=0):∃g n,pathO f.1.data.toList=some (g,n)∧partB g f.2.1.data.toList=true∧bndB f=true:=by
 unfold fileE at h
 split at h
 · cases h
 · rename_i g n hp
   split at h
   · rename_i hq
     split at h
     · rename_i hb
       exact⟨g,n,hp,hq,hb⟩
     · cases h
   · cases h
theorem min_ends {zs:List Int} (h:zs≠ []):Lib.minOf zs=(endsZ zs).1∧Lib.maxOf zs=(endsZ zs).2:=by
 have f1:∀(r:List Int) (z:Int),r.foldl min z=r.foldl (fun a k=>if k<a then k else a) z:=fun r=>by
   induction r with
   | nil=>intro z;rfl
   | cons k r ih =>
     intro z
     rw[List.foldl_cons,List.foldl_cons,ih]
     congr 1
     rw[Int.min_def]
     split<;>split<;>omega
 have f2:∀(r:List Int) (z:Int),r.foldl max z=r.foldl (fun a k=>if a<k then k else a) z:=fun r=>by
   induction r with
   | nil=>intro z;rfl
   | cons k r ih =>
     intro z
     rw[List.foldl_cons,List.foldl_cons,ih]
     congr 1
     rw[Int.max_def]
     split<;>split<;>omega
 cases zs with
 | nil=>exact absurd rfl h
 | cons z r =>
   unfold Lib.minOf Lib.maxOf
   simp only[List.headD_cons,List.foldl_cons,Int.min_self,Int.max_self]
   exact⟨f1 r z,f2 r z⟩
def pk (s:List UInt8):Int:=match pathO s with
 | some (g,n)=>if g then 1073741824+n else n
 | none=>0
theorem pk_some {s:List UInt8} {g:Bool} {n:Int} (h:pathO s=some (g,n)):pk s=(if g then 1073741824+n else n)∧1≤n∧n≤1073741824:=by
 have hc:=(path_some h).2.2
 simp only[cntB,Bool.and_eq_true,decide_eq_true_eq]at hc
 exact⟨by unfold pk;rw[h],hc⟩
theorem pk_pos {s:List UInt8} (h:pathO s≠none):0<pk s:=by
 cases hp:pathO s with
 | none=>exact absurd hp h
 | some p =>
   obtain⟨g,n⟩:=p
   obtain⟨e,h1,h2⟩:=pk_some hp
   rw[e]
   split<;>omega
def fk (f:Fl):Int:=pk f.1.data.toList
theorem ok_path {f:Fl} (h:fileE f=0):pathO f.1.data.toList≠none:=by
 obtain⟨g,n,hp,_⟩:=file_good h
 rw[hp];simp
theorem fk_pos {f:Fl} (h:fileE f=0):0<fk f:=pk_pos (ok_path h)
def lstG:Int→List Fl→Nat→Nat×Option Nat
 | _, [],_=>(0,none)
 | prev,f :: r,i=>if fileE f≠0 then (fileE f,some i) else if fk f≤prev then (9,some i) else lstG (fk f) r (i+1)
def listE (fs:List Fl):Nat×Option Nat:=if 60<fs.length then (8,none) else lstG 0 fs 0
def Rises (prev:Int) (fs:List Fl):Prop:=(∀f∈fs,fileE f=0∧prev<fk f)∧fs.Pairwise fun f g=>fk f<fk g
theorem rises_cons {prev:Int} {f:Fl} {r:List Fl} :Rises prev (f :: r)↔fileE f=0∧prev<fk f∧Rises (fk f) r:=by
 unfold Rises
 rw[List.pairwise_cons]
 constructor
 · rintro⟨h1,h2,h3⟩
   have h0:=h1 f List.mem_cons_self
   exact⟨h0.1,h0.2,fun g hg=>⟨(h1 g (List.mem_cons_of_mem _ hg)).1,h2 g hg⟩,h3⟩
 · rintro⟨h1,h2,h3,h4⟩
   refine⟨fun g hg=>?_,fun g hg=>(h3 g hg).2,h4⟩
   rw[List.mem_cons]at hg
   rcases hg with rfl | hg
   · exact⟨h1,h2⟩
   · have:=h3 g hg
     exact⟨this.1,by omega⟩
theorem lstG_ok:∀(fs:List Fl) (prev:Int) (i:Nat),(lstG prev fs i).1=0↔Rises prev fs
 | [],prev,i=>by simp[lstG,Rises]
 | f :: r,prev,i=>by
   have ih:=lstG_ok r (fk f) (i+1)
   unfold lstG
   rw[rises_cons]
   split
   · rename_i h
     simp[h]
   · rename_i h
     have h0:fileE f=0:=by simpa using h
     split
     · rename_i h'
       simp[h0];omega
     · rename_i h'
       rw[ih]
       simp[h0];omega
theorem listE_ok {fs:List Fl} :(listE fs).1=0↔fs.length≤60∧Rises 0 fs:=by
 unfold listE
 split
 · rename_i h
   simp;omega
 · rename_i h
   rw[lstG_ok]
   simp;omega
theorem lstG_le:∀(fs:List Fl) (prev:Int) (i:Nat),(lstG prev fs i).1≤12
 | [],_,_=>by simp[lstG]
 | f :: r,prev,i=>by
   unfold lstG
   have:=fileE_le f
   split
   · dsimp only;omega
   · split
     · exact(by decide:(9:Nat)≤12)
     · exact lstG_le r _ _
def placeL (fs:List Fl) (f:Fl):List Fl:=fs.takeWhile (fun g=>decide (fk g<fk f))++f :: fs.dropWhile (fun g=>decide (fk g<fk f))
end Go.Proofs.YtdhkdjlgmbejnaaGreatDoor
namespace Go.Proofs
open Go.Shelf
def Tryz.lays169_ren:Go.Shelf.Ren:=⟨fun | 169=>115 | n=>n,fun | 70=>175 | 9=>9 | 0=>0 | 72=>178 | 37=>176 | 127=>234 | 3=>3 | 5=>5 | n=>n,fun | n=>n⟩
theorem Tryz.lays169:Go.Proofs.Lays.n169 Tryz.prog Tryz.lays169_ren:= {
 mixed:=by kernel_rfl
 f169:=Tryz.func115.trans (congrArg some (by kernel_rfl))
 t0:=Tryz.underlying0
 a0:=Tryz.isAgg0
 z0:=Tryz.sizeOf0
 v0:=Tryz.zeroValue0
 t3:=Tryz.underlying3
 a3:=Tryz.isAgg3
 z3:=Tryz.sizeOf3
 v3:=Tryz.zeroValue3
 t9:=Tryz.underlying9
 a9:=Tryz.isAgg9
 z9:=Tryz.sizeOf9
 v9:=Tryz.zeroValue9
 t37:=Tryz.underlying176
 a37:=Tryz.isAgg176
 z37:=Tryz.sizeOf176
 v37:=Tryz.zeroValue176
 t70:=Tryz.underlying175
 a70:=Tryz.isAgg175
 z70:=Tryz.sizeOf175
 v70:=Tryz.zeroValue175
 t72:=Tryz.underlying178
 a72:=Tryz.isAgg178
 z72:=Tryz.sizeOf178
 v72:=Tryz.zeroValue178
 t127:=Tryz.underlying234
 a127:=Tryz.isAgg234
 z127:=Tryz.sizeOf234
 v127:=Tryz.zeroValue234 }
theorem Tryz.Builder_Extra_169:Builder.Extra Tryz.prog Tryz.lays169_ren:= {
 sizeBuilder:=by kernel_rfl
 liesBuilder:=by kernel_rfl
 t5:=Tryz.underlying5
 a5:=Tryz.isAgg5
 z5:=Tryz.sizeOf5
 v5:=Tryz.zeroValue5
 infoByte:=by kernel_rfl
 cellsByte:=by kernel_rfl
 sizeByte:=by kernel_rfl
 neB5:=by decide }
open Go.RowKit in
theorem Tryz.Builder_String_any (B b:Nat) (l:List UInt8) (w:World) (h:Lib.IsBuilder 178 5 B b (Lib.byteCells l) w) (hBw:B≤w.heap.size) :
   Calls Tryz.prog 115 #[.pointer (some ⟨b,0,none⟩)] w fun e w'=>e= .returned (.string ⟨l.toArray⟩)∧Below B w w':=Any.Builder_String_any Tryz.lays169 Tryz.Builder_Extra_169 B b l w h hBw
def Tryz.lays156_ren:Go.Shelf.Ren:=⟨fun | 156=>168 | 165=>202 | 166=>114 | 169=>115 | 240=>166 | 241=>223 | 276=>200 | 277=>240 | n=>n,fun | 31=>157 | 9=>9 | 3=>3 | 4=>4 | 0=>0 | 20=>20 | 72=>178 | 76=>40 | 70=>175 | 37=>176 | 75=>35 | 127=>234 | 164=>209 | 5=>5 | 80=>181 | n=>n,fun | n=>n⟩
theorem Tryz.lays156:Go.Proofs.Lays.n156 Tryz.prog Tryz.lays156_ren:= {
 mixed:=by kernel_rfl
 f156:=Tryz.func168.trans (congrArg some (by kernel_rfl))
 f165:=Tryz.func202.trans (congrArg some (by kernel_rfl))
 f166:=Tryz.func114.trans (congrArg some (by kernel_rfl))
 f169:=Tryz.func115.trans (congrArg some (by kernel_rfl))
 f240:=Tryz.func166.trans (congrArg some (by kernel_rfl))
 f241:=Tryz.func223.trans (congrArg some (by kernel_rfl))
 f276:=Tryz.func200.trans (congrArg some (by kernel_rfl))
 f277:=Tryz.func240.trans (congrArg some (by kernel_rfl))
 t0:=Tryz.underlying0
 a0:=Tryz.isAgg0
 z0:=Tryz.sizeOf0
 v0:=Tryz.zeroValue0
 t3:=Tryz.underlying3
 a3:=Tryz.isAgg3
 z3:=Tryz.sizeOf3
 v3:=Tryz.zeroValue3
 t4:=Tryz.underlying4
 a4:=Tryz.isAgg4
 z4:=Tryz.sizeOf4
 v4:=Tryz.zeroValue4
 t9:=Tryz.underlying9
 a9:=Tryz.isAgg9
 z9:=Tryz.sizeOf9
 v9:=Tryz.zeroValue9
 t20:=Tryz.underlying20
 a20:=Tryz.isAgg20
 z20:=Tryz.sizeOf20
 v20:=Tryz.zeroValue20
 t31:=Tryz.underlying157
 a31:=Tryz.isAgg157
 z31:=Tryz.sizeOf157
 v31:=Tryz.zeroValue157
 t37:=Tryz.underlying176
 a37:=Tryz.isAgg176
 z37:=Tryz.sizeOf176
 v37:=Tryz.zeroValue176
 t70:=Tryz.underlying175
 a70:=Tryz.isAgg175
 z70:=Tryz.sizeOf175
 v70:=Tryz.zeroValue175
 t72:=Tryz.underlying178
 a72:=Tryz.isAgg178
 z72:=Tryz.sizeOf178
 v72:=Tryz.zeroValue178
 t75:=Tryz.underlying35
 a75:=Tryz.isAgg35
 z75:=Tryz.sizeOf35
 v75:=Tryz.zeroValue35
 t76:=Tryz.underlying40
 a76:=Tryz.isAgg40
 z76:=Tryz.sizeOf40
 v76:=Tryz.zeroValue40
 t127:=Tryz.underlying234
 a127:=Tryz.isAgg234
 z127:=Tryz.sizeOf234
 v127:=Tryz.zeroValue234
 t164:=Tryz.underlying209
 a164:=Tryz.isAgg209
 z164:=Tryz.sizeOf209
 v164:=Tryz.zeroValue209 }
theorem Tryz.Builder_Extra_156:Builder.Extra Tryz.prog Tryz.lays156_ren:= {
 sizeBuilder:=by kernel_rfl
 liesBuilder:=by kernel_rfl
 t5:=Tryz.underlying5
 a5:=Tryz.isAgg5
 z5:=Tryz.sizeOf5
 v5:=Tryz.zeroValue5
 infoByte:=by kernel_rfl
 cellsByte:=by kernel_rfl
 sizeByte:=by kernel_rfl
 neB5:=by decide }
open Go.RowKit in
theorem Tryz.strings_Join (bk o c:Nat) (xs:List ByteArray) (sep:ByteArray) (w:World) (hcells:∀(j:Nat) x,xs[j]? =some x→w.cell? ⟨bk,o+j,none⟩=some (.string x)) (hbk:bk<w.heap.size) (hN:xs.length≤140737488355328) (hcap:xs.length≤c) (hlen:(Lib.join (xs.map (·.data.toList)) sep.data.toList).length≤140737488355328) :
   Calls Tryz.prog 168 #[.slice (some ⟨bk,o,none⟩) xs.length c,.string sep] w fun e w'=>e= .returned (.string ⟨(Lib.join (xs.map (·.data.toList)) sep.data.toList).toArray⟩)∧Below w.heap.size w w':=Any.strings_Join Tryz.lays156 Tryz.Builder_Extra_156 bk o c xs sep w hcells hbk hN hcap hlen
end Go.Proofs
namespace Go.Proofs.YtdhkdjlgmbejnaaGreatDoor
open Go.RowKit Go.Extern.Stop Go.Stop Go.Extern Go.Sort Go.Shelf Go.Lib
theorem nameByte_any (n:Int) (w:World):Calls Tryz.prog 216 #[.int .u8 n] w fun e w'=>e= .returned (.bool (nbI n))∧w'=w:=by
 by_cases h1:97≤n
 · by_cases h2:n≤122
   · have hr:nbI n=true:=by simp[nbI,h1,h2]
     rw[hr]
     go_enter Tryz.func216,Tryz.ntmps216
     go_wp2
     go_ret
     exact⟨rfl,rfl⟩
   · have hr:nbI n=false:=by simp[nbI];omega
     rw[hr]
     have h3:(48:Int)≤n:=by omega
     have h4:¬n≤57:=by omega
     go_enter Tryz.func216,Tryz.ntmps216
     go_wp2
     go_ret
     exact⟨rfl,rfl⟩
 · by_cases h3:48≤n
   · by_cases h4:n≤57
     · have hr:nbI n=true:=by simp[nbI,h3,h4]
       rw[hr]
       go_enter Tryz.func216,Tryz.ntmps216
       go_wp2
       go_ret
       exact⟨rfl,rfl⟩
     · have hr:nbI n=false:=by simp[nbI];omega
       rw[hr]
       go_enter Tryz.func216,Tryz.ntmps216
       go_wp2
       go_ret
       exact⟨rfl,rfl⟩
   · have hr:nbI n=false:=by simp[nbI];omega
     rw[hr]
     go_enter Tryz.func216,Tryz.ntmps216
     go_wp2
     go_ret
     exact⟨rfl,rfl⟩
theorem inBounds_any (n:Int) (w:World):Calls Tryz.prog 61 #[.int .i64 n] w fun e w'=>e= .returned (.bool (inNum n))∧w'=w:=by
 by_cases h1: -1073741824≤n
 · by_cases h2:n≤1073741824
   · have hr:inNum n=true:=by simp[inNum,h1,h2]
     rw[hr]
     go_enter Tryz.func61,Tryz.ntmps61
     go_wp2
     go_ret
     exact⟨rfl,rfl⟩
   · have hr:inNum n=false:=by simp[inNum,h2]
     rw[hr]
     go_enter Tryz.func61,Tryz.ntmps61
     go_wp2
     go_ret
     exact⟨rfl,rfl⟩
 · have hr:inNum n=false:=by simp[inNum,h1]
   rw[hr]
   go_enter Tryz.func61,Tryz.ntmps61
   go_wp2
   go_ret
   exact⟨rfl,rfl⟩
theorem size_list (s:ByteArray):s.data.toList.length=s.size:=by cases s;simp[ByteArray.size]
theorem byte_list (s:ByteArray) (k:Nat) (h:k<s.size):s.data.toList[k]? =some s[k]:=by
 cases s with | mk d=>simp [ByteArray.size]at h;simp[h];rfl
theorem all_succ {s:ByteArray} {n:Nat} (h:∀j c,j<n→s.data.toList[j]? =some c→nbI c.toNat=true) (hn:n<s.size) (e:nbI s[n].toNat=true):∀j c,j<n+1→s.data.toList[j]? =some c→nbI c.toNat=true:=fun j c hj hc=>by
 rcases Nat.lt_or_ge j n with h' | h'
 · exact h j c h' hc
 · obtain rfl:j=n:=by omega
   rw[byte_list s j hn]at hc
   rw[←Option.some.inj hc];exact e
set_option maxHeartbeats 1000000 in
theorem word_any (s:ByteArray) (m:Nat) (w:World) (hs:s.size≤maxLen) (hm:m≤1000):Calls Tryz.prog 180 #[.string s,.int .i64 m] w fun e w'=>e= .returned (.bool (wordB m s.data.toList))∧w'=w:=by
 unfold maxLen at hs
 have hsz:=size_list s
 by_cases h1:s.size<1
 · have hr:wordB m s.data.toList=false:=by simp only[wordB,hsz];simp;omega
   rw[hr]
   clear hsz hr
   go_enter Tryz.func180,Tryz.ntmps180
   go_wp2
   go_ret
   exact⟨rfl,rfl⟩
 · by_cases h2:m<s.size
   · have hr:wordB m s.data.toList=false:=by simp only[wordB,hsz];simp;omega
     rw[hr]
     clear hsz hr
     go_enter Tryz.func180,Tryz.ntmps180
     go_wp2
     go_ret
     exact⟨rfl,rfl⟩
   · generalize hr:wordB m s.data.toList=r
     have HR:Hid (wordB m s.data.toList=r):=hr
     have HS:Hid (s.data.toList.length=s.size):=hsz
     clear hr hsz
     go_enter Tryz.func180,Tryz.ntmps180
     go_wp2
     go_loop [5] (fun k=> ∃n:Nat,n≤s.size∧(∀j c,j<n→s.data.toList[j]? =some c→nbI c.toNat=true)∧k= .int .i64 n) (fun k=>s.size-(intOf k).toNat)
     case atStart=>exact ⟨0,by omega,by omega,rfl⟩
     case round =>
       obtain⟨n,hn,ht,rfl⟩:=hrel
       have HT:Hid (∀j c,j<n→s.data.toList[j]? =some c→nbI c.toNat=true):=ht
       clear ht
       by_cases hlt:n<s.size
       · have hi:(n:Int)<(s.size:Int):=by omega
         have hb:=nameByte_any (s[n].toNat:Int) w
         cases hv:nbI (s[n].toNat:Int)
         · rw[hv]at hb
           have hr:r=false:=by
             rw[←HR.out]
             simp only[wordB,Bool.and_eq_false_iff]
             right
             rw[List.all_eq_false]
             exact⟨s[n],List.mem_of_getElem? (byte_list s n hlt),by rw[hv];simp⟩
           subst hr
           clear hv
           go_wp2_with (go_at_call 216;refine hb.mono ?_;rintro e w' ⟨rfl,rfl⟩)
           go_ret
           exact⟨rfl,rfl⟩
         · rw[hv]at hb
           have HV:Hid (nbI (s[n].toNat:Int)=true):=hv
           clear hv
           go_wp2_with (go_at_call 216;refine hb.mono ?_;rintro e w' ⟨rfl,rfl⟩)
           go_round
           case rel=>exact ⟨n+1,by omega,all_succ HT.out hlt HV.out,by go_num⟩
           case measure=>simp [intOf];omega
       · have hr:r=true:=by
           rw[←HR.out]
           simp only[wordB,Bool.and_eq_true,decide_eq_true_eq,List.all_eq_true]
           have:=HS.out
           refine⟨⟨by omega,by omega⟩,fun c hc=>?_⟩
           obtain⟨k,hk⟩:=List.mem_iff_getElem?.1 hc
           have hk':k<s.data.toList.length:=by
             rcases Nat.lt_or_ge k s.data.toList.length with h | h
             · exact h
             · rw[List.getElem?_eq_none h]at hk;cases hk
           exact HT.out k c (by omega) hk
         subst hr
         have hn':n=s.size:=by omega
         subst hn'
         go_wp2
         go_ret
         exact⟨rfl,rfl⟩
theorem name_any (s:ByteArray) (w:World) (hs:s.size≤maxLen):Calls Tryz.prog 177 #[.string s] w fun e w'=>e= .returned (.bool (nameB s.data.toList))∧w'=w:=by
 have hw:Calls Tryz.prog 180 #[.string s,.int .i64 8] w fun e w'=>e= .returned (.bool (nameB s.data.toList))∧w'=w:=word_any s 8 w hs (by omega)
 go_enter Tryz.func177,Tryz.ntmps177
 go_wp2_with (go_at_call 180;refine hw.mono ?_;rintro e w' ⟨rfl,rfl⟩)
 go_ret
 exact⟨rfl,rfl⟩
structure Env (w:World) (a:Nat→Addr):Prop where
 text:w.cell? ⟨5,0,none⟩=some (.iface 327 (.pointer (some (a 0))))
 bound:w.cell? ⟨2,0,none⟩=some (.iface 327 (.pointer (some (a 1))))
 name:w.cell? ⟨6,0,none⟩=some (.iface 327 (.pointer (some (a 4))))
 maxl:∃m,w.cell? ⟨13,0,none⟩=some (.int .i64 m)
 syn:∃te pe,w.cell? ⟨17,0,none⟩=some (.iface te pe)
 tab : Lib.TabIs Tryz.prog w "internal/strconv.uint64pow10" .u64 Lib.pow10Tab
theorem tab_below {w w':World} {n:String} {k:IntKind} {zs:List Int} (h:Lib.TabIs Tryz.prog w n k zs) (hb:Below w.heap.size w w'):Lib.TabIs Tryz.prog w' n k zs:=by
 unfold Lib.TabIs World.var? at *
 cases hg:Tryz.prog.globalNamed n with
 | none=>rw [hg]at h;simp at h
 | some g =>
   rw[hg]at h
   simp only[Option.bind_some]at h ⊢
   have hlt:g<w.heap.size:=by
     rcases Nat.lt_or_ge g w.heap.size with h' | h'
     · exact h'
     · simp[Array.getElem?_eq_none h']at h
   rw[hb.block g hlt];exact h
theorem Env.below {w w':World} {a:Nat→Addr} (h:Env w a) (hb:Below w.heap.size w w'):Env w' a where
 text:=below_keep hb h.text
 bound:=below_keep hb h.bound
 name:=below_keep hb h.name
 maxl:=let ⟨m,hm⟩:=h.maxl;⟨m,below_keep hb hm⟩
 syn:=let ⟨t,p,hm⟩:=h.syn;⟨t,p,below_keep hb hm⟩
 tab:=tab_below h.tab hb
structure Env0 (w:World) (a:Nat→Addr):Prop where
 text:w.cell? ⟨5,0,none⟩=some (.iface 327 (.pointer (some (a 0))))
 bound:w.cell? ⟨2,0,none⟩=some (.iface 327 (.pointer (some (a 1))))
 maxl:∃m,w.cell? ⟨13,0,none⟩=some (.int .i64 m)
 syn:∃te pe,w.cell? ⟨17,0,none⟩=some (.iface te pe)
 tab : Lib.TabIs Tryz.prog w "internal/strconv.uint64pow10" .u64 Lib.pow10Tab
theorem Env0.below {w w':World} {a:Nat→Addr} (h:Env0 w a) (hb:Below w.heap.size w w'):Env0 w' a where
 text:=below_keep hb h.text
 bound:=below_keep hb h.bound
 maxl:=let ⟨m,hm⟩:=h.maxl;⟨m,below_keep hb hm⟩
 syn:=let ⟨t,p,hm⟩:=h.syn;⟨t,p,below_keep hb hm⟩
 tab:=tab_below h.tab hb
theorem Env.weak {w:World} {a:Nat→Addr} (h:Env w a):Env0 w a:=⟨h.text,h.bound,h.maxl,h.syn,h.tab⟩
structure EnvS (w:World):Prop where
 maxl:∃m,w.cell? ⟨13,0,none⟩=some (.int .i64 m)
 syn:∃te pe,w.cell? ⟨17,0,none⟩=some (.iface te pe)
 tab : Lib.TabIs Tryz.prog w "internal/strconv.uint64pow10" .u64 Lib.pow10Tab
theorem EnvS.below {w w':World} (h:EnvS w) (hb:Below w.heap.size w w'):EnvS w' where
 maxl:=let ⟨m,hm⟩:=h.maxl;⟨m,below_keep hb hm⟩
 syn:=let ⟨t,p,hm⟩:=h.syn;⟨t,p,below_keep hb hm⟩
 tab:=tab_below h.tab hb
theorem Env0.s {w:World} {a:Nat→Addr} (h:Env0 w a):EnvS w:=⟨h.maxl,h.syn,h.tab⟩
theorem Env.s {w:World} {a:Nat→Addr} (h:Env w a):EnvS w:=⟨h.maxl,h.syn,h.tab⟩
def errV (a:Nat→Addr):Nat→Value
 | 0=>.nilIface
 | n+1=>.iface 327 (.pointer (some (a n)))
set_option maxHeartbeats 1000000 in
theorem check_any (x:Rw) (w:World) (a:Nat→Addr) (h:Env w a) (hs:x.1.size≤maxLen) :
   Calls Tryz.prog 127 #[.agg #[.string x.1,.int .i64 x.2.1,.int .i64 x.2.2]] w fun e w'=>e= .returned (errV a (rowE x))∧Below w.heap.size w w':=by
 obtain⟨p,k,v⟩:=x
 dsimp only at hs ⊢
 have hb:Below w.heap.size w (w.alloc (.cells #[.string p,.int .i64 k,.int .i64 v] 54)):=(Below.refl _ _).alloc (Nat.le_refl _) _
 have hn:=name_any p (w.alloc (.cells #[.string p,.int .i64 k,.int .i64 v] 54)) hs
 have e1:=(h.below hb).name
 have e2:=(h.below hb).bound
 unfold rowE
 dsimp only
 cases h1:nameB p.data.toList
 · rw[h1]at hn
   simp only[Bool.false_eq_true,if_false]
   clear h1
   go_enter Tryz.func127,Tryz.ntmps127
   go_wp2_with (go_at_call 177;refine hn.mono ?_;rintro e w' ⟨rfl,rfl⟩)
   go_ret
   exact⟨rfl,hb⟩
 · rw [h1]at hn
   clear h1
   have hB:=fun n W=>inBounds_any n W
   cases h2:inNum k
   · simp only[if_true,Bool.false_and,Bool.false_eq_true,if_false]
     go_enter Tryz.func127,Tryz.ntmps127
     go_wp2_with (first | (go_at_call 177;refine hn.mono ?_;rintro e w' ⟨rfl,rfl⟩) | (go_at_call 61;refine(hB _ _).mono ?_;rintro e w' ⟨rfl,rfl⟩))
     go_ret
     exact⟨rfl,hb⟩
   · cases h3:inNum v
     · simp only[if_true,Bool.true_and,Bool.false_eq_true,if_false]
       go_enter Tryz.func127,Tryz.ntmps127
       go_wp2_with (first | (go_at_call 177;refine hn.mono ?_;rintro e w' ⟨rfl,rfl⟩) | (go_at_call 61;refine(hB _ _).mono ?_;rintro e w' ⟨rfl,rfl⟩))
       go_ret
       exact⟨rfl,hb⟩
     · simp only[if_true,Bool.true_and]
       go_enter Tryz.func127,Tryz.ntmps127
       go_wp2_with (first | (go_at_call 177;refine hn.mono ?_;rintro e w' ⟨rfl,rfl⟩) | (go_at_call 61;refine(hB _ _).mono ?_;rintro e w' ⟨rfl,rfl⟩))
       go_ret
       exact⟨rfl,hb⟩
theorem grow_below {w:World} (k:Nat) (os:Array Obj):Below w.heap.size w (grow (w.drewN k) os) :=
 (below_drewN (Below.refl _ _) k).trans (show Below w.heap.size (w.drewN k) _ from below_grow (w:=w.drewN k) os)
theorem itoa_any (n : Int) (w : World) (ht : Lib.TabIs Tryz.prog w "internal/strconv.uint64pow10" .u64 Lib.pow10Tab) (h0 : -9223372036854775808 ≤ n) (h1 : n ≤ 9223372036854775807) :
   Calls Tryz.prog 64 #[.int .i64 n] w fun e w'=>e= .returned (.string (bytesOf (itoa n)))∧∃k os,w'=grow (w.drewN k) os :=
 Tryz.strconv_Itoa n h0 h1 w ht
def numR (s:List UInt8):Value×Bool:=match numO s with
 | some n=>(.int .i64 n,true)
 | none=>(.int .i64 0,false)
set_option maxHeartbeats 1000000 in
theorem number_s (s:ByteArray) (w:World) (h:EnvS w) (hs:s.size≤maxLen) :
   Calls Tryz.prog 172 #[.string s] w fun e w'=>e= .returned (.tuple #[(numR s.data.toList).1,.bool (numR s.data.toList).2])∧Below w.heap.size w w':=by
 unfold maxLen at hs
 have hsz:=size_list s
 by_cases hl:11<s.size
 · have hr:numR s.data.toList=(.int .i64 0,false):=by
     unfold numR numO
     rw[if_neg (by omega)]
   rw[hr]
   clear hr hsz
   go_enter Tryz.func172,Tryz.ntmps172
   go_wp2
   go_ret2
   exact⟨rfl,Below.refl _ _⟩
 · cases ha:atoi s.data.toList with
   | none =>
     have hr:numR s.data.toList=(.int .i64 0,false):=by
       unfold numR numO
       rw[if_pos (by omega),ha]
     rw[hr]
     obtain⟨te,pe,hv⟩:=h.syn
     have hc:=Tryz.strconv_Atoi_err s (by omega) ha (.iface te pe) w hv (Or.inr ⟨te,pe,rfl⟩)
     clear hr hsz ha hv
     go_enter Tryz.func172,Tryz.ntmps172
     go_wp2_with (go_at_call 208;refine hc.mono ?_;rintro e w' ⟨N,rfl,_,_,hb⟩)
     go_ret2
     exact⟨rfl,hb⟩
   | some n =>
     have hc:=Tryz.strconv_Atoi s n (by omega) ha w
     have hbd:=atoi_bound ha (by omega)
     by_cases he:itoa n=s.data.toList
     · have hr:numR s.data.toList=(.int .i64 n,true):=by
         unfold numR numO
         rw[if_pos (by omega),ha]
         simp[he]
       rw[hr]
       have hse:bytesOf (itoa n)=s:=by rw[he];exact bytesOf_data s
       clear hr hsz ha he
       go_enter Tryz.func172,Tryz.ntmps172
       go_wp2_with (first
         | (go_at_call 208;refine hc.mono ?_;rintro e w1 ⟨rfl,t,rfl⟩)
         | (go_at_call 64;refine(itoa_any n _ (tab_below h.tab (bytesWorld_below w _ t)) (by omega) (by omega)).mono ?_;rintro e w2 ⟨rfl,k,os,rfl⟩;rw[hse]))
       go_ret2
       exact⟨rfl,(bytesWorld_below w _ t).trans ((grow_below k os).mono (bytesWorld_below w _ t).size)⟩
     · have hr:numR s.data.toList=(.int .i64 0,false):=by
         unfold numR numO
         rw[if_pos (by omega),ha]
         simp[he]
       rw[hr]
       have hne:((bytesOf (itoa n)).toList == s.toList)=false:=by
         rw[ByteArray.toList_eq,ByteArray.toList_eq]
         simpa [bytesOf] using he
       clear hr hsz ha he
       go_enter Tryz.func172,Tryz.ntmps172
       go_wp2_with (first
         | (go_at_call 208;refine hc.mono ?_;rintro e w1 ⟨rfl,t,rfl⟩)
         | (go_at_call 64;refine(itoa_any n _ (tab_below h.tab (bytesWorld_below w _ t)) (by omega) (by omega)).mono ?_;rintro e w2 ⟨rfl,k,os,rfl⟩))
       go_ret2
       exact⟨rfl,(bytesWorld_below w _ t).trans ((grow_below k os).mono (bytesWorld_below w _ t).size)⟩
theorem number_any (s:ByteArray) (w:World) (a:Nat→Addr) (h:Env0 w a) (hs:s.size≤maxLen) :
   Calls Tryz.prog 172 #[.string s] w fun e w'=>e= .returned (.tuple #[(numR s.data.toList).1,.bool (numR s.data.toList).2])∧Below w.heap.size w w' :=
 number_s s w h.s hs
def textB (x:Rw):ByteArray:=if rowE x=0 then x.1++sp++bytesOf (itoa x.2.1)++sp++bytesOf (itoa x.2.2) else bytesOf []
set_option maxHeartbeats 1000000 in
theorem text_any (x:Rw) (w:World) (a:Nat→Addr) (h:Env w a) (hs:x.1.size≤maxLen) :
   Calls Tryz.prog 130 #[.agg #[.string x.1,.int .i64 x.2.1,.int .i64 x.2.2]] w fun e w'=>e= .returned (.string (textB x))∧Below w.heap.size w w':=by
 have hb:Below w.heap.size w (w.alloc (.cells #[.string x.1,.int .i64 x.2.1,.int .i64 x.2.2] 54)):=(Below.refl _ _).alloc (Nat.le_refl _) _
 have hc:=check_any x _ a (h.below hb) hs
 unfold textB
 by_cases he:rowE x=0
 · rw [if_pos he]
   rw[he]at hc
   have hbd:inNum x.2.1=true∧inNum x.2.2=true:=by
     unfold rowE at he
     split at he
     · split at he
       · rename_i h';simpa using h'
       · omega
     · omega
   obtain⟨p,k,v⟩:=x
   dsimp only at *
   simp only[errV]at hc
   have hp8:p.size≤8:=by
     unfold rowE at he
     split at he
     · rename_i h'
       simp only[nameB,Bool.and_eq_true,decide_eq_true_eq]at h'
       rw[size_list]at h'
       exact h'.1.2
     · omega
   clear he hs
   have sk:(bytesOf (itoa k)).size≤11:=by
     have:=hbd.1
     simp only[inNum,Bool.and_eq_true,decide_eq_true_eq]at this
     simpa [bytesOf,ByteArray.size] using itoa_len k this.1 this.2
   have sv:(bytesOf (itoa v)).size≤11:=by
     have:=hbd.2
     simp only[inNum,Bool.and_eq_true,decide_eq_true_eq]at this
     simpa [bytesOf,ByteArray.size] using itoa_len v this.1 this.2
   unfold sp
   have hk1:inNum k=true:=hbd.1
   have hv1:inNum v=true:=hbd.2
   have hm:Tryz.prog.follows .mixedOrders=true:=by kernel_rfl
   clear hbd
   go_enter Tryz.func130,Tryz.ntmps130
   go_wp2_with (go_at_call 127;refine hc.mono ?_;rintro e w1 ⟨rfl,hb1⟩)
   have c0:w1.cell? ⟨w.heap.size,0,none⟩=some (.string p):=below_keep hb1 (by simp)
   have c1:w1.cell? ⟨w.heap.size,1,none⟩=some (.int .i64 k):=below_keep hb1 (by simp)
   have c2:w1.cell? ⟨w.heap.size,2,none⟩=some (.int .i64 v):=below_keep hb1 (by simp)
   have d0:=fun n os=>cell_grown (cell_lt c0) c0 n os
   have d1:=fun n os=>cell_grown (cell_lt c1) c1 n os
   have d2:=fun n os=>cell_grown (cell_lt c2) c2 n os
   have hB:Below w.heap.size w w1:=hb.trans (hb1.mono hb.size)
   have htab:=tab_below h.tab hB
   have hI:∀m:Int,inNum m=true→∀n os,Calls Tryz.prog 64 #[.int .i64 m] (grow (w1.drewN n) os) fun e w'=>e= .returned (.string (bytesOf (itoa m)))∧∃q os',w'=grow ((grow (w1.drewN n) os).drewN q) os':=fun m hm n os=>by
     simp only[inNum,Bool.and_eq_true,decide_eq_true_eq]at hm
     exact itoa_any m _ (tab_below htab (grow_below n os)) (by omega) (by omega)
   clear c0 c1 c2 htab hc
   have n1:¬9223372036854775807<p.size+1:=by omega
   have n2:¬9223372036854775807<p.size+1+(bytesOf (itoa k)).size:=by omega
   have n3:¬9223372036854775807<p.size+1+(bytesOf (itoa k)).size+1:=by omega
   have n4:¬9223372036854775807<p.size+1+(bytesOf (itoa k)).size+1+(bytesOf (itoa v)).size:=by omega
   have m1:¬9223372036854775806<p.size:=by omega
   have m3:¬9223372036854775806<p.size+1+(bytesOf (itoa k)).size:=by omega
   go_quiet_grown ((go_at_call 64;exact Calls.grown_of (hI _ (by assumption) _ _)))
   go_wp2
   go_ret
   exact⟨rfl,hB.trans ((grow_below nq osq).mono hB.size)⟩
 · rw[if_neg he]
   obtain⟨m,hm⟩:∃m,rowE x=m+1:=⟨rowE x-1,by omega⟩
   rw[hm]at hc
   simp only[errV]at hc
   obtain⟨p,k,v⟩:=x
   dsimp only at *
   clear he hs hm
   go_enter Tryz.func130,Tryz.ntmps130
   go_wp2_with (go_at_call 127;refine hc.mono ?_;rintro e w1 ⟨rfl,hb1⟩)
   go_ret
   exact⟨rfl,hb.trans (hb1.mono hb.size)⟩
end Go.Proofs.YtdhkdjlgmbejnaaGreatDoor
