/- By an AI agent. -/
import Derived.Test.YtdhkdjlgmbejnaaGreatDoorScanKs
import Derived.Test.YtdhkdjlgmbejnaaGreatDoorScanDk
namespace Go.Proofs.YtdhkdjlgmbejnaaGreatDoor
open Go.ChangeShapes Go.WideShapes Go.ChangeAt Go.RowKit Go.Lib Go.Shelf
def errListX:List (String×DataW Unit) :=
 [("deedbox/api.ErrText", .iface "*errors.errorString" (.ptr (.agg [.lit (.string [100, 101, 101, 100, 98, 111, 120, 58, 32, 116, 101, 120, 116])]))), ("deedbox/api.ErrBound", .iface "*errors.errorString" (.ptr (.agg [.lit (.string [100, 101, 101, 100, 98, 111, 120, 58, 32, 98, 111, 117, 110, 100])]))), ("deedbox/api.ErrShape", .iface "*errors.errorString" (.ptr (.agg [.lit (.string [100, 101, 101, 100, 98, 111, 120, 58, 32, 115, 104, 97, 112, 101])]))), ("deedbox/api.ErrKind", .iface "*errors.errorString" (.ptr (.agg [.lit (.string [100, 101, 101, 100, 98, 111, 120, 58, 32, 107, 105, 110, 100])]))), ("deedbox/api.ErrName", .iface "*errors.errorString" (.ptr (.agg [.lit (.string [100, 101, 101, 100, 98, 111, 120, 58, 32, 110, 97, 109, 101])]))), ("deedbox/api.ErrNone", .iface "*errors.errorString" (.ptr (.agg [.lit (.string [100, 101, 101, 100, 98, 111, 120, 58, 32, 110, 111, 110, 101])]))), ("deedbox/api.ErrExist", .iface "*errors.errorString" (.ptr (.agg [.lit (.string [100, 101, 101, 100, 98, 111, 120, 58, 32, 101, 120, 105, 115, 116])]))), ("deedbox/api.ErrFull", .iface "*errors.errorString" (.ptr (.agg [.lit (.string [100, 101, 101, 100, 98, 111, 120, 58, 32, 102, 117, 108, 108])]))), ("deedbox/api.ErrOrder", .iface "*errors.errorString" (.ptr (.agg [.lit (.string [100, 101, 101, 100, 98, 111, 120, 58, 32, 111, 114, 100, 101, 114])]))), ("deedbox/api.ErrSum", .iface "*errors.errorString" (.ptr (.agg [.lit (.string [100, 101, 101, 100, 98, 111, 120, 58, 32, 115, 117, 109])]))), ("deedbox/api.ErrOff", .iface "*errors.errorString" (.ptr (.agg [.lit (.string [100, 101, 101, 100, 98, 111, 120, 58, 32, 111, 102, 102])])))]
def plainListX:List (String×DataW Unit) :=
 [("math/bits.deBruijn32tab", Rows.laid_math_bits_deBruijn32tab), ("math/bits.deBruijn64tab", Rows.laid_math_bits_deBruijn64tab), ("internal/strconv.uint64pow10", Rows.laid_internal_strconv_uint64pow10), ("unicode/utf8.acceptRanges", Rows.laid_unicode_utf8_acceptRanges)] ++ (errListX ++ [("strconv.ErrRange", Rows.laid_strconv_ErrRange), ("strconv.ErrSyntax", Rows.laid_strconv_ErrSyntax), ("unicode/utf8.first", Rows.laid_unicode_utf8_first)])
theorem cells_of_listX {W:World} {r:List (String×DataW Unit)} (h:laidMet Tryz.prog (errListX++r) W):∃a:Nat→Addr,∀i,i<12→i≠10→W.cell? ⟨errVar i,0,none⟩=some (.iface 327 (.pointer (some (a i)))):=by
 obtain⟨a0,_,_,_,v0,_⟩:=sentinel_full h (g:=5) (ti:=35) (by kernel_rfl) (by kernel_rfl) Tryz.underlying35 Tryz.rowES Tryz.underlying327 Tryz.underlying329 rfl rfl Tryz.underlying9 Tryz.cellsES Tryz.cellsString
 replace h:=h.tail
 obtain⟨a1,_,_,_,v1,_⟩:=sentinel_full h (g:=2) (ti:=35) (by kernel_rfl) (by kernel_rfl) Tryz.underlying35 Tryz.rowES Tryz.underlying327 Tryz.underlying329 rfl rfl Tryz.underlying9 Tryz.cellsES Tryz.cellsString
 replace h:=h.tail
 obtain⟨a2,_,_,_,v2,_⟩:=sentinel_full h (g:=0) (ti:=35) (by kernel_rfl) (by kernel_rfl) Tryz.underlying35 Tryz.rowES Tryz.underlying327 Tryz.underlying329 rfl rfl Tryz.underlying9 Tryz.cellsES Tryz.cellsString
 replace h:=h.tail
 obtain⟨a3,_,_,_,v3,_⟩:=sentinel_full h (g:=3) (ti:=35) (by kernel_rfl) (by kernel_rfl) Tryz.underlying35 Tryz.rowES Tryz.underlying327 Tryz.underlying329 rfl rfl Tryz.underlying9 Tryz.cellsES Tryz.cellsString
 replace h:=h.tail
 obtain⟨a4,_,_,_,v4,_⟩:=sentinel_full h (g:=6) (ti:=35) (by kernel_rfl) (by kernel_rfl) Tryz.underlying35 Tryz.rowES Tryz.underlying327 Tryz.underlying329 rfl rfl Tryz.underlying9 Tryz.cellsES Tryz.cellsString
 replace h:=h.tail
 obtain⟨a5,_,_,_,v5,_⟩:=sentinel_full h (g:=7) (ti:=35) (by kernel_rfl) (by kernel_rfl) Tryz.underlying35 Tryz.rowES Tryz.underlying327 Tryz.underlying329 rfl rfl Tryz.underlying9 Tryz.cellsES Tryz.cellsString
 replace h:=h.tail
 obtain⟨a6,_,_,_,v6,_⟩:=sentinel_full h (g:=8) (ti:=35) (by kernel_rfl) (by kernel_rfl) Tryz.underlying35 Tryz.rowES Tryz.underlying327 Tryz.underlying329 rfl rfl Tryz.underlying9 Tryz.cellsES Tryz.cellsString
 replace h:=h.tail
 obtain⟨a7,_,_,_,v7,_⟩:=sentinel_full h (g:=1) (ti:=35) (by kernel_rfl) (by kernel_rfl) Tryz.underlying35 Tryz.rowES Tryz.underlying327 Tryz.underlying329 rfl rfl Tryz.underlying9 Tryz.cellsES Tryz.cellsString
 replace h:=h.tail
 obtain⟨a8,_,_,_,v8,_⟩:=sentinel_full h (g:=4) (ti:=35) (by kernel_rfl) (by kernel_rfl) Tryz.underlying35 Tryz.rowES Tryz.underlying327 Tryz.underlying329 rfl rfl Tryz.underlying9 Tryz.cellsES Tryz.cellsString
 replace h:=h.tail
 obtain⟨a9,_,_,_,v9,_⟩:=sentinel_full h (g:=9) (ti:=35) (by kernel_rfl) (by kernel_rfl) Tryz.underlying35 Tryz.rowES Tryz.underlying327 Tryz.underlying329 rfl rfl Tryz.underlying9 Tryz.cellsES Tryz.cellsString
 replace h:=h.tail
 obtain⟨a11,_,_,_,v11,_⟩:=sentinel_full h (g:=11) (ti:=35) (by kernel_rfl) (by kernel_rfl) Tryz.underlying35 Tryz.rowES Tryz.underlying327 Tryz.underlying329 rfl rfl Tryz.underlying9 Tryz.cellsES Tryz.cellsString
 refine⟨fun i=>match i with | 0=>a0 | 1=>a1 | 2=>a2 | 3=>a3 | 4=>a4 | 5=>a5 | 6=>a6 | 7=>a7 | 8=>a8 | 9=>a9 | _=>a11,?_⟩
 intro i hi hn
 match i,hi,hn with
 | 0,_,_=>exact v0
 | 1,_,_=>exact v1
 | 2,_,_=>exact v2
 | 3,_,_=>exact v3
 | 4,_,_=>exact v4
 | 5,_,_=>exact v5
 | 6,_,_=>exact v6
 | 7,_,_=>exact v7
 | 8,_,_=>exact v8
 | 9,_,_=>exact v9
 | 11,_,_=>exact v11
 | 10,_,hn=>exact absurd rfl hn
theorem env_errsX {W : World} (hsh : W.ShapedOpen Tryz.prog) (hL : laidMet Tryz.prog plainListX W) (hH : handlesMet Tryz.prog [("errors.errorType", Rows.laid_errors_errorType)] W) : ∃ a, ErrsX W a := by
 have h3 : laidMet Tryz.prog (("internal/strconv.uint64pow10", Lib.tabData .u64 Lib.pow10Tab) :: plainListX.drop 3) W := by rw [← pow10_laid]; exact hL.tail.tail
 have ht := tabIs_of_head (P := Tryz.prog) (name := "internal/strconv.uint64pow10") (g := 14) (t := 292) (e := 232) (n := 20) (by kernel_rfl) (by kernel_rfl) (by kernel_rfl) (by kernel_rfl) (by kernel_rfl) (by kernel_rfl) h3
 have h4 : laidMet Tryz.prog (errListX ++ [("strconv.ErrRange", Rows.laid_strconv_ErrRange), ("strconv.ErrSyntax", Rows.laid_strconv_ErrSyntax), ("unicode/utf8.first", Rows.laid_unicode_utf8_first)]) W := hL.tail.tail.tail.tail
 obtain⟨a,hE⟩:=cells_of_listX h4
 have h17 : laidMet Tryz.prog [("strconv.ErrSyntax", Rows.laid_strconv_ErrSyntax), ("unicode/utf8.first", Rows.laid_unicode_utf8_first)] W := h4.tail.tail.tail.tail.tail.tail.tail.tail.tail.tail.tail.tail
 obtain⟨aS,_,_,_,eS,_⟩:=sentinel_full h17 (g:=17) (ti:=35) (by kernel_rfl) (by kernel_rfl) Tryz.underlying35 Tryz.rowES Tryz.underlying327 Tryz.underlying329 rfl rfl Tryz.underlying9 Tryz.cellsES Tryz.cellsString
 exact⟨a,hE,handle_of hH,⟨Tryz.maxLenInt W hsh,⟨_,_,eS⟩,ht⟩⟩
noncomputable def tellsWorldX (os:Os):World:=(handed os).layVars Tryz.prog plainListX
theorem tellsWorldX_os (os:Os):(tellsWorldX os).os=os:=by
 unfold tellsWorldX
 rw[World.layVars_os]
 rfl
theorem tellsWorldX_shaped (os:Os):(tellsWorldX os).Shaped Tryz.prog:=World.shaped_of_ZipB (by kernel_rfl) (by kernel_rfl)
theorem tellsWorldX_met (os : Os) (args : Array Value) {l : List (String × DataW Unit)} (h1 : (l.filter fun x => x.2.handleName?.isNone) = plainListX) (h2 : (l.filter fun x => x.2.handleName?.isSome) = [("errors.errorType", Rows.laid_errors_errorType)]) :
   laidMetH Tryz.prog l ((tellsWorldX os).forCall (fun _ _=>0) ⟨#[],args, []⟩).memory:=by
 refine laidMetH_of_parts ?_ ?_
 · rw[h1]
   have e1:(plainListX.filter fun x=>(plainListX.map (·.1)).contains x.1)=plainListX:=List.filter_eq_self.2 fun x hx=>List.contains_iff_mem.2 (List.mem_map.2 ⟨x,hx,rfl⟩)
   have e2:(plainListX.filter fun x=> !(plainListX.map (·.1)).contains x.1)= []:=List.filter_eq_nil_iff.2 fun x hx=>by rw[List.contains_iff_mem.2 (List.mem_map.2 ⟨x,hx,rfl⟩)];simp
   have h:laidMet Tryz.prog plainListX (tellsWorldX os):=laidMet_layVars (w0:=handed os) (plainListX.map (·.1)) [] (by rw[e1];rfl) (by rw[e1];kernel_rfl) (by rw[e1];kernel_rfl) (by rw[e2];exact LaidIn.none)
   exact h.of_heap (by simp[World.memory,World.forCall,Input.heap])
 · rw[h2]
   kernel_rfl
theorem tells_splitX {l : List (String × DataW Unit)} {W : World} (h1 : (l.filter fun x => x.2.handleName?.isNone) = plainListX) (h2 : (l.filter fun x => x.2.handleName?.isSome) = [("errors.errorType", Rows.laid_errors_errorType)]) (h : laidMetH Tryz.prog l W) :
   laidMet Tryz.prog plainListX W ∧ handlesMet Tryz.prog [("errors.errorType", Rows.laid_errors_errorType)] W := by
 unfold laidMetH at h
 rw[h2,h1]at h
 exact h
theorem open_keys2 {H:Type} {enc:TypeId×Value→H} {W:World} {base:Nat} {spare:Nat→Bool} {held:Bool} {fuel:Nat} {q:Option Addr} {l c:Nat} {x:DataW H×List MemPlace} (h:DataW.trod enc Tryz.prog W base spare held fuel 50 [.slice q l c]=some x) :
   ∃zs:List Int,KeysAt W (.slice q l c) zs∧(q=none→c=0):=by
 obtain⟨zs,hk,_⟩:=open_keys h
 refine⟨zs,hk,fun e=>?_⟩
 subst e
 rcases Go.Deep.open_slice1 Tryz.underlying50 Tryz.cellsInt h with⟨e,_⟩|⟨a,len,cap,m,n,V,D,Pl,e,_⟩
 · simp only[List.cons.injEq,and_true,Value.slice.injEq,true_and]at e
   exact e.2
 · simp at e
theorem scanN (w:World) (a:Nat→Addr) (hE:ErrsX w a):ScanN a (EMw w) SAtP where
 rows W v FP st s vf lo hi hm hat ks hx hl hs:=(srowsN_any (storeK2 w a hE) (fun _ hW=>⟨(hE.below hW).f,(hE.below hW).hand,(hE.below hW).l⟩) W v FP st s vf lo hi hm hat ks hx hl hs).mono fun _ _ ⟨⟨v',ev,he,h1,h2,h3⟩,hn⟩=>⟨v',ev,he,h1,h2,h3,hn v' ev he⟩
end Go.Proofs.YtdhkdjlgmbejnaaGreatDoor
