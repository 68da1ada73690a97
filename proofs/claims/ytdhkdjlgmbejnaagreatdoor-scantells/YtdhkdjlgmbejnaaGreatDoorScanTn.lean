/- By an AI agent. -/
import Derived.Test.YtdhkdjlgmbejnaaGreatDoorHanded
import Derived.Test.YtdhkdjlgmbejnaaGreatDoorScanTl
namespace Go.Proofs.YtdhkdjlgmbejnaaGreatDoor
open Go.RowKit Go.Extern.Stop Go.Stop Go.Extern Go.Sort Go.Shelf Go.Lib
structure ErrsX (W:World) (a:Nat→Addr):Prop where
 cell:∀i,i<12→i≠10→W.cell? ⟨errVar i,0,none⟩=some (.iface 327 (.pointer (some (a i))))
 hand:Hand W
 base:EnvS W
theorem ErrsX.below {W W':World} {a:Nat→Addr} (h:ErrsX W a) (hb:Below W.heap.size W W'):ErrsX W' a where
 cell i hi hn:=below_keep hb (h.cell i hi hn)
 hand:=h.hand.below hb
 base:=h.base.below hb
theorem ErrsX.f {W:World} {a:Nat→Addr} (h:ErrsX W a):EnvF W a :=
 ⟨⟨⟨h.cell 0 (by decide) (by decide),h.cell 1 (by decide) (by decide),h.cell 4 (by decide) (by decide),h.base.maxl,h.base.syn,h.base.tab⟩,h.cell 2 (by decide) (by decide),h.cell 7 (by decide) (by decide),h.cell 8 (by decide) (by decide),h.cell 9 (by decide) (by decide)⟩,h.cell 3 (by decide) (by decide)⟩
theorem ErrsX.l {W:World} {a:Nat→Addr} (h:ErrsX W a):EnvL W a :=
 ⟨h.f.lean,h.cell 5 (by decide) (by decide),h.cell 6 (by decide) (by decide),h.cell 7 (by decide) (by decide),h.cell 8 (by decide) (by decide)⟩
theorem ErrsX.o {W:World} {a:Nat→Addr} (h:ErrsX W a):EnvO W a where
 bound:=h.cell 1 (by decide) (by decide)
 name:=h.cell 4 (by decide) (by decide)
 miss:=h.cell 5 (by decide) (by decide)
 exist:=h.cell 6 (by decide) (by decide)
 full:=h.cell 7 (by decide) (by decide)
 off:=h.cell 11 (by decide) (by decide)
theorem new_fp2 (N:Nat):∀k,fpS N none (fun _=>0) newS.obs k→N≤k:=by
 rintro k (rfl | hk | ⟨o,ho,_⟩)
 · exact Nat.le_refl _
 · cases hk
 · cases ho
theorem storeK2 (w:World) (a:Nat→Addr) (hE:ErrsX w a):StoreK a w.heap.size (EMw w) SAtP where
 below W W' h hb:=Below.trans (h:Below w.heap.size w W) hb
 size W h:=Below.size (h:Below w.heap.size w W)
 ptr W v FP s h:=by
   obtain⟨b,mo,q,rfl,rfl,hs⟩:=h
   exact⟨_,rfl⟩
 lt W v FP s k h hk:=by
   obtain⟨b,mo,q,rfl,rfl,hs⟩:=h
   exact hs.lt hk
 keep W W' v FP P s h hB hP:=by
   obtain⟨b,mo,q,rfl,rfl,hs⟩:=h
   exact⟨b,mo,q,rfl,rfl,hs.keep hB hP⟩
 new W _:=(snew_any W).mono fun e w' ⟨he,hs,hb⟩=>⟨_,_,he,⟨W.heap.size,none,_,rfl,rfl,hs⟩,new_fp2 W.heap.size,hb⟩
 put W v FP s n t hm h hk hn ht:=by
   obtain⟨b,mo,q,rfl,rfl,hs⟩:=h
   exact sput_any hs hk (hE.below hm).o n t hn ht
 get W v FP s n hm h hk hn:=by
   obtain⟨b,mo,q,rfl,rfl,hs⟩:=h
   exact sget_any hs (hE.below hm).o n (by unfold maxLen;omega)
theorem scanK (w:World) (a:Nat→Addr) (hE:ErrsX w a):ScanK a (EMw w) SAtP where
 rows W v FP st s vf lo hi hm hat ks hx hl hs:=srows_any (storeK2 w a hE) (fun _ hW=>⟨(hE.below hW).f,(hE.below hW).hand,(hE.below hW).l⟩) W v FP st s vf lo hi hm hat ks hx hl hs
 rows0 W s vf lo hi hm hx _ _:=srows0_any (EM:=EMw w) (fun _ hW=>⟨(hE.below hW).f,(hE.below hW).hand,(hE.below hW).l⟩) W s vf lo hi hm hx
 count W v FP st s vf hm hat ks hx hl hs:=scount_any (storeK2 w a hE) (fun _ hW=>⟨(hE.below hW).f,(hE.below hW).hand,(hE.below hW).l⟩) W v FP st s vf hm hat ks hx hl hs
 find W v FP st s vf key hm hat ks hx hl hs:=sfind_any (storeK2 w a hE) (fun _ hW=>⟨(hE.below hW).f,(hE.below hW).hand,(hE.below hW).l⟩) W v FP st s vf key hm hat ks hx hl hs
theorem filesK (w:World) (a:Nat→Addr) (hE:ErrsX w a):FilesK a (EMw w) where
 of W p q s seq hm h1 h2 h3:=fof_any p q s seq W a (hE.below hm).f (fun _ _ _ _=>(hE.below hm).hand) (by omega) (by omega) (by unfold maxLen;omega)
 data W v xs hm hx hl hp hok:=by
   obtain⟨q,cap,rfl⟩:=hx.form
   refine(make_any q cap xs W a (hE.below hm).f.data hx hl hp xs.length (Nat.le_refl _) (fun i h _=>hok _ (List.getElem_mem _)) (fun h=>absurd h (Nat.lt_irrefl _))).mono ?_
   rintro e w' (⟨_,he,hb⟩|⟨h,_⟩)
   · refine⟨?_,hb⟩
     rw[he]
     unfold dataT
     rw[if_pos (by rw[List.all_eq_true];intro x hx;exact decide_eq_true (hok x hx))]
   · exact absurd h (Nat.lt_irrefl _)
 gone W v zs hm hz hl hok:=by
   refine(gmake_any v zs W a (hE.below hm).f.data.weak hz (by omega) (Nat.le_trans (rise_len zs) hl) zs.length (Nat.le_refl _) (fun i h _=>hok _ (List.getElem_mem _)) (fun h=>absurd h (Nat.lt_irrefl _))).mono ?_
   rintro e w' (⟨_,he,hb⟩|⟨h,_⟩)
   · refine⟨?_,hb⟩
     rw[he]
     unfold goneT
     rw[if_pos (by rw[List.all_eq_true];exact hok)]
   · exact absurd h (Nat.lt_irrefl _)
 bad W v zs hm hz hl hbad:=by
   obtain⟨m,h1,h2,h3⟩:=first_not inNum zs
   have hlt:m<zs.length:=by
     rcases Nat.lt_or_ge m zs.length with h | h
     · exact h
     · obtain⟨z,hz',hb⟩:=hbad
       obtain⟨i,hi,rfl⟩:=List.getElem_of_mem hz'
       rw[h2 i hi (by omega)]at hb
       cases hb
   refine(gmake_any v zs W a (hE.below hm).f.data.weak hz (by omega) (Nat.le_trans (rise_len zs) hl) m h1 h2 h3).mono ?_
   rintro e w' (⟨h,_⟩|⟨_,fb,he,_,_,hb⟩)
   · omega
   · exact⟨_,_,he,hb⟩
end Go.Proofs.YtdhkdjlgmbejnaaGreatDoor
namespace Go.Proofs.YtdhkdjlgmbejnaaGreatDoor
open Go.ChangeShapes Go.WideShapes Go.ChangeAt Go.RowKit Go.Lib Go.Shelf
theorem env_errsT {W : World} (hsh : W.ShapedOpen Tryz.prog) (hL : laidMet Tryz.prog plainList W) (hH : handlesMet Tryz.prog [("errors.errorType", Rows.laid_errors_errorType)] W) : ∃ a, ErrsX W a ∧ Errs W a := by
 obtain⟨a,hV,hE⟩:=env_errs hsh hL hH
 exact⟨a,⟨fun i hi _=>hE.cell i hi,hE.handle,⟨hV.maxl,hV.syn,hV.tab⟩⟩,hE⟩
theorem scanF (w:World) (a:Nat→Addr) (hE:ErrsX w a):ScanF a (EMw w) SAtP where
 find W v FP st s vf key hm hat ks hx hl hs:=(sfindN_any (storeK2 w a hE) (fun _ hW=>⟨(hE.below hW).f,(hE.below hW).hand,(hE.below hW).l⟩) W v FP st s vf key hm hat ks hx hl hs).mono fun _ _ ⟨⟨v',ev,he,h1,h2,h3⟩,hn⟩=>⟨v',ev,he,h1,h2,h3,hn v' ev he⟩
end Go.Proofs.YtdhkdjlgmbejnaaGreatDoor
