/-
  The contract of meta.Read.
-/
import Derived.Test.YtniipgaacdpncaaGreatDoorMetaChk
import Derived.Test.YtniipgaacdpncaaGreatDoorRefMeta2
import Derived.BigQuiet
namespace Go.Proofs.YtniipgaacdpncaaGreatDoor
open Go.RowKit Go.Extern.Stop Go.Stop Go.Extern Go.Sort Go.Shelf Go.Lib

theorem suf_ten (l : List UInt8) : Lib.hasSuffix l [10] = true ↔ l.getLast? = some 10 := by
  unfold Lib.hasSuffix
  rw [List.isSuffixOf_iff_suffix]
  constructor
  · rintro ⟨t, rfl⟩
    simp
  · intro h
    obtain ⟨hne, hl⟩ := List.getLast?_eq_some_iff.1 h
    exact ⟨hne, hl.symm⟩

theorem trim_ten {l : List UInt8} (h : Lib.hasSuffix l [10] = true) : Lib.trimSuffix l [10] = l.dropLast := by
  unfold Lib.trimSuffix
  rw [if_pos h, List.dropLast_eq_take]
  rfl

theorem nums_row_end {B : Nat} {W : World} {ts : List ByteArray} {e : Ending} (h : NumsRowN B W e ts) : (∃ (zs : List Int) (g : Nat), e = .returned (.tuple #[.slice (some ⟨g, 0, none⟩) zs.length zs.length, .bool true]) ∧ numsO (ts.map (·.data.toList)) = some zs ∧ IdsAt W (.slice (some ⟨g, 0, none⟩) zs.length zs.length) zs) ∨ (e = .returned (.tuple #[.slice none 0 0, .bool false]) ∧ numsO (ts.map (·.data.toList)) = none) := by
  rcases h with ⟨zs, g, h1, h2, h3, h4, h5⟩ | ⟨j, t, h1, h2, h3⟩
  · refine Or.inl ⟨zs, g, by rw [h1]; exact h3, numsO_good (by rw [List.length_map]; exact h1) (fun j t ht => ?_), Or.inr ⟨g, 0, zs.length, rfl, fun j hj => by rw [Nat.zero_add]; exact h4 j hj⟩, fun q l c e => by injection e with _ e1 e2; omega⟩
    rw [List.getElem?_map] at ht
    cases e : ts[j]? with
    | none => rw [e] at ht; cases ht
    | some u =>
      rw [e] at ht
      obtain rfl : u.data.toList = t := Option.some.inj ht
      exact h2 j u e
  · exact Or.inr ⟨h3, numsO_bad (j := j) (t := t.data.toList) (by rw [List.getElem?_map, h1]; rfl) h2⟩

/-- What reading ends with. -/
def MReadP (w : World) (a : Nat → Addr) (R : List Int × Nat × Option Nat) (e : Ending) (w' : World) : Prop := ∃ v ev, e = .returned (.tuple #[v, ev]) ∧ KeysAt w' v R.1 ∧ ToldE w' a ev R.2 ∧ Below w.heap.size w w'

theorem mread_bad {w : World} {a : Nat → Addr} {R : List Int × Nat × Option Nat} {W : World} (hR : R = ([], 1, none)) (hb : Below w.heap.size w W) : MReadP w a R (.returned (.tuple #[.slice none 0 0, .iface 159 (.pointer (some (a 0)))])) W := by
  subst hR
  exact ⟨_, _, rfl, nilKeys _, rfl, hb⟩

set_option maxRecDepth 100000 in
set_option maxHeartbeats 4000000 in
theorem mread_any (s : ByteArray) (w : World) (a : Nat → Addr) (h : EnvM w a) (hs : s.size ≤ 10000) :
    Calls Tryz.prog 11 #[.string s] w fun e w' => MReadP w a (readI s.data.toList) e w' := by
  have hcs := Tryz.strings_CutSuffix s ⟨#[10]⟩ w (by omega)
  have eS : (⟨#[10]⟩ : ByteArray).data.toList = [10] := rfl
  rw [eS] at hcs
  have hsl : s.data.toList.length ≤ 10000 := by rw [size_list]; exact hs
  have HEN : Hid (∀ W, Below w.heap.size w W → EnvM W a) := fun W hb => h.below hb
  have hter := h.text
  cases hS : Lib.hasSuffix s.data.toList [10] with
  | false =>
    have HR : Hid (readI s.data.toList = ([], 1, none)) := by
      show _ = _
      have hn : s.data.toList.getLast? ≠ some 10 := fun e => by rw [(suf_ten _).2 e] at hS; cases hS
      unfold readI
      split
      · rw [if_neg (by rintro ⟨h', _⟩; exact hn h')]
      · rfl
    rw [hS] at hcs
    have htr : Lib.trimSuffix s.data.toList [10] = s.data.toList := by unfold Lib.trimSuffix; rw [if_neg (by rw [hS]; simp)]
    rw [htr] at hcs
    have hsp := splitTx_any ⟨s.data.toList.toArray⟩ w a h.weak (by rw [← size_list]; simp; omega)
    generalize readI s.data.toList = R at HR ⊢
    generalize (⟨s.data.toList.toArray⟩ : ByteArray) = line at hcs hsp
    clear hS htr eS hsl hs
    go_enter Tryz.func11, Tryz.ntmps11
    go_wp2_with fail
    refine hcs.mono ?_
    rintro e w1 ⟨rfl, rfl⟩
    clear hcs
    go_wp2_with fail
    refine hsp.mono ?_
    rintro e w2 ⟨v, ts, rfl, -, -, hb2⟩
    clear hsp
    have hte := (HEN.out w2 hb2).text
    clear hter h
    go_wp2
    go_quiet (fail)
    go_wp2
    go_ret2
    exact mread_bad HR.out (below_drewN hb2 nq)
  | true =>
    rw [hS, trim_ten hS] at hcs
    have hgl := (suf_ten _).1 hS
    have hsp := splitTx_any ⟨s.data.toList.dropLast.toArray⟩ w a h.weak (by rw [← size_list]; simp; omega)
    have hdl : s.data.toList.dropLast.length ≤ 10000 := by simp; omega
    have HRI : Hid (∀ (k : List UInt8) (ws : List (List UInt8)), words s.data.toList.dropLast = k :: ws → readI s.data.toList = if k = kMeta then match numsO ws with
        | some zs => if (idsE zs).1 ≠ 0 then ([], idsE zs) else (zs, 0, none)
        | none => ([], 1, none)
      else ([], 1, none)) := fun k ws e => by
        unfold readI
        rw [e]
        dsimp only
        by_cases hk : k = kMeta
        · rw [if_pos ⟨hgl, hk⟩, if_pos hk]
          cases numsO ws <;> rfl
        · rw [if_neg (fun h' => hk h'.2), if_neg hk]
    have eD : (⟨s.data.toList.dropLast.toArray⟩ : ByteArray).data.toList = s.data.toList.dropLast := by simp
    rw [eD] at hsp
    generalize readI s.data.toList = R at HRI ⊢
    generalize s.data.toList.dropLast = l at hcs hsp HRI hdl
    generalize (⟨l.toArray⟩ : ByteArray) = line at hcs hsp
    clear hS eS hsl hs hgl eD
    go_enter Tryz.func11, Tryz.ntmps11
    go_wp2_with fail
    refine hcs.mono ?_
    rintro e w1 ⟨rfl, rfl⟩
    clear hcs
    go_wp2_with fail
    refine hsp.mono ?_
    rintro e w2 ⟨v, ts, rfl, ⟨b, rfl, htx⟩, hws, hb2⟩
    clear hsp
    have hte := (HEN.out w2 hb2).text
    clear hter h
    have hwl := words_count l
    have hwn := words_ne l
    have hwe := words_len l
    rw [← hws] at hwl hwn hwe
    cases ts with
    | nil => exact absurd rfl hwn
    | cons t0 tr =>
    have HRI2 := HRI.out t0.data.toList (tr.map (·.data.toList)) (by rw [← hws]; rfl)
    have c0 := htx 0 (by simp)
    have HTR : Hid (∀ W, Below w2.heap.size w2 W → ∀ j (h : j < tr.length), W.cell? ⟨b, 1 + j, none⟩ = some (.string tr[j])) := fun W hb j hj => by
      have := below_keep hb (htx (j + 1) (by simp; omega))
      rw [Nat.add_comm 1 j]
      simpa using this
    have HTS : Hid (∀ t ∈ tr, t.size ≤ maxLen) := fun t ht => by
      have := hwe t.data.toList (by simp; exact Or.inr ⟨t, ht, rfl⟩)
      rw [size_list] at this
      unfold maxLen
      omega
    have htl : tr.length ≤ 10000 := by simp at hwl; omega
    simp only [List.getElem_cons_zero] at c0
    clear htx hws hwl hwn hwe HRI
    by_cases hk : t0.data.toList = kMeta
    case neg =>
      rw [if_neg hk] at HRI2
      have HR : Hid (R = ([], 1, none)) := HRI2
      have d0 := neB_of hk
      simp only [kMeta] at d0
      clear HRI2 hk
      simp only [List.length_cons]
      have hN0 : (0 : Int) < ((tr.length + 1 : Nat) : Int) := by omega
      generalize tr.length + 1 = N at hN0 ⊢
      go_wp2
      all_goals
        go_quiet (fail)
        go_wp2
        go_ret2
        exact mread_bad HR.out (below_drewN hb2 nq)
    case pos =>
    rw [if_pos hk] at HRI2
    have d0 := eqB_of hk
    simp only [kMeta] at d0
    have hnum : ∃ q, q = (if tr.length = 0 then some (⟨b, 0, none⟩ : Addr) else some ⟨b, 1, none⟩) ∧ Calls Tryz.prog 28 #[.slice q tr.length tr.length] w2 fun e w' => NumsRowN w2.heap.size w' e tr ∧ Below w2.heap.size w2 w' := by
      by_cases h0 : tr.length = 0
      · refine ⟨_, rfl, ?_⟩
        rw [if_pos h0]
        obtain rfl : tr = [] := List.length_eq_zero_iff.1 h0
        exact numbers_new b 0 0 [] w2 a (HEN.out w2 hb2).weak (fun j hj => absurd hj (Nat.not_lt_zero _)) (fun t ht => by simp at ht) (by simp)
      · refine ⟨_, rfl, ?_⟩
        rw [if_neg h0]
        exact numbers_new b 1 tr.length tr w2 a (HEN.out w2 hb2).weak (HTR.out w2 (Below.refl _ _)) HTS.out (by omega)
    obtain ⟨q, hq, hnum⟩ := hnum
    have HM : Hid (∀ o, numsO (tr.map (·.data.toList)) = o → R = match o with
        | some zs => if (idsE zs).1 ≠ 0 then ([], idsE zs) else (zs, 0, none)
        | none => ([], 1, none)) := fun o e => by rw [← e]; exact HRI2
    clear HRI2 hk
    simp only [List.length_cons]
    generalize hTL : tr.length = K at hq hnum htl ⊢
    have HKL : Hid (tr.length = K) := hTL
    clear hTL HTR HTS
    have hN0 : (0 : Int) < ((K + 1 : Nat) : Int) := by omega
    have hN1 : (1 : Int) ≤ ((K + 1 : Nat) : Int) := by omega
    by_cases hK0 : K = 0
    · subst hK0
      rw [if_pos rfl] at hq
      subst hq
      go_wp2_with fail
      refine hnum.mono ?_
      rintro e w3 ⟨hres, hb3⟩
      have hB3 : Below w1.heap.size w1 w3 := hb2.trans (hb3.mono hb2.size)
      clear hnum c0 hte
      rcases nums_row_end hres with ⟨zs, g, rfl, hnz, hids⟩ | ⟨rfl, hnn⟩
      · have HR : Hid (R = if (idsE zs).1 ≠ 0 then ([], idsE zs) else (zs, 0, none)) := HM.out (some zs) hnz
        have hck := mcheck_any _ zs w3 a (HEN.out w3 hB3) hids (by have := numsO_len hnz; rw [List.length_map, HKL.out] at this; omega)
        have HID : Hid (∀ W, Below w3.heap.size w3 W → KeysAt W (.slice (some ⟨g, 0, none⟩) zs.length zs.length) zs) := fun W hb => hids.1.below hb
        generalize zs.length = ZL at hck HID ⊢
        clear hids hnz hres hb3 HM
        by_cases hok : (idsE zs).1 = 0
        · have HR2 : Hid (R = (zs, 0, none)) := by
            show _ = _
            rw [HR.out, if_neg (by simpa using hok)]
          rw [ids_fine hok] at hck
          clear HR hok
          go_wp2_with fail
          refine hck.mono ?_
          rintro e w4 ⟨ev, rfl, ht, hb4⟩
          clear hck
          obtain rfl : ev = .nilIface := ht
          have HK4 : Hid (KeysAt w4 (.slice (some ⟨g, 0, none⟩) ZL ZL) zs) := HID.out w4 hb4
          clear HID
          go_wp2
          go_ret2
          refine ⟨_, _, rfl, ?_, ?_, hB3.trans (hb4.mono hB3.size)⟩
          · rw [HR2.out]; exact HK4.out
          · rw [HR2.out]; rfl
        · have HR2 : Hid (R = ([], idsE zs)) := by
            show _ = _
            rw [HR.out, if_pos hok]
          generalize idsE zs = E at hck hok HR2
          clear HR HID
          go_wp2_with fail
          refine hck.mono ?_
          rintro e w4 ⟨ev, rfl, ht, hb4⟩
          clear hck
          obtain ⟨t, u, rfl⟩ := ht.bad hok
          have HT4 : Hid (ToldE w4 a (.iface t u) E) := ht
          clear ht
          go_wp2
          go_ret2
          refine ⟨_, _, rfl, ?_, ?_, hB3.trans (hb4.mono hB3.size)⟩
          · rw [HR2.out]; exact nilKeys _
          · rw [HR2.out]; exact HT4.out
      · have HR : Hid (R = ([], 1, none)) := HM.out none hnn
        have hte3 := (HEN.out w3 hB3).text
        clear hnn hres HM
        go_wp2
        go_quiet (fail)
        go_wp2
        go_ret2
        exact mread_bad HR.out (below_drewN hB3 nq)
    · rw [if_neg hK0] at hq
      subst hq
      go_wp2_with fail
      refine hnum.mono ?_
      rintro e w3 ⟨hres, hb3⟩
      have hB3 : Below w1.heap.size w1 w3 := hb2.trans (hb3.mono hb2.size)
      clear hnum c0 hte
      rcases nums_row_end hres with ⟨zs, g, rfl, hnz, hids⟩ | ⟨rfl, hnn⟩
      · have HR : Hid (R = if (idsE zs).1 ≠ 0 then ([], idsE zs) else (zs, 0, none)) := HM.out (some zs) hnz
        have hck := mcheck_any _ zs w3 a (HEN.out w3 hB3) hids (by have := numsO_len hnz; rw [List.length_map, HKL.out] at this; omega)
        have HID : Hid (∀ W, Below w3.heap.size w3 W → KeysAt W (.slice (some ⟨g, 0, none⟩) zs.length zs.length) zs) := fun W hb => hids.1.below hb
        generalize zs.length = ZL at hck HID ⊢
        clear hids hnz hres hb3 HM
        by_cases hok : (idsE zs).1 = 0
        · have HR2 : Hid (R = (zs, 0, none)) := by
            show _ = _
            rw [HR.out, if_neg (by simpa using hok)]
          rw [ids_fine hok] at hck
          clear HR hok
          go_wp2_with fail
          refine hck.mono ?_
          rintro e w4 ⟨ev, rfl, ht, hb4⟩
          clear hck
          obtain rfl : ev = .nilIface := ht
          have HK4 : Hid (KeysAt w4 (.slice (some ⟨g, 0, none⟩) ZL ZL) zs) := HID.out w4 hb4
          clear HID
          go_wp2
          go_ret2
          refine ⟨_, _, rfl, ?_, ?_, hB3.trans (hb4.mono hB3.size)⟩
          · rw [HR2.out]; exact HK4.out
          · rw [HR2.out]; rfl
        · have HR2 : Hid (R = ([], idsE zs)) := by
            show _ = _
            rw [HR.out, if_pos hok]
          generalize idsE zs = E at hck hok HR2
          clear HR HID
          go_wp2_with fail
          refine hck.mono ?_
          rintro e w4 ⟨ev, rfl, ht, hb4⟩
          clear hck
          obtain ⟨t, u, rfl⟩ := ht.bad hok
          have HT4 : Hid (ToldE w4 a (.iface t u) E) := ht
          clear ht
          go_wp2
          go_ret2
          refine ⟨_, _, rfl, ?_, ?_, hB3.trans (hb4.mono hB3.size)⟩
          · rw [HR2.out]; exact nilKeys _
          · rw [HR2.out]; exact HT4.out
      · have HR : Hid (R = ([], 1, none)) := HM.out none hnn
        have hte3 := (HEN.out w3 hB3).text
        clear hnn hres HM
        go_wp2
        go_quiet (fail)
        go_wp2
        go_ret2
        exact mread_bad HR.out (below_drewN hB3 nq)
end Go.Proofs.YtniipgaacdpncaaGreatDoor
