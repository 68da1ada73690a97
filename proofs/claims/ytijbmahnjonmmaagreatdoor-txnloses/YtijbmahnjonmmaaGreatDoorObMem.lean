/-
  Objects in memory: three cells an element; what turns but for some blocks.
-/
import Derived.Test.YtijbmahnjonmmaaGreatDoorSnapTold
namespace Go.Proofs.YtijbmahnjonmmaaGreatDoor
open Go Go.Lib

abbrev Tx := Sn × List Fl × List ByteArray

def atSeq (f : Fl) (n : Int) : Fl := (f.1, f.2.1, f.2.2.1, f.2.2.2.1, f.2.2.2.2.1, n)

def hasP (fs : List Fl) (p : ByteArray) : Bool := fs.any fun f => decide (f.1 = p)
def inT (ts : List ByteArray) (p : ByteArray) : Bool := ts.any fun t => decide (t = p)

theorem hasP_iff {fs : List Fl} {p : ByteArray} : hasP fs p = true ↔ ∃ f ∈ fs, f.1 = p := by simp [hasP]
theorem inT_iff {ts : List ByteArray} {p : ByteArray} : inT ts p = true ↔ p ∈ ts := by
  simp only [inT, List.any_eq_true, decide_eq_true_eq]
  exact ⟨fun ⟨x, hx, e⟩ => e ▸ hx, fun h => ⟨p, h, rfl⟩⟩
theorem inT_no {ts : List ByteArray} {p : ByteArray} : inT ts p = false ↔ p ∉ ts := by
  rw [← inT_iff]; simp
theorem hasP_no {fs : List Fl} {p : ByteArray} : hasP fs p = false ↔ ∀ f ∈ fs, f.1 ≠ p := by
  simp [hasP]

theorem findF_has (fs : List Fl) (p : ByteArray) : decide (0 ≤ findF fs p) = hasP fs p := by
  by_cases h : ∃ f ∈ fs, f.1 = p
  · have hn : ∃ n, ∃ h : n < fs.length, fs[n].1 = p ∧ ∀ j (hj : j < fs.length), j < n → fs[j].1 ≠ p := by
      obtain ⟨f, hf, e⟩ := h
      obtain ⟨i, hi, rfl⟩ := List.mem_iff_getElem.1 hf
      clear hf
      induction i using Nat.strongRecOn with
      | ind i ih =>
        by_cases hh : ∃ j, ∃ hj : j < fs.length, j < i ∧ fs[j].1 = p
        · obtain ⟨j, hj, hji, ej⟩ := hh
          exact ih j hji hj ej
        · exact ⟨i, hi, e, fun j hj hji ej => hh ⟨j, hj, hji, ej⟩⟩
    obtain ⟨n, hn, e, hno⟩ := hn
    rw [findF_at hn hno e, hasP_iff.2 h]
    simp
  · have hno : ∀ f ∈ fs, f.1 ≠ p := fun f hf e => h ⟨f, hf, e⟩
    rw [findF_no (fun j hj => hno _ (List.getElem_mem hj)), hasP_no.2 hno]
    rfl

def tAddE (t : Tx) (f : Fl) : Nat := if fileE (atSeq f 1) ≠ 0 then fileE (atSeq f 1) else if hasP t.2.1 f.1 = true then 7 else 0
def tAdd (t : Tx) (f : Fl) : Tx := if tAddE t f = 0 then (t.1, t.2.1 ++ [atSeq f 1], t.2.2) else t
def tRemE (t : Tx) (p : ByteArray) : Nat := if hasP t.1.2.2.2.2.2.2 p = false then 6 else if inT t.2.2 p = true then 7 else 0
def tRem (t : Tx) (p : ByteArray) : Tx := if tRemE t p = 0 then (t.1, t.2.1, t.2.2 ++ [p]) else t

def tSeq (t : Tx) (now : Sn) (f : Fl) : Int := if 0 < t.2.2.length ∧ f.2.1.data.toList ≠ [45] then t.1.2.2.1 else now.2.2.1 + 1
def tNew (t : Tx) (now : Sn) : List Fl := t.2.1.map fun f => atSeq f (tSeq t now f)
def tLeft (t : Tx) (now : Sn) : List Fl := now.2.2.2.2.2.2.filter fun f => !inT t.2.2 f.1
def tFiles (t : Tx) (now : Sn) : List Fl := (tNew t now).foldl placeL (tLeft t now)
def goneAny (t : Tx) : Bool := t.2.1.any fun f => decide (f.2.1.data.toList = [45])
def tOp (t : Tx) : ByteArray := if 0 < t.2.2.length then bytesOf kRewrite else if goneAny t = true then bytesOf kDelete else bytesOf kAppend
def tSnap (t : Tx) (now : Sn) (id day idx : Int) : Sn := (id, now.1, now.2.2.1 + 1, day, idx, tOp t, tFiles t now)
def tStale (t : Tx) (now : Sn) : Bool := t.2.2.any fun p => !hasP now.2.2.2.2.2.2 p
def tThere (t : Tx) (now : Sn) : Bool := t.2.1.any fun f => hasP now.2.2.2.2.2.2 f.1
def tComE (t : Tx) (now : Sn) (id day idx : Int) : Nat × Option Nat :=
  if (snapE now).1 ≠ 0 then snapE now else if tStale t now = true then (11, none) else if tThere t now = true then (7, none) else ((snapE (tSnap t now id day idx)).1, none)
def tCom (t : Tx) (now : Sn) (id day idx : Int) : Sn := if (tComE t now id day idx).1 = 0 then tSnap t now id day idx else zeroS

structure TxOk (t : Tx) : Prop where
  base : (snapE t.1).1 = 0
  adds : ∀ f ∈ t.2.1, fileE f = 0
  apart : t.2.1.Pairwise fun f g => f.1 ≠ g.1
  rems : ∀ p ∈ t.2.2, hasP t.1.2.2.2.2.2.2 p = true
  ones : t.2.2.Pairwise (· ≠ ·)

theorem txOk_begin {s : Sn} (h : (snapE s).1 = 0) : TxOk (s, [], []) := ⟨h, by simp, by simp, by simp, by simp⟩

theorem tAddE_zero {t : Tx} {f : Fl} (h : tAddE t f = 0) : fileE (atSeq f 1) = 0 ∧ hasP t.2.1 f.1 = false := by
  unfold tAddE at h
  split at h
  · rename_i h'; exact absurd h h'
  · rename_i h'
    split at h
    · cases h
    · rename_i h2
      exact ⟨by simpa using h', by simpa using h2⟩

theorem TxOk.add {t : Tx} (h : TxOk t) (f : Fl) : TxOk (tAdd t f) := by
  unfold tAdd
  split
  · rename_i h0
    obtain ⟨h1, h2⟩ := tAddE_zero h0
    refine ⟨h.base, fun g hg => ?_, ?_, h.rems, h.ones⟩
    · rw [List.mem_append, List.mem_singleton] at hg
      rcases hg with hg | rfl
      · exact h.adds g hg
      · exact h1
    · rw [List.pairwise_append]
      refine ⟨h.apart, by simp, fun g hg k hk => ?_⟩
      rw [List.mem_singleton] at hk
      subst hk
      exact hasP_no.1 h2 g hg
  · exact h

theorem tRemE_zero {t : Tx} {p : ByteArray} (h : tRemE t p = 0) : hasP t.1.2.2.2.2.2.2 p = true ∧ inT t.2.2 p = false := by
  unfold tRemE at h
  split at h
  · cases h
  · rename_i h'
    split at h
    · cases h
    · rename_i h2
      exact ⟨by simpa using h', by simpa using h2⟩

theorem TxOk.rem {t : Tx} (h : TxOk t) (p : ByteArray) : TxOk (tRem t p) := by
  unfold tRem
  split
  · rename_i h0
    obtain ⟨h1, h2⟩ := tRemE_zero h0
    refine ⟨h.base, h.adds, h.apart, fun q hq => ?_, ?_⟩
    · rw [List.mem_append, List.mem_singleton] at hq
      rcases hq with hq | rfl
      · exact h.rems q hq
      · exact h1
    · rw [List.pairwise_append]
      refine ⟨h.ones, by simp, fun q hq k hk => ?_⟩
      rw [List.mem_singleton] at hk
      subst hk
      intro e
      subst e
      exact inT_no.1 h2 hq
  · exact h

def UpF (fs : List Fl) : Prop := fs.Pairwise fun f g => fk f < fk g

theorem placeL_cons (g : Fl) (r : List Fl) (f : Fl) : placeL (g :: r) f = if fk g < fk f then g :: placeL r f else f :: g :: r := by
  unfold placeL
  by_cases h : fk g < fk f
  · rw [if_pos h, List.takeWhile_cons_of_pos (by simpa using h), List.dropWhile_cons_of_pos (by simpa using h)]
    rfl
  · rw [if_neg h, List.takeWhile_cons_of_neg (by simpa using h), List.dropWhile_cons_of_neg (by simpa using h)]
    rfl

theorem place_perm (fs : List Fl) (f : Fl) : (placeL fs f).Perm (f :: fs) := by
  unfold placeL
  have h : fs = fs.takeWhile (fun g => decide (fk g < fk f)) ++ fs.dropWhile (fun g => decide (fk g < fk f)) := by rw [List.takeWhile_append_dropWhile]
  conv => rhs; rw [h]
  exact List.perm_middle

theorem place_mem {fs : List Fl} {f x : Fl} : x ∈ placeL fs f ↔ x = f ∨ x ∈ fs := by
  rw [(place_perm fs f).mem_iff, List.mem_cons]

theorem place_up : ∀ {fs : List Fl} {f : Fl}, UpF fs → (∀ g ∈ fs, fk g ≠ fk f) → UpF (placeL fs f)
  | [], f, _, _ => by simp [UpF, placeL]
  | g :: r, f, h, hn => by
    have h' := List.pairwise_cons.1 h
    have hg := hn g List.mem_cons_self
    rw [placeL_cons]
    split
    · rename_i hlt
      refine List.pairwise_cons.2 ⟨fun x hx => ?_, place_up h'.2 fun x hx => hn x (List.mem_cons_of_mem _ hx)⟩
      rcases place_mem.1 hx with rfl | hx
      · exact hlt
      · exact h'.1 x hx
    · rename_i hlt
      refine List.pairwise_cons.2 ⟨fun x hx => ?_, h⟩
      rw [List.mem_cons] at hx
      rcases hx with rfl | hx
      · omega
      · have := h'.1 x hx
        omega

theorem fold_perm : ∀ (ys xs : List Fl), (ys.foldl placeL xs).Perm (xs ++ ys)
  | [], xs => by simp
  | y :: ys, xs => by
    refine (fold_perm ys (placeL xs y)).trans ?_
    refine ((place_perm xs y).append_right ys).trans ?_
    simpa using (List.perm_middle (a := y) (l₁ := xs) (l₂ := ys)).symm

theorem fold_up : ∀ (ys xs : List Fl), UpF xs → (xs ++ ys).Pairwise (fun f g => fk f ≠ fk g) → UpF (ys.foldl placeL xs)
  | [], xs, h, _ => h
  | y :: ys, xs, h, hp => by
    have h1 := List.pairwise_append.1 hp
    have hxy : ∀ g ∈ xs, fk g ≠ fk y := fun g hg => h1.2.2 g hg y List.mem_cons_self
    refine fold_up ys (placeL xs y) (place_up h hxy) ?_
    have h2 := List.pairwise_cons.1 h1.2.1
    rw [List.pairwise_append]
    refine ⟨(place_up h hxy).imp fun h' => by omega, h2.2, fun g hg k hk => ?_⟩
    rcases place_mem.1 hg with rfl | hg
    · exact h2.1 k hk
    · exact h1.2.2 g hg k (List.mem_cons_of_mem _ hk)

theorem up_unique : ∀ {xs ys : List Fl}, UpF xs → UpF ys → xs.Perm ys → xs = ys
  | [], ys, _, _, h => (List.nil_perm.1 h).symm
  | x :: xs, [], _, _, h => absurd h.length_eq (by simp)
  | x :: xs, y :: ys, hx, hy, h => by
    have h1 := List.pairwise_cons.1 hx
    have h2 := List.pairwise_cons.1 hy
    have e : x = y := by
      have m1 : x ∈ y :: ys := h.mem_iff.1 List.mem_cons_self
      have m2 : y ∈ x :: xs := h.mem_iff.2 List.mem_cons_self
      rw [List.mem_cons] at m1 m2
      rcases m1 with m1 | m1
      · exact m1
      · rcases m2 with m2 | m2
        · exact m2.symm
        · have a := h2.1 x m1
          have b := h1.1 y m2
          omega
    subst e
    rw [up_unique h1.2 h2.2 h.cons_inv]

theorem snap_rises {s : Sn} (h : (snapE s).1 = 0) : s.2.2.2.2.2.2.length ≤ 60 ∧ Rises 0 s.2.2.2.2.2.2 := listE_ok.1 (snap_good h).2.2.1

theorem fk_ne {f g : Fl} (hf : pathO f.1.data.toList ≠ none) (hg : pathO g.1.data.toList ≠ none) (h : f.1 ≠ g.1) : fk f ≠ fk g := fun e => h (by
  have e2 := pk_inj hf hg e
  have : bytesOf f.1.data.toList = bytesOf g.1.data.toList := by rw [e2]
  rwa [bytesOf_data, bytesOf_data] at this)

theorem tAll_apart {t : Tx} {now : Sn} (ht : TxOk t) (hn : (snapE now).1 = 0) (hno : tThere t now = false) :
    (∀ f ∈ tLeft t now ++ tNew t now, pathO f.1.data.toList ≠ none) ∧ (tLeft t now ++ tNew t now).Pairwise (fun f g => fk f ≠ fk g) ∧ UpF (tLeft t now) := by
  obtain ⟨_, hr1, hr2⟩ := snap_rises hn
  have hp1 : ∀ f ∈ tLeft t now, f ∈ now.2.2.2.2.2.2 := fun f hf => (List.mem_filter.1 hf).1
  have hp2 : ∀ f ∈ tNew t now, ∃ g ∈ t.2.1, g.1 = f.1 := fun f hf => by
    obtain ⟨g, hg, rfl⟩ := List.mem_map.1 hf
    exact ⟨g, hg, rfl⟩
  have hq1 : ∀ f ∈ tLeft t now, pathO f.1.data.toList ≠ none := fun f hf => ok_path (hr1 f (hp1 f hf)).1
  have hq2 : ∀ f ∈ tNew t now, pathO f.1.data.toList ≠ none := fun f hf => by
    obtain ⟨g, hg, e⟩ := hp2 f hf
    rw [← e]
    exact ok_path (ht.adds g hg)
  have hup : UpF (tLeft t now) := List.Pairwise.sublist List.filter_sublist hr2
  refine ⟨fun f hf => ?_, ?_, hup⟩
  · rcases List.mem_append.1 hf with h | h
    · exact hq1 f h
    · exact hq2 f h
  · rw [List.pairwise_append]
    refine ⟨hup.imp fun h => by omega, ?_, fun f hf g hg => ?_⟩
    · refine List.pairwise_map.2 ?_
      refine List.Pairwise.imp_of_mem (fun {f g} hf hg h => ?_) ht.apart
      exact fk_ne (f := atSeq f _) (g := atSeq g _) (show pathO f.1.data.toList ≠ none from ok_path (ht.adds f hf)) (show pathO g.1.data.toList ≠ none from ok_path (ht.adds g hg)) h
    · refine fk_ne (hq1 f hf) (hq2 g hg) fun e => ?_
      obtain ⟨k, hk, ek⟩ := hp2 g hg
      have : tThere t now = true := by
        simp only [tThere, List.any_eq_true]
        exact ⟨k, hk, hasP_iff.2 ⟨f, hp1 f hf, by rw [e, ek]⟩⟩
      rw [hno] at this
      cases this

theorem tFiles_up {t : Tx} {now : Sn} (ht : TxOk t) (hn : (snapE now).1 = 0) (hno : tThere t now = false) : UpF (tFiles t now) := by
  obtain ⟨_, h2, h3⟩ := tAll_apart ht hn hno
  exact fold_up _ _ h3 h2

theorem tFiles_sorted {t : Tx} {now : Sn} (ht : TxOk t) (hn : (snapE now).1 = 0) (hno : tThere t now = false) {ys : List Fl} (hp : ys.Perm (tLeft t now ++ tNew t now)) (hu : UpF ys) : ys = tFiles t now :=
  up_unique hu (tFiles_up ht hn hno) (hp.trans (fold_perm _ _).symm)

theorem tFiles_mem {t : Tx} {now : Sn} {x : Fl} : x ∈ tFiles t now ↔ (x ∈ now.2.2.2.2.2.2 ∧ x.1 ∉ t.2.2) ∨ x ∈ tNew t now := by
  unfold tFiles
  rw [(fold_perm _ _).mem_iff, List.mem_append]
  unfold tLeft
  rw [List.mem_filter]
  simp only [Bool.not_eq_true', inT_no]

theorem tNew_path {t : Tx} {now : Sn} {p : ByteArray} : (∃ x ∈ tNew t now, x.1 = p) ↔ ∃ f ∈ t.2.1, f.1 = p := by
  unfold tNew
  constructor
  · rintro ⟨x, hx, rfl⟩
    obtain ⟨f, hf, rfl⟩ := List.mem_map.1 hx
    exact ⟨f, hf, rfl⟩
  · rintro ⟨f, hf, rfl⟩
    exact ⟨_, List.mem_map.2 ⟨f, hf, rfl⟩, rfl⟩

theorem tCom_zero {t : Tx} {now : Sn} {id day idx : Int} (h : (tComE t now id day idx).1 = 0) : (snapE now).1 = 0 ∧ tStale t now = false ∧ tThere t now = false ∧ (snapE (tSnap t now id day idx)).1 = 0 ∧ tCom t now id day idx = tSnap t now id day idx := by
  have h0 := h
  unfold tComE at h
  split at h
  · rename_i h'; exact absurd h h'
  · rename_i h1
    split at h
    · cases h
    · rename_i h2
      split at h
      · cases h
      · rename_i h3
        exact ⟨by simpa using h1, by simpa using h2, by simpa using h3, h, by unfold tCom; rw [if_pos h0]⟩

theorem tCom_bad {t : Tx} {now : Sn} {id day idx : Int} (h : (tComE t now id day idx).1 ≠ 0) : tCom t now id day idx = zeroS := by unfold tCom; rw [if_neg h]

theorem filter_both {β : Type} (p : β → Bool) : ∀ l : List β, (l.filter p).length + (l.filter fun x => !p x).length = l.length
  | [] => rfl
  | x :: r => by
    have ih := filter_both p r
    cases h : p x with
    | true => rw [List.filter_cons_of_pos h, List.filter_cons_of_neg (by simp [h])]; simp only [List.length_cons]; omega
    | false => rw [List.filter_cons_of_neg (by simp [h]), List.filter_cons_of_pos (by simp [h])]; simp only [List.length_cons]; omega

theorem left_len {fs : List Fl} (hu : UpF fs) {rs : List ByteArray} (h1 : rs.Pairwise (· ≠ ·)) (h2 : ∀ p ∈ rs, hasP fs p = true) : (fs.filter fun f => !inT rs f.1).length + rs.length = fs.length := by
  have hnd : (fs.map (·.1)).Nodup := by
    refine List.pairwise_map.2 (hu.imp fun {f g} h e => ?_)
    unfold fk at h
    rw [e] at h
    omega
  have hsub : ((fs.filter fun f => inT rs f.1).map (·.1)).Sublist (fs.map (·.1)) := List.Sublist.map _ List.filter_sublist
  have hnd2 := List.Pairwise.sublist hsub hnd
  have hperm : ((fs.filter fun f => inT rs f.1).map (·.1)).Perm rs := by
    rw [List.perm_ext_iff_of_nodup hnd2 h1]
    intro p
    constructor
    · intro hp
      obtain ⟨f, hf, rfl⟩ := List.mem_map.1 hp
      exact inT_iff.1 (List.mem_filter.1 hf).2
    · intro hp
      obtain ⟨f, hf, rfl⟩ := hasP_iff.1 (h2 p hp)
      exact List.mem_map.2 ⟨f, List.mem_filter.2 ⟨hf, inT_iff.2 hp⟩, rfl⟩
  have hl := hperm.length_eq
  rw [List.length_map] at hl
  have := filter_both (fun f : Fl => inT rs f.1) fs
  omega

theorem tFiles_len {t : Tx} {now : Sn} (ht : TxOk t) (hn : (snapE now).1 = 0) (hs : tStale t now = false) : (tFiles t now).length + t.2.2.length = now.2.2.2.2.2.2.length + t.2.1.length := by
  have h1 : (tFiles t now).length = (tLeft t now).length + t.2.1.length := by
    unfold tFiles
    rw [(fold_perm _ _).length_eq, List.length_append]
    simp [tNew]
  have h2 := left_len (snap_rises hn).2.2 ht.ones (fun p hp => by
    cases h : hasP now.2.2.2.2.2.2 p with
    | true => rfl
    | false =>
      have : tStale t now = true := by
        simp only [tStale, List.any_eq_true]
        exact ⟨p, hp, by rw [h]; rfl⟩
      rw [hs] at this
      cases this)
  unfold tLeft at h1
  omega

theorem two_all {t u : Tx} {id day idx : Int} (ht : TxOk t) (hu : TxOk u) (hb : u.1 = t.1) (h1 : (tComE t t.1 id day idx).1 = 0) (h2 : (tComE u (tSnap t t.1 id day idx) (id + 1) day idx).1 = 0) :
    (∀ f ∈ t.1.2.2.2.2.2.2, ¬ (inT (t.2.2 ++ u.2.2) f.1 = true ∧ inT (t.2.1.map (·.1) ++ u.2.1.map (·.1)) f.1 = true) →
      (inT (t.2.2 ++ u.2.2) f.1 = true → hasP (tFiles u (tSnap t t.1 id day idx)) f.1 = false) ∧ (inT (t.2.2 ++ u.2.2) f.1 = false → f ∈ tFiles u (tSnap t t.1 id day idx))) ∧
    (∀ p ∈ t.2.1.map (·.1) ++ u.2.1.map (·.1), hasP (tFiles u (tSnap t t.1 id day idx)) p = true) ∧
    (tFiles u (tSnap t t.1 id day idx)).length + (t.2.2 ++ u.2.2).length = t.1.2.2.2.2.2.2.length + (t.2.1.map (·.1) ++ u.2.1.map (·.1)).length := by
  obtain ⟨a1, a2, a3, a4, -⟩ := tCom_zero h1
  obtain ⟨b1, b2, b3, b4, -⟩ := tCom_zero h2
  have hin : ∀ x, x ∈ tFiles u (tSnap t t.1 id day idx) ↔ (((x ∈ t.1.2.2.2.2.2.2 ∧ x.1 ∉ t.2.2) ∨ x ∈ tNew t t.1) ∧ x.1 ∉ u.2.2) ∨ x ∈ tNew u (tSnap t t.1 id day idx) := fun x => by
    rw [tFiles_mem]
    show (x ∈ tFiles t t.1 ∧ _) ∨ _ ↔ _
    rw [tFiles_mem]
  have hnt : ∀ p, (∃ x ∈ tNew t t.1, x.1 = p) ↔ p ∈ t.2.1.map (·.1) := fun p => by rw [tNew_path, List.mem_map]
  have hnu : ∀ p, (∃ x ∈ tNew u (tSnap t t.1 id day idx), x.1 = p) ↔ p ∈ u.2.1.map (·.1) := fun p => by rw [tNew_path, List.mem_map]
  refine ⟨fun f hf hno => ⟨fun hg => ?_, fun hg => ?_⟩, fun p hp => ?_, ?_⟩
  · rw [hasP_no]
    intro x hx e
    have hna : ¬ inT (t.2.1.map (·.1) ++ u.2.1.map (·.1)) f.1 = true := fun h => hno ⟨hg, h⟩
    rw [inT_iff, List.mem_append] at hna
    rw [inT_iff, List.mem_append] at hg
    rcases (hin x).1 hx with ⟨⟨_, h3⟩ | h3, h4⟩ | h3
    · rcases hg with hg | hg
      · exact h3 (by rw [e]; exact hg)
      · exact h4 (by rw [e]; exact hg)
    · exact hna (Or.inl ((hnt f.1).1 ⟨x, h3, e⟩))
    · exact hna (Or.inr ((hnu f.1).1 ⟨x, h3, e⟩))
  · rw [inT_no, List.mem_append] at hg
    exact (hin f).2 (Or.inl ⟨Or.inl ⟨hf, fun h => hg (Or.inl h)⟩, fun h => hg (Or.inr h)⟩)
  · rw [hasP_iff]
    rcases List.mem_append.1 hp with hp | hp
    · obtain ⟨x, hx, e⟩ := (hnt p).2 hp
      refine ⟨x, (hin x).2 (Or.inl ⟨Or.inr hx, fun h => ?_⟩), e⟩
      have h3 := hu.rems _ h
      rw [hb, e] at h3
      obtain ⟨g, hg, eg⟩ := List.mem_map.1 hp
      have : tThere t t.1 = true := by
        simp only [tThere, List.any_eq_true]
        exact ⟨g, hg, by rw [eg]; exact h3⟩
      rw [a3] at this
      cases this
    · obtain ⟨x, hx, e⟩ := (hnu p).2 hp
      exact ⟨x, (hin x).2 (Or.inr hx), e⟩
  · have l1 := tFiles_len ht a1 a2
    have l2 := tFiles_len hu b1 b2
    have e : (tSnap t t.1 id day idx).2.2.2.2.2.2 = tFiles t t.1 := rfl
    rw [e] at l2
    simp only [List.length_append, List.length_map]
    omega

theorem up_find {fs : List Fl} (hu : UpF fs) {f : Fl} (hf : f ∈ fs) : ∃ k, ∃ h : k < fs.length, findF fs f.1 = (k : Int) ∧ fs[k] = f := by
  obtain ⟨i, hi, rfl⟩ := List.mem_iff_getElem.1 hf
  refine ⟨i, hi, findF_at hi (fun j hj hji e => ?_) rfl, rfl⟩
  have := List.pairwise_iff_getElem.1 hu j i hj hi hji
  unfold fk at this
  rw [e] at this
  omega
end Go.Proofs.YtijbmahnjonmmaaGreatDoor
namespace Go.Proofs.YtijbmahnjonmmaaGreatDoor
open Go.RowKit Go.Extern.Stop Go.Stop Go.Extern Go.Sort Go.Shelf Go.Lib

structure But (P : Nat → Prop) (w w' : World) : Prop where
  os : w'.os = w.os
  tape : w'.tape = w.tape
  output : w'.output = w.output
  size : w.heap.size ≤ w'.heap.size
  block : ∀ k, k < w.heap.size → ¬ P k → w'.heap[k]? = w.heap[k]?

theorem But.refl (P : Nat → Prop) (w : World) : But P w w := ⟨rfl, rfl, rfl, Nat.le_refl _, fun _ _ _ => rfl⟩
theorem But.trans {P Q : Nat → Prop} {a b c : World} (h : But P a b) (k : But Q b c) (hq : ∀ i, Q i → i < a.heap.size → P i) : But P a c :=
  ⟨k.os.trans h.os, k.tape.trans h.tape, k.output.trans h.output, Nat.le_trans h.size k.size, fun i hi hp => (k.block i (Nat.lt_of_lt_of_le hi h.size) (fun hQ => hp (hq i hQ hi))).trans (h.block i hi hp)⟩
theorem But.of_below {P : Nat → Prop} {w w' : World} (h : Below w.heap.size w w') : But P w w' := ⟨h.os, h.tape, h.output, h.size, fun k hk _ => h.block k hk⟩
theorem But.below {P : Nat → Prop} {w w' : World} (h : But P w w') {B : Nat} (hB : B ≤ w.heap.size) (hp : ∀ k, P k → B ≤ k) : Below B w w' :=
  ⟨h.os, h.tape, h.output, h.size, fun k hk => h.block k (Nat.lt_of_lt_of_le hk hB) (fun hP => Nat.lt_irrefl _ (Nat.lt_of_lt_of_le hk (hp k hP)))⟩
theorem But.mono {P Q : Nat → Prop} {w w' : World} (h : But P w w') (hq : ∀ k, P k → Q k) : But Q w w' := ⟨h.os, h.tape, h.output, h.size, fun k hk hQ => h.block k hk (fun hP => hQ (hq k hP))⟩
theorem But.setCell {P : Nat → Prop} {a w : World} (h : But P a w) {b o : Nat} (hp : P b ∨ a.heap.size ≤ b) (u : Value) : But P a (w.setCell ⟨b, o, none⟩ u) := by
  refine ⟨h.os, h.tape, h.output, ?_, fun k hk hP => ?_⟩
  · have : (w.setCell ⟨b, o, none⟩ u).heap.size = w.heap.size := by simp [World.setCell]
    rw [this]; exact h.size
  · rw [heap_setCell_other _ _ _ _ (fun e => by
      subst e
      rcases hp with hp | hp
      · exact hP hp
      · omega)]
    exact h.block k hk hP
theorem But.keep {P : Nat → Prop} {w w' : World} (h : But P w w') {b o : Nat} {v : Value} (hb : ¬ P b) (hc : w.cell? ⟨b, o, none⟩ = some v) : w'.cell? ⟨b, o, none⟩ = some v := by
  have e := h.block b (cell_lt hc) hb
  rw [← hc]
  unfold World.cell?
  rw [e]

end Go.Proofs.YtijbmahnjonmmaaGreatDoor
