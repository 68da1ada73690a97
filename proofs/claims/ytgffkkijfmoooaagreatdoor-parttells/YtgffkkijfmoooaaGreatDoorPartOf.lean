/-
  The contracts of part.Of and part.Check, and of the statements' own parted.
-/
import Derived.Test.YtgffkkijfmoooaaGreatDoorPartRead
namespace Go.Proofs.YtgffkkijfmoooaaGreatDoor
open Go.RowKit Go.Extern.Stop Go.Stop Go.Extern Go.Sort Go.Shelf Go.Lib

/-- Of's error. -/
def ofE (s : List UInt8) (x : Rw) : Nat := if (specO s).1 = 0 then rowE x else (specO s).1
/-- .. its name. -/
def ofB (s : List UInt8) (x : Rw) : ByteArray := if ofE s x = 0 then grpB (specO s).2.1 (specO s).2.2 x else ⟨#[]⟩

theorem check_spec (s : ByteArray) (w : World) (a : Nat → Addr) (h : Env w a) (hs : s.size ≤ 1000) :
    Calls Tryz.prog 34 #[.string s] w fun e w' => e = .returned (errV a (specO s.data.toList).1) ∧ Below w.heap.size w w' := by
  have hr := readSpec_any s w a h hs
  generalize errV a (specO s.data.toList).1 = ev at hr ⊢
  go_enter Tryz.func34, Tryz.ntmps34
  go_wp2_with fail
  refine hr.mono ?_
  rintro e w1 ⟨fv, rfl, _, hb1⟩
  clear hr
  go_wp2
  go_ret
  exact ⟨rfl, hb1⟩

set_option maxRecDepth 100000 in
set_option maxHeartbeats 2000000 in
theorem of_any (s : ByteArray) (x : Rw) (w : World) (a : Nat → Addr) (h : Env w a) (hs : s.size ≤ 1000) (hx : x.1.size ≤ maxLen) :
    Calls Tryz.prog 32 #[.string s, .agg #[.string x.1, .int .i64 x.2.1, .int .i64 x.2.2]] w fun e w' => e = .returned (.tuple #[.string (ofB s.data.toList x), errV a (ofE s.data.toList x)]) ∧ Below w.heap.size w w' := by
  have hal : Below w.heap.size w (w.alloc (.cells #[.string x.1, .int .i64 x.2.1, .int .i64 x.2.2] 30)) := (Below.refl _ _).alloc (Nat.le_refl _) _
  have hr := readSpec_any s (w.alloc (.cells #[.string x.1, .int .i64 x.2.1, .int .i64 x.2.2] 30)) a (h.below hal) hs
  have hck := fun W (hW : Env W a) => check_any x W a hW hx
  unfold ofB ofE
  generalize specO s.data.toList = R at hr ⊢
  obtain ⟨e0, k, n⟩ := R
  dsimp only at hr ⊢
  by_cases he : e0 = 0
  · subst he
    simp only [if_true]
    by_cases hx0 : rowE x = 0
    · rw [hx0] at hck ⊢
      simp only [errV, if_true] at hck hr ⊢
      obtain ⟨xp, xk, xv⟩ := x
      dsimp only at hr hck hal ⊢
      clear hs hx
      obtain ⟨gb, hgb⟩ : ∃ gb, grpB k n (xp, xk, xv) = gb := ⟨_, rfl⟩
      have HG : Hid (grpB k n (xp, xk, xv) = gb) := hgb
      rw [hgb]
      clear hgb
      have c0 : (w.alloc (.cells #[.string xp, .int .i64 xk, .int .i64 xv] 30)).cell? ⟨w.heap.size, 0, none⟩ = some (.string xp) := by simp
      have c1 : (w.alloc (.cells #[.string xp, .int .i64 xk, .int .i64 xv] 30)).cell? ⟨w.heap.size, 1, none⟩ = some (.int .i64 xk) := by simp
      have c2 : (w.alloc (.cells #[.string xp, .int .i64 xk, .int .i64 xv] 30)).cell? ⟨w.heap.size, 2, none⟩ = some (.int .i64 xv) := by simp
      go_enter Tryz.func32, Tryz.ntmps32
      go_wp2_with fail
      refine hr.mono ?_
      rintro e w1 ⟨fv, rfl, hnm, hb1⟩
      clear hr
      obtain ⟨g, cb, rfl, eg, hg⟩ := hnm trivial
      clear hnm
      have hB1 : Below w.heap.size w w1 := hal.trans (hb1.mono hal.size)
      have hc1 := hck w1 (h.below hB1)
      have d0 := below_keep hb1 c0
      have d1 := below_keep hb1 c1
      have d2 := below_keep hb1 c2
      clear hck c0 c1 c2
      go_wp2_with fail
      refine hc1.mono ?_
      rintro e w2 ⟨rfl, hb2⟩
      clear hc1
      have hB2 : Below w.heap.size w w2 := hB1.trans (hb2.mono hB1.size)
      have hg2 := hg (xp, xk, xv) w2 hb2 (h.below hB2) hx0
      have f0 := below_keep hb2 d0
      have f1 := below_keep hb2 d1
      have f2 := below_keep hb2 d2
      clear hg d0 d1 d2
      dsimp only at hg2
      rw [HG.out] at hg2
      go_wp2_with (go_at_fn g; refine hg2.mono ?_; rintro e w3 ⟨rfl, hb3⟩)
      go_ret2
      exact ⟨rfl, hB2.trans (hb3.mono hB2.size)⟩
    · have hx1 : ¬ rowE x = 0 := hx0
      obtain ⟨j, hj⟩ : ∃ j, rowE x = j + 1 := ⟨rowE x - 1, by omega⟩
      rw [if_neg hx1]
      rw [hj] at hck ⊢
      simp only [errV] at hck hr ⊢
      obtain ⟨xp, xk, xv⟩ := x
      dsimp only at hr hck hal ⊢
      clear hs hx hx0 hx1 hj
      have c0 : (w.alloc (.cells #[.string xp, .int .i64 xk, .int .i64 xv] 30)).cell? ⟨w.heap.size, 0, none⟩ = some (.string xp) := by simp
      have c1 : (w.alloc (.cells #[.string xp, .int .i64 xk, .int .i64 xv] 30)).cell? ⟨w.heap.size, 1, none⟩ = some (.int .i64 xk) := by simp
      have c2 : (w.alloc (.cells #[.string xp, .int .i64 xk, .int .i64 xv] 30)).cell? ⟨w.heap.size, 2, none⟩ = some (.int .i64 xv) := by simp
      go_enter Tryz.func32, Tryz.ntmps32
      go_wp2_with fail
      refine hr.mono ?_
      rintro e w1 ⟨fv, rfl, hnm, hb1⟩
      clear hr hnm
      have hB1 : Below w.heap.size w w1 := hal.trans (hb1.mono hal.size)
      have hc1 := hck w1 (h.below hB1)
      have d0 := below_keep hb1 c0
      have d1 := below_keep hb1 c1
      have d2 := below_keep hb1 c2
      clear hck c0 c1 c2
      go_wp2_with fail
      refine hc1.mono ?_
      rintro e w2 ⟨rfl, hb2⟩
      clear hc1
      have hB2 : Below w.heap.size w w2 := hB1.trans (hb2.mono hB1.size)
      go_wp2
      go_ret2
      exact ⟨rfl, hB2⟩
  · obtain ⟨j, rfl⟩ : ∃ j, e0 = j + 1 := ⟨e0 - 1, by omega⟩
    rw [if_neg he, if_neg he]
    simp only [errV] at hr ⊢
    clear hck hs hx he
    obtain ⟨xp, xk, xv⟩ := x
    dsimp only at hr hal ⊢
    go_enter Tryz.func32, Tryz.ntmps32
    go_wp2_with fail
    refine hr.mono ?_
    rintro e w1 ⟨fv, rfl, hnm, hb1⟩
    clear hr hnm
    have hB1 : Below w.heap.size w w1 := hal.trans (hb1.mono hal.size)
    go_wp2
    go_ret2
    exact ⟨rfl, hB1⟩


theorem itoa_one : itoa 1 = [49] := by
  have h : decDigits 1 = [49] := by rw [decDigits, dif_pos (by decide)]; rfl
  simp [itoa, h]
theorem itoa_three : itoa 3 = [51] := by
  have h : decDigits 3 = [51] := by rw [decDigits, dif_pos (by decide)]; rfl
  simp [itoa, h]
theorem itoa_four : itoa 4 = [52] := by
  have h : decDigits 4 = [52] := by rw [decDigits, dif_pos (by decide)]; rfl
  simp [itoa, h]
theorem itoa_ten : itoa 10 = [49, 48] := by
  have h1 : decDigits 1 = [49] := by rw [decDigits, dif_pos (by decide)]; rfl
  have h : decDigits 10 = [49, 48] := by rw [decDigits, dif_neg (by decide), show 10 / 10 = 1 from rfl, h1]; rfl
  simp [itoa, h]
theorem num_ten : numO [49, 48] = some 10 := by
  have ha : atoi [49, 48] = some 10 := by decide
  unfold numO
  rw [if_pos (by decide), ha]
  simp [itoa_ten]
theorem num_four : numO [52] = some 4 := by
  have ha : atoi [52] = some 4 := by decide
  unfold numO
  rw [if_pos (by decide), ha]
  simp [itoa_four]
theorem spec_ten : specO [116, 114, 117, 110, 99, 32, 49, 48] = (0, 2, 10) := by
  have e1 : cutK [116, 114, 117, 110, 99, 32, 49, 48] = kTrunc := by decide
  have e2 : cutW [116, 114, 117, 110, 99, 32, 49, 48] = [49, 48] := by decide
  have e3 : nO [49, 48] = (0, 10) := by unfold nO; rw [num_ten]; rfl
  unfold specO
  rw [if_neg (by decide), e1, if_neg (by decide), if_pos rfl, e2, e3]
  rfl
theorem spec_four : specO [98, 117, 99, 107, 101, 116, 32, 52] = (0, 1, 4) := by
  have e1 : cutK [98, 117, 99, 107, 101, 116, 32, 52] = kBucket := by decide
  have e2 : cutW [98, 117, 99, 107, 101, 116, 32, 52] = [52] := by decide
  have e3 : nO [52] = (0, 4) := by unfold nO; rw [num_four]; rfl
  unfold specO
  rw [if_neg (by decide), e1, if_pos rfl, e2, e3]
  rfl
def aRow : Rw := (⟨#[97]⟩, -5, 0)
theorem aRow_ok : rowE aRow = 0 := by decide
theorem of_ten : ofE [116, 114, 117, 110, 99, 32, 49, 48] aRow = 0 ∧ ofB [116, 114, 117, 110, 99, 32, 49, 48] aRow = ⟨#[110, 49]⟩ := by
  have h : ofE [116, 114, 117, 110, 99, 32, 49, 48] aRow = 0 := by unfold ofE; rw [spec_ten]; exact aRow_ok
  refine ⟨h, ?_⟩
  unfold ofB
  rw [if_pos h, spec_ten]
  have e : (aRow.2.1 / 10 : Int) = -1 := by decide
  simp only [grpB]
  rw [if_neg (by decide), if_neg (by decide), e]
  unfold truncB markB
  rw [if_pos (by decide), show (-(-1) : Int) = 1 from rfl, itoa_one]
  rfl
theorem of_four : ofE [98, 117, 99, 107, 101, 116, 32, 52] aRow = 0 ∧ ofB [98, 117, 99, 107, 101, 116, 32, 52] aRow = ⟨#[98, 51]⟩ := by
  have h : ofE [98, 117, 99, 107, 101, 116, 32, 52] aRow = 0 := by unfold ofE; rw [spec_four]; exact aRow_ok
  refine ⟨h, ?_⟩
  unfold ofB
  rw [if_pos h, spec_four]
  have e : (aRow.2.1 % 4 : Int) = 3 := by decide
  simp only [grpB]
  rw [if_neg (by decide), if_pos trivial, e]
  unfold markB
  rw [itoa_three]
  rfl

set_option maxHeartbeats 1000000 in
theorem parted_any (w : World) (a : Nat → Addr) (h : Env w a) :
    Calls Tryz.prog 30 #[] w fun e w' => e = .returned (.bool true) ∧ Below w.heap.size w w' := by
  have h1 := of_any ⟨#[116, 114, 117, 110, 99, 32, 49, 48]⟩ aRow w a h (by decide) (by decide)
  have h2 := fun W (hW : Env W a) => of_any ⟨#[98, 117, 99, 107, 101, 116, 32, 52]⟩ aRow W a hW (by decide) (by decide)
  have e1 : (ByteArray.mk #[116, 114, 117, 110, 99, 32, 49, 48]).data.toList = [116, 114, 117, 110, 99, 32, 49, 48] := rfl
  have e2 : (ByteArray.mk #[98, 117, 99, 107, 101, 116, 32, 52]).data.toList = [98, 117, 99, 107, 101, 116, 32, 52] := rfl
  rw [e1, of_ten.1, of_ten.2] at h1
  rw [e2, of_four.1, of_four.2] at h2
  simp only [errV, aRow] at h1 h2
  clear e1 e2
  go_enter Tryz.func30, Tryz.ntmps30
  go_wp2_with fail
  refine h1.mono ?_
  rintro e w1 ⟨rfl, hb1⟩
  have h3 := h2 w1 (h.below hb1)
  clear h1 h2
  go_wp2_with fail
  refine h3.mono ?_
  rintro e w2 ⟨rfl, hb2⟩
  clear h3
  go_wp2
  go_ret
  exact ⟨rfl, hb1.trans (hb2.mono hb1.size)⟩
end Go.Proofs.YtgffkkijfmoooaaGreatDoor
