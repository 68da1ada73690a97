/-
  The contract of the document's own GroupOf.
-/
import Derived.Test.YtgffkkijfmoooaaGreatDoorRefSpec
namespace Go.Proofs.YtgffkkijfmoooaaGreatDoor
open Go.RowKit Go.Extern.Stop Go.Stop Go.Extern Go.Sort Go.Shelf Go.Lib

set_option maxRecDepth 100000 in
set_option maxHeartbeats 2000000 in
theorem group_part (s : ByteArray) (x : Rw) (w : World) (hs : s.size ≤ 1000) (hok : (specO s.data.toList).1 = 0) (hx : rowE x = 0) (h0 : (specO s.data.toList).2.1 = 0) :
    Calls Tryz.prog 35 #[.string s, .agg #[.string x.1, .int .i64 x.2.1, .int .i64 x.2.2]] w fun e w' => e = .returned (.string (grpB (specO s.data.toList).2.1 (specO s.data.toList).2.2 x)) ∧ Below w.heap.size w w' := by
  have hk := key_in hx
  have hn := spec_n' s.data.toList
  obtain ⟨xp, xk, xv⟩ := x
  dsimp only at hk ⊢
  have hal : Below w.heap.size w (w.alloc (.cells #[.string xp, .int .i64 xk, .int .i64 xv] 30)) := (Below.refl _ _).alloc (Nat.le_refl _) _
  have hsp := fun W => specOf_any s W hs
  have x0 : (w.alloc (.cells #[.string xp, .int .i64 xk, .int .i64 xv] 30)).cell? ⟨w.heap.size, 0, none⟩ = some (.string xp) := by simp
  have x1 : (w.alloc (.cells #[.string xp, .int .i64 xk, .int .i64 xv] 30)).cell? ⟨w.heap.size, 1, none⟩ = some (.int .i64 xk) := by simp
  have hW := specW_part _ hok h0
  have hq : ((bytesOf kPart).toList == [112, 97, 114, 116]) = true := eqB_of (by simp [bytesOf, kPart])
  rw [hW, hok] at hsp
  unfold grpB
  rw [if_pos h0]
  dsimp only
  clear hW hn h0 hx hok
  generalize bytesOf kPart = kp at hsp hq
  generalize (specO s.data.toList).2.2 = nn at hsp
  go_enter Tryz.func35, Tryz.ntmps35
  go_wp2_with fail
  refine (hsp _).mono ?_
  rintro e w1 ⟨rfl, hb1⟩
  clear hsp
  have y0 := below_keep hb1 x0
  have hB : Below w.heap.size w w1 := hal.trans (hb1.mono hal.size)
  clear x0 x1
  go_wp2
  go_ret
  exact ⟨rfl, hB⟩

set_option maxRecDepth 100000 in
set_option maxHeartbeats 2000000 in
theorem group_bucket (s : ByteArray) (x : Rw) (w : World) (hs : s.size ≤ 1000) (hok : (specO s.data.toList).1 = 0) (hx : rowE x = 0) (h0 : (specO s.data.toList).2.1 ≠ 0) (h1 : (specO s.data.toList).2.1 = 1) :
    Calls Tryz.prog 35 #[.string s, .agg #[.string x.1, .int .i64 x.2.1, .int .i64 x.2.2]] w fun e w' => e = .returned (.string (grpB (specO s.data.toList).2.1 (specO s.data.toList).2.2 x)) ∧ Below w.heap.size w w' := by
  have hk := key_in hx
  have hn := spec_n' s.data.toList
  obtain ⟨xp, xk, xv⟩ := x
  dsimp only at hk ⊢
  have hal : Below w.heap.size w (w.alloc (.cells #[.string xp, .int .i64 xk, .int .i64 xv] 30)) := (Below.refl _ _).alloc (Nat.le_refl _) _
  have hsp := fun W => specOf_any s W hs
  have x0 : (w.alloc (.cells #[.string xp, .int .i64 xk, .int .i64 xv] 30)).cell? ⟨w.heap.size, 0, none⟩ = some (.string xp) := by simp
  have x1 : (w.alloc (.cells #[.string xp, .int .i64 xk, .int .i64 xv] 30)).cell? ⟨w.heap.size, 1, none⟩ = some (.int .i64 xk) := by simp
  have hn' := hn.resolve_left h0
  clear hn
  have hfl := floor_of xk (specO s.data.toList).2.2 hn'.1
  have hld := low_div xk (specO s.data.toList).2.2 hn'.1
  have hm0 := Int.emod_nonneg xk (show (specO s.data.toList).2.2 ≠ 0 by omega)
  have hm1 := Int.emod_lt_of_pos xk (show 0 < (specO s.data.toList).2.2 by omega)
  have hdv := ediv_in xk (specO s.data.toList).2.2 hn'.1 hk.1 hk.2
  have hW := specW_bucket _ hok h1
  have hq0 : ((bytesOf kBucket).toList == [112, 97, 114, 116]) = false := neB_of (by simp [bytesOf, kBucket])
  have hq : ((bytesOf kBucket).toList == [98, 117, 99, 107, 101, 116]) = true := eqB_of (by simp [bytesOf, kBucket])
  rw [hW, hok] at hsp
  unfold grpB
  rw [if_neg h0, if_pos h1]
  dsimp only
  clear hW h0 h1 hx hok hld hdv
  generalize bytesOf kBucket = kp at hsp hq hq0
  generalize (specO s.data.toList).2.2 = nn at hsp hn' hfl hm0 hm1 ⊢
  have hnz : ¬ nn = 0 := by omega
  have hdec := fun W => decimal_any (xk % nn) W (by omega) (by omega)
  have hlen := itoa_len (xk % nn) (by omega) (by omega)
  have hsz : (bytesOf (itoa (xk % nn))).size ≤ 20 := by rw [← size_list]; simpa [bytesOf] using (by omega : (itoa (xk % nn)).length ≤ 20)
  unfold markB
  generalize bytesOf (itoa (xk % nn)) = t at hdec hsz ⊢
  have n1 : ¬ 9223372036854775807 < 1 + t.size := by omega
  rcases hfl with ⟨hneg, hdrop, hmod⟩ | ⟨hneg, hdrop, hmod⟩
  · rw [hmod] at hdec hm0 hm1
    clear hmod hlen hdrop
    go_enter Tryz.func35, Tryz.ntmps35
    go_wp2_with fail
    refine (hsp _).mono ?_
    rintro e w1 ⟨rfl, hb1⟩
    clear hsp
    have y1 := below_keep hb1 x1
    have hB : Below w.heap.size w w1 := hal.trans (hb1.mono hal.size)
    clear x0 x1
    go_wp2_with fail
    refine (hdec _).mono ?_
    rintro e w2 ⟨rfl, hg2⟩
    have hb2 := hg2.below
    clear hdec hg2
    go_wp2
    go_ret
    exact ⟨rfl, hB.trans (hb2.mono hB.size)⟩
  · rw [hmod] at hdec hm0 hm1
    clear hmod hlen hdrop
    go_enter Tryz.func35, Tryz.ntmps35
    go_wp2_with fail
    refine (hsp _).mono ?_
    rintro e w1 ⟨rfl, hb1⟩
    clear hsp
    have y1 := below_keep hb1 x1
    have hB : Below w.heap.size w w1 := hal.trans (hb1.mono hal.size)
    clear x0 x1
    go_wp2_with fail
    refine (hdec _).mono ?_
    rintro e w2 ⟨rfl, hg2⟩
    have hb2 := hg2.below
    clear hdec hg2
    go_wp2
    go_ret
    exact ⟨rfl, hB.trans (hb2.mono hB.size)⟩

set_option maxRecDepth 100000 in
set_option maxHeartbeats 2000000 in
theorem group_truncN (s : ByteArray) (x : Rw) (w : World) (hs : s.size ≤ 1000) (hok : (specO s.data.toList).1 = 0) (hx : rowE x = 0) (h0 : (specO s.data.toList).2.1 ≠ 0) (h1 : (specO s.data.toList).2.1 ≠ 1) (hqn : x.2.1 / (specO s.data.toList).2.2 < 0) :
    Calls Tryz.prog 35 #[.string s, .agg #[.string x.1, .int .i64 x.2.1, .int .i64 x.2.2]] w fun e w' => e = .returned (.string (grpB (specO s.data.toList).2.1 (specO s.data.toList).2.2 x)) ∧ Below w.heap.size w w' := by
  have hk := key_in hx
  have hn := spec_n' s.data.toList
  obtain ⟨xp, xk, xv⟩ := x
  dsimp only at hk hqn ⊢
  have hal : Below w.heap.size w (w.alloc (.cells #[.string xp, .int .i64 xk, .int .i64 xv] 30)) := (Below.refl _ _).alloc (Nat.le_refl _) _
  have hsp := fun W => specOf_any s W hs
  have x0 : (w.alloc (.cells #[.string xp, .int .i64 xk, .int .i64 xv] 30)).cell? ⟨w.heap.size, 0, none⟩ = some (.string xp) := by simp
  have x1 : (w.alloc (.cells #[.string xp, .int .i64 xk, .int .i64 xv] 30)).cell? ⟨w.heap.size, 1, none⟩ = some (.int .i64 xk) := by simp
  have hn' := hn.resolve_left h0
  clear hn
  have hfl := floor_of xk (specO s.data.toList).2.2 hn'.1
  have hld := low_div xk (specO s.data.toList).2.2 hn'.1
  have hm0 := Int.emod_nonneg xk (show (specO s.data.toList).2.2 ≠ 0 by omega)
  have hm1 := Int.emod_lt_of_pos xk (show 0 < (specO s.data.toList).2.2 by omega)
  have hdv := ediv_in xk (specO s.data.toList).2.2 hn'.1 hk.1 hk.2
  have hW := specW_trunc _ hok h0 h1
  have hq0 : ((bytesOf kTrunc).toList == [112, 97, 114, 116]) = false := neB_of (by simp [bytesOf, kTrunc])
  have hq : ((bytesOf kTrunc).toList == [98, 117, 99, 107, 101, 116]) = false := neB_of (by simp [bytesOf, kTrunc])
  rw [hW, hok] at hsp
  unfold grpB
  rw [if_neg h0, if_neg h1]
  dsimp only
  clear hW h0 h1 hx hok
  generalize bytesOf kTrunc = kp at hsp hq hq0
  generalize (specO s.data.toList).2.2 = nn at hsp hn' hfl hm0 hm1 hld hdv hqn ⊢
  have hnz : ¬ nn = 0 := by omega
  generalize xk / nn = qq at hld hdv hfl hqn ⊢
  generalize hmm : xk % nn = mm at hld hm0 hm1 hfl
  clear hmm
  unfold truncB
  rw [if_pos hqn]
  have hdec := fun W => decimal_any (-qq) W (by omega) (by omega)
  have hlen := itoa_len (-qq) (by omega) (by omega)
  have hsz : (bytesOf (itoa (-qq))).size ≤ 20 := by rw [← size_list]; simpa [bytesOf] using (by omega : (itoa (-qq)).length ≤ 20)
  unfold markB
  generalize bytesOf (itoa (-qq)) = t at hdec hsz ⊢
  have n1 : ¬ 9223372036854775807 < 1 + t.size := by omega
  rcases hfl with ⟨hneg, hdrop, hmod⟩ | ⟨hneg, hdrop, hmod⟩
  · rw [hmod] at hld hm0 hm1
    clear hmod hlen hdrop
    go_enter Tryz.func35, Tryz.ntmps35
    go_wp2_with fail
    refine (hsp _).mono ?_
    rintro e w1 ⟨rfl, hb1⟩
    clear hsp
    have y1 := below_keep hb1 x1
    have hB : Below w.heap.size w w1 := hal.trans (hb1.mono hal.size)
    clear x0 x1
    go_wp2_with fail
    refine (hdec _).mono ?_
    rintro e w2 ⟨rfl, hg2⟩
    have hb2 := hg2.below
    clear hdec hg2
    go_wp2
    go_ret
    exact ⟨rfl, hB.trans (hb2.mono hB.size)⟩
  · rw [hmod] at hld hm0 hm1
    clear hmod hlen hdrop
    go_enter Tryz.func35, Tryz.ntmps35
    go_wp2_with fail
    refine (hsp _).mono ?_
    rintro e w1 ⟨rfl, hb1⟩
    clear hsp
    have y1 := below_keep hb1 x1
    have hB : Below w.heap.size w w1 := hal.trans (hb1.mono hal.size)
    clear x0 x1
    go_wp2_with fail
    refine (hdec _).mono ?_
    rintro e w2 ⟨rfl, hg2⟩
    have hb2 := hg2.below
    clear hdec hg2
    go_wp2
    go_ret
    exact ⟨rfl, hB.trans (hb2.mono hB.size)⟩

set_option maxRecDepth 100000 in
set_option maxHeartbeats 2000000 in
theorem group_truncP (s : ByteArray) (x : Rw) (w : World) (hs : s.size ≤ 1000) (hok : (specO s.data.toList).1 = 0) (hx : rowE x = 0) (h0 : (specO s.data.toList).2.1 ≠ 0) (h1 : (specO s.data.toList).2.1 ≠ 1) (hqn : ¬ x.2.1 / (specO s.data.toList).2.2 < 0) :
    Calls Tryz.prog 35 #[.string s, .agg #[.string x.1, .int .i64 x.2.1, .int .i64 x.2.2]] w fun e w' => e = .returned (.string (grpB (specO s.data.toList).2.1 (specO s.data.toList).2.2 x)) ∧ Below w.heap.size w w' := by
  have hk := key_in hx
  have hn := spec_n' s.data.toList
  obtain ⟨xp, xk, xv⟩ := x
  dsimp only at hk hqn ⊢
  have hal : Below w.heap.size w (w.alloc (.cells #[.string xp, .int .i64 xk, .int .i64 xv] 30)) := (Below.refl _ _).alloc (Nat.le_refl _) _
  have hsp := fun W => specOf_any s W hs
  have x0 : (w.alloc (.cells #[.string xp, .int .i64 xk, .int .i64 xv] 30)).cell? ⟨w.heap.size, 0, none⟩ = some (.string xp) := by simp
  have x1 : (w.alloc (.cells #[.string xp, .int .i64 xk, .int .i64 xv] 30)).cell? ⟨w.heap.size, 1, none⟩ = some (.int .i64 xk) := by simp
  have hn' := hn.resolve_left h0
  clear hn
  have hfl := floor_of xk (specO s.data.toList).2.2 hn'.1
  have hld := low_div xk (specO s.data.toList).2.2 hn'.1
  have hm0 := Int.emod_nonneg xk (show (specO s.data.toList).2.2 ≠ 0 by omega)
  have hm1 := Int.emod_lt_of_pos xk (show 0 < (specO s.data.toList).2.2 by omega)
  have hdv := ediv_in xk (specO s.data.toList).2.2 hn'.1 hk.1 hk.2
  have hW := specW_trunc _ hok h0 h1
  have hq0 : ((bytesOf kTrunc).toList == [112, 97, 114, 116]) = false := neB_of (by simp [bytesOf, kTrunc])
  have hq : ((bytesOf kTrunc).toList == [98, 117, 99, 107, 101, 116]) = false := neB_of (by simp [bytesOf, kTrunc])
  rw [hW, hok] at hsp
  unfold grpB
  rw [if_neg h0, if_neg h1]
  dsimp only
  clear hW h0 h1 hx hok
  generalize bytesOf kTrunc = kp at hsp hq hq0
  generalize (specO s.data.toList).2.2 = nn at hsp hn' hfl hm0 hm1 hld hdv hqn ⊢
  have hnz : ¬ nn = 0 := by omega
  generalize xk / nn = qq at hld hdv hfl hqn ⊢
  generalize hmm : xk % nn = mm at hld hm0 hm1 hfl
  clear hmm
  unfold truncB
  rw [if_neg hqn]
  have hdec := fun W => decimal_any qq W (by omega) (by omega)
  have hlen := itoa_len qq (by omega) (by omega)
  have hsz : (bytesOf (itoa qq)).size ≤ 20 := by rw [← size_list]; simpa [bytesOf] using (by omega : (itoa qq).length ≤ 20)
  unfold markB
  generalize bytesOf (itoa qq) = t at hdec hsz ⊢
  have n1 : ¬ 9223372036854775807 < 1 + t.size := by omega
  rcases hfl with ⟨hneg, hdrop, hmod⟩ | ⟨hneg, hdrop, hmod⟩
  · rw [hmod] at hld hm0 hm1
    clear hmod hlen hdrop
    go_enter Tryz.func35, Tryz.ntmps35
    go_wp2_with fail
    refine (hsp _).mono ?_
    rintro e w1 ⟨rfl, hb1⟩
    clear hsp
    have y1 := below_keep hb1 x1
    have hB : Below w.heap.size w w1 := hal.trans (hb1.mono hal.size)
    clear x0 x1
    go_wp2_with fail
    refine (hdec _).mono ?_
    rintro e w2 ⟨rfl, hg2⟩
    have hb2 := hg2.below
    clear hdec hg2
    go_wp2
    go_ret
    exact ⟨rfl, hB.trans (hb2.mono hB.size)⟩
  · rw [hmod] at hld hm0 hm1
    clear hmod hlen hdrop
    go_enter Tryz.func35, Tryz.ntmps35
    go_wp2_with fail
    refine (hsp _).mono ?_
    rintro e w1 ⟨rfl, hb1⟩
    clear hsp
    have y1 := below_keep hb1 x1
    have hB : Below w.heap.size w w1 := hal.trans (hb1.mono hal.size)
    clear x0 x1
    go_wp2_with fail
    refine (hdec _).mono ?_
    rintro e w2 ⟨rfl, hg2⟩
    have hb2 := hg2.below
    clear hdec hg2
    go_wp2
    go_ret
    exact ⟨rfl, hB.trans (hb2.mono hB.size)⟩

theorem groupOf_any (s : ByteArray) (x : Rw) (w : World) (hs : s.size ≤ 1000) (hok : (specO s.data.toList).1 = 0) (hx : rowE x = 0) :
    Calls Tryz.prog 35 #[.string s, .agg #[.string x.1, .int .i64 x.2.1, .int .i64 x.2.2]] w fun e w' => e = .returned (.string (grpB (specO s.data.toList).2.1 (specO s.data.toList).2.2 x)) ∧ Below w.heap.size w w' := by
  by_cases h0 : (specO s.data.toList).2.1 = 0
  · exact group_part s x w hs hok hx h0
  · by_cases h1 : (specO s.data.toList).2.1 = 1
    · exact group_bucket s x w hs hok hx h0 h1
    · by_cases hq : x.2.1 / (specO s.data.toList).2.2 < 0
      · exact group_truncN s x w hs hok hx h0 h1 hq
      · exact group_truncP s x w hs hok hx h0 h1 hq
end Go.Proofs.YtgffkkijfmoooaaGreatDoor
