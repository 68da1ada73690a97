/-
  Do of the statements' own: an act on both stores.
-/
import Derived.Test.YtbdhdlloihkibaaGreatDoorStoreActs3
namespace Go.Proofs.YtbdhdlloihkibaaGreatDoor
open Go.RowKit Go.Extern.Stop Go.Stop Go.Extern Go.Sort Go.Shelf Go.Lib

theorem trip_new {a : Nat → Addr} {B : Nat} {EM : World → Prop} {SAt : World → Value → (Nat → Prop) → St → Prop} (K : StoreK a B EM SAt) {w0 W : World} {v : Value} {FP : Nat → Prop} {s r : St} {b : Nat} (h : Both EM SAt B w0 W v FP s b r) (x : Ac) :
    Trip EM SAt B w0 (W.alloc (.cells #[.string x.1, .string x.2.1, .string x.2.2.1, .int .i64 x.2.2.2] 43)) v s b r W.heap.size x := by
  have hb : Below W.heap.size W (W.alloc (.cells #[.string x.1, .string x.2.1, .string x.2.2.1, .int .i64 x.2.2.2] 43)) := (Below.refl _ _).alloc (Nat.le_refl _) _
  refine ⟨FP, h.quiet K hb, fun hF => Nat.lt_irrefl _ (K.lt _ _ _ _ _ h.ok.at_ hF), fun e => by have := h.mat.lt; omega, ?_⟩
  unfold ActC
  rw [cell_of_row _ _ _ _ _ _ (heap_alloc_new _ _), cell_of_row _ _ _ _ _ _ (heap_alloc_new _ _), cell_of_row _ _ _ _ _ _ (heap_alloc_new _ _), cell_of_row _ _ _ _ _ _ (heap_alloc_new _ _)]
  exact ⟨rfl, rfl, rfl, rfl⟩
theorem trip_drew {a : Nat → Addr} {B : Nat} {EM : World → Prop} {SAt : World → Value → (Nat → Prop) → St → Prop} (K : StoreK a B EM SAt) {w0 W : World} {v : Value} {s r : St} {b A : Nat} {x : Ac} (h : Trip EM SAt B w0 W v s b r A x) : Trip EM SAt B w0 W.drew v s b r A x := h.quiet K (Below.drew (Below.refl _ _))

theorem dropC_le (s : St) (n : ByteArray) : dropC s n ≤ 12 := by
  unfold dropC
  repeat' split
  all_goals omega
theorem swapC_le (s : St) (n t : ByteArray) : swapC s n t ≤ 12 := by
  unfold swapC swapE
  repeat' split
  all_goals omega
theorem cutC_le (s : St) (z : Int) : cutC s z ≤ 12 := by
  unfold cutC
  repeat' split
  all_goals omega
theorem nextC_le (s : St) (z : Int) : nextC s z ≤ 12 := by
  unfold nextC
  repeat' split
  all_goals omega
theorem getT_le (l : List Ob) (n : ByteArray) : (getT l n).2 ≤ 12 := by
  unfold getT
  split <;> simp
theorem putC_le (s : St) (n t : ByteArray) : putC s n t ≤ 12 := by
  unfold putC putE
  repeat' split
  all_goals omega

set_option maxRecDepth 100000 in
set_option maxHeartbeats 4000000 in
theorem do_put {a : Nat → Addr} {B : Nat} {EM : World → Prop} {SAt : World → Value → (Nat → Prop) → St → Prop} (K : StoreK a B EM SAt) (w0 W : World) (v : Value) (FP : Nat → Prop) (s : St) (b : Nat) (n t : ByteArray) (z : Int) (h : Both EM SAt B w0 W v FP s b s) (KS : Keeps s) (hcx : s.cut ≤ 9223372036854775807) (hn : n.size ≤ 1000) (ht : t.size ≤ 100000) (hz : -9223372036854775808 ≤ z ∧ z ≤ 9223372036854775807) :
    Calls Tryz.prog 17 #[v, .pointer (some ⟨b, 0, none⟩), acV (⟨#[112, 117, 116]⟩, n, t, z)] W fun e w' => e = .returned (.int .i64 1) ∧ ∃ FP', Both EM SAt B w0 w' v FP' (putS s n t) b (putS s n t) := by
  have HU := And.intro hcx (And.intro hn (And.intro ht hz))
  clear HU
  have HK : Hid (StoreK a B EM SAt) := K
  have HKS : Hid (Keeps s) := KS
  obtain ⟨p, rfl⟩ := K.ptr _ _ _ _ h.ok.at_
  have T0' := trip_new K h (⟨#[112, 117, 116]⟩, n, t, z)
  obtain ⟨d0, d1, d2, d3⟩ := T0'.cells
  unfold acV
  dsimp only at d0 d1 d2 d3 ⊢
  have HC1 : Hid (∀ W', Trip EM SAt B w0 W' (.pointer (some p)) (s) b (s) W.heap.size (⟨#[112, 117, 116]⟩, n, t, z) → Calls Tryz.prog 35 #[.pointer (some p), .string n, .string t] W' fun e w' => e = .returned (errV a (putC s n t)) ∧ Trip EM SAt B w0 w' (.pointer (some p)) (putS s n t) b (s) W.heap.size (⟨#[112, 117, 116]⟩, n, t, z)) := fun W' hT => hT.call K (fun FP hS => K.put W' _ FP s n t hT.env hS KS hn ht)
  have HC2 : Hid (∀ W', Trip EM SAt B w0 W' (.pointer (some p)) (putS s n t) b (s) W.heap.size (⟨#[112, 117, 116]⟩, n, t, z) → Calls Tryz.prog 36 #[.pointer (some ⟨b, 0, none⟩), .string n, .string t] W' fun e w' => e = .returned (.int .i64 ((putC s n t : Nat) : Int)) ∧ Trip EM SAt B w0 w' (.pointer (some p)) (putS s n t) b (putS s n t) W.heap.size (⟨#[112, 117, 116]⟩, n, t, z)) := fun W' hT => (mput_any b s n t W' hT.mat KS hcx (by unfold maxLen; omega) (by unfold maxLen; omega)).mono fun e w' ⟨he, hp⟩ => ⟨he, hT.doc K hp⟩
  have HC3 : Hid (∀ W', Trip EM SAt B w0 W' (.pointer (some p)) (putS s n t) b (putS s n t) W.heap.size (⟨#[112, 117, 116]⟩, n, t, z) → Calls Tryz.prog 34 #[errV a (putC s n t), .int .i64 ((putC s n t : Nat) : Int)] W' fun e w' => e = .returned (.bool true) ∧ Trip EM SAt B w0 w' (.pointer (some p)) (putS s n t) b (putS s n t) W.heap.size (⟨#[112, 117, 116]⟩, n, t, z)) := fun W' hT => (K.coded W' _ hT.env (putC_le s n t)).mono fun e w' ⟨he, hb⟩ => ⟨he, hT.quiet K hb⟩
  have T0 : Hid (Trip EM SAt B w0 (W.alloc (.cells #[.string ⟨#[112, 117, 116]⟩, .string n, .string t, .int .i64 z] 43)) (.pointer (some p)) (s) b (s) W.heap.size (⟨#[112, 117, 116]⟩, n, t, z)) := T0'
  generalize errV a (putC s n t) = ev at HC1 HC3
  generalize ((putC s n t : Nat) : Int) = cc at HC2 HC3
  generalize putS s n t = s' at HC1 HC2 HC3 ⊢
  clear T0' h K KS hcx hn ht hz
  go_enter Tryz.func17, Tryz.ntmps17
  go_wp2_with fail
  generalize W.alloc (.cells #[.string ⟨#[112, 117, 116]⟩, .string n, .string t, .int .i64 z] 43) = W1 at *
  go_region_held3 (fun w' => w'.cell? ⟨W.heap.size, 1, none⟩ = some (.string n) ∧ w'.cell? ⟨W.heap.size, 2, none⟩ = some (.string t))
    (first
      | (go_split_ands; exact ⟨hX.cells.2.1, hX.cells.2.2.1⟩)
      | go_keep)
    (first
      | (go_at_call 35; refine (HC1.out _ (by first | exact T0.out | exact hX | exact trip_drew HK.out hX | exact trip_drew HK.out T0.out | exact trip_drew HK.out (trip_drew HK.out hX))).mono ?_; rintro e wX ⟨rfl, hX⟩)
      | (go_at_call 36; refine (HC2.out _ (by first | exact T0.out | exact hX | exact trip_drew HK.out hX | exact trip_drew HK.out T0.out | exact trip_drew HK.out (trip_drew HK.out hX))).mono ?_; rintro e wX ⟨rfl, hX⟩)
      | (go_at_call 34; refine (HC3.out _ (by first | exact T0.out | exact hX | exact trip_drew HK.out hX | exact trip_drew HK.out T0.out | exact trip_drew HK.out (trip_drew HK.out hX))).mono ?_; rintro e wX ⟨rfl, hX⟩))
  obtain ⟨FP', hX', -⟩ := hX
  go_wp2
  go_ret
  exact ⟨rfl, FP', hX'⟩

set_option maxRecDepth 100000 in
set_option maxHeartbeats 4000000 in
theorem do_drop {a : Nat → Addr} {B : Nat} {EM : World → Prop} {SAt : World → Value → (Nat → Prop) → St → Prop} (K : StoreK a B EM SAt) (w0 W : World) (v : Value) (FP : Nat → Prop) (s : St) (b : Nat) (n t : ByteArray) (z : Int) (h : Both EM SAt B w0 W v FP s b s) (KS : Keeps s) (hcx : s.cut ≤ 9223372036854775807) (hn : n.size ≤ 1000) (ht : t.size ≤ 100000) (hz : -9223372036854775808 ≤ z ∧ z ≤ 9223372036854775807) :
    Calls Tryz.prog 17 #[v, .pointer (some ⟨b, 0, none⟩), acV (⟨#[100, 114, 111, 112]⟩, n, t, z)] W fun e w' => e = .returned (.int .i64 1) ∧ ∃ FP', Both EM SAt B w0 w' v FP' (dropS s n) b (dropS s n) := by
  have HU := And.intro hcx (And.intro hn (And.intro ht hz))
  clear HU
  have HK : Hid (StoreK a B EM SAt) := K
  have HKS : Hid (Keeps s) := KS
  obtain ⟨p, rfl⟩ := K.ptr _ _ _ _ h.ok.at_
  have T0' := trip_new K h (⟨#[100, 114, 111, 112]⟩, n, t, z)
  obtain ⟨d0, d1, d2, d3⟩ := T0'.cells
  unfold acV
  dsimp only at d0 d1 d2 d3 ⊢
  have HC1 : Hid (∀ W', Trip EM SAt B w0 W' (.pointer (some p)) (s) b (s) W.heap.size (⟨#[100, 114, 111, 112]⟩, n, t, z) → Calls Tryz.prog 39 #[.pointer (some p), .string n] W' fun e w' => e = .returned (errV a (dropC s n)) ∧ Trip EM SAt B w0 w' (.pointer (some p)) (dropS s n) b (s) W.heap.size (⟨#[100, 114, 111, 112]⟩, n, t, z)) := fun W' hT => hT.call K (fun FP hS => K.drop W' _ FP s n hT.env hS KS hn)
  have HC2 : Hid (∀ W', Trip EM SAt B w0 W' (.pointer (some p)) (dropS s n) b (s) W.heap.size (⟨#[100, 114, 111, 112]⟩, n, t, z) → Calls Tryz.prog 40 #[.pointer (some ⟨b, 0, none⟩), .string n] W' fun e w' => e = .returned (.int .i64 ((dropC s n : Nat) : Int)) ∧ Trip EM SAt B w0 w' (.pointer (some p)) (dropS s n) b (dropS s n) W.heap.size (⟨#[100, 114, 111, 112]⟩, n, t, z)) := fun W' hT => (mdrop_any b s n W' hT.mat (Nat.le_trans KS.many (by decide)) KS.rise).mono fun e w' ⟨he, hp⟩ => ⟨he, hT.doc K hp⟩
  have HC3 : Hid (∀ W', Trip EM SAt B w0 W' (.pointer (some p)) (dropS s n) b (dropS s n) W.heap.size (⟨#[100, 114, 111, 112]⟩, n, t, z) → Calls Tryz.prog 34 #[errV a (dropC s n), .int .i64 ((dropC s n : Nat) : Int)] W' fun e w' => e = .returned (.bool true) ∧ Trip EM SAt B w0 w' (.pointer (some p)) (dropS s n) b (dropS s n) W.heap.size (⟨#[100, 114, 111, 112]⟩, n, t, z)) := fun W' hT => (K.coded W' _ hT.env (dropC_le s n)).mono fun e w' ⟨he, hb⟩ => ⟨he, hT.quiet K hb⟩
  have T0 : Hid (Trip EM SAt B w0 (W.alloc (.cells #[.string ⟨#[100, 114, 111, 112]⟩, .string n, .string t, .int .i64 z] 43)) (.pointer (some p)) (s) b (s) W.heap.size (⟨#[100, 114, 111, 112]⟩, n, t, z)) := T0'
  generalize errV a (dropC s n) = ev at HC1 HC3
  generalize ((dropC s n : Nat) : Int) = cc at HC2 HC3
  generalize dropS s n = s' at HC1 HC2 HC3 ⊢
  clear T0' h K KS hcx hn ht hz
  go_enter Tryz.func17, Tryz.ntmps17
  go_wp2_with fail
  generalize W.alloc (.cells #[.string ⟨#[100, 114, 111, 112]⟩, .string n, .string t, .int .i64 z] 43) = W1 at *
  go_region_held3 (fun w' => w'.cell? ⟨W.heap.size, 1, none⟩ = some (.string n))
    (first
      | (go_split_ands; exact hX.cells.2.1)
      | go_keep)
    (first
      | (go_at_call 39; refine (HC1.out _ (by first | exact T0.out | exact hX | exact trip_drew HK.out hX | exact trip_drew HK.out T0.out | exact trip_drew HK.out (trip_drew HK.out hX))).mono ?_; rintro e wX ⟨rfl, hX⟩)
      | (go_at_call 40; refine (HC2.out _ (by first | exact T0.out | exact hX | exact trip_drew HK.out hX | exact trip_drew HK.out T0.out | exact trip_drew HK.out (trip_drew HK.out hX))).mono ?_; rintro e wX ⟨rfl, hX⟩)
      | (go_at_call 34; refine (HC3.out _ (by first | exact T0.out | exact hX | exact trip_drew HK.out hX | exact trip_drew HK.out T0.out | exact trip_drew HK.out (trip_drew HK.out hX))).mono ?_; rintro e wX ⟨rfl, hX⟩))
  obtain ⟨FP', hX', -⟩ := hX
  go_wp2
  go_ret
  exact ⟨rfl, FP', hX'⟩

set_option maxRecDepth 100000 in
set_option maxHeartbeats 4000000 in
theorem do_swap {a : Nat → Addr} {B : Nat} {EM : World → Prop} {SAt : World → Value → (Nat → Prop) → St → Prop} (K : StoreK a B EM SAt) (w0 W : World) (v : Value) (FP : Nat → Prop) (s : St) (b : Nat) (n t : ByteArray) (z : Int) (h : Both EM SAt B w0 W v FP s b s) (KS : Keeps s) (hcx : s.cut ≤ 9223372036854775807) (hn : n.size ≤ 1000) (ht : t.size ≤ 100000) (hz : -9223372036854775808 ≤ z ∧ z ≤ 9223372036854775807) :
    Calls Tryz.prog 17 #[v, .pointer (some ⟨b, 0, none⟩), acV (⟨#[115, 119, 97, 112]⟩, n, t, z)] W fun e w' => e = .returned (.int .i64 1) ∧ ∃ FP', Both EM SAt B w0 w' v FP' (swapS s n t) b (swapS s n t) := by
  have HU := And.intro hcx (And.intro hn (And.intro ht hz))
  clear HU
  have HK : Hid (StoreK a B EM SAt) := K
  have HKS : Hid (Keeps s) := KS
  obtain ⟨p, rfl⟩ := K.ptr _ _ _ _ h.ok.at_
  have T0' := trip_new K h (⟨#[115, 119, 97, 112]⟩, n, t, z)
  obtain ⟨d0, d1, d2, d3⟩ := T0'.cells
  unfold acV
  dsimp only at d0 d1 d2 d3 ⊢
  have HC1 : Hid (∀ W', Trip EM SAt B w0 W' (.pointer (some p)) (s) b (s) W.heap.size (⟨#[115, 119, 97, 112]⟩, n, t, z) → Calls Tryz.prog 41 #[.pointer (some p), .string n, .string t] W' fun e w' => e = .returned (errV a (swapC s n t)) ∧ Trip EM SAt B w0 w' (.pointer (some p)) (swapS s n t) b (s) W.heap.size (⟨#[115, 119, 97, 112]⟩, n, t, z)) := fun W' hT => hT.call K (fun FP hS => K.swap W' _ FP s n t hT.env hS KS hn ht)
  have HC2 : Hid (∀ W', Trip EM SAt B w0 W' (.pointer (some p)) (swapS s n t) b (s) W.heap.size (⟨#[115, 119, 97, 112]⟩, n, t, z) → Calls Tryz.prog 42 #[.pointer (some ⟨b, 0, none⟩), .string n, .string t] W' fun e w' => e = .returned (.int .i64 ((swapC s n t : Nat) : Int)) ∧ Trip EM SAt B w0 w' (.pointer (some p)) (swapS s n t) b (swapS s n t) W.heap.size (⟨#[115, 119, 97, 112]⟩, n, t, z)) := fun W' hT => (mswap_any b s n t W' hT.mat ⟨KS.cut0, hcx⟩ (by unfold maxLen; omega)).mono fun e w' ⟨he, hp⟩ => ⟨he, hT.doc K hp⟩
  have HC3 : Hid (∀ W', Trip EM SAt B w0 W' (.pointer (some p)) (swapS s n t) b (swapS s n t) W.heap.size (⟨#[115, 119, 97, 112]⟩, n, t, z) → Calls Tryz.prog 34 #[errV a (swapC s n t), .int .i64 ((swapC s n t : Nat) : Int)] W' fun e w' => e = .returned (.bool true) ∧ Trip EM SAt B w0 w' (.pointer (some p)) (swapS s n t) b (swapS s n t) W.heap.size (⟨#[115, 119, 97, 112]⟩, n, t, z)) := fun W' hT => (K.coded W' _ hT.env (swapC_le s n t)).mono fun e w' ⟨he, hb⟩ => ⟨he, hT.quiet K hb⟩
  have T0 : Hid (Trip EM SAt B w0 (W.alloc (.cells #[.string ⟨#[115, 119, 97, 112]⟩, .string n, .string t, .int .i64 z] 43)) (.pointer (some p)) (s) b (s) W.heap.size (⟨#[115, 119, 97, 112]⟩, n, t, z)) := T0'
  generalize errV a (swapC s n t) = ev at HC1 HC3
  generalize ((swapC s n t : Nat) : Int) = cc at HC2 HC3
  generalize swapS s n t = s' at HC1 HC2 HC3 ⊢
  clear T0' h K KS hcx hn ht hz
  go_enter Tryz.func17, Tryz.ntmps17
  go_wp2_with fail
  generalize W.alloc (.cells #[.string ⟨#[115, 119, 97, 112]⟩, .string n, .string t, .int .i64 z] 43) = W1 at *
  go_region_held3 (fun w' => w'.cell? ⟨W.heap.size, 1, none⟩ = some (.string n) ∧ w'.cell? ⟨W.heap.size, 2, none⟩ = some (.string t))
    (first
      | (go_split_ands; exact ⟨hX.cells.2.1, hX.cells.2.2.1⟩)
      | go_keep)
    (first
      | (go_at_call 41; refine (HC1.out _ (by first | exact T0.out | exact hX | exact trip_drew HK.out hX | exact trip_drew HK.out T0.out | exact trip_drew HK.out (trip_drew HK.out hX))).mono ?_; rintro e wX ⟨rfl, hX⟩)
      | (go_at_call 42; refine (HC2.out _ (by first | exact T0.out | exact hX | exact trip_drew HK.out hX | exact trip_drew HK.out T0.out | exact trip_drew HK.out (trip_drew HK.out hX))).mono ?_; rintro e wX ⟨rfl, hX⟩)
      | (go_at_call 34; refine (HC3.out _ (by first | exact T0.out | exact hX | exact trip_drew HK.out hX | exact trip_drew HK.out T0.out | exact trip_drew HK.out (trip_drew HK.out hX))).mono ?_; rintro e wX ⟨rfl, hX⟩))
  obtain ⟨FP', hX', -⟩ := hX
  go_wp2
  go_ret
  exact ⟨rfl, FP', hX'⟩

set_option maxRecDepth 100000 in
set_option maxHeartbeats 4000000 in
theorem do_cut {a : Nat → Addr} {B : Nat} {EM : World → Prop} {SAt : World → Value → (Nat → Prop) → St → Prop} (K : StoreK a B EM SAt) (w0 W : World) (v : Value) (FP : Nat → Prop) (s : St) (b : Nat) (n t : ByteArray) (z : Int) (h : Both EM SAt B w0 W v FP s b s) (KS : Keeps s) (hcx : s.cut ≤ 9223372036854775807) (hn : n.size ≤ 1000) (ht : t.size ≤ 100000) (hz : -9223372036854775808 ≤ z ∧ z ≤ 9223372036854775807) :
    Calls Tryz.prog 17 #[v, .pointer (some ⟨b, 0, none⟩), acV (⟨#[99, 117, 116]⟩, n, t, z)] W fun e w' => e = .returned (.int .i64 1) ∧ ∃ FP', Both EM SAt B w0 w' v FP' (cutS s z) b (cutS s z) := by
  have HU := And.intro hcx (And.intro hn (And.intro ht hz))
  clear HU
  have HK : Hid (StoreK a B EM SAt) := K
  have HKS : Hid (Keeps s) := KS
  obtain ⟨p, rfl⟩ := K.ptr _ _ _ _ h.ok.at_
  have T0' := trip_new K h (⟨#[99, 117, 116]⟩, n, t, z)
  obtain ⟨d0, d1, d2, d3⟩ := T0'.cells
  unfold acV
  dsimp only at d0 d1 d2 d3 ⊢
  have HC1 : Hid (∀ W', Trip EM SAt B w0 W' (.pointer (some p)) (s) b (s) W.heap.size (⟨#[99, 117, 116]⟩, n, t, z) → Calls Tryz.prog 43 #[.pointer (some p), .int .i64 z] W' fun e w' => e = .returned (errV a (cutC s z)) ∧ Trip EM SAt B w0 w' (.pointer (some p)) (cutS s z) b (s) W.heap.size (⟨#[99, 117, 116]⟩, n, t, z)) := fun W' hT => hT.call K (fun FP hS => K.cut W' _ FP s z hT.env hS KS hz)
  have HC2 : Hid (∀ W', Trip EM SAt B w0 W' (.pointer (some p)) (cutS s z) b (s) W.heap.size (⟨#[99, 117, 116]⟩, n, t, z) → Calls Tryz.prog 44 #[.pointer (some ⟨b, 0, none⟩), .int .i64 z] W' fun e w' => e = .returned (.int .i64 ((cutC s z : Nat) : Int)) ∧ Trip EM SAt B w0 w' (.pointer (some p)) (cutS s z) b (cutS s z) W.heap.size (⟨#[99, 117, 116]⟩, n, t, z)) := fun W' hT => (setCut_any b s z W' hT.mat).mono fun e w' ⟨he, hp⟩ => ⟨he, hT.doc K hp⟩
  have HC3 : Hid (∀ W', Trip EM SAt B w0 W' (.pointer (some p)) (cutS s z) b (cutS s z) W.heap.size (⟨#[99, 117, 116]⟩, n, t, z) → Calls Tryz.prog 34 #[errV a (cutC s z), .int .i64 ((cutC s z : Nat) : Int)] W' fun e w' => e = .returned (.bool true) ∧ Trip EM SAt B w0 w' (.pointer (some p)) (cutS s z) b (cutS s z) W.heap.size (⟨#[99, 117, 116]⟩, n, t, z)) := fun W' hT => (K.coded W' _ hT.env (cutC_le s z)).mono fun e w' ⟨he, hb⟩ => ⟨he, hT.quiet K hb⟩
  have T0 : Hid (Trip EM SAt B w0 (W.alloc (.cells #[.string ⟨#[99, 117, 116]⟩, .string n, .string t, .int .i64 z] 43)) (.pointer (some p)) (s) b (s) W.heap.size (⟨#[99, 117, 116]⟩, n, t, z)) := T0'
  generalize errV a (cutC s z) = ev at HC1 HC3
  generalize ((cutC s z : Nat) : Int) = cc at HC2 HC3
  generalize cutS s z = s' at HC1 HC2 HC3 ⊢
  clear T0' h K KS hcx hn ht hz
  go_enter Tryz.func17, Tryz.ntmps17
  go_wp2_with fail
  generalize W.alloc (.cells #[.string ⟨#[99, 117, 116]⟩, .string n, .string t, .int .i64 z] 43) = W1 at *
  go_region_held3 (fun w' => w'.cell? ⟨W.heap.size, 3, none⟩ = some (.int .i64 z))
    (first
      | (go_split_ands; exact hX.cells.2.2.2)
      | go_keep)
    (first
      | (go_at_call 43; refine (HC1.out _ (by first | exact T0.out | exact hX | exact trip_drew HK.out hX | exact trip_drew HK.out T0.out | exact trip_drew HK.out (trip_drew HK.out hX))).mono ?_; rintro e wX ⟨rfl, hX⟩)
      | (go_at_call 44; refine (HC2.out _ (by first | exact T0.out | exact hX | exact trip_drew HK.out hX | exact trip_drew HK.out T0.out | exact trip_drew HK.out (trip_drew HK.out hX))).mono ?_; rintro e wX ⟨rfl, hX⟩)
      | (go_at_call 34; refine (HC3.out _ (by first | exact T0.out | exact hX | exact trip_drew HK.out hX | exact trip_drew HK.out T0.out | exact trip_drew HK.out (trip_drew HK.out hX))).mono ?_; rintro e wX ⟨rfl, hX⟩))
  obtain ⟨FP', hX', -⟩ := hX
  go_wp2
  go_ret
  exact ⟨rfl, FP', hX'⟩

set_option maxRecDepth 100000 in
set_option maxHeartbeats 4000000 in
theorem do_get {a : Nat → Addr} {B : Nat} {EM : World → Prop} {SAt : World → Value → (Nat → Prop) → St → Prop} (K : StoreK a B EM SAt) (w0 W : World) (v : Value) (FP : Nat → Prop) (s : St) (b : Nat) (n t : ByteArray) (z : Int) (h : Both EM SAt B w0 W v FP s b s) (KS : Keeps s) (hcx : s.cut ≤ 9223372036854775807) (hn : n.size ≤ 1000) (ht : t.size ≤ 100000) (hz : -9223372036854775808 ≤ z ∧ z ≤ 9223372036854775807) :
    Calls Tryz.prog 17 #[v, .pointer (some ⟨b, 0, none⟩), acV (⟨#[103, 101, 116]⟩, n, t, z)] W fun e w' => e = .returned (.int .i64 1) ∧ ∃ FP', Both EM SAt B w0 w' v FP' (s) b (s) := by
  have HU := And.intro hcx (And.intro hn (And.intro ht hz))
  clear HU
  have HK : Hid (StoreK a B EM SAt) := K
  have HKS : Hid (Keeps s) := KS
  obtain ⟨p, rfl⟩ := K.ptr _ _ _ _ h.ok.at_
  have T0' := trip_new K h (⟨#[103, 101, 116]⟩, n, t, z)
  obtain ⟨d0, d1, d2, d3⟩ := T0'.cells
  unfold acV
  dsimp only at d0 d1 d2 d3 ⊢
  have T0 : Hid (Trip EM SAt B w0 (W.alloc (.cells #[.string ⟨#[103, 101, 116]⟩, .string n, .string t, .int .i64 z] 43)) (.pointer (some p)) (s) b (s) W.heap.size (⟨#[103, 101, 116]⟩, n, t, z)) := T0'
  clear T0' h K
  go_enter Tryz.func17, Tryz.ntmps17
  go_wp2_with fail
  generalize W.alloc (.cells #[.string ⟨#[103, 101, 116]⟩, .string n, .string t, .int .i64 z] 43) = W1 at *
  obtain ⟨FP1, hS1⟩ := T0.out.at_
  have hg := HK.out.get W1 _ FP1 s n T0.out.env hS1 HKS.out hn
  refine hg.mono ?_
  rintro e w2 ⟨rfl, hb2⟩
  have T2 : Hid (Trip EM SAt B w0 w2 (.pointer (some p)) (s) b (s) W.heap.size (⟨#[103, 101, 116]⟩, n, t, z)) := T0.out.quiet HK.out hb2
  clear d0 d1 d2 d3
  obtain ⟨d0, d1, d2, d3⟩ := T2.out.cells
  dsimp only at d0 d1 d2 d3
  have hm := mget_any b s n w2 T2.out.mat (Nat.le_trans KS.many (by decide))
  clear hg hb2 hS1
  go_wp2_with fail
  refine hm.mono ?_
  rintro e w3 ⟨rfl, rfl⟩
  have hc := HK.out.coded w3 _ T2.out.env (getT_le s.obs n)
  clear hm KS
  generalize errV a (getT s.obs n).2 = ev at *
  generalize (((getT s.obs n).2 : Nat) : Int) = cc at *
  generalize (getT s.obs n).1 = tx at *
  go_wp2_with fail
  refine hc.mono ?_
  rintro e w4 ⟨rfl, hb4⟩
  have T9 : Hid (Trip EM SAt B w0 w4 (.pointer (some p)) (s) b (s) W.heap.size (⟨#[103, 101, 116]⟩, n, t, z)) := T2.out.quiet HK.out hb4
  obtain ⟨FP', hX', -⟩ := T9.out
  go_wp2
  go_ret
  exact ⟨rfl, FP', hX'⟩

set_option maxRecDepth 100000 in
set_option maxHeartbeats 4000000 in
theorem do_on {a : Nat → Addr} {B : Nat} {EM : World → Prop} {SAt : World → Value → (Nat → Prop) → St → Prop} (K : StoreK a B EM SAt) (w0 W : World) (v : Value) (FP : Nat → Prop) (s : St) (b : Nat) (n t : ByteArray) (z : Int) (h : Both EM SAt B w0 W v FP s b s) (KS : Keeps s) (hcx : s.cut ≤ 9223372036854775807) (hn : n.size ≤ 1000) (ht : t.size ≤ 100000) (hz : -9223372036854775808 ≤ z ∧ z ≤ 9223372036854775807) :
    Calls Tryz.prog 17 #[v, .pointer (some ⟨b, 0, none⟩), acV (⟨#[111, 110]⟩, n, t, z)] W fun e w' => e = .returned (.int .i64 1) ∧ ∃ FP', Both EM SAt B w0 w' v FP' (onS s) b (onS s) := by
  have HU := And.intro hcx (And.intro hn (And.intro ht hz))
  clear HU
  have HK : Hid (StoreK a B EM SAt) := K
  have HKS : Hid (Keeps s) := KS
  obtain ⟨p, rfl⟩ := K.ptr _ _ _ _ h.ok.at_
  have T0' := trip_new K h (⟨#[111, 110]⟩, n, t, z)
  obtain ⟨d0, d1, d2, d3⟩ := T0'.cells
  unfold acV
  dsimp only at d0 d1 d2 d3 ⊢
  have T0 : Hid (Trip EM SAt B w0 (W.alloc (.cells #[.string ⟨#[111, 110]⟩, .string n, .string t, .int .i64 z] 43)) (.pointer (some p)) (s) b (s) W.heap.size (⟨#[111, 110]⟩, n, t, z)) := T0'
  clear T0' h K
  go_enter Tryz.func17, Tryz.ntmps17
  go_wp2_with fail
  generalize W.alloc (.cells #[.string ⟨#[111, 110]⟩, .string n, .string t, .int .i64 z] 43) = W1 at *
  obtain ⟨FP1, hS1⟩ := T0.out.at_
  have hg := T0.out.call HK.out (s' := onS s) (fun FP hS => HK.out.on W1 _ FP s T0.out.env hS HKS.out)
  refine hg.mono ?_
  rintro e w2 ⟨rfl, hT2⟩
  have T2 : Hid (Trip EM SAt B w0 w2 (.pointer (some p)) (onS s) b (s) W.heap.size (⟨#[111, 110]⟩, n, t, z)) := hT2
  clear d0 d1 d2 d3
  obtain ⟨d0, d1, d2, d3⟩ := T2.out.cells
  dsimp only at d0 d1 d2 d3
  have hm := on_any b s w2 T2.out.mat
  clear hg hT2 hS1
  go_wp2_with fail
  refine hm.mono ?_
  rintro e w3 ⟨rfl, hp3⟩
  have T9 : Hid (Trip EM SAt B w0 w3 (.pointer (some p)) (onS s) b (onS s) W.heap.size (⟨#[111, 110]⟩, n, t, z)) := T2.out.doc HK.out hp3
  clear hm hp3
  obtain ⟨FP', hX', -⟩ := T9.out
  go_wp2
  go_ret
  exact ⟨rfl, FP', hX'⟩

set_option maxRecDepth 100000 in
set_option maxHeartbeats 4000000 in
theorem do_next {a : Nat → Addr} {B : Nat} {EM : World → Prop} {SAt : World → Value → (Nat → Prop) → St → Prop} (K : StoreK a B EM SAt) (w0 W : World) (v : Value) (FP : Nat → Prop) (s : St) (b : Nat) (n t : ByteArray) (z : Int) (h : Both EM SAt B w0 W v FP s b s) (KS : Keeps s) (hcx : s.cut ≤ 9223372036854775807) (hn : n.size ≤ 1000) (ht : t.size ≤ 100000) (hz : -9223372036854775808 ≤ z ∧ z ≤ 9223372036854775807) :
    Calls Tryz.prog 17 #[v, .pointer (some ⟨b, 0, none⟩), acV (⟨#[110, 101, 120, 116]⟩, n, t, z)] W fun e w' => e = .returned (.int .i64 1) ∧ ∃ FP', Both EM SAt B w0 w' v FP' (nextS s z) b (nextS s z) := by
  have HU := And.intro hcx (And.intro hn (And.intro ht hz))
  clear HU
  have HK : Hid (StoreK a B EM SAt) := K
  have HKS : Hid (Keeps s) := KS
  obtain ⟨p, rfl⟩ := K.ptr _ _ _ _ h.ok.at_
  have T0' := trip_new K h (⟨#[110, 101, 120, 116]⟩, n, t, z)
  obtain ⟨d0, d1, d2, d3⟩ := T0'.cells
  unfold acV
  dsimp only at d0 d1 d2 d3 ⊢
  have HC1 : Hid (∀ W', Trip EM SAt B w0 W' (.pointer (some p)) (s) b (s) W.heap.size (⟨#[110, 101, 120, 116]⟩, n, t, z) → Calls Tryz.prog 47 #[.pointer (some p), .int .i64 z] W' fun e w' => e = .returned (.tuple #[.int .i64 (if nextC s z = 0 then s.day + z else 0), errV a (nextC s z)]) ∧ Trip EM SAt B w0 w' (.pointer (some p)) (nextS s z) b (s) W.heap.size (⟨#[110, 101, 120, 116]⟩, n, t, z)) := fun W' hT => hT.call K (fun FP hS => K.next W' _ FP s z hT.env hS KS hz)
  have HC2 : Hid (∀ W', Trip EM SAt B w0 W' (.pointer (some p)) (nextS s z) b (s) W.heap.size (⟨#[110, 101, 120, 116]⟩, n, t, z) → Calls Tryz.prog 48 #[.pointer (some ⟨b, 0, none⟩), .int .i64 z] W' fun e w' => e = .returned (.tuple #[.int .i64 (if nextC s z = 0 then s.day + z else 0), .int .i64 ((nextC s z : Nat) : Int)]) ∧ Trip EM SAt B w0 w' (.pointer (some p)) (nextS s z) b (nextS s z) W.heap.size (⟨#[110, 101, 120, 116]⟩, n, t, z)) := fun W' hT => (next_any b s z W' hT.mat ⟨KS.day0, KS.day1⟩).mono fun e w' ⟨he, hp⟩ => ⟨he, hT.doc K hp⟩
  have HC3 : Hid (∀ W', Trip EM SAt B w0 W' (.pointer (some p)) (nextS s z) b (nextS s z) W.heap.size (⟨#[110, 101, 120, 116]⟩, n, t, z) → Calls Tryz.prog 34 #[errV a (nextC s z), .int .i64 ((nextC s z : Nat) : Int)] W' fun e w' => e = .returned (.bool true) ∧ Trip EM SAt B w0 w' (.pointer (some p)) (nextS s z) b (nextS s z) W.heap.size (⟨#[110, 101, 120, 116]⟩, n, t, z)) := fun W' hT => (K.coded W' _ hT.env (nextC_le s z)).mono fun e w' ⟨he, hb⟩ => ⟨he, hT.quiet K hb⟩
  generalize (if nextC s z = 0 then s.day + z else 0) = dd at HC1 HC2
  generalize errV a (nextC s z) = ev at HC1 HC3
  generalize ((nextC s z : Nat) : Int) = cc at HC2 HC3
  generalize nextS s z = s' at HC1 HC2 HC3 ⊢
  clear hz hcx hn ht KS
  have T0 : Hid (Trip EM SAt B w0 (W.alloc (.cells #[.string ⟨#[110, 101, 120, 116]⟩, .string n, .string t, .int .i64 z] 43)) (.pointer (some p)) (s) b (s) W.heap.size (⟨#[110, 101, 120, 116]⟩, n, t, z)) := T0'
  clear T0' h K
  go_enter Tryz.func17, Tryz.ntmps17
  go_wp2_with fail
  generalize W.alloc (.cells #[.string ⟨#[110, 101, 120, 116]⟩, .string n, .string t, .int .i64 z] 43) = W1 at *
  obtain ⟨FP1, hS1⟩ := T0.out.at_
  clear hS1
  refine (HC1.out W1 T0.out).mono ?_
  rintro e w2 ⟨rfl, hT2⟩
  have T2 : Hid (Trip EM SAt B w0 w2 (.pointer (some p)) (s') b (s) W.heap.size (⟨#[110, 101, 120, 116]⟩, n, t, z)) := hT2
  clear d0 d1 d2 d3
  obtain ⟨d0, d1, d2, d3⟩ := T2.out.cells
  dsimp only at d0 d1 d2 d3
  clear hT2
  go_wp2_with fail
  refine (HC2.out w2 T2.out).mono ?_
  rintro e w3 ⟨rfl, hT3⟩
  have T3 : Hid (Trip EM SAt B w0 w3 (.pointer (some p)) (s') b (s') W.heap.size (⟨#[110, 101, 120, 116]⟩, n, t, z)) := hT3
  clear hT3
  go_wp2_with fail
  refine (HC3.out w3 T3.out).mono ?_
  rintro e w4 ⟨rfl, hT4⟩
  have T9 : Hid (Trip EM SAt B w0 w4 (.pointer (some p)) (s') b (s') W.heap.size (⟨#[110, 101, 120, 116]⟩, n, t, z)) := hT4
  clear hT4
  obtain ⟨FP', hX', -⟩ := T9.out
  go_wp2
  go_ret
  exact ⟨rfl, FP', hX'⟩

end Go.Proofs.YtbdhdlloihkibaaGreatDoor
