/-
  What the statements on a store ask of the program's functions, in one word; the closed fact of the statements.
-/
import Derived.Test.YtmcfklkpdhgjdaaDoorRefStore5
namespace Go.Proofs.YtmcfklkpdhgjdaaDoor
open Go.RowKit Go.Extern.Stop Go.Stop Go.Extern Go.Sort Go.Shelf Go.Lib

/-- What a method on a store leaves: the store, in its own blocks or newer ones, and all else. -/
def SPost (SAt : World → Value → (Nat → Prop) → St → Prop) (W : World) (v : Value) (FP : Nat → Prop) (s : St) (w' : World) : Prop := ∃ FP', SAt w' v FP' s ∧ But FP W w' ∧ ∀ k, FP' k → FP k ∨ W.heap.size ≤ k

/-- Two stores have the same. -/
def sameS (s r : St) : Bool := decide (s.obs = r.obs ∧ s.head = r.head ∧ s.day = r.day ∧ s.off = r.off)

/-- What the statements ask of the program's functions on a store: SAt W v FP s: v points to a store that has s, in the blocks FP. -/
structure StoreK (a : Nat → Addr) (B : Nat) (EM : World → Prop) (SAt : World → Value → (Nat → Prop) → St → Prop) : Prop where
  below : ∀ W W' : World, EM W → Below B W W' → EM W'
  size : ∀ W : World, EM W → B ≤ W.heap.size
  coded : ∀ (W : World) (n : Nat), EM W → n ≤ 12 → Calls Tryd.prog 22 #[errV a n, .int .i64 n] W fun e w' => e = .returned (.bool true) ∧ Below W.heap.size W w'
  ptr : ∀ (W : World) (v : Value) (FP : Nat → Prop) (s : St), SAt W v FP s → ∃ p, v = .pointer (some p)
  lt : ∀ (W : World) (v : Value) (FP : Nat → Prop) (s : St) (k : Nat), SAt W v FP s → FP k → k < W.heap.size
  keep : ∀ (W W' : World) (v : Value) (FP P : Nat → Prop) (s : St), SAt W v FP s → But P W W' → (∀ k, FP k → ¬ P k) → SAt W' v FP s
  new : ∀ W : World, EM W → Calls Tryd.prog 7 #[] W fun e w' => ∃ v FP, e = .returned v ∧ SAt w' v FP newS ∧ (∀ k, FP k → W.heap.size ≤ k) ∧ Below W.heap.size W w'
  put : ∀ (W : World) (v : Value) (FP : Nat → Prop) (s : St) (n t : ByteArray), EM W → SAt W v FP s → Keeps s → n.size ≤ 1000 → t.size ≤ 100000 → Calls Tryd.prog 9 #[v, .string n, .string t] W fun e w' => e = .returned (errV a (putC s n t)) ∧ SPost SAt W v FP (putS s n t) w'
  get : ∀ (W : World) (v : Value) (FP : Nat → Prop) (s : St) (n : ByteArray), EM W → SAt W v FP s → Keeps s → n.size ≤ 1000 → Calls Tryd.prog 10 #[v, .string n] W fun e w' => e = .returned (.tuple #[.string (getT s.obs n).1, errV a (getT s.obs n).2]) ∧ Below W.heap.size W w'
  drop : ∀ (W : World) (v : Value) (FP : Nat → Prop) (s : St) (n : ByteArray), EM W → SAt W v FP s → Keeps s → n.size ≤ 1000 → Calls Tryd.prog 15 #[v, .string n] W fun e w' => e = .returned (errV a (dropC s n)) ∧ SPost SAt W v FP (dropS s n) w'
  names : ∀ (W : World) (v : Value) (FP : Nat → Prop) (s : St), EM W → SAt W v FP s → Keeps s → Calls Tryd.prog 20 #[v] W fun e w' => ∃ v', e = .returned v' ∧ TxsAt w' v' (s.obs.map fun o => o.1) ∧ Below W.heap.size W w'
  swap : ∀ (W : World) (v : Value) (FP : Nat → Prop) (s : St) (n t : ByteArray), EM W → SAt W v FP s → Keeps s → n.size ≤ 1000 → t.size ≤ 100000 → Calls Tryd.prog 13 #[v, .string n, .string t] W fun e w' => e = .returned (errV a (swapC s n t)) ∧ SPost SAt W v FP (swapS s n t) w'
  head : ∀ (W : World) (v : Value) (FP : Nat → Prop) (s : St), EM W → SAt W v FP s → Keeps s → Calls Tryd.prog 14 #[v] W fun e w' => e = .returned (.string s.head) ∧ Below W.heap.size W w'
  cut : ∀ (W : World) (v : Value) (FP : Nat → Prop) (s : St) (z : Int), EM W → SAt W v FP s → Keeps s → (-9223372036854775808 ≤ z ∧ z ≤ 9223372036854775807) → Calls Tryd.prog 16 #[v, .int .i64 z] W fun e w' => e = .returned (errV a (cutC s z)) ∧ SPost SAt W v FP (cutS s z) w'
  on : ∀ (W : World) (v : Value) (FP : Nat → Prop) (s : St), EM W → SAt W v FP s → Keeps s → Calls Tryd.prog 17 #[v] W fun e w' => e = .returned (.tuple #[]) ∧ SPost SAt W v FP (onS s) w'
  power : ∀ (W : World) (v : Value) (FP : Nat → Prop) (s : St), EM W → SAt W v FP s → Keeps s → Calls Tryd.prog 11 #[v] W fun e w' => e = .returned (.bool (!s.off)) ∧ Below W.heap.size W w'
  next : ∀ (W : World) (v : Value) (FP : Nat → Prop) (s : St) (z : Int), EM W → SAt W v FP s → Keeps s → (-9223372036854775808 ≤ z ∧ z ≤ 9223372036854775807) → Calls Tryd.prog 18 #[v, .int .i64 z] W fun e w' => e = .returned (.tuple #[.int .i64 (if nextC s z = 0 then s.day + z else 0), errV a (nextC s z)]) ∧ SPost SAt W v FP (nextS s z) w'
  day : ∀ (W : World) (v : Value) (FP : Nat → Prop) (s : St), EM W → SAt W v FP s → Keeps s → Calls Tryd.prog 19 #[v] W fun e w' => e = .returned (.int .i64 s.day) ∧ Below W.heap.size W w'
  copy : ∀ (W : World) (v : Value) (FP : Nat → Prop) (s : St), EM W → SAt W v FP s → Keeps s → Calls Tryd.prog 8 #[v] W fun e w' => ∃ v' FP', e = .returned v' ∧ SAt w' v' FP' s ∧ (∀ k, FP' k → W.heap.size ≤ k) ∧ Below W.heap.size W w'
  same : ∀ (W : World) (v u : Value) (FP GP : Nat → Prop) (s r : St), EM W → SAt W v FP s → SAt W u GP r → Calls Tryd.prog 12 #[v, u] W fun e w' => e = .returned (.bool (sameS s r)) ∧ Below W.heap.size W w'
  same1 : ∀ (W : World) (v : Value) (FP : Nat → Prop) (s : St), EM W → SAt W v FP s → Calls Tryd.prog 12 #[v, .pointer none] W fun e w' => e = .returned (.bool false) ∧ Below W.heap.size W w'
  same0 : ∀ W : World, EM W → Calls Tryd.prog 12 #[.pointer none, .pointer none] W fun e w' => e = .returned (.bool true) ∧ Below W.heap.size W w'

section
variable {a : Nat → Addr} {B : Nat} {EM : World → Prop} {SAt : World → Value → (Nat → Prop) → St → Prop}

/-- A store whose blocks are newer than a place, in a world that is as it was below that. -/
structure SOk (EM : World → Prop) (SAt : World → Value → (Nat → Prop) → St → Prop) (B : Nat) (w0 W : World) (v : Value) (FP : Nat → Prop) (s : St) : Prop where
  env : EM W
  frame : Below B w0 W
  le : B ≤ w0.heap.size
  at_ : SAt W v FP s
  new : ∀ k, FP k → B ≤ k
theorem SOk.post (K : StoreK a B EM SAt) {w0 W w' : World} {v : Value} {FP : Nat → Prop} {s s' : St} (h : SOk EM SAt B w0 W v FP s) (hp : SPost SAt W v FP s' w') : ∃ FP', SOk EM SAt B w0 w' v FP' s' ∧ But FP W w' ∧ ∀ k, FP' k → FP k ∨ W.heap.size ≤ k := by
  obtain ⟨FP', h1, h2, h3⟩ := hp
  have hB := K.size _ h.env
  have hb : Below B W w' := h2.below hB h.new
  refine ⟨FP', ⟨K.below _ _ h.env hb, h.frame.trans hb, h.le, h1, fun k hk => ?_⟩, h2, h3⟩
  rcases h3 k hk with h4 | h4
  · exact h.new k h4
  · omega
theorem SOk.quiet (K : StoreK a B EM SAt) {w0 W w' : World} {v : Value} {FP : Nat → Prop} {s : St} (h : SOk EM SAt B w0 W v FP s) (hb : Below W.heap.size W w') : SOk EM SAt B w0 w' v FP s :=
  ⟨K.below _ _ h.env (hb.mono (K.size _ h.env)), h.frame.trans (hb.mono (K.size _ h.env)), h.le, K.keep _ _ _ _ (fun _ => False) _ h.at_ (But.of_below hb) (fun _ _ h => h), h.new⟩
end
end Go.Proofs.YtmcfklkpdhgjdaaDoor
