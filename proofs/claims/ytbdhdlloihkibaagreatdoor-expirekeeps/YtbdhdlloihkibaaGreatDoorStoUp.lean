/-
  The store's contracts, from a later place on.
-/
import Derived.Test.YtbdhdlloihkibaaGreatDoorLaw2
import Derived.Lib.ItoaLen
namespace Go.Proofs.YtbdhdlloihkibaaGreatDoor
open Go.RowKit Go.Extern.Stop Go.Stop Go.Extern Go.Sort Go.Shelf Go.Lib

def longSn (s : Sn) : Bool := decide (30 < s.2.2.2.2.2.1.size) || longFs s.2.2.2.2.2.2
theorem longSn_no {s : Sn} (h : longSn s = false) : s.2.2.2.2.2.1.size ≤ 30 ∧ s.2.2.2.2.2.2.length ≤ 61 ∧ Short s.2.2.2.2.2.2 := by
  unfold longSn at h
  rw [Bool.or_eq_false_iff, decide_eq_false_iff_not] at h
  obtain ⟨h1, h2⟩ := longFs_no h.2
  exact ⟨by omega, h1, h2⟩

set_option maxRecDepth 100000 in
set_option maxHeartbeats 2000000 in
theorem longSnap_any (s : Sn) (vf : Value) (w : World) (hx : FlsAt w vf s.2.2.2.2.2.2) (ho : s.2.2.2.2.2.1.size ≤ maxLen) (hl : s.2.2.2.2.2.2.length ≤ maxLen) (hsz : ∀ f ∈ s.2.2.2.2.2.2, f.1.size ≤ maxLen ∧ f.2.1.size ≤ maxLen) :
    Calls Tryz.prog 7 #[snV s vf] w fun e w' => e = .returned (.int .i64 (if longSn s then 1 else 0)) ∧ Below w.heap.size w w' := by
  have hlf := fun W (hb : Below w.heap.size w W) => longFiles_any vf s.2.2.2.2.2.2 W (hx.below hb) hl hsz
  generalize hR : (if longSn s then (1 : Int) else 0) = R
  have hbg : 30 < s.2.2.2.2.2.1.size → R = 1 := fun e => by rw [← hR, if_pos]; unfold longSn; simp [e]
  have hsm : ¬ 30 < s.2.2.2.2.2.1.size → R = if longFs s.2.2.2.2.2.2 then 1 else 0 := fun e => by rw [← hR]; unfold longSn; simp [e]
  unfold maxLen at ho
  obtain ⟨q, cap, rfl⟩ := hx.form
  clear hR hx hsz
  obtain ⟨id, par, seq, day, idx, op, fs⟩ := s
  unfold snV
  dsimp only at *
  generalize (if longFs fs then (1 : Int) else 0) = LF at *
  generalize fs.length = L at *
  have hal : Below w.heap.size w (w.alloc (.cells #[.int .i64 id, .int .i64 par, .int .i64 seq, .int .i64 day, .int .i64 idx, .string op, .slice q L cap] 30)) := (Below.refl _ _).alloc (Nat.le_refl _) _
  by_cases hb : 30 < op.size
  · obtain rfl := hbg hb
    have hi : (30 : Int) < (op.size : Int) := by omega
    clear hbg hsm hlf hb
    go_enter Tryz.func7, Tryz.ntmps7
    go_wp2
    go_ret
    exact ⟨rfl, hal⟩
  · obtain rfl := hsm hb
    have hi : ¬ (30 : Int) < (op.size : Int) := by omega
    have hl1 := hlf _ hal
    clear hbg hsm hlf hb
    go_enter Tryz.func7, Tryz.ntmps7
    go_wp2_with fail
    generalize w.alloc (.cells #[.int .i64 id, .int .i64 par, .int .i64 seq, .int .i64 day, .int .i64 idx, .string op, .slice q L cap] 30) = WA at hal hl1 ⊢
    refine hl1.mono ?_
    rintro e w1 ⟨rfl, hb1⟩
    go_wp2
    go_ret
    exact ⟨rfl, hal.trans (hb1.mono hal.size)⟩

end Go.Proofs.YtbdhdlloihkibaaGreatDoor
namespace Go.Proofs.YtbdhdlloihkibaaGreatDoor
open Go.RowKit Go.Extern.Stop Go.Stop Go.Extern Go.Sort Go.Shelf Go.Lib

theorem both_new {a : Nat → Addr} {B : Nat} {EM : World → Prop} {SAt : World → Value → (Nat → Prop) → St → Prop} (K : StoreK a B EM SAt) {w0 W w' : World} {v : Value} {FP : Nat → Prop} {b : Nat} (h : SOk EM SAt B w0 W v FP newS) (hm : MAt w' b newS) (hb : W.heap.size ≤ b) (hB : Below W.heap.size W w') : Both EM SAt B w0 w' v FP newS b newS :=
  ⟨h.quiet K hB, hm, fun hF => Nat.lt_irrefl _ (Nat.lt_of_lt_of_le (K.lt _ _ _ _ _ h.at_ hF) hb), Nat.le_trans (K.size _ h.env) hb, fun _ _ hne => absurd rfl hne⟩

end Go.Proofs.YtbdhdlloihkibaaGreatDoor
namespace Go.Proofs.YtbdhdlloihkibaaGreatDoor
open Go.RowKit Go.Extern.Stop Go.Stop Go.Extern Go.Sort Go.Shelf Go.Lib

structure ExpO (EM : World → Prop) (SAt : World → Value → (Nat → Prop) → St → Prop) : Prop where
  orph : ∀ (W : World) (v : Value) (FP : Nat → Prop) (s : St) (vN : Value) (needed : List ByteArray) (age : Int), EM W → SAt W v FP s → Keeps s → Aged s → TxsAt W vN needed → needed.length ≤ 1000 → Calls Tryz.prog 18 #[v, vN, .int .i64 age] W fun e w' => ∃ v', e = .returned v' ∧ TxsAt w' v' (orphL s needed age) ∧ Below W.heap.size W w'
  none : ∀ (W : World) (vN : Value) (age : Int), Calls Tryz.prog 18 #[.pointer none, vN, .int .i64 age] W fun e w' => e = .returned (.slice none 0 0) ∧ Below W.heap.size W w'

theorem keys_own {w : World} {base : Nat} {v : Value} {zs : List Int} (h : w.ownsRow base 3 1 v zs.length (zs.map (Value.int .i64))) : KeysAt w v zs := by
  obtain ⟨hl, h⟩ := h
  rcases h with ⟨hv, hn⟩ | ⟨g, cap, cur, rfl, _, hg, hcp, _, _, ht⟩
  · exact Or.inl ⟨none, 0, by rw [hv], List.length_eq_zero_iff.1 hn⟩
  · refine Or.inr ⟨g, 0, cap, rfl, fun j hj => ?_⟩
    have hu : (zs.map (Value.int .i64))[j]? = some (.int .i64 zs[j]) := by simp [hj]
    rw [← ht, List.getElem?_take, if_pos (by simpa using hj)] at hu
    simp only [World.cell?, hg, Nat.zero_add]
    simpa using hu
theorem flat_need {ss : List Sn} (h : ∀ s ∈ ss, s.2.2.2.2.2.2.length ≤ 61) : (ss.flatMap needS).length ≤ ss.length * 62 := by
  induction ss with
  | nil => simp
  | cons s r ih =>
    rw [List.flatMap_cons, List.length_append, List.length_cons]
    have h1 := ih fun x hx => h x (List.mem_cons_of_mem _ hx)
    have h2 := h s List.mem_cons_self
    have h3 : (needS s).length = s.2.2.2.2.2.2.length + 1 := by unfold needS; rw [List.length_cons, List.length_map]
    omega
theorem reachL_len (ss : List Sn) : (reachL ss).length ≤ (ss.flatMap needS).length := by
  rw [← reachN_all]
  exact reachN_len ss _
theorem orphL_len (s : St) (needed : List ByteArray) (age : Int) : (orphL s needed age).length ≤ s.obs.length := by
  unfold orphL
  rw [List.length_map]
  exact List.length_filter_le _ _
theorem keepL_len (day age count : Int) (ss : List Sn) : (keepL day age count ss).length ≤ ss.length := by
  rw [← keepN_all]
  exact keepN_len _ _ _ _ _
def SnsOk (ss : List Sn) : Prop := ∀ s ∈ ss, SnOk s ∧ s.2.2.2.2.2.1.size ≤ maxLen ∧ s.2.2.2.2.2.2.length ≤ maxLen ∧ ∀ f ∈ s.2.2.2.2.2.2, f.1.size ≤ maxLen ∧ f.2.1.size ≤ maxLen

end Go.Proofs.YtbdhdlloihkibaaGreatDoor
namespace Go.Proofs.YtbdhdlloihkibaaGreatDoor
open Go.RowKit Go.Extern.Stop Go.Stop Go.Extern Go.Sort Go.Shelf Go.Lib

theorem keep_last (day age count : Int) : ∀ (ss : List Sn) (h : ss ≠ []), (ss.getLast h).1 ∈ keepL day age count ss
  | [], h => absurd rfl h
  | [s], _ => by
    rw [keepL_cons]
    have e : keepB day age count ([] : List Sn).length s = true := by unfold keepB; simp
    rw [if_pos e]
    simp
  | s :: t :: r, _ => by
    have ih := keep_last day age count (t :: r) (by simp)
    rw [keepL_cons, List.getLast_cons (by simp)]
    split
    · exact List.mem_cons_of_mem _ ih
    · exact ih
theorem keep_more {day age count age' count' : Int} (h : ∀ (k : Nat) (s : Sn), keepB day age count k s = true → keepB day age' count' k s = true) : ∀ (ss : List Sn) (x : Int), x ∈ keepL day age count ss → x ∈ keepL day age' count' ss
  | [], x, hx => hx
  | s :: r, x, hx => by
    have ih := keep_more h r x
    rw [keepL_cons] at hx ⊢
    by_cases e : keepB day age count r.length s = true
    · rw [if_pos e] at hx
      rw [if_pos (h _ _ e)]
      rcases List.mem_cons.1 hx with rfl | hx
      · exact List.mem_cons_self
      · exact List.mem_cons_of_mem _ (ih hx)
    · rw [if_neg e] at hx
      split
      · exact List.mem_cons_of_mem _ (ih hx)
      · exact ih hx
theorem keep_age {day age count : Int} (hd : 0 ≤ day ∧ day ≤ 100000) (ha : 0 ≤ age ∧ age < 1073741824) (ss : List Sn) (x : Int) (h : x ∈ keepL day age count ss) : x ∈ keepL day (age + 1) count ss := by
  refine keep_more (fun k s hk => ?_) ss x h
  unfold keepB farE at hk ⊢
  have e1 : inNum day = true := by simp [inNum]; omega
  have e2 : inNum age = true := by simp [inNum]; omega
  have e3 : inNum (age + 1) = true := by simp [inNum]; omega
  rw [e1, e2] at hk
  rw [e1, e3]
  simp only [Bool.not_true, Bool.not_false, Bool.true_and, Bool.or_eq_true, decide_eq_true_eq] at hk ⊢
  omega
theorem keep_count {day age count : Int} (ss : List Sn) (x : Int) (h : x ∈ keepL day age count ss) : x ∈ keepL day age (count + 1) ss := by
  refine keep_more (fun k s hk => ?_) ss x h
  unfold keepB at hk ⊢
  generalize farE day = x1 at hk ⊢
  generalize farE age = x2 at hk ⊢
  cases x1 <;> cases x2 <;> simp only [Bool.not_true, Bool.not_false, Bool.true_and, Bool.false_and, Bool.and_false, Bool.or_eq_true, decide_eq_true_eq, Bool.or_false] at hk ⊢ <;> omega
theorem path_needed {ss : List Sn} {n m : Nat} (hn : n < ss.length) (hm : m < ss[n].2.2.2.2.2.2.length) : inT (reachL ss) ss[n].2.2.2.2.2.2[m].1 = true := by
  rw [inT_iff, reach_mem]
  refine ⟨ss[n], List.getElem_mem _, ?_⟩
  unfold needS
  exact List.mem_cons_of_mem _ (List.mem_map.2 ⟨_, List.getElem_mem _, rfl⟩)
theorem orph_is {s : St} (K : Keeps s) (needed : List ByteArray) (age : Int) {n : Nat} (hn : n < s.obs.length) : inT (orphL s needed age) s.obs[n].1 = (decide (age ≤ s.day - bornO s.obs s.obs[n].1) && !inT needed s.obs[n].1) := by
  rw [born_of K (List.getElem_mem hn), Bool.eq_iff_iff, inT_iff, Bool.and_eq_true, decide_eq_true_eq, Bool.not_eq_true']
  unfold orphL
  rw [List.mem_map]
  constructor
  · rintro ⟨o, ho, e⟩
    obtain ⟨ho1, ho2⟩ := List.mem_filter.1 ho
    have eo : o = s.obs[n] := by
      have h1 := getO_mem K.rise ho1
      rw [e, getO_mem K.rise (List.getElem_mem hn)] at h1
      exact (Option.some.inj h1).symm
    subst eo
    rw [Bool.and_eq_true, Bool.not_eq_true', decide_eq_true_eq] at ho2
    exact ⟨ho2.2, ho2.1⟩
  · rintro ⟨h1, h2⟩
    exact ⟨s.obs[n], List.mem_filter.2 ⟨List.getElem_mem _, by rw [h2, decide_eq_true h1]; rfl⟩, rfl⟩
end Go.Proofs.YtbdhdlloihkibaaGreatDoor
namespace Go.Proofs.YtbdhdlloihkibaaGreatDoor
open Go.RowKit Go.Extern.Stop Go.Stop Go.Extern Go.Sort Go.Shelf Go.Lib

def upE (EM : World → Prop) (n : Nat) (W : World) : Prop := EM W ∧ n ≤ W.heap.size
section
variable {a : Nat → Addr} {B : Nat} {EM : World → Prop} {SAt : World → Value → (Nat → Prop) → St → Prop}
theorem StoreK.up (K : StoreK a B EM SAt) {n : Nat} (h : B ≤ n) : StoreK a n (upE EM n) SAt where
  below := fun W W' hE hb => ⟨K.below W W' hE.1 (hb.mono h), Nat.le_trans hE.2 hb.size⟩
  size := fun _ hE => hE.2
  coded := fun W n hE => K.coded W n hE.1
  ptr := K.ptr
  lt := K.lt
  keep := K.keep
  new := fun W hE => K.new W hE.1
  put := fun W v FP s n t hE => K.put W v FP s n t hE.1
  get := fun W v FP s n hE => K.get W v FP s n hE.1
  drop := fun W v FP s n hE => K.drop W v FP s n hE.1
  names := fun W v FP s hE => K.names W v FP s hE.1
  born := fun W v FP s n hE => K.born W v FP s n hE.1
  swap := fun W v FP s n t hE => K.swap W v FP s n t hE.1
  cut := fun W v FP s z hE => K.cut W v FP s z hE.1
  on := fun W v FP s hE => K.on W v FP s hE.1
  power := fun W v FP s hE => K.power W v FP s hE.1
  next := fun W v FP s z hE => K.next W v FP s z hE.1
  day := fun W v FP s hE => K.day W v FP s hE.1
  copy := fun W v FP s hE => K.copy W v FP s hE.1
  same := fun W v u FP GP s r hE => K.same W v u FP GP s r hE.1
  same1 := fun W v FP s hE => K.same1 W v FP s hE.1
  same0 := fun W hE => K.same0 W hE.1
end
end Go.Proofs.YtbdhdlloihkibaaGreatDoor
