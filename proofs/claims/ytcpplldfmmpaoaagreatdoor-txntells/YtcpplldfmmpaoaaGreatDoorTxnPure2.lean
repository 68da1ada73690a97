/-
  What the document's Commit has at each round of its four loops.
-/
import Derived.Test.YtcpplldfmmpaoaaGreatDoorTxnLs
namespace Go.Proofs.YtcpplldfmmpaoaaGreatDoor
open Go.RowKit Go.Extern.Stop Go.Stop Go.Extern Go.Sort Go.Shelf Go.Lib

set_option maxRecDepth 100000 in
set_option maxHeartbeats 1000000 in
theorem faulted3_same (v : Value) (x y : Int) (w : World)
    (hc : Calls Tryz.prog 41 #[v] (w.alloc (.cells #[.int .i64 x, .int .i64 y] 49)) fun e w' => e = .returned (.tuple #[.int .i64 x, .int .i64 y]) ∧ Below (w.alloc (.cells #[.int .i64 x, .int .i64 y] 49)).heap.size (w.alloc (.cells #[.int .i64 x, .int .i64 y] 49)) w') :
    Calls Tryz.prog 17 #[v, .agg #[.int .i64 x, .int .i64 y]] w fun e w' => e = .returned (.bool true) ∧ Below w.heap.size w w' := by
  have hal : Below w.heap.size w (w.alloc (.cells #[.int .i64 x, .int .i64 y] 49)) := (Below.refl _ _).alloc (Nat.le_refl _) _
  have x0 : (w.alloc (.cells #[.int .i64 x, .int .i64 y] 49)).cell? ⟨w.heap.size, 0, none⟩ = some (.int .i64 x) := by simp
  have x1 : (w.alloc (.cells #[.int .i64 x, .int .i64 y] 49)).cell? ⟨w.heap.size, 1, none⟩ = some (.int .i64 y) := by simp
  go_enter Tryz.func17, Tryz.ntmps17
  go_wp2_with fail
  refine hc.mono ?_
  rintro e w1 ⟨rfl, hb1⟩
  clear hc
  have y0 := below_keep hb1 x0
  have y1 := below_keep hb1 x1
  have hB : Below w.heap.size w w1 := hal.trans (hb1.mono hal.size)
  clear x0 x1
  by_cases hx : x = 0
  · subst hx
    go_wp2
    go_ret
    exact ⟨rfl, hB⟩
  · go_wp2
    go_ret
    exact ⟨by simp, hB⟩

theorem faulted3_err (n : Nat) (hn : n ≤ 12) (w : World) (a : Nat → Addr) (h : Errs w a) :
    Calls Tryz.prog 17 #[errV a n, .agg #[.int .i64 n, .int .i64 (-1)]] w fun e w' => e = .returned (.bool true) ∧ Below w.heap.size w w' :=
  faulted3_same _ _ _ w (err_code n hn _ a (h.below ((Below.refl _ _).alloc (Nat.le_refl _) _)))

theorem faulted3_at (n : Nat) (h0 : n ≠ 0) (hn : n ≤ 12) (w : World) (a : Nat → Addr) (h : Errs w a) (fb : Nat) (j : Int) (c0 : w.cell? ⟨fb, 0, none⟩ = some (.int .i64 j)) (c1 : w.cell? ⟨fb, 1, none⟩ = some (errV a n)) :
    Calls Tryz.prog 17 #[.iface 74 (.pointer (some ⟨fb, 0, none⟩)), .agg #[.int .i64 n, .int .i64 j]] w fun e w' => e = .returned (.bool true) ∧ Below w.heap.size w w' :=
  faulted3_same _ _ _ w (fault_code n h0 hn _ a (h.below ((Below.refl _ _).alloc (Nat.le_refl _) _)) fb j (below_keep ((Below.refl _ _).alloc (Nat.le_refl _) _) c0) (below_keep ((Below.refl _ _).alloc (Nat.le_refl _) _) c1))

theorem coded3_of (v : Value) (c : Int) (w : World) (w1 : World → Prop)
    (hc : Calls Tryz.prog 41 #[v] w fun e w' => e = .returned (.tuple #[.int .i64 c, .int .i64 (-1)]) ∧ w1 w') :
    Calls Tryz.prog 18 #[v, .int .i64 c] w fun e w' => e = .returned (.bool true) ∧ w1 w' := by
  go_enter Tryz.func18, Tryz.ntmps18
  go_wp2_with (go_at_call 41; refine hc.mono ?_; rintro e w' ⟨rfl, hw⟩)
  go_ret
  exact ⟨by simp, hw⟩

theorem coded3_any (W : World) (a : Nat → Addr) (h : Errs W a) (n : Nat) (hn : n ≤ 12) :
    Calls Tryz.prog 18 #[errV a n, .int .i64 n] W fun e w' => e = .returned (.bool true) ∧ Below W.heap.size W w' := by
  cases n with
  | zero =>
    refine (coded3_of .nilIface 0 W (fun w' => w' = W) (code_nil W)).mono fun e w' ⟨he, hw⟩ => ⟨he, ?_⟩
    subst hw
    exact Below.refl _ _
  | succ i =>
    have hi : i < 12 := by omega
    obtain ⟨cp, tp, hp⟩ := h.block i hi
    have hcn : codeNum i = ((i + 1 : Nat) : Int) := by unfold codeNum; rw [if_pos hi]; rfl
    have hc := code_bare W a h (a i) cp tp hp i (fun n hn => ⟨fun e => (h.inj i n hi hn e).symm, fun e => e ▸ rfl⟩)
    rw [hcn] at hc
    exact coded3_of _ _ W _ hc
theorem ToldE.same3 {W : World} {a : Nat → Addr} {ev : Value} {c : Nat × Option Nat} (h : ToldE W a ev c) (hc : c.1 ≤ 12) (hE : Errs W a) :
    Calls Tryz.prog 17 #[ev, .agg #[.int .i64 c.1, .int .i64 (atZ c.2)]] W fun e w' => e = .returned (.bool true) ∧ Below W.heap.size W w' := by
  obtain ⟨n, o⟩ := c
  cases o with
  | none =>
    obtain rfl : ev = errV a n := h
    exact faulted3_err n hc W a hE
  | some j =>
    obtain ⟨h0, fb, rfl, c0, c1⟩ := h
    exact faulted3_at n h0 hc W a hE fb j c0 c1

end Go.Proofs.YtcpplldfmmpaoaaGreatDoor
namespace Go.Proofs.YtcpplldfmmpaoaaGreatDoor
open Go.RowKit Go.Extern.Stop Go.Stop Go.Extern Go.Sort Go.Shelf Go.Lib

structure TwI (B : Nat) (W : World) (bn : Nat) (n : Sn) (vn pt pm : Value) (t m : Tx) : Prop where
  sn : SnAt W bn n vn
  bnB : B ≤ bn
  has : ∃ FT FM, TxHas 66 B W pt FT t ∧ TxHas 54 B W pm FM m ∧ (∀ k, FT k → ¬ FM k ∧ k ≠ bn) ∧ ∀ k, FM k → k ≠ bn

theorem TwI.le {B : Nat} {W : World} {bn : Nat} {n : Sn} {vn pt pm : Value} {t m : Tx} (h : TwI B W bn n vn pt pm t m) : B ≤ W.heap.size := by
  have h1 := h.sn.lt
  have h2 := h.bnB
  omega
theorem TwI.quiet {B : Nat} {W W' : World} {bn : Nat} {n : Sn} {vn pt pm : Value} {t m : Tx} (h : TwI B W bn n vn pt pm t m) (hb : Below W.heap.size W W') : TwI B W' bn n vn pt pm t m := by
  obtain ⟨FT, FM, h1, h2, h3, h4⟩ := h.has
  exact ⟨h.sn.below hb, h.bnB, FT, FM, h1.below hb, h2.below hb, h3, h4⟩
theorem TxHas.own {T : TypeId} {B : Nat} {W : World} {v : Value} {FP : Nat → Prop} {t : Tx} (h : TxHas T B W v FP t) : ∀ k, FP k → B ≤ k ∧ k < W.heap.size := by
  obtain ⟨_, _, _, _, _, _, _, _, h8⟩ := h
  exact h8

theorem TwI.prog {B : Nat} {W W' : World} {bn : Nat} {n : Sn} {vn pt pm : Value} {t m t' : Tx} {FT FM : Nat → Prop} (h : TwI B W bn n vn pt pm t m) (h1 : TxHas 66 B W pt FT t) (h2 : TxHas 54 B W pm FM m) (h3 : ∀ k, FT k → ¬ FM k ∧ k ≠ bn) (h4 : ∀ k, FM k → k ≠ bn) (hp : TxPost 66 B W pt FT t' W') : TwI B W' bn n vn pt pm t' m ∧ Below B W W' := by
  have hle := h.le
  obtain ⟨FT', h5, h6, h7⟩ := hp
  have hF := h1.own
  have hM := h2.own
  have hl := h.sn.lt
  refine ⟨⟨(h6.block bn h.sn.lt (fun e => (h3 bn e).2 rfl)).trans h.sn, h.bnB, FT', FM, h5, h2.but h6 (fun k hk => ⟨(hF k hk).1, (h3 k hk).1⟩), fun k hk => ?_, h4⟩, h6.below hle (fun k hk => (hF k hk).1)⟩
  rcases h7 k hk with e | e
  · exact h3 k e
  · exact ⟨fun e2 => by have := (hM k e2).2; omega, by omega⟩

theorem TwI.doc {B : Nat} {W W' : World} {bn : Nat} {n : Sn} {vn pt pm : Value} {t m m' : Tx} {FT FM : Nat → Prop} (h : TwI B W bn n vn pt pm t m) (h1 : TxHas 66 B W pt FT t) (h2 : TxHas 54 B W pm FM m) (h3 : ∀ k, FT k → ¬ FM k ∧ k ≠ bn) (h4 : ∀ k, FM k → k ≠ bn) (hp : TxPost 54 B W pm FM m' W') : TwI B W' bn n vn pt pm t m' ∧ Below B W W' := by
  have hle := h.le
  obtain ⟨FM', h5, h6, h7⟩ := hp
  have hF := h2.own
  have hM := h1.own
  have hl := h.sn.lt
  refine ⟨⟨(h6.block bn h.sn.lt (fun e => h4 bn e rfl)).trans h.sn, h.bnB, FT, FM', h1.but h6 (fun k hk => ⟨(hF k hk).1, fun e => (h3 k e).1 hk⟩), h5, fun k hk => ⟨fun e2 => ?_, (h3 k hk).2⟩, fun k hk => ?_⟩, h6.below hle (fun k hk => (hF k hk).1)⟩
  · rcases h7 k e2 with e | e
    · exact (h3 k hk).1 e
    · have := (hM k hk).2
      omega
  · rcases h7 k hk with e | e
    · exact h4 k e
    · omega

structure TwP (i : Nat) (s : Sn) (t : Tx) : Prop where
  ok : TxOk t
  base : t.1 = s
  few : t.2.1.length ≤ i ∧ t.2.2.length ≤ i
theorem TwP.add {i : Nat} {s : Sn} {t : Tx} (h : TwP i s t) (f : Fl) : TwP (i + 1) s (tAdd t f) := by
  have hk := h.ok.add f
  have h1 := h.few
  by_cases h0 : tAddE t f = 0
  · rw [tAdd_yes h0] at hk ⊢
    exact ⟨hk, h.base, by simp only [List.length_append, List.length_singleton]; omega, by simp only []; omega⟩
  · rw [tAdd_no h0]
    exact ⟨h.ok, h.base, by omega, by omega⟩
theorem TwP.rem {i : Nat} {s : Sn} {t : Tx} (h : TwP i s t) (p : ByteArray) : TwP (i + 1) s (tRem t p) := by
  have hk := h.ok.rem p
  have h1 := h.few
  by_cases h0 : tRemE t p = 0
  · rw [tRem_yes h0] at hk ⊢
    exact ⟨hk, h.base, by simp only []; omega, by simp only [List.length_append, List.length_singleton]; omega⟩
  · rw [tRem_no h0]
    exact ⟨h.ok, h.base, by omega, by omega⟩

theorem tw_begin {B : Nat} {W : World} {s n : Sn} {vn pt : Value} {bn k1 k2 mb : Nat} {vb : Value} (hsn : SnAt W bn n vn) (hbn : B ≤ bn) (h0 : bn < k1) (h2 : k2 ≤ mb) (hT : TxHas 66 B W pt (fun k => k1 ≤ k ∧ k < k2) (s, [], []))
    (hc : TxC 54 W mb s vb (.slice none 0 0) (.slice none 0 0)) (hf : FlsAt W vb s.2.2.2.2.2.2) (hvb : ∀ k, vb.ownBlock = some k → k < B) (hk : k1 ≤ k2) : TwI B W bn n vn pt (.pointer (some ⟨mb, 0, none⟩)) (s, [], []) (s, [], []) := by
  have hl := hc.lt
  refine ⟨hsn, hbn, _, fun k => k = mb, hT, ⟨mb, vb, .slice none 0 0, .slice none 0 0, rfl, ⟨hc, by omega, hf, World.ownsRow_nil _ _ _ _, World.ownsRow_nil _ _ _ _, fun k hk => ⟨by have := hvb k hk; omega, by simp [Value.ownBlock], by simp [Value.ownBlock]⟩⟩, fun k hk => ?_, fun k hk => ⟨Or.inr (hvb k hk), by have := hvb k hk; omega⟩, fun k hk => ⟨by omega, by omega⟩⟩, fun k hk => ⟨by omega, by omega⟩, fun k hk => by omega⟩
  rcases hk with hk | hk | hk
  · exact hk
  · simp [Value.ownBlock] at hk
  · simp [Value.ownBlock] at hk

def TwT (w W : World) (bn : Nat) (n : Sn) (vn pt pm : Value) (t m : Tx) : Prop := TwI w.heap.size W bn n vn pt pm t m ∧ Below w.heap.size w W
theorem TwT.quiet {w W W' : World} {bn : Nat} {n : Sn} {vn pt pm : Value} {t m : Tx} (h : TwT w W bn n vn pt pm t m) (hb : Below W.heap.size W W') : TwT w W' bn n vn pt pm t m := ⟨h.1.quiet hb, h.2.trans (hb.mono h.2.size)⟩
theorem TwT.drew {w W : World} {bn : Nat} {n : Sn} {vn pt pm : Value} {t m : Tx} (h : TwT w W bn n vn pt pm t m) : TwT w W.drew bn n vn pt pm t m := h.quiet (Below.drew (Below.refl _ _))
theorem TwT.call1 {w W : World} {bn : Nat} {n : Sn} {vn pt pm : Value} {t m t' : Tx} {F : Nat} {args : Array Value} {ev : Value} (h : TwT w W bn n vn pt pm t m) (hc : ∀ FT, TxHas 66 w.heap.size W pt FT t → Calls Tryz.prog F args W fun e w' => e = .returned ev ∧ TxPost 66 w.heap.size W pt FT t' w') :
    Calls Tryz.prog F args W fun e w' => e = .returned ev ∧ TwT w w' bn n vn pt pm t' m := by
  obtain ⟨FT, FM, h1, h2, h3, h4⟩ := h.1.has
  refine (hc FT h1).mono fun e w' ⟨he, hp⟩ => ⟨he, ?_⟩
  obtain ⟨h5, h6⟩ := h.1.prog h1 h2 h3 h4 hp
  exact ⟨h5, h.2.trans h6⟩
theorem TwT.call2 {w W : World} {bn : Nat} {n : Sn} {vn pt pm : Value} {t m m' : Tx} {F : Nat} {args : Array Value} {ev : Value} (h : TwT w W bn n vn pt pm t m) (hc : ∀ FM, TxHas 54 w.heap.size W pm FM m → Calls Tryz.prog F args W fun e w' => e = .returned ev ∧ TxPost 54 w.heap.size W pm FM m' w') :
    Calls Tryz.prog F args W fun e w' => e = .returned ev ∧ TwT w w' bn n vn pt pm t m' := by
  obtain ⟨FT, FM, h1, h2, h3, h4⟩ := h.1.has
  refine (hc FM h2).mono fun e w' ⟨he, hp⟩ => ⟨he, ?_⟩
  obtain ⟨h5, h6⟩ := h.1.doc h1 h2 h3 h4 hp
  exact ⟨h5, h.2.trans h6⟩
theorem tCom_few (t : Tx) (now : Sn) (id day idx : Int) : (tCom t now id day idx).2.2.2.2.2.2.length ≤ 20000 := by
  by_cases h : (tComE t now id day idx).1 = 0
  · have h1 := (snap_rises (tCom_zero h).2.2.2.1).1
    rw [(tCom_zero h).2.2.2.2]
    omega
  · rw [tCom_bad h]
    simp [zeroS]
end Go.Proofs.YtcpplldfmmpaoaaGreatDoor
namespace Go.Proofs.YtcpplldfmmpaoaaGreatDoor
open Go.RowKit Go.Extern.Stop Go.Stop Go.Extern Go.Sort Go.Shelf Go.Lib

def lftN (fs : List Fl) (rs : List ByteArray) (n : Nat) : List Fl := fs.filter fun f => !inT (rs.take n) f.1
theorem lftN_zero (fs : List Fl) (rs : List ByteArray) : lftN fs rs 0 = fs := by
  unfold lftN
  refine List.filter_eq_self.2 fun f _ => ?_
  simp [inT]
theorem lftN_succ (fs : List Fl) {rs : List ByteArray} {n : Nat} (h : n < rs.length) : lftN fs rs (n + 1) = (lftN fs rs n).filter (offP rs[n]) := by
  unfold lftN
  rw [List.filter_filter]
  refine List.filter_congr fun f _ => ?_
  unfold inT offP
  rw [List.take_succ_eq_append_getElem h, List.any_append]
  simp only [List.any_cons, List.any_nil, Bool.or_false, Bool.not_or]
  rw [Bool.and_comm]
  congr 1
  by_cases e : f.1 = rs[n]
  · simp [e]
  · have e2 : ¬ rs[n] = f.1 := fun x => e x.symm
    simp [e, e2]
theorem lftN_all (t : Tx) (now : Sn) : lftN now.2.2.2.2.2.2 t.2.2 t.2.2.length = tLeft t now := by
  unfold lftN tLeft
  rw [List.take_length]
theorem lftN_len (fs : List Fl) (rs : List ByteArray) (n : Nat) : (lftN fs rs n).length ≤ fs.length := List.length_filter_le _ _

def plcN (xs ys : List Fl) (n : Nat) : List Fl := (ys.take n).foldl placeL xs
theorem plcN_zero (xs ys : List Fl) : plcN xs ys 0 = xs := by simp [plcN]
theorem plcN_succ (xs : List Fl) {ys : List Fl} {n : Nat} (h : n < ys.length) : plcN xs ys (n + 1) = placeL (plcN xs ys n) ys[n] := by
  unfold plcN
  rw [List.take_succ_eq_append_getElem h, List.foldl_append]
  rfl
theorem plcN_all (t : Tx) (now : Sn) : plcN (tLeft t now) (tNew t now) (tNew t now).length = tFiles t now := by
  unfold plcN tFiles
  rw [List.take_length]
theorem plcN_len (xs ys : List Fl) (n : Nat) : (plcN xs ys n).length ≤ xs.length + ys.length := by
  have h := (fold_perm (ys.take n) xs).length_eq
  unfold plcN
  rw [h, List.length_append, List.length_take]
  omega
theorem plcN_mem {xs ys : List Fl} {n : Nat} {f : Fl} (h : f ∈ plcN xs ys n) : f ∈ xs ∨ f ∈ ys := by
  have h2 := (fold_perm (ys.take n) xs).mem_iff.1 h
  rcases List.mem_append.1 h2 with h3 | h3
  · exact Or.inl h3
  · exact Or.inr (List.mem_of_mem_take h3)
theorem tNew_len (t : Tx) (now : Sn) : (tNew t now).length = t.2.1.length := by simp [tNew]
theorem tNew_get (t : Tx) (now : Sn) {n : Nat} (h : n < t.2.1.length) : (tNew t now)[n]'(by rw [tNew_len]; exact h) = atSeq t.2.1[n] (tSeq t now t.2.1[n]) := by simp [tNew]

theorem stale_yes {t : Tx} {now : Sn} {n : Nat} (h : n < t.2.2.length) (hf : findF now.2.2.2.2.2.2 t.2.2[n] < 0) : tStale t now = true := by
  unfold tStale
  rw [List.any_eq_true]
  refine ⟨_, List.getElem_mem h, ?_⟩
  rw [← findF_has]
  simp
  omega
theorem stale_no {t : Tx} {now : Sn} (h : ∀ n (h : n < t.2.2.length), ¬ findF now.2.2.2.2.2.2 t.2.2[n] < 0) : tStale t now = false := by
  unfold tStale
  rw [List.any_eq_false]
  intro p hp
  obtain ⟨n, hn, rfl⟩ := List.getElem_of_mem hp
  have := h n hn
  rw [← findF_has]
  simp
  omega
theorem there_yes {t : Tx} {now : Sn} {n : Nat} (h : n < t.2.1.length) (hf : 0 ≤ findF now.2.2.2.2.2.2 t.2.1[n].1) : tThere t now = true := by
  unfold tThere
  rw [List.any_eq_true]
  refine ⟨_, List.getElem_mem h, ?_⟩
  rw [← findF_has]
  simpa using hf
theorem there_no {t : Tx} {now : Sn} (h : ∀ n (h : n < t.2.1.length), ¬ 0 ≤ findF now.2.2.2.2.2.2 t.2.1[n].1) : tThere t now = false := by
  unfold tThere
  rw [List.any_eq_false]
  intro f hf
  obtain ⟨n, hn, rfl⟩ := List.getElem_of_mem hf
  have := h n hn
  rw [← findF_has]
  simpa using this

def opN (xs : List Fl) (n : Nat) : ByteArray := if (xs.take n).any (fun f => decide (f.2.1.data.toList = [45])) = true then bytesOf kDelete else bytesOf kAppend
theorem opN_zero (xs : List Fl) : opN xs 0 = bytesOf kAppend := by simp [opN]
theorem opN_yes {xs : List Fl} {n : Nat} (h : n < xs.length) (e : xs[n].2.1.data.toList = [45]) : opN xs (n + 1) = bytesOf kDelete := by
  unfold opN
  rw [List.take_succ_eq_append_getElem h, List.any_append]
  simp [e]
theorem opN_no {xs : List Fl} {n : Nat} (h : n < xs.length) (e : xs[n].2.1.data.toList ≠ [45]) : opN xs (n + 1) = opN xs n := by
  unfold opN
  rw [List.take_succ_eq_append_getElem h, List.any_append]
  have e2 : decide (xs[n].2.1.data.toList = [45]) = false := decide_eq_false e
  simp only [List.any_cons, List.any_nil, e2, Bool.or_false]
theorem op_all (t : Tx) : tOp t = if 0 < t.2.2.length then bytesOf kRewrite else opN t.2.1 t.2.1.length := by
  unfold tOp opN goneAny
  rw [List.take_length]
end Go.Proofs.YtcpplldfmmpaoaaGreatDoor
