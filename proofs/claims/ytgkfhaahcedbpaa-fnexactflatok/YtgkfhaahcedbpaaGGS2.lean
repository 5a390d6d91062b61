/- The specification's shape: choices, parts, sizes. -/
import Derived.Test.YtgkfhaahcedbpaaGSH1
import Derived.Test.YtgkfhaahcedbpaaGDD
import Derived.Test.YtgkfhaahcedbpaaGI1
import Derived.Laws.MakeOwn
namespace Go.Proofs.Ytgkfhaahcedbpaa
open Go.RowKit Gs
set_option linter.unusedVariables false
set_option linter.unusedSimpArgs false
set_option maxRecDepth 100000
set_option maxHeartbeats 8000000 in
theorem sSh25_no (width n : Int) (sg : Bool) (s : ByteArray) (xs : List Int) (v : Value) (p : Value) (w : World) (h : xs.length ≠ 3) (hr : RS 6 RKz w 0 xs v) :
    Calls Try.prog 35 #[p, .agg #[.int .i64 25, .int .i64 width, .int .i64 n, .bool sg, .string s, v]] w fun e w' => e = .returned (.bool (false)) ∧ Below w.heap.size w w' := by
  have hlen := hr.len
  unfold maxLen at hlen
  obtain ⟨a, c, rfl⟩ := hr.slice
  clear hr
  have q : ((xs.length : Int) == 3) = false := decide_eq_false (by omega)
  go_enter Try.func35, Try.ntmps35
  go_wp2
  go_quiet (fail)
  go_wp2
  go_ret
  exact ⟨rfl, bdn (bal (brf w) _)⟩
set_option maxHeartbeats 8000000 in
theorem sSh25 (width n : Int) (sg : Bool) (s : ByteArray) (x y z : Int) (v : Value) (p : Value) (w : World) (hr : RS 6 RKz w 0 [x, y, z] v) :
    Calls Try.prog 35 #[p, .agg #[.int .i64 25, .int .i64 width, .int .i64 n, .bool sg, .string s, v]] w fun e w' => e = .returned (.bool ((y == width) && (z == width))) ∧ Below w.heap.size w w' := by
  obtain ⟨a, c, rfl, hk⟩ := kzs_open hr
  clear hr
  obtain ⟨b, o, rfl, k0, hc⟩ := hk 0 x rfl
  obtain ⟨b1, o1, e1, k1, _⟩ := hk 1 y rfl
  cases e1
  obtain ⟨b2, o2, e2, k2, _⟩ := hk 2 z rfl
  cases e2
  clear hk
  have l0 := cell_later (bal (brf w) (.cells #[.int .i64 25, .int .i64 width, .int .i64 n, .bool sg, .string s, .slice (some ⟨b, o, none⟩) 3 c] 72)) k0
  have l1 := cell_later (bal (brf w) (.cells #[.int .i64 25, .int .i64 width, .int .i64 n, .bool sg, .string s, .slice (some ⟨b, o, none⟩) 3 c] 72)) k1
  have l2 := cell_later (bal (brf w) (.cells #[.int .i64 25, .int .i64 width, .int .i64 n, .bool sg, .string s, .slice (some ⟨b, o, none⟩) 3 c] 72)) k2
  simp only [List.length_cons, List.length_nil, Nat.zero_mul, Nat.add_zero, Nat.one_mul, Nat.zero_add] at *
  cases c1 : y == width
  · go_enter Try.func35, Try.ntmps35
    go_wp2
    go_quiet (fail)
    go_wp2
    go_ret
    exact ⟨rfl, bdn (bal (brf w) _)⟩
  · skip
    go_enter Try.func35, Try.ntmps35
    go_wp2
    go_quiet (fail)
    go_wp2
    go_ret
    exact ⟨rfl, bdn (bal (brf w) _)⟩
set_option maxHeartbeats 8000000 in
theorem sSh27_no (width n : Int) (sg : Bool) (s : ByteArray) (xs : List Int) (v : Value) (p : Value) (w : World) (h : xs.length ≠ 1) (hr : RS 6 RKz w 0 xs v) :
    Calls Try.prog 35 #[p, .agg #[.int .i64 27, .int .i64 width, .int .i64 n, .bool sg, .string s, v]] w fun e w' => e = .returned (.bool (false)) ∧ Below w.heap.size w w' := by
  have hlen := hr.len
  unfold maxLen at hlen
  obtain ⟨a, c, rfl⟩ := hr.slice
  clear hr
  have q : ((xs.length : Int) == 1) = false := decide_eq_false (by omega)
  go_enter Try.func35, Try.ntmps35
  go_wp2
  go_quiet (fail)
  go_wp2
  go_ret
  exact ⟨rfl, bdn (bal (brf w) _)⟩
set_option maxHeartbeats 8000000 in
theorem sSh28_no (width n : Int) (sg : Bool) (s : ByteArray) (xs : List Int) (v : Value) (p : Value) (w : World) (h : xs.length ≠ 1) (hr : RS 6 RKz w 0 xs v) :
    Calls Try.prog 35 #[p, .agg #[.int .i64 28, .int .i64 width, .int .i64 n, .bool sg, .string s, v]] w fun e w' => e = .returned (.bool (false)) ∧ Below w.heap.size w w' := by
  have hlen := hr.len
  unfold maxLen at hlen
  obtain ⟨a, c, rfl⟩ := hr.slice
  clear hr
  have q : ((xs.length : Int) == 1) = false := decide_eq_false (by omega)
  go_enter Try.func35, Try.ntmps35
  go_wp2
  go_quiet (fail)
  go_wp2
  go_ret
  exact ⟨rfl, bdn (bal (brf w) _)⟩
end Go.Proofs.Ytgkfhaahcedbpaa
namespace Go.Proofs.Ytgkfhaahcedbpaa
open Go.RowKit Gs
set_option linter.unusedVariables false
set_option linter.unusedSimpArgs false
set_option maxRecDepth 100000
set_option maxHeartbeats 8000000 in
theorem sSh27 (width n : Int) (sg : Bool) (s : ByteArray) (x : Int) (v : Value) (p : Value) (w : World) (hw1 : 1 ≤ width) (hw2 : width ≤ 64) (hr : RS 6 RKz w 0 [x] v) :
    Calls Try.prog 35 #[p, .agg #[.int .i64 27, .int .i64 width, .int .i64 n, .bool sg, .string s, v]] w fun e w' => e = .returned (.bool (decide (0 ≤ n) && decide (n ≤ 64) && decide (n + width ≤ x))) ∧ Below w.heap.size w w' := by
  obtain ⟨a, c, rfl, hk⟩ := kzs_open hr
  clear hr
  obtain ⟨b, o, rfl, k0, hc⟩ := hk 0 x rfl
  clear hk
  have l0 := cell_later (bal (brf w) (.cells #[.int .i64 27, .int .i64 width, .int .i64 n, .bool sg, .string s, .slice (some ⟨b, o, none⟩) 1 c] 72)) k0
  simp only [List.length_cons, List.length_nil, Nat.zero_mul, Nat.add_zero, Nat.one_mul, Nat.zero_add] at *
  by_cases h0 : 0 ≤ n
  · by_cases h64 : n ≤ 64
    · rw [decide_eq_true h0, decide_eq_true h64]
      have hwr : IntKind.i64.wrap (n + width) = n + width := by rw [IntKind.wrap_i64]; omega
      go_enter Try.func35, Try.ntmps35
      go_wp2
      go_quiet (fail)
      go_wp2
      go_ret
      refine ⟨?_, bdn (bal (brf w) _)⟩
      first | rfl | simp
    · have hd : decide (n ≤ 64) = false := decide_eq_false h64
      rw [decide_eq_true h0, hd]
      clear h64
      go_enter Try.func35, Try.ntmps35
      go_wp2
      go_quiet (fail)
      go_wp2
      go_ret
      exact ⟨rfl, bdn (bal (brf w) _)⟩
  · have hd : decide (0 ≤ n) = false := decide_eq_false h0
    rw [hd]
    clear h0
    go_enter Try.func35, Try.ntmps35
    go_wp2
    go_quiet (fail)
    go_wp2
    go_ret
    exact ⟨rfl, bdn (bal (brf w) _)⟩
end Go.Proofs.Ytgkfhaahcedbpaa
namespace Go.Proofs.Ytgkfhaahcedbpaa
open Go.RowKit Gs
set_option linter.unusedVariables false
set_option linter.unusedSimpArgs false
set_option maxRecDepth 100000
set_option maxHeartbeats 8000000 in
theorem sSh28 (width n : Int) (sg : Bool) (s : ByteArray) (x : Int) (v : Value) (p : Value) (w : World) (hr : RS 6 RKz w 0 [x] v) :
    Calls Try.prog 35 #[p, .agg #[.int .i64 28, .int .i64 width, .int .i64 n, .bool sg, .string s, v]] w fun e w' => e = .returned (.bool ((x != width) && (!sg || decide (x < width)))) ∧ Below w.heap.size w w' := by
  obtain ⟨a, c, rfl, hk⟩ := kzs_open hr
  clear hr
  obtain ⟨b, o, rfl, k0, hc⟩ := hk 0 x rfl
  clear hk
  have l0 := cell_later (bal (brf w) (.cells #[.int .i64 28, .int .i64 width, .int .i64 n, .bool sg, .string s, .slice (some ⟨b, o, none⟩) 1 c] 72)) k0
  simp only [List.length_cons, List.length_nil, Nat.zero_mul, Nat.add_zero, Nat.one_mul, Nat.zero_add] at *
  cases hx : x != width
  · go_enter Try.func35, Try.ntmps35
    go_wp2
    go_quiet (fail)
    go_wp2
    go_ret
    exact ⟨rfl, bdn (bal (brf w) _)⟩
  · cases sg
    · go_enter Try.func35, Try.ntmps35
      go_wp2
      go_quiet (fail)
      go_wp2
      go_ret
      exact ⟨rfl, bdn (bal (brf w) _)⟩
    · go_enter Try.func35, Try.ntmps35
      go_wp2
      go_quiet (fail)
      go_wp2
      go_ret
      exact ⟨rfl, bdn (bal (brf w) _)⟩
end Go.Proofs.Ytgkfhaahcedbpaa
namespace Go.Proofs.Ytgkfhaahcedbpaa
open Go.RowKit Gs
set_option linter.unusedVariables false
set_option linter.unusedSimpArgs false
set_option maxRecDepth 100000
set_option maxHeartbeats 8000000 in
theorem sSh29 (width n : Int) (sg : Bool) (s : ByteArray) (a : Option Addr) (l c : Nat) (p : Value) (w : World) (hl : l ≤ maxLen) (hs : s.size ≤ maxLen) :
    Calls Try.prog 35 #[p, .agg #[.int .i64 29, .int .i64 width, .int .i64 n, .bool sg, .string s, .slice a l c]] w fun e w' => e = .returned (.bool (decide (l = 0) && Vb.okV (L s) && ((s.size : Int) == width))) ∧ Below w.heap.size w w' := by
  have BO := hide (fun W => sBitsOK s W hs)
  unfold maxLen at hl hs
  by_cases h0 : l = 0
  · subst h0
    cases hv : Vb.okV (L s)
    · go_enter Try.func35, Try.ntmps35
      go_wp2_with (first | (go_at_call 11; refine (unhide BO _).mono ?_; rintro e W1 ⟨rfl, rfl⟩; rw [hv]))
      go_ret
      exact ⟨rfl, bal (brf w) _⟩
    · go_enter Try.func35, Try.ntmps35
      go_wp2_with (first | (go_at_call 11; refine (unhide BO _).mono ?_; rintro e W1 ⟨rfl, rfl⟩; rw [hv]))
      go_ret
      exact ⟨rfl, bal (brf w) _⟩
  · rw [decide_eq_false h0]
    have q : ((l : Int) == 0) = false := decide_eq_false (by omega)
    go_enter Try.func35, Try.ntmps35
    go_wp2
    go_ret
    exact ⟨rfl, bal (brf w) _⟩
end Go.Proofs.Ytgkfhaahcedbpaa
namespace Go.Proofs.Ytgkfhaahcedbpaa
open Go.RowKit Gs
set_option linter.unusedVariables false
set_option linter.unusedSimpArgs false
set_option maxRecDepth 100000
set_option maxHeartbeats 8000000 in
theorem sShLow (op width n : Int) (sg : Bool) (s : ByteArray) (a : Option Addr) (l c : Nat) (p : Value) (w : World) (h : op < 1) :
    Calls Try.prog 35 #[p, .agg #[.int .i64 op, .int .i64 width, .int .i64 n, .bool sg, .string s, .slice a l c]] w fun e w' => e = .returned (.bool false) ∧ Below w.heap.size w w' := by
  have hneq : ∀ k : Int, 1 ≤ k → (op == k) = false := fun k hk => decide_eq_false (by omega)
  have e17 := hneq 17 (by omega)
  have e18 := hneq 18 (by omega)
  have e19 := hneq 19 (by omega)
  have e20 := hneq 20 (by omega)
  have e25 := hneq 25 (by omega)
  have e26 := hneq 26 (by omega)
  have e27 := hneq 27 (by omega)
  have e28 := hneq 28 (by omega)
  have e29 := hneq 29 (by omega)
  clear hneq
  have h30 : op < 30 := by omega
  go_enter Try.func35, Try.ntmps35
  go_wp2
  go_quiet (fail)
  go_wp2
  go_ret
  exact ⟨rfl, bdn (bal (brf w) _)⟩
end Go.Proofs.Ytgkfhaahcedbpaa
namespace Go.Proofs.Ytgkfhaahcedbpaa
open Go.RowKit Gs
set_option linter.unusedVariables false
set_option linter.unusedSimpArgs false
set_option maxRecDepth 100000
set_option maxHeartbeats 8000000 in
theorem sShHigh (op width n : Int) (sg : Bool) (s : ByteArray) (a : Option Addr) (l c : Nat) (p : Value) (w : World) (h : 32 < op) :
    Calls Try.prog 35 #[p, .agg #[.int .i64 op, .int .i64 width, .int .i64 n, .bool sg, .string s, .slice a l c]] w fun e w' => e = .returned (.bool false) ∧ Below w.heap.size w w' := by
  have hneq : ∀ k : Int, k ≤ 32 → (op == k) = false := fun k hk => decide_eq_false (by omega)
  have e17 := hneq 17 (by omega)
  have e18 := hneq 18 (by omega)
  have e19 := hneq 19 (by omega)
  have e20 := hneq 20 (by omega)
  have e25 := hneq 25 (by omega)
  have e26 := hneq 26 (by omega)
  have e27 := hneq 27 (by omega)
  have e28 := hneq 28 (by omega)
  have e29 := hneq 29 (by omega)
  clear hneq
  have d8 : decide (op ≤ 8) = false := decide_eq_false (by omega)
  have d13 : decide (op ≤ 13) = false := decide_eq_false (by omega)
  have d16 : decide (op ≤ 16) = false := decide_eq_false (by omega)
  have d24 : decide (op ≤ 24) = false := decide_eq_false (by omega)
  have d1 : decide (1 ≤ op) = true := decide_eq_true (by omega)
  have d9 : decide (9 ≤ op) = true := decide_eq_true (by omega)
  have d14 : decide (14 ≤ op) = true := decide_eq_true (by omega)
  have d21 : decide (21 ≤ op) = true := decide_eq_true (by omega)
  have d30 : decide (op < 30) = false := decide_eq_false (by omega)
  have d32 : decide (32 < op) = true := decide_eq_true (by omega)
  go_enter Try.func35, Try.ntmps35
  go_wp2
  go_quiet (fail)
  go_wp2
  go_ret
  exact ⟨rfl, bdn (bal (brf w) _)⟩
end Go.Proofs.Ytgkfhaahcedbpaa
namespace Go.Proofs.Ytgkfhaahcedbpaa.Gs
open Go Go.RowKit
set_option linter.unusedVariables false
/-- Cells one behind the other are set. -/
def setK (w : World) (g o : Nat) : List Value → World
  | [] => w
  | v :: vs => setK (w.setCell ⟨g, o, none⟩ v) g (o + 1) vs
theorem ne_addr {b g o p : Nat} (h : b ≠ g ∨ p ≠ o) : (⟨g, o, none⟩ : Addr) ≠ ⟨b, p, none⟩ := fun e => by
  injection e with e1 e2
  rcases h with h | h
  · exact h e1.symm
  · exact h e2.symm
theorem setK_other : ∀ (vs : List Value) (w : World) (g o b p : Nat), (b ≠ g ∨ p < o ∨ o + vs.length ≤ p) → (setK w g o vs).cell? ⟨b, p, none⟩ = w.cell? ⟨b, p, none⟩
  | [], _, _, _, _, _, _ => rfl
  | v :: vs, w, g, o, b, p, h => by
    simp only [List.length_cons] at h
    rw [setK, setK_other vs _ g (o + 1) b p (by omega)]
    exact World.cell?_setCell_other (w := w) (a := ⟨g, o, none⟩) (b := ⟨b, p, none⟩) (v := v) (ne_addr (by omega))
theorem setK_frozen : ∀ (vs : List Value) (w : World) (g o : Nat) (a : Addr), (setK w g o vs).frozen? a = w.frozen? a
  | [], _, _, _, _ => rfl
  | v :: vs, w, g, o, a => by rw [setK, setK_frozen vs]; simp
theorem setK_some : ∀ (vs : List Value) (w : World) (g o b p : Nat), (∃ x, w.cell? ⟨b, p, none⟩ = some x) → ∃ x, (setK w g o vs).cell? ⟨b, p, none⟩ = some x
  | [], _, _, _, _, _, h => h
  | v :: vs, w, g, o, b, p, h => by
    rw [setK]
    refine setK_some vs _ g (o + 1) b p ?_
    obtain ⟨x, hx⟩ := h
    by_cases e : b = g ∧ p = o
    · obtain ⟨rfl, rfl⟩ := e
      exact ⟨v, World.cell?_setCell_same (w := w) (a := ⟨b, p, none⟩) (v := v) hx⟩
    · exact ⟨x, by rw [World.cell?_setCell_other (w := w) (a := ⟨g, o, none⟩) (b := ⟨b, p, none⟩) (v := v) (ne_addr (by omega))]; exact hx⟩
theorem setK_at : ∀ (vs : List Value) (w : World) (g o : Nat), (∀ q, q < vs.length → ∃ x, w.cell? ⟨g, o + q, none⟩ = some x) → At (setK w g o vs) g o vs
  | [], _, _, _, _ => fun j y hj => by simp at hj
  | v :: vs, w, g, o, h => by
    intro j y hj
    rw [setK]
    cases j with
    | zero =>
      simp at hj; subst hj
      rw [setK_other vs _ g (o + 1) g (o + 0) (by omega)]
      obtain ⟨x, hx⟩ := h 0 (by simp)
      exact World.cell?_setCell_same (w := w) (a := ⟨g, o, none⟩) (v := v) hx
    | succ j =>
      have hj' : vs[j]? = some y := by simpa using hj
      have := setK_at vs (w.setCell ⟨g, o, none⟩ v) g (o + 1) (fun q hq => ?_) j y hj'
      · rwa [show o + 1 + j = o + (j + 1) by omega] at this
      · have h1 := h (q + 1) (by simpa using hq)
        rw [show o + (q + 1) = o + 1 + q by omega] at h1
        exact setK_some [v] w g o g (o + 1 + q) h1
theorem setK_below : ∀ (vs : List Value) {B : Nat} {w W : World} {g o : Nat}, Below B w W → B ≤ g → Below B w (setK W g o vs)
  | [], _, _, _, _, _, h, _ => h
  | v :: vs, B, w, W, g, o, h, hg => by
    rw [setK]
    exact setK_below vs (h.setCell (p := ⟨g, o, none⟩) hg v) hg
theorem setK_size : ∀ (vs : List Value) (w : World) (g o : Nat), (setK w g o vs).heap.size = w.heap.size
  | [], _, _, _ => rfl
  | v :: vs, w, g, o => by rw [setK, setK_size vs]; simp
/-- The cells of a row that may be written. -/
def TP (W : World) (g m : Nat) : Prop := ∀ i, i < m → (∃ x, W.cell? ⟨g, i, none⟩ = some x) ∧ W.frozen? ⟨g, i, none⟩ = false
/-- The first n elements of a row hold those of a list. -/
def NR {α : Type} (k : Nat) (R : Rd α) (W : World) (B g n : Nat) (xs : List α) : Prop := ∀ i x, i < n → xs[i]? = some x → ∃ u, u.length = k ∧ At W g (i * k) u ∧ R W B x u
theorem TP.later {W V : World} {g m : Nat} (h : TP W g m) (hb : Below W.heap.size W V) : TP V g m := fun i hi => by
  obtain ⟨⟨x, hx⟩, hf⟩ := h i hi
  exact ⟨⟨x, cell_later hb hx⟩, frozen_later hb hx hf⟩
theorem TP.set {W : World} {g m o : Nat} {vs : List Value} (h : TP W g m) : TP (setK W g o vs) g m := fun i hi => by
  obtain ⟨hx, hf⟩ := h i hi
  exact ⟨setK_some vs W g o g i hx, by rw [setK_frozen]; exact hf⟩
theorem NR.later {α : Type} {k : Nat} {R : Rd α} (hR : Keeps R) {W V : World} {B g n : Nat} {xs : List α} (h : NR k R W B g n xs) (hb : Below W.heap.size W V) : NR k R V B g n xs := fun i x hi hx => by
  obtain ⟨u, h1, h2, h3⟩ := h i x hi hx
  exact ⟨u, h1, fun j y hj => cell_later hb (h2 j y hj), hR _ _ _ _ _ (later_cells hb B) h3⟩
/-- One element more is written. -/
theorem NR.step {α : Type} {k : Nat} {R : Rd α} (hR : Keeps R) {V : World} {B g j m : Nat} {xs : List α} {x : α} {u : List Value} (hTP : TP V g m) (h : NR k R V B g j xs) (hg : g < B) (hx : xs[j]? = some x) (hu : u.length = k) (hr : R V B x u) (hm : j * k + k ≤ m) : NR k R (setK V g (j * k) u) B g (j + 1) xs := by
  have hkeep : ∀ b o y, B ≤ b → V.cell? ⟨b, o, none⟩ = some y → (setK V g (j * k) u).cell? ⟨b, o, none⟩ = some y := fun b o y hb hc => by
    rw [setK_other u V g (j * k) b o (.inl (by omega))]; exact hc
  intro i y hi hy
  by_cases e : i = j
  · subst e
    rw [hx] at hy
    cases hy
    exact ⟨u, hu, setK_at u V g (i * k) (fun q hq => (hTP (i * k + q) (by omega)).1), hR _ _ _ _ _ hkeep hr⟩
  · obtain ⟨v, h1, h2, h3⟩ := h i y (by omega) hy
    refine ⟨v, h1, fun q z hz => ?_, hR _ _ _ _ _ hkeep h3⟩
    have hq : q < k := by rw [← h1]; exact (List.getElem?_eq_some_iff.1 hz).1
    have hij : i * k + k ≤ j * k := by
      have : (i + 1) * k ≤ j * k := Nat.mul_le_mul_right k (by omega)
      rw [Nat.add_mul, Nat.one_mul] at this
      exact this
    rw [setK_other u V g (j * k) g (i * k + q) (.inr (.inl (by omega)))]
    exact h2 q z hz
theorem NR.zero {α : Type} {k : Nat} {R : Rd α} {W : World} {B g : Nat} {xs : List α} : NR k R W B g 0 xs := fun i x hi => absurd hi (Nat.not_lt_zero _)
theorem NR.done {α : Type} {k : Nat} {R : Rd α} (hL : Lowers R) {W : World} {B g : Nat} {xs : List α} (h : NR k R W (g + 1) g xs.length xs) (hn : xs.length ≤ maxLen) (hB : B ≤ g) : RS k R W B xs (.slice (some ⟨g, 0, none⟩) xs.length xs.length) :=
  ⟨_, _, rfl, Nat.le_refl _, hn, fun _ => ⟨g, 0, rfl, hB, fun i x hx => by
    obtain ⟨u, h1, h2, h3⟩ := h i x (List.getElem?_eq_some_iff.1 hx).1 hx
    exact ⟨u, h1, by rw [Nat.zero_add]; exact h2, hL _ _ _ _ _ (by omega) h3⟩⟩⟩
theorem TP_made (w : World) (M : Array Value) (t : TypeId) (m : Nat) (h : M.size = m) : TP (w.alloc (.cells M t)) w.heap.size m := fun i hi => by
  refine ⟨⟨M[i]'(by omega), ?_⟩, by simp⟩
  rw [World.cell?_alloc_new]; exact Array.getElem?_eq_getElem (by omega)
theorem RS.set {α : Type} {k : Nat} {R : Rd α} (hR : Keeps R) {W : World} {B : Nat} {xs : List α} {v u : Value} {g o : Nat} (h : RS k R W B xs v) (hg : g < B) : RS k R (W.setCell ⟨g, o, none⟩ u) B xs v :=
  h.keep hR fun b p y hb hc => by
    rw [World.cell?_setCell_other (w := W) (a := ⟨g, o, none⟩) (b := ⟨b, p, none⟩) (v := u) (ne_addr (.inl (by omega)))]; exact hc
end Go.Proofs.Ytgkfhaahcedbpaa.Gs
