/- Flat designs: when an expression is right, and how many it is. -/
import Derived.Test.YtgkfhaahcedbpaaGSX0
import Derived.Test.YtgkfhaahcedbpaaGDD
import Derived.Test.YtgkfhaahcedbpaaGSH1
namespace Go.Proofs.Ytgkfhaahcedbpaa
open Go Go.RowKit Gs
set_option linter.unusedVariables false
set_option maxRecDepth 100000
def fieldsB (op n : Int) (sg : Bool) (s : ByteArray) : Bool := (s.toList.isEmpty || decide (op = 29)) && (decide (n = 0) || decide (op = 27) || decide (30 ≤ op)) && (!sg || decide (op = 7) || decide (op = 8) || decide (op = 12) || decide (op = 13) || decide (op = 28))
def sigB (g : Signal) (op width : Int) (l : Nat) : Bool :=
  if op = 30 then decide (l = 0) && (decide (g.kind ≠ 5) && decide (width = g.width))
  else if op = 31 then decide (l = 1) && (decide (g.kind = 5) && decide (width = g.width))
  else decide (l = 1) && (decide (g.kind ≠ 5) && decide (width = 1))
def shG (sg : List Signal) (op width n : Int) (sd : Bool) (s : ByteArray) (kw : List Int) : Bool :=
  if 30 ≤ op ∧ op ≤ 32 then (if n < 0 then false else match sg[n.toNat]? with | none => false | some g => sigB g op width kw.length)
  else shapeB op width n sd s kw
def okEN (sg : List Signal) : Nat → Int → Ex → Bool
  | 0, _, _ => false
  | d + 1, deep, x => (decide (deep ≤ 400) && (decide (1 ≤ x.width) && decide (x.width ≤ 64))) && (x.kids.all (okEN sg d (deep + 1)) && (fieldsB x.op x.n x.signed x.bits && shG sg x.op x.width x.n x.signed x.bits (x.kids.map (·.width))))
def cntEN : Nat → Ex → Nat
  | 0, _ => 0
  | d + 1, x => 1 + (x.kids.map (cntEN d)).sum
theorem okEN_width {sg : List Signal} : ∀ {d : Nat} {deep : Int} {x : Ex}, okEN sg d deep x = true → 1 ≤ x.width ∧ x.width ≤ 64
  | 0, _, _, h => by cases h
  | d + 1, _, x, h => by
    unfold okEN at h
    simp only [Bool.and_eq_true, decide_eq_true_eq] at h
    exact h.1.2
theorem cntEN_pos : ∀ {d : Nat} {sg : List Signal} {deep : Int} {x : Ex}, okEN sg d deep x = true → 1 ≤ cntEN d x
  | 0, _, _, _, h => by cases h
  | d + 1, _, _, x, _ => by unfold cntEN; omega
/-- The kids so far, as a reading of widths. -/
theorem RExN.wide {d : Nat} {W : World} {B : Nat} {x : Ex} {u : List Value} (h : RExN d W B x u) : RKz W B x.width u := by
  obtain ⟨v5, hu, _, d', hr⟩ := h.cells
  obtain ⟨a, c, e⟩ := hr.slice
  exact ⟨x.op, x.n, x.signed, x.bits, a, x.kids.length, c, by rw [hu, e]⟩
theorem RS.wide {d : Nat} {W : World} {B : Nat} {xs : List Ex} {v : Value} (h : RS 6 (RExN d) W B xs v) : RS 6 RKz W B (xs.map (·.width)) v := by
  obtain ⟨a, c, hv, e1, e2, e3⟩ := h
  refine ⟨a, c, by rw [hv, List.length_map], by rw [List.length_map]; exact e1, by rw [List.length_map]; exact e2, fun hne => ?_⟩
  obtain ⟨b, o, ha, hb, he⟩ := e3 (by intro h; rw [h] at hne; exact hne rfl)
  refine ⟨b, o, ha, hb, fun i x hx => ?_⟩
  rw [List.getElem?_map] at hx
  obtain ⟨y, hy, rfl⟩ := Option.map_eq_some_iff.1 hx
  obtain ⟨u, hl, hat, hr⟩ := he i y hy
  exact ⟨u, hl, hat, hr.wide⟩
/-- All blocks but one stay. -/
structure Fx (g : Nat) (W W' : World) : Prop where
  os : W'.os = W.os
  tape : W'.tape = W.tape
  output : W'.output = W.output
  size : W.heap.size ≤ W'.heap.size
  block : ∀ k, k < W.heap.size → k ≠ g → W'.heap[k]? = W.heap[k]?
theorem Fx.refl (g : Nat) (W : World) : Fx g W W := ⟨rfl, rfl, rfl, Nat.le_refl _, fun _ _ _ => rfl⟩
theorem Fx.trans {g : Nat} {a b c : World} (h : Fx g a b) (k : Fx g b c) : Fx g a c :=
  ⟨k.os.trans h.os, k.tape.trans h.tape, k.output.trans h.output, Nat.le_trans h.size k.size, fun i hi hn => (k.block i (Nat.lt_of_lt_of_le hi h.size) hn).trans (h.block i hi hn)⟩
theorem Fx.of {g : Nat} {W W' : World} (h : Below W.heap.size W W') : Fx g W W' := ⟨h.os, h.tape, h.output, h.size, fun k hk _ => h.block k hk⟩
theorem Fx.below {g B : Nat} {w W W' : World} (h : Below B w W) (k : Fx g W W') (hg : B ≤ g) (hB : B ≤ W.heap.size) : Below B w W' :=
  ⟨k.os.trans h.os, k.tape.trans h.tape, k.output.trans h.output, Nat.le_trans h.size k.size, fun i hi => (k.block i (by omega) (by omega)).trans (h.block i hi)⟩
theorem Fx.set (g i : Nat) (W : World) (v : Value) : Fx g W (W.setCell ⟨g, i, none⟩ v) := by
  have h : Below g W (W.setCell ⟨g, i, none⟩ v) := (Below.refl g W).setCell (Nat.le_refl g) v
  exact ⟨h.os, h.tape, h.output, h.size, fun k hk hn => Below.heap_setCell W ⟨g, i, none⟩ v k hn⟩
theorem heap_cell {W W' : World} {b o : Nat} (h : W'.heap[b]? = W.heap[b]?) : W'.cell? ⟨b, o, none⟩ = W.cell? ⟨b, o, none⟩ ∧ W'.frozen? ⟨b, o, none⟩ = W.frozen? ⟨b, o, none⟩ := by
  unfold World.cell? World.frozen?
  simp [h]
theorem Fx.cell {g : Nat} {W W' : World} (h : Fx g W W') {b o : Nat} {v : Value} (hc : W.cell? ⟨b, o, none⟩ = some v) (hb : b ≠ g) : W'.cell? ⟨b, o, none⟩ = some v :=
  (heap_cell (h.block b (World.block_lt_of_cell? _ _ hc) hb)).1.trans hc
end Go.Proofs.Ytgkfhaahcedbpaa
namespace Go.Proofs.Ytgkfhaahcedbpaa
open Go.RowKit Gs
set_option linter.unusedVariables false
set_option maxRecDepth 100000
def bitOp (op : Int) : Bool := decide (op = 9) || decide (op = 10) || decide (op = 11) || decide (op = 12) || decide (op = 13) || decide (op = 17) || decide (op = 18)
def fits2 (op width : Int) (xs : List Int) : Bool := match xs with
  | [a, b] => (anyW op || decide (a = b)) && (if bitOp op then decide (width = 1) else decide (width = a))
  | _ => false
set_option maxHeartbeats 1600000 in
theorem iOperands2no (op width n : Int) (sg : Bool) (s : ByteArray) (xs : List Int) (v : Value) (w : World) (hop : op ≤ 18) (hr : RS 6 RKid w 0 xs v) (h2 : xs.length ≠ 2) :
    Calls Try.prog 59 #[.agg #[.int .i64 op, .int .i64 width, .int .i64 n, .bool sg, .string s, v]] w fun e w' => e = .returned (.bool (fits2 op width xs)) ∧ Below w.heap.size w w' := by
  have hlen := hr.len
  unfold maxLen at hlen
  obtain ⟨a, c, rfl, hk⟩ := kids_open hr
  clear hr
  have e : fits2 op width xs = false := by
    unfold fits2
    split
    · simp at h2
    · rfl
  rw [e]
  have q : ((xs.length : Int) != 2) = true := by
    have : ((xs.length : Int) == 2) = false := by rw [beqI]; exact decide_eq_false (by omega)
    simp [bne, this]
  clear hk
  go_enter Try.func59, Try.ntmps59
  go_wp2
  go_quiet (fail)
  go_wp2
  go_ret
  exact ⟨rfl, bdn (bal (brf w) _)⟩
set_option maxHeartbeats 1600000 in
theorem iOperands2ne (op width n : Int) (sg : Bool) (s : ByteArray) (x y : Int) (v : Value) (w : World) (hop : op ≤ 18) (hr : RS 6 RKid w 0 [x, y] v) (hA : anyW op = false) (hxy : x ≠ y) :
    Calls Try.prog 59 #[.agg #[.int .i64 op, .int .i64 width, .int .i64 n, .bool sg, .string s, v]] w fun e w' => e = .returned (.bool (fits2 op width [x, y])) ∧ Below w.heap.size w w' := by
  obtain ⟨a, c, rfl, hk⟩ := kids_open hr
  clear hr
  obtain ⟨b, o, rfl, k1, hc⟩ := hk 0 x rfl
  obtain ⟨b', o', e', k2, _⟩ := hk 1 y rfl
  cases e'
  clear hk
  have l1 := cell_later (bal (brf w) (.cells #[.int .i64 op, .int .i64 width, .int .i64 n, .bool sg, .string s, .slice (some ⟨b, o, none⟩) 2 c] 72)) k1
  have l2 := cell_later (bal (brf w) (.cells #[.int .i64 op, .int .i64 width, .int .i64 n, .bool sg, .string s, .slice (some ⟨b, o, none⟩) 2 c] 72)) k2
  simp only [List.length_cons, List.length_nil, Nat.zero_mul, Nat.add_zero, Nat.one_mul, Nat.zero_add] at *
  have e : fits2 op width [x, y] = false := by simp [fits2, hA, hxy]
  rw [e]
  have q : (x != y) = true := by simp [hxy]
  have SA : ∀ W, Calls Try.prog 61 #[.int .i64 op] W fun e w' => e = .returned (.bool false) ∧ w' = W := fun W => by rw [← hA]; exact iAnyW op W
  go_enter Try.func59, Try.ntmps59
  go_wp2
  go_quiet ((go_at_call 61; exact Calls.quiet_of_same (SA _)))
  go_wp2
  go_ret
  exact ⟨rfl, bdn (bal (brf w) _)⟩
set_option maxHeartbeats 3200000 in
theorem iOperands2any (op width n : Int) (sg : Bool) (s : ByteArray) (x y : Int) (v : Value) (w : World) (hop : op ≤ 18) (hr : RS 6 RKid w 0 [x, y] v) (hA : anyW op = true) :
    Calls Try.prog 59 #[.agg #[.int .i64 op, .int .i64 width, .int .i64 n, .bool sg, .string s, v]] w fun e w' => e = .returned (.bool (fits2 op width [x, y])) ∧ Below w.heap.size w w' := by
  obtain ⟨a, c, rfl, hk⟩ := kids_open hr
  clear hr
  obtain ⟨b, o, rfl, k1, hc⟩ := hk 0 x rfl
  obtain ⟨b', o', e', k2, _⟩ := hk 1 y rfl
  cases e'
  clear hk
  have l1 := cell_later (bal (brf w) (.cells #[.int .i64 op, .int .i64 width, .int .i64 n, .bool sg, .string s, .slice (some ⟨b, o, none⟩) 2 c] 72)) k1
  have l2 := cell_later (bal (brf w) (.cells #[.int .i64 op, .int .i64 width, .int .i64 n, .bool sg, .string s, .slice (some ⟨b, o, none⟩) 2 c] 72)) k2
  simp only [List.length_cons, List.length_nil, Nat.zero_mul, Nat.add_zero, Nat.one_mul, Nat.zero_add] at *
  have SA : ∀ W, Calls Try.prog 61 #[.int .i64 op] W fun e w' => e = .returned (.bool true) ∧ w' = W := fun W => by rw [← hA]; exact iAnyW op W
  by_cases hB : bitOp op = true
  · have e : fits2 op width [x, y] = (width == 1) := by simp [fits2, hA, hB, beqI]
    rw [e]
    have hc : op = 17 ∨ op = 18 := by
      simp only [bitOp, Bool.or_eq_true, decide_eq_true_eq] at hB
      simp only [anyW, Bool.and_eq_true, decide_eq_true_eq] at hA
      omega
    rcases hc with rfl | rfl
    all_goals (
      go_enter Try.func59, Try.ntmps59
      go_wp2
      go_quiet ((go_at_call 61; exact Calls.quiet_of_same (SA _)))
      go_wp2
      go_ret
      exact ⟨rfl, bdn (bal (brf w) _)⟩)
  · rw [Bool.not_eq_true] at hB
    have e : fits2 op width [x, y] = (width == x) := by simp [fits2, hA, hB, beqI]
    rw [e]
    simp only [bitOp, Bool.or_eq_false_iff, decide_eq_false_iff_not] at hB
    obtain ⟨⟨⟨⟨⟨⟨h9, h10⟩, h11⟩, h12⟩, h13⟩, h17⟩, h18⟩ := hB
    have b9 : (op == 9) = false := decide_eq_false h9
    have b10 : (op == 10) = false := decide_eq_false h10
    have b11 : (op == 11) = false := decide_eq_false h11
    have b12 : (op == 12) = false := decide_eq_false h12
    have b13 : (op == 13) = false := decide_eq_false h13
    have b17 : (op == 17) = false := decide_eq_false h17
    have b18 : (op == 18) = false := decide_eq_false h18
    go_enter Try.func59, Try.ntmps59
    go_wp2
    go_quiet ((go_at_call 61; exact Calls.quiet_of_same (SA _)))
    go_wp2
    go_quiet (fail)
    go_wp2
    go_ret
    exact ⟨rfl, bdn (bdn (bal (brf w) _))⟩
set_option maxHeartbeats 3200000 in
theorem iOperands2eq (op width n : Int) (sg : Bool) (s : ByteArray) (x y : Int) (v : Value) (w : World) (hop : op ≤ 18) (hr : RS 6 RKid w 0 [x, y] v) (hA : anyW op = false) (hxy : x = y) :
    Calls Try.prog 59 #[.agg #[.int .i64 op, .int .i64 width, .int .i64 n, .bool sg, .string s, v]] w fun e w' => e = .returned (.bool (fits2 op width [x, y])) ∧ Below w.heap.size w w' := by
  subst hxy
  obtain ⟨a, c, rfl, hk⟩ := kids_open hr
  clear hr
  obtain ⟨b, o, rfl, k1, hc⟩ := hk 0 x rfl
  obtain ⟨b', o', e', k2, _⟩ := hk 1 x rfl
  cases e'
  clear hk
  have l1 := cell_later (bal (brf w) (.cells #[.int .i64 op, .int .i64 width, .int .i64 n, .bool sg, .string s, .slice (some ⟨b, o, none⟩) 2 c] 72)) k1
  have l2 := cell_later (bal (brf w) (.cells #[.int .i64 op, .int .i64 width, .int .i64 n, .bool sg, .string s, .slice (some ⟨b, o, none⟩) 2 c] 72)) k2
  simp only [List.length_cons, List.length_nil, Nat.zero_mul, Nat.add_zero, Nat.one_mul, Nat.zero_add] at *
  have SA : ∀ W, Calls Try.prog 61 #[.int .i64 op] W fun e w' => e = .returned (.bool false) ∧ w' = W := fun W => by rw [← hA]; exact iAnyW op W
  by_cases hB : bitOp op = true
  · have e : fits2 op width [x, x] = (width == 1) := by simp [fits2, hA, hB, beqI]
    rw [e]
    have hc : op = 9 ∨ op = 10 ∨ op = 11 ∨ op = 12 ∨ op = 13 := by
      simp only [bitOp, Bool.or_eq_true, decide_eq_true_eq] at hB
      simp only [anyW, Bool.and_eq_false_iff, decide_eq_false_iff_not] at hA
      omega
    rcases hc with rfl | rfl | rfl | rfl | rfl
    all_goals (
      go_enter Try.func59, Try.ntmps59
      go_wp2
      go_quiet ((go_at_call 61; exact Calls.quiet_of_same (SA _)))
      go_wp2
      go_ret
      exact ⟨rfl, bdn (bal (brf w) _)⟩)
  · rw [Bool.not_eq_true] at hB
    have e : fits2 op width [x, x] = (width == x) := by simp [fits2, hA, hB, beqI]
    rw [e]
    simp only [bitOp, Bool.or_eq_false_iff, decide_eq_false_iff_not] at hB
    obtain ⟨⟨⟨⟨⟨⟨h9, h10⟩, h11⟩, h12⟩, h13⟩, h17⟩, h18⟩ := hB
    have b9 : (op == 9) = false := decide_eq_false h9
    have b10 : (op == 10) = false := decide_eq_false h10
    have b11 : (op == 11) = false := decide_eq_false h11
    have b12 : (op == 12) = false := decide_eq_false h12
    have b13 : (op == 13) = false := decide_eq_false h13
    have b17 : (op == 17) = false := decide_eq_false h17
    have b18 : (op == 18) = false := decide_eq_false h18
    go_enter Try.func59, Try.ntmps59
    go_wp2
    go_quiet ((go_at_call 61; exact Calls.quiet_of_same (SA _)))
    go_wp2
    go_quiet (fail)
    go_wp2
    go_ret
    exact ⟨rfl, bdn (bdn (bal (brf w) _))⟩
/-- What operandsFit answers. -/
def fitsO (op width : Int) (xs : List Int) : Bool := if 18 < op then fits1 op width xs else fits2 op width xs
theorem iOperands (op width n : Int) (sg : Bool) (s : ByteArray) (xs : List Int) (v : Value) (w : World) (hr : RS 6 RKid w 0 xs v) :
    Calls Try.prog 59 #[.agg #[.int .i64 op, .int .i64 width, .int .i64 n, .bool sg, .string s, v]] w fun e w' => e = .returned (.bool (fitsO op width xs)) ∧ Below w.heap.size w w' := by
  unfold fitsO
  by_cases h18 : 18 < op
  · rw [if_pos h18]; exact iOperands1 op width n sg s xs v w h18 hr
  rw [if_neg h18]
  by_cases h2 : xs.length = 2
  · obtain ⟨x, y, rfl⟩ : ∃ x y, xs = [x, y] := by
      match xs, h2 with
      | [x, y], _ => exact ⟨x, y, rfl⟩
    cases hA : anyW op
    · by_cases hxy : x = y
      · exact iOperands2eq op width n sg s x y v w (by omega) hr hA hxy
      · exact iOperands2ne op width n sg s x y v w (by omega) hr hA hxy
    · exact iOperands2any op width n sg s x y v w (by omega) hr hA
  · exact iOperands2no op width n sg s xs v w (by omega) hr h2
end Go.Proofs.Ytgkfhaahcedbpaa
