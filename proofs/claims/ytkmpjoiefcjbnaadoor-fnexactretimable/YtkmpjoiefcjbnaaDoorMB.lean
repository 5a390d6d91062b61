/- operandsFit, of one operand. -/
import Derived.Test.YtkmpjoiefcjbnaaDoorM6
import Derived.BigQuiet
namespace Go.Proofs.YtkmpjoiefcjbnaaDoor
open Go.RowKit Gs
set_option linter.unusedVariables false
set_option maxRecDepth 100000
theorem bdn {w w' : World} {n : Nat} (h : Below w.heap.size w w') : Below w.heap.size w (w'.drewN n) := below_drewN h n
theorem beqI (a b : Int) : (a == b) = decide (a = b) := rfl
/-- A list's slice as the program sees it: its length, and the kids' widths in memory. -/
theorem kids_open {xs : List Int} {v : Value} {w : World} (hr : RS 6 RKid w 0 xs v) : ∃ a c, v = .slice a xs.length c ∧ ∀ j x, xs[j]? = some x → ∃ b o, a = some ⟨b, o, none⟩ ∧ w.cell? ⟨b, o + j * 6 + 1, none⟩ = some (.int .i64 x) ∧ xs.length ≤ c := by
  rcases hr.open with ⟨rfl, a, c, rfl⟩ | ⟨b, o, c, rfl, hc, hn, _, hcs⟩
  · exact ⟨a, c, rfl, fun j x h => by simp at h⟩
  · refine ⟨_, c, rfl, fun j x h => ⟨b, o, rfl, ?_, hc⟩⟩
    obtain ⟨u, hul, hat, hrx⟩ := hcs j x h
    unfold RKid at hrx
    subst hrx
    exact hat.get (j := 1) rfl
def fits1 (op width : Int) (xs : List Int) : Bool := match xs with
  | [k] => if 20 < op then decide (width = 1) else decide (width = k)
  | _ => false
set_option maxHeartbeats 1600000 in
theorem iOperands1 (op width n : Int) (sg : Bool) (s : ByteArray) (xs : List Int) (v : Value) (w : World) (hop : 18 < op) (hr : RS 6 RKid w 0 xs v) :
    Calls Tryd.prog 94 #[.agg #[.int .i64 op, .int .i64 width, .int .i64 n, .bool sg, .string s, v]] w fun e w' => e = .returned (.bool (fits1 op width xs)) ∧ Below w.heap.size w w' := by
  have hlen := hr.len
  unfold maxLen at hlen
  obtain ⟨a, c, rfl, hk⟩ := kids_open hr
  clear hr
  by_cases h1 : xs.length = 1
  · obtain ⟨k, rfl⟩ := List.length_eq_one_iff.1 h1
    obtain ⟨b, o, rfl, k1, hc⟩ := hk 0 k rfl
    clear hk
    have k2 := cell_later (bal (brf w) (.cells #[.int .i64 op, .int .i64 width, .int .i64 n, .bool sg, .string s, .slice (some ⟨b, o, none⟩) 1 c] 104)) k1
    simp only [List.length_singleton, Nat.zero_mul, Nat.add_zero] at *
    by_cases h20 : 20 < op
    · go_enter Tryd.func94, Tryd.ntmps94
      cases hw : width == 1
      all_goals (
        go_wp2
        go_quiet (fail)
        go_wp2
        go_ret
        refine ⟨?_, bdn (bal (brf w) _)⟩
        rw [beqI] at hw
        simp [fits1, h20, hw])
    · have h20' : op ≤ 20 := by omega
      go_enter Tryd.func94, Tryd.ntmps94
      cases hw : width == k
      all_goals (
        go_wp2
        go_quiet (fail)
        go_wp2
        go_ret
        refine ⟨?_, bdn (bal (brf w) _)⟩
        rw [beqI] at hw
        show Ending.returned (.bool _) = .returned (.bool (if 20 < op then decide (width = 1) else decide (width = k)))
        rw [if_neg (by omega), hw])
  · have e : fits1 op width xs = false := by
      unfold fits1
      split
      · simp at h1
      · rfl
    rw [e]
    have q : ((xs.length : Int) == 1) = false := by rw [beqI]; exact decide_eq_false (by omega)
    clear hk
    go_enter Tryd.func94, Tryd.ntmps94
    by_cases h20 : 20 < op
    all_goals (
      go_wp2
      go_quiet (fail)
      go_wp2
      go_ret
      exact ⟨rfl, bdn (bal (brf w) _)⟩)
end Go.Proofs.YtkmpjoiefcjbnaaDoor
namespace Go.Proofs.YtkmpjoiefcjbnaaDoor
open Go.RowKit Gs
set_option linter.unusedVariables false
set_option maxRecDepth 100000
def bitOp (op : Int) : Bool := decide (op = 9) || decide (op = 10) || decide (op = 11) || decide (op = 12) || decide (op = 13) || decide (op = 17) || decide (op = 18)
def fits2 (op width : Int) (xs : List Int) : Bool := match xs with
  | [a, b] => (anyW op || decide (a = b)) && (if bitOp op then decide (width = 1) else decide (width = a))
  | _ => false
set_option maxHeartbeats 1600000 in
theorem iOperands2no (op width n : Int) (sg : Bool) (s : ByteArray) (xs : List Int) (v : Value) (w : World) (hop : op ≤ 18) (hr : RS 6 RKid w 0 xs v) (h2 : xs.length ≠ 2) :
    Calls Tryd.prog 94 #[.agg #[.int .i64 op, .int .i64 width, .int .i64 n, .bool sg, .string s, v]] w fun e w' => e = .returned (.bool (fits2 op width xs)) ∧ Below w.heap.size w w' := by
  have hlen := hr.len
  unfold maxLen at hlen
  obtain ⟨a, c, rfl, hk⟩ := kids_open hr
  clear hr
  have e : fits2 op width xs = false := by
    unfold fits2
    split
    · simp at h2
    · rfl
  rw [e]
  have q : ((xs.length : Int) != 2) = true := by
    have : ((xs.length : Int) == 2) = false := by rw [beqI]; exact decide_eq_false (by omega)
    simp [bne, this]
  clear hk
  go_enter Tryd.func94, Tryd.ntmps94
  go_wp2
  go_quiet (fail)
  go_wp2
  go_ret
  exact ⟨rfl, bdn (bal (brf w) _)⟩
set_option maxHeartbeats 1600000 in
theorem iOperands2ne (op width n : Int) (sg : Bool) (s : ByteArray) (x y : Int) (v : Value) (w : World) (hop : op ≤ 18) (hr : RS 6 RKid w 0 [x, y] v) (hA : anyW op = false) (hxy : x ≠ y) :
    Calls Tryd.prog 94 #[.agg #[.int .i64 op, .int .i64 width, .int .i64 n, .bool sg, .string s, v]] w fun e w' => e = .returned (.bool (fits2 op width [x, y])) ∧ Below w.heap.size w w' := by
  obtain ⟨a, c, rfl, hk⟩ := kids_open hr
  clear hr
  obtain ⟨b, o, rfl, k1, hc⟩ := hk 0 x rfl
  obtain ⟨b', o', e', k2, _⟩ := hk 1 y rfl
  cases e'
  clear hk
  have l1 := cell_later (bal (brf w) (.cells #[.int .i64 op, .int .i64 width, .int .i64 n, .bool sg, .string s, .slice (some ⟨b, o, none⟩) 2 c] 104)) k1
  have l2 := cell_later (bal (brf w) (.cells #[.int .i64 op, .int .i64 width, .int .i64 n, .bool sg, .string s, .slice (some ⟨b, o, none⟩) 2 c] 104)) k2
  simp only [List.length_cons, List.length_nil, Nat.zero_mul, Nat.add_zero, Nat.one_mul, Nat.zero_add] at *
  have e : fits2 op width [x, y] = false := by simp [fits2, hA, hxy]
  rw [e]
  have q : (x != y) = true := by simp [hxy]
  have SA : ∀ W, Calls Tryd.prog 98 #[.int .i64 op] W fun e w' => e = .returned (.bool false) ∧ w' = W := fun W => by rw [← hA]; exact iAnyW op W
  go_enter Tryd.func94, Tryd.ntmps94
  go_wp2
  go_quiet ((go_at_call 98; exact Calls.quiet_of_same (SA _)))
  go_wp2
  go_ret
  exact ⟨rfl, bdn (bal (brf w) _)⟩
set_option maxHeartbeats 3200000 in
theorem iOperands2any (op width n : Int) (sg : Bool) (s : ByteArray) (x y : Int) (v : Value) (w : World) (hop : op ≤ 18) (hr : RS 6 RKid w 0 [x, y] v) (hA : anyW op = true) :
    Calls Tryd.prog 94 #[.agg #[.int .i64 op, .int .i64 width, .int .i64 n, .bool sg, .string s, v]] w fun e w' => e = .returned (.bool (fits2 op width [x, y])) ∧ Below w.heap.size w w' := by
  obtain ⟨a, c, rfl, hk⟩ := kids_open hr
  clear hr
  obtain ⟨b, o, rfl, k1, hc⟩ := hk 0 x rfl
  obtain ⟨b', o', e', k2, _⟩ := hk 1 y rfl
  cases e'
  clear hk
  have l1 := cell_later (bal (brf w) (.cells #[.int .i64 op, .int .i64 width, .int .i64 n, .bool sg, .string s, .slice (some ⟨b, o, none⟩) 2 c] 104)) k1
  have l2 := cell_later (bal (brf w) (.cells #[.int .i64 op, .int .i64 width, .int .i64 n, .bool sg, .string s, .slice (some ⟨b, o, none⟩) 2 c] 104)) k2
  simp only [List.length_cons, List.length_nil, Nat.zero_mul, Nat.add_zero, Nat.one_mul, Nat.zero_add] at *
  have SA : ∀ W, Calls Tryd.prog 98 #[.int .i64 op] W fun e w' => e = .returned (.bool true) ∧ w' = W := fun W => by rw [← hA]; exact iAnyW op W
  by_cases hB : bitOp op = true
  · have e : fits2 op width [x, y] = (width == 1) := by simp [fits2, hA, hB, beqI]
    rw [e]
    have hc : op = 17 ∨ op = 18 := by
      simp only [bitOp, Bool.or_eq_true, decide_eq_true_eq] at hB
      simp only [anyW, Bool.and_eq_true, decide_eq_true_eq] at hA
      omega
    rcases hc with rfl | rfl
    all_goals (
      go_enter Tryd.func94, Tryd.ntmps94
      go_wp2
      go_quiet ((go_at_call 98; exact Calls.quiet_of_same (SA _)))
      go_wp2
      go_ret
      exact ⟨rfl, bdn (bal (brf w) _)⟩)
  · rw [Bool.not_eq_true] at hB
    have e : fits2 op width [x, y] = (width == x) := by simp [fits2, hA, hB, beqI]
    rw [e]
    simp only [bitOp, Bool.or_eq_false_iff, decide_eq_false_iff_not] at hB
    obtain ⟨⟨⟨⟨⟨⟨h9, h10⟩, h11⟩, h12⟩, h13⟩, h17⟩, h18⟩ := hB
    have b9 : (op == 9) = false := decide_eq_false h9
    have b10 : (op == 10) = false := decide_eq_false h10
    have b11 : (op == 11) = false := decide_eq_false h11
    have b12 : (op == 12) = false := decide_eq_false h12
    have b13 : (op == 13) = false := decide_eq_false h13
    have b17 : (op == 17) = false := decide_eq_false h17
    have b18 : (op == 18) = false := decide_eq_false h18
    go_enter Tryd.func94, Tryd.ntmps94
    go_wp2
    go_quiet ((go_at_call 98; exact Calls.quiet_of_same (SA _)))
    go_wp2
    go_quiet (fail)
    go_wp2
    go_ret
    exact ⟨rfl, bdn (bdn (bal (brf w) _))⟩
set_option maxHeartbeats 3200000 in
theorem iOperands2eq (op width n : Int) (sg : Bool) (s : ByteArray) (x y : Int) (v : Value) (w : World) (hop : op ≤ 18) (hr : RS 6 RKid w 0 [x, y] v) (hA : anyW op = false) (hxy : x = y) :
    Calls Tryd.prog 94 #[.agg #[.int .i64 op, .int .i64 width, .int .i64 n, .bool sg, .string s, v]] w fun e w' => e = .returned (.bool (fits2 op width [x, y])) ∧ Below w.heap.size w w' := by
  subst hxy
  obtain ⟨a, c, rfl, hk⟩ := kids_open hr
  clear hr
  obtain ⟨b, o, rfl, k1, hc⟩ := hk 0 x rfl
  obtain ⟨b', o', e', k2, _⟩ := hk 1 x rfl
  cases e'
  clear hk
  have l1 := cell_later (bal (brf w) (.cells #[.int .i64 op, .int .i64 width, .int .i64 n, .bool sg, .string s, .slice (some ⟨b, o, none⟩) 2 c] 104)) k1
  have l2 := cell_later (bal (brf w) (.cells #[.int .i64 op, .int .i64 width, .int .i64 n, .bool sg, .string s, .slice (some ⟨b, o, none⟩) 2 c] 104)) k2
  simp only [List.length_cons, List.length_nil, Nat.zero_mul, Nat.add_zero, Nat.one_mul, Nat.zero_add] at *
  have SA : ∀ W, Calls Tryd.prog 98 #[.int .i64 op] W fun e w' => e = .returned (.bool false) ∧ w' = W := fun W => by rw [← hA]; exact iAnyW op W
  by_cases hB : bitOp op = true
  · have e : fits2 op width [x, x] = (width == 1) := by simp [fits2, hA, hB, beqI]
    rw [e]
    have hc : op = 9 ∨ op = 10 ∨ op = 11 ∨ op = 12 ∨ op = 13 := by
      simp only [bitOp, Bool.or_eq_true, decide_eq_true_eq] at hB
      simp only [anyW, Bool.and_eq_false_iff, decide_eq_false_iff_not] at hA
      omega
    rcases hc with rfl | rfl | rfl | rfl | rfl
    all_goals (
      go_enter Tryd.func94, Tryd.ntmps94
      go_wp2
      go_quiet ((go_at_call 98; exact Calls.quiet_of_same (SA _)))
      go_wp2
      go_ret
      exact ⟨rfl, bdn (bal (brf w) _)⟩)
  · rw [Bool.not_eq_true] at hB
    have e : fits2 op width [x, x] = (width == x) := by simp [fits2, hA, hB, beqI]
    rw [e]
    simp only [bitOp, Bool.or_eq_false_iff, decide_eq_false_iff_not] at hB
    obtain ⟨⟨⟨⟨⟨⟨h9, h10⟩, h11⟩, h12⟩, h13⟩, h17⟩, h18⟩ := hB
    have b9 : (op == 9) = false := decide_eq_false h9
    have b10 : (op == 10) = false := decide_eq_false h10
    have b11 : (op == 11) = false := decide_eq_false h11
    have b12 : (op == 12) = false := decide_eq_false h12
    have b13 : (op == 13) = false := decide_eq_false h13
    have b17 : (op == 17) = false := decide_eq_false h17
    have b18 : (op == 18) = false := decide_eq_false h18
    go_enter Tryd.func94, Tryd.ntmps94
    go_wp2
    go_quiet ((go_at_call 98; exact Calls.quiet_of_same (SA _)))
    go_wp2
    go_quiet (fail)
    go_wp2
    go_ret
    exact ⟨rfl, bdn (bdn (bal (brf w) _))⟩
/-- What operandsFit answers. -/
def fitsO (op width : Int) (xs : List Int) : Bool := if 18 < op then fits1 op width xs else fits2 op width xs
theorem iOperands (op width n : Int) (sg : Bool) (s : ByteArray) (xs : List Int) (v : Value) (w : World) (hr : RS 6 RKid w 0 xs v) :
    Calls Tryd.prog 94 #[.agg #[.int .i64 op, .int .i64 width, .int .i64 n, .bool sg, .string s, v]] w fun e w' => e = .returned (.bool (fitsO op width xs)) ∧ Below w.heap.size w w' := by
  unfold fitsO
  by_cases h18 : 18 < op
  · rw [if_pos h18]; exact iOperands1 op width n sg s xs v w h18 hr
  rw [if_neg h18]
  by_cases h2 : xs.length = 2
  · obtain ⟨x, y, rfl⟩ : ∃ x y, xs = [x, y] := by
      match xs, h2 with
      | [x, y], _ => exact ⟨x, y, rfl⟩
    cases hA : anyW op
    · by_cases hxy : x = y
      · exact iOperands2eq op width n sg s x y v w (by omega) hr hA hxy
      · exact iOperands2ne op width n sg s x y v w (by omega) hr hA hxy
    · exact iOperands2any op width n sg s x y v w (by omega) hr hA
  · exact iOperands2no op width n sg s xs v w (by omega) hr h2
end Go.Proofs.YtkmpjoiefcjbnaaDoor
namespace Go.Proofs.YtkmpjoiefcjbnaaDoor
open Go.RowKit Gs
set_option linter.unusedVariables false
set_option maxRecDepth 100000
set_option maxHeartbeats 1600000 in
theorem iOperation1 (op width n : Int) (sg : Bool) (s : ByteArray) (xs : List Int) (v : Value) (w : World) (h1 : 1 ≤ op) (h24 : op ≤ 24) (hr : RS 6 RKid w 0 xs v) :
    Calls Tryd.prog 85 #[.agg #[.int .i64 op, .int .i64 width, .int .i64 n, .bool sg, .string s, v]] w fun e w' => e = .returned (.bool (fitsO op width xs)) ∧ Below w.heap.size w w' := by
  have SO := hide (fun (W : World) (hb : Below w.heap.size w W) => iOperands op width n sg s xs v W (hr.later RKid.keeps hb))
  obtain ⟨a, c, rfl⟩ := hr.slice
  clear hr
  go_enter Tryd.func85, Tryd.ntmps85
  go_wp2_with (first | (go_at_call 94; refine (unhide SO _ (bal (brf w) _)).mono ?_; rintro e W1 ⟨rfl, hb1⟩; have HB := hide (btr (bal (brf w) _) hb1); clear hb1))
  exact bodyPost_ret (v := .bool (fitsO op width xs)) (by simp [results, Tryd.results85, go_sem]) rfl ⟨rfl, unhide HB⟩
set_option maxHeartbeats 1600000 in
theorem iOperation26 (width n : Int) (sg : Bool) (s : ByteArray) (xs : List Int) (v : Value) (w : World) (hr : RS 6 RKid w 0 xs v) :
    Calls Tryd.prog 85 #[.agg #[.int .i64 26, .int .i64 width, .int .i64 n, .bool sg, .string s, v]] w fun e w' => e = .returned (.bool (sumW xs == width)) ∧ Below w.heap.size w w' := by
  have SO := hide (fun (W : World) (hb : Below w.heap.size w W) => iWidthOfAll xs v W (hr.later RKid.keeps hb))
  obtain ⟨a, c, rfl⟩ := hr.slice
  clear hr
  go_enter Tryd.func85, Tryd.ntmps85
  go_wp2
  go_region_with (first | (go_at_call 95; refine (unhide SO _ (bdr (bal (brf w) _))).mono ?_; rintro e W1 ⟨rfl, hb1⟩; have d1 : W1.cell? ⟨w.heap.size, 1, none⟩ = some (.int .i64 width) := cell_later hb1 (by go_simp); have HB := hide (btr (bdr (bal (brf w) _)) hb1); clear hb1))
  all_goals (
    go_wp2
    exact bodyPost_ret (v := .bool (sumW xs == width)) (by simp [results, Tryd.results85, go_sem]) rfl ⟨rfl, unhide HB⟩)
/-- An empty operand list is asked of a constant. -/
def fits29 (width : Int) (s : ByteArray) (xs : List Int) : Bool := xs.isEmpty && ((s.size : Int) == width) && Vb.okV (L s)
set_option maxHeartbeats 1600000 in
theorem iOperation29 (width n : Int) (sg : Bool) (s : ByteArray) (xs : List Int) (v : Value) (w : World) (hs : s.size ≤ maxLen) (hr : RS 6 RKid w 0 xs v) :
    Calls Tryd.prog 85 #[.agg #[.int .i64 29, .int .i64 width, .int .i64 n, .bool sg, .string s, v]] w fun e w' => e = .returned (.bool (fits29 width s xs)) ∧ Below w.heap.size w w' := by
  have SO := hide (fun (W : World) => iBitsOK s W hs)
  have hlen := hr.len
  unfold maxLen at hlen hs
  obtain ⟨a, c, rfl⟩ := hr.slice
  clear hr
  cases hx : xs with
  | cons y ys =>
    rw [show fits29 width s (y :: ys) = false from rfl]
    have hlen' : ys.length + 1 ≤ 2 ^ 63 - 1 := by rw [hx] at hlen; simpa using hlen
    have q : (((ys.length + 1 : Nat) : Int) == 0) = false := decide_eq_false (by omega)
    clear hlen hx
    rw [List.length_cons]
    go_enter Tryd.func85, Tryd.ntmps85
    go_wp2
    exact bodyPost_ret (v := .bool false) (by simp [results, Tryd.results85, go_sem]) rfl ⟨rfl, bal (brf w) _⟩
  | nil =>
    clear hlen hx
    rw [show fits29 width s [] = (((s.size : Int) == width) && Vb.okV (L s)) from rfl, List.length_nil]
    cases hw : (s.size : Int) == width
    · go_enter Tryd.func85, Tryd.ntmps85
      go_wp2
      exact bodyPost_ret (v := .bool false) (by simp [results, Tryd.results85, go_sem]) rfl ⟨rfl, bal (brf w) _⟩
    · go_enter Tryd.func85, Tryd.ntmps85
      go_wp2_with (first | (go_at_call 96; refine (unhide SO _).mono ?_; rintro e W1 ⟨rfl, hb1⟩; have HB := hide (btr (bal (brf w) _) hb1); clear hb1))
      exact bodyPost_ret (v := .bool (Vb.okV (L s))) (by simp [results, Tryd.results85, go_sem]) rfl ⟨rfl, unhide HB⟩
end Go.Proofs.YtkmpjoiefcjbnaaDoor
namespace Go.Proofs.YtkmpjoiefcjbnaaDoor
open Go.RowKit Gs
set_option linter.unusedVariables false
set_option linter.unusedSimpArgs false
set_option maxRecDepth 100000
set_option maxHeartbeats 1600000 in
theorem iOperation25no (width n : Int) (sg : Bool) (s : ByteArray) (xs : List Int) (v : Value) (w : World) (hr : RS 6 RKid w 0 xs v) (h : xs.length ≠ 3) :
    Calls Tryd.prog 85 #[.agg #[.int .i64 25, .int .i64 width, .int .i64 n, .bool sg, .string s, v]] w fun e w' => e = .returned (.bool false) ∧ Below w.heap.size w w' := by
  have hlen := hr.len
  unfold maxLen at hlen
  obtain ⟨a, c, rfl⟩ := hr.slice
  clear hr
  have q : ((xs.length : Int) == 3) = false := decide_eq_false (by omega)
  go_enter Tryd.func85, Tryd.ntmps85
  go_wp2
  go_quiet (fail)
  go_wp2
  exact bodyPost_ret (v := .bool false) (by simp [results, Tryd.results85, go_sem]) rfl ⟨rfl, bdn (bal (brf w) _)⟩
set_option maxHeartbeats 1600000 in
theorem iOperation27no (width n : Int) (sg : Bool) (s : ByteArray) (xs : List Int) (v : Value) (w : World) (hr : RS 6 RKid w 0 xs v) (h : xs.length ≠ 1) :
    Calls Tryd.prog 85 #[.agg #[.int .i64 27, .int .i64 width, .int .i64 n, .bool sg, .string s, v]] w fun e w' => e = .returned (.bool false) ∧ Below w.heap.size w w' := by
  have hlen := hr.len
  unfold maxLen at hlen
  obtain ⟨a, c, rfl⟩ := hr.slice
  clear hr
  have q : ((xs.length : Int) == 1) = false := decide_eq_false (by omega)
  go_enter Tryd.func85, Tryd.ntmps85
  go_wp2
  go_quiet (fail)
  go_wp2
  exact bodyPost_ret (v := .bool false) (by simp [results, Tryd.results85, go_sem]) rfl ⟨rfl, bdn (bal (brf w) _)⟩
set_option maxHeartbeats 1600000 in
theorem iOperation28no (width n : Int) (sg : Bool) (s : ByteArray) (xs : List Int) (v : Value) (w : World) (hr : RS 6 RKid w 0 xs v) (h : xs.length ≠ 1) :
    Calls Tryd.prog 85 #[.agg #[.int .i64 28, .int .i64 width, .int .i64 n, .bool sg, .string s, v]] w fun e w' => e = .returned (.bool false) ∧ Below w.heap.size w w' := by
  have hlen := hr.len
  unfold maxLen at hlen
  obtain ⟨a, c, rfl⟩ := hr.slice
  clear hr
  have q : ((xs.length : Int) == 1) = false := decide_eq_false (by omega)
  go_enter Tryd.func85, Tryd.ntmps85
  go_wp2
  go_quiet (fail)
  go_wp2
  exact bodyPost_ret (v := .bool false) (by simp [results, Tryd.results85, go_sem]) rfl ⟨rfl, bdn (bal (brf w) _)⟩
set_option maxHeartbeats 1600000 in
theorem iOperation25yes (width n : Int) (sg : Bool) (s : ByteArray) (x y z : Int) (v : Value) (w : World) (hr : RS 6 RKid w 0 [x, y, z] v) :
    Calls Tryd.prog 85 #[.agg #[.int .i64 25, .int .i64 width, .int .i64 n, .bool sg, .string s, v]] w fun e w' => e = .returned (.bool ((y == width) && (z == width))) ∧ Below w.heap.size w w' := by
  obtain ⟨a, c, rfl, hk⟩ := kids_open hr
  clear hr
  obtain ⟨b, o, rfl, k0, hc⟩ := hk 0 x rfl
  obtain ⟨b1, o1, e1, k1, _⟩ := hk 1 y rfl
  cases e1
  obtain ⟨b2, o2, e2, k2, _⟩ := hk 2 z rfl
  cases e2
  clear hk
  have l0 := cell_later (bal (brf w) (.cells #[.int .i64 25, .int .i64 width, .int .i64 n, .bool sg, .string s, .slice (some ⟨b, o, none⟩) 3 c] 104)) k0
  have l1 := cell_later (bal (brf w) (.cells #[.int .i64 25, .int .i64 width, .int .i64 n, .bool sg, .string s, .slice (some ⟨b, o, none⟩) 3 c] 104)) k1
  have l2 := cell_later (bal (brf w) (.cells #[.int .i64 25, .int .i64 width, .int .i64 n, .bool sg, .string s, .slice (some ⟨b, o, none⟩) 3 c] 104)) k2
  simp only [List.length_cons, List.length_nil, Nat.zero_mul, Nat.add_zero, Nat.one_mul, Nat.zero_add] at *
  cases hy : y == width
  · go_enter Tryd.func85, Tryd.ntmps85
    go_wp2
    go_quiet (fail)
    go_wp2
    exact bodyPost_ret (v := .bool false) (by simp [results, Tryd.results85, go_sem]) rfl ⟨rfl, bdn (bal (brf w) _)⟩
  · go_enter Tryd.func85, Tryd.ntmps85
    go_wp2
    go_quiet (fail)
    go_wp2
    exact bodyPost_ret (v := .bool (z == width)) (by simp [results, Tryd.results85, go_sem]) rfl ⟨rfl, bdn (bal (brf w) _)⟩
set_option maxHeartbeats 1600000 in
theorem iOperation27yes (width n : Int) (sg : Bool) (s : ByteArray) (x : Int) (v : Value) (w : World) (hr : RS 6 RKid w 0 [x] v) :
    Calls Tryd.prog 85 #[.agg #[.int .i64 27, .int .i64 width, .int .i64 n, .bool sg, .string s, v]] w fun e w' => e = .returned (.bool (decide (0 ≤ n) && decide (n ≤ wrap64 (x - width)))) ∧ Below w.heap.size w w' := by
  obtain ⟨a, c, rfl, hk⟩ := kids_open hr
  clear hr
  obtain ⟨b, o, rfl, k0, hc⟩ := hk 0 x rfl
  clear hk
  have l0 := cell_later (bal (brf w) (.cells #[.int .i64 27, .int .i64 width, .int .i64 n, .bool sg, .string s, .slice (some ⟨b, o, none⟩) 1 c] 104)) k0
  simp only [List.length_cons, List.length_nil, Nat.zero_mul, Nat.add_zero, Nat.one_mul, Nat.zero_add] at *
  by_cases hn : 0 ≤ n
  · rw [decide_eq_true hn]
    go_enter Tryd.func85, Tryd.ntmps85
    go_wp2
    go_quiet (fail)
    go_wp2
    exact bodyPost_ret (v := .bool (decide (n ≤ wrap64 (x - width)))) (by simp [results, Tryd.results85, go_sem]) rfl ⟨rfl, bdn (bal (brf w) _)⟩
  · have hd : decide (0 ≤ n) = false := decide_eq_false hn
    rw [hd]
    clear hn
    go_enter Tryd.func85, Tryd.ntmps85
    go_wp2
    go_quiet (fail)
    go_wp2
    exact bodyPost_ret (v := .bool false) (by simp [results, Tryd.results85, go_sem]) rfl ⟨rfl, bdn (bal (brf w) _)⟩
set_option maxHeartbeats 1600000 in
theorem iOperation28yes (width n : Int) (sg : Bool) (s : ByteArray) (x : Int) (v : Value) (w : World) (hr : RS 6 RKid w 0 [x] v) :
    Calls Tryd.prog 85 #[.agg #[.int .i64 28, .int .i64 width, .int .i64 n, .bool sg, .string s, v]] w fun e w' => e = .returned (.bool ((x != width) && (decide (x < width) || !sg))) ∧ Below w.heap.size w w' := by
  obtain ⟨a, c, rfl, hk⟩ := kids_open hr
  clear hr
  obtain ⟨b, o, rfl, k0, hc⟩ := hk 0 x rfl
  clear hk
  have l0 := cell_later (bal (brf w) (.cells #[.int .i64 28, .int .i64 width, .int .i64 n, .bool sg, .string s, .slice (some ⟨b, o, none⟩) 1 c] 104)) k0
  simp only [List.length_cons, List.length_nil, Nat.zero_mul, Nat.add_zero, Nat.one_mul, Nat.zero_add] at *
  cases hx : x != width
  · go_enter Tryd.func85, Tryd.ntmps85
    go_wp2
    go_quiet (fail)
    go_wp2
    exact bodyPost_ret (v := .bool false) (by simp [results, Tryd.results85, go_sem]) rfl ⟨rfl, bdn (bal (brf w) _)⟩
  · by_cases hl : x < width
    · rw [decide_eq_true hl]
      go_enter Tryd.func85, Tryd.ntmps85
      go_wp2
      go_quiet (fail)
      go_wp2
      exact bodyPost_ret (v := .bool true) (by simp [results, Tryd.results85, go_sem]) rfl ⟨rfl, bdn (bal (brf w) _)⟩
    · have hd : decide (x < width) = false := decide_eq_false hl
      rw [hd]
      clear hl
      go_enter Tryd.func85, Tryd.ntmps85
      go_wp2
      go_quiet (fail)
      go_wp2
      exact bodyPost_ret (v := .bool (!sg)) (by simp [results, Tryd.results85, go_sem]) rfl ⟨rfl, bdn (bal (brf w) _)⟩
end Go.Proofs.YtkmpjoiefcjbnaaDoor
namespace Go.Proofs.YtkmpjoiefcjbnaaDoor
open Go.RowKit Gs
set_option linter.unusedVariables false
def fits25 (width : Int) (xs : List Int) : Bool := match xs with
  | [_, y, z] => (y == width) && (z == width)
  | _ => false
def fits27 (width n : Int) (xs : List Int) : Bool := match xs with
  | [x] => decide (0 ≤ n) && decide (n ≤ wrap64 (x - width))
  | _ => false
def fits28 (width : Int) (sg : Bool) (xs : List Int) : Bool := match xs with
  | [x] => (x != width) && (decide (x < width) || !sg)
  | _ => false
/-- What operationFits answers, of the operations 1 to 29. -/
def fitsOp (op width n : Int) (sg : Bool) (s : ByteArray) (xs : List Int) : Bool :=
  if op ≤ 24 then fitsO op width xs
  else if op = 25 then fits25 width xs
  else if op = 26 then sumW xs == width
  else if op = 27 then fits27 width n xs
  else if op = 28 then fits28 width sg xs
  else fits29 width s xs
theorem iOperation (op width n : Int) (sg : Bool) (s : ByteArray) (xs : List Int) (v : Value) (w : World) (h1 : 1 ≤ op) (h29 : op ≤ 29) (hs : s.size ≤ maxLen) (hr : RS 6 RKid w 0 xs v) :
    Calls Tryd.prog 85 #[.agg #[.int .i64 op, .int .i64 width, .int .i64 n, .bool sg, .string s, v]] w fun e w' => e = .returned (.bool (fitsOp op width n sg s xs)) ∧ Below w.heap.size w w' := by
  unfold fitsOp
  by_cases h24 : op ≤ 24
  · rw [if_pos h24]; exact iOperation1 op width n sg s xs v w h1 h24 hr
  rw [if_neg h24]
  obtain rfl | rfl | rfl | rfl | rfl : op = 25 ∨ op = 26 ∨ op = 27 ∨ op = 28 ∨ op = 29 := by omega
  · show Calls _ _ _ _ fun e w' => e = .returned (.bool (fits25 width xs)) ∧ _
    match xs, hr with
    | [x, y, z], hr => exact iOperation25yes width n sg s x y z v w hr
    | [], hr => exact iOperation25no width n sg s _ v w hr (by simp)
    | [_], hr => exact iOperation25no width n sg s _ v w hr (by simp)
    | [_, _], hr => exact iOperation25no width n sg s _ v w hr (by simp)
    | _ :: _ :: _ :: _ :: _, hr => exact iOperation25no width n sg s _ v w hr (by simp)
  · exact iOperation26 width n sg s xs v w hr
  · show Calls _ _ _ _ fun e w' => e = .returned (.bool (fits27 width n xs)) ∧ _
    match xs, hr with
    | [x], hr => exact iOperation27yes width n sg s x v w hr
    | [], hr => exact iOperation27no width n sg s _ v w hr (by simp)
    | _ :: _ :: _, hr => exact iOperation27no width n sg s _ v w hr (by simp)
  · show Calls _ _ _ _ fun e w' => e = .returned (.bool (fits28 width sg xs)) ∧ _
    match xs, hr with
    | [x], hr => exact iOperation28yes width n sg s x v w hr
    | [], hr => exact iOperation28no width n sg s _ v w hr (by simp)
    | _ :: _ :: _, hr => exact iOperation28no width n sg s _ v w hr (by simp)
  · exact iOperation29 width n sg s xs v w hs hr
end Go.Proofs.YtkmpjoiefcjbnaaDoor
