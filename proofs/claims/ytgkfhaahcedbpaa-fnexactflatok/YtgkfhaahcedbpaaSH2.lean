/- The specification's shape: operations of one operand, choices. -/
import Derived.Test.YtgkfhaahcedbpaaGSH1
namespace Go.Proofs.Ytgkfhaahcedbpaa
open Go.RowKit Gs
set_option linter.unusedVariables false
set_option linter.unusedSimpArgs false
set_option maxRecDepth 100000
set_option maxHeartbeats 8000000 in
theorem sSh17_no (width n : Int) (sg : Bool) (s : ByteArray) (xs : List Int) (v : Value) (p : Value) (w : World) (h : xs.length ≠ 2) (hr : RS 6 RKz w 0 xs v) :
    Calls Try.prog 35 #[p, .agg #[.int .i64 17, .int .i64 width, .int .i64 n, .bool sg, .string s, v]] w fun e w' => e = .returned (.bool (false)) ∧ Below w.heap.size w w' := by
  have hlen := hr.len
  unfold maxLen at hlen
  obtain ⟨a, c, rfl⟩ := hr.slice
  clear hr
  have q : ((xs.length : Int) == 2) = false := decide_eq_false (by omega)
  go_enter Try.func35, Try.ntmps35
  go_wp2
  go_ret
  exact ⟨rfl, bal (brf w) _⟩
set_option maxHeartbeats 8000000 in
theorem sSh17 (width n : Int) (sg : Bool) (s : ByteArray) (x y : Int) (v : Value) (p : Value) (w : World) (hr : RS 6 RKz w 0 [x, y] v) :
    Calls Try.prog 35 #[p, .agg #[.int .i64 17, .int .i64 width, .int .i64 n, .bool sg, .string s, v]] w fun e w' => e = .returned (.bool ((width == 1))) ∧ Below w.heap.size w w' := by
  obtain ⟨a, c, rfl, hk⟩ := kzs_open hr
  clear hr
  obtain ⟨b, o, rfl, k0, hc⟩ := hk 0 x rfl
  obtain ⟨b1, o1, e1, k1, _⟩ := hk 1 y rfl
  cases e1
  clear hk
  have l0 := cell_later (bal (brf w) (.cells #[.int .i64 17, .int .i64 width, .int .i64 n, .bool sg, .string s, .slice (some ⟨b, o, none⟩) 2 c] 72)) k0
  have l1 := cell_later (bal (brf w) (.cells #[.int .i64 17, .int .i64 width, .int .i64 n, .bool sg, .string s, .slice (some ⟨b, o, none⟩) 2 c] 72)) k1
  simp only [List.length_cons, List.length_nil, Nat.zero_mul, Nat.add_zero, Nat.one_mul, Nat.zero_add] at *
  go_enter Try.func35, Try.ntmps35
  go_wp2
  go_ret
  exact ⟨rfl, bal (brf w) _⟩
set_option maxHeartbeats 8000000 in
theorem sSh18_no (width n : Int) (sg : Bool) (s : ByteArray) (xs : List Int) (v : Value) (p : Value) (w : World) (h : xs.length ≠ 2) (hr : RS 6 RKz w 0 xs v) :
    Calls Try.prog 35 #[p, .agg #[.int .i64 18, .int .i64 width, .int .i64 n, .bool sg, .string s, v]] w fun e w' => e = .returned (.bool (false)) ∧ Below w.heap.size w w' := by
  have hlen := hr.len
  unfold maxLen at hlen
  obtain ⟨a, c, rfl⟩ := hr.slice
  clear hr
  have q : ((xs.length : Int) == 2) = false := decide_eq_false (by omega)
  go_enter Try.func35, Try.ntmps35
  go_wp2
  go_ret
  exact ⟨rfl, bal (brf w) _⟩
set_option maxHeartbeats 8000000 in
theorem sSh18 (width n : Int) (sg : Bool) (s : ByteArray) (x y : Int) (v : Value) (p : Value) (w : World) (hr : RS 6 RKz w 0 [x, y] v) :
    Calls Try.prog 35 #[p, .agg #[.int .i64 18, .int .i64 width, .int .i64 n, .bool sg, .string s, v]] w fun e w' => e = .returned (.bool ((width == 1))) ∧ Below w.heap.size w w' := by
  obtain ⟨a, c, rfl, hk⟩ := kzs_open hr
  clear hr
  obtain ⟨b, o, rfl, k0, hc⟩ := hk 0 x rfl
  obtain ⟨b1, o1, e1, k1, _⟩ := hk 1 y rfl
  cases e1
  clear hk
  have l0 := cell_later (bal (brf w) (.cells #[.int .i64 18, .int .i64 width, .int .i64 n, .bool sg, .string s, .slice (some ⟨b, o, none⟩) 2 c] 72)) k0
  have l1 := cell_later (bal (brf w) (.cells #[.int .i64 18, .int .i64 width, .int .i64 n, .bool sg, .string s, .slice (some ⟨b, o, none⟩) 2 c] 72)) k1
  simp only [List.length_cons, List.length_nil, Nat.zero_mul, Nat.add_zero, Nat.one_mul, Nat.zero_add] at *
  go_enter Try.func35, Try.ntmps35
  go_wp2
  go_ret
  exact ⟨rfl, bal (brf w) _⟩
set_option maxHeartbeats 8000000 in
theorem sSh19_no (width n : Int) (sg : Bool) (s : ByteArray) (xs : List Int) (v : Value) (p : Value) (w : World) (h : xs.length ≠ 1) (hr : RS 6 RKz w 0 xs v) :
    Calls Try.prog 35 #[p, .agg #[.int .i64 19, .int .i64 width, .int .i64 n, .bool sg, .string s, v]] w fun e w' => e = .returned (.bool (false)) ∧ Below w.heap.size w w' := by
  have hlen := hr.len
  unfold maxLen at hlen
  obtain ⟨a, c, rfl⟩ := hr.slice
  clear hr
  have q : ((xs.length : Int) == 1) = false := decide_eq_false (by omega)
  go_enter Try.func35, Try.ntmps35
  go_wp2
  go_quiet (fail)
  go_wp2
  go_ret
  exact ⟨rfl, bdn (bal (brf w) _)⟩
set_option maxHeartbeats 8000000 in
theorem sSh19 (width n : Int) (sg : Bool) (s : ByteArray) (x : Int) (v : Value) (p : Value) (w : World) (hr : RS 6 RKz w 0 [x] v) :
    Calls Try.prog 35 #[p, .agg #[.int .i64 19, .int .i64 width, .int .i64 n, .bool sg, .string s, v]] w fun e w' => e = .returned (.bool ((x == width))) ∧ Below w.heap.size w w' := by
  obtain ⟨a, c, rfl, hk⟩ := kzs_open hr
  clear hr
  obtain ⟨b, o, rfl, k0, hc⟩ := hk 0 x rfl
  clear hk
  have l0 := cell_later (bal (brf w) (.cells #[.int .i64 19, .int .i64 width, .int .i64 n, .bool sg, .string s, .slice (some ⟨b, o, none⟩) 1 c] 72)) k0
  simp only [List.length_cons, List.length_nil, Nat.zero_mul, Nat.add_zero, Nat.one_mul, Nat.zero_add] at *
  go_enter Try.func35, Try.ntmps35
  go_wp2
  go_quiet (fail)
  go_wp2
  go_ret
  exact ⟨rfl, bdn (bal (brf w) _)⟩
set_option maxHeartbeats 8000000 in
theorem sSh20_no (width n : Int) (sg : Bool) (s : ByteArray) (xs : List Int) (v : Value) (p : Value) (w : World) (h : xs.length ≠ 1) (hr : RS 6 RKz w 0 xs v) :
    Calls Try.prog 35 #[p, .agg #[.int .i64 20, .int .i64 width, .int .i64 n, .bool sg, .string s, v]] w fun e w' => e = .returned (.bool (false)) ∧ Below w.heap.size w w' := by
  have hlen := hr.len
  unfold maxLen at hlen
  obtain ⟨a, c, rfl⟩ := hr.slice
  clear hr
  have q : ((xs.length : Int) == 1) = false := decide_eq_false (by omega)
  go_enter Try.func35, Try.ntmps35
  go_wp2
  go_quiet (fail)
  go_wp2
  go_ret
  exact ⟨rfl, bdn (bal (brf w) _)⟩
set_option maxHeartbeats 8000000 in
theorem sSh20 (width n : Int) (sg : Bool) (s : ByteArray) (x : Int) (v : Value) (p : Value) (w : World) (hr : RS 6 RKz w 0 [x] v) :
    Calls Try.prog 35 #[p, .agg #[.int .i64 20, .int .i64 width, .int .i64 n, .bool sg, .string s, v]] w fun e w' => e = .returned (.bool ((x == width))) ∧ Below w.heap.size w w' := by
  obtain ⟨a, c, rfl, hk⟩ := kzs_open hr
  clear hr
  obtain ⟨b, o, rfl, k0, hc⟩ := hk 0 x rfl
  clear hk
  have l0 := cell_later (bal (brf w) (.cells #[.int .i64 20, .int .i64 width, .int .i64 n, .bool sg, .string s, .slice (some ⟨b, o, none⟩) 1 c] 72)) k0
  simp only [List.length_cons, List.length_nil, Nat.zero_mul, Nat.add_zero, Nat.one_mul, Nat.zero_add] at *
  go_enter Try.func35, Try.ntmps35
  go_wp2
  go_quiet (fail)
  go_wp2
  go_ret
  exact ⟨rfl, bdn (bal (brf w) _)⟩
set_option maxHeartbeats 8000000 in
theorem sSh21_no (width n : Int) (sg : Bool) (s : ByteArray) (xs : List Int) (v : Value) (p : Value) (w : World) (h : xs.length ≠ 1) (hr : RS 6 RKz w 0 xs v) :
    Calls Try.prog 35 #[p, .agg #[.int .i64 21, .int .i64 width, .int .i64 n, .bool sg, .string s, v]] w fun e w' => e = .returned (.bool (false)) ∧ Below w.heap.size w w' := by
  have hlen := hr.len
  unfold maxLen at hlen
  obtain ⟨a, c, rfl⟩ := hr.slice
  clear hr
  have q : ((xs.length : Int) == 1) = false := decide_eq_false (by omega)
  go_enter Try.func35, Try.ntmps35
  go_wp2
  go_ret
  exact ⟨rfl, bal (brf w) _⟩
set_option maxHeartbeats 8000000 in
theorem sSh21 (width n : Int) (sg : Bool) (s : ByteArray) (x : Int) (v : Value) (p : Value) (w : World) (hr : RS 6 RKz w 0 [x] v) :
    Calls Try.prog 35 #[p, .agg #[.int .i64 21, .int .i64 width, .int .i64 n, .bool sg, .string s, v]] w fun e w' => e = .returned (.bool ((width == 1))) ∧ Below w.heap.size w w' := by
  obtain ⟨a, c, rfl, hk⟩ := kzs_open hr
  clear hr
  obtain ⟨b, o, rfl, k0, hc⟩ := hk 0 x rfl
  clear hk
  have l0 := cell_later (bal (brf w) (.cells #[.int .i64 21, .int .i64 width, .int .i64 n, .bool sg, .string s, .slice (some ⟨b, o, none⟩) 1 c] 72)) k0
  simp only [List.length_cons, List.length_nil, Nat.zero_mul, Nat.add_zero, Nat.one_mul, Nat.zero_add] at *
  go_enter Try.func35, Try.ntmps35
  go_wp2
  go_ret
  exact ⟨rfl, bal (brf w) _⟩
set_option maxHeartbeats 8000000 in
theorem sSh22_no (width n : Int) (sg : Bool) (s : ByteArray) (xs : List Int) (v : Value) (p : Value) (w : World) (h : xs.length ≠ 1) (hr : RS 6 RKz w 0 xs v) :
    Calls Try.prog 35 #[p, .agg #[.int .i64 22, .int .i64 width, .int .i64 n, .bool sg, .string s, v]] w fun e w' => e = .returned (.bool (false)) ∧ Below w.heap.size w w' := by
  have hlen := hr.len
  unfold maxLen at hlen
  obtain ⟨a, c, rfl⟩ := hr.slice
  clear hr
  have q : ((xs.length : Int) == 1) = false := decide_eq_false (by omega)
  go_enter Try.func35, Try.ntmps35
  go_wp2
  go_ret
  exact ⟨rfl, bal (brf w) _⟩
set_option maxHeartbeats 8000000 in
theorem sSh22 (width n : Int) (sg : Bool) (s : ByteArray) (x : Int) (v : Value) (p : Value) (w : World) (hr : RS 6 RKz w 0 [x] v) :
    Calls Try.prog 35 #[p, .agg #[.int .i64 22, .int .i64 width, .int .i64 n, .bool sg, .string s, v]] w fun e w' => e = .returned (.bool ((width == 1))) ∧ Below w.heap.size w w' := by
  obtain ⟨a, c, rfl, hk⟩ := kzs_open hr
  clear hr
  obtain ⟨b, o, rfl, k0, hc⟩ := hk 0 x rfl
  clear hk
  have l0 := cell_later (bal (brf w) (.cells #[.int .i64 22, .int .i64 width, .int .i64 n, .bool sg, .string s, .slice (some ⟨b, o, none⟩) 1 c] 72)) k0
  simp only [List.length_cons, List.length_nil, Nat.zero_mul, Nat.add_zero, Nat.one_mul, Nat.zero_add] at *
  go_enter Try.func35, Try.ntmps35
  go_wp2
  go_ret
  exact ⟨rfl, bal (brf w) _⟩
set_option maxHeartbeats 8000000 in
theorem sSh23_no (width n : Int) (sg : Bool) (s : ByteArray) (xs : List Int) (v : Value) (p : Value) (w : World) (h : xs.length ≠ 1) (hr : RS 6 RKz w 0 xs v) :
    Calls Try.prog 35 #[p, .agg #[.int .i64 23, .int .i64 width, .int .i64 n, .bool sg, .string s, v]] w fun e w' => e = .returned (.bool (false)) ∧ Below w.heap.size w w' := by
  have hlen := hr.len
  unfold maxLen at hlen
  obtain ⟨a, c, rfl⟩ := hr.slice
  clear hr
  have q : ((xs.length : Int) == 1) = false := decide_eq_false (by omega)
  go_enter Try.func35, Try.ntmps35
  go_wp2
  go_ret
  exact ⟨rfl, bal (brf w) _⟩
set_option maxHeartbeats 8000000 in
theorem sSh23 (width n : Int) (sg : Bool) (s : ByteArray) (x : Int) (v : Value) (p : Value) (w : World) (hr : RS 6 RKz w 0 [x] v) :
    Calls Try.prog 35 #[p, .agg #[.int .i64 23, .int .i64 width, .int .i64 n, .bool sg, .string s, v]] w fun e w' => e = .returned (.bool ((width == 1))) ∧ Below w.heap.size w w' := by
  obtain ⟨a, c, rfl, hk⟩ := kzs_open hr
  clear hr
  obtain ⟨b, o, rfl, k0, hc⟩ := hk 0 x rfl
  clear hk
  have l0 := cell_later (bal (brf w) (.cells #[.int .i64 23, .int .i64 width, .int .i64 n, .bool sg, .string s, .slice (some ⟨b, o, none⟩) 1 c] 72)) k0
  simp only [List.length_cons, List.length_nil, Nat.zero_mul, Nat.add_zero, Nat.one_mul, Nat.zero_add] at *
  go_enter Try.func35, Try.ntmps35
  go_wp2
  go_ret
  exact ⟨rfl, bal (brf w) _⟩
set_option maxHeartbeats 8000000 in
theorem sSh24_no (width n : Int) (sg : Bool) (s : ByteArray) (xs : List Int) (v : Value) (p : Value) (w : World) (h : xs.length ≠ 1) (hr : RS 6 RKz w 0 xs v) :
    Calls Try.prog 35 #[p, .agg #[.int .i64 24, .int .i64 width, .int .i64 n, .bool sg, .string s, v]] w fun e w' => e = .returned (.bool (false)) ∧ Below w.heap.size w w' := by
  have hlen := hr.len
  unfold maxLen at hlen
  obtain ⟨a, c, rfl⟩ := hr.slice
  clear hr
  have q : ((xs.length : Int) == 1) = false := decide_eq_false (by omega)
  go_enter Try.func35, Try.ntmps35
  go_wp2
  go_ret
  exact ⟨rfl, bal (brf w) _⟩
set_option maxHeartbeats 8000000 in
theorem sSh24 (width n : Int) (sg : Bool) (s : ByteArray) (x : Int) (v : Value) (p : Value) (w : World) (hr : RS 6 RKz w 0 [x] v) :
    Calls Try.prog 35 #[p, .agg #[.int .i64 24, .int .i64 width, .int .i64 n, .bool sg, .string s, v]] w fun e w' => e = .returned (.bool ((width == 1))) ∧ Below w.heap.size w w' := by
  obtain ⟨a, c, rfl, hk⟩ := kzs_open hr
  clear hr
  obtain ⟨b, o, rfl, k0, hc⟩ := hk 0 x rfl
  clear hk
  have l0 := cell_later (bal (brf w) (.cells #[.int .i64 24, .int .i64 width, .int .i64 n, .bool sg, .string s, .slice (some ⟨b, o, none⟩) 1 c] 72)) k0
  simp only [List.length_cons, List.length_nil, Nat.zero_mul, Nat.add_zero, Nat.one_mul, Nat.zero_add] at *
  go_enter Try.func35, Try.ntmps35
  go_wp2
  go_ret
  exact ⟨rfl, bal (brf w) _⟩
end Go.Proofs.Ytgkfhaahcedbpaa
