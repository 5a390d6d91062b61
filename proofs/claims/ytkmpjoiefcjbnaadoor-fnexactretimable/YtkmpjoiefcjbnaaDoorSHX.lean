/- The specification's shape: operations of two operands. -/
import Derived.Test.YtkmpjoiefcjbnaaDoorSH0
namespace Go.Proofs.YtkmpjoiefcjbnaaDoor
open Go.RowKit Gs
set_option linter.unusedVariables false
set_option linter.unusedSimpArgs false
set_option maxRecDepth 100000
set_option maxHeartbeats 8000000 in
theorem sShA_no (op : Int) (width n : Int) (sg : Bool) (s : ByteArray) (xs : List Int) (v : Value) (p : Value) (w : World) (h1 : 1 ≤ op) (h2 : op ≤ 8) (h : xs.length ≠ 2) (hr : RS 6 RKz w 0 xs v) :
    Calls Tryd.prog 81 #[p, .agg #[.int .i64 op, .int .i64 width, .int .i64 n, .bool sg, .string s, v]] w fun e w' => e = .returned (.bool (false)) ∧ Below w.heap.size w w' := by
  have hlen := hr.len
  unfold maxLen at hlen
  obtain ⟨a, c, rfl⟩ := hr.slice
  clear hr
  have q : ((xs.length : Int) == 2) = false := decide_eq_false (by omega)
  go_enter Tryd.func81, Tryd.ntmps81
  go_wp2
  go_quiet (fail)
  go_wp2
  go_ret
  exact ⟨rfl, bdn (bal (brf w) _)⟩
set_option maxHeartbeats 8000000 in
theorem sShA (op : Int) (width n : Int) (sg : Bool) (s : ByteArray) (x y : Int) (v : Value) (p : Value) (w : World) (h1 : 1 ≤ op) (h2 : op ≤ 8) (hr : RS 6 RKz w 0 [x, y] v) :
    Calls Tryd.prog 81 #[p, .agg #[.int .i64 op, .int .i64 width, .int .i64 n, .bool sg, .string s, v]] w fun e w' => e = .returned (.bool ((x == width) && (y == width))) ∧ Below w.heap.size w w' := by
  obtain ⟨a, c, rfl, hk⟩ := kzs_open hr
  clear hr
  obtain ⟨b, o, rfl, k0, hc⟩ := hk 0 x rfl
  obtain ⟨b1, o1, e1, k1, _⟩ := hk 1 y rfl
  cases e1
  clear hk
  have l0 := cell_later (bal (brf w) (.cells #[.int .i64 op, .int .i64 width, .int .i64 n, .bool sg, .string s, .slice (some ⟨b, o, none⟩) 2 c] 104)) k0
  have l1 := cell_later (bal (brf w) (.cells #[.int .i64 op, .int .i64 width, .int .i64 n, .bool sg, .string s, .slice (some ⟨b, o, none⟩) 2 c] 104)) k1
  simp only [List.length_cons, List.length_nil, Nat.zero_mul, Nat.add_zero, Nat.one_mul, Nat.zero_add] at *
  cases c1 : x == width
  · go_enter Tryd.func81, Tryd.ntmps81
    go_wp2
    go_quiet (fail)
    go_wp2
    go_ret
    exact ⟨rfl, bdn (bal (brf w) _)⟩
  · skip
    go_enter Tryd.func81, Tryd.ntmps81
    go_wp2
    go_quiet (fail)
    go_wp2
    go_ret
    exact ⟨rfl, bdn (bal (brf w) _)⟩
set_option maxHeartbeats 8000000 in
theorem sShB_no (op : Int) (width n : Int) (sg : Bool) (s : ByteArray) (xs : List Int) (v : Value) (p : Value) (w : World) (h1 : 9 ≤ op) (h2 : op ≤ 13) (h : xs.length ≠ 2) (hr : RS 6 RKz w 0 xs v) :
    Calls Tryd.prog 81 #[p, .agg #[.int .i64 op, .int .i64 width, .int .i64 n, .bool sg, .string s, v]] w fun e w' => e = .returned (.bool (false)) ∧ Below w.heap.size w w' := by
  have hlen := hr.len
  unfold maxLen at hlen
  obtain ⟨a, c, rfl⟩ := hr.slice
  clear hr
  have q : ((xs.length : Int) == 2) = false := decide_eq_false (by omega)
  go_enter Tryd.func81, Tryd.ntmps81
  go_wp2
  go_quiet (fail)
  go_wp2
  go_ret
  exact ⟨rfl, bdn (bal (brf w) _)⟩
set_option maxHeartbeats 8000000 in
theorem sShB (op : Int) (width n : Int) (sg : Bool) (s : ByteArray) (x y : Int) (v : Value) (p : Value) (w : World) (h1 : 9 ≤ op) (h2 : op ≤ 13) (hr : RS 6 RKz w 0 [x, y] v) :
    Calls Tryd.prog 81 #[p, .agg #[.int .i64 op, .int .i64 width, .int .i64 n, .bool sg, .string s, v]] w fun e w' => e = .returned (.bool ((x == y) && (width == 1))) ∧ Below w.heap.size w w' := by
  obtain ⟨a, c, rfl, hk⟩ := kzs_open hr
  clear hr
  obtain ⟨b, o, rfl, k0, hc⟩ := hk 0 x rfl
  obtain ⟨b1, o1, e1, k1, _⟩ := hk 1 y rfl
  cases e1
  clear hk
  have l0 := cell_later (bal (brf w) (.cells #[.int .i64 op, .int .i64 width, .int .i64 n, .bool sg, .string s, .slice (some ⟨b, o, none⟩) 2 c] 104)) k0
  have l1 := cell_later (bal (brf w) (.cells #[.int .i64 op, .int .i64 width, .int .i64 n, .bool sg, .string s, .slice (some ⟨b, o, none⟩) 2 c] 104)) k1
  simp only [List.length_cons, List.length_nil, Nat.zero_mul, Nat.add_zero, Nat.one_mul, Nat.zero_add] at *
  cases c1 : x == y
  · go_enter Tryd.func81, Tryd.ntmps81
    go_wp2
    go_quiet (fail)
    go_wp2
    go_ret
    exact ⟨rfl, bdn (bal (brf w) _)⟩
  · skip
    go_enter Tryd.func81, Tryd.ntmps81
    go_wp2
    go_quiet (fail)
    go_wp2
    go_ret
    exact ⟨rfl, bdn (bal (brf w) _)⟩
set_option maxHeartbeats 8000000 in
theorem sShC_no (op : Int) (width n : Int) (sg : Bool) (s : ByteArray) (xs : List Int) (v : Value) (p : Value) (w : World) (h1 : 14 ≤ op) (h2 : op ≤ 16) (h : xs.length ≠ 2) (hr : RS 6 RKz w 0 xs v) :
    Calls Tryd.prog 81 #[p, .agg #[.int .i64 op, .int .i64 width, .int .i64 n, .bool sg, .string s, v]] w fun e w' => e = .returned (.bool (false)) ∧ Below w.heap.size w w' := by
  have hlen := hr.len
  unfold maxLen at hlen
  obtain ⟨a, c, rfl⟩ := hr.slice
  clear hr
  have q : ((xs.length : Int) == 2) = false := decide_eq_false (by omega)
  go_enter Tryd.func81, Tryd.ntmps81
  go_wp2
  go_quiet (fail)
  go_wp2
  go_ret
  exact ⟨rfl, bdn (bal (brf w) _)⟩
set_option maxHeartbeats 8000000 in
theorem sShC (op : Int) (width n : Int) (sg : Bool) (s : ByteArray) (x y : Int) (v : Value) (p : Value) (w : World) (h1 : 14 ≤ op) (h2 : op ≤ 16) (hr : RS 6 RKz w 0 [x, y] v) :
    Calls Tryd.prog 81 #[p, .agg #[.int .i64 op, .int .i64 width, .int .i64 n, .bool sg, .string s, v]] w fun e w' => e = .returned (.bool ((x == width))) ∧ Below w.heap.size w w' := by
  obtain ⟨a, c, rfl, hk⟩ := kzs_open hr
  clear hr
  obtain ⟨b, o, rfl, k0, hc⟩ := hk 0 x rfl
  obtain ⟨b1, o1, e1, k1, _⟩ := hk 1 y rfl
  cases e1
  clear hk
  have l0 := cell_later (bal (brf w) (.cells #[.int .i64 op, .int .i64 width, .int .i64 n, .bool sg, .string s, .slice (some ⟨b, o, none⟩) 2 c] 104)) k0
  have l1 := cell_later (bal (brf w) (.cells #[.int .i64 op, .int .i64 width, .int .i64 n, .bool sg, .string s, .slice (some ⟨b, o, none⟩) 2 c] 104)) k1
  simp only [List.length_cons, List.length_nil, Nat.zero_mul, Nat.add_zero, Nat.one_mul, Nat.zero_add] at *
  go_enter Tryd.func81, Tryd.ntmps81
  go_wp2
  go_quiet (fail)
  go_wp2
  go_ret
  exact ⟨rfl, bdn (bal (brf w) _)⟩
end Go.Proofs.YtkmpjoiefcjbnaaDoor
namespace Go.Proofs.YtkmpjoiefcjbnaaDoor
open Go.RowKit Gs
set_option linter.unusedVariables false
set_option linter.unusedSimpArgs false
set_option maxRecDepth 100000
set_option maxHeartbeats 8000000 in
theorem sSh17_no (width n : Int) (sg : Bool) (s : ByteArray) (xs : List Int) (v : Value) (p : Value) (w : World) (h : xs.length ≠ 2) (hr : RS 6 RKz w 0 xs v) :
    Calls Tryd.prog 81 #[p, .agg #[.int .i64 17, .int .i64 width, .int .i64 n, .bool sg, .string s, v]] w fun e w' => e = .returned (.bool (false)) ∧ Below w.heap.size w w' := by
  have hlen := hr.len
  unfold maxLen at hlen
  obtain ⟨a, c, rfl⟩ := hr.slice
  clear hr
  have q : ((xs.length : Int) == 2) = false := decide_eq_false (by omega)
  go_enter Tryd.func81, Tryd.ntmps81
  go_wp2
  go_ret
  exact ⟨rfl, bal (brf w) _⟩
set_option maxHeartbeats 8000000 in
theorem sSh17 (width n : Int) (sg : Bool) (s : ByteArray) (x y : Int) (v : Value) (p : Value) (w : World) (hr : RS 6 RKz w 0 [x, y] v) :
    Calls Tryd.prog 81 #[p, .agg #[.int .i64 17, .int .i64 width, .int .i64 n, .bool sg, .string s, v]] w fun e w' => e = .returned (.bool ((width == 1))) ∧ Below w.heap.size w w' := by
  obtain ⟨a, c, rfl, hk⟩ := kzs_open hr
  clear hr
  obtain ⟨b, o, rfl, k0, hc⟩ := hk 0 x rfl
  obtain ⟨b1, o1, e1, k1, _⟩ := hk 1 y rfl
  cases e1
  clear hk
  have l0 := cell_later (bal (brf w) (.cells #[.int .i64 17, .int .i64 width, .int .i64 n, .bool sg, .string s, .slice (some ⟨b, o, none⟩) 2 c] 104)) k0
  have l1 := cell_later (bal (brf w) (.cells #[.int .i64 17, .int .i64 width, .int .i64 n, .bool sg, .string s, .slice (some ⟨b, o, none⟩) 2 c] 104)) k1
  simp only [List.length_cons, List.length_nil, Nat.zero_mul, Nat.add_zero, Nat.one_mul, Nat.zero_add] at *
  go_enter Tryd.func81, Tryd.ntmps81
  go_wp2
  go_ret
  exact ⟨rfl, bal (brf w) _⟩
set_option maxHeartbeats 8000000 in
theorem sSh18_no (width n : Int) (sg : Bool) (s : ByteArray) (xs : List Int) (v : Value) (p : Value) (w : World) (h : xs.length ≠ 2) (hr : RS 6 RKz w 0 xs v) :
    Calls Tryd.prog 81 #[p, .agg #[.int .i64 18, .int .i64 width, .int .i64 n, .bool sg, .string s, v]] w fun e w' => e = .returned (.bool (false)) ∧ Below w.heap.size w w' := by
  have hlen := hr.len
  unfold maxLen at hlen
  obtain ⟨a, c, rfl⟩ := hr.slice
  clear hr
  have q : ((xs.length : Int) == 2) = false := decide_eq_false (by omega)
  go_enter Tryd.func81, Tryd.ntmps81
  go_wp2
  go_ret
  exact ⟨rfl, bal (brf w) _⟩
set_option maxHeartbeats 8000000 in
theorem sSh18 (width n : Int) (sg : Bool) (s : ByteArray) (x y : Int) (v : Value) (p : Value) (w : World) (hr : RS 6 RKz w 0 [x, y] v) :
    Calls Tryd.prog 81 #[p, .agg #[.int .i64 18, .int .i64 width, .int .i64 n, .bool sg, .string s, v]] w fun e w' => e = .returned (.bool ((width == 1))) ∧ Below w.heap.size w w' := by
  obtain ⟨a, c, rfl, hk⟩ := kzs_open hr
  clear hr
  obtain ⟨b, o, rfl, k0, hc⟩ := hk 0 x rfl
  obtain ⟨b1, o1, e1, k1, _⟩ := hk 1 y rfl
  cases e1
  clear hk
  have l0 := cell_later (bal (brf w) (.cells #[.int .i64 18, .int .i64 width, .int .i64 n, .bool sg, .string s, .slice (some ⟨b, o, none⟩) 2 c] 104)) k0
  have l1 := cell_later (bal (brf w) (.cells #[.int .i64 18, .int .i64 width, .int .i64 n, .bool sg, .string s, .slice (some ⟨b, o, none⟩) 2 c] 104)) k1
  simp only [List.length_cons, List.length_nil, Nat.zero_mul, Nat.add_zero, Nat.one_mul, Nat.zero_add] at *
  go_enter Tryd.func81, Tryd.ntmps81
  go_wp2
  go_ret
  exact ⟨rfl, bal (brf w) _⟩
set_option maxHeartbeats 8000000 in
theorem sSh19_no (width n : Int) (sg : Bool) (s : ByteArray) (xs : List Int) (v : Value) (p : Value) (w : World) (h : xs.length ≠ 1) (hr : RS 6 RKz w 0 xs v) :
    Calls Tryd.prog 81 #[p, .agg #[.int .i64 19, .int .i64 width, .int .i64 n, .bool sg, .string s, v]] w fun e w' => e = .returned (.bool (false)) ∧ Below w.heap.size w w' := by
  have hlen := hr.len
  unfold maxLen at hlen
  obtain ⟨a, c, rfl⟩ := hr.slice
  clear hr
  have q : ((xs.length : Int) == 1) = false := decide_eq_false (by omega)
  go_enter Tryd.func81, Tryd.ntmps81
  go_wp2
  go_quiet (fail)
  go_wp2
  go_ret
  exact ⟨rfl, bdn (bal (brf w) _)⟩
set_option maxHeartbeats 8000000 in
theorem sSh19 (width n : Int) (sg : Bool) (s : ByteArray) (x : Int) (v : Value) (p : Value) (w : World) (hr : RS 6 RKz w 0 [x] v) :
    Calls Tryd.prog 81 #[p, .agg #[.int .i64 19, .int .i64 width, .int .i64 n, .bool sg, .string s, v]] w fun e w' => e = .returned (.bool ((x == width))) ∧ Below w.heap.size w w' := by
  obtain ⟨a, c, rfl, hk⟩ := kzs_open hr
  clear hr
  obtain ⟨b, o, rfl, k0, hc⟩ := hk 0 x rfl
  clear hk
  have l0 := cell_later (bal (brf w) (.cells #[.int .i64 19, .int .i64 width, .int .i64 n, .bool sg, .string s, .slice (some ⟨b, o, none⟩) 1 c] 104)) k0
  simp only [List.length_cons, List.length_nil, Nat.zero_mul, Nat.add_zero, Nat.one_mul, Nat.zero_add] at *
  go_enter Tryd.func81, Tryd.ntmps81
  go_wp2
  go_quiet (fail)
  go_wp2
  go_ret
  exact ⟨rfl, bdn (bal (brf w) _)⟩
set_option maxHeartbeats 8000000 in
theorem sSh20_no (width n : Int) (sg : Bool) (s : ByteArray) (xs : List Int) (v : Value) (p : Value) (w : World) (h : xs.length ≠ 1) (hr : RS 6 RKz w 0 xs v) :
    Calls Tryd.prog 81 #[p, .agg #[.int .i64 20, .int .i64 width, .int .i64 n, .bool sg, .string s, v]] w fun e w' => e = .returned (.bool (false)) ∧ Below w.heap.size w w' := by
  have hlen := hr.len
  unfold maxLen at hlen
  obtain ⟨a, c, rfl⟩ := hr.slice
  clear hr
  have q : ((xs.length : Int) == 1) = false := decide_eq_false (by omega)
  go_enter Tryd.func81, Tryd.ntmps81
  go_wp2
  go_quiet (fail)
  go_wp2
  go_ret
  exact ⟨rfl, bdn (bal (brf w) _)⟩
set_option maxHeartbeats 8000000 in
theorem sSh20 (width n : Int) (sg : Bool) (s : ByteArray) (x : Int) (v : Value) (p : Value) (w : World) (hr : RS 6 RKz w 0 [x] v) :
    Calls Tryd.prog 81 #[p, .agg #[.int .i64 20, .int .i64 width, .int .i64 n, .bool sg, .string s, v]] w fun e w' => e = .returned (.bool ((x == width))) ∧ Below w.heap.size w w' := by
  obtain ⟨a, c, rfl, hk⟩ := kzs_open hr
  clear hr
  obtain ⟨b, o, rfl, k0, hc⟩ := hk 0 x rfl
  clear hk
  have l0 := cell_later (bal (brf w) (.cells #[.int .i64 20, .int .i64 width, .int .i64 n, .bool sg, .string s, .slice (some ⟨b, o, none⟩) 1 c] 104)) k0
  simp only [List.length_cons, List.length_nil, Nat.zero_mul, Nat.add_zero, Nat.one_mul, Nat.zero_add] at *
  go_enter Tryd.func81, Tryd.ntmps81
  go_wp2
  go_quiet (fail)
  go_wp2
  go_ret
  exact ⟨rfl, bdn (bal (brf w) _)⟩
set_option maxHeartbeats 8000000 in
theorem sSh21_no (width n : Int) (sg : Bool) (s : ByteArray) (xs : List Int) (v : Value) (p : Value) (w : World) (h : xs.length ≠ 1) (hr : RS 6 RKz w 0 xs v) :
    Calls Tryd.prog 81 #[p, .agg #[.int .i64 21, .int .i64 width, .int .i64 n, .bool sg, .string s, v]] w fun e w' => e = .returned (.bool (false)) ∧ Below w.heap.size w w' := by
  have hlen := hr.len
  unfold maxLen at hlen
  obtain ⟨a, c, rfl⟩ := hr.slice
  clear hr
  have q : ((xs.length : Int) == 1) = false := decide_eq_false (by omega)
  go_enter Tryd.func81, Tryd.ntmps81
  go_wp2
  go_ret
  exact ⟨rfl, bal (brf w) _⟩
set_option maxHeartbeats 8000000 in
theorem sSh21 (width n : Int) (sg : Bool) (s : ByteArray) (x : Int) (v : Value) (p : Value) (w : World) (hr : RS 6 RKz w 0 [x] v) :
    Calls Tryd.prog 81 #[p, .agg #[.int .i64 21, .int .i64 width, .int .i64 n, .bool sg, .string s, v]] w fun e w' => e = .returned (.bool ((width == 1))) ∧ Below w.heap.size w w' := by
  obtain ⟨a, c, rfl, hk⟩ := kzs_open hr
  clear hr
  obtain ⟨b, o, rfl, k0, hc⟩ := hk 0 x rfl
  clear hk
  have l0 := cell_later (bal (brf w) (.cells #[.int .i64 21, .int .i64 width, .int .i64 n, .bool sg, .string s, .slice (some ⟨b, o, none⟩) 1 c] 104)) k0
  simp only [List.length_cons, List.length_nil, Nat.zero_mul, Nat.add_zero, Nat.one_mul, Nat.zero_add] at *
  go_enter Tryd.func81, Tryd.ntmps81
  go_wp2
  go_ret
  exact ⟨rfl, bal (brf w) _⟩
set_option maxHeartbeats 8000000 in
theorem sSh22_no (width n : Int) (sg : Bool) (s : ByteArray) (xs : List Int) (v : Value) (p : Value) (w : World) (h : xs.length ≠ 1) (hr : RS 6 RKz w 0 xs v) :
    Calls Tryd.prog 81 #[p, .agg #[.int .i64 22, .int .i64 width, .int .i64 n, .bool sg, .string s, v]] w fun e w' => e = .returned (.bool (false)) ∧ Below w.heap.size w w' := by
  have hlen := hr.len
  unfold maxLen at hlen
  obtain ⟨a, c, rfl⟩ := hr.slice
  clear hr
  have q : ((xs.length : Int) == 1) = false := decide_eq_false (by omega)
  go_enter Tryd.func81, Tryd.ntmps81
  go_wp2
  go_ret
  exact ⟨rfl, bal (brf w) _⟩
set_option maxHeartbeats 8000000 in
theorem sSh22 (width n : Int) (sg : Bool) (s : ByteArray) (x : Int) (v : Value) (p : Value) (w : World) (hr : RS 6 RKz w 0 [x] v) :
    Calls Tryd.prog 81 #[p, .agg #[.int .i64 22, .int .i64 width, .int .i64 n, .bool sg, .string s, v]] w fun e w' => e = .returned (.bool ((width == 1))) ∧ Below w.heap.size w w' := by
  obtain ⟨a, c, rfl, hk⟩ := kzs_open hr
  clear hr
  obtain ⟨b, o, rfl, k0, hc⟩ := hk 0 x rfl
  clear hk
  have l0 := cell_later (bal (brf w) (.cells #[.int .i64 22, .int .i64 width, .int .i64 n, .bool sg, .string s, .slice (some ⟨b, o, none⟩) 1 c] 104)) k0
  simp only [List.length_cons, List.length_nil, Nat.zero_mul, Nat.add_zero, Nat.one_mul, Nat.zero_add] at *
  go_enter Tryd.func81, Tryd.ntmps81
  go_wp2
  go_ret
  exact ⟨rfl, bal (brf w) _⟩
set_option maxHeartbeats 8000000 in
theorem sSh23_no (width n : Int) (sg : Bool) (s : ByteArray) (xs : List Int) (v : Value) (p : Value) (w : World) (h : xs.length ≠ 1) (hr : RS 6 RKz w 0 xs v) :
    Calls Tryd.prog 81 #[p, .agg #[.int .i64 23, .int .i64 width, .int .i64 n, .bool sg, .string s, v]] w fun e w' => e = .returned (.bool (false)) ∧ Below w.heap.size w w' := by
  have hlen := hr.len
  unfold maxLen at hlen
  obtain ⟨a, c, rfl⟩ := hr.slice
  clear hr
  have q : ((xs.length : Int) == 1) = false := decide_eq_false (by omega)
  go_enter Tryd.func81, Tryd.ntmps81
  go_wp2
  go_ret
  exact ⟨rfl, bal (brf w) _⟩
set_option maxHeartbeats 8000000 in
theorem sSh23 (width n : Int) (sg : Bool) (s : ByteArray) (x : Int) (v : Value) (p : Value) (w : World) (hr : RS 6 RKz w 0 [x] v) :
    Calls Tryd.prog 81 #[p, .agg #[.int .i64 23, .int .i64 width, .int .i64 n, .bool sg, .string s, v]] w fun e w' => e = .returned (.bool ((width == 1))) ∧ Below w.heap.size w w' := by
  obtain ⟨a, c, rfl, hk⟩ := kzs_open hr
  clear hr
  obtain ⟨b, o, rfl, k0, hc⟩ := hk 0 x rfl
  clear hk
  have l0 := cell_later (bal (brf w) (.cells #[.int .i64 23, .int .i64 width, .int .i64 n, .bool sg, .string s, .slice (some ⟨b, o, none⟩) 1 c] 104)) k0
  simp only [List.length_cons, List.length_nil, Nat.zero_mul, Nat.add_zero, Nat.one_mul, Nat.zero_add] at *
  go_enter Tryd.func81, Tryd.ntmps81
  go_wp2
  go_ret
  exact ⟨rfl, bal (brf w) _⟩
set_option maxHeartbeats 8000000 in
theorem sSh24_no (width n : Int) (sg : Bool) (s : ByteArray) (xs : List Int) (v : Value) (p : Value) (w : World) (h : xs.length ≠ 1) (hr : RS 6 RKz w 0 xs v) :
    Calls Tryd.prog 81 #[p, .agg #[.int .i64 24, .int .i64 width, .int .i64 n, .bool sg, .string s, v]] w fun e w' => e = .returned (.bool (false)) ∧ Below w.heap.size w w' := by
  have hlen := hr.len
  unfold maxLen at hlen
  obtain ⟨a, c, rfl⟩ := hr.slice
  clear hr
  have q : ((xs.length : Int) == 1) = false := decide_eq_false (by omega)
  go_enter Tryd.func81, Tryd.ntmps81
  go_wp2
  go_ret
  exact ⟨rfl, bal (brf w) _⟩
set_option maxHeartbeats 8000000 in
theorem sSh24 (width n : Int) (sg : Bool) (s : ByteArray) (x : Int) (v : Value) (p : Value) (w : World) (hr : RS 6 RKz w 0 [x] v) :
    Calls Tryd.prog 81 #[p, .agg #[.int .i64 24, .int .i64 width, .int .i64 n, .bool sg, .string s, v]] w fun e w' => e = .returned (.bool ((width == 1))) ∧ Below w.heap.size w w' := by
  obtain ⟨a, c, rfl, hk⟩ := kzs_open hr
  clear hr
  obtain ⟨b, o, rfl, k0, hc⟩ := hk 0 x rfl
  clear hk
  have l0 := cell_later (bal (brf w) (.cells #[.int .i64 24, .int .i64 width, .int .i64 n, .bool sg, .string s, .slice (some ⟨b, o, none⟩) 1 c] 104)) k0
  simp only [List.length_cons, List.length_nil, Nat.zero_mul, Nat.add_zero, Nat.one_mul, Nat.zero_add] at *
  go_enter Tryd.func81, Tryd.ntmps81
  go_wp2
  go_ret
  exact ⟨rfl, bal (brf w) _⟩
end Go.Proofs.YtkmpjoiefcjbnaaDoor
namespace Go.Proofs.YtkmpjoiefcjbnaaDoor
open Go.RowKit Gs
set_option linter.unusedVariables false
set_option linter.unusedSimpArgs false
set_option maxRecDepth 100000
set_option maxHeartbeats 8000000 in
theorem sSh25_no (width n : Int) (sg : Bool) (s : ByteArray) (xs : List Int) (v : Value) (p : Value) (w : World) (h : xs.length ≠ 3) (hr : RS 6 RKz w 0 xs v) :
    Calls Tryd.prog 81 #[p, .agg #[.int .i64 25, .int .i64 width, .int .i64 n, .bool sg, .string s, v]] w fun e w' => e = .returned (.bool (false)) ∧ Below w.heap.size w w' := by
  have hlen := hr.len
  unfold maxLen at hlen
  obtain ⟨a, c, rfl⟩ := hr.slice
  clear hr
  have q : ((xs.length : Int) == 3) = false := decide_eq_false (by omega)
  go_enter Tryd.func81, Tryd.ntmps81
  go_wp2
  go_quiet (fail)
  go_wp2
  go_ret
  exact ⟨rfl, bdn (bal (brf w) _)⟩
set_option maxHeartbeats 8000000 in
theorem sSh25 (width n : Int) (sg : Bool) (s : ByteArray) (x y z : Int) (v : Value) (p : Value) (w : World) (hr : RS 6 RKz w 0 [x, y, z] v) :
    Calls Tryd.prog 81 #[p, .agg #[.int .i64 25, .int .i64 width, .int .i64 n, .bool sg, .string s, v]] w fun e w' => e = .returned (.bool ((y == width) && (z == width))) ∧ Below w.heap.size w w' := by
  obtain ⟨a, c, rfl, hk⟩ := kzs_open hr
  clear hr
  obtain ⟨b, o, rfl, k0, hc⟩ := hk 0 x rfl
  obtain ⟨b1, o1, e1, k1, _⟩ := hk 1 y rfl
  cases e1
  obtain ⟨b2, o2, e2, k2, _⟩ := hk 2 z rfl
  cases e2
  clear hk
  have l0 := cell_later (bal (brf w) (.cells #[.int .i64 25, .int .i64 width, .int .i64 n, .bool sg, .string s, .slice (some ⟨b, o, none⟩) 3 c] 104)) k0
  have l1 := cell_later (bal (brf w) (.cells #[.int .i64 25, .int .i64 width, .int .i64 n, .bool sg, .string s, .slice (some ⟨b, o, none⟩) 3 c] 104)) k1
  have l2 := cell_later (bal (brf w) (.cells #[.int .i64 25, .int .i64 width, .int .i64 n, .bool sg, .string s, .slice (some ⟨b, o, none⟩) 3 c] 104)) k2
  simp only [List.length_cons, List.length_nil, Nat.zero_mul, Nat.add_zero, Nat.one_mul, Nat.zero_add] at *
  cases c1 : y == width
  · go_enter Tryd.func81, Tryd.ntmps81
    go_wp2
    go_quiet (fail)
    go_wp2
    go_ret
    exact ⟨rfl, bdn (bal (brf w) _)⟩
  · skip
    go_enter Tryd.func81, Tryd.ntmps81
    go_wp2
    go_quiet (fail)
    go_wp2
    go_ret
    exact ⟨rfl, bdn (bal (brf w) _)⟩
set_option maxHeartbeats 8000000 in
theorem sSh27_no (width n : Int) (sg : Bool) (s : ByteArray) (xs : List Int) (v : Value) (p : Value) (w : World) (h : xs.length ≠ 1) (hr : RS 6 RKz w 0 xs v) :
    Calls Tryd.prog 81 #[p, .agg #[.int .i64 27, .int .i64 width, .int .i64 n, .bool sg, .string s, v]] w fun e w' => e = .returned (.bool (false)) ∧ Below w.heap.size w w' := by
  have hlen := hr.len
  unfold maxLen at hlen
  obtain ⟨a, c, rfl⟩ := hr.slice
  clear hr
  have q : ((xs.length : Int) == 1) = false := decide_eq_false (by omega)
  go_enter Tryd.func81, Tryd.ntmps81
  go_wp2
  go_quiet (fail)
  go_wp2
  go_ret
  exact ⟨rfl, bdn (bal (brf w) _)⟩
set_option maxHeartbeats 8000000 in
theorem sSh28_no (width n : Int) (sg : Bool) (s : ByteArray) (xs : List Int) (v : Value) (p : Value) (w : World) (h : xs.length ≠ 1) (hr : RS 6 RKz w 0 xs v) :
    Calls Tryd.prog 81 #[p, .agg #[.int .i64 28, .int .i64 width, .int .i64 n, .bool sg, .string s, v]] w fun e w' => e = .returned (.bool (false)) ∧ Below w.heap.size w w' := by
  have hlen := hr.len
  unfold maxLen at hlen
  obtain ⟨a, c, rfl⟩ := hr.slice
  clear hr
  have q : ((xs.length : Int) == 1) = false := decide_eq_false (by omega)
  go_enter Tryd.func81, Tryd.ntmps81
  go_wp2
  go_quiet (fail)
  go_wp2
  go_ret
  exact ⟨rfl, bdn (bal (brf w) _)⟩
end Go.Proofs.YtkmpjoiefcjbnaaDoor
namespace Go.Proofs.YtkmpjoiefcjbnaaDoor
open Go.RowKit Gs
set_option linter.unusedVariables false
set_option linter.unusedSimpArgs false
set_option maxRecDepth 100000
set_option maxHeartbeats 8000000 in
theorem sSh27 (width n : Int) (sg : Bool) (s : ByteArray) (x : Int) (v : Value) (p : Value) (w : World) (hw1 : 1 ≤ width) (hw2 : width ≤ 64) (hr : RS 6 RKz w 0 [x] v) :
    Calls Tryd.prog 81 #[p, .agg #[.int .i64 27, .int .i64 width, .int .i64 n, .bool sg, .string s, v]] w fun e w' => e = .returned (.bool (decide (0 ≤ n) && decide (n ≤ 64) && decide (n + width ≤ x))) ∧ Below w.heap.size w w' := by
  obtain ⟨a, c, rfl, hk⟩ := kzs_open hr
  clear hr
  obtain ⟨b, o, rfl, k0, hc⟩ := hk 0 x rfl
  clear hk
  have l0 := cell_later (bal (brf w) (.cells #[.int .i64 27, .int .i64 width, .int .i64 n, .bool sg, .string s, .slice (some ⟨b, o, none⟩) 1 c] 104)) k0
  simp only [List.length_cons, List.length_nil, Nat.zero_mul, Nat.add_zero, Nat.one_mul, Nat.zero_add] at *
  by_cases h0 : 0 ≤ n
  · by_cases h64 : n ≤ 64
    · rw [decide_eq_true h0, decide_eq_true h64]
      have hwr : IntKind.i64.wrap (n + width) = n + width := by rw [IntKind.wrap_i64]; omega
      go_enter Tryd.func81, Tryd.ntmps81
      go_wp2
      go_quiet (fail)
      go_wp2
      go_ret
      refine ⟨?_, bdn (bal (brf w) _)⟩
      first | rfl | simp
    · have hd : decide (n ≤ 64) = false := decide_eq_false h64
      rw [decide_eq_true h0, hd]
      clear h64
      go_enter Tryd.func81, Tryd.ntmps81
      go_wp2
      go_quiet (fail)
      go_wp2
      go_ret
      exact ⟨rfl, bdn (bal (brf w) _)⟩
  · have hd : decide (0 ≤ n) = false := decide_eq_false h0
    rw [hd]
    clear h0
    go_enter Tryd.func81, Tryd.ntmps81
    go_wp2
    go_quiet (fail)
    go_wp2
    go_ret
    exact ⟨rfl, bdn (bal (brf w) _)⟩
end Go.Proofs.YtkmpjoiefcjbnaaDoor
namespace Go.Proofs.YtkmpjoiefcjbnaaDoor
open Go.RowKit Gs
set_option linter.unusedVariables false
set_option linter.unusedSimpArgs false
set_option maxRecDepth 100000
set_option maxHeartbeats 8000000 in
theorem sSh28 (width n : Int) (sg : Bool) (s : ByteArray) (x : Int) (v : Value) (p : Value) (w : World) (hr : RS 6 RKz w 0 [x] v) :
    Calls Tryd.prog 81 #[p, .agg #[.int .i64 28, .int .i64 width, .int .i64 n, .bool sg, .string s, v]] w fun e w' => e = .returned (.bool ((x != width) && (!sg || decide (x < width)))) ∧ Below w.heap.size w w' := by
  obtain ⟨a, c, rfl, hk⟩ := kzs_open hr
  clear hr
  obtain ⟨b, o, rfl, k0, hc⟩ := hk 0 x rfl
  clear hk
  have l0 := cell_later (bal (brf w) (.cells #[.int .i64 28, .int .i64 width, .int .i64 n, .bool sg, .string s, .slice (some ⟨b, o, none⟩) 1 c] 104)) k0
  simp only [List.length_cons, List.length_nil, Nat.zero_mul, Nat.add_zero, Nat.one_mul, Nat.zero_add] at *
  cases hx : x != width
  · go_enter Tryd.func81, Tryd.ntmps81
    go_wp2
    go_quiet (fail)
    go_wp2
    go_ret
    exact ⟨rfl, bdn (bal (brf w) _)⟩
  · cases sg
    · go_enter Tryd.func81, Tryd.ntmps81
      go_wp2
      go_quiet (fail)
      go_wp2
      go_ret
      exact ⟨rfl, bdn (bal (brf w) _)⟩
    · go_enter Tryd.func81, Tryd.ntmps81
      go_wp2
      go_quiet (fail)
      go_wp2
      go_ret
      exact ⟨rfl, bdn (bal (brf w) _)⟩
end Go.Proofs.YtkmpjoiefcjbnaaDoor
namespace Go.Proofs.YtkmpjoiefcjbnaaDoor
open Go.RowKit Gs
set_option linter.unusedVariables false
set_option linter.unusedSimpArgs false
set_option maxRecDepth 100000
set_option maxHeartbeats 8000000 in
theorem sSh29 (width n : Int) (sg : Bool) (s : ByteArray) (a : Option Addr) (l c : Nat) (p : Value) (w : World) (hl : l ≤ maxLen) (hs : s.size ≤ maxLen) :
    Calls Tryd.prog 81 #[p, .agg #[.int .i64 29, .int .i64 width, .int .i64 n, .bool sg, .string s, .slice a l c]] w fun e w' => e = .returned (.bool (decide (l = 0) && Vb.okV (L s) && ((s.size : Int) == width))) ∧ Below w.heap.size w w' := by
  have BO := hide (fun W => sBitsOK s W hs)
  unfold maxLen at hl hs
  by_cases h0 : l = 0
  · subst h0
    cases hv : Vb.okV (L s)
    · go_enter Tryd.func81, Tryd.ntmps81
      go_wp2_with (first | (go_at_call 41; refine (unhide BO _).mono ?_; rintro e W1 ⟨rfl, rfl⟩; rw [hv]))
      go_ret
      exact ⟨rfl, bal (brf w) _⟩
    · go_enter Tryd.func81, Tryd.ntmps81
      go_wp2_with (first | (go_at_call 41; refine (unhide BO _).mono ?_; rintro e W1 ⟨rfl, rfl⟩; rw [hv]))
      go_ret
      exact ⟨rfl, bal (brf w) _⟩
  · rw [decide_eq_false h0]
    have q : ((l : Int) == 0) = false := decide_eq_false (by omega)
    go_enter Tryd.func81, Tryd.ntmps81
    go_wp2
    go_ret
    exact ⟨rfl, bal (brf w) _⟩
end Go.Proofs.YtkmpjoiefcjbnaaDoor
namespace Go.Proofs.YtkmpjoiefcjbnaaDoor
open Go.RowKit Gs
set_option linter.unusedVariables false
set_option linter.unusedSimpArgs false
set_option maxRecDepth 100000
set_option maxHeartbeats 8000000 in
theorem sShLow (op width n : Int) (sg : Bool) (s : ByteArray) (a : Option Addr) (l c : Nat) (p : Value) (w : World) (h : op < 1) :
    Calls Tryd.prog 81 #[p, .agg #[.int .i64 op, .int .i64 width, .int .i64 n, .bool sg, .string s, .slice a l c]] w fun e w' => e = .returned (.bool false) ∧ Below w.heap.size w w' := by
  have hneq : ∀ k : Int, 1 ≤ k → (op == k) = false := fun k hk => decide_eq_false (by omega)
  have e17 := hneq 17 (by omega)
  have e18 := hneq 18 (by omega)
  have e19 := hneq 19 (by omega)
  have e20 := hneq 20 (by omega)
  have e25 := hneq 25 (by omega)
  have e26 := hneq 26 (by omega)
  have e27 := hneq 27 (by omega)
  have e28 := hneq 28 (by omega)
  have e29 := hneq 29 (by omega)
  clear hneq
  have h30 : op < 30 := by omega
  go_enter Tryd.func81, Tryd.ntmps81
  go_wp2
  go_quiet (fail)
  go_wp2
  go_ret
  exact ⟨rfl, bdn (bal (brf w) _)⟩
end Go.Proofs.YtkmpjoiefcjbnaaDoor
namespace Go.Proofs.YtkmpjoiefcjbnaaDoor
open Go.RowKit Gs
set_option linter.unusedVariables false
set_option linter.unusedSimpArgs false
set_option maxRecDepth 100000
set_option maxHeartbeats 8000000 in
theorem sShHigh (op width n : Int) (sg : Bool) (s : ByteArray) (a : Option Addr) (l c : Nat) (p : Value) (w : World) (h : 32 < op) :
    Calls Tryd.prog 81 #[p, .agg #[.int .i64 op, .int .i64 width, .int .i64 n, .bool sg, .string s, .slice a l c]] w fun e w' => e = .returned (.bool false) ∧ Below w.heap.size w w' := by
  have hneq : ∀ k : Int, k ≤ 32 → (op == k) = false := fun k hk => decide_eq_false (by omega)
  have e17 := hneq 17 (by omega)
  have e18 := hneq 18 (by omega)
  have e19 := hneq 19 (by omega)
  have e20 := hneq 20 (by omega)
  have e25 := hneq 25 (by omega)
  have e26 := hneq 26 (by omega)
  have e27 := hneq 27 (by omega)
  have e28 := hneq 28 (by omega)
  have e29 := hneq 29 (by omega)
  clear hneq
  have d8 : decide (op ≤ 8) = false := decide_eq_false (by omega)
  have d13 : decide (op ≤ 13) = false := decide_eq_false (by omega)
  have d16 : decide (op ≤ 16) = false := decide_eq_false (by omega)
  have d24 : decide (op ≤ 24) = false := decide_eq_false (by omega)
  have d1 : decide (1 ≤ op) = true := decide_eq_true (by omega)
  have d9 : decide (9 ≤ op) = true := decide_eq_true (by omega)
  have d14 : decide (14 ≤ op) = true := decide_eq_true (by omega)
  have d21 : decide (21 ≤ op) = true := decide_eq_true (by omega)
  have d30 : decide (op < 30) = false := decide_eq_false (by omega)
  have d32 : decide (32 < op) = true := decide_eq_true (by omega)
  go_enter Tryd.func81, Tryd.ntmps81
  go_wp2
  go_quiet (fail)
  go_wp2
  go_ret
  exact ⟨rfl, bdn (bal (brf w) _)⟩
end Go.Proofs.YtkmpjoiefcjbnaaDoor
namespace Go.Proofs.YtkmpjoiefcjbnaaDoor
open Go.RowKit Gs
set_option linter.unusedVariables false
set_option maxRecDepth 100000
theorem sumI_take_bound {xs : List Int} (h : ∀ x ∈ xs, 0 ≤ x ∧ x ≤ 64) (hl : xs.length ≤ 64) (k : Nat) : 0 ≤ sumI (xs.take k) ∧ sumI (xs.take k) ≤ 4096 := by
  have h1 := sumI_bound (xs := xs.take k) (b := 64) (fun x hx => h x (List.mem_of_mem_take hx))
  have h2 : (xs.take k).length ≤ 64 := by rw [List.length_take]; omega
  omega
set_option maxHeartbeats 8000000 in
theorem sSh26 (width n : Int) (sg : Bool) (s : ByteArray) (xs : List Int) (v : Value) (p : Value) (w : World) (hx : ∀ x ∈ xs, 0 ≤ x ∧ x ≤ 64) (hl : xs.length ≤ 64) (hr : RS 6 RKz w 0 xs v) :
    Calls Tryd.prog 81 #[p, .agg #[.int .i64 26, .int .i64 width, .int .i64 n, .bool sg, .string s, v]] w fun e w' => e = .returned (.bool (sumI xs == width)) ∧ Below w.heap.size w w' := by
  have SB := hide (sumI_take_bound hx hl)
  have HX := hide hx
  clear hx
  obtain ⟨a, c, rfl, hk⟩ := kzs_open hr
  clear hr
  have HK := hide hk
  clear hk
  go_enter Tryd.func81, Tryd.ntmps81
  go_wp2
  go_loopw [7, 8] (fun t i wr => ∃ k : Nat, k ≤ xs.length ∧ i = .int .i64 k ∧ t = .int .i64 (sumI (xs.take k)) ∧ Bt 104 w #[.int .i64 26, .int .i64 width, .int .i64 n, .bool sg, .string s, .slice a xs.length c] wr) (fun _ i _ => xs.length - (intOf i).toNat)
  case atStart => exact ⟨0, Nat.zero_le _, rfl, rfl, Bt.refl _ _ _⟩
  case round =>
    obtain ⟨k, hk, rfl, rfl, hbx⟩ := hrel
    obtain ⟨q0, q1, q2, q3, q4, q5⟩ := hbx.get6
    by_cases hlt : k < xs.length
    · have hx : xs[k]? = some xs[k] := List.getElem?_eq_getElem hlt
      have hmem : xs[k] ∈ xs := List.getElem_mem hlt
      generalize xs[k] = x at hx hmem
      obtain ⟨b, o, rfl, hc, _⟩ := unhide HK k x hx
      have l0 := cell_later hbx.below hc
      have hst := sumI_take hx
      have hb1 := unhide SB k
      have hb2 := unhide SB (k + 1)
      rw [hst] at hb2
      have HST := hide hst
      have HX2 := hide hbx
      have hwr : IntKind.i64.wrap (sumI (xs.take k) + x) = sumI (xs.take k) + x := by rw [IntKind.wrap_i64]; omega
      clear hst hx hmem hbx HK hc
      generalize sumI (xs.take k) = T at *
      go_wp2
      refine ⟨⟨k + 1, by omega, by go_num, ?_, unhide HX2⟩, by simp [intOf]; omega⟩
      rw [unhide HST]
    · obtain rfl : k = xs.length := by omega
      rw [List.take_of_length_le (Nat.le_refl _)]
      have HX2 := hide hbx
      clear hbx HK
      go_wp2
      go_ret
      exact ⟨rfl, (unhide HX2).below⟩
end Go.Proofs.YtkmpjoiefcjbnaaDoor
