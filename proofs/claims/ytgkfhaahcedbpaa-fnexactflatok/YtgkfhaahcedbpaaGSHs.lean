/- operationFits: its kinds, one after another. -/
import Derived.Test.YtgkfhaahcedbpaaGM8
import Derived.Deep.RegionHeld3
namespace Go.Proofs.Ytgkfhaahcedbpaa
open Go.RowKit Gs
set_option linter.unusedVariables false
set_option maxRecDepth 100000
set_option maxHeartbeats 1600000 in
theorem iOperation1 (op width n : Int) (sg : Bool) (s : ByteArray) (xs : List Int) (v : Value) (w : World) (h1 : 1 ≤ op) (h24 : op ≤ 24) (hr : RS 6 RKid w 0 xs v) :
    Calls Try.prog 58 #[.agg #[.int .i64 op, .int .i64 width, .int .i64 n, .bool sg, .string s, v]] w fun e w' => e = .returned (.bool (fitsO op width xs)) ∧ Below w.heap.size w w' := by
  have SO := hide (fun (W : World) (hb : Below w.heap.size w W) => iOperands op width n sg s xs v W (hr.later RKid.keeps hb))
  obtain ⟨a, c, rfl⟩ := hr.slice
  clear hr
  go_enter Try.func58, Try.ntmps58
  go_wp2_with (first | (go_at_call 59; refine (unhide SO _ (bal (brf w) _)).mono ?_; rintro e W1 ⟨rfl, hb1⟩; have HB := hide (btr (bal (brf w) _) hb1); clear hb1))
  exact bodyPost_ret (v := .bool (fitsO op width xs)) (by simp [results, Try.results58, go_sem]) rfl ⟨rfl, unhide HB⟩
set_option maxHeartbeats 1600000 in
theorem iOperation26 (width n : Int) (sg : Bool) (s : ByteArray) (xs : List Int) (v : Value) (w : World) (hr : RS 6 RKid w 0 xs v) :
    Calls Try.prog 58 #[.agg #[.int .i64 26, .int .i64 width, .int .i64 n, .bool sg, .string s, v]] w fun e w' => e = .returned (.bool (sumW xs == width)) ∧ Below w.heap.size w w' := by
  have SO := hide (fun (W : World) (hb : Below w.heap.size w W) => iWidthOfAll xs v W (hr.later RKid.keeps hb))
  obtain ⟨a, c, rfl⟩ := hr.slice
  clear hr
  go_enter Try.func58, Try.ntmps58
  go_wp2
  go_region_with (first | (go_at_call 60; refine (unhide SO _ (bdr (bal (brf w) _))).mono ?_; rintro e W1 ⟨rfl, hb1⟩; have d1 : W1.cell? ⟨w.heap.size, 1, none⟩ = some (.int .i64 width) := cell_later hb1 (by go_simp); have HB := hide (btr (bdr (bal (brf w) _)) hb1); clear hb1))
  all_goals (
    go_wp2
    exact bodyPost_ret (v := .bool (sumW xs == width)) (by simp [results, Try.results58, go_sem]) rfl ⟨rfl, unhide HB⟩)
/-- An empty operand list is asked of a constant. -/
def fits29 (width : Int) (s : ByteArray) (xs : List Int) : Bool := xs.isEmpty && ((s.size : Int) == width) && Vb.okV (L s)
set_option maxHeartbeats 1600000 in
theorem iOperation29 (width n : Int) (sg : Bool) (s : ByteArray) (xs : List Int) (v : Value) (w : World) (hs : s.size ≤ maxLen) (hr : RS 6 RKid w 0 xs v) :
    Calls Try.prog 58 #[.agg #[.int .i64 29, .int .i64 width, .int .i64 n, .bool sg, .string s, v]] w fun e w' => e = .returned (.bool (fits29 width s xs)) ∧ Below w.heap.size w w' := by
  have SO := hide (fun (W : World) => iBitsOK s W hs)
  have hlen := hr.len
  unfold maxLen at hlen hs
  obtain ⟨a, c, rfl⟩ := hr.slice
  clear hr
  cases hx : xs with
  | cons y ys =>
    rw [show fits29 width s (y :: ys) = false from rfl]
    have hlen' : ys.length + 1 ≤ 2 ^ 63 - 1 := by rw [hx] at hlen; simpa using hlen
    have q : (((ys.length + 1 : Nat) : Int) == 0) = false := decide_eq_false (by omega)
    clear hlen hx
    rw [List.length_cons]
    go_enter Try.func58, Try.ntmps58
    go_wp2
    exact bodyPost_ret (v := .bool false) (by simp [results, Try.results58, go_sem]) rfl ⟨rfl, bal (brf w) _⟩
  | nil =>
    clear hlen hx
    rw [show fits29 width s [] = (((s.size : Int) == width) && Vb.okV (L s)) from rfl, List.length_nil]
    cases hw : (s.size : Int) == width
    · go_enter Try.func58, Try.ntmps58
      go_wp2
      exact bodyPost_ret (v := .bool false) (by simp [results, Try.results58, go_sem]) rfl ⟨rfl, bal (brf w) _⟩
    · go_enter Try.func58, Try.ntmps58
      go_wp2_with (first | (go_at_call 27; refine (unhide SO _).mono ?_; rintro e W1 ⟨rfl, hb1⟩; have HB := hide (btr (bal (brf w) _) hb1); clear hb1))
      exact bodyPost_ret (v := .bool (Vb.okV (L s))) (by simp [results, Try.results58, go_sem]) rfl ⟨rfl, unhide HB⟩
end Go.Proofs.Ytgkfhaahcedbpaa
namespace Go.Proofs.Ytgkfhaahcedbpaa
open Go.RowKit Gs
set_option linter.unusedVariables false
set_option linter.unusedSimpArgs false
set_option maxRecDepth 100000
set_option maxHeartbeats 1600000 in
theorem iOperation25no (width n : Int) (sg : Bool) (s : ByteArray) (xs : List Int) (v : Value) (w : World) (hr : RS 6 RKid w 0 xs v) (h : xs.length ≠ 3) :
    Calls Try.prog 58 #[.agg #[.int .i64 25, .int .i64 width, .int .i64 n, .bool sg, .string s, v]] w fun e w' => e = .returned (.bool false) ∧ Below w.heap.size w w' := by
  have hlen := hr.len
  unfold maxLen at hlen
  obtain ⟨a, c, rfl⟩ := hr.slice
  clear hr
  have q : ((xs.length : Int) == 3) = false := decide_eq_false (by omega)
  go_enter Try.func58, Try.ntmps58
  go_wp2
  go_quiet (fail)
  go_wp2
  exact bodyPost_ret (v := .bool false) (by simp [results, Try.results58, go_sem]) rfl ⟨rfl, bdn (bal (brf w) _)⟩
set_option maxHeartbeats 1600000 in
theorem iOperation27no (width n : Int) (sg : Bool) (s : ByteArray) (xs : List Int) (v : Value) (w : World) (hr : RS 6 RKid w 0 xs v) (h : xs.length ≠ 1) :
    Calls Try.prog 58 #[.agg #[.int .i64 27, .int .i64 width, .int .i64 n, .bool sg, .string s, v]] w fun e w' => e = .returned (.bool false) ∧ Below w.heap.size w w' := by
  have hlen := hr.len
  unfold maxLen at hlen
  obtain ⟨a, c, rfl⟩ := hr.slice
  clear hr
  have q : ((xs.length : Int) == 1) = false := decide_eq_false (by omega)
  go_enter Try.func58, Try.ntmps58
  go_wp2
  go_quiet (fail)
  go_wp2
  exact bodyPost_ret (v := .bool false) (by simp [results, Try.results58, go_sem]) rfl ⟨rfl, bdn (bal (brf w) _)⟩
set_option maxHeartbeats 1600000 in
theorem iOperation28no (width n : Int) (sg : Bool) (s : ByteArray) (xs : List Int) (v : Value) (w : World) (hr : RS 6 RKid w 0 xs v) (h : xs.length ≠ 1) :
    Calls Try.prog 58 #[.agg #[.int .i64 28, .int .i64 width, .int .i64 n, .bool sg, .string s, v]] w fun e w' => e = .returned (.bool false) ∧ Below w.heap.size w w' := by
  have hlen := hr.len
  unfold maxLen at hlen
  obtain ⟨a, c, rfl⟩ := hr.slice
  clear hr
  have q : ((xs.length : Int) == 1) = false := decide_eq_false (by omega)
  go_enter Try.func58, Try.ntmps58
  go_wp2
  go_quiet (fail)
  go_wp2
  exact bodyPost_ret (v := .bool false) (by simp [results, Try.results58, go_sem]) rfl ⟨rfl, bdn (bal (brf w) _)⟩
set_option maxHeartbeats 1600000 in
theorem iOperation25yes (width n : Int) (sg : Bool) (s : ByteArray) (x y z : Int) (v : Value) (w : World) (hr : RS 6 RKid w 0 [x, y, z] v) :
    Calls Try.prog 58 #[.agg #[.int .i64 25, .int .i64 width, .int .i64 n, .bool sg, .string s, v]] w fun e w' => e = .returned (.bool ((y == width) && (z == width))) ∧ Below w.heap.size w w' := by
  obtain ⟨a, c, rfl, hk⟩ := kids_open hr
  clear hr
  obtain ⟨b, o, rfl, k0, hc⟩ := hk 0 x rfl
  obtain ⟨b1, o1, e1, k1, _⟩ := hk 1 y rfl
  cases e1
  obtain ⟨b2, o2, e2, k2, _⟩ := hk 2 z rfl
  cases e2
  clear hk
  have l0 := cell_later (bal (brf w) (.cells #[.int .i64 25, .int .i64 width, .int .i64 n, .bool sg, .string s, .slice (some ⟨b, o, none⟩) 3 c] 72)) k0
  have l1 := cell_later (bal (brf w) (.cells #[.int .i64 25, .int .i64 width, .int .i64 n, .bool sg, .string s, .slice (some ⟨b, o, none⟩) 3 c] 72)) k1
  have l2 := cell_later (bal (brf w) (.cells #[.int .i64 25, .int .i64 width, .int .i64 n, .bool sg, .string s, .slice (some ⟨b, o, none⟩) 3 c] 72)) k2
  simp only [List.length_cons, List.length_nil, Nat.zero_mul, Nat.add_zero, Nat.one_mul, Nat.zero_add] at *
  cases hy : y == width
  · go_enter Try.func58, Try.ntmps58
    go_wp2
    go_quiet (fail)
    go_wp2
    exact bodyPost_ret (v := .bool false) (by simp [results, Try.results58, go_sem]) rfl ⟨rfl, bdn (bal (brf w) _)⟩
  · go_enter Try.func58, Try.ntmps58
    go_wp2
    go_quiet (fail)
    go_wp2
    exact bodyPost_ret (v := .bool (z == width)) (by simp [results, Try.results58, go_sem]) rfl ⟨rfl, bdn (bal (brf w) _)⟩
set_option maxHeartbeats 1600000 in
theorem iOperation27yes (width n : Int) (sg : Bool) (s : ByteArray) (x : Int) (v : Value) (w : World) (hr : RS 6 RKid w 0 [x] v) :
    Calls Try.prog 58 #[.agg #[.int .i64 27, .int .i64 width, .int .i64 n, .bool sg, .string s, v]] w fun e w' => e = .returned (.bool (decide (0 ≤ n) && decide (n ≤ wrap64 (x - width)))) ∧ Below w.heap.size w w' := by
  obtain ⟨a, c, rfl, hk⟩ := kids_open hr
  clear hr
  obtain ⟨b, o, rfl, k0, hc⟩ := hk 0 x rfl
  clear hk
  have l0 := cell_later (bal (brf w) (.cells #[.int .i64 27, .int .i64 width, .int .i64 n, .bool sg, .string s, .slice (some ⟨b, o, none⟩) 1 c] 72)) k0
  simp only [List.length_cons, List.length_nil, Nat.zero_mul, Nat.add_zero, Nat.one_mul, Nat.zero_add] at *
  by_cases hn : 0 ≤ n
  · rw [decide_eq_true hn]
    go_enter Try.func58, Try.ntmps58
    go_wp2
    go_quiet (fail)
    go_wp2
    exact bodyPost_ret (v := .bool (decide (n ≤ wrap64 (x - width)))) (by simp [results, Try.results58, go_sem]) rfl ⟨rfl, bdn (bal (brf w) _)⟩
  · have hd : decide (0 ≤ n) = false := decide_eq_false hn
    rw [hd]
    clear hn
    go_enter Try.func58, Try.ntmps58
    go_wp2
    go_quiet (fail)
    go_wp2
    exact bodyPost_ret (v := .bool false) (by simp [results, Try.results58, go_sem]) rfl ⟨rfl, bdn (bal (brf w) _)⟩
set_option maxHeartbeats 1600000 in
theorem iOperation28yes (width n : Int) (sg : Bool) (s : ByteArray) (x : Int) (v : Value) (w : World) (hr : RS 6 RKid w 0 [x] v) :
    Calls Try.prog 58 #[.agg #[.int .i64 28, .int .i64 width, .int .i64 n, .bool sg, .string s, v]] w fun e w' => e = .returned (.bool ((x != width) && (decide (x < width) || !sg))) ∧ Below w.heap.size w w' := by
  obtain ⟨a, c, rfl, hk⟩ := kids_open hr
  clear hr
  obtain ⟨b, o, rfl, k0, hc⟩ := hk 0 x rfl
  clear hk
  have l0 := cell_later (bal (brf w) (.cells #[.int .i64 28, .int .i64 width, .int .i64 n, .bool sg, .string s, .slice (some ⟨b, o, none⟩) 1 c] 72)) k0
  simp only [List.length_cons, List.length_nil, Nat.zero_mul, Nat.add_zero, Nat.one_mul, Nat.zero_add] at *
  cases hx : x != width
  · go_enter Try.func58, Try.ntmps58
    go_wp2
    go_quiet (fail)
    go_wp2
    exact bodyPost_ret (v := .bool false) (by simp [results, Try.results58, go_sem]) rfl ⟨rfl, bdn (bal (brf w) _)⟩
  · by_cases hl : x < width
    · rw [decide_eq_true hl]
      go_enter Try.func58, Try.ntmps58
      go_wp2
      go_quiet (fail)
      go_wp2
      exact bodyPost_ret (v := .bool true) (by simp [results, Try.results58, go_sem]) rfl ⟨rfl, bdn (bal (brf w) _)⟩
    · have hd : decide (x < width) = false := decide_eq_false hl
      rw [hd]
      clear hl
      go_enter Try.func58, Try.ntmps58
      go_wp2
      go_quiet (fail)
      go_wp2
      exact bodyPost_ret (v := .bool (!sg)) (by simp [results, Try.results58, go_sem]) rfl ⟨rfl, bdn (bal (brf w) _)⟩
end Go.Proofs.Ytgkfhaahcedbpaa
namespace Go.Proofs.Ytgkfhaahcedbpaa
open Go.RowKit Gs
set_option linter.unusedVariables false
def fits25 (width : Int) (xs : List Int) : Bool := match xs with
  | [_, y, z] => (y == width) && (z == width)
  | _ => false
def fits27 (width n : Int) (xs : List Int) : Bool := match xs with
  | [x] => decide (0 ≤ n) && decide (n ≤ wrap64 (x - width))
  | _ => false
def fits28 (width : Int) (sg : Bool) (xs : List Int) : Bool := match xs with
  | [x] => (x != width) && (decide (x < width) || !sg)
  | _ => false
/-- What operationFits answers, of the operations 1 to 29. -/
def fitsOp (op width n : Int) (sg : Bool) (s : ByteArray) (xs : List Int) : Bool :=
  if op ≤ 24 then fitsO op width xs
  else if op = 25 then fits25 width xs
  else if op = 26 then sumW xs == width
  else if op = 27 then fits27 width n xs
  else if op = 28 then fits28 width sg xs
  else fits29 width s xs
theorem iOperation (op width n : Int) (sg : Bool) (s : ByteArray) (xs : List Int) (v : Value) (w : World) (h1 : 1 ≤ op) (h29 : op ≤ 29) (hs : s.size ≤ maxLen) (hr : RS 6 RKid w 0 xs v) :
    Calls Try.prog 58 #[.agg #[.int .i64 op, .int .i64 width, .int .i64 n, .bool sg, .string s, v]] w fun e w' => e = .returned (.bool (fitsOp op width n sg s xs)) ∧ Below w.heap.size w w' := by
  unfold fitsOp
  by_cases h24 : op ≤ 24
  · rw [if_pos h24]; exact iOperation1 op width n sg s xs v w h1 h24 hr
  rw [if_neg h24]
  obtain rfl | rfl | rfl | rfl | rfl : op = 25 ∨ op = 26 ∨ op = 27 ∨ op = 28 ∨ op = 29 := by omega
  · show Calls _ _ _ _ fun e w' => e = .returned (.bool (fits25 width xs)) ∧ _
    match xs, hr with
    | [x, y, z], hr => exact iOperation25yes width n sg s x y z v w hr
    | [], hr => exact iOperation25no width n sg s _ v w hr (by simp)
    | [_], hr => exact iOperation25no width n sg s _ v w hr (by simp)
    | [_, _], hr => exact iOperation25no width n sg s _ v w hr (by simp)
    | _ :: _ :: _ :: _ :: _, hr => exact iOperation25no width n sg s _ v w hr (by simp)
  · exact iOperation26 width n sg s xs v w hr
  · show Calls _ _ _ _ fun e w' => e = .returned (.bool (fits27 width n xs)) ∧ _
    match xs, hr with
    | [x], hr => exact iOperation27yes width n sg s x v w hr
    | [], hr => exact iOperation27no width n sg s _ v w hr (by simp)
    | _ :: _ :: _, hr => exact iOperation27no width n sg s _ v w hr (by simp)
  · show Calls _ _ _ _ fun e w' => e = .returned (.bool (fits28 width sg xs)) ∧ _
    match xs, hr with
    | [x], hr => exact iOperation28yes width n sg s x v w hr
    | [], hr => exact iOperation28no width n sg s _ v w hr (by simp)
    | _ :: _ :: _, hr => exact iOperation28no width n sg s _ v w hr (by simp)
  · exact iOperation29 width n sg s xs v w hs hr
end Go.Proofs.Ytgkfhaahcedbpaa
namespace Go.Proofs.Ytgkfhaahcedbpaa
open Go Go.RowKit Gs
set_option linter.unusedVariables false
set_option linter.unusedSimpArgs false
set_option maxRecDepth 100000
set_option maxHeartbeats 16000000
theorem sShOut (op width n : Int) (sd : Bool) (s : ByteArray) (a : Option Addr) (l c : Nat) (pb : Nat) (sa : Option Addr) (sl sc : Nat) (W : World) (h30 : 30 ≤ op) (h32 : op ≤ 32) (hn : n < 0 ∨ (sl : Int) ≤ n) (h0 : W.cell? ⟨pb, 0, none⟩ = some (.slice sa sl sc)) :
    Calls Try.prog 35 #[.pointer (some ⟨pb, 0, none⟩), .agg #[.int .i64 op, .int .i64 width, .int .i64 n, .bool sd, .string s, .slice a l c]] W fun e w' => e = .returned (.bool false) ∧ Below W.heap.size W w' := by
  have m0 := cell_later (bal (brf W) (.cells #[.int .i64 op, .int .i64 width, .int .i64 n, .bool sd, .string s, .slice a l c] 72)) h0
  have hop : op = 30 ∨ op = 31 ∨ op = 32 := by omega
  rcases hn with hn | hn
  · rcases hop with rfl | rfl | rfl
    all_goals (
      go_enter Try.func35, Try.ntmps35
      go_wp2
      go_quiet (fail)
      go_wp2
      go_ret
      exact ⟨rfl, by first | exact bdn (bal (brf W) _) | exact bal (brf W) _⟩)
  · have hn0 : ¬ n < 0 := by omega
    rcases hop with rfl | rfl | rfl
    all_goals (
      go_enter Try.func35, Try.ntmps35
      go_wp2
      go_quiet (fail)
      go_wp2
      go_ret
      exact ⟨rfl, by first | exact bdn (bal (brf W) _) | exact bal (brf W) _⟩)
end Go.Proofs.Ytgkfhaahcedbpaa
