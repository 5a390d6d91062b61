/- What makes a mapped design valid: the mathematics; a table's greatest number. -/
import Derived.Test.YtdmmbhemmbgcpadGM2
namespace Go.Proofs.Ytdmmbhemmbgcpad
open Go.RowKit Gs
set_option linter.unusedVariables false
set_option maxRecDepth 100000
/-- Whether something holds at each number below k. -/
def upB (p : Nat → Bool) (k : Nat) : Bool := (List.range k).all p
theorem upB_zero (p : Nat → Bool) : upB p 0 = true := rfl
theorem upB_succ (p : Nat → Bool) (k : Nat) : upB p (k + 1) = (upB p k && p k) := by
  unfold upB
  rw [List.range_succ, List.all_append]; simp
theorem upB_false {p : Nat → Bool} {k n : Nat} (hk : k < n) (h : p k = false) : upB p n = false := by
  rw [← Bool.not_eq_true]
  intro e
  have := List.all_eq_true.1 e k (List.mem_range.2 hk)
  rw [h] at this
  cases this
theorem upB_at {p : Nat → Bool} {k n : Nat} (h : upB p n = true) (hk : k < n) : p k = true := List.all_eq_true.1 h k (List.mem_range.2 hk)
/-- Whether a number is one of so many places. -/
def plB (x : Int) (n : Nat) : Bool := decide (0 ≤ x) && decide (x < (n : Int))
/-- Whether a list has a number. -/
def hasB (xs : List Int) (x : Int) : Bool := xs.any (fun y => decide (x = y))
theorem hasB_take {xs : List Int} {k : Nat} {y : Int} (h : xs[k]? = some y) (x : Int) : hasB (xs.take (k + 1)) x = (hasB (xs.take k) x || decide (x = y)) := by
  unfold hasB
  rw [List.take_add_one, h, List.any_append]; simp
theorem hasB_mem {xs : List Int} {k : Nat} {x : Int} (h : xs[k]? = some x) : hasB xs x = true := by
  unfold hasB
  rw [List.any_eq_true]
  exact ⟨x, List.mem_of_getElem? h, by simp⟩
theorem hasB_nil (x : Int) : hasB [] x = false := rfl
/-- A table's source at a place: it is there, and none ahead of it is the same. -/
def inAt (n : Nat) (xs : List Int) (k : Nat) : Bool := plB (xs.getD k 0) n && !hasB (xs.take k) (xs.getD k 0)
theorem inAt_at {n : Nat} {xs : List Int} {k : Nat} {x : Int} (h : xs[k]? = some x) : inAt n xs k = (plB x n && !hasB (xs.take k) x) := by
  unfold inAt
  rw [show xs.getD k 0 = x by rw [List.getD_eq_getElem?_getD, h]; rfl]
def insB (n : Nat) (xs : List Int) : Bool := upB (inAt n xs) xs.length
def tmask (k : Nat) : Nat := 2 ^ 2 ^ k - 1
theorem tmask_lt {k : Nat} (h : k ≤ 4) : tmask k < 65536 := by
  match k, h with
  | 0, _ => decide
  | 1, _ => decide
  | 2, _ => decide
  | 3, _ => decide
  | 4, _ => decide
/-- Whether a table may stand behind so many sources. -/
structure Lut where
  inp : List Int
  table : Int
def lutB (n : Nat) (x : Lut) : Bool := decide (x.inp.length ≤ 4) && (decide (0 ≤ x.table) && (decide (x.table ≤ ((tmask x.inp.length : Nat) : Int)) && insB n x.inp))
def lut0 : Lut := ⟨[], 0⟩
def lutAt (f : Nat) (xs : List Lut) (k : Nat) : Bool := lutB (f + k) (xs.getD k lut0)
theorem lutAt_at {f : Nat} {xs : List Lut} {k : Nat} {x : Lut} (h : xs[k]? = some x) : lutAt f xs k = lutB (f + k) x := by
  unfold lutAt
  rw [show xs.getD k lut0 = x by rw [List.getD_eq_getElem?_getD, h]; rfl]
def lutsB (f : Nat) (xs : List Lut) : Bool := upB (lutAt f xs) xs.length
set_option maxHeartbeats 1600000 in
theorem iMask (k : Nat) (hk : k ≤ 4) (w : World) : Calls Try.prog 60 #[.int .i64 (k : Int)] w fun e w' => e = .returned (.int .i64 ((tmask k : Nat) : Int)) ∧ w' = w := by
  match k, hk with
  | 0, _ => (go_enter Try.func60, Try.ntmps60; go_wp2; exact bodyPost_ret (v := .int .i64 1) (by simp [results, Try.results60, go_sem]; try decide) rfl ⟨rfl, rfl⟩)
  | 1, _ => (go_enter Try.func60, Try.ntmps60; go_wp2; exact bodyPost_ret (v := .int .i64 3) (by simp [results, Try.results60, go_sem]; try decide) rfl ⟨rfl, rfl⟩)
  | 2, _ => (go_enter Try.func60, Try.ntmps60; go_wp2; exact bodyPost_ret (v := .int .i64 15) (by simp [results, Try.results60, go_sem]; try decide) rfl ⟨rfl, rfl⟩)
  | 3, _ => (go_enter Try.func60, Try.ntmps60; go_wp2; exact bodyPost_ret (v := .int .i64 255) (by simp [results, Try.results60, go_sem]; try decide) rfl ⟨rfl, rfl⟩)
  | 4, _ => (go_enter Try.func60, Try.ntmps60; go_wp2; exact bodyPost_ret (v := .int .i64 65535) (by simp [results, Try.results60, go_sem]; try decide) rfl ⟨rfl, rfl⟩)
set_option maxHeartbeats 1600000 in
theorem sMask (k : Nat) (hk : k ≤ 4) (w : World) : Calls Try.prog 32 #[.int .i64 (k : Int)] w fun e w' => e = .returned (.int .i64 ((tmask k : Nat) : Int)) ∧ w' = w := by
  match k, hk with
  | 0, _ => (go_enter Try.func32, Try.ntmps32; go_wp2; exact bodyPost_ret (v := .int .i64 1) (by simp [results, Try.results32, go_sem]; try decide) rfl ⟨rfl, rfl⟩)
  | 1, _ => (go_enter Try.func32, Try.ntmps32; go_wp2; exact bodyPost_ret (v := .int .i64 3) (by simp [results, Try.results32, go_sem]; try decide) rfl ⟨rfl, rfl⟩)
  | 2, _ => (go_enter Try.func32, Try.ntmps32; go_wp2; exact bodyPost_ret (v := .int .i64 15) (by simp [results, Try.results32, go_sem]; try decide) rfl ⟨rfl, rfl⟩)
  | 3, _ => (go_enter Try.func32, Try.ntmps32; go_wp2; exact bodyPost_ret (v := .int .i64 255) (by simp [results, Try.results32, go_sem]; try decide) rfl ⟨rfl, rfl⟩)
  | 4, _ => (go_enter Try.func32, Try.ntmps32; go_wp2; exact bodyPost_ret (v := .int .i64 65535) (by simp [results, Try.results32, go_sem]; try decide) rfl ⟨rfl, rfl⟩)
end Go.Proofs.Ytdmmbhemmbgcpad
