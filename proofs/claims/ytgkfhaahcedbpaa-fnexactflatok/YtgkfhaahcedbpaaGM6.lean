/- Small functions of the program. -/
import Derived.Test.YtgkfhaahcedbpaaGI1
import Derived.Test.YtgkfhaahcedbpaaGDD
namespace Go.Proofs.Ytgkfhaahcedbpaa
open Go.RowKit Gs
set_option linter.unusedVariables false
set_option maxRecDepth 100000
theorem iNameFits (s : ByteArray) (w : World) (hs : s.size ≤ maxLen) : Calls Try.prog 25 #[.string s] w fun e w' => e = .returned (.bool (decide (1 ≤ s.size) && decide (s.size ≤ 1000))) ∧ w' = w := by
  unfold maxLen at hs
  go_enter Try.func25, Try.ntmps25
  by_cases h0 : 1 ≤ (s.size : Int)
  · go_wp2
    exact bodyPost_ret (v := .bool (decide ((s.size : Int) ≤ 1000))) (by simp [results, Try.results25, go_sem]) rfl ⟨by rw [show decide (1 ≤ s.size) = true from decide_eq_true (by omega), show decide ((s.size : Int) ≤ 1000) = decide (s.size ≤ 1000) from decide_eq_decide.2 (by omega)]; rfl, rfl⟩
  · have h1 : (s.size : Int) < 1 := by omega
    go_wp2
    exact bodyPost_ret (v := .bool false) (by simp [results, Try.results25, go_sem]) rfl ⟨by rw [show decide (1 ≤ s.size) = false from decide_eq_false (by omega)]; rfl, rfl⟩
theorem iWidthOK (n : Int) (w : World) : Calls Try.prog 26 #[.int .i64 n] w fun e w' => e = .returned (.bool (decide (1 ≤ n) && decide (n ≤ 64))) ∧ w' = w := by
  go_enter Try.func26, Try.ntmps26
  by_cases h0 : 1 ≤ n
  · go_wp2
    exact bodyPost_ret (v := .bool (decide (n ≤ 64))) (by simp [results, Try.results26, go_sem]) rfl ⟨by rw [show decide (1 ≤ n) = true from decide_eq_true (by omega)]; rfl, rfl⟩
  · have h1 : n < 1 := by omega
    go_wp2
    exact bodyPost_ret (v := .bool false) (by simp [results, Try.results26, go_sem]) rfl ⟨by rw [show decide (1 ≤ n) = false from decide_eq_false (by omega)]; rfl, rfl⟩
def signOp (n : Int) : Bool := decide (n = 7) || decide (n = 8) || decide (n = 12) || decide (n = 13)
theorem iSign (n : Int) (w : World) : Calls Try.prog 56 #[.int .i64 n] w fun e w' => e = .returned (.bool (signOp n)) ∧ w' = w := by
  go_enter Try.func56, Try.ntmps56
  by_cases h7 : n = 7
  · subst h7; go_wp2
    exact bodyPost_ret (v := .bool true) (by simp [results, Try.results56, go_sem]) rfl ⟨rfl, rfl⟩
  by_cases h8 : n = 8
  · subst h8; go_wp2
    exact bodyPost_ret (v := .bool true) (by simp [results, Try.results56, go_sem]) rfl ⟨rfl, rfl⟩
  by_cases h12 : n = 12
  · subst h12; go_wp2
    exact bodyPost_ret (v := .bool true) (by simp [results, Try.results56, go_sem]) rfl ⟨rfl, rfl⟩
  have b7 : (n == 7) = false := by simpa using h7
  have b8 : (n == 8) = false := by simpa using h8
  have b12 : (n == 12) = false := by simpa using h12
  go_wp2
  exact bodyPost_ret (v := .bool (n == 13)) (by simp [results, Try.results56, go_sem]) rfl ⟨by simp [signOp, h7, h8, h12]; rfl, rfl⟩
theorem iBitsOK (s : ByteArray) (w : World) (hs : s.size ≤ maxLen) : Calls Try.prog 27 #[.string s] w fun e w' => e = .returned (.bool (Vb.okV (L s))) ∧ Below w.heap.size w w' := by
  cases h : Vb.okV (L s)
  · go_enter Try.func27, Try.ntmps27
    go_wp2_with (go_at_call 37; refine (iVecOf_no s _ hs h).mono ?_; rintro e W1 ⟨rfl, hb1⟩; have HB := hide hb1; clear hb1; unfold V)
    exact bodyPost_ret (v := .bool false) (by simp [results, Try.results27, go_sem]) rfl ⟨rfl, bal (unhide HB) _⟩
  · go_enter Try.func27, Try.ntmps27
    go_wp2_with (go_at_call 37; refine (iVecOf s _ hs h).mono ?_; rintro e W1 ⟨rfl, hb1⟩; have HB := hide hb1; clear hb1; unfold V)
    exact bodyPost_ret (v := .bool true) (by simp [results, Try.results27, go_sem]) rfl ⟨rfl, bal (unhide HB) _⟩
def anyW (n : Int) : Bool := decide (14 ≤ n) && decide (n ≤ 18)
theorem iAnyW (n : Int) (w : World) : Calls Try.prog 61 #[.int .i64 n] w fun e w' => e = .returned (.bool (anyW n)) ∧ w' = w := by
  go_enter Try.func61, Try.ntmps61
  by_cases h0 : 14 ≤ n
  · go_wp2
    exact bodyPost_ret (v := .bool (decide (n ≤ 18))) (by simp [results, Try.results61, go_sem]) rfl ⟨by unfold anyW; rw [show decide (14 ≤ n) = true from decide_eq_true (by omega)]; rfl, rfl⟩
  · have h1 : n < 14 := by omega
    go_wp2
    exact bodyPost_ret (v := .bool false) (by simp [results, Try.results61, go_sem]) rfl ⟨by unfold anyW; rw [show decide (14 ≤ n) = false from decide_eq_false (by omega)]; rfl, rfl⟩
end Go.Proofs.Ytgkfhaahcedbpaa
namespace Go.Proofs.Ytgkfhaahcedbpaa
open Go.RowKit Gs
set_option linter.unusedVariables false
set_option maxRecDepth 100000
/-- A kid: an Ex of which the width alone is told. -/
def RKid : Rd Int := fun W B x u => ∃ (op n : Int) (sg : Bool) (s : ByteArray) (a : Option Addr) (l c : Nat), u = [.int .i64 op, .int .i64 x, .int .i64 n, .bool sg, .string s, .slice a l c]
theorem RKid.keeps : Keeps RKid := fun _ _ _ _ _ _ h => h
theorem RKid.lowers : Lowers RKid := fun _ _ _ _ _ _ h => h
def sumI (xs : List Int) : Int := xs.foldl (· + ·) 0
theorem sumI_take {xs : List Int} {j : Nat} {x : Int} (h : xs[j]? = some x) : sumI (xs.take (j + 1)) = sumI (xs.take j) + x := by
  rw [List.take_add_one, h]; simp [sumI, List.foldl_append]
theorem sumI_bound {xs : List Int} {b : Int} (h : ∀ x ∈ xs, 0 ≤ x ∧ x ≤ b) : 0 ≤ sumI xs ∧ sumI xs ≤ xs.length * b := by
  unfold sumI
  suffices hh : ∀ (ys : List Int) (z : Int), (∀ x ∈ ys, 0 ≤ x ∧ x ≤ b) → z ≤ ys.foldl (· + ·) z ∧ ys.foldl (· + ·) z ≤ z + ys.length * b by
    have := hh xs 0 h; omega
  intro ys
  induction ys with
  | nil => intro z _; simp
  | cons y ys ih =>
    intro z hz
    have h1 := hz y (by simp)
    have h2 := ih (z + y) (fun x hx => hz x (by simp [hx]))
    simp only [List.foldl_cons, List.length_cons]
    have e : ((ys.length + 1 : Nat) : Int) * b = ys.length * b + b := by push_cast; rw [Int.add_mul]; simp
    rw [e]
    omega
/-- As the program adds: int64s that wrap. -/
def sumW (xs : List Int) : Int := xs.foldl (fun a x => wrap64 (a + x)) 0
theorem sumW_take {xs : List Int} {j : Nat} {x : Int} (h : xs[j]? = some x) : sumW (xs.take (j + 1)) = wrap64 (sumW (xs.take j) + x) := by
  rw [List.take_add_one, h]; simp [sumW, List.foldl_append]
theorem iWidthOfAll (xs : List Int) (v : Value) (w : World) (hr : RS 6 RKid w 0 xs v) :
    Calls Try.prog 60 #[v] w fun e w' => e = .returned (.int .i64 (sumW xs)) ∧ Below w.heap.size w w' := by
  rcases hr.open with ⟨rfl, a, c, rfl⟩ | ⟨b, o, c, rfl, hc, hn, _, hcs⟩
  · clear hr
    go_enter Try.func60, Try.ntmps60
    go_wp2
    go_loop [3, 8] (fun l i => l = .int .i64 0 ∧ i = .int .i64 0) (fun _ _ => 0)
    case atStart => exact ⟨rfl, rfl⟩
    case round =>
      obtain ⟨rfl, rfl⟩ := hrel
      go_wp2
      exact bodyPost_ret (v := .int .i64 0) (by simp [results, Try.results60, go_sem]) rfl ⟨rfl, brf _⟩
  · unfold maxLen at hn
    have HC := hide hcs
    clear hcs hr
    go_enter Try.func60, Try.ntmps60
    go_wp2
    go_loopw [3, 8] (fun l i wr => ∃ (j : Nat), j ≤ xs.length ∧ i = .int .i64 j ∧ l = .int .i64 (sumW (xs.take j)) ∧ Below w.heap.size w wr) (fun l i wr => xs.length - (intOf i).toNat)
    case atStart => exact ⟨0, Nat.zero_le _, rfl, rfl, brf _⟩
    case round =>
      obtain ⟨j, hj, rfl, rfl, hb⟩ := hrel
      by_cases hjn : j < xs.length
      · have hx : xs[j]? = some xs[j] := List.getElem?_eq_getElem hjn
        generalize xs[j] = x at hx
        obtain ⟨u, hul, hat, hrx⟩ := unhide HC j x hx
        have st := sumW_take hx
        obtain ⟨op, n, sg, s, ka, kl, kc, rfl⟩ := hrx
        have k0 := cell_later hb (hat.get (j := 0) rfl)
        have k1 := cell_later hb (hat.get (j := 1) rfl)
        have k2 := cell_later hb (hat.get (j := 2) rfl)
        have k3 := cell_later hb (hat.get (j := 3) rfl)
        have k4 := cell_later hb (hat.get (j := 4) rfl)
        have k5 := cell_later hb (hat.get (j := 5) rfl)
        simp only [Nat.add_zero] at k0
        have HB := hide hb
        clear hb hat hul HC
        go_wp2
        refine ⟨⟨j + 1, by omega, by simp, ?_, bal (unhide HB) _⟩, ?_⟩
        · rw [st]
        · show xs.length - ((j : Int) + 1).toNat < xs.length - (j : Int).toNat
          omega
      · obtain rfl : j = xs.length := by omega
        have HB := hide hb
        clear hb HC
        go_wp2
        exact bodyPost_ret (v := .int .i64 (sumW xs)) (by simp [results, Try.results60, go_sem]) rfl ⟨rfl, unhide HB⟩
end Go.Proofs.Ytgkfhaahcedbpaa
