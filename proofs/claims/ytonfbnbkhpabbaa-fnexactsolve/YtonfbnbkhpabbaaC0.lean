/- Clauses: which of them are right. -/
import Derived.Test.YtonfbnbkhpabbaaDD
import Derived.Test.YtonfbnbkhpabbaaGS2
namespace Go.Proofs.Ytonfbnbkhpabbaa
open Go.RowKit Gs
set_option linter.unusedVariables false
/-- A literal of one of so many variables. -/
def litB (vars l : Int) : Bool := !(decide (l = 0) || decide (vars < l) || decide (l < -vars))
def clB (vars most : Int) (c : List Int) : Bool := !decide (most < (c.length : Int)) && c.all (litB vars)
def okC (vars most : Int) (cs : List (List Int)) : Bool := decide (0 ≤ vars) && decide (vars ≤ 2048) && decide (cs.length ≤ 8192) && cs.all (clB vars most)
theorem all_take {α : Type} {p : α → Bool} {xs : List α} {k : Nat} {x : α} (h : xs[k]? = some x) : (xs.take (k + 1)).all p = ((xs.take k).all p && p x) := by
  rw [List.take_add_one, h, List.all_append]; simp
theorem all_no {α : Type} {p : α → Bool} {xs : List α} {k : Nat} {x : α} (h : xs[k]? = some x) (hp : p x = false) : xs.all p = false := by
  rw [List.all_eq_false]
  exact ⟨x, List.mem_of_getElem? h, by simp [hp]⟩
theorem all_end {α : Type} {p : α → Bool} {xs : List α} (h : (xs.take xs.length).all p = true) : xs.all p = true := by
  rwa [List.take_of_length_le (Nat.le_refl _)] at h
end Go.Proofs.Ytonfbnbkhpabbaa
namespace Go.Proofs.Ytonfbnbkhpabbaa
open Go Go.RowKit Gs
set_option linter.unusedVariables false
set_option linter.unusedSimpArgs false
set_option maxRecDepth 100000
theorem iPlace (n c : Int) (w : World) : Calls Try.prog 39 #[.int .i64 n, .int .i64 c] w fun e w' => e = .returned (.bool (decide (0 ≤ n) && decide (n < c))) ∧ w' = w := by
  go_enter Try.func39, Try.ntmps39
  by_cases h0 : 0 ≤ n
  · go_wp2
    exact bodyPost_ret (v := .bool (decide (n < c))) (by simp [results, Try.results39, go_sem]) rfl ⟨by rw [show decide (0 ≤ n) = true from decide_eq_true (by omega)]; rfl, rfl⟩
  · have h1 : n < 0 := by omega
    go_wp2
    exact bodyPost_ret (v := .bool false) (by simp [results, Try.results39, go_sem]) rfl ⟨by rw [show decide (0 ≤ n) = false from decide_eq_false (by omega)]; rfl, rfl⟩
set_option maxHeartbeats 3200000 in
theorem iNone (l vars : Int) (p : Nat) (w : World) (hv0 : 0 ≤ vars) (hv : vars ≤ 2048) (hp : w.cell? ⟨p, 0, none⟩ = some (.int .i64 vars)) :
    Calls Try.prog 40 #[.int .i64 l, .pointer (some ⟨p, 0, none⟩)] w fun e w' => e = .returned (.bool (!litB vars l)) ∧ w' = w := by
  go_enter Try.func40, Try.ntmps40
  by_cases h0 : l = 0
  · subst h0
    go_wp2
    exact bodyPost_ret (v := .bool true) (by simp [results, Try.results40, go_sem]) rfl ⟨by unfold litB; simp, rfl⟩
  · by_cases h1 : l < -vars
    · go_wp2
      exact bodyPost_ret (v := .bool true) (by simp [results, Try.results40, go_sem]) rfl ⟨by unfold litB; simp [h1], rfl⟩
    · go_wp2
      exact bodyPost_ret (v := .bool (decide (vars < l))) (by simp [results, Try.results40, go_sem, h0]) rfl ⟨by unfold litB; simp [h0]; omega, rfl⟩
set_option maxHeartbeats 3200000 in
theorem iIndexF (xs : List Int) (vars : Int) (p : Nat) (v : Value) (w : World) (hv0 : 0 ≤ vars) (hv : vars ≤ 2048) (hp : w.cell? ⟨p, 0, none⟩ = some (.int .i64 vars)) (hr : RS 1 RInt w 0 xs v) :
    Calls Try.prog 48 #[v, .func (.func 40) #[] #[.pointer (some ⟨p, 0, none⟩)]] w fun e w' => (∃ r : Int, e = .returned (.int .i64 r) ∧ decide (0 ≤ r) = !(xs.all (litB vars))) ∧ w' = w := by
  rcases hr.open with ⟨rfl, a, c, rfl⟩ | ⟨b, o, c, rfl, hc, hn, _, hcs⟩
  · clear hr
    go_enter Try.func48, Try.ntmps48
    go_wp2
    refine wp_loop_rounds 1 ?_
    rw [rounds_succ]
    go_wp2
    exact bodyPost_ret (v := .int .i64 (-1)) (by simp [results, Try.results48, go_sem]) rfl ⟨⟨_, rfl, rfl⟩, rfl⟩
  · have HC := hide hcs
    unfold maxLen at hn
    clear hcs hr hc
    go_enter Try.func48, Try.ntmps48
    go_wp2
    go_loop [8] (fun i => ∃ k : Nat, k ≤ xs.length ∧ i = .int .i64 k ∧ (xs.take k).all (litB vars) = true) (fun i => xs.length - (intOf i).toNat)
    case atStart => exact ⟨0, Nat.zero_le _, rfl, rfl⟩
    case round =>
      obtain ⟨k, hk, rfl, hall⟩ := hrel
      have HA := hide hall
      clear hall
      by_cases hlt : k < xs.length
      · have hx : xs[k]? = some xs[k] := List.getElem?_eq_getElem hlt
        generalize xs[k] = y at hx
        have HX := hide hx
        obtain ⟨u, hul, hat, hus⟩ := unhide HC k y hx
        subst hus
        have k0 := hat.get (j := 0) rfl
        simp only [Nat.add_zero, Nat.mul_one] at k0
        have i1 : (0 : Int) ≤ (k : Int) := by omega
        have i2 : (k : Int) < (xs.length : Int) := by omega
        have HI := hide (iNone y vars p w hv0 hv hp)
        clear hat hul HC hx
        cases hq : litB vars y with
        | false =>
          have HT : Hid (xs.all (litB vars) = false) := hide (all_no (unhide HX) hq)
          rw [hq] at HI
          clear hq
          go_wp2_with (first
            | (go_at_call 40; refine (unhide HI).mono ?_; rintro e W1 ⟨rfl, hw⟩; have hw' := hw.symm; subst hw')
            | go_in)
          exact bodyPost_ret (v := .int .i64 (k : Int)) (by simp [results, Try.results48, go_sem]) rfl ⟨⟨_, rfl, by rw [unhide HT]; exact decide_eq_true (by omega)⟩, rfl⟩
        | true =>
          have HT : Hid ((xs.take (k + 1)).all (litB vars) = true) := hide (by rw [all_take (unhide HX), hq, unhide HA]; rfl)
          rw [hq] at HI
          clear hq
          go_wp2_with (first
            | (go_at_call 40; refine (unhide HI).mono ?_; rintro e W1 ⟨rfl, hw⟩; have hw' := hw.symm; subst hw')
            | go_in)
          go_round
          case rel => exact ⟨k + 1, by omega, by go_num, unhide HT⟩
          case measure => simp [intOf]; omega
      · obtain rfl : k = xs.length := by omega
        clear HC
        go_wp2
        refine bodyPost_ret (v := .int .i64 (-1)) (by simp [results, Try.results48, go_sem]) rfl ⟨⟨_, rfl, ?_⟩, rfl⟩
        rw [all_end (unhide HA)]; rfl
set_option maxHeartbeats 3200000 in
theorem iContainsF (xs : List Int) (vars : Int) (p : Nat) (v : Value) (w : World) (hv0 : 0 ≤ vars) (hv : vars ≤ 2048) (hp : w.cell? ⟨p, 0, none⟩ = some (.int .i64 vars)) (hr : RS 1 RInt w 0 xs v) :
    Calls Try.prog 41 #[v, .func (.func 40) #[] #[.pointer (some ⟨p, 0, none⟩)]] w fun e w' => e = .returned (.bool (!(xs.all (litB vars)))) ∧ w' = w := by
  have HI := hide (iIndexF xs vars p v w hv0 hv hp hr)
  obtain ⟨a, c, rfl⟩ := hr.slice
  clear hr hp
  go_enter Try.func41, Try.ntmps41
  go_wp2_with fail
  refine (unhide HI).mono ?_
  rintro e W1 ⟨⟨r, rfl, h⟩, hw⟩
  have hw' := hw.symm
  subst hw'
  have HH := hide h
  clear h
  go_wp2_with fail
  exact bodyPost_ret (v := .bool (decide (0 ≤ r))) (by simp [results, Try.results41, go_sem]) rfl ⟨by rw [unhide HH], rfl⟩
end Go.Proofs.Ytonfbnbkhpabbaa
