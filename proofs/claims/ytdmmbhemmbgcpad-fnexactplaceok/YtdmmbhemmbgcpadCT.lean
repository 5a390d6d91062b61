/- slices.Contains of ints. -/
import Derived.Test.YtdmmbhemmbgcpadMX
namespace Go.Proofs.Ytdmmbhemmbgcpad
open Go Go.RowKit Gs
set_option linter.unusedVariables false
set_option linter.unusedSimpArgs false
set_option maxRecDepth 100000
set_option maxHeartbeats 3200000 in
theorem iIndex (xs : List Int) (x : Int) (v : Value) (w : World) (hl : xs.length ≤ 1048576) (hr : RS 1 RInt w 0 xs v) :
    Calls Try.prog 42 #[v, .int .i64 x] w fun e w' => (∃ r : Int, e = .returned (.int .i64 r) ∧ decide (0 ≤ r) = hasB xs x) ∧ w' = w := by
  rcases hr.open with ⟨rfl, a, c, rfl⟩ | ⟨b, o, c, rfl, hc, hn, _, hcs⟩
  · clear hr
    go_enter Try.func42, Try.ntmps42
    go_wp2
    refine wp_loop_rounds 1 ?_
    rw [rounds_succ]
    go_wp2
    exact bodyPost_ret (v := .int .i64 (-1)) (by simp [results, Try.results42, go_sem]) rfl ⟨⟨_, rfl, rfl⟩, rfl⟩
  · have HC := hide hcs
    clear hcs hr hc hn
    go_enter Try.func42, Try.ntmps42
    go_wp2
    go_loop [8] (fun i => ∃ k : Nat, k ≤ xs.length ∧ i = .int .i64 k ∧ hasB (xs.take k) x = false) (fun i => xs.length - (intOf i).toNat)
    case atStart => exact ⟨0, Nat.zero_le _, rfl, rfl⟩
    case round =>
      obtain ⟨k, hk, rfl, hall⟩ := hrel
      have HA := hide hall
      clear hall
      by_cases hlt : k < xs.length
      · have hx : xs[k]? = some xs[k] := List.getElem?_eq_getElem hlt
        generalize xs[k] = y at hx
        have HST := hide (hasB_take hx x)
        have HF : Hid (x = y → hasB xs x = true) := hide (fun h => hasB_mem (by rw [h]; exact hx))
        obtain ⟨u, hul, hat, hus⟩ := unhide HC k y hx
        subst hus
        have k0 := hat.get (j := 0) rfl
        simp only [Nat.add_zero, Nat.mul_one] at k0
        have i1 : (0 : Int) ≤ (k : Int) := by omega
        have i2 : (k : Int) < (xs.length : Int) := by omega
        clear hat hul HC hx
        by_cases e : x = y
        · have HT : Hid (hasB xs x = true) := hide (unhide HF e)
          clear HF HST
          subst e
          go_wp2
          exact bodyPost_ret (v := .int .i64 (k : Int)) (by simp [results, Try.results42, go_sem]) rfl ⟨⟨_, rfl, by rw [unhide HT]; exact decide_eq_true (by omega)⟩, rfl⟩
        · go_wp2
          go_round
          case rel => exact ⟨k + 1, by omega, by go_num, by rw [unhide HST, unhide HA]; simp [e]⟩
          case measure => simp [intOf]; omega
      · obtain rfl : k = xs.length := by omega
        clear HC
        go_wp2
        refine bodyPost_ret (v := .int .i64 (-1)) (by simp [results, Try.results42, go_sem]) rfl ⟨⟨_, rfl, ?_⟩, rfl⟩
        have h := unhide HA
        rw [List.take_of_length_le (Nat.le_refl _)] at h
        rw [h]; rfl
set_option maxHeartbeats 3200000 in
theorem iContains (xs : List Int) (x : Int) (v : Value) (w : World) (hl : xs.length ≤ 1048576) (hr : RS 1 RInt w 0 xs v) :
    Calls Try.prog 26 #[v, .int .i64 x] w fun e w' => e = .returned (.bool (hasB xs x)) ∧ w' = w := by
  have HI := hide (iIndex xs x v w hl hr)
  obtain ⟨a, c, rfl⟩ := hr.slice
  clear hr
  go_enter Try.func26, Try.ntmps26
  go_wp2_with fail
  refine (unhide HI).mono ?_
  rintro e W1 ⟨⟨r, rfl, h⟩, hw⟩
  have hw' := hw.symm
  subst hw'
  have HH := hide h
  clear h
  go_wp2_with fail
  exact bodyPost_ret (v := .bool (decide (0 ≤ r))) (by simp [results, Try.results26, go_sem]) rfl ⟨by rw [unhide HH], rfl⟩
/-- A slice's first elements. -/
theorem RS.take {α : Type} {k : Nat} {R : Rd α} {W : World} {xs : List α} {b o c n : Nat} (hs : RS k R W 0 xs (.slice (some ⟨b, o, none⟩) xs.length c)) (h : n ≤ xs.length) : RS k R W 0 (xs.take n) (.slice (some ⟨b, o, none⟩) n c) := by
  obtain ⟨a', c', hv, h1, h2, h3⟩ := hs
  injection hv with e1 e2 e3
  subst e1; subst e3
  refine ⟨_, _, by rw [List.length_take, Nat.min_eq_left h], by rw [List.length_take]; omega, by rw [List.length_take]; omega, fun hne => ?_⟩
  obtain ⟨b', o', hb, hB, hh⟩ := h3 (by intro e; rw [e] at hne; simp at hne)
  refine ⟨b', o', hb, hB, fun i x hx => hh i x ?_⟩
  rw [List.getElem?_take] at hx
  split at hx
  · exact hx
  · simp at hx
end Go.Proofs.Ytdmmbhemmbgcpad
