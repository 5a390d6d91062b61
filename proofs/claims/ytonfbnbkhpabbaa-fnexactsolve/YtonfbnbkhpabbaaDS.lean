/- What the laws' sz functions answer. -/
import Derived.Test.YtonfbnbkhpabbaaDD
namespace Go.Proofs.Ytonfbnbkhpabbaa
open Go.RowKit Gs
set_option linter.unusedVariables false
set_option maxRecDepth 100000
theorem below_step {w W V : World} (h : Below w.heap.size w W) (hb : Below W.heap.size W V) : Below w.heap.size w V := btr h hb
set_option maxHeartbeats 800000 in
theorem szIntS_of (xs : List Int) (v : Value) (w : World) (left : Nat) (hl : left ≤ 1048576) (hr : RS 1 RInt w 0 xs v) :
    Calls Try.prog 13 #[v, .int .i64 left] w fun e w' => e = .returned (.int .i64 (szR (szL (fun (_ : Int) => 0) xs) left)) ∧ Below w.heap.size w w' := by
  have hsm := szL_sm (fun (_ : Int) => 0) xs
  have h0 : sm (fun (_ : Int) => 0) xs = 0 := sm_zero xs
  obtain ⟨a, c, rfl⟩ := hr.slice
  have hn := hr.len
  unfold maxLen at hn
  clear hr
  by_cases hbig : left < xs.length
  · rw [szR_lt (by omega)]
    have q : (left : Int) - (xs.length : Int) < 0 := by omega
    go_enter Try.func13, Try.ntmps13
    go_wp2
    exact bodyPost_ret (v := .int .i64 (-1)) (by simp [results, Try.results13, go_sem]) rfl ⟨rfl, brf _⟩
  · rw [szR_le (by omega)]
    obtain ⟨m, hm⟩ : ∃ m, m + xs.length = left := ⟨left - xs.length, by omega⟩
    have e1 : left - szL (fun (_ : Int) => 0) xs = m := by omega
    have q : (left : Int) - (xs.length : Int) = (m : Int) := by omega
    rw [e1]
    clear e1 hsm h0
    go_enter Try.func13, Try.ntmps13
    go_wp2
    exact bodyPost_ret (v := .int .i64 (m : Nat)) (by simp [results, Try.results13, go_sem]) rfl ⟨rfl, brf _⟩
set_option maxHeartbeats 800000 in
theorem szIntSS_of (xs : List (List Int)) (v : Value) (w : World) (left : Nat) (hl : left ≤ 1048576) (hr : RS 1 RIntS w 0 xs v) :
    Calls Try.prog 4 #[v, .int .i64 left] w fun e w' => e = .returned (.int .i64 (szR (szL szIntS xs) left)) ∧ Below w.heap.size w w' := by
  have hsm := szL_sm szIntS xs
  rcases hr.open with ⟨rfl, a, c, rfl⟩ | ⟨b, o, c, rfl, hc, hn, _, hcs⟩
  · have e0 : szR (szL szIntS []) left = (left : Int) := by show szR 0 left = _; rw [szR_le (Nat.zero_le _)]; rfl
    rw [e0]
    clear hsm hr e0
    go_enter Try.func4, Try.ntmps4
    go_wp2
    go_loop [1, 5] (fun l i => l = .int .i64 left ∧ i = .int .i64 0) (fun _ _ => 0)
    case atStart => exact ⟨rfl, rfl⟩
    case round =>
      obtain ⟨rfl, rfl⟩ := hrel
      go_wp2
      exact bodyPost_ret (v := .int .i64 (left : Nat)) (by simp [results, Try.results4, go_sem]) rfl ⟨rfl, brf _⟩
  · unfold maxLen at hn
    by_cases hbig : left < xs.length
    · rw [szR_lt (by omega)]
      have q : (left : Int) - (xs.length : Int) < 0 := by omega
      clear hcs hr
      go_enter Try.func4, Try.ntmps4
      go_wp2
      exact bodyPost_ret (v := .int .i64 (-1)) (by simp [results, Try.results4, go_sem]) rfl ⟨rfl, brf _⟩
    · have HC := hide hcs
      clear hcs hr
      go_enter Try.func4, Try.ntmps4
      go_wp2
      go_loopw [1, 5] (fun l i wr => ∃ (j m : Nat), j ≤ xs.length ∧ i = .int .i64 j ∧ l = .int .i64 m ∧ m + xs.length + sm szIntS (xs.take j) = left ∧ Below w.heap.size w wr) (fun l i wr => xs.length - (intOf i).toNat)
      case atStart => exact ⟨0, left - xs.length, Nat.zero_le _, rfl, by congr 1; omega, by simp [sm]; omega, brf _⟩
      case round =>
        obtain ⟨j, m, hj, rfl, rfl, hm, hb⟩ := hrel
        by_cases hjn : j < xs.length
        · have hx : xs[j]? = some xs[j] := List.getElem?_eq_getElem hjn
          generalize xs[j] = x at hx
          obtain ⟨u, hul, hat, hrx⟩ := unhide HC j x hx
          have st := sm_take (f := szIntS) hx
          have sl := sm_le (f := szIntS) (xs := xs) (j + 1)
          obtain ⟨ve, rfl, hve⟩ := hrx
          have PX := hide (szIntS_of x ve wr m (by omega) (hve.later RInt.keeps hb))
          obtain ⟨ae, ce, rfl⟩ := hve.slice
          have k0 := cell_later hb (hat.get (j := 0) rfl)
          simp only [Nat.add_zero, Nat.mul_one] at k0
          have HB := hide hb
          have hdf : szIntS x = szL (fun (_ : Int) => 0) x := rfl
          clear hb hat hul HC hve
          by_cases hfit : szIntS x ≤ m
          · rw [szR_le (by omega)] at PX
            have q1 : ¬ (((m - szL (fun (_ : Int) => 0) x : Nat) : Int) < 0) := by omega
            generalize hd : m - szL (fun (_ : Int) => 0) x = d at *
            go_wp2_with (go_at_call 13; refine (unhide PX).mono ?_; rintro e v1 ⟨rfl, hb1⟩)
            exact ⟨⟨j + 1, d, by omega, by go_num, rfl, by omega, below_step (unhide HB) hb1⟩, by simp [intOf]; omega⟩
          · rw [szR_lt (by omega)] at PX
            have HF : Hid (szR (szL szIntS xs) left = -1) := hide (szR_lt (by omega))
            go_wp2_with (go_at_call 13; refine (unhide PX).mono ?_; rintro e v1 ⟨rfl, hb1⟩)
            exact bodyPost_ret (v := .int .i64 (-1)) (by simp [results, Try.results4, go_sem]) rfl ⟨by rw [unhide HF], below_step (unhide HB) hb1⟩
        · obtain rfl : j = xs.length := by omega
          rw [List.take_length] at hm
          have HF : Hid (szR (szL szIntS xs) left = (m : Int)) := hide (by rw [szR_le (by omega)]; omega)
          have HB := hide hb
          clear hb HC
          go_wp2
          exact bodyPost_ret (v := .int .i64 (m : Nat)) (by simp [results, Try.results4, go_sem]) rfl ⟨by rw [unhide HF], unhide HB⟩
end Go.Proofs.Ytonfbnbkhpabbaa
