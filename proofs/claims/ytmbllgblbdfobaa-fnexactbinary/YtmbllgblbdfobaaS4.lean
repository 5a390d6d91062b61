/- What the specification's Resize answers. -/
import Derived.Test.YtmbllgblbdfobaaS3
namespace Go.Proofs.Ytmbllgblbdfobaa
open Go.RowKit
/-- A vector made bigger at its high end, or cut there. -/
def rszL (n : Nat) (b : Bool) (l : List UInt8) : List UInt8 := (List.replicate (n - l.length) (if b then l.headD 0 else 48) ++ l).drop (l.length - n)
theorem L_extract (s : ByteArray) (a b : Nat) : L (s.extract a b) = ((L s).drop a).take (b - a) := by
  simp [L, ByteArray.data_extract, List.extract_eq_take_drop]
theorem L_append (a b : ByteArray) : L (a ++ b) = L a ++ L b := by simp [L]
/-- The text with k letters ahead of l. -/
def padS (k : Nat) (c : UInt8) (l : List UInt8) : ByteArray := S (List.replicate k c ++ l)
theorem padS_size (k : Nat) (c : UInt8) (s : ByteArray) : (padS k c (L s)).size = k + s.size := by unfold padS; rw [S_size]; simp [L_len]
theorem padS_zero (s : ByteArray) (c : UInt8) : s = padS 0 c (L s) := (S_L s).symm
theorem padS_step (k : Nat) (c : UInt8) (l : List UInt8) : (⟨#[c]⟩ : ByteArray) ++ padS k c l = padS (k + 1) c l := by
  unfold padS; rw [S_cons, List.replicate_succ]; rfl
theorem padS_head (k : Nat) (s : ByteArray) (h : 1 ≤ s.size) : (padS k ((L s).headD 0) (L s)).extract 0 1 ++ padS k ((L s).headD 0) (L s) = padS (k + 1) ((L s).headD 0) (L s) := by
  have e : (padS k ((L s).headD 0) (L s)).extract 0 1 = ⟨#[(L s).headD 0]⟩ := by
    apply L_inj
    rw [L_extract]
    unfold padS
    rw [L_S]
    cases k with
    | zero =>
      cases hl : L s with
      | nil => rw [← L_len, hl] at h; simp at h
      | cons c t => simp [L]
    | succ k => rw [List.replicate_succ]; simp [L]
  rw [e, padS_step]
set_option maxHeartbeats 400000 in
theorem sResize (s : ByteArray) (n : Nat) (b : Bool) (w : World) (hs : s.size ≤ maxLen) (hv : Vb.okV (L s) = true) (hn1 : 1 ≤ n) (hn2 : n ≤ 64) :
    Calls Try.prog 38 #[.string s, .int .i64 n, .bool b] w fun e w' => e = .returned (.string (S (rszL n b (L s)))) ∧ w' = w := by
  obtain ⟨h1, h2, h3⟩ := (okV_iff s).1 hv
  have c1 : decide ((n : Int) < 1) = false := by simp; omega
  have c2 : decide (64 < (n : Int)) = false := by simp; omega
  go_enter Try.func38, Try.ntmps38
  have HV := hide hv
  clear hv h3
  go_wp2_with (first | (go_at_call 35; refine (sBitsOK s _ hs).mono ?_; rw [unhide HV]; rintro e w' ⟨rfl, rfl⟩))
  go_loop [0] (fun a => ∃ k : Nat, k ≤ n - s.size ∧ a = .string (padS k (if b then (L s).headD 0 else 48) (L s))) (fun a => match a with | .string x => n - x.size | _ => 0)
  case atStart => exact ⟨0, Nat.zero_le _, congrArg Value.string (padS_zero _ _)⟩
  case round =>
    obtain ⟨k, hk, rfl⟩ := hrel
    have hz := padS_size k (if b then (L s).headD 0 else 48) s
    by_cases hlt : k + s.size < n
    · cases b
      · have st : (⟨#[48]⟩ : ByteArray) ++ padS k 48 (L s) = padS (k + 1) 48 (L s) := padS_step k 48 (L s)
        have hz2 := padS_size (k + 1) 48 s
        simp only [Bool.false_eq_true, if_false] at hz ⊢
        have ST := hide st
        have HZ := hide hz2
        clear st hz2
        generalize padS k 48 (L s) = T at *
        go_wp2
        exact ⟨⟨k + 1, by omega, congrArg Value.string (unhide ST)⟩, by rw [unhide ST]; show n - _ < n - _; rw [unhide HZ]; omega⟩
      · have st := padS_head k s h1
        have hz2 := padS_size (k + 1) ((L s).headD 0) s
        simp only [if_true] at hz ⊢
        have ST := hide st
        have HZ := hide hz2
        clear st hz2
        generalize padS k ((L s).headD 0) (L s) = T at *
        go_wp2
        exact ⟨⟨k + 1, by omega, congrArg Value.string (unhide ST)⟩, by rw [unhide ST]; show n - _ < n - _; rw [unhide HZ]; omega⟩
    · have fin : (padS k (if b then (L s).headD 0 else 48) (L s)).extract (k + s.size - n) (k + s.size) = S (rszL n b (L s)) := by
        apply L_inj
        rw [L_extract, L_S, rszL, L_len]
        unfold padS
        rw [L_S, List.take_of_length_le (by simp [L_len])]
        by_cases hk0 : k = 0
        · subst hk0
          rw [show n - s.size = 0 by omega, Nat.zero_add]
        · rw [show n - s.size = k by omega, show k + s.size - n = s.size - n by omega]
      have FIN := hide fin
      clear fin
      generalize padS k (if b then (L s).headD 0 else 48) (L s) = T at *
      go_wp2
      go_ret
      exact ⟨ret_str (unhide FIN), rfl⟩
set_option maxHeartbeats 400000 in
theorem sResize_no (s : ByteArray) (n : Int) (b : Bool) (w : World) (hs : s.size ≤ maxLen) (h : (Vb.okV (L s) && decide (1 ≤ n ∧ n ≤ 64)) = false) :
    Calls Try.prog 38 #[.string s, .int .i64 n, .bool b] w fun e w' => e = .returned (.string (S [])) ∧ w' = w := by
  cases hv : Vb.okV (L s)
  · have HV := hide hv
    clear hv h
    go_enter Try.func38, Try.ntmps38
    go_wp2_with (first | (go_at_call 35; refine (sBitsOK s _ hs).mono ?_; rw [unhide HV]; rintro e w' ⟨rfl, rfl⟩))
    go_ret
    exact ⟨rfl, rfl⟩
  · rw [hv, Bool.true_and] at h
    have HV := hide hv
    clear hv
    have h' : n < 1 ∨ 64 < n := by simp at h; omega
    clear h
    rcases h' with h | h
    · go_enter Try.func38, Try.ntmps38
      go_wp2_with (first | (go_at_call 35; refine (sBitsOK s _ hs).mono ?_; rw [unhide HV]; rintro e w' ⟨rfl, rfl⟩))
      go_ret
      exact ⟨rfl, rfl⟩
    · have c1 : decide (n < 1) = false := by simp; omega
      go_enter Try.func38, Try.ntmps38
      go_wp2_with (first | (go_at_call 35; refine (sBitsOK s _ hs).mono ?_; rw [unhide HV]; rintro e w' ⟨rfl, rfl⟩))
      go_ret
      exact ⟨rfl, rfl⟩
end Go.Proofs.Ytmbllgblbdfobaa
