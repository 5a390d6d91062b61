/- What the specification's IntOf answers. -/
import Derived.Test.YtmbllgblbdfobaaS2
namespace Go.Proofs.Ytmbllgblbdfobaa
open Go.RowKit
/-- The number that a known text tells, read with a sign if b says so, as an int. -/
def intL (b : Bool) (l : List UInt8) : Int := wrap64 ((Vb.num l : Int) - (if b && Vb.oneB (l.headD 0) then 2 ^ l.length else 0))
theorem intL_no {b : Bool} {l : List UInt8} (h : (b && Vb.oneB (l.headD 0)) = false) : intL b l = wrap64 (Vb.num l) := by
  unfold intL; rw [h]; simp
theorem intL_64 {b : Bool} {l : List UInt8} (h : l.length = 64) : intL b l = wrap64 (Vb.num l) := by
  unfold intL
  cases hb : (b && Vb.oneB (l.headD 0))
  · simp
  · rw [if_pos rfl, h]; unfold wrap64; omega
theorem intL_yes {l : List UInt8} (h : Vb.oneB (l.headD 0) = true) : intL true l = wrap64 ((Vb.num l : Int) - 2 ^ l.length) := by
  unfold intL; rw [h]; simp
theorem one_no {c : UInt8} (h : Vb.oneB c = false) : ((c.toNat : Int) == 49) = false := u8_nq 49 (by omega) (by intro e; rw [e] at h; cases h)
theorem one_yes {c : UInt8} (h : Vb.oneB c = true) : (c.toNat : Int) = 49 := by
  have : c = 49 := by simpa [Vb.oneB] using h
  rw [this]; rfl
theorem wrap_dbl {V : Int} {m : Nat} (h : V = wrap64 m) : wrap64 (V * 2) = wrap64 ((2 * m + 0 : Nat) : Int) := by
  subst h; unfold wrap64; omega
theorem wrap_dbl1 {V : Int} {m : Nat} (h : V = wrap64 m) : wrap64 (wrap64 (V * 2) + 1) = wrap64 ((2 * m + 1 : Nat) : Int) := by
  subst h; unfold wrap64; omega
theorem wrap_pow {P : Int} {k : Nat} (h : P = wrap64 (2 ^ k)) : wrap64 (P * 2) = wrap64 (2 ^ (k + 1)) := by
  subst h; rw [Int.pow_succ]; generalize (2 : Int) ^ k = Z; unfold wrap64; omega
theorem wrap_sub {V P a b : Int} (h : V = wrap64 a) (k : P = wrap64 b) : wrap64 (V - P) = wrap64 (a - b) := by
  subst h k; unfold wrap64; omega
theorem L_head (s : ByteArray) (h : 0 < s.size) : (L s).headD 0 = s[0] := by
  rw [L_get s 0 h, List.headD_eq_head?_getD, List.head?_eq_getElem?, List.getElem?_eq_getElem (by rw [L_len]; exact h)]; rfl
theorem ret_2 {a b : Int} {c : Bool} (h : a = b) : Ending.returned (.tuple #[.int .i64 a, .bool c]) = .returned (.tuple #[.int .i64 b, .bool c]) := by rw [h]
set_option maxHeartbeats 400000 in
theorem sIntOf (s : ByteArray) (b : Bool) (w : World) (hs : s.size ≤ maxLen) (hv : Vb.okV (L s) = true) (hk : (L s).all Vb.knB = true) :
    Calls Try.prog 17 #[.string s, .bool b] w fun e w' => e = .returned (.tuple #[.int .i64 (intL b (L s)), .bool true]) ∧ w' = w := by
  obtain ⟨h1, h2, h3⟩ := (okV_iff s).1 hv
  have hp : 0 < s.size := by omega
  go_enter Try.func17, Try.ntmps17
  have HV := hide hv
  have HK := hide hk
  clear hv hk h3
  go_wp2_with (first | (go_at_call 35; refine (sBitsOK s _ hs).mono ?_; rw [unhide HV]; rintro e w' ⟨rfl, rfl⟩) | (go_at_call 47; refine (sKnown s _ hs).mono ?_; rw [unhide HK]; rintro e w' ⟨rfl, rfl⟩))
  go_loop [6, 7] (fun v i => ∃ k : Nat, k ≤ s.size ∧ i = .int .i64 k ∧ ∃ V : Int, v = .int .i64 V ∧ V = wrap64 (Vb.num ((L s).take k))) (fun _ i => s.size - (intOf i).toNat)
  case atStart => exact ⟨0, Nat.zero_le _, rfl, 0, rfl, by rw [List.take_zero, Vb.num_nil]; unfold wrap64; omega⟩
  case round =>
    obtain ⟨k, hk, rfl, V, rfl, hV⟩ := hrel
    have HW := hide hV
    clear hV
    by_cases hlt : k < s.size
    · have st : Vb.num ((L s).take (k + 1)) = 2 * Vb.num ((L s).take k) + (Vb.oneB s[k]).toNat := by rw [L_take s k hlt, Vb.num_snoc]
      have ST := hide st
      clear st
      cases ho : Vb.oneB s[k]
      · rw [ho] at ST
        have e' := one_no ho
        clear ho
        go_wp2
        go_round
        case rel => exact ⟨k + 1, by omega, by go_num, _, rfl, by rw [unhide ST]; exact wrap_dbl (unhide HW)⟩
        case measure => simp [intOf]; omega
      · rw [ho] at ST
        have e' := one_yes ho
        clear ho
        go_wp2
        go_round
        case rel => exact ⟨k + 1, by omega, by go_num, _, rfl, by rw [unhide ST]; exact wrap_dbl1 (unhide HW)⟩
        case measure => simp [intOf]; omega
    · have hV := unhide HW
      rw [L_take_all s k (by omega)] at hV
      clear HW
      have HW := hide hV
      clear hV
      have h0 := L_head s hp
      cases b
      · go_wp2
        go_ret2
        exact ⟨ret_2 (by rw [intL_no rfl]; exact unhide HW), rfl⟩
      · cases ho : Vb.oneB s[0]
        · have e' := one_no ho
          have HN : Hid (intL true (L s) = wrap64 (Vb.num (L s))) := by exact intL_no (by rw [h0, ho]; rfl)
          clear h0 ho
          go_wp2
          go_ret2
          exact ⟨ret_2 (by rw [unhide HN]; exact unhide HW), rfl⟩
        · have e' := one_yes ho
          by_cases h64 : s.size = 64
          · have HN : Hid (intL true (L s) = wrap64 (Vb.num (L s))) := by exact intL_64 (by rw [L_len]; exact h64)
            have hd : decide ((s.size : Int) < 64) = false := by simp; omega
            clear h0 ho h64
            go_wp2
            go_ret2
            exact ⟨ret_2 (by rw [unhide HN]; exact unhide HW), rfl⟩
          · have HN : Hid (intL true (L s) = wrap64 ((Vb.num (L s) : Int) - 2 ^ s.size)) := by
              have := intL_yes (l := L s) (by rw [h0]; exact ho)
              rw [L_len] at this; exact this
            have hd : decide ((s.size : Int) < 64) = true := by simp; omega
            clear h0 ho
            go_wp2
            go_loop [8, 9] (fun p i => ∃ m : Nat, m ≤ s.size ∧ i = .int .i64 m ∧ ∃ P : Int, p = .int .i64 P ∧ P = wrap64 (2 ^ m)) (fun _ i => s.size - (intOf i).toNat)
            case atStart => exact ⟨0, Nat.zero_le _, rfl, 1, rfl, by rw [Int.pow_zero]; unfold wrap64; omega⟩
            case round =>
              obtain ⟨m, hm, rfl, P, rfl, hP⟩ := hrel
              have HP := hide hP
              clear hP
              by_cases hlt2 : m < s.size
              · go_wp2
                go_round
                case rel => exact ⟨m + 1, by omega, by go_num, _, rfl, wrap_pow (unhide HP)⟩
                case measure => simp [intOf]; omega
              · go_wp2
                go_ret2
                have : m = s.size := by omega
                subst this
                exact ⟨ret_2 (by rw [unhide HN]; exact wrap_sub (unhide HW) (unhide HP)), rfl⟩
set_option maxHeartbeats 400000 in
theorem sIntOf_no (s : ByteArray) (b : Bool) (w : World) (hs : s.size ≤ maxLen) (h : (Vb.okV (L s) && (L s).all Vb.knB) = false) :
    Calls Try.prog 17 #[.string s, .bool b] w fun e w' => e = .returned (.tuple #[.int .i64 0, .bool false]) ∧ w' = w := by
  cases hv : Vb.okV (L s)
  · have HV := hide hv
    clear hv h
    go_enter Try.func17, Try.ntmps17
    go_wp2_with (first | (go_at_call 35; refine (sBitsOK s _ hs).mono ?_; rw [unhide HV]; rintro e w' ⟨rfl, rfl⟩))
    go_ret2
    exact ⟨rfl, rfl⟩
  · rw [hv, Bool.true_and] at h
    have HV := hide hv
    have HK := hide h
    clear hv h
    go_enter Try.func17, Try.ntmps17
    go_wp2_with (first | (go_at_call 35; refine (sBitsOK s _ hs).mono ?_; rw [unhide HV]; rintro e w' ⟨rfl, rfl⟩) | (go_at_call 47; refine (sKnown s _ hs).mono ?_; rw [unhide HK]; rintro e w' ⟨rfl, rfl⟩))
    go_ret2
    exact ⟨rfl, rfl⟩
end Go.Proofs.Ytmbllgblbdfobaa
