/- What the specification's Join answers. -/
import Derived.Test.YtmbllgblbdfobaaStr
import Derived.Test.YtmbllgblbdfobaaS8
namespace Go.Proofs.Ytmbllgblbdfobaa
open Go.RowKit
/-- The texts one behind the other, or none. -/
def joinL : List UInt8 → List ByteArray → List UInt8
  | acc, [] => acc
  | acc, s :: t => if Vb.okV (L s) && decide (acc.length + s.size ≤ 64) then joinL (acc ++ L s) t else []
set_option maxRecDepth 100000 in
set_option maxHeartbeats 400000 in
theorem sJoin (a : Option Addr) (n cap : Nat) (ss : List ByteArray) (w : World) (hS : SL a n ss w) (hn : n ≤ 1048576) (hz : ∀ s ∈ ss, s.size ≤ 1048576) :
    Calls Try.prog 41 #[.slice a n cap] w fun e w' => e = .returned (.string (S (joinL [] ss))) ∧ w = w' := by
  obtain ⟨hlen, hS⟩ := hS
  have HL := hide hlen
  clear hlen
  rcases hS with rfl | ⟨b, off, rfl, hc⟩
  · have HE : Hid (ss = []) := List.eq_nil_of_length_eq_zero (unhide HL)
    go_enter Try.func41, Try.ntmps41
    go_wp2
    go_loop [3, 4] (fun o i => i = .int .i64 0 ∧ o = .string (S [])) (fun _ _ => 0)
    case atStart => exact ⟨rfl, rfl⟩
    case round =>
      obtain ⟨rfl, rfl⟩ := hrel
      go_wp2
      go_ret
      exact ⟨by rw [unhide HE]; rfl, rfl⟩
  · have HC := hide hc
    have HZ := hide hz
    clear hc hz
    go_enter Try.func41, Try.ntmps41
    go_wp2
    go_loop [3, 4] (fun o i => ∃ k : Nat, k ≤ n ∧ i = .int .i64 k ∧ ∃ acc : List UInt8, o = .string (S acc) ∧ acc.length ≤ 64 ∧ k ≤ acc.length ∧ joinL [] ss = joinL acc (ss.drop k)) (fun _ i => n - (intOf i).toNat)
    case atStart => exact ⟨0, Nat.zero_le _, rfl, [], rfl, by simp, by simp, rfl⟩
    case round =>
      obtain ⟨k, hk, rfl, acc, rfl, hacc, hka, hj⟩ := hrel
      have hsa : (S acc).size = acc.length := S_size acc
      by_cases hlt : k < n
      · have hks : k < ss.length := by rw [unhide HL]; exact hlt
        have hcell := unhide HC k hks
        have hsz := unhide HZ ss[k] (List.getElem_mem hks)
        rw [List.drop_eq_getElem_cons hks, joinL] at hj
        have h4096 : ¬ (4096 : Int) ≤ (k : Int) := by omega
        have h4096b : decide ((4096 : Int) ≤ (k : Int)) = false := by simp; omega
        generalize ss[k] = x at *
        cases hok : Vb.okV (L x)
        · rw [hok] at hj
          have HJ : Hid (joinL [] ss = []) := by show _ = _; rw [hj]; rfl
          have HO := hide hok
          clear hj hok
          go_wp2_with (first | (go_at_call 35; refine (sOK0 x _ (by unfold maxLen; omega) (unhide HO)).mono ?_; rintro e w' ⟨rfl, rfl⟩))
          go_ret
          exact ⟨by rw [unhide HJ]; rfl, rfl⟩
        · have hx1 := (okV_iff x).1 hok
          rw [hok, Bool.true_and] at hj
          by_cases hfit : acc.length + x.size ≤ 64
          · rw [if_pos (by simpa using hfit)] at hj
            have HJ := hide hj
            have HO := hide hok
            have hap : S acc ++ x = S (acc ++ L x) := by apply L_inj; rw [L_append, L_S, L_S]
            have HAP := hide hap
            have hx1' := hx1.1
            clear hj hok hx1 hap
            generalize hT : S acc = T at *
            have HT := hide hT
            clear hT
            go_wp2_with (first | (go_at_call 35; refine (sOK1 x _ (by unfold maxLen; omega) (unhide HO)).mono ?_; rintro e w' ⟨rfl, rfl⟩))
            go_round
            case rel => exact ⟨k + 1, by omega, by go_num, acc ++ L x, congrArg Value.string (unhide HAP), by rw [List.length_append, L_len]; exact hfit, by rw [List.length_append, L_len]; omega, unhide HJ⟩
            case measure => simp [intOf]; omega
          · rw [if_neg (by simpa using hfit)] at hj
            have HJ := hide hj
            have HO := hide hok
            clear hj hok hx1
            generalize hT : S acc = T at *
            clear hT
            go_wp2_with (first | (go_at_call 35; refine (sOK1 x _ (by unfold maxLen; omega) (unhide HO)).mono ?_; rintro e w' ⟨rfl, rfl⟩))
            go_ret
            exact ⟨by rw [unhide HJ]; rfl, rfl⟩
      · have HJ : Hid (joinL [] ss = acc) := by
          show _ = _
          rw [hj, List.drop_of_length_le (by rw [unhide HL]; omega)]; rfl
        clear hj
        generalize hT : S acc = T at *
        have HT := hide hT
        clear hT
        go_wp2
        go_ret
        exact ⟨ret_str (by rw [unhide HJ, unhide HT]), rfl⟩
end Go.Proofs.Ytmbllgblbdfobaa
