/- What the specification's BitsOK, l01Known, l01Fill and BitsOf answer. -/
import Derived.Test.YtjbbjgoofenkpaaBase
namespace Go.Proofs.Ytjbbjgoofenkpaa
open Go.RowKit

set_option maxHeartbeats 400000 in
theorem sKnown (s : ByteArray) (w : World) (hs : s.size ≤ maxLen) :
    Calls Try.prog 32 #[.string s] w fun e w' => e = .returned (.bool ((L s).all Vb.knB)) ∧ w' = w := by
  unfold maxLen at hs
  go_enter Try.func32, Try.ntmps32
  go_wp2
  go_loop [3] (fun i => ∃ k : Nat, k ≤ s.size ∧ i = .int .i64 k ∧ ((L s).take k).all Vb.knB = true) (fun i => s.size - (intOf i).toNat)
  case atStart => exact ⟨0, Nat.zero_le _, rfl, rfl⟩
  case round =>
    obtain ⟨k, hk, rfl, hv⟩ := hrel
    have HV : Hid (((L s).take k).all Vb.knB = true) := hv
    clear hv
    by_cases hlt : k < s.size
    · by_cases e : s[k] = 48
      · have e' : (s[k].toNat : Int) = 48 := by rw [e]; rfl
        have hn : Hid (Vb.knB s[k] = true) := by rw [e]; exact rfl
        clear e
        go_wp2
        go_round
        case rel => exact ⟨k + 1, by omega, by go_num, all_step k hlt hn.out HV.out⟩
        case measure => simp [intOf]; omega
      · by_cases f : s[k] = 49
        · have e' : (s[k].toNat : Int) = 49 := by rw [f]; rfl
          have hn : Hid (Vb.knB s[k] = true) := by rw [f]; exact rfl
          clear e f
          go_wp2
          go_round
          case rel => exact ⟨k + 1, by omega, by go_num, all_step k hlt hn.out HV.out⟩
          case measure => simp [intOf]; omega
        · have n1 : ((s[k].toNat : Int) != 48) = true := u8_ne 48 (by omega) e
          have n2 : ((s[k].toNat : Int) != 49) = true := u8_ne 49 (by omega) f
          have hn : Vb.knB s[k] = false := by simp [Vb.knB, e, f]
          clear e f
          go_wp2
          go_ret
          exact ⟨ret_bool (not_all k hlt hn).symm, rfl⟩
    · go_wp2
      go_ret
      refine ⟨ret_bool ?_, rfl⟩
      have h := HV.out
      rw [L_take_all s k (by omega)] at h
      exact h.symm
end Go.Proofs.Ytjbbjgoofenkpaa
