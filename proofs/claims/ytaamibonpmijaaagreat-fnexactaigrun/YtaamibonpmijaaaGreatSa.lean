/- What the specification's BitsOK, l01Known, l01Fill and BitsOf answer. -/
import Derived.Test.YtaamibonpmijaaaGreatBase
namespace Go.Proofs.YtaamibonpmijaaaGreat
open Go.RowKit

set_option maxHeartbeats 400000 in
theorem sKnown (s : ByteArray) (w : World) (hs : s.size ≤ maxLen) :
    Calls Tryz.prog 57 #[.string s] w fun e w' => e = .returned (.bool ((L s).all Vb.knB)) ∧ w' = w := by
  unfold maxLen at hs
  go_enter Tryz.func57, Tryz.ntmps57
  go_wp2
  go_loop [3] (fun i => ∃ k : Nat, k ≤ s.size ∧ i = .int .i64 k ∧ ((L s).take k).all Vb.knB = true) (fun i => s.size - (intOf i).toNat)
  case atStart => exact ⟨0, Nat.zero_le _, rfl, rfl⟩
  case round =>
    obtain ⟨k, hk, rfl, hv⟩ := hrel
    have HV : Hid (((L s).take k).all Vb.knB = true) := hv
    clear hv
    by_cases hlt : k < s.size
    · by_cases e : s[k] = 48
      · have e' : (s[k].toNat : Int) = 48 := by rw [e]; rfl
        have hn : Hid (Vb.knB s[k] = true) := by rw [e]; exact rfl
        clear e
        go_wp2
        go_round
        case rel => exact ⟨k + 1, by omega, by go_num, all_step k hlt hn.out HV.out⟩
        case measure => simp [intOf]; omega
      · by_cases f : s[k] = 49
        · have e' : (s[k].toNat : Int) = 49 := by rw [f]; rfl
          have hn : Hid (Vb.knB s[k] = true) := by rw [f]; exact rfl
          clear e f
          go_wp2
          go_round
          case rel => exact ⟨k + 1, by omega, by go_num, all_step k hlt hn.out HV.out⟩
          case measure => simp [intOf]; omega
        · have n1 : ((s[k].toNat : Int) != 48) = true := u8_ne 48 (by omega) e
          have n2 : ((s[k].toNat : Int) != 49) = true := u8_ne 49 (by omega) f
          have hn : Vb.knB s[k] = false := by simp [Vb.knB, e, f]
          clear e f
          go_wp2
          go_ret
          exact ⟨ret_bool (not_all k hlt hn).symm, rfl⟩
    · go_wp2
      go_ret
      refine ⟨ret_bool ?_, rfl⟩
      have h := HV.out
      rw [L_take_all s k (by omega)] at h
      exact h.symm
end Go.Proofs.YtaamibonpmijaaaGreat
namespace Go.Proofs.YtaamibonpmijaaaGreat
open Go.RowKit
set_option maxHeartbeats 400000 in
theorem sBitsOK (s : ByteArray) (w : World) (hs : s.size ≤ maxLen) :
    Calls Tryz.prog 56 #[.string s] w fun e w' => e = .returned (.bool (Vb.okV (L s))) ∧ w' = w := by
  unfold maxLen at hs
  by_cases h1 : (s.size : Int) < 1
  · go_enter Tryz.func56, Tryz.ntmps56
    go_wp2
    go_ret
    exact ⟨ret_bool (by simp [Vb.okV, L_len]; omega), rfl⟩
  · by_cases h2 : (64 : Int) < s.size
    · go_enter Tryz.func56, Tryz.ntmps56
      go_wp2
      go_ret
      exact ⟨ret_bool (by simp [Vb.okV, L_len]; omega), rfl⟩
    · go_enter Tryz.func56, Tryz.ntmps56
      go_wp2
      go_loop [3] (fun i => ∃ k : Nat, k ≤ s.size ∧ i = .int .i64 k ∧ ((L s).take k).all Vb.isV = true) (fun i => s.size - (intOf i).toNat)
      case atStart => exact ⟨0, Nat.zero_le _, rfl, rfl⟩
      case round =>
        obtain ⟨k, hk, rfl, hv⟩ := hrel
        have HV : Hid (((L s).take k).all Vb.isV = true) := hv
        clear hv
        by_cases hlt : k < s.size
        · have fin : Vb.isV s[k] = true → ∃ k1 : Nat, k1 ≤ s.size ∧ (.int .i64 (↑k + 1) : Value) = .int .i64 k1 ∧ ((L s).take k1).all Vb.isV = true :=
            fun h => ⟨k + 1, by omega, by go_num, all_step k hlt h HV.out⟩
          rcases cls s[k] with e | e | e | e | ⟨hn, n1, n2, n3, n4⟩
          · rw [e] at fin
            have e' : (s[k].toNat : Int) = 48 := by rw [e]; rfl
            clear e
            go_wp2
            go_round
            case rel => exact fin rfl
            case measure => simp [intOf]; omega
          · rw [e] at fin
            have e' : (s[k].toNat : Int) = 49 := by rw [e]; rfl
            clear e
            go_wp2
            go_round
            case rel => exact fin rfl
            case measure => simp [intOf]; omega
          · rw [e] at fin
            have e' : (s[k].toNat : Int) = 120 := by rw [e]; rfl
            clear e
            go_wp2
            go_round
            case rel => exact fin rfl
            case measure => simp [intOf]; omega
          · rw [e] at fin
            have e' : (s[k].toNat : Int) = 122 := by rw [e]; rfl
            clear e
            go_wp2
            go_round
            case rel => exact fin rfl
            case measure => simp [intOf]; omega
          · clear fin
            go_wp2
            go_ret
            exact ⟨ret_bool (by simp [Vb.okV, not_all k hlt hn]), rfl⟩
        · go_wp2
          go_ret
          refine ⟨ret_bool ?_, rfl⟩
          have h := HV.out
          rw [L_take_all s k (by omega)] at h
          exact ((okV_iff s).2 ⟨by omega, by omega, h⟩).symm
end Go.Proofs.YtaamibonpmijaaaGreat
