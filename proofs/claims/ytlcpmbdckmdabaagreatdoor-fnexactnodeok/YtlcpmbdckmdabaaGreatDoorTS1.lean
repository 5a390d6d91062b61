/- What the specification's l02Letter and l02Run answer. -/
import Derived.Test.YtlcpmbdckmdabaaGreatDoorNBX
import Derived.Test.YtlcpmbdckmdabaaGreatDoorNS2
namespace Go.Proofs.YtlcpmbdckmdabaaGreatDoor
open Go.RowKit
set_option maxRecDepth 100000
set_option linter.unusedVariables false
theorem sLetter (c : UInt8) (w : World) : Calls Tryz.prog 64 #[.int .u8 (c.toNat : Int)] w fun e w' => e = .returned (.bool (Nb.letB c)) ∧ w' = w := by
  have hd : Nb.letB c = ((decide ((97 : Int) ≤ (c.toNat : Int)) && decide ((c.toNat : Int) ≤ 122)) || (decide ((65 : Int) ≤ (c.toNat : Int)) && decide ((c.toNat : Int) ≤ 90)) || ((c.toNat : Int) == 95)) := by
    unfold Nb.letB; rw [u8_le, u8_le, u8_le, u8_le, u8b]; rfl
  rw [hd]
  generalize (c.toNat : Int) = n
  go_enter Tryz.func64, Tryz.ntmps64
  go_wp2
  all_goals (go_ret; exact ⟨by first | (simp_all; done) | (simp_all; omega; done) | (simp_all; rw [Bool.eq_iff_iff]; simp only [Bool.or_eq_true, Bool.and_eq_true, decide_eq_true_eq, beq_iff_eq]; omega), rfl⟩)
set_option maxRecDepth 100000 in
set_option maxHeartbeats 400000 in
theorem sRun (s : ByteArray) (a D : Nat) (w : World) (hs : s.size ≤ 1000000) (ha : a < s.size) (hc : Nb.letB s[a] = true) (hD : Nb.runE Nb.nmB (L s) (a + 1) = D) :
    Calls Tryz.prog 47 #[.string s, .int .i64 a] w fun e w' => e = .returned (.int .i64 (D : Nat)) ∧ w' = w := by
  have hl : (L s).length = s.size := L_len s
  have HD := hide hD
  have HC := hide hc
  clear hD hc
  go_enter Tryz.func47, Tryz.ntmps47
  go_wp2
  go_loop [5] (fun i => ∃ k : Nat, a ≤ k ∧ k ≤ s.size ∧ i = .int .i64 k ∧ (k = a ∨ (a < k ∧ Nb.runE Nb.nmB (L s) (a + 1) = Nb.runE Nb.nmB (L s) k))) (fun i => s.size - (intOf i).toNat)
  case atStart => exact ⟨a, Nat.le_refl _, Nat.le_of_lt ha, rfl, .inl rfl⟩
  case round =>
    obtain ⟨k, hk1, hk2, rfl, hrun⟩ := hrel
    rcases hrun with rfl | ⟨hgt, hrun⟩
    · have LT := hide (fun v => sLetter s[k] v)
      rw [unhide HC] at LT
      go_wp2_with (go_at_call 64; refine (unhide LT _).mono ?_; rintro e w' ⟨rfl, rfl⟩)
      exact ⟨⟨k + 1, by omega, by omega, by go_num, .inr ⟨by omega, rfl⟩⟩, by simp [intOf]; omega⟩
    · have HN := hide hrun
      clear hrun
      by_cases hks : k < s.size
      · have LT := hide (fun v => sLetter s[k] v)
        have DG := hide (fun v => sDigit s[k] v)
        by_cases h1 : Nb.letB s[k] = true
        · have HG : Hid (Nb.nmB s[k] = true) := hide (by unfold Nb.nmB; rw [h1]; rfl)
          rw [h1] at LT
          clear h1 DG
          go_wp2_with (go_at_call 64; refine (unhide LT _).mono ?_; rintro e w' ⟨rfl, rfl⟩)
          exact ⟨⟨k + 1, by omega, by omega, by go_num, .inr ⟨by omega, (unhide HN).trans (Nb.runE_step (by omega) (unhide HG))⟩⟩, by simp [intOf]; omega⟩
        · have h1' : Nb.letB s[k] = false := by simpa using h1
          by_cases h2 : Nb.digB s[k] = true
          · have HG : Hid (Nb.nmB s[k] = true) := hide (by unfold Nb.nmB; rw [h2, h1']; rfl)
            rw [h1'] at LT
            rw [h2] at DG
            clear h1 h1' h2
            go_wp2_with (first | (go_at_call 64; refine (unhide LT _).mono ?_; rintro e w' ⟨rfl, rfl⟩) | (go_at_call 49; refine (unhide DG _).mono ?_; rintro e w' ⟨rfl, rfl⟩))
            exact ⟨⟨k + 1, by omega, by omega, by go_num, .inr ⟨by omega, (unhide HN).trans (Nb.runE_step (by omega) (unhide HG))⟩⟩, by simp [intOf]; omega⟩
          · have h2' : Nb.digB s[k] = false := by simpa using h2
            have HG : Nb.nmB s[k] = false := by unfold Nb.nmB; rw [h2', h1']; rfl
            obtain rfl : D = k := (unhide HD).symm.trans ((unhide HN).trans (Nb.runE_stop (by omega) HG))
            rw [h1'] at LT
            rw [h2'] at DG
            clear h1 h1' h2 h2' HG HN
            go_wp2_with (first | (go_at_call 64; refine (unhide LT _).mono ?_; rintro e w' ⟨rfl, rfl⟩) | (go_at_call 49; refine (unhide DG _).mono ?_; rintro e w' ⟨rfl, rfl⟩))
            exact bodyPost_ret (v := .int .i64 (D : Nat)) (by simp [results, Tryz.results47, go_sem]) rfl ⟨rfl, rfl⟩
      · have hke := (unhide HD).symm.trans ((unhide HN).trans (Nb.runE_end (by omega)))
        obtain rfl : D = k := hke
        clear HN
        go_wp2
        exact bodyPost_ret (v := .int .i64 (D : Nat)) (by simp [results, Tryz.results47, go_sem]) rfl ⟨rfl, rfl⟩
end Go.Proofs.YtlcpmbdckmdabaaGreatDoor
