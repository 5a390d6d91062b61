/- l02Number's ways, one by one, and what it answers. -/
import Derived.Test.YtlcpmbdckmdabaaGreatDoorNS1
namespace Go.Proofs.YtlcpmbdckmdabaaGreatDoor
open Go.RowKit
set_option maxRecDepth 100000
set_option linter.unusedVariables false
theorem u8x {c d : UInt8} (h : c ≠ d) : ((c.toNat : Int) == (d.toNat : Int)) = false := by
  rw [beq_eq_false_iff_ne]; intro e; apply h; rw [← UInt8.toNat_inj]; exact Int.ofNat.inj e
set_option maxRecDepth 100000 in
set_option maxHeartbeats 400000 in
theorem sNum1a (s : ByteArray) (a D : Nat) (w : World) (hs : s.size ≤ 1000000) (ha : a ≤ s.size) (hD : Nb.runE Nb.digB (L s) a = D) (h1 : D = a) :
    Calls Tryz.prog 48 #[.string s, .int .i64 a] w fun e w' => e = .returned (.tuple #[.int .i64 (D : Nat), .bool (decide (a < D))]) ∧ w' = w := by
  have hl : (L s).length = s.size := L_len s
  have q1 : ((D : Int) == (a : Int)) = true := by rw [beq_iff_eq]; omega
  have g1 : D ≤ a := by omega
  have g2 : a ≤ D := by omega
  clear h1
  have HD := hide hD
  clear hD
  go_enter Tryz.func48, Tryz.ntmps48
  go_wp2
  go_loop [6] (fun i => ∃ k : Nat, a ≤ k ∧ k ≤ s.size ∧ i = .int .i64 k ∧ Nb.runE Nb.digB (L s) a = Nb.runE Nb.digB (L s) k) (fun i => s.size - (intOf i).toNat)
  case atStart => exact ⟨a, Nat.le_refl _, ha, rfl, rfl⟩
  case round =>
    obtain ⟨k, hk1, hk2, rfl, hrun⟩ := hrel
    have HN := hide hrun
    clear hrun
    by_cases hks : k < s.size
    · have DG := hide (fun v => sDigit s[k] v)
      by_cases hd : Nb.digB s[k] = true
      · have HG := hide hd
        rw [hd] at DG
        clear hd
        go_wp2_with (go_at_call 49; refine (unhide DG _).mono ?_; rintro e w' ⟨rfl, rfl⟩)
        exact ⟨⟨k + 1, by omega, by omega, by go_num, (unhide HN).trans (Nb.runE_step (by omega) (unhide HG))⟩, by simp [intOf]; omega⟩
      · have hd' : Nb.digB s[k] = false := by simpa using hd
        obtain rfl : D = k := (unhide HD).symm.trans ((unhide HN).trans (Nb.runE_stop (by omega) hd'))
        clear DG
        have DG := hide (fun v => sDigit (s[D]'hks) v)
        rw [hd'] at DG
        clear hd hd' HN
        go_wp2_with (go_at_call 49; refine (unhide DG _).mono ?_; rintro e w' ⟨rfl, rfl⟩)
        refine bodyPost_ret (v := .tuple #[.int .i64 (D : Nat), .bool (decide (a < D))]) ?_ rfl ⟨rfl, rfl⟩
        first | (simp [results, Tryz.results48, go_sem]; done) | (simp [results, Tryz.results48, go_sem]; omega) | (simp [results, Tryz.results48, go_sem]; constructor <;> omega)
    · have hke := (unhide HD).symm.trans ((unhide HN).trans (Nb.runE_end (by omega)))
      obtain rfl : D = k := hke
      clear HN
      go_wp2
      refine bodyPost_ret (v := .tuple #[.int .i64 (D : Nat), .bool (decide (a < D))]) ?_ rfl ⟨rfl, rfl⟩
      first | (simp [results, Tryz.results48, go_sem]; done) | (simp [results, Tryz.results48, go_sem]; omega) | (simp [results, Tryz.results48, go_sem]; constructor <;> omega)
set_option maxRecDepth 100000 in
set_option maxHeartbeats 400000 in
theorem sNum1b (s : ByteArray) (a D : Nat) (w : World) (hs : s.size ≤ 1000000) (ha : a ≤ s.size) (hD : Nb.runE Nb.digB (L s) a = D) (h1 : D ≠ a) (h2 : D = s.size) :
    Calls Tryz.prog 48 #[.string s, .int .i64 a] w fun e w' => e = .returned (.tuple #[.int .i64 (D : Nat), .bool (decide (a < D))]) ∧ w' = w := by
  have hl : (L s).length = s.size := L_len s
  have q1 : ((D : Int) == (a : Int)) = false := by rw [beq_eq_false_iff_ne]; omega
  have q2 : ((D : Int) == (s.size : Int)) = true := by rw [beq_iff_eq]; omega
  have g1 : D ≤ s.size := by omega
  have g2 : s.size ≤ D := by omega
  clear h2
  have HD := hide hD
  clear hD
  go_enter Tryz.func48, Tryz.ntmps48
  go_wp2
  go_loop [6] (fun i => ∃ k : Nat, a ≤ k ∧ k ≤ s.size ∧ i = .int .i64 k ∧ Nb.runE Nb.digB (L s) a = Nb.runE Nb.digB (L s) k) (fun i => s.size - (intOf i).toNat)
  case atStart => exact ⟨a, Nat.le_refl _, ha, rfl, rfl⟩
  case round =>
    obtain ⟨k, hk1, hk2, rfl, hrun⟩ := hrel
    have HN := hide hrun
    clear hrun
    by_cases hks : k < s.size
    · have DG := hide (fun v => sDigit s[k] v)
      by_cases hd : Nb.digB s[k] = true
      · have HG := hide hd
        rw [hd] at DG
        clear hd
        go_wp2_with (go_at_call 49; refine (unhide DG _).mono ?_; rintro e w' ⟨rfl, rfl⟩)
        exact ⟨⟨k + 1, by omega, by omega, by go_num, (unhide HN).trans (Nb.runE_step (by omega) (unhide HG))⟩, by simp [intOf]; omega⟩
      · have hd' : Nb.digB s[k] = false := by simpa using hd
        obtain rfl : D = k := (unhide HD).symm.trans ((unhide HN).trans (Nb.runE_stop (by omega) hd'))
        clear DG
        omega
    · have hke := (unhide HD).symm.trans ((unhide HN).trans (Nb.runE_end (by omega)))
      obtain rfl : D = k := hke
      clear HN
      go_wp2
      refine bodyPost_ret (v := .tuple #[.int .i64 (D : Nat), .bool (decide (a < D))]) ?_ rfl ⟨rfl, rfl⟩
      first | (simp [results, Tryz.results48, go_sem]; done) | (simp [results, Tryz.results48, go_sem]; omega) | (simp [results, Tryz.results48, go_sem]; constructor <;> omega)
set_option maxRecDepth 100000 in
set_option maxHeartbeats 400000 in
theorem sNum1c (s : ByteArray) (a D : Nat) (w : World) (hs : s.size ≤ 1000000) (ha : a ≤ s.size) (hD : Nb.runE Nb.digB (L s) a = D) (h1 : D ≠ a) (h2 : D < s.size) (h39 : s[D] ≠ 39) :
    Calls Tryz.prog 48 #[.string s, .int .i64 a] w fun e w' => e = .returned (.tuple #[.int .i64 (D : Nat), .bool (decide (a < D))]) ∧ w' = w := by
  have hl : (L s).length = s.size := L_len s
  have q1 : ((D : Int) == (a : Int)) = false := by rw [beq_eq_false_iff_ne]; omega
  have q2 : ((D : Int) == (s.size : Int)) = false := by rw [beq_eq_false_iff_ne]; omega
  have q3 : ((s[D].toNat : Int) != 39) = true := by rw [bne_iff_ne]; exact (beq_eq_false_iff_ne.1 (u8x h39))
  clear h39
  have HD := hide hD
  clear hD
  go_enter Tryz.func48, Tryz.ntmps48
  go_wp2
  go_loop [6] (fun i => ∃ k : Nat, a ≤ k ∧ k ≤ s.size ∧ i = .int .i64 k ∧ Nb.runE Nb.digB (L s) a = Nb.runE Nb.digB (L s) k) (fun i => s.size - (intOf i).toNat)
  case atStart => exact ⟨a, Nat.le_refl _, ha, rfl, rfl⟩
  case round =>
    obtain ⟨k, hk1, hk2, rfl, hrun⟩ := hrel
    have HN := hide hrun
    clear hrun
    by_cases hks : k < s.size
    · have DG := hide (fun v => sDigit s[k] v)
      by_cases hd : Nb.digB s[k] = true
      · have HG := hide hd
        rw [hd] at DG
        clear hd
        go_wp2_with (go_at_call 49; refine (unhide DG _).mono ?_; rintro e w' ⟨rfl, rfl⟩)
        exact ⟨⟨k + 1, by omega, by omega, by go_num, (unhide HN).trans (Nb.runE_step (by omega) (unhide HG))⟩, by simp [intOf]; omega⟩
      · have hd' : Nb.digB s[k] = false := by simpa using hd
        obtain rfl : D = k := (unhide HD).symm.trans ((unhide HN).trans (Nb.runE_stop (by omega) hd'))
        clear DG
        have DG := hide (fun v => sDigit (s[D]'hks) v)
        rw [hd'] at DG
        clear hd hd' HN
        go_wp2_with (go_at_call 49; refine (unhide DG _).mono ?_; rintro e w' ⟨rfl, rfl⟩)
        refine bodyPost_ret (v := .tuple #[.int .i64 (D : Nat), .bool (decide (a < D))]) ?_ rfl ⟨rfl, rfl⟩
        first | (simp [results, Tryz.results48, go_sem]; done) | (simp [results, Tryz.results48, go_sem]; omega) | (simp [results, Tryz.results48, go_sem]; constructor <;> omega)
    · have hke := (unhide HD).symm.trans ((unhide HN).trans (Nb.runE_end (by omega)))
      omega
set_option maxRecDepth 100000 in
set_option maxHeartbeats 400000 in
theorem sNum4a (s : ByteArray) (a D : Nat) (w : World) (hs : s.size ≤ 1000000) (ha : a ≤ s.size) (hD : Nb.runE Nb.digB (L s) a = D) (h1 : D ≠ a) (h2 : D < s.size) (h2b : s.size ≤ D + 1) (h39 : s[D]'(by omega) = 39) :
    Calls Tryz.prog 48 #[.string s, .int .i64 a] w fun e w' => e = .returned (.tuple #[.int .i64 (D + 1 : Nat), .bool false]) ∧ w' = w := by
  have hl : (L s).length = s.size := L_len s
  have q1 : ((D : Int) == (a : Int)) = false := by rw [beq_eq_false_iff_ne]; omega
  have q2 : ((D : Int) == (s.size : Int)) = false := by rw [beq_eq_false_iff_ne]; omega
  have q4 : (((D : Int) + 1) == (s.size : Int)) = true := by rw [beq_iff_eq]; omega
  have q5 : ¬ (D : Int) + 1 < s.size := by omega
  have HD := hide hD
  clear hD
  go_enter Tryz.func48, Tryz.ntmps48
  go_wp2
  go_loop [6] (fun i => ∃ k : Nat, a ≤ k ∧ k ≤ s.size ∧ i = .int .i64 k ∧ Nb.runE Nb.digB (L s) a = Nb.runE Nb.digB (L s) k) (fun i => s.size - (intOf i).toNat)
  case atStart => exact ⟨a, Nat.le_refl _, ha, rfl, rfl⟩
  case round =>
    obtain ⟨k, hk1, hk2, rfl, hrun⟩ := hrel
    have HN := hide hrun
    clear hrun
    by_cases hks : k < s.size
    · have DG := hide (fun v => sDigit s[k] v)
      by_cases hd : Nb.digB s[k] = true
      · have HG := hide hd
        rw [hd] at DG
        clear hd
        go_wp2_with (go_at_call 49; refine (unhide DG _).mono ?_; rintro e w' ⟨rfl, rfl⟩)
        exact ⟨⟨k + 1, by omega, by omega, by go_num, (unhide HN).trans (Nb.runE_step (by omega) (unhide HG))⟩, by simp [intOf]; omega⟩
      · have hd' : Nb.digB s[k] = false := by simpa using hd
        obtain rfl : D = k := (unhide HD).symm.trans ((unhide HN).trans (Nb.runE_stop (by omega) hd'))
        clear DG
        have DG : Hid (∀ v, Calls Tryz.prog 49 #[.int .u8 39] v fun e w' => e = .returned (.bool false) ∧ w' = v) := fun v => sDigit 39 v
        clear hd hd' HN
        go_wp2_with (go_at_call 49; refine (unhide DG _).mono ?_; rintro e w' ⟨rfl, rfl⟩)
        refine bodyPost_ret (v := .tuple #[.int .i64 (D + 1 : Nat), .bool false]) ?_ rfl ⟨rfl, rfl⟩
        first | (simp [results, Tryz.results48, go_sem]; done) | (simp [results, Tryz.results48, go_sem]; omega) | (simp [results, Tryz.results48, go_sem]; constructor <;> omega)
    · have hke := (unhide HD).symm.trans ((unhide HN).trans (Nb.runE_end (by omega)))
      omega
set_option maxRecDepth 100000 in
set_option maxHeartbeats 400000 in
theorem sNum4b (s : ByteArray) (a D : Nat) (w : World) (hs : s.size ≤ 1000000) (ha : a ≤ s.size) (hD : Nb.runE Nb.digB (L s) a = D) (h1 : D ≠ a) (h2 : D + 1 < s.size) (h39 : s[D]'(by omega) = 39) (h115 : s[D + 1] ≠ 115) (hb : Nb.baseB s[D + 1] = false) :
    Calls Tryz.prog 48 #[.string s, .int .i64 a] w fun e w' => e = .returned (.tuple #[.int .i64 (D + 1 : Nat), .bool false]) ∧ w' = w := by
  have hl : (L s).length = s.size := L_len s
  have q1 : ((D : Int) == (a : Int)) = false := by rw [beq_eq_false_iff_ne]; omega
  have q2 : ((D : Int) == (s.size : Int)) = false := by rw [beq_eq_false_iff_ne]; omega
  have q3 : ((s[D + 1].toNat : Int) == 115) = false := u8x h115
  clear h115
  have q4 : (((D : Int) + 1) == (s.size : Int)) = false := by rw [beq_eq_false_iff_ne]; omega
  have q5 : (D : Int) + 1 < s.size := by omega
  have BS := hide (fun v => sBase s[D + 1] v)
  rw [hb] at BS
  clear hb
  have HD := hide hD
  clear hD
  go_enter Tryz.func48, Tryz.ntmps48
  go_wp2
  go_loop [6] (fun i => ∃ k : Nat, a ≤ k ∧ k ≤ s.size ∧ i = .int .i64 k ∧ Nb.runE Nb.digB (L s) a = Nb.runE Nb.digB (L s) k) (fun i => s.size - (intOf i).toNat)
  case atStart => exact ⟨a, Nat.le_refl _, ha, rfl, rfl⟩
  case round =>
    obtain ⟨k, hk1, hk2, rfl, hrun⟩ := hrel
    have HN := hide hrun
    clear hrun
    by_cases hks : k < s.size
    · have DG := hide (fun v => sDigit s[k] v)
      by_cases hd : Nb.digB s[k] = true
      · have HG := hide hd
        rw [hd] at DG
        clear hd
        go_wp2_with (go_at_call 49; refine (unhide DG _).mono ?_; rintro e w' ⟨rfl, rfl⟩)
        exact ⟨⟨k + 1, by omega, by omega, by go_num, (unhide HN).trans (Nb.runE_step (by omega) (unhide HG))⟩, by simp [intOf]; omega⟩
      · have hd' : Nb.digB s[k] = false := by simpa using hd
        obtain rfl : D = k := (unhide HD).symm.trans ((unhide HN).trans (Nb.runE_stop (by omega) hd'))
        clear DG
        have DG : Hid (∀ v, Calls Tryz.prog 49 #[.int .u8 39] v fun e w' => e = .returned (.bool false) ∧ w' = v) := fun v => sDigit 39 v
        clear hd hd' HN
        go_wp2_with (first | (go_at_call 49; refine (unhide DG _).mono ?_; rintro e w' ⟨rfl, rfl⟩) | (go_at_call 65; refine (unhide BS _).mono ?_; rintro e w' ⟨rfl, rfl⟩))
        refine bodyPost_ret (v := .tuple #[.int .i64 (D + 1 : Nat), .bool false]) ?_ rfl ⟨rfl, rfl⟩
        first | (simp [results, Tryz.results48, go_sem]; done) | (simp [results, Tryz.results48, go_sem]; omega) | (simp [results, Tryz.results48, go_sem]; constructor <;> omega)
    · have hke := (unhide HD).symm.trans ((unhide HN).trans (Nb.runE_end (by omega)))
      omega
set_option maxRecDepth 100000 in
set_option maxHeartbeats 400000 in
theorem sNum5 (s : ByteArray) (a D E : Nat) (w : World) (hs : s.size ≤ 1000000) (ha : a ≤ s.size) (hD : Nb.runE Nb.digB (L s) a = D) (h1 : D ≠ a) (h2 : D + 1 < s.size) (h39 : s[D]'(by omega) = 39) (h115 : s[D + 1] ≠ 115) (hb : Nb.baseB s[D + 1] = true) (hE : Nb.runE Nb.valB (L s) (D + 2) = E) :
    Calls Tryz.prog 48 #[.string s, .int .i64 a] w fun e w' => e = .returned (.tuple #[.int .i64 (E : Nat), .bool (decide (D + 2 < E))]) ∧ w' = w := by
  have hl : (L s).length = s.size := L_len s
  have q1 : ((D : Int) == (a : Int)) = false := by rw [beq_eq_false_iff_ne]; omega
  have q2 : ((D : Int) == (s.size : Int)) = false := by rw [beq_eq_false_iff_ne]; omega
  have q3 : ((s[D + 1].toNat : Int) == 115) = false := u8x h115
  clear h115
  have q4 : (((D : Int) + 1) == (s.size : Int)) = false := by rw [beq_eq_false_iff_ne]; omega
  have q5 : (D : Int) + 1 < s.size := by omega
  have BS := hide (fun v => sBase s[D + 1] v)
  rw [hb] at BS
  clear hb
  have HE := hide hE
  clear hE
  have HD := hide hD
  clear hD
  go_enter Tryz.func48, Tryz.ntmps48
  go_wp2
  go_loop [6] (fun i => ∃ k : Nat, a ≤ k ∧ k ≤ s.size ∧ i = .int .i64 k ∧ Nb.runE Nb.digB (L s) a = Nb.runE Nb.digB (L s) k) (fun i => s.size - (intOf i).toNat)
  case atStart => exact ⟨a, Nat.le_refl _, ha, rfl, rfl⟩
  case round =>
    obtain ⟨k, hk1, hk2, rfl, hrun⟩ := hrel
    have HN := hide hrun
    clear hrun
    by_cases hks : k < s.size
    · have DG := hide (fun v => sDigit s[k] v)
      by_cases hd : Nb.digB s[k] = true
      · have HG := hide hd
        rw [hd] at DG
        clear hd
        go_wp2_with (go_at_call 49; refine (unhide DG _).mono ?_; rintro e w' ⟨rfl, rfl⟩)
        exact ⟨⟨k + 1, by omega, by omega, by go_num, (unhide HN).trans (Nb.runE_step (by omega) (unhide HG))⟩, by simp [intOf]; omega⟩
      · have hd' : Nb.digB s[k] = false := by simpa using hd
        obtain rfl : D = k := (unhide HD).symm.trans ((unhide HN).trans (Nb.runE_stop (by omega) hd'))
        clear DG
        have DG : Hid (∀ v, Calls Tryz.prog 49 #[.int .u8 39] v fun e w' => e = .returned (.bool false) ∧ w' = v) := fun v => sDigit 39 v
        clear hd hd' HN
        go_wp2_with (first | (go_at_call 49; refine (unhide DG _).mono ?_; rintro e w' ⟨rfl, rfl⟩) | (go_at_call 65; refine (unhide BS _).mono ?_; rintro e w' ⟨rfl, rfl⟩))
        go_loop [6] (fun i => ∃ m : Nat, D + 2 ≤ m ∧ m ≤ s.size ∧ i = .int .i64 m ∧ Nb.runE Nb.valB (L s) (D + 2) = Nb.runE Nb.valB (L s) m) (fun i => s.size - (intOf i).toNat)
        case atStart => exact ⟨D + 2, Nat.le_refl _, by omega, by go_num, rfl⟩
        case round =>
          obtain ⟨m, hm1, hm2, rfl, hrun⟩ := hrel
          have HN2 := hide hrun
          clear hrun
          by_cases hms : m < s.size
          · have VL := hide (fun v => sValue s[m] v)
            by_cases hv : Nb.valB s[m] = true
            · have HV := hide hv
              rw [hv] at VL
              clear hv
              go_wp2_with (go_at_call 66; refine (unhide VL _).mono ?_; rintro e w' ⟨rfl, rfl⟩)
              exact ⟨⟨m + 1, by omega, by omega, by go_num, (unhide HN2).trans (Nb.runE_step (by omega) (unhide HV))⟩, by simp [intOf]; omega⟩
            · have hv' : Nb.valB s[m] = false := by simpa using hv
              rw [hv'] at VL
              obtain rfl : E = m := (unhide HE).symm.trans ((unhide HN2).trans (Nb.runE_stop (by omega) hv'))
              clear hv hv' HN2
              go_wp2_with (go_at_call 66; refine (unhide VL _).mono ?_; rintro e w' ⟨rfl, rfl⟩)
              refine bodyPost_ret (v := .tuple #[.int .i64 (E : Nat), .bool (decide (D + 2 < E))]) ?_ rfl ⟨rfl, rfl⟩
              first | (simp [results, Tryz.results48, go_sem]; done) | (simp [results, Tryz.results48, go_sem]; omega) | (simp [results, Tryz.results48, go_sem]; constructor <;> omega)
          · obtain rfl : E = m := (unhide HE).symm.trans ((unhide HN2).trans (Nb.runE_end (by omega)))
            clear HN2
            go_wp2
            refine bodyPost_ret (v := .tuple #[.int .i64 (E : Nat), .bool (decide (D + 2 < E))]) ?_ rfl ⟨rfl, rfl⟩
            first | (simp [results, Tryz.results48, go_sem]; done) | (simp [results, Tryz.results48, go_sem]; omega) | (simp [results, Tryz.results48, go_sem]; constructor <;> omega)
    · have hke := (unhide HD).symm.trans ((unhide HN).trans (Nb.runE_end (by omega)))
      omega
set_option maxRecDepth 100000 in
set_option maxHeartbeats 400000 in
theorem sNum2a (s : ByteArray) (a D : Nat) (w : World) (hs : s.size ≤ 1000000) (ha : a ≤ s.size) (hD : Nb.runE Nb.digB (L s) a = D) (h1 : D ≠ a) (h2 : D + 1 < s.size) (h2b : s.size ≤ D + 2) (h39 : s[D]'(by omega) = 39) (h115 : s[D + 1]'(by omega) = 115) :
    Calls Tryz.prog 48 #[.string s, .int .i64 a] w fun e w' => e = .returned (.tuple #[.int .i64 (D + 2 : Nat), .bool false]) ∧ w' = w := by
  have hl : (L s).length = s.size := L_len s
  have q1 : ((D : Int) == (a : Int)) = false := by rw [beq_eq_false_iff_ne]; omega
  have q2 : ((D : Int) == (s.size : Int)) = false := by rw [beq_eq_false_iff_ne]; omega
  have q4 : (((D : Int) + 1) == (s.size : Int)) = false := by rw [beq_eq_false_iff_ne]; omega
  have q5 : (D : Int) + 1 < s.size := by omega
  have q6 : (((D : Int) + 1 + 1) == (s.size : Int)) = true := by rw [beq_iff_eq]; omega
  have HD := hide hD
  clear hD
  go_enter Tryz.func48, Tryz.ntmps48
  go_wp2
  go_loop [6] (fun i => ∃ k : Nat, a ≤ k ∧ k ≤ s.size ∧ i = .int .i64 k ∧ Nb.runE Nb.digB (L s) a = Nb.runE Nb.digB (L s) k) (fun i => s.size - (intOf i).toNat)
  case atStart => exact ⟨a, Nat.le_refl _, ha, rfl, rfl⟩
  case round =>
    obtain ⟨k, hk1, hk2, rfl, hrun⟩ := hrel
    have HN := hide hrun
    clear hrun
    by_cases hks : k < s.size
    · have DG := hide (fun v => sDigit s[k] v)
      by_cases hd : Nb.digB s[k] = true
      · have HG := hide hd
        rw [hd] at DG
        clear hd
        go_wp2_with (go_at_call 49; refine (unhide DG _).mono ?_; rintro e w' ⟨rfl, rfl⟩)
        exact ⟨⟨k + 1, by omega, by omega, by go_num, (unhide HN).trans (Nb.runE_step (by omega) (unhide HG))⟩, by simp [intOf]; omega⟩
      · have hd' : Nb.digB s[k] = false := by simpa using hd
        obtain rfl : D = k := (unhide HD).symm.trans ((unhide HN).trans (Nb.runE_stop (by omega) hd'))
        clear DG
        have DG : Hid (∀ v, Calls Tryz.prog 49 #[.int .u8 39] v fun e w' => e = .returned (.bool false) ∧ w' = v) := fun v => sDigit 39 v
        clear hd hd' HN
        go_wp2_with (go_at_call 49; refine (unhide DG _).mono ?_; rintro e w' ⟨rfl, rfl⟩)
        refine bodyPost_ret (v := .tuple #[.int .i64 (D + 2 : Nat), .bool false]) ?_ rfl ⟨rfl, rfl⟩
        first | (simp [results, Tryz.results48, go_sem]; done) | (simp [results, Tryz.results48, go_sem]; omega) | (simp [results, Tryz.results48, go_sem]; constructor <;> omega)
    · have hke := (unhide HD).symm.trans ((unhide HN).trans (Nb.runE_end (by omega)))
      omega
set_option maxRecDepth 100000 in
set_option maxHeartbeats 400000 in
theorem sNum2b (s : ByteArray) (a D : Nat) (w : World) (hs : s.size ≤ 1000000) (ha : a ≤ s.size) (hD : Nb.runE Nb.digB (L s) a = D) (h1 : D ≠ a) (h2 : D + 1 + 1 < s.size) (h39 : s[D]'(by omega) = 39) (h115 : s[D + 1]'(by omega) = 115) (hb : Nb.baseB s[D + 1 + 1] = false) :
    Calls Tryz.prog 48 #[.string s, .int .i64 a] w fun e w' => e = .returned (.tuple #[.int .i64 (D + 2 : Nat), .bool false]) ∧ w' = w := by
  have hl : (L s).length = s.size := L_len s
  have q1 : ((D : Int) == (a : Int)) = false := by rw [beq_eq_false_iff_ne]; omega
  have q2 : ((D : Int) == (s.size : Int)) = false := by rw [beq_eq_false_iff_ne]; omega
  have q4 : (((D : Int) + 1) == (s.size : Int)) = false := by rw [beq_eq_false_iff_ne]; omega
  have q5 : (D : Int) + 1 < s.size := by omega
  have q6 : (((D : Int) + 1 + 1) == (s.size : Int)) = false := by rw [beq_eq_false_iff_ne]; omega
  have BS := hide (fun v => sBase (s[D + 1 + 1]'h2) v)
  rw [hb] at BS
  clear hb
  have HD := hide hD
  clear hD
  go_enter Tryz.func48, Tryz.ntmps48
  go_wp2
  go_loop [6] (fun i => ∃ k : Nat, a ≤ k ∧ k ≤ s.size ∧ i = .int .i64 k ∧ Nb.runE Nb.digB (L s) a = Nb.runE Nb.digB (L s) k) (fun i => s.size - (intOf i).toNat)
  case atStart => exact ⟨a, Nat.le_refl _, ha, rfl, rfl⟩
  case round =>
    obtain ⟨k, hk1, hk2, rfl, hrun⟩ := hrel
    have HN := hide hrun
    clear hrun
    by_cases hks : k < s.size
    · have DG := hide (fun v => sDigit s[k] v)
      by_cases hd : Nb.digB s[k] = true
      · have HG := hide hd
        rw [hd] at DG
        clear hd
        go_wp2_with (go_at_call 49; refine (unhide DG _).mono ?_; rintro e w' ⟨rfl, rfl⟩)
        exact ⟨⟨k + 1, by omega, by omega, by go_num, (unhide HN).trans (Nb.runE_step (by omega) (unhide HG))⟩, by simp [intOf]; omega⟩
      · have hd' : Nb.digB s[k] = false := by simpa using hd
        obtain rfl : D = k := (unhide HD).symm.trans ((unhide HN).trans (Nb.runE_stop (by omega) hd'))
        clear DG
        have DG : Hid (∀ v, Calls Tryz.prog 49 #[.int .u8 39] v fun e w' => e = .returned (.bool false) ∧ w' = v) := fun v => sDigit 39 v
        clear hd hd' HN
        go_wp2_with (first | (go_at_call 49; refine (unhide DG _).mono ?_; rintro e w' ⟨rfl, rfl⟩) | (go_at_call 65; refine (unhide BS _).mono ?_; rintro e w' ⟨rfl, rfl⟩))
        refine bodyPost_ret (v := .tuple #[.int .i64 (D + 2 : Nat), .bool false]) ?_ rfl ⟨rfl, rfl⟩
        first | (simp [results, Tryz.results48, go_sem]; done) | (simp [results, Tryz.results48, go_sem]; omega) | (simp [results, Tryz.results48, go_sem]; constructor <;> omega)
    · have hke := (unhide HD).symm.trans ((unhide HN).trans (Nb.runE_end (by omega)))
      omega
set_option maxRecDepth 100000 in
set_option maxHeartbeats 400000 in
theorem sNum3 (s : ByteArray) (a D E : Nat) (w : World) (hs : s.size ≤ 1000000) (ha : a ≤ s.size) (hD : Nb.runE Nb.digB (L s) a = D) (h1 : D ≠ a) (h2 : D + 1 + 1 < s.size) (h39 : s[D]'(by omega) = 39) (h115 : s[D + 1]'(by omega) = 115) (hb : Nb.baseB s[D + 1 + 1] = true) (hE : Nb.runE Nb.valB (L s) (D + 3) = E) :
    Calls Tryz.prog 48 #[.string s, .int .i64 a] w fun e w' => e = .returned (.tuple #[.int .i64 (E : Nat), .bool (decide (D + 3 < E))]) ∧ w' = w := by
  have hl : (L s).length = s.size := L_len s
  have q1 : ((D : Int) == (a : Int)) = false := by rw [beq_eq_false_iff_ne]; omega
  have q2 : ((D : Int) == (s.size : Int)) = false := by rw [beq_eq_false_iff_ne]; omega
  have q4 : (((D : Int) + 1) == (s.size : Int)) = false := by rw [beq_eq_false_iff_ne]; omega
  have q5 : (D : Int) + 1 < s.size := by omega
  have q6 : (((D : Int) + 1 + 1) == (s.size : Int)) = false := by rw [beq_eq_false_iff_ne]; omega
  have BS := hide (fun v => sBase (s[D + 1 + 1]'h2) v)
  rw [hb] at BS
  clear hb
  have HE := hide hE
  clear hE
  have HD := hide hD
  clear hD
  go_enter Tryz.func48, Tryz.ntmps48
  go_wp2
  go_loop [6] (fun i => ∃ k : Nat, a ≤ k ∧ k ≤ s.size ∧ i = .int .i64 k ∧ Nb.runE Nb.digB (L s) a = Nb.runE Nb.digB (L s) k) (fun i => s.size - (intOf i).toNat)
  case atStart => exact ⟨a, Nat.le_refl _, ha, rfl, rfl⟩
  case round =>
    obtain ⟨k, hk1, hk2, rfl, hrun⟩ := hrel
    have HN := hide hrun
    clear hrun
    by_cases hks : k < s.size
    · have DG := hide (fun v => sDigit s[k] v)
      by_cases hd : Nb.digB s[k] = true
      · have HG := hide hd
        rw [hd] at DG
        clear hd
        go_wp2_with (go_at_call 49; refine (unhide DG _).mono ?_; rintro e w' ⟨rfl, rfl⟩)
        exact ⟨⟨k + 1, by omega, by omega, by go_num, (unhide HN).trans (Nb.runE_step (by omega) (unhide HG))⟩, by simp [intOf]; omega⟩
      · have hd' : Nb.digB s[k] = false := by simpa using hd
        obtain rfl : D = k := (unhide HD).symm.trans ((unhide HN).trans (Nb.runE_stop (by omega) hd'))
        clear DG
        have DG : Hid (∀ v, Calls Tryz.prog 49 #[.int .u8 39] v fun e w' => e = .returned (.bool false) ∧ w' = v) := fun v => sDigit 39 v
        clear hd hd' HN
        go_wp2_with (first | (go_at_call 49; refine (unhide DG _).mono ?_; rintro e w' ⟨rfl, rfl⟩) | (go_at_call 65; refine (unhide BS _).mono ?_; rintro e w' ⟨rfl, rfl⟩))
        go_loop [6] (fun i => ∃ m : Nat, D + 3 ≤ m ∧ m ≤ s.size ∧ i = .int .i64 m ∧ Nb.runE Nb.valB (L s) (D + 3) = Nb.runE Nb.valB (L s) m) (fun i => s.size - (intOf i).toNat)
        case atStart => exact ⟨D + 3, Nat.le_refl _, by omega, by go_num, rfl⟩
        case round =>
          obtain ⟨m, hm1, hm2, rfl, hrun⟩ := hrel
          have HN2 := hide hrun
          clear hrun
          by_cases hms : m < s.size
          · have VL := hide (fun v => sValue s[m] v)
            by_cases hv : Nb.valB s[m] = true
            · have HV := hide hv
              rw [hv] at VL
              clear hv
              go_wp2_with (go_at_call 66; refine (unhide VL _).mono ?_; rintro e w' ⟨rfl, rfl⟩)
              exact ⟨⟨m + 1, by omega, by omega, by go_num, (unhide HN2).trans (Nb.runE_step (by omega) (unhide HV))⟩, by simp [intOf]; omega⟩
            · have hv' : Nb.valB s[m] = false := by simpa using hv
              rw [hv'] at VL
              obtain rfl : E = m := (unhide HE).symm.trans ((unhide HN2).trans (Nb.runE_stop (by omega) hv'))
              clear hv hv' HN2
              go_wp2_with (go_at_call 66; refine (unhide VL _).mono ?_; rintro e w' ⟨rfl, rfl⟩)
              refine bodyPost_ret (v := .tuple #[.int .i64 (E : Nat), .bool (decide (D + 3 < E))]) ?_ rfl ⟨rfl, rfl⟩
              first | (simp [results, Tryz.results48, go_sem]; done) | (simp [results, Tryz.results48, go_sem]; omega) | (simp [results, Tryz.results48, go_sem]; constructor <;> omega)
          · obtain rfl : E = m := (unhide HE).symm.trans ((unhide HN2).trans (Nb.runE_end (by omega)))
            clear HN2
            go_wp2
            refine bodyPost_ret (v := .tuple #[.int .i64 (E : Nat), .bool (decide (D + 3 < E))]) ?_ rfl ⟨rfl, rfl⟩
            first | (simp [results, Tryz.results48, go_sem]; done) | (simp [results, Tryz.results48, go_sem]; omega) | (simp [results, Tryz.results48, go_sem]; constructor <;> omega)
    · have hke := (unhide HD).symm.trans ((unhide HN).trans (Nb.runE_end (by omega)))
      omega
theorem sNumber (s : ByteArray) (a : Nat) (w : World) (hs : s.size ≤ 1000000) (ha : a ≤ s.size) :
    Calls Tryz.prog 48 #[.string s, .int .i64 a] w fun e w' => e = .returned (.tuple #[.int .i64 (Nb.numE (L s) a).1, .bool (Nb.numE (L s) a).2]) ∧ w' = w := by
  have hl : (L s).length = s.size := L_len s
  obtain ⟨D, hD⟩ : ∃ D, Nb.runE Nb.digB (L s) a = D := ⟨_, rfl⟩
  have hle : D ≤ (L s).length := by rw [← hD]; exact Nb.runE_le (by omega)
  by_cases c1 : D = a
  · rw [numE_1 hD (.inl c1)]; exact sNum1a s a D w hs ha hD c1
  by_cases c2 : D = s.size
  · rw [numE_1 hD (.inr (.inl (by omega)))]; exact sNum1b s a D w hs ha hD c1 c2
  have h0 : D < s.size := by omega
  by_cases c3 : s[D] = 39
  · have n1 : ¬ (D = a ∨ D = (L s).length ∨ (L s).getD D 0 ≠ 39) := by
      rw [← gD s D h0, c3]; simp; omega
    by_cases c4 : D + 1 < s.size
    · by_cases c5 : s[D + 1] = 115
      · have n2 : (L s).getD (D + 1) 0 = 115 := by rw [← gD s _ c4]; exact c5
        by_cases c6 : D + 1 + 1 < s.size
        · have e2 : (L s).getD (D + 2) 0 = s[D + 1 + 1] := (gD s _ c6).symm
          cases hb : Nb.baseB s[D + 1 + 1]
          · rw [numE_2 hD n1 n2 (.inr (by rw [e2]; exact hb))]; exact sNum2b s a D w hs ha hD c1 c6 c3 c5 hb
          · rw [numE_3 hD n1 n2 (by rw [e2, hb]; simp; omega)]; exact sNum3 s a D _ w hs ha hD c1 c6 c3 c5 hb rfl
        · rw [numE_2 hD n1 n2 (.inl (by omega))]; exact sNum2a s a D w hs ha hD c1 c4 (by omega) c3 c5
      · have n2 : ¬ (L s).getD (D + 1) 0 = 115 := by rw [← gD s _ c4]; exact c5
        have e2 : (L s).getD (D + 1) 0 = s[D + 1] := (gD s _ c4).symm
        cases hb : Nb.baseB s[D + 1]
        · rw [numE_4 hD n1 n2 (.inr (by rw [e2]; exact hb))]; exact sNum4b s a D w hs ha hD c1 c4 c3 c5 hb
        · rw [numE_5 hD n1 n2 (by rw [e2, hb]; simp; omega)]; exact sNum5 s a D _ w hs ha hD c1 c4 c3 c5 hb rfl
    · have n2 : ¬ (L s).getD (D + 1) 0 = 115 := by
        rw [List.getD_eq_getElem?_getD, List.getElem?_eq_none (by omega)]; decide
      rw [numE_4 hD n1 n2 (.inl (by omega))]; exact sNum4a s a D w hs ha hD c1 h0 (by omega) c3
  · rw [numE_1 hD (.inr (.inr (by rw [← gD s D h0]; exact c3)))]; exact sNum1c s a D w hs ha hD c1 h0 c3
end Go.Proofs.YtlcpmbdckmdabaaGreatDoor
