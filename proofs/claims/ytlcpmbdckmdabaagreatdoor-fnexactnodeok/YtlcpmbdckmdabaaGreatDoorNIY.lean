/- What the program's runSize and numberSize answer. What the program's numberSize answers. -/
import Derived.Test.YtlcpmbdckmdabaaGreatDoorShelf
import Derived.Test.YtlcpmbdckmdabaaGreatDoorNS9
namespace Go.Proofs.YtlcpmbdckmdabaaGreatDoor
open Go.RowKit
set_option maxRecDepth 100000
theorem runI (p : UInt8 → Bool) (l cs : List UInt8) (h : ∀ c, cs.contains c = p c) : l.length - (Lib.trimLeftS l cs).length = Nb.runE p l 0 := by
  unfold Lib.trimLeftS Nb.runE
  rw [List.drop_zero, Nat.zero_add]
  have e : (fun c => cs.contains c) = p := funext h
  rw [e]
  induction l with
  | nil => rfl
  | cons c t ih =>
    rw [List.dropWhile_cons, List.takeWhile_cons]
    split
    · have := List.dropWhile_suffix (p := p) (l := t) |>.length_le
      rw [List.length_cons, List.length_cons]; omega
    · simp
theorem dig_set (c : UInt8) : ([48, 49, 50, 51, 52, 53, 54, 55, 56, 57] : List UInt8).contains c = Nb.digB c := by
  have h : ∀ n : Fin 256, ([48, 49, 50, 51, 52, 53, 54, 55, 56, 57] : List UInt8).contains (UInt8.ofFin n) = Nb.digB (UInt8.ofFin n) := by decide +kernel
  exact h c.toFin
theorem val_set (c : UInt8) : ([48, 49, 50, 51, 52, 53, 54, 55, 56, 57, 97, 98, 99, 100, 101, 102, 120, 122] : List UInt8).contains c = Nb.valB c := by
  have h : ∀ n : Fin 256, ([48, 49, 50, 51, 52, 53, 54, 55, 56, 57, 97, 98, 99, 100, 101, 102, 120, 122] : List UInt8).contains (UInt8.ofFin n) = Nb.valB (UInt8.ofFin n) := by decide +kernel
  exact h c.toFin
theorem iTrimL (s cs : ByteArray) (w : World) (hc : cs.size < 4294967281) (ha : (L cs).all (fun b => decide (b.toNat < 128)) = true) :
    Calls Tryz.prog 70 #[.string s, .string cs] w fun e w' => e = .returned (.string (S (Lib.trimLeftS (L s) (L cs)))) ∧ Below w.heap.size w w' :=
  Any.strings_TrimLeft_laid Tryz.lays161 (by kernel_rfl) s cs w hc (ascii_of_all ha)
theorem iRun (p : UInt8 → Bool) (s cs : ByteArray) (w : World) (hs : s.size ≤ maxLen) (hc : cs.size < 4294967281) (ha : (L cs).all (fun b => decide (b.toNat < 128)) = true) (hp : ∀ c, (L cs).contains c = p c) :
    Calls Tryz.prog 56 #[.string s, .string cs] w fun e w' => e = .returned (.int .i64 (Nb.runE p (L s) 0 : Nat)) ∧ Below w.heap.size w w' := by
  have TL := hide (fun v => iTrimL s cs v hc ha)
  have e := runI p (L s) (L cs) hp
  have hle : (Lib.trimLeftS (L s) (L cs)).length ≤ (L s).length := (List.dropWhile_suffix _).length_le
  rw [L_len] at e hle
  have zT : (S (Lib.trimLeftS (L s) (L cs))).size = (Lib.trimLeftS (L s) (L cs)).length := S_size _
  generalize Lib.trimLeftS (L s) (L cs) = t at *
  generalize Nb.runE p (L s) 0 = r at *
  unfold maxLen at hs
  go_enter Tryz.func56, Tryz.ntmps56
  go_wp2_with (go_at_call 70; refine (unhide TL _).mono ?_; rintro e v2 ⟨rfl, hb2⟩)
  go_ret
  exact ⟨by simp [go_sem]; omega, hb2⟩
end Go.Proofs.YtlcpmbdckmdabaaGreatDoor
namespace Go.Proofs.YtlcpmbdckmdabaaGreatDoor
open Go.RowKit
set_option maxRecDepth 100000
set_option linter.unusedVariables false
theorem base_set (c : UInt8) : decide (0 ≤ Lib.indexByte ([98, 111, 104, 100] : List UInt8) c) = Nb.baseB c := by
  have h : ∀ n : Fin 256, decide (0 ≤ Lib.indexByte ([98, 111, 104, 100] : List UInt8) (UInt8.ofFin n)) = Nb.baseB (UInt8.ofFin n) := by decide +kernel
  exact h c.toFin
theorem iHas (c : UInt8) (w : World) : Calls Tryz.prog 57 #[.string ⟨#[98, 111, 104, 100]⟩, .string (S [c])] w fun e w' => e = .returned (.bool (Nb.baseB c)) ∧ w = w' := by
  have := Tryz.strings_Contains_one ⟨#[98, 111, 104, 100]⟩ c w
  rw [← base_set c]
  exact this.mono fun e w' ⟨a, b⟩ => ⟨a, b.symm⟩
theorem ext_one (s : ByteArray) (i : Nat) (h : i < s.size) : s.extract i (i + 1) = S [s[i]] := by
  apply L_inj
  rw [L_extract, L_S, L_drop s i h, Nat.add_sub_cancel_left]; rfl
set_option maxRecDepth 100000 in
set_option maxHeartbeats 400000 in
theorem iNum1a (s : ByteArray) (D : Nat) (w : World) (hs : s.size ≤ 1000000) (hD : Nb.runE Nb.digB (L s) 0 = D) (h1 : D = 0) :
    Calls Tryz.prog 39 #[.string s] w fun e w' => e = .returned (.int .i64 (D : Nat)) ∧ Below w.heap.size w w' := by
  have R1 := hide (fun v => iRun Nb.digB s ⟨#[48, 49, 50, 51, 52, 53, 54, 55, 56, 57]⟩ v (by unfold maxLen; omega) (by decide) (by decide) dig_set)
  rw [hD] at R1
  have q1 : ((D : Int) == 0) = true := by rw [beq_iff_eq]; omega
  have g1 : D ≤ 0 := by omega
  clear h1
  clear hD
  go_enter Tryz.func39, Tryz.ntmps39
  go_wp2_with (first | (go_at_call 56; refine (unhide R1 _).mono ?_; rintro e v1 ⟨rfl, hb1⟩))
  go_ret
  exact ⟨by first | rfl | (simp [go_sem]; done) | (simp [go_sem]; omega), hb1⟩
set_option maxRecDepth 100000 in
set_option maxHeartbeats 400000 in
theorem iNum1b (s : ByteArray) (D : Nat) (w : World) (hs : s.size ≤ 1000000) (hD : Nb.runE Nb.digB (L s) 0 = D) (h1 : D ≠ 0) (h2 : D = s.size) :
    Calls Tryz.prog 39 #[.string s] w fun e w' => e = .returned (.int .i64 (D : Nat)) ∧ Below w.heap.size w w' := by
  have R1 := hide (fun v => iRun Nb.digB s ⟨#[48, 49, 50, 51, 52, 53, 54, 55, 56, 57]⟩ v (by unfold maxLen; omega) (by decide) (by decide) dig_set)
  rw [hD] at R1
  have q1 : ((D : Int) == 0) = false := by rw [beq_eq_false_iff_ne]; omega
  have q2 : ((D : Int) == (s.size : Int)) = true := by rw [beq_iff_eq]; omega
  clear h2
  clear hD
  go_enter Tryz.func39, Tryz.ntmps39
  go_wp2_with (first | (go_at_call 56; refine (unhide R1 _).mono ?_; rintro e v1 ⟨rfl, hb1⟩))
  go_ret
  exact ⟨by first | rfl | (simp [go_sem]; done) | (simp [go_sem]; omega), hb1⟩
set_option maxRecDepth 100000 in
set_option maxHeartbeats 400000 in
theorem iNum1c (s : ByteArray) (D : Nat) (w : World) (hs : s.size ≤ 1000000) (hD : Nb.runE Nb.digB (L s) 0 = D) (h1 : D ≠ 0) (h2 : D < s.size) (h39 : s[D] ≠ 39) :
    Calls Tryz.prog 39 #[.string s] w fun e w' => e = .returned (.int .i64 (D : Nat)) ∧ Below w.heap.size w w' := by
  have R1 := hide (fun v => iRun Nb.digB s ⟨#[48, 49, 50, 51, 52, 53, 54, 55, 56, 57]⟩ v (by unfold maxLen; omega) (by decide) (by decide) dig_set)
  rw [hD] at R1
  have q1 : ((D : Int) == 0) = false := by rw [beq_eq_false_iff_ne]; omega
  have q2 : ((D : Int) == (s.size : Int)) = false := by rw [beq_eq_false_iff_ne]; omega
  have q3 : ((s[D].toNat : Int) != 39) = true := by rw [bne_iff_ne]; exact (beq_eq_false_iff_ne.1 (u8x h39))
  clear h39
  clear hD
  go_enter Tryz.func39, Tryz.ntmps39
  go_wp2_with (first | (go_at_call 56; refine (unhide R1 _).mono ?_; rintro e v1 ⟨rfl, hb1⟩))
  go_ret
  exact ⟨by first | rfl | (simp [go_sem]; done) | (simp [go_sem]; omega), hb1⟩
set_option maxRecDepth 100000 in
set_option maxHeartbeats 400000 in
theorem iNum4a (s : ByteArray) (D : Nat) (w : World) (hs : s.size ≤ 1000000) (hD : Nb.runE Nb.digB (L s) 0 = D) (h1 : D ≠ 0) (h2 : D < s.size) (h2b : s.size ≤ D + 1) (h39 : s[D] = 39) :
    Calls Tryz.prog 39 #[.string s] w fun e w' => e = .returned (.int .i64 (0 : Nat)) ∧ Below w.heap.size w w' := by
  have R1 := hide (fun v => iRun Nb.digB s ⟨#[48, 49, 50, 51, 52, 53, 54, 55, 56, 57]⟩ v (by unfold maxLen; omega) (by decide) (by decide) dig_set)
  rw [hD] at R1
  have q1 : ((D : Int) == 0) = false := by rw [beq_eq_false_iff_ne]; omega
  have q2 : ((D : Int) == (s.size : Int)) = false := by rw [beq_eq_false_iff_ne]; omega
  have q4 : (((D : Int) + 1) == (s.size : Int)) = true := by rw [beq_iff_eq]; omega
  have q5 : ¬ (D : Int) + 1 < s.size := by omega
  clear hD
  go_enter Tryz.func39, Tryz.ntmps39
  go_wp2_with (first | (go_at_call 56; refine (unhide R1 _).mono ?_; rintro e v1 ⟨rfl, hb1⟩))
  go_ret
  exact ⟨by first | rfl | (simp [go_sem]; done) | (simp [go_sem]; omega), hb1⟩
set_option maxRecDepth 100000 in
set_option maxHeartbeats 400000 in
theorem iNum4b (s : ByteArray) (D : Nat) (w : World) (hs : s.size ≤ 1000000) (hD : Nb.runE Nb.digB (L s) 0 = D) (h1 : D ≠ 0) (h2 : D + 1 < s.size) (h39 : s[D]'(Nat.lt_of_succ_lt h2) = 39) (h115 : s[D + 1] ≠ 115) (hb : Nb.baseB s[D + 1] = false) :
    Calls Tryz.prog 39 #[.string s] w fun e w' => e = .returned (.int .i64 (0 : Nat)) ∧ Below w.heap.size w w' := by
  have R1 := hide (fun v => iRun Nb.digB s ⟨#[48, 49, 50, 51, 52, 53, 54, 55, 56, 57]⟩ v (by unfold maxLen; omega) (by decide) (by decide) dig_set)
  rw [hD] at R1
  have q1 : ((D : Int) == 0) = false := by rw [beq_eq_false_iff_ne]; omega
  have q2 : ((D : Int) == (s.size : Int)) = false := by rw [beq_eq_false_iff_ne]; omega
  have q4 : (((D : Int) + 1) == (s.size : Int)) = false := by rw [beq_eq_false_iff_ne]; omega
  have q5 : (D : Int) + 1 < s.size := by omega
  have q3 : ((s[D + 1].toNat : Int) == 115) = false := u8x h115
  clear h115
  have x1 : s.extract (D + 1) (D + 1 + 1) = S [s[D + 1]] := ext_one s (D + 1) h2
  have HC := hide (fun v => iHas (s[D + 1]'h2) v)
  rw [hb] at HC
  clear hb
  generalize S [s[D + 1]] = T1 at *
  clear hD
  go_enter Tryz.func39, Tryz.ntmps39
  go_wp2_with (first | (go_at_call 56; refine (unhide R1 _).mono ?_; rintro e v1 ⟨rfl, hb1⟩) | (go_at_call 57; refine (unhide HC _).mono ?_; rintro e w' ⟨rfl, rfl⟩))
  go_ret
  exact ⟨by first | rfl | (simp [go_sem]; done) | (simp [go_sem]; omega), hb1⟩
set_option maxRecDepth 100000 in
set_option maxHeartbeats 400000 in
theorem iNum5z (s : ByteArray) (D E : Nat) (w : World) (hs : s.size ≤ 1000000) (hD : Nb.runE Nb.digB (L s) 0 = D) (h1 : D ≠ 0) (h2 : D + 1 < s.size) (h39 : s[D]'(Nat.lt_of_succ_lt h2) = 39) (h115 : s[D + 1] ≠ 115) (hb : Nb.baseB s[D + 1] = true) (hE : Nb.runE Nb.valB ((L s).drop (D + 1 + 1)) 0 = E) (hE2 : E ≤ 1000000) (hz : E = 0) :
    Calls Tryz.prog 39 #[.string s] w fun e w' => e = .returned (.int .i64 (0 : Nat)) ∧ Below w.heap.size w w' := by
  have R1 := hide (fun v => iRun Nb.digB s ⟨#[48, 49, 50, 51, 52, 53, 54, 55, 56, 57]⟩ v (by unfold maxLen; omega) (by decide) (by decide) dig_set)
  rw [hD] at R1
  have q1 : ((D : Int) == 0) = false := by rw [beq_eq_false_iff_ne]; omega
  have q2 : ((D : Int) == (s.size : Int)) = false := by rw [beq_eq_false_iff_ne]; omega
  have q4 : (((D : Int) + 1) == (s.size : Int)) = false := by rw [beq_eq_false_iff_ne]; omega
  have q5 : (D : Int) + 1 < s.size := by omega
  have q3 : ((s[D + 1].toNat : Int) == 115) = false := u8x h115
  clear h115
  have x1 : s.extract (D + 1) (D + 1 + 1) = S [s[D + 1]] := ext_one s (D + 1) h2
  have HC := hide (fun v => iHas (s[D + 1]'h2) v)
  rw [hb] at HC
  clear hb
  generalize S [s[D + 1]] = T1 at *
  have x2 : s.extract (D + 1 + 1) s.size = S ((L s).drop (D + 1 + 1)) := by
    apply L_inj; rw [L_extract, L_S, List.take_of_length_le (by rw [List.length_drop, L_len]; exact Nat.le_refl _)]
  have R2 := hide (fun v => iRun Nb.valB (S ((L s).drop (D + 1 + 1))) ⟨#[48, 49, 50, 51, 52, 53, 54, 55, 56, 57, 97, 98, 99, 100, 101, 102, 120, 122]⟩ v (by rw [S_size, List.length_drop, L_len]; unfold maxLen; omega) (by decide) (by decide) val_set)
  rw [L_S, hE] at R2
  clear hE
  generalize S ((L s).drop (D + 1 + 1)) = T at *
  have qz : ((E : Int) == 0) = true := by rw [beq_iff_eq]; omega
  clear hz
  clear hD
  go_enter Tryz.func39, Tryz.ntmps39
  go_wp2_with fail
  refine (unhide R1 _).mono ?_
  rintro e v1 ⟨rfl, hb1⟩
  go_wp2_with (first | (go_at_call 57; refine (unhide HC _).mono ?_; rintro e w' ⟨rfl, rfl⟩) | (go_at_call 56; refine (unhide R2 _).mono ?_; rintro e v2 ⟨rfl, hb2⟩))
  go_ret
  exact ⟨by first | rfl | (simp [go_sem]; done) | (simp [go_sem]; omega), below_nst hb1 hb2⟩
set_option maxRecDepth 100000 in
set_option maxHeartbeats 400000 in
theorem iNum5 (s : ByteArray) (D E : Nat) (w : World) (hs : s.size ≤ 1000000) (hD : Nb.runE Nb.digB (L s) 0 = D) (h1 : D ≠ 0) (h2 : D + 1 < s.size) (h39 : s[D]'(Nat.lt_of_succ_lt h2) = 39) (h115 : s[D + 1] ≠ 115) (hb : Nb.baseB s[D + 1] = true) (hE : Nb.runE Nb.valB ((L s).drop (D + 1 + 1)) 0 = E) (hE2 : E ≤ 1000000) (hz : 1 ≤ E) :
    Calls Tryz.prog 39 #[.string s] w fun e w' => e = .returned (.int .i64 (D + 1 + 1 + E : Nat)) ∧ Below w.heap.size w w' := by
  have R1 := hide (fun v => iRun Nb.digB s ⟨#[48, 49, 50, 51, 52, 53, 54, 55, 56, 57]⟩ v (by unfold maxLen; omega) (by decide) (by decide) dig_set)
  rw [hD] at R1
  have q1 : ((D : Int) == 0) = false := by rw [beq_eq_false_iff_ne]; omega
  have q2 : ((D : Int) == (s.size : Int)) = false := by rw [beq_eq_false_iff_ne]; omega
  have q4 : (((D : Int) + 1) == (s.size : Int)) = false := by rw [beq_eq_false_iff_ne]; omega
  have q5 : (D : Int) + 1 < s.size := by omega
  have q3 : ((s[D + 1].toNat : Int) == 115) = false := u8x h115
  clear h115
  have x1 : s.extract (D + 1) (D + 1 + 1) = S [s[D + 1]] := ext_one s (D + 1) h2
  have HC := hide (fun v => iHas (s[D + 1]'h2) v)
  rw [hb] at HC
  clear hb
  generalize S [s[D + 1]] = T1 at *
  have x2 : s.extract (D + 1 + 1) s.size = S ((L s).drop (D + 1 + 1)) := by
    apply L_inj; rw [L_extract, L_S, List.take_of_length_le (by rw [List.length_drop, L_len]; exact Nat.le_refl _)]
  have R2 := hide (fun v => iRun Nb.valB (S ((L s).drop (D + 1 + 1))) ⟨#[48, 49, 50, 51, 52, 53, 54, 55, 56, 57, 97, 98, 99, 100, 101, 102, 120, 122]⟩ v (by rw [S_size, List.length_drop, L_len]; unfold maxLen; omega) (by decide) (by decide) val_set)
  rw [L_S, hE] at R2
  clear hE
  generalize S ((L s).drop (D + 1 + 1)) = T at *
  have qz : ((E : Int) == 0) = false := by rw [beq_eq_false_iff_ne]; omega
  clear hD
  go_enter Tryz.func39, Tryz.ntmps39
  go_wp2_with fail
  refine (unhide R1 _).mono ?_
  rintro e v1 ⟨rfl, hb1⟩
  go_wp2_with (first | (go_at_call 57; refine (unhide HC _).mono ?_; rintro e w' ⟨rfl, rfl⟩) | (go_at_call 56; refine (unhide R2 _).mono ?_; rintro e v2 ⟨rfl, hb2⟩))
  go_ret
  exact ⟨by first | rfl | (simp [go_sem]; done) | (simp [go_sem]; omega), below_nst hb1 hb2⟩
set_option maxRecDepth 100000 in
set_option maxHeartbeats 400000 in
theorem iNum2b (s : ByteArray) (D : Nat) (w : World) (hs : s.size ≤ 1000000) (hD : Nb.runE Nb.digB (L s) 0 = D) (h1 : D ≠ 0) (h2 : D + 1 < s.size) (h39 : s[D]'(Nat.lt_of_succ_lt h2) = 39) (h115 : s[D + 1] = 115) (h3 : D + 1 + 1 < s.size) (hb : Nb.baseB s[D + 1 + 1] = false) :
    Calls Tryz.prog 39 #[.string s] w fun e w' => e = .returned (.int .i64 (0 : Nat)) ∧ Below w.heap.size w w' := by
  have R1 := hide (fun v => iRun Nb.digB s ⟨#[48, 49, 50, 51, 52, 53, 54, 55, 56, 57]⟩ v (by unfold maxLen; omega) (by decide) (by decide) dig_set)
  rw [hD] at R1
  have q1 : ((D : Int) == 0) = false := by rw [beq_eq_false_iff_ne]; omega
  have q2 : ((D : Int) == (s.size : Int)) = false := by rw [beq_eq_false_iff_ne]; omega
  have q4 : (((D : Int) + 1) == (s.size : Int)) = false := by rw [beq_eq_false_iff_ne]; omega
  have q5 : (D : Int) + 1 < s.size := by omega
  have q6 : (((D : Int) + 1 + 1) == (s.size : Int)) = false := by rw [beq_eq_false_iff_ne]; omega
  have x1 : s.extract (D + 1 + 1) (D + 1 + 1 + 1) = S [s[D + 1 + 1]] := ext_one s (D + 1 + 1) h3
  have HC := hide (fun v => iHas (s[D + 1 + 1]'h3) v)
  rw [hb] at HC
  clear hb
  generalize S [s[D + 1 + 1]] = T1 at *
  clear hD
  go_enter Tryz.func39, Tryz.ntmps39
  go_wp2_with (first | (go_at_call 56; refine (unhide R1 _).mono ?_; rintro e v1 ⟨rfl, hb1⟩) | (go_at_call 57; refine (unhide HC _).mono ?_; rintro e w' ⟨rfl, rfl⟩))
  go_ret
  exact ⟨by first | rfl | (simp [go_sem]; done) | (simp [go_sem]; omega), hb1⟩
set_option maxRecDepth 100000 in
set_option maxHeartbeats 400000 in
theorem iNum3z (s : ByteArray) (D E : Nat) (w : World) (hs : s.size ≤ 1000000) (hD : Nb.runE Nb.digB (L s) 0 = D) (h1 : D ≠ 0) (h2 : D + 1 < s.size) (h39 : s[D]'(Nat.lt_of_succ_lt h2) = 39) (h115 : s[D + 1] = 115) (h3 : D + 1 + 1 < s.size) (hb : Nb.baseB s[D + 1 + 1] = true) (hE : Nb.runE Nb.valB ((L s).drop (D + 1 + 1 + 1)) 0 = E) (hE2 : E ≤ 1000000) (hz : E = 0) :
    Calls Tryz.prog 39 #[.string s] w fun e w' => e = .returned (.int .i64 (0 : Nat)) ∧ Below w.heap.size w w' := by
  have R1 := hide (fun v => iRun Nb.digB s ⟨#[48, 49, 50, 51, 52, 53, 54, 55, 56, 57]⟩ v (by unfold maxLen; omega) (by decide) (by decide) dig_set)
  rw [hD] at R1
  have q1 : ((D : Int) == 0) = false := by rw [beq_eq_false_iff_ne]; omega
  have q2 : ((D : Int) == (s.size : Int)) = false := by rw [beq_eq_false_iff_ne]; omega
  have q4 : (((D : Int) + 1) == (s.size : Int)) = false := by rw [beq_eq_false_iff_ne]; omega
  have q5 : (D : Int) + 1 < s.size := by omega
  have q6 : (((D : Int) + 1 + 1) == (s.size : Int)) = false := by rw [beq_eq_false_iff_ne]; omega
  have x1 : s.extract (D + 1 + 1) (D + 1 + 1 + 1) = S [s[D + 1 + 1]] := ext_one s (D + 1 + 1) h3
  have HC := hide (fun v => iHas (s[D + 1 + 1]'h3) v)
  rw [hb] at HC
  clear hb
  generalize S [s[D + 1 + 1]] = T1 at *
  have x2 : s.extract (D + 1 + 1 + 1) s.size = S ((L s).drop (D + 1 + 1 + 1)) := by
    apply L_inj; rw [L_extract, L_S, List.take_of_length_le (by rw [List.length_drop, L_len]; exact Nat.le_refl _)]
  have R2 := hide (fun v => iRun Nb.valB (S ((L s).drop (D + 1 + 1 + 1))) ⟨#[48, 49, 50, 51, 52, 53, 54, 55, 56, 57, 97, 98, 99, 100, 101, 102, 120, 122]⟩ v (by rw [S_size, List.length_drop, L_len]; unfold maxLen; omega) (by decide) (by decide) val_set)
  rw [L_S, hE] at R2
  clear hE
  generalize S ((L s).drop (D + 1 + 1 + 1)) = T at *
  have qz : ((E : Int) == 0) = true := by rw [beq_iff_eq]; omega
  clear hz
  clear hD
  go_enter Tryz.func39, Tryz.ntmps39
  go_wp2_with fail
  refine (unhide R1 _).mono ?_
  rintro e v1 ⟨rfl, hb1⟩
  go_wp2_with (first | (go_at_call 57; refine (unhide HC _).mono ?_; rintro e w' ⟨rfl, rfl⟩) | (go_at_call 56; refine (unhide R2 _).mono ?_; rintro e v2 ⟨rfl, hb2⟩))
  go_ret
  exact ⟨by first | rfl | (simp [go_sem]; done) | (simp [go_sem]; omega), below_nst hb1 hb2⟩
set_option maxRecDepth 100000 in
set_option maxHeartbeats 400000 in
theorem iNum3 (s : ByteArray) (D E : Nat) (w : World) (hs : s.size ≤ 1000000) (hD : Nb.runE Nb.digB (L s) 0 = D) (h1 : D ≠ 0) (h2 : D + 1 < s.size) (h39 : s[D]'(Nat.lt_of_succ_lt h2) = 39) (h115 : s[D + 1] = 115) (h3 : D + 1 + 1 < s.size) (hb : Nb.baseB s[D + 1 + 1] = true) (hE : Nb.runE Nb.valB ((L s).drop (D + 1 + 1 + 1)) 0 = E) (hE2 : E ≤ 1000000) (hz : 1 ≤ E) :
    Calls Tryz.prog 39 #[.string s] w fun e w' => e = .returned (.int .i64 (D + 1 + 1 + 1 + E : Nat)) ∧ Below w.heap.size w w' := by
  have R1 := hide (fun v => iRun Nb.digB s ⟨#[48, 49, 50, 51, 52, 53, 54, 55, 56, 57]⟩ v (by unfold maxLen; omega) (by decide) (by decide) dig_set)
  rw [hD] at R1
  have q1 : ((D : Int) == 0) = false := by rw [beq_eq_false_iff_ne]; omega
  have q2 : ((D : Int) == (s.size : Int)) = false := by rw [beq_eq_false_iff_ne]; omega
  have q4 : (((D : Int) + 1) == (s.size : Int)) = false := by rw [beq_eq_false_iff_ne]; omega
  have q5 : (D : Int) + 1 < s.size := by omega
  have q6 : (((D : Int) + 1 + 1) == (s.size : Int)) = false := by rw [beq_eq_false_iff_ne]; omega
  have x1 : s.extract (D + 1 + 1) (D + 1 + 1 + 1) = S [s[D + 1 + 1]] := ext_one s (D + 1 + 1) h3
  have HC := hide (fun v => iHas (s[D + 1 + 1]'h3) v)
  rw [hb] at HC
  clear hb
  generalize S [s[D + 1 + 1]] = T1 at *
  have x2 : s.extract (D + 1 + 1 + 1) s.size = S ((L s).drop (D + 1 + 1 + 1)) := by
    apply L_inj; rw [L_extract, L_S, List.take_of_length_le (by rw [List.length_drop, L_len]; exact Nat.le_refl _)]
  have R2 := hide (fun v => iRun Nb.valB (S ((L s).drop (D + 1 + 1 + 1))) ⟨#[48, 49, 50, 51, 52, 53, 54, 55, 56, 57, 97, 98, 99, 100, 101, 102, 120, 122]⟩ v (by rw [S_size, List.length_drop, L_len]; unfold maxLen; omega) (by decide) (by decide) val_set)
  rw [L_S, hE] at R2
  clear hE
  generalize S ((L s).drop (D + 1 + 1 + 1)) = T at *
  have qz : ((E : Int) == 0) = false := by rw [beq_eq_false_iff_ne]; omega
  clear hD
  go_enter Tryz.func39, Tryz.ntmps39
  go_wp2_with fail
  refine (unhide R1 _).mono ?_
  rintro e v1 ⟨rfl, hb1⟩
  go_wp2_with (first | (go_at_call 57; refine (unhide HC _).mono ?_; rintro e w' ⟨rfl, rfl⟩) | (go_at_call 56; refine (unhide R2 _).mono ?_; rintro e v2 ⟨rfl, hb2⟩))
  go_ret
  exact ⟨by first | rfl | (simp [go_sem]; done) | (simp [go_sem]; omega), below_nst hb1 hb2⟩
set_option maxRecDepth 100000 in
set_option maxHeartbeats 400000 in
theorem iNum2a (s : ByteArray) (D : Nat) (w : World) (hs : s.size ≤ 1000000) (hD : Nb.runE Nb.digB (L s) 0 = D) (h1 : D ≠ 0) (h2 : D + 1 < s.size) (h39 : s[D]'(Nat.lt_of_succ_lt h2) = 39) (h115 : s[D + 1] = 115) (h2b : s.size ≤ D + 1 + 1) :
    Calls Tryz.prog 39 #[.string s] w fun e w' => e = .returned (.int .i64 (0 : Nat)) ∧ Below w.heap.size w w' := by
  have R1 := hide (fun v => iRun Nb.digB s ⟨#[48, 49, 50, 51, 52, 53, 54, 55, 56, 57]⟩ v (by unfold maxLen; omega) (by decide) (by decide) dig_set)
  rw [hD] at R1
  have q1 : ((D : Int) == 0) = false := by rw [beq_eq_false_iff_ne]; omega
  have q2 : ((D : Int) == (s.size : Int)) = false := by rw [beq_eq_false_iff_ne]; omega
  have q4 : (((D : Int) + 1) == (s.size : Int)) = false := by rw [beq_eq_false_iff_ne]; omega
  have q5 : (D : Int) + 1 < s.size := by omega
  have q6 : (((D : Int) + 1 + 1) == (s.size : Int)) = true := by rw [beq_iff_eq]; omega
  clear hD
  go_enter Tryz.func39, Tryz.ntmps39
  go_wp2_with (first | (go_at_call 56; refine (unhide R1 _).mono ?_; rintro e v1 ⟨rfl, hb1⟩))
  go_ret
  exact ⟨by first | rfl | (simp [go_sem]; done) | (simp [go_sem]; omega), hb1⟩
theorem iNumSize (s : ByteArray) (w : World) (hs : s.size ≤ 1000000) :
    Calls Tryz.prog 39 #[.string s] w fun e w' => e = .returned (.int .i64 (Nb.numZ (L s) : Nat)) ∧ Below w.heap.size w w' := by
  have hl : (L s).length = s.size := L_len s
  obtain ⟨D, hD⟩ : ∃ D, Nb.runE Nb.digB (L s) 0 = D := ⟨_, rfl⟩
  have hle : D ≤ (L s).length := by rw [← hD]; exact Nb.runE_le (by omega)
  have z1 : ∀ {k : Nat}, Nb.numE (L s) 0 = (k, false) → Nb.numZ (L s) = 0 := fun h => by unfold Nb.numZ; rw [h]; rfl
  have z2 : ∀ {k : Nat}, Nb.numE (L s) 0 = (k, decide (0 < k)) → Nb.numZ (L s) = k := fun {k} h => by
    unfold Nb.numZ; rw [h]
    by_cases hk : 0 < k
    · simp [hk]
    · simp [hk]; omega
  have z3 : ∀ {P E : Nat}, P ≤ (L s).length → Nb.runE Nb.valB ((L s).drop P) 0 = E → Nb.runE Nb.valB (L s) P = P + E := fun {P E} _ h => by
    have := Nb.runE_drop Nb.valB (L s) P 0
    rw [h, Nat.add_zero] at this; omega
  have z4 : ∀ P, Nb.runE Nb.valB ((L s).drop P) 0 ≤ 1000000 := fun P => by
    have := Nb.runE_le (p := Nb.valB) (l := (L s).drop P) (i := 0) (by omega)
    rw [List.length_drop] at this; omega
  by_cases c1 : D = 0
  · rw [z2 (numE_1 hD (.inl c1))]; exact iNum1a s D w hs hD c1
  by_cases c2 : D = s.size
  · rw [z2 (numE_1 hD (.inr (.inl (by omega))))]; exact iNum1b s D w hs hD c1 c2
  have h0 : D < s.size := by omega
  by_cases c3 : s[D] = 39
  · have n1 : ¬ (D = 0 ∨ D = (L s).length ∨ (L s).getD D 0 ≠ 39) := by
      rw [← gD s D h0, c3]; simp; omega
    by_cases c4 : D + 1 < s.size
    · by_cases c5 : s[D + 1] = 115
      · have n2 : (L s).getD (D + 1) 0 = 115 := by rw [← gD s _ c4]; exact c5
        by_cases c6 : D + 1 + 1 < s.size
        · have e2 : (L s).getD (D + 2) 0 = s[D + 1 + 1] := (gD s _ c6).symm
          cases hb : Nb.baseB s[D + 1 + 1]
          · rw [z1 (numE_2 hD n1 n2 (.inr (by rw [e2]; exact hb)))]; exact iNum2b s D w hs hD c1 c4 c3 c5 c6 hb
          · have e := numE_3 hD n1 n2 (by rw [e2, hb]; simp; omega)
            rw [z3 (by omega) rfl] at e
            by_cases hz : Nb.runE Nb.valB ((L s).drop (D + 3)) 0 = 0
            · rw [hz, decide_eq_false (by omega)] at e
              rw [z1 e]; exact iNum3z s D _ w hs hD c1 c4 c3 c5 c6 hb rfl (z4 _) hz
            · have hr : Nb.numZ (L s) = D + 1 + 1 + 1 + Nb.runE Nb.valB ((L s).drop (D + 1 + 1 + 1)) 0 := by
                unfold Nb.numZ; rw [e]
                show (if decide _ = true then _ else 0) = _
                rw [if_pos (decide_eq_true (by omega))]
              rw [hr]; exact iNum3 s D _ w hs hD c1 c4 c3 c5 c6 hb rfl (z4 _) (by have : Nb.runE Nb.valB ((L s).drop (D + 1 + 1 + 1)) 0 ≠ 0 := hz; omega)
        · rw [z1 (numE_2 hD n1 n2 (.inl (by omega)))]; exact iNum2a s D w hs hD c1 c4 c3 c5 (by omega)
      · have n2 : ¬ (L s).getD (D + 1) 0 = 115 := by rw [← gD s _ c4]; exact c5
        have e2 : (L s).getD (D + 1) 0 = s[D + 1] := (gD s _ c4).symm
        cases hb : Nb.baseB s[D + 1]
        · rw [z1 (numE_4 hD n1 n2 (.inr (by rw [e2]; exact hb)))]; exact iNum4b s D w hs hD c1 c4 c3 c5 hb
        · have e := numE_5 hD n1 n2 (by rw [e2, hb]; simp; omega)
          rw [z3 (by omega) rfl] at e
          by_cases hz : Nb.runE Nb.valB ((L s).drop (D + 2)) 0 = 0
          · rw [hz, decide_eq_false (by omega)] at e
            rw [z1 e]; exact iNum5z s D _ w hs hD c1 c4 c3 c5 hb rfl (z4 _) hz
          · have hr : Nb.numZ (L s) = D + 1 + 1 + Nb.runE Nb.valB ((L s).drop (D + 1 + 1)) 0 := by
              unfold Nb.numZ; rw [e]
              show (if decide _ = true then _ else 0) = _
              rw [if_pos (decide_eq_true (by omega))]
            rw [hr]; exact iNum5 s D _ w hs hD c1 c4 c3 c5 hb rfl (z4 _) (by have : Nb.runE Nb.valB ((L s).drop (D + 1 + 1)) 0 ≠ 0 := hz; omega)
    · have n2 : ¬ (L s).getD (D + 1) 0 = 115 := by
        rw [List.getD_eq_getElem?_getD, List.getElem?_eq_none (by omega)]; decide
      rw [z1 (numE_4 hD n1 n2 (.inl (by omega)))]; exact iNum4a s D w hs hD c1 h0 (by omega) c3
  · rw [z2 (numE_1 hD (.inr (.inr (by rw [← gD s D h0]; exact c3))))]; exact iNum1c s D w hs hD c1 h0 c3
end Go.Proofs.YtlcpmbdckmdabaaGreatDoor
