/- Parts of the proof: NI1 to NI4. -/
import Derived.Test.YtddlokkejglckaaGreatDoorShelf
import Derived.Test.YtddlokkejglckaaGreatDoorMNS8
import Derived.Test.YtddlokkejglckaaGreatDoorMBits
import Derived.Deep.RegionHeld3
import Derived.Test.YtddlokkejglckaaGreatDoorMND5
namespace Go.Proofs.YtddlokkejglckaaGreatDoor
open Go.RowKit
set_option maxRecDepth 100000
theorem runI (p : UInt8 → Bool) (l cs : List UInt8) (h : ∀ c, cs.contains c = p c) : l.length - (Lib.trimLeftS l cs).length = Nb.runE p l 0 := by
 unfold Lib.trimLeftS Nb.runE
 rw [List.drop_zero, Nat.zero_add]
 have e : (fun c => cs.contains c) = p := funext h
 rw [e]
 induction l with
 | nil => rfl
 | cons c t ih =>
   rw [List.dropWhile_cons, List.takeWhile_cons]
   split
   · have := List.dropWhile_suffix (p := p) (l := t) |>.length_le
     rw [List.length_cons, List.length_cons]; omega
   · simp
theorem dig_set (c : UInt8) : ([48, 49, 50, 51, 52, 53, 54, 55, 56, 57] : List UInt8).contains c = Nb.digB c := by
 have h : ∀ n : Fin 256, ([48, 49, 50, 51, 52, 53, 54, 55, 56, 57] : List UInt8).contains (UInt8.ofFin n) = Nb.digB (UInt8.ofFin n) := by decide +kernel
 exact h c.toFin
theorem val_set (c : UInt8) : ([48, 49, 50, 51, 52, 53, 54, 55, 56, 57, 97, 98, 99, 100, 101, 102, 120, 122] : List UInt8).contains c = Nb.valB c := by
 have h : ∀ n : Fin 256, ([48, 49, 50, 51, 52, 53, 54, 55, 56, 57, 97, 98, 99, 100, 101, 102, 120, 122] : List UInt8).contains (UInt8.ofFin n) = Nb.valB (UInt8.ofFin n) := by decide +kernel
 exact h c.toFin
theorem iTrimL (s cs : ByteArray) (w : World) (hc : cs.size < 4294967281) (ha : (L cs).all (fun b => decide (b.toNat < 128)) = true) :
   CB 96 #[.string s, .string cs] w (.string (S (Lib.trimLeftS (L s) (L cs)))) :=
 Any.strings_TrimLeft_laid Tryz.lays161 (by kernel_rfl) s cs w hc (ascii_of_all ha)
theorem iRun (p : UInt8 → Bool) (s cs : ByteArray) (w : World) (hs : s.size ≤ maxLen) (hc : cs.size < 4294967281) (ha : (L cs).all (fun b => decide (b.toNat < 128)) = true) (hp : ∀ c, (L cs).contains c = p c) :
   CB 82 #[.string s, .string cs] w (.int .i64 (Nb.runE p (L s) 0 : Nat)) := by
 have TL := h_ (fun v => iTrimL s cs v hc ha)
 have e := runI p (L s) (L cs) hp
 have hle : (Lib.trimLeftS (L s) (L cs)).length ≤ (L s).length := (List.dropWhile_suffix _).length_le
 rw [L_len] at e hle
 have zT : (S (Lib.trimLeftS (L s) (L cs))).size = (Lib.trimLeftS (L s) (L cs)).length := S_size _
 generalize Lib.trimLeftS (L s) (L cs) = t at *
 generalize Nb.runE p (L s) 0 = r at *
 unfold maxLen at hs
 go_enter Tryz.func82, Tryz.ntmps82
 go_wp2_with (go_at_call 96; refine (u_ TL _).mono ?_; rintro e v2 ⟨rfl, hb2⟩)
 go_ret
 exact ⟨by simp [go_sem]; omega, hb2⟩
set_option maxHeartbeats 400000
set_option linter.unusedVariables false
theorem base_set (c : UInt8) : decide (0 ≤ Lib.indexByte ([98, 111, 104, 100] : List UInt8) c) = Nb.baseB c := by
 have h : ∀ n : Fin 256, decide (0 ≤ Lib.indexByte ([98, 111, 104, 100] : List UInt8) (UInt8.ofFin n)) = Nb.baseB (UInt8.ofFin n) := by decide +kernel
 exact h c.toFin
theorem iHas (c : UInt8) (w : World) : Calls Tryz.prog 83 #[.string ⟨#[98, 111, 104, 100]⟩, .string (S [c])] w fun e w' => e = .returned (.bool (Nb.baseB c)) ∧ w = w' := by
 have := Tryz.strings_Contains_one ⟨#[98, 111, 104, 100]⟩ c w
 rw [← base_set c]
 exact this.mono fun e w' ⟨a, b⟩ => ⟨a, b.symm⟩
theorem ext_one (s : ByteArray) (i : Nat) (h : i < s.size) : s.extract i (i + 1) = S [s[i]] := by
 apply L_inj
 rw [L_extract, L_S, L_drop s i h, Nat.add_sub_cancel_left]; rfl
set_option maxRecDepth 100000 in
theorem iNum1a (s : ByteArray) (D : Nat) (w : World) (hs : s.size ≤ 1000000) (hD : Nb.runE Nb.digB (L s) 0 = D) (h1 : D = 0) :
   CB 66 #[.string s] w (.int .i64 (D : Nat)) := by
 have R1 := h_ (fun v => iRun Nb.digB s ⟨#[48, 49, 50, 51, 52, 53, 54, 55, 56, 57]⟩ v (by unfold maxLen; omega) (by decide) (by decide) dig_set)
 rw [hD] at R1
 have q1 : ((D : Int) == 0) = true := by rw [beq_iff_eq]; omega
 have g1 : D ≤ 0 := by omega
 clear h1
 clear hD
 go_enter Tryz.func66, Tryz.ntmps66
 go_wp2_with (first | (go_at_call 82; refine (u_ R1 _).mono ?_; rintro e v1 ⟨rfl, hb1⟩))
 go_ret
 exact ⟨by first | rfl | (simp [go_sem]; done) | (simp [go_sem]; omega), hb1⟩
set_option maxRecDepth 100000 in
theorem iNum1b (s : ByteArray) (D : Nat) (w : World) (hs : s.size ≤ 1000000) (hD : Nb.runE Nb.digB (L s) 0 = D) (h1 : D ≠ 0) (h2 : D = s.size) :
   CB 66 #[.string s] w (.int .i64 (D : Nat)) := by
 have R1 := h_ (fun v => iRun Nb.digB s ⟨#[48, 49, 50, 51, 52, 53, 54, 55, 56, 57]⟩ v (by unfold maxLen; omega) (by decide) (by decide) dig_set)
 rw [hD] at R1
 have q1 : ((D : Int) == 0) = false := by rw [beq_eq_false_iff_ne]; omega
 have q2 : ((D : Int) == (s.size : Int)) = true := by rw [beq_iff_eq]; omega
 clear h2
 clear hD
 go_enter Tryz.func66, Tryz.ntmps66
 go_wp2_with (first | (go_at_call 82; refine (u_ R1 _).mono ?_; rintro e v1 ⟨rfl, hb1⟩))
 go_ret
 exact ⟨by first | rfl | (simp [go_sem]; done) | (simp [go_sem]; omega), hb1⟩
set_option maxRecDepth 100000 in
theorem iNum1c (s : ByteArray) (D : Nat) (w : World) (hs : s.size ≤ 1000000) (hD : Nb.runE Nb.digB (L s) 0 = D) (h1 : D ≠ 0) (h2 : D < s.size) (h39 : s[D] ≠ 39) :
   CB 66 #[.string s] w (.int .i64 (D : Nat)) := by
 have R1 := h_ (fun v => iRun Nb.digB s ⟨#[48, 49, 50, 51, 52, 53, 54, 55, 56, 57]⟩ v (by unfold maxLen; omega) (by decide) (by decide) dig_set)
 rw [hD] at R1
 have q1 : ((D : Int) == 0) = false := by rw [beq_eq_false_iff_ne]; omega
 have q2 : ((D : Int) == (s.size : Int)) = false := by rw [beq_eq_false_iff_ne]; omega
 have q3 : ((s[D].toNat : Int) != 39) = true := by rw [bne_iff_ne]; exact (beq_eq_false_iff_ne.1 (u8x h39))
 clear h39
 clear hD
 go_enter Tryz.func66, Tryz.ntmps66
 go_wp2_with (first | (go_at_call 82; refine (u_ R1 _).mono ?_; rintro e v1 ⟨rfl, hb1⟩))
 go_ret
 exact ⟨by first | rfl | (simp [go_sem]; done) | (simp [go_sem]; omega), hb1⟩
set_option maxRecDepth 100000 in
theorem iNum4a (s : ByteArray) (D : Nat) (w : World) (hs : s.size ≤ 1000000) (hD : Nb.runE Nb.digB (L s) 0 = D) (h1 : D ≠ 0) (h2 : D < s.size) (h2b : s.size ≤ D + 1) (h39 : s[D] = 39) :
   CB 66 #[.string s] w (.int .i64 (0 : Nat)) := by
 have R1 := h_ (fun v => iRun Nb.digB s ⟨#[48, 49, 50, 51, 52, 53, 54, 55, 56, 57]⟩ v (by unfold maxLen; omega) (by decide) (by decide) dig_set)
 rw [hD] at R1
 have q1 : ((D : Int) == 0) = false := by rw [beq_eq_false_iff_ne]; omega
 have q2 : ((D : Int) == (s.size : Int)) = false := by rw [beq_eq_false_iff_ne]; omega
 have q4 : (((D : Int) + 1) == (s.size : Int)) = true := by rw [beq_iff_eq]; omega
 have q5 : ¬ (D : Int) + 1 < s.size := by omega
 clear hD
 go_enter Tryz.func66, Tryz.ntmps66
 go_wp2_with (first | (go_at_call 82; refine (u_ R1 _).mono ?_; rintro e v1 ⟨rfl, hb1⟩))
 go_ret
 exact ⟨by first | rfl | (simp [go_sem]; done) | (simp [go_sem]; omega), hb1⟩
set_option maxRecDepth 100000 in
theorem iNum4b (s : ByteArray) (D : Nat) (w : World) (hs : s.size ≤ 1000000) (hD : Nb.runE Nb.digB (L s) 0 = D) (h1 : D ≠ 0) (h2 : D + 1 < s.size) (h39 : s[D]'(Nat.lt_of_succ_lt h2) = 39) (h115 : s[D + 1] ≠ 115) (hb : Nb.baseB s[D + 1] = false) :
   CB 66 #[.string s] w (.int .i64 (0 : Nat)) := by
 have R1 := h_ (fun v => iRun Nb.digB s ⟨#[48, 49, 50, 51, 52, 53, 54, 55, 56, 57]⟩ v (by unfold maxLen; omega) (by decide) (by decide) dig_set)
 rw [hD] at R1
 have q1 : ((D : Int) == 0) = false := by rw [beq_eq_false_iff_ne]; omega
 have q2 : ((D : Int) == (s.size : Int)) = false := by rw [beq_eq_false_iff_ne]; omega
 have q4 : (((D : Int) + 1) == (s.size : Int)) = false := by rw [beq_eq_false_iff_ne]; omega
 have q5 : (D : Int) + 1 < s.size := by omega
 have q3 : ((s[D + 1].toNat : Int) == 115) = false := u8x h115
 clear h115
 have x1 : s.extract (D + 1) (D + 1 + 1) = S [s[D + 1]] := ext_one s (D + 1) h2
 have HC := h_ (fun v => iHas (s[D + 1]'h2) v)
 rw [hb] at HC
 clear hb
 generalize S [s[D + 1]] = T1 at *
 clear hD
 go_enter Tryz.func66, Tryz.ntmps66
 go_wp2_with (first | (go_at_call 82; refine (u_ R1 _).mono ?_; rintro e v1 ⟨rfl, hb1⟩) | (go_at_call 83; refine (u_ HC _).mono ?_; rintro e w' ⟨rfl, rfl⟩))
 go_ret
 exact ⟨by first | rfl | (simp [go_sem]; done) | (simp [go_sem]; omega), hb1⟩
set_option maxRecDepth 100000 in
theorem iNum5z (s : ByteArray) (D E : Nat) (w : World) (hs : s.size ≤ 1000000) (hD : Nb.runE Nb.digB (L s) 0 = D) (h1 : D ≠ 0) (h2 : D + 1 < s.size) (h39 : s[D]'(Nat.lt_of_succ_lt h2) = 39) (h115 : s[D + 1] ≠ 115) (hb : Nb.baseB s[D + 1] = true) (hE : Nb.runE Nb.valB ((L s).drop (D + 1 + 1)) 0 = E) (hE2 : E ≤ 1000000) (hz : E = 0) :
   CB 66 #[.string s] w (.int .i64 (0 : Nat)) := by
 have R1 := h_ (fun v => iRun Nb.digB s ⟨#[48, 49, 50, 51, 52, 53, 54, 55, 56, 57]⟩ v (by unfold maxLen; omega) (by decide) (by decide) dig_set)
 rw [hD] at R1
 have q1 : ((D : Int) == 0) = false := by rw [beq_eq_false_iff_ne]; omega
 have q2 : ((D : Int) == (s.size : Int)) = false := by rw [beq_eq_false_iff_ne]; omega
 have q4 : (((D : Int) + 1) == (s.size : Int)) = false := by rw [beq_eq_false_iff_ne]; omega
 have q5 : (D : Int) + 1 < s.size := by omega
 have q3 : ((s[D + 1].toNat : Int) == 115) = false := u8x h115
 clear h115
 have x1 : s.extract (D + 1) (D + 1 + 1) = S [s[D + 1]] := ext_one s (D + 1) h2
 have HC := h_ (fun v => iHas (s[D + 1]'h2) v)
 rw [hb] at HC
 clear hb
 generalize S [s[D + 1]] = T1 at *
 have x2 : s.extract (D + 1 + 1) s.size = S ((L s).drop (D + 1 + 1)) := by
   apply L_inj; rw [L_extract, L_S, List.take_of_length_le (by rw [List.length_drop, L_len]; exact Nat.le_refl _)]
 have R2 := h_ (fun v => iRun Nb.valB (S ((L s).drop (D + 1 + 1))) ⟨#[48, 49, 50, 51, 52, 53, 54, 55, 56, 57, 97, 98, 99, 100, 101, 102, 120, 122]⟩ v (by rw [S_size, List.length_drop, L_len]; unfold maxLen; omega) (by decide) (by decide) val_set)
 rw [L_S, hE] at R2
 clear hE
 generalize S ((L s).drop (D + 1 + 1)) = T at *
 have qz : ((E : Int) == 0) = true := by rw [beq_iff_eq]; omega
 clear hz
 clear hD
 go_enter Tryz.func66, Tryz.ntmps66
 go_wp2_with fail
 refine (u_ R1 _).mono ?_
 rintro e v1 ⟨rfl, hb1⟩
 go_wp2_with (first | (go_at_call 83; refine (u_ HC _).mono ?_; rintro e w' ⟨rfl, rfl⟩) | (go_at_call 82; refine (u_ R2 _).mono ?_; rintro e v2 ⟨rfl, hb2⟩))
 go_ret
 exact ⟨by first | rfl | (simp [go_sem]; done) | (simp [go_sem]; omega), below_nst hb1 hb2⟩
set_option maxRecDepth 100000 in
theorem iNum5 (s : ByteArray) (D E : Nat) (w : World) (hs : s.size ≤ 1000000) (hD : Nb.runE Nb.digB (L s) 0 = D) (h1 : D ≠ 0) (h2 : D + 1 < s.size) (h39 : s[D]'(Nat.lt_of_succ_lt h2) = 39) (h115 : s[D + 1] ≠ 115) (hb : Nb.baseB s[D + 1] = true) (hE : Nb.runE Nb.valB ((L s).drop (D + 1 + 1)) 0 = E) (hE2 : E ≤ 1000000) (hz : 1 ≤ E) :
   CB 66 #[.string s] w (.int .i64 (D + 1 + 1 + E : Nat)) := by
 have R1 := h_ (fun v => iRun Nb.digB s ⟨#[48, 49, 50, 51, 52, 53, 54, 55, 56, 57]⟩ v (by unfold maxLen; omega) (by decide) (by decide) dig_set)
 rw [hD] at R1
 have q1 : ((D : Int) == 0) = false := by rw [beq_eq_false_iff_ne]; omega
 have q2 : ((D : Int) == (s.size : Int)) = false := by rw [beq_eq_false_iff_ne]; omega
 have q4 : (((D : Int) + 1) == (s.size : Int)) = false := by rw [beq_eq_false_iff_ne]; omega
 have q5 : (D : Int) + 1 < s.size := by omega
 have q3 : ((s[D + 1].toNat : Int) == 115) = false := u8x h115
 clear h115
 have x1 : s.extract (D + 1) (D + 1 + 1) = S [s[D + 1]] := ext_one s (D + 1) h2
 have HC := h_ (fun v => iHas (s[D + 1]'h2) v)
 rw [hb] at HC
 clear hb
 generalize S [s[D + 1]] = T1 at *
 have x2 : s.extract (D + 1 + 1) s.size = S ((L s).drop (D + 1 + 1)) := by
   apply L_inj; rw [L_extract, L_S, List.take_of_length_le (by rw [List.length_drop, L_len]; exact Nat.le_refl _)]
 have R2 := h_ (fun v => iRun Nb.valB (S ((L s).drop (D + 1 + 1))) ⟨#[48, 49, 50, 51, 52, 53, 54, 55, 56, 57, 97, 98, 99, 100, 101, 102, 120, 122]⟩ v (by rw [S_size, List.length_drop, L_len]; unfold maxLen; omega) (by decide) (by decide) val_set)
 rw [L_S, hE] at R2
 clear hE
 generalize S ((L s).drop (D + 1 + 1)) = T at *
 have qz : ((E : Int) == 0) = false := by rw [beq_eq_false_iff_ne]; omega
 clear hD
 go_enter Tryz.func66, Tryz.ntmps66
 go_wp2_with fail
 refine (u_ R1 _).mono ?_
 rintro e v1 ⟨rfl, hb1⟩
 go_wp2_with (first | (go_at_call 83; refine (u_ HC _).mono ?_; rintro e w' ⟨rfl, rfl⟩) | (go_at_call 82; refine (u_ R2 _).mono ?_; rintro e v2 ⟨rfl, hb2⟩))
 go_ret
 exact ⟨by first | rfl | (simp [go_sem]; done) | (simp [go_sem]; omega), below_nst hb1 hb2⟩
set_option maxRecDepth 100000 in
theorem iNum2b (s : ByteArray) (D : Nat) (w : World) (hs : s.size ≤ 1000000) (hD : Nb.runE Nb.digB (L s) 0 = D) (h1 : D ≠ 0) (h2 : D + 1 < s.size) (h39 : s[D]'(Nat.lt_of_succ_lt h2) = 39) (h115 : s[D + 1] = 115) (h3 : D + 1 + 1 < s.size) (hb : Nb.baseB s[D + 1 + 1] = false) :
   CB 66 #[.string s] w (.int .i64 (0 : Nat)) := by
 have R1 := h_ (fun v => iRun Nb.digB s ⟨#[48, 49, 50, 51, 52, 53, 54, 55, 56, 57]⟩ v (by unfold maxLen; omega) (by decide) (by decide) dig_set)
 rw [hD] at R1
 have q1 : ((D : Int) == 0) = false := by rw [beq_eq_false_iff_ne]; omega
 have q2 : ((D : Int) == (s.size : Int)) = false := by rw [beq_eq_false_iff_ne]; omega
 have q4 : (((D : Int) + 1) == (s.size : Int)) = false := by rw [beq_eq_false_iff_ne]; omega
 have q5 : (D : Int) + 1 < s.size := by omega
 have q6 : (((D : Int) + 1 + 1) == (s.size : Int)) = false := by rw [beq_eq_false_iff_ne]; omega
 have x1 : s.extract (D + 1 + 1) (D + 1 + 1 + 1) = S [s[D + 1 + 1]] := ext_one s (D + 1 + 1) h3
 have HC := h_ (fun v => iHas (s[D + 1 + 1]'h3) v)
 rw [hb] at HC
 clear hb
 generalize S [s[D + 1 + 1]] = T1 at *
 clear hD
 go_enter Tryz.func66, Tryz.ntmps66
 go_wp2_with (first | (go_at_call 82; refine (u_ R1 _).mono ?_; rintro e v1 ⟨rfl, hb1⟩) | (go_at_call 83; refine (u_ HC _).mono ?_; rintro e w' ⟨rfl, rfl⟩))
 go_ret
 exact ⟨by first | rfl | (simp [go_sem]; done) | (simp [go_sem]; omega), hb1⟩
set_option maxRecDepth 100000 in
theorem iNum3z (s : ByteArray) (D E : Nat) (w : World) (hs : s.size ≤ 1000000) (hD : Nb.runE Nb.digB (L s) 0 = D) (h1 : D ≠ 0) (h2 : D + 1 < s.size) (h39 : s[D]'(Nat.lt_of_succ_lt h2) = 39) (h115 : s[D + 1] = 115) (h3 : D + 1 + 1 < s.size) (hb : Nb.baseB s[D + 1 + 1] = true) (hE : Nb.runE Nb.valB ((L s).drop (D + 1 + 1 + 1)) 0 = E) (hE2 : E ≤ 1000000) (hz : E = 0) :
   CB 66 #[.string s] w (.int .i64 (0 : Nat)) := by
 have R1 := h_ (fun v => iRun Nb.digB s ⟨#[48, 49, 50, 51, 52, 53, 54, 55, 56, 57]⟩ v (by unfold maxLen; omega) (by decide) (by decide) dig_set)
 rw [hD] at R1
 have q1 : ((D : Int) == 0) = false := by rw [beq_eq_false_iff_ne]; omega
 have q2 : ((D : Int) == (s.size : Int)) = false := by rw [beq_eq_false_iff_ne]; omega
 have q4 : (((D : Int) + 1) == (s.size : Int)) = false := by rw [beq_eq_false_iff_ne]; omega
 have q5 : (D : Int) + 1 < s.size := by omega
 have q6 : (((D : Int) + 1 + 1) == (s.size : Int)) = false := by rw [beq_eq_false_iff_ne]; omega
 have x1 : s.extract (D + 1 + 1) (D + 1 + 1 + 1) = S [s[D + 1 + 1]] := ext_one s (D + 1 + 1) h3
 have HC := h_ (fun v => iHas (s[D + 1 + 1]'h3) v)
 rw [hb] at HC
 clear hb
 generalize S [s[D + 1 + 1]] = T1 at *
 have x2 : s.extract (D + 1 + 1 + 1) s.size = S ((L s).drop (D + 1 + 1 + 1)) := by
   apply L_inj; rw [L_extract, L_S, List.take_of_length_le (by rw [List.length_drop, L_len]; exact Nat.le_refl _)]
 have R2 := h_ (fun v => iRun Nb.valB (S ((L s).drop (D + 1 + 1 + 1))) ⟨#[48, 49, 50, 51, 52, 53, 54, 55, 56, 57, 97, 98, 99, 100, 101, 102, 120, 122]⟩ v (by rw [S_size, List.length_drop, L_len]; unfold maxLen; omega) (by decide) (by decide) val_set)
 rw [L_S, hE] at R2
 clear hE
 generalize S ((L s).drop (D + 1 + 1 + 1)) = T at *
 have qz : ((E : Int) == 0) = true := by rw [beq_iff_eq]; omega
 clear hz
 clear hD
 go_enter Tryz.func66, Tryz.ntmps66
 go_wp2_with fail
 refine (u_ R1 _).mono ?_
 rintro e v1 ⟨rfl, hb1⟩
 go_wp2_with (first | (go_at_call 83; refine (u_ HC _).mono ?_; rintro e w' ⟨rfl, rfl⟩) | (go_at_call 82; refine (u_ R2 _).mono ?_; rintro e v2 ⟨rfl, hb2⟩))
 go_ret
 exact ⟨by first | rfl | (simp [go_sem]; done) | (simp [go_sem]; omega), below_nst hb1 hb2⟩
set_option maxRecDepth 100000 in
theorem iNum3 (s : ByteArray) (D E : Nat) (w : World) (hs : s.size ≤ 1000000) (hD : Nb.runE Nb.digB (L s) 0 = D) (h1 : D ≠ 0) (h2 : D + 1 < s.size) (h39 : s[D]'(Nat.lt_of_succ_lt h2) = 39) (h115 : s[D + 1] = 115) (h3 : D + 1 + 1 < s.size) (hb : Nb.baseB s[D + 1 + 1] = true) (hE : Nb.runE Nb.valB ((L s).drop (D + 1 + 1 + 1)) 0 = E) (hE2 : E ≤ 1000000) (hz : 1 ≤ E) :
   CB 66 #[.string s] w (.int .i64 (D + 1 + 1 + 1 + E : Nat)) := by
 have R1 := h_ (fun v => iRun Nb.digB s ⟨#[48, 49, 50, 51, 52, 53, 54, 55, 56, 57]⟩ v (by unfold maxLen; omega) (by decide) (by decide) dig_set)
 rw [hD] at R1
 have q1 : ((D : Int) == 0) = false := by rw [beq_eq_false_iff_ne]; omega
 have q2 : ((D : Int) == (s.size : Int)) = false := by rw [beq_eq_false_iff_ne]; omega
 have q4 : (((D : Int) + 1) == (s.size : Int)) = false := by rw [beq_eq_false_iff_ne]; omega
 have q5 : (D : Int) + 1 < s.size := by omega
 have q6 : (((D : Int) + 1 + 1) == (s.size : Int)) = false := by rw [beq_eq_false_iff_ne]; omega
 have x1 : s.extract (D + 1 + 1) (D + 1 + 1 + 1) = S [s[D + 1 + 1]] := ext_one s (D + 1 + 1) h3
 have HC := h_ (fun v => iHas (s[D + 1 + 1]'h3) v)
 rw [hb] at HC
 clear hb
 generalize S [s[D + 1 + 1]] = T1 at *
 have x2 : s.extract (D + 1 + 1 + 1) s.size = S ((L s).drop (D + 1 + 1 + 1)) := by
   apply L_inj; rw [L_extract, L_S, List.take_of_length_le (by rw [List.length_drop, L_len]; exact Nat.le_refl _)]
 have R2 := h_ (fun v => iRun Nb.valB (S ((L s).drop (D + 1 + 1 + 1))) ⟨#[48, 49, 50, 51, 52, 53, 54, 55, 56, 57, 97, 98, 99, 100, 101, 102, 120, 122]⟩ v (by rw [S_size, List.length_drop, L_len]; unfold maxLen; omega) (by decide) (by decide) val_set)
 rw [L_S, hE] at R2
 clear hE
 generalize S ((L s).drop (D + 1 + 1 + 1)) = T at *
 have qz : ((E : Int) == 0) = false := by rw [beq_eq_false_iff_ne]; omega
 clear hD
 go_enter Tryz.func66, Tryz.ntmps66
 go_wp2_with fail
 refine (u_ R1 _).mono ?_
 rintro e v1 ⟨rfl, hb1⟩
 go_wp2_with (first | (go_at_call 83; refine (u_ HC _).mono ?_; rintro e w' ⟨rfl, rfl⟩) | (go_at_call 82; refine (u_ R2 _).mono ?_; rintro e v2 ⟨rfl, hb2⟩))
 go_ret
 exact ⟨by first | rfl | (simp [go_sem]; done) | (simp [go_sem]; omega), below_nst hb1 hb2⟩
set_option maxRecDepth 100000 in
theorem iNum2a (s : ByteArray) (D : Nat) (w : World) (hs : s.size ≤ 1000000) (hD : Nb.runE Nb.digB (L s) 0 = D) (h1 : D ≠ 0) (h2 : D + 1 < s.size) (h39 : s[D]'(Nat.lt_of_succ_lt h2) = 39) (h115 : s[D + 1] = 115) (h2b : s.size ≤ D + 1 + 1) :
   CB 66 #[.string s] w (.int .i64 (0 : Nat)) := by
 have R1 := h_ (fun v => iRun Nb.digB s ⟨#[48, 49, 50, 51, 52, 53, 54, 55, 56, 57]⟩ v (by unfold maxLen; omega) (by decide) (by decide) dig_set)
 rw [hD] at R1
 have q1 : ((D : Int) == 0) = false := by rw [beq_eq_false_iff_ne]; omega
 have q2 : ((D : Int) == (s.size : Int)) = false := by rw [beq_eq_false_iff_ne]; omega
 have q4 : (((D : Int) + 1) == (s.size : Int)) = false := by rw [beq_eq_false_iff_ne]; omega
 have q5 : (D : Int) + 1 < s.size := by omega
 have q6 : (((D : Int) + 1 + 1) == (s.size : Int)) = true := by rw [beq_iff_eq]; omega
 clear hD
 go_enter Tryz.func66, Tryz.ntmps66
 go_wp2_with (first | (go_at_call 82; refine (u_ R1 _).mono ?_; rintro e v1 ⟨rfl, hb1⟩))
 go_ret
 exact ⟨by first | rfl | (simp [go_sem]; done) | (simp [go_sem]; omega), hb1⟩
theorem iNumSize (s : ByteArray) (w : World) (hs : s.size ≤ 1000000) :
   CB 66 #[.string s] w (.int .i64 (Nb.numZ (L s) : Nat)) := by
 have hl : (L s).length = s.size := L_len s
 obtain ⟨D, hD⟩ : ∃ D, Nb.runE Nb.digB (L s) 0 = D := ⟨_, rfl⟩
 have hle : D ≤ (L s).length := by rw [← hD]; exact Nb.runE_le (by omega)
 have z1 : ∀ {k : Nat}, Nb.numE (L s) 0 = (k, false) → Nb.numZ (L s) = 0 := fun h => by unfold Nb.numZ; rw [h]; rfl
 have z2 : ∀ {k : Nat}, Nb.numE (L s) 0 = (k, decide (0 < k)) → Nb.numZ (L s) = k := fun {k} h => by
   unfold Nb.numZ; rw [h]
   by_cases hk : 0 < k
   · simp [hk]
   · simp [hk]; omega
 have z3 : ∀ {P E : Nat}, P ≤ (L s).length → Nb.runE Nb.valB ((L s).drop P) 0 = E → Nb.runE Nb.valB (L s) P = P + E := fun {P E} _ h => by
   have := Nb.runE_drop Nb.valB (L s) P 0
   rw [h, Nat.add_zero] at this; omega
 have z4 : ∀ P, Nb.runE Nb.valB ((L s).drop P) 0 ≤ 1000000 := fun P => by
   have := Nb.runE_le (p := Nb.valB) (l := (L s).drop P) (i := 0) (by omega)
   rw [List.length_drop] at this; omega
 by_cases c1 : D = 0
 · rw [z2 (numE_1 hD (.inl c1))]; exact iNum1a s D w hs hD c1
 by_cases c2 : D = s.size
 · rw [z2 (numE_1 hD (.inr (.inl (by omega))))]; exact iNum1b s D w hs hD c1 c2
 have h0 : D < s.size := by omega
 by_cases c3 : s[D] = 39
 · have n1 : ¬ (D = 0 ∨ D = (L s).length ∨ (L s).getD D 0 ≠ 39) := by
     rw [← gD s D h0, c3]; simp; omega
   by_cases c4 : D + 1 < s.size
   · by_cases c5 : s[D + 1] = 115
     · have n2 : (L s).getD (D + 1) 0 = 115 := by rw [← gD s _ c4]; exact c5
       by_cases c6 : D + 1 + 1 < s.size
       · have e2 : (L s).getD (D + 2) 0 = s[D + 1 + 1] := (gD s _ c6).symm
         cases hb : Nb.baseB s[D + 1 + 1]
         · rw [z1 (numE_2 hD n1 n2 (.inr (by rw [e2]; exact hb)))]; exact iNum2b s D w hs hD c1 c4 c3 c5 c6 hb
         · have e := numE_3 hD n1 n2 (by rw [e2, hb]; simp; omega)
           rw [z3 (by omega) rfl] at e
           by_cases hz : Nb.runE Nb.valB ((L s).drop (D + 3)) 0 = 0
           · rw [hz, decide_eq_false (by omega)] at e
             rw [z1 e]; exact iNum3z s D _ w hs hD c1 c4 c3 c5 c6 hb rfl (z4 _) hz
           · have hr : Nb.numZ (L s) = D + 1 + 1 + 1 + Nb.runE Nb.valB ((L s).drop (D + 1 + 1 + 1)) 0 := by
               unfold Nb.numZ; rw [e]
               show (if decide _ = true then _ else 0) = _
               rw [if_pos (decide_eq_true (by omega))]
             rw [hr]; exact iNum3 s D _ w hs hD c1 c4 c3 c5 c6 hb rfl (z4 _) (by have : Nb.runE Nb.valB ((L s).drop (D + 1 + 1 + 1)) 0 ≠ 0 := hz; omega)
       · rw [z1 (numE_2 hD n1 n2 (.inl (by omega)))]; exact iNum2a s D w hs hD c1 c4 c3 c5 (by omega)
     · have n2 : ¬ (L s).getD (D + 1) 0 = 115 := by rw [← gD s _ c4]; exact c5
       have e2 : (L s).getD (D + 1) 0 = s[D + 1] := (gD s _ c4).symm
       cases hb : Nb.baseB s[D + 1]
       · rw [z1 (numE_4 hD n1 n2 (.inr (by rw [e2]; exact hb)))]; exact iNum4b s D w hs hD c1 c4 c3 c5 hb
       · have e := numE_5 hD n1 n2 (by rw [e2, hb]; simp; omega)
         rw [z3 (by omega) rfl] at e
         by_cases hz : Nb.runE Nb.valB ((L s).drop (D + 2)) 0 = 0
         · rw [hz, decide_eq_false (by omega)] at e
           rw [z1 e]; exact iNum5z s D _ w hs hD c1 c4 c3 c5 hb rfl (z4 _) hz
         · have hr : Nb.numZ (L s) = D + 1 + 1 + Nb.runE Nb.valB ((L s).drop (D + 1 + 1)) 0 := by
             unfold Nb.numZ; rw [e]
             show (if decide _ = true then _ else 0) = _
             rw [if_pos (decide_eq_true (by omega))]
           rw [hr]; exact iNum5 s D _ w hs hD c1 c4 c3 c5 hb rfl (z4 _) (by have : Nb.runE Nb.valB ((L s).drop (D + 1 + 1)) 0 ≠ 0 := hz; omega)
   · have n2 : ¬ (L s).getD (D + 1) 0 = 115 := by
       rw [List.getD_eq_getElem?_getD, List.getElem?_eq_none (by omega)]; decide
     rw [z1 (numE_4 hD n1 n2 (.inl (by omega)))]; exact iNum4a s D w hs hD c1 h0 (by omega) c3
 · rw [z2 (numE_1 hD (.inr (.inr (by rw [← gD s D h0]; exact c3))))]; exact iNum1c s D w hs hD c1 h0 c3
def V (n : Nat) (k h : BitVec 64) : Value := .agg #[.int .i64 n, .int .u64 (U k), .int .u64 (U h)]
theorem cells_eq {a b c d : Int} {n : Value} {W : World} (h1 : a = c) (h2 : b = d) : W.alloc (.cells #[n, .int .u64 a, .int .u64 b] 115) = W.alloc (.cells #[n, .int .u64 c, .int .u64 d] 115) := by rw [h1, h2]
theorem kn_step (s : ByteArray) (k : Nat) (h : k < s.size) (c : UInt8) (e : s[k] = c) : Vb.kn ((L s).take (k + 1)) = Vb.push Vb.knB (Vb.kn ((L s).take k)) c := by
 rw [L_take s k h, Vb.kn, Vb.word_snoc, e]; rfl
theorem wh_step (s : ByteArray) (k : Nat) (h : k < s.size) (c : UInt8) (e : s[k] = c) : Vb.wh ((L s).take (k + 1)) = Vb.push Vb.whB (Vb.wh ((L s).take k)) c := by
 rw [L_take s k h, Vb.wh, Vb.word_snoc, e]; rfl
theorem push_1 (p : UInt8 → Bool) (a : BitVec 64) (c : UInt8) (h : p c = true) : bits .or .u64 (IntKind.u64.wrap (U a * 2)) 1 = U (Vb.push p a c) := by
 rw [U_shl1, U_or1, Vb.push, if_pos h]
theorem push_0 (p : UInt8 → Bool) (a : BitVec 64) (c : UInt8) (h : p c = false) : IntKind.u64.wrap (U a * 2) = U (Vb.push p a c) := by
 rw [U_shl1, Vb.push, if_neg (by simp [h])]; simp
abbrev W0 (w : World) : World := w.alloc (.cells #[.int .i64 0, .int .u64 0, .int .u64 0] 115)
attribute [local go_sem] U_and U_or U_xor U_andNot U_shl U_shr U_shl1 U_or1 U_and1 U_toNat U_nonneg U_low U_beq U_bne
theorem iLow (c : Nat) (w : World) :
   Calls Tryz.prog 150 #[.int .u64 (c : Int)] w fun e w' => e = .returned (.int .u64 (U (Vb.ones c))) ∧ w' = w := by
 go_enter Tryz.func150, Tryz.ntmps150
 go_wp2
 go_ret
 exact ⟨rfl, rfl⟩
theorem iMask (n : Nat) (k h : BitVec 64) (hn : n ≤ 64) (w : World) :
   Calls Tryz.prog 141 #[.agg #[.int .i64 n, .int .u64 (U (k)), .int .u64 (U (h))]] w fun e w' => e = .returned (.int .u64 (U (Vb.ones n))) ∧ w.alloc (.cells #[.int .i64 n, .int .u64 (U (k)), .int .u64 (U (h))] 115) = w' := by
 go_enter Tryz.func141, Tryz.ntmps141
 go_wp2_with (go_at_call 150; refine (iLow _ _).mono ?_; rintro e w' ⟨rfl, rfl⟩)
 go_ret
 exact ⟨rfl, rfl⟩
theorem iCut (n : Nat) (k h : BitVec 64) (hn : n ≤ 64) (w : World) :
   CB 123 #[.agg #[.int .i64 n, .int .u64 (U (k)), .int .u64 (U (h))]] w (V n (k &&& Vb.ones n) (h &&& Vb.ones n)) := by
 go_enter Tryz.func123, Tryz.ntmps123
 go_wp2
 go_region_held3 (fun w' => w'.cell? ⟨w.heap.size, 0, none⟩ = some (.int .i64 n) ∧ w'.cell? ⟨w.heap.size, 1, none⟩ = some (.int .u64 (U k)) ∧ w'.cell? ⟨w.heap.size, 2, none⟩ = some (.int .u64 (U h))) (first | (go_simp; done) | (refine ⟨?_, ?_, ?_⟩ <;> (refine c_ hb ?_; go_simp)) | go_keep) (first | (go_at_call 141; refine (iMask _ _ _ ?_ _).mono ?_; omega; rintro e w' ⟨rfl, rfl⟩))
 go_wp2
 exact bodyPost_ret (v := V n (k &&& Vb.ones n) (h &&& Vb.ones n)) (by simp [results, Tryz.results123, go_sem, V]) rfl ⟨rfl, bdr (bal (bal (bal (bal (brf _) _) _) _) _)⟩
attribute [local go_sem] U_and U_or U_xor U_andNot U_shl U_shr U_shl1 U_or1 U_and1 U_toNat U_nonneg U_low U_beq U_bne
theorem U_all : (18446744073709551615 : Int) = U (BitVec.allOnes 64) := rfl
set_option maxHeartbeats 400000 in
theorem iNumber (n : Nat) (x : BitVec 64) (hn : n ≤ 64) (w : World) :
   CB 100 #[.int .u64 (U x), .int .i64 n] w (V n (Vb.ones n) (x &&& Vb.ones n)) := by
 go_enter Tryz.func100, Tryz.ntmps100
 go_wp2_with fail
 rw [U_all]
 refine (iCut n (BitVec.allOnes 64) x hn _).mono ?_
 rintro e w1 ⟨rfl, hb⟩
 obtain ⟨hc, hf⟩ := bcell hb
 rw [BitVec.allOnes_and]
 unfold V
 go_wp2
 refine bodyPost_ret (v := V n (Vb.ones n) (x &&& Vb.ones n)) (by simp [results, Tryz.results100, go_sem, V, hc]) rfl ⟨rfl, ?_⟩
 repeat first | exact brf _ | refine bdr ?_ | refine bst ?_ (by first | exact Nat.le_refl _ | (simp; done) | (simp; omega)) _ | refine btr ?_ hb | refine bal ?_ _
def sgn (n : Nat) (h : BitVec 64) : Int := wrap64 (U (h <<< (64 - n))) / 2 ^ (64 - n)
theorem sgn_eq (n : Nat) (h : BitVec 64) : wrap64 (IntKind.u64.wrap (U h * 2 ^ (64 - n))) / 2 ^ (64 - n) = sgn n h := by
 have := U_shl h (64 - n)
 rw [Nat.min_eq_left (by omega)] at this
 rw [this]; rfl
theorem ret_i64 {a b : Int} (h : a = b) : Ending.returned (.int .i64 a) = .returned (.int .i64 b) := by rw [h]
def row (l : List UInt8) (i : Nat) : Array Value := ((l.take i ++ List.replicate (64 - i) (0 : UInt8)).map fun (c : UInt8) => Value.int .u8 (c.toNat : Int)).toArray
theorem row_step (l : List UInt8) (i : Nat) (h : i < l.length) (h64 : i < 64) : (row l i).setIfInBounds i (.int .u8 (l[i].toNat : Int)) = row l (i + 1) := by
 unfold row
 rw [List.setIfInBounds_toArray]
 congr 1
 have e : 64 - i = (64 - (i + 1)) + 1 := by omega
 rw [e, List.replicate_succ, List.take_succ_eq_append_getElem h, List.map_append, List.set_append_right _ _ (by simp; omega)]
 have hz : i - (List.map (fun (c : UInt8) => Value.int .u8 (c.toNat : Int)) (List.take i l)).length = 0 := by simp; omega
 rw [hz]
 simp only [List.map_append, List.map_cons, List.append_assoc, List.cons_append, List.nil_append, List.set_cons_zero]
theorem and1 (k : BitVec 64) (m : Nat) : k >>> m &&& 1#64 = if k.getLsbD m then 1#64 else 0#64 := by
 apply BitVec.eq_of_getLsbD_eq
 intro i hi
 rw [BitVec.getLsbD_and, BitVec.getLsbD_ushiftRight, BitVec.getLsbD_one]
 by_cases h0 : i = 0
 · subst h0; cases k.getLsbD m <;> simp
 · cases k.getLsbD m <;> simp [h0, BitVec.getLsbD_one]
theorem idx_eq (k h : BitVec 64) (m : Nat) (hm : m < 64) : bits .or .u64 (IntKind.u64.wrap (bits .and .u64 (U k / 2 ^ m) 1 * 2)) (bits .and .u64 (U h / 2 ^ m) 1) = (if k.getLsbD m then 2 else 0) + (if h.getLsbD m then 1 else 0) := by
 have e1 := U_shr k m
 have e2 := U_shr h m
 rw [Nat.min_eq_left (by omega)] at e1 e2
 rw [e1, e2, U_and1, U_and1, U_shl1, U_or, and1, and1]
 cases k.getLsbD m <;> cases h.getLsbD m <;> rfl
theorem txt_get (n : Nat) (k h : BitVec 64) (j : Nat) (hj : j < n) : (Vb.txt n k h)[j]'(by rw [Vb.txt_len]; exact hj) = Vb.letter (k.getLsbD (n - 1 - j)) (h.getLsbD (n - 1 - j)) := by
 have := Vb.rat_txt n k h (n - 1 - j)
 rw [if_pos (by omega)] at this
 unfold Vb.rat at this
 rw [List.getElem?_reverse (by rw [Vb.txt_len]; omega), Vb.txt_len, show n - 1 - (n - 1 - j) = j by omega, List.getElem?_eq_getElem (by rw [Vb.txt_len]; exact hj)] at this
 exact Option.some.inj this
theorem row_alloc {X : World} {a b : Array Value} (h : a = b) : X.alloc (.cells a 135) = X.alloc (.cells b 135) := by rw [h]
theorem row_get (l : List UInt8) (i j : Nat) (h : j < i) (hl : j < l.length) : (row l i)[j]? = some (.int .u8 (l[j].toNat : Int)) := by
 unfold row
 rw [List.getElem?_toArray, List.getElem?_map, List.getElem?_append_left (by simp; omega), List.getElem?_take_of_lt h, List.getElem?_eq_getElem hl]; rfl
theorem text_back (n : Nat) (k h : BitVec 64) (X : World) (b : Nat) (hb : b = X.heap.size) :
   (convert 37 9 (.slice (some ⟨b, 0, none⟩) n 64)).run Tryz.prog (X.alloc (.cells (row (Vb.txt n k h) n) 135)) = .ok (.string (S (Vb.txt n k h))) (X.alloc (.cells (row (Vb.txt n k h) n) 135)) := by
 have := run_convert_bytes_back (P := Tryz.prog) (X.alloc (.cells (row (Vb.txt n k h) n) 135)) 37 9 5 ⟨b, 0, none⟩ 64 (Vb.txt n k h) (by kernel_rfl) (by kernel_rfl) (by kernel_rfl) (by
   intro j hj
   rw [Vb.txt_len] at hj
   subst hb
   rw [Addr.add_lit, World.cell?_alloc_new, Nat.zero_add]
   exact row_get _ _ _ hj (by rw [Vb.txt_len]; exact hj))
 rw [Vb.txt_len] at this
 exact this
set_option maxRecDepth 100000 in
set_option maxHeartbeats 400000 in
theorem iText (n : Nat) (k h : BitVec 64) (hn : n ≤ 64) (w : World) :
   CB 101 #[V n k h] w (.string (S (Vb.txt n k h))) := by
 unfold V
 go_enter Tryz.func101, Tryz.ntmps101
 go_wp2
 go_loopw [5] (fun i W => ∃ j : Nat, j ≤ n ∧ i = .int .i64 j ∧ W = ((w.alloc (.cells #[.int .i64 n, .int .u64 (U k), .int .u64 (U h)] 115)).alloc (.cells #[.int .u8 120, .int .u8 122, .int .u8 48, .int .u8 49] 134)).alloc (.cells (row (Vb.txt n k h) j) 135)) (fun i _ => n - (intOf i).toNat)
 case atStart => exact ⟨0, Nat.zero_le _, rfl, rfl⟩
 case round =>
   obtain ⟨j, hj, rfl, rfl⟩ := hrel
   by_cases hlt : j < n
   · have st := row_step (Vb.txt n k h) j (by rw [Vb.txt_len]; exact hlt) (by omega)
     rw [txt_get n k h j hlt] at st
     have hx := idx_eq k h (n - 1 - j) (by omega)
     have hsz : (row (Vb.txt n k h) j).size = 64 := by unfold row; simp [Vb.txt_len]; omega
     obtain ⟨x0, hx0⟩ : ∃ x, (row (Vb.txt n k h) j)[j]? = some x := ⟨_, Array.getElem?_eq_getElem (by omega)⟩
     generalize row (Vb.txt n k h) j = R at *
     have b1 : (j : Int) < 64 := by omega
     clear hsz
     cases hk : k.getLsbD (n - 1 - j) <;> cases hh : h.getLsbD (n - 1 - j) <;> rw [hk, hh] at st hx <;> simp only [Bool.false_eq_true, if_true, if_false] at hx <;> have ST := h_ st <;> clear st hk hh <;> go_wp2
     all_goals exact ⟨⟨j + 1, by omega, by go_num, row_alloc (u_ ST)⟩, by simp [intOf]; omega⟩
   · have : j = n := by omega
     subst this
     have b2 : (j : Int) ≤ 64 := by omega
     have hcv := text_back j k h ((w.alloc (.cells #[.int .i64 j, .int .u64 (U k), .int .u64 (U h)] 115)).alloc (.cells #[.int .u8 120, .int .u8 122, .int .u8 48, .int .u8 49] 134)) (w.heap.size + 1 + 1) (by simp)
     generalize row (Vb.txt j k h) j = R at *
     go_wp2
     go_ret
     exact ⟨rfl, bal (bal (bal (brf _) _) _) _⟩
theorem iWidthOK (n : Int) (w : World) :
   Calls Tryz.prog 99 #[.int .i64 n] w fun e w' => e = .returned (.bool (decide (1 ≤ n ∧ n ≤ 64))) ∧ w' = w := by
 by_cases h1 : 1 ≤ n
 · by_cases h2 : n ≤ 64
   · go_enter Tryz.func99, Tryz.ntmps99
     go_wp2
     go_ret
     exact ⟨ret_bool (by simp [h1, h2]), rfl⟩
   · go_enter Tryz.func99, Tryz.ntmps99
     go_wp2
     go_ret
     exact ⟨ret_bool (by simp [h2]), rfl⟩
 · go_enter Tryz.func99, Tryz.ntmps99
   go_wp2
   go_ret
   exact ⟨ret_bool (by simp; omega), rfl⟩
theorem iBitsOf_no (v n : Int) (w : World) (h : n < 1 ∨ 64 < n) :
   Calls Tryz.prog 85 #[.int .i64 v, .int .i64 n] w fun e w' => e = .returned (.string (S [])) ∧ w' = w := by
 have hd : decide (1 ≤ n ∧ n ≤ 64) = false := by simp; omega
 go_enter Tryz.func85, Tryz.ntmps85
 go_wp2_with fail
 refine (iWidthOK _ _).mono ?_
 rw [hd]
 rintro e w' ⟨rfl, rfl⟩
 go_wp2
 go_ret
 exact ⟨rfl, rfl⟩
theorem iBitsOf (v : Int) (n : Nat) (w : World) (h1 : 1 ≤ n) (h2 : n ≤ 64) :
   CB 85 #[.int .i64 v, .int .i64 n] w (.string (S (Vb.nTxt n (v % 18446744073709551616).toNat))) := by
 have hd : decide ((1 : Int) ≤ n ∧ (n : Int) ≤ 64) = true := by simp; omega
 go_enter Tryz.func85, Tryz.ntmps85
 go_wp2_with fail
 refine (iWidthOK _ _).mono ?_
 rw [hd]
 rintro e w' ⟨rfl, rfl⟩
 go_wp2_with fail
 rw [U_wrap]
 refine (iNumber n _ h2 _).mono ?_
 rintro e w1 ⟨rfl, hb⟩
 unfold V
 go_wp2_with fail
 refine (iText n _ _ h2 _).mono ?_
 rintro e w2 ⟨rfl, hb2⟩
 rw [Vb.num_txt n _ h2, BitVec.toNat_ofInt]
 go_wp2
 go_ret
 exact ⟨rfl, btr hb hb2⟩
def Gd (w : World) : Prop := ∃ te pe, w.cell? ⟨3, 0, none⟩ = some (.iface te pe)
theorem Gd_later {w W : World} (h : Gd w) (hb : Below w.heap.size w W) : Gd W := by
 obtain ⟨te, pe, h2⟩ := h
 exact ⟨te, pe, c_ hb h2⟩
theorem foldl_ge (l : List UInt8) : ∀ (a b : Nat), a ≤ b → a ≤ l.foldl (fun a c => 10 * a + (c.toNat - 48)) b := by
 induction l with
 | nil => intro a b h; exact h
 | cons c t ih => intro a b h; exact ih a _ (by show a ≤ 10 * b + (c.toNat - 48); omega)
theorem parse_ok : ∀ (l : List UInt8) (acc : Nat), l.all Nb.digB = true → l.foldl (fun a c => 10 * a + (c.toNat - 48)) acc ≤ 18446744073709551615 → Lib.parseUintM 18446744073709551615 acc l = .ok (l.foldl (fun a c => 10 * a + (c.toNat - 48)) acc)
 | [], acc, _, _ => rfl
 | c :: t, acc, h, hv => by
   have hc := dig_range (show Nb.digB c = true by simp at h; exact h.1)
   rw [List.foldl_cons] at hv ⊢
   have hg := foldl_ge t (10 * acc + (c.toNat - 48)) _ (Nat.le_refl _)
   rw [Lib.parseUintM, if_pos hc, if_neg (by omega), if_neg (by omega), show acc * 10 + (c.toNat - 48) = 10 * acc + (c.toNat - 48) by omega]
   exact parse_ok t _ (by simp at h ⊢; exact h.2) hv
theorem parse_range : ∀ (l : List UInt8) (acc : Nat), l.all Nb.digB = true → acc ≤ 18446744073709551615 → 18446744073709551615 < l.foldl (fun a c => 10 * a + (c.toNat - 48)) acc → Lib.parseUintM 18446744073709551615 acc l = .range
 | [], acc, _, ha, hv => by simp at hv; omega
 | c :: t, acc, h, ha, hv => by
   have hc := dig_range (show Nb.digB c = true by simp at h; exact h.1)
   rw [List.foldl_cons] at hv
   rw [Lib.parseUintM, if_pos hc]
   by_cases h1 : 1844674407370955162 ≤ acc
   · rw [if_pos h1]
   · rw [if_neg h1]
     by_cases h2 : 18446744073709551615 < acc * 10 + (c.toNat - 48)
     · rw [if_pos h2]
     · rw [if_neg h2, show acc * 10 + (c.toNat - 48) = 10 * acc + (c.toNat - 48) by omega]
       exact parse_range t _ (by simp at h ⊢; exact h.2) (by omega) hv
theorem parseB_ok {l : List UInt8} (h : l.all Nb.digB = true) (h0 : l ≠ []) (hv : Nb.valD l < 18446744073709551616) : Lib.parseUintB 64 l = .ok (Nb.valD l) := by
 unfold Lib.parseUintB; rw [if_neg h0]; exact parse_ok l 0 h (by unfold Nb.valD at hv; omega)
theorem parseB_range {l : List UInt8} (h : l.all Nb.digB = true) (h0 : l ≠ []) (hv : 18446744073709551616 ≤ Nb.valD l) : Lib.parseUintB 64 l = .range := by
 unfold Lib.parseUintB; rw [if_neg h0]; exact parse_range l 0 h (by omega) (by unfold Nb.valD at hv; omega)
theorem iParseOk (s : ByteArray) (w : World) (hs : s.size ≤ 1000000) (h : (L s).all Nb.digB = true) (h0 : L s ≠ []) (V : Nat) (hV : Nb.valD (L s) = V) (hv : V < 18446744073709551616) :
   CB 69 #[.string s, .int .i64 10, .int .i64 64] w (.tuple #[.int .u64 V, .nilIface]) := by
 subst hV
 refine (Tryz.strconv_ParseUint_10_at64_ok s (by omega) _ (parseB_ok h h0 hv) w).mono fun e w' ⟨a, b⟩ => ⟨a, ?_⟩
 rcases b with rfl | rfl
 · exact brf _
 · exact Lib.bytesWorld_below _ _ _
theorem iParseRange (s : ByteArray) (w : World) (hs : s.size ≤ 1000000) (h : (L s).all Nb.digB = true) (h0 : L s ≠ []) (hv : 18446744073709551616 ≤ Nb.valD (L s)) (hg : Gd w) :
   Calls Tryz.prog 69 #[.string s, .int .i64 10, .int .i64 64] w fun e w' => (∃ N : Nat, e = .returned (.tuple #[.int .u64 18446744073709551615, .iface 119 (.pointer (some ⟨N, 0, none⟩))])) ∧ Below w.heap.size w w' := by
 obtain ⟨te, pe, h2⟩ := hg
 exact (Tryz.strconv_ParseUint_10_at64_range s (by omega) (parseB_range h h0 hv) _ w h2 (.inr ⟨te, pe, rfl⟩)).mono fun e w' ⟨N, a, _, _, b⟩ => ⟨⟨N, a⟩, b⟩
def bdV (r : List UInt8 × Nat) : Value := .tuple #[.string (S r.1), .int .i64 (r.2 : Nat)]
set_option maxRecDepth 100000 in
theorem iDec_form (s : ByteArray) (n : Nat) (w : World) (hs : s.size ≤ 1000000) (h : Nb.runE Nb.digB (L s) 0 < s.size) :
   CB 68 #[.string s, .int .i64 n] w (bdV ([], 3)) := by
 have R1 := h_ (fun v => iRun Nb.digB s ⟨#[48, 49, 50, 51, 52, 53, 54, 55, 56, 57]⟩ v (by unfold maxLen; omega) (by decide) (by decide) dig_set)
 generalize Nb.runE Nb.digB (L s) 0 = D at *
 have q : (D : Int) < s.size := by omega
 go_enter Tryz.func68, Tryz.ntmps68
 go_wp2_with (go_at_call 82; refine (u_ R1 _).mono ?_; rintro e v1 ⟨rfl, hb1⟩)
 exact bodyPost_ret (v := bdV ([], 3)) (by simp [results, Tryz.results68, go_sem, bdV, S]) rfl ⟨rfl, hb1⟩
set_option maxRecDepth 100000 in
theorem iDec_over (s : ByteArray) (n : Nat) (w : World) (hs : s.size ≤ 1000000) (h : (L s).all Nb.digB = true) (h0 : L s ≠ []) (hr : Nb.runE Nb.digB (L s) 0 = s.size) (hv : 18446744073709551616 ≤ Nb.valD (L s)) (hg : Gd w) :
   CB 68 #[.string s, .int .i64 n] w (bdV ([], 11)) := by
 have R1 := h_ (fun v => iRun Nb.digB s ⟨#[48, 49, 50, 51, 52, 53, 54, 55, 56, 57]⟩ v (by unfold maxLen; omega) (by decide) (by decide) dig_set)
 rw [hr] at R1
 have P := h_ (fun v hg => iParseRange s v hs h h0 hv hg)
 have HG := h_ hg
 clear hr h h0 hv hg
 go_enter Tryz.func68, Tryz.ntmps68
 go_wp2_with fail
 refine (u_ R1 _).mono ?_
 rintro e v1 ⟨rfl, hb1⟩
 have HB1 := h_ hb1
 clear hb1
 go_wp2_with fail
 refine (u_ P _ (Gd_later (u_ HG) (u_ HB1))).mono ?_
 rintro e v2 ⟨⟨N, rfl⟩, hb2⟩
 have HB2 := h_ (below_nst (u_ HB1) hb2)
 clear hb2
 go_wp2
 exact bodyPost_ret (v := bdV ([], 11)) (by simp [results, Tryz.results68, go_sem, bdV, S]) rfl ⟨rfl, u_ HB2⟩
set_option maxRecDepth 100000 in
theorem iDec_in (s : ByteArray) (n V : Nat) (w : World) (hs : s.size ≤ 1000000) (h1 : 1 ≤ n) (h2 : n ≤ 64) (h : (L s).all Nb.digB = true) (h0 : L s ≠ []) (hr : Nb.runE Nb.digB (L s) 0 = s.size) (hV : Nb.valD (L s) = V) (hv : V < 18446744073709551616) :
   CB 68 #[.string s, .int .i64 n] w (bdV (if 2 ^ n ≤ V then ([], 11) else (Vb.nTxt n V, 0))) := by
 have R1 := h_ (fun v => iRun Nb.digB s ⟨#[48, 49, 50, 51, 52, 53, 54, 55, 56, 57]⟩ v (by unfold maxLen; omega) (by decide) (by decide) dig_set)
 rw [hr] at R1
 have P := h_ (fun v => iParseOk s v hs h h0 V hV hv)
 clear hr h h0 hV
 have ed : (V : Int) / 2 ^ n = ((V / 2 ^ n : Nat) : Int) := by rw [Int.natCast_ediv, Int.natCast_pow]; rfl
 by_cases hg : 2 ^ n ≤ V
 · rw [if_pos hg]
   have q : ((V : Int) / 2 ^ n != 0) = true := by
     rw [bne_iff_ne, ed]; have := Nat.div_pos hg (Nat.two_pow_pos n); omega
   clear ed
   go_enter Tryz.func68, Tryz.ntmps68
   go_wp2_with fail
   refine (u_ R1 _).mono ?_
   rintro e v1 ⟨rfl, hb1⟩
   have HB1 := h_ hb1
   clear hb1
   go_wp2_with fail
   refine (u_ P _).mono ?_
   rintro e v2 ⟨rfl, hb2⟩
   have HB2 := h_ (below_nst (u_ HB1) hb2)
   clear hb2
   go_wp2
   exact bodyPost_ret (v := bdV ([], 11)) (by simp [results, Tryz.results68, go_sem, bdV, S]) rfl ⟨rfl, u_ HB2⟩
 · rw [if_neg hg]
   have q : ((V : Int) / 2 ^ n != 0) = false := by
     rw [ed, Nat.div_eq_of_lt (by omega)]; rfl
   have B := h_ (fun v => iBitsOf (wrap64 (V : Int)) n v h1 h2)
   rw [show (wrap64 (V : Int) % 18446744073709551616).toNat = V by unfold wrap64; omega] at B
   clear ed
   generalize Vb.nTxt n V = T at *
   go_enter Tryz.func68, Tryz.ntmps68
   go_wp2_with fail
   refine (u_ R1 _).mono ?_
   rintro e v1 ⟨rfl, hb1⟩
   have HB1 := h_ hb1
   clear hb1
   go_wp2_with fail
   refine (u_ P _).mono ?_
   rintro e v2 ⟨rfl, hb2⟩
   have HB2 := h_ (below_nst (u_ HB1) hb2)
   clear hb2
   go_wp2_with (go_at_call 85; refine (u_ B _).mono ?_; rintro e v3 ⟨rfl, hb3⟩)
   exact bodyPost_ret (v := bdV (T, 0)) (by simp [results, Tryz.results68, go_sem, bdV]) rfl ⟨rfl, below_nst (u_ HB2) hb3⟩
def decR (n : Nat) (v : List UInt8) : List UInt8 × Nat := if v.all Nb.digB = true then (if 2 ^ n ≤ Nb.valD v then ([], 11) else (Vb.nTxt n (Nb.valD v), 0)) else ([], 3)
theorem run_all {l : List UInt8} : Nb.runE Nb.digB l 0 = l.length ↔ l.all Nb.digB = true := by
 unfold Nb.runE
 rw [List.drop_zero, Nat.zero_add]
 induction l with
 | nil => simp
 | cons c t ih =>
   rw [List.takeWhile_cons, List.all_cons]
   cases hc : Nb.digB c
   · simp
   · simpa using ih
theorem iDec (s : ByteArray) (n : Nat) (w : World) (hs : s.size ≤ 1000000) (h1 : 1 ≤ n) (h2 : n ≤ 64) (h0 : L s ≠ []) (hg : Gd w) :
   CB 68 #[.string s, .int .i64 n] w (bdV (decR n (L s))) := by
 have hl : (L s).length = s.size := L_len s
 unfold decR
 cases ha : (L s).all Nb.digB
 · rw [if_neg (by decide)]
   refine iDec_form s n w hs ?_
   have hle := Nb.runE_le (p := Nb.digB) (l := L s) (i := 0) (by omega)
   have : Nb.runE Nb.digB (L s) 0 ≠ (L s).length := fun e => by rw [run_all.1 e] at ha; exact absurd ha (by decide)
   omega
 · rw [if_pos rfl]
   have hr : Nb.runE Nb.digB (L s) 0 = s.size := by rw [run_all.2 ha, hl]
   by_cases hv : 18446744073709551616 ≤ Nb.valD (L s)
   · rw [if_pos (Nat.le_trans (Nat.pow_le_pow_right (by decide) h2) hv)]
     exact iDec_over s n w hs ha h0 hr hv hg
   · exact iDec_in s n _ w hs h1 h2 ha h0 hr rfl (by omega)
theorem hex_index (c : UInt8) (hv : Nb.valB c = true) (hx : ¬ (c = 120 ∨ c = 122)) : Lib.indexByte ([48, 49, 50, 51, 52, 53, 54, 55, 56, 57, 97, 98, 99, 100, 101, 102] : List UInt8) c = (Nb.hexV c : Nat) := by
 have h : ∀ n : Fin 256, Nb.valB (UInt8.ofFin n) = true → ¬ (UInt8.ofFin n = 120 ∨ UInt8.ofFin n = 122) → Lib.indexByte ([48, 49, 50, 51, 52, 53, 54, 55, 56, 57, 97, 98, 99, 100, 101, 102] : List UInt8) (UInt8.ofFin n) = (Nb.hexV (UInt8.ofFin n) : Nat) := by decide +kernel
 exact h c.toFin hv hx
theorem val_ascii {c : UInt8} (hv : Nb.valB c = true) : c.toNat < 128 := by
 have h : ∀ n : Fin 256, Nb.valB (UInt8.ofFin n) = true → (UInt8.ofFin n).toNat < 128 := by decide +kernel
 exact h c.toFin hv
theorem rep_one (c : UInt8) (n : Nat) : Lib.repeatL [c] n = List.replicate n c := by
 induction n with
 | zero => rfl
 | succ n ih => rw [Lib.repeatL, ih]; rfl
theorem iRep (s : ByteArray) (n : Nat) (w : World) (hn : s.size * n ≤ 1000000) (hn2 : n ≤ 1000000) :
   CB 111 #[.string s, .int .i64 n] w (.string (S (Lib.repeatL (L s) n))) :=
 Tryz.strings_Repeat s n w (by omega) (by omega)
theorem iIdx (c : UInt8) (w : World) (hv : Nb.valB c = true) (hx : ¬ (c = 120 ∨ c = 122)) :
   Calls Tryz.prog 127 #[.string ⟨#[48, 49, 50, 51, 52, 53, 54, 55, 56, 57, 97, 98, 99, 100, 101, 102]⟩, .int .i32 (c.toNat : Int)] w fun e w' => e = .returned (.int .i64 (Nb.hexV c : Nat)) ∧ w = w' := by
 have h := Tryz.strings_IndexRune_ascii ⟨#[48, 49, 50, 51, 52, 53, 54, 55, 56, 57, 97, 98, 99, 100, 101, 102]⟩ (c.toNat : Int) w (by omega) (by have := val_ascii hv; omega)
 have e : ((c.toNat : Int)).toNat.toUInt8 = c := by rw [Int.toNat_natCast]; exact UInt8.ofNat_toNat
 rw [e] at h
 have h2 := hex_index c hv hx
 exact h.mono fun a w' ⟨p, q⟩ => ⟨by rw [p]; congr 2, q.symm⟩
set_option maxRecDepth 100000 in
theorem iDigX (c : UInt8) (n : Nat) (w : World) (hx : c = 120 ∨ c = 122) (hn : n ≤ 4) :
   CB 109 #[.int .i32 (c.toNat : Int), .int .i64 n] w (.string (S (List.replicate n c))) := by
 have R := h_ (fun v => iRep (S [c]) n v (by rw [S_size]; simp; omega) (by omega))
 rw [L_S, rep_one] at R
 generalize S (List.replicate n c) = T at *
 rcases hx with rfl | rfl
 · show Calls Tryz.prog 109 #[.int .i32 120, .int .i64 n] w _
   go_enter Tryz.func109, Tryz.ntmps109
   go_wp2_with fail
   rw [show Utf8.encode 120 = S [120] by kernel_rfl]
   refine (u_ R _).mono ?_
   rintro e v1 ⟨rfl, hb1⟩
   go_wp2
   go_ret
   exact ⟨rfl, hb1⟩
 · show Calls Tryz.prog 109 #[.int .i32 122, .int .i64 n] w _
   go_enter Tryz.func109, Tryz.ntmps109
   go_wp2_with fail
   rw [show Utf8.encode 122 = S [122] by kernel_rfl]
   refine (u_ R _).mono ?_
   rintro e v1 ⟨rfl, hb1⟩
   go_wp2
   go_ret
   exact ⟨rfl, hb1⟩
set_option maxRecDepth 100000 in
theorem iDig1ok (k x : Nat) (w : World) (h1 : k ≠ 120) (h2 : k ≠ 122) (hx : x < 16) (hg : x < 2) (I : ∀ v, Calls Tryz.prog 127 #[.string ⟨#[48, 49, 50, 51, 52, 53, 54, 55, 56, 57, 97, 98, 99, 100, 101, 102]⟩, .int .i32 k] v fun e w' => e = .returned (.int .i64 (x : Nat)) ∧ v = w') :
   CB 109 #[.int .i32 k, .int .i64 1] w (.string (S (Vb.nTxt 1 x))) := by
 have I := h_ I
 have q1 : ((k : Int) == 120) = false := by rw [beq_eq_false_iff_ne]; omega
 have q2 : ((k : Int) == 122) = false := by rw [beq_eq_false_iff_ne]; omega
 have q : ¬ (2 : Int) ≤ x := by omega
 have B := h_ (fun v => iBitsOf (x : Int) 1 v (by omega) (by omega))
 rw [show ((x : Int) % 18446744073709551616).toNat = x by omega] at B
 generalize S (Vb.nTxt 1 x) = T at *
 go_enter Tryz.func109, Tryz.ntmps109
 go_wp2_with (first | (go_at_call 127; refine (u_ I _).mono ?_; rintro e w' ⟨rfl, rfl⟩) | (go_at_call 85; refine (u_ B _).mono ?_; rintro e v1 ⟨rfl, hb1⟩))
 go_ret
 exact ⟨rfl, hb1⟩
set_option maxRecDepth 100000 in
theorem iDig1no (k x : Nat) (w : World) (h1 : k ≠ 120) (h2 : k ≠ 122) (hx : x < 16) (hg : 2 ≤ x) (I : ∀ v, Calls Tryz.prog 127 #[.string ⟨#[48, 49, 50, 51, 52, 53, 54, 55, 56, 57, 97, 98, 99, 100, 101, 102]⟩, .int .i32 k] v fun e w' => e = .returned (.int .i64 (x : Nat)) ∧ v = w') :
   CB 109 #[.int .i32 k, .int .i64 1] w (.string (S [])) := by
 have I := h_ I
 have q1 : ((k : Int) == 120) = false := by rw [beq_eq_false_iff_ne]; omega
 have q2 : ((k : Int) == 122) = false := by rw [beq_eq_false_iff_ne]; omega
 have q : (2 : Int) ≤ x := by omega
 go_enter Tryz.func109, Tryz.ntmps109
 go_wp2_with (first | (go_at_call 127; refine (u_ I _).mono ?_; rintro e w' ⟨rfl, rfl⟩))
 go_ret
 exact ⟨rfl, brf _⟩
set_option maxRecDepth 100000 in
theorem iDig3ok (k x : Nat) (w : World) (h1 : k ≠ 120) (h2 : k ≠ 122) (hx : x < 16) (hg : x < 8) (I : ∀ v, Calls Tryz.prog 127 #[.string ⟨#[48, 49, 50, 51, 52, 53, 54, 55, 56, 57, 97, 98, 99, 100, 101, 102]⟩, .int .i32 k] v fun e w' => e = .returned (.int .i64 (x : Nat)) ∧ v = w') :
   CB 109 #[.int .i32 k, .int .i64 3] w (.string (S (Vb.nTxt 3 x))) := by
 have I := h_ I
 have q1 : ((k : Int) == 120) = false := by rw [beq_eq_false_iff_ne]; omega
 have q2 : ((k : Int) == 122) = false := by rw [beq_eq_false_iff_ne]; omega
 have q : ¬ (8 : Int) ≤ x := by omega
 have B := h_ (fun v => iBitsOf (x : Int) 3 v (by omega) (by omega))
 rw [show ((x : Int) % 18446744073709551616).toNat = x by omega] at B
 generalize S (Vb.nTxt 3 x) = T at *
 go_enter Tryz.func109, Tryz.ntmps109
 go_wp2_with (first | (go_at_call 127; refine (u_ I _).mono ?_; rintro e w' ⟨rfl, rfl⟩) | (go_at_call 85; refine (u_ B _).mono ?_; rintro e v1 ⟨rfl, hb1⟩))
 go_ret
 exact ⟨rfl, hb1⟩
set_option maxRecDepth 100000 in
theorem iDig3no (k x : Nat) (w : World) (h1 : k ≠ 120) (h2 : k ≠ 122) (hx : x < 16) (hg : 8 ≤ x) (I : ∀ v, Calls Tryz.prog 127 #[.string ⟨#[48, 49, 50, 51, 52, 53, 54, 55, 56, 57, 97, 98, 99, 100, 101, 102]⟩, .int .i32 k] v fun e w' => e = .returned (.int .i64 (x : Nat)) ∧ v = w') :
   CB 109 #[.int .i32 k, .int .i64 3] w (.string (S [])) := by
 have I := h_ I
 have q1 : ((k : Int) == 120) = false := by rw [beq_eq_false_iff_ne]; omega
 have q2 : ((k : Int) == 122) = false := by rw [beq_eq_false_iff_ne]; omega
 have q : (8 : Int) ≤ x := by omega
 go_enter Tryz.func109, Tryz.ntmps109
 go_wp2_with (first | (go_at_call 127; refine (u_ I _).mono ?_; rintro e w' ⟨rfl, rfl⟩))
 go_ret
 exact ⟨rfl, brf _⟩
set_option maxRecDepth 100000 in
theorem iDig4ok (k x : Nat) (w : World) (h1 : k ≠ 120) (h2 : k ≠ 122) (hx : x < 16) (hg : x < 16) (I : ∀ v, Calls Tryz.prog 127 #[.string ⟨#[48, 49, 50, 51, 52, 53, 54, 55, 56, 57, 97, 98, 99, 100, 101, 102]⟩, .int .i32 k] v fun e w' => e = .returned (.int .i64 (x : Nat)) ∧ v = w') :
   CB 109 #[.int .i32 k, .int .i64 4] w (.string (S (Vb.nTxt 4 x))) := by
 have I := h_ I
 have q1 : ((k : Int) == 120) = false := by rw [beq_eq_false_iff_ne]; omega
 have q2 : ((k : Int) == 122) = false := by rw [beq_eq_false_iff_ne]; omega
 have q : ¬ (16 : Int) ≤ x := by omega
 have B := h_ (fun v => iBitsOf (x : Int) 4 v (by omega) (by omega))
 rw [show ((x : Int) % 18446744073709551616).toNat = x by omega] at B
 generalize S (Vb.nTxt 4 x) = T at *
 go_enter Tryz.func109, Tryz.ntmps109
 go_wp2_with (first | (go_at_call 127; refine (u_ I _).mono ?_; rintro e w' ⟨rfl, rfl⟩) | (go_at_call 85; refine (u_ B _).mono ?_; rintro e v1 ⟨rfl, hb1⟩))
 go_ret
 exact ⟨rfl, hb1⟩
set_option maxRecDepth 100000 in
theorem iDig4no (k x : Nat) (w : World) (h1 : k ≠ 120) (h2 : k ≠ 122) (hx : x < 16) (hg : 16 ≤ x) (I : ∀ v, Calls Tryz.prog 127 #[.string ⟨#[48, 49, 50, 51, 52, 53, 54, 55, 56, 57, 97, 98, 99, 100, 101, 102]⟩, .int .i32 k] v fun e w' => e = .returned (.int .i64 (x : Nat)) ∧ v = w') :
   CB 109 #[.int .i32 k, .int .i64 4] w (.string (S [])) := by
 have I := h_ I
 have q1 : ((k : Int) == 120) = false := by rw [beq_eq_false_iff_ne]; omega
 have q2 : ((k : Int) == 122) = false := by rw [beq_eq_false_iff_ne]; omega
 have q : (16 : Int) ≤ x := by omega
 go_enter Tryz.func109, Tryz.ntmps109
 go_wp2_with (first | (go_at_call 127; refine (u_ I _).mono ?_; rintro e w' ⟨rfl, rfl⟩))
 go_ret
 exact ⟨rfl, brf _⟩
theorem hexV_lt {c : UInt8} (hv : Nb.valB c = true) (hx : ¬ (c = 120 ∨ c = 122)) : Nb.hexV c < 16 := by
 have h : ∀ n : Fin 256, Nb.valB (UInt8.ofFin n) = true → ¬ (UInt8.ofFin n = 120 ∨ UInt8.ofFin n = 122) → Nb.hexV (UInt8.ofFin n) < 16 := by decide +kernel
 exact h c.toFin hv hx
theorem nDigit (c : UInt8) (n : Nat) (w : World) (hv : Nb.valB c = true) (hn : n = 1 ∨ n = 3 ∨ n = 4) :
   CB 109 #[.int .i32 (c.toNat : Int), .int .i64 n] w (.string (S ((Nb.digT n c).getD []))) := by
 by_cases hx : c = 120 ∨ c = 122
 · rw [show Nb.digT n c = some (List.replicate n c) by unfold Nb.digT; rw [if_pos hx]]
   exact iDigX c n w hx (by omega)
 · rw [show Nb.digT n c = if 2 ^ n ≤ Nb.hexV c then none else some (Vb.nTxt n (Nb.hexV c)) by unfold Nb.digT; rw [if_neg hx]]
   have I := fun v => iIdx c v hv hx
   have k1 : c.toNat ≠ 120 := fun e => hx (.inl (UInt8.toNat_inj.1 e))
   have k2 : c.toNat ≠ 122 := fun e => hx (.inr (UInt8.toNat_inj.1 e))
   have hl := hexV_lt hv hx
   rcases hn with rfl | rfl | rfl
   · by_cases hg : 2 ^ 1 ≤ Nb.hexV c
     · rw [if_pos hg]; exact iDig1no _ _ w k1 k2 hl hg I
     · rw [if_neg hg]; exact iDig1ok _ _ w k1 k2 hl (by omega) I
   · by_cases hg : 2 ^ 3 ≤ Nb.hexV c
     · rw [if_pos hg]; exact iDig3no _ _ w k1 k2 hl hg I
     · rw [if_neg hg]; exact iDig3ok _ _ w k1 k2 hl (by omega) I
   · rw [if_neg (by omega)]; exact iDig4ok _ _ w k1 k2 hl (by omega) I
end Go.Proofs.YtddlokkejglckaaGreatDoor
