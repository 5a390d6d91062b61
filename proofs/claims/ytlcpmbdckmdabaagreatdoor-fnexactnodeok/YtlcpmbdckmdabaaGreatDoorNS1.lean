/- What the specification's l02Digit, l02Base, l02Value and l02Number answer. -/
import Derived.Test.YtlcpmbdckmdabaaGreatDoorNBX
import Derived.Test.YtlcpmbdckmdabaaGreatDoorSX
namespace Go.Proofs.YtlcpmbdckmdabaaGreatDoor
open Go.RowKit
set_option maxRecDepth 100000
theorem u8_le (a b : UInt8) : decide (a ≤ b) = decide ((a.toNat : Int) ≤ (b.toNat : Int)) := by
  rw [decide_eq_decide, UInt8.le_iff_toNat_le]; omega
theorem u8b (a b : UInt8) : (a == b) = ((a.toNat : Int) == (b.toNat : Int)) := by
  rw [Bool.eq_iff_iff, beq_iff_eq, beq_iff_eq, ← UInt8.toNat_inj]; omega
theorem sDigit (c : UInt8) (w : World) : Calls Tryz.prog 49 #[.int .u8 (c.toNat : Int)] w fun e w' => e = .returned (.bool (Nb.digB c)) ∧ w' = w := by
  have hd : Nb.digB c = (decide ((48 : Int) ≤ (c.toNat : Int)) && decide ((c.toNat : Int) ≤ 57)) := by
    unfold Nb.digB; rw [u8_le, u8_le]; rfl
  rw [hd]
  generalize (c.toNat : Int) = n
  go_enter Tryz.func49, Tryz.ntmps49
  go_wp2
  all_goals (go_ret; exact ⟨by first | (simp_all; done) | (simp_all; omega), rfl⟩)
theorem sBase (c : UInt8) (w : World) : Calls Tryz.prog 65 #[.int .u8 (c.toNat : Int)] w fun e w' => e = .returned (.bool (Nb.baseB c)) ∧ w' = w := by
  have hd : Nb.baseB c = ((c.toNat : Int) == 98 || (c.toNat : Int) == 111 || (c.toNat : Int) == 104 || (c.toNat : Int) == 100) := by
    unfold Nb.baseB; rw [u8b, u8b, u8b, u8b]; rfl
  rw [hd]
  generalize (c.toNat : Int) = n
  go_enter Tryz.func65, Tryz.ntmps65
  go_wp2
  all_goals (go_ret; exact ⟨by first | (simp_all; done) | (simp_all; omega), rfl⟩)
theorem sValue (c : UInt8) (w : World) : Calls Tryz.prog 66 #[.int .u8 (c.toNat : Int)] w fun e w' => e = .returned (.bool (Nb.valB c)) ∧ w' = w := by
  have hd : Nb.valB c = (Nb.digB c || (decide ((97 : Int) ≤ (c.toNat : Int)) && decide ((c.toNat : Int) ≤ 102)) || (c.toNat : Int) == 120 || (c.toNat : Int) == 122) := by
    unfold Nb.valB; rw [u8_le, u8_le, u8b, u8b]; rfl
  rw [hd]
  have D := hide (sDigit c w)
  generalize Nb.digB c = g at *
  generalize (c.toNat : Int) = n at *
  go_enter Tryz.func66, Tryz.ntmps66
  go_wp2_with fail
  refine (unhide D).mono ?_
  rintro e w' ⟨rfl, rfl⟩
  cases g
  · go_wp2
    all_goals (go_ret; refine ⟨?_, rfl⟩; first | (rw [show decide ((97 : Int) ≤ n) = false from decide_eq_false (by omega)]; rfl) | (simp_all; done) | (simp_all; omega))
  · go_wp2
    go_ret
    exact ⟨by simp, rfl⟩
theorem gD (s : ByteArray) (i : Nat) (h : i < s.size) : s[i] = (L s).getD i 0 := by
  rw [List.getD_eq_getElem?_getD, List.getElem?_eq_getElem (by rw [L_len]; exact h)]; rfl
theorem numE_1 {l : List UInt8} {a D : Nat} (hD : Nb.runE Nb.digB l a = D) (h : D = a ∨ D = l.length ∨ l.getD D 0 ≠ 39) : Nb.numE l a = (D, decide (a < D)) := by
  unfold Nb.numE; rw [hD, if_pos h]
theorem numE_2 {l : List UInt8} {a D : Nat} (hD : Nb.runE Nb.digB l a = D) (h : ¬ (D = a ∨ D = l.length ∨ l.getD D 0 ≠ 39)) (h1 : l.getD (D + 1) 0 = 115) (h2 : D + 2 = l.length ∨ Nb.baseB (l.getD (D + 2) 0) = false) : Nb.numE l a = (D + 2, false) := by
  unfold Nb.numE; rw [hD, if_neg h, if_pos h1, if_pos h2]
theorem numE_3 {l : List UInt8} {a D : Nat} (hD : Nb.runE Nb.digB l a = D) (h : ¬ (D = a ∨ D = l.length ∨ l.getD D 0 ≠ 39)) (h1 : l.getD (D + 1) 0 = 115) (h2 : ¬ (D + 2 = l.length ∨ Nb.baseB (l.getD (D + 2) 0) = false)) : Nb.numE l a = (Nb.runE Nb.valB l (D + 3), decide (D + 3 < Nb.runE Nb.valB l (D + 3))) := by
  unfold Nb.numE; rw [hD, if_neg h, if_pos h1, if_neg h2]
theorem numE_4 {l : List UInt8} {a D : Nat} (hD : Nb.runE Nb.digB l a = D) (h : ¬ (D = a ∨ D = l.length ∨ l.getD D 0 ≠ 39)) (h1 : ¬ l.getD (D + 1) 0 = 115) (h2 : D + 1 = l.length ∨ Nb.baseB (l.getD (D + 1) 0) = false) : Nb.numE l a = (D + 1, false) := by
  unfold Nb.numE; rw [hD, if_neg h, if_neg h1, if_pos h2]
theorem numE_5 {l : List UInt8} {a D : Nat} (hD : Nb.runE Nb.digB l a = D) (h : ¬ (D = a ∨ D = l.length ∨ l.getD D 0 ≠ 39)) (h1 : ¬ l.getD (D + 1) 0 = 115) (h2 : ¬ (D + 1 = l.length ∨ Nb.baseB (l.getD (D + 1) 0) = false)) : Nb.numE l a = (Nb.runE Nb.valB l (D + 2), decide (D + 2 < Nb.runE Nb.valB l (D + 2))) := by
  unfold Nb.numE; rw [hD, if_neg h, if_neg h1, if_neg h2]
end Go.Proofs.YtlcpmbdckmdabaaGreatDoor
