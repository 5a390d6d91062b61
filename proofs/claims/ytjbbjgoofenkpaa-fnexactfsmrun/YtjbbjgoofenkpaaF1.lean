/- What both answer of a machine; small functions of the program. -/
import Derived.Test.YtjbbjgoofenkpaaLC
import Derived.Test.YtjbbjgoofenkpaaM1
import Derived.Test.YtjbbjgoofenkpaaAN
namespace Go.Proofs.Ytjbbjgoofenkpaa
open Go.RowKit Gs
set_option linter.unusedVariables false
set_option linter.unusedSimpArgs false
set_option maxRecDepth 100000
/-- How many inputs there are. -/
def cntI (ins : Int) : Nat := 2 ^ ins.toNat
theorem cntI_small {ins : Int} (h5 : ins ≤ 5) : cntI ins ≤ 32 := by
  unfold cntI
  have : 2 ^ ins.toNat ≤ 2 ^ 5 := Nat.pow_le_pow_right (by omega) (by omega)
  exact this
theorem wrapI {ins : Int} (h5 : ins ≤ 5) : wrap64 (2 ^ ins.toNat) = ((cntI ins : Nat) : Int) := by
  have e : (2 : Int) ^ ins.toNat = ((cntI ins : Nat) : Int) := by unfold cntI; push_cast; rfl
  have := cntI_small h5
  rw [e]
  unfold wrap64; omega
theorem iCount (ins ob : Int) (v2 v3 v4 : Value) (w : World) (h0 : 0 ≤ ins) (h5 : ins ≤ 5) :
    Calls Try.prog 25 #[.agg #[.int .i64 ins, .int .i64 ob, v2, v3, v4]] w fun e w' => e = .returned (.int .i64 (cntI ins : Nat)) ∧ Below w.heap.size w w' := by
  have hw := wrapI h5
  go_enter Try.func25, Try.ntmps25
  go_wp2
  go_ret
  exact ⟨by rw [← hw]; rfl, bal (brf w) _⟩
/-- The counts of a machine. -/
def cntB (ins ob : Int) (n2 n3 n4 : Nat) : Bool := decide (0 ≤ ins) && decide (ins ≤ 5) && (decide (1 ≤ ob) && decide (ob ≤ 64)) && (decide (1 ≤ n2) && decide (n2 ≤ 64) && decide (n3 = n2) && decide (n4 = n2))
set_option maxHeartbeats 8000000 in
theorem iCounts (ins ob : Int) (a2 a3 a4 : Option Addr) (n2 n3 n4 c2 c3 c4 : Nat) (w : World) (h2 : n2 ≤ maxLen) (h3 : n3 ≤ maxLen) (h4 : n4 ≤ maxLen) :
    Calls Try.prog 33 #[.agg #[.int .i64 ins, .int .i64 ob, .slice a2 n2 c2, .slice a3 n3 c3, .slice a4 n4 c4]] w fun e w' => e = .returned (.bool (cntB ins ob n2 n3 n4)) ∧ Below w.heap.size w w' := by
  unfold maxLen at h2 h3 h4
  have WO := hide (fun V => iWidthOK ob V)
  by_cases q0 : ins < 0
  · have E : cntB ins ob n2 n3 n4 = false := by simp [cntB, show ¬ (0 ≤ ins) by omega]
    rw [E]
    go_enter Try.func33, Try.ntmps33
    go_wp2
    go_ret
    exact ⟨rfl, bal (brf w) _⟩
  have d0 : decide (ins < 0) = false := decide_eq_false q0
  by_cases q5 : 5 < ins
  · have E : cntB ins ob n2 n3 n4 = false := by simp [cntB, show ¬ (ins ≤ 5) by omega]
    rw [E]
    go_enter Try.func33, Try.ntmps33
    go_wp2
    go_ret
    exact ⟨rfl, bal (brf w) _⟩
  have d5 : decide (5 < ins) = false := decide_eq_false q5
  cases hob : (decide (1 ≤ ob) && decide (ob ≤ 64))
  · have E : cntB ins ob n2 n3 n4 = false := by simp only [cntB, hob]; simp
    rw [E]
    rw [hob] at WO
    go_enter Try.func33, Try.ntmps33
    go_wp2_with (go_at_call 37; refine (unhide WO _).mono ?_; rintro e V1 ⟨rfl, rfl⟩)
    go_ret
    exact ⟨rfl, bal (brf w) _⟩
  rw [hob] at WO
  have E : cntB ins ob n2 n3 n4 = (decide (1 ≤ n2) && decide (n2 ≤ 64) && decide (n3 = n2) && decide (n4 = n2)) := by
    simp only [cntB, hob]; simp [show 0 ≤ ins by omega, show ins ≤ 5 by omega]
  rw [E]
  clear E
  by_cases p1 : 1 ≤ n2
  · have i1 : (1 : Int) ≤ (n2 : Int) := by omega
    by_cases p2 : n2 ≤ 64
    · have i2 : (n2 : Int) ≤ 64 := by omega
      by_cases p3 : n3 = n2
      · have H : Hid ((decide (1 ≤ n2) && decide (n2 ≤ 64) && decide (n3 = n2) && decide (n4 = n2)) = ((n4 : Int) == (n2 : Int))) := hide (by rw [beq_nat]; simp [p1, p2, p3])
        rw [unhide H]
        subst p3
        clear H
        go_enter Try.func33, Try.ntmps33
        go_wp2_with (go_at_call 37; refine (unhide WO _).mono ?_; rintro e V1 ⟨rfl, rfl⟩)
        go_ret
        exact ⟨rfl, bal (brf _) _⟩
      · have H : Hid ((decide (1 ≤ n2) && decide (n2 ≤ 64) && decide (n3 = n2) && decide (n4 = n2)) = false) := hide (by simp [p3])
        rw [unhide H]
        have i3 : ((n3 : Int) == (n2 : Int)) = false := by rw [beq_nat]; exact decide_eq_false p3
        clear H p3
        go_enter Try.func33, Try.ntmps33
        go_wp2_with (go_at_call 37; refine (unhide WO _).mono ?_; rintro e V1 ⟨rfl, rfl⟩)
        go_ret
        exact ⟨rfl, bal (brf _) _⟩
    · have H : Hid ((decide (1 ≤ n2) && decide (n2 ≤ 64) && decide (n3 = n2) && decide (n4 = n2)) = false) := hide (by simp [p2])
      rw [unhide H]
      have i2 : decide ((n2 : Int) ≤ 64) = false := decide_eq_false (by omega)
      clear H p2
      go_enter Try.func33, Try.ntmps33
      go_wp2_with (go_at_call 37; refine (unhide WO _).mono ?_; rintro e V1 ⟨rfl, rfl⟩)
      go_ret
      exact ⟨rfl, bal (brf _) _⟩
  · have H : Hid ((decide (1 ≤ n2) && decide (n2 ≤ 64) && decide (n3 = n2) && decide (n4 = n2)) = false) := hide (by simp [p1])
    rw [unhide H]
    have i1 : decide ((1 : Int) ≤ (n2 : Int)) = false := decide_eq_false (by omega)
    clear H p1
    go_enter Try.func33, Try.ntmps33
    go_wp2_with (go_at_call 37; refine (unhide WO _).mono ?_; rintro e V1 ⟨rfl, rfl⟩)
    go_ret
    exact ⟨rfl, bal (brf _) _⟩
end Go.Proofs.Ytjbbjgoofenkpaa
