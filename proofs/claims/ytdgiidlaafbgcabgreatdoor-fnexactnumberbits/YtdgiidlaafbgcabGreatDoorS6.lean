/- What the specification's one-bit functions, l01NotAll, l01Truth and l01Fill answer. -/
import Derived.Test.YtdgiidlaafbgcabGreatDoorS5
import Derived.Test.YtdgiidlaafbgcabGreatDoorOwn
namespace Go.Proofs.YtdgiidlaafbgcabGreatDoor
open Go.RowKit
def notB (c : UInt8) : UInt8 := if c = 48 then 49 else if c = 49 then 48 else 120
def andB (a b : UInt8) : UInt8 := if a = 48 ∨ b = 48 then 48 else if a = 49 ∧ b = 49 then 49 else 120
def orB (a b : UInt8) : UInt8 := notB (andB (notB a) (notB b))
def xorB (a b : UInt8) : UInt8 := orB (andB a (notB b)) (andB (notB a) b)
/-- The truth of a vector: 1 if there is a 1, 0 if all is 0, else x. -/
def truthL (l : List UInt8) : UInt8 := if l.any Vb.oneB then 49 else if l.all (fun c => c == 48) then 48 else 120
theorem is8 (c : UInt8) (n : Nat) (hn : n < 256) : (c = UInt8.ofNat n ∧ (c.toNat : Int) = n) ∨ (¬ c = UInt8.ofNat n ∧ ((c.toNat : Int) == n) = false ∧ ((c.toNat : Int) != n) = true) := by
  by_cases h : c = UInt8.ofNat n
  · exact .inl ⟨h, by rw [h, UInt8.toNat_ofNat']; omega⟩
  · exact .inr ⟨h, u8_nq n hn h, u8_ne n hn h⟩
set_option maxHeartbeats 400000 in
theorem sNot (c : UInt8) (w : World) :
    Calls Tryz.prog 51 #[.int .u8 (c.toNat : Int)] w fun e w' => e = .returned (.int .u8 ((notB c).toNat : Int)) ∧ w' = w := by
  by_cases h0 : c = 48
  · subst h0
    go_enter Tryz.func51, Tryz.ntmps51
    go_wp2
    go_ret
    exact ⟨rfl, rfl⟩
  · by_cases h1 : c = 49
    · subst h1
      go_enter Tryz.func51, Tryz.ntmps51
      go_wp2
      go_ret
      exact ⟨rfl, rfl⟩
    · have n1 : ((c.toNat : Int) == 48) = false := u8_nq 48 (by omega) h0
      have n2 : ((c.toNat : Int) == 49) = false := u8_nq 49 (by omega) h1
      rw [show notB c = 120 by unfold notB; rw [if_neg h0, if_neg h1]]
      clear h0 h1
      go_enter Tryz.func51, Tryz.ntmps51
      go_wp2
      go_ret
      exact ⟨rfl, rfl⟩
set_option maxHeartbeats 400000 in
theorem sAnd (a b : UInt8) (w : World) :
    Calls Tryz.prog 32 #[.int .u8 (a.toNat : Int), .int .u8 (b.toNat : Int)] w fun e w' => e = .returned (.int .u8 ((andB a b).toNat : Int)) ∧ w' = w := by
  by_cases h0 : a = 48
  · subst h0
    rw [show andB 48 b = 48 by unfold andB; rw [if_pos (.inl rfl)]]
    go_enter Tryz.func32, Tryz.ntmps32
    go_wp2
    go_ret
    exact ⟨rfl, rfl⟩
  · have n1 : ((a.toNat : Int) == 48) = false := u8_nq 48 (by omega) h0
    by_cases h1 : b = 48
    · subst h1
      rw [show andB a 48 = 48 by unfold andB; rw [if_pos (.inr rfl)]]
      clear h0
      go_enter Tryz.func32, Tryz.ntmps32
      go_wp2
      go_ret
      exact ⟨rfl, rfl⟩
    · have n2 : ((b.toNat : Int) == 48) = false := u8_nq 48 (by omega) h1
      by_cases h2 : a = 49
      · by_cases h3 : b = 49
        · subst h2 h3
          clear h0 h1 n1 n2
          go_enter Tryz.func32, Tryz.ntmps32
          go_wp2
          go_ret
          exact ⟨rfl, rfl⟩
        · have n3 : ((b.toNat : Int) == 49) = false := u8_nq 49 (by omega) h3
          rw [show andB a b = 120 by unfold andB; rw [if_neg (by simp [h0, h1]), if_neg (by simp [h3])]]
          subst h2
          clear h0 h1 h3 n1
          go_enter Tryz.func32, Tryz.ntmps32
          go_wp2
          go_ret
          exact ⟨rfl, rfl⟩
      · have n3 : ((a.toNat : Int) == 49) = false := u8_nq 49 (by omega) h2
        rw [show andB a b = 120 by unfold andB; rw [if_neg (by simp [h0, h1]), if_neg (by simp [h2])]]
        clear h0 h1 h2
        go_enter Tryz.func32, Tryz.ntmps32
        go_wp2
        go_ret
        exact ⟨rfl, rfl⟩
set_option maxHeartbeats 400000 in
theorem sOr (a b : UInt8) (w : World) :
    Calls Tryz.prog 31 #[.int .u8 (a.toNat : Int), .int .u8 (b.toNat : Int)] w fun e w' => e = .returned (.int .u8 ((orB a b).toNat : Int)) ∧ w' = w := by
  go_enter Tryz.func31, Tryz.ntmps31
  go_wp2_with (first | (go_at_call 51; refine (sNot _ _).mono ?_; rintro e w' ⟨rfl, rfl⟩) | (go_at_call 32; refine (sAnd _ _ _).mono ?_; rintro e w' ⟨rfl, rfl⟩))
  go_ret
  exact ⟨rfl, rfl⟩
set_option maxHeartbeats 400000 in
theorem sXor (a b : UInt8) (w : World) :
    Calls Tryz.prog 30 #[.int .u8 (a.toNat : Int), .int .u8 (b.toNat : Int)] w fun e w' => e = .returned (.int .u8 ((xorB a b).toNat : Int)) ∧ w' = w := by
  go_enter Tryz.func30, Tryz.ntmps30
  go_wp2_with (first | (go_at_call 51; refine (sNot _ _).mono ?_; rintro e w' ⟨rfl, rfl⟩) | (go_at_call 32; refine (sAnd _ _ _).mono ?_; rintro e w' ⟨rfl, rfl⟩) | (go_at_call 31; refine (sOr _ _ _).mono ?_; rintro e w' ⟨rfl, rfl⟩))
  go_ret
  exact ⟨rfl, rfl⟩
end Go.Proofs.YtdgiidlaafbgcabGreatDoor
