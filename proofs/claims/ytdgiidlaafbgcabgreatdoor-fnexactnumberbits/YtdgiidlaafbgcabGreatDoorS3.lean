/- What the specification's IntOf answers. -/
import Derived.Test.YtdgiidlaafbgcabGreatDoorS2
namespace Go.Proofs.YtdgiidlaafbgcabGreatDoor
open Go.RowKit
/-- The number that a known text tells, read with a sign if b says so, as an int. -/
def intL (b : Bool) (l : List UInt8) : Int := wrap64 ((Vb.num l : Int) - (if b && Vb.oneB (l.headD 0) then 2 ^ l.length else 0))
theorem intL_no {b : Bool} {l : List UInt8} (h : (b && Vb.oneB (l.headD 0)) = false) : intL b l = wrap64 (Vb.num l) := by
  unfold intL; rw [h]; simp
theorem intL_64 {b : Bool} {l : List UInt8} (h : l.length = 64) : intL b l = wrap64 (Vb.num l) := by
  unfold intL
  cases hb : (b && Vb.oneB (l.headD 0))
  · simp
  · rw [if_pos rfl, h]; unfold wrap64; omega
theorem intL_yes {l : List UInt8} (h : Vb.oneB (l.headD 0) = true) : intL true l = wrap64 ((Vb.num l : Int) - 2 ^ l.length) := by
  unfold intL; rw [h]; simp
theorem one_no {c : UInt8} (h : Vb.oneB c = false) : ((c.toNat : Int) == 49) = false := u8_nq 49 (by omega) (by intro e; rw [e] at h; cases h)
theorem one_yes {c : UInt8} (h : Vb.oneB c = true) : (c.toNat : Int) = 49 := by
  have : c = 49 := by simpa [Vb.oneB] using h
  rw [this]; rfl
theorem wrap_dbl {V : Int} {m : Nat} (h : V = wrap64 m) : wrap64 (V * 2) = wrap64 ((2 * m + 0 : Nat) : Int) := by
  subst h; unfold wrap64; omega
theorem wrap_dbl1 {V : Int} {m : Nat} (h : V = wrap64 m) : wrap64 (wrap64 (V * 2) + 1) = wrap64 ((2 * m + 1 : Nat) : Int) := by
  subst h; unfold wrap64; omega
theorem wrap_pow {P : Int} {k : Nat} (h : P = wrap64 (2 ^ k)) : wrap64 (P * 2) = wrap64 (2 ^ (k + 1)) := by
  subst h; rw [Int.pow_succ]; generalize (2 : Int) ^ k = Z; unfold wrap64; omega
theorem wrap_sub {V P a b : Int} (h : V = wrap64 a) (k : P = wrap64 b) : wrap64 (V - P) = wrap64 (a - b) := by
  subst h k; unfold wrap64; omega
theorem L_head (s : ByteArray) (h : 0 < s.size) : (L s).headD 0 = s[0] := by
  rw [L_get s 0 h, List.headD_eq_head?_getD, List.head?_eq_getElem?, List.getElem?_eq_getElem (by rw [L_len]; exact h)]; rfl
theorem ret_2 {a b : Int} {c : Bool} (h : a = b) : Ending.returned (.tuple #[.int .i64 a, .bool c]) = .returned (.tuple #[.int .i64 b, .bool c]) := by rw [h]
end Go.Proofs.YtdgiidlaafbgcabGreatDoor
