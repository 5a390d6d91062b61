/- What the specification's Part answers. -/
import Derived.Test.YtdgiidlaafbgcabGreatDoorRsz
namespace Go.Proofs.YtdgiidlaafbgcabGreatDoor
open Go.RowKit
/-- The letter at place i from the right, x where there is none. -/
def atI (l : List UInt8) (i : Int) : UInt8 := if 0 ≤ i then (Vb.rat l i.toNat).getD 120 else 120
/-- j letters from place lo on. -/
def partL (l : List UInt8) (lo : Int) : Nat → List UInt8
  | 0 => []
  | j + 1 => atI l (lo + j) :: partL l lo j
theorem partL_len (l : List UInt8) (lo : Int) (j : Nat) : (partL l lo j).length = j := by
  induction j with
  | zero => rfl
  | succ j ih => simp [partL, ih]
theorem atI_in (s : ByteArray) (i : Nat) (h : i < s.size) : S [atI (L s) i] = s.extract (s.size - 1 - i) (s.size - i) := by
  apply L_inj
  rw [L_extract, L_S]
  unfold atI Vb.rat
  rw [if_pos (by omega), Int.toNat_natCast, List.getElem?_reverse (by rw [L_len]; exact h), L_len, show s.size - i - (s.size - 1 - i) = 1 by omega]
  have h' : s.size - 1 - i < (L s).length := by rw [L_len]; omega
  rw [List.getElem?_eq_getElem h', List.drop_eq_getElem_cons h']
  rfl
theorem S_app (c : UInt8) (l : List UInt8) : S [c] ++ S l = S (c :: l) := S_cons c l
end Go.Proofs.YtdgiidlaafbgcabGreatDoor
