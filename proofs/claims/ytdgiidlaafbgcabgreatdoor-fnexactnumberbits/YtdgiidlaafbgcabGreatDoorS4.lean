/- What the specification's Resize answers. -/
import Derived.Test.YtdgiidlaafbgcabGreatDoorS3
namespace Go.Proofs.YtdgiidlaafbgcabGreatDoor
open Go.RowKit
/-- A vector made bigger at its high end, or cut there. -/
def rszL (n : Nat) (b : Bool) (l : List UInt8) : List UInt8 := (List.replicate (n - l.length) (if b then l.headD 0 else 48) ++ l).drop (l.length - n)
theorem L_extract (s : ByteArray) (a b : Nat) : L (s.extract a b) = ((L s).drop a).take (b - a) := by
  simp [L, ByteArray.data_extract, List.extract_eq_take_drop]
theorem L_append (a b : ByteArray) : L (a ++ b) = L a ++ L b := by simp [L]
/-- The text with k letters ahead of l. -/
def padS (k : Nat) (c : UInt8) (l : List UInt8) : ByteArray := S (List.replicate k c ++ l)
theorem padS_size (k : Nat) (c : UInt8) (s : ByteArray) : (padS k c (L s)).size = k + s.size := by unfold padS; rw [S_size]; simp [L_len]
theorem padS_zero (s : ByteArray) (c : UInt8) : s = padS 0 c (L s) := (S_L s).symm
theorem padS_step (k : Nat) (c : UInt8) (l : List UInt8) : (⟨#[c]⟩ : ByteArray) ++ padS k c l = padS (k + 1) c l := by
  unfold padS; rw [S_cons, List.replicate_succ]; rfl
theorem padS_head (k : Nat) (s : ByteArray) (h : 1 ≤ s.size) : (padS k ((L s).headD 0) (L s)).extract 0 1 ++ padS k ((L s).headD 0) (L s) = padS (k + 1) ((L s).headD 0) (L s) := by
  have e : (padS k ((L s).headD 0) (L s)).extract 0 1 = ⟨#[(L s).headD 0]⟩ := by
    apply L_inj
    rw [L_extract]
    unfold padS
    rw [L_S]
    cases k with
    | zero =>
      cases hl : L s with
      | nil => rw [← L_len, hl] at h; simp at h
      | cons c t => simp [L]
    | succ k => rw [List.replicate_succ]; simp [L]
  rw [e, padS_step]
end Go.Proofs.YtdgiidlaafbgcabGreatDoor
