/- What the specification's Choose answers. -/
import Derived.Test.YtdgiidlaafbgcabGreatDoorS7
import Derived.Deep.RegionWith
import Derived.Deep.QuietTactic
import Derived.BigQuiet
namespace Go.Proofs.YtdgiidlaafbgcabGreatDoor
open Go.RowKit
theorem sTr (s : ByteArray) (w : World) (t : UInt8) (hs : s.size ≤ maxLen) (ht : truthL (L s) = t) : Calls Tryz.prog 11 #[.string s] w fun e w' => e = .returned (.int .u8 (t.toNat : Int)) ∧ w = w' :=
  (sTruth s w hs).mono fun _ _ ⟨h, h'⟩ => ⟨by rw [h, ht], h'.symm⟩
/-- What two letters have in common. -/
def mixB (a b : UInt8) : UInt8 := if a = b ∧ (a = 48 ∨ a = 49) then a else 120
theorem zip_step (f : UInt8 → UInt8 → UInt8) (a b : ByteArray) (k : Nat) (ha : k < a.size) (hb : k < b.size) : List.zipWith f ((L a).take (k + 1)) ((L b).take (k + 1)) = List.zipWith f ((L a).take k) ((L b).take k) ++ [f a[k] b[k]] := by
  rw [L_take a k ha, L_take b k hb, List.zipWith_append (by simp [L_len]; omega)]; rfl
theorem zip_len (f : UInt8 → UInt8 → UInt8) (a b : ByteArray) (k : Nat) (ha : k ≤ a.size) (hb : k ≤ b.size) : (List.zipWith f ((L a).take k) ((L b).take k)).length = k := by
  simp [L_len]; omega
/-- The choice between two texts. -/
def choL (c a b : List UInt8) : List UInt8 := if truthL c = 49 then a else if truthL c = 48 then b else List.zipWith mixB a b
theorem truthL_cases (l : List UInt8) : truthL l = 49 ∨ truthL l = 48 ∨ truthL l = 120 := by
  unfold truthL; split
  · exact .inl rfl
  · split
    · exact .inr (.inl rfl)
    · exact .inr (.inr rfl)
end Go.Proofs.YtdgiidlaafbgcabGreatDoor
