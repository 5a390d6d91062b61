/- What the program's vecOf answers. -/
import Derived.Test.YtdgiidlaafbgcabGreatDoorBase
namespace Go.Proofs.YtdgiidlaafbgcabGreatDoor
open Go.RowKit
/-- A vector as the walk holds it: its width and two words. -/
def V (n : Nat) (k h : BitVec 64) : Value := .agg #[.int .i64 n, .int .u64 (U k), .int .u64 (U h)]
theorem cells_eq {a b c d : Int} {n : Value} {W : World} (h1 : a = c) (h2 : b = d) : W.alloc (.cells #[n, .int .u64 a, .int .u64 b] 57) = W.alloc (.cells #[n, .int .u64 c, .int .u64 d] 57) := by rw [h1, h2]
theorem kn_step (s : ByteArray) (k : Nat) (h : k < s.size) (c : UInt8) (e : s[k] = c) : Vb.kn ((L s).take (k + 1)) = Vb.push Vb.knB (Vb.kn ((L s).take k)) c := by
  rw [L_take s k h, Vb.kn, Vb.word_snoc, e]; rfl
theorem wh_step (s : ByteArray) (k : Nat) (h : k < s.size) (c : UInt8) (e : s[k] = c) : Vb.wh ((L s).take (k + 1)) = Vb.push Vb.whB (Vb.wh ((L s).take k)) c := by
  rw [L_take s k h, Vb.wh, Vb.word_snoc, e]; rfl
theorem push_1 (p : UInt8 → Bool) (a : BitVec 64) (c : UInt8) (h : p c = true) : bits .or .u64 (IntKind.u64.wrap (U a * 2)) 1 = U (Vb.push p a c) := by
  rw [U_shl1, U_or1, Vb.push, if_pos h]
theorem push_0 (p : UInt8 → Bool) (a : BitVec 64) (c : UInt8) (h : p c = false) : IntKind.u64.wrap (U a * 2) = U (Vb.push p a c) := by
  rw [U_shl1, Vb.push, if_neg (by simp [h])]; simp
abbrev W0 (w : World) : World := w.alloc (.cells #[.int .i64 0, .int .u64 0, .int .u64 0] 57)

end Go.Proofs.YtdgiidlaafbgcabGreatDoor
