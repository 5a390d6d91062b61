/- The specification's l01Fill: so many letters. -/
import Derived.Test.YtnoklbnacfmpdacBase
import Derived.Laws.BitsAllLaws
namespace Go.Proofs.Ytnoklbnacfmpdac
open Go.RowKit
theorem L_append (a b : ByteArray) : L (a ++ b) = L a ++ L b := by
  unfold L
  rw [ByteArray.data_append, Array.toList_append]
theorem one_string (c : Int) (x : UInt8) (h : c = (x.toNat : Int)) (W : World) : (convert 105 9 (.slice (some ⟨W.heap.size, 0, none⟩) 1 1)).run Try.prog (W.alloc (.cells #[.int .u8 c] 5)) = .ok (.string (S [x])) (W.alloc (.cells #[.int .u8 c] 5)) := by
  subst h
  refine run_convert_bytes_back (P := Try.prog) _ 105 9 5 ⟨W.heap.size, 0, none⟩ 1 [x] (by kernel_rfl) (by kernel_rfl) (by kernel_rfl) ?_
  intro j hj
  have : j = 0 := by simp at hj; omega
  subst this
  rw [Addr.add_lit, World.cell?_alloc_new]; rfl
theorem S_snoc (l : List UInt8) (c : UInt8) : S l ++ S [c] = S (l ++ [c]) := by
  apply L_inj; rw [L_append, L_S, L_S, L_S]
end Go.Proofs.Ytnoklbnacfmpdac
