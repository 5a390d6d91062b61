/- The specification's l01Fill: so many letters. -/
import Derived.Test.YtkmpjoiefcjbnaaDoorBase
import Derived.Laws.BitsAllLaws
namespace Go.Proofs.YtkmpjoiefcjbnaaDoor
open Go.RowKit
theorem L_append (a b : ByteArray) : L (a ++ b) = L a ++ L b := by
  unfold L
  rw [ByteArray.data_append, Array.toList_append]
theorem one_string (c : Int) (x : UInt8) (h : c = (x.toNat : Int)) (W : World) : (convert 129 9 (.slice (some ⟨W.heap.size, 0, none⟩) 1 1)).run Tryd.prog (W.alloc (.cells #[.int .u8 c] 5)) = .ok (.string (S [x])) (W.alloc (.cells #[.int .u8 c] 5)) := by
  subst h
  refine run_convert_bytes_back (P := Tryd.prog) _ 129 9 5 ⟨W.heap.size, 0, none⟩ 1 [x] (by kernel_rfl) (by kernel_rfl) (by kernel_rfl) ?_
  intro j hj
  have : j = 0 := by simp at hj; omega
  subst this
  rw [Addr.add_lit, World.cell?_alloc_new]; rfl
theorem S_snoc (l : List UInt8) (c : UInt8) : S l ++ S [c] = S (l ++ [c]) := by
  apply L_inj; rw [L_append, L_S, L_S, L_S]
set_option maxHeartbeats 400000 in
theorem sFill (c : UInt8) (n : Nat) (w : World) (hn : n ≤ 65) :
    Calls Tryd.prog 61 #[.int .u8 (c.toNat : Int), .int .i64 n] w fun e w' => e = .returned (.string (S (List.replicate n c))) ∧ Below w.heap.size w w' := by
  have hcv := one_string (c.toNat : Int) c rfl
  go_enter Tryd.func61, Tryd.ntmps61
  go_wp2
  go_loopw [5, 6] (fun o i wr => ∃ k : Nat, k ≤ n ∧ i = .int .i64 k ∧ o = .string (S (List.replicate k c)) ∧ Below w.heap.size w wr) (fun _ i _ => n - (intOf i).toNat)
  case atStart => exact ⟨0, Nat.zero_le _, rfl, rfl, brf _⟩
  case round =>
    obtain ⟨k, hk, rfl, rfl, hbel⟩ := hrel
    have hz : (S (List.replicate k c)).size = k := by rw [S_size]; simp
    have st : S (List.replicate k c) ++ S [c] = S (List.replicate (k + 1) c) := by rw [S_snoc, List.replicate_succ']
    have hz1 : (S [c]).size = 1 := by rw [S_size]; rfl
    have ST := hide st
    clear st
    by_cases hlt : k < n
    · generalize S (List.replicate k c) = T at *
      generalize S [c] = C at *
      go_wp2
      exact ⟨⟨k + 1, by omega, by go_num, congrArg Value.string (unhide ST), bal hbel _⟩, by simp [intOf]; omega⟩
    · have : k = n := by omega
      subst this
      go_wp2
      go_ret
      exact ⟨rfl, hbel⟩
end Go.Proofs.YtkmpjoiefcjbnaaDoor
