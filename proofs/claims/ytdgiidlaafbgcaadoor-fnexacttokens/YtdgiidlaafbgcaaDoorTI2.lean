/- What the program's tokenAt answers. -/
import Derived.Test.YtdgiidlaafbgcaaDoorTI1
import Derived.Test.YtdgiidlaafbgcaaDoorNI2
namespace Go.Proofs.YtdgiidlaafbgcaaDoor
open Go.RowKit
set_option linter.unusedVariables false
def tkV (k : Nat) (t : List UInt8) (a : Nat) : Value := .agg #[.int .i64 (k : Nat), .string (S t), .int .i64 (a : Nat)]
set_option maxRecDepth 100000 in
set_option maxHeartbeats 400000 in
theorem iTokLong (s : ByteArray) (a N : Nat) (w : World) (hs : s.size ≤ 1000000) (ha : a < s.size) (hN : Nb.nameL ((L s).drop a) = N) (h24 : 24 < N) :
    Calls Tryd.prog 15 #[.string s, .int .i64 a] w fun e w' => e = .returned (.tuple #[tkV 0 [] 0, .int .i64 5]) ∧ Below w.heap.size w w' := by
  have zb : (s.extract a s.size).size = s.size - a := by rw [← L_len, L_extract, List.length_take, List.length_drop, L_len]; omega
  have lb : L (s.extract a s.size) = (L s).drop a := by rw [L_extract, List.take_of_length_le (by rw [List.length_drop, L_len]; omega)]
  have NS := hide (fun v => iName (s.extract a s.size) N v (by omega) (by rw [lb]; exact hN))
  clear hN lb
  go_enter Tryd.func15, Tryd.ntmps15
  go_wp2_with (go_at_call 21; refine (unhide NS _).mono ?_; rintro e v1 ⟨rfl, hb1⟩; obtain ⟨hc1, hf1⟩ := bcell hb1)
  refine bodyPost_ret (v := .tuple #[tkV 0 [] 0, .int .i64 5]) (by simp [results, Tryd.results15, go_sem, tkV, S, hc1]) rfl ⟨rfl, ?_⟩
  repeat first | exact brf _ | refine bdr ?_ | refine bst ?_ (by first | exact Nat.le_refl _ | (simp; done) | (simp; omega)) _ | refine btr ?_ hb1 | refine bal ?_ _
set_option maxRecDepth 100000 in
set_option maxHeartbeats 400000 in
theorem iTokName (s : ByteArray) (a N : Nat) (w : World) (hs : s.size ≤ 1000000) (ha : a < s.size) (hN : Nb.nameL ((L s).drop a) = N) (h24 : N ≤ 24) (h0 : 0 < N) :
    Calls Tryd.prog 15 #[.string s, .int .i64 a] w fun e w' => e = .returned (.tuple #[tkV 1 (((L s).drop a).take N) a, .int .i64 0]) ∧ Below w.heap.size w w' := by
  have zb : (s.extract a s.size).size = s.size - a := by rw [← L_len, L_extract, List.length_take, List.length_drop, L_len]; omega
  have lb : L (s.extract a s.size) = (L s).drop a := by rw [L_extract, List.take_of_length_le (by rw [List.length_drop, L_len]; omega)]
  have NS := hide (fun v => iName (s.extract a s.size) N v (by omega) (by rw [lb]; exact hN))
  have hle : N ≤ s.size - a := by have := Nb.nameL_le ((L s).drop a); rw [List.length_drop, L_len] at this; omega
  have E : Hid ((s.extract a s.size).extract 0 N = S (((L s).drop a).take N)) := hide (by apply L_inj; rw [L_extract, lb, L_S, List.drop_zero, Nat.sub_zero])
  clear hN lb
  go_enter Tryd.func15, Tryd.ntmps15
  go_wp2_with (go_at_call 21; refine (unhide NS _).mono ?_; rintro e v1 ⟨rfl, hb1⟩; obtain ⟨hc1, hf1⟩ := bcell hb1)
  refine bodyPost_ret (v := .tuple #[tkV 1 (((L s).drop a).take N) a, .int .i64 0]) (by unfold tkV; rw [← unhide E]; simp [results, Tryd.results15, go_sem, hc1]) rfl ⟨rfl, ?_⟩
  repeat first | exact brf _ | refine bdr ?_ | refine bst ?_ (by first | exact Nat.le_refl _ | (simp; done) | (simp; omega)) _ | refine btr ?_ hb1 | refine bal ?_ _
end Go.Proofs.YtdgiidlaafbgcaaDoor
