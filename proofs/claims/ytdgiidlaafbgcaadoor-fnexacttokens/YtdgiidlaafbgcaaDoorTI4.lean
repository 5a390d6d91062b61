/- What the program's tokenAt answers. -/
import Derived.Test.YtdgiidlaafbgcaaDoorTI3
namespace Go.Proofs.YtdgiidlaafbgcaaDoor
open Go.RowKit
set_option linter.unusedVariables false
/-- The token's value and its code. -/
def tokV (l : List UInt8) (a : Nat) : Value :=
  .tuple #[if (Nb.tokL l).1 = 0 then tkV (Nb.tokL l).2.1 (l.take (Nb.tokL l).2.2) a else tkV 0 [] 0, .int .i64 ((Nb.tokL l).1 : Nat)]
theorem iTokenAt (s : ByteArray) (a : Nat) (w : World) (hs : s.size ≤ 1000000) (ha : a < s.size) (hM : Mk w) (h0 : 0 < w.heap.size) :
    Calls Tryd.prog 15 #[.string s, .int .i64 a] w fun e w' => e = .returned (tokV ((L s).drop a) a) ∧ Below w.heap.size w w' := by
  by_cases c1 : 0 < Nb.nameL ((L s).drop a)
  · by_cases c2 : 24 < Nb.nameL ((L s).drop a)
    · have e : tokV ((L s).drop a) a = .tuple #[tkV 0 [] 0, .int .i64 5] := by
        have : Nb.tokL ((L s).drop a) = (5, 0, 0) := by unfold Nb.tokL; rw [if_pos c1, if_pos c2]
        unfold tokV; rw [this]; rfl
      rw [e]; exact iTokLong s a _ w hs ha rfl c2
    · have e : tokV ((L s).drop a) a = .tuple #[tkV 1 (((L s).drop a).take (Nb.nameL ((L s).drop a))) a, .int .i64 0] := by
        have : Nb.tokL ((L s).drop a) = (0, 1, Nb.nameL ((L s).drop a)) := by unfold Nb.tokL; rw [if_pos c1, if_neg c2]
        unfold tokV; rw [this]; rfl
      rw [e]; exact iTokName s a _ w hs ha rfl (by omega) c1
  · by_cases c2 : 0 < Nb.numZ ((L s).drop a)
    · have e : tokV ((L s).drop a) a = .tuple #[tkV 2 (((L s).drop a).take (Nb.numZ ((L s).drop a))) a, .int .i64 0] := by
        have : Nb.tokL ((L s).drop a) = (0, 2, Nb.numZ ((L s).drop a)) := by unfold Nb.tokL; rw [if_neg c1, if_pos c2]
        unfold tokV; rw [this]; rfl
      rw [e]; exact iTokNum s a _ w hs ha (by omega) rfl c2
    · refine iTokMark s a w hs ha (by omega) (by omega) hM h0 _ ?_
      unfold mkR tokV Nb.tokL
      rw [if_neg c1, if_neg c2]
      cases hm : Nb.markL ((L s).drop a) with
      | none => rfl
      | some m =>
        have := (Nb.markL_len hm).2.2
        show _ = Value.tuple #[tkV 3 (((L s).drop a).take m.length) a, .int .i64 0]
        rw [this]
end Go.Proofs.YtdgiidlaafbgcaaDoor
