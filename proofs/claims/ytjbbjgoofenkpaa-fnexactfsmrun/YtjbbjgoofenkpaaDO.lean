/- What a reading of an argument gives. -/
import Derived.Test.YtjbbjgoofenkpaaDD
import Derived.Test.YtjbbjgoofenkpaaGS3
namespace Go.Proofs.Ytjbbjgoofenkpaa
open Go.RowKit Gs
set_option linter.unusedVariables false
set_option maxRecDepth 100000
def noFsm : Fsm := { ins := 0, outBits := 0, states := [], next := [], outs := [] }
theorem opensFsm {H : Type} {enc : TypeId × Value → H} {w : World} : Opens enc Try.prog w 26 5 RFsm := ⟨by kernel_rfl, fun fuel cs x h => by
  obtain ⟨xs, m, hf, hx, hl, hxl, hfs⟩ := DataW.trod_struct Try.underlying26 h
  rw [show Try.prog.cellsOf 26 = 5 from by kernel_rfl] at hl
  have hxl2 : xs.length = 5 := hxl
  match cs, hl with
  | [c0, c1, c2, c3, c4], _ =>
    have e0 : DataW.trod enc Try.prog w 0 (fun _ => true) true m 3 ((List.drop 0 [c0, c1, c2, c3, c4]).take (Try.prog.cellsOf 3)) = xs[0]? := hfs 0 _ rfl
    rw [show Try.prog.cellsOf 3 = 1 from by kernel_rfl, List.getElem?_eq_getElem (by omega)] at e0
    obtain ⟨z0, y0, _, _⟩ := DataW.trod_int Try.underlying3 e0
    obtain rfl : c0 = .int .i64 z0 := by simpa using y0
    have e1 : DataW.trod enc Try.prog w 0 (fun _ => true) true m 3 ((List.drop 1 [.int .i64 z0, c1, c2, c3, c4]).take (Try.prog.cellsOf 3)) = xs[1]? := hfs 1 _ rfl
    rw [show Try.prog.cellsOf 3 = 1 from by kernel_rfl, List.getElem?_eq_getElem (by omega)] at e1
    obtain ⟨z1, y1, _, _⟩ := DataW.trod_int Try.underlying3 e1
    obtain rfl : c1 = .int .i64 z1 := by simpa using y1
    have e2 : DataW.trod enc Try.prog w 0 (fun _ => true) true m 22 ((List.drop 2 [.int .i64 z0, .int .i64 z1, c2, c3, c4]).take (Try.prog.cellsOf 22)) = xs[2]? := hfs 2 _ rfl
    rw [show Try.prog.cellsOf 22 = 1 from by kernel_rfl, List.getElem?_eq_getElem (by omega)] at e2
    obtain ⟨z2, v2, y2, r2⟩ := opens_slice (enc := enc) Try.underlying22 (by decide) (opens_str Try.underlying9 (by kernel_rfl)) _ _ _ e2
    obtain rfl : v2 = c2 := by simpa using y2.symm
    have e3 : DataW.trod enc Try.prog w 0 (fun _ => true) true m 23 ((List.drop 3 [.int .i64 z0, .int .i64 z1, v2, c3, c4]).take (Try.prog.cellsOf 23)) = xs[3]? := hfs 3 _ rfl
    rw [show Try.prog.cellsOf 23 = 1 from by kernel_rfl, List.getElem?_eq_getElem (by omega)] at e3
    obtain ⟨z3, v3, y3, r3⟩ := opens_slice (enc := enc) Try.underlying23 (by decide) (opens_row Try.underlying27 (by kernel_rfl) (by decide) (opens_int Try.underlying3 (by kernel_rfl))) _ _ _ e3
    obtain rfl : v3 = c3 := by simpa using y3.symm
    have e4 : DataW.trod enc Try.prog w 0 (fun _ => true) true m 24 ((List.drop 4 [.int .i64 z0, .int .i64 z1, v2, v3, c4]).take (Try.prog.cellsOf 24)) = xs[4]? := hfs 4 _ rfl
    rw [show Try.prog.cellsOf 24 = 1 from by kernel_rfl, List.getElem?_eq_getElem (by omega)] at e4
    obtain ⟨z4, v4, y4, r4⟩ := opens_slice (enc := enc) Try.underlying24 (by decide) (opens_row Try.underlying22 (by kernel_rfl) (by decide) (opens_str Try.underlying9 (by kernel_rfl))) _ _ _ e4
    obtain rfl : v4 = c4 := by simpa using y4.symm
    exact ⟨rfl, ⟨z0, z1, z2, z3, z4⟩, _, _, _, rfl, r2, r3, r4⟩⟩
end Go.Proofs.Ytjbbjgoofenkpaa
