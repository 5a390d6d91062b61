/- What a reading of an argument gives. -/
import Derived.Test.YtdmmbhemmbgcpadDC1
import Derived.Test.YtdmmbhemmbgcpadGS3
namespace Go.Proofs.Ytdmmbhemmbgcpad
open Go.RowKit Gs
set_option linter.unusedVariables false
set_option maxRecDepth 100000
def noChip : Chip := { wide := 0, high := 0, tracks := 0, pads := 0 }
theorem opensChip {H : Type} {enc : TypeId × Value → H} {w : World} : Opens enc Try.prog w 28 4 RChip := ⟨by kernel_rfl, fun fuel cs x h => by
  obtain ⟨xs, m, hf, hx, hl, hxl, hfs⟩ := DataW.trod_struct Try.underlying28 h
  rw [show Try.prog.cellsOf 28 = 4 from by kernel_rfl] at hl
  have hxl2 : xs.length = 4 := hxl
  match cs, hl with
  | [c0, c1, c2, c3], _ =>
    have e0 : DataW.trod enc Try.prog w 0 (fun _ => true) true m 3 ((List.drop 0 [c0, c1, c2, c3]).take (Try.prog.cellsOf 3)) = xs[0]? := hfs 0 _ rfl
    rw [show Try.prog.cellsOf 3 = 1 from by kernel_rfl, List.getElem?_eq_getElem (by omega)] at e0
    obtain ⟨z0, y0, _, _⟩ := DataW.trod_int Try.underlying3 e0
    obtain rfl : c0 = .int .i64 z0 := by simpa using y0
    have e1 : DataW.trod enc Try.prog w 0 (fun _ => true) true m 3 ((List.drop 1 [.int .i64 z0, c1, c2, c3]).take (Try.prog.cellsOf 3)) = xs[1]? := hfs 1 _ rfl
    rw [show Try.prog.cellsOf 3 = 1 from by kernel_rfl, List.getElem?_eq_getElem (by omega)] at e1
    obtain ⟨z1, y1, _, _⟩ := DataW.trod_int Try.underlying3 e1
    obtain rfl : c1 = .int .i64 z1 := by simpa using y1
    have e2 : DataW.trod enc Try.prog w 0 (fun _ => true) true m 3 ((List.drop 2 [.int .i64 z0, .int .i64 z1, c2, c3]).take (Try.prog.cellsOf 3)) = xs[2]? := hfs 2 _ rfl
    rw [show Try.prog.cellsOf 3 = 1 from by kernel_rfl, List.getElem?_eq_getElem (by omega)] at e2
    obtain ⟨z2, y2, _, _⟩ := DataW.trod_int Try.underlying3 e2
    obtain rfl : c2 = .int .i64 z2 := by simpa using y2
    have e3 : DataW.trod enc Try.prog w 0 (fun _ => true) true m 3 ((List.drop 3 [.int .i64 z0, .int .i64 z1, .int .i64 z2, c3]).take (Try.prog.cellsOf 3)) = xs[3]? := hfs 3 _ rfl
    rw [show Try.prog.cellsOf 3 = 1 from by kernel_rfl, List.getElem?_eq_getElem (by omega)] at e3
    obtain ⟨z3, y3, _, _⟩ := DataW.trod_int Try.underlying3 e3
    obtain rfl : c3 = .int .i64 z3 := by simpa using y3
    exact ⟨rfl, ⟨z0, z1, z2, z3⟩, rfl⟩⟩
end Go.Proofs.Ytdmmbhemmbgcpad
