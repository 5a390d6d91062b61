/- What a reading of an argument gives. -/
import Derived.Test.YtbpcomnneemolaaDD
import Derived.Test.YtbpcomnneemolaaGS3
namespace Go.Proofs.Ytbpcomnneemolaa
open Go.RowKit Gs
set_option linter.unusedVariables false
set_option maxRecDepth 100000
def noInstr : Instr := { op := 0, dst := 0, a := 0, b := 0, c := 0, n := 0, width := 0, signed := false, bits := ⟨#[]⟩ }
theorem opensInstr {H : Type} {enc : TypeId × Value → H} {w : World} : Opens enc Try.prog w 70 9 RInstr := ⟨by kernel_rfl, fun fuel cs x h => by
  obtain ⟨xs, m, hf, hx, hl, hxl, hfs⟩ := DataW.trod_struct Try.underlying70 h
  rw [show Try.prog.cellsOf 70 = 9 from by kernel_rfl] at hl
  have hxl2 : xs.length = 9 := hxl
  match cs, hl with
  | [c0, c1, c2, c3, c4, c5, c6, c7, c8], _ =>
    have e0 : DataW.trod enc Try.prog w 0 (fun _ => true) true m 3 ((List.drop 0 [c0, c1, c2, c3, c4, c5, c6, c7, c8]).take (Try.prog.cellsOf 3)) = xs[0]? := hfs 0 _ rfl
    rw [show Try.prog.cellsOf 3 = 1 from by kernel_rfl, List.getElem?_eq_getElem (by omega)] at e0
    obtain ⟨z0, y0, _, _⟩ := DataW.trod_int Try.underlying3 e0
    obtain rfl : c0 = .int .i64 z0 := by simpa using y0
    have e1 : DataW.trod enc Try.prog w 0 (fun _ => true) true m 3 ((List.drop 1 [.int .i64 z0, c1, c2, c3, c4, c5, c6, c7, c8]).take (Try.prog.cellsOf 3)) = xs[1]? := hfs 1 _ rfl
    rw [show Try.prog.cellsOf 3 = 1 from by kernel_rfl, List.getElem?_eq_getElem (by omega)] at e1
    obtain ⟨z1, y1, _, _⟩ := DataW.trod_int Try.underlying3 e1
    obtain rfl : c1 = .int .i64 z1 := by simpa using y1
    have e2 : DataW.trod enc Try.prog w 0 (fun _ => true) true m 3 ((List.drop 2 [.int .i64 z0, .int .i64 z1, c2, c3, c4, c5, c6, c7, c8]).take (Try.prog.cellsOf 3)) = xs[2]? := hfs 2 _ rfl
    rw [show Try.prog.cellsOf 3 = 1 from by kernel_rfl, List.getElem?_eq_getElem (by omega)] at e2
    obtain ⟨z2, y2, _, _⟩ := DataW.trod_int Try.underlying3 e2
    obtain rfl : c2 = .int .i64 z2 := by simpa using y2
    have e3 : DataW.trod enc Try.prog w 0 (fun _ => true) true m 3 ((List.drop 3 [.int .i64 z0, .int .i64 z1, .int .i64 z2, c3, c4, c5, c6, c7, c8]).take (Try.prog.cellsOf 3)) = xs[3]? := hfs 3 _ rfl
    rw [show Try.prog.cellsOf 3 = 1 from by kernel_rfl, List.getElem?_eq_getElem (by omega)] at e3
    obtain ⟨z3, y3, _, _⟩ := DataW.trod_int Try.underlying3 e3
    obtain rfl : c3 = .int .i64 z3 := by simpa using y3
    have e4 : DataW.trod enc Try.prog w 0 (fun _ => true) true m 3 ((List.drop 4 [.int .i64 z0, .int .i64 z1, .int .i64 z2, .int .i64 z3, c4, c5, c6, c7, c8]).take (Try.prog.cellsOf 3)) = xs[4]? := hfs 4 _ rfl
    rw [show Try.prog.cellsOf 3 = 1 from by kernel_rfl, List.getElem?_eq_getElem (by omega)] at e4
    obtain ⟨z4, y4, _, _⟩ := DataW.trod_int Try.underlying3 e4
    obtain rfl : c4 = .int .i64 z4 := by simpa using y4
    have e5 : DataW.trod enc Try.prog w 0 (fun _ => true) true m 3 ((List.drop 5 [.int .i64 z0, .int .i64 z1, .int .i64 z2, .int .i64 z3, .int .i64 z4, c5, c6, c7, c8]).take (Try.prog.cellsOf 3)) = xs[5]? := hfs 5 _ rfl
    rw [show Try.prog.cellsOf 3 = 1 from by kernel_rfl, List.getElem?_eq_getElem (by omega)] at e5
    obtain ⟨z5, y5, _, _⟩ := DataW.trod_int Try.underlying3 e5
    obtain rfl : c5 = .int .i64 z5 := by simpa using y5
    have e6 : DataW.trod enc Try.prog w 0 (fun _ => true) true m 3 ((List.drop 6 [.int .i64 z0, .int .i64 z1, .int .i64 z2, .int .i64 z3, .int .i64 z4, .int .i64 z5, c6, c7, c8]).take (Try.prog.cellsOf 3)) = xs[6]? := hfs 6 _ rfl
    rw [show Try.prog.cellsOf 3 = 1 from by kernel_rfl, List.getElem?_eq_getElem (by omega)] at e6
    obtain ⟨z6, y6, _, _⟩ := DataW.trod_int Try.underlying3 e6
    obtain rfl : c6 = .int .i64 z6 := by simpa using y6
    have e7 : DataW.trod enc Try.prog w 0 (fun _ => true) true m 4 ((List.drop 7 [.int .i64 z0, .int .i64 z1, .int .i64 z2, .int .i64 z3, .int .i64 z4, .int .i64 z5, .int .i64 z6, c7, c8]).take (Try.prog.cellsOf 4)) = xs[7]? := hfs 7 _ rfl
    rw [show Try.prog.cellsOf 4 = 1 from by kernel_rfl, List.getElem?_eq_getElem (by omega)] at e7
    obtain ⟨z7, y7, _⟩ := DataW.trod_bool Try.underlying4 e7
    obtain rfl : c7 = .bool z7 := by simpa using y7
    have e8 : DataW.trod enc Try.prog w 0 (fun _ => true) true m 9 ((List.drop 8 [.int .i64 z0, .int .i64 z1, .int .i64 z2, .int .i64 z3, .int .i64 z4, .int .i64 z5, .int .i64 z6, .bool z7, c8]).take (Try.prog.cellsOf 9)) = xs[8]? := hfs 8 _ rfl
    rw [show Try.prog.cellsOf 9 = 1 from by kernel_rfl, List.getElem?_eq_getElem (by omega)] at e8
    obtain ⟨z8, y8, _, b8⟩ := DataW.trod_string Try.underlying9 e8
    obtain rfl : c8 = .string z8 := by simpa using y8
    exact ⟨rfl, ⟨z0, z1, z2, z3, z4, z5, z6, z7, z8⟩, rfl, b8⟩⟩
theorem opensCode {H : Type} {enc : TypeId × Value → H} {w : World} : Opens enc Try.prog w 26 9 RCode := ⟨by kernel_rfl, fun fuel cs x h => by
  have : Inhabited Instr := ⟨noInstr⟩
  obtain ⟨xs, m, hf, hx, hl, hxl, hfs⟩ := DataW.trod_struct Try.underlying26 h
  rw [show Try.prog.cellsOf 26 = 9 from by kernel_rfl] at hl
  have hxl2 : xs.length = 9 := hxl
  match cs, hl with
  | [c0, c1, c2, c3, c4, c5, c6, c7, c8], _ =>
    have e0 : DataW.trod enc Try.prog w 0 (fun _ => true) true m 3 ((List.drop 0 [c0, c1, c2, c3, c4, c5, c6, c7, c8]).take (Try.prog.cellsOf 3)) = xs[0]? := hfs 0 _ rfl
    rw [show Try.prog.cellsOf 3 = 1 from by kernel_rfl, List.getElem?_eq_getElem (by omega)] at e0
    obtain ⟨z0, y0, _, _⟩ := DataW.trod_int Try.underlying3 e0
    obtain rfl : c0 = .int .i64 z0 := by simpa using y0
    have e1 : DataW.trod enc Try.prog w 0 (fun _ => true) true m 22 ((List.drop 1 [.int .i64 z0, c1, c2, c3, c4, c5, c6, c7, c8]).take (Try.prog.cellsOf 22)) = xs[1]? := hfs 1 _ rfl
    rw [show Try.prog.cellsOf 22 = 1 from by kernel_rfl, List.getElem?_eq_getElem (by omega)] at e1
    obtain ⟨z1, v1, y1, r1⟩ := opens_slice (enc := enc) Try.underlying22 (by decide) opensInstr _ _ _ e1
    obtain rfl : v1 = c1 := by simpa using y1.symm
    have e2 : DataW.trod enc Try.prog w 0 (fun _ => true) true m 23 ((List.drop 2 [.int .i64 z0, v1, c2, c3, c4, c5, c6, c7, c8]).take (Try.prog.cellsOf 23)) = xs[2]? := hfs 2 _ rfl
    rw [show Try.prog.cellsOf 23 = 1 from by kernel_rfl, List.getElem?_eq_getElem (by omega)] at e2
    obtain ⟨z2, v2, y2, r2⟩ := opens_slice (enc := enc) Try.underlying23 (by decide) (opens_int Try.underlying3 (by kernel_rfl)) _ _ _ e2
    obtain rfl : v2 = c2 := by simpa using y2.symm
    have e3 : DataW.trod enc Try.prog w 0 (fun _ => true) true m 3 ((List.drop 3 [.int .i64 z0, v1, v2, c3, c4, c5, c6, c7, c8]).take (Try.prog.cellsOf 3)) = xs[3]? := hfs 3 _ rfl
    rw [show Try.prog.cellsOf 3 = 1 from by kernel_rfl, List.getElem?_eq_getElem (by omega)] at e3
    obtain ⟨z3, y3, _, _⟩ := DataW.trod_int Try.underlying3 e3
    obtain rfl : c3 = .int .i64 z3 := by simpa using y3
    have e4 : DataW.trod enc Try.prog w 0 (fun _ => true) true m 24 ((List.drop 4 [.int .i64 z0, v1, v2, .int .i64 z3, c4, c5, c6, c7, c8]).take (Try.prog.cellsOf 24)) = xs[4]? := hfs 4 _ rfl
    rw [show Try.prog.cellsOf 24 = 1 from by kernel_rfl, List.getElem?_eq_getElem (by omega)] at e4
    obtain ⟨z4, v4, y4, r4⟩ := opens_slice (enc := enc) Try.underlying24 (by decide) (opens_str Try.underlying9 (by kernel_rfl)) _ _ _ e4
    obtain rfl : v4 = c4 := by simpa using y4.symm
    have e5 : DataW.trod enc Try.prog w 0 (fun _ => true) true m 23 ((List.drop 5 [.int .i64 z0, v1, v2, .int .i64 z3, v4, c5, c6, c7, c8]).take (Try.prog.cellsOf 23)) = xs[5]? := hfs 5 _ rfl
    rw [show Try.prog.cellsOf 23 = 1 from by kernel_rfl, List.getElem?_eq_getElem (by omega)] at e5
    obtain ⟨z5, v5, y5, r5⟩ := opens_slice (enc := enc) Try.underlying23 (by decide) (opens_int Try.underlying3 (by kernel_rfl)) _ _ _ e5
    obtain rfl : v5 = c5 := by simpa using y5.symm
    have e6 : DataW.trod enc Try.prog w 0 (fun _ => true) true m 23 ((List.drop 6 [.int .i64 z0, v1, v2, .int .i64 z3, v4, v5, c6, c7, c8]).take (Try.prog.cellsOf 23)) = xs[6]? := hfs 6 _ rfl
    rw [show Try.prog.cellsOf 23 = 1 from by kernel_rfl, List.getElem?_eq_getElem (by omega)] at e6
    obtain ⟨z6, v6, y6, r6⟩ := opens_slice (enc := enc) Try.underlying23 (by decide) (opens_int Try.underlying3 (by kernel_rfl)) _ _ _ e6
    obtain rfl : v6 = c6 := by simpa using y6.symm
    have e7 : DataW.trod enc Try.prog w 0 (fun _ => true) true m 23 ((List.drop 7 [.int .i64 z0, v1, v2, .int .i64 z3, v4, v5, v6, c7, c8]).take (Try.prog.cellsOf 23)) = xs[7]? := hfs 7 _ rfl
    rw [show Try.prog.cellsOf 23 = 1 from by kernel_rfl, List.getElem?_eq_getElem (by omega)] at e7
    obtain ⟨z7, v7, y7, r7⟩ := opens_slice (enc := enc) Try.underlying23 (by decide) (opens_int Try.underlying3 (by kernel_rfl)) _ _ _ e7
    obtain rfl : v7 = c7 := by simpa using y7.symm
    have e8 : DataW.trod enc Try.prog w 0 (fun _ => true) true m 23 ((List.drop 8 [.int .i64 z0, v1, v2, .int .i64 z3, v4, v5, v6, v7, c8]).take (Try.prog.cellsOf 23)) = xs[8]? := hfs 8 _ rfl
    rw [show Try.prog.cellsOf 23 = 1 from by kernel_rfl, List.getElem?_eq_getElem (by omega)] at e8
    obtain ⟨z8, v8, y8, r8⟩ := opens_slice (enc := enc) Try.underlying23 (by decide) (opens_int Try.underlying3 (by kernel_rfl)) _ _ _ e8
    obtain rfl : v8 = c8 := by simpa using y8.symm
    exact ⟨rfl, ⟨z0, z1, z2, z3, z4, z5, z6, z7, z8⟩, _, _, _, _, _, _, _, rfl, r1, r2, r4, r5, r6, r7, r8⟩⟩
end Go.Proofs.Ytbpcomnneemolaa
