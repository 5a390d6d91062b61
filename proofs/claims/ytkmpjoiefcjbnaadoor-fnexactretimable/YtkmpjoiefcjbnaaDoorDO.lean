/- What a reading of an argument gives. -/
import Derived.Test.YtkmpjoiefcjbnaaDoorDD
import Derived.Test.YtkmpjoiefcjbnaaDoorGS3
namespace Go.Proofs.YtkmpjoiefcjbnaaDoor
open Go.RowKit Gs
set_option linter.unusedVariables false
set_option maxRecDepth 100000
def noNetPort : NetPort := { name := ⟨#[]⟩, width := 0 }
theorem opensNetPort {H : Type} {enc : TypeId × Value → H} {w : World} : Opens enc Tryd.prog w 71 2 RNetPort := ⟨by kernel_rfl, fun fuel cs x h => by
  obtain ⟨xs, m, hf, hx, hl, hxl, hfs⟩ := DataW.trod_struct Tryd.underlying71 h
  rw [show Tryd.prog.cellsOf 71 = 2 from by kernel_rfl] at hl
  have hxl2 : xs.length = 2 := hxl
  match cs, hl with
  | [c0, c1], _ =>
    have e0 : DataW.trod enc Tryd.prog w 0 (fun _ => true) true m 9 ((List.drop 0 [c0, c1]).take (Tryd.prog.cellsOf 9)) = xs[0]? := hfs 0 _ rfl
    rw [show Tryd.prog.cellsOf 9 = 1 from by kernel_rfl, List.getElem?_eq_getElem (by omega)] at e0
    obtain ⟨z0, y0, _, b0⟩ := DataW.trod_string Tryd.underlying9 e0
    obtain rfl : c0 = .string z0 := by simpa using y0
    have e1 : DataW.trod enc Tryd.prog w 0 (fun _ => true) true m 3 ((List.drop 1 [.string z0, c1]).take (Tryd.prog.cellsOf 3)) = xs[1]? := hfs 1 _ rfl
    rw [show Tryd.prog.cellsOf 3 = 1 from by kernel_rfl, List.getElem?_eq_getElem (by omega)] at e1
    obtain ⟨z1, y1, _, _⟩ := DataW.trod_int Tryd.underlying3 e1
    obtain rfl : c1 = .int .i64 z1 := by simpa using y1
    exact ⟨rfl, ⟨z0, z1⟩, rfl, b0⟩⟩
def noCell : Cell := { op := 0, width := 0, n := 0, signed := false, bits := ⟨#[]⟩, ins := [] }
theorem opensCell {H : Type} {enc : TypeId × Value → H} {w : World} : Opens enc Tryd.prog w 73 6 RCell := ⟨by kernel_rfl, fun fuel cs x h => by
  obtain ⟨xs, m, hf, hx, hl, hxl, hfs⟩ := DataW.trod_struct Tryd.underlying73 h
  rw [show Tryd.prog.cellsOf 73 = 6 from by kernel_rfl] at hl
  have hxl2 : xs.length = 6 := hxl
  match cs, hl with
  | [c0, c1, c2, c3, c4, c5], _ =>
    have e0 : DataW.trod enc Tryd.prog w 0 (fun _ => true) true m 3 ((List.drop 0 [c0, c1, c2, c3, c4, c5]).take (Tryd.prog.cellsOf 3)) = xs[0]? := hfs 0 _ rfl
    rw [show Tryd.prog.cellsOf 3 = 1 from by kernel_rfl, List.getElem?_eq_getElem (by omega)] at e0
    obtain ⟨z0, y0, _, _⟩ := DataW.trod_int Tryd.underlying3 e0
    obtain rfl : c0 = .int .i64 z0 := by simpa using y0
    have e1 : DataW.trod enc Tryd.prog w 0 (fun _ => true) true m 3 ((List.drop 1 [.int .i64 z0, c1, c2, c3, c4, c5]).take (Tryd.prog.cellsOf 3)) = xs[1]? := hfs 1 _ rfl
    rw [show Tryd.prog.cellsOf 3 = 1 from by kernel_rfl, List.getElem?_eq_getElem (by omega)] at e1
    obtain ⟨z1, y1, _, _⟩ := DataW.trod_int Tryd.underlying3 e1
    obtain rfl : c1 = .int .i64 z1 := by simpa using y1
    have e2 : DataW.trod enc Tryd.prog w 0 (fun _ => true) true m 3 ((List.drop 2 [.int .i64 z0, .int .i64 z1, c2, c3, c4, c5]).take (Tryd.prog.cellsOf 3)) = xs[2]? := hfs 2 _ rfl
    rw [show Tryd.prog.cellsOf 3 = 1 from by kernel_rfl, List.getElem?_eq_getElem (by omega)] at e2
    obtain ⟨z2, y2, _, _⟩ := DataW.trod_int Tryd.underlying3 e2
    obtain rfl : c2 = .int .i64 z2 := by simpa using y2
    have e3 : DataW.trod enc Tryd.prog w 0 (fun _ => true) true m 4 ((List.drop 3 [.int .i64 z0, .int .i64 z1, .int .i64 z2, c3, c4, c5]).take (Tryd.prog.cellsOf 4)) = xs[3]? := hfs 3 _ rfl
    rw [show Tryd.prog.cellsOf 4 = 1 from by kernel_rfl, List.getElem?_eq_getElem (by omega)] at e3
    obtain ⟨z3, y3, _⟩ := DataW.trod_bool Tryd.underlying4 e3
    obtain rfl : c3 = .bool z3 := by simpa using y3
    have e4 : DataW.trod enc Tryd.prog w 0 (fun _ => true) true m 9 ((List.drop 4 [.int .i64 z0, .int .i64 z1, .int .i64 z2, .bool z3, c4, c5]).take (Tryd.prog.cellsOf 9)) = xs[4]? := hfs 4 _ rfl
    rw [show Tryd.prog.cellsOf 9 = 1 from by kernel_rfl, List.getElem?_eq_getElem (by omega)] at e4
    obtain ⟨z4, y4, _, b4⟩ := DataW.trod_string Tryd.underlying9 e4
    obtain rfl : c4 = .string z4 := by simpa using y4
    have e5 : DataW.trod enc Tryd.prog w 0 (fun _ => true) true m 30 ((List.drop 5 [.int .i64 z0, .int .i64 z1, .int .i64 z2, .bool z3, .string z4, c5]).take (Tryd.prog.cellsOf 30)) = xs[5]? := hfs 5 _ rfl
    rw [show Tryd.prog.cellsOf 30 = 1 from by kernel_rfl, List.getElem?_eq_getElem (by omega)] at e5
    obtain ⟨z5, v5, y5, r5⟩ := opens_slice (enc := enc) Tryd.underlying30 (by decide) (opens_int Tryd.underlying3 (by kernel_rfl)) _ _ _ e5
    obtain rfl : v5 = c5 := by simpa using y5.symm
    exact ⟨rfl, ⟨z0, z1, z2, z3, z4, z5⟩, _, rfl, b4, r5⟩⟩
def noNetReg : NetReg := { name := ⟨#[]⟩, width := 0, clock := 0, next := 0, init := ⟨#[]⟩ }
theorem opensNetReg {H : Type} {enc : TypeId × Value → H} {w : World} : Opens enc Tryd.prog w 76 5 RNetReg := ⟨by kernel_rfl, fun fuel cs x h => by
  obtain ⟨xs, m, hf, hx, hl, hxl, hfs⟩ := DataW.trod_struct Tryd.underlying76 h
  rw [show Tryd.prog.cellsOf 76 = 5 from by kernel_rfl] at hl
  have hxl2 : xs.length = 5 := hxl
  match cs, hl with
  | [c0, c1, c2, c3, c4], _ =>
    have e0 : DataW.trod enc Tryd.prog w 0 (fun _ => true) true m 9 ((List.drop 0 [c0, c1, c2, c3, c4]).take (Tryd.prog.cellsOf 9)) = xs[0]? := hfs 0 _ rfl
    rw [show Tryd.prog.cellsOf 9 = 1 from by kernel_rfl, List.getElem?_eq_getElem (by omega)] at e0
    obtain ⟨z0, y0, _, b0⟩ := DataW.trod_string Tryd.underlying9 e0
    obtain rfl : c0 = .string z0 := by simpa using y0
    have e1 : DataW.trod enc Tryd.prog w 0 (fun _ => true) true m 3 ((List.drop 1 [.string z0, c1, c2, c3, c4]).take (Tryd.prog.cellsOf 3)) = xs[1]? := hfs 1 _ rfl
    rw [show Tryd.prog.cellsOf 3 = 1 from by kernel_rfl, List.getElem?_eq_getElem (by omega)] at e1
    obtain ⟨z1, y1, _, _⟩ := DataW.trod_int Tryd.underlying3 e1
    obtain rfl : c1 = .int .i64 z1 := by simpa using y1
    have e2 : DataW.trod enc Tryd.prog w 0 (fun _ => true) true m 3 ((List.drop 2 [.string z0, .int .i64 z1, c2, c3, c4]).take (Tryd.prog.cellsOf 3)) = xs[2]? := hfs 2 _ rfl
    rw [show Tryd.prog.cellsOf 3 = 1 from by kernel_rfl, List.getElem?_eq_getElem (by omega)] at e2
    obtain ⟨z2, y2, _, _⟩ := DataW.trod_int Tryd.underlying3 e2
    obtain rfl : c2 = .int .i64 z2 := by simpa using y2
    have e3 : DataW.trod enc Tryd.prog w 0 (fun _ => true) true m 3 ((List.drop 3 [.string z0, .int .i64 z1, .int .i64 z2, c3, c4]).take (Tryd.prog.cellsOf 3)) = xs[3]? := hfs 3 _ rfl
    rw [show Tryd.prog.cellsOf 3 = 1 from by kernel_rfl, List.getElem?_eq_getElem (by omega)] at e3
    obtain ⟨z3, y3, _, _⟩ := DataW.trod_int Tryd.underlying3 e3
    obtain rfl : c3 = .int .i64 z3 := by simpa using y3
    have e4 : DataW.trod enc Tryd.prog w 0 (fun _ => true) true m 9 ((List.drop 4 [.string z0, .int .i64 z1, .int .i64 z2, .int .i64 z3, c4]).take (Tryd.prog.cellsOf 9)) = xs[4]? := hfs 4 _ rfl
    rw [show Tryd.prog.cellsOf 9 = 1 from by kernel_rfl, List.getElem?_eq_getElem (by omega)] at e4
    obtain ⟨z4, y4, _, b4⟩ := DataW.trod_string Tryd.underlying9 e4
    obtain rfl : c4 = .string z4 := by simpa using y4
    exact ⟨rfl, ⟨z0, z1, z2, z3, z4⟩, rfl, b0, b4⟩⟩
def noNetOut : NetOut := { name := ⟨#[]⟩, cell := 0 }
theorem opensNetOut {H : Type} {enc : TypeId × Value → H} {w : World} : Opens enc Tryd.prog w 79 2 RNetOut := ⟨by kernel_rfl, fun fuel cs x h => by
  obtain ⟨xs, m, hf, hx, hl, hxl, hfs⟩ := DataW.trod_struct Tryd.underlying79 h
  rw [show Tryd.prog.cellsOf 79 = 2 from by kernel_rfl] at hl
  have hxl2 : xs.length = 2 := hxl
  match cs, hl with
  | [c0, c1], _ =>
    have e0 : DataW.trod enc Tryd.prog w 0 (fun _ => true) true m 9 ((List.drop 0 [c0, c1]).take (Tryd.prog.cellsOf 9)) = xs[0]? := hfs 0 _ rfl
    rw [show Tryd.prog.cellsOf 9 = 1 from by kernel_rfl, List.getElem?_eq_getElem (by omega)] at e0
    obtain ⟨z0, y0, _, b0⟩ := DataW.trod_string Tryd.underlying9 e0
    obtain rfl : c0 = .string z0 := by simpa using y0
    have e1 : DataW.trod enc Tryd.prog w 0 (fun _ => true) true m 3 ((List.drop 1 [.string z0, c1]).take (Tryd.prog.cellsOf 3)) = xs[1]? := hfs 1 _ rfl
    rw [show Tryd.prog.cellsOf 3 = 1 from by kernel_rfl, List.getElem?_eq_getElem (by omega)] at e1
    obtain ⟨z1, y1, _, _⟩ := DataW.trod_int Tryd.underlying3 e1
    obtain rfl : c1 = .int .i64 z1 := by simpa using y1
    exact ⟨rfl, ⟨z0, z1⟩, rfl, b0⟩⟩
def noNet : Net := { ins := [], clocks := [], cells := [], regs := [], outs := [], checks := [] }
theorem opensNet {H : Type} {enc : TypeId × Value → H} {w : World} : Opens enc Tryd.prog w 28 6 RNet := ⟨by kernel_rfl, fun fuel cs x h => by
  have : Inhabited NetPort := ⟨noNetPort⟩
  have : Inhabited Cell := ⟨noCell⟩
  have : Inhabited NetReg := ⟨noNetReg⟩
  have : Inhabited NetOut := ⟨noNetOut⟩
  obtain ⟨xs, m, hf, hx, hl, hxl, hfs⟩ := DataW.trod_struct Tryd.underlying28 h
  rw [show Tryd.prog.cellsOf 28 = 6 from by kernel_rfl] at hl
  have hxl2 : xs.length = 6 := hxl
  match cs, hl with
  | [c0, c1, c2, c3, c4, c5], _ =>
    have e0 : DataW.trod enc Tryd.prog w 0 (fun _ => true) true m 22 ((List.drop 0 [c0, c1, c2, c3, c4, c5]).take (Tryd.prog.cellsOf 22)) = xs[0]? := hfs 0 _ rfl
    rw [show Tryd.prog.cellsOf 22 = 1 from by kernel_rfl, List.getElem?_eq_getElem (by omega)] at e0
    obtain ⟨z0, v0, y0, r0⟩ := opens_slice (enc := enc) Tryd.underlying22 (by decide) opensNetPort _ _ _ e0
    obtain rfl : v0 = c0 := by simpa using y0.symm
    have e1 : DataW.trod enc Tryd.prog w 0 (fun _ => true) true m 23 ((List.drop 1 [v0, c1, c2, c3, c4, c5]).take (Tryd.prog.cellsOf 23)) = xs[1]? := hfs 1 _ rfl
    rw [show Tryd.prog.cellsOf 23 = 1 from by kernel_rfl, List.getElem?_eq_getElem (by omega)] at e1
    obtain ⟨z1, v1, y1, r1⟩ := opens_slice (enc := enc) Tryd.underlying23 (by decide) (opens_str Tryd.underlying9 (by kernel_rfl)) _ _ _ e1
    obtain rfl : v1 = c1 := by simpa using y1.symm
    have e2 : DataW.trod enc Tryd.prog w 0 (fun _ => true) true m 24 ((List.drop 2 [v0, v1, c2, c3, c4, c5]).take (Tryd.prog.cellsOf 24)) = xs[2]? := hfs 2 _ rfl
    rw [show Tryd.prog.cellsOf 24 = 1 from by kernel_rfl, List.getElem?_eq_getElem (by omega)] at e2
    obtain ⟨z2, v2, y2, r2⟩ := opens_slice (enc := enc) Tryd.underlying24 (by decide) opensCell _ _ _ e2
    obtain rfl : v2 = c2 := by simpa using y2.symm
    have e3 : DataW.trod enc Tryd.prog w 0 (fun _ => true) true m 25 ((List.drop 3 [v0, v1, v2, c3, c4, c5]).take (Tryd.prog.cellsOf 25)) = xs[3]? := hfs 3 _ rfl
    rw [show Tryd.prog.cellsOf 25 = 1 from by kernel_rfl, List.getElem?_eq_getElem (by omega)] at e3
    obtain ⟨z3, v3, y3, r3⟩ := opens_slice (enc := enc) Tryd.underlying25 (by decide) opensNetReg _ _ _ e3
    obtain rfl : v3 = c3 := by simpa using y3.symm
    have e4 : DataW.trod enc Tryd.prog w 0 (fun _ => true) true m 26 ((List.drop 4 [v0, v1, v2, v3, c4, c5]).take (Tryd.prog.cellsOf 26)) = xs[4]? := hfs 4 _ rfl
    rw [show Tryd.prog.cellsOf 26 = 1 from by kernel_rfl, List.getElem?_eq_getElem (by omega)] at e4
    obtain ⟨z4, v4, y4, r4⟩ := opens_slice (enc := enc) Tryd.underlying26 (by decide) opensNetOut _ _ _ e4
    obtain rfl : v4 = c4 := by simpa using y4.symm
    have e5 : DataW.trod enc Tryd.prog w 0 (fun _ => true) true m 26 ((List.drop 5 [v0, v1, v2, v3, v4, c5]).take (Tryd.prog.cellsOf 26)) = xs[5]? := hfs 5 _ rfl
    rw [show Tryd.prog.cellsOf 26 = 1 from by kernel_rfl, List.getElem?_eq_getElem (by omega)] at e5
    obtain ⟨z5, v5, y5, r5⟩ := opens_slice (enc := enc) Tryd.underlying26 (by decide) opensNetOut _ _ _ e5
    obtain rfl : v5 = c5 := by simpa using y5.symm
    exact ⟨rfl, ⟨z0, z1, z2, z3, z4, z5⟩, _, _, _, _, _, _, rfl, r0, r1, r2, r3, r4, r5⟩⟩
end Go.Proofs.YtkmpjoiefcjbnaaDoor
