/- What a reading of an argument gives. -/
import Derived.Test.YtdmmbhemmbgcpadDD
import Derived.Test.YtdmmbhemmbgcpadGS3
namespace Go.Proofs.Ytdmmbhemmbgcpad
open Go.RowKit Gs
set_option linter.unusedVariables false
set_option maxRecDepth 100000
def noBlock : Block := { name := ⟨#[]⟩, inp := [], table := 0, reg := false, init := 0, clock := 0 }
theorem opensBlock {H : Type} {enc : TypeId × Value → H} {w : World} : Opens enc Try.prog w 63 6 RBlock := ⟨by kernel_rfl, fun fuel cs x h => by
  obtain ⟨xs, m, hf, hx, hl, hxl, hfs⟩ := DataW.trod_struct Try.underlying63 h
  rw [show Try.prog.cellsOf 63 = 6 from by kernel_rfl] at hl
  have hxl2 : xs.length = 6 := hxl
  match cs, hl with
  | [c0, c1, c2, c3, c4, c5], _ =>
    have e0 : DataW.trod enc Try.prog w 0 (fun _ => true) true m 9 ((List.drop 0 [c0, c1, c2, c3, c4, c5]).take (Try.prog.cellsOf 9)) = xs[0]? := hfs 0 _ rfl
    rw [show Try.prog.cellsOf 9 = 1 from by kernel_rfl, List.getElem?_eq_getElem (by omega)] at e0
    obtain ⟨z0, y0, _, b0⟩ := DataW.trod_string Try.underlying9 e0
    obtain rfl : c0 = .string z0 := by simpa using y0
    have e1 : DataW.trod enc Try.prog w 0 (fun _ => true) true m 29 ((List.drop 1 [.string z0, c1, c2, c3, c4, c5]).take (Try.prog.cellsOf 29)) = xs[1]? := hfs 1 _ rfl
    rw [show Try.prog.cellsOf 29 = 1 from by kernel_rfl, List.getElem?_eq_getElem (by omega)] at e1
    obtain ⟨z1, v1, y1, r1⟩ := opens_slice (enc := enc) Try.underlying29 (by decide) (opens_int Try.underlying3 (by kernel_rfl)) _ _ _ e1
    obtain rfl : v1 = c1 := by simpa using y1.symm
    have e2 : DataW.trod enc Try.prog w 0 (fun _ => true) true m 3 ((List.drop 2 [.string z0, v1, c2, c3, c4, c5]).take (Try.prog.cellsOf 3)) = xs[2]? := hfs 2 _ rfl
    rw [show Try.prog.cellsOf 3 = 1 from by kernel_rfl, List.getElem?_eq_getElem (by omega)] at e2
    obtain ⟨z2, y2, _, _⟩ := DataW.trod_int Try.underlying3 e2
    obtain rfl : c2 = .int .i64 z2 := by simpa using y2
    have e3 : DataW.trod enc Try.prog w 0 (fun _ => true) true m 4 ((List.drop 3 [.string z0, v1, .int .i64 z2, c3, c4, c5]).take (Try.prog.cellsOf 4)) = xs[3]? := hfs 3 _ rfl
    rw [show Try.prog.cellsOf 4 = 1 from by kernel_rfl, List.getElem?_eq_getElem (by omega)] at e3
    obtain ⟨z3, y3, _⟩ := DataW.trod_bool Try.underlying4 e3
    obtain rfl : c3 = .bool z3 := by simpa using y3
    have e4 : DataW.trod enc Try.prog w 0 (fun _ => true) true m 3 ((List.drop 4 [.string z0, v1, .int .i64 z2, .bool z3, c4, c5]).take (Try.prog.cellsOf 3)) = xs[4]? := hfs 4 _ rfl
    rw [show Try.prog.cellsOf 3 = 1 from by kernel_rfl, List.getElem?_eq_getElem (by omega)] at e4
    obtain ⟨z4, y4, _, _⟩ := DataW.trod_int Try.underlying3 e4
    obtain rfl : c4 = .int .i64 z4 := by simpa using y4
    have e5 : DataW.trod enc Try.prog w 0 (fun _ => true) true m 3 ((List.drop 5 [.string z0, v1, .int .i64 z2, .bool z3, .int .i64 z4, c5]).take (Try.prog.cellsOf 3)) = xs[5]? := hfs 5 _ rfl
    rw [show Try.prog.cellsOf 3 = 1 from by kernel_rfl, List.getElem?_eq_getElem (by omega)] at e5
    obtain ⟨z5, y5, _, _⟩ := DataW.trod_int Try.underlying3 e5
    obtain rfl : c5 = .int .i64 z5 := by simpa using y5
    exact ⟨rfl, ⟨z0, z1, z2, z3, z4, z5⟩, _, rfl, b0, r1⟩⟩
def noPort : Port := { name := ⟨#[]⟩, src := 0 }
theorem opensPort {H : Type} {enc : TypeId × Value → H} {w : World} : Opens enc Try.prog w 66 2 RPort := ⟨by kernel_rfl, fun fuel cs x h => by
  obtain ⟨xs, m, hf, hx, hl, hxl, hfs⟩ := DataW.trod_struct Try.underlying66 h
  rw [show Try.prog.cellsOf 66 = 2 from by kernel_rfl] at hl
  have hxl2 : xs.length = 2 := hxl
  match cs, hl with
  | [c0, c1], _ =>
    have e0 : DataW.trod enc Try.prog w 0 (fun _ => true) true m 9 ((List.drop 0 [c0, c1]).take (Try.prog.cellsOf 9)) = xs[0]? := hfs 0 _ rfl
    rw [show Try.prog.cellsOf 9 = 1 from by kernel_rfl, List.getElem?_eq_getElem (by omega)] at e0
    obtain ⟨z0, y0, _, b0⟩ := DataW.trod_string Try.underlying9 e0
    obtain rfl : c0 = .string z0 := by simpa using y0
    have e1 : DataW.trod enc Try.prog w 0 (fun _ => true) true m 3 ((List.drop 1 [.string z0, c1]).take (Try.prog.cellsOf 3)) = xs[1]? := hfs 1 _ rfl
    rw [show Try.prog.cellsOf 3 = 1 from by kernel_rfl, List.getElem?_eq_getElem (by omega)] at e1
    obtain ⟨z1, y1, _, _⟩ := DataW.trod_int Try.underlying3 e1
    obtain rfl : c1 = .int .i64 z1 := by simpa using y1
    exact ⟨rfl, ⟨z0, z1⟩, rfl, b0⟩⟩
def noPacked : Packed := { ins := [], clocks := [], blocks := [], outs := [], checks := [] }
theorem opensPacked {H : Type} {enc : TypeId × Value → H} {w : World} : Opens enc Try.prog w 26 5 RPacked := ⟨by kernel_rfl, fun fuel cs x h => by
  have : Inhabited Block := ⟨noBlock⟩
  have : Inhabited Port := ⟨noPort⟩
  obtain ⟨xs, m, hf, hx, hl, hxl, hfs⟩ := DataW.trod_struct Try.underlying26 h
  rw [show Try.prog.cellsOf 26 = 5 from by kernel_rfl] at hl
  have hxl2 : xs.length = 5 := hxl
  match cs, hl with
  | [c0, c1, c2, c3, c4], _ =>
    have e0 : DataW.trod enc Try.prog w 0 (fun _ => true) true m 22 ((List.drop 0 [c0, c1, c2, c3, c4]).take (Try.prog.cellsOf 22)) = xs[0]? := hfs 0 _ rfl
    rw [show Try.prog.cellsOf 22 = 1 from by kernel_rfl, List.getElem?_eq_getElem (by omega)] at e0
    obtain ⟨z0, v0, y0, r0⟩ := opens_slice (enc := enc) Try.underlying22 (by decide) (opens_str Try.underlying9 (by kernel_rfl)) _ _ _ e0
    obtain rfl : v0 = c0 := by simpa using y0.symm
    have e1 : DataW.trod enc Try.prog w 0 (fun _ => true) true m 22 ((List.drop 1 [v0, c1, c2, c3, c4]).take (Try.prog.cellsOf 22)) = xs[1]? := hfs 1 _ rfl
    rw [show Try.prog.cellsOf 22 = 1 from by kernel_rfl, List.getElem?_eq_getElem (by omega)] at e1
    obtain ⟨z1, v1, y1, r1⟩ := opens_slice (enc := enc) Try.underlying22 (by decide) (opens_str Try.underlying9 (by kernel_rfl)) _ _ _ e1
    obtain rfl : v1 = c1 := by simpa using y1.symm
    have e2 : DataW.trod enc Try.prog w 0 (fun _ => true) true m 23 ((List.drop 2 [v0, v1, c2, c3, c4]).take (Try.prog.cellsOf 23)) = xs[2]? := hfs 2 _ rfl
    rw [show Try.prog.cellsOf 23 = 1 from by kernel_rfl, List.getElem?_eq_getElem (by omega)] at e2
    obtain ⟨z2, v2, y2, r2⟩ := opens_slice (enc := enc) Try.underlying23 (by decide) opensBlock _ _ _ e2
    obtain rfl : v2 = c2 := by simpa using y2.symm
    have e3 : DataW.trod enc Try.prog w 0 (fun _ => true) true m 24 ((List.drop 3 [v0, v1, v2, c3, c4]).take (Try.prog.cellsOf 24)) = xs[3]? := hfs 3 _ rfl
    rw [show Try.prog.cellsOf 24 = 1 from by kernel_rfl, List.getElem?_eq_getElem (by omega)] at e3
    obtain ⟨z3, v3, y3, r3⟩ := opens_slice (enc := enc) Try.underlying24 (by decide) opensPort _ _ _ e3
    obtain rfl : v3 = c3 := by simpa using y3.symm
    have e4 : DataW.trod enc Try.prog w 0 (fun _ => true) true m 24 ((List.drop 4 [v0, v1, v2, v3, c4]).take (Try.prog.cellsOf 24)) = xs[4]? := hfs 4 _ rfl
    rw [show Try.prog.cellsOf 24 = 1 from by kernel_rfl, List.getElem?_eq_getElem (by omega)] at e4
    obtain ⟨z4, v4, y4, r4⟩ := opens_slice (enc := enc) Try.underlying24 (by decide) opensPort _ _ _ e4
    obtain rfl : v4 = c4 := by simpa using y4.symm
    exact ⟨rfl, ⟨z0, z1, z2, z3, z4⟩, _, _, _, _, _, rfl, r0, r1, r2, r3, r4⟩⟩
end Go.Proofs.Ytdmmbhemmbgcpad
