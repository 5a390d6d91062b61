/- What a row's reading of an argument gives: the datum that its cells hold. -/
import Derived.Test.YtlldfaniddbjaaaGreatDoorGBits
import Derived.Test.YtlldfaniddbjaaaGreatDoorGGS2
import Derived.ChangeArms
import Derived.ChangeSame
import Derived.Deep.Strs
import Derived.Test.YtlldfaniddbjaaaGreatDoorGN2
import Derived.Test.YtlldfaniddbjaaaGreatDoorGHD
import Derived.Test.YtlldfaniddbjaaaGreatDoorGHT
namespace Go.Proofs.YtlldfaniddbjaaaGreatDoor.Gs
open Go Go.RowKit
set_option linter.unusedVariables false
theorem choose_lt {α : Type} [Inhabited α] {n : Nat} {p : Nat → α → Prop} (h : ∀ i, i < n → ∃ x, p i x) : ∃ f : Nat → α, ∀ i, i < n → p i (f i) :=
  ⟨fun i => if hi : i < n then Classical.choose (h i hi) else default, fun i hi => by simp only [dif_pos hi]; exact Classical.choose_spec (h i hi)⟩
section
variable {H : Type} {enc : TypeId × Value → H} {P : Program} {w : World}
/-- Whatever of that type is read holds a datum. -/
def Opens {α : Type} (enc : TypeId × Value → H) (P : Program) (w : World) (t : TypeId) (k : Nat) (R : Rd α) : Prop := P.cellsOf t = k ∧ ∀ (fuel : Nat) (cs : List Value) (x : DataW H × List MemPlace), DataW.trod enc P w 0 (fun _ => true) true fuel t cs = some x → cs.length = k ∧ ∃ a : α, R w 0 a cs
theorem opens_int {t : TypeId} (h : P.underlying t = some (.int .i64)) (hc : P.cellsOf t = 1) : Opens enc P w t 1 RInt := ⟨hc, fun fuel cs x hx => by
  obtain ⟨k, hk, _, _⟩ := DataW.trod_int h hx
  subst hk
  exact ⟨rfl, k, rfl⟩⟩
theorem opens_str {t : TypeId} (h : P.underlying t = some .string) (hc : P.cellsOf t = 1) : Opens enc P w t 1 RStr := ⟨hc, fun fuel cs x hx => by
  obtain ⟨s, hs, _, hb⟩ := DataW.trod_string h hx
  subst hs
  exact ⟨rfl, s, rfl, hb⟩⟩
theorem opens_slice {α : Type} [Inhabited α] {tS tE : TypeId} {k : Nat} {R : Rd α} (hS : P.underlying tS = some (.slice tE)) (hk : 0 < k) (hE : Opens enc P w tE k R) :
    ∀ (fuel : Nat) (cs : List Value) (x : DataW H × List MemPlace), DataW.trod enc P w 0 (fun _ => true) true fuel tS cs = some x → ∃ (xs : List α) (v : Value), cs = [v] ∧ RS k R w 0 xs v := by
  intro fuel cs x h
  rcases DataW.trod_slice hS h with ⟨hcs, _⟩ | ⟨a, len, cap, elems, rest, n', hf', hcs, _, _, hlc, hcm, hlen, hel, _, _⟩
  · exact ⟨[], _, hcs, RS.nil _ _ _ _ _ _⟩
  · by_cases hz : len = 0
    · subst hz
      exact ⟨[], _, hcs, RS.nil _ _ _ _ _ _⟩
    · have key : ∀ i, i < len → ∃ q : α × List Value, q.2.length = k ∧ (∀ j y, q.2[j]? = some y → w.cell? (a.add (i * k + j)) = some y) ∧ R w 0 q.1 q.2 := by
        intro i hi
        have he := hel i hi
        rw [List.getElem?_eq_getElem (by omega), hE.1] at he
        obtain ⟨cs', hc', ht'⟩ := Option.bind_eq_some_iff.1 he
        obtain ⟨hl, d, hd⟩ := hE.2 n' _ _ ht'
        obtain ⟨hlc', _, hcell⟩ := World.cells?_some hc'
        refine ⟨(d, cs'), hl, fun j y hj => ?_, hd⟩
        have hjl : j < k := by rw [← hl]; exact (List.getElem?_eq_some_iff.1 hj).1
        have hc := hcell j (by omega)
        rw [hj] at hc
        simpa [Go.Deep.add_add] using hc
      have : Inhabited (α × List Value) := ⟨(default, [])⟩
      obtain ⟨f, hf⟩ := choose_lt (α := α × List Value) key
      have hspot : a.spot = none := by
        obtain ⟨h1, h2, _⟩ := hf 0 (by omega)
        obtain ⟨y, hy⟩ : ∃ y, (f 0).2[0]? = some y := ⟨_, List.getElem?_eq_getElem (by omega)⟩
        simpa [Addr.add] using World.cell?_spot (h2 0 y hy)
      obtain ⟨b, o, sp⟩ := a
      have hspot' : sp = none := hspot
      subst hspot'
      refine ⟨(List.range len).map fun i => (f i).1, _, hcs, some ⟨b, o, none⟩, cap, by simp, by simp; omega, by simp; omega, fun _ => ⟨b, o, rfl, Nat.zero_le _, fun i x hx => ?_⟩⟩
      simp only [List.getElem?_map, Option.map_eq_some_iff] at hx
      obtain ⟨i', hi', rfl⟩ := hx
      have hil : i < len := by simpa using (List.getElem?_eq_some_iff.1 hi').1
      have hii : i' = i := by simpa [List.getElem?_range hil] using hi'.symm
      subst hii
      obtain ⟨h1, h2, h3⟩ := hf i' hil
      refine ⟨(f i').2, h1, fun j y hj => ?_, h3⟩
      have := h2 j y hj
      rw [Addr.add_lit, ← Nat.add_assoc] at this
      exact this
theorem opens_row {α : Type} [Inhabited α] {tS tE : TypeId} {k : Nat} {R : Rd α} (hS : P.underlying tS = some (.slice tE)) (hc : P.cellsOf tS = 1) (hk : 0 < k) (hE : Opens enc P w tE k R) : Opens enc P w tS 1 (RL k R) := ⟨hc, fun fuel cs x h => by
  obtain ⟨xs, v, rfl, hr⟩ := opens_slice hS hk hE fuel cs x h
  exact ⟨rfl, xs, v, rfl, hr⟩⟩
end
end Go.Proofs.YtlldfaniddbjaaaGreatDoor.Gs
namespace Go.Proofs.YtlldfaniddbjaaaGreatDoor
open Go.RowKit Gs
set_option linter.unusedVariables false
set_option maxRecDepth 100000
def noBlock : Block := { name := ⟨#[]⟩, inp := [], table := 0, reg := false, init := 0, clock := 0 }
theorem opensBlock {H : Type} {enc : TypeId × Value → H} {w : World} : Opens enc Tryz.prog w 95 6 RBlock := ⟨by kernel_rfl, fun fuel cs x h => by
  obtain ⟨xs, m, hf, hx, hl, hxl, hfs⟩ := DataW.trod_struct Tryz.underlying95 h
  rw [show Tryz.prog.cellsOf 95 = 6 from by kernel_rfl] at hl
  have hxl2 : xs.length = 6 := hxl
  match cs, hl with
  | [c0, c1, c2, c3, c4, c5], _ =>
    have e0 : DataW.trod enc Tryz.prog w 0 (fun _ => true) true m 9 ((List.drop 0 [c0, c1, c2, c3, c4, c5]).take (Tryz.prog.cellsOf 9)) = xs[0]? := hfs 0 _ rfl
    rw [show Tryz.prog.cellsOf 9 = 1 from by kernel_rfl, List.getElem?_eq_getElem (by omega)] at e0
    obtain ⟨z0, y0, _, b0⟩ := DataW.trod_string Tryz.underlying9 e0
    obtain rfl : c0 = .string z0 := by simpa using y0
    have e1 : DataW.trod enc Tryz.prog w 0 (fun _ => true) true m 29 ((List.drop 1 [.string z0, c1, c2, c3, c4, c5]).take (Tryz.prog.cellsOf 29)) = xs[1]? := hfs 1 _ rfl
    rw [show Tryz.prog.cellsOf 29 = 1 from by kernel_rfl, List.getElem?_eq_getElem (by omega)] at e1
    obtain ⟨z1, v1, y1, r1⟩ := opens_slice (enc := enc) Tryz.underlying29 (by decide) (opens_int Tryz.underlying3 (by kernel_rfl)) _ _ _ e1
    obtain rfl : v1 = c1 := by simpa using y1.symm
    have e2 : DataW.trod enc Tryz.prog w 0 (fun _ => true) true m 3 ((List.drop 2 [.string z0, v1, c2, c3, c4, c5]).take (Tryz.prog.cellsOf 3)) = xs[2]? := hfs 2 _ rfl
    rw [show Tryz.prog.cellsOf 3 = 1 from by kernel_rfl, List.getElem?_eq_getElem (by omega)] at e2
    obtain ⟨z2, y2, _, _⟩ := DataW.trod_int Tryz.underlying3 e2
    obtain rfl : c2 = .int .i64 z2 := by simpa using y2
    have e3 : DataW.trod enc Tryz.prog w 0 (fun _ => true) true m 4 ((List.drop 3 [.string z0, v1, .int .i64 z2, c3, c4, c5]).take (Tryz.prog.cellsOf 4)) = xs[3]? := hfs 3 _ rfl
    rw [show Tryz.prog.cellsOf 4 = 1 from by kernel_rfl, List.getElem?_eq_getElem (by omega)] at e3
    obtain ⟨z3, y3, _⟩ := DataW.trod_bool Tryz.underlying4 e3
    obtain rfl : c3 = .bool z3 := by simpa using y3
    have e4 : DataW.trod enc Tryz.prog w 0 (fun _ => true) true m 3 ((List.drop 4 [.string z0, v1, .int .i64 z2, .bool z3, c4, c5]).take (Tryz.prog.cellsOf 3)) = xs[4]? := hfs 4 _ rfl
    rw [show Tryz.prog.cellsOf 3 = 1 from by kernel_rfl, List.getElem?_eq_getElem (by omega)] at e4
    obtain ⟨z4, y4, _, _⟩ := DataW.trod_int Tryz.underlying3 e4
    obtain rfl : c4 = .int .i64 z4 := by simpa using y4
    have e5 : DataW.trod enc Tryz.prog w 0 (fun _ => true) true m 3 ((List.drop 5 [.string z0, v1, .int .i64 z2, .bool z3, .int .i64 z4, c5]).take (Tryz.prog.cellsOf 3)) = xs[5]? := hfs 5 _ rfl
    rw [show Tryz.prog.cellsOf 3 = 1 from by kernel_rfl, List.getElem?_eq_getElem (by omega)] at e5
    obtain ⟨z5, y5, _, _⟩ := DataW.trod_int Tryz.underlying3 e5
    obtain rfl : c5 = .int .i64 z5 := by simpa using y5
    exact ⟨rfl, ⟨z0, z1, z2, z3, z4, z5⟩, _, rfl, b0, r1⟩⟩
def noPort : Port := { name := ⟨#[]⟩, src := 0 }
theorem opensPort {H : Type} {enc : TypeId × Value → H} {w : World} : Opens enc Tryz.prog w 98 2 RPort := ⟨by kernel_rfl, fun fuel cs x h => by
  obtain ⟨xs, m, hf, hx, hl, hxl, hfs⟩ := DataW.trod_struct Tryz.underlying98 h
  rw [show Tryz.prog.cellsOf 98 = 2 from by kernel_rfl] at hl
  have hxl2 : xs.length = 2 := hxl
  match cs, hl with
  | [c0, c1], _ =>
    have e0 : DataW.trod enc Tryz.prog w 0 (fun _ => true) true m 9 ((List.drop 0 [c0, c1]).take (Tryz.prog.cellsOf 9)) = xs[0]? := hfs 0 _ rfl
    rw [show Tryz.prog.cellsOf 9 = 1 from by kernel_rfl, List.getElem?_eq_getElem (by omega)] at e0
    obtain ⟨z0, y0, _, b0⟩ := DataW.trod_string Tryz.underlying9 e0
    obtain rfl : c0 = .string z0 := by simpa using y0
    have e1 : DataW.trod enc Tryz.prog w 0 (fun _ => true) true m 3 ((List.drop 1 [.string z0, c1]).take (Tryz.prog.cellsOf 3)) = xs[1]? := hfs 1 _ rfl
    rw [show Tryz.prog.cellsOf 3 = 1 from by kernel_rfl, List.getElem?_eq_getElem (by omega)] at e1
    obtain ⟨z1, y1, _, _⟩ := DataW.trod_int Tryz.underlying3 e1
    obtain rfl : c1 = .int .i64 z1 := by simpa using y1
    exact ⟨rfl, ⟨z0, z1⟩, rfl, b0⟩⟩
def noPacked : Packed := { ins := [], clocks := [], blocks := [], outs := [], checks := [] }
theorem opensPacked {H : Type} {enc : TypeId × Value → H} {w : World} : Opens enc Tryz.prog w 26 5 RPacked := ⟨by kernel_rfl, fun fuel cs x h => by
  have : Inhabited Block := ⟨noBlock⟩
  have : Inhabited Port := ⟨noPort⟩
  obtain ⟨xs, m, hf, hx, hl, hxl, hfs⟩ := DataW.trod_struct Tryz.underlying26 h
  rw [show Tryz.prog.cellsOf 26 = 5 from by kernel_rfl] at hl
  have hxl2 : xs.length = 5 := hxl
  match cs, hl with
  | [c0, c1, c2, c3, c4], _ =>
    have e0 : DataW.trod enc Tryz.prog w 0 (fun _ => true) true m 22 ((List.drop 0 [c0, c1, c2, c3, c4]).take (Tryz.prog.cellsOf 22)) = xs[0]? := hfs 0 _ rfl
    rw [show Tryz.prog.cellsOf 22 = 1 from by kernel_rfl, List.getElem?_eq_getElem (by omega)] at e0
    obtain ⟨z0, v0, y0, r0⟩ := opens_slice (enc := enc) Tryz.underlying22 (by decide) (opens_str Tryz.underlying9 (by kernel_rfl)) _ _ _ e0
    obtain rfl : v0 = c0 := by simpa using y0.symm
    have e1 : DataW.trod enc Tryz.prog w 0 (fun _ => true) true m 22 ((List.drop 1 [v0, c1, c2, c3, c4]).take (Tryz.prog.cellsOf 22)) = xs[1]? := hfs 1 _ rfl
    rw [show Tryz.prog.cellsOf 22 = 1 from by kernel_rfl, List.getElem?_eq_getElem (by omega)] at e1
    obtain ⟨z1, v1, y1, r1⟩ := opens_slice (enc := enc) Tryz.underlying22 (by decide) (opens_str Tryz.underlying9 (by kernel_rfl)) _ _ _ e1
    obtain rfl : v1 = c1 := by simpa using y1.symm
    have e2 : DataW.trod enc Tryz.prog w 0 (fun _ => true) true m 23 ((List.drop 2 [v0, v1, c2, c3, c4]).take (Tryz.prog.cellsOf 23)) = xs[2]? := hfs 2 _ rfl
    rw [show Tryz.prog.cellsOf 23 = 1 from by kernel_rfl, List.getElem?_eq_getElem (by omega)] at e2
    obtain ⟨z2, v2, y2, r2⟩ := opens_slice (enc := enc) Tryz.underlying23 (by decide) opensBlock _ _ _ e2
    obtain rfl : v2 = c2 := by simpa using y2.symm
    have e3 : DataW.trod enc Tryz.prog w 0 (fun _ => true) true m 24 ((List.drop 3 [v0, v1, v2, c3, c4]).take (Tryz.prog.cellsOf 24)) = xs[3]? := hfs 3 _ rfl
    rw [show Tryz.prog.cellsOf 24 = 1 from by kernel_rfl, List.getElem?_eq_getElem (by omega)] at e3
    obtain ⟨z3, v3, y3, r3⟩ := opens_slice (enc := enc) Tryz.underlying24 (by decide) opensPort _ _ _ e3
    obtain rfl : v3 = c3 := by simpa using y3.symm
    have e4 : DataW.trod enc Tryz.prog w 0 (fun _ => true) true m 24 ((List.drop 4 [v0, v1, v2, v3, c4]).take (Tryz.prog.cellsOf 24)) = xs[4]? := hfs 4 _ rfl
    rw [show Tryz.prog.cellsOf 24 = 1 from by kernel_rfl, List.getElem?_eq_getElem (by omega)] at e4
    obtain ⟨z4, v4, y4, r4⟩ := opens_slice (enc := enc) Tryz.underlying24 (by decide) opensPort _ _ _ e4
    obtain rfl : v4 = c4 := by simpa using y4.symm
    exact ⟨rfl, ⟨z0, z1, z2, z3, z4⟩, _, _, _, _, _, rfl, r0, r1, r2, r3, r4⟩⟩
end Go.Proofs.YtlldfaniddbjaaaGreatDoor
namespace Go.Proofs.YtlldfaniddbjaaaGreatDoor
open Go.RowKit Gs
set_option linter.unusedVariables false
set_option maxRecDepth 100000
def noHop : Hop := { x := 0, y := 0, d := 0, t := 0, f := 0 }
theorem opensHop {H : Type} {enc : TypeId × Value → H} {w : World} : Opens enc Tryz.prog w 109 5 RHop := ⟨by kernel_rfl, fun fuel cs x h => by
  obtain ⟨xs, m, hf, hx, hl, hxl, hfs⟩ := DataW.trod_struct Tryz.underlying109 h
  rw [show Tryz.prog.cellsOf 109 = 5 from by kernel_rfl] at hl
  have hxl2 : xs.length = 5 := hxl
  match cs, hl with
  | [c0, c1, c2, c3, c4], _ =>
    have e0 : DataW.trod enc Tryz.prog w 0 (fun _ => true) true m 3 ((List.drop 0 [c0, c1, c2, c3, c4]).take (Tryz.prog.cellsOf 3)) = xs[0]? := hfs 0 _ rfl
    rw [show Tryz.prog.cellsOf 3 = 1 from by kernel_rfl, List.getElem?_eq_getElem (by omega)] at e0
    obtain ⟨z0, y0, _, _⟩ := DataW.trod_int Tryz.underlying3 e0
    obtain rfl : c0 = .int .i64 z0 := by simpa using y0
    have e1 : DataW.trod enc Tryz.prog w 0 (fun _ => true) true m 3 ((List.drop 1 [.int .i64 z0, c1, c2, c3, c4]).take (Tryz.prog.cellsOf 3)) = xs[1]? := hfs 1 _ rfl
    rw [show Tryz.prog.cellsOf 3 = 1 from by kernel_rfl, List.getElem?_eq_getElem (by omega)] at e1
    obtain ⟨z1, y1, _, _⟩ := DataW.trod_int Tryz.underlying3 e1
    obtain rfl : c1 = .int .i64 z1 := by simpa using y1
    have e2 : DataW.trod enc Tryz.prog w 0 (fun _ => true) true m 3 ((List.drop 2 [.int .i64 z0, .int .i64 z1, c2, c3, c4]).take (Tryz.prog.cellsOf 3)) = xs[2]? := hfs 2 _ rfl
    rw [show Tryz.prog.cellsOf 3 = 1 from by kernel_rfl, List.getElem?_eq_getElem (by omega)] at e2
    obtain ⟨z2, y2, _, _⟩ := DataW.trod_int Tryz.underlying3 e2
    obtain rfl : c2 = .int .i64 z2 := by simpa using y2
    have e3 : DataW.trod enc Tryz.prog w 0 (fun _ => true) true m 3 ((List.drop 3 [.int .i64 z0, .int .i64 z1, .int .i64 z2, c3, c4]).take (Tryz.prog.cellsOf 3)) = xs[3]? := hfs 3 _ rfl
    rw [show Tryz.prog.cellsOf 3 = 1 from by kernel_rfl, List.getElem?_eq_getElem (by omega)] at e3
    obtain ⟨z3, y3, _, _⟩ := DataW.trod_int Tryz.underlying3 e3
    obtain rfl : c3 = .int .i64 z3 := by simpa using y3
    have e4 : DataW.trod enc Tryz.prog w 0 (fun _ => true) true m 3 ((List.drop 4 [.int .i64 z0, .int .i64 z1, .int .i64 z2, .int .i64 z3, c4]).take (Tryz.prog.cellsOf 3)) = xs[4]? := hfs 4 _ rfl
    rw [show Tryz.prog.cellsOf 3 = 1 from by kernel_rfl, List.getElem?_eq_getElem (by omega)] at e4
    obtain ⟨z4, y4, _, _⟩ := DataW.trod_int Tryz.underlying3 e4
    obtain rfl : c4 = .int .i64 z4 := by simpa using y4
    exact ⟨rfl, ⟨z0, z1, z2, z3, z4⟩, rfl⟩⟩
theorem opensHopS {H : Type} {enc : TypeId × Value → H} {w : World} : Opens enc Tryz.prog w 52 1 RHopS := ⟨by kernel_rfl, fun fuel cs x h => by
  have : Inhabited Hop := ⟨noHop⟩
  obtain ⟨z, v, y, r⟩ := opens_slice (enc := enc) Tryz.underlying52 (by decide) opensHop _ _ _ h
  subst y
  exact ⟨rfl, z, v, rfl, r⟩⟩
end Go.Proofs.YtlldfaniddbjaaaGreatDoor
namespace Go.Proofs.YtlldfaniddbjaaaGreatDoor
open Go.RowKit Gs
set_option linter.unusedVariables false
set_option maxRecDepth 100000
def noChip : Chip := { wide := 0, high := 0, tracks := 0, pads := 0 }
theorem opensChip {H : Type} {enc : TypeId × Value → H} {w : World} : Opens enc Tryz.prog w 28 4 RChip := ⟨by kernel_rfl, fun fuel cs x h => by
  obtain ⟨xs, m, hf, hx, hl, hxl, hfs⟩ := DataW.trod_struct Tryz.underlying28 h
  rw [show Tryz.prog.cellsOf 28 = 4 from by kernel_rfl] at hl
  have hxl2 : xs.length = 4 := hxl
  match cs, hl with
  | [c0, c1, c2, c3], _ =>
    have e0 : DataW.trod enc Tryz.prog w 0 (fun _ => true) true m 3 ((List.drop 0 [c0, c1, c2, c3]).take (Tryz.prog.cellsOf 3)) = xs[0]? := hfs 0 _ rfl
    rw [show Tryz.prog.cellsOf 3 = 1 from by kernel_rfl, List.getElem?_eq_getElem (by omega)] at e0
    obtain ⟨z0, y0, _, _⟩ := DataW.trod_int Tryz.underlying3 e0
    obtain rfl : c0 = .int .i64 z0 := by simpa using y0
    have e1 : DataW.trod enc Tryz.prog w 0 (fun _ => true) true m 3 ((List.drop 1 [.int .i64 z0, c1, c2, c3]).take (Tryz.prog.cellsOf 3)) = xs[1]? := hfs 1 _ rfl
    rw [show Tryz.prog.cellsOf 3 = 1 from by kernel_rfl, List.getElem?_eq_getElem (by omega)] at e1
    obtain ⟨z1, y1, _, _⟩ := DataW.trod_int Tryz.underlying3 e1
    obtain rfl : c1 = .int .i64 z1 := by simpa using y1
    have e2 : DataW.trod enc Tryz.prog w 0 (fun _ => true) true m 3 ((List.drop 2 [.int .i64 z0, .int .i64 z1, c2, c3]).take (Tryz.prog.cellsOf 3)) = xs[2]? := hfs 2 _ rfl
    rw [show Tryz.prog.cellsOf 3 = 1 from by kernel_rfl, List.getElem?_eq_getElem (by omega)] at e2
    obtain ⟨z2, y2, _, _⟩ := DataW.trod_int Tryz.underlying3 e2
    obtain rfl : c2 = .int .i64 z2 := by simpa using y2
    have e3 : DataW.trod enc Tryz.prog w 0 (fun _ => true) true m 3 ((List.drop 3 [.int .i64 z0, .int .i64 z1, .int .i64 z2, c3]).take (Tryz.prog.cellsOf 3)) = xs[3]? := hfs 3 _ rfl
    rw [show Tryz.prog.cellsOf 3 = 1 from by kernel_rfl, List.getElem?_eq_getElem (by omega)] at e3
    obtain ⟨z3, y3, _, _⟩ := DataW.trod_int Tryz.underlying3 e3
    obtain rfl : c3 = .int .i64 z3 := by simpa using y3
    exact ⟨rfl, ⟨z0, z1, z2, z3⟩, rfl⟩⟩
end Go.Proofs.YtlldfaniddbjaaaGreatDoor
