/- What a reading of an argument gives: trees as deep as the reading went. -/
import Derived.Test.YtgkfhaahcedbpaaGDD
import Derived.Test.YtgkfhaahcedbpaaGGS3
namespace Go.Proofs.Ytgkfhaahcedbpaa
open Go.RowKit Gs
set_option linter.unusedVariables false
set_option maxRecDepth 100000
/-- Opens, for readings that go no deeper than F. -/
def OpensB {H : Type} {α : Type} (enc : TypeId × Value → H) (P : Program) (w : World) (t : TypeId) (k : Nat) (R : Rd α) (F : Nat) : Prop := P.cellsOf t = k ∧ ∀ (fuel : Nat), fuel ≤ F → ∀ (cs : List Value) (x : DataW H × List MemPlace), DataW.trod enc P w 0 (fun _ => true) true fuel t cs = some x → cs.length = k ∧ ∃ a : α, R w 0 a cs
theorem opens_sliceB {H : Type} {enc : TypeId × Value → H} {P : Program} {w : World} {α : Type} [Inhabited α] {tS tE : TypeId} {k F : Nat} {R : Rd α} (hS : P.underlying tS = some (.slice tE)) (hk : 0 < k) (hE : OpensB enc P w tE k R F) :
    ∀ (fuel : Nat), fuel ≤ F → ∀ (cs : List Value) (x : DataW H × List MemPlace), DataW.trod enc P w 0 (fun _ => true) true fuel tS cs = some x → ∃ (xs : List α) (v : Value), cs = [v] ∧ RS k R w 0 xs v := by
  intro fuel hF cs x h
  rcases DataW.trod_slice hS h with ⟨hcs, _⟩ | ⟨a, len, cap, elems, rest, n', hf', hcs, _, _, hlc, hcm, hlen, hel, _, _⟩
  · exact ⟨[], _, hcs, RS.nil _ _ _ _ _ _⟩
  · by_cases hz : len = 0
    · subst hz
      exact ⟨[], _, hcs, RS.nil _ _ _ _ _ _⟩
    · have key : ∀ i, i < len → ∃ q : α × List Value, q.2.length = k ∧ (∀ j y, q.2[j]? = some y → w.cell? (a.add (i * k + j)) = some y) ∧ R w 0 q.1 q.2 := by
        intro i hi
        have he := hel i hi
        rw [List.getElem?_eq_getElem (by omega), hE.1] at he
        obtain ⟨cs', hc', ht'⟩ := Option.bind_eq_some_iff.1 he
        obtain ⟨hl, d, hd⟩ := hE.2 n' (by omega) _ _ ht'
        obtain ⟨hlc', _, hcell⟩ := World.cells?_some hc'
        refine ⟨(d, cs'), hl, fun j y hj => ?_, hd⟩
        have hjl : j < k := by rw [← hl]; exact (List.getElem?_eq_some_iff.1 hj).1
        have hc := hcell j (by omega)
        rw [hj] at hc
        simpa [Go.Deep.add_add] using hc
      have : Inhabited (α × List Value) := ⟨(default, [])⟩
      obtain ⟨f, hf⟩ := choose_lt (α := α × List Value) key
      have hspot : a.spot = none := by
        obtain ⟨h1, h2, _⟩ := hf 0 (by omega)
        obtain ⟨y, hy⟩ : ∃ y, (f 0).2[0]? = some y := ⟨_, List.getElem?_eq_getElem (by omega)⟩
        simpa [Addr.add] using World.cell?_spot (h2 0 y hy)
      obtain ⟨b, o, sp⟩ := a
      have hspot' : sp = none := hspot
      subst hspot'
      refine ⟨(List.range len).map fun i => (f i).1, _, hcs, some ⟨b, o, none⟩, cap, by simp, by simp; omega, by simp; omega, fun _ => ⟨b, o, rfl, Nat.zero_le _, fun i x hx => ?_⟩⟩
      simp only [List.getElem?_map, Option.map_eq_some_iff] at hx
      obtain ⟨i', hi', rfl⟩ := hx
      have hil : i < len := by simpa using (List.getElem?_eq_some_iff.1 hi').1
      have hii : i' = i := by simpa [List.getElem?_range hil] using hi'.symm
      subst hii
      obtain ⟨h1, h2, h3⟩ := hf i' hil
      refine ⟨(f i').2, h1, fun j y hj => ?_, h3⟩
      have := h2 j y hj
      rw [Addr.add_lit, ← Nat.add_assoc] at this
      exact this
def noEx : Ex := { op := 0, width := 0, n := 0, signed := false, bits := ⟨#[]⟩, kids := [] }
def noSt : St := { kind := 0, n := 0, low := 0, wide := 0, exs := [], kids := [] }
def noSignal : Signal := { name := ⟨#[]⟩, kind := 0, width := 0, depth := 0, signed := false, init := ⟨#[]⟩ }
def noProc : Proc := { kind := 0, clock := 0, name := ⟨#[]⟩, body := noSt }
theorem opensSignal {H : Type} {enc : TypeId × Value → H} {w : World} : ∀ F, OpensB enc Try.prog w 62 6 (RSignal) F
  | 0 => ⟨by kernel_rfl, fun fuel hF cs x h => by
    obtain ⟨xs, m, hf, hx, hl, hxl, hfs⟩ := DataW.trod_struct Try.underlying62 h
    omega⟩
  | F + 1 => ⟨by kernel_rfl, fun fuel hF cs x h => by
    have : Inhabited Ex := ⟨noEx⟩
    have : Inhabited St := ⟨noSt⟩
    have : Inhabited Signal := ⟨noSignal⟩
    have : Inhabited Proc := ⟨noProc⟩
    obtain ⟨xs, m, hf, hx, hl, hxl, hfs⟩ := DataW.trod_struct Try.underlying62 h
    rw [show Try.prog.cellsOf 62 = 6 from by kernel_rfl] at hl
    have hxl2 : xs.length = 6 := hxl
    match cs, hl with
    | [c0, c1, c2, c3, c4, c5], _ =>
      have e0 : DataW.trod enc Try.prog w 0 (fun _ => true) true m 9 ((List.drop 0 [c0, c1, c2, c3, c4, c5]).take (Try.prog.cellsOf 9)) = xs[0]? := hfs 0 _ rfl
      rw [show Try.prog.cellsOf 9 = 1 from by kernel_rfl, List.getElem?_eq_getElem (by omega)] at e0
      obtain ⟨z0, y0, _, b0⟩ := DataW.trod_string Try.underlying9 e0
      obtain rfl : c0 = .string z0 := by simpa using y0
      have e1 : DataW.trod enc Try.prog w 0 (fun _ => true) true m 3 ((List.drop 1 [.string z0, c1, c2, c3, c4, c5]).take (Try.prog.cellsOf 3)) = xs[1]? := hfs 1 _ rfl
      rw [show Try.prog.cellsOf 3 = 1 from by kernel_rfl, List.getElem?_eq_getElem (by omega)] at e1
      obtain ⟨z1, y1, _, _⟩ := DataW.trod_int Try.underlying3 e1
      obtain rfl : c1 = .int .i64 z1 := by simpa using y1
      have e2 : DataW.trod enc Try.prog w 0 (fun _ => true) true m 3 ((List.drop 2 [.string z0, .int .i64 z1, c2, c3, c4, c5]).take (Try.prog.cellsOf 3)) = xs[2]? := hfs 2 _ rfl
      rw [show Try.prog.cellsOf 3 = 1 from by kernel_rfl, List.getElem?_eq_getElem (by omega)] at e2
      obtain ⟨z2, y2, _, _⟩ := DataW.trod_int Try.underlying3 e2
      obtain rfl : c2 = .int .i64 z2 := by simpa using y2
      have e3 : DataW.trod enc Try.prog w 0 (fun _ => true) true m 3 ((List.drop 3 [.string z0, .int .i64 z1, .int .i64 z2, c3, c4, c5]).take (Try.prog.cellsOf 3)) = xs[3]? := hfs 3 _ rfl
      rw [show Try.prog.cellsOf 3 = 1 from by kernel_rfl, List.getElem?_eq_getElem (by omega)] at e3
      obtain ⟨z3, y3, _, _⟩ := DataW.trod_int Try.underlying3 e3
      obtain rfl : c3 = .int .i64 z3 := by simpa using y3
      have e4 : DataW.trod enc Try.prog w 0 (fun _ => true) true m 4 ((List.drop 4 [.string z0, .int .i64 z1, .int .i64 z2, .int .i64 z3, c4, c5]).take (Try.prog.cellsOf 4)) = xs[4]? := hfs 4 _ rfl
      rw [show Try.prog.cellsOf 4 = 1 from by kernel_rfl, List.getElem?_eq_getElem (by omega)] at e4
      obtain ⟨z4, y4, _⟩ := DataW.trod_bool Try.underlying4 e4
      obtain rfl : c4 = .bool z4 := by simpa using y4
      have e5 : DataW.trod enc Try.prog w 0 (fun _ => true) true m 9 ((List.drop 5 [.string z0, .int .i64 z1, .int .i64 z2, .int .i64 z3, .bool z4, c5]).take (Try.prog.cellsOf 9)) = xs[5]? := hfs 5 _ rfl
      rw [show Try.prog.cellsOf 9 = 1 from by kernel_rfl, List.getElem?_eq_getElem (by omega)] at e5
      obtain ⟨z5, y5, _, b5⟩ := DataW.trod_string Try.underlying9 e5
      obtain rfl : c5 = .string z5 := by simpa using y5
      exact ⟨rfl, ⟨z0, z1, z2, z3, z4, z5⟩, rfl, b0, b5⟩⟩
theorem opensEx {H : Type} {enc : TypeId × Value → H} {w : World} : ∀ F, OpensB enc Try.prog w 105 6 (RExN F) F
  | 0 => ⟨by kernel_rfl, fun fuel hF cs x h => by
    obtain ⟨xs, m, hf, hx, hl, hxl, hfs⟩ := DataW.trod_struct Try.underlying105 h
    omega⟩
  | F + 1 => ⟨by kernel_rfl, fun fuel hF cs x h => by
    have : Inhabited Ex := ⟨noEx⟩
    have : Inhabited St := ⟨noSt⟩
    have : Inhabited Signal := ⟨noSignal⟩
    have : Inhabited Proc := ⟨noProc⟩
    obtain ⟨xs, m, hf, hx, hl, hxl, hfs⟩ := DataW.trod_struct Try.underlying105 h
    rw [show Try.prog.cellsOf 105 = 6 from by kernel_rfl] at hl
    have hxl2 : xs.length = 6 := hxl
    match cs, hl with
    | [c0, c1, c2, c3, c4, c5], _ =>
      have e0 : DataW.trod enc Try.prog w 0 (fun _ => true) true m 3 ((List.drop 0 [c0, c1, c2, c3, c4, c5]).take (Try.prog.cellsOf 3)) = xs[0]? := hfs 0 _ rfl
      rw [show Try.prog.cellsOf 3 = 1 from by kernel_rfl, List.getElem?_eq_getElem (by omega)] at e0
      obtain ⟨z0, y0, _, _⟩ := DataW.trod_int Try.underlying3 e0
      obtain rfl : c0 = .int .i64 z0 := by simpa using y0
      have e1 : DataW.trod enc Try.prog w 0 (fun _ => true) true m 3 ((List.drop 1 [.int .i64 z0, c1, c2, c3, c4, c5]).take (Try.prog.cellsOf 3)) = xs[1]? := hfs 1 _ rfl
      rw [show Try.prog.cellsOf 3 = 1 from by kernel_rfl, List.getElem?_eq_getElem (by omega)] at e1
      obtain ⟨z1, y1, _, _⟩ := DataW.trod_int Try.underlying3 e1
      obtain rfl : c1 = .int .i64 z1 := by simpa using y1
      have e2 : DataW.trod enc Try.prog w 0 (fun _ => true) true m 3 ((List.drop 2 [.int .i64 z0, .int .i64 z1, c2, c3, c4, c5]).take (Try.prog.cellsOf 3)) = xs[2]? := hfs 2 _ rfl
      rw [show Try.prog.cellsOf 3 = 1 from by kernel_rfl, List.getElem?_eq_getElem (by omega)] at e2
      obtain ⟨z2, y2, _, _⟩ := DataW.trod_int Try.underlying3 e2
      obtain rfl : c2 = .int .i64 z2 := by simpa using y2
      have e3 : DataW.trod enc Try.prog w 0 (fun _ => true) true m 4 ((List.drop 3 [.int .i64 z0, .int .i64 z1, .int .i64 z2, c3, c4, c5]).take (Try.prog.cellsOf 4)) = xs[3]? := hfs 3 _ rfl
      rw [show Try.prog.cellsOf 4 = 1 from by kernel_rfl, List.getElem?_eq_getElem (by omega)] at e3
      obtain ⟨z3, y3, _⟩ := DataW.trod_bool Try.underlying4 e3
      obtain rfl : c3 = .bool z3 := by simpa using y3
      have e4 : DataW.trod enc Try.prog w 0 (fun _ => true) true m 9 ((List.drop 4 [.int .i64 z0, .int .i64 z1, .int .i64 z2, .bool z3, c4, c5]).take (Try.prog.cellsOf 9)) = xs[4]? := hfs 4 _ rfl
      rw [show Try.prog.cellsOf 9 = 1 from by kernel_rfl, List.getElem?_eq_getElem (by omega)] at e4
      obtain ⟨z4, y4, _, b4⟩ := DataW.trod_string Try.underlying9 e4
      obtain rfl : c4 = .string z4 := by simpa using y4
      have e5 : DataW.trod enc Try.prog w 0 (fun _ => true) true m 64 ((List.drop 5 [.int .i64 z0, .int .i64 z1, .int .i64 z2, .bool z3, .string z4, c5]).take (Try.prog.cellsOf 64)) = xs[5]? := hfs 5 _ rfl
      rw [show Try.prog.cellsOf 64 = 1 from by kernel_rfl, List.getElem?_eq_getElem (by omega)] at e5
      obtain ⟨z5, v5, y5, r5⟩ := opens_sliceB (enc := enc) Try.underlying64 (by decide) (opensEx F) _ (by omega) _ _ e5
      obtain rfl : v5 = c5 := by simpa using y5.symm
      exact ⟨rfl, ⟨z0, z1, z2, z3, z4, z5⟩, v5, rfl, b4, r5⟩⟩
theorem opensSt {H : Type} {enc : TypeId × Value → H} {w : World} : ∀ F, OpensB enc Try.prog w 67 6 (RStN F) F
  | 0 => ⟨by kernel_rfl, fun fuel hF cs x h => by
    obtain ⟨xs, m, hf, hx, hl, hxl, hfs⟩ := DataW.trod_struct Try.underlying67 h
    omega⟩
  | F + 1 => ⟨by kernel_rfl, fun fuel hF cs x h => by
    have : Inhabited Ex := ⟨noEx⟩
    have : Inhabited St := ⟨noSt⟩
    have : Inhabited Signal := ⟨noSignal⟩
    have : Inhabited Proc := ⟨noProc⟩
    obtain ⟨xs, m, hf, hx, hl, hxl, hfs⟩ := DataW.trod_struct Try.underlying67 h
    rw [show Try.prog.cellsOf 67 = 6 from by kernel_rfl] at hl
    have hxl2 : xs.length = 6 := hxl
    match cs, hl with
    | [c0, c1, c2, c3, c4, c5], _ =>
      have e0 : DataW.trod enc Try.prog w 0 (fun _ => true) true m 3 ((List.drop 0 [c0, c1, c2, c3, c4, c5]).take (Try.prog.cellsOf 3)) = xs[0]? := hfs 0 _ rfl
      rw [show Try.prog.cellsOf 3 = 1 from by kernel_rfl, List.getElem?_eq_getElem (by omega)] at e0
      obtain ⟨z0, y0, _, _⟩ := DataW.trod_int Try.underlying3 e0
      obtain rfl : c0 = .int .i64 z0 := by simpa using y0
      have e1 : DataW.trod enc Try.prog w 0 (fun _ => true) true m 3 ((List.drop 1 [.int .i64 z0, c1, c2, c3, c4, c5]).take (Try.prog.cellsOf 3)) = xs[1]? := hfs 1 _ rfl
      rw [show Try.prog.cellsOf 3 = 1 from by kernel_rfl, List.getElem?_eq_getElem (by omega)] at e1
      obtain ⟨z1, y1, _, _⟩ := DataW.trod_int Try.underlying3 e1
      obtain rfl : c1 = .int .i64 z1 := by simpa using y1
      have e2 : DataW.trod enc Try.prog w 0 (fun _ => true) true m 3 ((List.drop 2 [.int .i64 z0, .int .i64 z1, c2, c3, c4, c5]).take (Try.prog.cellsOf 3)) = xs[2]? := hfs 2 _ rfl
      rw [show Try.prog.cellsOf 3 = 1 from by kernel_rfl, List.getElem?_eq_getElem (by omega)] at e2
      obtain ⟨z2, y2, _, _⟩ := DataW.trod_int Try.underlying3 e2
      obtain rfl : c2 = .int .i64 z2 := by simpa using y2
      have e3 : DataW.trod enc Try.prog w 0 (fun _ => true) true m 3 ((List.drop 3 [.int .i64 z0, .int .i64 z1, .int .i64 z2, c3, c4, c5]).take (Try.prog.cellsOf 3)) = xs[3]? := hfs 3 _ rfl
      rw [show Try.prog.cellsOf 3 = 1 from by kernel_rfl, List.getElem?_eq_getElem (by omega)] at e3
      obtain ⟨z3, y3, _, _⟩ := DataW.trod_int Try.underlying3 e3
      obtain rfl : c3 = .int .i64 z3 := by simpa using y3
      have e4 : DataW.trod enc Try.prog w 0 (fun _ => true) true m 64 ((List.drop 4 [.int .i64 z0, .int .i64 z1, .int .i64 z2, .int .i64 z3, c4, c5]).take (Try.prog.cellsOf 64)) = xs[4]? := hfs 4 _ rfl
      rw [show Try.prog.cellsOf 64 = 1 from by kernel_rfl, List.getElem?_eq_getElem (by omega)] at e4
      obtain ⟨z4, v4, y4, r4⟩ := opens_sliceB (enc := enc) Try.underlying64 (by decide) (opensEx F) _ (by omega) _ _ e4
      obtain rfl : v4 = c4 := by simpa using y4.symm
      have e5 : DataW.trod enc Try.prog w 0 (fun _ => true) true m 65 ((List.drop 5 [.int .i64 z0, .int .i64 z1, .int .i64 z2, .int .i64 z3, v4, c5]).take (Try.prog.cellsOf 65)) = xs[5]? := hfs 5 _ rfl
      rw [show Try.prog.cellsOf 65 = 1 from by kernel_rfl, List.getElem?_eq_getElem (by omega)] at e5
      obtain ⟨z5, v5, y5, r5⟩ := opens_sliceB (enc := enc) Try.underlying65 (by decide) (opensSt F) _ (by omega) _ _ e5
      obtain rfl : v5 = c5 := by simpa using y5.symm
      exact ⟨rfl, ⟨z0, z1, z2, z3, z4, z5⟩, v4, v5, rfl, r4, r5⟩⟩
theorem opensProc {H : Type} {enc : TypeId × Value → H} {w : World} : ∀ F, OpensB enc Try.prog w 69 9 (RProcN F) F
  | 0 => ⟨by kernel_rfl, fun fuel hF cs x h => by
    obtain ⟨xs, m, hf, hx, hl, hxl, hfs⟩ := DataW.trod_struct Try.underlying69 h
    omega⟩
  | F + 1 => ⟨by kernel_rfl, fun fuel hF cs x h => by
    have : Inhabited Ex := ⟨noEx⟩
    have : Inhabited St := ⟨noSt⟩
    have : Inhabited Signal := ⟨noSignal⟩
    have : Inhabited Proc := ⟨noProc⟩
    obtain ⟨xs, m, hf, hx, hl, hxl, hfs⟩ := DataW.trod_struct Try.underlying69 h
    rw [show Try.prog.cellsOf 69 = 9 from by kernel_rfl] at hl
    have hxl2 : xs.length = 4 := hxl
    match cs, hl with
    | [c0, c1, c2, c3, c4, c5, c6, c7, c8], _ =>
      have e0 : DataW.trod enc Try.prog w 0 (fun _ => true) true m 3 ((List.drop 0 [c0, c1, c2, c3, c4, c5, c6, c7, c8]).take (Try.prog.cellsOf 3)) = xs[0]? := hfs 0 _ rfl
      rw [show Try.prog.cellsOf 3 = 1 from by kernel_rfl, List.getElem?_eq_getElem (by omega)] at e0
      obtain ⟨z0, y0, _, _⟩ := DataW.trod_int Try.underlying3 e0
      obtain rfl : c0 = .int .i64 z0 := by simpa using y0
      have e1 : DataW.trod enc Try.prog w 0 (fun _ => true) true m 3 ((List.drop 1 [.int .i64 z0, c1, c2, c3, c4, c5, c6, c7, c8]).take (Try.prog.cellsOf 3)) = xs[1]? := hfs 1 _ rfl
      rw [show Try.prog.cellsOf 3 = 1 from by kernel_rfl, List.getElem?_eq_getElem (by omega)] at e1
      obtain ⟨z1, y1, _, _⟩ := DataW.trod_int Try.underlying3 e1
      obtain rfl : c1 = .int .i64 z1 := by simpa using y1
      have e2 : DataW.trod enc Try.prog w 0 (fun _ => true) true m 9 ((List.drop 2 [.int .i64 z0, .int .i64 z1, c2, c3, c4, c5, c6, c7, c8]).take (Try.prog.cellsOf 9)) = xs[2]? := hfs 2 _ rfl
      rw [show Try.prog.cellsOf 9 = 1 from by kernel_rfl, List.getElem?_eq_getElem (by omega)] at e2
      obtain ⟨z2, y2, _, b2⟩ := DataW.trod_string Try.underlying9 e2
      obtain rfl : c2 = .string z2 := by simpa using y2
      have e3 : DataW.trod enc Try.prog w 0 (fun _ => true) true m 67 ((List.drop 3 [.int .i64 z0, .int .i64 z1, .string z2, c3, c4, c5, c6, c7, c8]).take (Try.prog.cellsOf 67)) = xs[3]? := hfs 3 _ rfl
      rw [show Try.prog.cellsOf 67 = 6 from by kernel_rfl, List.getElem?_eq_getElem (by omega)] at e3
      obtain ⟨_, z3, hz3⟩ := (opensSt (F + 1)).2 m (by omega) _ _ e3
      obtain ⟨v4, v5, hu, g4, g5⟩ := hz3
      have hu2 : [c3, c4, c5, c6, c7, c8] = [.int .i64 z3.kind, .int .i64 z3.n, .int .i64 z3.low, .int .i64 z3.wide, v4, v5] := hu
      injection hu2 with a3 hu2
      injection hu2 with a4 hu2
      injection hu2 with a5 hu2
      injection hu2 with a6 hu2
      injection hu2 with a7 hu2
      injection hu2 with a8 _
      subst a3 a4 a5 a6 a7 a8
      exact ⟨rfl, ⟨z0, z1, z2, z3⟩, _, _, rfl, b2, RS.upE (Nat.le_succ F) g4, RS.upS (Nat.le_succ F) g5⟩⟩
theorem RProcN.up {d d' : Nat} (hd : d ≤ d') {W : World} {B : Nat} {x : Proc} {u : List Value} (h : RProcN d W B x u) : RProcN d' W B x u := by
  obtain ⟨v7, v8, hu, hn, h7, h8⟩ := h
  exact ⟨v7, v8, hu, hn, RS.upE hd h7, RS.upS hd h8⟩
theorem RS.upP {d d' : Nat} (hd : d ≤ d') {W : World} {B : Nat} {xs : List Proc} {v : Value} (h : RS 9 (RProcN d) W B xs v) : RS 9 (RProcN d') W B xs v := by
  obtain ⟨a, c, hv, e1, e2, e3⟩ := h
  refine ⟨a, c, hv, e1, e2, fun hne => ?_⟩
  obtain ⟨b, o, ha, hb, he⟩ := e3 hne
  refine ⟨b, o, ha, hb, fun i x hx => ?_⟩
  obtain ⟨u, hl, hat, hr⟩ := he i x hx
  exact ⟨u, hl, hat, RProcN.up hd hr⟩
theorem opensFlat {H : Type} {enc : TypeId × Value → H} {w : World} : ∀ F, OpensB enc Try.prog w 25 2 (RFlatN F) F
  | 0 => ⟨by kernel_rfl, fun fuel hF cs x h => by
    obtain ⟨xs, m, hf, hx, hl, hxl, hfs⟩ := DataW.trod_struct Try.underlying25 h
    omega⟩
  | F + 1 => ⟨by kernel_rfl, fun fuel hF cs x h => by
    have : Inhabited Ex := ⟨noEx⟩
    have : Inhabited St := ⟨noSt⟩
    have : Inhabited Signal := ⟨noSignal⟩
    have : Inhabited Proc := ⟨noProc⟩
    obtain ⟨xs, m, hf, hx, hl, hxl, hfs⟩ := DataW.trod_struct Try.underlying25 h
    rw [show Try.prog.cellsOf 25 = 2 from by kernel_rfl] at hl
    have hxl2 : xs.length = 2 := hxl
    match cs, hl with
    | [c0, c1], _ =>
      have e0 : DataW.trod enc Try.prog w 0 (fun _ => true) true m 22 ((List.drop 0 [c0, c1]).take (Try.prog.cellsOf 22)) = xs[0]? := hfs 0 _ rfl
      rw [show Try.prog.cellsOf 22 = 1 from by kernel_rfl, List.getElem?_eq_getElem (by omega)] at e0
      obtain ⟨z0, v0, y0, r0⟩ := opens_sliceB (enc := enc) Try.underlying22 (by decide) (opensSignal F) _ (by omega) _ _ e0
      obtain rfl : v0 = c0 := by simpa using y0.symm
      have e1 : DataW.trod enc Try.prog w 0 (fun _ => true) true m 23 ((List.drop 1 [v0, c1]).take (Try.prog.cellsOf 23)) = xs[1]? := hfs 1 _ rfl
      rw [show Try.prog.cellsOf 23 = 1 from by kernel_rfl, List.getElem?_eq_getElem (by omega)] at e1
      obtain ⟨z1, v1, y1, r1⟩ := opens_sliceB (enc := enc) Try.underlying23 (by decide) (opensProc F) _ (by omega) _ _ e1
      obtain rfl : v1 = c1 := by simpa using y1.symm
      exact ⟨rfl, ⟨z0, z1⟩, v0, v1, rfl, r0, RS.upP (Nat.le_succ F) r1⟩⟩
end Go.Proofs.Ytgkfhaahcedbpaa
