/- What the laws' eq functions answer of equal data. -/
import Derived.Test.YtlldfaniddbjaaaGreatDoorGN2
import Derived.Deep.RegionHeld3
import Derived.BigQuiet
namespace Go.Proofs.YtlldfaniddbjaaaGreatDoor
open Go.RowKit Gs
set_option linter.unusedVariables false
set_option maxRecDepth 100000
theorem bdn {w W : World} {n : Nat} (h : Below w.heap.size w W) : Below w.heap.size w (W.drewN n) := ⟨h.os, h.tape, h.output, h.size, h.block⟩
theorem keepE2 {W V v1 : World} {a0 a1 a2 a3 : Addr} {x0 x1 x2 x3 : Value} (h : V.cell? a0 = some x0 ∧ V.cell? a1 = some x1 ∧ V.cell? a2 = some x2 ∧ V.cell? a3 = some x3 ∧ Below W.heap.size W V) (hb : Below V.heap.size V v1) : v1.cell? a0 = some x0 ∧ v1.cell? a1 = some x1 ∧ v1.cell? a2 = some x2 ∧ v1.cell? a3 = some x3 ∧ Below W.heap.size W v1 :=
  ⟨cell_later hb h.1, cell_later hb h.2.1, cell_later hb h.2.2.1, cell_later hb h.2.2.2.1, btr h.2.2.2.2 hb⟩
theorem belowE2 {W V : World} {a0 a1 a2 a3 : Addr} {x0 x1 x2 x3 : Value} (h : V.cell? a0 = some x0 ∧ V.cell? a1 = some x1 ∧ V.cell? a2 = some x2 ∧ V.cell? a3 = some x3 ∧ Below W.heap.size W V) : Below W.heap.size W V := h.2.2.2.2
theorem keepE6 {W V v1 : World} {a0 a1 a2 a3 a4 a5 a6 a7 a8 a9 a10 a11 : Addr} {x0 x1 x2 x3 x4 x5 x6 x7 x8 x9 x10 x11 : Value} (h : V.cell? a0 = some x0 ∧ V.cell? a1 = some x1 ∧ V.cell? a2 = some x2 ∧ V.cell? a3 = some x3 ∧ V.cell? a4 = some x4 ∧ V.cell? a5 = some x5 ∧ V.cell? a6 = some x6 ∧ V.cell? a7 = some x7 ∧ V.cell? a8 = some x8 ∧ V.cell? a9 = some x9 ∧ V.cell? a10 = some x10 ∧ V.cell? a11 = some x11 ∧ Below W.heap.size W V) (hb : Below V.heap.size V v1) : v1.cell? a0 = some x0 ∧ v1.cell? a1 = some x1 ∧ v1.cell? a2 = some x2 ∧ v1.cell? a3 = some x3 ∧ v1.cell? a4 = some x4 ∧ v1.cell? a5 = some x5 ∧ v1.cell? a6 = some x6 ∧ v1.cell? a7 = some x7 ∧ v1.cell? a8 = some x8 ∧ v1.cell? a9 = some x9 ∧ v1.cell? a10 = some x10 ∧ v1.cell? a11 = some x11 ∧ Below W.heap.size W v1 :=
  ⟨cell_later hb h.1, cell_later hb h.2.1, cell_later hb h.2.2.1, cell_later hb h.2.2.2.1, cell_later hb h.2.2.2.2.1, cell_later hb h.2.2.2.2.2.1, cell_later hb h.2.2.2.2.2.2.1, cell_later hb h.2.2.2.2.2.2.2.1, cell_later hb h.2.2.2.2.2.2.2.2.1, cell_later hb h.2.2.2.2.2.2.2.2.2.1, cell_later hb h.2.2.2.2.2.2.2.2.2.2.1, cell_later hb h.2.2.2.2.2.2.2.2.2.2.2.1, btr h.2.2.2.2.2.2.2.2.2.2.2.2 hb⟩
theorem belowE6 {W V : World} {a0 a1 a2 a3 a4 a5 a6 a7 a8 a9 a10 a11 : Addr} {x0 x1 x2 x3 x4 x5 x6 x7 x8 x9 x10 x11 : Value} (h : V.cell? a0 = some x0 ∧ V.cell? a1 = some x1 ∧ V.cell? a2 = some x2 ∧ V.cell? a3 = some x3 ∧ V.cell? a4 = some x4 ∧ V.cell? a5 = some x5 ∧ V.cell? a6 = some x6 ∧ V.cell? a7 = some x7 ∧ V.cell? a8 = some x8 ∧ V.cell? a9 = some x9 ∧ V.cell? a10 = some x10 ∧ V.cell? a11 = some x11 ∧ Below W.heap.size W V) : Below W.heap.size W V := h.2.2.2.2.2.2.2.2.2.2.2.2
theorem eqStringS0 (a1 a2 : Option Addr) (c1 c2 : Nat) (w : World) : Calls Tryz.prog 38 #[.slice a1 0 c1, .slice a2 0 c2] w fun e w' => e = .returned (.bool true) ∧ Below w.heap.size w w' := by
  go_enter Tryz.func38, Tryz.ntmps38
  go_wp2
  go_loopw [5] (fun i wr => i = .int .i64 0 ∧ Below w.heap.size w wr) (fun i wr => 0)
  case atStart => exact ⟨rfl, brf _⟩
  case round =>
    obtain ⟨rfl, hb⟩ := hrel
    have HB := hide hb
    clear hb
    go_wp2
    exact bodyPost_ret (v := .bool true) (by simp [results, Tryz.results38, go_sem]) rfl ⟨rfl, unhide HB⟩
set_option maxHeartbeats 1600000 in
theorem eqStringS_of (xs : List ByteArray) (v1 v2 : Value) (w : World) (h1 : RS 1 RStr w 0 xs v1) (h2 : RS 1 RStr w 0 xs v2) :
    Calls Tryz.prog 38 #[v1, v2] w fun e w' => e = .returned (.bool true) ∧ Below w.heap.size w w' := by
  rcases h1.open with ⟨rfl, a1, c1, rfl⟩ | ⟨b1, o1, c1, rfl, _, hn, _, hc1⟩
  · obtain ⟨a2, c2, rfl⟩ := h2.slice
    exact eqStringS0 _ _ _ _ w
  · rcases h2.open with ⟨rfl, a2, c2, rfl⟩ | ⟨b2, o2, c2, rfl, _, _, _, hc2⟩
    · exact eqStringS0 _ _ _ _ w
    · unfold maxLen at hn
      have HC1 := hide hc1
      have HC2 := hide hc2
      clear hc1 hc2 h1 h2
      go_enter Tryz.func38, Tryz.ntmps38
      go_wp2
      go_loopw [5] (fun i wr => ∃ j : Nat, j ≤ xs.length ∧ i = .int .i64 j ∧ Below w.heap.size w wr) (fun i wr => xs.length - (intOf i).toNat)
      case atStart => exact ⟨0, Nat.zero_le _, rfl, brf _⟩
      case round =>
        obtain ⟨j, hj, rfl, hb⟩ := hrel
        by_cases hjn : j < xs.length
        · have hx : xs[j]? = some xs[j] := List.getElem?_eq_getElem hjn
          generalize xs[j] = x at hx
          obtain ⟨u1, _, at1, r1⟩ := unhide HC1 j x hx
          obtain ⟨u2, _, at2, r2⟩ := unhide HC2 j x hx
          have i1 : (0 : Int) ≤ (j : Int) := by omega
          have i2 : (j : Int) < (xs.length : Int) := by omega
          obtain ⟨rfl, _⟩ := r1
          obtain ⟨rfl, _⟩ := r2
          have k0 := cell_later hb (at1.get (j := 0) rfl)
          have m0 := cell_later hb (at2.get (j := 0) rfl)
          simp only [Nat.add_zero, Nat.mul_one] at k0 m0
          have HB := hide hb
          clear hb at1 at2 HC1 HC2
          go_wp2
          go_quiet (fail)
          go_wp2
          exact ⟨⟨j + 1, by omega, by go_num, bdn (unhide HB)⟩, by simp [intOf]; omega⟩
        · obtain rfl : j = xs.length := by omega
          have HB := hide hb
          clear hb HC1 HC2
          go_wp2
          exact bodyPost_ret (v := .bool true) (by simp [results, Tryz.results38, go_sem]) rfl ⟨rfl, unhide HB⟩
theorem eqIntS0 (a1 a2 : Option Addr) (c1 c2 : Nat) (w : World) : Calls Tryz.prog 13 #[.slice a1 0 c1, .slice a2 0 c2] w fun e w' => e = .returned (.bool true) ∧ Below w.heap.size w w' := by
  go_enter Tryz.func13, Tryz.ntmps13
  go_wp2
  go_loopw [5] (fun i wr => i = .int .i64 0 ∧ Below w.heap.size w wr) (fun i wr => 0)
  case atStart => exact ⟨rfl, brf _⟩
  case round =>
    obtain ⟨rfl, hb⟩ := hrel
    have HB := hide hb
    clear hb
    go_wp2
    exact bodyPost_ret (v := .bool true) (by simp [results, Tryz.results13, go_sem]) rfl ⟨rfl, unhide HB⟩
set_option maxHeartbeats 1600000 in
theorem eqIntS_of (xs : List Int) (v1 v2 : Value) (w : World) (h1 : RS 1 RInt w 0 xs v1) (h2 : RS 1 RInt w 0 xs v2) :
    Calls Tryz.prog 13 #[v1, v2] w fun e w' => e = .returned (.bool true) ∧ Below w.heap.size w w' := by
  rcases h1.open with ⟨rfl, a1, c1, rfl⟩ | ⟨b1, o1, c1, rfl, _, hn, _, hc1⟩
  · obtain ⟨a2, c2, rfl⟩ := h2.slice
    exact eqIntS0 _ _ _ _ w
  · rcases h2.open with ⟨rfl, a2, c2, rfl⟩ | ⟨b2, o2, c2, rfl, _, _, _, hc2⟩
    · exact eqIntS0 _ _ _ _ w
    · unfold maxLen at hn
      have HC1 := hide hc1
      have HC2 := hide hc2
      clear hc1 hc2 h1 h2
      go_enter Tryz.func13, Tryz.ntmps13
      go_wp2
      go_loopw [5] (fun i wr => ∃ j : Nat, j ≤ xs.length ∧ i = .int .i64 j ∧ Below w.heap.size w wr) (fun i wr => xs.length - (intOf i).toNat)
      case atStart => exact ⟨0, Nat.zero_le _, rfl, brf _⟩
      case round =>
        obtain ⟨j, hj, rfl, hb⟩ := hrel
        by_cases hjn : j < xs.length
        · have hx : xs[j]? = some xs[j] := List.getElem?_eq_getElem hjn
          generalize xs[j] = x at hx
          obtain ⟨u1, _, at1, r1⟩ := unhide HC1 j x hx
          obtain ⟨u2, _, at2, r2⟩ := unhide HC2 j x hx
          have i1 : (0 : Int) ≤ (j : Int) := by omega
          have i2 : (j : Int) < (xs.length : Int) := by omega
          obtain rfl := r1
          obtain rfl := r2
          have k0 := cell_later hb (at1.get (j := 0) rfl)
          have m0 := cell_later hb (at2.get (j := 0) rfl)
          simp only [Nat.add_zero, Nat.mul_one] at k0 m0
          have HB := hide hb
          clear hb at1 at2 HC1 HC2
          go_wp2
          go_quiet (fail)
          go_wp2
          exact ⟨⟨j + 1, by omega, by go_num, bdn (unhide HB)⟩, by simp [intOf]; omega⟩
        · obtain rfl : j = xs.length := by omega
          have HB := hide hb
          clear hb HC1 HC2
          go_wp2
          exact bodyPost_ret (v := .bool true) (by simp [results, Tryz.results13, go_sem]) rfl ⟨rfl, unhide HB⟩
set_option maxHeartbeats 1600000 in
theorem eqBlock_of (x : Block) (u1 u2 : List Value) (w : World) (h1 : RBlock w 0 x u1) (h2 : RBlock w 0 x u2) :
    Calls Tryz.prog 75 #[.agg u1.toArray, .agg u2.toArray] w fun e w' => e = .returned (.bool true) ∧ Below w.heap.size w w' := by
  obtain ⟨p1, rfl, _, rp1⟩ := h1
  obtain ⟨q1, rfl, _, rq1⟩ := h2
  have S1 := hide (fun (W : World) (hb : Below w.heap.size w W) => eqIntS_of x.inp p1 q1 W (rp1.later RInt.keeps hb) (rq1.later RInt.keeps hb))
  obtain ⟨a1, c1, rfl⟩ := rp1.slice
  obtain ⟨d1, e1, rfl⟩ := rq1.slice
  clear rp1 rq1
  have Y2 : Hid (∀ t s, ((w.alloc (.cells #[.string x.name, .slice a1 x.inp.length c1, .int .i64 x.table, .bool x.reg, .int .i64 x.init, .int .i64 x.clock] t)).alloc (.cells #[.string x.name, .slice d1 x.inp.length e1, .int .i64 x.table, .bool x.reg, .int .i64 x.init, .int .i64 x.clock] s)).cell? ⟨w.heap.size, 2, none⟩ = some (.int .i64 x.table)) := hide (fun t s => cell_later (bal (brf _) _) (by rw [World.cell?_alloc_new]; rfl))
  have Z2 : Hid (∀ t s, ((w.alloc (.cells #[.string x.name, .slice a1 x.inp.length c1, .int .i64 x.table, .bool x.reg, .int .i64 x.init, .int .i64 x.clock] t)).alloc (.cells #[.string x.name, .slice d1 x.inp.length e1, .int .i64 x.table, .bool x.reg, .int .i64 x.init, .int .i64 x.clock] s)).cell? ⟨w.heap.size + 1, 2, none⟩ = some (.int .i64 x.table)) := hide (fun t s => by simp)
  have Y3 : Hid (∀ t s, ((w.alloc (.cells #[.string x.name, .slice a1 x.inp.length c1, .int .i64 x.table, .bool x.reg, .int .i64 x.init, .int .i64 x.clock] t)).alloc (.cells #[.string x.name, .slice d1 x.inp.length e1, .int .i64 x.table, .bool x.reg, .int .i64 x.init, .int .i64 x.clock] s)).cell? ⟨w.heap.size, 3, none⟩ = some (.bool x.reg)) := hide (fun t s => cell_later (bal (brf _) _) (by rw [World.cell?_alloc_new]; rfl))
  have Z3 : Hid (∀ t s, ((w.alloc (.cells #[.string x.name, .slice a1 x.inp.length c1, .int .i64 x.table, .bool x.reg, .int .i64 x.init, .int .i64 x.clock] t)).alloc (.cells #[.string x.name, .slice d1 x.inp.length e1, .int .i64 x.table, .bool x.reg, .int .i64 x.init, .int .i64 x.clock] s)).cell? ⟨w.heap.size + 1, 3, none⟩ = some (.bool x.reg)) := hide (fun t s => by simp)
  have Y4 : Hid (∀ t s, ((w.alloc (.cells #[.string x.name, .slice a1 x.inp.length c1, .int .i64 x.table, .bool x.reg, .int .i64 x.init, .int .i64 x.clock] t)).alloc (.cells #[.string x.name, .slice d1 x.inp.length e1, .int .i64 x.table, .bool x.reg, .int .i64 x.init, .int .i64 x.clock] s)).cell? ⟨w.heap.size, 4, none⟩ = some (.int .i64 x.init)) := hide (fun t s => cell_later (bal (brf _) _) (by rw [World.cell?_alloc_new]; rfl))
  have Z4 : Hid (∀ t s, ((w.alloc (.cells #[.string x.name, .slice a1 x.inp.length c1, .int .i64 x.table, .bool x.reg, .int .i64 x.init, .int .i64 x.clock] t)).alloc (.cells #[.string x.name, .slice d1 x.inp.length e1, .int .i64 x.table, .bool x.reg, .int .i64 x.init, .int .i64 x.clock] s)).cell? ⟨w.heap.size + 1, 4, none⟩ = some (.int .i64 x.init)) := hide (fun t s => by simp)
  have Y5 : Hid (∀ t s, ((w.alloc (.cells #[.string x.name, .slice a1 x.inp.length c1, .int .i64 x.table, .bool x.reg, .int .i64 x.init, .int .i64 x.clock] t)).alloc (.cells #[.string x.name, .slice d1 x.inp.length e1, .int .i64 x.table, .bool x.reg, .int .i64 x.init, .int .i64 x.clock] s)).cell? ⟨w.heap.size, 5, none⟩ = some (.int .i64 x.clock)) := hide (fun t s => cell_later (bal (brf _) _) (by rw [World.cell?_alloc_new]; rfl))
  have Z5 : Hid (∀ t s, ((w.alloc (.cells #[.string x.name, .slice a1 x.inp.length c1, .int .i64 x.table, .bool x.reg, .int .i64 x.init, .int .i64 x.clock] t)).alloc (.cells #[.string x.name, .slice d1 x.inp.length e1, .int .i64 x.table, .bool x.reg, .int .i64 x.init, .int .i64 x.clock] s)).cell? ⟨w.heap.size + 1, 5, none⟩ = some (.int .i64 x.clock)) := hide (fun t s => by simp)
  generalize x.name = z0 at *
  generalize x.table = z2 at *
  generalize x.reg = z3 at *
  generalize x.init = z4 at *
  generalize x.clock = z5 at *
  go_enter Tryz.func75, Tryz.ntmps75
  go_wp2_with (first | (go_at_call 13; refine (unhide S1 _ (bal (bal (brf w) _) _)).mono ?_; rintro e W1 ⟨rfl, hb1⟩; have hB1 := btr (bal (bal (brf w) _) _) hb1; have y1_2 := cell_later hb1 (unhide Y2 _ _); have z1_2 := cell_later hb1 (unhide Z2 _ _); have y1_3 := cell_later hb1 (unhide Y3 _ _); have z1_3 := cell_later hb1 (unhide Z3 _ _); have y1_4 := cell_later hb1 (unhide Y4 _ _); have z1_4 := cell_later hb1 (unhide Z4 _ _); have y1_5 := cell_later hb1 (unhide Y5 _ _); have z1_5 := cell_later hb1 (unhide Z5 _ _)))
  exact bodyPost_ret (v := .bool true) (by simp [results, Tryz.results75, go_sem]) rfl ⟨rfl, hB1⟩
theorem eqBlockS0 (a1 a2 : Option Addr) (c1 c2 : Nat) (w : World) : Calls Tryz.prog 39 #[.slice a1 0 c1, .slice a2 0 c2] w fun e w' => e = .returned (.bool true) ∧ Below w.heap.size w w' := by
  go_enter Tryz.func39, Tryz.ntmps39
  go_wp2
  go_loopw [5] (fun i wr => i = .int .i64 0 ∧ Below w.heap.size w wr) (fun i wr => 0)
  case atStart => exact ⟨rfl, brf _⟩
  case round =>
    obtain ⟨rfl, hb⟩ := hrel
    have HB := hide hb
    clear hb
    go_wp2
    exact bodyPost_ret (v := .bool true) (by simp [results, Tryz.results39, go_sem]) rfl ⟨rfl, unhide HB⟩
set_option maxHeartbeats 1600000 in
theorem eqBlockS_of (xs : List Block) (v1 v2 : Value) (w : World) (h1 : RS 6 RBlock w 0 xs v1) (h2 : RS 6 RBlock w 0 xs v2) :
    Calls Tryz.prog 39 #[v1, v2] w fun e w' => e = .returned (.bool true) ∧ Below w.heap.size w w' := by
  rcases h1.open with ⟨rfl, a1, c1, rfl⟩ | ⟨b1, o1, c1, rfl, _, hn, _, hc1⟩
  · obtain ⟨a2, c2, rfl⟩ := h2.slice
    exact eqBlockS0 _ _ _ _ w
  · rcases h2.open with ⟨rfl, a2, c2, rfl⟩ | ⟨b2, o2, c2, rfl, _, _, _, hc2⟩
    · exact eqBlockS0 _ _ _ _ w
    · unfold maxLen at hn
      have HC1 := hide hc1
      have HC2 := hide hc2
      clear hc1 hc2 h1 h2
      go_enter Tryz.func39, Tryz.ntmps39
      go_wp2
      go_loopw [5] (fun i wr => ∃ j : Nat, j ≤ xs.length ∧ i = .int .i64 j ∧ Below w.heap.size w wr) (fun i wr => xs.length - (intOf i).toNat)
      case atStart => exact ⟨0, Nat.zero_le _, rfl, brf _⟩
      case round =>
        obtain ⟨j, hj, rfl, hb⟩ := hrel
        by_cases hjn : j < xs.length
        · have hx : xs[j]? = some xs[j] := List.getElem?_eq_getElem hjn
          generalize xs[j] = x at hx
          obtain ⟨u1, _, at1, r1⟩ := unhide HC1 j x hx
          obtain ⟨u2, _, at2, r2⟩ := unhide HC2 j x hx
          have i1 : (0 : Int) ≤ (j : Int) := by omega
          have i2 : (j : Int) < (xs.length : Int) := by omega
          have PX := hide (fun (wy : World) (hy : Below wr.heap.size wr wy) => eqBlock_of x u1 u2 wy (RBlock.keeps _ _ _ _ _ (later_cells (btr hb hy) 0) r1) (RBlock.keeps _ _ _ _ _ (later_cells (btr hb hy) 0) r2))
          obtain ⟨p1, rfl, _, _⟩ := r1
          obtain ⟨q1, rfl, _, _⟩ := r2
          have k0 := cell_later hb (at1.get (j := 0) rfl)
          have m0 := cell_later hb (at2.get (j := 0) rfl)
          have k1 := cell_later hb (at1.get (j := 1) rfl)
          have m1 := cell_later hb (at2.get (j := 1) rfl)
          have k2 := cell_later hb (at1.get (j := 2) rfl)
          have m2 := cell_later hb (at2.get (j := 2) rfl)
          have k3 := cell_later hb (at1.get (j := 3) rfl)
          have m3 := cell_later hb (at2.get (j := 3) rfl)
          have k4 := cell_later hb (at1.get (j := 4) rfl)
          have m4 := cell_later hb (at2.get (j := 4) rfl)
          have k5 := cell_later hb (at1.get (j := 5) rfl)
          have m5 := cell_later hb (at2.get (j := 5) rfl)
          simp only [Nat.add_zero] at k0 m0
          have HB := hide hb
          clear hb at1 at2 HC1 HC2
          generalize x.name = z0 at *
          generalize x.table = z2 at *
          generalize x.reg = z3 at *
          generalize x.init = z4 at *
          generalize x.clock = z5 at *
          go_wp2
          go_region_held3 (fun w' => w'.cell? ⟨b1, o1 + j * 6, none⟩ = some (.string z0) ∧ w'.cell? ⟨b1, o1 + j * 6 + 1, none⟩ = some (p1) ∧ w'.cell? ⟨b1, o1 + j * 6 + 2, none⟩ = some (.int .i64 z2) ∧ w'.cell? ⟨b1, o1 + j * 6 + 3, none⟩ = some (.bool z3) ∧ w'.cell? ⟨b1, o1 + j * 6 + 4, none⟩ = some (.int .i64 z4) ∧ w'.cell? ⟨b1, o1 + j * 6 + 5, none⟩ = some (.int .i64 z5) ∧ w'.cell? ⟨b2, o2 + j * 6, none⟩ = some (.string z0) ∧ w'.cell? ⟨b2, o2 + j * 6 + 1, none⟩ = some (q1) ∧ w'.cell? ⟨b2, o2 + j * 6 + 2, none⟩ = some (.int .i64 z2) ∧ w'.cell? ⟨b2, o2 + j * 6 + 3, none⟩ = some (.bool z3) ∧ w'.cell? ⟨b2, o2 + j * 6 + 4, none⟩ = some (.int .i64 z4) ∧ w'.cell? ⟨b2, o2 + j * 6 + 5, none⟩ = some (.int .i64 z5) ∧ Below wr.heap.size wr w')
            (first | (exact ⟨k0, k1, k2, k3, k4, k5, m0, m1, m2, m3, m4, m5, bdr (brf _)⟩) | (exact keepE6 (by assumption) hb1))
            (first | (go_at_call 75; refine (unhide PX _ (belowE6 (by assumption))).mono ?_; rintro e v1 ⟨rfl, hb1⟩))
          all_goals
            have hSf : v1.cell? ⟨b1, o1 + j * 6, none⟩ = some (.string z0) ∧ v1.cell? ⟨b1, o1 + j * 6 + 1, none⟩ = some (p1) ∧ v1.cell? ⟨b1, o1 + j * 6 + 2, none⟩ = some (.int .i64 z2) ∧ v1.cell? ⟨b1, o1 + j * 6 + 3, none⟩ = some (.bool z3) ∧ v1.cell? ⟨b1, o1 + j * 6 + 4, none⟩ = some (.int .i64 z4) ∧ v1.cell? ⟨b1, o1 + j * 6 + 5, none⟩ = some (.int .i64 z5) ∧ v1.cell? ⟨b2, o2 + j * 6, none⟩ = some (.string z0) ∧ v1.cell? ⟨b2, o2 + j * 6 + 1, none⟩ = some (q1) ∧ v1.cell? ⟨b2, o2 + j * 6 + 2, none⟩ = some (.int .i64 z2) ∧ v1.cell? ⟨b2, o2 + j * 6 + 3, none⟩ = some (.bool z3) ∧ v1.cell? ⟨b2, o2 + j * 6 + 4, none⟩ = some (.int .i64 z4) ∧ v1.cell? ⟨b2, o2 + j * 6 + 5, none⟩ = some (.int .i64 z5) ∧ Below wr.heap.size wr v1 := by assumption
            have HB2 := hide (btr (unhide HB) (belowE6 hSf))
            clear hSf k0 m0 k1 m1 k2 m2 k3 m3 k4 m4 k5 m5
            go_wp2
            exact ⟨⟨j + 1, by omega, by go_num, unhide HB2⟩, by simp [intOf]; omega⟩
        · obtain rfl : j = xs.length := by omega
          have HB := hide hb
          clear hb HC1 HC2
          go_wp2
          exact bodyPost_ret (v := .bool true) (by simp [results, Tryz.results39, go_sem]) rfl ⟨rfl, unhide HB⟩
set_option maxHeartbeats 1600000 in
theorem eqPort_of (x : Port) (u1 u2 : List Value) (w : World) (h1 : RPort w 0 x u1) (h2 : RPort w 0 x u2) :
    Calls Tryz.prog 76 #[.agg u1.toArray, .agg u2.toArray] w fun e w' => e = .returned (.bool true) ∧ Below w.heap.size w w' := by
  obtain ⟨rfl, _⟩ := h1
  obtain ⟨rfl, _⟩ := h2
  generalize x.name = z0 at *
  generalize x.src = z1 at *
  go_enter Tryz.func76, Tryz.ntmps76
  go_wp2
  exact bodyPost_ret (v := .bool true) (by simp [results, Tryz.results76, go_sem]) rfl ⟨rfl, bal (bal (brf w) _) _⟩
theorem eqPortS0 (a1 a2 : Option Addr) (c1 c2 : Nat) (w : World) : Calls Tryz.prog 40 #[.slice a1 0 c1, .slice a2 0 c2] w fun e w' => e = .returned (.bool true) ∧ Below w.heap.size w w' := by
  go_enter Tryz.func40, Tryz.ntmps40
  go_wp2
  go_loopw [5] (fun i wr => i = .int .i64 0 ∧ Below w.heap.size w wr) (fun i wr => 0)
  case atStart => exact ⟨rfl, brf _⟩
  case round =>
    obtain ⟨rfl, hb⟩ := hrel
    have HB := hide hb
    clear hb
    go_wp2
    exact bodyPost_ret (v := .bool true) (by simp [results, Tryz.results40, go_sem]) rfl ⟨rfl, unhide HB⟩
set_option maxHeartbeats 1600000 in
theorem eqPortS_of (xs : List Port) (v1 v2 : Value) (w : World) (h1 : RS 2 RPort w 0 xs v1) (h2 : RS 2 RPort w 0 xs v2) :
    Calls Tryz.prog 40 #[v1, v2] w fun e w' => e = .returned (.bool true) ∧ Below w.heap.size w w' := by
  rcases h1.open with ⟨rfl, a1, c1, rfl⟩ | ⟨b1, o1, c1, rfl, _, hn, _, hc1⟩
  · obtain ⟨a2, c2, rfl⟩ := h2.slice
    exact eqPortS0 _ _ _ _ w
  · rcases h2.open with ⟨rfl, a2, c2, rfl⟩ | ⟨b2, o2, c2, rfl, _, _, _, hc2⟩
    · exact eqPortS0 _ _ _ _ w
    · unfold maxLen at hn
      have HC1 := hide hc1
      have HC2 := hide hc2
      clear hc1 hc2 h1 h2
      go_enter Tryz.func40, Tryz.ntmps40
      go_wp2
      go_loopw [5] (fun i wr => ∃ j : Nat, j ≤ xs.length ∧ i = .int .i64 j ∧ Below w.heap.size w wr) (fun i wr => xs.length - (intOf i).toNat)
      case atStart => exact ⟨0, Nat.zero_le _, rfl, brf _⟩
      case round =>
        obtain ⟨j, hj, rfl, hb⟩ := hrel
        by_cases hjn : j < xs.length
        · have hx : xs[j]? = some xs[j] := List.getElem?_eq_getElem hjn
          generalize xs[j] = x at hx
          obtain ⟨u1, _, at1, r1⟩ := unhide HC1 j x hx
          obtain ⟨u2, _, at2, r2⟩ := unhide HC2 j x hx
          have i1 : (0 : Int) ≤ (j : Int) := by omega
          have i2 : (j : Int) < (xs.length : Int) := by omega
          have PX := hide (fun (wy : World) (hy : Below wr.heap.size wr wy) => eqPort_of x u1 u2 wy (RPort.keeps _ _ _ _ _ (later_cells (btr hb hy) 0) r1) (RPort.keeps _ _ _ _ _ (later_cells (btr hb hy) 0) r2))
          obtain ⟨rfl, _⟩ := r1
          obtain ⟨rfl, _⟩ := r2
          have k0 := cell_later hb (at1.get (j := 0) rfl)
          have m0 := cell_later hb (at2.get (j := 0) rfl)
          have k1 := cell_later hb (at1.get (j := 1) rfl)
          have m1 := cell_later hb (at2.get (j := 1) rfl)
          simp only [Nat.add_zero] at k0 m0
          have HB := hide hb
          clear hb at1 at2 HC1 HC2
          generalize x.name = z0 at *
          generalize x.src = z1 at *
          go_wp2
          go_region_held3 (fun w' => w'.cell? ⟨b1, o1 + j * 2, none⟩ = some (.string z0) ∧ w'.cell? ⟨b1, o1 + j * 2 + 1, none⟩ = some (.int .i64 z1) ∧ w'.cell? ⟨b2, o2 + j * 2, none⟩ = some (.string z0) ∧ w'.cell? ⟨b2, o2 + j * 2 + 1, none⟩ = some (.int .i64 z1) ∧ Below wr.heap.size wr w')
            (first | (exact ⟨k0, k1, m0, m1, bdr (brf _)⟩) | (exact keepE2 (by assumption) hb1))
            (first | (go_at_call 76; refine (unhide PX _ (belowE2 (by assumption))).mono ?_; rintro e v1 ⟨rfl, hb1⟩))
          all_goals
            have hSf : v1.cell? ⟨b1, o1 + j * 2, none⟩ = some (.string z0) ∧ v1.cell? ⟨b1, o1 + j * 2 + 1, none⟩ = some (.int .i64 z1) ∧ v1.cell? ⟨b2, o2 + j * 2, none⟩ = some (.string z0) ∧ v1.cell? ⟨b2, o2 + j * 2 + 1, none⟩ = some (.int .i64 z1) ∧ Below wr.heap.size wr v1 := by assumption
            have HB2 := hide (btr (unhide HB) (belowE2 hSf))
            clear hSf k0 m0 k1 m1
            go_wp2
            exact ⟨⟨j + 1, by omega, by go_num, unhide HB2⟩, by simp [intOf]; omega⟩
        · obtain rfl : j = xs.length := by omega
          have HB := hide hb
          clear hb HC1 HC2
          go_wp2
          exact bodyPost_ret (v := .bool true) (by simp [results, Tryz.results40, go_sem]) rfl ⟨rfl, unhide HB⟩
set_option maxHeartbeats 1600000 in
theorem eqPacked_of (x : Packed) (u1 u2 : List Value) (w : World) (h1 : RPacked w 0 x u1) (h2 : RPacked w 0 x u2) :
    Calls Tryz.prog 12 #[.agg u1.toArray, .agg u2.toArray] w fun e w' => e = .returned (.bool true) ∧ Below w.heap.size w w' := by
  obtain ⟨p0, p1, p2, p3, p4, rfl, rp0, rp1, rp2, rp3, rp4⟩ := h1
  obtain ⟨q0, q1, q2, q3, q4, rfl, rq0, rq1, rq2, rq3, rq4⟩ := h2
  have S0 := hide (fun (W : World) (hb : Below w.heap.size w W) => eqStringS_of x.ins p0 q0 W (rp0.later RStr.keeps hb) (rq0.later RStr.keeps hb))
  obtain ⟨a0, c0, rfl⟩ := rp0.slice
  obtain ⟨d0, e0, rfl⟩ := rq0.slice
  have S1 := hide (fun (W : World) (hb : Below w.heap.size w W) => eqStringS_of x.clocks p1 q1 W (rp1.later RStr.keeps hb) (rq1.later RStr.keeps hb))
  obtain ⟨a1, c1, rfl⟩ := rp1.slice
  obtain ⟨d1, e1, rfl⟩ := rq1.slice
  have S2 := hide (fun (W : World) (hb : Below w.heap.size w W) => eqBlockS_of x.blocks p2 q2 W (rp2.later RBlock.keeps hb) (rq2.later RBlock.keeps hb))
  obtain ⟨a2, c2, rfl⟩ := rp2.slice
  obtain ⟨d2, e2, rfl⟩ := rq2.slice
  have S3 := hide (fun (W : World) (hb : Below w.heap.size w W) => eqPortS_of x.outs p3 q3 W (rp3.later RPort.keeps hb) (rq3.later RPort.keeps hb))
  obtain ⟨a3, c3, rfl⟩ := rp3.slice
  obtain ⟨d3, e3, rfl⟩ := rq3.slice
  have S4 := hide (fun (W : World) (hb : Below w.heap.size w W) => eqPortS_of x.checks p4 q4 W (rp4.later RPort.keeps hb) (rq4.later RPort.keeps hb))
  obtain ⟨a4, c4, rfl⟩ := rp4.slice
  obtain ⟨d4, e4, rfl⟩ := rq4.slice
  clear rp0 rq0 rp1 rq1 rp2 rq2 rp3 rq3 rp4 rq4
  have Y1 : Hid (∀ t s, ((w.alloc (.cells #[.slice a0 x.ins.length c0, .slice a1 x.clocks.length c1, .slice a2 x.blocks.length c2, .slice a3 x.outs.length c3, .slice a4 x.checks.length c4] t)).alloc (.cells #[.slice d0 x.ins.length e0, .slice d1 x.clocks.length e1, .slice d2 x.blocks.length e2, .slice d3 x.outs.length e3, .slice d4 x.checks.length e4] s)).cell? ⟨w.heap.size, 1, none⟩ = some (.slice a1 x.clocks.length c1)) := hide (fun t s => cell_later (bal (brf _) _) (by rw [World.cell?_alloc_new]; rfl))
  have Z1 : Hid (∀ t s, ((w.alloc (.cells #[.slice a0 x.ins.length c0, .slice a1 x.clocks.length c1, .slice a2 x.blocks.length c2, .slice a3 x.outs.length c3, .slice a4 x.checks.length c4] t)).alloc (.cells #[.slice d0 x.ins.length e0, .slice d1 x.clocks.length e1, .slice d2 x.blocks.length e2, .slice d3 x.outs.length e3, .slice d4 x.checks.length e4] s)).cell? ⟨w.heap.size + 1, 1, none⟩ = some (.slice d1 x.clocks.length e1)) := hide (fun t s => by simp)
  have Y2 : Hid (∀ t s, ((w.alloc (.cells #[.slice a0 x.ins.length c0, .slice a1 x.clocks.length c1, .slice a2 x.blocks.length c2, .slice a3 x.outs.length c3, .slice a4 x.checks.length c4] t)).alloc (.cells #[.slice d0 x.ins.length e0, .slice d1 x.clocks.length e1, .slice d2 x.blocks.length e2, .slice d3 x.outs.length e3, .slice d4 x.checks.length e4] s)).cell? ⟨w.heap.size, 2, none⟩ = some (.slice a2 x.blocks.length c2)) := hide (fun t s => cell_later (bal (brf _) _) (by rw [World.cell?_alloc_new]; rfl))
  have Z2 : Hid (∀ t s, ((w.alloc (.cells #[.slice a0 x.ins.length c0, .slice a1 x.clocks.length c1, .slice a2 x.blocks.length c2, .slice a3 x.outs.length c3, .slice a4 x.checks.length c4] t)).alloc (.cells #[.slice d0 x.ins.length e0, .slice d1 x.clocks.length e1, .slice d2 x.blocks.length e2, .slice d3 x.outs.length e3, .slice d4 x.checks.length e4] s)).cell? ⟨w.heap.size + 1, 2, none⟩ = some (.slice d2 x.blocks.length e2)) := hide (fun t s => by simp)
  have Y3 : Hid (∀ t s, ((w.alloc (.cells #[.slice a0 x.ins.length c0, .slice a1 x.clocks.length c1, .slice a2 x.blocks.length c2, .slice a3 x.outs.length c3, .slice a4 x.checks.length c4] t)).alloc (.cells #[.slice d0 x.ins.length e0, .slice d1 x.clocks.length e1, .slice d2 x.blocks.length e2, .slice d3 x.outs.length e3, .slice d4 x.checks.length e4] s)).cell? ⟨w.heap.size, 3, none⟩ = some (.slice a3 x.outs.length c3)) := hide (fun t s => cell_later (bal (brf _) _) (by rw [World.cell?_alloc_new]; rfl))
  have Z3 : Hid (∀ t s, ((w.alloc (.cells #[.slice a0 x.ins.length c0, .slice a1 x.clocks.length c1, .slice a2 x.blocks.length c2, .slice a3 x.outs.length c3, .slice a4 x.checks.length c4] t)).alloc (.cells #[.slice d0 x.ins.length e0, .slice d1 x.clocks.length e1, .slice d2 x.blocks.length e2, .slice d3 x.outs.length e3, .slice d4 x.checks.length e4] s)).cell? ⟨w.heap.size + 1, 3, none⟩ = some (.slice d3 x.outs.length e3)) := hide (fun t s => by simp)
  have Y4 : Hid (∀ t s, ((w.alloc (.cells #[.slice a0 x.ins.length c0, .slice a1 x.clocks.length c1, .slice a2 x.blocks.length c2, .slice a3 x.outs.length c3, .slice a4 x.checks.length c4] t)).alloc (.cells #[.slice d0 x.ins.length e0, .slice d1 x.clocks.length e1, .slice d2 x.blocks.length e2, .slice d3 x.outs.length e3, .slice d4 x.checks.length e4] s)).cell? ⟨w.heap.size, 4, none⟩ = some (.slice a4 x.checks.length c4)) := hide (fun t s => cell_later (bal (brf _) _) (by rw [World.cell?_alloc_new]; rfl))
  have Z4 : Hid (∀ t s, ((w.alloc (.cells #[.slice a0 x.ins.length c0, .slice a1 x.clocks.length c1, .slice a2 x.blocks.length c2, .slice a3 x.outs.length c3, .slice a4 x.checks.length c4] t)).alloc (.cells #[.slice d0 x.ins.length e0, .slice d1 x.clocks.length e1, .slice d2 x.blocks.length e2, .slice d3 x.outs.length e3, .slice d4 x.checks.length e4] s)).cell? ⟨w.heap.size + 1, 4, none⟩ = some (.slice d4 x.checks.length e4)) := hide (fun t s => by simp)
  go_enter Tryz.func12, Tryz.ntmps12
  go_wp2_with (first | (have hq5 := hB4; go_at_call 40; refine (unhide S4 _ hB4).mono ?_; rintro e W5 ⟨rfl, hb5⟩; have hB5 := btr hB4 hb5) | (have hq4 := hB3; go_at_call 40; refine (unhide S3 _ hB3).mono ?_; rintro e W4 ⟨rfl, hb4⟩; have hB4 := btr hB3 hb4; have y4_4 := cell_later hb4 y3_4; have z4_4 := cell_later hb4 z3_4) | (have hq3 := hB2; go_at_call 39; refine (unhide S2 _ hB2).mono ?_; rintro e W3 ⟨rfl, hb3⟩; have hB3 := btr hB2 hb3; have y3_3 := cell_later hb3 y2_3; have z3_3 := cell_later hb3 z2_3; have y3_4 := cell_later hb3 y2_4; have z3_4 := cell_later hb3 z2_4) | (have hq2 := hB1; go_at_call 38; refine (unhide S1 _ hB1).mono ?_; rintro e W2 ⟨rfl, hb2⟩; have hB2 := btr hB1 hb2; have y2_2 := cell_later hb2 y1_2; have z2_2 := cell_later hb2 z1_2; have y2_3 := cell_later hb2 y1_3; have z2_3 := cell_later hb2 z1_3; have y2_4 := cell_later hb2 y1_4; have z2_4 := cell_later hb2 z1_4) | (go_at_call 38; refine (unhide S0 _ (bal (bal (brf w) _) _)).mono ?_; rintro e W1 ⟨rfl, hb1⟩; have hB1 := btr (bal (bal (brf w) _) _) hb1; have y1_1 := cell_later hb1 (unhide Y1 _ _); have z1_1 := cell_later hb1 (unhide Z1 _ _); have y1_2 := cell_later hb1 (unhide Y2 _ _); have z1_2 := cell_later hb1 (unhide Z2 _ _); have y1_3 := cell_later hb1 (unhide Y3 _ _); have z1_3 := cell_later hb1 (unhide Z3 _ _); have y1_4 := cell_later hb1 (unhide Y4 _ _); have z1_4 := cell_later hb1 (unhide Z4 _ _)))
  exact bodyPost_ret (v := .bool true) (by simp [results, Tryz.results12, go_sem]) rfl ⟨rfl, hB5⟩
end Go.Proofs.YtlldfaniddbjaaaGreatDoor
