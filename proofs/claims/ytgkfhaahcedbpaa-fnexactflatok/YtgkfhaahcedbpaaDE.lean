/- What the laws' eq functions answer of equal data. -/
import Derived.Test.YtgkfhaahcedbpaaGDD
import Derived.Deep.RegionHeld3
import Derived.BigQuiet
namespace Go.Proofs.Ytgkfhaahcedbpaa
open Go.RowKit Gs
set_option linter.unusedVariables false
set_option maxRecDepth 100000
theorem bdn {w W : World} {n : Nat} (h : Below w.heap.size w W) : Below w.heap.size w (W.drewN n) := ⟨h.os, h.tape, h.output, h.size, h.block⟩
theorem keepE6 {W V v1 : World} {a0 a1 a2 a3 a4 a5 a6 a7 a8 a9 a10 a11 : Addr} {x0 x1 x2 x3 x4 x5 x6 x7 x8 x9 x10 x11 : Value} (h : V.cell? a0 = some x0 ∧ V.cell? a1 = some x1 ∧ V.cell? a2 = some x2 ∧ V.cell? a3 = some x3 ∧ V.cell? a4 = some x4 ∧ V.cell? a5 = some x5 ∧ V.cell? a6 = some x6 ∧ V.cell? a7 = some x7 ∧ V.cell? a8 = some x8 ∧ V.cell? a9 = some x9 ∧ V.cell? a10 = some x10 ∧ V.cell? a11 = some x11 ∧ Below W.heap.size W V) (hb : Below V.heap.size V v1) : v1.cell? a0 = some x0 ∧ v1.cell? a1 = some x1 ∧ v1.cell? a2 = some x2 ∧ v1.cell? a3 = some x3 ∧ v1.cell? a4 = some x4 ∧ v1.cell? a5 = some x5 ∧ v1.cell? a6 = some x6 ∧ v1.cell? a7 = some x7 ∧ v1.cell? a8 = some x8 ∧ v1.cell? a9 = some x9 ∧ v1.cell? a10 = some x10 ∧ v1.cell? a11 = some x11 ∧ Below W.heap.size W v1 :=
  ⟨cell_later hb h.1, cell_later hb h.2.1, cell_later hb h.2.2.1, cell_later hb h.2.2.2.1, cell_later hb h.2.2.2.2.1, cell_later hb h.2.2.2.2.2.1, cell_later hb h.2.2.2.2.2.2.1, cell_later hb h.2.2.2.2.2.2.2.1, cell_later hb h.2.2.2.2.2.2.2.2.1, cell_later hb h.2.2.2.2.2.2.2.2.2.1, cell_later hb h.2.2.2.2.2.2.2.2.2.2.1, cell_later hb h.2.2.2.2.2.2.2.2.2.2.2.1, btr h.2.2.2.2.2.2.2.2.2.2.2.2 hb⟩
theorem belowE6 {W V : World} {a0 a1 a2 a3 a4 a5 a6 a7 a8 a9 a10 a11 : Addr} {x0 x1 x2 x3 x4 x5 x6 x7 x8 x9 x10 x11 : Value} (h : V.cell? a0 = some x0 ∧ V.cell? a1 = some x1 ∧ V.cell? a2 = some x2 ∧ V.cell? a3 = some x3 ∧ V.cell? a4 = some x4 ∧ V.cell? a5 = some x5 ∧ V.cell? a6 = some x6 ∧ V.cell? a7 = some x7 ∧ V.cell? a8 = some x8 ∧ V.cell? a9 = some x9 ∧ V.cell? a10 = some x10 ∧ V.cell? a11 = some x11 ∧ Below W.heap.size W V) : Below W.heap.size W V := h.2.2.2.2.2.2.2.2.2.2.2.2
theorem keepE9 {W V v1 : World} {a0 a1 a2 a3 a4 a5 a6 a7 a8 a9 a10 a11 a12 a13 a14 a15 a16 a17 : Addr} {x0 x1 x2 x3 x4 x5 x6 x7 x8 x9 x10 x11 x12 x13 x14 x15 x16 x17 : Value} (h : V.cell? a0 = some x0 ∧ V.cell? a1 = some x1 ∧ V.cell? a2 = some x2 ∧ V.cell? a3 = some x3 ∧ V.cell? a4 = some x4 ∧ V.cell? a5 = some x5 ∧ V.cell? a6 = some x6 ∧ V.cell? a7 = some x7 ∧ V.cell? a8 = some x8 ∧ V.cell? a9 = some x9 ∧ V.cell? a10 = some x10 ∧ V.cell? a11 = some x11 ∧ V.cell? a12 = some x12 ∧ V.cell? a13 = some x13 ∧ V.cell? a14 = some x14 ∧ V.cell? a15 = some x15 ∧ V.cell? a16 = some x16 ∧ V.cell? a17 = some x17 ∧ Below W.heap.size W V) (hb : Below V.heap.size V v1) : v1.cell? a0 = some x0 ∧ v1.cell? a1 = some x1 ∧ v1.cell? a2 = some x2 ∧ v1.cell? a3 = some x3 ∧ v1.cell? a4 = some x4 ∧ v1.cell? a5 = some x5 ∧ v1.cell? a6 = some x6 ∧ v1.cell? a7 = some x7 ∧ v1.cell? a8 = some x8 ∧ v1.cell? a9 = some x9 ∧ v1.cell? a10 = some x10 ∧ v1.cell? a11 = some x11 ∧ v1.cell? a12 = some x12 ∧ v1.cell? a13 = some x13 ∧ v1.cell? a14 = some x14 ∧ v1.cell? a15 = some x15 ∧ v1.cell? a16 = some x16 ∧ v1.cell? a17 = some x17 ∧ Below W.heap.size W v1 :=
  ⟨cell_later hb h.1, cell_later hb h.2.1, cell_later hb h.2.2.1, cell_later hb h.2.2.2.1, cell_later hb h.2.2.2.2.1, cell_later hb h.2.2.2.2.2.1, cell_later hb h.2.2.2.2.2.2.1, cell_later hb h.2.2.2.2.2.2.2.1, cell_later hb h.2.2.2.2.2.2.2.2.1, cell_later hb h.2.2.2.2.2.2.2.2.2.1, cell_later hb h.2.2.2.2.2.2.2.2.2.2.1, cell_later hb h.2.2.2.2.2.2.2.2.2.2.2.1, cell_later hb h.2.2.2.2.2.2.2.2.2.2.2.2.1, cell_later hb h.2.2.2.2.2.2.2.2.2.2.2.2.2.1, cell_later hb h.2.2.2.2.2.2.2.2.2.2.2.2.2.2.1, cell_later hb h.2.2.2.2.2.2.2.2.2.2.2.2.2.2.2.1, cell_later hb h.2.2.2.2.2.2.2.2.2.2.2.2.2.2.2.2.1, cell_later hb h.2.2.2.2.2.2.2.2.2.2.2.2.2.2.2.2.2.1, btr h.2.2.2.2.2.2.2.2.2.2.2.2.2.2.2.2.2.2 hb⟩
theorem belowE9 {W V : World} {a0 a1 a2 a3 a4 a5 a6 a7 a8 a9 a10 a11 a12 a13 a14 a15 a16 a17 : Addr} {x0 x1 x2 x3 x4 x5 x6 x7 x8 x9 x10 x11 x12 x13 x14 x15 x16 x17 : Value} (h : V.cell? a0 = some x0 ∧ V.cell? a1 = some x1 ∧ V.cell? a2 = some x2 ∧ V.cell? a3 = some x3 ∧ V.cell? a4 = some x4 ∧ V.cell? a5 = some x5 ∧ V.cell? a6 = some x6 ∧ V.cell? a7 = some x7 ∧ V.cell? a8 = some x8 ∧ V.cell? a9 = some x9 ∧ V.cell? a10 = some x10 ∧ V.cell? a11 = some x11 ∧ V.cell? a12 = some x12 ∧ V.cell? a13 = some x13 ∧ V.cell? a14 = some x14 ∧ V.cell? a15 = some x15 ∧ V.cell? a16 = some x16 ∧ V.cell? a17 = some x17 ∧ Below W.heap.size W V) : Below W.heap.size W V := h.2.2.2.2.2.2.2.2.2.2.2.2.2.2.2.2.2.2
set_option maxHeartbeats 1600000 in
theorem eqSignal_of (x : Signal) (u1 u2 : List Value) (w : World) (h1 : RSignal w 0 x u1) (h2 : RSignal w 0 x u2) :
    Calls Try.prog 32 #[.agg u1.toArray, .agg u2.toArray] w fun e w' => e = .returned (.bool true) ∧ Below w.heap.size w w' := by
  obtain ⟨rfl, _, _⟩ := h1
  obtain ⟨rfl, _, _⟩ := h2
  generalize x.name = z0 at *
  generalize x.kind = z1 at *
  generalize x.width = z2 at *
  generalize x.depth = z3 at *
  generalize x.signed = z4 at *
  generalize x.init = z5 at *
  go_enter Try.func32, Try.ntmps32
  go_wp2
  exact bodyPost_ret (v := .bool true) (by simp [results, Try.results32, go_sem]) rfl ⟨rfl, bal (bal (brf w) _) _⟩
theorem eqSignalS0 (a1 a2 : Option Addr) (c1 c2 : Nat) (w : World) : Calls Try.prog 18 #[.slice a1 0 c1, .slice a2 0 c2] w fun e w' => e = .returned (.bool true) ∧ Below w.heap.size w w' := by
  go_enter Try.func18, Try.ntmps18
  go_wp2
  go_loopw [5] (fun i wr => i = .int .i64 0 ∧ Below w.heap.size w wr) (fun i wr => 0)
  case atStart => exact ⟨rfl, brf _⟩
  case round =>
    obtain ⟨rfl, hb⟩ := hrel
    have HB := hide hb
    clear hb
    go_wp2
    exact bodyPost_ret (v := .bool true) (by simp [results, Try.results18, go_sem]) rfl ⟨rfl, unhide HB⟩
set_option maxHeartbeats 1600000 in
theorem eqSignalS_of (xs : List Signal) (v1 v2 : Value) (w : World) (h1 : RS 6 RSignal w 0 xs v1) (h2 : RS 6 RSignal w 0 xs v2) :
    Calls Try.prog 18 #[v1, v2] w fun e w' => e = .returned (.bool true) ∧ Below w.heap.size w w' := by
  rcases h1.open with ⟨rfl, a1, c1, rfl⟩ | ⟨b1, o1, c1, rfl, _, hn, _, hc1⟩
  · obtain ⟨a2, c2, rfl⟩ := h2.slice
    exact eqSignalS0 _ _ _ _ w
  · rcases h2.open with ⟨rfl, a2, c2, rfl⟩ | ⟨b2, o2, c2, rfl, _, _, _, hc2⟩
    · exact eqSignalS0 _ _ _ _ w
    · unfold maxLen at hn
      have HC1 := hide hc1
      have HC2 := hide hc2
      clear hc1 hc2 h1 h2
      go_enter Try.func18, Try.ntmps18
      go_wp2
      go_loopw [5] (fun i wr => ∃ j : Nat, j ≤ xs.length ∧ i = .int .i64 j ∧ Below w.heap.size w wr) (fun i wr => xs.length - (intOf i).toNat)
      case atStart => exact ⟨0, Nat.zero_le _, rfl, brf _⟩
      case round =>
        obtain ⟨j, hj, rfl, hb⟩ := hrel
        by_cases hjn : j < xs.length
        · have hx : xs[j]? = some xs[j] := List.getElem?_eq_getElem hjn
          generalize xs[j] = x at hx
          obtain ⟨u1, _, at1, r1⟩ := unhide HC1 j x hx
          obtain ⟨u2, _, at2, r2⟩ := unhide HC2 j x hx
          have i1 : (0 : Int) ≤ (j : Int) := by omega
          have i2 : (j : Int) < (xs.length : Int) := by omega
          have PX := hide (fun (wy : World) (hy : Below wr.heap.size wr wy) => eqSignal_of x u1 u2 wy (RSignal.keeps _ _ _ _ _ (later_cells (btr hb hy) 0) r1) (RSignal.keeps _ _ _ _ _ (later_cells (btr hb hy) 0) r2))
          obtain ⟨rfl, _, _⟩ := r1
          obtain ⟨rfl, _, _⟩ := r2
          have k0 := cell_later hb (at1.get (j := 0) rfl)
          have m0 := cell_later hb (at2.get (j := 0) rfl)
          have k1 := cell_later hb (at1.get (j := 1) rfl)
          have m1 := cell_later hb (at2.get (j := 1) rfl)
          have k2 := cell_later hb (at1.get (j := 2) rfl)
          have m2 := cell_later hb (at2.get (j := 2) rfl)
          have k3 := cell_later hb (at1.get (j := 3) rfl)
          have m3 := cell_later hb (at2.get (j := 3) rfl)
          have k4 := cell_later hb (at1.get (j := 4) rfl)
          have m4 := cell_later hb (at2.get (j := 4) rfl)
          have k5 := cell_later hb (at1.get (j := 5) rfl)
          have m5 := cell_later hb (at2.get (j := 5) rfl)
          simp only [Nat.add_zero] at k0 m0
          have HB := hide hb
          clear hb at1 at2 HC1 HC2
          generalize x.name = z0 at *
          generalize x.kind = z1 at *
          generalize x.width = z2 at *
          generalize x.depth = z3 at *
          generalize x.signed = z4 at *
          generalize x.init = z5 at *
          go_wp2
          go_region_held3 (fun w' => w'.cell? ⟨b1, o1 + j * 6, none⟩ = some (.string z0) ∧ w'.cell? ⟨b1, o1 + j * 6 + 1, none⟩ = some (.int .i64 z1) ∧ w'.cell? ⟨b1, o1 + j * 6 + 2, none⟩ = some (.int .i64 z2) ∧ w'.cell? ⟨b1, o1 + j * 6 + 3, none⟩ = some (.int .i64 z3) ∧ w'.cell? ⟨b1, o1 + j * 6 + 4, none⟩ = some (.bool z4) ∧ w'.cell? ⟨b1, o1 + j * 6 + 5, none⟩ = some (.string z5) ∧ w'.cell? ⟨b2, o2 + j * 6, none⟩ = some (.string z0) ∧ w'.cell? ⟨b2, o2 + j * 6 + 1, none⟩ = some (.int .i64 z1) ∧ w'.cell? ⟨b2, o2 + j * 6 + 2, none⟩ = some (.int .i64 z2) ∧ w'.cell? ⟨b2, o2 + j * 6 + 3, none⟩ = some (.int .i64 z3) ∧ w'.cell? ⟨b2, o2 + j * 6 + 4, none⟩ = some (.bool z4) ∧ w'.cell? ⟨b2, o2 + j * 6 + 5, none⟩ = some (.string z5) ∧ Below wr.heap.size wr w')
            (first | (exact ⟨k0, k1, k2, k3, k4, k5, m0, m1, m2, m3, m4, m5, bdr (brf _)⟩) | (exact keepE6 (by assumption) hb1))
            (first | (go_at_call 32; refine (unhide PX _ (belowE6 (by assumption))).mono ?_; rintro e v1 ⟨rfl, hb1⟩))
          all_goals
            have hSf : v1.cell? ⟨b1, o1 + j * 6, none⟩ = some (.string z0) ∧ v1.cell? ⟨b1, o1 + j * 6 + 1, none⟩ = some (.int .i64 z1) ∧ v1.cell? ⟨b1, o1 + j * 6 + 2, none⟩ = some (.int .i64 z2) ∧ v1.cell? ⟨b1, o1 + j * 6 + 3, none⟩ = some (.int .i64 z3) ∧ v1.cell? ⟨b1, o1 + j * 6 + 4, none⟩ = some (.bool z4) ∧ v1.cell? ⟨b1, o1 + j * 6 + 5, none⟩ = some (.string z5) ∧ v1.cell? ⟨b2, o2 + j * 6, none⟩ = some (.string z0) ∧ v1.cell? ⟨b2, o2 + j * 6 + 1, none⟩ = some (.int .i64 z1) ∧ v1.cell? ⟨b2, o2 + j * 6 + 2, none⟩ = some (.int .i64 z2) ∧ v1.cell? ⟨b2, o2 + j * 6 + 3, none⟩ = some (.int .i64 z3) ∧ v1.cell? ⟨b2, o2 + j * 6 + 4, none⟩ = some (.bool z4) ∧ v1.cell? ⟨b2, o2 + j * 6 + 5, none⟩ = some (.string z5) ∧ Below wr.heap.size wr v1 := by assumption
            have HB2 := hide (btr (unhide HB) (belowE6 hSf))
            clear hSf k0 m0 k1 m1 k2 m2 k3 m3 k4 m4 k5 m5
            go_wp2
            exact ⟨⟨j + 1, by omega, by go_num, unhide HB2⟩, by simp [intOf]; omega⟩
        · obtain rfl : j = xs.length := by omega
          have HB := hide hb
          clear hb HC1 HC2
          go_wp2
          exact bodyPost_ret (v := .bool true) (by simp [results, Try.results18, go_sem]) rfl ⟨rfl, unhide HB⟩
theorem eqExS0 (a1 a2 : Option Addr) (c1 c2 : Nat) (w : World) : Calls Try.prog 49 #[.slice a1 0 c1, .slice a2 0 c2] w fun e w' => e = .returned (.bool true) ∧ Below w.heap.size w w' := by
  go_enter Try.func49, Try.ntmps49
  go_wp2
  go_loopw [5] (fun i wr => i = .int .i64 0 ∧ Below w.heap.size w wr) (fun i wr => 0)
  case atStart => exact ⟨rfl, brf _⟩
  case round =>
    obtain ⟨rfl, hb⟩ := hrel
    have HB := hide hb
    clear hb
    go_wp2
    exact bodyPost_ret (v := .bool true) (by simp [results, Try.results49, go_sem]) rfl ⟨rfl, unhide HB⟩
set_option maxHeartbeats 1600000 in
theorem eqExS_ofN (d : Nat) (IH : ∀ (x : Ex) (u1 u2 : List Value) (w : World) (h1 : RExN d w 0 x u1) (h2 : RExN d w 0 x u2), Calls Try.prog 55 #[.agg u1.toArray, .agg u2.toArray] w fun e w' => e = .returned (.bool true) ∧ Below w.heap.size w w') (xs : List Ex) (v1 v2 : Value) (w : World) (h1 : RS 6 (RExN d) w 0 xs v1) (h2 : RS 6 (RExN d) w 0 xs v2) :
    Calls Try.prog 49 #[v1, v2] w fun e w' => e = .returned (.bool true) ∧ Below w.heap.size w w' := by
  rcases h1.open with ⟨rfl, a1, c1, rfl⟩ | ⟨b1, o1, c1, rfl, _, hn, _, hc1⟩
  · obtain ⟨a2, c2, rfl⟩ := h2.slice
    exact eqExS0 _ _ _ _ w
  · rcases h2.open with ⟨rfl, a2, c2, rfl⟩ | ⟨b2, o2, c2, rfl, _, _, _, hc2⟩
    · exact eqExS0 _ _ _ _ w
    · unfold maxLen at hn
      have HC1 := hide hc1
      have HC2 := hide hc2
      clear hc1 hc2 h1 h2
      go_enter Try.func49, Try.ntmps49
      go_wp2
      go_loopw [5] (fun i wr => ∃ j : Nat, j ≤ xs.length ∧ i = .int .i64 j ∧ Below w.heap.size w wr) (fun i wr => xs.length - (intOf i).toNat)
      case atStart => exact ⟨0, Nat.zero_le _, rfl, brf _⟩
      case round =>
        obtain ⟨j, hj, rfl, hb⟩ := hrel
        by_cases hjn : j < xs.length
        · have hx : xs[j]? = some xs[j] := List.getElem?_eq_getElem hjn
          generalize xs[j] = x at hx
          obtain ⟨u1, _, at1, r1⟩ := unhide HC1 j x hx
          obtain ⟨u2, _, at2, r2⟩ := unhide HC2 j x hx
          have i1 : (0 : Int) ≤ (j : Int) := by omega
          have i2 : (j : Int) < (xs.length : Int) := by omega
          have PX := hide (fun (wy : World) (hy : Below wr.heap.size wr wy) => IH x u1 u2 wy ((RExN.keeps d) _ _ _ _ _ (later_cells (btr hb hy) 0) r1) ((RExN.keeps d) _ _ _ _ _ (later_cells (btr hb hy) 0) r2))
          obtain ⟨p5, rfl, _, _⟩ := RExN.cells r1
          obtain ⟨q5, rfl, _, _⟩ := RExN.cells r2
          have k0 := cell_later hb (at1.get (j := 0) rfl)
          have m0 := cell_later hb (at2.get (j := 0) rfl)
          have k1 := cell_later hb (at1.get (j := 1) rfl)
          have m1 := cell_later hb (at2.get (j := 1) rfl)
          have k2 := cell_later hb (at1.get (j := 2) rfl)
          have m2 := cell_later hb (at2.get (j := 2) rfl)
          have k3 := cell_later hb (at1.get (j := 3) rfl)
          have m3 := cell_later hb (at2.get (j := 3) rfl)
          have k4 := cell_later hb (at1.get (j := 4) rfl)
          have m4 := cell_later hb (at2.get (j := 4) rfl)
          have k5 := cell_later hb (at1.get (j := 5) rfl)
          have m5 := cell_later hb (at2.get (j := 5) rfl)
          simp only [Nat.add_zero] at k0 m0
          have HB := hide hb
          clear hb at1 at2 HC1 HC2
          generalize x.op = z0 at *
          generalize x.width = z1 at *
          generalize x.n = z2 at *
          generalize x.signed = z3 at *
          generalize x.bits = z4 at *
          go_wp2
          go_region_held3 (fun w' => w'.cell? ⟨b1, o1 + j * 6, none⟩ = some (.int .i64 z0) ∧ w'.cell? ⟨b1, o1 + j * 6 + 1, none⟩ = some (.int .i64 z1) ∧ w'.cell? ⟨b1, o1 + j * 6 + 2, none⟩ = some (.int .i64 z2) ∧ w'.cell? ⟨b1, o1 + j * 6 + 3, none⟩ = some (.bool z3) ∧ w'.cell? ⟨b1, o1 + j * 6 + 4, none⟩ = some (.string z4) ∧ w'.cell? ⟨b1, o1 + j * 6 + 5, none⟩ = some (p5) ∧ w'.cell? ⟨b2, o2 + j * 6, none⟩ = some (.int .i64 z0) ∧ w'.cell? ⟨b2, o2 + j * 6 + 1, none⟩ = some (.int .i64 z1) ∧ w'.cell? ⟨b2, o2 + j * 6 + 2, none⟩ = some (.int .i64 z2) ∧ w'.cell? ⟨b2, o2 + j * 6 + 3, none⟩ = some (.bool z3) ∧ w'.cell? ⟨b2, o2 + j * 6 + 4, none⟩ = some (.string z4) ∧ w'.cell? ⟨b2, o2 + j * 6 + 5, none⟩ = some (q5) ∧ Below wr.heap.size wr w')
            (first | (exact ⟨k0, k1, k2, k3, k4, k5, m0, m1, m2, m3, m4, m5, bdr (brf _)⟩) | (exact keepE6 (by assumption) hb1))
            (first | (go_at_call 55; refine (unhide PX _ (belowE6 (by assumption))).mono ?_; rintro e v1 ⟨rfl, hb1⟩))
          all_goals
            have hSf : v1.cell? ⟨b1, o1 + j * 6, none⟩ = some (.int .i64 z0) ∧ v1.cell? ⟨b1, o1 + j * 6 + 1, none⟩ = some (.int .i64 z1) ∧ v1.cell? ⟨b1, o1 + j * 6 + 2, none⟩ = some (.int .i64 z2) ∧ v1.cell? ⟨b1, o1 + j * 6 + 3, none⟩ = some (.bool z3) ∧ v1.cell? ⟨b1, o1 + j * 6 + 4, none⟩ = some (.string z4) ∧ v1.cell? ⟨b1, o1 + j * 6 + 5, none⟩ = some (p5) ∧ v1.cell? ⟨b2, o2 + j * 6, none⟩ = some (.int .i64 z0) ∧ v1.cell? ⟨b2, o2 + j * 6 + 1, none⟩ = some (.int .i64 z1) ∧ v1.cell? ⟨b2, o2 + j * 6 + 2, none⟩ = some (.int .i64 z2) ∧ v1.cell? ⟨b2, o2 + j * 6 + 3, none⟩ = some (.bool z3) ∧ v1.cell? ⟨b2, o2 + j * 6 + 4, none⟩ = some (.string z4) ∧ v1.cell? ⟨b2, o2 + j * 6 + 5, none⟩ = some (q5) ∧ Below wr.heap.size wr v1 := by assumption
            have HB2 := hide (btr (unhide HB) (belowE6 hSf))
            clear hSf k0 m0 k1 m1 k2 m2 k3 m3 k4 m4 k5 m5
            go_wp2
            exact ⟨⟨j + 1, by omega, by go_num, unhide HB2⟩, by simp [intOf]; omega⟩
        · obtain rfl : j = xs.length := by omega
          have HB := hide hb
          clear hb HC1 HC2
          go_wp2
          exact bodyPost_ret (v := .bool true) (by simp [results, Try.results49, go_sem]) rfl ⟨rfl, unhide HB⟩
set_option maxHeartbeats 1600000 in
theorem eqEx_ofN (d : Nat) (IH : ∀ (xs : List Ex) (v1 v2 : Value) (w : World) (h1 : RS 6 (RExN d) w 0 xs v1) (h2 : RS 6 (RExN d) w 0 xs v2), Calls Try.prog 49 #[v1, v2] w fun e w' => e = .returned (.bool true) ∧ Below w.heap.size w w') (x : Ex) (u1 u2 : List Value) (w : World) (h1 : RExN (d + 1) w 0 x u1) (h2 : RExN (d + 1) w 0 x u2) :
    Calls Try.prog 55 #[.agg u1.toArray, .agg u2.toArray] w fun e w' => e = .returned (.bool true) ∧ Below w.heap.size w w' := by
  obtain ⟨p5, rfl, _, rp5⟩ := h1
  obtain ⟨q5, rfl, _, rq5⟩ := h2
  have S5 := hide (fun (W : World) (hb : Below w.heap.size w W) => IH x.kids p5 q5 W (rp5.later (RExN.keeps d) hb) (rq5.later (RExN.keeps d) hb))
  obtain ⟨a5, c5, rfl⟩ := rp5.slice
  obtain ⟨d5, e5, rfl⟩ := rq5.slice
  clear rp5 rq5
  generalize x.op = z0 at *
  generalize x.width = z1 at *
  generalize x.n = z2 at *
  generalize x.signed = z3 at *
  generalize x.bits = z4 at *
  go_enter Try.func55, Try.ntmps55
  go_wp2_with (first | (go_at_call 49; refine (unhide S5 _ (bal (bal (brf w) _) _)).mono ?_; rintro e W1 ⟨rfl, hb1⟩; have hB1 := btr (bal (bal (brf w) _) _) hb1))
  exact bodyPost_ret (v := .bool true) (by simp [results, Try.results55, go_sem]) rfl ⟨rfl, hB1⟩
theorem eqEx_of : ∀ (d : Nat), ∀ (x : Ex) (u1 u2 : List Value) (w : World) (h1 : RExN d w 0 x u1) (h2 : RExN d w 0 x u2), Calls Try.prog 55 #[.agg u1.toArray, .agg u2.toArray] w fun e w' => e = .returned (.bool true) ∧ Below w.heap.size w w'
  | 0 => by
    intros
    exact (by assumption : False).elim
  | d + 1 => eqEx_ofN d (eqExS_ofN d (eqEx_of d))
theorem eqExS_of (d : Nat) : ∀ (xs : List Ex) (v1 v2 : Value) (w : World) (h1 : RS 6 (RExN d) w 0 xs v1) (h2 : RS 6 (RExN d) w 0 xs v2), Calls Try.prog 49 #[v1, v2] w fun e w' => e = .returned (.bool true) ∧ Below w.heap.size w w' := eqExS_ofN d (eqEx_of d)
theorem eqStS0 (a1 a2 : Option Addr) (c1 c2 : Nat) (w : World) : Calls Try.prog 50 #[.slice a1 0 c1, .slice a2 0 c2] w fun e w' => e = .returned (.bool true) ∧ Below w.heap.size w w' := by
  go_enter Try.func50, Try.ntmps50
  go_wp2
  go_loopw [5] (fun i wr => i = .int .i64 0 ∧ Below w.heap.size w wr) (fun i wr => 0)
  case atStart => exact ⟨rfl, brf _⟩
  case round =>
    obtain ⟨rfl, hb⟩ := hrel
    have HB := hide hb
    clear hb
    go_wp2
    exact bodyPost_ret (v := .bool true) (by simp [results, Try.results50, go_sem]) rfl ⟨rfl, unhide HB⟩
set_option maxHeartbeats 1600000 in
theorem eqStS_ofN (d : Nat) (IH : ∀ (x : St) (u1 u2 : List Value) (w : World) (h1 : RStN d w 0 x u1) (h2 : RStN d w 0 x u2), Calls Try.prog 43 #[.agg u1.toArray, .agg u2.toArray] w fun e w' => e = .returned (.bool true) ∧ Below w.heap.size w w') (xs : List St) (v1 v2 : Value) (w : World) (h1 : RS 6 (RStN d) w 0 xs v1) (h2 : RS 6 (RStN d) w 0 xs v2) :
    Calls Try.prog 50 #[v1, v2] w fun e w' => e = .returned (.bool true) ∧ Below w.heap.size w w' := by
  rcases h1.open with ⟨rfl, a1, c1, rfl⟩ | ⟨b1, o1, c1, rfl, _, hn, _, hc1⟩
  · obtain ⟨a2, c2, rfl⟩ := h2.slice
    exact eqStS0 _ _ _ _ w
  · rcases h2.open with ⟨rfl, a2, c2, rfl⟩ | ⟨b2, o2, c2, rfl, _, _, _, hc2⟩
    · exact eqStS0 _ _ _ _ w
    · unfold maxLen at hn
      have HC1 := hide hc1
      have HC2 := hide hc2
      clear hc1 hc2 h1 h2
      go_enter Try.func50, Try.ntmps50
      go_wp2
      go_loopw [5] (fun i wr => ∃ j : Nat, j ≤ xs.length ∧ i = .int .i64 j ∧ Below w.heap.size w wr) (fun i wr => xs.length - (intOf i).toNat)
      case atStart => exact ⟨0, Nat.zero_le _, rfl, brf _⟩
      case round =>
        obtain ⟨j, hj, rfl, hb⟩ := hrel
        by_cases hjn : j < xs.length
        · have hx : xs[j]? = some xs[j] := List.getElem?_eq_getElem hjn
          generalize xs[j] = x at hx
          obtain ⟨u1, _, at1, r1⟩ := unhide HC1 j x hx
          obtain ⟨u2, _, at2, r2⟩ := unhide HC2 j x hx
          have i1 : (0 : Int) ≤ (j : Int) := by omega
          have i2 : (j : Int) < (xs.length : Int) := by omega
          have PX := hide (fun (wy : World) (hy : Below wr.heap.size wr wy) => IH x u1 u2 wy ((RStN.keeps d) _ _ _ _ _ (later_cells (btr hb hy) 0) r1) ((RStN.keeps d) _ _ _ _ _ (later_cells (btr hb hy) 0) r2))
          obtain ⟨p4, p5, rfl, _, _⟩ := RStN.cells r1
          obtain ⟨q4, q5, rfl, _, _⟩ := RStN.cells r2
          have k0 := cell_later hb (at1.get (j := 0) rfl)
          have m0 := cell_later hb (at2.get (j := 0) rfl)
          have k1 := cell_later hb (at1.get (j := 1) rfl)
          have m1 := cell_later hb (at2.get (j := 1) rfl)
          have k2 := cell_later hb (at1.get (j := 2) rfl)
          have m2 := cell_later hb (at2.get (j := 2) rfl)
          have k3 := cell_later hb (at1.get (j := 3) rfl)
          have m3 := cell_later hb (at2.get (j := 3) rfl)
          have k4 := cell_later hb (at1.get (j := 4) rfl)
          have m4 := cell_later hb (at2.get (j := 4) rfl)
          have k5 := cell_later hb (at1.get (j := 5) rfl)
          have m5 := cell_later hb (at2.get (j := 5) rfl)
          simp only [Nat.add_zero] at k0 m0
          have HB := hide hb
          clear hb at1 at2 HC1 HC2
          generalize x.kind = z0 at *
          generalize x.n = z1 at *
          generalize x.low = z2 at *
          generalize x.wide = z3 at *
          go_wp2
          go_region_held3 (fun w' => w'.cell? ⟨b1, o1 + j * 6, none⟩ = some (.int .i64 z0) ∧ w'.cell? ⟨b1, o1 + j * 6 + 1, none⟩ = some (.int .i64 z1) ∧ w'.cell? ⟨b1, o1 + j * 6 + 2, none⟩ = some (.int .i64 z2) ∧ w'.cell? ⟨b1, o1 + j * 6 + 3, none⟩ = some (.int .i64 z3) ∧ w'.cell? ⟨b1, o1 + j * 6 + 4, none⟩ = some (p4) ∧ w'.cell? ⟨b1, o1 + j * 6 + 5, none⟩ = some (p5) ∧ w'.cell? ⟨b2, o2 + j * 6, none⟩ = some (.int .i64 z0) ∧ w'.cell? ⟨b2, o2 + j * 6 + 1, none⟩ = some (.int .i64 z1) ∧ w'.cell? ⟨b2, o2 + j * 6 + 2, none⟩ = some (.int .i64 z2) ∧ w'.cell? ⟨b2, o2 + j * 6 + 3, none⟩ = some (.int .i64 z3) ∧ w'.cell? ⟨b2, o2 + j * 6 + 4, none⟩ = some (q4) ∧ w'.cell? ⟨b2, o2 + j * 6 + 5, none⟩ = some (q5) ∧ Below wr.heap.size wr w')
            (first | (exact ⟨k0, k1, k2, k3, k4, k5, m0, m1, m2, m3, m4, m5, bdr (brf _)⟩) | (exact keepE6 (by assumption) hb1))
            (first | (go_at_call 43; refine (unhide PX _ (belowE6 (by assumption))).mono ?_; rintro e v1 ⟨rfl, hb1⟩))
          all_goals
            have hSf : v1.cell? ⟨b1, o1 + j * 6, none⟩ = some (.int .i64 z0) ∧ v1.cell? ⟨b1, o1 + j * 6 + 1, none⟩ = some (.int .i64 z1) ∧ v1.cell? ⟨b1, o1 + j * 6 + 2, none⟩ = some (.int .i64 z2) ∧ v1.cell? ⟨b1, o1 + j * 6 + 3, none⟩ = some (.int .i64 z3) ∧ v1.cell? ⟨b1, o1 + j * 6 + 4, none⟩ = some (p4) ∧ v1.cell? ⟨b1, o1 + j * 6 + 5, none⟩ = some (p5) ∧ v1.cell? ⟨b2, o2 + j * 6, none⟩ = some (.int .i64 z0) ∧ v1.cell? ⟨b2, o2 + j * 6 + 1, none⟩ = some (.int .i64 z1) ∧ v1.cell? ⟨b2, o2 + j * 6 + 2, none⟩ = some (.int .i64 z2) ∧ v1.cell? ⟨b2, o2 + j * 6 + 3, none⟩ = some (.int .i64 z3) ∧ v1.cell? ⟨b2, o2 + j * 6 + 4, none⟩ = some (q4) ∧ v1.cell? ⟨b2, o2 + j * 6 + 5, none⟩ = some (q5) ∧ Below wr.heap.size wr v1 := by assumption
            have HB2 := hide (btr (unhide HB) (belowE6 hSf))
            clear hSf k0 m0 k1 m1 k2 m2 k3 m3 k4 m4 k5 m5
            go_wp2
            exact ⟨⟨j + 1, by omega, by go_num, unhide HB2⟩, by simp [intOf]; omega⟩
        · obtain rfl : j = xs.length := by omega
          have HB := hide hb
          clear hb HC1 HC2
          go_wp2
          exact bodyPost_ret (v := .bool true) (by simp [results, Try.results50, go_sem]) rfl ⟨rfl, unhide HB⟩
set_option maxHeartbeats 1600000 in
theorem eqSt_ofN (d : Nat) (IH : ∀ (xs : List St) (v1 v2 : Value) (w : World) (h1 : RS 6 (RStN d) w 0 xs v1) (h2 : RS 6 (RStN d) w 0 xs v2), Calls Try.prog 50 #[v1, v2] w fun e w' => e = .returned (.bool true) ∧ Below w.heap.size w w') (x : St) (u1 u2 : List Value) (w : World) (h1 : RStN (d + 1) w 0 x u1) (h2 : RStN (d + 1) w 0 x u2) :
    Calls Try.prog 43 #[.agg u1.toArray, .agg u2.toArray] w fun e w' => e = .returned (.bool true) ∧ Below w.heap.size w w' := by
  obtain ⟨p4, p5, rfl, rp4, rp5⟩ := h1
  obtain ⟨q4, q5, rfl, rq4, rq5⟩ := h2
  have S4 := hide (fun (W : World) (hb : Below w.heap.size w W) => eqExS_of d x.exs p4 q4 W (rp4.later (RExN.keeps d) hb) (rq4.later (RExN.keeps d) hb))
  obtain ⟨a4, c4, rfl⟩ := rp4.slice
  obtain ⟨d4, e4, rfl⟩ := rq4.slice
  have S5 := hide (fun (W : World) (hb : Below w.heap.size w W) => IH x.kids p5 q5 W (rp5.later (RStN.keeps d) hb) (rq5.later (RStN.keeps d) hb))
  obtain ⟨a5, c5, rfl⟩ := rp5.slice
  obtain ⟨d5, e5, rfl⟩ := rq5.slice
  clear rp4 rq4 rp5 rq5
  have Y5 : Hid (∀ t s, ((w.alloc (.cells #[.int .i64 x.kind, .int .i64 x.n, .int .i64 x.low, .int .i64 x.wide, .slice a4 x.exs.length c4, .slice a5 x.kids.length c5] t)).alloc (.cells #[.int .i64 x.kind, .int .i64 x.n, .int .i64 x.low, .int .i64 x.wide, .slice d4 x.exs.length e4, .slice d5 x.kids.length e5] s)).cell? ⟨w.heap.size, 5, none⟩ = some (.slice a5 x.kids.length c5)) := hide (fun t s => cell_later (bal (brf _) _) (by rw [World.cell?_alloc_new]; rfl))
  have Z5 : Hid (∀ t s, ((w.alloc (.cells #[.int .i64 x.kind, .int .i64 x.n, .int .i64 x.low, .int .i64 x.wide, .slice a4 x.exs.length c4, .slice a5 x.kids.length c5] t)).alloc (.cells #[.int .i64 x.kind, .int .i64 x.n, .int .i64 x.low, .int .i64 x.wide, .slice d4 x.exs.length e4, .slice d5 x.kids.length e5] s)).cell? ⟨w.heap.size + 1, 5, none⟩ = some (.slice d5 x.kids.length e5)) := hide (fun t s => by simp)
  generalize x.kind = z0 at *
  generalize x.n = z1 at *
  generalize x.low = z2 at *
  generalize x.wide = z3 at *
  go_enter Try.func43, Try.ntmps43
  go_wp2_with (first | (have hq2 := hB1; go_at_call 50; refine (unhide S5 _ hB1).mono ?_; rintro e W2 ⟨rfl, hb2⟩; have hB2 := btr hB1 hb2) | (go_at_call 49; refine (unhide S4 _ (bal (bal (brf w) _) _)).mono ?_; rintro e W1 ⟨rfl, hb1⟩; have hB1 := btr (bal (bal (brf w) _) _) hb1; have y1_5 := cell_later hb1 (unhide Y5 _ _); have z1_5 := cell_later hb1 (unhide Z5 _ _)))
  exact bodyPost_ret (v := .bool true) (by simp [results, Try.results43, go_sem]) rfl ⟨rfl, hB2⟩
theorem eqSt_of : ∀ (d : Nat), ∀ (x : St) (u1 u2 : List Value) (w : World) (h1 : RStN d w 0 x u1) (h2 : RStN d w 0 x u2), Calls Try.prog 43 #[.agg u1.toArray, .agg u2.toArray] w fun e w' => e = .returned (.bool true) ∧ Below w.heap.size w w'
  | 0 => by
    intros
    exact (by assumption : False).elim
  | d + 1 => eqSt_ofN d (eqStS_ofN d (eqSt_of d))
theorem eqStS_of (d : Nat) : ∀ (xs : List St) (v1 v2 : Value) (w : World) (h1 : RS 6 (RStN d) w 0 xs v1) (h2 : RS 6 (RStN d) w 0 xs v2), Calls Try.prog 50 #[v1, v2] w fun e w' => e = .returned (.bool true) ∧ Below w.heap.size w w' := eqStS_ofN d (eqSt_of d)
set_option maxHeartbeats 1600000 in
theorem eqProc_of (d : Nat) (x : Proc) (u1 u2 : List Value) (w : World) (h1 : RProcN d w 0 x u1) (h2 : RProcN d w 0 x u2) :
    Calls Try.prog 33 #[.agg u1.toArray, .agg u2.toArray] w fun e w' => e = .returned (.bool true) ∧ Below w.heap.size w w' := by
  obtain ⟨p7, p8, rfl, _, rp7, rp8⟩ := h1
  obtain ⟨q7, q8, rfl, _, rq7, rq8⟩ := h2
  have S3 := hide (fun (W : World) (hb : Below w.heap.size w W) => eqSt_of (d + 1) x.body [.int .i64 x.body.kind, .int .i64 x.body.n, .int .i64 x.body.low, .int .i64 x.body.wide, p7, p8] [.int .i64 x.body.kind, .int .i64 x.body.n, .int .i64 x.body.low, .int .i64 x.body.wide, q7, q8] W ⟨p7, p8, rfl, rp7.later (RExN.keeps d) hb, rp8.later (RStN.keeps d) hb⟩ ⟨q7, q8, rfl, rq7.later (RExN.keeps d) hb, rq8.later (RStN.keeps d) hb⟩)
  obtain ⟨a7, c7, rfl⟩ := rp7.slice
  obtain ⟨d7, e7, rfl⟩ := rq7.slice
  obtain ⟨a8, c8, rfl⟩ := rp8.slice
  obtain ⟨d8, e8, rfl⟩ := rq8.slice
  clear rp7 rq7 rp8 rq8
  generalize x.kind = z0 at *
  generalize x.clock = z1 at *
  generalize x.name = z2 at *
  generalize x.body.kind = z3 at *
  generalize x.body.n = z4 at *
  generalize x.body.low = z5 at *
  generalize x.body.wide = z6 at *
  go_enter Try.func33, Try.ntmps33
  go_wp2_with (first | (go_at_call 43; refine (unhide S3 _ (bal (bal (brf w) _) _)).mono ?_; rintro e W1 ⟨rfl, hb1⟩; have hB1 := btr (bal (bal (brf w) _) _) hb1))
  exact bodyPost_ret (v := .bool true) (by simp [results, Try.results33, go_sem]) rfl ⟨rfl, hB1⟩
theorem eqProcS0 (a1 a2 : Option Addr) (c1 c2 : Nat) (w : World) : Calls Try.prog 19 #[.slice a1 0 c1, .slice a2 0 c2] w fun e w' => e = .returned (.bool true) ∧ Below w.heap.size w w' := by
  go_enter Try.func19, Try.ntmps19
  go_wp2
  go_loopw [5] (fun i wr => i = .int .i64 0 ∧ Below w.heap.size w wr) (fun i wr => 0)
  case atStart => exact ⟨rfl, brf _⟩
  case round =>
    obtain ⟨rfl, hb⟩ := hrel
    have HB := hide hb
    clear hb
    go_wp2
    exact bodyPost_ret (v := .bool true) (by simp [results, Try.results19, go_sem]) rfl ⟨rfl, unhide HB⟩
set_option maxHeartbeats 1600000 in
theorem eqProcS_of (d : Nat) (xs : List Proc) (v1 v2 : Value) (w : World) (h1 : RS 9 (RProcN d) w 0 xs v1) (h2 : RS 9 (RProcN d) w 0 xs v2) :
    Calls Try.prog 19 #[v1, v2] w fun e w' => e = .returned (.bool true) ∧ Below w.heap.size w w' := by
  rcases h1.open with ⟨rfl, a1, c1, rfl⟩ | ⟨b1, o1, c1, rfl, _, hn, _, hc1⟩
  · obtain ⟨a2, c2, rfl⟩ := h2.slice
    exact eqProcS0 _ _ _ _ w
  · rcases h2.open with ⟨rfl, a2, c2, rfl⟩ | ⟨b2, o2, c2, rfl, _, _, _, hc2⟩
    · exact eqProcS0 _ _ _ _ w
    · unfold maxLen at hn
      have HC1 := hide hc1
      have HC2 := hide hc2
      clear hc1 hc2 h1 h2
      go_enter Try.func19, Try.ntmps19
      go_wp2
      go_loopw [5] (fun i wr => ∃ j : Nat, j ≤ xs.length ∧ i = .int .i64 j ∧ Below w.heap.size w wr) (fun i wr => xs.length - (intOf i).toNat)
      case atStart => exact ⟨0, Nat.zero_le _, rfl, brf _⟩
      case round =>
        obtain ⟨j, hj, rfl, hb⟩ := hrel
        by_cases hjn : j < xs.length
        · have hx : xs[j]? = some xs[j] := List.getElem?_eq_getElem hjn
          generalize xs[j] = x at hx
          obtain ⟨u1, _, at1, r1⟩ := unhide HC1 j x hx
          obtain ⟨u2, _, at2, r2⟩ := unhide HC2 j x hx
          have i1 : (0 : Int) ≤ (j : Int) := by omega
          have i2 : (j : Int) < (xs.length : Int) := by omega
          have PX := hide (fun (wy : World) (hy : Below wr.heap.size wr wy) => eqProc_of d x u1 u2 wy ((RProcN.keeps d) _ _ _ _ _ (later_cells (btr hb hy) 0) r1) ((RProcN.keeps d) _ _ _ _ _ (later_cells (btr hb hy) 0) r2))
          obtain ⟨p7, p8, rfl, _, _, _⟩ := r1
          obtain ⟨q7, q8, rfl, _, _, _⟩ := r2
          have k0 := cell_later hb (at1.get (j := 0) rfl)
          have m0 := cell_later hb (at2.get (j := 0) rfl)
          have k1 := cell_later hb (at1.get (j := 1) rfl)
          have m1 := cell_later hb (at2.get (j := 1) rfl)
          have k2 := cell_later hb (at1.get (j := 2) rfl)
          have m2 := cell_later hb (at2.get (j := 2) rfl)
          have k3 := cell_later hb (at1.get (j := 3) rfl)
          have m3 := cell_later hb (at2.get (j := 3) rfl)
          have k4 := cell_later hb (at1.get (j := 4) rfl)
          have m4 := cell_later hb (at2.get (j := 4) rfl)
          have k5 := cell_later hb (at1.get (j := 5) rfl)
          have m5 := cell_later hb (at2.get (j := 5) rfl)
          have k6 := cell_later hb (at1.get (j := 6) rfl)
          have m6 := cell_later hb (at2.get (j := 6) rfl)
          have k7 := cell_later hb (at1.get (j := 7) rfl)
          have m7 := cell_later hb (at2.get (j := 7) rfl)
          have k8 := cell_later hb (at1.get (j := 8) rfl)
          have m8 := cell_later hb (at2.get (j := 8) rfl)
          simp only [Nat.add_zero] at k0 m0
          have HB := hide hb
          clear hb at1 at2 HC1 HC2
          generalize x.kind = z0 at *
          generalize x.clock = z1 at *
          generalize x.name = z2 at *
          generalize x.body.kind = z3 at *
          generalize x.body.n = z4 at *
          generalize x.body.low = z5 at *
          generalize x.body.wide = z6 at *
          go_wp2
          go_region_held3 (fun w' => w'.cell? ⟨b1, o1 + j * 9, none⟩ = some (.int .i64 z0) ∧ w'.cell? ⟨b1, o1 + j * 9 + 1, none⟩ = some (.int .i64 z1) ∧ w'.cell? ⟨b1, o1 + j * 9 + 2, none⟩ = some (.string z2) ∧ w'.cell? ⟨b1, o1 + j * 9 + 3, none⟩ = some (.int .i64 z3) ∧ w'.cell? ⟨b1, o1 + j * 9 + 4, none⟩ = some (.int .i64 z4) ∧ w'.cell? ⟨b1, o1 + j * 9 + 5, none⟩ = some (.int .i64 z5) ∧ w'.cell? ⟨b1, o1 + j * 9 + 6, none⟩ = some (.int .i64 z6) ∧ w'.cell? ⟨b1, o1 + j * 9 + 7, none⟩ = some (p7) ∧ w'.cell? ⟨b1, o1 + j * 9 + 8, none⟩ = some (p8) ∧ w'.cell? ⟨b2, o2 + j * 9, none⟩ = some (.int .i64 z0) ∧ w'.cell? ⟨b2, o2 + j * 9 + 1, none⟩ = some (.int .i64 z1) ∧ w'.cell? ⟨b2, o2 + j * 9 + 2, none⟩ = some (.string z2) ∧ w'.cell? ⟨b2, o2 + j * 9 + 3, none⟩ = some (.int .i64 z3) ∧ w'.cell? ⟨b2, o2 + j * 9 + 4, none⟩ = some (.int .i64 z4) ∧ w'.cell? ⟨b2, o2 + j * 9 + 5, none⟩ = some (.int .i64 z5) ∧ w'.cell? ⟨b2, o2 + j * 9 + 6, none⟩ = some (.int .i64 z6) ∧ w'.cell? ⟨b2, o2 + j * 9 + 7, none⟩ = some (q7) ∧ w'.cell? ⟨b2, o2 + j * 9 + 8, none⟩ = some (q8) ∧ Below wr.heap.size wr w')
            (first | (exact ⟨k0, k1, k2, k3, k4, k5, k6, k7, k8, m0, m1, m2, m3, m4, m5, m6, m7, m8, bdr (brf _)⟩) | (exact keepE9 (by assumption) hb1))
            (first | (go_at_call 33; refine (unhide PX _ (belowE9 (by assumption))).mono ?_; rintro e v1 ⟨rfl, hb1⟩))
          all_goals
            have hSf : v1.cell? ⟨b1, o1 + j * 9, none⟩ = some (.int .i64 z0) ∧ v1.cell? ⟨b1, o1 + j * 9 + 1, none⟩ = some (.int .i64 z1) ∧ v1.cell? ⟨b1, o1 + j * 9 + 2, none⟩ = some (.string z2) ∧ v1.cell? ⟨b1, o1 + j * 9 + 3, none⟩ = some (.int .i64 z3) ∧ v1.cell? ⟨b1, o1 + j * 9 + 4, none⟩ = some (.int .i64 z4) ∧ v1.cell? ⟨b1, o1 + j * 9 + 5, none⟩ = some (.int .i64 z5) ∧ v1.cell? ⟨b1, o1 + j * 9 + 6, none⟩ = some (.int .i64 z6) ∧ v1.cell? ⟨b1, o1 + j * 9 + 7, none⟩ = some (p7) ∧ v1.cell? ⟨b1, o1 + j * 9 + 8, none⟩ = some (p8) ∧ v1.cell? ⟨b2, o2 + j * 9, none⟩ = some (.int .i64 z0) ∧ v1.cell? ⟨b2, o2 + j * 9 + 1, none⟩ = some (.int .i64 z1) ∧ v1.cell? ⟨b2, o2 + j * 9 + 2, none⟩ = some (.string z2) ∧ v1.cell? ⟨b2, o2 + j * 9 + 3, none⟩ = some (.int .i64 z3) ∧ v1.cell? ⟨b2, o2 + j * 9 + 4, none⟩ = some (.int .i64 z4) ∧ v1.cell? ⟨b2, o2 + j * 9 + 5, none⟩ = some (.int .i64 z5) ∧ v1.cell? ⟨b2, o2 + j * 9 + 6, none⟩ = some (.int .i64 z6) ∧ v1.cell? ⟨b2, o2 + j * 9 + 7, none⟩ = some (q7) ∧ v1.cell? ⟨b2, o2 + j * 9 + 8, none⟩ = some (q8) ∧ Below wr.heap.size wr v1 := by assumption
            have HB2 := hide (btr (unhide HB) (belowE9 hSf))
            clear hSf k0 m0 k1 m1 k2 m2 k3 m3 k4 m4 k5 m5 k6 m6 k7 m7 k8 m8
            go_wp2
            exact ⟨⟨j + 1, by omega, by go_num, unhide HB2⟩, by simp [intOf]; omega⟩
        · obtain rfl : j = xs.length := by omega
          have HB := hide hb
          clear hb HC1 HC2
          go_wp2
          exact bodyPost_ret (v := .bool true) (by simp [results, Try.results19, go_sem]) rfl ⟨rfl, unhide HB⟩
set_option maxHeartbeats 1600000 in
theorem eqFlat_of (d : Nat) (x : Flat) (u1 u2 : List Value) (w : World) (h1 : (RFlatN d) w 0 x u1) (h2 : (RFlatN d) w 0 x u2) :
    Calls Try.prog 8 #[.agg u1.toArray, .agg u2.toArray] w fun e w' => e = .returned (.bool true) ∧ Below w.heap.size w w' := by
  obtain ⟨p0, p1, rfl, rp0, rp1⟩ := h1
  obtain ⟨q0, q1, rfl, rq0, rq1⟩ := h2
  have S0 := hide (fun (W : World) (hb : Below w.heap.size w W) => eqSignalS_of x.signals p0 q0 W (rp0.later RSignal.keeps hb) (rq0.later RSignal.keeps hb))
  obtain ⟨a0, c0, rfl⟩ := rp0.slice
  obtain ⟨d0, e0, rfl⟩ := rq0.slice
  have S1 := hide (fun (W : World) (hb : Below w.heap.size w W) => eqProcS_of d x.procs p1 q1 W (rp1.later (RProcN.keeps d) hb) (rq1.later (RProcN.keeps d) hb))
  obtain ⟨a1, c1, rfl⟩ := rp1.slice
  obtain ⟨d1, e1, rfl⟩ := rq1.slice
  clear rp0 rq0 rp1 rq1
  have Y1 : Hid (∀ t s, ((w.alloc (.cells #[.slice a0 x.signals.length c0, .slice a1 x.procs.length c1] t)).alloc (.cells #[.slice d0 x.signals.length e0, .slice d1 x.procs.length e1] s)).cell? ⟨w.heap.size, 1, none⟩ = some (.slice a1 x.procs.length c1)) := hide (fun t s => cell_later (bal (brf _) _) (by rw [World.cell?_alloc_new]; rfl))
  have Z1 : Hid (∀ t s, ((w.alloc (.cells #[.slice a0 x.signals.length c0, .slice a1 x.procs.length c1] t)).alloc (.cells #[.slice d0 x.signals.length e0, .slice d1 x.procs.length e1] s)).cell? ⟨w.heap.size + 1, 1, none⟩ = some (.slice d1 x.procs.length e1)) := hide (fun t s => by simp)
  go_enter Try.func8, Try.ntmps8
  go_wp2_with (first | (have hq2 := hB1; go_at_call 19; refine (unhide S1 _ hB1).mono ?_; rintro e W2 ⟨rfl, hb2⟩; have hB2 := btr hB1 hb2) | (go_at_call 18; refine (unhide S0 _ (bal (bal (brf w) _) _)).mono ?_; rintro e W1 ⟨rfl, hb1⟩; have hB1 := btr (bal (bal (brf w) _) _) hb1; have y1_1 := cell_later hb1 (unhide Y1 _ _); have z1_1 := cell_later hb1 (unhide Z1 _ _)))
  exact bodyPost_ret (v := .bool true) (by simp [results, Try.results8, go_sem]) rfl ⟨rfl, hB2⟩
end Go.Proofs.Ytgkfhaahcedbpaa
