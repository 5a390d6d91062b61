/- What the laws' eq functions answer of equal data. -/
import Derived.Test.YtnoklbnacfmpdacDDa
import Derived.Deep.RegionHeld3
import Derived.BigQuiet
namespace Go.Proofs.Ytnoklbnacfmpdac
open Go.RowKit Gs
set_option linter.unusedVariables false
set_option maxRecDepth 100000
theorem bdn {w W : World} {n : Nat} (h : Below w.heap.size w W) : Below w.heap.size w (W.drewN n) := ⟨h.os, h.tape, h.output, h.size, h.block⟩
theorem keepE2 {W V v1 : World} {a0 a1 a2 a3 : Addr} {x0 x1 x2 x3 : Value} (h : V.cell? a0 = some x0 ∧ V.cell? a1 = some x1 ∧ V.cell? a2 = some x2 ∧ V.cell? a3 = some x3 ∧ Below W.heap.size W V) (hb : Below V.heap.size V v1) : v1.cell? a0 = some x0 ∧ v1.cell? a1 = some x1 ∧ v1.cell? a2 = some x2 ∧ v1.cell? a3 = some x3 ∧ Below W.heap.size W v1 :=
  ⟨cell_later hb h.1, cell_later hb h.2.1, cell_later hb h.2.2.1, cell_later hb h.2.2.2.1, btr h.2.2.2.2 hb⟩
theorem belowE2 {W V : World} {a0 a1 a2 a3 : Addr} {x0 x1 x2 x3 : Value} (h : V.cell? a0 = some x0 ∧ V.cell? a1 = some x1 ∧ V.cell? a2 = some x2 ∧ V.cell? a3 = some x3 ∧ Below W.heap.size W V) : Below W.heap.size W V := h.2.2.2.2
theorem keepE4 {W V v1 : World} {a0 a1 a2 a3 a4 a5 a6 a7 : Addr} {x0 x1 x2 x3 x4 x5 x6 x7 : Value} (h : V.cell? a0 = some x0 ∧ V.cell? a1 = some x1 ∧ V.cell? a2 = some x2 ∧ V.cell? a3 = some x3 ∧ V.cell? a4 = some x4 ∧ V.cell? a5 = some x5 ∧ V.cell? a6 = some x6 ∧ V.cell? a7 = some x7 ∧ Below W.heap.size W V) (hb : Below V.heap.size V v1) : v1.cell? a0 = some x0 ∧ v1.cell? a1 = some x1 ∧ v1.cell? a2 = some x2 ∧ v1.cell? a3 = some x3 ∧ v1.cell? a4 = some x4 ∧ v1.cell? a5 = some x5 ∧ v1.cell? a6 = some x6 ∧ v1.cell? a7 = some x7 ∧ Below W.heap.size W v1 :=
  ⟨cell_later hb h.1, cell_later hb h.2.1, cell_later hb h.2.2.1, cell_later hb h.2.2.2.1, cell_later hb h.2.2.2.2.1, cell_later hb h.2.2.2.2.2.1, cell_later hb h.2.2.2.2.2.2.1, cell_later hb h.2.2.2.2.2.2.2.1, btr h.2.2.2.2.2.2.2.2 hb⟩
theorem belowE4 {W V : World} {a0 a1 a2 a3 a4 a5 a6 a7 : Addr} {x0 x1 x2 x3 x4 x5 x6 x7 : Value} (h : V.cell? a0 = some x0 ∧ V.cell? a1 = some x1 ∧ V.cell? a2 = some x2 ∧ V.cell? a3 = some x3 ∧ V.cell? a4 = some x4 ∧ V.cell? a5 = some x5 ∧ V.cell? a6 = some x6 ∧ V.cell? a7 = some x7 ∧ Below W.heap.size W V) : Below W.heap.size W V := h.2.2.2.2.2.2.2.2
theorem keepE1 {W V v1 : World} {a0 a1 : Addr} {x0 x1 : Value} (h : V.cell? a0 = some x0 ∧ V.cell? a1 = some x1 ∧ Below W.heap.size W V) (hb : Below V.heap.size V v1) : v1.cell? a0 = some x0 ∧ v1.cell? a1 = some x1 ∧ Below W.heap.size W v1 :=
  ⟨cell_later hb h.1, cell_later hb h.2.1, btr h.2.2 hb⟩
theorem belowE1 {W V : World} {a0 a1 : Addr} {x0 x1 : Value} (h : V.cell? a0 = some x0 ∧ V.cell? a1 = some x1 ∧ Below W.heap.size W V) : Below W.heap.size W V := h.2.2
theorem eqStringS0 (a1 a2 : Option Addr) (c1 c2 : Nat) (w : World) : Calls Try.prog 33 #[.slice a1 0 c1, .slice a2 0 c2] w fun e w' => e = .returned (.bool true) ∧ Below w.heap.size w w' := by
  go_enter Try.func33, Try.ntmps33
  go_wp2
  go_loopw [5] (fun i wr => i = .int .i64 0 ∧ Below w.heap.size w wr) (fun i wr => 0)
  case atStart => exact ⟨rfl, brf _⟩
  case round =>
    obtain ⟨rfl, hb⟩ := hrel
    have HB := hide hb
    clear hb
    go_wp2
    exact bodyPost_ret (v := .bool true) (by simp [results, Try.results33, go_sem]) rfl ⟨rfl, unhide HB⟩
set_option maxHeartbeats 1600000 in
theorem eqStringS_of (xs : List ByteArray) (v1 v2 : Value) (w : World) (h1 : RS 1 RStr w 0 xs v1) (h2 : RS 1 RStr w 0 xs v2) :
    Calls Try.prog 33 #[v1, v2] w fun e w' => e = .returned (.bool true) ∧ Below w.heap.size w w' := by
  rcases h1.open with ⟨rfl, a1, c1, rfl⟩ | ⟨b1, o1, c1, rfl, _, hn, _, hc1⟩
  · obtain ⟨a2, c2, rfl⟩ := h2.slice
    exact eqStringS0 _ _ _ _ w
  · rcases h2.open with ⟨rfl, a2, c2, rfl⟩ | ⟨b2, o2, c2, rfl, _, _, _, hc2⟩
    · exact eqStringS0 _ _ _ _ w
    · unfold maxLen at hn
      have HC1 := hide hc1
      have HC2 := hide hc2
      clear hc1 hc2 h1 h2
      go_enter Try.func33, Try.ntmps33
      go_wp2
      go_loopw [5] (fun i wr => ∃ j : Nat, j ≤ xs.length ∧ i = .int .i64 j ∧ Below w.heap.size w wr) (fun i wr => xs.length - (intOf i).toNat)
      case atStart => exact ⟨0, Nat.zero_le _, rfl, brf _⟩
      case round =>
        obtain ⟨j, hj, rfl, hb⟩ := hrel
        by_cases hjn : j < xs.length
        · have hx : xs[j]? = some xs[j] := List.getElem?_eq_getElem hjn
          generalize xs[j] = x at hx
          obtain ⟨u1, _, at1, r1⟩ := unhide HC1 j x hx
          obtain ⟨u2, _, at2, r2⟩ := unhide HC2 j x hx
          have i1 : (0 : Int) ≤ (j : Int) := by omega
          have i2 : (j : Int) < (xs.length : Int) := by omega
          obtain ⟨rfl, _⟩ := r1
          obtain ⟨rfl, _⟩ := r2
          have k0 := cell_later hb (at1.get (j := 0) rfl)
          have m0 := cell_later hb (at2.get (j := 0) rfl)
          simp only [Nat.add_zero, Nat.mul_one] at k0 m0
          have HB := hide hb
          clear hb at1 at2 HC1 HC2
          go_wp2
          go_quiet (fail)
          go_wp2
          exact ⟨⟨j + 1, by omega, by go_num, bdn (unhide HB)⟩, by simp [intOf]; omega⟩
        · obtain rfl : j = xs.length := by omega
          have HB := hide hb
          clear hb HC1 HC2
          go_wp2
          exact bodyPost_ret (v := .bool true) (by simp [results, Try.results33, go_sem]) rfl ⟨rfl, unhide HB⟩
set_option maxHeartbeats 1600000 in
theorem eqLatch_of (x : Latch) (u1 u2 : List Value) (w : World) (h1 : RLatch w 0 x u1) (h2 : RLatch w 0 x u2) :
    Calls Try.prog 58 #[.agg u1.toArray, .agg u2.toArray] w fun e w' => e = .returned (.bool true) ∧ Below w.heap.size w w' := by
  obtain ⟨rfl, _⟩ := h1
  obtain ⟨rfl, _⟩ := h2
  generalize x.name = z0 at *
  generalize x.next = z1 at *
  generalize x.init = z2 at *
  generalize x.clock = z3 at *
  go_enter Try.func58, Try.ntmps58
  go_wp2
  exact bodyPost_ret (v := .bool true) (by simp [results, Try.results58, go_sem]) rfl ⟨rfl, bal (bal (brf w) _) _⟩
theorem eqLatchS0 (a1 a2 : Option Addr) (c1 c2 : Nat) (w : World) : Calls Try.prog 34 #[.slice a1 0 c1, .slice a2 0 c2] w fun e w' => e = .returned (.bool true) ∧ Below w.heap.size w w' := by
  go_enter Try.func34, Try.ntmps34
  go_wp2
  go_loopw [5] (fun i wr => i = .int .i64 0 ∧ Below w.heap.size w wr) (fun i wr => 0)
  case atStart => exact ⟨rfl, brf _⟩
  case round =>
    obtain ⟨rfl, hb⟩ := hrel
    have HB := hide hb
    clear hb
    go_wp2
    exact bodyPost_ret (v := .bool true) (by simp [results, Try.results34, go_sem]) rfl ⟨rfl, unhide HB⟩
set_option maxHeartbeats 1600000 in
theorem eqLatchS_of (xs : List Latch) (v1 v2 : Value) (w : World) (h1 : RS 4 RLatch w 0 xs v1) (h2 : RS 4 RLatch w 0 xs v2) :
    Calls Try.prog 34 #[v1, v2] w fun e w' => e = .returned (.bool true) ∧ Below w.heap.size w w' := by
  rcases h1.open with ⟨rfl, a1, c1, rfl⟩ | ⟨b1, o1, c1, rfl, _, hn, _, hc1⟩
  · obtain ⟨a2, c2, rfl⟩ := h2.slice
    exact eqLatchS0 _ _ _ _ w
  · rcases h2.open with ⟨rfl, a2, c2, rfl⟩ | ⟨b2, o2, c2, rfl, _, _, _, hc2⟩
    · exact eqLatchS0 _ _ _ _ w
    · unfold maxLen at hn
      have HC1 := hide hc1
      have HC2 := hide hc2
      clear hc1 hc2 h1 h2
      go_enter Try.func34, Try.ntmps34
      go_wp2
      go_loopw [5] (fun i wr => ∃ j : Nat, j ≤ xs.length ∧ i = .int .i64 j ∧ Below w.heap.size w wr) (fun i wr => xs.length - (intOf i).toNat)
      case atStart => exact ⟨0, Nat.zero_le _, rfl, brf _⟩
      case round =>
        obtain ⟨j, hj, rfl, hb⟩ := hrel
        by_cases hjn : j < xs.length
        · have hx : xs[j]? = some xs[j] := List.getElem?_eq_getElem hjn
          generalize xs[j] = x at hx
          obtain ⟨u1, _, at1, r1⟩ := unhide HC1 j x hx
          obtain ⟨u2, _, at2, r2⟩ := unhide HC2 j x hx
          have i1 : (0 : Int) ≤ (j : Int) := by omega
          have i2 : (j : Int) < (xs.length : Int) := by omega
          have PX := hide (fun (wy : World) (hy : Below wr.heap.size wr wy) => eqLatch_of x u1 u2 wy (RLatch.keeps _ _ _ _ _ (later_cells (btr hb hy) 0) r1) (RLatch.keeps _ _ _ _ _ (later_cells (btr hb hy) 0) r2))
          obtain ⟨rfl, _⟩ := r1
          obtain ⟨rfl, _⟩ := r2
          have k0 := cell_later hb (at1.get (j := 0) rfl)
          have m0 := cell_later hb (at2.get (j := 0) rfl)
          have k1 := cell_later hb (at1.get (j := 1) rfl)
          have m1 := cell_later hb (at2.get (j := 1) rfl)
          have k2 := cell_later hb (at1.get (j := 2) rfl)
          have m2 := cell_later hb (at2.get (j := 2) rfl)
          have k3 := cell_later hb (at1.get (j := 3) rfl)
          have m3 := cell_later hb (at2.get (j := 3) rfl)
          simp only [Nat.add_zero] at k0 m0
          have HB := hide hb
          clear hb at1 at2 HC1 HC2
          generalize x.name = z0 at *
          generalize x.next = z1 at *
          generalize x.init = z2 at *
          generalize x.clock = z3 at *
          go_wp2
          go_region_held3 (fun w' => w'.cell? ⟨b1, o1 + j * 4, none⟩ = some (.string z0) ∧ w'.cell? ⟨b1, o1 + j * 4 + 1, none⟩ = some (.int .i64 z1) ∧ w'.cell? ⟨b1, o1 + j * 4 + 2, none⟩ = some (.int .i64 z2) ∧ w'.cell? ⟨b1, o1 + j * 4 + 3, none⟩ = some (.int .i64 z3) ∧ w'.cell? ⟨b2, o2 + j * 4, none⟩ = some (.string z0) ∧ w'.cell? ⟨b2, o2 + j * 4 + 1, none⟩ = some (.int .i64 z1) ∧ w'.cell? ⟨b2, o2 + j * 4 + 2, none⟩ = some (.int .i64 z2) ∧ w'.cell? ⟨b2, o2 + j * 4 + 3, none⟩ = some (.int .i64 z3) ∧ Below wr.heap.size wr w')
            (first | (exact ⟨k0, k1, k2, k3, m0, m1, m2, m3, bdr (brf _)⟩) | (exact keepE4 (by assumption) hb1))
            (first | (go_at_call 58; refine (unhide PX _ (belowE4 (by assumption))).mono ?_; rintro e v1 ⟨rfl, hb1⟩))
          all_goals
            have hSf : v1.cell? ⟨b1, o1 + j * 4, none⟩ = some (.string z0) ∧ v1.cell? ⟨b1, o1 + j * 4 + 1, none⟩ = some (.int .i64 z1) ∧ v1.cell? ⟨b1, o1 + j * 4 + 2, none⟩ = some (.int .i64 z2) ∧ v1.cell? ⟨b1, o1 + j * 4 + 3, none⟩ = some (.int .i64 z3) ∧ v1.cell? ⟨b2, o2 + j * 4, none⟩ = some (.string z0) ∧ v1.cell? ⟨b2, o2 + j * 4 + 1, none⟩ = some (.int .i64 z1) ∧ v1.cell? ⟨b2, o2 + j * 4 + 2, none⟩ = some (.int .i64 z2) ∧ v1.cell? ⟨b2, o2 + j * 4 + 3, none⟩ = some (.int .i64 z3) ∧ Below wr.heap.size wr v1 := by assumption
            have HB2 := hide (btr (unhide HB) (belowE4 hSf))
            clear hSf k0 m0 k1 m1 k2 m2 k3 m3
            go_wp2
            exact ⟨⟨j + 1, by omega, by go_num, unhide HB2⟩, by simp [intOf]; omega⟩
        · obtain rfl : j = xs.length := by omega
          have HB := hide hb
          clear hb HC1 HC2
          go_wp2
          exact bodyPost_ret (v := .bool true) (by simp [results, Try.results34, go_sem]) rfl ⟨rfl, unhide HB⟩
set_option maxHeartbeats 1600000 in
theorem eqAndG_of (x : AndG) (u1 u2 : List Value) (w : World) (h1 : RAndG w 0 x u1) (h2 : RAndG w 0 x u2) :
    Calls Try.prog 59 #[.agg u1.toArray, .agg u2.toArray] w fun e w' => e = .returned (.bool true) ∧ Below w.heap.size w w' := by
  obtain ⟨rfl⟩ := h1
  obtain ⟨rfl⟩ := h2
  generalize x.a = z0 at *
  generalize x.b = z1 at *
  go_enter Try.func59, Try.ntmps59
  go_wp2
  exact bodyPost_ret (v := .bool true) (by simp [results, Try.results59, go_sem]) rfl ⟨rfl, bal (bal (brf w) _) _⟩
theorem eqAndGS0 (a1 a2 : Option Addr) (c1 c2 : Nat) (w : World) : Calls Try.prog 35 #[.slice a1 0 c1, .slice a2 0 c2] w fun e w' => e = .returned (.bool true) ∧ Below w.heap.size w w' := by
  go_enter Try.func35, Try.ntmps35
  go_wp2
  go_loopw [5] (fun i wr => i = .int .i64 0 ∧ Below w.heap.size w wr) (fun i wr => 0)
  case atStart => exact ⟨rfl, brf _⟩
  case round =>
    obtain ⟨rfl, hb⟩ := hrel
    have HB := hide hb
    clear hb
    go_wp2
    exact bodyPost_ret (v := .bool true) (by simp [results, Try.results35, go_sem]) rfl ⟨rfl, unhide HB⟩
set_option maxHeartbeats 1600000 in
theorem eqAndGS_of (xs : List AndG) (v1 v2 : Value) (w : World) (h1 : RS 2 RAndG w 0 xs v1) (h2 : RS 2 RAndG w 0 xs v2) :
    Calls Try.prog 35 #[v1, v2] w fun e w' => e = .returned (.bool true) ∧ Below w.heap.size w w' := by
  rcases h1.open with ⟨rfl, a1, c1, rfl⟩ | ⟨b1, o1, c1, rfl, _, hn, _, hc1⟩
  · obtain ⟨a2, c2, rfl⟩ := h2.slice
    exact eqAndGS0 _ _ _ _ w
  · rcases h2.open with ⟨rfl, a2, c2, rfl⟩ | ⟨b2, o2, c2, rfl, _, _, _, hc2⟩
    · exact eqAndGS0 _ _ _ _ w
    · unfold maxLen at hn
      have HC1 := hide hc1
      have HC2 := hide hc2
      clear hc1 hc2 h1 h2
      go_enter Try.func35, Try.ntmps35
      go_wp2
      go_loopw [5] (fun i wr => ∃ j : Nat, j ≤ xs.length ∧ i = .int .i64 j ∧ Below w.heap.size w wr) (fun i wr => xs.length - (intOf i).toNat)
      case atStart => exact ⟨0, Nat.zero_le _, rfl, brf _⟩
      case round =>
        obtain ⟨j, hj, rfl, hb⟩ := hrel
        by_cases hjn : j < xs.length
        · have hx : xs[j]? = some xs[j] := List.getElem?_eq_getElem hjn
          generalize xs[j] = x at hx
          obtain ⟨u1, _, at1, r1⟩ := unhide HC1 j x hx
          obtain ⟨u2, _, at2, r2⟩ := unhide HC2 j x hx
          have i1 : (0 : Int) ≤ (j : Int) := by omega
          have i2 : (j : Int) < (xs.length : Int) := by omega
          have PX := hide (fun (wy : World) (hy : Below wr.heap.size wr wy) => eqAndG_of x u1 u2 wy (RAndG.keeps _ _ _ _ _ (later_cells (btr hb hy) 0) r1) (RAndG.keeps _ _ _ _ _ (later_cells (btr hb hy) 0) r2))
          obtain ⟨rfl⟩ := r1
          obtain ⟨rfl⟩ := r2
          have k0 := cell_later hb (at1.get (j := 0) rfl)
          have m0 := cell_later hb (at2.get (j := 0) rfl)
          have k1 := cell_later hb (at1.get (j := 1) rfl)
          have m1 := cell_later hb (at2.get (j := 1) rfl)
          simp only [Nat.add_zero] at k0 m0
          have HB := hide hb
          clear hb at1 at2 HC1 HC2
          generalize x.a = z0 at *
          generalize x.b = z1 at *
          go_wp2
          go_region_held3 (fun w' => w'.cell? ⟨b1, o1 + j * 2, none⟩ = some (.int .i64 z0) ∧ w'.cell? ⟨b1, o1 + j * 2 + 1, none⟩ = some (.int .i64 z1) ∧ w'.cell? ⟨b2, o2 + j * 2, none⟩ = some (.int .i64 z0) ∧ w'.cell? ⟨b2, o2 + j * 2 + 1, none⟩ = some (.int .i64 z1) ∧ Below wr.heap.size wr w')
            (first | (exact ⟨k0, k1, m0, m1, bdr (brf _)⟩) | (exact keepE2 (by assumption) hb1))
            (first | (go_at_call 59; refine (unhide PX _ (belowE2 (by assumption))).mono ?_; rintro e v1 ⟨rfl, hb1⟩))
          all_goals
            have hSf : v1.cell? ⟨b1, o1 + j * 2, none⟩ = some (.int .i64 z0) ∧ v1.cell? ⟨b1, o1 + j * 2 + 1, none⟩ = some (.int .i64 z1) ∧ v1.cell? ⟨b2, o2 + j * 2, none⟩ = some (.int .i64 z0) ∧ v1.cell? ⟨b2, o2 + j * 2 + 1, none⟩ = some (.int .i64 z1) ∧ Below wr.heap.size wr v1 := by assumption
            have HB2 := hide (btr (unhide HB) (belowE2 hSf))
            clear hSf k0 m0 k1 m1
            go_wp2
            exact ⟨⟨j + 1, by omega, by go_num, unhide HB2⟩, by simp [intOf]; omega⟩
        · obtain rfl : j = xs.length := by omega
          have HB := hide hb
          clear hb HC1 HC2
          go_wp2
          exact bodyPost_ret (v := .bool true) (by simp [results, Try.results35, go_sem]) rfl ⟨rfl, unhide HB⟩
set_option maxHeartbeats 1600000 in
theorem eqPin_of (x : Pin) (u1 u2 : List Value) (w : World) (h1 : RPin w 0 x u1) (h2 : RPin w 0 x u2) :
    Calls Try.prog 60 #[.agg u1.toArray, .agg u2.toArray] w fun e w' => e = .returned (.bool true) ∧ Below w.heap.size w w' := by
  obtain ⟨rfl, _⟩ := h1
  obtain ⟨rfl, _⟩ := h2
  generalize x.name = z0 at *
  generalize x.lit = z1 at *
  go_enter Try.func60, Try.ntmps60
  go_wp2
  exact bodyPost_ret (v := .bool true) (by simp [results, Try.results60, go_sem]) rfl ⟨rfl, bal (bal (brf w) _) _⟩
theorem eqPinS0 (a1 a2 : Option Addr) (c1 c2 : Nat) (w : World) : Calls Try.prog 36 #[.slice a1 0 c1, .slice a2 0 c2] w fun e w' => e = .returned (.bool true) ∧ Below w.heap.size w w' := by
  go_enter Try.func36, Try.ntmps36
  go_wp2
  go_loopw [5] (fun i wr => i = .int .i64 0 ∧ Below w.heap.size w wr) (fun i wr => 0)
  case atStart => exact ⟨rfl, brf _⟩
  case round =>
    obtain ⟨rfl, hb⟩ := hrel
    have HB := hide hb
    clear hb
    go_wp2
    exact bodyPost_ret (v := .bool true) (by simp [results, Try.results36, go_sem]) rfl ⟨rfl, unhide HB⟩
set_option maxHeartbeats 1600000 in
theorem eqPinS_of (xs : List Pin) (v1 v2 : Value) (w : World) (h1 : RS 2 RPin w 0 xs v1) (h2 : RS 2 RPin w 0 xs v2) :
    Calls Try.prog 36 #[v1, v2] w fun e w' => e = .returned (.bool true) ∧ Below w.heap.size w w' := by
  rcases h1.open with ⟨rfl, a1, c1, rfl⟩ | ⟨b1, o1, c1, rfl, _, hn, _, hc1⟩
  · obtain ⟨a2, c2, rfl⟩ := h2.slice
    exact eqPinS0 _ _ _ _ w
  · rcases h2.open with ⟨rfl, a2, c2, rfl⟩ | ⟨b2, o2, c2, rfl, _, _, _, hc2⟩
    · exact eqPinS0 _ _ _ _ w
    · unfold maxLen at hn
      have HC1 := hide hc1
      have HC2 := hide hc2
      clear hc1 hc2 h1 h2
      go_enter Try.func36, Try.ntmps36
      go_wp2
      go_loopw [5] (fun i wr => ∃ j : Nat, j ≤ xs.length ∧ i = .int .i64 j ∧ Below w.heap.size w wr) (fun i wr => xs.length - (intOf i).toNat)
      case atStart => exact ⟨0, Nat.zero_le _, rfl, brf _⟩
      case round =>
        obtain ⟨j, hj, rfl, hb⟩ := hrel
        by_cases hjn : j < xs.length
        · have hx : xs[j]? = some xs[j] := List.getElem?_eq_getElem hjn
          generalize xs[j] = x at hx
          obtain ⟨u1, _, at1, r1⟩ := unhide HC1 j x hx
          obtain ⟨u2, _, at2, r2⟩ := unhide HC2 j x hx
          have i1 : (0 : Int) ≤ (j : Int) := by omega
          have i2 : (j : Int) < (xs.length : Int) := by omega
          have PX := hide (fun (wy : World) (hy : Below wr.heap.size wr wy) => eqPin_of x u1 u2 wy (RPin.keeps _ _ _ _ _ (later_cells (btr hb hy) 0) r1) (RPin.keeps _ _ _ _ _ (later_cells (btr hb hy) 0) r2))
          obtain ⟨rfl, _⟩ := r1
          obtain ⟨rfl, _⟩ := r2
          have k0 := cell_later hb (at1.get (j := 0) rfl)
          have m0 := cell_later hb (at2.get (j := 0) rfl)
          have k1 := cell_later hb (at1.get (j := 1) rfl)
          have m1 := cell_later hb (at2.get (j := 1) rfl)
          simp only [Nat.add_zero] at k0 m0
          have HB := hide hb
          clear hb at1 at2 HC1 HC2
          generalize x.name = z0 at *
          generalize x.lit = z1 at *
          go_wp2
          go_region_held3 (fun w' => w'.cell? ⟨b1, o1 + j * 2, none⟩ = some (.string z0) ∧ w'.cell? ⟨b1, o1 + j * 2 + 1, none⟩ = some (.int .i64 z1) ∧ w'.cell? ⟨b2, o2 + j * 2, none⟩ = some (.string z0) ∧ w'.cell? ⟨b2, o2 + j * 2 + 1, none⟩ = some (.int .i64 z1) ∧ Below wr.heap.size wr w')
            (first | (exact ⟨k0, k1, m0, m1, bdr (brf _)⟩) | (exact keepE2 (by assumption) hb1))
            (first | (go_at_call 60; refine (unhide PX _ (belowE2 (by assumption))).mono ?_; rintro e v1 ⟨rfl, hb1⟩))
          all_goals
            have hSf : v1.cell? ⟨b1, o1 + j * 2, none⟩ = some (.string z0) ∧ v1.cell? ⟨b1, o1 + j * 2 + 1, none⟩ = some (.int .i64 z1) ∧ v1.cell? ⟨b2, o2 + j * 2, none⟩ = some (.string z0) ∧ v1.cell? ⟨b2, o2 + j * 2 + 1, none⟩ = some (.int .i64 z1) ∧ Below wr.heap.size wr v1 := by assumption
            have HB2 := hide (btr (unhide HB) (belowE2 hSf))
            clear hSf k0 m0 k1 m1
            go_wp2
            exact ⟨⟨j + 1, by omega, by go_num, unhide HB2⟩, by simp [intOf]; omega⟩
        · obtain rfl : j = xs.length := by omega
          have HB := hide hb
          clear hb HC1 HC2
          go_wp2
          exact bodyPost_ret (v := .bool true) (by simp [results, Try.results36, go_sem]) rfl ⟨rfl, unhide HB⟩
set_option maxHeartbeats 1600000 in
theorem eqAig_of (x : Aig) (u1 u2 : List Value) (w : World) (h1 : RAig w 0 x u1) (h2 : RAig w 0 x u2) :
    Calls Try.prog 9 #[.agg u1.toArray, .agg u2.toArray] w fun e w' => e = .returned (.bool true) ∧ Below w.heap.size w w' := by
  obtain ⟨p0, p1, p2, p3, p4, p5, rfl, rp0, rp1, rp2, rp3, rp4, rp5⟩ := h1
  obtain ⟨q0, q1, q2, q3, q4, q5, rfl, rq0, rq1, rq2, rq3, rq4, rq5⟩ := h2
  have S0 := hide (fun (W : World) (hb : Below w.heap.size w W) => eqStringS_of x.ins p0 q0 W (rp0.later RStr.keeps hb) (rq0.later RStr.keeps hb))
  obtain ⟨a0, c0, rfl⟩ := rp0.slice
  obtain ⟨d0, e0, rfl⟩ := rq0.slice
  have S1 := hide (fun (W : World) (hb : Below w.heap.size w W) => eqStringS_of x.clocks p1 q1 W (rp1.later RStr.keeps hb) (rq1.later RStr.keeps hb))
  obtain ⟨a1, c1, rfl⟩ := rp1.slice
  obtain ⟨d1, e1, rfl⟩ := rq1.slice
  have S2 := hide (fun (W : World) (hb : Below w.heap.size w W) => eqLatchS_of x.latches p2 q2 W (rp2.later RLatch.keeps hb) (rq2.later RLatch.keeps hb))
  obtain ⟨a2, c2, rfl⟩ := rp2.slice
  obtain ⟨d2, e2, rfl⟩ := rq2.slice
  have S3 := hide (fun (W : World) (hb : Below w.heap.size w W) => eqAndGS_of x.ands p3 q3 W (rp3.later RAndG.keeps hb) (rq3.later RAndG.keeps hb))
  obtain ⟨a3, c3, rfl⟩ := rp3.slice
  obtain ⟨d3, e3, rfl⟩ := rq3.slice
  have S4 := hide (fun (W : World) (hb : Below w.heap.size w W) => eqPinS_of x.outs p4 q4 W (rp4.later RPin.keeps hb) (rq4.later RPin.keeps hb))
  obtain ⟨a4, c4, rfl⟩ := rp4.slice
  obtain ⟨d4, e4, rfl⟩ := rq4.slice
  have S5 := hide (fun (W : World) (hb : Below w.heap.size w W) => eqPinS_of x.checks p5 q5 W (rp5.later RPin.keeps hb) (rq5.later RPin.keeps hb))
  obtain ⟨a5, c5, rfl⟩ := rp5.slice
  obtain ⟨d5, e5, rfl⟩ := rq5.slice
  clear rp0 rq0 rp1 rq1 rp2 rq2 rp3 rq3 rp4 rq4 rp5 rq5
  have Y1 : Hid (∀ t s, ((w.alloc (.cells #[.slice a0 x.ins.length c0, .slice a1 x.clocks.length c1, .slice a2 x.latches.length c2, .slice a3 x.ands.length c3, .slice a4 x.outs.length c4, .slice a5 x.checks.length c5] t)).alloc (.cells #[.slice d0 x.ins.length e0, .slice d1 x.clocks.length e1, .slice d2 x.latches.length e2, .slice d3 x.ands.length e3, .slice d4 x.outs.length e4, .slice d5 x.checks.length e5] s)).cell? ⟨w.heap.size, 1, none⟩ = some (.slice a1 x.clocks.length c1)) := hide (fun t s => cell_later (bal (brf _) _) (by rw [World.cell?_alloc_new]; rfl))
  have Z1 : Hid (∀ t s, ((w.alloc (.cells #[.slice a0 x.ins.length c0, .slice a1 x.clocks.length c1, .slice a2 x.latches.length c2, .slice a3 x.ands.length c3, .slice a4 x.outs.length c4, .slice a5 x.checks.length c5] t)).alloc (.cells #[.slice d0 x.ins.length e0, .slice d1 x.clocks.length e1, .slice d2 x.latches.length e2, .slice d3 x.ands.length e3, .slice d4 x.outs.length e4, .slice d5 x.checks.length e5] s)).cell? ⟨w.heap.size + 1, 1, none⟩ = some (.slice d1 x.clocks.length e1)) := hide (fun t s => by simp)
  have Y2 : Hid (∀ t s, ((w.alloc (.cells #[.slice a0 x.ins.length c0, .slice a1 x.clocks.length c1, .slice a2 x.latches.length c2, .slice a3 x.ands.length c3, .slice a4 x.outs.length c4, .slice a5 x.checks.length c5] t)).alloc (.cells #[.slice d0 x.ins.length e0, .slice d1 x.clocks.length e1, .slice d2 x.latches.length e2, .slice d3 x.ands.length e3, .slice d4 x.outs.length e4, .slice d5 x.checks.length e5] s)).cell? ⟨w.heap.size, 2, none⟩ = some (.slice a2 x.latches.length c2)) := hide (fun t s => cell_later (bal (brf _) _) (by rw [World.cell?_alloc_new]; rfl))
  have Z2 : Hid (∀ t s, ((w.alloc (.cells #[.slice a0 x.ins.length c0, .slice a1 x.clocks.length c1, .slice a2 x.latches.length c2, .slice a3 x.ands.length c3, .slice a4 x.outs.length c4, .slice a5 x.checks.length c5] t)).alloc (.cells #[.slice d0 x.ins.length e0, .slice d1 x.clocks.length e1, .slice d2 x.latches.length e2, .slice d3 x.ands.length e3, .slice d4 x.outs.length e4, .slice d5 x.checks.length e5] s)).cell? ⟨w.heap.size + 1, 2, none⟩ = some (.slice d2 x.latches.length e2)) := hide (fun t s => by simp)
  have Y3 : Hid (∀ t s, ((w.alloc (.cells #[.slice a0 x.ins.length c0, .slice a1 x.clocks.length c1, .slice a2 x.latches.length c2, .slice a3 x.ands.length c3, .slice a4 x.outs.length c4, .slice a5 x.checks.length c5] t)).alloc (.cells #[.slice d0 x.ins.length e0, .slice d1 x.clocks.length e1, .slice d2 x.latches.length e2, .slice d3 x.ands.length e3, .slice d4 x.outs.length e4, .slice d5 x.checks.length e5] s)).cell? ⟨w.heap.size, 3, none⟩ = some (.slice a3 x.ands.length c3)) := hide (fun t s => cell_later (bal (brf _) _) (by rw [World.cell?_alloc_new]; rfl))
  have Z3 : Hid (∀ t s, ((w.alloc (.cells #[.slice a0 x.ins.length c0, .slice a1 x.clocks.length c1, .slice a2 x.latches.length c2, .slice a3 x.ands.length c3, .slice a4 x.outs.length c4, .slice a5 x.checks.length c5] t)).alloc (.cells #[.slice d0 x.ins.length e0, .slice d1 x.clocks.length e1, .slice d2 x.latches.length e2, .slice d3 x.ands.length e3, .slice d4 x.outs.length e4, .slice d5 x.checks.length e5] s)).cell? ⟨w.heap.size + 1, 3, none⟩ = some (.slice d3 x.ands.length e3)) := hide (fun t s => by simp)
  have Y4 : Hid (∀ t s, ((w.alloc (.cells #[.slice a0 x.ins.length c0, .slice a1 x.clocks.length c1, .slice a2 x.latches.length c2, .slice a3 x.ands.length c3, .slice a4 x.outs.length c4, .slice a5 x.checks.length c5] t)).alloc (.cells #[.slice d0 x.ins.length e0, .slice d1 x.clocks.length e1, .slice d2 x.latches.length e2, .slice d3 x.ands.length e3, .slice d4 x.outs.length e4, .slice d5 x.checks.length e5] s)).cell? ⟨w.heap.size, 4, none⟩ = some (.slice a4 x.outs.length c4)) := hide (fun t s => cell_later (bal (brf _) _) (by rw [World.cell?_alloc_new]; rfl))
  have Z4 : Hid (∀ t s, ((w.alloc (.cells #[.slice a0 x.ins.length c0, .slice a1 x.clocks.length c1, .slice a2 x.latches.length c2, .slice a3 x.ands.length c3, .slice a4 x.outs.length c4, .slice a5 x.checks.length c5] t)).alloc (.cells #[.slice d0 x.ins.length e0, .slice d1 x.clocks.length e1, .slice d2 x.latches.length e2, .slice d3 x.ands.length e3, .slice d4 x.outs.length e4, .slice d5 x.checks.length e5] s)).cell? ⟨w.heap.size + 1, 4, none⟩ = some (.slice d4 x.outs.length e4)) := hide (fun t s => by simp)
  have Y5 : Hid (∀ t s, ((w.alloc (.cells #[.slice a0 x.ins.length c0, .slice a1 x.clocks.length c1, .slice a2 x.latches.length c2, .slice a3 x.ands.length c3, .slice a4 x.outs.length c4, .slice a5 x.checks.length c5] t)).alloc (.cells #[.slice d0 x.ins.length e0, .slice d1 x.clocks.length e1, .slice d2 x.latches.length e2, .slice d3 x.ands.length e3, .slice d4 x.outs.length e4, .slice d5 x.checks.length e5] s)).cell? ⟨w.heap.size, 5, none⟩ = some (.slice a5 x.checks.length c5)) := hide (fun t s => cell_later (bal (brf _) _) (by rw [World.cell?_alloc_new]; rfl))
  have Z5 : Hid (∀ t s, ((w.alloc (.cells #[.slice a0 x.ins.length c0, .slice a1 x.clocks.length c1, .slice a2 x.latches.length c2, .slice a3 x.ands.length c3, .slice a4 x.outs.length c4, .slice a5 x.checks.length c5] t)).alloc (.cells #[.slice d0 x.ins.length e0, .slice d1 x.clocks.length e1, .slice d2 x.latches.length e2, .slice d3 x.ands.length e3, .slice d4 x.outs.length e4, .slice d5 x.checks.length e5] s)).cell? ⟨w.heap.size + 1, 5, none⟩ = some (.slice d5 x.checks.length e5)) := hide (fun t s => by simp)
  go_enter Try.func9, Try.ntmps9
  go_wp2_with (first | (have hq6 := hB5; go_at_call 36; refine (unhide S5 _ hB5).mono ?_; rintro e W6 ⟨rfl, hb6⟩; have hB6 := btr hB5 hb6) | (have hq5 := hB4; go_at_call 36; refine (unhide S4 _ hB4).mono ?_; rintro e W5 ⟨rfl, hb5⟩; have hB5 := btr hB4 hb5; have y5_5 := cell_later hb5 y4_5; have z5_5 := cell_later hb5 z4_5) | (have hq4 := hB3; go_at_call 35; refine (unhide S3 _ hB3).mono ?_; rintro e W4 ⟨rfl, hb4⟩; have hB4 := btr hB3 hb4; have y4_4 := cell_later hb4 y3_4; have z4_4 := cell_later hb4 z3_4; have y4_5 := cell_later hb4 y3_5; have z4_5 := cell_later hb4 z3_5) | (have hq3 := hB2; go_at_call 34; refine (unhide S2 _ hB2).mono ?_; rintro e W3 ⟨rfl, hb3⟩; have hB3 := btr hB2 hb3; have y3_3 := cell_later hb3 y2_3; have z3_3 := cell_later hb3 z2_3; have y3_4 := cell_later hb3 y2_4; have z3_4 := cell_later hb3 z2_4; have y3_5 := cell_later hb3 y2_5; have z3_5 := cell_later hb3 z2_5) | (have hq2 := hB1; go_at_call 33; refine (unhide S1 _ hB1).mono ?_; rintro e W2 ⟨rfl, hb2⟩; have hB2 := btr hB1 hb2; have y2_2 := cell_later hb2 y1_2; have z2_2 := cell_later hb2 z1_2; have y2_3 := cell_later hb2 y1_3; have z2_3 := cell_later hb2 z1_3; have y2_4 := cell_later hb2 y1_4; have z2_4 := cell_later hb2 z1_4; have y2_5 := cell_later hb2 y1_5; have z2_5 := cell_later hb2 z1_5) | (go_at_call 33; refine (unhide S0 _ (bal (bal (brf w) _) _)).mono ?_; rintro e W1 ⟨rfl, hb1⟩; have hB1 := btr (bal (bal (brf w) _) _) hb1; have y1_1 := cell_later hb1 (unhide Y1 _ _); have z1_1 := cell_later hb1 (unhide Z1 _ _); have y1_2 := cell_later hb1 (unhide Y2 _ _); have z1_2 := cell_later hb1 (unhide Z2 _ _); have y1_3 := cell_later hb1 (unhide Y3 _ _); have z1_3 := cell_later hb1 (unhide Z3 _ _); have y1_4 := cell_later hb1 (unhide Y4 _ _); have z1_4 := cell_later hb1 (unhide Z4 _ _); have y1_5 := cell_later hb1 (unhide Y5 _ _); have z1_5 := cell_later hb1 (unhide Z5 _ _)))
  exact bodyPost_ret (v := .bool true) (by simp [results, Try.results9, go_sem]) rfl ⟨rfl, hB6⟩
theorem eqIntS0 (a1 a2 : Option Addr) (c1 c2 : Nat) (w : World) : Calls Try.prog 32 #[.slice a1 0 c1, .slice a2 0 c2] w fun e w' => e = .returned (.bool true) ∧ Below w.heap.size w w' := by
  go_enter Try.func32, Try.ntmps32
  go_wp2
  go_loopw [5] (fun i wr => i = .int .i64 0 ∧ Below w.heap.size w wr) (fun i wr => 0)
  case atStart => exact ⟨rfl, brf _⟩
  case round =>
    obtain ⟨rfl, hb⟩ := hrel
    have HB := hide hb
    clear hb
    go_wp2
    exact bodyPost_ret (v := .bool true) (by simp [results, Try.results32, go_sem]) rfl ⟨rfl, unhide HB⟩
set_option maxHeartbeats 1600000 in
theorem eqIntS_of (xs : List Int) (v1 v2 : Value) (w : World) (h1 : RS 1 RInt w 0 xs v1) (h2 : RS 1 RInt w 0 xs v2) :
    Calls Try.prog 32 #[v1, v2] w fun e w' => e = .returned (.bool true) ∧ Below w.heap.size w w' := by
  rcases h1.open with ⟨rfl, a1, c1, rfl⟩ | ⟨b1, o1, c1, rfl, _, hn, _, hc1⟩
  · obtain ⟨a2, c2, rfl⟩ := h2.slice
    exact eqIntS0 _ _ _ _ w
  · rcases h2.open with ⟨rfl, a2, c2, rfl⟩ | ⟨b2, o2, c2, rfl, _, _, _, hc2⟩
    · exact eqIntS0 _ _ _ _ w
    · unfold maxLen at hn
      have HC1 := hide hc1
      have HC2 := hide hc2
      clear hc1 hc2 h1 h2
      go_enter Try.func32, Try.ntmps32
      go_wp2
      go_loopw [5] (fun i wr => ∃ j : Nat, j ≤ xs.length ∧ i = .int .i64 j ∧ Below w.heap.size w wr) (fun i wr => xs.length - (intOf i).toNat)
      case atStart => exact ⟨0, Nat.zero_le _, rfl, brf _⟩
      case round =>
        obtain ⟨j, hj, rfl, hb⟩ := hrel
        by_cases hjn : j < xs.length
        · have hx : xs[j]? = some xs[j] := List.getElem?_eq_getElem hjn
          generalize xs[j] = x at hx
          obtain ⟨u1, _, at1, r1⟩ := unhide HC1 j x hx
          obtain ⟨u2, _, at2, r2⟩ := unhide HC2 j x hx
          have i1 : (0 : Int) ≤ (j : Int) := by omega
          have i2 : (j : Int) < (xs.length : Int) := by omega
          obtain rfl := r1
          obtain rfl := r2
          have k0 := cell_later hb (at1.get (j := 0) rfl)
          have m0 := cell_later hb (at2.get (j := 0) rfl)
          simp only [Nat.add_zero, Nat.mul_one] at k0 m0
          have HB := hide hb
          clear hb at1 at2 HC1 HC2
          go_wp2
          go_quiet (fail)
          go_wp2
          exact ⟨⟨j + 1, by omega, by go_num, bdn (unhide HB)⟩, by simp [intOf]; omega⟩
        · obtain rfl : j = xs.length := by omega
          have HB := hide hb
          clear hb HC1 HC2
          go_wp2
          exact bodyPost_ret (v := .bool true) (by simp [results, Try.results32, go_sem]) rfl ⟨rfl, unhide HB⟩
theorem eqIntSS0 (a1 a2 : Option Addr) (c1 c2 : Nat) (w : World) : Calls Try.prog 8 #[.slice a1 0 c1, .slice a2 0 c2] w fun e w' => e = .returned (.bool true) ∧ Below w.heap.size w w' := by
  go_enter Try.func8, Try.ntmps8
  go_wp2
  go_loopw [5] (fun i wr => i = .int .i64 0 ∧ Below w.heap.size w wr) (fun i wr => 0)
  case atStart => exact ⟨rfl, brf _⟩
  case round =>
    obtain ⟨rfl, hb⟩ := hrel
    have HB := hide hb
    clear hb
    go_wp2
    exact bodyPost_ret (v := .bool true) (by simp [results, Try.results8, go_sem]) rfl ⟨rfl, unhide HB⟩
set_option maxHeartbeats 1600000 in
theorem eqIntSS_of (xs : List (List Int)) (v1 v2 : Value) (w : World) (h1 : RS 1 RIntS w 0 xs v1) (h2 : RS 1 RIntS w 0 xs v2) :
    Calls Try.prog 8 #[v1, v2] w fun e w' => e = .returned (.bool true) ∧ Below w.heap.size w w' := by
  rcases h1.open with ⟨rfl, a1, c1, rfl⟩ | ⟨b1, o1, c1, rfl, _, hn, _, hc1⟩
  · obtain ⟨a2, c2, rfl⟩ := h2.slice
    exact eqIntSS0 _ _ _ _ w
  · rcases h2.open with ⟨rfl, a2, c2, rfl⟩ | ⟨b2, o2, c2, rfl, _, _, _, hc2⟩
    · exact eqIntSS0 _ _ _ _ w
    · unfold maxLen at hn
      have HC1 := hide hc1
      have HC2 := hide hc2
      clear hc1 hc2 h1 h2
      go_enter Try.func8, Try.ntmps8
      go_wp2
      go_loopw [5] (fun i wr => ∃ j : Nat, j ≤ xs.length ∧ i = .int .i64 j ∧ Below w.heap.size w wr) (fun i wr => xs.length - (intOf i).toNat)
      case atStart => exact ⟨0, Nat.zero_le _, rfl, brf _⟩
      case round =>
        obtain ⟨j, hj, rfl, hb⟩ := hrel
        by_cases hjn : j < xs.length
        · have hx : xs[j]? = some xs[j] := List.getElem?_eq_getElem hjn
          generalize xs[j] = x at hx
          obtain ⟨u1, _, at1, r1⟩ := unhide HC1 j x hx
          obtain ⟨u2, _, at2, r2⟩ := unhide HC2 j x hx
          have i1 : (0 : Int) ≤ (j : Int) := by omega
          have i2 : (j : Int) < (xs.length : Int) := by omega
          obtain ⟨p0, rfl, rp⟩ := r1
          obtain ⟨q0, rfl, rq⟩ := r2
          have PX := hide (fun (wy : World) (hy : Below wr.heap.size wr wy) => eqIntS_of x p0 q0 wy (rp.later RInt.keeps (btr hb hy)) (rq.later RInt.keeps (btr hb hy)))
          obtain ⟨pa, pc, rfl⟩ := rp.slice
          obtain ⟨qa, qc, rfl⟩ := rq.slice
          have k0 := cell_later hb (at1.get (j := 0) rfl)
          have m0 := cell_later hb (at2.get (j := 0) rfl)
          simp only [Nat.add_zero, Nat.mul_one] at k0 m0
          have HB := hide hb
          clear hb at1 at2 HC1 HC2 rp rq
          go_wp2
          go_region_held3 (fun w' => w'.cell? ⟨b1, o1 + j, none⟩ = some (.slice pa x.length pc) ∧ w'.cell? ⟨b2, o2 + j, none⟩ = some (.slice qa x.length qc) ∧ Below wr.heap.size wr w')
            (first | (exact ⟨k0, m0, bdr (brf _)⟩) | (exact keepE1 (by assumption) hb1))
            (first | (go_at_call 32; refine (unhide PX _ (belowE1 (by assumption))).mono ?_; rintro e v1 ⟨rfl, hb1⟩))
          all_goals
            have hSf : v1.cell? ⟨b1, o1 + j, none⟩ = some (.slice pa x.length pc) ∧ v1.cell? ⟨b2, o2 + j, none⟩ = some (.slice qa x.length qc) ∧ Below wr.heap.size wr v1 := by assumption
            have HB2 := hide (btr (unhide HB) (belowE1 hSf))
            clear hSf k0 m0
            go_wp2
            exact ⟨⟨j + 1, by omega, by go_num, unhide HB2⟩, by simp [intOf]; omega⟩
        · obtain rfl : j = xs.length := by omega
          have HB := hide hb
          clear hb HC1 HC2
          go_wp2
          exact bodyPost_ret (v := .bool true) (by simp [results, Try.results8, go_sem]) rfl ⟨rfl, unhide HB⟩
end Go.Proofs.Ytnoklbnacfmpdac
