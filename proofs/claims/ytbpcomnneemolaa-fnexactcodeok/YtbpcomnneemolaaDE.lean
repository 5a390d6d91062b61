/- What the laws' eq functions answer of equal data. -/
import Derived.Test.YtbpcomnneemolaaDD
import Derived.Deep.RegionHeld3
import Derived.BigQuiet
namespace Go.Proofs.Ytbpcomnneemolaa
open Go.RowKit Gs
set_option linter.unusedVariables false
set_option maxRecDepth 100000
theorem bdn {w W : World} {n : Nat} (h : Below w.heap.size w W) : Below w.heap.size w (W.drewN n) := ⟨h.os, h.tape, h.output, h.size, h.block⟩
theorem keepE9 {W V v1 : World} {a0 a1 a2 a3 a4 a5 a6 a7 a8 a9 a10 a11 a12 a13 a14 a15 a16 a17 : Addr} {x0 x1 x2 x3 x4 x5 x6 x7 x8 x9 x10 x11 x12 x13 x14 x15 x16 x17 : Value} (h : V.cell? a0 = some x0 ∧ V.cell? a1 = some x1 ∧ V.cell? a2 = some x2 ∧ V.cell? a3 = some x3 ∧ V.cell? a4 = some x4 ∧ V.cell? a5 = some x5 ∧ V.cell? a6 = some x6 ∧ V.cell? a7 = some x7 ∧ V.cell? a8 = some x8 ∧ V.cell? a9 = some x9 ∧ V.cell? a10 = some x10 ∧ V.cell? a11 = some x11 ∧ V.cell? a12 = some x12 ∧ V.cell? a13 = some x13 ∧ V.cell? a14 = some x14 ∧ V.cell? a15 = some x15 ∧ V.cell? a16 = some x16 ∧ V.cell? a17 = some x17 ∧ Below W.heap.size W V) (hb : Below V.heap.size V v1) : v1.cell? a0 = some x0 ∧ v1.cell? a1 = some x1 ∧ v1.cell? a2 = some x2 ∧ v1.cell? a3 = some x3 ∧ v1.cell? a4 = some x4 ∧ v1.cell? a5 = some x5 ∧ v1.cell? a6 = some x6 ∧ v1.cell? a7 = some x7 ∧ v1.cell? a8 = some x8 ∧ v1.cell? a9 = some x9 ∧ v1.cell? a10 = some x10 ∧ v1.cell? a11 = some x11 ∧ v1.cell? a12 = some x12 ∧ v1.cell? a13 = some x13 ∧ v1.cell? a14 = some x14 ∧ v1.cell? a15 = some x15 ∧ v1.cell? a16 = some x16 ∧ v1.cell? a17 = some x17 ∧ Below W.heap.size W v1 :=
  ⟨cell_later hb h.1, cell_later hb h.2.1, cell_later hb h.2.2.1, cell_later hb h.2.2.2.1, cell_later hb h.2.2.2.2.1, cell_later hb h.2.2.2.2.2.1, cell_later hb h.2.2.2.2.2.2.1, cell_later hb h.2.2.2.2.2.2.2.1, cell_later hb h.2.2.2.2.2.2.2.2.1, cell_later hb h.2.2.2.2.2.2.2.2.2.1, cell_later hb h.2.2.2.2.2.2.2.2.2.2.1, cell_later hb h.2.2.2.2.2.2.2.2.2.2.2.1, cell_later hb h.2.2.2.2.2.2.2.2.2.2.2.2.1, cell_later hb h.2.2.2.2.2.2.2.2.2.2.2.2.2.1, cell_later hb h.2.2.2.2.2.2.2.2.2.2.2.2.2.2.1, cell_later hb h.2.2.2.2.2.2.2.2.2.2.2.2.2.2.2.1, cell_later hb h.2.2.2.2.2.2.2.2.2.2.2.2.2.2.2.2.1, cell_later hb h.2.2.2.2.2.2.2.2.2.2.2.2.2.2.2.2.2.1, btr h.2.2.2.2.2.2.2.2.2.2.2.2.2.2.2.2.2.2 hb⟩
theorem belowE9 {W V : World} {a0 a1 a2 a3 a4 a5 a6 a7 a8 a9 a10 a11 a12 a13 a14 a15 a16 a17 : Addr} {x0 x1 x2 x3 x4 x5 x6 x7 x8 x9 x10 x11 x12 x13 x14 x15 x16 x17 : Value} (h : V.cell? a0 = some x0 ∧ V.cell? a1 = some x1 ∧ V.cell? a2 = some x2 ∧ V.cell? a3 = some x3 ∧ V.cell? a4 = some x4 ∧ V.cell? a5 = some x5 ∧ V.cell? a6 = some x6 ∧ V.cell? a7 = some x7 ∧ V.cell? a8 = some x8 ∧ V.cell? a9 = some x9 ∧ V.cell? a10 = some x10 ∧ V.cell? a11 = some x11 ∧ V.cell? a12 = some x12 ∧ V.cell? a13 = some x13 ∧ V.cell? a14 = some x14 ∧ V.cell? a15 = some x15 ∧ V.cell? a16 = some x16 ∧ V.cell? a17 = some x17 ∧ Below W.heap.size W V) : Below W.heap.size W V := h.2.2.2.2.2.2.2.2.2.2.2.2.2.2.2.2.2.2
set_option maxHeartbeats 1600000 in
theorem eqInstr_of (x : Instr) (u1 u2 : List Value) (w : World) (h1 : RInstr w 0 x u1) (h2 : RInstr w 0 x u2) :
    Calls Try.prog 45 #[.agg u1.toArray, .agg u2.toArray] w fun e w' => e = .returned (.bool true) ∧ Below w.heap.size w w' := by
  obtain ⟨rfl, _⟩ := h1
  obtain ⟨rfl, _⟩ := h2
  generalize x.op = z0 at *
  generalize x.dst = z1 at *
  generalize x.a = z2 at *
  generalize x.b = z3 at *
  generalize x.c = z4 at *
  generalize x.n = z5 at *
  generalize x.width = z6 at *
  generalize x.signed = z7 at *
  generalize x.bits = z8 at *
  go_enter Try.func45, Try.ntmps45
  go_wp2
  exact bodyPost_ret (v := .bool true) (by simp [results, Try.results45, go_sem]) rfl ⟨rfl, bal (bal (brf w) _) _⟩
theorem eqInstrS0 (a1 a2 : Option Addr) (c1 c2 : Nat) (w : World) : Calls Try.prog 25 #[.slice a1 0 c1, .slice a2 0 c2] w fun e w' => e = .returned (.bool true) ∧ Below w.heap.size w w' := by
  go_enter Try.func25, Try.ntmps25
  go_wp2
  go_loopw [5] (fun i wr => i = .int .i64 0 ∧ Below w.heap.size w wr) (fun i wr => 0)
  case atStart => exact ⟨rfl, brf _⟩
  case round =>
    obtain ⟨rfl, hb⟩ := hrel
    have HB := hide hb
    clear hb
    go_wp2
    exact bodyPost_ret (v := .bool true) (by simp [results, Try.results25, go_sem]) rfl ⟨rfl, unhide HB⟩
set_option maxHeartbeats 1600000 in
theorem eqInstrS_of (xs : List Instr) (v1 v2 : Value) (w : World) (h1 : RS 9 RInstr w 0 xs v1) (h2 : RS 9 RInstr w 0 xs v2) :
    Calls Try.prog 25 #[v1, v2] w fun e w' => e = .returned (.bool true) ∧ Below w.heap.size w w' := by
  rcases h1.open with ⟨rfl, a1, c1, rfl⟩ | ⟨b1, o1, c1, rfl, _, hn, _, hc1⟩
  · obtain ⟨a2, c2, rfl⟩ := h2.slice
    exact eqInstrS0 _ _ _ _ w
  · rcases h2.open with ⟨rfl, a2, c2, rfl⟩ | ⟨b2, o2, c2, rfl, _, _, _, hc2⟩
    · exact eqInstrS0 _ _ _ _ w
    · unfold maxLen at hn
      have HC1 := hide hc1
      have HC2 := hide hc2
      clear hc1 hc2 h1 h2
      go_enter Try.func25, Try.ntmps25
      go_wp2
      go_loopw [5] (fun i wr => ∃ j : Nat, j ≤ xs.length ∧ i = .int .i64 j ∧ Below w.heap.size w wr) (fun i wr => xs.length - (intOf i).toNat)
      case atStart => exact ⟨0, Nat.zero_le _, rfl, brf _⟩
      case round =>
        obtain ⟨j, hj, rfl, hb⟩ := hrel
        by_cases hjn : j < xs.length
        · have hx : xs[j]? = some xs[j] := List.getElem?_eq_getElem hjn
          generalize xs[j] = x at hx
          obtain ⟨u1, _, at1, r1⟩ := unhide HC1 j x hx
          obtain ⟨u2, _, at2, r2⟩ := unhide HC2 j x hx
          have i1 : (0 : Int) ≤ (j : Int) := by omega
          have i2 : (j : Int) < (xs.length : Int) := by omega
          have PX := hide (fun (wy : World) (hy : Below wr.heap.size wr wy) => eqInstr_of x u1 u2 wy (RInstr.keeps _ _ _ _ _ (later_cells (btr hb hy) 0) r1) (RInstr.keeps _ _ _ _ _ (later_cells (btr hb hy) 0) r2))
          obtain ⟨rfl, _⟩ := r1
          obtain ⟨rfl, _⟩ := r2
          have k0 := cell_later hb (at1.get (j := 0) rfl)
          have m0 := cell_later hb (at2.get (j := 0) rfl)
          have k1 := cell_later hb (at1.get (j := 1) rfl)
          have m1 := cell_later hb (at2.get (j := 1) rfl)
          have k2 := cell_later hb (at1.get (j := 2) rfl)
          have m2 := cell_later hb (at2.get (j := 2) rfl)
          have k3 := cell_later hb (at1.get (j := 3) rfl)
          have m3 := cell_later hb (at2.get (j := 3) rfl)
          have k4 := cell_later hb (at1.get (j := 4) rfl)
          have m4 := cell_later hb (at2.get (j := 4) rfl)
          have k5 := cell_later hb (at1.get (j := 5) rfl)
          have m5 := cell_later hb (at2.get (j := 5) rfl)
          have k6 := cell_later hb (at1.get (j := 6) rfl)
          have m6 := cell_later hb (at2.get (j := 6) rfl)
          have k7 := cell_later hb (at1.get (j := 7) rfl)
          have m7 := cell_later hb (at2.get (j := 7) rfl)
          have k8 := cell_later hb (at1.get (j := 8) rfl)
          have m8 := cell_later hb (at2.get (j := 8) rfl)
          simp only [Nat.add_zero] at k0 m0
          have HB := hide hb
          clear hb at1 at2 HC1 HC2
          generalize x.op = z0 at *
          generalize x.dst = z1 at *
          generalize x.a = z2 at *
          generalize x.b = z3 at *
          generalize x.c = z4 at *
          generalize x.n = z5 at *
          generalize x.width = z6 at *
          generalize x.signed = z7 at *
          generalize x.bits = z8 at *
          go_wp2
          go_region_held3 (fun w' => w'.cell? ⟨b1, o1 + j * 9, none⟩ = some (.int .i64 z0) ∧ w'.cell? ⟨b1, o1 + j * 9 + 1, none⟩ = some (.int .i64 z1) ∧ w'.cell? ⟨b1, o1 + j * 9 + 2, none⟩ = some (.int .i64 z2) ∧ w'.cell? ⟨b1, o1 + j * 9 + 3, none⟩ = some (.int .i64 z3) ∧ w'.cell? ⟨b1, o1 + j * 9 + 4, none⟩ = some (.int .i64 z4) ∧ w'.cell? ⟨b1, o1 + j * 9 + 5, none⟩ = some (.int .i64 z5) ∧ w'.cell? ⟨b1, o1 + j * 9 + 6, none⟩ = some (.int .i64 z6) ∧ w'.cell? ⟨b1, o1 + j * 9 + 7, none⟩ = some (.bool z7) ∧ w'.cell? ⟨b1, o1 + j * 9 + 8, none⟩ = some (.string z8) ∧ w'.cell? ⟨b2, o2 + j * 9, none⟩ = some (.int .i64 z0) ∧ w'.cell? ⟨b2, o2 + j * 9 + 1, none⟩ = some (.int .i64 z1) ∧ w'.cell? ⟨b2, o2 + j * 9 + 2, none⟩ = some (.int .i64 z2) ∧ w'.cell? ⟨b2, o2 + j * 9 + 3, none⟩ = some (.int .i64 z3) ∧ w'.cell? ⟨b2, o2 + j * 9 + 4, none⟩ = some (.int .i64 z4) ∧ w'.cell? ⟨b2, o2 + j * 9 + 5, none⟩ = some (.int .i64 z5) ∧ w'.cell? ⟨b2, o2 + j * 9 + 6, none⟩ = some (.int .i64 z6) ∧ w'.cell? ⟨b2, o2 + j * 9 + 7, none⟩ = some (.bool z7) ∧ w'.cell? ⟨b2, o2 + j * 9 + 8, none⟩ = some (.string z8) ∧ Below wr.heap.size wr w')
            (first | (exact ⟨k0, k1, k2, k3, k4, k5, k6, k7, k8, m0, m1, m2, m3, m4, m5, m6, m7, m8, bdr (brf _)⟩) | (exact keepE9 (by assumption) hb1))
            (first | (go_at_call 45; refine (unhide PX _ (belowE9 (by assumption))).mono ?_; rintro e v1 ⟨rfl, hb1⟩))
          all_goals
            have hSf : v1.cell? ⟨b1, o1 + j * 9, none⟩ = some (.int .i64 z0) ∧ v1.cell? ⟨b1, o1 + j * 9 + 1, none⟩ = some (.int .i64 z1) ∧ v1.cell? ⟨b1, o1 + j * 9 + 2, none⟩ = some (.int .i64 z2) ∧ v1.cell? ⟨b1, o1 + j * 9 + 3, none⟩ = some (.int .i64 z3) ∧ v1.cell? ⟨b1, o1 + j * 9 + 4, none⟩ = some (.int .i64 z4) ∧ v1.cell? ⟨b1, o1 + j * 9 + 5, none⟩ = some (.int .i64 z5) ∧ v1.cell? ⟨b1, o1 + j * 9 + 6, none⟩ = some (.int .i64 z6) ∧ v1.cell? ⟨b1, o1 + j * 9 + 7, none⟩ = some (.bool z7) ∧ v1.cell? ⟨b1, o1 + j * 9 + 8, none⟩ = some (.string z8) ∧ v1.cell? ⟨b2, o2 + j * 9, none⟩ = some (.int .i64 z0) ∧ v1.cell? ⟨b2, o2 + j * 9 + 1, none⟩ = some (.int .i64 z1) ∧ v1.cell? ⟨b2, o2 + j * 9 + 2, none⟩ = some (.int .i64 z2) ∧ v1.cell? ⟨b2, o2 + j * 9 + 3, none⟩ = some (.int .i64 z3) ∧ v1.cell? ⟨b2, o2 + j * 9 + 4, none⟩ = some (.int .i64 z4) ∧ v1.cell? ⟨b2, o2 + j * 9 + 5, none⟩ = some (.int .i64 z5) ∧ v1.cell? ⟨b2, o2 + j * 9 + 6, none⟩ = some (.int .i64 z6) ∧ v1.cell? ⟨b2, o2 + j * 9 + 7, none⟩ = some (.bool z7) ∧ v1.cell? ⟨b2, o2 + j * 9 + 8, none⟩ = some (.string z8) ∧ Below wr.heap.size wr v1 := by assumption
            have HB2 := hide (btr (unhide HB) (belowE9 hSf))
            clear hSf k0 m0 k1 m1 k2 m2 k3 m3 k4 m4 k5 m5 k6 m6 k7 m7 k8 m8
            go_wp2
            exact ⟨⟨j + 1, by omega, by go_num, unhide HB2⟩, by simp [intOf]; omega⟩
        · obtain rfl : j = xs.length := by omega
          have HB := hide hb
          clear hb HC1 HC2
          go_wp2
          exact bodyPost_ret (v := .bool true) (by simp [results, Try.results25, go_sem]) rfl ⟨rfl, unhide HB⟩
theorem eqIntS0 (a1 a2 : Option Addr) (c1 c2 : Nat) (w : World) : Calls Try.prog 26 #[.slice a1 0 c1, .slice a2 0 c2] w fun e w' => e = .returned (.bool true) ∧ Below w.heap.size w w' := by
  go_enter Try.func26, Try.ntmps26
  go_wp2
  go_loopw [5] (fun i wr => i = .int .i64 0 ∧ Below w.heap.size w wr) (fun i wr => 0)
  case atStart => exact ⟨rfl, brf _⟩
  case round =>
    obtain ⟨rfl, hb⟩ := hrel
    have HB := hide hb
    clear hb
    go_wp2
    exact bodyPost_ret (v := .bool true) (by simp [results, Try.results26, go_sem]) rfl ⟨rfl, unhide HB⟩
set_option maxHeartbeats 1600000 in
theorem eqIntS_of (xs : List Int) (v1 v2 : Value) (w : World) (h1 : RS 1 RInt w 0 xs v1) (h2 : RS 1 RInt w 0 xs v2) :
    Calls Try.prog 26 #[v1, v2] w fun e w' => e = .returned (.bool true) ∧ Below w.heap.size w w' := by
  rcases h1.open with ⟨rfl, a1, c1, rfl⟩ | ⟨b1, o1, c1, rfl, _, hn, _, hc1⟩
  · obtain ⟨a2, c2, rfl⟩ := h2.slice
    exact eqIntS0 _ _ _ _ w
  · rcases h2.open with ⟨rfl, a2, c2, rfl⟩ | ⟨b2, o2, c2, rfl, _, _, _, hc2⟩
    · exact eqIntS0 _ _ _ _ w
    · unfold maxLen at hn
      have HC1 := hide hc1
      have HC2 := hide hc2
      clear hc1 hc2 h1 h2
      go_enter Try.func26, Try.ntmps26
      go_wp2
      go_loopw [5] (fun i wr => ∃ j : Nat, j ≤ xs.length ∧ i = .int .i64 j ∧ Below w.heap.size w wr) (fun i wr => xs.length - (intOf i).toNat)
      case atStart => exact ⟨0, Nat.zero_le _, rfl, brf _⟩
      case round =>
        obtain ⟨j, hj, rfl, hb⟩ := hrel
        by_cases hjn : j < xs.length
        · have hx : xs[j]? = some xs[j] := List.getElem?_eq_getElem hjn
          generalize xs[j] = x at hx
          obtain ⟨u1, _, at1, r1⟩ := unhide HC1 j x hx
          obtain ⟨u2, _, at2, r2⟩ := unhide HC2 j x hx
          have i1 : (0 : Int) ≤ (j : Int) := by omega
          have i2 : (j : Int) < (xs.length : Int) := by omega
          obtain rfl := r1
          obtain rfl := r2
          have k0 := cell_later hb (at1.get (j := 0) rfl)
          have m0 := cell_later hb (at2.get (j := 0) rfl)
          simp only [Nat.add_zero, Nat.mul_one] at k0 m0
          have HB := hide hb
          clear hb at1 at2 HC1 HC2
          go_wp2
          go_quiet (fail)
          go_wp2
          exact ⟨⟨j + 1, by omega, by go_num, bdn (unhide HB)⟩, by simp [intOf]; omega⟩
        · obtain rfl : j = xs.length := by omega
          have HB := hide hb
          clear hb HC1 HC2
          go_wp2
          exact bodyPost_ret (v := .bool true) (by simp [results, Try.results26, go_sem]) rfl ⟨rfl, unhide HB⟩
theorem eqStringS0 (a1 a2 : Option Addr) (c1 c2 : Nat) (w : World) : Calls Try.prog 27 #[.slice a1 0 c1, .slice a2 0 c2] w fun e w' => e = .returned (.bool true) ∧ Below w.heap.size w w' := by
  go_enter Try.func27, Try.ntmps27
  go_wp2
  go_loopw [5] (fun i wr => i = .int .i64 0 ∧ Below w.heap.size w wr) (fun i wr => 0)
  case atStart => exact ⟨rfl, brf _⟩
  case round =>
    obtain ⟨rfl, hb⟩ := hrel
    have HB := hide hb
    clear hb
    go_wp2
    exact bodyPost_ret (v := .bool true) (by simp [results, Try.results27, go_sem]) rfl ⟨rfl, unhide HB⟩
set_option maxHeartbeats 1600000 in
theorem eqStringS_of (xs : List ByteArray) (v1 v2 : Value) (w : World) (h1 : RS 1 RStr w 0 xs v1) (h2 : RS 1 RStr w 0 xs v2) :
    Calls Try.prog 27 #[v1, v2] w fun e w' => e = .returned (.bool true) ∧ Below w.heap.size w w' := by
  rcases h1.open with ⟨rfl, a1, c1, rfl⟩ | ⟨b1, o1, c1, rfl, _, hn, _, hc1⟩
  · obtain ⟨a2, c2, rfl⟩ := h2.slice
    exact eqStringS0 _ _ _ _ w
  · rcases h2.open with ⟨rfl, a2, c2, rfl⟩ | ⟨b2, o2, c2, rfl, _, _, _, hc2⟩
    · exact eqStringS0 _ _ _ _ w
    · unfold maxLen at hn
      have HC1 := hide hc1
      have HC2 := hide hc2
      clear hc1 hc2 h1 h2
      go_enter Try.func27, Try.ntmps27
      go_wp2
      go_loopw [5] (fun i wr => ∃ j : Nat, j ≤ xs.length ∧ i = .int .i64 j ∧ Below w.heap.size w wr) (fun i wr => xs.length - (intOf i).toNat)
      case atStart => exact ⟨0, Nat.zero_le _, rfl, brf _⟩
      case round =>
        obtain ⟨j, hj, rfl, hb⟩ := hrel
        by_cases hjn : j < xs.length
        · have hx : xs[j]? = some xs[j] := List.getElem?_eq_getElem hjn
          generalize xs[j] = x at hx
          obtain ⟨u1, _, at1, r1⟩ := unhide HC1 j x hx
          obtain ⟨u2, _, at2, r2⟩ := unhide HC2 j x hx
          have i1 : (0 : Int) ≤ (j : Int) := by omega
          have i2 : (j : Int) < (xs.length : Int) := by omega
          obtain ⟨rfl, _⟩ := r1
          obtain ⟨rfl, _⟩ := r2
          have k0 := cell_later hb (at1.get (j := 0) rfl)
          have m0 := cell_later hb (at2.get (j := 0) rfl)
          simp only [Nat.add_zero, Nat.mul_one] at k0 m0
          have HB := hide hb
          clear hb at1 at2 HC1 HC2
          go_wp2
          go_quiet (fail)
          go_wp2
          exact ⟨⟨j + 1, by omega, by go_num, bdn (unhide HB)⟩, by simp [intOf]; omega⟩
        · obtain rfl : j = xs.length := by omega
          have HB := hide hb
          clear hb HC1 HC2
          go_wp2
          exact bodyPost_ret (v := .bool true) (by simp [results, Try.results27, go_sem]) rfl ⟨rfl, unhide HB⟩
set_option maxHeartbeats 1600000 in
theorem eqCode_of (x : Code) (u1 u2 : List Value) (w : World) (h1 : RCode w 0 x u1) (h2 : RCode w 0 x u2) :
    Calls Try.prog 8 #[.agg u1.toArray, .agg u2.toArray] w fun e w' => e = .returned (.bool true) ∧ Below w.heap.size w w' := by
  obtain ⟨p1, p2, p4, p5, p6, p7, p8, rfl, rp1, rp2, rp4, rp5, rp6, rp7, rp8⟩ := h1
  obtain ⟨q1, q2, q4, q5, q6, q7, q8, rfl, rq1, rq2, rq4, rq5, rq6, rq7, rq8⟩ := h2
  have S1 := hide (fun (W : World) (hb : Below w.heap.size w W) => eqInstrS_of x.instrs p1 q1 W (rp1.later RInstr.keeps hb) (rq1.later RInstr.keeps hb))
  obtain ⟨a1, c1, rfl⟩ := rp1.slice
  obtain ⟨d1, e1, rfl⟩ := rq1.slice
  have S2 := hide (fun (W : World) (hb : Below w.heap.size w W) => eqIntS_of x.ins p2 q2 W (rp2.later RInt.keeps hb) (rq2.later RInt.keeps hb))
  obtain ⟨a2, c2, rfl⟩ := rp2.slice
  obtain ⟨d2, e2, rfl⟩ := rq2.slice
  have S4 := hide (fun (W : World) (hb : Below w.heap.size w W) => eqStringS_of x.inits p4 q4 W (rp4.later RStr.keeps hb) (rq4.later RStr.keeps hb))
  obtain ⟨a4, c4, rfl⟩ := rp4.slice
  obtain ⟨d4, e4, rfl⟩ := rq4.slice
  have S5 := hide (fun (W : World) (hb : Below w.heap.size w W) => eqIntS_of x.ticks p5 q5 W (rp5.later RInt.keeps hb) (rq5.later RInt.keeps hb))
  obtain ⟨a5, c5, rfl⟩ := rp5.slice
  obtain ⟨d5, e5, rfl⟩ := rq5.slice
  have S6 := hide (fun (W : World) (hb : Below w.heap.size w W) => eqIntS_of x.nexts p6 q6 W (rp6.later RInt.keeps hb) (rq6.later RInt.keeps hb))
  obtain ⟨a6, c6, rfl⟩ := rp6.slice
  obtain ⟨d6, e6, rfl⟩ := rq6.slice
  have S7 := hide (fun (W : World) (hb : Below w.heap.size w W) => eqIntS_of x.outs p7 q7 W (rp7.later RInt.keeps hb) (rq7.later RInt.keeps hb))
  obtain ⟨a7, c7, rfl⟩ := rp7.slice
  obtain ⟨d7, e7, rfl⟩ := rq7.slice
  have S8 := hide (fun (W : World) (hb : Below w.heap.size w W) => eqIntS_of x.checks p8 q8 W (rp8.later RInt.keeps hb) (rq8.later RInt.keeps hb))
  obtain ⟨a8, c8, rfl⟩ := rp8.slice
  obtain ⟨d8, e8, rfl⟩ := rq8.slice
  clear rp1 rq1 rp2 rq2 rp4 rq4 rp5 rq5 rp6 rq6 rp7 rq7 rp8 rq8
  have Y2 : Hid (∀ t s, ((w.alloc (.cells #[.int .i64 x.slots, .slice a1 x.instrs.length c1, .slice a2 x.ins.length c2, .int .i64 x.clocks, .slice a4 x.inits.length c4, .slice a5 x.ticks.length c5, .slice a6 x.nexts.length c6, .slice a7 x.outs.length c7, .slice a8 x.checks.length c8] t)).alloc (.cells #[.int .i64 x.slots, .slice d1 x.instrs.length e1, .slice d2 x.ins.length e2, .int .i64 x.clocks, .slice d4 x.inits.length e4, .slice d5 x.ticks.length e5, .slice d6 x.nexts.length e6, .slice d7 x.outs.length e7, .slice d8 x.checks.length e8] s)).cell? ⟨w.heap.size, 2, none⟩ = some (.slice a2 x.ins.length c2)) := hide (fun t s => cell_later (bal (brf _) _) (by rw [World.cell?_alloc_new]; rfl))
  have Z2 : Hid (∀ t s, ((w.alloc (.cells #[.int .i64 x.slots, .slice a1 x.instrs.length c1, .slice a2 x.ins.length c2, .int .i64 x.clocks, .slice a4 x.inits.length c4, .slice a5 x.ticks.length c5, .slice a6 x.nexts.length c6, .slice a7 x.outs.length c7, .slice a8 x.checks.length c8] t)).alloc (.cells #[.int .i64 x.slots, .slice d1 x.instrs.length e1, .slice d2 x.ins.length e2, .int .i64 x.clocks, .slice d4 x.inits.length e4, .slice d5 x.ticks.length e5, .slice d6 x.nexts.length e6, .slice d7 x.outs.length e7, .slice d8 x.checks.length e8] s)).cell? ⟨w.heap.size + 1, 2, none⟩ = some (.slice d2 x.ins.length e2)) := hide (fun t s => by simp)
  have Y3 : Hid (∀ t s, ((w.alloc (.cells #[.int .i64 x.slots, .slice a1 x.instrs.length c1, .slice a2 x.ins.length c2, .int .i64 x.clocks, .slice a4 x.inits.length c4, .slice a5 x.ticks.length c5, .slice a6 x.nexts.length c6, .slice a7 x.outs.length c7, .slice a8 x.checks.length c8] t)).alloc (.cells #[.int .i64 x.slots, .slice d1 x.instrs.length e1, .slice d2 x.ins.length e2, .int .i64 x.clocks, .slice d4 x.inits.length e4, .slice d5 x.ticks.length e5, .slice d6 x.nexts.length e6, .slice d7 x.outs.length e7, .slice d8 x.checks.length e8] s)).cell? ⟨w.heap.size, 3, none⟩ = some (.int .i64 x.clocks)) := hide (fun t s => cell_later (bal (brf _) _) (by rw [World.cell?_alloc_new]; rfl))
  have Z3 : Hid (∀ t s, ((w.alloc (.cells #[.int .i64 x.slots, .slice a1 x.instrs.length c1, .slice a2 x.ins.length c2, .int .i64 x.clocks, .slice a4 x.inits.length c4, .slice a5 x.ticks.length c5, .slice a6 x.nexts.length c6, .slice a7 x.outs.length c7, .slice a8 x.checks.length c8] t)).alloc (.cells #[.int .i64 x.slots, .slice d1 x.instrs.length e1, .slice d2 x.ins.length e2, .int .i64 x.clocks, .slice d4 x.inits.length e4, .slice d5 x.ticks.length e5, .slice d6 x.nexts.length e6, .slice d7 x.outs.length e7, .slice d8 x.checks.length e8] s)).cell? ⟨w.heap.size + 1, 3, none⟩ = some (.int .i64 x.clocks)) := hide (fun t s => by simp)
  have Y4 : Hid (∀ t s, ((w.alloc (.cells #[.int .i64 x.slots, .slice a1 x.instrs.length c1, .slice a2 x.ins.length c2, .int .i64 x.clocks, .slice a4 x.inits.length c4, .slice a5 x.ticks.length c5, .slice a6 x.nexts.length c6, .slice a7 x.outs.length c7, .slice a8 x.checks.length c8] t)).alloc (.cells #[.int .i64 x.slots, .slice d1 x.instrs.length e1, .slice d2 x.ins.length e2, .int .i64 x.clocks, .slice d4 x.inits.length e4, .slice d5 x.ticks.length e5, .slice d6 x.nexts.length e6, .slice d7 x.outs.length e7, .slice d8 x.checks.length e8] s)).cell? ⟨w.heap.size, 4, none⟩ = some (.slice a4 x.inits.length c4)) := hide (fun t s => cell_later (bal (brf _) _) (by rw [World.cell?_alloc_new]; rfl))
  have Z4 : Hid (∀ t s, ((w.alloc (.cells #[.int .i64 x.slots, .slice a1 x.instrs.length c1, .slice a2 x.ins.length c2, .int .i64 x.clocks, .slice a4 x.inits.length c4, .slice a5 x.ticks.length c5, .slice a6 x.nexts.length c6, .slice a7 x.outs.length c7, .slice a8 x.checks.length c8] t)).alloc (.cells #[.int .i64 x.slots, .slice d1 x.instrs.length e1, .slice d2 x.ins.length e2, .int .i64 x.clocks, .slice d4 x.inits.length e4, .slice d5 x.ticks.length e5, .slice d6 x.nexts.length e6, .slice d7 x.outs.length e7, .slice d8 x.checks.length e8] s)).cell? ⟨w.heap.size + 1, 4, none⟩ = some (.slice d4 x.inits.length e4)) := hide (fun t s => by simp)
  have Y5 : Hid (∀ t s, ((w.alloc (.cells #[.int .i64 x.slots, .slice a1 x.instrs.length c1, .slice a2 x.ins.length c2, .int .i64 x.clocks, .slice a4 x.inits.length c4, .slice a5 x.ticks.length c5, .slice a6 x.nexts.length c6, .slice a7 x.outs.length c7, .slice a8 x.checks.length c8] t)).alloc (.cells #[.int .i64 x.slots, .slice d1 x.instrs.length e1, .slice d2 x.ins.length e2, .int .i64 x.clocks, .slice d4 x.inits.length e4, .slice d5 x.ticks.length e5, .slice d6 x.nexts.length e6, .slice d7 x.outs.length e7, .slice d8 x.checks.length e8] s)).cell? ⟨w.heap.size, 5, none⟩ = some (.slice a5 x.ticks.length c5)) := hide (fun t s => cell_later (bal (brf _) _) (by rw [World.cell?_alloc_new]; rfl))
  have Z5 : Hid (∀ t s, ((w.alloc (.cells #[.int .i64 x.slots, .slice a1 x.instrs.length c1, .slice a2 x.ins.length c2, .int .i64 x.clocks, .slice a4 x.inits.length c4, .slice a5 x.ticks.length c5, .slice a6 x.nexts.length c6, .slice a7 x.outs.length c7, .slice a8 x.checks.length c8] t)).alloc (.cells #[.int .i64 x.slots, .slice d1 x.instrs.length e1, .slice d2 x.ins.length e2, .int .i64 x.clocks, .slice d4 x.inits.length e4, .slice d5 x.ticks.length e5, .slice d6 x.nexts.length e6, .slice d7 x.outs.length e7, .slice d8 x.checks.length e8] s)).cell? ⟨w.heap.size + 1, 5, none⟩ = some (.slice d5 x.ticks.length e5)) := hide (fun t s => by simp)
  have Y6 : Hid (∀ t s, ((w.alloc (.cells #[.int .i64 x.slots, .slice a1 x.instrs.length c1, .slice a2 x.ins.length c2, .int .i64 x.clocks, .slice a4 x.inits.length c4, .slice a5 x.ticks.length c5, .slice a6 x.nexts.length c6, .slice a7 x.outs.length c7, .slice a8 x.checks.length c8] t)).alloc (.cells #[.int .i64 x.slots, .slice d1 x.instrs.length e1, .slice d2 x.ins.length e2, .int .i64 x.clocks, .slice d4 x.inits.length e4, .slice d5 x.ticks.length e5, .slice d6 x.nexts.length e6, .slice d7 x.outs.length e7, .slice d8 x.checks.length e8] s)).cell? ⟨w.heap.size, 6, none⟩ = some (.slice a6 x.nexts.length c6)) := hide (fun t s => cell_later (bal (brf _) _) (by rw [World.cell?_alloc_new]; rfl))
  have Z6 : Hid (∀ t s, ((w.alloc (.cells #[.int .i64 x.slots, .slice a1 x.instrs.length c1, .slice a2 x.ins.length c2, .int .i64 x.clocks, .slice a4 x.inits.length c4, .slice a5 x.ticks.length c5, .slice a6 x.nexts.length c6, .slice a7 x.outs.length c7, .slice a8 x.checks.length c8] t)).alloc (.cells #[.int .i64 x.slots, .slice d1 x.instrs.length e1, .slice d2 x.ins.length e2, .int .i64 x.clocks, .slice d4 x.inits.length e4, .slice d5 x.ticks.length e5, .slice d6 x.nexts.length e6, .slice d7 x.outs.length e7, .slice d8 x.checks.length e8] s)).cell? ⟨w.heap.size + 1, 6, none⟩ = some (.slice d6 x.nexts.length e6)) := hide (fun t s => by simp)
  have Y7 : Hid (∀ t s, ((w.alloc (.cells #[.int .i64 x.slots, .slice a1 x.instrs.length c1, .slice a2 x.ins.length c2, .int .i64 x.clocks, .slice a4 x.inits.length c4, .slice a5 x.ticks.length c5, .slice a6 x.nexts.length c6, .slice a7 x.outs.length c7, .slice a8 x.checks.length c8] t)).alloc (.cells #[.int .i64 x.slots, .slice d1 x.instrs.length e1, .slice d2 x.ins.length e2, .int .i64 x.clocks, .slice d4 x.inits.length e4, .slice d5 x.ticks.length e5, .slice d6 x.nexts.length e6, .slice d7 x.outs.length e7, .slice d8 x.checks.length e8] s)).cell? ⟨w.heap.size, 7, none⟩ = some (.slice a7 x.outs.length c7)) := hide (fun t s => cell_later (bal (brf _) _) (by rw [World.cell?_alloc_new]; rfl))
  have Z7 : Hid (∀ t s, ((w.alloc (.cells #[.int .i64 x.slots, .slice a1 x.instrs.length c1, .slice a2 x.ins.length c2, .int .i64 x.clocks, .slice a4 x.inits.length c4, .slice a5 x.ticks.length c5, .slice a6 x.nexts.length c6, .slice a7 x.outs.length c7, .slice a8 x.checks.length c8] t)).alloc (.cells #[.int .i64 x.slots, .slice d1 x.instrs.length e1, .slice d2 x.ins.length e2, .int .i64 x.clocks, .slice d4 x.inits.length e4, .slice d5 x.ticks.length e5, .slice d6 x.nexts.length e6, .slice d7 x.outs.length e7, .slice d8 x.checks.length e8] s)).cell? ⟨w.heap.size + 1, 7, none⟩ = some (.slice d7 x.outs.length e7)) := hide (fun t s => by simp)
  have Y8 : Hid (∀ t s, ((w.alloc (.cells #[.int .i64 x.slots, .slice a1 x.instrs.length c1, .slice a2 x.ins.length c2, .int .i64 x.clocks, .slice a4 x.inits.length c4, .slice a5 x.ticks.length c5, .slice a6 x.nexts.length c6, .slice a7 x.outs.length c7, .slice a8 x.checks.length c8] t)).alloc (.cells #[.int .i64 x.slots, .slice d1 x.instrs.length e1, .slice d2 x.ins.length e2, .int .i64 x.clocks, .slice d4 x.inits.length e4, .slice d5 x.ticks.length e5, .slice d6 x.nexts.length e6, .slice d7 x.outs.length e7, .slice d8 x.checks.length e8] s)).cell? ⟨w.heap.size, 8, none⟩ = some (.slice a8 x.checks.length c8)) := hide (fun t s => cell_later (bal (brf _) _) (by rw [World.cell?_alloc_new]; rfl))
  have Z8 : Hid (∀ t s, ((w.alloc (.cells #[.int .i64 x.slots, .slice a1 x.instrs.length c1, .slice a2 x.ins.length c2, .int .i64 x.clocks, .slice a4 x.inits.length c4, .slice a5 x.ticks.length c5, .slice a6 x.nexts.length c6, .slice a7 x.outs.length c7, .slice a8 x.checks.length c8] t)).alloc (.cells #[.int .i64 x.slots, .slice d1 x.instrs.length e1, .slice d2 x.ins.length e2, .int .i64 x.clocks, .slice d4 x.inits.length e4, .slice d5 x.ticks.length e5, .slice d6 x.nexts.length e6, .slice d7 x.outs.length e7, .slice d8 x.checks.length e8] s)).cell? ⟨w.heap.size + 1, 8, none⟩ = some (.slice d8 x.checks.length e8)) := hide (fun t s => by simp)
  generalize x.slots = z0 at *
  generalize x.clocks = z3 at *
  go_enter Try.func8, Try.ntmps8
  go_wp2_with (first | (have hq7 := hB6; go_at_call 26; refine (unhide S8 _ hB6).mono ?_; rintro e W7 ⟨rfl, hb7⟩; have hB7 := btr hB6 hb7) | (have hq6 := hB5; go_at_call 26; refine (unhide S7 _ hB5).mono ?_; rintro e W6 ⟨rfl, hb6⟩; have hB6 := btr hB5 hb6; have y6_8 := cell_later hb6 y5_8; have z6_8 := cell_later hb6 z5_8) | (have hq5 := hB4; go_at_call 26; refine (unhide S6 _ hB4).mono ?_; rintro e W5 ⟨rfl, hb5⟩; have hB5 := btr hB4 hb5; have y5_7 := cell_later hb5 y4_7; have z5_7 := cell_later hb5 z4_7; have y5_8 := cell_later hb5 y4_8; have z5_8 := cell_later hb5 z4_8) | (have hq4 := hB3; go_at_call 26; refine (unhide S5 _ hB3).mono ?_; rintro e W4 ⟨rfl, hb4⟩; have hB4 := btr hB3 hb4; have y4_6 := cell_later hb4 y3_6; have z4_6 := cell_later hb4 z3_6; have y4_7 := cell_later hb4 y3_7; have z4_7 := cell_later hb4 z3_7; have y4_8 := cell_later hb4 y3_8; have z4_8 := cell_later hb4 z3_8) | (have hq3 := hB2; go_at_call 27; refine (unhide S4 _ hB2).mono ?_; rintro e W3 ⟨rfl, hb3⟩; have hB3 := btr hB2 hb3; have y3_5 := cell_later hb3 y2_5; have z3_5 := cell_later hb3 z2_5; have y3_6 := cell_later hb3 y2_6; have z3_6 := cell_later hb3 z2_6; have y3_7 := cell_later hb3 y2_7; have z3_7 := cell_later hb3 z2_7; have y3_8 := cell_later hb3 y2_8; have z3_8 := cell_later hb3 z2_8) | (have hq2 := hB1; go_at_call 26; refine (unhide S2 _ hB1).mono ?_; rintro e W2 ⟨rfl, hb2⟩; have hB2 := btr hB1 hb2; have y2_3 := cell_later hb2 y1_3; have z2_3 := cell_later hb2 z1_3; have y2_4 := cell_later hb2 y1_4; have z2_4 := cell_later hb2 z1_4; have y2_5 := cell_later hb2 y1_5; have z2_5 := cell_later hb2 z1_5; have y2_6 := cell_later hb2 y1_6; have z2_6 := cell_later hb2 z1_6; have y2_7 := cell_later hb2 y1_7; have z2_7 := cell_later hb2 z1_7; have y2_8 := cell_later hb2 y1_8; have z2_8 := cell_later hb2 z1_8) | (go_at_call 25; refine (unhide S1 _ (bal (bal (brf w) _) _)).mono ?_; rintro e W1 ⟨rfl, hb1⟩; have hB1 := btr (bal (bal (brf w) _) _) hb1; have y1_2 := cell_later hb1 (unhide Y2 _ _); have z1_2 := cell_later hb1 (unhide Z2 _ _); have y1_3 := cell_later hb1 (unhide Y3 _ _); have z1_3 := cell_later hb1 (unhide Z3 _ _); have y1_4 := cell_later hb1 (unhide Y4 _ _); have z1_4 := cell_later hb1 (unhide Z4 _ _); have y1_5 := cell_later hb1 (unhide Y5 _ _); have z1_5 := cell_later hb1 (unhide Z5 _ _); have y1_6 := cell_later hb1 (unhide Y6 _ _); have z1_6 := cell_later hb1 (unhide Z6 _ _); have y1_7 := cell_later hb1 (unhide Y7 _ _); have z1_7 := cell_later hb1 (unhide Z7 _ _); have y1_8 := cell_later hb1 (unhide Y8 _ _); have z1_8 := cell_later hb1 (unhide Z8 _ _)))
  exact bodyPost_ret (v := .bool true) (by simp [results, Try.results8, go_sem]) rfl ⟨rfl, hB7⟩
end Go.Proofs.Ytbpcomnneemolaa
