/- Plain data: structures and how they are read out of cells. -/
import Derived.Test.YtlldfaniddbjaaaGreatDoorGGS2
import Derived.Test.YtlldfaniddbjaaaGreatDoorGBits
import Derived.Test.YtlldfaniddbjaaaGreatDoorGHD
import Derived.Test.YtlldfaniddbjaaaGreatDoorDS
import Derived.Test.YtlldfaniddbjaaaGreatDoorDE
import Derived.Deep.RegionHeld3
import Derived.BigQuiet
import Derived.Test.YtlldfaniddbjaaaGreatDoorDT
import Derived.Test.YtlldfaniddbjaaaGreatDoorRT14
namespace Go.Proofs.YtlldfaniddbjaaaGreatDoor
open Go.RowKit Gs
set_option linter.unusedVariables false
set_option maxRecDepth 100000
structure Chip where
  wide : Int
  high : Int
  tracks : Int
  pads : Int
def RChip : Rd Chip := fun W B x u => u = [.int .i64 x.wide, .int .i64 x.high, .int .i64 x.tracks, .int .i64 x.pads]
theorem RChip.keeps : Keeps RChip := by
  rintro W W' B x u h hu
  exact hu
theorem RChip.lowers : Lowers RChip := by
  rintro W B B' x u h hu
  exact hu
def szChip (x : Chip) : Nat := 0
end Go.Proofs.YtlldfaniddbjaaaGreatDoor
namespace Go.Proofs.YtlldfaniddbjaaaGreatDoor
open Go.RowKit Gs
set_option linter.unusedVariables false
set_option maxRecDepth 100000
set_option maxHeartbeats 800000 in
theorem szHopS_of (xs : List Hop) (v : Value) (w : World) (left : Nat) (hl : left ≤ 1048576) (hr : RS 5 RHop w 0 xs v) :
    Calls Tryz.prog 18 #[v, .int .i64 left] w fun e w' => e = .returned (.int .i64 (szR (szL szHop xs) left)) ∧ Below w.heap.size w w' := by
  have hsm := szL_sm szHop xs
  have h0 : sm szHop xs = 0 := sm_zero xs
  obtain ⟨a, c, rfl⟩ := hr.slice
  have hn := hr.len
  unfold maxLen at hn
  clear hr
  by_cases hbig : left < xs.length
  · rw [szR_lt (by omega)]
    have q : (left : Int) - (xs.length : Int) < 0 := by omega
    go_enter Tryz.func18, Tryz.ntmps18
    go_wp2
    exact bodyPost_ret (v := .int .i64 (-1)) (by simp [results, Tryz.results18, go_sem]) rfl ⟨rfl, brf _⟩
  · rw [szR_le (by omega)]
    obtain ⟨m, hm⟩ : ∃ m, m + xs.length = left := ⟨left - xs.length, by omega⟩
    have e1 : left - szL szHop xs = m := by omega
    have q : (left : Int) - (xs.length : Int) = (m : Int) := by omega
    rw [e1]
    clear e1 hsm h0
    go_enter Tryz.func18, Tryz.ntmps18
    go_wp2
    exact bodyPost_ret (v := .int .i64 (m : Nat)) (by simp [results, Tryz.results18, go_sem]) rfl ⟨rfl, brf _⟩
set_option maxHeartbeats 800000 in
theorem szHopSS_of (xs : List (List Hop)) (v : Value) (w : World) (left : Nat) (hl : left ≤ 1048576) (hr : RS 1 RHopS w 0 xs v) :
    Calls Tryz.prog 5 #[v, .int .i64 left] w fun e w' => e = .returned (.int .i64 (szR (szL szHopS xs) left)) ∧ Below w.heap.size w w' := by
  have hsm := szL_sm szHopS xs
  rcases hr.open with ⟨rfl, a, c, rfl⟩ | ⟨b, o, c, rfl, hc, hn, _, hcs⟩
  · have e0 : szR (szL szHopS []) left = (left : Int) := by show szR 0 left = _; rw [szR_le (Nat.zero_le _)]; rfl
    rw [e0]
    clear hsm hr e0
    go_enter Tryz.func5, Tryz.ntmps5
    go_wp2
    go_loop [1, 5] (fun l i => l = .int .i64 left ∧ i = .int .i64 0) (fun _ _ => 0)
    case atStart => exact ⟨rfl, rfl⟩
    case round =>
      obtain ⟨rfl, rfl⟩ := hrel
      go_wp2
      exact bodyPost_ret (v := .int .i64 (left : Nat)) (by simp [results, Tryz.results5, go_sem]) rfl ⟨rfl, brf _⟩
  · unfold maxLen at hn
    by_cases hbig : left < xs.length
    · rw [szR_lt (by omega)]
      have q : (left : Int) - (xs.length : Int) < 0 := by omega
      clear hcs hr
      go_enter Tryz.func5, Tryz.ntmps5
      go_wp2
      exact bodyPost_ret (v := .int .i64 (-1)) (by simp [results, Tryz.results5, go_sem]) rfl ⟨rfl, brf _⟩
    · have HC := hide hcs
      clear hcs hr
      go_enter Tryz.func5, Tryz.ntmps5
      go_wp2
      go_loopw [1, 5] (fun l i wr => ∃ (j m : Nat), j ≤ xs.length ∧ i = .int .i64 j ∧ l = .int .i64 m ∧ m + xs.length + sm szHopS (xs.take j) = left ∧ Below w.heap.size w wr) (fun l i wr => xs.length - (intOf i).toNat)
      case atStart => exact ⟨0, left - xs.length, Nat.zero_le _, rfl, by congr 1; omega, by simp [sm]; omega, brf _⟩
      case round =>
        obtain ⟨j, m, hj, rfl, rfl, hm, hb⟩ := hrel
        by_cases hjn : j < xs.length
        · have hx : xs[j]? = some xs[j] := List.getElem?_eq_getElem hjn
          generalize xs[j] = x at hx
          obtain ⟨u, hul, hat, hrx⟩ := unhide HC j x hx
          have st := sm_take (f := szHopS) hx
          have sl := sm_le (f := szHopS) (xs := xs) (j + 1)
          obtain ⟨ve, rfl, hve⟩ := hrx
          have PX := hide (szHopS_of x ve wr m (by omega) (hve.later RHop.keeps hb))
          obtain ⟨ae, ce, rfl⟩ := hve.slice
          have k0 := cell_later hb (hat.get (j := 0) rfl)
          simp only [Nat.add_zero, Nat.mul_one] at k0
          have HB := hide hb
          have hdf : szHopS x = szL szHop x := rfl
          clear hb hat hul HC hve
          by_cases hfit : szHopS x ≤ m
          · rw [szR_le (by omega)] at PX
            have q1 : ¬ (((m - szL szHop x : Nat) : Int) < 0) := by omega
            generalize hd : m - szL szHop x = d at *
            go_wp2_with (go_at_call 18; refine (unhide PX).mono ?_; rintro e v1 ⟨rfl, hb1⟩)
            exact ⟨⟨j + 1, d, by omega, by go_num, rfl, by omega, below_step (unhide HB) hb1⟩, by simp [intOf]; omega⟩
          · rw [szR_lt (by omega)] at PX
            have HF : Hid (szR (szL szHopS xs) left = -1) := hide (szR_lt (by omega))
            go_wp2_with (go_at_call 18; refine (unhide PX).mono ?_; rintro e v1 ⟨rfl, hb1⟩)
            exact bodyPost_ret (v := .int .i64 (-1)) (by simp [results, Tryz.results5, go_sem]) rfl ⟨by rw [unhide HF], below_step (unhide HB) hb1⟩
        · obtain rfl : j = xs.length := by omega
          rw [List.take_length] at hm
          have HF : Hid (szR (szL szHopS xs) left = (m : Int)) := hide (by rw [szR_le (by omega)]; omega)
          have HB := hide hb
          clear hb HC
          go_wp2
          exact bodyPost_ret (v := .int .i64 (m : Nat)) (by simp [results, Tryz.results5, go_sem]) rfl ⟨by rw [unhide HF], unhide HB⟩
end Go.Proofs.YtlldfaniddbjaaaGreatDoor
namespace Go.Proofs.YtlldfaniddbjaaaGreatDoor
open Go.RowKit Gs
set_option linter.unusedVariables false
set_option maxRecDepth 100000
theorem keepE1 {W V v1 : World} {a0 a1 : Addr} {x0 x1 : Value} (h : V.cell? a0 = some x0 ∧ V.cell? a1 = some x1 ∧ Below W.heap.size W V) (hb : Below V.heap.size V v1) : v1.cell? a0 = some x0 ∧ v1.cell? a1 = some x1 ∧ Below W.heap.size W v1 :=
  ⟨cell_later hb h.1, cell_later hb h.2.1, btr h.2.2 hb⟩
theorem belowE1 {W V : World} {a0 a1 : Addr} {x0 x1 : Value} (h : V.cell? a0 = some x0 ∧ V.cell? a1 = some x1 ∧ Below W.heap.size W V) : Below W.heap.size W V := h.2.2
theorem keepE5 {W V v1 : World} {a0 a1 a2 a3 a4 a5 a6 a7 a8 a9 : Addr} {x0 x1 x2 x3 x4 x5 x6 x7 x8 x9 : Value} (h : V.cell? a0 = some x0 ∧ V.cell? a1 = some x1 ∧ V.cell? a2 = some x2 ∧ V.cell? a3 = some x3 ∧ V.cell? a4 = some x4 ∧ V.cell? a5 = some x5 ∧ V.cell? a6 = some x6 ∧ V.cell? a7 = some x7 ∧ V.cell? a8 = some x8 ∧ V.cell? a9 = some x9 ∧ Below W.heap.size W V) (hb : Below V.heap.size V v1) : v1.cell? a0 = some x0 ∧ v1.cell? a1 = some x1 ∧ v1.cell? a2 = some x2 ∧ v1.cell? a3 = some x3 ∧ v1.cell? a4 = some x4 ∧ v1.cell? a5 = some x5 ∧ v1.cell? a6 = some x6 ∧ v1.cell? a7 = some x7 ∧ v1.cell? a8 = some x8 ∧ v1.cell? a9 = some x9 ∧ Below W.heap.size W v1 :=
  ⟨cell_later hb h.1, cell_later hb h.2.1, cell_later hb h.2.2.1, cell_later hb h.2.2.2.1, cell_later hb h.2.2.2.2.1, cell_later hb h.2.2.2.2.2.1, cell_later hb h.2.2.2.2.2.2.1, cell_later hb h.2.2.2.2.2.2.2.1, cell_later hb h.2.2.2.2.2.2.2.2.1, cell_later hb h.2.2.2.2.2.2.2.2.2.1, btr h.2.2.2.2.2.2.2.2.2.2 hb⟩
theorem belowE5 {W V : World} {a0 a1 a2 a3 a4 a5 a6 a7 a8 a9 : Addr} {x0 x1 x2 x3 x4 x5 x6 x7 x8 x9 : Value} (h : V.cell? a0 = some x0 ∧ V.cell? a1 = some x1 ∧ V.cell? a2 = some x2 ∧ V.cell? a3 = some x3 ∧ V.cell? a4 = some x4 ∧ V.cell? a5 = some x5 ∧ V.cell? a6 = some x6 ∧ V.cell? a7 = some x7 ∧ V.cell? a8 = some x8 ∧ V.cell? a9 = some x9 ∧ Below W.heap.size W V) : Below W.heap.size W V := h.2.2.2.2.2.2.2.2.2.2
set_option maxHeartbeats 1600000 in
theorem eqHop_of (x : Hop) (u1 u2 : List Value) (w : World) (h1 : RHop w 0 x u1) (h2 : RHop w 0 x u2) :
    Calls Tryz.prog 77 #[.agg u1.toArray, .agg u2.toArray] w fun e w' => e = .returned (.bool true) ∧ Below w.heap.size w w' := by
  obtain ⟨rfl⟩ := h1
  obtain ⟨rfl⟩ := h2
  generalize x.x = z0 at *
  generalize x.y = z1 at *
  generalize x.d = z2 at *
  generalize x.t = z3 at *
  generalize x.f = z4 at *
  go_enter Tryz.func77, Tryz.ntmps77
  go_wp2
  exact bodyPost_ret (v := .bool true) (by simp [results, Tryz.results77, go_sem]) rfl ⟨rfl, bal (bal (brf w) _) _⟩
theorem eqHopS0 (a1 a2 : Option Addr) (c1 c2 : Nat) (w : World) : Calls Tryz.prog 41 #[.slice a1 0 c1, .slice a2 0 c2] w fun e w' => e = .returned (.bool true) ∧ Below w.heap.size w w' := by
  go_enter Tryz.func41, Tryz.ntmps41
  go_wp2
  go_loopw [5] (fun i wr => i = .int .i64 0 ∧ Below w.heap.size w wr) (fun i wr => 0)
  case atStart => exact ⟨rfl, brf _⟩
  case round =>
    obtain ⟨rfl, hb⟩ := hrel
    have HB := hide hb
    clear hb
    go_wp2
    exact bodyPost_ret (v := .bool true) (by simp [results, Tryz.results41, go_sem]) rfl ⟨rfl, unhide HB⟩
set_option maxHeartbeats 1600000 in
theorem eqHopS_of (xs : List Hop) (v1 v2 : Value) (w : World) (h1 : RS 5 RHop w 0 xs v1) (h2 : RS 5 RHop w 0 xs v2) :
    Calls Tryz.prog 41 #[v1, v2] w fun e w' => e = .returned (.bool true) ∧ Below w.heap.size w w' := by
  rcases h1.open with ⟨rfl, a1, c1, rfl⟩ | ⟨b1, o1, c1, rfl, _, hn, _, hc1⟩
  · obtain ⟨a2, c2, rfl⟩ := h2.slice
    exact eqHopS0 _ _ _ _ w
  · rcases h2.open with ⟨rfl, a2, c2, rfl⟩ | ⟨b2, o2, c2, rfl, _, _, _, hc2⟩
    · exact eqHopS0 _ _ _ _ w
    · unfold maxLen at hn
      have HC1 := hide hc1
      have HC2 := hide hc2
      clear hc1 hc2 h1 h2
      go_enter Tryz.func41, Tryz.ntmps41
      go_wp2
      go_loopw [5] (fun i wr => ∃ j : Nat, j ≤ xs.length ∧ i = .int .i64 j ∧ Below w.heap.size w wr) (fun i wr => xs.length - (intOf i).toNat)
      case atStart => exact ⟨0, Nat.zero_le _, rfl, brf _⟩
      case round =>
        obtain ⟨j, hj, rfl, hb⟩ := hrel
        by_cases hjn : j < xs.length
        · have hx : xs[j]? = some xs[j] := List.getElem?_eq_getElem hjn
          generalize xs[j] = x at hx
          obtain ⟨u1, _, at1, r1⟩ := unhide HC1 j x hx
          obtain ⟨u2, _, at2, r2⟩ := unhide HC2 j x hx
          have i1 : (0 : Int) ≤ (j : Int) := by omega
          have i2 : (j : Int) < (xs.length : Int) := by omega
          have PX := hide (fun (wy : World) (hy : Below wr.heap.size wr wy) => eqHop_of x u1 u2 wy (RHop.keeps _ _ _ _ _ (later_cells (btr hb hy) 0) r1) (RHop.keeps _ _ _ _ _ (later_cells (btr hb hy) 0) r2))
          obtain ⟨rfl⟩ := r1
          obtain ⟨rfl⟩ := r2
          have k0 := cell_later hb (at1.get (j := 0) rfl)
          have m0 := cell_later hb (at2.get (j := 0) rfl)
          have k1 := cell_later hb (at1.get (j := 1) rfl)
          have m1 := cell_later hb (at2.get (j := 1) rfl)
          have k2 := cell_later hb (at1.get (j := 2) rfl)
          have m2 := cell_later hb (at2.get (j := 2) rfl)
          have k3 := cell_later hb (at1.get (j := 3) rfl)
          have m3 := cell_later hb (at2.get (j := 3) rfl)
          have k4 := cell_later hb (at1.get (j := 4) rfl)
          have m4 := cell_later hb (at2.get (j := 4) rfl)
          simp only [Nat.add_zero] at k0 m0
          have HB := hide hb
          clear hb at1 at2 HC1 HC2
          generalize x.x = z0 at *
          generalize x.y = z1 at *
          generalize x.d = z2 at *
          generalize x.t = z3 at *
          generalize x.f = z4 at *
          go_wp2
          go_region_held3 (fun w' => w'.cell? ⟨b1, o1 + j * 5, none⟩ = some (.int .i64 z0) ∧ w'.cell? ⟨b1, o1 + j * 5 + 1, none⟩ = some (.int .i64 z1) ∧ w'.cell? ⟨b1, o1 + j * 5 + 2, none⟩ = some (.int .i64 z2) ∧ w'.cell? ⟨b1, o1 + j * 5 + 3, none⟩ = some (.int .i64 z3) ∧ w'.cell? ⟨b1, o1 + j * 5 + 4, none⟩ = some (.int .i64 z4) ∧ w'.cell? ⟨b2, o2 + j * 5, none⟩ = some (.int .i64 z0) ∧ w'.cell? ⟨b2, o2 + j * 5 + 1, none⟩ = some (.int .i64 z1) ∧ w'.cell? ⟨b2, o2 + j * 5 + 2, none⟩ = some (.int .i64 z2) ∧ w'.cell? ⟨b2, o2 + j * 5 + 3, none⟩ = some (.int .i64 z3) ∧ w'.cell? ⟨b2, o2 + j * 5 + 4, none⟩ = some (.int .i64 z4) ∧ Below wr.heap.size wr w')
            (first | (exact ⟨k0, k1, k2, k3, k4, m0, m1, m2, m3, m4, bdr (brf _)⟩) | (exact keepE5 (by assumption) hb1))
            (first | (go_at_call 77; refine (unhide PX _ (belowE5 (by assumption))).mono ?_; rintro e v1 ⟨rfl, hb1⟩))
          all_goals
            have hSf : v1.cell? ⟨b1, o1 + j * 5, none⟩ = some (.int .i64 z0) ∧ v1.cell? ⟨b1, o1 + j * 5 + 1, none⟩ = some (.int .i64 z1) ∧ v1.cell? ⟨b1, o1 + j * 5 + 2, none⟩ = some (.int .i64 z2) ∧ v1.cell? ⟨b1, o1 + j * 5 + 3, none⟩ = some (.int .i64 z3) ∧ v1.cell? ⟨b1, o1 + j * 5 + 4, none⟩ = some (.int .i64 z4) ∧ v1.cell? ⟨b2, o2 + j * 5, none⟩ = some (.int .i64 z0) ∧ v1.cell? ⟨b2, o2 + j * 5 + 1, none⟩ = some (.int .i64 z1) ∧ v1.cell? ⟨b2, o2 + j * 5 + 2, none⟩ = some (.int .i64 z2) ∧ v1.cell? ⟨b2, o2 + j * 5 + 3, none⟩ = some (.int .i64 z3) ∧ v1.cell? ⟨b2, o2 + j * 5 + 4, none⟩ = some (.int .i64 z4) ∧ Below wr.heap.size wr v1 := by assumption
            have HB2 := hide (btr (unhide HB) (belowE5 hSf))
            clear hSf k0 m0 k1 m1 k2 m2 k3 m3 k4 m4
            go_wp2
            exact ⟨⟨j + 1, by omega, by go_num, unhide HB2⟩, by simp [intOf]; omega⟩
        · obtain rfl : j = xs.length := by omega
          have HB := hide hb
          clear hb HC1 HC2
          go_wp2
          exact bodyPost_ret (v := .bool true) (by simp [results, Tryz.results41, go_sem]) rfl ⟨rfl, unhide HB⟩
theorem eqHopSS0 (a1 a2 : Option Addr) (c1 c2 : Nat) (w : World) : Calls Tryz.prog 14 #[.slice a1 0 c1, .slice a2 0 c2] w fun e w' => e = .returned (.bool true) ∧ Below w.heap.size w w' := by
  go_enter Tryz.func14, Tryz.ntmps14
  go_wp2
  go_loopw [5] (fun i wr => i = .int .i64 0 ∧ Below w.heap.size w wr) (fun i wr => 0)
  case atStart => exact ⟨rfl, brf _⟩
  case round =>
    obtain ⟨rfl, hb⟩ := hrel
    have HB := hide hb
    clear hb
    go_wp2
    exact bodyPost_ret (v := .bool true) (by simp [results, Tryz.results14, go_sem]) rfl ⟨rfl, unhide HB⟩
set_option maxHeartbeats 1600000 in
theorem eqHopSS_of (xs : List (List Hop)) (v1 v2 : Value) (w : World) (h1 : RS 1 RHopS w 0 xs v1) (h2 : RS 1 RHopS w 0 xs v2) :
    Calls Tryz.prog 14 #[v1, v2] w fun e w' => e = .returned (.bool true) ∧ Below w.heap.size w w' := by
  rcases h1.open with ⟨rfl, a1, c1, rfl⟩ | ⟨b1, o1, c1, rfl, _, hn, _, hc1⟩
  · obtain ⟨a2, c2, rfl⟩ := h2.slice
    exact eqHopSS0 _ _ _ _ w
  · rcases h2.open with ⟨rfl, a2, c2, rfl⟩ | ⟨b2, o2, c2, rfl, _, _, _, hc2⟩
    · exact eqHopSS0 _ _ _ _ w
    · unfold maxLen at hn
      have HC1 := hide hc1
      have HC2 := hide hc2
      clear hc1 hc2 h1 h2
      go_enter Tryz.func14, Tryz.ntmps14
      go_wp2
      go_loopw [5] (fun i wr => ∃ j : Nat, j ≤ xs.length ∧ i = .int .i64 j ∧ Below w.heap.size w wr) (fun i wr => xs.length - (intOf i).toNat)
      case atStart => exact ⟨0, Nat.zero_le _, rfl, brf _⟩
      case round =>
        obtain ⟨j, hj, rfl, hb⟩ := hrel
        by_cases hjn : j < xs.length
        · have hx : xs[j]? = some xs[j] := List.getElem?_eq_getElem hjn
          generalize xs[j] = x at hx
          obtain ⟨u1, _, at1, r1⟩ := unhide HC1 j x hx
          obtain ⟨u2, _, at2, r2⟩ := unhide HC2 j x hx
          have i1 : (0 : Int) ≤ (j : Int) := by omega
          have i2 : (j : Int) < (xs.length : Int) := by omega
          obtain ⟨p0, rfl, rp⟩ := r1
          obtain ⟨q0, rfl, rq⟩ := r2
          have PX := hide (fun (wy : World) (hy : Below wr.heap.size wr wy) => eqHopS_of x p0 q0 wy (rp.later RHop.keeps (btr hb hy)) (rq.later RHop.keeps (btr hb hy)))
          obtain ⟨pa, pc, rfl⟩ := rp.slice
          obtain ⟨qa, qc, rfl⟩ := rq.slice
          have k0 := cell_later hb (at1.get (j := 0) rfl)
          have m0 := cell_later hb (at2.get (j := 0) rfl)
          simp only [Nat.add_zero, Nat.mul_one] at k0 m0
          have HB := hide hb
          clear hb at1 at2 HC1 HC2 rp rq
          go_wp2
          go_region_held3 (fun w' => w'.cell? ⟨b1, o1 + j, none⟩ = some (.slice pa x.length pc) ∧ w'.cell? ⟨b2, o2 + j, none⟩ = some (.slice qa x.length qc) ∧ Below wr.heap.size wr w')
            (first | (exact ⟨k0, m0, bdr (brf _)⟩) | (exact keepE1 (by assumption) hb1))
            (first | (go_at_call 41; refine (unhide PX _ (belowE1 (by assumption))).mono ?_; rintro e v1 ⟨rfl, hb1⟩))
          all_goals
            have hSf : v1.cell? ⟨b1, o1 + j, none⟩ = some (.slice pa x.length pc) ∧ v1.cell? ⟨b2, o2 + j, none⟩ = some (.slice qa x.length qc) ∧ Below wr.heap.size wr v1 := by assumption
            have HB2 := hide (btr (unhide HB) (belowE1 hSf))
            clear hSf k0 m0
            go_wp2
            exact ⟨⟨j + 1, by omega, by go_num, unhide HB2⟩, by simp [intOf]; omega⟩
        · obtain rfl : j = xs.length := by omega
          have HB := hide hb
          clear hb HC1 HC2
          go_wp2
          exact bodyPost_ret (v := .bool true) (by simp [results, Tryz.results14, go_sem]) rfl ⟨rfl, unhide HB⟩
end Go.Proofs.YtlldfaniddbjaaaGreatDoor
namespace Go.Proofs.YtlldfaniddbjaaaGreatDoor
open Go.RowKit Gs
set_option linter.unusedVariables false
set_option maxRecDepth 100000
set_option maxHeartbeats 1600000 in
theorem toHop_of (x : Hop) (u : List Value) (w : World) (hl : szHop x ≤ 1048576) (hr : RHop w 0 x u) :
    Calls Tryz.prog 52 #[.agg u.toArray] w fun e w' => (∃ u', e = .returned (.agg u'.toArray) ∧ RHop w' w.heap.size x u') ∧ Below w.heap.size w w' ∧ NF w.heap.size w' := by
  have hsz : szHop x = 0 := rfl
  obtain ⟨rfl⟩ := hr
  clear hsz hl
  go_enter Tryz.func52, Tryz.ntmps52
  go_wp2
  exact bodyPost_ret (v := .agg #[.int .i64 x.x, .int .i64 x.y, .int .i64 x.d, .int .i64 x.t, .int .i64 x.f]) (by simp [results, Tryz.results52, go_sem]) rfl ⟨⟨[.int .i64 x.x, .int .i64 x.y, .int .i64 x.d, .int .i64 x.t, .int .i64 x.f], rfl, rfl⟩, bal (bal (bal (brf w) _) _) _, nf_al (nf_al (nf_al (nf_rf w) _ _) _ _) _ _⟩
theorem info_toHopS : (Tryz.prog.info? 61).map (fun i => (i.zero, i.size, i.bytes)) = some (some (.agg #[.int .i64 0, .int .i64 0, .int .i64 0, .int .i64 0, .int .i64 0]), 5, 40) := by kernel_rfl
theorem make_toHopS (n : Nat) (hn : n ≤ 1048576) : ∃ M : Array Value, M.size = n * 5 ∧ ∀ W : World, (Instr.makeSlice 59 (.int .i64 (n : Int)) (.int .i64 (n : Int))).run Tryz.prog W = .ok (.slice (some ⟨W.heap.size, 0, none⟩) n n) (W.alloc (.cells M 61)) := by
  obtain ⟨i0, hi, hz0, hz1, hz2⟩ := info_parts info_toHopS
  refine ⟨_, size_madeCells #[.int .i64 0, .int .i64 0, .int .i64 0, .int .i64 0, .int .i64 0] (n * 5), fun W => ?_⟩
  have hr := run_make (P := Tryz.prog) W 59 61 i0 _ (by kernel_rfl) hi hz0 .i64 .i64 n n (by omega) (Int.le_refl _) (by rw [hz2]; omega) (by omega)
  rw [hr, hz1]
  simp
  rfl
set_option maxHeartbeats 1600000 in
theorem toHopS_of (xs : List Hop) (v : Value) (w : World) (hl : szL szHop xs ≤ 1048576) (hr : RS 5 RHop w 0 xs v) :
    Calls Tryz.prog 31 #[v] w fun e w' => (∃ v', e = .returned v' ∧ RS 5 RHop w' w.heap.size xs v') ∧ Below w.heap.size w w' ∧ NF w.heap.size w' := by
  have hsm := szL_sm szHop xs
  obtain ⟨M, hM, hmk⟩ := make_toHopS xs.length (by omega)
  rcases hr.open with ⟨rfl, a, c, rfl⟩ | ⟨b, o, c, rfl, hc, hn, _, hcs⟩
  · have hmk0 : ∀ W : World, (Instr.makeSlice 59 (.int .i64 0) (.int .i64 0)).run Tryz.prog W = .ok (.slice (some ⟨W.heap.size, 0, none⟩) 0 0) (W.alloc (.cells M 61)) := hmk
    clear hsm hr hmk hl
    go_enter Tryz.func31, Tryz.ntmps31
    go_wp2
    go_loopw [4] (fun i W => i = .int .i64 0 ∧ Below w.heap.size w W ∧ NF w.heap.size W) (fun _ _ => 0)
    case atStart => exact ⟨rfl, bal (brf w) _, nf_al (nf_rf w) _ _⟩
    case round =>
      obtain ⟨rfl, hb, hnf⟩ := hrel
      have HB := hide hb
      have HNF := hide hnf
      clear hb hnf
      go_wp2
      exact bodyPost_ret (v := .slice (some ⟨w.heap.size, 0, none⟩) 0 0) (by simp [results, Tryz.results31, go_sem]) rfl ⟨⟨_, rfl, RS.nil _ _ _ _ _ _⟩, unhide HB, unhide HNF⟩
  · have hn2 := hn
    unfold maxLen at hn
    have HN := hide hn2
    have HC := hide hcs
    have HTP := hide (TP_made w M 61 (xs.length * 5) hM)
    clear hcs hr hM hn2
    go_enter Tryz.func31, Tryz.ntmps31
    go_wp2
    clear hmk
    go_loopw [4] (fun i W => ∃ j : Nat, j ≤ xs.length ∧ i = .int .i64 j ∧ TP W w.heap.size (xs.length * 5) ∧ NR 5 RHop W (w.heap.size + 1) w.heap.size j xs ∧ Below w.heap.size w W ∧ w.heap.size + 1 ≤ W.heap.size ∧ NF w.heap.size W) (fun i W => xs.length - (intOf i).toNat)
    case atStart => exact ⟨0, Nat.zero_le _, rfl, unhide HTP, NR.zero, bal (brf w) _, by simp, nf_al (nf_rf w) _ _⟩
    case round =>
      clear HTP
      obtain ⟨j, hj, rfl, hTP, hNR, hb, hsz, hnf⟩ := hrel
      have HNF := hide hnf
      clear hnf
      have HTP := hide hTP
      have HNR := hide hNR
      by_cases hjn : j < xs.length
      · have hx : xs[j]? = some xs[j] := List.getElem?_eq_getElem hjn
        generalize xs[j] = x at hx
        obtain ⟨u, hul, hat, hrx⟩ := unhide HC j x hx
        have st := sm_take (f := szHop) hx
        have sl := sm_le (f := szHop) (xs := xs) (j + 1)
        have i1 : (0 : Int) ≤ (j : Int) := by omega
        have i2 : (j : Int) < (xs.length : Int) := by omega
        obtain ⟨⟨w0, c0⟩, f0⟩ := hTP (j * 5 + 0) (by omega)
        obtain ⟨⟨w1, c1⟩, f1⟩ := hTP (j * 5 + 1) (by omega)
        obtain ⟨⟨w2, c2⟩, f2⟩ := hTP (j * 5 + 2) (by omega)
        obtain ⟨⟨w3, c3⟩, f3⟩ := hTP (j * 5 + 3) (by omega)
        obtain ⟨⟨w4, c4⟩, f4⟩ := hTP (j * 5 + 4) (by omega)
        simp only [Nat.add_zero] at c0 f0
        have PX := hide (toHop_of x u wr (by omega) (RHop.keeps _ _ _ _ _ (later_cells hb 0) hrx))
        obtain ⟨rfl⟩ := hrx
        have k0 := cell_later hb (hat.get (j := 0) rfl)
        have k1 := cell_later hb (hat.get (j := 1) rfl)
        have k2 := cell_later hb (hat.get (j := 2) rfl)
        have k3 := cell_later hb (hat.get (j := 3) rfl)
        have k4 := cell_later hb (hat.get (j := 4) rfl)
        simp only [Nat.add_zero] at k0
        have HX := hide hx
        have HB := hide hb
        clear hb hat hul HC hTP hNR hx
        go_wp2_with (go_at_call 52; refine (unhide PX).mono ?_; rintro e v1 ⟨⟨u1, rfl, hr1⟩, hb1, nf1⟩; have HN1 := hide (nf_tr (unhide HNF) hb1 nf1); clear nf1; have HR1 := hide hr1; have HB1 := hide hb1; have d0 := cell_later hb1 c0; have g0 := frozen_later hb1 c0 f0; have d1 := cell_later hb1 c1; have g1 := frozen_later hb1 c1 f1; have d2 := cell_later hb1 c2; have g2 := frozen_later hb1 c2 f2; have d3 := cell_later hb1 c3; have g3 := frozen_later hb1 c3 f3; have d4 := cell_later hb1 c4; have g4 := frozen_later hb1 c4 f4; obtain ⟨rfl⟩ := hr1; clear hb1)
        have hgs : w.heap.size + 1 ≤ wr.heap.size := by omega
        have hN1 := NR.step RHop.keeps (u := [.int .i64 x.x, .int .i64 x.y, .int .i64 x.d, .int .i64 x.t, .int .i64 x.f]) ((unhide HTP).later (unhide HB1)) ((unhide HNR).later RHop.keeps (unhide HB1)) (Nat.lt_succ_self _) (unhide HX) rfl (RHop.lowers _ _ _ _ _ hgs (unhide HR1)) (by omega)
        have hT1 := ((unhide HTP).later (unhide HB1)).set (o := j * 5) (vs := [.int .i64 x.x, .int .i64 x.y, .int .i64 x.d, .int .i64 x.t, .int .i64 x.f])
        have hB1 := setK_below [.int .i64 x.x, .int .i64 x.y, .int .i64 x.d, .int .i64 x.t, .int .i64 x.f] (o := j * 5) (btr (unhide HB) (unhide HB1)) (Nat.le_refl w.heap.size)
        have hS1 := (unhide HB1).size
        have hF1 := nf_setK [.int .i64 x.x, .int .i64 x.y, .int .i64 x.d, .int .i64 x.t, .int .i64 x.f] (o := j * 5) (g := w.heap.size) (unhide HN1)
        simp only [setK] at hN1 hT1 hB1 hF1
        exact ⟨⟨j + 1, by omega, by go_num, hT1, hN1, hB1, by simp; omega, hF1⟩, by simp [intOf]; omega⟩
      · obtain rfl : j = xs.length := by omega
        have HB := hide hb
        clear hb hTP hNR HC
        go_wp2
        exact bodyPost_ret (v := .slice (some ⟨w.heap.size, 0, none⟩) xs.length xs.length) (by simp [results, Tryz.results31, go_sem]) rfl ⟨⟨_, rfl, NR.done RHop.lowers (unhide HNR) (unhide HN) (Nat.le_refl _)⟩, unhide HB, unhide HNF⟩
theorem info_toHopSS : (Tryz.prog.info? 59).map (fun i => (i.zero, i.size, i.bytes)) = some (some (.slice none 0 0), 1, 24) := by kernel_rfl
theorem make_toHopSS (n : Nat) (hn : n ≤ 1048576) : ∃ M : Array Value, M.size = n * 1 ∧ ∀ W : World, (Instr.makeSlice 42 (.int .i64 (n : Int)) (.int .i64 (n : Int))).run Tryz.prog W = .ok (.slice (some ⟨W.heap.size, 0, none⟩) n n) (W.alloc (.cells M 59)) := by
  obtain ⟨i0, hi, hz0, hz1, hz2⟩ := info_parts info_toHopSS
  refine ⟨_, size_madeCells #[.slice none 0 0] (n * 1), fun W => ?_⟩
  have hr := run_make (P := Tryz.prog) W 42 59 i0 _ (by kernel_rfl) hi hz0 .i64 .i64 n n (by omega) (Int.le_refl _) (by rw [hz2]; omega) (by omega)
  rw [hr, hz1]
  simp
  rfl
set_option maxHeartbeats 1600000 in
theorem toHopSS_of (xs : List (List Hop)) (v : Value) (w : World) (hl : szL szHopS xs ≤ 1048576) (hr : RS 1 RHopS w 0 xs v) :
    Calls Tryz.prog 10 #[v] w fun e w' => (∃ v', e = .returned v' ∧ RS 1 RHopS w' w.heap.size xs v') ∧ Below w.heap.size w w' ∧ NF w.heap.size w' := by
  have hsm := szL_sm szHopS xs
  obtain ⟨M, hM, hmk⟩ := make_toHopSS xs.length (by omega)
  rcases hr.open with ⟨rfl, a, c, rfl⟩ | ⟨b, o, c, rfl, hc, hn, _, hcs⟩
  · have hmk0 : ∀ W : World, (Instr.makeSlice 42 (.int .i64 0) (.int .i64 0)).run Tryz.prog W = .ok (.slice (some ⟨W.heap.size, 0, none⟩) 0 0) (W.alloc (.cells M 59)) := hmk
    clear hsm hr hmk hl
    go_enter Tryz.func10, Tryz.ntmps10
    go_wp2
    go_loopw [4] (fun i W => i = .int .i64 0 ∧ Below w.heap.size w W ∧ NF w.heap.size W) (fun _ _ => 0)
    case atStart => exact ⟨rfl, bal (brf w) _, nf_al (nf_rf w) _ _⟩
    case round =>
      obtain ⟨rfl, hb, hnf⟩ := hrel
      have HB := hide hb
      have HNF := hide hnf
      clear hb hnf
      go_wp2
      exact bodyPost_ret (v := .slice (some ⟨w.heap.size, 0, none⟩) 0 0) (by simp [results, Tryz.results10, go_sem]) rfl ⟨⟨_, rfl, RS.nil _ _ _ _ _ _⟩, unhide HB, unhide HNF⟩
  · have hn2 := hn
    unfold maxLen at hn
    have HN := hide hn2
    have HC := hide hcs
    have HTP := hide (TP_made w M 59 (xs.length * 1) hM)
    clear hcs hr hM hn2
    go_enter Tryz.func10, Tryz.ntmps10
    go_wp2
    clear hmk
    go_loopw [4] (fun i W => ∃ j : Nat, j ≤ xs.length ∧ i = .int .i64 j ∧ TP W w.heap.size (xs.length * 1) ∧ NR 1 RHopS W (w.heap.size + 1) w.heap.size j xs ∧ Below w.heap.size w W ∧ w.heap.size + 1 ≤ W.heap.size ∧ NF w.heap.size W) (fun i W => xs.length - (intOf i).toNat)
    case atStart => exact ⟨0, Nat.zero_le _, rfl, unhide HTP, NR.zero, bal (brf w) _, by simp, nf_al (nf_rf w) _ _⟩
    case round =>
      clear HTP
      obtain ⟨j, hj, rfl, hTP, hNR, hb, hsz, hnf⟩ := hrel
      have HNF := hide hnf
      clear hnf
      have HTP := hide hTP
      have HNR := hide hNR
      by_cases hjn : j < xs.length
      · have hx : xs[j]? = some xs[j] := List.getElem?_eq_getElem hjn
        generalize xs[j] = x at hx
        obtain ⟨u, hul, hat, hrx⟩ := unhide HC j x hx
        have st := sm_take (f := szHopS) hx
        have sl := sm_le (f := szHopS) (xs := xs) (j + 1)
        have i1 : (0 : Int) ≤ (j : Int) := by omega
        have i2 : (j : Int) < (xs.length : Int) := by omega
        obtain ⟨⟨w0, c0⟩, f0⟩ := hTP (j * 1 + 0) (by omega)
        simp only [Nat.add_zero, Nat.mul_one] at c0 f0
        obtain ⟨ve, rfl, hve⟩ := hrx
        have hdf : szHopS x = szL szHop x := rfl
        have PX := hide (toHopS_of x ve wr (by omega) (hve.later RHop.keeps hb))
        obtain ⟨ae, ce, rfl⟩ := hve.slice
        have k0 := cell_later hb (hat.get (j := 0) rfl)
        simp only [Nat.add_zero, Nat.mul_one] at k0
        have HX := hide hx
        have HB := hide hb
        clear hb hat hul HC hTP hNR hx hve hdf
        go_wp2_with (go_at_call 31; refine (unhide PX).mono ?_; rintro e v1 ⟨⟨u1, rfl, hr1⟩, hb1, nf1⟩; have HN1 := hide (nf_tr (unhide HNF) hb1 nf1); clear nf1; have HR1 := hide hr1; have HB1 := hide hb1; have d0 := cell_later hb1 c0; have g0 := frozen_later hb1 c0 f0; obtain ⟨A0, C0, rfl⟩ := hr1.slice; clear hb1 hr1)
        have hgs : w.heap.size + 1 ≤ wr.heap.size := by omega
        have hN1 := NR.step RHopS.keeps (u := [.slice A0 x.length C0]) ((unhide HTP).later (unhide HB1)) ((unhide HNR).later RHopS.keeps (unhide HB1)) (Nat.lt_succ_self _) (unhide HX) rfl ⟨_, rfl, RS.low RHop.lowers hgs (unhide HR1)⟩ (by omega)
        have hT1 := ((unhide HTP).later (unhide HB1)).set (o := j) (vs := [.slice A0 x.length C0])
        have hB1 := setK_below [.slice A0 x.length C0] (o := j) (btr (unhide HB) (unhide HB1)) (Nat.le_refl w.heap.size)
        have hS1 := (unhide HB1).size
        have hF1 := nf_setK [.slice A0 x.length C0] (o := j) (g := w.heap.size) (unhide HN1)
        simp only [setK, Nat.mul_one] at hN1
        simp only [setK] at hT1 hB1 hF1
        exact ⟨⟨j + 1, by omega, by go_num, hT1, hN1, hB1, by simp; omega, hF1⟩, by simp [intOf]; omega⟩
      · obtain rfl : j = xs.length := by omega
        have HB := hide hb
        clear hb hTP hNR HC
        go_wp2
        exact bodyPost_ret (v := .slice (some ⟨w.heap.size, 0, none⟩) xs.length xs.length) (by simp [results, Tryz.results10, go_sem]) rfl ⟨⟨_, rfl, NR.done RHopS.lowers (unhide HNR) (unhide HN) (Nat.le_refl _)⟩, unhide HB, unhide HNF⟩
end Go.Proofs.YtlldfaniddbjaaaGreatDoor
