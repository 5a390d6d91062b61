/- What the laws' eq functions answer of equal data. -/
import Derived.Test.YtjbbjgoofenkpaaDD
import Derived.Deep.RegionHeld3
import Derived.BigQuiet
namespace Go.Proofs.Ytjbbjgoofenkpaa
open Go.RowKit Gs
set_option linter.unusedVariables false
set_option maxRecDepth 100000
theorem bdn {w W : World} {n : Nat} (h : Below w.heap.size w W) : Below w.heap.size w (W.drewN n) := ⟨h.os, h.tape, h.output, h.size, h.block⟩
theorem keepE1 {W V v1 : World} {a0 a1 : Addr} {x0 x1 : Value} (h : V.cell? a0 = some x0 ∧ V.cell? a1 = some x1 ∧ Below W.heap.size W V) (hb : Below V.heap.size V v1) : v1.cell? a0 = some x0 ∧ v1.cell? a1 = some x1 ∧ Below W.heap.size W v1 :=
  ⟨cell_later hb h.1, cell_later hb h.2.1, btr h.2.2 hb⟩
theorem belowE1 {W V : World} {a0 a1 : Addr} {x0 x1 : Value} (h : V.cell? a0 = some x0 ∧ V.cell? a1 = some x1 ∧ Below W.heap.size W V) : Below W.heap.size W V := h.2.2
theorem eqStringS0 (a1 a2 : Option Addr) (c1 c2 : Nat) (w : World) : Calls Try.prog 9 #[.slice a1 0 c1, .slice a2 0 c2] w fun e w' => e = .returned (.bool true) ∧ Below w.heap.size w w' := by
  go_enter Try.func9, Try.ntmps9
  go_wp2
  go_loopw [5] (fun i wr => i = .int .i64 0 ∧ Below w.heap.size w wr) (fun i wr => 0)
  case atStart => exact ⟨rfl, brf _⟩
  case round =>
    obtain ⟨rfl, hb⟩ := hrel
    have HB := hide hb
    clear hb
    go_wp2
    exact bodyPost_ret (v := .bool true) (by simp [results, Try.results9, go_sem]) rfl ⟨rfl, unhide HB⟩
set_option maxHeartbeats 1600000 in
theorem eqStringS_of (xs : List ByteArray) (v1 v2 : Value) (w : World) (h1 : RS 1 RStr w 0 xs v1) (h2 : RS 1 RStr w 0 xs v2) :
    Calls Try.prog 9 #[v1, v2] w fun e w' => e = .returned (.bool true) ∧ Below w.heap.size w w' := by
  rcases h1.open with ⟨rfl, a1, c1, rfl⟩ | ⟨b1, o1, c1, rfl, _, hn, _, hc1⟩
  · obtain ⟨a2, c2, rfl⟩ := h2.slice
    exact eqStringS0 _ _ _ _ w
  · rcases h2.open with ⟨rfl, a2, c2, rfl⟩ | ⟨b2, o2, c2, rfl, _, _, _, hc2⟩
    · exact eqStringS0 _ _ _ _ w
    · unfold maxLen at hn
      have HC1 := hide hc1
      have HC2 := hide hc2
      clear hc1 hc2 h1 h2
      go_enter Try.func9, Try.ntmps9
      go_wp2
      go_loopw [5] (fun i wr => ∃ j : Nat, j ≤ xs.length ∧ i = .int .i64 j ∧ Below w.heap.size w wr) (fun i wr => xs.length - (intOf i).toNat)
      case atStart => exact ⟨0, Nat.zero_le _, rfl, brf _⟩
      case round =>
        obtain ⟨j, hj, rfl, hb⟩ := hrel
        by_cases hjn : j < xs.length
        · have hx : xs[j]? = some xs[j] := List.getElem?_eq_getElem hjn
          generalize xs[j] = x at hx
          obtain ⟨u1, _, at1, r1⟩ := unhide HC1 j x hx
          obtain ⟨u2, _, at2, r2⟩ := unhide HC2 j x hx
          have i1 : (0 : Int) ≤ (j : Int) := by omega
          have i2 : (j : Int) < (xs.length : Int) := by omega
          obtain ⟨rfl, _⟩ := r1
          obtain ⟨rfl, _⟩ := r2
          have k0 := cell_later hb (at1.get (j := 0) rfl)
          have m0 := cell_later hb (at2.get (j := 0) rfl)
          simp only [Nat.add_zero, Nat.mul_one] at k0 m0
          have HB := hide hb
          clear hb at1 at2 HC1 HC2
          go_wp2
          go_quiet (fail)
          go_wp2
          exact ⟨⟨j + 1, by omega, by go_num, bdn (unhide HB)⟩, by simp [intOf]; omega⟩
        · obtain rfl : j = xs.length := by omega
          have HB := hide hb
          clear hb HC1 HC2
          go_wp2
          exact bodyPost_ret (v := .bool true) (by simp [results, Try.results9, go_sem]) rfl ⟨rfl, unhide HB⟩
theorem eqIntS0 (a1 a2 : Option Addr) (c1 c2 : Nat) (w : World) : Calls Try.prog 11 #[.slice a1 0 c1, .slice a2 0 c2] w fun e w' => e = .returned (.bool true) ∧ Below w.heap.size w w' := by
  go_enter Try.func11, Try.ntmps11
  go_wp2
  go_loopw [5] (fun i wr => i = .int .i64 0 ∧ Below w.heap.size w wr) (fun i wr => 0)
  case atStart => exact ⟨rfl, brf _⟩
  case round =>
    obtain ⟨rfl, hb⟩ := hrel
    have HB := hide hb
    clear hb
    go_wp2
    exact bodyPost_ret (v := .bool true) (by simp [results, Try.results11, go_sem]) rfl ⟨rfl, unhide HB⟩
set_option maxHeartbeats 1600000 in
theorem eqIntS_of (xs : List Int) (v1 v2 : Value) (w : World) (h1 : RS 1 RInt w 0 xs v1) (h2 : RS 1 RInt w 0 xs v2) :
    Calls Try.prog 11 #[v1, v2] w fun e w' => e = .returned (.bool true) ∧ Below w.heap.size w w' := by
  rcases h1.open with ⟨rfl, a1, c1, rfl⟩ | ⟨b1, o1, c1, rfl, _, hn, _, hc1⟩
  · obtain ⟨a2, c2, rfl⟩ := h2.slice
    exact eqIntS0 _ _ _ _ w
  · rcases h2.open with ⟨rfl, a2, c2, rfl⟩ | ⟨b2, o2, c2, rfl, _, _, _, hc2⟩
    · exact eqIntS0 _ _ _ _ w
    · unfold maxLen at hn
      have HC1 := hide hc1
      have HC2 := hide hc2
      clear hc1 hc2 h1 h2
      go_enter Try.func11, Try.ntmps11
      go_wp2
      go_loopw [5] (fun i wr => ∃ j : Nat, j ≤ xs.length ∧ i = .int .i64 j ∧ Below w.heap.size w wr) (fun i wr => xs.length - (intOf i).toNat)
      case atStart => exact ⟨0, Nat.zero_le _, rfl, brf _⟩
      case round =>
        obtain ⟨j, hj, rfl, hb⟩ := hrel
        by_cases hjn : j < xs.length
        · have hx : xs[j]? = some xs[j] := List.getElem?_eq_getElem hjn
          generalize xs[j] = x at hx
          obtain ⟨u1, _, at1, r1⟩ := unhide HC1 j x hx
          obtain ⟨u2, _, at2, r2⟩ := unhide HC2 j x hx
          have i1 : (0 : Int) ≤ (j : Int) := by omega
          have i2 : (j : Int) < (xs.length : Int) := by omega
          obtain rfl := r1
          obtain rfl := r2
          have k0 := cell_later hb (at1.get (j := 0) rfl)
          have m0 := cell_later hb (at2.get (j := 0) rfl)
          simp only [Nat.add_zero, Nat.mul_one] at k0 m0
          have HB := hide hb
          clear hb at1 at2 HC1 HC2
          go_wp2
          go_quiet (fail)
          go_wp2
          exact ⟨⟨j + 1, by omega, by go_num, bdn (unhide HB)⟩, by simp [intOf]; omega⟩
        · obtain rfl : j = xs.length := by omega
          have HB := hide hb
          clear hb HC1 HC2
          go_wp2
          exact bodyPost_ret (v := .bool true) (by simp [results, Try.results11, go_sem]) rfl ⟨rfl, unhide HB⟩
theorem eqIntSS0 (a1 a2 : Option Addr) (c1 c2 : Nat) (w : World) : Calls Try.prog 26 #[.slice a1 0 c1, .slice a2 0 c2] w fun e w' => e = .returned (.bool true) ∧ Below w.heap.size w w' := by
  go_enter Try.func26, Try.ntmps26
  go_wp2
  go_loopw [5] (fun i wr => i = .int .i64 0 ∧ Below w.heap.size w wr) (fun i wr => 0)
  case atStart => exact ⟨rfl, brf _⟩
  case round =>
    obtain ⟨rfl, hb⟩ := hrel
    have HB := hide hb
    clear hb
    go_wp2
    exact bodyPost_ret (v := .bool true) (by simp [results, Try.results26, go_sem]) rfl ⟨rfl, unhide HB⟩
set_option maxHeartbeats 1600000 in
theorem eqIntSS_of (xs : List (List Int)) (v1 v2 : Value) (w : World) (h1 : RS 1 RIntS w 0 xs v1) (h2 : RS 1 RIntS w 0 xs v2) :
    Calls Try.prog 26 #[v1, v2] w fun e w' => e = .returned (.bool true) ∧ Below w.heap.size w w' := by
  rcases h1.open with ⟨rfl, a1, c1, rfl⟩ | ⟨b1, o1, c1, rfl, _, hn, _, hc1⟩
  · obtain ⟨a2, c2, rfl⟩ := h2.slice
    exact eqIntSS0 _ _ _ _ w
  · rcases h2.open with ⟨rfl, a2, c2, rfl⟩ | ⟨b2, o2, c2, rfl, _, _, _, hc2⟩
    · exact eqIntSS0 _ _ _ _ w
    · unfold maxLen at hn
      have HC1 := hide hc1
      have HC2 := hide hc2
      clear hc1 hc2 h1 h2
      go_enter Try.func26, Try.ntmps26
      go_wp2
      go_loopw [5] (fun i wr => ∃ j : Nat, j ≤ xs.length ∧ i = .int .i64 j ∧ Below w.heap.size w wr) (fun i wr => xs.length - (intOf i).toNat)
      case atStart => exact ⟨0, Nat.zero_le _, rfl, brf _⟩
      case round =>
        obtain ⟨j, hj, rfl, hb⟩ := hrel
        by_cases hjn : j < xs.length
        · have hx : xs[j]? = some xs[j] := List.getElem?_eq_getElem hjn
          generalize xs[j] = x at hx
          obtain ⟨u1, _, at1, r1⟩ := unhide HC1 j x hx
          obtain ⟨u2, _, at2, r2⟩ := unhide HC2 j x hx
          have i1 : (0 : Int) ≤ (j : Int) := by omega
          have i2 : (j : Int) < (xs.length : Int) := by omega
          obtain ⟨p0, rfl, rp⟩ := r1
          obtain ⟨q0, rfl, rq⟩ := r2
          have PX := hide (fun (wy : World) (hy : Below wr.heap.size wr wy) => eqIntS_of x p0 q0 wy (rp.later RInt.keeps (btr hb hy)) (rq.later RInt.keeps (btr hb hy)))
          obtain ⟨pa, pc, rfl⟩ := rp.slice
          obtain ⟨qa, qc, rfl⟩ := rq.slice
          have k0 := cell_later hb (at1.get (j := 0) rfl)
          have m0 := cell_later hb (at2.get (j := 0) rfl)
          simp only [Nat.add_zero, Nat.mul_one] at k0 m0
          have HB := hide hb
          clear hb at1 at2 HC1 HC2 rp rq
          go_wp2
          go_region_held3 (fun w' => w'.cell? ⟨b1, o1 + j, none⟩ = some (.slice pa x.length pc) ∧ w'.cell? ⟨b2, o2 + j, none⟩ = some (.slice qa x.length qc) ∧ Below wr.heap.size wr w')
            (first | (exact ⟨k0, m0, bdr (brf _)⟩) | (exact keepE1 (by assumption) hb1))
            (first | (go_at_call 11; refine (unhide PX _ (belowE1 (by assumption))).mono ?_; rintro e v1 ⟨rfl, hb1⟩))
          all_goals
            have hSf : v1.cell? ⟨b1, o1 + j, none⟩ = some (.slice pa x.length pc) ∧ v1.cell? ⟨b2, o2 + j, none⟩ = some (.slice qa x.length qc) ∧ Below wr.heap.size wr v1 := by assumption
            have HB2 := hide (btr (unhide HB) (belowE1 hSf))
            clear hSf k0 m0
            go_wp2
            exact ⟨⟨j + 1, by omega, by go_num, unhide HB2⟩, by simp [intOf]; omega⟩
        · obtain rfl : j = xs.length := by omega
          have HB := hide hb
          clear hb HC1 HC2
          go_wp2
          exact bodyPost_ret (v := .bool true) (by simp [results, Try.results26, go_sem]) rfl ⟨rfl, unhide HB⟩
theorem eqStringSS0 (a1 a2 : Option Addr) (c1 c2 : Nat) (w : World) : Calls Try.prog 27 #[.slice a1 0 c1, .slice a2 0 c2] w fun e w' => e = .returned (.bool true) ∧ Below w.heap.size w w' := by
  go_enter Try.func27, Try.ntmps27
  go_wp2
  go_loopw [5] (fun i wr => i = .int .i64 0 ∧ Below w.heap.size w wr) (fun i wr => 0)
  case atStart => exact ⟨rfl, brf _⟩
  case round =>
    obtain ⟨rfl, hb⟩ := hrel
    have HB := hide hb
    clear hb
    go_wp2
    exact bodyPost_ret (v := .bool true) (by simp [results, Try.results27, go_sem]) rfl ⟨rfl, unhide HB⟩
set_option maxHeartbeats 1600000 in
theorem eqStringSS_of (xs : List (List ByteArray)) (v1 v2 : Value) (w : World) (h1 : RS 1 RStringS w 0 xs v1) (h2 : RS 1 RStringS w 0 xs v2) :
    Calls Try.prog 27 #[v1, v2] w fun e w' => e = .returned (.bool true) ∧ Below w.heap.size w w' := by
  rcases h1.open with ⟨rfl, a1, c1, rfl⟩ | ⟨b1, o1, c1, rfl, _, hn, _, hc1⟩
  · obtain ⟨a2, c2, rfl⟩ := h2.slice
    exact eqStringSS0 _ _ _ _ w
  · rcases h2.open with ⟨rfl, a2, c2, rfl⟩ | ⟨b2, o2, c2, rfl, _, _, _, hc2⟩
    · exact eqStringSS0 _ _ _ _ w
    · unfold maxLen at hn
      have HC1 := hide hc1
      have HC2 := hide hc2
      clear hc1 hc2 h1 h2
      go_enter Try.func27, Try.ntmps27
      go_wp2
      go_loopw [5] (fun i wr => ∃ j : Nat, j ≤ xs.length ∧ i = .int .i64 j ∧ Below w.heap.size w wr) (fun i wr => xs.length - (intOf i).toNat)
      case atStart => exact ⟨0, Nat.zero_le _, rfl, brf _⟩
      case round =>
        obtain ⟨j, hj, rfl, hb⟩ := hrel
        by_cases hjn : j < xs.length
        · have hx : xs[j]? = some xs[j] := List.getElem?_eq_getElem hjn
          generalize xs[j] = x at hx
          obtain ⟨u1, _, at1, r1⟩ := unhide HC1 j x hx
          obtain ⟨u2, _, at2, r2⟩ := unhide HC2 j x hx
          have i1 : (0 : Int) ≤ (j : Int) := by omega
          have i2 : (j : Int) < (xs.length : Int) := by omega
          obtain ⟨p0, rfl, rp⟩ := r1
          obtain ⟨q0, rfl, rq⟩ := r2
          have PX := hide (fun (wy : World) (hy : Below wr.heap.size wr wy) => eqStringS_of x p0 q0 wy (rp.later RStr.keeps (btr hb hy)) (rq.later RStr.keeps (btr hb hy)))
          obtain ⟨pa, pc, rfl⟩ := rp.slice
          obtain ⟨qa, qc, rfl⟩ := rq.slice
          have k0 := cell_later hb (at1.get (j := 0) rfl)
          have m0 := cell_later hb (at2.get (j := 0) rfl)
          simp only [Nat.add_zero, Nat.mul_one] at k0 m0
          have HB := hide hb
          clear hb at1 at2 HC1 HC2 rp rq
          go_wp2
          go_region_held3 (fun w' => w'.cell? ⟨b1, o1 + j, none⟩ = some (.slice pa x.length pc) ∧ w'.cell? ⟨b2, o2 + j, none⟩ = some (.slice qa x.length qc) ∧ Below wr.heap.size wr w')
            (first | (exact ⟨k0, m0, bdr (brf _)⟩) | (exact keepE1 (by assumption) hb1))
            (first | (go_at_call 9; refine (unhide PX _ (belowE1 (by assumption))).mono ?_; rintro e v1 ⟨rfl, hb1⟩))
          all_goals
            have hSf : v1.cell? ⟨b1, o1 + j, none⟩ = some (.slice pa x.length pc) ∧ v1.cell? ⟨b2, o2 + j, none⟩ = some (.slice qa x.length qc) ∧ Below wr.heap.size wr v1 := by assumption
            have HB2 := hide (btr (unhide HB) (belowE1 hSf))
            clear hSf k0 m0
            go_wp2
            exact ⟨⟨j + 1, by omega, by go_num, unhide HB2⟩, by simp [intOf]; omega⟩
        · obtain rfl : j = xs.length := by omega
          have HB := hide hb
          clear hb HC1 HC2
          go_wp2
          exact bodyPost_ret (v := .bool true) (by simp [results, Try.results27, go_sem]) rfl ⟨rfl, unhide HB⟩
set_option maxHeartbeats 1600000 in
theorem eqFsm_of (x : Fsm) (u1 u2 : List Value) (w : World) (h1 : RFsm w 0 x u1) (h2 : RFsm w 0 x u2) :
    Calls Try.prog 10 #[.agg u1.toArray, .agg u2.toArray] w fun e w' => e = .returned (.bool true) ∧ Below w.heap.size w w' := by
  obtain ⟨p2, p3, p4, rfl, rp2, rp3, rp4⟩ := h1
  obtain ⟨q2, q3, q4, rfl, rq2, rq3, rq4⟩ := h2
  have S2 := hide (fun (W : World) (hb : Below w.heap.size w W) => eqStringS_of x.states p2 q2 W (rp2.later RStr.keeps hb) (rq2.later RStr.keeps hb))
  obtain ⟨a2, c2, rfl⟩ := rp2.slice
  obtain ⟨d2, e2, rfl⟩ := rq2.slice
  have S3 := hide (fun (W : World) (hb : Below w.heap.size w W) => eqIntSS_of x.next p3 q3 W (rp3.later RIntS.keeps hb) (rq3.later RIntS.keeps hb))
  obtain ⟨a3, c3, rfl⟩ := rp3.slice
  obtain ⟨d3, e3, rfl⟩ := rq3.slice
  have S4 := hide (fun (W : World) (hb : Below w.heap.size w W) => eqStringSS_of x.outs p4 q4 W (rp4.later RStringS.keeps hb) (rq4.later RStringS.keeps hb))
  obtain ⟨a4, c4, rfl⟩ := rp4.slice
  obtain ⟨d4, e4, rfl⟩ := rq4.slice
  clear rp2 rq2 rp3 rq3 rp4 rq4
  have Y3 : Hid (∀ t s, ((w.alloc (.cells #[.int .i64 x.ins, .int .i64 x.outBits, .slice a2 x.states.length c2, .slice a3 x.next.length c3, .slice a4 x.outs.length c4] t)).alloc (.cells #[.int .i64 x.ins, .int .i64 x.outBits, .slice d2 x.states.length e2, .slice d3 x.next.length e3, .slice d4 x.outs.length e4] s)).cell? ⟨w.heap.size, 3, none⟩ = some (.slice a3 x.next.length c3)) := hide (fun t s => cell_later (bal (brf _) _) (by rw [World.cell?_alloc_new]; rfl))
  have Z3 : Hid (∀ t s, ((w.alloc (.cells #[.int .i64 x.ins, .int .i64 x.outBits, .slice a2 x.states.length c2, .slice a3 x.next.length c3, .slice a4 x.outs.length c4] t)).alloc (.cells #[.int .i64 x.ins, .int .i64 x.outBits, .slice d2 x.states.length e2, .slice d3 x.next.length e3, .slice d4 x.outs.length e4] s)).cell? ⟨w.heap.size + 1, 3, none⟩ = some (.slice d3 x.next.length e3)) := hide (fun t s => by simp)
  have Y4 : Hid (∀ t s, ((w.alloc (.cells #[.int .i64 x.ins, .int .i64 x.outBits, .slice a2 x.states.length c2, .slice a3 x.next.length c3, .slice a4 x.outs.length c4] t)).alloc (.cells #[.int .i64 x.ins, .int .i64 x.outBits, .slice d2 x.states.length e2, .slice d3 x.next.length e3, .slice d4 x.outs.length e4] s)).cell? ⟨w.heap.size, 4, none⟩ = some (.slice a4 x.outs.length c4)) := hide (fun t s => cell_later (bal (brf _) _) (by rw [World.cell?_alloc_new]; rfl))
  have Z4 : Hid (∀ t s, ((w.alloc (.cells #[.int .i64 x.ins, .int .i64 x.outBits, .slice a2 x.states.length c2, .slice a3 x.next.length c3, .slice a4 x.outs.length c4] t)).alloc (.cells #[.int .i64 x.ins, .int .i64 x.outBits, .slice d2 x.states.length e2, .slice d3 x.next.length e3, .slice d4 x.outs.length e4] s)).cell? ⟨w.heap.size + 1, 4, none⟩ = some (.slice d4 x.outs.length e4)) := hide (fun t s => by simp)
  generalize x.ins = z0 at *
  generalize x.outBits = z1 at *
  go_enter Try.func10, Try.ntmps10
  go_wp2_with (first | (have hq3 := hB2; go_at_call 27; refine (unhide S4 _ hB2).mono ?_; rintro e W3 ⟨rfl, hb3⟩; have hB3 := btr hB2 hb3) | (have hq2 := hB1; go_at_call 26; refine (unhide S3 _ hB1).mono ?_; rintro e W2 ⟨rfl, hb2⟩; have hB2 := btr hB1 hb2; have y2_4 := cell_later hb2 y1_4; have z2_4 := cell_later hb2 z1_4) | (go_at_call 9; refine (unhide S2 _ (bal (bal (brf w) _) _)).mono ?_; rintro e W1 ⟨rfl, hb1⟩; have hB1 := btr (bal (bal (brf w) _) _) hb1; have y1_3 := cell_later hb1 (unhide Y3 _ _); have z1_3 := cell_later hb1 (unhide Z3 _ _); have y1_4 := cell_later hb1 (unhide Y4 _ _); have z1_4 := cell_later hb1 (unhide Z4 _ _)))
  exact bodyPost_ret (v := .bool true) (by simp [results, Try.results10, go_sem]) rfl ⟨rfl, hB3⟩
end Go.Proofs.Ytjbbjgoofenkpaa
