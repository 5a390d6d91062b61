/- What the laws' eq functions answer of equal data. -/
import Derived.Test.YtonfbnbkhpabbaaDD
import Derived.Deep.RegionHeld3
import Derived.BigQuiet
namespace Go.Proofs.Ytonfbnbkhpabbaa
open Go.RowKit Gs
set_option linter.unusedVariables false
set_option maxRecDepth 100000
theorem bdn {w W : World} {n : Nat} (h : Below w.heap.size w W) : Below w.heap.size w (W.drewN n) := ⟨h.os, h.tape, h.output, h.size, h.block⟩
theorem keepE1 {W V v1 : World} {a0 a1 : Addr} {x0 x1 : Value} (h : V.cell? a0 = some x0 ∧ V.cell? a1 = some x1 ∧ Below W.heap.size W V) (hb : Below V.heap.size V v1) : v1.cell? a0 = some x0 ∧ v1.cell? a1 = some x1 ∧ Below W.heap.size W v1 :=
  ⟨cell_later hb h.1, cell_later hb h.2.1, btr h.2.2 hb⟩
theorem belowE1 {W V : World} {a0 a1 : Addr} {x0 x1 : Value} (h : V.cell? a0 = some x0 ∧ V.cell? a1 = some x1 ∧ Below W.heap.size W V) : Below W.heap.size W V := h.2.2
theorem eqIntS0 (a1 a2 : Option Addr) (c1 c2 : Nat) (w : World) : Calls Try.prog 22 #[.slice a1 0 c1, .slice a2 0 c2] w fun e w' => e = .returned (.bool true) ∧ Below w.heap.size w w' := by
  go_enter Try.func22, Try.ntmps22
  go_wp2
  go_loopw [5] (fun i wr => i = .int .i64 0 ∧ Below w.heap.size w wr) (fun i wr => 0)
  case atStart => exact ⟨rfl, brf _⟩
  case round =>
    obtain ⟨rfl, hb⟩ := hrel
    have HB := hide hb
    clear hb
    go_wp2
    exact bodyPost_ret (v := .bool true) (by simp [results, Try.results22, go_sem]) rfl ⟨rfl, unhide HB⟩
set_option maxHeartbeats 1600000 in
theorem eqIntS_of (xs : List Int) (v1 v2 : Value) (w : World) (h1 : RS 1 RInt w 0 xs v1) (h2 : RS 1 RInt w 0 xs v2) :
    Calls Try.prog 22 #[v1, v2] w fun e w' => e = .returned (.bool true) ∧ Below w.heap.size w w' := by
  rcases h1.open with ⟨rfl, a1, c1, rfl⟩ | ⟨b1, o1, c1, rfl, _, hn, _, hc1⟩
  · obtain ⟨a2, c2, rfl⟩ := h2.slice
    exact eqIntS0 _ _ _ _ w
  · rcases h2.open with ⟨rfl, a2, c2, rfl⟩ | ⟨b2, o2, c2, rfl, _, _, _, hc2⟩
    · exact eqIntS0 _ _ _ _ w
    · unfold maxLen at hn
      have HC1 := hide hc1
      have HC2 := hide hc2
      clear hc1 hc2 h1 h2
      go_enter Try.func22, Try.ntmps22
      go_wp2
      go_loopw [5] (fun i wr => ∃ j : Nat, j ≤ xs.length ∧ i = .int .i64 j ∧ Below w.heap.size w wr) (fun i wr => xs.length - (intOf i).toNat)
      case atStart => exact ⟨0, Nat.zero_le _, rfl, brf _⟩
      case round =>
        obtain ⟨j, hj, rfl, hb⟩ := hrel
        by_cases hjn : j < xs.length
        · have hx : xs[j]? = some xs[j] := List.getElem?_eq_getElem hjn
          generalize xs[j] = x at hx
          obtain ⟨u1, _, at1, r1⟩ := unhide HC1 j x hx
          obtain ⟨u2, _, at2, r2⟩ := unhide HC2 j x hx
          have i1 : (0 : Int) ≤ (j : Int) := by omega
          have i2 : (j : Int) < (xs.length : Int) := by omega
          obtain rfl := r1
          obtain rfl := r2
          have k0 := cell_later hb (at1.get (j := 0) rfl)
          have m0 := cell_later hb (at2.get (j := 0) rfl)
          simp only [Nat.add_zero, Nat.mul_one] at k0 m0
          have HB := hide hb
          clear hb at1 at2 HC1 HC2
          go_wp2
          go_quiet (fail)
          go_wp2
          exact ⟨⟨j + 1, by omega, by go_num, bdn (unhide HB)⟩, by simp [intOf]; omega⟩
        · obtain rfl : j = xs.length := by omega
          have HB := hide hb
          clear hb HC1 HC2
          go_wp2
          exact bodyPost_ret (v := .bool true) (by simp [results, Try.results22, go_sem]) rfl ⟨rfl, unhide HB⟩
theorem eqIntSS0 (a1 a2 : Option Addr) (c1 c2 : Nat) (w : World) : Calls Try.prog 9 #[.slice a1 0 c1, .slice a2 0 c2] w fun e w' => e = .returned (.bool true) ∧ Below w.heap.size w w' := by
  go_enter Try.func9, Try.ntmps9
  go_wp2
  go_loopw [5] (fun i wr => i = .int .i64 0 ∧ Below w.heap.size w wr) (fun i wr => 0)
  case atStart => exact ⟨rfl, brf _⟩
  case round =>
    obtain ⟨rfl, hb⟩ := hrel
    have HB := hide hb
    clear hb
    go_wp2
    exact bodyPost_ret (v := .bool true) (by simp [results, Try.results9, go_sem]) rfl ⟨rfl, unhide HB⟩
set_option maxHeartbeats 1600000 in
theorem eqIntSS_of (xs : List (List Int)) (v1 v2 : Value) (w : World) (h1 : RS 1 RIntS w 0 xs v1) (h2 : RS 1 RIntS w 0 xs v2) :
    Calls Try.prog 9 #[v1, v2] w fun e w' => e = .returned (.bool true) ∧ Below w.heap.size w w' := by
  rcases h1.open with ⟨rfl, a1, c1, rfl⟩ | ⟨b1, o1, c1, rfl, _, hn, _, hc1⟩
  · obtain ⟨a2, c2, rfl⟩ := h2.slice
    exact eqIntSS0 _ _ _ _ w
  · rcases h2.open with ⟨rfl, a2, c2, rfl⟩ | ⟨b2, o2, c2, rfl, _, _, _, hc2⟩
    · exact eqIntSS0 _ _ _ _ w
    · unfold maxLen at hn
      have HC1 := hide hc1
      have HC2 := hide hc2
      clear hc1 hc2 h1 h2
      go_enter Try.func9, Try.ntmps9
      go_wp2
      go_loopw [5] (fun i wr => ∃ j : Nat, j ≤ xs.length ∧ i = .int .i64 j ∧ Below w.heap.size w wr) (fun i wr => xs.length - (intOf i).toNat)
      case atStart => exact ⟨0, Nat.zero_le _, rfl, brf _⟩
      case round =>
        obtain ⟨j, hj, rfl, hb⟩ := hrel
        by_cases hjn : j < xs.length
        · have hx : xs[j]? = some xs[j] := List.getElem?_eq_getElem hjn
          generalize xs[j] = x at hx
          obtain ⟨u1, _, at1, r1⟩ := unhide HC1 j x hx
          obtain ⟨u2, _, at2, r2⟩ := unhide HC2 j x hx
          have i1 : (0 : Int) ≤ (j : Int) := by omega
          have i2 : (j : Int) < (xs.length : Int) := by omega
          obtain ⟨p0, rfl, rp⟩ := r1
          obtain ⟨q0, rfl, rq⟩ := r2
          have PX := hide (fun (wy : World) (hy : Below wr.heap.size wr wy) => eqIntS_of x p0 q0 wy (rp.later RInt.keeps (btr hb hy)) (rq.later RInt.keeps (btr hb hy)))
          obtain ⟨pa, pc, rfl⟩ := rp.slice
          obtain ⟨qa, qc, rfl⟩ := rq.slice
          have k0 := cell_later hb (at1.get (j := 0) rfl)
          have m0 := cell_later hb (at2.get (j := 0) rfl)
          simp only [Nat.add_zero, Nat.mul_one] at k0 m0
          have HB := hide hb
          clear hb at1 at2 HC1 HC2 rp rq
          go_wp2
          go_region_held3 (fun w' => w'.cell? ⟨b1, o1 + j, none⟩ = some (.slice pa x.length pc) ∧ w'.cell? ⟨b2, o2 + j, none⟩ = some (.slice qa x.length qc) ∧ Below wr.heap.size wr w')
            (first | (exact ⟨k0, m0, bdr (brf _)⟩) | (exact keepE1 (by assumption) hb1))
            (first | (go_at_call 22; refine (unhide PX _ (belowE1 (by assumption))).mono ?_; rintro e v1 ⟨rfl, hb1⟩))
          all_goals
            have hSf : v1.cell? ⟨b1, o1 + j, none⟩ = some (.slice pa x.length pc) ∧ v1.cell? ⟨b2, o2 + j, none⟩ = some (.slice qa x.length qc) ∧ Below wr.heap.size wr v1 := by assumption
            have HB2 := hide (btr (unhide HB) (belowE1 hSf))
            clear hSf k0 m0
            go_wp2
            exact ⟨⟨j + 1, by omega, by go_num, unhide HB2⟩, by simp [intOf]; omega⟩
        · obtain rfl : j = xs.length := by omega
          have HB := hide hb
          clear hb HC1 HC2
          go_wp2
          exact bodyPost_ret (v := .bool true) (by simp [results, Try.results9, go_sem]) rfl ⟨rfl, unhide HB⟩
end Go.Proofs.Ytonfbnbkhpabbaa
