/- The law's mark functions: what they write keeps each cell's kind. -/
import Derived.Test.YtnoklbnacfmpdacRT12
import Derived.Test.YtnoklbnacfmpdacRT14
import Derived.Test.YtnoklbnacfmpdacDDa
namespace Go.Proofs.Ytnoklbnacfmpdac
open Go.RowKit Gs
set_option linter.unusedVariables false
set_option maxRecDepth 100000
theorem cso {W : World} {b o p : Nat} {v y : Value} (h : W.cell? ⟨b, p, none⟩ = some y) (hne : o ≠ p) : (W.setCell ⟨b, o, none⟩ v).cell? ⟨b, p, none⟩ = some y := by
  rw [World.cell?_setCell_other (w := W) (a := ⟨b, o, none⟩) (b := ⟨b, p, none⟩) (v := v) (ne_addr (.inr hne.symm))]
  exact h
theorem new_block (w : World) (o : Obj) : (w.alloc o).heap[w.heap.size]? = some o := by
  show (w.heap.push o)[w.heap.size]? = some o
  simp
theorem markTz (z : Int) (V : World) (h0 : 0 ≤ z) (h1 : z < 1000000000000000000) :
    Calls Try.prog 61 #[.int .i64 z] V fun e w' => (∃ s : ByteArray, e = .returned (.string s) ∧ s.size ≤ 64) ∧ Below V.heap.size V w' := by
  obtain ⟨k, rfl⟩ : ∃ k : Nat, z = (k : Int) := ⟨z.toNat, by omega⟩
  exact markT k V (by omega)
theorem KS.of {α : Type} {k : Nat} {R : Rd α} {K : World → Nat → Nat → List Value → Prop} {W : World} {B : Nat} {xs : List α} {v : Value} (hk : 0 < k) (h : RS k R W B xs v) (hR : ∀ (i : Nat) (x : α) (u : List Value), xs[i]? = some x → R W B x u → K W B W.heap.size u) : KS k K W B W.heap.size xs.length v := by
  obtain ⟨a, c, hv, h1, h2, h3⟩ := h
  refine ⟨a, c, hv, fun hne => ?_⟩
  obtain ⟨b, o, ha, hb, he⟩ := h3 (fun e => hne (by rw [e]; rfl))
  refine ⟨b, o, ha, hb, ?_, fun i hi => ?_⟩
  · obtain ⟨u, hl, hat, _⟩ := he 0 _ (List.getElem?_eq_getElem (by omega))
    have h0 : u[0]? = some u[0] := List.getElem?_eq_getElem (by omega)
    exact World.block_lt_of_cell? W _ (hat 0 _ h0)
  · obtain ⟨u, hl, hat, hr⟩ := he i _ (List.getElem?_eq_getElem hi)
    exact ⟨u, hl, hat, hR i _ u (List.getElem?_eq_getElem hi) hr⟩
theorem sm_get {α : Type} {f : α → Nat} {xs : List α} {i : Nat} {x : α} (h : xs[i]? = some x) : f x ≤ sm f xs := by
  have h1 := sm_take (f := f) h
  have h2 := sm_le (f := f) (xs := xs) (i + 1)
  omega
def KInt : World → Nat → Nat → List Value → Prop := fun W B E u => ∃ x, u = [.int .i64 x]
def KStr : World → Nat → Nat → List Value → Prop := fun W B E u => ∃ x, u = [.string x]
theorem KStr.of {W : World} {B : Nat} {x : ByteArray} {u : List Value} (h : RStr W B x u) : KStr W B W.heap.size u := ⟨_, h.1⟩
set_option maxHeartbeats 8000000 in
theorem markStringS_of (l : Nat) (v : Value) (w : World) (B E : Nat) (hl : l ≤ 1048576) (hK : KS 1 KStr w B E l v) (hN : NF B w) (V : World) (z : Int) (h0 : 0 ≤ z) (h1 : z ≤ 20000000000000000) (hM : MK B E w V) :
    Calls Try.prog 37 #[v, .int .i64 z] V fun e w' => (∃ z' : Int, e = .returned (.int .i64 z') ∧ 0 ≤ z' ∧ z' ≤ z + (l : Int) * 1) ∧ MK B E V w' := by
  obtain ⟨a, c, rfl, hw⟩ := hK
  have HM := hide hM
  have HW := hide hw
  clear hM hw
  go_enter Try.func37, Try.ntmps37
  go_wp2
  go_loopw [1, 5] (fun kv i wr => ∃ (j : Nat) (y : Int), j ≤ l ∧ i = .int .i64 j ∧ kv = .int .i64 y ∧ 0 ≤ y ∧ y ≤ z + (j : Int) * 1 ∧ MK B E V wr) (fun _ i _ => l - (intOf i).toNat)
  case atStart => exact ⟨0, z, Nat.zero_le _, rfl, rfl, h0, by omega, .refl _ _ _⟩
  case round =>
    obtain ⟨j, y, hj, rfl, rfl, y0, y1, hM⟩ := hrel
    by_cases hjl : j < l
    · obtain ⟨b, o, rfl, hB, hE, he⟩ := unhide HW (by omega)
      obtain ⟨u, hul, hat, x0, rfl⟩ := he j hjl
      obtain ⟨q0, c0, s0, f0⟩ := ((unhide HM).trans hM).cell hN (hat.get (j := 0) rfl) hB
      obtain ⟨t0, rfl⟩ := s0.string
      simp only [Nat.add_zero, Nat.mul_one] at c0 f0
      have HM0 := hide hM
      have i1 : (j : Int) < (l : Int) := by omega
      have MT := hide markTz
      clear he hat hul HW hM s0
      go_wp2_with (first
        | (go_at_call 61; refine (unhide MT _ _ (by omega) (by omega)).mono ?_; rintro e V1 ⟨⟨m1, rfl, hm1⟩, hb1⟩; have HM1 := hide (MK.later (unhide HM0) hb1); have d1_0 := cell_later hb1 c0; have g1_0 := frozen_later hb1 c0 (by simpa using f0); clear hb1))
      exact ⟨⟨j + 1, _, by omega, by go_num, rfl, by omega, by omega, (MK.set (unhide HM1) d1_0 _ (SK.strings _ _) hB hE)⟩, by simp [intOf]; omega⟩
    · obtain rfl : j = l := by omega
      have HM0 := hide hM
      clear hM HW
      go_wp2
      go_ret
      exact ⟨⟨y, rfl, y0, by omega⟩, unhide HM0⟩
def KLatch : World → Nat → Nat → List Value → Prop := fun W B E u => ∃ (x0 : ByteArray) (x1 : Int) (x2 : Int) (x3 : Int), u = [.string x0, .int .i64 x1, .int .i64 x2, .int .i64 x3]
theorem KLatch.of {W : World} {B : Nat} {x : Latch} {u : List Value} (h : RLatch W B x u) : KLatch W B W.heap.size u := by
  obtain ⟨rfl, bname⟩ := h
  exact ⟨_, _, _, _, rfl⟩
set_option maxHeartbeats 8000000 in
theorem markLatchS_of (l : Nat) (v : Value) (w : World) (B E : Nat) (hl : l ≤ 1048576) (hK : KS 4 KLatch w B E l v) (hN : NF B w) (V : World) (z : Int) (h0 : 0 ≤ z) (h1 : z ≤ 10000000000000000) (hM : MK B E w V) :
    Calls Try.prog 38 #[v, .int .i64 z] V fun e w' => (∃ z' : Int, e = .returned (.int .i64 z') ∧ 0 ≤ z' ∧ z' ≤ z + (l : Int) * 4) ∧ MK B E V w' := by
  obtain ⟨a, c, rfl, hw⟩ := hK
  have HM := hide hM
  have HW := hide hw
  clear hM hw
  go_enter Try.func38, Try.ntmps38
  go_wp2
  go_loopw [1, 5] (fun kv i wr => ∃ (j : Nat) (y : Int), j ≤ l ∧ i = .int .i64 j ∧ kv = .int .i64 y ∧ 0 ≤ y ∧ y ≤ z + (j : Int) * 4 ∧ MK B E V wr) (fun _ i _ => l - (intOf i).toNat)
  case atStart => exact ⟨0, z, Nat.zero_le _, rfl, rfl, h0, by omega, .refl _ _ _⟩
  case round =>
    obtain ⟨j, y, hj, rfl, rfl, y0, y1, hM⟩ := hrel
    by_cases hjl : j < l
    · obtain ⟨b, o, rfl, hB, hE, he⟩ := unhide HW (by omega)
      obtain ⟨u, hul, hat, x0, x1, x2, x3, rfl⟩ := he j hjl
      obtain ⟨q0, c0, s0, f0⟩ := ((unhide HM).trans hM).cell hN (hat.get (j := 0) rfl) hB
      obtain ⟨t0, rfl⟩ := s0.string
      obtain ⟨q1, c1, s1, f1⟩ := ((unhide HM).trans hM).cell hN (hat.get (j := 1) rfl) hB
      obtain ⟨t1, rfl⟩ := s1.int
      obtain ⟨q2, c2, s2, f2⟩ := ((unhide HM).trans hM).cell hN (hat.get (j := 2) rfl) hB
      obtain ⟨t2, rfl⟩ := s2.int
      obtain ⟨q3, c3, s3, f3⟩ := ((unhide HM).trans hM).cell hN (hat.get (j := 3) rfl) hB
      obtain ⟨t3, rfl⟩ := s3.int
      simp only [Nat.add_zero] at c0 f0
      have HM0 := hide hM
      have i1 : (j : Int) < (l : Int) := by omega
      have MT := hide markTz
      clear he hat hul HW hM s0 s1 s2 s3
      go_wp2_with (first
        | (go_at_call 61; refine (unhide MT _ _ (by omega) (by omega)).mono ?_; rintro e V1 ⟨⟨m1, rfl, hm1⟩, hb1⟩; have HM1 := hide (MK.later (unhide HM0) hb1); have d1_0 := cell_later hb1 c0; have g1_0 := frozen_later hb1 c0 (by simpa using f0); have d1_1 := cell_later hb1 c1; have g1_1 := frozen_later hb1 c1 (by simpa using f1); have d1_2 := cell_later hb1 c2; have g1_2 := frozen_later hb1 c2 (by simpa using f2); have d1_3 := cell_later hb1 c3; have g1_3 := frozen_later hb1 c3 (by simpa using f3); clear hb1))
      exact ⟨⟨j + 1, _, by omega, by go_num, rfl, by omega, by omega, (MK.set (MK.set (MK.set (MK.set (unhide HM1) d1_0 _ (SK.strings _ _) hB hE) (cso d1_1 (by omega)) _ (SK.ints _ _ _) hB hE) (cso (cso d1_2 (by omega)) (by omega)) _ (SK.ints _ _ _) hB hE) (cso (cso (cso d1_3 (by omega)) (by omega)) (by omega)) _ (SK.ints _ _ _) hB hE)⟩, by simp [intOf]; omega⟩
    · obtain rfl : j = l := by omega
      have HM0 := hide hM
      clear hM HW
      go_wp2
      go_ret
      exact ⟨⟨y, rfl, y0, by omega⟩, unhide HM0⟩
def KAndG : World → Nat → Nat → List Value → Prop := fun W B E u => ∃ (x0 : Int) (x1 : Int), u = [.int .i64 x0, .int .i64 x1]
theorem KAndG.of {W : World} {B : Nat} {x : AndG} {u : List Value} (h : RAndG W B x u) : KAndG W B W.heap.size u := by
  obtain rfl := h
  exact ⟨_, _, rfl⟩
set_option maxHeartbeats 8000000 in
theorem markAndGS_of (l : Nat) (v : Value) (w : World) (B E : Nat) (hl : l ≤ 1048576) (hK : KS 2 KAndG w B E l v) (hN : NF B w) (V : World) (z : Int) (h0 : 0 ≤ z) (h1 : z ≤ 10000000000000000) (hM : MK B E w V) :
    Calls Try.prog 39 #[v, .int .i64 z] V fun e w' => (∃ z' : Int, e = .returned (.int .i64 z') ∧ 0 ≤ z' ∧ z' ≤ z + (l : Int) * 2) ∧ MK B E V w' := by
  obtain ⟨a, c, rfl, hw⟩ := hK
  have HM := hide hM
  have HW := hide hw
  clear hM hw
  go_enter Try.func39, Try.ntmps39
  go_wp2
  go_loopw [1, 5] (fun kv i wr => ∃ (j : Nat) (y : Int), j ≤ l ∧ i = .int .i64 j ∧ kv = .int .i64 y ∧ 0 ≤ y ∧ y ≤ z + (j : Int) * 2 ∧ MK B E V wr) (fun _ i _ => l - (intOf i).toNat)
  case atStart => exact ⟨0, z, Nat.zero_le _, rfl, rfl, h0, by omega, .refl _ _ _⟩
  case round =>
    obtain ⟨j, y, hj, rfl, rfl, y0, y1, hM⟩ := hrel
    by_cases hjl : j < l
    · obtain ⟨b, o, rfl, hB, hE, he⟩ := unhide HW (by omega)
      obtain ⟨u, hul, hat, x0, x1, rfl⟩ := he j hjl
      obtain ⟨q0, c0, s0, f0⟩ := ((unhide HM).trans hM).cell hN (hat.get (j := 0) rfl) hB
      obtain ⟨t0, rfl⟩ := s0.int
      obtain ⟨q1, c1, s1, f1⟩ := ((unhide HM).trans hM).cell hN (hat.get (j := 1) rfl) hB
      obtain ⟨t1, rfl⟩ := s1.int
      simp only [Nat.add_zero] at c0 f0
      have HM0 := hide hM
      have i1 : (j : Int) < (l : Int) := by omega
      clear he hat hul HW hM s0 s1
      go_wp2
      exact ⟨⟨j + 1, _, by omega, by go_num, rfl, by omega, by omega, (MK.set (MK.set (unhide HM0) c0 _ (SK.ints _ _ _) hB hE) (cso c1 (by omega)) _ (SK.ints _ _ _) hB hE)⟩, by simp [intOf]; omega⟩
    · obtain rfl : j = l := by omega
      have HM0 := hide hM
      clear hM HW
      go_wp2
      go_ret
      exact ⟨⟨y, rfl, y0, by omega⟩, unhide HM0⟩
def KPin : World → Nat → Nat → List Value → Prop := fun W B E u => ∃ (x0 : ByteArray) (x1 : Int), u = [.string x0, .int .i64 x1]
theorem KPin.of {W : World} {B : Nat} {x : Pin} {u : List Value} (h : RPin W B x u) : KPin W B W.heap.size u := by
  obtain ⟨rfl, bname⟩ := h
  exact ⟨_, _, rfl⟩
set_option maxHeartbeats 8000000 in
theorem markPinS_of (l : Nat) (v : Value) (w : World) (B E : Nat) (hl : l ≤ 1048576) (hK : KS 2 KPin w B E l v) (hN : NF B w) (V : World) (z : Int) (h0 : 0 ≤ z) (h1 : z ≤ 10000000000000000) (hM : MK B E w V) :
    Calls Try.prog 40 #[v, .int .i64 z] V fun e w' => (∃ z' : Int, e = .returned (.int .i64 z') ∧ 0 ≤ z' ∧ z' ≤ z + (l : Int) * 2) ∧ MK B E V w' := by
  obtain ⟨a, c, rfl, hw⟩ := hK
  have HM := hide hM
  have HW := hide hw
  clear hM hw
  go_enter Try.func40, Try.ntmps40
  go_wp2
  go_loopw [1, 5] (fun kv i wr => ∃ (j : Nat) (y : Int), j ≤ l ∧ i = .int .i64 j ∧ kv = .int .i64 y ∧ 0 ≤ y ∧ y ≤ z + (j : Int) * 2 ∧ MK B E V wr) (fun _ i _ => l - (intOf i).toNat)
  case atStart => exact ⟨0, z, Nat.zero_le _, rfl, rfl, h0, by omega, .refl _ _ _⟩
  case round =>
    obtain ⟨j, y, hj, rfl, rfl, y0, y1, hM⟩ := hrel
    by_cases hjl : j < l
    · obtain ⟨b, o, rfl, hB, hE, he⟩ := unhide HW (by omega)
      obtain ⟨u, hul, hat, x0, x1, rfl⟩ := he j hjl
      obtain ⟨q0, c0, s0, f0⟩ := ((unhide HM).trans hM).cell hN (hat.get (j := 0) rfl) hB
      obtain ⟨t0, rfl⟩ := s0.string
      obtain ⟨q1, c1, s1, f1⟩ := ((unhide HM).trans hM).cell hN (hat.get (j := 1) rfl) hB
      obtain ⟨t1, rfl⟩ := s1.int
      simp only [Nat.add_zero] at c0 f0
      have HM0 := hide hM
      have i1 : (j : Int) < (l : Int) := by omega
      have MT := hide markTz
      clear he hat hul HW hM s0 s1
      go_wp2_with (first
        | (go_at_call 61; refine (unhide MT _ _ (by omega) (by omega)).mono ?_; rintro e V1 ⟨⟨m1, rfl, hm1⟩, hb1⟩; have HM1 := hide (MK.later (unhide HM0) hb1); have d1_0 := cell_later hb1 c0; have g1_0 := frozen_later hb1 c0 (by simpa using f0); have d1_1 := cell_later hb1 c1; have g1_1 := frozen_later hb1 c1 (by simpa using f1); clear hb1))
      exact ⟨⟨j + 1, _, by omega, by go_num, rfl, by omega, by omega, (MK.set (MK.set (unhide HM1) d1_0 _ (SK.strings _ _) hB hE) (cso d1_1 (by omega)) _ (SK.ints _ _ _) hB hE)⟩, by simp [intOf]; omega⟩
    · obtain rfl : j = l := by omega
      have HM0 := hide hM
      clear hM HW
      go_wp2
      go_ret
      exact ⟨⟨y, rfl, y0, by omega⟩, unhide HM0⟩
set_option maxHeartbeats 8000000 in
theorem markAig_of (x : Aig) (u : List Value) (w : World) (B : Nat) (hr : RAig w B x u) (hz : szAig x ≤ 1048576) (hN : NF B w) (V : World) (hM : MK B w.heap.size w V) :
    Calls Try.prog 10 #[.agg u.toArray, .int .i64 1] V fun e w' => (∃ z' : Int, e = .returned (.int .i64 z') ∧ 0 ≤ z' ∧ z' ≤ 12582913) ∧ MK B w.heap.size V w' := by
  obtain ⟨v0, v1, v2, v3, v4, v5, rfl, r0, r1, r2, r3, r4, r5⟩ := hr
  have hsz : szAig x = szL (fun (s : ByteArray) => s.size) x.ins + szL (fun (s : ByteArray) => s.size) x.clocks + szL szLatch x.latches + szL szAndG x.ands + szL szPin x.outs + szL szPin x.checks := rfl
  have hz0 := szL_sm (fun (s : ByteArray) => s.size) x.ins
  have hz1 := szL_sm (fun (s : ByteArray) => s.size) x.clocks
  have hz2 := szL_sm szLatch x.latches
  have hz3 := szL_sm szAndG x.ands
  have hz4 := szL_sm szPin x.outs
  have hz5 := szL_sm szPin x.checks
  have HK0 := hide (KS.of (K := KStr) (by decide) r0 (fun i x u hx h => KStr.of h))
  obtain ⟨a0, c0, rfl⟩ := r0.slice
  have hl0 : x.ins.length ≤ 1048576 := by omega
  have HK1 := hide (KS.of (K := KStr) (by decide) r1 (fun i x u hx h => KStr.of h))
  obtain ⟨a1, c1, rfl⟩ := r1.slice
  have hl1 : x.clocks.length ≤ 1048576 := by omega
  have HK2 := hide (KS.of (K := KLatch) (by decide) r2 (fun i x u hx h => KLatch.of h))
  obtain ⟨a2, c2, rfl⟩ := r2.slice
  have hl2 : x.latches.length ≤ 1048576 := by omega
  have HK3 := hide (KS.of (K := KAndG) (by decide) r3 (fun i x u hx h => KAndG.of h))
  obtain ⟨a3, c3, rfl⟩ := r3.slice
  have hl3 : x.ands.length ≤ 1048576 := by omega
  have HK4 := hide (KS.of (K := KPin) (by decide) r4 (fun i x u hx h => KPin.of h))
  obtain ⟨a4, c4, rfl⟩ := r4.slice
  have hl4 : x.outs.length ≤ 1048576 := by omega
  have HK5 := hide (KS.of (K := KPin) (by decide) r5 (fun i x u hx h => KPin.of h))
  obtain ⟨a5, c5, rfl⟩ := r5.slice
  have hl5 : x.checks.length ≤ 1048576 := by omega
  have HM := hide hM
  have hE := hM.size
  clear r0 hz0 r1 hz1 r2 hz2 r3 hz3 r4 hz4 r5 hz5 hsz hz hM
  go_enter Try.func10, Try.ntmps10
  go_wp2_with (first
    | (have hq6 := HM5; go_at_call 40; refine (markPinS_of _ _ w B w.heap.size hl5 (unhide HK5) hN _ _ (by omega) (by omega) (MK.trans (unhide HM) (unhide HM5))).mono ?_; rintro e V6 ⟨⟨z6, rfl, z60, z61⟩, hM6⟩; have HM6 := hide (MK.trans (unhide HM5) hM6); have sz6 := hM6.size; have bk6 := (hM6.block V.heap.size (Array.getElem?_eq_some_iff.1 bk5).1 (.inr hE)).trans bk5; clear hM6)
    | (have hq5 := HM4; go_at_call 40; refine (markPinS_of _ _ w B w.heap.size hl4 (unhide HK4) hN _ _ (by omega) (by omega) (MK.trans (unhide HM) (unhide HM4))).mono ?_; rintro e V5 ⟨⟨z5, rfl, z50, z51⟩, hM5⟩; have HM5 := hide (MK.trans (unhide HM4) hM5); have sz5 := hM5.size; have bk5 := (hM5.block V.heap.size (Array.getElem?_eq_some_iff.1 bk4).1 (.inr hE)).trans bk4; have d5_5 : V5.cell? ⟨V.heap.size, 5, none⟩ = some (.slice a5 x.checks.length c5) := (by simp [World.cell?, bk5]); clear hM5)
    | (have hq4 := HM3; go_at_call 39; refine (markAndGS_of _ _ w B w.heap.size hl3 (unhide HK3) hN _ _ (by omega) (by omega) (MK.trans (unhide HM) (unhide HM3))).mono ?_; rintro e V4 ⟨⟨z4, rfl, z40, z41⟩, hM4⟩; have HM4 := hide (MK.trans (unhide HM3) hM4); have sz4 := hM4.size; have bk4 := (hM4.block V.heap.size (Array.getElem?_eq_some_iff.1 bk3).1 (.inr hE)).trans bk3; have d4_4 : V4.cell? ⟨V.heap.size, 4, none⟩ = some (.slice a4 x.outs.length c4) := (by simp [World.cell?, bk4]); have d4_5 : V4.cell? ⟨V.heap.size, 5, none⟩ = some (.slice a5 x.checks.length c5) := (by simp [World.cell?, bk4]); clear hM4)
    | (have hq3 := HM2; go_at_call 38; refine (markLatchS_of _ _ w B w.heap.size hl2 (unhide HK2) hN _ _ (by omega) (by omega) (MK.trans (unhide HM) (unhide HM2))).mono ?_; rintro e V3 ⟨⟨z3, rfl, z30, z31⟩, hM3⟩; have HM3 := hide (MK.trans (unhide HM2) hM3); have sz3 := hM3.size; have bk3 := (hM3.block V.heap.size (Array.getElem?_eq_some_iff.1 bk2).1 (.inr hE)).trans bk2; have d3_3 : V3.cell? ⟨V.heap.size, 3, none⟩ = some (.slice a3 x.ands.length c3) := (by simp [World.cell?, bk3]); have d3_4 : V3.cell? ⟨V.heap.size, 4, none⟩ = some (.slice a4 x.outs.length c4) := (by simp [World.cell?, bk3]); have d3_5 : V3.cell? ⟨V.heap.size, 5, none⟩ = some (.slice a5 x.checks.length c5) := (by simp [World.cell?, bk3]); clear hM3)
    | (have hq2 := HM1; go_at_call 37; refine (markStringS_of _ _ w B w.heap.size hl1 (unhide HK1) hN _ _ (by omega) (by omega) (MK.trans (unhide HM) (unhide HM1))).mono ?_; rintro e V2 ⟨⟨z2, rfl, z20, z21⟩, hM2⟩; have HM2 := hide (MK.trans (unhide HM1) hM2); have sz2 := hM2.size; have bk2 := (hM2.block V.heap.size (Array.getElem?_eq_some_iff.1 bk1).1 (.inr hE)).trans bk1; have d2_2 : V2.cell? ⟨V.heap.size, 2, none⟩ = some (.slice a2 x.latches.length c2) := (by simp [World.cell?, bk2]); have d2_3 : V2.cell? ⟨V.heap.size, 3, none⟩ = some (.slice a3 x.ands.length c3) := (by simp [World.cell?, bk2]); have d2_4 : V2.cell? ⟨V.heap.size, 4, none⟩ = some (.slice a4 x.outs.length c4) := (by simp [World.cell?, bk2]); have d2_5 : V2.cell? ⟨V.heap.size, 5, none⟩ = some (.slice a5 x.checks.length c5) := (by simp [World.cell?, bk2]); clear hM2)
    | (go_at_call 37; refine (markStringS_of _ _ w B w.heap.size hl0 (unhide HK0) hN _ _ (by omega) (by omega) (MK.trans (unhide HM) (MK.later (.refl _ _ _) (bal (brf V) _)))).mono ?_; rintro e V1 ⟨⟨z1, rfl, z10, z11⟩, hM1⟩; have HM1 := hide (MK.trans (MK.later (.refl _ _ _) (bal (brf V) _)) hM1); have sz1 := hM1.size; have bk1 : V1.heap[V.heap.size]? = some (.cells #[.slice a0 x.ins.length c0, .slice a1 x.clocks.length c1, .slice a2 x.latches.length c2, .slice a3 x.ands.length c3, .slice a4 x.outs.length c4, .slice a5 x.checks.length c5] 36) := (hM1.block V.heap.size (by simp) (.inr hE)).trans (new_block V _); have d1_1 : V1.cell? ⟨V.heap.size, 1, none⟩ = some (.slice a1 x.clocks.length c1) := (by simp [World.cell?, bk1]); have d1_2 : V1.cell? ⟨V.heap.size, 2, none⟩ = some (.slice a2 x.latches.length c2) := (by simp [World.cell?, bk1]); have d1_3 : V1.cell? ⟨V.heap.size, 3, none⟩ = some (.slice a3 x.ands.length c3) := (by simp [World.cell?, bk1]); have d1_4 : V1.cell? ⟨V.heap.size, 4, none⟩ = some (.slice a4 x.outs.length c4) := (by simp [World.cell?, bk1]); have d1_5 : V1.cell? ⟨V.heap.size, 5, none⟩ = some (.slice a5 x.checks.length c5) := (by simp [World.cell?, bk1]); clear hM1))
  go_ret
  exact ⟨⟨z6, rfl, z60, by omega⟩, unhide HM6⟩
end Go.Proofs.Ytnoklbnacfmpdac
