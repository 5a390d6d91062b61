/- The law's mark functions: what they write keeps each cell's kind. -/
import Derived.Test.YtdmmbhemmbgcpabGreatGRT14
import Derived.Test.YtdmmbhemmbgcpabGreatGDD
import Derived.Test.YtdmmbhemmbgcpabGreatPT10
import Derived.Test.YtdmmbhemmbgcpabGreatGQ8
import Derived.Deep.RegionHeld3
namespace Go.Proofs.YtdmmbhemmbgcpabGreat
open Go.RowKit Gs
set_option linter.unusedVariables false
set_option maxRecDepth 100000
theorem cso {W : World} {b o p : Nat} {v y : Value} (h : W.cell? ⟨b, p, none⟩ = some y) (hne : o ≠ p) : (W.setCell ⟨b, o, none⟩ v).cell? ⟨b, p, none⟩ = some y := by
  rw [World.cell?_setCell_other (w := W) (a := ⟨b, o, none⟩) (b := ⟨b, p, none⟩) (v := v) (ne_addr (.inr hne.symm))]
  exact h
theorem new_block (w : World) (o : Obj) : (w.alloc o).heap[w.heap.size]? = some o := by
  show (w.heap.push o)[w.heap.size]? = some o
  simp
theorem markTz (z : Int) (V : World) (h0 : 0 ≤ z) (h1 : z < 1000000000000000000) :
    Calls Tryz.prog 74 #[.int .i64 z] V fun e w' => (∃ s : ByteArray, e = .returned (.string s) ∧ s.size ≤ 64) ∧ Below V.heap.size V w' := by
  obtain ⟨k, rfl⟩ : ∃ k : Nat, z = (k : Int) := ⟨z.toNat, by omega⟩
  exact markT k V (by omega)
theorem KS.of {α : Type} {k : Nat} {R : Rd α} {K : World → Nat → Nat → List Value → Prop} {W : World} {B : Nat} {xs : List α} {v : Value} (hk : 0 < k) (h : RS k R W B xs v) (hR : ∀ (i : Nat) (x : α) (u : List Value), xs[i]? = some x → R W B x u → K W B W.heap.size u) : KS k K W B W.heap.size xs.length v := by
  obtain ⟨a, c, hv, h1, h2, h3⟩ := h
  refine ⟨a, c, hv, fun hne => ?_⟩
  obtain ⟨b, o, ha, hb, he⟩ := h3 (fun e => hne (by rw [e]; rfl))
  refine ⟨b, o, ha, hb, ?_, fun i hi => ?_⟩
  · obtain ⟨u, hl, hat, _⟩ := he 0 _ (List.getElem?_eq_getElem (by omega))
    have h0 : u[0]? = some u[0] := List.getElem?_eq_getElem (by omega)
    exact World.block_lt_of_cell? W _ (hat 0 _ h0)
  · obtain ⟨u, hl, hat, hr⟩ := he i _ (List.getElem?_eq_getElem hi)
    exact ⟨u, hl, hat, hR i _ u (List.getElem?_eq_getElem hi) hr⟩
theorem sm_get {α : Type} {f : α → Nat} {xs : List α} {i : Nat} {x : α} (h : xs[i]? = some x) : f x ≤ sm f xs := by
  have h1 := sm_take (f := f) h
  have h2 := sm_le (f := f) (xs := xs) (i + 1)
  omega
def KInt : World → Nat → Nat → List Value → Prop := fun W B E u => ∃ x, u = [.int .i64 x]
def KStr : World → Nat → Nat → List Value → Prop := fun W B E u => ∃ x, u = [.string x]
theorem KStr.of {W : World} {B : Nat} {x : ByteArray} {u : List Value} (h : RStr W B x u) : KStr W B W.heap.size u := ⟨_, h.1⟩
set_option maxHeartbeats 8000000 in
theorem markStringS_of (l : Nat) (v : Value) (w : World) (B E : Nat) (hl : l ≤ 1048576) (hK : KS 1 KStr w B E l v) (hN : NF B w) (V : World) (z : Int) (h0 : 0 ≤ z) (h1 : z ≤ 20000000000000000) (hM : MK B E w V) :
    Calls Tryz.prog 42 #[v, .int .i64 z] V fun e w' => (∃ z' : Int, e = .returned (.int .i64 z') ∧ 0 ≤ z' ∧ z' ≤ z + (l : Int) * 1) ∧ MK B E V w' := by
  obtain ⟨a, c, rfl, hw⟩ := hK
  have HM := hide hM
  have HW := hide hw
  clear hM hw
  go_enter Tryz.func42, Tryz.ntmps42
  go_wp2
  go_loopw [1, 5] (fun kv i wr => ∃ (j : Nat) (y : Int), j ≤ l ∧ i = .int .i64 j ∧ kv = .int .i64 y ∧ 0 ≤ y ∧ y ≤ z + (j : Int) * 1 ∧ MK B E V wr) (fun _ i _ => l - (intOf i).toNat)
  case atStart => exact ⟨0, z, Nat.zero_le _, rfl, rfl, h0, by omega, .refl _ _ _⟩
  case round =>
    obtain ⟨j, y, hj, rfl, rfl, y0, y1, hM⟩ := hrel
    by_cases hjl : j < l
    · obtain ⟨b, o, rfl, hB, hE, he⟩ := unhide HW (by omega)
      obtain ⟨u, hul, hat, x0, rfl⟩ := he j hjl
      obtain ⟨q0, c0, s0, f0⟩ := ((unhide HM).trans hM).cell hN (hat.get (j := 0) rfl) hB
      obtain ⟨t0, rfl⟩ := s0.string
      simp only [Nat.add_zero, Nat.mul_one] at c0 f0
      have HM0 := hide hM
      have i1 : (j : Int) < (l : Int) := by omega
      have MT := hide markTz
      clear he hat hul HW hM s0
      go_wp2_with (first
        | (go_at_call 74; refine (unhide MT _ _ (by omega) (by omega)).mono ?_; rintro e V1 ⟨⟨m1, rfl, hm1⟩, hb1⟩; have HM1 := hide (MK.later (unhide HM0) hb1); have d1_0 := cell_later hb1 c0; have g1_0 := frozen_later hb1 c0 (by simpa using f0); clear hb1))
      exact ⟨⟨j + 1, _, by omega, by go_num, rfl, by omega, by omega, (MK.set (unhide HM1) d1_0 _ (SK.strings _ _) hB hE)⟩, by simp [intOf]; omega⟩
    · obtain rfl : j = l := by omega
      have HM0 := hide hM
      clear hM HW
      go_wp2
      go_ret
      exact ⟨⟨y, rfl, y0, by omega⟩, unhide HM0⟩
theorem KInt.of {W : World} {B : Nat} {x : Int} {u : List Value} (h : RInt W B x u) : KInt W B W.heap.size u := ⟨_, h⟩
set_option maxHeartbeats 8000000 in
theorem markIntS_of (l : Nat) (v : Value) (w : World) (B E : Nat) (hl : l ≤ 1048576) (hK : KS 1 KInt w B E l v) (hN : NF B w) (V : World) (z : Int) (h0 : 0 ≤ z) (h1 : z ≤ 20000000000000000) (hM : MK B E w V) :
    Calls Tryz.prog 75 #[v, .int .i64 z] V fun e w' => (∃ z' : Int, e = .returned (.int .i64 z') ∧ 0 ≤ z' ∧ z' ≤ z + (l : Int) * 1) ∧ MK B E V w' := by
  obtain ⟨a, c, rfl, hw⟩ := hK
  have HM := hide hM
  have HW := hide hw
  clear hM hw
  go_enter Tryz.func75, Tryz.ntmps75
  go_wp2
  go_loopw [1, 5] (fun kv i wr => ∃ (j : Nat) (y : Int), j ≤ l ∧ i = .int .i64 j ∧ kv = .int .i64 y ∧ 0 ≤ y ∧ y ≤ z + (j : Int) * 1 ∧ MK B E V wr) (fun _ i _ => l - (intOf i).toNat)
  case atStart => exact ⟨0, z, Nat.zero_le _, rfl, rfl, h0, by omega, .refl _ _ _⟩
  case round =>
    obtain ⟨j, y, hj, rfl, rfl, y0, y1, hM⟩ := hrel
    by_cases hjl : j < l
    · obtain ⟨b, o, rfl, hB, hE, he⟩ := unhide HW (by omega)
      obtain ⟨u, hul, hat, x0, rfl⟩ := he j hjl
      obtain ⟨q0, c0, s0, f0⟩ := ((unhide HM).trans hM).cell hN (hat.get (j := 0) rfl) hB
      obtain ⟨t0, rfl⟩ := s0.int
      simp only [Nat.add_zero, Nat.mul_one] at c0 f0
      have HM0 := hide hM
      have i1 : (j : Int) < (l : Int) := by omega
      clear he hat hul HW hM s0
      go_wp2
      exact ⟨⟨j + 1, _, by omega, by go_num, rfl, by omega, by omega, (MK.set (unhide HM0) c0 _ (SK.ints _ _ _) hB hE)⟩, by simp [intOf]; omega⟩
    · obtain rfl : j = l := by omega
      have HM0 := hide hM
      clear hM HW
      go_wp2
      go_ret
      exact ⟨⟨y, rfl, y0, by omega⟩, unhide HM0⟩
def KBlock : World → Nat → Nat → List Value → Prop := fun W B E u => ∃ (x0 : ByteArray) (x1 : Value) (x2 : Int) (x3 : Bool) (x4 : Int) (x5 : Int) (l1 : Nat), u = [.string x0, x1, .int .i64 x2, .bool x3, .int .i64 x4, .int .i64 x5] ∧ l1 ≤ 1048576 ∧ KS 1 KInt W B E l1 x1
theorem KBlock.of {W : World} {B : Nat} {x : Block} {u : List Value} (h : RBlock W B x u) (hz : szBlock x ≤ 1048576) : KBlock W B W.heap.size u := by
  obtain ⟨v1, rfl, bname, r1⟩ := h
  have hsz : szBlock x = x.name.size + szL (fun (_ : Int) => 0) x.inp := rfl
  have hl1 := szL_sm (fun (_ : Int) => 0) x.inp
  exact ⟨_, _, _, _, _, _, _, rfl, by omega, KS.of (by decide) r1 (fun i x u hx h => KInt.of h)⟩
set_option maxHeartbeats 8000000 in
theorem markBlockS_of (l : Nat) (v : Value) (w : World) (B E : Nat) (hl : l ≤ 1048576) (hK : KS 6 KBlock w B E l v) (hN : NF B w) (V : World) (z : Int) (h0 : 0 ≤ z) (h1 : z ≤ 10000000000000000) (hM : MK B E w V) :
    Calls Tryz.prog 43 #[v, .int .i64 z] V fun e w' => (∃ z' : Int, e = .returned (.int .i64 z') ∧ 0 ≤ z' ∧ z' ≤ z + (l : Int) * 1048581) ∧ MK B E V w' := by
  obtain ⟨a, c, rfl, hw⟩ := hK
  have HM := hide hM
  have HW := hide hw
  clear hM hw
  go_enter Tryz.func43, Tryz.ntmps43
  go_wp2
  go_loopw [1, 5] (fun kv i wr => ∃ (j : Nat) (y : Int), j ≤ l ∧ i = .int .i64 j ∧ kv = .int .i64 y ∧ 0 ≤ y ∧ y ≤ z + (j : Int) * 1048581 ∧ MK B E V wr) (fun _ i _ => l - (intOf i).toNat)
  case atStart => exact ⟨0, z, Nat.zero_le _, rfl, rfl, h0, by omega, .refl _ _ _⟩
  case round =>
    obtain ⟨j, y, hj, rfl, rfl, y0, y1, hM⟩ := hrel
    by_cases hjl : j < l
    · obtain ⟨b, o, rfl, hB, hE, he⟩ := unhide HW (by omega)
      obtain ⟨u, hul, hat, x0, x1, x2, x3, x4, x5, l1, rfl, hl1, hk1⟩ := he j hjl
      obtain ⟨a1, cc1, rfl, hw1⟩ := hk1
      have HK1 := hide (show KS 1 KInt w B E l1 (.slice a1 l1 cc1) from ⟨a1, cc1, rfl, hw1⟩)
      clear hw1
      obtain ⟨q0, c0, s0, f0⟩ := ((unhide HM).trans hM).cell hN (hat.get (j := 0) rfl) hB
      obtain ⟨t0, rfl⟩ := s0.string
      obtain ⟨q1, c1, s1, f1⟩ := ((unhide HM).trans hM).cell hN (hat.get (j := 1) rfl) hB
      obtain rfl := s1.slice
      obtain ⟨q2, c2, s2, f2⟩ := ((unhide HM).trans hM).cell hN (hat.get (j := 2) rfl) hB
      obtain ⟨t2, rfl⟩ := s2.int
      obtain ⟨q3, c3, s3, f3⟩ := ((unhide HM).trans hM).cell hN (hat.get (j := 3) rfl) hB
      obtain ⟨t3, rfl⟩ := s3.bool
      obtain ⟨q4, c4, s4, f4⟩ := ((unhide HM).trans hM).cell hN (hat.get (j := 4) rfl) hB
      obtain ⟨t4, rfl⟩ := s4.int
      obtain ⟨q5, c5, s5, f5⟩ := ((unhide HM).trans hM).cell hN (hat.get (j := 5) rfl) hB
      obtain ⟨t5, rfl⟩ := s5.int
      simp only [Nat.add_zero] at c0 f0
      have HM0 := hide hM
      have i1 : (j : Int) < (l : Int) := by omega
      have MT := hide markTz
      have HAT := hide hat
      clear he hat hul HW hM s0 s1 s2 s3 s4 s5
      go_wp2_with (first
        | (have hq2 := HM1; go_at_call 75; refine (markIntS_of l1 _ w B E hl1 (unhide HK1) hN _ _ (by omega) (by omega) (MK.trans (unhide HM) (MK.set (unhide HM1) d1_0 _ (SK.strings _ _) hB hE))).mono ?_; rintro e V2 ⟨⟨z1, rfl, z10, z11⟩, hM2⟩; have HM2 := hide (MK.trans (MK.set (unhide HM1) d1_0 _ (SK.strings _ _) hB hE) hM2); clear hM2; obtain ⟨q2_2, d2_2, s2_2, g2_2⟩ := ((unhide HM).trans (unhide HM2)).cell hN ((unhide HAT).get (j := 2) rfl) hB; obtain ⟨t2_2, rfl⟩ := s2_2.int; clear s2_2; obtain ⟨q2_3, d2_3, s2_3, g2_3⟩ := ((unhide HM).trans (unhide HM2)).cell hN ((unhide HAT).get (j := 3) rfl) hB; obtain ⟨t2_3, rfl⟩ := s2_3.bool; clear s2_3; obtain ⟨q2_4, d2_4, s2_4, g2_4⟩ := ((unhide HM).trans (unhide HM2)).cell hN ((unhide HAT).get (j := 4) rfl) hB; obtain ⟨t2_4, rfl⟩ := s2_4.int; clear s2_4; obtain ⟨q2_5, d2_5, s2_5, g2_5⟩ := ((unhide HM).trans (unhide HM2)).cell hN ((unhide HAT).get (j := 5) rfl) hB; obtain ⟨t2_5, rfl⟩ := s2_5.int; clear s2_5)
        | (go_at_call 74; refine (unhide MT _ _ (by omega) (by omega)).mono ?_; rintro e V1 ⟨⟨m1, rfl, hm1⟩, hb1⟩; have HM1 := hide (MK.later (unhide HM0) hb1); have d1_0 := cell_later hb1 c0; have g1_0 := frozen_later hb1 c0 (by simpa using f0); have d1_1 := cell_later hb1 c1; have g1_1 := frozen_later hb1 c1 (by simpa using f1); have d1_2 := cell_later hb1 c2; have g1_2 := frozen_later hb1 c2 (by simpa using f2); have d1_3 := cell_later hb1 c3; have g1_3 := frozen_later hb1 c3 (by simpa using f3); have d1_4 := cell_later hb1 c4; have g1_4 := frozen_later hb1 c4 (by simpa using f4); have d1_5 := cell_later hb1 c5; have g1_5 := frozen_later hb1 c5 (by simpa using f5); clear hb1))
      exact ⟨⟨j + 1, _, by omega, by go_num, rfl, by omega, by omega, (MK.set (MK.set (MK.set (MK.set (unhide HM2) d2_2 _ (SK.ints _ _ _) hB hE) (cso d2_3 (by omega)) _ (SK.bools _ _) hB hE) (cso (cso d2_4 (by omega)) (by omega)) _ (SK.ints _ _ _) hB hE) (cso (cso (cso d2_5 (by omega)) (by omega)) (by omega)) _ (SK.ints _ _ _) hB hE)⟩, by simp [intOf]; omega⟩
    · obtain rfl : j = l := by omega
      have HM0 := hide hM
      clear hM HW
      go_wp2
      go_ret
      exact ⟨⟨y, rfl, y0, by omega⟩, unhide HM0⟩
def KPort : World → Nat → Nat → List Value → Prop := fun W B E u => ∃ (x0 : ByteArray) (x1 : Int), u = [.string x0, .int .i64 x1]
theorem KPort.of {W : World} {B : Nat} {x : Port} {u : List Value} (h : RPort W B x u) : KPort W B W.heap.size u := by
  obtain ⟨rfl, bname⟩ := h
  exact ⟨_, _, rfl⟩
set_option maxHeartbeats 8000000 in
theorem markPortS_of (l : Nat) (v : Value) (w : World) (B E : Nat) (hl : l ≤ 1048576) (hK : KS 2 KPort w B E l v) (hN : NF B w) (V : World) (z : Int) (h0 : 0 ≤ z) (h1 : z ≤ 10000000000000000) (hM : MK B E w V) :
    Calls Tryz.prog 44 #[v, .int .i64 z] V fun e w' => (∃ z' : Int, e = .returned (.int .i64 z') ∧ 0 ≤ z' ∧ z' ≤ z + (l : Int) * 2) ∧ MK B E V w' := by
  obtain ⟨a, c, rfl, hw⟩ := hK
  have HM := hide hM
  have HW := hide hw
  clear hM hw
  go_enter Tryz.func44, Tryz.ntmps44
  go_wp2
  go_loopw [1, 5] (fun kv i wr => ∃ (j : Nat) (y : Int), j ≤ l ∧ i = .int .i64 j ∧ kv = .int .i64 y ∧ 0 ≤ y ∧ y ≤ z + (j : Int) * 2 ∧ MK B E V wr) (fun _ i _ => l - (intOf i).toNat)
  case atStart => exact ⟨0, z, Nat.zero_le _, rfl, rfl, h0, by omega, .refl _ _ _⟩
  case round =>
    obtain ⟨j, y, hj, rfl, rfl, y0, y1, hM⟩ := hrel
    by_cases hjl : j < l
    · obtain ⟨b, o, rfl, hB, hE, he⟩ := unhide HW (by omega)
      obtain ⟨u, hul, hat, x0, x1, rfl⟩ := he j hjl
      obtain ⟨q0, c0, s0, f0⟩ := ((unhide HM).trans hM).cell hN (hat.get (j := 0) rfl) hB
      obtain ⟨t0, rfl⟩ := s0.string
      obtain ⟨q1, c1, s1, f1⟩ := ((unhide HM).trans hM).cell hN (hat.get (j := 1) rfl) hB
      obtain ⟨t1, rfl⟩ := s1.int
      simp only [Nat.add_zero] at c0 f0
      have HM0 := hide hM
      have i1 : (j : Int) < (l : Int) := by omega
      have MT := hide markTz
      clear he hat hul HW hM s0 s1
      go_wp2_with (first
        | (go_at_call 74; refine (unhide MT _ _ (by omega) (by omega)).mono ?_; rintro e V1 ⟨⟨m1, rfl, hm1⟩, hb1⟩; have HM1 := hide (MK.later (unhide HM0) hb1); have d1_0 := cell_later hb1 c0; have g1_0 := frozen_later hb1 c0 (by simpa using f0); have d1_1 := cell_later hb1 c1; have g1_1 := frozen_later hb1 c1 (by simpa using f1); clear hb1))
      exact ⟨⟨j + 1, _, by omega, by go_num, rfl, by omega, by omega, (MK.set (MK.set (unhide HM1) d1_0 _ (SK.strings _ _) hB hE) (cso d1_1 (by omega)) _ (SK.ints _ _ _) hB hE)⟩, by simp [intOf]; omega⟩
    · obtain rfl : j = l := by omega
      have HM0 := hide hM
      clear hM HW
      go_wp2
      go_ret
      exact ⟨⟨y, rfl, y0, by omega⟩, unhide HM0⟩
set_option maxHeartbeats 8000000 in
theorem markPacked_of (x : Packed) (u : List Value) (w : World) (B : Nat) (hr : RPacked w B x u) (hz : szPacked x ≤ 1048576) (hN : NF B w) (V : World) (hM : MK B w.heap.size w V) :
    Calls Tryz.prog 13 #[.agg u.toArray, .int .i64 1] V fun e w' => (∃ z' : Int, e = .returned (.int .i64 z') ∧ 0 ≤ z' ∧ z' ≤ 1099523162113) ∧ MK B w.heap.size V w' := by
  obtain ⟨v0, v1, v2, v3, v4, rfl, r0, r1, r2, r3, r4⟩ := hr
  have hsz : szPacked x = szL (fun (s : ByteArray) => s.size) x.ins + szL (fun (s : ByteArray) => s.size) x.clocks + szL szBlock x.blocks + szL szPort x.outs + szL szPort x.checks := rfl
  have hz0 := szL_sm (fun (s : ByteArray) => s.size) x.ins
  have hz1 := szL_sm (fun (s : ByteArray) => s.size) x.clocks
  have hz2 := szL_sm szBlock x.blocks
  have hz3 := szL_sm szPort x.outs
  have hz4 := szL_sm szPort x.checks
  have HK0 := hide (KS.of (K := KStr) (by decide) r0 (fun i x u hx h => KStr.of h))
  obtain ⟨a0, c0, rfl⟩ := r0.slice
  have hl0 : x.ins.length ≤ 1048576 := by omega
  have HK1 := hide (KS.of (K := KStr) (by decide) r1 (fun i x u hx h => KStr.of h))
  obtain ⟨a1, c1, rfl⟩ := r1.slice
  have hl1 : x.clocks.length ≤ 1048576 := by omega
  have HK2 := hide (KS.of (K := KBlock) (by decide) r2 (fun i x u hx h => KBlock.of h (by have := sm_get (f := szBlock) hx; omega)))
  obtain ⟨a2, c2, rfl⟩ := r2.slice
  have hl2 : x.blocks.length ≤ 1048576 := by omega
  have HK3 := hide (KS.of (K := KPort) (by decide) r3 (fun i x u hx h => KPort.of h))
  obtain ⟨a3, c3, rfl⟩ := r3.slice
  have hl3 : x.outs.length ≤ 1048576 := by omega
  have HK4 := hide (KS.of (K := KPort) (by decide) r4 (fun i x u hx h => KPort.of h))
  obtain ⟨a4, c4, rfl⟩ := r4.slice
  have hl4 : x.checks.length ≤ 1048576 := by omega
  have HM := hide hM
  have hE := hM.size
  clear r0 hz0 r1 hz1 r2 hz2 r3 hz3 r4 hz4 hsz hz hM
  go_enter Tryz.func13, Tryz.ntmps13
  go_wp2_with (first
    | (have hq5 := HM4; go_at_call 44; refine (markPortS_of _ _ w B w.heap.size hl4 (unhide HK4) hN _ _ (by omega) (by omega) (MK.trans (unhide HM) (unhide HM4))).mono ?_; rintro e V5 ⟨⟨z5, rfl, z50, z51⟩, hM5⟩; have HM5 := hide (MK.trans (unhide HM4) hM5); have sz5 := hM5.size; have bk5 := (hM5.block V.heap.size (Array.getElem?_eq_some_iff.1 bk4).1 (.inr hE)).trans bk4; clear hM5)
    | (have hq4 := HM3; go_at_call 44; refine (markPortS_of _ _ w B w.heap.size hl3 (unhide HK3) hN _ _ (by omega) (by omega) (MK.trans (unhide HM) (unhide HM3))).mono ?_; rintro e V4 ⟨⟨z4, rfl, z40, z41⟩, hM4⟩; have HM4 := hide (MK.trans (unhide HM3) hM4); have sz4 := hM4.size; have bk4 := (hM4.block V.heap.size (Array.getElem?_eq_some_iff.1 bk3).1 (.inr hE)).trans bk3; have d4_4 : V4.cell? ⟨V.heap.size, 4, none⟩ = some (.slice a4 x.checks.length c4) := (by simp [World.cell?, bk4]); clear hM4)
    | (have hq3 := HM2; go_at_call 43; refine (markBlockS_of _ _ w B w.heap.size hl2 (unhide HK2) hN _ _ (by omega) (by omega) (MK.trans (unhide HM) (unhide HM2))).mono ?_; rintro e V3 ⟨⟨z3, rfl, z30, z31⟩, hM3⟩; have HM3 := hide (MK.trans (unhide HM2) hM3); have sz3 := hM3.size; have bk3 := (hM3.block V.heap.size (Array.getElem?_eq_some_iff.1 bk2).1 (.inr hE)).trans bk2; have d3_3 : V3.cell? ⟨V.heap.size, 3, none⟩ = some (.slice a3 x.outs.length c3) := (by simp [World.cell?, bk3]); have d3_4 : V3.cell? ⟨V.heap.size, 4, none⟩ = some (.slice a4 x.checks.length c4) := (by simp [World.cell?, bk3]); clear hM3)
    | (have hq2 := HM1; go_at_call 42; refine (markStringS_of _ _ w B w.heap.size hl1 (unhide HK1) hN _ _ (by omega) (by omega) (MK.trans (unhide HM) (unhide HM1))).mono ?_; rintro e V2 ⟨⟨z2, rfl, z20, z21⟩, hM2⟩; have HM2 := hide (MK.trans (unhide HM1) hM2); have sz2 := hM2.size; have bk2 := (hM2.block V.heap.size (Array.getElem?_eq_some_iff.1 bk1).1 (.inr hE)).trans bk1; have d2_2 : V2.cell? ⟨V.heap.size, 2, none⟩ = some (.slice a2 x.blocks.length c2) := (by simp [World.cell?, bk2]); have d2_3 : V2.cell? ⟨V.heap.size, 3, none⟩ = some (.slice a3 x.outs.length c3) := (by simp [World.cell?, bk2]); have d2_4 : V2.cell? ⟨V.heap.size, 4, none⟩ = some (.slice a4 x.checks.length c4) := (by simp [World.cell?, bk2]); clear hM2)
    | (go_at_call 42; refine (markStringS_of _ _ w B w.heap.size hl0 (unhide HK0) hN _ _ (by omega) (by omega) (MK.trans (unhide HM) (MK.later (.refl _ _ _) (bal (brf V) _)))).mono ?_; rintro e V1 ⟨⟨z1, rfl, z10, z11⟩, hM1⟩; have HM1 := hide (MK.trans (MK.later (.refl _ _ _) (bal (brf V) _)) hM1); have sz1 := hM1.size; have bk1 : V1.heap[V.heap.size]? = some (.cells #[.slice a0 x.ins.length c0, .slice a1 x.clocks.length c1, .slice a2 x.blocks.length c2, .slice a3 x.outs.length c3, .slice a4 x.checks.length c4] 36) := (hM1.block V.heap.size (by simp) (.inr hE)).trans (new_block V _); have d1_1 : V1.cell? ⟨V.heap.size, 1, none⟩ = some (.slice a1 x.clocks.length c1) := (by simp [World.cell?, bk1]); have d1_2 : V1.cell? ⟨V.heap.size, 2, none⟩ = some (.slice a2 x.blocks.length c2) := (by simp [World.cell?, bk1]); have d1_3 : V1.cell? ⟨V.heap.size, 3, none⟩ = some (.slice a3 x.outs.length c3) := (by simp [World.cell?, bk1]); have d1_4 : V1.cell? ⟨V.heap.size, 4, none⟩ = some (.slice a4 x.checks.length c4) := (by simp [World.cell?, bk1]); clear hM1))
  go_ret
  exact ⟨⟨z5, rfl, z50, by omega⟩, unhide HM5⟩
end Go.Proofs.YtdmmbhemmbgcpabGreat
namespace Go.Proofs.YtdmmbhemmbgcpabGreat
open Go.RowKit Gs
set_option linter.unusedVariables false
set_option linter.unusedSimpArgs false
set_option maxRecDepth 100000
theorem set_at {α : Type} (ms xs : List α) (y : α) {j : Nat} (ha : ms.length = j) (hj : j < xs.length) : (ms ++ xs.drop j).set j y = (ms ++ [y]) ++ xs.drop (j + 1) := by
  subst ha
  rw [List.set_append_right _ _ (Nat.le_refl _), Nat.sub_self, List.drop_eq_getElem_cons hj, List.set_cons_zero, List.append_assoc, List.singleton_append]
/-- The texts of so many marks from one on. -/
def mtxs (m n : Nat) : List ByteArray := (List.range n).map fun i => mtx (m + i)
theorem mtxs_len (m n : Nat) : (mtxs m n).length = n := by simp [mtxs]
theorem mtxs_succ (m n : Nat) : mtxs m (n + 1) = mtxs m n ++ [mtx (m + n)] := by simp [mtxs, List.range_succ]
theorem mtxs_get {m n i : Nat} (h : i < n) : (mtxs m n)[i]? = some (mtx (m + i)) := by simp [mtxs, h]
theorem OT.cell {B : Nat} {W : World} {v : Value} {xs : List ByteArray} (h : OT B W v xs) {j : Nat} (hj : j < xs.length) : ∃ g cap, v = .slice (some ⟨g, 0, none⟩) xs.length cap ∧ B ≤ g ∧ W.cell? ⟨g, j, none⟩ = some (.string (xs.getD j ByteArray.empty)) ∧ W.frozen? ⟨g, j, none⟩ = false := by
  have hc := fun g hg => World.ownsRow.cells h.1 (g := g) hg
  rcases h.1.2 with ⟨rfl, hn⟩ | ⟨g, cap, cur, rfl, hb, hg, hlc, hm, hcs, _⟩
  · omega
  · refine ⟨g, cap, rfl, hb, ?_, ?_⟩
    · have := hc g rfl j (.string xs[j]) (by rw [List.getElem?_map, List.getElem?_eq_getElem hj]; rfl)
      rw [Addr.add_lit] at this
      rw [List.getD_eq_getElem?_getD, List.getElem?_eq_getElem hj]
      simpa using this
    · simp [World.frozen?, hg]
theorem OT.set {B : Nat} {W : World} {g l c : Nat} {xs : List ByteArray} (h : OT B W (.slice (some ⟨g, 0, none⟩) l c) xs) (j : Nat) {y : ByteArray} (hy : y.size ≤ maxLen) : OT B (W.setCell ⟨g, j, none⟩ (.string y)) (.slice (some ⟨g, 0, none⟩) l c) (xs.set j y) := by
  obtain ⟨⟨h1, h2⟩, h3⟩ := h
  refine ⟨⟨by simp, ?_⟩, fun x hx => ?_⟩
  · rcases h2 with ⟨e, hn⟩ | ⟨g', cap, cur, e, hb, hg, hlc, hm, hcs, ht⟩
    · cases e
    · injection e with e1 e2 e3
      injection e1 with e1
      injection e1 with e1
      subst e1 e2 e3
      refine .inr ⟨g, _, _, by rw [List.length_set], hb, heap_setI hg, by rw [List.length_set]; exact hlc, hm, by simpa using hcs, ?_⟩
      rw [Array.toList_setIfInBounds, List.length_set, List.take_set, ht, List.map_set]
  · rcases List.mem_or_eq_of_mem_set hx with h | h
    · exact h3 x h
    · subst h; exact hy
theorem grownBy.later {W V U : World} {o : Option Nat} (h : W.grownBy V o) (hb : Below V.heap.size V U) : W.grownBy U o :=
  ⟨hb.os.trans h.os, hb.tape.trans h.tape, hb.output.trans h.output, Nat.le_trans h.size hb.size, fun k hk hn => (hb.block k (Nat.lt_of_lt_of_le hk h.size)).trans (h.block k hk hn)⟩
theorem grownBy.set {W V : World} {g : Nat} {c l k : Nat} (h : W.grownBy V (Value.slice (some ⟨g, 0, none⟩) l c).ownBlock) (v : Value) : W.grownBy (V.setCell ⟨g, k, none⟩ v) (Value.slice (some ⟨g, 0, none⟩) l c).ownBlock := by
  have hf : Fx g V (V.setCell ⟨g, k, none⟩ v) := Fx.set _ _ _ _
  exact ⟨hf.os.trans h.os, hf.tape.trans h.tape, hf.output.trans h.output, Nat.le_trans h.size hf.size, fun i hi hn => (hf.block i (Nat.lt_of_lt_of_le hi h.size) (fun e => hn (by rw [e]; rfl))).trans (h.block i hi hn)⟩
set_option maxHeartbeats 8000000 in
theorem OT.marked {B : Nat} {W : World} {v : Value} {xs : List ByteArray} (h : OT B W v xs) (hl : xs.length ≤ 1048576) (m : Nat) (hm : m ≤ 100000000000000000) :
    Calls Tryz.prog 42 #[v, .int .i64 (m : Int)] W fun e w' => e = .returned (.int .i64 ((m + xs.length : Nat) : Int)) ∧ OT B w' v (mtxs m xs.length) ∧ W.grownBy w' v.ownBlock := by
  obtain ⟨l, hll⟩ : ∃ l, xs.length = l := ⟨_, rfl⟩
  obtain ⟨a, c, rfl⟩ : ∃ a c, v = .slice a l c := by
    rcases h.1.2 with ⟨rfl, hn⟩ | ⟨g, cap, cur, rfl, _⟩
    · exact ⟨none, 0, by rw [← hll, hn]⟩
    · exact ⟨_, _, by rw [← hll]⟩
  rw [hll] at hl ⊢
  have HO := hide h
  have HLL := hide hll
  clear h hll
  go_enter Tryz.func42, Tryz.ntmps42
  go_wp2
  go_loopw [1, 5] (fun kv i wr => ∃ (j : Nat), j ≤ l ∧ i = .int .i64 j ∧ kv = .int .i64 (m + j : Nat) ∧ OT B wr (.slice a l c) (mtxs m j ++ xs.drop j) ∧ W.grownBy wr (Value.slice a l c).ownBlock) (fun _ i _ => l - (intOf i).toNat)
  case atStart => exact ⟨0, Nat.zero_le _, rfl, rfl, unhide HO, World.grownBy.refl _ _⟩
  case round =>
    obtain ⟨j, hj, rfl, rfl, ho, hb⟩ := hrel
    by_cases hjl : j < l
    · have hjx : j < xs.length := by rw [unhide HLL]; exact hjl
      obtain ⟨g, cap, e, hg, hc, hf⟩ := ho.cell (j := j) (by simp [mtxs_len]; omega)
      injection e with e1 e2 e3
      subst e1
      have HO1 := hide ho
      have HB1 := hide hb
      have i1 : (j : Int) < (l : Int) := by omega
      have MT := hide (fun V => markTx (m + j) V (by omega))
      generalize (mtxs m j ++ xs.drop j).getD j ByteArray.empty = old at hc
      clear ho hb e2 e3
      go_wp2_with (first
        | (go_at_call 74; refine (unhide MT _).mono ?_; rintro e V1 ⟨⟨rfl, hm1⟩, hb1⟩; have HB2 := hide (grownBy.later (unhide HB1) hb1); have HO2 := hide ((unhide HO1).later hb1); have HM1 := hide hm1; have d1 := cell_later hb1 hc; have g1 := frozen_later hb1 hc (by simpa using hf); clear hb1 hm1))
      have R1 := (unhide HO2).set j (y := mtx (m + j)) (by have := unhide HM1; unfold maxLen; omega)
      rw [set_at _ _ _ (mtxs_len m j) hjx, ← mtxs_succ] at R1
      exact ⟨⟨j + 1, by omega, by go_num, by first | rfl | go_num, R1, grownBy.set (unhide HB2) _⟩, by simp [intOf]; omega⟩
    · obtain rfl : j = l := by omega
      have HO1 := hide ho
      have HB1 := hide hb
      clear ho hb HO
      go_wp2
      go_ret
      have R1 := unhide HO1
      rw [← unhide HLL, List.drop_length, List.append_nil, unhide HLL] at R1
      exact ⟨by first | rfl | (congr 3; omega), R1, unhide HB1⟩
theorem strAt {W : World} {B : Nat} {xs : List ByteArray} {v : Value} (h : RS 1 RStr W B xs v) {i : Nat} (hi : i < xs.length) : ∃ b o, (∃ c, v = .slice (some ⟨b, o, none⟩) xs.length c) ∧ W.cell? ⟨b, o + i, none⟩ = some (.string (xs.getD i ByteArray.empty)) := by
  rcases h.open with ⟨rfl, _⟩ | ⟨b, o, c, hv, _, _, _, he⟩
  · simp at hi
  · obtain ⟨u, hu, hat, hux⟩ := he i xs[i] (List.getElem?_eq_getElem hi)
    unfold RStr at hux
    obtain ⟨rfl, _⟩ := hux
    refine ⟨b, o, ⟨c, hv⟩, ?_⟩
    rw [List.getD_eq_getElem?_getD, List.getElem?_eq_getElem hi]
    simpa using hat.get (j := 0) rfl
set_option maxHeartbeats 8000000 in
theorem heldT (m l : Nat) (v : Value) (w : World) (hl : l ≤ 1048576) (hm : m ≤ 100000000000000000) (h : RS 1 RStr w 0 (mtxs m l) v) :
    Calls Tryz.prog 46 #[v, .int .i64 (m : Int)] w fun e w' => e = .returned (.int .i64 ((m + l : Nat) : Int)) ∧ Below w.heap.size w w' := by
  obtain ⟨a, c, rfl⟩ := h.slice
  rw [mtxs_len] at h ⊢
  have HS := hide h
  clear h
  go_enter Tryz.func46, Tryz.ntmps46
  go_wp2
  go_loopw [1, 5] (fun kv i wr => ∃ (j : Nat), j ≤ l ∧ i = .int .i64 j ∧ kv = .int .i64 (m + j : Nat) ∧ Below w.heap.size w wr) (fun _ i _ => l - (intOf i).toNat)
  case atStart => exact ⟨0, Nat.zero_le _, rfl, rfl, Below.refl _ _⟩
  case round =>
    obtain ⟨j, hj, rfl, rfl, hb⟩ := hrel
    by_cases hjl : j < l
    · obtain ⟨b, o, ⟨c', hv⟩, hc⟩ := strAt (unhide HS) (i := j) (by rw [mtxs_len]; exact hjl)
      obtain rfl : a = some ⟨b, o, none⟩ := by injection hv
      clear hv
      rw [List.getD_eq_getElem?_getD, mtxs_get hjl] at hc
      have m0 := cell_later hb hc
      have HB1 := hide hb
      have i1 : (j : Int) < (l : Int) := by omega
      have MT := hide (fun V => markTx (m + j) V (by omega))
      simp only [Option.getD_some] at m0
      generalize mtx (m + j) = y at *
      clear hb hc HS
      go_wp2
      go_region_held3 (fun V => V.cell? ⟨b, o + j, none⟩ = some (.string y) ∧ Below w.heap.size w V)
        (first | (exact ⟨m0, bdr (unhide HB1)⟩) | (exact ⟨cell_later hb1 (by assumption : _ ∧ _).1, btr (by assumption : _ ∧ _).2 hb1⟩))
        (first | (go_at_call 74; refine (unhide MT _).mono ?_; rintro e V1 ⟨⟨rfl, hm1⟩, hb1⟩))
      rename_i hH
      have HB2 := hide hH.2
      clear hH
      go_wp2
      exact ⟨⟨j + 1, by omega, by go_num, by first | rfl | go_num, unhide HB2⟩, by simp [intOf]; omega⟩
    · obtain rfl : j = l := by omega
      have HB1 := hide hb
      clear hb HS
      go_wp2
      go_ret
      exact ⟨by first | rfl | (congr 3; omega), unhide HB1⟩
end Go.Proofs.YtdmmbhemmbgcpabGreat
