/- The law's mark functions: what they write keeps each cell's kind. -/
import Derived.Test.YtjbbjgoofenkpaaRT12
import Derived.Test.YtjbbjgoofenkpaaRT14
import Derived.Test.YtjbbjgoofenkpaaDD
namespace Go.Proofs.Ytjbbjgoofenkpaa
open Go.RowKit Gs
set_option linter.unusedVariables false
set_option maxRecDepth 100000
theorem cso {W : World} {b o p : Nat} {v y : Value} (h : W.cell? ⟨b, p, none⟩ = some y) (hne : o ≠ p) : (W.setCell ⟨b, o, none⟩ v).cell? ⟨b, p, none⟩ = some y := by
  rw [World.cell?_setCell_other (w := W) (a := ⟨b, o, none⟩) (b := ⟨b, p, none⟩) (v := v) (ne_addr (.inr hne.symm))]
  exact h
theorem new_block (w : World) (o : Obj) : (w.alloc o).heap[w.heap.size]? = some o := by
  show (w.heap.push o)[w.heap.size]? = some o
  simp
theorem markTz (z : Int) (V : World) (h0 : 0 ≤ z) (h1 : z < 1000000000000000000) :
    Calls Try.prog 30 #[.int .i64 z] V fun e w' => (∃ s : ByteArray, e = .returned (.string s) ∧ s.size ≤ 64) ∧ Below V.heap.size V w' := by
  obtain ⟨k, rfl⟩ : ∃ k : Nat, z = (k : Int) := ⟨z.toNat, by omega⟩
  exact markT k V (by omega)
theorem KS.of {α : Type} {k : Nat} {R : Rd α} {K : World → Nat → Nat → List Value → Prop} {W : World} {B : Nat} {xs : List α} {v : Value} (hk : 0 < k) (h : RS k R W B xs v) (hR : ∀ (i : Nat) (x : α) (u : List Value), xs[i]? = some x → R W B x u → K W B W.heap.size u) : KS k K W B W.heap.size xs.length v := by
  obtain ⟨a, c, hv, h1, h2, h3⟩ := h
  refine ⟨a, c, hv, fun hne => ?_⟩
  obtain ⟨b, o, ha, hb, he⟩ := h3 (fun e => hne (by rw [e]; rfl))
  refine ⟨b, o, ha, hb, ?_, fun i hi => ?_⟩
  · obtain ⟨u, hl, hat, _⟩ := he 0 _ (List.getElem?_eq_getElem (by omega))
    have h0 : u[0]? = some u[0] := List.getElem?_eq_getElem (by omega)
    exact World.block_lt_of_cell? W _ (hat 0 _ h0)
  · obtain ⟨u, hl, hat, hr⟩ := he i _ (List.getElem?_eq_getElem hi)
    exact ⟨u, hl, hat, hR i _ u (List.getElem?_eq_getElem hi) hr⟩
theorem sm_get {α : Type} {f : α → Nat} {xs : List α} {i : Nat} {x : α} (h : xs[i]? = some x) : f x ≤ sm f xs := by
  have h1 := sm_take (f := f) h
  have h2 := sm_le (f := f) (xs := xs) (i + 1)
  omega
def KInt : World → Nat → Nat → List Value → Prop := fun W B E u => ∃ x, u = [.int .i64 x]
def KStr : World → Nat → Nat → List Value → Prop := fun W B E u => ∃ x, u = [.string x]
theorem KStr.of {W : World} {B : Nat} {x : ByteArray} {u : List Value} (h : RStr W B x u) : KStr W B W.heap.size u := ⟨_, h.1⟩
set_option maxHeartbeats 8000000 in
theorem markStringS_of (l : Nat) (v : Value) (w : World) (B E : Nat) (hl : l ≤ 1048576) (hK : KS 1 KStr w B E l v) (hN : NF B w) (V : World) (z : Int) (h0 : 0 ≤ z) (h1 : z ≤ 20000000000000000) (hM : MK B E w V) :
    Calls Try.prog 14 #[v, .int .i64 z] V fun e w' => (∃ z' : Int, e = .returned (.int .i64 z') ∧ 0 ≤ z' ∧ z' ≤ z + (l : Int) * 1) ∧ MK B E V w' := by
  obtain ⟨a, c, rfl, hw⟩ := hK
  have HM := hide hM
  have HW := hide hw
  clear hM hw
  go_enter Try.func14, Try.ntmps14
  go_wp2
  go_loopw [1, 5] (fun kv i wr => ∃ (j : Nat) (y : Int), j ≤ l ∧ i = .int .i64 j ∧ kv = .int .i64 y ∧ 0 ≤ y ∧ y ≤ z + (j : Int) * 1 ∧ MK B E V wr) (fun _ i _ => l - (intOf i).toNat)
  case atStart => exact ⟨0, z, Nat.zero_le _, rfl, rfl, h0, by omega, .refl _ _ _⟩
  case round =>
    obtain ⟨j, y, hj, rfl, rfl, y0, y1, hM⟩ := hrel
    by_cases hjl : j < l
    · obtain ⟨b, o, rfl, hB, hE, he⟩ := unhide HW (by omega)
      obtain ⟨u, hul, hat, x0, rfl⟩ := he j hjl
      obtain ⟨q0, c0, s0, f0⟩ := ((unhide HM).trans hM).cell hN (hat.get (j := 0) rfl) hB
      obtain ⟨t0, rfl⟩ := s0.string
      simp only [Nat.add_zero, Nat.mul_one] at c0 f0
      have HM0 := hide hM
      have i1 : (j : Int) < (l : Int) := by omega
      have MT := hide markTz
      clear he hat hul HW hM s0
      go_wp2_with (first
        | (go_at_call 30; refine (unhide MT _ _ (by omega) (by omega)).mono ?_; rintro e V1 ⟨⟨m1, rfl, hm1⟩, hb1⟩; have HM1 := hide (MK.later (unhide HM0) hb1); have d1_0 := cell_later hb1 c0; have g1_0 := frozen_later hb1 c0 (by simpa using f0); clear hb1))
      exact ⟨⟨j + 1, _, by omega, by go_num, rfl, by omega, by omega, (MK.set (unhide HM1) d1_0 _ (SK.strings _ _) hB hE)⟩, by simp [intOf]; omega⟩
    · obtain rfl : j = l := by omega
      have HM0 := hide hM
      clear hM HW
      go_wp2
      go_ret
      exact ⟨⟨y, rfl, y0, by omega⟩, unhide HM0⟩
theorem KInt.of {W : World} {B : Nat} {x : Int} {u : List Value} (h : RInt W B x u) : KInt W B W.heap.size u := ⟨_, h⟩
set_option maxHeartbeats 8000000 in
theorem markIntS_of (l : Nat) (v : Value) (w : World) (B E : Nat) (hl : l ≤ 1048576) (hK : KS 1 KInt w B E l v) (hN : NF B w) (V : World) (z : Int) (h0 : 0 ≤ z) (h1 : z ≤ 20000000000000000) (hM : MK B E w V) :
    Calls Try.prog 13 #[v, .int .i64 z] V fun e w' => (∃ z' : Int, e = .returned (.int .i64 z') ∧ 0 ≤ z' ∧ z' ≤ z + (l : Int) * 1) ∧ MK B E V w' := by
  obtain ⟨a, c, rfl, hw⟩ := hK
  have HM := hide hM
  have HW := hide hw
  clear hM hw
  go_enter Try.func13, Try.ntmps13
  go_wp2
  go_loopw [1, 5] (fun kv i wr => ∃ (j : Nat) (y : Int), j ≤ l ∧ i = .int .i64 j ∧ kv = .int .i64 y ∧ 0 ≤ y ∧ y ≤ z + (j : Int) * 1 ∧ MK B E V wr) (fun _ i _ => l - (intOf i).toNat)
  case atStart => exact ⟨0, z, Nat.zero_le _, rfl, rfl, h0, by omega, .refl _ _ _⟩
  case round =>
    obtain ⟨j, y, hj, rfl, rfl, y0, y1, hM⟩ := hrel
    by_cases hjl : j < l
    · obtain ⟨b, o, rfl, hB, hE, he⟩ := unhide HW (by omega)
      obtain ⟨u, hul, hat, x0, rfl⟩ := he j hjl
      obtain ⟨q0, c0, s0, f0⟩ := ((unhide HM).trans hM).cell hN (hat.get (j := 0) rfl) hB
      obtain ⟨t0, rfl⟩ := s0.int
      simp only [Nat.add_zero, Nat.mul_one] at c0 f0
      have HM0 := hide hM
      have i1 : (j : Int) < (l : Int) := by omega
      clear he hat hul HW hM s0
      go_wp2
      exact ⟨⟨j + 1, _, by omega, by go_num, rfl, by omega, by omega, (MK.set (unhide HM0) c0 _ (SK.ints _ _ _) hB hE)⟩, by simp [intOf]; omega⟩
    · obtain rfl : j = l := by omega
      have HM0 := hide hM
      clear hM HW
      go_wp2
      go_ret
      exact ⟨⟨y, rfl, y0, by omega⟩, unhide HM0⟩
def KIntS : World → Nat → Nat → List Value → Prop := fun W B E u => ∃ (x0 : Value) (l0 : Nat), u = [x0] ∧ l0 ≤ 1048576 ∧ KS 1 KInt W B E l0 x0
theorem KIntS.of {W : World} {B : Nat} {x : (List Int)} {u : List Value} (h : RIntS W B x u) (hz : szIntS x ≤ 1048576) : KIntS W B W.heap.size u := by
  obtain ⟨v0, rfl, r0⟩ := h
  have hsz : szIntS x = szL (fun (_ : Int) => 0) x := rfl
  have hl0 := szL_sm (fun (_ : Int) => 0) x
  exact ⟨_, _, rfl, by omega, KS.of (by decide) r0 (fun i x u hx h => KInt.of h)⟩
set_option maxHeartbeats 8000000 in
theorem markIntSS_of (l : Nat) (v : Value) (w : World) (B E : Nat) (hl : l ≤ 1048576) (hK : KS 1 KIntS w B E l v) (hN : NF B w) (V : World) (z : Int) (h0 : 0 ≤ z) (h1 : z ≤ 10000000000000000) (hM : MK B E w V) :
    Calls Try.prog 28 #[v, .int .i64 z] V fun e w' => (∃ z' : Int, e = .returned (.int .i64 z') ∧ 0 ≤ z' ∧ z' ≤ z + (l : Int) * 1048576) ∧ MK B E V w' := by
  obtain ⟨a, c, rfl, hw⟩ := hK
  have HM := hide hM
  have HW := hide hw
  clear hM hw
  go_enter Try.func28, Try.ntmps28
  go_wp2
  go_loopw [1, 5] (fun kv i wr => ∃ (j : Nat) (y : Int), j ≤ l ∧ i = .int .i64 j ∧ kv = .int .i64 y ∧ 0 ≤ y ∧ y ≤ z + (j : Int) * 1048576 ∧ MK B E V wr) (fun _ i _ => l - (intOf i).toNat)
  case atStart => exact ⟨0, z, Nat.zero_le _, rfl, rfl, h0, by omega, .refl _ _ _⟩
  case round =>
    obtain ⟨j, y, hj, rfl, rfl, y0, y1, hM⟩ := hrel
    by_cases hjl : j < l
    · obtain ⟨b, o, rfl, hB, hE, he⟩ := unhide HW (by omega)
      obtain ⟨u, hul, hat, x0, l0, rfl, hl0, hk0⟩ := he j hjl
      obtain ⟨a0, cc0, rfl, hw0⟩ := hk0
      have HK0 := hide (show KS 1 KInt w B E l0 (.slice a0 l0 cc0) from ⟨a0, cc0, rfl, hw0⟩)
      clear hw0
      obtain ⟨q0, c0, s0, f0⟩ := ((unhide HM).trans hM).cell hN (hat.get (j := 0) rfl) hB
      obtain rfl := s0.slice
      simp only [Nat.add_zero, Nat.mul_one] at c0 f0
      have HM0 := hide hM
      have i1 : (j : Int) < (l : Int) := by omega
      clear he hat hul HW hM s0
      go_wp2_with (first
        | (go_at_call 13; refine (markIntS_of l0 _ w B E hl0 (unhide HK0) hN _ _ (by omega) (by omega) (MK.trans (unhide HM) (unhide HM0))).mono ?_; rintro e V1 ⟨⟨z0, rfl, z00, z01⟩, hM1⟩; have HM1 := hide (MK.trans (unhide HM0) hM1); clear hM1))
      exact ⟨⟨j + 1, _, by omega, by go_num, rfl, by omega, by omega, (unhide HM1)⟩, by simp [intOf]; omega⟩
    · obtain rfl : j = l := by omega
      have HM0 := hide hM
      clear hM HW
      go_wp2
      go_ret
      exact ⟨⟨y, rfl, y0, by omega⟩, unhide HM0⟩
def KStringS : World → Nat → Nat → List Value → Prop := fun W B E u => ∃ (x0 : Value) (l0 : Nat), u = [x0] ∧ l0 ≤ 1048576 ∧ KS 1 KStr W B E l0 x0
theorem KStringS.of {W : World} {B : Nat} {x : (List ByteArray)} {u : List Value} (h : RStringS W B x u) (hz : szStringS x ≤ 1048576) : KStringS W B W.heap.size u := by
  obtain ⟨v0, rfl, r0⟩ := h
  have hsz : szStringS x = szL (fun (s : ByteArray) => s.size) x := rfl
  have hl0 := szL_sm (fun (s : ByteArray) => s.size) x
  exact ⟨_, _, rfl, by omega, KS.of (by decide) r0 (fun i x u hx h => KStr.of h)⟩
set_option maxHeartbeats 8000000 in
theorem markStringSS_of (l : Nat) (v : Value) (w : World) (B E : Nat) (hl : l ≤ 1048576) (hK : KS 1 KStringS w B E l v) (hN : NF B w) (V : World) (z : Int) (h0 : 0 ≤ z) (h1 : z ≤ 10000000000000000) (hM : MK B E w V) :
    Calls Try.prog 29 #[v, .int .i64 z] V fun e w' => (∃ z' : Int, e = .returned (.int .i64 z') ∧ 0 ≤ z' ∧ z' ≤ z + (l : Int) * 1048576) ∧ MK B E V w' := by
  obtain ⟨a, c, rfl, hw⟩ := hK
  have HM := hide hM
  have HW := hide hw
  clear hM hw
  go_enter Try.func29, Try.ntmps29
  go_wp2
  go_loopw [1, 5] (fun kv i wr => ∃ (j : Nat) (y : Int), j ≤ l ∧ i = .int .i64 j ∧ kv = .int .i64 y ∧ 0 ≤ y ∧ y ≤ z + (j : Int) * 1048576 ∧ MK B E V wr) (fun _ i _ => l - (intOf i).toNat)
  case atStart => exact ⟨0, z, Nat.zero_le _, rfl, rfl, h0, by omega, .refl _ _ _⟩
  case round =>
    obtain ⟨j, y, hj, rfl, rfl, y0, y1, hM⟩ := hrel
    by_cases hjl : j < l
    · obtain ⟨b, o, rfl, hB, hE, he⟩ := unhide HW (by omega)
      obtain ⟨u, hul, hat, x0, l0, rfl, hl0, hk0⟩ := he j hjl
      obtain ⟨a0, cc0, rfl, hw0⟩ := hk0
      have HK0 := hide (show KS 1 KStr w B E l0 (.slice a0 l0 cc0) from ⟨a0, cc0, rfl, hw0⟩)
      clear hw0
      obtain ⟨q0, c0, s0, f0⟩ := ((unhide HM).trans hM).cell hN (hat.get (j := 0) rfl) hB
      obtain rfl := s0.slice
      simp only [Nat.add_zero, Nat.mul_one] at c0 f0
      have HM0 := hide hM
      have i1 : (j : Int) < (l : Int) := by omega
      clear he hat hul HW hM s0
      go_wp2_with (first
        | (go_at_call 14; refine (markStringS_of l0 _ w B E hl0 (unhide HK0) hN _ _ (by omega) (by omega) (MK.trans (unhide HM) (unhide HM0))).mono ?_; rintro e V1 ⟨⟨z0, rfl, z00, z01⟩, hM1⟩; have HM1 := hide (MK.trans (unhide HM0) hM1); clear hM1))
      exact ⟨⟨j + 1, _, by omega, by go_num, rfl, by omega, by omega, (unhide HM1)⟩, by simp [intOf]; omega⟩
    · obtain rfl : j = l := by omega
      have HM0 := hide hM
      clear hM HW
      go_wp2
      go_ret
      exact ⟨⟨y, rfl, y0, by omega⟩, unhide HM0⟩
set_option maxHeartbeats 8000000 in
theorem markFsm_of (x : Fsm) (u : List Value) (w : World) (B : Nat) (hr : RFsm w B x u) (hz : szFsm x ≤ 1048576) (hN : NF B w) (V : World) (hM : MK B w.heap.size w V) :
    Calls Try.prog 12 #[.agg u.toArray, .int .i64 1] V fun e w' => (∃ z' : Int, e = .returned (.int .i64 z') ∧ 0 ≤ z' ∧ z' ≤ 2199024304129) ∧ MK B w.heap.size V w' := by
  obtain ⟨v2, v3, v4, rfl, r2, r3, r4⟩ := hr
  have hsz : szFsm x = szL (fun (s : ByteArray) => s.size) x.states + szL szIntS x.next + szL szStringS x.outs := rfl
  have hz2 := szL_sm (fun (s : ByteArray) => s.size) x.states
  have hz3 := szL_sm szIntS x.next
  have hz4 := szL_sm szStringS x.outs
  have HK2 := hide (KS.of (K := KStr) (by decide) r2 (fun i x u hx h => KStr.of h))
  obtain ⟨a2, c2, rfl⟩ := r2.slice
  have hl2 : x.states.length ≤ 1048576 := by omega
  have HK3 := hide (KS.of (K := KIntS) (by decide) r3 (fun i x u hx h => KIntS.of h (by have := sm_get (f := szIntS) hx; omega)))
  obtain ⟨a3, c3, rfl⟩ := r3.slice
  have hl3 : x.next.length ≤ 1048576 := by omega
  have HK4 := hide (KS.of (K := KStringS) (by decide) r4 (fun i x u hx h => KStringS.of h (by have := sm_get (f := szStringS) hx; omega)))
  obtain ⟨a4, c4, rfl⟩ := r4.slice
  have hl4 : x.outs.length ≤ 1048576 := by omega
  have HM := hide hM
  have hE := hM.size
  clear r2 hz2 r3 hz3 r4 hz4 hsz hz hM
  go_enter Try.func12, Try.ntmps12
  go_wp2_with (first
    | (have hq3 := HM2; go_at_call 29; refine (markStringSS_of _ _ w B w.heap.size hl4 (unhide HK4) hN _ _ (by omega) (by omega) (MK.trans (unhide HM) (unhide HM2))).mono ?_; rintro e V3 ⟨⟨z3, rfl, z30, z31⟩, hM3⟩; have HM3 := hide (MK.trans (unhide HM2) hM3); have sz3 := hM3.size; have bk3 := (hM3.block V.heap.size (Array.getElem?_eq_some_iff.1 bk2).1 (.inr hE)).trans bk2; clear hM3)
    | (have hq2 := HM1; go_at_call 28; refine (markIntSS_of _ _ w B w.heap.size hl3 (unhide HK3) hN _ _ (by omega) (by omega) (MK.trans (unhide HM) (unhide HM1))).mono ?_; rintro e V2 ⟨⟨z2, rfl, z20, z21⟩, hM2⟩; have HM2 := hide (MK.trans (unhide HM1) hM2); have sz2 := hM2.size; have bk2 := (hM2.block V.heap.size (Array.getElem?_eq_some_iff.1 bk1).1 (.inr hE)).trans bk1; have d2_4 : V2.cell? ⟨V.heap.size, 4, none⟩ = some (.slice a4 x.outs.length c4) := (by simp [World.cell?, bk2]); clear hM2)
    | (go_at_call 14; refine (markStringS_of _ _ w B w.heap.size hl2 (unhide HK2) hN _ _ (by omega) (by omega) (MK.trans (unhide HM) (MK.later (.refl _ _ _) (bal (brf V) _)))).mono ?_; rintro e V1 ⟨⟨z1, rfl, z10, z11⟩, hM1⟩; have HM1 := hide (MK.trans (MK.later (.refl _ _ _) (bal (brf V) _)) hM1); have sz1 := hM1.size; have bk1 : V1.heap[V.heap.size]? = some (.cells #[.int .i64 x.ins, .int .i64 x.outBits, .slice a2 x.states.length c2, .slice a3 x.next.length c3, .slice a4 x.outs.length c4] 31) := (hM1.block V.heap.size (by simp) (.inr hE)).trans (new_block V _); have d1_3 : V1.cell? ⟨V.heap.size, 3, none⟩ = some (.slice a3 x.next.length c3) := (by simp [World.cell?, bk1]); have d1_4 : V1.cell? ⟨V.heap.size, 4, none⟩ = some (.slice a4 x.outs.length c4) := (by simp [World.cell?, bk1]); clear hM1))
  go_ret
  exact ⟨⟨z3, rfl, z30, by omega⟩, unhide HM3⟩
end Go.Proofs.Ytjbbjgoofenkpaa
