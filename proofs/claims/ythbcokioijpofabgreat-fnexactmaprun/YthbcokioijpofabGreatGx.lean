/- The specification's l01Fill: so many letters. -/
import Derived.Test.YthbcokioijpofabGreatBase
import Derived.Laws.BitsAllLaws
import Derived.Test.YthbcokioijpofabGreatGS2
import Derived.Test.YthbcokioijpofabGreatRT14
import Derived.Test.YthbcokioijpofabGreatDD
namespace Go.Proofs.YthbcokioijpofabGreat
open Go.RowKit
theorem L_append (a b : ByteArray) : L (a ++ b) = L a ++ L b := by
  unfold L
  rw [ByteArray.data_append, Array.toList_append]
theorem one_string (c : Int) (x : UInt8) (h : c = (x.toNat : Int)) (W : World) : (convert 153 9 (.slice (some ⟨W.heap.size, 0, none⟩) 1 1)).run Tryz.prog (W.alloc (.cells #[.int .u8 c] 5)) = .ok (.string (S [x])) (W.alloc (.cells #[.int .u8 c] 5)) := by
  subst h
  refine run_convert_bytes_back (P := Tryz.prog) _ 153 9 5 ⟨W.heap.size, 0, none⟩ 1 [x] (by kernel_rfl) (by kernel_rfl) (by kernel_rfl) ?_
  intro j hj
  have : j = 0 := by simp at hj; omega
  subst this
  rw [Addr.add_lit, World.cell?_alloc_new]; rfl
theorem S_snoc (l : List UInt8) (c : UInt8) : S l ++ S [c] = S (l ++ [c]) := by
  apply L_inj; rw [L_append, L_S, L_S, L_S]
end Go.Proofs.YthbcokioijpofabGreat
namespace Go.Proofs.YthbcokioijpofabGreat
open Go.RowKit Gs
set_option linter.unusedVariables false
set_option linter.unusedSimpArgs false
set_option maxRecDepth 100000
/-- The digits of a number, ahead of a text. -/
def digs : Nat → Nat → ByteArray → ByteArray
  | 0, _, acc => acc
  | f + 1, k, acc => if k = 0 then acc else digs f (k / 10) (S [UInt8.ofNat (48 + k % 10)] ++ acc)
/-- The text of a mark. -/
def mtx (k : Nat) : ByteArray := if k = 0 then ⟨#[109, 48]⟩ else ⟨#[109]⟩ ++ digs 19 k ByteArray.empty

set_option maxHeartbeats 8000000 in
theorem markTx (k : Nat) (w : World) (hk : k < 10 ^ 18) :
    Calls Tryz.prog 75 #[.int .i64 (k : Int)] w fun e w' => (e = .returned (.string (mtx k)) ∧ (mtx k).size ≤ 64) ∧ Below w.heap.size w w' := by
  by_cases h0 : k = 0
  · subst h0
    go_enter Tryz.func75, Tryz.ntmps75
    go_wp2
    exact bodyPost_ret (v := .string ⟨#[109, 48]⟩) (by simp [results, Tryz.results75, go_sem]) rfl ⟨⟨rfl, by decide⟩, brf w⟩
  · have d0 : decide ((k : Int) ≤ 0) = false := decide_eq_false (by omega)
    have HMX : Hid (mtx k = ⟨#[109]⟩ ++ digs 19 k ByteArray.empty) := hide (by unfold mtx; rw [if_neg h0])
    go_enter Tryz.func75, Tryz.ntmps75
    go_wp2
    go_loopw [0, 3] (fun kv o wr => ∃ (m : Nat) (s : ByteArray) (j : Nat), kv = .int .i64 (m : Int) ∧ o = .string s ∧ s.size ≤ j ∧ j ≤ 18 ∧ m < 10 ^ (18 - j) ∧ digs (19 - j) m s = digs 19 k ByteArray.empty ∧ Below w.heap.size w wr) (fun kv _ _ => (intOf kv).toNat)
    case atStart => exact ⟨k, ByteArray.empty, 0, rfl, rfl, by decide, by omega, by simpa using hk, rfl, brf _⟩
    case round =>
      obtain ⟨m, s, j, rfl, rfl, hs, hj, hm, hdd, hb⟩ := hrel
      by_cases hp : m = 0
      · subst hp
        have HB := hide hb
        have hd2 : digs (19 - j) 0 s = s := by
          rw [show 19 - j = (18 - j) + 1 by omega, digs, if_pos rfl]
        have HX := hide (show mtx k = ⟨#[109]⟩ ++ s by rw [unhide HMX, ← hdd, hd2])
        clear hb hdd hd2
        have hsz : s.size ≤ 18 := by omega
        go_wp2
        refine bodyPost_ret (v := .string (⟨#[109]⟩ ++ s)) (by simp [results, Tryz.results75, go_sem]) rfl ⟨⟨by rw [unhide HX], ?_⟩, unhide HB⟩
        rw [unhide HX, ByteArray.size_append]
        have : (⟨#[109]⟩ : ByteArray).size = 1 := rfl
        omega
      · have hm0 : 0 < m := by omega
        have dm : (0 : Int) < (m : Int) := by omega
        have hmb : m < 10 ^ 18 := Nat.lt_of_lt_of_le hm (Nat.pow_le_pow_right (by omega) (by omega))
        have hj18 : j < 18 := by
          rcases Nat.lt_or_ge j 18 with h | h
          · exact h
          · have e : 18 - j = 0 := by omega
            rw [e] at hm; omega
        have hdg : 48 + m % 10 < 256 := by omega
        have hcv := one_string (48 + (m : Int) % 10) (UInt8.ofNat (48 + m % 10)) (by rw [UInt8.toNat_ofNat']; omega)
        have hlt : m / 10 < 10 ^ (18 - (j + 1)) := by
          have e : 18 - j = (18 - (j + 1)) + 1 := by omega
          rw [e, Nat.pow_succ] at hm
          omega
        have HDD := hide (show digs (19 - (j + 1)) (m / 10) (S [UInt8.ofNat (48 + m % 10)] ++ s) = digs 19 k ByteArray.empty by
          rw [← hdd, show 19 - j = (18 - j) + 1 by omega, digs, if_neg hp, show 19 - (j + 1) = 18 - j by omega])
        have HB := hide hb
        have HL := hide hlt
        have HM := hide hm
        have hsz : s.size ≤ 18 := by omega
        clear hb hlt hm hdd
        generalize hd : S [UInt8.ofNat (48 + m % 10)] = D at hcv HDD
        have hD : D.size = 1 := by rw [← hd, S_size]; rfl
        clear hd
        go_wp2
        refine ⟨⟨m / 10, D ++ s, j + 1, by first | rfl | go_num, rfl, ?_, by omega, unhide HL, unhide HDD, bal (unhide HB) _⟩, ?_⟩
        · rw [ByteArray.size_append]; omega
        · simp [intOf]; omega
theorem markT (k : Nat) (w : World) (hk : k < 10 ^ 18) :
    Calls Tryz.prog 75 #[.int .i64 (k : Int)] w fun e w' => (∃ s : ByteArray, e = .returned (.string s) ∧ s.size ≤ 64) ∧ Below w.heap.size w w' := by
  refine (markTx k w hk).mono ?_
  rintro e w' ⟨⟨rfl, h⟩, hb⟩
  exact ⟨⟨_, rfl, h⟩, hb⟩
end Go.Proofs.YthbcokioijpofabGreat
namespace Go.Proofs.YthbcokioijpofabGreat
open Go.RowKit Gs
set_option linter.unusedVariables false
set_option maxRecDepth 100000
theorem cso {W : World} {b o p : Nat} {v y : Value} (h : W.cell? ⟨b, p, none⟩ = some y) (hne : o ≠ p) : (W.setCell ⟨b, o, none⟩ v).cell? ⟨b, p, none⟩ = some y := by
  rw [World.cell?_setCell_other (w := W) (a := ⟨b, o, none⟩) (b := ⟨b, p, none⟩) (v := v) (ne_addr (.inr hne.symm))]
  exact h
theorem new_block (w : World) (o : Obj) : (w.alloc o).heap[w.heap.size]? = some o := by
  show (w.heap.push o)[w.heap.size]? = some o
  simp
theorem markTz (z : Int) (V : World) (h0 : 0 ≤ z) (h1 : z < 1000000000000000000) :
    Calls Tryz.prog 75 #[.int .i64 z] V fun e w' => (∃ s : ByteArray, e = .returned (.string s) ∧ s.size ≤ 64) ∧ Below V.heap.size V w' := by
  obtain ⟨k, rfl⟩ : ∃ k : Nat, z = (k : Int) := ⟨z.toNat, by omega⟩
  exact markT k V (by omega)
theorem KS.of {α : Type} {k : Nat} {R : Rd α} {K : World → Nat → Nat → List Value → Prop} {W : World} {B : Nat} {xs : List α} {v : Value} (hk : 0 < k) (h : RS k R W B xs v) (hR : ∀ (i : Nat) (x : α) (u : List Value), xs[i]? = some x → R W B x u → K W B W.heap.size u) : KS k K W B W.heap.size xs.length v := by
  obtain ⟨a, c, hv, h1, h2, h3⟩ := h
  refine ⟨a, c, hv, fun hne => ?_⟩
  obtain ⟨b, o, ha, hb, he⟩ := h3 (fun e => hne (by rw [e]; rfl))
  refine ⟨b, o, ha, hb, ?_, fun i hi => ?_⟩
  · obtain ⟨u, hl, hat, _⟩ := he 0 _ (List.getElem?_eq_getElem (by omega))
    have h0 : u[0]? = some u[0] := List.getElem?_eq_getElem (by omega)
    exact World.block_lt_of_cell? W _ (hat 0 _ h0)
  · obtain ⟨u, hl, hat, hr⟩ := he i _ (List.getElem?_eq_getElem hi)
    exact ⟨u, hl, hat, hR i _ u (List.getElem?_eq_getElem hi) hr⟩
theorem sm_get {α : Type} {f : α → Nat} {xs : List α} {i : Nat} {x : α} (h : xs[i]? = some x) : f x ≤ sm f xs := by
  have h1 := sm_take (f := f) h
  have h2 := sm_le (f := f) (xs := xs) (i + 1)
  omega
def KInt : World → Nat → Nat → List Value → Prop := fun W B E u => ∃ x, u = [.int .i64 x]
def KStr : World → Nat → Nat → List Value → Prop := fun W B E u => ∃ x, u = [.string x]
theorem KStr.of {W : World} {B : Nat} {x : ByteArray} {u : List Value} (h : RStr W B x u) : KStr W B W.heap.size u := ⟨_, h.1⟩
set_option maxHeartbeats 8000000 in
theorem markStringS_of (l : Nat) (v : Value) (w : World) (B E : Nat) (hl : l ≤ 1048576) (hK : KS 1 KStr w B E l v) (hN : NF B w) (V : World) (z : Int) (h0 : 0 ≤ z) (h1 : z ≤ 20000000000000000) (hM : MK B E w V) :
    Calls Tryz.prog 43 #[v, .int .i64 z] V fun e w' => (∃ z' : Int, e = .returned (.int .i64 z') ∧ 0 ≤ z' ∧ z' ≤ z + (l : Int) * 1) ∧ MK B E V w' := by
  obtain ⟨a, c, rfl, hw⟩ := hK
  have HM := hide hM
  have HW := hide hw
  clear hM hw
  go_enter Tryz.func43, Tryz.ntmps43
  go_wp2
  go_loopw [1, 5] (fun kv i wr => ∃ (j : Nat) (y : Int), j ≤ l ∧ i = .int .i64 j ∧ kv = .int .i64 y ∧ 0 ≤ y ∧ y ≤ z + (j : Int) * 1 ∧ MK B E V wr) (fun _ i _ => l - (intOf i).toNat)
  case atStart => exact ⟨0, z, Nat.zero_le _, rfl, rfl, h0, by omega, .refl _ _ _⟩
  case round =>
    obtain ⟨j, y, hj, rfl, rfl, y0, y1, hM⟩ := hrel
    by_cases hjl : j < l
    · obtain ⟨b, o, rfl, hB, hE, he⟩ := unhide HW (by omega)
      obtain ⟨u, hul, hat, x0, rfl⟩ := he j hjl
      obtain ⟨q0, c0, s0, f0⟩ := ((unhide HM).trans hM).cell hN (hat.get (j := 0) rfl) hB
      obtain ⟨t0, rfl⟩ := s0.string
      simp only [Nat.add_zero, Nat.mul_one] at c0 f0
      have HM0 := hide hM
      have i1 : (j : Int) < (l : Int) := by omega
      have MT := hide markTz
      clear he hat hul HW hM s0
      go_wp2_with (first
        | (go_at_call 75; refine (unhide MT _ _ (by omega) (by omega)).mono ?_; rintro e V1 ⟨⟨m1, rfl, hm1⟩, hb1⟩; have HM1 := hide (MK.later (unhide HM0) hb1); have d1_0 := cell_later hb1 c0; have g1_0 := frozen_later hb1 c0 (by simpa using f0); clear hb1))
      exact ⟨⟨j + 1, _, by omega, by go_num, rfl, by omega, by omega, (MK.set (unhide HM1) d1_0 _ (SK.strings _ _) hB hE)⟩, by simp [intOf]; omega⟩
    · obtain rfl : j = l := by omega
      have HM0 := hide hM
      clear hM HW
      go_wp2
      go_ret
      exact ⟨⟨y, rfl, y0, by omega⟩, unhide HM0⟩
def KMapReg : World → Nat → Nat → List Value → Prop := fun W B E u => ∃ (x0 : ByteArray) (x1 : Int) (x2 : Int) (x3 : Int), u = [.string x0, .int .i64 x1, .int .i64 x2, .int .i64 x3]
theorem KMapReg.of {W : World} {B : Nat} {x : MapReg} {u : List Value} (h : RMapReg W B x u) : KMapReg W B W.heap.size u := by
  obtain ⟨rfl, bname⟩ := h
  exact ⟨_, _, _, _, rfl⟩
set_option maxHeartbeats 8000000 in
theorem markMapRegS_of (l : Nat) (v : Value) (w : World) (B E : Nat) (hl : l ≤ 1048576) (hK : KS 4 KMapReg w B E l v) (hN : NF B w) (V : World) (z : Int) (h0 : 0 ≤ z) (h1 : z ≤ 10000000000000000) (hM : MK B E w V) :
    Calls Tryz.prog 44 #[v, .int .i64 z] V fun e w' => (∃ z' : Int, e = .returned (.int .i64 z') ∧ 0 ≤ z' ∧ z' ≤ z + (l : Int) * 4) ∧ MK B E V w' := by
  obtain ⟨a, c, rfl, hw⟩ := hK
  have HM := hide hM
  have HW := hide hw
  clear hM hw
  go_enter Tryz.func44, Tryz.ntmps44
  go_wp2
  go_loopw [1, 5] (fun kv i wr => ∃ (j : Nat) (y : Int), j ≤ l ∧ i = .int .i64 j ∧ kv = .int .i64 y ∧ 0 ≤ y ∧ y ≤ z + (j : Int) * 4 ∧ MK B E V wr) (fun _ i _ => l - (intOf i).toNat)
  case atStart => exact ⟨0, z, Nat.zero_le _, rfl, rfl, h0, by omega, .refl _ _ _⟩
  case round =>
    obtain ⟨j, y, hj, rfl, rfl, y0, y1, hM⟩ := hrel
    by_cases hjl : j < l
    · obtain ⟨b, o, rfl, hB, hE, he⟩ := unhide HW (by omega)
      obtain ⟨u, hul, hat, x0, x1, x2, x3, rfl⟩ := he j hjl
      obtain ⟨q0, c0, s0, f0⟩ := ((unhide HM).trans hM).cell hN (hat.get (j := 0) rfl) hB
      obtain ⟨t0, rfl⟩ := s0.string
      obtain ⟨q1, c1, s1, f1⟩ := ((unhide HM).trans hM).cell hN (hat.get (j := 1) rfl) hB
      obtain ⟨t1, rfl⟩ := s1.int
      obtain ⟨q2, c2, s2, f2⟩ := ((unhide HM).trans hM).cell hN (hat.get (j := 2) rfl) hB
      obtain ⟨t2, rfl⟩ := s2.int
      obtain ⟨q3, c3, s3, f3⟩ := ((unhide HM).trans hM).cell hN (hat.get (j := 3) rfl) hB
      obtain ⟨t3, rfl⟩ := s3.int
      simp only [Nat.add_zero] at c0 f0
      have HM0 := hide hM
      have i1 : (j : Int) < (l : Int) := by omega
      have MT := hide markTz
      clear he hat hul HW hM s0 s1 s2 s3
      go_wp2_with (first
        | (go_at_call 75; refine (unhide MT _ _ (by omega) (by omega)).mono ?_; rintro e V1 ⟨⟨m1, rfl, hm1⟩, hb1⟩; have HM1 := hide (MK.later (unhide HM0) hb1); have d1_0 := cell_later hb1 c0; have g1_0 := frozen_later hb1 c0 (by simpa using f0); have d1_1 := cell_later hb1 c1; have g1_1 := frozen_later hb1 c1 (by simpa using f1); have d1_2 := cell_later hb1 c2; have g1_2 := frozen_later hb1 c2 (by simpa using f2); have d1_3 := cell_later hb1 c3; have g1_3 := frozen_later hb1 c3 (by simpa using f3); clear hb1))
      exact ⟨⟨j + 1, _, by omega, by go_num, rfl, by omega, by omega, (MK.set (MK.set (MK.set (MK.set (unhide HM1) d1_0 _ (SK.strings _ _) hB hE) (cso d1_1 (by omega)) _ (SK.ints _ _ _) hB hE) (cso (cso d1_2 (by omega)) (by omega)) _ (SK.ints _ _ _) hB hE) (cso (cso (cso d1_3 (by omega)) (by omega)) (by omega)) _ (SK.ints _ _ _) hB hE)⟩, by simp [intOf]; omega⟩
    · obtain rfl : j = l := by omega
      have HM0 := hide hM
      clear hM HW
      go_wp2
      go_ret
      exact ⟨⟨y, rfl, y0, by omega⟩, unhide HM0⟩
theorem KInt.of {W : World} {B : Nat} {x : Int} {u : List Value} (h : RInt W B x u) : KInt W B W.heap.size u := ⟨_, h⟩
set_option maxHeartbeats 8000000 in
theorem markIntS_of (l : Nat) (v : Value) (w : World) (B E : Nat) (hl : l ≤ 1048576) (hK : KS 1 KInt w B E l v) (hN : NF B w) (V : World) (z : Int) (h0 : 0 ≤ z) (h1 : z ≤ 20000000000000000) (hM : MK B E w V) :
    Calls Tryz.prog 76 #[v, .int .i64 z] V fun e w' => (∃ z' : Int, e = .returned (.int .i64 z') ∧ 0 ≤ z' ∧ z' ≤ z + (l : Int) * 1) ∧ MK B E V w' := by
  obtain ⟨a, c, rfl, hw⟩ := hK
  have HM := hide hM
  have HW := hide hw
  clear hM hw
  go_enter Tryz.func76, Tryz.ntmps76
  go_wp2
  go_loopw [1, 5] (fun kv i wr => ∃ (j : Nat) (y : Int), j ≤ l ∧ i = .int .i64 j ∧ kv = .int .i64 y ∧ 0 ≤ y ∧ y ≤ z + (j : Int) * 1 ∧ MK B E V wr) (fun _ i _ => l - (intOf i).toNat)
  case atStart => exact ⟨0, z, Nat.zero_le _, rfl, rfl, h0, by omega, .refl _ _ _⟩
  case round =>
    obtain ⟨j, y, hj, rfl, rfl, y0, y1, hM⟩ := hrel
    by_cases hjl : j < l
    · obtain ⟨b, o, rfl, hB, hE, he⟩ := unhide HW (by omega)
      obtain ⟨u, hul, hat, x0, rfl⟩ := he j hjl
      obtain ⟨q0, c0, s0, f0⟩ := ((unhide HM).trans hM).cell hN (hat.get (j := 0) rfl) hB
      obtain ⟨t0, rfl⟩ := s0.int
      simp only [Nat.add_zero, Nat.mul_one] at c0 f0
      have HM0 := hide hM
      have i1 : (j : Int) < (l : Int) := by omega
      clear he hat hul HW hM s0
      go_wp2
      exact ⟨⟨j + 1, _, by omega, by go_num, rfl, by omega, by omega, (MK.set (unhide HM0) c0 _ (SK.ints _ _ _) hB hE)⟩, by simp [intOf]; omega⟩
    · obtain rfl : j = l := by omega
      have HM0 := hide hM
      clear hM HW
      go_wp2
      go_ret
      exact ⟨⟨y, rfl, y0, by omega⟩, unhide HM0⟩
def KLut : World → Nat → Nat → List Value → Prop := fun W B E u => ∃ (x0 : Value) (x1 : Int) (l0 : Nat), u = [x0, .int .i64 x1] ∧ l0 ≤ 1048576 ∧ KS 1 KInt W B E l0 x0
theorem KLut.of {W : World} {B : Nat} {x : Lut} {u : List Value} (h : RLut W B x u) (hz : szLut x ≤ 1048576) : KLut W B W.heap.size u := by
  obtain ⟨v0, rfl, r0⟩ := h
  have hsz : szLut x = szL (fun (_ : Int) => 0) x.inp := rfl
  have hl0 := szL_sm (fun (_ : Int) => 0) x.inp
  exact ⟨_, _, _, rfl, by omega, KS.of (by decide) r0 (fun i x u hx h => KInt.of h)⟩
set_option maxHeartbeats 8000000 in
theorem markLutS_of (l : Nat) (v : Value) (w : World) (B E : Nat) (hl : l ≤ 1048576) (hK : KS 2 KLut w B E l v) (hN : NF B w) (V : World) (z : Int) (h0 : 0 ≤ z) (h1 : z ≤ 10000000000000000) (hM : MK B E w V) :
    Calls Tryz.prog 45 #[v, .int .i64 z] V fun e w' => (∃ z' : Int, e = .returned (.int .i64 z') ∧ 0 ≤ z' ∧ z' ≤ z + (l : Int) * 1048577) ∧ MK B E V w' := by
  obtain ⟨a, c, rfl, hw⟩ := hK
  have HM := hide hM
  have HW := hide hw
  clear hM hw
  go_enter Tryz.func45, Tryz.ntmps45
  go_wp2
  go_loopw [1, 5] (fun kv i wr => ∃ (j : Nat) (y : Int), j ≤ l ∧ i = .int .i64 j ∧ kv = .int .i64 y ∧ 0 ≤ y ∧ y ≤ z + (j : Int) * 1048577 ∧ MK B E V wr) (fun _ i _ => l - (intOf i).toNat)
  case atStart => exact ⟨0, z, Nat.zero_le _, rfl, rfl, h0, by omega, .refl _ _ _⟩
  case round =>
    obtain ⟨j, y, hj, rfl, rfl, y0, y1, hM⟩ := hrel
    by_cases hjl : j < l
    · obtain ⟨b, o, rfl, hB, hE, he⟩ := unhide HW (by omega)
      obtain ⟨u, hul, hat, x0, x1, l0, rfl, hl0, hk0⟩ := he j hjl
      obtain ⟨a0, cc0, rfl, hw0⟩ := hk0
      have HK0 := hide (show KS 1 KInt w B E l0 (.slice a0 l0 cc0) from ⟨a0, cc0, rfl, hw0⟩)
      clear hw0
      obtain ⟨q0, c0, s0, f0⟩ := ((unhide HM).trans hM).cell hN (hat.get (j := 0) rfl) hB
      obtain rfl := s0.slice
      obtain ⟨q1, c1, s1, f1⟩ := ((unhide HM).trans hM).cell hN (hat.get (j := 1) rfl) hB
      obtain ⟨t1, rfl⟩ := s1.int
      simp only [Nat.add_zero] at c0 f0
      have HM0 := hide hM
      have i1 : (j : Int) < (l : Int) := by omega
      have HAT := hide hat
      clear he hat hul HW hM s0 s1
      go_wp2_with (first
        | (go_at_call 76; refine (markIntS_of l0 _ w B E hl0 (unhide HK0) hN _ _ (by omega) (by omega) (MK.trans (unhide HM) (unhide HM0))).mono ?_; rintro e V1 ⟨⟨z0, rfl, z00, z01⟩, hM1⟩; have HM1 := hide (MK.trans (unhide HM0) hM1); clear hM1; obtain ⟨q1_1, d1_1, s1_1, g1_1⟩ := ((unhide HM).trans (unhide HM1)).cell hN ((unhide HAT).get (j := 1) rfl) hB; obtain ⟨t1_1, rfl⟩ := s1_1.int; clear s1_1))
      exact ⟨⟨j + 1, _, by omega, by go_num, rfl, by omega, by omega, (MK.set (unhide HM1) d1_1 _ (SK.ints _ _ _) hB hE)⟩, by simp [intOf]; omega⟩
    · obtain rfl : j = l := by omega
      have HM0 := hide hM
      clear hM HW
      go_wp2
      go_ret
      exact ⟨⟨y, rfl, y0, by omega⟩, unhide HM0⟩
def KPort : World → Nat → Nat → List Value → Prop := fun W B E u => ∃ (x0 : ByteArray) (x1 : Int), u = [.string x0, .int .i64 x1]
theorem KPort.of {W : World} {B : Nat} {x : Port} {u : List Value} (h : RPort W B x u) : KPort W B W.heap.size u := by
  obtain ⟨rfl, bname⟩ := h
  exact ⟨_, _, rfl⟩
set_option maxHeartbeats 8000000 in
theorem markPortS_of (l : Nat) (v : Value) (w : World) (B E : Nat) (hl : l ≤ 1048576) (hK : KS 2 KPort w B E l v) (hN : NF B w) (V : World) (z : Int) (h0 : 0 ≤ z) (h1 : z ≤ 10000000000000000) (hM : MK B E w V) :
    Calls Tryz.prog 46 #[v, .int .i64 z] V fun e w' => (∃ z' : Int, e = .returned (.int .i64 z') ∧ 0 ≤ z' ∧ z' ≤ z + (l : Int) * 2) ∧ MK B E V w' := by
  obtain ⟨a, c, rfl, hw⟩ := hK
  have HM := hide hM
  have HW := hide hw
  clear hM hw
  go_enter Tryz.func46, Tryz.ntmps46
  go_wp2
  go_loopw [1, 5] (fun kv i wr => ∃ (j : Nat) (y : Int), j ≤ l ∧ i = .int .i64 j ∧ kv = .int .i64 y ∧ 0 ≤ y ∧ y ≤ z + (j : Int) * 2 ∧ MK B E V wr) (fun _ i _ => l - (intOf i).toNat)
  case atStart => exact ⟨0, z, Nat.zero_le _, rfl, rfl, h0, by omega, .refl _ _ _⟩
  case round =>
    obtain ⟨j, y, hj, rfl, rfl, y0, y1, hM⟩ := hrel
    by_cases hjl : j < l
    · obtain ⟨b, o, rfl, hB, hE, he⟩ := unhide HW (by omega)
      obtain ⟨u, hul, hat, x0, x1, rfl⟩ := he j hjl
      obtain ⟨q0, c0, s0, f0⟩ := ((unhide HM).trans hM).cell hN (hat.get (j := 0) rfl) hB
      obtain ⟨t0, rfl⟩ := s0.string
      obtain ⟨q1, c1, s1, f1⟩ := ((unhide HM).trans hM).cell hN (hat.get (j := 1) rfl) hB
      obtain ⟨t1, rfl⟩ := s1.int
      simp only [Nat.add_zero] at c0 f0
      have HM0 := hide hM
      have i1 : (j : Int) < (l : Int) := by omega
      have MT := hide markTz
      clear he hat hul HW hM s0 s1
      go_wp2_with (first
        | (go_at_call 75; refine (unhide MT _ _ (by omega) (by omega)).mono ?_; rintro e V1 ⟨⟨m1, rfl, hm1⟩, hb1⟩; have HM1 := hide (MK.later (unhide HM0) hb1); have d1_0 := cell_later hb1 c0; have g1_0 := frozen_later hb1 c0 (by simpa using f0); have d1_1 := cell_later hb1 c1; have g1_1 := frozen_later hb1 c1 (by simpa using f1); clear hb1))
      exact ⟨⟨j + 1, _, by omega, by go_num, rfl, by omega, by omega, (MK.set (MK.set (unhide HM1) d1_0 _ (SK.strings _ _) hB hE) (cso d1_1 (by omega)) _ (SK.ints _ _ _) hB hE)⟩, by simp [intOf]; omega⟩
    · obtain rfl : j = l := by omega
      have HM0 := hide hM
      clear hM HW
      go_wp2
      go_ret
      exact ⟨⟨y, rfl, y0, by omega⟩, unhide HM0⟩
set_option maxHeartbeats 8000000 in
theorem markMapped_of (x : Mapped) (u : List Value) (w : World) (B : Nat) (hr : RMapped w B x u) (hz : szMapped x ≤ 1048576) (hN : NF B w) (V : World) (hM : MK B w.heap.size w V) :
    Calls Tryz.prog 13 #[.agg u.toArray, .int .i64 1] V fun e w' => (∃ z' : Int, e = .returned (.int .i64 z') ∧ 0 ≤ z' ∧ z' ≤ 1099523162113) ∧ MK B w.heap.size V w' := by
  obtain ⟨v0, v1, v2, v3, v4, v5, rfl, r0, r1, r2, r3, r4, r5⟩ := hr
  have hsz : szMapped x = szL (fun (s : ByteArray) => s.size) x.ins + szL (fun (s : ByteArray) => s.size) x.clocks + szL szMapReg x.regs + szL szLut x.luts + szL szPort x.outs + szL szPort x.checks := rfl
  have hz0 := szL_sm (fun (s : ByteArray) => s.size) x.ins
  have hz1 := szL_sm (fun (s : ByteArray) => s.size) x.clocks
  have hz2 := szL_sm szMapReg x.regs
  have hz3 := szL_sm szLut x.luts
  have hz4 := szL_sm szPort x.outs
  have hz5 := szL_sm szPort x.checks
  have HK0 := hide (KS.of (K := KStr) (by decide) r0 (fun i x u hx h => KStr.of h))
  obtain ⟨a0, c0, rfl⟩ := r0.slice
  have hl0 : x.ins.length ≤ 1048576 := by omega
  have HK1 := hide (KS.of (K := KStr) (by decide) r1 (fun i x u hx h => KStr.of h))
  obtain ⟨a1, c1, rfl⟩ := r1.slice
  have hl1 : x.clocks.length ≤ 1048576 := by omega
  have HK2 := hide (KS.of (K := KMapReg) (by decide) r2 (fun i x u hx h => KMapReg.of h))
  obtain ⟨a2, c2, rfl⟩ := r2.slice
  have hl2 : x.regs.length ≤ 1048576 := by omega
  have HK3 := hide (KS.of (K := KLut) (by decide) r3 (fun i x u hx h => KLut.of h (by have := sm_get (f := szLut) hx; omega)))
  obtain ⟨a3, c3, rfl⟩ := r3.slice
  have hl3 : x.luts.length ≤ 1048576 := by omega
  have HK4 := hide (KS.of (K := KPort) (by decide) r4 (fun i x u hx h => KPort.of h))
  obtain ⟨a4, c4, rfl⟩ := r4.slice
  have hl4 : x.outs.length ≤ 1048576 := by omega
  have HK5 := hide (KS.of (K := KPort) (by decide) r5 (fun i x u hx h => KPort.of h))
  obtain ⟨a5, c5, rfl⟩ := r5.slice
  have hl5 : x.checks.length ≤ 1048576 := by omega
  have HM := hide hM
  have hE := hM.size
  clear r0 hz0 r1 hz1 r2 hz2 r3 hz3 r4 hz4 r5 hz5 hsz hz hM
  go_enter Tryz.func13, Tryz.ntmps13
  go_wp2_with (first
    | (have hq6 := HM5; go_at_call 46; refine (markPortS_of _ _ w B w.heap.size hl5 (unhide HK5) hN _ _ (by omega) (by omega) (MK.trans (unhide HM) (unhide HM5))).mono ?_; rintro e V6 ⟨⟨z6, rfl, z60, z61⟩, hM6⟩; have HM6 := hide (MK.trans (unhide HM5) hM6); have sz6 := hM6.size; have bk6 := (hM6.block V.heap.size (Array.getElem?_eq_some_iff.1 bk5).1 (.inr hE)).trans bk5; clear hM6)
    | (have hq5 := HM4; go_at_call 46; refine (markPortS_of _ _ w B w.heap.size hl4 (unhide HK4) hN _ _ (by omega) (by omega) (MK.trans (unhide HM) (unhide HM4))).mono ?_; rintro e V5 ⟨⟨z5, rfl, z50, z51⟩, hM5⟩; have HM5 := hide (MK.trans (unhide HM4) hM5); have sz5 := hM5.size; have bk5 := (hM5.block V.heap.size (Array.getElem?_eq_some_iff.1 bk4).1 (.inr hE)).trans bk4; have d5_5 : V5.cell? ⟨V.heap.size, 5, none⟩ = some (.slice a5 x.checks.length c5) := (by simp [World.cell?, bk5]); clear hM5)
    | (have hq4 := HM3; go_at_call 45; refine (markLutS_of _ _ w B w.heap.size hl3 (unhide HK3) hN _ _ (by omega) (by omega) (MK.trans (unhide HM) (unhide HM3))).mono ?_; rintro e V4 ⟨⟨z4, rfl, z40, z41⟩, hM4⟩; have HM4 := hide (MK.trans (unhide HM3) hM4); have sz4 := hM4.size; have bk4 := (hM4.block V.heap.size (Array.getElem?_eq_some_iff.1 bk3).1 (.inr hE)).trans bk3; have d4_4 : V4.cell? ⟨V.heap.size, 4, none⟩ = some (.slice a4 x.outs.length c4) := (by simp [World.cell?, bk4]); have d4_5 : V4.cell? ⟨V.heap.size, 5, none⟩ = some (.slice a5 x.checks.length c5) := (by simp [World.cell?, bk4]); clear hM4)
    | (have hq3 := HM2; go_at_call 44; refine (markMapRegS_of _ _ w B w.heap.size hl2 (unhide HK2) hN _ _ (by omega) (by omega) (MK.trans (unhide HM) (unhide HM2))).mono ?_; rintro e V3 ⟨⟨z3, rfl, z30, z31⟩, hM3⟩; have HM3 := hide (MK.trans (unhide HM2) hM3); have sz3 := hM3.size; have bk3 := (hM3.block V.heap.size (Array.getElem?_eq_some_iff.1 bk2).1 (.inr hE)).trans bk2; have d3_3 : V3.cell? ⟨V.heap.size, 3, none⟩ = some (.slice a3 x.luts.length c3) := (by simp [World.cell?, bk3]); have d3_4 : V3.cell? ⟨V.heap.size, 4, none⟩ = some (.slice a4 x.outs.length c4) := (by simp [World.cell?, bk3]); have d3_5 : V3.cell? ⟨V.heap.size, 5, none⟩ = some (.slice a5 x.checks.length c5) := (by simp [World.cell?, bk3]); clear hM3)
    | (have hq2 := HM1; go_at_call 43; refine (markStringS_of _ _ w B w.heap.size hl1 (unhide HK1) hN _ _ (by omega) (by omega) (MK.trans (unhide HM) (unhide HM1))).mono ?_; rintro e V2 ⟨⟨z2, rfl, z20, z21⟩, hM2⟩; have HM2 := hide (MK.trans (unhide HM1) hM2); have sz2 := hM2.size; have bk2 := (hM2.block V.heap.size (Array.getElem?_eq_some_iff.1 bk1).1 (.inr hE)).trans bk1; have d2_2 : V2.cell? ⟨V.heap.size, 2, none⟩ = some (.slice a2 x.regs.length c2) := (by simp [World.cell?, bk2]); have d2_3 : V2.cell? ⟨V.heap.size, 3, none⟩ = some (.slice a3 x.luts.length c3) := (by simp [World.cell?, bk2]); have d2_4 : V2.cell? ⟨V.heap.size, 4, none⟩ = some (.slice a4 x.outs.length c4) := (by simp [World.cell?, bk2]); have d2_5 : V2.cell? ⟨V.heap.size, 5, none⟩ = some (.slice a5 x.checks.length c5) := (by simp [World.cell?, bk2]); clear hM2)
    | (go_at_call 43; refine (markStringS_of _ _ w B w.heap.size hl0 (unhide HK0) hN _ _ (by omega) (by omega) (MK.trans (unhide HM) (MK.later (.refl _ _ _) (bal (brf V) _)))).mono ?_; rintro e V1 ⟨⟨z1, rfl, z10, z11⟩, hM1⟩; have HM1 := hide (MK.trans (MK.later (.refl _ _ _) (bal (brf V) _)) hM1); have sz1 := hM1.size; have bk1 : V1.heap[V.heap.size]? = some (.cells #[.slice a0 x.ins.length c0, .slice a1 x.clocks.length c1, .slice a2 x.regs.length c2, .slice a3 x.luts.length c3, .slice a4 x.outs.length c4, .slice a5 x.checks.length c5] 38) := (hM1.block V.heap.size (by simp) (.inr hE)).trans (new_block V _); have d1_1 : V1.cell? ⟨V.heap.size, 1, none⟩ = some (.slice a1 x.clocks.length c1) := (by simp [World.cell?, bk1]); have d1_2 : V1.cell? ⟨V.heap.size, 2, none⟩ = some (.slice a2 x.regs.length c2) := (by simp [World.cell?, bk1]); have d1_3 : V1.cell? ⟨V.heap.size, 3, none⟩ = some (.slice a3 x.luts.length c3) := (by simp [World.cell?, bk1]); have d1_4 : V1.cell? ⟨V.heap.size, 4, none⟩ = some (.slice a4 x.outs.length c4) := (by simp [World.cell?, bk1]); have d1_5 : V1.cell? ⟨V.heap.size, 5, none⟩ = some (.slice a5 x.checks.length c5) := (by simp [World.cell?, bk1]); clear hM1))
  go_ret
  exact ⟨⟨z6, rfl, z60, by omega⟩, unhide HM6⟩
end Go.Proofs.YthbcokioijpofabGreat
namespace Go.Proofs.YthbcokioijpofabGreat
open Go.RowKit Gs
set_option linter.unusedVariables false
set_option linter.unusedSimpArgs false
set_option maxRecDepth 100000
def KBool : World → Nat → Nat → List Value → Prop := fun W B E u => ∃ x, u = [.bool x]
theorem KBool.of {W : World} {B : Nat} {x : Bool} {u : List Value} (h : RBool W B x u) : KBool W B W.heap.size u := ⟨_, h⟩
set_option maxHeartbeats 8000000 in
theorem markBoolS_of (l : Nat) (v : Value) (w : World) (B E : Nat) (hl : l ≤ 1048576) (hK : KS 1 KBool w B E l v) (hN : NF B w) (V : World) (z : Int) (h0 : 0 ≤ z) (h1 : z ≤ 20000000000000000) (hM : MK B E w V) :
    Calls Tryz.prog 47 #[v, .int .i64 z] V fun e w' => (∃ z' : Int, e = .returned (.int .i64 z') ∧ 0 ≤ z' ∧ z' ≤ z + (l : Int) * 1) ∧ MK B E V w' := by
  obtain ⟨a, c, rfl, hw⟩ := hK
  have HM := hide hM
  have HW := hide hw
  clear hM hw
  go_enter Tryz.func47, Tryz.ntmps47
  go_wp2
  go_loopw [1, 5] (fun kv i wr => ∃ (j : Nat) (y : Int), j ≤ l ∧ i = .int .i64 j ∧ kv = .int .i64 y ∧ 0 ≤ y ∧ y ≤ z + (j : Int) * 1 ∧ MK B E V wr) (fun _ i _ => l - (intOf i).toNat)
  case atStart => exact ⟨0, z, Nat.zero_le _, rfl, rfl, h0, by omega, .refl _ _ _⟩
  case round =>
    obtain ⟨j, y, hj, rfl, rfl, y0, y1, hM⟩ := hrel
    by_cases hjl : j < l
    · obtain ⟨b, o, rfl, hB, hE, he⟩ := unhide HW (by omega)
      obtain ⟨u, hul, hat, x0, rfl⟩ := he j hjl
      obtain ⟨q0, c0, s0, f0⟩ := ((unhide HM).trans hM).cell hN (hat.get (j := 0) rfl) hB
      obtain ⟨t0, rfl⟩ := s0.bool
      simp only [Nat.add_zero, Nat.mul_one] at c0 f0
      have HM0 := hide hM
      have i1 : (j : Int) < (l : Int) := by omega
      clear he hat hul HW hM s0
      go_wp2
      exact ⟨⟨j + 1, _, by omega, by go_num, rfl, by omega, by omega, (MK.set (unhide HM0) c0 _ (SK.bools _ _) hB hE)⟩, by simp [intOf]; omega⟩
    · obtain rfl : j = l := by omega
      have HM0 := hide hM
      clear hM HW
      go_wp2
      go_ret
      exact ⟨⟨y, rfl, y0, by omega⟩, unhide HM0⟩
def KStep : World → Nat → Nat → List Value → Prop := fun W B E u => ∃ (x0 x1 : Value) (l0 l1 : Nat), u = [x0, x1] ∧ l0 ≤ 1048576 ∧ KS 1 KStr W B E l0 x0 ∧ l1 ≤ 1048576 ∧ KS 1 KBool W B E l1 x1
theorem KStep.of {W : World} {B : Nat} {x : Step} {u : List Value} (h : RStep W B x u) (hz : szStep x ≤ 1048576) : KStep W B W.heap.size u := by
  obtain ⟨v0, v1, rfl, r0, r1⟩ := h
  have hsz : szStep x = szL (fun (s : ByteArray) => s.size) x.ins + szL (fun (_ : Bool) => 0) x.ticks := rfl
  have h0 := szL_sm (fun (s : ByteArray) => s.size) x.ins
  have h1 := szL_sm (fun (_ : Bool) => 0) x.ticks
  exact ⟨_, _, _, _, rfl, by omega, KS.of (by decide) r0 (fun i x u hx h => KStr.of h), by omega, KS.of (by decide) r1 (fun i x u hx h => KBool.of h)⟩
set_option maxHeartbeats 8000000 in
theorem markStepS_of (l : Nat) (v : Value) (w : World) (B E : Nat) (hl : l ≤ 1048576) (hK : KS 2 KStep w B E l v) (hN : NF B w) (V : World) (z : Int) (h0 : 0 ≤ z) (h1 : z ≤ 10000000000000000) (hM : MK B E w V) :
    Calls Tryz.prog 14 #[v, .int .i64 z] V fun e w' => (∃ z' : Int, e = .returned (.int .i64 z') ∧ 0 ≤ z' ∧ z' ≤ z + (l : Int) * 2097152) ∧ MK B E V w' := by
  obtain ⟨a, c, rfl, hw⟩ := hK
  have HM := hide hM
  have HW := hide hw
  clear hM hw
  go_enter Tryz.func14, Tryz.ntmps14
  go_wp2
  go_loopw [1, 5] (fun kv i wr => ∃ (j : Nat) (y : Int), j ≤ l ∧ i = .int .i64 j ∧ kv = .int .i64 y ∧ 0 ≤ y ∧ y ≤ z + (j : Int) * 2097152 ∧ MK B E V wr) (fun _ i _ => l - (intOf i).toNat)
  case atStart => exact ⟨0, z, Nat.zero_le _, rfl, rfl, h0, by omega, .refl _ _ _⟩
  case round =>
    obtain ⟨j, y, hj, rfl, rfl, y0, y1, hM⟩ := hrel
    by_cases hjl : j < l
    · obtain ⟨b, o, rfl, hB, hE, he⟩ := unhide HW (by omega)
      obtain ⟨u, hul, hat, x0, x1, l0, l1, rfl, hl0, hk0, hl1, hk1⟩ := he j hjl
      obtain ⟨a0, cc0, rfl, hw0⟩ := hk0
      obtain ⟨a1, cc1, rfl, hw1⟩ := hk1
      have HK0 := hide (show KS 1 KStr w B E l0 (.slice a0 l0 cc0) from ⟨a0, cc0, rfl, hw0⟩)
      have HK1 := hide (show KS 1 KBool w B E l1 (.slice a1 l1 cc1) from ⟨a1, cc1, rfl, hw1⟩)
      clear hw0 hw1
      obtain ⟨q0, c0, s0, f0⟩ := ((unhide HM).trans hM).cell hN (hat.get (j := 0) rfl) hB
      obtain rfl := s0.slice
      have HC1 : Hid (∀ V1, MK B E V V1 → V1.cell? ⟨b, o + j * 2 + 1, none⟩ = some (.slice a1 l1 cc1)) := hide (fun V1 h1 => by
        obtain ⟨q1, c1, s1, f1⟩ := ((unhide HM).trans h1).cell hN (hat.get (j := 1) rfl) hB
        obtain rfl := s1.slice
        exact c1)
      simp only [Nat.add_zero] at c0 f0
      have HM0 := hide hM
      have i1 : (j : Int) < (l : Int) := by omega
      clear he hat hul HW hM s0
      go_wp2_with fail
      refine (markStringS_of l0 _ w B E hl0 (unhide HK0) hN _ _ (by omega) (by omega) (MK.trans (unhide HM) (unhide HM0))).mono ?_
      rintro e V1 ⟨⟨z0, rfl, z00, z01⟩, hM1⟩
      have HM1 := hide (MK.trans (unhide HM0) hM1)
      have c1 := unhide HC1 V1 (unhide HM1)
      clear hM1 c0 f0
      go_wp2_with fail
      refine (markBoolS_of l1 _ w B E hl1 (unhide HK1) hN _ _ (by omega) (by omega) (MK.trans (unhide HM) (unhide HM1))).mono ?_
      rintro e V2 ⟨⟨z1, rfl, z10, z11⟩, hM2⟩
      have HM2 := hide (MK.trans (unhide HM1) hM2)
      clear hM2 c1
      go_wp2_with fail
      exact ⟨⟨j + 1, _, by omega, by go_num, rfl, by omega, by omega, unhide HM2⟩, by simp [intOf]; omega⟩
    · obtain rfl : j = l := by omega
      have HM0 := hide hM
      clear hM HW
      go_wp2
      go_ret
      exact ⟨⟨y, rfl, y0, by omega⟩, unhide HM0⟩
end Go.Proofs.YthbcokioijpofabGreat
