/- What the laws' to functions answer: a copy in new memory. -/
import Derived.Test.YtlldfaniddbjaaaGreatDoorGN2
import Derived.Test.YtlldfaniddbjaaaGreatDoorRT14
namespace Go.Proofs.YtlldfaniddbjaaaGreatDoor
open Go.RowKit Gs
set_option linter.unusedVariables false
set_option maxRecDepth 100000
theorem info_toStringS : (Tryz.prog.info? 9).map (fun i => (i.zero, i.size, i.bytes)) = some (some (.string ByteArray.empty), 1, 16) := by kernel_rfl
theorem make_toStringS (n : Nat) (hn : n ≤ 1048576) : ∃ M : Array Value, M.size = n * 1 ∧ ∀ W : World, (Instr.makeSlice 22 (.int .i64 (n : Int)) (.int .i64 (n : Int))).run Tryz.prog W = .ok (.slice (some ⟨W.heap.size, 0, none⟩) n n) (W.alloc (.cells M 9)) := by
  obtain ⟨i0, hi, hz0, hz1, hz2⟩ := info_parts info_toStringS
  refine ⟨_, size_madeCells #[.string ByteArray.empty] (n * 1), fun W => ?_⟩
  have hr := run_make (P := Tryz.prog) W 22 9 i0 _ (by kernel_rfl) hi hz0 .i64 .i64 n n (by omega) (Int.le_refl _) (by rw [hz2]; omega) (by omega)
  rw [hr, hz1]
  simp
  rfl
set_option maxHeartbeats 1600000 in
theorem toStringS_of (xs : List ByteArray) (v : Value) (w : World) (hl : szL (fun (s : ByteArray) => s.size) xs ≤ 1048576) (hr : RS 1 RStr w 0 xs v) :
    Calls Tryz.prog 28 #[v] w fun e w' => (∃ v', e = .returned v' ∧ RS 1 RStr w' w.heap.size xs v') ∧ Below w.heap.size w w' ∧ NF w.heap.size w' := by
  have hsm := szL_sm (fun (s : ByteArray) => s.size) xs
  obtain ⟨M, hM, hmk⟩ := make_toStringS xs.length (by omega)
  rcases hr.open with ⟨rfl, a, c, rfl⟩ | ⟨b, o, c, rfl, hc, hn, _, hcs⟩
  · have hmk0 : ∀ W : World, (Instr.makeSlice 22 (.int .i64 0) (.int .i64 0)).run Tryz.prog W = .ok (.slice (some ⟨W.heap.size, 0, none⟩) 0 0) (W.alloc (.cells M 9)) := hmk
    clear hsm hr hmk hl
    go_enter Tryz.func28, Tryz.ntmps28
    go_wp2
    go_loopw [4] (fun i W => i = .int .i64 0 ∧ Below w.heap.size w W ∧ NF w.heap.size W) (fun _ _ => 0)
    case atStart => exact ⟨rfl, bal (brf w) _, nf_al (nf_rf w) _ _⟩
    case round =>
      obtain ⟨rfl, hb, hnf⟩ := hrel
      have HB := hide hb
      have HNF := hide hnf
      clear hb hnf
      go_wp2
      exact bodyPost_ret (v := .slice (some ⟨w.heap.size, 0, none⟩) 0 0) (by simp [results, Tryz.results28, go_sem]) rfl ⟨⟨_, rfl, RS.nil _ _ _ _ _ _⟩, unhide HB, unhide HNF⟩
  · have hn2 := hn
    unfold maxLen at hn
    have HN := hide hn2
    have HC := hide hcs
    have HTP := hide (TP_made w M 9 (xs.length * 1) hM)
    clear hcs hr hM hn2
    go_enter Tryz.func28, Tryz.ntmps28
    go_wp2
    clear hmk
    go_loopw [4] (fun i W => ∃ j : Nat, j ≤ xs.length ∧ i = .int .i64 j ∧ TP W w.heap.size (xs.length * 1) ∧ NR 1 RStr W (w.heap.size + 1) w.heap.size j xs ∧ Below w.heap.size w W ∧ w.heap.size + 1 ≤ W.heap.size ∧ NF w.heap.size W) (fun i W => xs.length - (intOf i).toNat)
    case atStart => exact ⟨0, Nat.zero_le _, rfl, unhide HTP, NR.zero, bal (brf w) _, by simp, nf_al (nf_rf w) _ _⟩
    case round =>
      clear HTP
      obtain ⟨j, hj, rfl, hTP, hNR, hb, hsz, hnf⟩ := hrel
      have HNF := hide hnf
      clear hnf
      have HTP := hide hTP
      have HNR := hide hNR
      by_cases hjn : j < xs.length
      · have hx : xs[j]? = some xs[j] := List.getElem?_eq_getElem hjn
        generalize xs[j] = x at hx
        obtain ⟨u, hul, hat, hrx⟩ := unhide HC j x hx
        have st := sm_take (f := (fun (s : ByteArray) => s.size)) hx
        have sl := sm_le (f := (fun (s : ByteArray) => s.size)) (xs := xs) (j + 1)
        have i1 : (0 : Int) ≤ (j : Int) := by omega
        have i2 : (j : Int) < (xs.length : Int) := by omega
        obtain ⟨⟨w0, c0⟩, f0⟩ := hTP (j * 1 + 0) (by omega)
        simp only [Nat.add_zero, Nat.mul_one] at c0 f0
        obtain ⟨rfl, hts⟩ := hrx
        have k0 := cell_later hb (hat.get (j := 0) rfl)
        simp only [Nat.add_zero, Nat.mul_one] at k0
        have HX := hide hx
        have HB := hide hb
        clear hb hat hul HC hTP hNR hx
        go_wp2
        have hN1 := NR.step RStr.keeps (u := [.string x]) (unhide HTP) (unhide HNR) (Nat.lt_succ_self _) (unhide HX) rfl ⟨rfl, hts⟩ (by omega)
        have hT1 := (unhide HTP).set (o := j) (vs := [.string x])
        have hB1 := setK_below [.string x] (o := j) (unhide HB) (Nat.le_refl w.heap.size)
        simp only [setK, Nat.mul_one] at hN1
        simp only [setK] at hT1 hB1
        exact ⟨⟨j + 1, by omega, by go_num, hT1, hN1, hB1, by simp; omega, nf_set (unhide HNF) _ _⟩, by simp [intOf]; omega⟩
      · obtain rfl : j = xs.length := by omega
        have HB := hide hb
        clear hb hTP hNR HC
        go_wp2
        exact bodyPost_ret (v := .slice (some ⟨w.heap.size, 0, none⟩) xs.length xs.length) (by simp [results, Tryz.results28, go_sem]) rfl ⟨⟨_, rfl, NR.done RStr.lowers (unhide HNR) (unhide HN) (Nat.le_refl _)⟩, unhide HB, unhide HNF⟩
theorem info_toIntS : (Tryz.prog.info? 3).map (fun i => (i.zero, i.size, i.bytes)) = some (some (.int .i64 0), 1, 8) := by kernel_rfl
theorem make_toIntS (n : Nat) (hn : n ≤ 1048576) : ∃ M : Array Value, M.size = n * 1 ∧ ∀ W : World, (Instr.makeSlice 29 (.int .i64 (n : Int)) (.int .i64 (n : Int))).run Tryz.prog W = .ok (.slice (some ⟨W.heap.size, 0, none⟩) n n) (W.alloc (.cells M 3)) := by
  obtain ⟨i0, hi, hz0, hz1, hz2⟩ := info_parts info_toIntS
  refine ⟨_, size_madeCells #[.int .i64 0] (n * 1), fun W => ?_⟩
  have hr := run_make (P := Tryz.prog) W 29 3 i0 _ (by kernel_rfl) hi hz0 .i64 .i64 n n (by omega) (Int.le_refl _) (by rw [hz2]; omega) (by omega)
  rw [hr, hz1]
  simp
  rfl
set_option maxHeartbeats 1600000 in
theorem toIntS_of (xs : List Int) (v : Value) (w : World) (hl : szL (fun (_ : Int) => 0) xs ≤ 1048576) (hr : RS 1 RInt w 0 xs v) :
    Calls Tryz.prog 9 #[v] w fun e w' => (∃ v', e = .returned v' ∧ RS 1 RInt w' w.heap.size xs v') ∧ Below w.heap.size w w' ∧ NF w.heap.size w' := by
  have hsm := szL_sm (fun (_ : Int) => 0) xs
  obtain ⟨M, hM, hmk⟩ := make_toIntS xs.length (by omega)
  rcases hr.open with ⟨rfl, a, c, rfl⟩ | ⟨b, o, c, rfl, hc, hn, _, hcs⟩
  · have hmk0 : ∀ W : World, (Instr.makeSlice 29 (.int .i64 0) (.int .i64 0)).run Tryz.prog W = .ok (.slice (some ⟨W.heap.size, 0, none⟩) 0 0) (W.alloc (.cells M 3)) := hmk
    clear hsm hr hmk hl
    go_enter Tryz.func9, Tryz.ntmps9
    go_wp2
    go_loopw [4] (fun i W => i = .int .i64 0 ∧ Below w.heap.size w W ∧ NF w.heap.size W) (fun _ _ => 0)
    case atStart => exact ⟨rfl, bal (brf w) _, nf_al (nf_rf w) _ _⟩
    case round =>
      obtain ⟨rfl, hb, hnf⟩ := hrel
      have HB := hide hb
      have HNF := hide hnf
      clear hb hnf
      go_wp2
      exact bodyPost_ret (v := .slice (some ⟨w.heap.size, 0, none⟩) 0 0) (by simp [results, Tryz.results9, go_sem]) rfl ⟨⟨_, rfl, RS.nil _ _ _ _ _ _⟩, unhide HB, unhide HNF⟩
  · have hn2 := hn
    unfold maxLen at hn
    have HN := hide hn2
    have HC := hide hcs
    have HTP := hide (TP_made w M 3 (xs.length * 1) hM)
    clear hcs hr hM hn2
    go_enter Tryz.func9, Tryz.ntmps9
    go_wp2
    clear hmk
    go_loopw [4] (fun i W => ∃ j : Nat, j ≤ xs.length ∧ i = .int .i64 j ∧ TP W w.heap.size (xs.length * 1) ∧ NR 1 RInt W (w.heap.size + 1) w.heap.size j xs ∧ Below w.heap.size w W ∧ w.heap.size + 1 ≤ W.heap.size ∧ NF w.heap.size W) (fun i W => xs.length - (intOf i).toNat)
    case atStart => exact ⟨0, Nat.zero_le _, rfl, unhide HTP, NR.zero, bal (brf w) _, by simp, nf_al (nf_rf w) _ _⟩
    case round =>
      clear HTP
      obtain ⟨j, hj, rfl, hTP, hNR, hb, hsz, hnf⟩ := hrel
      have HNF := hide hnf
      clear hnf
      have HTP := hide hTP
      have HNR := hide hNR
      by_cases hjn : j < xs.length
      · have hx : xs[j]? = some xs[j] := List.getElem?_eq_getElem hjn
        generalize xs[j] = x at hx
        obtain ⟨u, hul, hat, hrx⟩ := unhide HC j x hx
        have st := sm_take (f := (fun (_ : Int) => 0)) hx
        have sl := sm_le (f := (fun (_ : Int) => 0)) (xs := xs) (j + 1)
        have i1 : (0 : Int) ≤ (j : Int) := by omega
        have i2 : (j : Int) < (xs.length : Int) := by omega
        obtain ⟨⟨w0, c0⟩, f0⟩ := hTP (j * 1 + 0) (by omega)
        simp only [Nat.add_zero, Nat.mul_one] at c0 f0
        obtain rfl := hrx
        have k0 := cell_later hb (hat.get (j := 0) rfl)
        simp only [Nat.add_zero, Nat.mul_one] at k0
        have HX := hide hx
        have HB := hide hb
        clear hb hat hul HC hTP hNR hx
        go_wp2
        have hN1 := NR.step RInt.keeps (u := [.int .i64 x]) (unhide HTP) (unhide HNR) (Nat.lt_succ_self _) (unhide HX) rfl rfl (by omega)
        have hT1 := (unhide HTP).set (o := j) (vs := [.int .i64 x])
        have hB1 := setK_below [.int .i64 x] (o := j) (unhide HB) (Nat.le_refl w.heap.size)
        simp only [setK, Nat.mul_one] at hN1
        simp only [setK] at hT1 hB1
        exact ⟨⟨j + 1, by omega, by go_num, hT1, hN1, hB1, by simp; omega, nf_set (unhide HNF) _ _⟩, by simp [intOf]; omega⟩
      · obtain rfl : j = xs.length := by omega
        have HB := hide hb
        clear hb hTP hNR HC
        go_wp2
        exact bodyPost_ret (v := .slice (some ⟨w.heap.size, 0, none⟩) xs.length xs.length) (by simp [results, Tryz.results9, go_sem]) rfl ⟨⟨_, rfl, NR.done RInt.lowers (unhide HNR) (unhide HN) (Nat.le_refl _)⟩, unhide HB, unhide HNF⟩
set_option maxHeartbeats 1600000 in
theorem toBlock_of (x : Block) (u : List Value) (w : World) (hl : szBlock x ≤ 1048576) (hr : RBlock w 0 x u) :
    Calls Tryz.prog 50 #[.agg u.toArray] w fun e w' => (∃ u', e = .returned (.agg u'.toArray) ∧ RBlock w' w.heap.size x u') ∧ Below w.heap.size w w' ∧ NF w.heap.size w' := by
  have hsz : szBlock x = x.name.size + szL (fun (_ : Int) => 0) x.inp := rfl
  obtain ⟨v1, rfl, b_name, r1⟩ := hr
  have S1 := hide (fun (W : World) (hb : Below w.heap.size w W) => toIntS_of x.inp v1 W (by omega) (r1.later RInt.keeps hb))
  obtain ⟨a1, c1, rfl⟩ := r1.slice
  clear r1
  replace b_name := hide b_name
  clear hsz hl
  go_enter Tryz.func50, Tryz.ntmps50
  go_wp2_with (first
    | (go_at_call 9; refine (unhide S1 _ (bal (bal (bal (brf w) _) _) _)).mono ?_; rintro e W1 ⟨⟨V1, rfl, rd1⟩, hb1, nf1⟩; have HF1 := hide (nf_tr (nf_al (nf_al (nf_al (nf_rf w) _ _) _ _) _ _) hb1 nf1); clear nf1; obtain ⟨A1, C1, rfl⟩ := rd1.slice; obtain ⟨hc1, hf1⟩ := bcell hb1; have hB1 := btr (bal (bal (bal (brf w) _) _) _) hb1; have sz1 := hb1.size; have t1 : w.heap.size + 1 + 1 < W1.heap.size := (by simp at sz1; omega); have u1 : w.heap.size + 1 < W1.heap.size := (by omega); have s1 : w.heap.size < W1.heap.size := (by omega); have HD1 := hide (RS.low RInt.lowers (B' := w.heap.size + 1 + 1 + 1) (by simp) rd1); clear rd1 hb1 sz1))
  refine bodyPost_ret (v := .agg #[.string x.name, .slice A1 x.inp.length C1, .int .i64 x.table, .bool x.reg, .int .i64 x.init, .int .i64 x.clock]) (by simp [results, Tryz.results50, go_sem, *]) rfl ⟨⟨[.string x.name, .slice A1 x.inp.length C1, .int .i64 x.table, .bool x.reg, .int .i64 x.init, .int .i64 x.clock], rfl, ?_⟩, ?_, ?_⟩
  · refine ⟨_, rfl, unhide b_name, ?_⟩
    · refine RS.low RInt.lowers (B := w.heap.size + 1 + 1 + 1) (by omega) ?_
      repeat refine RS.set RInt.keeps ?_ (by omega)
      exact unhide HD1
  · repeat refine bst ?_ (by first | (simp; done) | (simp; omega)) _
    exact hB1
  · repeat refine nf_set ?_ _ _
    exact unhide HF1
theorem info_toBlockS : (Tryz.prog.info? 104).map (fun i => (i.zero, i.size, i.bytes)) = some (some (.agg #[.string ByteArray.empty, .slice none 0 0, .int .i64 0, .bool false, .int .i64 0, .int .i64 0]), 6, 72) := by kernel_rfl
theorem make_toBlockS (n : Nat) (hn : n ≤ 1048576) : ∃ M : Array Value, M.size = n * 6 ∧ ∀ W : World, (Instr.makeSlice 34 (.int .i64 (n : Int)) (.int .i64 (n : Int))).run Tryz.prog W = .ok (.slice (some ⟨W.heap.size, 0, none⟩) n n) (W.alloc (.cells M 104)) := by
  obtain ⟨i0, hi, hz0, hz1, hz2⟩ := info_parts info_toBlockS
  refine ⟨_, size_madeCells #[.string ByteArray.empty, .slice none 0 0, .int .i64 0, .bool false, .int .i64 0, .int .i64 0] (n * 6), fun W => ?_⟩
  have hr := run_make (P := Tryz.prog) W 34 104 i0 _ (by kernel_rfl) hi hz0 .i64 .i64 n n (by omega) (Int.le_refl _) (by rw [hz2]; omega) (by omega)
  rw [hr, hz1]
  simp
  rfl
set_option maxHeartbeats 1600000 in
theorem toBlockS_of (xs : List Block) (v : Value) (w : World) (hl : szL szBlock xs ≤ 1048576) (hr : RS 6 RBlock w 0 xs v) :
    Calls Tryz.prog 29 #[v] w fun e w' => (∃ v', e = .returned v' ∧ RS 6 RBlock w' w.heap.size xs v') ∧ Below w.heap.size w w' ∧ NF w.heap.size w' := by
  have hsm := szL_sm szBlock xs
  obtain ⟨M, hM, hmk⟩ := make_toBlockS xs.length (by omega)
  rcases hr.open with ⟨rfl, a, c, rfl⟩ | ⟨b, o, c, rfl, hc, hn, _, hcs⟩
  · have hmk0 : ∀ W : World, (Instr.makeSlice 34 (.int .i64 0) (.int .i64 0)).run Tryz.prog W = .ok (.slice (some ⟨W.heap.size, 0, none⟩) 0 0) (W.alloc (.cells M 104)) := hmk
    clear hsm hr hmk hl
    go_enter Tryz.func29, Tryz.ntmps29
    go_wp2
    go_loopw [4] (fun i W => i = .int .i64 0 ∧ Below w.heap.size w W ∧ NF w.heap.size W) (fun _ _ => 0)
    case atStart => exact ⟨rfl, bal (brf w) _, nf_al (nf_rf w) _ _⟩
    case round =>
      obtain ⟨rfl, hb, hnf⟩ := hrel
      have HB := hide hb
      have HNF := hide hnf
      clear hb hnf
      go_wp2
      exact bodyPost_ret (v := .slice (some ⟨w.heap.size, 0, none⟩) 0 0) (by simp [results, Tryz.results29, go_sem]) rfl ⟨⟨_, rfl, RS.nil _ _ _ _ _ _⟩, unhide HB, unhide HNF⟩
  · have hn2 := hn
    unfold maxLen at hn
    have HN := hide hn2
    have HC := hide hcs
    have HTP := hide (TP_made w M 104 (xs.length * 6) hM)
    clear hcs hr hM hn2
    go_enter Tryz.func29, Tryz.ntmps29
    go_wp2
    clear hmk
    go_loopw [4] (fun i W => ∃ j : Nat, j ≤ xs.length ∧ i = .int .i64 j ∧ TP W w.heap.size (xs.length * 6) ∧ NR 6 RBlock W (w.heap.size + 1) w.heap.size j xs ∧ Below w.heap.size w W ∧ w.heap.size + 1 ≤ W.heap.size ∧ NF w.heap.size W) (fun i W => xs.length - (intOf i).toNat)
    case atStart => exact ⟨0, Nat.zero_le _, rfl, unhide HTP, NR.zero, bal (brf w) _, by simp, nf_al (nf_rf w) _ _⟩
    case round =>
      clear HTP
      obtain ⟨j, hj, rfl, hTP, hNR, hb, hsz, hnf⟩ := hrel
      have HNF := hide hnf
      clear hnf
      have HTP := hide hTP
      have HNR := hide hNR
      by_cases hjn : j < xs.length
      · have hx : xs[j]? = some xs[j] := List.getElem?_eq_getElem hjn
        generalize xs[j] = x at hx
        obtain ⟨u, hul, hat, hrx⟩ := unhide HC j x hx
        have st := sm_take (f := szBlock) hx
        have sl := sm_le (f := szBlock) (xs := xs) (j + 1)
        have i1 : (0 : Int) ≤ (j : Int) := by omega
        have i2 : (j : Int) < (xs.length : Int) := by omega
        obtain ⟨⟨w0, c0⟩, f0⟩ := hTP (j * 6 + 0) (by omega)
        obtain ⟨⟨w1, c1⟩, f1⟩ := hTP (j * 6 + 1) (by omega)
        obtain ⟨⟨w2, c2⟩, f2⟩ := hTP (j * 6 + 2) (by omega)
        obtain ⟨⟨w3, c3⟩, f3⟩ := hTP (j * 6 + 3) (by omega)
        obtain ⟨⟨w4, c4⟩, f4⟩ := hTP (j * 6 + 4) (by omega)
        obtain ⟨⟨w5, c5⟩, f5⟩ := hTP (j * 6 + 5) (by omega)
        simp only [Nat.add_zero] at c0 f0
        have PX := hide (toBlock_of x u wr (by omega) (RBlock.keeps _ _ _ _ _ (later_cells hb 0) hrx))
        obtain ⟨p1, rfl, _, _⟩ := hrx
        have k0 := cell_later hb (hat.get (j := 0) rfl)
        have k1 := cell_later hb (hat.get (j := 1) rfl)
        have k2 := cell_later hb (hat.get (j := 2) rfl)
        have k3 := cell_later hb (hat.get (j := 3) rfl)
        have k4 := cell_later hb (hat.get (j := 4) rfl)
        have k5 := cell_later hb (hat.get (j := 5) rfl)
        simp only [Nat.add_zero] at k0
        have HX := hide hx
        have HB := hide hb
        clear hb hat hul HC hTP hNR hx
        go_wp2_with (go_at_call 50; refine (unhide PX).mono ?_; rintro e v1 ⟨⟨u1, rfl, hr1⟩, hb1, nf1⟩; have HN1 := hide (nf_tr (unhide HNF) hb1 nf1); clear nf1; have HR1 := hide hr1; have HB1 := hide hb1; have d0 := cell_later hb1 c0; have g0 := frozen_later hb1 c0 f0; have d1 := cell_later hb1 c1; have g1 := frozen_later hb1 c1 f1; have d2 := cell_later hb1 c2; have g2 := frozen_later hb1 c2 f2; have d3 := cell_later hb1 c3; have g3 := frozen_later hb1 c3 f3; have d4 := cell_later hb1 c4; have g4 := frozen_later hb1 c4 f4; have d5 := cell_later hb1 c5; have g5 := frozen_later hb1 c5 f5; obtain ⟨q1, rfl, _, hq1⟩ := hr1; obtain ⟨A1, C1, rfl⟩ := hq1.slice; clear hq1; clear hb1)
        have hgs : w.heap.size + 1 ≤ wr.heap.size := by omega
        have hN1 := NR.step RBlock.keeps (u := [.string x.name, .slice A1 x.inp.length C1, .int .i64 x.table, .bool x.reg, .int .i64 x.init, .int .i64 x.clock]) ((unhide HTP).later (unhide HB1)) ((unhide HNR).later RBlock.keeps (unhide HB1)) (Nat.lt_succ_self _) (unhide HX) rfl (RBlock.lowers _ _ _ _ _ hgs (unhide HR1)) (by omega)
        have hT1 := ((unhide HTP).later (unhide HB1)).set (o := j * 6) (vs := [.string x.name, .slice A1 x.inp.length C1, .int .i64 x.table, .bool x.reg, .int .i64 x.init, .int .i64 x.clock])
        have hB1 := setK_below [.string x.name, .slice A1 x.inp.length C1, .int .i64 x.table, .bool x.reg, .int .i64 x.init, .int .i64 x.clock] (o := j * 6) (btr (unhide HB) (unhide HB1)) (Nat.le_refl w.heap.size)
        have hS1 := (unhide HB1).size
        have hF1 := nf_setK [.string x.name, .slice A1 x.inp.length C1, .int .i64 x.table, .bool x.reg, .int .i64 x.init, .int .i64 x.clock] (o := j * 6) (g := w.heap.size) (unhide HN1)
        simp only [setK] at hN1 hT1 hB1 hF1
        exact ⟨⟨j + 1, by omega, by go_num, hT1, hN1, hB1, by simp; omega, hF1⟩, by simp [intOf]; omega⟩
      · obtain rfl : j = xs.length := by omega
        have HB := hide hb
        clear hb hTP hNR HC
        go_wp2
        exact bodyPost_ret (v := .slice (some ⟨w.heap.size, 0, none⟩) xs.length xs.length) (by simp [results, Tryz.results29, go_sem]) rfl ⟨⟨_, rfl, NR.done RBlock.lowers (unhide HNR) (unhide HN) (Nat.le_refl _)⟩, unhide HB, unhide HNF⟩
set_option maxHeartbeats 1600000 in
theorem toPort_of (x : Port) (u : List Value) (w : World) (hl : szPort x ≤ 1048576) (hr : RPort w 0 x u) :
    Calls Tryz.prog 51 #[.agg u.toArray] w fun e w' => (∃ u', e = .returned (.agg u'.toArray) ∧ RPort w' w.heap.size x u') ∧ Below w.heap.size w w' ∧ NF w.heap.size w' := by
  have hsz : szPort x = x.name.size := rfl
  obtain ⟨rfl, b_name⟩ := hr
  replace b_name := hide b_name
  clear hsz hl
  go_enter Tryz.func51, Tryz.ntmps51
  go_wp2
  exact bodyPost_ret (v := .agg #[.string x.name, .int .i64 x.src]) (by simp [results, Tryz.results51, go_sem]) rfl ⟨⟨[.string x.name, .int .i64 x.src], rfl, rfl, unhide b_name⟩, bal (bal (bal (brf w) _) _) _, nf_al (nf_al (nf_al (nf_rf w) _ _) _ _) _ _⟩
theorem info_toPortS : (Tryz.prog.info? 106).map (fun i => (i.zero, i.size, i.bytes)) = some (some (.agg #[.string ByteArray.empty, .int .i64 0]), 2, 24) := by kernel_rfl
theorem make_toPortS (n : Nat) (hn : n ≤ 1048576) : ∃ M : Array Value, M.size = n * 2 ∧ ∀ W : World, (Instr.makeSlice 35 (.int .i64 (n : Int)) (.int .i64 (n : Int))).run Tryz.prog W = .ok (.slice (some ⟨W.heap.size, 0, none⟩) n n) (W.alloc (.cells M 106)) := by
  obtain ⟨i0, hi, hz0, hz1, hz2⟩ := info_parts info_toPortS
  refine ⟨_, size_madeCells #[.string ByteArray.empty, .int .i64 0] (n * 2), fun W => ?_⟩
  have hr := run_make (P := Tryz.prog) W 35 106 i0 _ (by kernel_rfl) hi hz0 .i64 .i64 n n (by omega) (Int.le_refl _) (by rw [hz2]; omega) (by omega)
  rw [hr, hz1]
  simp
  rfl
set_option maxHeartbeats 1600000 in
theorem toPortS_of (xs : List Port) (v : Value) (w : World) (hl : szL szPort xs ≤ 1048576) (hr : RS 2 RPort w 0 xs v) :
    Calls Tryz.prog 30 #[v] w fun e w' => (∃ v', e = .returned v' ∧ RS 2 RPort w' w.heap.size xs v') ∧ Below w.heap.size w w' ∧ NF w.heap.size w' := by
  have hsm := szL_sm szPort xs
  obtain ⟨M, hM, hmk⟩ := make_toPortS xs.length (by omega)
  rcases hr.open with ⟨rfl, a, c, rfl⟩ | ⟨b, o, c, rfl, hc, hn, _, hcs⟩
  · have hmk0 : ∀ W : World, (Instr.makeSlice 35 (.int .i64 0) (.int .i64 0)).run Tryz.prog W = .ok (.slice (some ⟨W.heap.size, 0, none⟩) 0 0) (W.alloc (.cells M 106)) := hmk
    clear hsm hr hmk hl
    go_enter Tryz.func30, Tryz.ntmps30
    go_wp2
    go_loopw [4] (fun i W => i = .int .i64 0 ∧ Below w.heap.size w W ∧ NF w.heap.size W) (fun _ _ => 0)
    case atStart => exact ⟨rfl, bal (brf w) _, nf_al (nf_rf w) _ _⟩
    case round =>
      obtain ⟨rfl, hb, hnf⟩ := hrel
      have HB := hide hb
      have HNF := hide hnf
      clear hb hnf
      go_wp2
      exact bodyPost_ret (v := .slice (some ⟨w.heap.size, 0, none⟩) 0 0) (by simp [results, Tryz.results30, go_sem]) rfl ⟨⟨_, rfl, RS.nil _ _ _ _ _ _⟩, unhide HB, unhide HNF⟩
  · have hn2 := hn
    unfold maxLen at hn
    have HN := hide hn2
    have HC := hide hcs
    have HTP := hide (TP_made w M 106 (xs.length * 2) hM)
    clear hcs hr hM hn2
    go_enter Tryz.func30, Tryz.ntmps30
    go_wp2
    clear hmk
    go_loopw [4] (fun i W => ∃ j : Nat, j ≤ xs.length ∧ i = .int .i64 j ∧ TP W w.heap.size (xs.length * 2) ∧ NR 2 RPort W (w.heap.size + 1) w.heap.size j xs ∧ Below w.heap.size w W ∧ w.heap.size + 1 ≤ W.heap.size ∧ NF w.heap.size W) (fun i W => xs.length - (intOf i).toNat)
    case atStart => exact ⟨0, Nat.zero_le _, rfl, unhide HTP, NR.zero, bal (brf w) _, by simp, nf_al (nf_rf w) _ _⟩
    case round =>
      clear HTP
      obtain ⟨j, hj, rfl, hTP, hNR, hb, hsz, hnf⟩ := hrel
      have HNF := hide hnf
      clear hnf
      have HTP := hide hTP
      have HNR := hide hNR
      by_cases hjn : j < xs.length
      · have hx : xs[j]? = some xs[j] := List.getElem?_eq_getElem hjn
        generalize xs[j] = x at hx
        obtain ⟨u, hul, hat, hrx⟩ := unhide HC j x hx
        have st := sm_take (f := szPort) hx
        have sl := sm_le (f := szPort) (xs := xs) (j + 1)
        have i1 : (0 : Int) ≤ (j : Int) := by omega
        have i2 : (j : Int) < (xs.length : Int) := by omega
        obtain ⟨⟨w0, c0⟩, f0⟩ := hTP (j * 2 + 0) (by omega)
        obtain ⟨⟨w1, c1⟩, f1⟩ := hTP (j * 2 + 1) (by omega)
        simp only [Nat.add_zero] at c0 f0
        have PX := hide (toPort_of x u wr (by omega) (RPort.keeps _ _ _ _ _ (later_cells hb 0) hrx))
        obtain ⟨rfl, _⟩ := hrx
        have k0 := cell_later hb (hat.get (j := 0) rfl)
        have k1 := cell_later hb (hat.get (j := 1) rfl)
        simp only [Nat.add_zero] at k0
        have HX := hide hx
        have HB := hide hb
        clear hb hat hul HC hTP hNR hx
        go_wp2_with (go_at_call 51; refine (unhide PX).mono ?_; rintro e v1 ⟨⟨u1, rfl, hr1⟩, hb1, nf1⟩; have HN1 := hide (nf_tr (unhide HNF) hb1 nf1); clear nf1; have HR1 := hide hr1; have HB1 := hide hb1; have d0 := cell_later hb1 c0; have g0 := frozen_later hb1 c0 f0; have d1 := cell_later hb1 c1; have g1 := frozen_later hb1 c1 f1; obtain ⟨rfl, _⟩ := hr1; clear hb1)
        have hgs : w.heap.size + 1 ≤ wr.heap.size := by omega
        have hN1 := NR.step RPort.keeps (u := [.string x.name, .int .i64 x.src]) ((unhide HTP).later (unhide HB1)) ((unhide HNR).later RPort.keeps (unhide HB1)) (Nat.lt_succ_self _) (unhide HX) rfl (RPort.lowers _ _ _ _ _ hgs (unhide HR1)) (by omega)
        have hT1 := ((unhide HTP).later (unhide HB1)).set (o := j * 2) (vs := [.string x.name, .int .i64 x.src])
        have hB1 := setK_below [.string x.name, .int .i64 x.src] (o := j * 2) (btr (unhide HB) (unhide HB1)) (Nat.le_refl w.heap.size)
        have hS1 := (unhide HB1).size
        have hF1 := nf_setK [.string x.name, .int .i64 x.src] (o := j * 2) (g := w.heap.size) (unhide HN1)
        simp only [setK] at hN1 hT1 hB1 hF1
        exact ⟨⟨j + 1, by omega, by go_num, hT1, hN1, hB1, by simp; omega, hF1⟩, by simp [intOf]; omega⟩
      · obtain rfl : j = xs.length := by omega
        have HB := hide hb
        clear hb hTP hNR HC
        go_wp2
        exact bodyPost_ret (v := .slice (some ⟨w.heap.size, 0, none⟩) xs.length xs.length) (by simp [results, Tryz.results30, go_sem]) rfl ⟨⟨_, rfl, NR.done RPort.lowers (unhide HNR) (unhide HN) (Nat.le_refl _)⟩, unhide HB, unhide HNF⟩
set_option maxHeartbeats 1600000 in
theorem toPacked_of (x : Packed) (u : List Value) (w : World) (hl : szPacked x ≤ 1048576) (hr : RPacked w 0 x u) :
    Calls Tryz.prog 7 #[.agg u.toArray] w fun e w' => (∃ u', e = .returned (.agg u'.toArray) ∧ RPacked w' w.heap.size x u') ∧ Below w.heap.size w w' ∧ NF w.heap.size w' := by
  have hsz : szPacked x = szL (fun (s : ByteArray) => s.size) x.ins + szL (fun (s : ByteArray) => s.size) x.clocks + szL szBlock x.blocks + szL szPort x.outs + szL szPort x.checks := rfl
  obtain ⟨v0, v1, v2, v3, v4, rfl, r0, r1, r2, r3, r4⟩ := hr
  have S0 := hide (fun (W : World) (hb : Below w.heap.size w W) => toStringS_of x.ins v0 W (by omega) (r0.later RStr.keeps hb))
  obtain ⟨a0, c0, rfl⟩ := r0.slice
  have S1 := hide (fun (W : World) (hb : Below w.heap.size w W) => toStringS_of x.clocks v1 W (by omega) (r1.later RStr.keeps hb))
  obtain ⟨a1, c1, rfl⟩ := r1.slice
  have S2 := hide (fun (W : World) (hb : Below w.heap.size w W) => toBlockS_of x.blocks v2 W (by omega) (r2.later RBlock.keeps hb))
  obtain ⟨a2, c2, rfl⟩ := r2.slice
  have S3 := hide (fun (W : World) (hb : Below w.heap.size w W) => toPortS_of x.outs v3 W (by omega) (r3.later RPort.keeps hb))
  obtain ⟨a3, c3, rfl⟩ := r3.slice
  have S4 := hide (fun (W : World) (hb : Below w.heap.size w W) => toPortS_of x.checks v4 W (by omega) (r4.later RPort.keeps hb))
  obtain ⟨a4, c4, rfl⟩ := r4.slice
  clear r0 r1 r2 r3 r4
  clear hsz hl
  go_enter Tryz.func7, Tryz.ntmps7
  go_wp2_with (first
    | (have hq5 := hB4; go_at_call 30; refine (unhide S4 _ (bst hB4 (by show w.heap.size ≤ w.heap.size + 1 + 1; omega) _)).mono ?_; rintro e W5 ⟨⟨V5, rfl, rd5⟩, hb5, nf5⟩; have HF5 := hide (nf_tr (nf_set (unhide HF4) _ _) hb5 nf5); clear nf5; obtain ⟨A4, C4, rfl⟩ := rd5.slice; obtain ⟨hc5, hf5⟩ := bcell hb5; have hB5 := btr (bst hB4 (by show w.heap.size ≤ w.heap.size + 1 + 1; omega) _) hb5; have sz5 := hb5.size; have t5 : w.heap.size + 1 + 1 < W5.heap.size := (by simp at sz5; omega); have u5 : w.heap.size + 1 < W5.heap.size := (by omega); have s5 : w.heap.size < W5.heap.size := (by omega); have rr5_1 := hide (((unhide rr4_1).set RStr.keeps (g := w.heap.size + 1 + 1) (by omega)).later RStr.keeps hb5); have rr5_2 := hide (((unhide rr4_2).set RStr.keeps (g := w.heap.size + 1 + 1) (by omega)).later RStr.keeps hb5); have rr5_3 := hide (((unhide rr4_3).set RBlock.keeps (g := w.heap.size + 1 + 1) (by omega)).later RBlock.keeps hb5); have rr5_4 := hide (((unhide HD4).set RPort.keeps (g := w.heap.size + 1 + 1) (by omega)).later RPort.keeps hb5); have HD5 := hide (RS.low RPort.lowers (B' := w.heap.size + 1 + 1 + 1) (by simp; omega) rd5); clear rd5 hb5 sz5)
    | (have hq4 := hB3; go_at_call 30; refine (unhide S3 _ (bst hB3 (by show w.heap.size ≤ w.heap.size + 1 + 1; omega) _)).mono ?_; rintro e W4 ⟨⟨V4, rfl, rd4⟩, hb4, nf4⟩; have HF4 := hide (nf_tr (nf_set (unhide HF3) _ _) hb4 nf4); clear nf4; obtain ⟨A3, C3, rfl⟩ := rd4.slice; obtain ⟨hc4, hf4⟩ := bcell hb4; have hB4 := btr (bst hB3 (by show w.heap.size ≤ w.heap.size + 1 + 1; omega) _) hb4; have sz4 := hb4.size; have t4 : w.heap.size + 1 + 1 < W4.heap.size := (by simp at sz4; omega); have u4 : w.heap.size + 1 < W4.heap.size := (by omega); have s4 : w.heap.size < W4.heap.size := (by omega); have rr4_1 := hide (((unhide rr3_1).set RStr.keeps (g := w.heap.size + 1 + 1) (by omega)).later RStr.keeps hb4); have rr4_2 := hide (((unhide rr3_2).set RStr.keeps (g := w.heap.size + 1 + 1) (by omega)).later RStr.keeps hb4); have rr4_3 := hide (((unhide HD3).set RBlock.keeps (g := w.heap.size + 1 + 1) (by omega)).later RBlock.keeps hb4); have HD4 := hide (RS.low RPort.lowers (B' := w.heap.size + 1 + 1 + 1) (by simp; omega) rd4); clear rd4 hb4 sz4)
    | (have hq3 := hB2; go_at_call 29; refine (unhide S2 _ (bst hB2 (by show w.heap.size ≤ w.heap.size + 1 + 1; omega) _)).mono ?_; rintro e W3 ⟨⟨V3, rfl, rd3⟩, hb3, nf3⟩; have HF3 := hide (nf_tr (nf_set (unhide HF2) _ _) hb3 nf3); clear nf3; obtain ⟨A2, C2, rfl⟩ := rd3.slice; obtain ⟨hc3, hf3⟩ := bcell hb3; have hB3 := btr (bst hB2 (by show w.heap.size ≤ w.heap.size + 1 + 1; omega) _) hb3; have sz3 := hb3.size; have t3 : w.heap.size + 1 + 1 < W3.heap.size := (by simp at sz3; omega); have u3 : w.heap.size + 1 < W3.heap.size := (by omega); have s3 : w.heap.size < W3.heap.size := (by omega); have rr3_1 := hide (((unhide rr2_1).set RStr.keeps (g := w.heap.size + 1 + 1) (by omega)).later RStr.keeps hb3); have rr3_2 := hide (((unhide HD2).set RStr.keeps (g := w.heap.size + 1 + 1) (by omega)).later RStr.keeps hb3); have HD3 := hide (RS.low RBlock.lowers (B' := w.heap.size + 1 + 1 + 1) (by simp; omega) rd3); clear rd3 hb3 sz3)
    | (have hq2 := hB1; go_at_call 28; refine (unhide S1 _ (bst hB1 (by show w.heap.size ≤ w.heap.size + 1 + 1; omega) _)).mono ?_; rintro e W2 ⟨⟨V2, rfl, rd2⟩, hb2, nf2⟩; have HF2 := hide (nf_tr (nf_set (unhide HF1) _ _) hb2 nf2); clear nf2; obtain ⟨A1, C1, rfl⟩ := rd2.slice; obtain ⟨hc2, hf2⟩ := bcell hb2; have hB2 := btr (bst hB1 (by show w.heap.size ≤ w.heap.size + 1 + 1; omega) _) hb2; have sz2 := hb2.size; have t2 : w.heap.size + 1 + 1 < W2.heap.size := (by simp at sz2; omega); have u2 : w.heap.size + 1 < W2.heap.size := (by omega); have s2 : w.heap.size < W2.heap.size := (by omega); have rr2_1 := hide (((unhide HD1).set RStr.keeps (g := w.heap.size + 1 + 1) (by omega)).later RStr.keeps hb2); have HD2 := hide (RS.low RStr.lowers (B' := w.heap.size + 1 + 1 + 1) (by simp; omega) rd2); clear rd2 hb2 sz2)
    | (go_at_call 28; refine (unhide S0 _ (bal (bal (bal (brf w) _) _) _)).mono ?_; rintro e W1 ⟨⟨V1, rfl, rd1⟩, hb1, nf1⟩; have HF1 := hide (nf_tr (nf_al (nf_al (nf_al (nf_rf w) _ _) _ _) _ _) hb1 nf1); clear nf1; obtain ⟨A0, C0, rfl⟩ := rd1.slice; obtain ⟨hc1, hf1⟩ := bcell hb1; have hB1 := btr (bal (bal (bal (brf w) _) _) _) hb1; have sz1 := hb1.size; have t1 : w.heap.size + 1 + 1 < W1.heap.size := (by simp at sz1; omega); have u1 : w.heap.size + 1 < W1.heap.size := (by omega); have s1 : w.heap.size < W1.heap.size := (by omega); have HD1 := hide (RS.low RStr.lowers (B' := w.heap.size + 1 + 1 + 1) (by simp) rd1); clear rd1 hb1 sz1))
  refine bodyPost_ret (v := .agg #[.slice A0 x.ins.length C0, .slice A1 x.clocks.length C1, .slice A2 x.blocks.length C2, .slice A3 x.outs.length C3, .slice A4 x.checks.length C4]) (by simp [results, Tryz.results7, go_sem, *]) rfl ⟨⟨[.slice A0 x.ins.length C0, .slice A1 x.clocks.length C1, .slice A2 x.blocks.length C2, .slice A3 x.outs.length C3, .slice A4 x.checks.length C4], rfl, ?_⟩, ?_, ?_⟩
  · refine ⟨_, _, _, _, _, rfl, ?_, ?_, ?_, ?_, ?_⟩
    · refine RS.low RStr.lowers (B := w.heap.size + 1 + 1 + 1) (by omega) ?_
      repeat refine RS.set RStr.keeps ?_ (by omega)
      exact unhide rr5_1
    · refine RS.low RStr.lowers (B := w.heap.size + 1 + 1 + 1) (by omega) ?_
      repeat refine RS.set RStr.keeps ?_ (by omega)
      exact unhide rr5_2
    · refine RS.low RBlock.lowers (B := w.heap.size + 1 + 1 + 1) (by omega) ?_
      repeat refine RS.set RBlock.keeps ?_ (by omega)
      exact unhide rr5_3
    · refine RS.low RPort.lowers (B := w.heap.size + 1 + 1 + 1) (by omega) ?_
      repeat refine RS.set RPort.keeps ?_ (by omega)
      exact unhide rr5_4
    · refine RS.low RPort.lowers (B := w.heap.size + 1 + 1 + 1) (by omega) ?_
      repeat refine RS.set RPort.keeps ?_ (by omega)
      exact unhide HD5
  · repeat refine bst ?_ (by first | (simp; done) | (simp; omega)) _
    exact hB5
  · repeat refine nf_set ?_ _ _
    exact unhide HF5
end Go.Proofs.YtlldfaniddbjaaaGreatDoor
