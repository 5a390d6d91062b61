/- What the laws' to functions answer: a copy in new memory. -/
import Derived.Test.YtnoklbnacfmpdacDDa
import Derived.Test.YtnoklbnacfmpdacRT14
namespace Go.Proofs.Ytnoklbnacfmpdac
open Go.RowKit Gs
set_option linter.unusedVariables false
set_option maxRecDepth 100000
theorem info_toStringS : (Try.prog.info? 9).map (fun i => (i.zero, i.size, i.bytes)) = some (some (.string ByteArray.empty), 1, 16) := by kernel_rfl
theorem make_toStringS (n : Nat) (hn : n ≤ 1048576) : ∃ M : Array Value, M.size = n * 1 ∧ ∀ W : World, (Instr.makeSlice 22 (.int .i64 (n : Int)) (.int .i64 (n : Int))).run Try.prog W = .ok (.slice (some ⟨W.heap.size, 0, none⟩) n n) (W.alloc (.cells M 9)) := by
  obtain ⟨i0, hi, hz0, hz1, hz2⟩ := info_parts info_toStringS
  refine ⟨_, size_madeCells #[.string ByteArray.empty] (n * 1), fun W => ?_⟩
  have hr := run_make (P := Try.prog) W 22 9 i0 _ (by kernel_rfl) hi hz0 .i64 .i64 n n (by omega) (Int.le_refl _) (by rw [hz2]; omega) (by omega)
  rw [hr, hz1]
  simp
  rfl
set_option maxHeartbeats 1600000 in
theorem toStringS_of (xs : List ByteArray) (v : Value) (w : World) (hl : szL (fun (s : ByteArray) => s.size) xs ≤ 1048576) (hr : RS 1 RStr w 0 xs v) :
    Calls Try.prog 22 #[v] w fun e w' => (∃ v', e = .returned v' ∧ RS 1 RStr w' w.heap.size xs v') ∧ Below w.heap.size w w' ∧ NF w.heap.size w' := by
  have hsm := szL_sm (fun (s : ByteArray) => s.size) xs
  obtain ⟨M, hM, hmk⟩ := make_toStringS xs.length (by omega)
  rcases hr.open with ⟨rfl, a, c, rfl⟩ | ⟨b, o, c, rfl, hc, hn, _, hcs⟩
  · have hmk0 : ∀ W : World, (Instr.makeSlice 22 (.int .i64 0) (.int .i64 0)).run Try.prog W = .ok (.slice (some ⟨W.heap.size, 0, none⟩) 0 0) (W.alloc (.cells M 9)) := hmk
    clear hsm hr hmk hl
    go_enter Try.func22, Try.ntmps22
    go_wp2
    go_loopw [4] (fun i W => i = .int .i64 0 ∧ Below w.heap.size w W ∧ NF w.heap.size W) (fun _ _ => 0)
    case atStart => exact ⟨rfl, bal (brf w) _, nf_al (nf_rf w) _ _⟩
    case round =>
      obtain ⟨rfl, hb, hnf⟩ := hrel
      have HB := hide hb
      have HNF := hide hnf
      clear hb hnf
      go_wp2
      exact bodyPost_ret (v := .slice (some ⟨w.heap.size, 0, none⟩) 0 0) (by simp [results, Try.results22, go_sem]) rfl ⟨⟨_, rfl, RS.nil _ _ _ _ _ _⟩, unhide HB, unhide HNF⟩
  · have hn2 := hn
    unfold maxLen at hn
    have HN := hide hn2
    have HC := hide hcs
    have HTP := hide (TP_made w M 9 (xs.length * 1) hM)
    clear hcs hr hM hn2
    go_enter Try.func22, Try.ntmps22
    go_wp2
    clear hmk
    go_loopw [4] (fun i W => ∃ j : Nat, j ≤ xs.length ∧ i = .int .i64 j ∧ TP W w.heap.size (xs.length * 1) ∧ NR 1 RStr W (w.heap.size + 1) w.heap.size j xs ∧ Below w.heap.size w W ∧ w.heap.size + 1 ≤ W.heap.size ∧ NF w.heap.size W) (fun i W => xs.length - (intOf i).toNat)
    case atStart => exact ⟨0, Nat.zero_le _, rfl, unhide HTP, NR.zero, bal (brf w) _, by simp, nf_al (nf_rf w) _ _⟩
    case round =>
      clear HTP
      obtain ⟨j, hj, rfl, hTP, hNR, hb, hsz, hnf⟩ := hrel
      have HNF := hide hnf
      clear hnf
      have HTP := hide hTP
      have HNR := hide hNR
      by_cases hjn : j < xs.length
      · have hx : xs[j]? = some xs[j] := List.getElem?_eq_getElem hjn
        generalize xs[j] = x at hx
        obtain ⟨u, hul, hat, hrx⟩ := unhide HC j x hx
        have st := sm_take (f := (fun (s : ByteArray) => s.size)) hx
        have sl := sm_le (f := (fun (s : ByteArray) => s.size)) (xs := xs) (j + 1)
        have i1 : (0 : Int) ≤ (j : Int) := by omega
        have i2 : (j : Int) < (xs.length : Int) := by omega
        obtain ⟨⟨w0, c0⟩, f0⟩ := hTP (j * 1 + 0) (by omega)
        simp only [Nat.add_zero, Nat.mul_one] at c0 f0
        obtain ⟨rfl, hts⟩ := hrx
        have k0 := cell_later hb (hat.get (j := 0) rfl)
        simp only [Nat.add_zero, Nat.mul_one] at k0
        have HX := hide hx
        have HB := hide hb
        clear hb hat hul HC hTP hNR hx
        go_wp2
        have hN1 := NR.step RStr.keeps (u := [.string x]) (unhide HTP) (unhide HNR) (Nat.lt_succ_self _) (unhide HX) rfl ⟨rfl, hts⟩ (by omega)
        have hT1 := (unhide HTP).set (o := j) (vs := [.string x])
        have hB1 := setK_below [.string x] (o := j) (unhide HB) (Nat.le_refl w.heap.size)
        simp only [setK, Nat.mul_one] at hN1
        simp only [setK] at hT1 hB1
        exact ⟨⟨j + 1, by omega, by go_num, hT1, hN1, hB1, by simp; omega, nf_set (unhide HNF) _ _⟩, by simp [intOf]; omega⟩
      · obtain rfl : j = xs.length := by omega
        have HB := hide hb
        clear hb hTP hNR HC
        go_wp2
        exact bodyPost_ret (v := .slice (some ⟨w.heap.size, 0, none⟩) xs.length xs.length) (by simp [results, Try.results22, go_sem]) rfl ⟨⟨_, rfl, NR.done RStr.lowers (unhide HNR) (unhide HN) (Nat.le_refl _)⟩, unhide HB, unhide HNF⟩
set_option maxHeartbeats 1600000 in
theorem toLatch_of (x : Latch) (u : List Value) (w : World) (hl : szLatch x ≤ 1048576) (hr : RLatch w 0 x u) :
    Calls Try.prog 47 #[.agg u.toArray] w fun e w' => (∃ u', e = .returned (.agg u'.toArray) ∧ RLatch w' w.heap.size x u') ∧ Below w.heap.size w w' ∧ NF w.heap.size w' := by
  have hsz : szLatch x = x.name.size := rfl
  obtain ⟨rfl, b_name⟩ := hr
  replace b_name := hide b_name
  clear hsz hl
  go_enter Try.func47, Try.ntmps47
  go_wp2
  exact bodyPost_ret (v := .agg #[.string x.name, .int .i64 x.next, .int .i64 x.init, .int .i64 x.clock]) (by simp [results, Try.results47, go_sem]) rfl ⟨⟨[.string x.name, .int .i64 x.next, .int .i64 x.init, .int .i64 x.clock], rfl, rfl, unhide b_name⟩, bal (bal (bal (brf w) _) _) _, nf_al (nf_al (nf_al (nf_rf w) _ _) _ _) _ _⟩
theorem info_toLatchS : (Try.prog.info? 80).map (fun i => (i.zero, i.size, i.bytes)) = some (some (.agg #[.string ByteArray.empty, .int .i64 0, .int .i64 0, .int .i64 0]), 4, 40) := by kernel_rfl
theorem make_toLatchS (n : Nat) (hn : n ≤ 1048576) : ∃ M : Array Value, M.size = n * 4 ∧ ∀ W : World, (Instr.makeSlice 32 (.int .i64 (n : Int)) (.int .i64 (n : Int))).run Try.prog W = .ok (.slice (some ⟨W.heap.size, 0, none⟩) n n) (W.alloc (.cells M 80)) := by
  obtain ⟨i0, hi, hz0, hz1, hz2⟩ := info_parts info_toLatchS
  refine ⟨_, size_madeCells #[.string ByteArray.empty, .int .i64 0, .int .i64 0, .int .i64 0] (n * 4), fun W => ?_⟩
  have hr := run_make (P := Try.prog) W 32 80 i0 _ (by kernel_rfl) hi hz0 .i64 .i64 n n (by omega) (Int.le_refl _) (by rw [hz2]; omega) (by omega)
  rw [hr, hz1]
  simp
  rfl
set_option maxHeartbeats 1600000 in
theorem toLatchS_of (xs : List Latch) (v : Value) (w : World) (hl : szL szLatch xs ≤ 1048576) (hr : RS 4 RLatch w 0 xs v) :
    Calls Try.prog 23 #[v] w fun e w' => (∃ v', e = .returned v' ∧ RS 4 RLatch w' w.heap.size xs v') ∧ Below w.heap.size w w' ∧ NF w.heap.size w' := by
  have hsm := szL_sm szLatch xs
  obtain ⟨M, hM, hmk⟩ := make_toLatchS xs.length (by omega)
  rcases hr.open with ⟨rfl, a, c, rfl⟩ | ⟨b, o, c, rfl, hc, hn, _, hcs⟩
  · have hmk0 : ∀ W : World, (Instr.makeSlice 32 (.int .i64 0) (.int .i64 0)).run Try.prog W = .ok (.slice (some ⟨W.heap.size, 0, none⟩) 0 0) (W.alloc (.cells M 80)) := hmk
    clear hsm hr hmk hl
    go_enter Try.func23, Try.ntmps23
    go_wp2
    go_loopw [4] (fun i W => i = .int .i64 0 ∧ Below w.heap.size w W ∧ NF w.heap.size W) (fun _ _ => 0)
    case atStart => exact ⟨rfl, bal (brf w) _, nf_al (nf_rf w) _ _⟩
    case round =>
      obtain ⟨rfl, hb, hnf⟩ := hrel
      have HB := hide hb
      have HNF := hide hnf
      clear hb hnf
      go_wp2
      exact bodyPost_ret (v := .slice (some ⟨w.heap.size, 0, none⟩) 0 0) (by simp [results, Try.results23, go_sem]) rfl ⟨⟨_, rfl, RS.nil _ _ _ _ _ _⟩, unhide HB, unhide HNF⟩
  · have hn2 := hn
    unfold maxLen at hn
    have HN := hide hn2
    have HC := hide hcs
    have HTP := hide (TP_made w M 80 (xs.length * 4) hM)
    clear hcs hr hM hn2
    go_enter Try.func23, Try.ntmps23
    go_wp2
    clear hmk
    go_loopw [4] (fun i W => ∃ j : Nat, j ≤ xs.length ∧ i = .int .i64 j ∧ TP W w.heap.size (xs.length * 4) ∧ NR 4 RLatch W (w.heap.size + 1) w.heap.size j xs ∧ Below w.heap.size w W ∧ w.heap.size + 1 ≤ W.heap.size ∧ NF w.heap.size W) (fun i W => xs.length - (intOf i).toNat)
    case atStart => exact ⟨0, Nat.zero_le _, rfl, unhide HTP, NR.zero, bal (brf w) _, by simp, nf_al (nf_rf w) _ _⟩
    case round =>
      clear HTP
      obtain ⟨j, hj, rfl, hTP, hNR, hb, hsz, hnf⟩ := hrel
      have HNF := hide hnf
      clear hnf
      have HTP := hide hTP
      have HNR := hide hNR
      by_cases hjn : j < xs.length
      · have hx : xs[j]? = some xs[j] := List.getElem?_eq_getElem hjn
        generalize xs[j] = x at hx
        obtain ⟨u, hul, hat, hrx⟩ := unhide HC j x hx
        have st := sm_take (f := szLatch) hx
        have sl := sm_le (f := szLatch) (xs := xs) (j + 1)
        have i1 : (0 : Int) ≤ (j : Int) := by omega
        have i2 : (j : Int) < (xs.length : Int) := by omega
        obtain ⟨⟨w0, c0⟩, f0⟩ := hTP (j * 4 + 0) (by omega)
        obtain ⟨⟨w1, c1⟩, f1⟩ := hTP (j * 4 + 1) (by omega)
        obtain ⟨⟨w2, c2⟩, f2⟩ := hTP (j * 4 + 2) (by omega)
        obtain ⟨⟨w3, c3⟩, f3⟩ := hTP (j * 4 + 3) (by omega)
        simp only [Nat.add_zero] at c0 f0
        have PX := hide (toLatch_of x u wr (by omega) (RLatch.keeps _ _ _ _ _ (later_cells hb 0) hrx))
        obtain ⟨rfl, _⟩ := hrx
        have k0 := cell_later hb (hat.get (j := 0) rfl)
        have k1 := cell_later hb (hat.get (j := 1) rfl)
        have k2 := cell_later hb (hat.get (j := 2) rfl)
        have k3 := cell_later hb (hat.get (j := 3) rfl)
        simp only [Nat.add_zero] at k0
        have HX := hide hx
        have HB := hide hb
        clear hb hat hul HC hTP hNR hx
        go_wp2_with (go_at_call 47; refine (unhide PX).mono ?_; rintro e v1 ⟨⟨u1, rfl, hr1⟩, hb1, nf1⟩; have HN1 := hide (nf_tr (unhide HNF) hb1 nf1); clear nf1; have HR1 := hide hr1; have HB1 := hide hb1; have d0 := cell_later hb1 c0; have g0 := frozen_later hb1 c0 f0; have d1 := cell_later hb1 c1; have g1 := frozen_later hb1 c1 f1; have d2 := cell_later hb1 c2; have g2 := frozen_later hb1 c2 f2; have d3 := cell_later hb1 c3; have g3 := frozen_later hb1 c3 f3; obtain ⟨rfl, _⟩ := hr1; clear hb1)
        have hgs : w.heap.size + 1 ≤ wr.heap.size := by omega
        have hN1 := NR.step RLatch.keeps (u := [.string x.name, .int .i64 x.next, .int .i64 x.init, .int .i64 x.clock]) ((unhide HTP).later (unhide HB1)) ((unhide HNR).later RLatch.keeps (unhide HB1)) (Nat.lt_succ_self _) (unhide HX) rfl (RLatch.lowers _ _ _ _ _ hgs (unhide HR1)) (by omega)
        have hT1 := ((unhide HTP).later (unhide HB1)).set (o := j * 4) (vs := [.string x.name, .int .i64 x.next, .int .i64 x.init, .int .i64 x.clock])
        have hB1 := setK_below [.string x.name, .int .i64 x.next, .int .i64 x.init, .int .i64 x.clock] (o := j * 4) (btr (unhide HB) (unhide HB1)) (Nat.le_refl w.heap.size)
        have hS1 := (unhide HB1).size
        have hF1 := nf_setK [.string x.name, .int .i64 x.next, .int .i64 x.init, .int .i64 x.clock] (o := j * 4) (g := w.heap.size) (unhide HN1)
        simp only [setK] at hN1 hT1 hB1 hF1
        exact ⟨⟨j + 1, by omega, by go_num, hT1, hN1, hB1, by simp; omega, hF1⟩, by simp [intOf]; omega⟩
      · obtain rfl : j = xs.length := by omega
        have HB := hide hb
        clear hb hTP hNR HC
        go_wp2
        exact bodyPost_ret (v := .slice (some ⟨w.heap.size, 0, none⟩) xs.length xs.length) (by simp [results, Try.results23, go_sem]) rfl ⟨⟨_, rfl, NR.done RLatch.lowers (unhide HNR) (unhide HN) (Nat.le_refl _)⟩, unhide HB, unhide HNF⟩
set_option maxHeartbeats 1600000 in
theorem toAndG_of (x : AndG) (u : List Value) (w : World) (hl : szAndG x ≤ 1048576) (hr : RAndG w 0 x u) :
    Calls Try.prog 48 #[.agg u.toArray] w fun e w' => (∃ u', e = .returned (.agg u'.toArray) ∧ RAndG w' w.heap.size x u') ∧ Below w.heap.size w w' ∧ NF w.heap.size w' := by
  have hsz : szAndG x = 0 := rfl
  obtain ⟨rfl⟩ := hr
  clear hsz hl
  go_enter Try.func48, Try.ntmps48
  go_wp2
  exact bodyPost_ret (v := .agg #[.int .i64 x.a, .int .i64 x.b]) (by simp [results, Try.results48, go_sem]) rfl ⟨⟨[.int .i64 x.a, .int .i64 x.b], rfl, rfl⟩, bal (bal (bal (brf w) _) _) _, nf_al (nf_al (nf_al (nf_rf w) _ _) _ _) _ _⟩
theorem info_toAndGS : (Try.prog.info? 54).map (fun i => (i.zero, i.size, i.bytes)) = some (some (.agg #[.int .i64 0, .int .i64 0]), 2, 16) := by kernel_rfl
theorem make_toAndGS (n : Nat) (hn : n ≤ 1048576) : ∃ M : Array Value, M.size = n * 2 ∧ ∀ W : World, (Instr.makeSlice 33 (.int .i64 (n : Int)) (.int .i64 (n : Int))).run Try.prog W = .ok (.slice (some ⟨W.heap.size, 0, none⟩) n n) (W.alloc (.cells M 54)) := by
  obtain ⟨i0, hi, hz0, hz1, hz2⟩ := info_parts info_toAndGS
  refine ⟨_, size_madeCells #[.int .i64 0, .int .i64 0] (n * 2), fun W => ?_⟩
  have hr := run_make (P := Try.prog) W 33 54 i0 _ (by kernel_rfl) hi hz0 .i64 .i64 n n (by omega) (Int.le_refl _) (by rw [hz2]; omega) (by omega)
  rw [hr, hz1]
  simp
  rfl
set_option maxHeartbeats 1600000 in
theorem toAndGS_of (xs : List AndG) (v : Value) (w : World) (hl : szL szAndG xs ≤ 1048576) (hr : RS 2 RAndG w 0 xs v) :
    Calls Try.prog 24 #[v] w fun e w' => (∃ v', e = .returned v' ∧ RS 2 RAndG w' w.heap.size xs v') ∧ Below w.heap.size w w' ∧ NF w.heap.size w' := by
  have hsm := szL_sm szAndG xs
  obtain ⟨M, hM, hmk⟩ := make_toAndGS xs.length (by omega)
  rcases hr.open with ⟨rfl, a, c, rfl⟩ | ⟨b, o, c, rfl, hc, hn, _, hcs⟩
  · have hmk0 : ∀ W : World, (Instr.makeSlice 33 (.int .i64 0) (.int .i64 0)).run Try.prog W = .ok (.slice (some ⟨W.heap.size, 0, none⟩) 0 0) (W.alloc (.cells M 54)) := hmk
    clear hsm hr hmk hl
    go_enter Try.func24, Try.ntmps24
    go_wp2
    go_loopw [4] (fun i W => i = .int .i64 0 ∧ Below w.heap.size w W ∧ NF w.heap.size W) (fun _ _ => 0)
    case atStart => exact ⟨rfl, bal (brf w) _, nf_al (nf_rf w) _ _⟩
    case round =>
      obtain ⟨rfl, hb, hnf⟩ := hrel
      have HB := hide hb
      have HNF := hide hnf
      clear hb hnf
      go_wp2
      exact bodyPost_ret (v := .slice (some ⟨w.heap.size, 0, none⟩) 0 0) (by simp [results, Try.results24, go_sem]) rfl ⟨⟨_, rfl, RS.nil _ _ _ _ _ _⟩, unhide HB, unhide HNF⟩
  · have hn2 := hn
    unfold maxLen at hn
    have HN := hide hn2
    have HC := hide hcs
    have HTP := hide (TP_made w M 54 (xs.length * 2) hM)
    clear hcs hr hM hn2
    go_enter Try.func24, Try.ntmps24
    go_wp2
    clear hmk
    go_loopw [4] (fun i W => ∃ j : Nat, j ≤ xs.length ∧ i = .int .i64 j ∧ TP W w.heap.size (xs.length * 2) ∧ NR 2 RAndG W (w.heap.size + 1) w.heap.size j xs ∧ Below w.heap.size w W ∧ w.heap.size + 1 ≤ W.heap.size ∧ NF w.heap.size W) (fun i W => xs.length - (intOf i).toNat)
    case atStart => exact ⟨0, Nat.zero_le _, rfl, unhide HTP, NR.zero, bal (brf w) _, by simp, nf_al (nf_rf w) _ _⟩
    case round =>
      clear HTP
      obtain ⟨j, hj, rfl, hTP, hNR, hb, hsz, hnf⟩ := hrel
      have HNF := hide hnf
      clear hnf
      have HTP := hide hTP
      have HNR := hide hNR
      by_cases hjn : j < xs.length
      · have hx : xs[j]? = some xs[j] := List.getElem?_eq_getElem hjn
        generalize xs[j] = x at hx
        obtain ⟨u, hul, hat, hrx⟩ := unhide HC j x hx
        have st := sm_take (f := szAndG) hx
        have sl := sm_le (f := szAndG) (xs := xs) (j + 1)
        have i1 : (0 : Int) ≤ (j : Int) := by omega
        have i2 : (j : Int) < (xs.length : Int) := by omega
        obtain ⟨⟨w0, c0⟩, f0⟩ := hTP (j * 2 + 0) (by omega)
        obtain ⟨⟨w1, c1⟩, f1⟩ := hTP (j * 2 + 1) (by omega)
        simp only [Nat.add_zero] at c0 f0
        have PX := hide (toAndG_of x u wr (by omega) (RAndG.keeps _ _ _ _ _ (later_cells hb 0) hrx))
        obtain ⟨rfl⟩ := hrx
        have k0 := cell_later hb (hat.get (j := 0) rfl)
        have k1 := cell_later hb (hat.get (j := 1) rfl)
        simp only [Nat.add_zero] at k0
        have HX := hide hx
        have HB := hide hb
        clear hb hat hul HC hTP hNR hx
        go_wp2_with (go_at_call 48; refine (unhide PX).mono ?_; rintro e v1 ⟨⟨u1, rfl, hr1⟩, hb1, nf1⟩; have HN1 := hide (nf_tr (unhide HNF) hb1 nf1); clear nf1; have HR1 := hide hr1; have HB1 := hide hb1; have d0 := cell_later hb1 c0; have g0 := frozen_later hb1 c0 f0; have d1 := cell_later hb1 c1; have g1 := frozen_later hb1 c1 f1; obtain ⟨rfl⟩ := hr1; clear hb1)
        have hgs : w.heap.size + 1 ≤ wr.heap.size := by omega
        have hN1 := NR.step RAndG.keeps (u := [.int .i64 x.a, .int .i64 x.b]) ((unhide HTP).later (unhide HB1)) ((unhide HNR).later RAndG.keeps (unhide HB1)) (Nat.lt_succ_self _) (unhide HX) rfl (RAndG.lowers _ _ _ _ _ hgs (unhide HR1)) (by omega)
        have hT1 := ((unhide HTP).later (unhide HB1)).set (o := j * 2) (vs := [.int .i64 x.a, .int .i64 x.b])
        have hB1 := setK_below [.int .i64 x.a, .int .i64 x.b] (o := j * 2) (btr (unhide HB) (unhide HB1)) (Nat.le_refl w.heap.size)
        have hS1 := (unhide HB1).size
        have hF1 := nf_setK [.int .i64 x.a, .int .i64 x.b] (o := j * 2) (g := w.heap.size) (unhide HN1)
        simp only [setK] at hN1 hT1 hB1 hF1
        exact ⟨⟨j + 1, by omega, by go_num, hT1, hN1, hB1, by simp; omega, hF1⟩, by simp [intOf]; omega⟩
      · obtain rfl : j = xs.length := by omega
        have HB := hide hb
        clear hb hTP hNR HC
        go_wp2
        exact bodyPost_ret (v := .slice (some ⟨w.heap.size, 0, none⟩) xs.length xs.length) (by simp [results, Try.results24, go_sem]) rfl ⟨⟨_, rfl, NR.done RAndG.lowers (unhide HNR) (unhide HN) (Nat.le_refl _)⟩, unhide HB, unhide HNF⟩
set_option maxHeartbeats 1600000 in
theorem toPin_of (x : Pin) (u : List Value) (w : World) (hl : szPin x ≤ 1048576) (hr : RPin w 0 x u) :
    Calls Try.prog 49 #[.agg u.toArray] w fun e w' => (∃ u', e = .returned (.agg u'.toArray) ∧ RPin w' w.heap.size x u') ∧ Below w.heap.size w w' ∧ NF w.heap.size w' := by
  have hsz : szPin x = x.name.size := rfl
  obtain ⟨rfl, b_name⟩ := hr
  replace b_name := hide b_name
  clear hsz hl
  go_enter Try.func49, Try.ntmps49
  go_wp2
  exact bodyPost_ret (v := .agg #[.string x.name, .int .i64 x.lit]) (by simp [results, Try.results49, go_sem]) rfl ⟨⟨[.string x.name, .int .i64 x.lit], rfl, rfl, unhide b_name⟩, bal (bal (bal (brf w) _) _) _, nf_al (nf_al (nf_al (nf_rf w) _ _) _ _) _ _⟩
theorem info_toPinS : (Try.prog.info? 86).map (fun i => (i.zero, i.size, i.bytes)) = some (some (.agg #[.string ByteArray.empty, .int .i64 0]), 2, 24) := by kernel_rfl
theorem make_toPinS (n : Nat) (hn : n ≤ 1048576) : ∃ M : Array Value, M.size = n * 2 ∧ ∀ W : World, (Instr.makeSlice 34 (.int .i64 (n : Int)) (.int .i64 (n : Int))).run Try.prog W = .ok (.slice (some ⟨W.heap.size, 0, none⟩) n n) (W.alloc (.cells M 86)) := by
  obtain ⟨i0, hi, hz0, hz1, hz2⟩ := info_parts info_toPinS
  refine ⟨_, size_madeCells #[.string ByteArray.empty, .int .i64 0] (n * 2), fun W => ?_⟩
  have hr := run_make (P := Try.prog) W 34 86 i0 _ (by kernel_rfl) hi hz0 .i64 .i64 n n (by omega) (Int.le_refl _) (by rw [hz2]; omega) (by omega)
  rw [hr, hz1]
  simp
  rfl
set_option maxHeartbeats 1600000 in
theorem toPinS_of (xs : List Pin) (v : Value) (w : World) (hl : szL szPin xs ≤ 1048576) (hr : RS 2 RPin w 0 xs v) :
    Calls Try.prog 25 #[v] w fun e w' => (∃ v', e = .returned v' ∧ RS 2 RPin w' w.heap.size xs v') ∧ Below w.heap.size w w' ∧ NF w.heap.size w' := by
  have hsm := szL_sm szPin xs
  obtain ⟨M, hM, hmk⟩ := make_toPinS xs.length (by omega)
  rcases hr.open with ⟨rfl, a, c, rfl⟩ | ⟨b, o, c, rfl, hc, hn, _, hcs⟩
  · have hmk0 : ∀ W : World, (Instr.makeSlice 34 (.int .i64 0) (.int .i64 0)).run Try.prog W = .ok (.slice (some ⟨W.heap.size, 0, none⟩) 0 0) (W.alloc (.cells M 86)) := hmk
    clear hsm hr hmk hl
    go_enter Try.func25, Try.ntmps25
    go_wp2
    go_loopw [4] (fun i W => i = .int .i64 0 ∧ Below w.heap.size w W ∧ NF w.heap.size W) (fun _ _ => 0)
    case atStart => exact ⟨rfl, bal (brf w) _, nf_al (nf_rf w) _ _⟩
    case round =>
      obtain ⟨rfl, hb, hnf⟩ := hrel
      have HB := hide hb
      have HNF := hide hnf
      clear hb hnf
      go_wp2
      exact bodyPost_ret (v := .slice (some ⟨w.heap.size, 0, none⟩) 0 0) (by simp [results, Try.results25, go_sem]) rfl ⟨⟨_, rfl, RS.nil _ _ _ _ _ _⟩, unhide HB, unhide HNF⟩
  · have hn2 := hn
    unfold maxLen at hn
    have HN := hide hn2
    have HC := hide hcs
    have HTP := hide (TP_made w M 86 (xs.length * 2) hM)
    clear hcs hr hM hn2
    go_enter Try.func25, Try.ntmps25
    go_wp2
    clear hmk
    go_loopw [4] (fun i W => ∃ j : Nat, j ≤ xs.length ∧ i = .int .i64 j ∧ TP W w.heap.size (xs.length * 2) ∧ NR 2 RPin W (w.heap.size + 1) w.heap.size j xs ∧ Below w.heap.size w W ∧ w.heap.size + 1 ≤ W.heap.size ∧ NF w.heap.size W) (fun i W => xs.length - (intOf i).toNat)
    case atStart => exact ⟨0, Nat.zero_le _, rfl, unhide HTP, NR.zero, bal (brf w) _, by simp, nf_al (nf_rf w) _ _⟩
    case round =>
      clear HTP
      obtain ⟨j, hj, rfl, hTP, hNR, hb, hsz, hnf⟩ := hrel
      have HNF := hide hnf
      clear hnf
      have HTP := hide hTP
      have HNR := hide hNR
      by_cases hjn : j < xs.length
      · have hx : xs[j]? = some xs[j] := List.getElem?_eq_getElem hjn
        generalize xs[j] = x at hx
        obtain ⟨u, hul, hat, hrx⟩ := unhide HC j x hx
        have st := sm_take (f := szPin) hx
        have sl := sm_le (f := szPin) (xs := xs) (j + 1)
        have i1 : (0 : Int) ≤ (j : Int) := by omega
        have i2 : (j : Int) < (xs.length : Int) := by omega
        obtain ⟨⟨w0, c0⟩, f0⟩ := hTP (j * 2 + 0) (by omega)
        obtain ⟨⟨w1, c1⟩, f1⟩ := hTP (j * 2 + 1) (by omega)
        simp only [Nat.add_zero] at c0 f0
        have PX := hide (toPin_of x u wr (by omega) (RPin.keeps _ _ _ _ _ (later_cells hb 0) hrx))
        obtain ⟨rfl, _⟩ := hrx
        have k0 := cell_later hb (hat.get (j := 0) rfl)
        have k1 := cell_later hb (hat.get (j := 1) rfl)
        simp only [Nat.add_zero] at k0
        have HX := hide hx
        have HB := hide hb
        clear hb hat hul HC hTP hNR hx
        go_wp2_with (go_at_call 49; refine (unhide PX).mono ?_; rintro e v1 ⟨⟨u1, rfl, hr1⟩, hb1, nf1⟩; have HN1 := hide (nf_tr (unhide HNF) hb1 nf1); clear nf1; have HR1 := hide hr1; have HB1 := hide hb1; have d0 := cell_later hb1 c0; have g0 := frozen_later hb1 c0 f0; have d1 := cell_later hb1 c1; have g1 := frozen_later hb1 c1 f1; obtain ⟨rfl, _⟩ := hr1; clear hb1)
        have hgs : w.heap.size + 1 ≤ wr.heap.size := by omega
        have hN1 := NR.step RPin.keeps (u := [.string x.name, .int .i64 x.lit]) ((unhide HTP).later (unhide HB1)) ((unhide HNR).later RPin.keeps (unhide HB1)) (Nat.lt_succ_self _) (unhide HX) rfl (RPin.lowers _ _ _ _ _ hgs (unhide HR1)) (by omega)
        have hT1 := ((unhide HTP).later (unhide HB1)).set (o := j * 2) (vs := [.string x.name, .int .i64 x.lit])
        have hB1 := setK_below [.string x.name, .int .i64 x.lit] (o := j * 2) (btr (unhide HB) (unhide HB1)) (Nat.le_refl w.heap.size)
        have hS1 := (unhide HB1).size
        have hF1 := nf_setK [.string x.name, .int .i64 x.lit] (o := j * 2) (g := w.heap.size) (unhide HN1)
        simp only [setK] at hN1 hT1 hB1 hF1
        exact ⟨⟨j + 1, by omega, by go_num, hT1, hN1, hB1, by simp; omega, hF1⟩, by simp [intOf]; omega⟩
      · obtain rfl : j = xs.length := by omega
        have HB := hide hb
        clear hb hTP hNR HC
        go_wp2
        exact bodyPost_ret (v := .slice (some ⟨w.heap.size, 0, none⟩) xs.length xs.length) (by simp [results, Try.results25, go_sem]) rfl ⟨⟨_, rfl, NR.done RPin.lowers (unhide HNR) (unhide HN) (Nat.le_refl _)⟩, unhide HB, unhide HNF⟩
set_option maxHeartbeats 1600000 in
theorem toAig_of (x : Aig) (u : List Value) (w : World) (hl : szAig x ≤ 1048576) (hr : RAig w 0 x u) :
    Calls Try.prog 6 #[.agg u.toArray] w fun e w' => (∃ u', e = .returned (.agg u'.toArray) ∧ RAig w' w.heap.size x u') ∧ Below w.heap.size w w' ∧ NF w.heap.size w' := by
  have hsz : szAig x = szL (fun (s : ByteArray) => s.size) x.ins + szL (fun (s : ByteArray) => s.size) x.clocks + szL szLatch x.latches + szL szAndG x.ands + szL szPin x.outs + szL szPin x.checks := rfl
  obtain ⟨v0, v1, v2, v3, v4, v5, rfl, r0, r1, r2, r3, r4, r5⟩ := hr
  have S0 := hide (fun (W : World) (hb : Below w.heap.size w W) => toStringS_of x.ins v0 W (by omega) (r0.later RStr.keeps hb))
  obtain ⟨a0, c0, rfl⟩ := r0.slice
  have S1 := hide (fun (W : World) (hb : Below w.heap.size w W) => toStringS_of x.clocks v1 W (by omega) (r1.later RStr.keeps hb))
  obtain ⟨a1, c1, rfl⟩ := r1.slice
  have S2 := hide (fun (W : World) (hb : Below w.heap.size w W) => toLatchS_of x.latches v2 W (by omega) (r2.later RLatch.keeps hb))
  obtain ⟨a2, c2, rfl⟩ := r2.slice
  have S3 := hide (fun (W : World) (hb : Below w.heap.size w W) => toAndGS_of x.ands v3 W (by omega) (r3.later RAndG.keeps hb))
  obtain ⟨a3, c3, rfl⟩ := r3.slice
  have S4 := hide (fun (W : World) (hb : Below w.heap.size w W) => toPinS_of x.outs v4 W (by omega) (r4.later RPin.keeps hb))
  obtain ⟨a4, c4, rfl⟩ := r4.slice
  have S5 := hide (fun (W : World) (hb : Below w.heap.size w W) => toPinS_of x.checks v5 W (by omega) (r5.later RPin.keeps hb))
  obtain ⟨a5, c5, rfl⟩ := r5.slice
  clear r0 r1 r2 r3 r4 r5
  clear hsz hl
  go_enter Try.func6, Try.ntmps6
  go_wp2_with (first
    | (have hq6 := hB5; go_at_call 25; refine (unhide S5 _ (bst hB5 (by show w.heap.size ≤ w.heap.size + 1 + 1; omega) _)).mono ?_; rintro e W6 ⟨⟨V6, rfl, rd6⟩, hb6, nf6⟩; have HF6 := hide (nf_tr (nf_set (unhide HF5) _ _) hb6 nf6); clear nf6; obtain ⟨A5, C5, rfl⟩ := rd6.slice; obtain ⟨hc6, hf6⟩ := bcell hb6; have hB6 := btr (bst hB5 (by show w.heap.size ≤ w.heap.size + 1 + 1; omega) _) hb6; have sz6 := hb6.size; have t6 : w.heap.size + 1 + 1 < W6.heap.size := (by simp at sz6; omega); have u6 : w.heap.size + 1 < W6.heap.size := (by omega); have s6 : w.heap.size < W6.heap.size := (by omega); have rr6_1 := hide (((unhide rr5_1).set RStr.keeps (g := w.heap.size + 1 + 1) (by omega)).later RStr.keeps hb6); have rr6_2 := hide (((unhide rr5_2).set RStr.keeps (g := w.heap.size + 1 + 1) (by omega)).later RStr.keeps hb6); have rr6_3 := hide (((unhide rr5_3).set RLatch.keeps (g := w.heap.size + 1 + 1) (by omega)).later RLatch.keeps hb6); have rr6_4 := hide (((unhide rr5_4).set RAndG.keeps (g := w.heap.size + 1 + 1) (by omega)).later RAndG.keeps hb6); have rr6_5 := hide (((unhide HD5).set RPin.keeps (g := w.heap.size + 1 + 1) (by omega)).later RPin.keeps hb6); have HD6 := hide (RS.low RPin.lowers (B' := w.heap.size + 1 + 1 + 1) (by simp; omega) rd6); clear rd6 hb6 sz6)
    | (have hq5 := hB4; go_at_call 25; refine (unhide S4 _ (bst hB4 (by show w.heap.size ≤ w.heap.size + 1 + 1; omega) _)).mono ?_; rintro e W5 ⟨⟨V5, rfl, rd5⟩, hb5, nf5⟩; have HF5 := hide (nf_tr (nf_set (unhide HF4) _ _) hb5 nf5); clear nf5; obtain ⟨A4, C4, rfl⟩ := rd5.slice; obtain ⟨hc5, hf5⟩ := bcell hb5; have hB5 := btr (bst hB4 (by show w.heap.size ≤ w.heap.size + 1 + 1; omega) _) hb5; have sz5 := hb5.size; have t5 : w.heap.size + 1 + 1 < W5.heap.size := (by simp at sz5; omega); have u5 : w.heap.size + 1 < W5.heap.size := (by omega); have s5 : w.heap.size < W5.heap.size := (by omega); have rr5_1 := hide (((unhide rr4_1).set RStr.keeps (g := w.heap.size + 1 + 1) (by omega)).later RStr.keeps hb5); have rr5_2 := hide (((unhide rr4_2).set RStr.keeps (g := w.heap.size + 1 + 1) (by omega)).later RStr.keeps hb5); have rr5_3 := hide (((unhide rr4_3).set RLatch.keeps (g := w.heap.size + 1 + 1) (by omega)).later RLatch.keeps hb5); have rr5_4 := hide (((unhide HD4).set RAndG.keeps (g := w.heap.size + 1 + 1) (by omega)).later RAndG.keeps hb5); have HD5 := hide (RS.low RPin.lowers (B' := w.heap.size + 1 + 1 + 1) (by simp; omega) rd5); clear rd5 hb5 sz5)
    | (have hq4 := hB3; go_at_call 24; refine (unhide S3 _ (bst hB3 (by show w.heap.size ≤ w.heap.size + 1 + 1; omega) _)).mono ?_; rintro e W4 ⟨⟨V4, rfl, rd4⟩, hb4, nf4⟩; have HF4 := hide (nf_tr (nf_set (unhide HF3) _ _) hb4 nf4); clear nf4; obtain ⟨A3, C3, rfl⟩ := rd4.slice; obtain ⟨hc4, hf4⟩ := bcell hb4; have hB4 := btr (bst hB3 (by show w.heap.size ≤ w.heap.size + 1 + 1; omega) _) hb4; have sz4 := hb4.size; have t4 : w.heap.size + 1 + 1 < W4.heap.size := (by simp at sz4; omega); have u4 : w.heap.size + 1 < W4.heap.size := (by omega); have s4 : w.heap.size < W4.heap.size := (by omega); have rr4_1 := hide (((unhide rr3_1).set RStr.keeps (g := w.heap.size + 1 + 1) (by omega)).later RStr.keeps hb4); have rr4_2 := hide (((unhide rr3_2).set RStr.keeps (g := w.heap.size + 1 + 1) (by omega)).later RStr.keeps hb4); have rr4_3 := hide (((unhide HD3).set RLatch.keeps (g := w.heap.size + 1 + 1) (by omega)).later RLatch.keeps hb4); have HD4 := hide (RS.low RAndG.lowers (B' := w.heap.size + 1 + 1 + 1) (by simp; omega) rd4); clear rd4 hb4 sz4)
    | (have hq3 := hB2; go_at_call 23; refine (unhide S2 _ (bst hB2 (by show w.heap.size ≤ w.heap.size + 1 + 1; omega) _)).mono ?_; rintro e W3 ⟨⟨V3, rfl, rd3⟩, hb3, nf3⟩; have HF3 := hide (nf_tr (nf_set (unhide HF2) _ _) hb3 nf3); clear nf3; obtain ⟨A2, C2, rfl⟩ := rd3.slice; obtain ⟨hc3, hf3⟩ := bcell hb3; have hB3 := btr (bst hB2 (by show w.heap.size ≤ w.heap.size + 1 + 1; omega) _) hb3; have sz3 := hb3.size; have t3 : w.heap.size + 1 + 1 < W3.heap.size := (by simp at sz3; omega); have u3 : w.heap.size + 1 < W3.heap.size := (by omega); have s3 : w.heap.size < W3.heap.size := (by omega); have rr3_1 := hide (((unhide rr2_1).set RStr.keeps (g := w.heap.size + 1 + 1) (by omega)).later RStr.keeps hb3); have rr3_2 := hide (((unhide HD2).set RStr.keeps (g := w.heap.size + 1 + 1) (by omega)).later RStr.keeps hb3); have HD3 := hide (RS.low RLatch.lowers (B' := w.heap.size + 1 + 1 + 1) (by simp; omega) rd3); clear rd3 hb3 sz3)
    | (have hq2 := hB1; go_at_call 22; refine (unhide S1 _ (bst hB1 (by show w.heap.size ≤ w.heap.size + 1 + 1; omega) _)).mono ?_; rintro e W2 ⟨⟨V2, rfl, rd2⟩, hb2, nf2⟩; have HF2 := hide (nf_tr (nf_set (unhide HF1) _ _) hb2 nf2); clear nf2; obtain ⟨A1, C1, rfl⟩ := rd2.slice; obtain ⟨hc2, hf2⟩ := bcell hb2; have hB2 := btr (bst hB1 (by show w.heap.size ≤ w.heap.size + 1 + 1; omega) _) hb2; have sz2 := hb2.size; have t2 : w.heap.size + 1 + 1 < W2.heap.size := (by simp at sz2; omega); have u2 : w.heap.size + 1 < W2.heap.size := (by omega); have s2 : w.heap.size < W2.heap.size := (by omega); have rr2_1 := hide (((unhide HD1).set RStr.keeps (g := w.heap.size + 1 + 1) (by omega)).later RStr.keeps hb2); have HD2 := hide (RS.low RStr.lowers (B' := w.heap.size + 1 + 1 + 1) (by simp; omega) rd2); clear rd2 hb2 sz2)
    | (go_at_call 22; refine (unhide S0 _ (bal (bal (bal (brf w) _) _) _)).mono ?_; rintro e W1 ⟨⟨V1, rfl, rd1⟩, hb1, nf1⟩; have HF1 := hide (nf_tr (nf_al (nf_al (nf_al (nf_rf w) _ _) _ _) _ _) hb1 nf1); clear nf1; obtain ⟨A0, C0, rfl⟩ := rd1.slice; obtain ⟨hc1, hf1⟩ := bcell hb1; have hB1 := btr (bal (bal (bal (brf w) _) _) _) hb1; have sz1 := hb1.size; have t1 : w.heap.size + 1 + 1 < W1.heap.size := (by simp at sz1; omega); have u1 : w.heap.size + 1 < W1.heap.size := (by omega); have s1 : w.heap.size < W1.heap.size := (by omega); have HD1 := hide (RS.low RStr.lowers (B' := w.heap.size + 1 + 1 + 1) (by simp) rd1); clear rd1 hb1 sz1))
  refine bodyPost_ret (v := .agg #[.slice A0 x.ins.length C0, .slice A1 x.clocks.length C1, .slice A2 x.latches.length C2, .slice A3 x.ands.length C3, .slice A4 x.outs.length C4, .slice A5 x.checks.length C5]) (by simp [results, Try.results6, go_sem, *]) rfl ⟨⟨[.slice A0 x.ins.length C0, .slice A1 x.clocks.length C1, .slice A2 x.latches.length C2, .slice A3 x.ands.length C3, .slice A4 x.outs.length C4, .slice A5 x.checks.length C5], rfl, ?_⟩, ?_, ?_⟩
  · refine ⟨_, _, _, _, _, _, rfl, ?_, ?_, ?_, ?_, ?_, ?_⟩
    · refine RS.low RStr.lowers (B := w.heap.size + 1 + 1 + 1) (by omega) ?_
      repeat refine RS.set RStr.keeps ?_ (by omega)
      exact unhide rr6_1
    · refine RS.low RStr.lowers (B := w.heap.size + 1 + 1 + 1) (by omega) ?_
      repeat refine RS.set RStr.keeps ?_ (by omega)
      exact unhide rr6_2
    · refine RS.low RLatch.lowers (B := w.heap.size + 1 + 1 + 1) (by omega) ?_
      repeat refine RS.set RLatch.keeps ?_ (by omega)
      exact unhide rr6_3
    · refine RS.low RAndG.lowers (B := w.heap.size + 1 + 1 + 1) (by omega) ?_
      repeat refine RS.set RAndG.keeps ?_ (by omega)
      exact unhide rr6_4
    · refine RS.low RPin.lowers (B := w.heap.size + 1 + 1 + 1) (by omega) ?_
      repeat refine RS.set RPin.keeps ?_ (by omega)
      exact unhide rr6_5
    · refine RS.low RPin.lowers (B := w.heap.size + 1 + 1 + 1) (by omega) ?_
      repeat refine RS.set RPin.keeps ?_ (by omega)
      exact unhide HD6
  · repeat refine bst ?_ (by first | (simp; done) | (simp; omega)) _
    exact hB6
  · repeat refine nf_set ?_ _ _
    exact unhide HF6
end Go.Proofs.Ytnoklbnacfmpdac
