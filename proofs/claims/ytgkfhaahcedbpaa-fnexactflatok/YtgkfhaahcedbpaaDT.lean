/- What the laws' to functions answer: a copy in new memory. -/
import Derived.Test.YtgkfhaahcedbpaaGDD
import Derived.Test.YtgkfhaahcedbpaaRT14
namespace Go.Proofs.Ytgkfhaahcedbpaa
open Go.RowKit Gs
set_option linter.unusedVariables false
set_option maxRecDepth 100000
set_option maxHeartbeats 1600000 in
theorem toSignal_of (x : Signal) (u : List Value) (w : World) (hl : szSignal x ≤ 1048576) (hr : RSignal w 0 x u) :
    Calls Try.prog 23 #[.agg u.toArray] w fun e w' => (∃ u', e = .returned (.agg u'.toArray) ∧ RSignal w' w.heap.size x u') ∧ Below w.heap.size w w' ∧ NF w.heap.size w' := by
  have hsz : szSignal x = x.name.size + x.init.size := rfl
  obtain ⟨rfl, b_name, b_init⟩ := hr
  replace b_name := hide b_name
  replace b_init := hide b_init
  clear hsz hl
  go_enter Try.func23, Try.ntmps23
  go_wp2
  exact bodyPost_ret (v := .agg #[.string x.name, .int .i64 x.kind, .int .i64 x.width, .int .i64 x.depth, .bool x.signed, .string x.init]) (by simp [results, Try.results23, go_sem]) rfl ⟨⟨[.string x.name, .int .i64 x.kind, .int .i64 x.width, .int .i64 x.depth, .bool x.signed, .string x.init], rfl, rfl, unhide b_name, unhide b_init⟩, bal (bal (bal (brf w) _) _) _, nf_al (nf_al (nf_al (nf_rf w) _ _) _ _) _ _⟩
theorem info_toSignalS : (Try.prog.info? 38).map (fun i => (i.zero, i.size, i.bytes)) = some (some (.agg #[.string ByteArray.empty, .int .i64 0, .int .i64 0, .int .i64 0, .bool false, .string ByteArray.empty]), 6, 64) := by kernel_rfl
theorem make_toSignalS (n : Nat) (hn : n ≤ 1048576) : ∃ M : Array Value, M.size = n * 6 ∧ ∀ W : World, (Instr.makeSlice 28 (.int .i64 (n : Int)) (.int .i64 (n : Int))).run Try.prog W = .ok (.slice (some ⟨W.heap.size, 0, none⟩) n n) (W.alloc (.cells M 38)) := by
  obtain ⟨i0, hi, hz0, hz1, hz2⟩ := info_parts info_toSignalS
  refine ⟨_, size_madeCells #[.string ByteArray.empty, .int .i64 0, .int .i64 0, .int .i64 0, .bool false, .string ByteArray.empty] (n * 6), fun W => ?_⟩
  have hr := run_make (P := Try.prog) W 28 38 i0 _ (by kernel_rfl) hi hz0 .i64 .i64 n n (by omega) (Int.le_refl _) (by rw [hz2]; omega) (by omega)
  rw [hr, hz1]
  simp
  rfl
set_option maxHeartbeats 1600000 in
theorem toSignalS_of (xs : List Signal) (v : Value) (w : World) (hl : szL szSignal xs ≤ 1048576) (hr : RS 6 RSignal w 0 xs v) :
    Calls Try.prog 13 #[v] w fun e w' => (∃ v', e = .returned v' ∧ RS 6 RSignal w' w.heap.size xs v') ∧ Below w.heap.size w w' ∧ NF w.heap.size w' := by
  have hsm := szL_sm szSignal xs
  obtain ⟨M, hM, hmk⟩ := make_toSignalS xs.length (by omega)
  rcases hr.open with ⟨rfl, a, c, rfl⟩ | ⟨b, o, c, rfl, hc, hn, _, hcs⟩
  · have hmk0 : ∀ W : World, (Instr.makeSlice 28 (.int .i64 0) (.int .i64 0)).run Try.prog W = .ok (.slice (some ⟨W.heap.size, 0, none⟩) 0 0) (W.alloc (.cells M 38)) := hmk
    clear hsm hr hmk hl
    go_enter Try.func13, Try.ntmps13
    go_wp2
    go_loopw [4] (fun i W => i = .int .i64 0 ∧ Below w.heap.size w W ∧ NF w.heap.size W) (fun _ _ => 0)
    case atStart => exact ⟨rfl, bal (brf w) _, nf_al (nf_rf w) _ _⟩
    case round =>
      obtain ⟨rfl, hb, hnf⟩ := hrel
      have HB := hide hb
      have HNF := hide hnf
      clear hb hnf
      go_wp2
      exact bodyPost_ret (v := .slice (some ⟨w.heap.size, 0, none⟩) 0 0) (by simp [results, Try.results13, go_sem]) rfl ⟨⟨_, rfl, RS.nil _ _ _ _ _ _⟩, unhide HB, unhide HNF⟩
  · have hn2 := hn
    unfold maxLen at hn
    have HN := hide hn2
    have HC := hide hcs
    have HTP := hide (TP_made w M 38 (xs.length * 6) hM)
    clear hcs hr hM hn2
    go_enter Try.func13, Try.ntmps13
    go_wp2
    clear hmk
    go_loopw [4] (fun i W => ∃ j : Nat, j ≤ xs.length ∧ i = .int .i64 j ∧ TP W w.heap.size (xs.length * 6) ∧ NR 6 RSignal W (w.heap.size + 1) w.heap.size j xs ∧ Below w.heap.size w W ∧ w.heap.size + 1 ≤ W.heap.size ∧ NF w.heap.size W) (fun i W => xs.length - (intOf i).toNat)
    case atStart => exact ⟨0, Nat.zero_le _, rfl, unhide HTP, NR.zero, bal (brf w) _, by simp, nf_al (nf_rf w) _ _⟩
    case round =>
      clear HTP
      obtain ⟨j, hj, rfl, hTP, hNR, hb, hsz, hnf⟩ := hrel
      have HNF := hide hnf
      clear hnf
      have HTP := hide hTP
      have HNR := hide hNR
      by_cases hjn : j < xs.length
      · have hx : xs[j]? = some xs[j] := List.getElem?_eq_getElem hjn
        generalize xs[j] = x at hx
        obtain ⟨u, hul, hat, hrx⟩ := unhide HC j x hx
        have st := sm_take (f := szSignal) hx
        have sl := sm_le (f := szSignal) (xs := xs) (j + 1)
        have i1 : (0 : Int) ≤ (j : Int) := by omega
        have i2 : (j : Int) < (xs.length : Int) := by omega
        obtain ⟨⟨w0, c0⟩, f0⟩ := hTP (j * 6 + 0) (by omega)
        obtain ⟨⟨w1, c1⟩, f1⟩ := hTP (j * 6 + 1) (by omega)
        obtain ⟨⟨w2, c2⟩, f2⟩ := hTP (j * 6 + 2) (by omega)
        obtain ⟨⟨w3, c3⟩, f3⟩ := hTP (j * 6 + 3) (by omega)
        obtain ⟨⟨w4, c4⟩, f4⟩ := hTP (j * 6 + 4) (by omega)
        obtain ⟨⟨w5, c5⟩, f5⟩ := hTP (j * 6 + 5) (by omega)
        simp only [Nat.add_zero] at c0 f0
        have PX := hide (toSignal_of x u wr (by omega) (RSignal.keeps _ _ _ _ _ (later_cells hb 0) hrx))
        obtain ⟨rfl, _, _⟩ := hrx
        have k0 := cell_later hb (hat.get (j := 0) rfl)
        have k1 := cell_later hb (hat.get (j := 1) rfl)
        have k2 := cell_later hb (hat.get (j := 2) rfl)
        have k3 := cell_later hb (hat.get (j := 3) rfl)
        have k4 := cell_later hb (hat.get (j := 4) rfl)
        have k5 := cell_later hb (hat.get (j := 5) rfl)
        simp only [Nat.add_zero] at k0
        have HX := hide hx
        have HB := hide hb
        clear hb hat hul HC hTP hNR hx
        go_wp2_with (go_at_call 23; refine (unhide PX).mono ?_; rintro e v1 ⟨⟨u1, rfl, hr1⟩, hb1, nf1⟩; have HN1 := hide (nf_tr (unhide HNF) hb1 nf1); clear nf1; have HR1 := hide hr1; have HB1 := hide hb1; have d0 := cell_later hb1 c0; have g0 := frozen_later hb1 c0 f0; have d1 := cell_later hb1 c1; have g1 := frozen_later hb1 c1 f1; have d2 := cell_later hb1 c2; have g2 := frozen_later hb1 c2 f2; have d3 := cell_later hb1 c3; have g3 := frozen_later hb1 c3 f3; have d4 := cell_later hb1 c4; have g4 := frozen_later hb1 c4 f4; have d5 := cell_later hb1 c5; have g5 := frozen_later hb1 c5 f5; obtain ⟨rfl, _, _⟩ := hr1; clear hb1)
        have hgs : w.heap.size + 1 ≤ wr.heap.size := by omega
        have hN1 := NR.step RSignal.keeps (u := [.string x.name, .int .i64 x.kind, .int .i64 x.width, .int .i64 x.depth, .bool x.signed, .string x.init]) ((unhide HTP).later (unhide HB1)) ((unhide HNR).later RSignal.keeps (unhide HB1)) (Nat.lt_succ_self _) (unhide HX) rfl (RSignal.lowers _ _ _ _ _ hgs (unhide HR1)) (by omega)
        have hT1 := ((unhide HTP).later (unhide HB1)).set (o := j * 6) (vs := [.string x.name, .int .i64 x.kind, .int .i64 x.width, .int .i64 x.depth, .bool x.signed, .string x.init])
        have hB1 := setK_below [.string x.name, .int .i64 x.kind, .int .i64 x.width, .int .i64 x.depth, .bool x.signed, .string x.init] (o := j * 6) (btr (unhide HB) (unhide HB1)) (Nat.le_refl w.heap.size)
        have hS1 := (unhide HB1).size
        have hF1 := nf_setK [.string x.name, .int .i64 x.kind, .int .i64 x.width, .int .i64 x.depth, .bool x.signed, .string x.init] (o := j * 6) (g := w.heap.size) (unhide HN1)
        simp only [setK] at hN1 hT1 hB1 hF1
        exact ⟨⟨j + 1, by omega, by go_num, hT1, hN1, hB1, by simp; omega, hF1⟩, by simp [intOf]; omega⟩
      · obtain rfl : j = xs.length := by omega
        have HB := hide hb
        clear hb hTP hNR HC
        go_wp2
        exact bodyPost_ret (v := .slice (some ⟨w.heap.size, 0, none⟩) xs.length xs.length) (by simp [results, Try.results13, go_sem]) rfl ⟨⟨_, rfl, NR.done RSignal.lowers (unhide HNR) (unhide HN) (Nat.le_refl _)⟩, unhide HB, unhide HNF⟩
theorem info_toExS : (Try.prog.info? 72).map (fun i => (i.zero, i.size, i.bytes)) = some (some (.agg #[.int .i64 0, .int .i64 0, .int .i64 0, .bool false, .string ByteArray.empty, .slice none 0 0]), 6, 72) := by kernel_rfl
theorem make_toExS (n : Nat) (hn : n ≤ 1048576) : ∃ M : Array Value, M.size = n * 6 ∧ ∀ W : World, (Instr.makeSlice 43 (.int .i64 (n : Int)) (.int .i64 (n : Int))).run Try.prog W = .ok (.slice (some ⟨W.heap.size, 0, none⟩) n n) (W.alloc (.cells M 72)) := by
  obtain ⟨i0, hi, hz0, hz1, hz2⟩ := info_parts info_toExS
  refine ⟨_, size_madeCells #[.int .i64 0, .int .i64 0, .int .i64 0, .bool false, .string ByteArray.empty, .slice none 0 0] (n * 6), fun W => ?_⟩
  have hr := run_make (P := Try.prog) W 43 72 i0 _ (by kernel_rfl) hi hz0 .i64 .i64 n n (by omega) (Int.le_refl _) (by rw [hz2]; omega) (by omega)
  rw [hr, hz1]
  simp
  rfl
set_option maxHeartbeats 1600000 in
theorem toExS_ofN (d : Nat) (IH : ∀ (x : Ex) (u : List Value) (w : World) (hl : szExN d x ≤ 1048576) (hr : RExN d w 0 x u), Calls Try.prog 52 #[.agg u.toArray] w fun e w' => (∃ u', e = .returned (.agg u'.toArray) ∧ RExN d w' w.heap.size x u') ∧ Below w.heap.size w w' ∧ NF w.heap.size w') (xs : List Ex) (v : Value) (w : World) (hl : szL (szExN d) xs ≤ 1048576) (hr : RS 6 (RExN d) w 0 xs v) :
    Calls Try.prog 46 #[v] w fun e w' => (∃ v', e = .returned v' ∧ RS 6 (RExN d) w' w.heap.size xs v') ∧ Below w.heap.size w w' ∧ NF w.heap.size w' := by
  have hsm := szL_sm (szExN d) xs
  obtain ⟨M, hM, hmk⟩ := make_toExS xs.length (by omega)
  rcases hr.open with ⟨rfl, a, c, rfl⟩ | ⟨b, o, c, rfl, hc, hn, _, hcs⟩
  · have hmk0 : ∀ W : World, (Instr.makeSlice 43 (.int .i64 0) (.int .i64 0)).run Try.prog W = .ok (.slice (some ⟨W.heap.size, 0, none⟩) 0 0) (W.alloc (.cells M 72)) := hmk
    clear hsm hr hmk hl
    go_enter Try.func46, Try.ntmps46
    go_wp2
    go_loopw [4] (fun i W => i = .int .i64 0 ∧ Below w.heap.size w W ∧ NF w.heap.size W) (fun _ _ => 0)
    case atStart => exact ⟨rfl, bal (brf w) _, nf_al (nf_rf w) _ _⟩
    case round =>
      obtain ⟨rfl, hb, hnf⟩ := hrel
      have HB := hide hb
      have HNF := hide hnf
      clear hb hnf
      go_wp2
      exact bodyPost_ret (v := .slice (some ⟨w.heap.size, 0, none⟩) 0 0) (by simp [results, Try.results46, go_sem]) rfl ⟨⟨_, rfl, RS.nil _ _ _ _ _ _⟩, unhide HB, unhide HNF⟩
  · have hn2 := hn
    unfold maxLen at hn
    have HN := hide hn2
    have HC := hide hcs
    have HTP := hide (TP_made w M 72 (xs.length * 6) hM)
    clear hcs hr hM hn2
    go_enter Try.func46, Try.ntmps46
    go_wp2
    clear hmk
    go_loopw [4] (fun i W => ∃ j : Nat, j ≤ xs.length ∧ i = .int .i64 j ∧ TP W w.heap.size (xs.length * 6) ∧ NR 6 (RExN d) W (w.heap.size + 1) w.heap.size j xs ∧ Below w.heap.size w W ∧ w.heap.size + 1 ≤ W.heap.size ∧ NF w.heap.size W) (fun i W => xs.length - (intOf i).toNat)
    case atStart => exact ⟨0, Nat.zero_le _, rfl, unhide HTP, NR.zero, bal (brf w) _, by simp, nf_al (nf_rf w) _ _⟩
    case round =>
      clear HTP
      obtain ⟨j, hj, rfl, hTP, hNR, hb, hsz, hnf⟩ := hrel
      have HNF := hide hnf
      clear hnf
      have HTP := hide hTP
      have HNR := hide hNR
      by_cases hjn : j < xs.length
      · have hx : xs[j]? = some xs[j] := List.getElem?_eq_getElem hjn
        generalize xs[j] = x at hx
        obtain ⟨u, hul, hat, hrx⟩ := unhide HC j x hx
        have st := sm_take (f := (szExN d)) hx
        have sl := sm_le (f := (szExN d)) (xs := xs) (j + 1)
        have i1 : (0 : Int) ≤ (j : Int) := by omega
        have i2 : (j : Int) < (xs.length : Int) := by omega
        obtain ⟨⟨w0, c0⟩, f0⟩ := hTP (j * 6 + 0) (by omega)
        obtain ⟨⟨w1, c1⟩, f1⟩ := hTP (j * 6 + 1) (by omega)
        obtain ⟨⟨w2, c2⟩, f2⟩ := hTP (j * 6 + 2) (by omega)
        obtain ⟨⟨w3, c3⟩, f3⟩ := hTP (j * 6 + 3) (by omega)
        obtain ⟨⟨w4, c4⟩, f4⟩ := hTP (j * 6 + 4) (by omega)
        obtain ⟨⟨w5, c5⟩, f5⟩ := hTP (j * 6 + 5) (by omega)
        simp only [Nat.add_zero] at c0 f0
        have PX := hide (IH x u wr (by omega) ((RExN.keeps d) _ _ _ _ _ (later_cells hb 0) hrx))
        obtain ⟨p5, rfl, _, _⟩ := RExN.cells hrx
        have k0 := cell_later hb (hat.get (j := 0) rfl)
        have k1 := cell_later hb (hat.get (j := 1) rfl)
        have k2 := cell_later hb (hat.get (j := 2) rfl)
        have k3 := cell_later hb (hat.get (j := 3) rfl)
        have k4 := cell_later hb (hat.get (j := 4) rfl)
        have k5 := cell_later hb (hat.get (j := 5) rfl)
        simp only [Nat.add_zero] at k0
        have HX := hide hx
        have HB := hide hb
        clear hb hat hul HC hTP hNR hx
        go_wp2_with (go_at_call 52; refine (unhide PX).mono ?_; rintro e v1 ⟨⟨u1, rfl, hr1⟩, hb1, nf1⟩; have HN1 := hide (nf_tr (unhide HNF) hb1 nf1); clear nf1; have HR1 := hide hr1; have HB1 := hide hb1; have d0 := cell_later hb1 c0; have g0 := frozen_later hb1 c0 f0; have d1 := cell_later hb1 c1; have g1 := frozen_later hb1 c1 f1; have d2 := cell_later hb1 c2; have g2 := frozen_later hb1 c2 f2; have d3 := cell_later hb1 c3; have g3 := frozen_later hb1 c3 f3; have d4 := cell_later hb1 c4; have g4 := frozen_later hb1 c4 f4; have d5 := cell_later hb1 c5; have g5 := frozen_later hb1 c5 f5; obtain ⟨q5, rfl, _, ⟨_, hq5⟩⟩ := RExN.cells hr1; obtain ⟨A5, C5, rfl⟩ := hq5.slice; clear hq5; clear hb1)
        have hgs : w.heap.size + 1 ≤ wr.heap.size := by omega
        have hN1 := NR.step (RExN.keeps d) (u := [.int .i64 x.op, .int .i64 x.width, .int .i64 x.n, .bool x.signed, .string x.bits, .slice A5 x.kids.length C5]) ((unhide HTP).later (unhide HB1)) ((unhide HNR).later (RExN.keeps d) (unhide HB1)) (Nat.lt_succ_self _) (unhide HX) rfl ((RExN.lowers d) _ _ _ _ _ hgs (unhide HR1)) (by omega)
        have hT1 := ((unhide HTP).later (unhide HB1)).set (o := j * 6) (vs := [.int .i64 x.op, .int .i64 x.width, .int .i64 x.n, .bool x.signed, .string x.bits, .slice A5 x.kids.length C5])
        have hB1 := setK_below [.int .i64 x.op, .int .i64 x.width, .int .i64 x.n, .bool x.signed, .string x.bits, .slice A5 x.kids.length C5] (o := j * 6) (btr (unhide HB) (unhide HB1)) (Nat.le_refl w.heap.size)
        have hS1 := (unhide HB1).size
        have hF1 := nf_setK [.int .i64 x.op, .int .i64 x.width, .int .i64 x.n, .bool x.signed, .string x.bits, .slice A5 x.kids.length C5] (o := j * 6) (g := w.heap.size) (unhide HN1)
        simp only [setK] at hN1 hT1 hB1 hF1
        exact ⟨⟨j + 1, by omega, by go_num, hT1, hN1, hB1, by simp; omega, hF1⟩, by simp [intOf]; omega⟩
      · obtain rfl : j = xs.length := by omega
        have HB := hide hb
        clear hb hTP hNR HC
        go_wp2
        exact bodyPost_ret (v := .slice (some ⟨w.heap.size, 0, none⟩) xs.length xs.length) (by simp [results, Try.results46, go_sem]) rfl ⟨⟨_, rfl, NR.done (RExN.lowers d) (unhide HNR) (unhide HN) (Nat.le_refl _)⟩, unhide HB, unhide HNF⟩
set_option maxHeartbeats 1600000 in
theorem toEx_ofN (d : Nat) (IH : ∀ (xs : List Ex) (v : Value) (w : World) (hl : szL (szExN d) xs ≤ 1048576) (hr : RS 6 (RExN d) w 0 xs v), Calls Try.prog 46 #[v] w fun e w' => (∃ v', e = .returned v' ∧ RS 6 (RExN d) w' w.heap.size xs v') ∧ Below w.heap.size w w' ∧ NF w.heap.size w') (x : Ex) (u : List Value) (w : World) (hl : szExN (d + 1) x ≤ 1048576) (hr : RExN (d + 1) w 0 x u) :
    Calls Try.prog 52 #[.agg u.toArray] w fun e w' => (∃ u', e = .returned (.agg u'.toArray) ∧ RExN (d + 1) w' w.heap.size x u') ∧ Below w.heap.size w w' ∧ NF w.heap.size w' := by
  have hsz : szExN (d + 1) x = x.bits.size + szL (szExN d) x.kids := rfl
  obtain ⟨v5, rfl, b_bits, r5⟩ := hr
  have S5 := hide (fun (W : World) (hb : Below w.heap.size w W) => IH x.kids v5 W (by omega) (r5.later (RExN.keeps d) hb))
  obtain ⟨a5, c5, rfl⟩ := r5.slice
  clear r5
  replace b_bits := hide b_bits
  clear hsz hl
  go_enter Try.func52, Try.ntmps52
  go_wp2_with (first
    | (go_at_call 46; refine (unhide S5 _ (bal (bal (bal (brf w) _) _) _)).mono ?_; rintro e W1 ⟨⟨V1, rfl, rd1⟩, hb1, nf1⟩; have HF1 := hide (nf_tr (nf_al (nf_al (nf_al (nf_rf w) _ _) _ _) _ _) hb1 nf1); clear nf1; obtain ⟨A5, C5, rfl⟩ := rd1.slice; obtain ⟨hc1, hf1⟩ := bcell hb1; have hB1 := btr (bal (bal (bal (brf w) _) _) _) hb1; have sz1 := hb1.size; have t1 : w.heap.size + 1 + 1 < W1.heap.size := (by simp at sz1; omega); have u1 : w.heap.size + 1 < W1.heap.size := (by omega); have s1 : w.heap.size < W1.heap.size := (by omega); have HD1 := hide (RS.low (RExN.lowers d) (B' := w.heap.size + 1 + 1 + 1) (by simp) rd1); clear rd1 hb1 sz1))
  refine bodyPost_ret (v := .agg #[.int .i64 x.op, .int .i64 x.width, .int .i64 x.n, .bool x.signed, .string x.bits, .slice A5 x.kids.length C5]) (by simp [results, Try.results52, go_sem, *]) rfl ⟨⟨[.int .i64 x.op, .int .i64 x.width, .int .i64 x.n, .bool x.signed, .string x.bits, .slice A5 x.kids.length C5], rfl, ?_⟩, ?_, ?_⟩
  · refine ⟨_, rfl, unhide b_bits, ?_⟩
    · refine RS.low (RExN.lowers d) (B := w.heap.size + 1 + 1 + 1) (by omega) ?_
      repeat refine RS.set (RExN.keeps d) ?_ (by omega)
      exact unhide HD1
  · repeat refine bst ?_ (by first | (simp; done) | (simp; omega)) _
    exact hB1
  · repeat refine nf_set ?_ _ _
    exact unhide HF1
theorem toEx_of : ∀ (d : Nat), ∀ (x : Ex) (u : List Value) (w : World) (hl : szExN d x ≤ 1048576) (hr : RExN d w 0 x u), Calls Try.prog 52 #[.agg u.toArray] w fun e w' => (∃ u', e = .returned (.agg u'.toArray) ∧ RExN d w' w.heap.size x u') ∧ Below w.heap.size w w' ∧ NF w.heap.size w'
  | 0 => by
    intros
    exact (by assumption : False).elim
  | d + 1 => toEx_ofN d (toExS_ofN d (toEx_of d))
theorem toExS_of (d : Nat) : ∀ (xs : List Ex) (v : Value) (w : World) (hl : szL (szExN d) xs ≤ 1048576) (hr : RS 6 (RExN d) w 0 xs v), Calls Try.prog 46 #[v] w fun e w' => (∃ v', e = .returned v' ∧ RS 6 (RExN d) w' w.heap.size xs v') ∧ Below w.heap.size w w' ∧ NF w.heap.size w' := toExS_ofN d (toEx_of d)
theorem info_toStS : (Try.prog.info? 46).map (fun i => (i.zero, i.size, i.bytes)) = some (some (.agg #[.int .i64 0, .int .i64 0, .int .i64 0, .int .i64 0, .slice none 0 0, .slice none 0 0]), 6, 80) := by kernel_rfl
theorem make_toStS (n : Nat) (hn : n ≤ 1048576) : ∃ M : Array Value, M.size = n * 6 ∧ ∀ W : World, (Instr.makeSlice 44 (.int .i64 (n : Int)) (.int .i64 (n : Int))).run Try.prog W = .ok (.slice (some ⟨W.heap.size, 0, none⟩) n n) (W.alloc (.cells M 46)) := by
  obtain ⟨i0, hi, hz0, hz1, hz2⟩ := info_parts info_toStS
  refine ⟨_, size_madeCells #[.int .i64 0, .int .i64 0, .int .i64 0, .int .i64 0, .slice none 0 0, .slice none 0 0] (n * 6), fun W => ?_⟩
  have hr := run_make (P := Try.prog) W 44 46 i0 _ (by kernel_rfl) hi hz0 .i64 .i64 n n (by omega) (Int.le_refl _) (by rw [hz2]; omega) (by omega)
  rw [hr, hz1]
  simp
  rfl
set_option maxHeartbeats 1600000 in
theorem toStS_ofN (d : Nat) (IH : ∀ (x : St) (u : List Value) (w : World) (hl : szStN d x ≤ 1048576) (hr : RStN d w 0 x u), Calls Try.prog 36 #[.agg u.toArray] w fun e w' => (∃ u', e = .returned (.agg u'.toArray) ∧ RStN d w' w.heap.size x u') ∧ Below w.heap.size w w' ∧ NF w.heap.size w') (xs : List St) (v : Value) (w : World) (hl : szL (szStN d) xs ≤ 1048576) (hr : RS 6 (RStN d) w 0 xs v) :
    Calls Try.prog 47 #[v] w fun e w' => (∃ v', e = .returned v' ∧ RS 6 (RStN d) w' w.heap.size xs v') ∧ Below w.heap.size w w' ∧ NF w.heap.size w' := by
  have hsm := szL_sm (szStN d) xs
  obtain ⟨M, hM, hmk⟩ := make_toStS xs.length (by omega)
  rcases hr.open with ⟨rfl, a, c, rfl⟩ | ⟨b, o, c, rfl, hc, hn, _, hcs⟩
  · have hmk0 : ∀ W : World, (Instr.makeSlice 44 (.int .i64 0) (.int .i64 0)).run Try.prog W = .ok (.slice (some ⟨W.heap.size, 0, none⟩) 0 0) (W.alloc (.cells M 46)) := hmk
    clear hsm hr hmk hl
    go_enter Try.func47, Try.ntmps47
    go_wp2
    go_loopw [4] (fun i W => i = .int .i64 0 ∧ Below w.heap.size w W ∧ NF w.heap.size W) (fun _ _ => 0)
    case atStart => exact ⟨rfl, bal (brf w) _, nf_al (nf_rf w) _ _⟩
    case round =>
      obtain ⟨rfl, hb, hnf⟩ := hrel
      have HB := hide hb
      have HNF := hide hnf
      clear hb hnf
      go_wp2
      exact bodyPost_ret (v := .slice (some ⟨w.heap.size, 0, none⟩) 0 0) (by simp [results, Try.results47, go_sem]) rfl ⟨⟨_, rfl, RS.nil _ _ _ _ _ _⟩, unhide HB, unhide HNF⟩
  · have hn2 := hn
    unfold maxLen at hn
    have HN := hide hn2
    have HC := hide hcs
    have HTP := hide (TP_made w M 46 (xs.length * 6) hM)
    clear hcs hr hM hn2
    go_enter Try.func47, Try.ntmps47
    go_wp2
    clear hmk
    go_loopw [4] (fun i W => ∃ j : Nat, j ≤ xs.length ∧ i = .int .i64 j ∧ TP W w.heap.size (xs.length * 6) ∧ NR 6 (RStN d) W (w.heap.size + 1) w.heap.size j xs ∧ Below w.heap.size w W ∧ w.heap.size + 1 ≤ W.heap.size ∧ NF w.heap.size W) (fun i W => xs.length - (intOf i).toNat)
    case atStart => exact ⟨0, Nat.zero_le _, rfl, unhide HTP, NR.zero, bal (brf w) _, by simp, nf_al (nf_rf w) _ _⟩
    case round =>
      clear HTP
      obtain ⟨j, hj, rfl, hTP, hNR, hb, hsz, hnf⟩ := hrel
      have HNF := hide hnf
      clear hnf
      have HTP := hide hTP
      have HNR := hide hNR
      by_cases hjn : j < xs.length
      · have hx : xs[j]? = some xs[j] := List.getElem?_eq_getElem hjn
        generalize xs[j] = x at hx
        obtain ⟨u, hul, hat, hrx⟩ := unhide HC j x hx
        have st := sm_take (f := (szStN d)) hx
        have sl := sm_le (f := (szStN d)) (xs := xs) (j + 1)
        have i1 : (0 : Int) ≤ (j : Int) := by omega
        have i2 : (j : Int) < (xs.length : Int) := by omega
        obtain ⟨⟨w0, c0⟩, f0⟩ := hTP (j * 6 + 0) (by omega)
        obtain ⟨⟨w1, c1⟩, f1⟩ := hTP (j * 6 + 1) (by omega)
        obtain ⟨⟨w2, c2⟩, f2⟩ := hTP (j * 6 + 2) (by omega)
        obtain ⟨⟨w3, c3⟩, f3⟩ := hTP (j * 6 + 3) (by omega)
        obtain ⟨⟨w4, c4⟩, f4⟩ := hTP (j * 6 + 4) (by omega)
        obtain ⟨⟨w5, c5⟩, f5⟩ := hTP (j * 6 + 5) (by omega)
        simp only [Nat.add_zero] at c0 f0
        have PX := hide (IH x u wr (by omega) ((RStN.keeps d) _ _ _ _ _ (later_cells hb 0) hrx))
        obtain ⟨p4, p5, rfl, _, _⟩ := RStN.cells hrx
        have k0 := cell_later hb (hat.get (j := 0) rfl)
        have k1 := cell_later hb (hat.get (j := 1) rfl)
        have k2 := cell_later hb (hat.get (j := 2) rfl)
        have k3 := cell_later hb (hat.get (j := 3) rfl)
        have k4 := cell_later hb (hat.get (j := 4) rfl)
        have k5 := cell_later hb (hat.get (j := 5) rfl)
        simp only [Nat.add_zero] at k0
        have HX := hide hx
        have HB := hide hb
        clear hb hat hul HC hTP hNR hx
        go_wp2_with (go_at_call 36; refine (unhide PX).mono ?_; rintro e v1 ⟨⟨u1, rfl, hr1⟩, hb1, nf1⟩; have HN1 := hide (nf_tr (unhide HNF) hb1 nf1); clear nf1; have HR1 := hide hr1; have HB1 := hide hb1; have d0 := cell_later hb1 c0; have g0 := frozen_later hb1 c0 f0; have d1 := cell_later hb1 c1; have g1 := frozen_later hb1 c1 f1; have d2 := cell_later hb1 c2; have g2 := frozen_later hb1 c2 f2; have d3 := cell_later hb1 c3; have g3 := frozen_later hb1 c3 f3; have d4 := cell_later hb1 c4; have g4 := frozen_later hb1 c4 f4; have d5 := cell_later hb1 c5; have g5 := frozen_later hb1 c5 f5; obtain ⟨q4, q5, rfl, ⟨_, hq4⟩, ⟨_, hq5⟩⟩ := RStN.cells hr1; obtain ⟨A4, C4, rfl⟩ := hq4.slice; clear hq4; obtain ⟨A5, C5, rfl⟩ := hq5.slice; clear hq5; clear hb1)
        have hgs : w.heap.size + 1 ≤ wr.heap.size := by omega
        have hN1 := NR.step (RStN.keeps d) (u := [.int .i64 x.kind, .int .i64 x.n, .int .i64 x.low, .int .i64 x.wide, .slice A4 x.exs.length C4, .slice A5 x.kids.length C5]) ((unhide HTP).later (unhide HB1)) ((unhide HNR).later (RStN.keeps d) (unhide HB1)) (Nat.lt_succ_self _) (unhide HX) rfl ((RStN.lowers d) _ _ _ _ _ hgs (unhide HR1)) (by omega)
        have hT1 := ((unhide HTP).later (unhide HB1)).set (o := j * 6) (vs := [.int .i64 x.kind, .int .i64 x.n, .int .i64 x.low, .int .i64 x.wide, .slice A4 x.exs.length C4, .slice A5 x.kids.length C5])
        have hB1 := setK_below [.int .i64 x.kind, .int .i64 x.n, .int .i64 x.low, .int .i64 x.wide, .slice A4 x.exs.length C4, .slice A5 x.kids.length C5] (o := j * 6) (btr (unhide HB) (unhide HB1)) (Nat.le_refl w.heap.size)
        have hS1 := (unhide HB1).size
        have hF1 := nf_setK [.int .i64 x.kind, .int .i64 x.n, .int .i64 x.low, .int .i64 x.wide, .slice A4 x.exs.length C4, .slice A5 x.kids.length C5] (o := j * 6) (g := w.heap.size) (unhide HN1)
        simp only [setK] at hN1 hT1 hB1 hF1
        exact ⟨⟨j + 1, by omega, by go_num, hT1, hN1, hB1, by simp; omega, hF1⟩, by simp [intOf]; omega⟩
      · obtain rfl : j = xs.length := by omega
        have HB := hide hb
        clear hb hTP hNR HC
        go_wp2
        exact bodyPost_ret (v := .slice (some ⟨w.heap.size, 0, none⟩) xs.length xs.length) (by simp [results, Try.results47, go_sem]) rfl ⟨⟨_, rfl, NR.done (RStN.lowers d) (unhide HNR) (unhide HN) (Nat.le_refl _)⟩, unhide HB, unhide HNF⟩
set_option maxHeartbeats 1600000 in
theorem toSt_ofN (d : Nat) (IH : ∀ (xs : List St) (v : Value) (w : World) (hl : szL (szStN d) xs ≤ 1048576) (hr : RS 6 (RStN d) w 0 xs v), Calls Try.prog 47 #[v] w fun e w' => (∃ v', e = .returned v' ∧ RS 6 (RStN d) w' w.heap.size xs v') ∧ Below w.heap.size w w' ∧ NF w.heap.size w') (x : St) (u : List Value) (w : World) (hl : szStN (d + 1) x ≤ 1048576) (hr : RStN (d + 1) w 0 x u) :
    Calls Try.prog 36 #[.agg u.toArray] w fun e w' => (∃ u', e = .returned (.agg u'.toArray) ∧ RStN (d + 1) w' w.heap.size x u') ∧ Below w.heap.size w w' ∧ NF w.heap.size w' := by
  have hsz : szStN (d + 1) x = szL (szExN d) x.exs + szL (szStN d) x.kids := rfl
  obtain ⟨v4, v5, rfl, r4, r5⟩ := hr
  have S4 := hide (fun (W : World) (hb : Below w.heap.size w W) => toExS_of d x.exs v4 W (by omega) (r4.later (RExN.keeps d) hb))
  obtain ⟨a4, c4, rfl⟩ := r4.slice
  have S5 := hide (fun (W : World) (hb : Below w.heap.size w W) => IH x.kids v5 W (by omega) (r5.later (RStN.keeps d) hb))
  obtain ⟨a5, c5, rfl⟩ := r5.slice
  clear r4 r5
  clear hsz hl
  go_enter Try.func36, Try.ntmps36
  go_wp2_with (first
    | (have hq2 := hB1; go_at_call 47; refine (unhide S5 _ (bst hB1 (by show w.heap.size ≤ w.heap.size + 1 + 1; omega) _)).mono ?_; rintro e W2 ⟨⟨V2, rfl, rd2⟩, hb2, nf2⟩; have HF2 := hide (nf_tr (nf_set (unhide HF1) _ _) hb2 nf2); clear nf2; obtain ⟨A5, C5, rfl⟩ := rd2.slice; obtain ⟨hc2, hf2⟩ := bcell hb2; have hB2 := btr (bst hB1 (by show w.heap.size ≤ w.heap.size + 1 + 1; omega) _) hb2; have sz2 := hb2.size; have t2 : w.heap.size + 1 + 1 < W2.heap.size := (by simp at sz2; omega); have u2 : w.heap.size + 1 < W2.heap.size := (by omega); have s2 : w.heap.size < W2.heap.size := (by omega); have rr2_1 := hide (((unhide HD1).set (RExN.keeps d) (g := w.heap.size + 1 + 1) (by omega)).later (RExN.keeps d) hb2); have HD2 := hide (RS.low (RStN.lowers d) (B' := w.heap.size + 1 + 1 + 1) (by simp; omega) rd2); clear rd2 hb2 sz2)
    | (go_at_call 46; refine (unhide S4 _ (bal (bal (bal (brf w) _) _) _)).mono ?_; rintro e W1 ⟨⟨V1, rfl, rd1⟩, hb1, nf1⟩; have HF1 := hide (nf_tr (nf_al (nf_al (nf_al (nf_rf w) _ _) _ _) _ _) hb1 nf1); clear nf1; obtain ⟨A4, C4, rfl⟩ := rd1.slice; obtain ⟨hc1, hf1⟩ := bcell hb1; have hB1 := btr (bal (bal (bal (brf w) _) _) _) hb1; have sz1 := hb1.size; have t1 : w.heap.size + 1 + 1 < W1.heap.size := (by simp at sz1; omega); have u1 : w.heap.size + 1 < W1.heap.size := (by omega); have s1 : w.heap.size < W1.heap.size := (by omega); have HD1 := hide (RS.low (RExN.lowers d) (B' := w.heap.size + 1 + 1 + 1) (by simp) rd1); clear rd1 hb1 sz1))
  refine bodyPost_ret (v := .agg #[.int .i64 x.kind, .int .i64 x.n, .int .i64 x.low, .int .i64 x.wide, .slice A4 x.exs.length C4, .slice A5 x.kids.length C5]) (by simp [results, Try.results36, go_sem, *]) rfl ⟨⟨[.int .i64 x.kind, .int .i64 x.n, .int .i64 x.low, .int .i64 x.wide, .slice A4 x.exs.length C4, .slice A5 x.kids.length C5], rfl, ?_⟩, ?_, ?_⟩
  · refine ⟨_, _, rfl, ?_, ?_⟩
    · refine RS.low (RExN.lowers d) (B := w.heap.size + 1 + 1 + 1) (by omega) ?_
      repeat refine RS.set (RExN.keeps d) ?_ (by omega)
      exact unhide rr2_1
    · refine RS.low (RStN.lowers d) (B := w.heap.size + 1 + 1 + 1) (by omega) ?_
      repeat refine RS.set (RStN.keeps d) ?_ (by omega)
      exact unhide HD2
  · repeat refine bst ?_ (by first | (simp; done) | (simp; omega)) _
    exact hB2
  · repeat refine nf_set ?_ _ _
    exact unhide HF2
theorem toSt_of : ∀ (d : Nat), ∀ (x : St) (u : List Value) (w : World) (hl : szStN d x ≤ 1048576) (hr : RStN d w 0 x u), Calls Try.prog 36 #[.agg u.toArray] w fun e w' => (∃ u', e = .returned (.agg u'.toArray) ∧ RStN d w' w.heap.size x u') ∧ Below w.heap.size w w' ∧ NF w.heap.size w'
  | 0 => by
    intros
    exact (by assumption : False).elim
  | d + 1 => toSt_ofN d (toStS_ofN d (toSt_of d))
theorem toStS_of (d : Nat) : ∀ (xs : List St) (v : Value) (w : World) (hl : szL (szStN d) xs ≤ 1048576) (hr : RS 6 (RStN d) w 0 xs v), Calls Try.prog 47 #[v] w fun e w' => (∃ v', e = .returned v' ∧ RS 6 (RStN d) w' w.heap.size xs v') ∧ Below w.heap.size w w' ∧ NF w.heap.size w' := toStS_ofN d (toSt_of d)
set_option maxHeartbeats 1600000 in
theorem toProc_of (d : Nat) (x : Proc) (u : List Value) (w : World) (hl : szProcN d x ≤ 1048576) (hr : RProcN d w 0 x u) :
    Calls Try.prog 24 #[.agg u.toArray] w fun e w' => (∃ u', e = .returned (.agg u'.toArray) ∧ RProcN d w' w.heap.size x u') ∧ Below w.heap.size w w' ∧ NF w.heap.size w' := by
  have hsz : szProcN d x = x.name.size + szStN (d + 1) x.body := rfl
  obtain ⟨v7, v8, rfl, b_name, r7, r8⟩ := hr
  have S3 := hide (fun (W : World) (hb : Below w.heap.size w W) => toSt_of (d + 1) x.body [.int .i64 x.body.kind, .int .i64 x.body.n, .int .i64 x.body.low, .int .i64 x.body.wide, v7, v8] W (by omega) ⟨v7, v8, rfl, r7.later (RExN.keeps d) hb, r8.later (RStN.keeps d) hb⟩)
  obtain ⟨a7, c7, rfl⟩ := r7.slice
  obtain ⟨a8, c8, rfl⟩ := r8.slice
  clear r7 r8
  replace b_name := hide b_name
  clear hsz hl
  go_enter Try.func24, Try.ntmps24
  go_wp2_with (first
    | (go_at_call 36; refine (unhide S3 _ (bal (bal (bal (brf w) _) _) _)).mono ?_; rintro e W1 ⟨⟨V1, rfl, rd1⟩, hb1, nf1⟩; have HF1 := hide (nf_tr (nf_al (nf_al (nf_al (nf_rf w) _ _) _ _) _ _) hb1 nf1); clear nf1; obtain ⟨y7, y8, rfl, rd7, rd8⟩ := rd1; obtain ⟨A7, C7, rfl⟩ := rd7.slice; obtain ⟨A8, C8, rfl⟩ := rd8.slice; obtain ⟨hc1, hf1⟩ := bcell hb1; have hB1 := btr (bal (bal (bal (brf w) _) _) _) hb1; have sz1 := hb1.size; have t1 : w.heap.size + 1 + 1 < W1.heap.size := (by simp at sz1; omega); have u1 : w.heap.size + 1 < W1.heap.size := (by omega); have s1 : w.heap.size < W1.heap.size := (by omega); have HD7 := hide (RS.low (RExN.lowers d) (B' := w.heap.size + 1 + 1 + 1) (by simp) rd7); have HD8 := hide (RS.low (RStN.lowers d) (B' := w.heap.size + 1 + 1 + 1) (by simp) rd8); clear rd7 rd8 hb1 sz1))
  refine bodyPost_ret (v := .agg #[.int .i64 x.kind, .int .i64 x.clock, .string x.name, .int .i64 x.body.kind, .int .i64 x.body.n, .int .i64 x.body.low, .int .i64 x.body.wide, .slice A7 x.body.exs.length C7, .slice A8 x.body.kids.length C8]) (by simp [results, Try.results24, go_sem, *]) rfl ⟨⟨[.int .i64 x.kind, .int .i64 x.clock, .string x.name, .int .i64 x.body.kind, .int .i64 x.body.n, .int .i64 x.body.low, .int .i64 x.body.wide, .slice A7 x.body.exs.length C7, .slice A8 x.body.kids.length C8], rfl, ?_⟩, ?_, ?_⟩
  · refine ⟨_, _, rfl, unhide b_name, ?_, ?_⟩
    · refine RS.low (RExN.lowers d) (B := w.heap.size + 1 + 1 + 1) (by omega) ?_
      repeat refine RS.set (RExN.keeps d) ?_ (by omega)
      exact unhide HD7
    · refine RS.low (RStN.lowers d) (B := w.heap.size + 1 + 1 + 1) (by omega) ?_
      repeat refine RS.set (RStN.keeps d) ?_ (by omega)
      exact unhide HD8
  · repeat refine bst ?_ (by first | (simp; done) | (simp; omega)) _
    exact hB1
  · repeat refine nf_set ?_ _ _
    exact unhide HF1
theorem info_toProcS : (Try.prog.info? 48).map (fun i => (i.zero, i.size, i.bytes)) = some (some (.agg #[.int .i64 0, .int .i64 0, .string ByteArray.empty, .int .i64 0, .int .i64 0, .int .i64 0, .int .i64 0, .slice none 0 0, .slice none 0 0]), 9, 112) := by kernel_rfl
theorem make_toProcS (n : Nat) (hn : n ≤ 1048576) : ∃ M : Array Value, M.size = n * 9 ∧ ∀ W : World, (Instr.makeSlice 29 (.int .i64 (n : Int)) (.int .i64 (n : Int))).run Try.prog W = .ok (.slice (some ⟨W.heap.size, 0, none⟩) n n) (W.alloc (.cells M 48)) := by
  obtain ⟨i0, hi, hz0, hz1, hz2⟩ := info_parts info_toProcS
  refine ⟨_, size_madeCells #[.int .i64 0, .int .i64 0, .string ByteArray.empty, .int .i64 0, .int .i64 0, .int .i64 0, .int .i64 0, .slice none 0 0, .slice none 0 0] (n * 9), fun W => ?_⟩
  have hr := run_make (P := Try.prog) W 29 48 i0 _ (by kernel_rfl) hi hz0 .i64 .i64 n n (by omega) (Int.le_refl _) (by rw [hz2]; omega) (by omega)
  rw [hr, hz1]
  simp
  rfl
set_option maxHeartbeats 1600000 in
theorem toProcS_of (d : Nat) (xs : List Proc) (v : Value) (w : World) (hl : szL (szProcN d) xs ≤ 1048576) (hr : RS 9 (RProcN d) w 0 xs v) :
    Calls Try.prog 14 #[v] w fun e w' => (∃ v', e = .returned v' ∧ RS 9 (RProcN d) w' w.heap.size xs v') ∧ Below w.heap.size w w' ∧ NF w.heap.size w' := by
  have hsm := szL_sm (szProcN d) xs
  obtain ⟨M, hM, hmk⟩ := make_toProcS xs.length (by omega)
  rcases hr.open with ⟨rfl, a, c, rfl⟩ | ⟨b, o, c, rfl, hc, hn, _, hcs⟩
  · have hmk0 : ∀ W : World, (Instr.makeSlice 29 (.int .i64 0) (.int .i64 0)).run Try.prog W = .ok (.slice (some ⟨W.heap.size, 0, none⟩) 0 0) (W.alloc (.cells M 48)) := hmk
    clear hsm hr hmk hl
    go_enter Try.func14, Try.ntmps14
    go_wp2
    go_loopw [4] (fun i W => i = .int .i64 0 ∧ Below w.heap.size w W ∧ NF w.heap.size W) (fun _ _ => 0)
    case atStart => exact ⟨rfl, bal (brf w) _, nf_al (nf_rf w) _ _⟩
    case round =>
      obtain ⟨rfl, hb, hnf⟩ := hrel
      have HB := hide hb
      have HNF := hide hnf
      clear hb hnf
      go_wp2
      exact bodyPost_ret (v := .slice (some ⟨w.heap.size, 0, none⟩) 0 0) (by simp [results, Try.results14, go_sem]) rfl ⟨⟨_, rfl, RS.nil _ _ _ _ _ _⟩, unhide HB, unhide HNF⟩
  · have hn2 := hn
    unfold maxLen at hn
    have HN := hide hn2
    have HC := hide hcs
    have HTP := hide (TP_made w M 48 (xs.length * 9) hM)
    clear hcs hr hM hn2
    go_enter Try.func14, Try.ntmps14
    go_wp2
    clear hmk
    go_loopw [4] (fun i W => ∃ j : Nat, j ≤ xs.length ∧ i = .int .i64 j ∧ TP W w.heap.size (xs.length * 9) ∧ NR 9 (RProcN d) W (w.heap.size + 1) w.heap.size j xs ∧ Below w.heap.size w W ∧ w.heap.size + 1 ≤ W.heap.size ∧ NF w.heap.size W) (fun i W => xs.length - (intOf i).toNat)
    case atStart => exact ⟨0, Nat.zero_le _, rfl, unhide HTP, NR.zero, bal (brf w) _, by simp, nf_al (nf_rf w) _ _⟩
    case round =>
      clear HTP
      obtain ⟨j, hj, rfl, hTP, hNR, hb, hsz, hnf⟩ := hrel
      have HNF := hide hnf
      clear hnf
      have HTP := hide hTP
      have HNR := hide hNR
      by_cases hjn : j < xs.length
      · have hx : xs[j]? = some xs[j] := List.getElem?_eq_getElem hjn
        generalize xs[j] = x at hx
        obtain ⟨u, hul, hat, hrx⟩ := unhide HC j x hx
        have st := sm_take (f := (szProcN d)) hx
        have sl := sm_le (f := (szProcN d)) (xs := xs) (j + 1)
        have i1 : (0 : Int) ≤ (j : Int) := by omega
        have i2 : (j : Int) < (xs.length : Int) := by omega
        obtain ⟨⟨w0, c0⟩, f0⟩ := hTP (j * 9 + 0) (by omega)
        obtain ⟨⟨w1, c1⟩, f1⟩ := hTP (j * 9 + 1) (by omega)
        obtain ⟨⟨w2, c2⟩, f2⟩ := hTP (j * 9 + 2) (by omega)
        obtain ⟨⟨w3, c3⟩, f3⟩ := hTP (j * 9 + 3) (by omega)
        obtain ⟨⟨w4, c4⟩, f4⟩ := hTP (j * 9 + 4) (by omega)
        obtain ⟨⟨w5, c5⟩, f5⟩ := hTP (j * 9 + 5) (by omega)
        obtain ⟨⟨w6, c6⟩, f6⟩ := hTP (j * 9 + 6) (by omega)
        obtain ⟨⟨w7, c7⟩, f7⟩ := hTP (j * 9 + 7) (by omega)
        obtain ⟨⟨w8, c8⟩, f8⟩ := hTP (j * 9 + 8) (by omega)
        simp only [Nat.add_zero] at c0 f0
        have PX := hide (toProc_of d x u wr (by omega) ((RProcN.keeps d) _ _ _ _ _ (later_cells hb 0) hrx))
        obtain ⟨p7, p8, rfl, _, _, _⟩ := hrx
        have k0 := cell_later hb (hat.get (j := 0) rfl)
        have k1 := cell_later hb (hat.get (j := 1) rfl)
        have k2 := cell_later hb (hat.get (j := 2) rfl)
        have k3 := cell_later hb (hat.get (j := 3) rfl)
        have k4 := cell_later hb (hat.get (j := 4) rfl)
        have k5 := cell_later hb (hat.get (j := 5) rfl)
        have k6 := cell_later hb (hat.get (j := 6) rfl)
        have k7 := cell_later hb (hat.get (j := 7) rfl)
        have k8 := cell_later hb (hat.get (j := 8) rfl)
        simp only [Nat.add_zero] at k0
        have HX := hide hx
        have HB := hide hb
        clear hb hat hul HC hTP hNR hx
        go_wp2_with (go_at_call 24; refine (unhide PX).mono ?_; rintro e v1 ⟨⟨u1, rfl, hr1⟩, hb1, nf1⟩; have HN1 := hide (nf_tr (unhide HNF) hb1 nf1); clear nf1; have HR1 := hide hr1; have HB1 := hide hb1; have d0 := cell_later hb1 c0; have g0 := frozen_later hb1 c0 f0; have d1 := cell_later hb1 c1; have g1 := frozen_later hb1 c1 f1; have d2 := cell_later hb1 c2; have g2 := frozen_later hb1 c2 f2; have d3 := cell_later hb1 c3; have g3 := frozen_later hb1 c3 f3; have d4 := cell_later hb1 c4; have g4 := frozen_later hb1 c4 f4; have d5 := cell_later hb1 c5; have g5 := frozen_later hb1 c5 f5; have d6 := cell_later hb1 c6; have g6 := frozen_later hb1 c6 f6; have d7 := cell_later hb1 c7; have g7 := frozen_later hb1 c7 f7; have d8 := cell_later hb1 c8; have g8 := frozen_later hb1 c8 f8; obtain ⟨q7, q8, rfl, _, hq7, hq8⟩ := hr1; obtain ⟨A7, C7, rfl⟩ := hq7.slice; clear hq7; obtain ⟨A8, C8, rfl⟩ := hq8.slice; clear hq8; clear hb1)
        have hgs : w.heap.size + 1 ≤ wr.heap.size := by omega
        have hN1 := NR.step (RProcN.keeps d) (u := [.int .i64 x.kind, .int .i64 x.clock, .string x.name, .int .i64 x.body.kind, .int .i64 x.body.n, .int .i64 x.body.low, .int .i64 x.body.wide, .slice A7 x.body.exs.length C7, .slice A8 x.body.kids.length C8]) ((unhide HTP).later (unhide HB1)) ((unhide HNR).later (RProcN.keeps d) (unhide HB1)) (Nat.lt_succ_self _) (unhide HX) rfl ((RProcN.lowers d) _ _ _ _ _ hgs (unhide HR1)) (by omega)
        have hT1 := ((unhide HTP).later (unhide HB1)).set (o := j * 9) (vs := [.int .i64 x.kind, .int .i64 x.clock, .string x.name, .int .i64 x.body.kind, .int .i64 x.body.n, .int .i64 x.body.low, .int .i64 x.body.wide, .slice A7 x.body.exs.length C7, .slice A8 x.body.kids.length C8])
        have hB1 := setK_below [.int .i64 x.kind, .int .i64 x.clock, .string x.name, .int .i64 x.body.kind, .int .i64 x.body.n, .int .i64 x.body.low, .int .i64 x.body.wide, .slice A7 x.body.exs.length C7, .slice A8 x.body.kids.length C8] (o := j * 9) (btr (unhide HB) (unhide HB1)) (Nat.le_refl w.heap.size)
        have hS1 := (unhide HB1).size
        have hF1 := nf_setK [.int .i64 x.kind, .int .i64 x.clock, .string x.name, .int .i64 x.body.kind, .int .i64 x.body.n, .int .i64 x.body.low, .int .i64 x.body.wide, .slice A7 x.body.exs.length C7, .slice A8 x.body.kids.length C8] (o := j * 9) (g := w.heap.size) (unhide HN1)
        simp only [setK] at hN1 hT1 hB1 hF1
        exact ⟨⟨j + 1, by omega, by go_num, hT1, hN1, hB1, by simp; omega, hF1⟩, by simp [intOf]; omega⟩
      · obtain rfl : j = xs.length := by omega
        have HB := hide hb
        clear hb hTP hNR HC
        go_wp2
        exact bodyPost_ret (v := .slice (some ⟨w.heap.size, 0, none⟩) xs.length xs.length) (by simp [results, Try.results14, go_sem]) rfl ⟨⟨_, rfl, NR.done (RProcN.lowers d) (unhide HNR) (unhide HN) (Nat.le_refl _)⟩, unhide HB, unhide HNF⟩
set_option maxHeartbeats 1600000 in
theorem toFlat_of (d : Nat) (x : Flat) (u : List Value) (w : World) (hl : (szFlatN d) x ≤ 1048576) (hr : (RFlatN d) w 0 x u) :
    Calls Try.prog 6 #[.agg u.toArray] w fun e w' => (∃ u', e = .returned (.agg u'.toArray) ∧ (RFlatN d) w' w.heap.size x u') ∧ Below w.heap.size w w' ∧ NF w.heap.size w' := by
  have hsz : (szFlatN d) x = szL szSignal x.signals + szL (szProcN d) x.procs := rfl
  obtain ⟨v0, v1, rfl, r0, r1⟩ := hr
  have S0 := hide (fun (W : World) (hb : Below w.heap.size w W) => toSignalS_of x.signals v0 W (by omega) (r0.later RSignal.keeps hb))
  obtain ⟨a0, c0, rfl⟩ := r0.slice
  have S1 := hide (fun (W : World) (hb : Below w.heap.size w W) => toProcS_of d x.procs v1 W (by omega) (r1.later (RProcN.keeps d) hb))
  obtain ⟨a1, c1, rfl⟩ := r1.slice
  clear r0 r1
  clear hsz hl
  go_enter Try.func6, Try.ntmps6
  go_wp2_with (first
    | (have hq2 := hB1; go_at_call 14; refine (unhide S1 _ (bst hB1 (by show w.heap.size ≤ w.heap.size + 1 + 1; omega) _)).mono ?_; rintro e W2 ⟨⟨V2, rfl, rd2⟩, hb2, nf2⟩; have HF2 := hide (nf_tr (nf_set (unhide HF1) _ _) hb2 nf2); clear nf2; obtain ⟨A1, C1, rfl⟩ := rd2.slice; obtain ⟨hc2, hf2⟩ := bcell hb2; have hB2 := btr (bst hB1 (by show w.heap.size ≤ w.heap.size + 1 + 1; omega) _) hb2; have sz2 := hb2.size; have t2 : w.heap.size + 1 + 1 < W2.heap.size := (by simp at sz2; omega); have u2 : w.heap.size + 1 < W2.heap.size := (by omega); have s2 : w.heap.size < W2.heap.size := (by omega); have rr2_1 := hide (((unhide HD1).set RSignal.keeps (g := w.heap.size + 1 + 1) (by omega)).later RSignal.keeps hb2); have HD2 := hide (RS.low (RProcN.lowers d) (B' := w.heap.size + 1 + 1 + 1) (by simp; omega) rd2); clear rd2 hb2 sz2)
    | (go_at_call 13; refine (unhide S0 _ (bal (bal (bal (brf w) _) _) _)).mono ?_; rintro e W1 ⟨⟨V1, rfl, rd1⟩, hb1, nf1⟩; have HF1 := hide (nf_tr (nf_al (nf_al (nf_al (nf_rf w) _ _) _ _) _ _) hb1 nf1); clear nf1; obtain ⟨A0, C0, rfl⟩ := rd1.slice; obtain ⟨hc1, hf1⟩ := bcell hb1; have hB1 := btr (bal (bal (bal (brf w) _) _) _) hb1; have sz1 := hb1.size; have t1 : w.heap.size + 1 + 1 < W1.heap.size := (by simp at sz1; omega); have u1 : w.heap.size + 1 < W1.heap.size := (by omega); have s1 : w.heap.size < W1.heap.size := (by omega); have HD1 := hide (RS.low RSignal.lowers (B' := w.heap.size + 1 + 1 + 1) (by simp) rd1); clear rd1 hb1 sz1))
  refine bodyPost_ret (v := .agg #[.slice A0 x.signals.length C0, .slice A1 x.procs.length C1]) (by simp [results, Try.results6, go_sem, *]) rfl ⟨⟨[.slice A0 x.signals.length C0, .slice A1 x.procs.length C1], rfl, ?_⟩, ?_, ?_⟩
  · refine ⟨_, _, rfl, ?_, ?_⟩
    · refine RS.low RSignal.lowers (B := w.heap.size + 1 + 1 + 1) (by omega) ?_
      repeat refine RS.set RSignal.keeps ?_ (by omega)
      exact unhide rr2_1
    · refine RS.low (RProcN.lowers d) (B := w.heap.size + 1 + 1 + 1) (by omega) ?_
      repeat refine RS.set (RProcN.keeps d) ?_ (by omega)
      exact unhide HD2
  · repeat refine bst ?_ (by first | (simp; done) | (simp; omega)) _
    exact hB2
  · repeat refine nf_set ?_ _ _
    exact unhide HF2
end Go.Proofs.Ytgkfhaahcedbpaa
