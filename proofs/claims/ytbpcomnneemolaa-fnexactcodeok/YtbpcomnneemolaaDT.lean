/- What the laws' to functions answer: a copy in new memory. -/
import Derived.Test.YtbpcomnneemolaaDD
import Derived.Test.YtbpcomnneemolaaGS2
namespace Go.Proofs.Ytbpcomnneemolaa
open Go.RowKit Gs
set_option linter.unusedVariables false
set_option maxRecDepth 100000
set_option maxHeartbeats 1600000 in
theorem toInstr_of (x : Instr) (u : List Value) (w : World) (hl : szInstr x ≤ 1048576) (hr : RInstr w 0 x u) :
    Calls Try.prog 30 #[.agg u.toArray] w fun e w' => (∃ u', e = .returned (.agg u'.toArray) ∧ RInstr w' w.heap.size x u') ∧ Below w.heap.size w w' := by
  have hsz : szInstr x = x.bits.size := rfl
  obtain ⟨rfl, b_bits⟩ := hr
  replace b_bits := hide b_bits
  clear hsz hl
  go_enter Try.func30, Try.ntmps30
  go_wp2
  exact bodyPost_ret (v := .agg #[.int .i64 x.op, .int .i64 x.dst, .int .i64 x.a, .int .i64 x.b, .int .i64 x.c, .int .i64 x.n, .int .i64 x.width, .bool x.signed, .string x.bits]) (by simp [results, Try.results30, go_sem]) rfl ⟨⟨[.int .i64 x.op, .int .i64 x.dst, .int .i64 x.a, .int .i64 x.b, .int .i64 x.c, .int .i64 x.n, .int .i64 x.width, .bool x.signed, .string x.bits], rfl, rfl, unhide b_bits⟩, bal (bal (bal (brf w) _) _) _⟩
theorem info_toInstrS : (Try.prog.info? 40).map (fun i => (i.zero, i.size, i.bytes)) = some (some (.agg #[.int .i64 0, .int .i64 0, .int .i64 0, .int .i64 0, .int .i64 0, .int .i64 0, .int .i64 0, .bool false, .string ByteArray.empty]), 9, 80) := by kernel_rfl
theorem make_toInstrS (n : Nat) (hn : n ≤ 1048576) : ∃ M : Array Value, M.size = n * 9 ∧ ∀ W : World, (Instr.makeSlice 29 (.int .i64 (n : Int)) (.int .i64 (n : Int))).run Try.prog W = .ok (.slice (some ⟨W.heap.size, 0, none⟩) n n) (W.alloc (.cells M 40)) := by
  obtain ⟨i0, hi, hz0, hz1, hz2⟩ := info_parts info_toInstrS
  refine ⟨_, size_madeCells #[.int .i64 0, .int .i64 0, .int .i64 0, .int .i64 0, .int .i64 0, .int .i64 0, .int .i64 0, .bool false, .string ByteArray.empty] (n * 9), fun W => ?_⟩
  have hr := run_make (P := Try.prog) W 29 40 i0 _ (by kernel_rfl) hi hz0 .i64 .i64 n n (by omega) (Int.le_refl _) (by rw [hz2]; omega) (by omega)
  rw [hr, hz1]
  simp
  rfl
set_option maxHeartbeats 1600000 in
theorem toInstrS_of (xs : List Instr) (v : Value) (w : World) (hl : szL szInstr xs ≤ 1048576) (hr : RS 9 RInstr w 0 xs v) :
    Calls Try.prog 17 #[v] w fun e w' => (∃ v', e = .returned v' ∧ RS 9 RInstr w' w.heap.size xs v') ∧ Below w.heap.size w w' := by
  have hsm := szL_sm szInstr xs
  obtain ⟨M, hM, hmk⟩ := make_toInstrS xs.length (by omega)
  rcases hr.open with ⟨rfl, a, c, rfl⟩ | ⟨b, o, c, rfl, hc, hn, _, hcs⟩
  · have hmk0 : ∀ W : World, (Instr.makeSlice 29 (.int .i64 0) (.int .i64 0)).run Try.prog W = .ok (.slice (some ⟨W.heap.size, 0, none⟩) 0 0) (W.alloc (.cells M 40)) := hmk
    clear hsm hr hmk hl
    go_enter Try.func17, Try.ntmps17
    go_wp2
    go_loopw [4] (fun i W => i = .int .i64 0 ∧ Below w.heap.size w W) (fun _ _ => 0)
    case atStart => exact ⟨rfl, bal (brf w) _⟩
    case round =>
      obtain ⟨rfl, hb⟩ := hrel
      have HB := hide hb
      clear hb
      go_wp2
      exact bodyPost_ret (v := .slice (some ⟨w.heap.size, 0, none⟩) 0 0) (by simp [results, Try.results17, go_sem]) rfl ⟨⟨_, rfl, RS.nil _ _ _ _ _ _⟩, unhide HB⟩
  · have hn2 := hn
    unfold maxLen at hn
    have HN := hide hn2
    have HC := hide hcs
    have HTP := hide (TP_made w M 40 (xs.length * 9) hM)
    clear hcs hr hM hn2
    go_enter Try.func17, Try.ntmps17
    go_wp2
    clear hmk
    go_loopw [4] (fun i W => ∃ j : Nat, j ≤ xs.length ∧ i = .int .i64 j ∧ TP W w.heap.size (xs.length * 9) ∧ NR 9 RInstr W (w.heap.size + 1) w.heap.size j xs ∧ Below w.heap.size w W ∧ w.heap.size + 1 ≤ W.heap.size) (fun i W => xs.length - (intOf i).toNat)
    case atStart => exact ⟨0, Nat.zero_le _, rfl, unhide HTP, NR.zero, bal (brf w) _, by simp⟩
    case round =>
      clear HTP
      obtain ⟨j, hj, rfl, hTP, hNR, hb, hsz⟩ := hrel
      have HTP := hide hTP
      have HNR := hide hNR
      by_cases hjn : j < xs.length
      · have hx : xs[j]? = some xs[j] := List.getElem?_eq_getElem hjn
        generalize xs[j] = x at hx
        obtain ⟨u, hul, hat, hrx⟩ := unhide HC j x hx
        have st := sm_take (f := szInstr) hx
        have sl := sm_le (f := szInstr) (xs := xs) (j + 1)
        have i1 : (0 : Int) ≤ (j : Int) := by omega
        have i2 : (j : Int) < (xs.length : Int) := by omega
        obtain ⟨⟨w0, c0⟩, f0⟩ := hTP (j * 9 + 0) (by omega)
        obtain ⟨⟨w1, c1⟩, f1⟩ := hTP (j * 9 + 1) (by omega)
        obtain ⟨⟨w2, c2⟩, f2⟩ := hTP (j * 9 + 2) (by omega)
        obtain ⟨⟨w3, c3⟩, f3⟩ := hTP (j * 9 + 3) (by omega)
        obtain ⟨⟨w4, c4⟩, f4⟩ := hTP (j * 9 + 4) (by omega)
        obtain ⟨⟨w5, c5⟩, f5⟩ := hTP (j * 9 + 5) (by omega)
        obtain ⟨⟨w6, c6⟩, f6⟩ := hTP (j * 9 + 6) (by omega)
        obtain ⟨⟨w7, c7⟩, f7⟩ := hTP (j * 9 + 7) (by omega)
        obtain ⟨⟨w8, c8⟩, f8⟩ := hTP (j * 9 + 8) (by omega)
        simp only [Nat.add_zero] at c0 f0
        have PX := hide (toInstr_of x u wr (by omega) (RInstr.keeps _ _ _ _ _ (later_cells hb 0) hrx))
        obtain ⟨rfl, _⟩ := hrx
        have k0 := cell_later hb (hat.get (j := 0) rfl)
        have k1 := cell_later hb (hat.get (j := 1) rfl)
        have k2 := cell_later hb (hat.get (j := 2) rfl)
        have k3 := cell_later hb (hat.get (j := 3) rfl)
        have k4 := cell_later hb (hat.get (j := 4) rfl)
        have k5 := cell_later hb (hat.get (j := 5) rfl)
        have k6 := cell_later hb (hat.get (j := 6) rfl)
        have k7 := cell_later hb (hat.get (j := 7) rfl)
        have k8 := cell_later hb (hat.get (j := 8) rfl)
        simp only [Nat.add_zero] at k0
        have HX := hide hx
        have HB := hide hb
        clear hb hat hul HC hTP hNR hx
        go_wp2_with (go_at_call 30; refine (unhide PX).mono ?_; rintro e v1 ⟨⟨u1, rfl, hr1⟩, hb1⟩; have HR1 := hide hr1; have HB1 := hide hb1; have d0 := cell_later hb1 c0; have g0 := frozen_later hb1 c0 f0; have d1 := cell_later hb1 c1; have g1 := frozen_later hb1 c1 f1; have d2 := cell_later hb1 c2; have g2 := frozen_later hb1 c2 f2; have d3 := cell_later hb1 c3; have g3 := frozen_later hb1 c3 f3; have d4 := cell_later hb1 c4; have g4 := frozen_later hb1 c4 f4; have d5 := cell_later hb1 c5; have g5 := frozen_later hb1 c5 f5; have d6 := cell_later hb1 c6; have g6 := frozen_later hb1 c6 f6; have d7 := cell_later hb1 c7; have g7 := frozen_later hb1 c7 f7; have d8 := cell_later hb1 c8; have g8 := frozen_later hb1 c8 f8; obtain ⟨rfl, _⟩ := hr1; clear hb1)
        have hgs : w.heap.size + 1 ≤ wr.heap.size := by omega
        have hN1 := NR.step RInstr.keeps (u := [.int .i64 x.op, .int .i64 x.dst, .int .i64 x.a, .int .i64 x.b, .int .i64 x.c, .int .i64 x.n, .int .i64 x.width, .bool x.signed, .string x.bits]) ((unhide HTP).later (unhide HB1)) ((unhide HNR).later RInstr.keeps (unhide HB1)) (Nat.lt_succ_self _) (unhide HX) rfl (RInstr.lowers _ _ _ _ _ hgs (unhide HR1)) (by omega)
        have hT1 := ((unhide HTP).later (unhide HB1)).set (o := j * 9) (vs := [.int .i64 x.op, .int .i64 x.dst, .int .i64 x.a, .int .i64 x.b, .int .i64 x.c, .int .i64 x.n, .int .i64 x.width, .bool x.signed, .string x.bits])
        have hB1 := setK_below [.int .i64 x.op, .int .i64 x.dst, .int .i64 x.a, .int .i64 x.b, .int .i64 x.c, .int .i64 x.n, .int .i64 x.width, .bool x.signed, .string x.bits] (o := j * 9) (btr (unhide HB) (unhide HB1)) (Nat.le_refl w.heap.size)
        have hS1 := (unhide HB1).size
        simp only [setK] at hN1 hT1 hB1
        exact ⟨⟨j + 1, by omega, by go_num, hT1, hN1, hB1, by simp; omega⟩, by simp [intOf]; omega⟩
      · obtain rfl : j = xs.length := by omega
        have HB := hide hb
        clear hb hTP hNR HC
        go_wp2
        exact bodyPost_ret (v := .slice (some ⟨w.heap.size, 0, none⟩) xs.length xs.length) (by simp [results, Try.results17, go_sem]) rfl ⟨⟨_, rfl, NR.done RInstr.lowers (unhide HNR) (unhide HN) (Nat.le_refl _)⟩, unhide HB⟩
theorem info_toIntS : (Try.prog.info? 3).map (fun i => (i.zero, i.size, i.bytes)) = some (some (.int .i64 0), 1, 8) := by kernel_rfl
theorem make_toIntS (n : Nat) (hn : n ≤ 1048576) : ∃ M : Array Value, M.size = n * 1 ∧ ∀ W : World, (Instr.makeSlice 23 (.int .i64 (n : Int)) (.int .i64 (n : Int))).run Try.prog W = .ok (.slice (some ⟨W.heap.size, 0, none⟩) n n) (W.alloc (.cells M 3)) := by
  obtain ⟨i0, hi, hz0, hz1, hz2⟩ := info_parts info_toIntS
  refine ⟨_, size_madeCells #[.int .i64 0] (n * 1), fun W => ?_⟩
  have hr := run_make (P := Try.prog) W 23 3 i0 _ (by kernel_rfl) hi hz0 .i64 .i64 n n (by omega) (Int.le_refl _) (by rw [hz2]; omega) (by omega)
  rw [hr, hz1]
  simp
  rfl
set_option maxHeartbeats 1600000 in
theorem toIntS_of (xs : List Int) (v : Value) (w : World) (hl : szL (fun (_ : Int) => 0) xs ≤ 1048576) (hr : RS 1 RInt w 0 xs v) :
    Calls Try.prog 18 #[v] w fun e w' => (∃ v', e = .returned v' ∧ RS 1 RInt w' w.heap.size xs v') ∧ Below w.heap.size w w' := by
  have hsm := szL_sm (fun (_ : Int) => 0) xs
  obtain ⟨M, hM, hmk⟩ := make_toIntS xs.length (by omega)
  rcases hr.open with ⟨rfl, a, c, rfl⟩ | ⟨b, o, c, rfl, hc, hn, _, hcs⟩
  · have hmk0 : ∀ W : World, (Instr.makeSlice 23 (.int .i64 0) (.int .i64 0)).run Try.prog W = .ok (.slice (some ⟨W.heap.size, 0, none⟩) 0 0) (W.alloc (.cells M 3)) := hmk
    clear hsm hr hmk hl
    go_enter Try.func18, Try.ntmps18
    go_wp2
    go_loopw [4] (fun i W => i = .int .i64 0 ∧ Below w.heap.size w W) (fun _ _ => 0)
    case atStart => exact ⟨rfl, bal (brf w) _⟩
    case round =>
      obtain ⟨rfl, hb⟩ := hrel
      have HB := hide hb
      clear hb
      go_wp2
      exact bodyPost_ret (v := .slice (some ⟨w.heap.size, 0, none⟩) 0 0) (by simp [results, Try.results18, go_sem]) rfl ⟨⟨_, rfl, RS.nil _ _ _ _ _ _⟩, unhide HB⟩
  · have hn2 := hn
    unfold maxLen at hn
    have HN := hide hn2
    have HC := hide hcs
    have HTP := hide (TP_made w M 3 (xs.length * 1) hM)
    clear hcs hr hM hn2
    go_enter Try.func18, Try.ntmps18
    go_wp2
    clear hmk
    go_loopw [4] (fun i W => ∃ j : Nat, j ≤ xs.length ∧ i = .int .i64 j ∧ TP W w.heap.size (xs.length * 1) ∧ NR 1 RInt W (w.heap.size + 1) w.heap.size j xs ∧ Below w.heap.size w W ∧ w.heap.size + 1 ≤ W.heap.size) (fun i W => xs.length - (intOf i).toNat)
    case atStart => exact ⟨0, Nat.zero_le _, rfl, unhide HTP, NR.zero, bal (brf w) _, by simp⟩
    case round =>
      clear HTP
      obtain ⟨j, hj, rfl, hTP, hNR, hb, hsz⟩ := hrel
      have HTP := hide hTP
      have HNR := hide hNR
      by_cases hjn : j < xs.length
      · have hx : xs[j]? = some xs[j] := List.getElem?_eq_getElem hjn
        generalize xs[j] = x at hx
        obtain ⟨u, hul, hat, hrx⟩ := unhide HC j x hx
        have st := sm_take (f := (fun (_ : Int) => 0)) hx
        have sl := sm_le (f := (fun (_ : Int) => 0)) (xs := xs) (j + 1)
        have i1 : (0 : Int) ≤ (j : Int) := by omega
        have i2 : (j : Int) < (xs.length : Int) := by omega
        obtain ⟨⟨w0, c0⟩, f0⟩ := hTP (j * 1 + 0) (by omega)
        simp only [Nat.add_zero, Nat.mul_one] at c0 f0
        obtain rfl := hrx
        have k0 := cell_later hb (hat.get (j := 0) rfl)
        simp only [Nat.add_zero, Nat.mul_one] at k0
        have HX := hide hx
        have HB := hide hb
        clear hb hat hul HC hTP hNR hx
        go_wp2
        have hN1 := NR.step RInt.keeps (u := [.int .i64 x]) (unhide HTP) (unhide HNR) (Nat.lt_succ_self _) (unhide HX) rfl rfl (by omega)
        have hT1 := (unhide HTP).set (o := j) (vs := [.int .i64 x])
        have hB1 := setK_below [.int .i64 x] (o := j) (unhide HB) (Nat.le_refl w.heap.size)
        simp only [setK, Nat.mul_one] at hN1
        simp only [setK] at hT1 hB1
        exact ⟨⟨j + 1, by omega, by go_num, hT1, hN1, hB1, by simp; omega⟩, by simp [intOf]; omega⟩
      · obtain rfl : j = xs.length := by omega
        have HB := hide hb
        clear hb hTP hNR HC
        go_wp2
        exact bodyPost_ret (v := .slice (some ⟨w.heap.size, 0, none⟩) xs.length xs.length) (by simp [results, Try.results18, go_sem]) rfl ⟨⟨_, rfl, NR.done RInt.lowers (unhide HNR) (unhide HN) (Nat.le_refl _)⟩, unhide HB⟩
theorem info_toStringS : (Try.prog.info? 9).map (fun i => (i.zero, i.size, i.bytes)) = some (some (.string ByteArray.empty), 1, 16) := by kernel_rfl
theorem make_toStringS (n : Nat) (hn : n ≤ 1048576) : ∃ M : Array Value, M.size = n * 1 ∧ ∀ W : World, (Instr.makeSlice 24 (.int .i64 (n : Int)) (.int .i64 (n : Int))).run Try.prog W = .ok (.slice (some ⟨W.heap.size, 0, none⟩) n n) (W.alloc (.cells M 9)) := by
  obtain ⟨i0, hi, hz0, hz1, hz2⟩ := info_parts info_toStringS
  refine ⟨_, size_madeCells #[.string ByteArray.empty] (n * 1), fun W => ?_⟩
  have hr := run_make (P := Try.prog) W 24 9 i0 _ (by kernel_rfl) hi hz0 .i64 .i64 n n (by omega) (Int.le_refl _) (by rw [hz2]; omega) (by omega)
  rw [hr, hz1]
  simp
  rfl
set_option maxHeartbeats 1600000 in
theorem toStringS_of (xs : List ByteArray) (v : Value) (w : World) (hl : szL (fun (s : ByteArray) => s.size) xs ≤ 1048576) (hr : RS 1 RStr w 0 xs v) :
    Calls Try.prog 19 #[v] w fun e w' => (∃ v', e = .returned v' ∧ RS 1 RStr w' w.heap.size xs v') ∧ Below w.heap.size w w' := by
  have hsm := szL_sm (fun (s : ByteArray) => s.size) xs
  obtain ⟨M, hM, hmk⟩ := make_toStringS xs.length (by omega)
  rcases hr.open with ⟨rfl, a, c, rfl⟩ | ⟨b, o, c, rfl, hc, hn, _, hcs⟩
  · have hmk0 : ∀ W : World, (Instr.makeSlice 24 (.int .i64 0) (.int .i64 0)).run Try.prog W = .ok (.slice (some ⟨W.heap.size, 0, none⟩) 0 0) (W.alloc (.cells M 9)) := hmk
    clear hsm hr hmk hl
    go_enter Try.func19, Try.ntmps19
    go_wp2
    go_loopw [4] (fun i W => i = .int .i64 0 ∧ Below w.heap.size w W) (fun _ _ => 0)
    case atStart => exact ⟨rfl, bal (brf w) _⟩
    case round =>
      obtain ⟨rfl, hb⟩ := hrel
      have HB := hide hb
      clear hb
      go_wp2
      exact bodyPost_ret (v := .slice (some ⟨w.heap.size, 0, none⟩) 0 0) (by simp [results, Try.results19, go_sem]) rfl ⟨⟨_, rfl, RS.nil _ _ _ _ _ _⟩, unhide HB⟩
  · have hn2 := hn
    unfold maxLen at hn
    have HN := hide hn2
    have HC := hide hcs
    have HTP := hide (TP_made w M 9 (xs.length * 1) hM)
    clear hcs hr hM hn2
    go_enter Try.func19, Try.ntmps19
    go_wp2
    clear hmk
    go_loopw [4] (fun i W => ∃ j : Nat, j ≤ xs.length ∧ i = .int .i64 j ∧ TP W w.heap.size (xs.length * 1) ∧ NR 1 RStr W (w.heap.size + 1) w.heap.size j xs ∧ Below w.heap.size w W ∧ w.heap.size + 1 ≤ W.heap.size) (fun i W => xs.length - (intOf i).toNat)
    case atStart => exact ⟨0, Nat.zero_le _, rfl, unhide HTP, NR.zero, bal (brf w) _, by simp⟩
    case round =>
      clear HTP
      obtain ⟨j, hj, rfl, hTP, hNR, hb, hsz⟩ := hrel
      have HTP := hide hTP
      have HNR := hide hNR
      by_cases hjn : j < xs.length
      · have hx : xs[j]? = some xs[j] := List.getElem?_eq_getElem hjn
        generalize xs[j] = x at hx
        obtain ⟨u, hul, hat, hrx⟩ := unhide HC j x hx
        have st := sm_take (f := (fun (s : ByteArray) => s.size)) hx
        have sl := sm_le (f := (fun (s : ByteArray) => s.size)) (xs := xs) (j + 1)
        have i1 : (0 : Int) ≤ (j : Int) := by omega
        have i2 : (j : Int) < (xs.length : Int) := by omega
        obtain ⟨⟨w0, c0⟩, f0⟩ := hTP (j * 1 + 0) (by omega)
        simp only [Nat.add_zero, Nat.mul_one] at c0 f0
        obtain ⟨rfl, hts⟩ := hrx
        have k0 := cell_later hb (hat.get (j := 0) rfl)
        simp only [Nat.add_zero, Nat.mul_one] at k0
        have HX := hide hx
        have HB := hide hb
        clear hb hat hul HC hTP hNR hx
        go_wp2
        have hN1 := NR.step RStr.keeps (u := [.string x]) (unhide HTP) (unhide HNR) (Nat.lt_succ_self _) (unhide HX) rfl ⟨rfl, hts⟩ (by omega)
        have hT1 := (unhide HTP).set (o := j) (vs := [.string x])
        have hB1 := setK_below [.string x] (o := j) (unhide HB) (Nat.le_refl w.heap.size)
        simp only [setK, Nat.mul_one] at hN1
        simp only [setK] at hT1 hB1
        exact ⟨⟨j + 1, by omega, by go_num, hT1, hN1, hB1, by simp; omega⟩, by simp [intOf]; omega⟩
      · obtain rfl : j = xs.length := by omega
        have HB := hide hb
        clear hb hTP hNR HC
        go_wp2
        exact bodyPost_ret (v := .slice (some ⟨w.heap.size, 0, none⟩) xs.length xs.length) (by simp [results, Try.results19, go_sem]) rfl ⟨⟨_, rfl, NR.done RStr.lowers (unhide HNR) (unhide HN) (Nat.le_refl _)⟩, unhide HB⟩
set_option maxHeartbeats 1600000 in
theorem toCode_of (x : Code) (u : List Value) (w : World) (hl : szCode x ≤ 1048576) (hr : RCode w 0 x u) :
    Calls Try.prog 6 #[.agg u.toArray] w fun e w' => (∃ u', e = .returned (.agg u'.toArray) ∧ RCode w' w.heap.size x u') ∧ Below w.heap.size w w' := by
  have hsz : szCode x = szL szInstr x.instrs + szL (fun (_ : Int) => 0) x.ins + szL (fun (s : ByteArray) => s.size) x.inits + szL (fun (_ : Int) => 0) x.ticks + szL (fun (_ : Int) => 0) x.nexts + szL (fun (_ : Int) => 0) x.outs + szL (fun (_ : Int) => 0) x.checks := rfl
  obtain ⟨v1, v2, v4, v5, v6, v7, v8, rfl, r1, r2, r4, r5, r6, r7, r8⟩ := hr
  have S1 := hide (fun (W : World) (hb : Below w.heap.size w W) => toInstrS_of x.instrs v1 W (by omega) (r1.later RInstr.keeps hb))
  obtain ⟨a1, c1, rfl⟩ := r1.slice
  have S2 := hide (fun (W : World) (hb : Below w.heap.size w W) => toIntS_of x.ins v2 W (by omega) (r2.later RInt.keeps hb))
  obtain ⟨a2, c2, rfl⟩ := r2.slice
  have S4 := hide (fun (W : World) (hb : Below w.heap.size w W) => toStringS_of x.inits v4 W (by omega) (r4.later RStr.keeps hb))
  obtain ⟨a4, c4, rfl⟩ := r4.slice
  have S5 := hide (fun (W : World) (hb : Below w.heap.size w W) => toIntS_of x.ticks v5 W (by omega) (r5.later RInt.keeps hb))
  obtain ⟨a5, c5, rfl⟩ := r5.slice
  have S6 := hide (fun (W : World) (hb : Below w.heap.size w W) => toIntS_of x.nexts v6 W (by omega) (r6.later RInt.keeps hb))
  obtain ⟨a6, c6, rfl⟩ := r6.slice
  have S7 := hide (fun (W : World) (hb : Below w.heap.size w W) => toIntS_of x.outs v7 W (by omega) (r7.later RInt.keeps hb))
  obtain ⟨a7, c7, rfl⟩ := r7.slice
  have S8 := hide (fun (W : World) (hb : Below w.heap.size w W) => toIntS_of x.checks v8 W (by omega) (r8.later RInt.keeps hb))
  obtain ⟨a8, c8, rfl⟩ := r8.slice
  clear r1 r2 r4 r5 r6 r7 r8
  clear hsz hl
  go_enter Try.func6, Try.ntmps6
  go_wp2_with (first
    | (have hq7 := hB6; go_at_call 18; refine (unhide S8 _ (bst hB6 (by show w.heap.size ≤ w.heap.size + 1 + 1; omega) _)).mono ?_; rintro e W7 ⟨⟨V7, rfl, rd7⟩, hb7⟩; obtain ⟨A8, C8, rfl⟩ := rd7.slice; obtain ⟨hc7, hf7⟩ := bcell hb7; have hB7 := btr (bst hB6 (by show w.heap.size ≤ w.heap.size + 1 + 1; omega) _) hb7; have sz7 := hb7.size; have t7 : w.heap.size + 1 + 1 < W7.heap.size := (by simp at sz7; omega); have u7 : w.heap.size + 1 < W7.heap.size := (by omega); have s7 : w.heap.size < W7.heap.size := (by omega); have rr7_1 := hide (((unhide rr6_1).set RInstr.keeps (g := w.heap.size + 1 + 1) (by omega)).later RInstr.keeps hb7); have rr7_2 := hide (((unhide rr6_2).set RInt.keeps (g := w.heap.size + 1 + 1) (by omega)).later RInt.keeps hb7); have rr7_3 := hide (((unhide rr6_3).set RStr.keeps (g := w.heap.size + 1 + 1) (by omega)).later RStr.keeps hb7); have rr7_4 := hide (((unhide rr6_4).set RInt.keeps (g := w.heap.size + 1 + 1) (by omega)).later RInt.keeps hb7); have rr7_5 := hide (((unhide rr6_5).set RInt.keeps (g := w.heap.size + 1 + 1) (by omega)).later RInt.keeps hb7); have rr7_6 := hide (((unhide HD6).set RInt.keeps (g := w.heap.size + 1 + 1) (by omega)).later RInt.keeps hb7); have HD7 := hide (RS.low RInt.lowers (B' := w.heap.size + 1 + 1 + 1) (by simp; omega) rd7); clear rd7 hb7 sz7)
    | (have hq6 := hB5; go_at_call 18; refine (unhide S7 _ (bst hB5 (by show w.heap.size ≤ w.heap.size + 1 + 1; omega) _)).mono ?_; rintro e W6 ⟨⟨V6, rfl, rd6⟩, hb6⟩; obtain ⟨A7, C7, rfl⟩ := rd6.slice; obtain ⟨hc6, hf6⟩ := bcell hb6; have hB6 := btr (bst hB5 (by show w.heap.size ≤ w.heap.size + 1 + 1; omega) _) hb6; have sz6 := hb6.size; have t6 : w.heap.size + 1 + 1 < W6.heap.size := (by simp at sz6; omega); have u6 : w.heap.size + 1 < W6.heap.size := (by omega); have s6 : w.heap.size < W6.heap.size := (by omega); have rr6_1 := hide (((unhide rr5_1).set RInstr.keeps (g := w.heap.size + 1 + 1) (by omega)).later RInstr.keeps hb6); have rr6_2 := hide (((unhide rr5_2).set RInt.keeps (g := w.heap.size + 1 + 1) (by omega)).later RInt.keeps hb6); have rr6_3 := hide (((unhide rr5_3).set RStr.keeps (g := w.heap.size + 1 + 1) (by omega)).later RStr.keeps hb6); have rr6_4 := hide (((unhide rr5_4).set RInt.keeps (g := w.heap.size + 1 + 1) (by omega)).later RInt.keeps hb6); have rr6_5 := hide (((unhide HD5).set RInt.keeps (g := w.heap.size + 1 + 1) (by omega)).later RInt.keeps hb6); have HD6 := hide (RS.low RInt.lowers (B' := w.heap.size + 1 + 1 + 1) (by simp; omega) rd6); clear rd6 hb6 sz6)
    | (have hq5 := hB4; go_at_call 18; refine (unhide S6 _ (bst hB4 (by show w.heap.size ≤ w.heap.size + 1 + 1; omega) _)).mono ?_; rintro e W5 ⟨⟨V5, rfl, rd5⟩, hb5⟩; obtain ⟨A6, C6, rfl⟩ := rd5.slice; obtain ⟨hc5, hf5⟩ := bcell hb5; have hB5 := btr (bst hB4 (by show w.heap.size ≤ w.heap.size + 1 + 1; omega) _) hb5; have sz5 := hb5.size; have t5 : w.heap.size + 1 + 1 < W5.heap.size := (by simp at sz5; omega); have u5 : w.heap.size + 1 < W5.heap.size := (by omega); have s5 : w.heap.size < W5.heap.size := (by omega); have rr5_1 := hide (((unhide rr4_1).set RInstr.keeps (g := w.heap.size + 1 + 1) (by omega)).later RInstr.keeps hb5); have rr5_2 := hide (((unhide rr4_2).set RInt.keeps (g := w.heap.size + 1 + 1) (by omega)).later RInt.keeps hb5); have rr5_3 := hide (((unhide rr4_3).set RStr.keeps (g := w.heap.size + 1 + 1) (by omega)).later RStr.keeps hb5); have rr5_4 := hide (((unhide HD4).set RInt.keeps (g := w.heap.size + 1 + 1) (by omega)).later RInt.keeps hb5); have HD5 := hide (RS.low RInt.lowers (B' := w.heap.size + 1 + 1 + 1) (by simp; omega) rd5); clear rd5 hb5 sz5)
    | (have hq4 := hB3; go_at_call 18; refine (unhide S5 _ (bst hB3 (by show w.heap.size ≤ w.heap.size + 1 + 1; omega) _)).mono ?_; rintro e W4 ⟨⟨V4, rfl, rd4⟩, hb4⟩; obtain ⟨A5, C5, rfl⟩ := rd4.slice; obtain ⟨hc4, hf4⟩ := bcell hb4; have hB4 := btr (bst hB3 (by show w.heap.size ≤ w.heap.size + 1 + 1; omega) _) hb4; have sz4 := hb4.size; have t4 : w.heap.size + 1 + 1 < W4.heap.size := (by simp at sz4; omega); have u4 : w.heap.size + 1 < W4.heap.size := (by omega); have s4 : w.heap.size < W4.heap.size := (by omega); have rr4_1 := hide (((unhide rr3_1).set RInstr.keeps (g := w.heap.size + 1 + 1) (by omega)).later RInstr.keeps hb4); have rr4_2 := hide (((unhide rr3_2).set RInt.keeps (g := w.heap.size + 1 + 1) (by omega)).later RInt.keeps hb4); have rr4_3 := hide (((unhide HD3).set RStr.keeps (g := w.heap.size + 1 + 1) (by omega)).later RStr.keeps hb4); have HD4 := hide (RS.low RInt.lowers (B' := w.heap.size + 1 + 1 + 1) (by simp; omega) rd4); clear rd4 hb4 sz4)
    | (have hq3 := hB2; go_at_call 19; refine (unhide S4 _ (bst (bst hB2 (by show w.heap.size ≤ w.heap.size + 1 + 1; omega) _) (by show w.heap.size ≤ w.heap.size + 1 + 1; omega) _)).mono ?_; rintro e W3 ⟨⟨V3, rfl, rd3⟩, hb3⟩; obtain ⟨A4, C4, rfl⟩ := rd3.slice; obtain ⟨hc3, hf3⟩ := bcell hb3; have hB3 := btr (bst (bst hB2 (by show w.heap.size ≤ w.heap.size + 1 + 1; omega) _) (by show w.heap.size ≤ w.heap.size + 1 + 1; omega) _) hb3; have sz3 := hb3.size; have t3 : w.heap.size + 1 + 1 < W3.heap.size := (by simp at sz3; omega); have u3 : w.heap.size + 1 < W3.heap.size := (by omega); have s3 : w.heap.size < W3.heap.size := (by omega); have rr3_1 := hide ((((unhide rr2_1).set RInstr.keeps (g := w.heap.size + 1 + 1) (by omega)).set RInstr.keeps (g := w.heap.size + 1 + 1) (by omega)).later RInstr.keeps hb3); have rr3_2 := hide ((((unhide HD2).set RInt.keeps (g := w.heap.size + 1 + 1) (by omega)).set RInt.keeps (g := w.heap.size + 1 + 1) (by omega)).later RInt.keeps hb3); have HD3 := hide (RS.low RStr.lowers (B' := w.heap.size + 1 + 1 + 1) (by simp; omega) rd3); clear rd3 hb3 sz3)
    | (have hq2 := hB1; go_at_call 18; refine (unhide S2 _ (bst hB1 (by show w.heap.size ≤ w.heap.size + 1 + 1; omega) _)).mono ?_; rintro e W2 ⟨⟨V2, rfl, rd2⟩, hb2⟩; obtain ⟨A2, C2, rfl⟩ := rd2.slice; obtain ⟨hc2, hf2⟩ := bcell hb2; have hB2 := btr (bst hB1 (by show w.heap.size ≤ w.heap.size + 1 + 1; omega) _) hb2; have sz2 := hb2.size; have t2 : w.heap.size + 1 + 1 < W2.heap.size := (by simp at sz2; omega); have u2 : w.heap.size + 1 < W2.heap.size := (by omega); have s2 : w.heap.size < W2.heap.size := (by omega); have rr2_1 := hide (((unhide HD1).set RInstr.keeps (g := w.heap.size + 1 + 1) (by omega)).later RInstr.keeps hb2); have HD2 := hide (RS.low RInt.lowers (B' := w.heap.size + 1 + 1 + 1) (by simp; omega) rd2); clear rd2 hb2 sz2)
    | (go_at_call 17; refine (unhide S1 _ (bal (bal (bal (brf w) _) _) _)).mono ?_; rintro e W1 ⟨⟨V1, rfl, rd1⟩, hb1⟩; obtain ⟨A1, C1, rfl⟩ := rd1.slice; obtain ⟨hc1, hf1⟩ := bcell hb1; have hB1 := btr (bal (bal (bal (brf w) _) _) _) hb1; have sz1 := hb1.size; have t1 : w.heap.size + 1 + 1 < W1.heap.size := (by simp at sz1; omega); have u1 : w.heap.size + 1 < W1.heap.size := (by omega); have s1 : w.heap.size < W1.heap.size := (by omega); have HD1 := hide (RS.low RInstr.lowers (B' := w.heap.size + 1 + 1 + 1) (by simp) rd1); clear rd1 hb1 sz1))
  refine bodyPost_ret (v := .agg #[.int .i64 x.slots, .slice A1 x.instrs.length C1, .slice A2 x.ins.length C2, .int .i64 x.clocks, .slice A4 x.inits.length C4, .slice A5 x.ticks.length C5, .slice A6 x.nexts.length C6, .slice A7 x.outs.length C7, .slice A8 x.checks.length C8]) (by simp [results, Try.results6, go_sem, *]) rfl ⟨⟨[.int .i64 x.slots, .slice A1 x.instrs.length C1, .slice A2 x.ins.length C2, .int .i64 x.clocks, .slice A4 x.inits.length C4, .slice A5 x.ticks.length C5, .slice A6 x.nexts.length C6, .slice A7 x.outs.length C7, .slice A8 x.checks.length C8], rfl, ?_⟩, ?_⟩
  · refine ⟨_, _, _, _, _, _, _, rfl, ?_, ?_, ?_, ?_, ?_, ?_, ?_⟩
    · refine RS.low RInstr.lowers (B := w.heap.size + 1 + 1 + 1) (by omega) ?_
      repeat refine RS.set RInstr.keeps ?_ (by omega)
      exact unhide rr7_1
    · refine RS.low RInt.lowers (B := w.heap.size + 1 + 1 + 1) (by omega) ?_
      repeat refine RS.set RInt.keeps ?_ (by omega)
      exact unhide rr7_2
    · refine RS.low RStr.lowers (B := w.heap.size + 1 + 1 + 1) (by omega) ?_
      repeat refine RS.set RStr.keeps ?_ (by omega)
      exact unhide rr7_3
    · refine RS.low RInt.lowers (B := w.heap.size + 1 + 1 + 1) (by omega) ?_
      repeat refine RS.set RInt.keeps ?_ (by omega)
      exact unhide rr7_4
    · refine RS.low RInt.lowers (B := w.heap.size + 1 + 1 + 1) (by omega) ?_
      repeat refine RS.set RInt.keeps ?_ (by omega)
      exact unhide rr7_5
    · refine RS.low RInt.lowers (B := w.heap.size + 1 + 1 + 1) (by omega) ?_
      repeat refine RS.set RInt.keeps ?_ (by omega)
      exact unhide rr7_6
    · refine RS.low RInt.lowers (B := w.heap.size + 1 + 1 + 1) (by omega) ?_
      repeat refine RS.set RInt.keeps ?_ (by omega)
      exact unhide HD7
  · repeat refine bst ?_ (by first | (simp; done) | (simp; omega)) _
    exact hB7
end Go.Proofs.Ytbpcomnneemolaa
