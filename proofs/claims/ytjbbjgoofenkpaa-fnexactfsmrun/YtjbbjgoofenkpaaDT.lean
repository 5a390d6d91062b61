/- What the laws' to functions answer: a copy in new memory. -/
import Derived.Test.YtjbbjgoofenkpaaDD
import Derived.Test.YtjbbjgoofenkpaaRT14
namespace Go.Proofs.Ytjbbjgoofenkpaa
open Go.RowKit Gs
set_option linter.unusedVariables false
set_option maxRecDepth 100000
theorem info_toStringS : (Try.prog.info? 9).map (fun i => (i.zero, i.size, i.bytes)) = some (some (.string ByteArray.empty), 1, 16) := by kernel_rfl
theorem make_toStringS (n : Nat) (hn : n ≤ 1048576) : ∃ M : Array Value, M.size = n * 1 ∧ ∀ W : World, (Instr.makeSlice 22 (.int .i64 (n : Int)) (.int .i64 (n : Int))).run Try.prog W = .ok (.slice (some ⟨W.heap.size, 0, none⟩) n n) (W.alloc (.cells M 9)) := by
  obtain ⟨i0, hi, hz0, hz1, hz2⟩ := info_parts info_toStringS
  refine ⟨_, size_madeCells #[.string ByteArray.empty] (n * 1), fun W => ?_⟩
  have hr := run_make (P := Try.prog) W 22 9 i0 _ (by kernel_rfl) hi hz0 .i64 .i64 n n (by omega) (Int.le_refl _) (by rw [hz2]; omega) (by omega)
  rw [hr, hz1]
  simp
  rfl
set_option maxHeartbeats 1600000 in
theorem toStringS_of (xs : List ByteArray) (v : Value) (w : World) (hl : szL (fun (s : ByteArray) => s.size) xs ≤ 1048576) (hr : RS 1 RStr w 0 xs v) :
    Calls Try.prog 20 #[v] w fun e w' => (∃ v', e = .returned v' ∧ RS 1 RStr w' w.heap.size xs v') ∧ Below w.heap.size w w' ∧ NF w.heap.size w' := by
  have hsm := szL_sm (fun (s : ByteArray) => s.size) xs
  obtain ⟨M, hM, hmk⟩ := make_toStringS xs.length (by omega)
  rcases hr.open with ⟨rfl, a, c, rfl⟩ | ⟨b, o, c, rfl, hc, hn, _, hcs⟩
  · have hmk0 : ∀ W : World, (Instr.makeSlice 22 (.int .i64 0) (.int .i64 0)).run Try.prog W = .ok (.slice (some ⟨W.heap.size, 0, none⟩) 0 0) (W.alloc (.cells M 9)) := hmk
    clear hsm hr hmk hl
    go_enter Try.func20, Try.ntmps20
    go_wp2
    go_loopw [4] (fun i W => i = .int .i64 0 ∧ Below w.heap.size w W ∧ NF w.heap.size W) (fun _ _ => 0)
    case atStart => exact ⟨rfl, bal (brf w) _, nf_al (nf_rf w) _ _⟩
    case round =>
      obtain ⟨rfl, hb, hnf⟩ := hrel
      have HB := hide hb
      have HNF := hide hnf
      clear hb hnf
      go_wp2
      exact bodyPost_ret (v := .slice (some ⟨w.heap.size, 0, none⟩) 0 0) (by simp [results, Try.results20, go_sem]) rfl ⟨⟨_, rfl, RS.nil _ _ _ _ _ _⟩, unhide HB, unhide HNF⟩
  · have hn2 := hn
    unfold maxLen at hn
    have HN := hide hn2
    have HC := hide hcs
    have HTP := hide (TP_made w M 9 (xs.length * 1) hM)
    clear hcs hr hM hn2
    go_enter Try.func20, Try.ntmps20
    go_wp2
    clear hmk
    go_loopw [4] (fun i W => ∃ j : Nat, j ≤ xs.length ∧ i = .int .i64 j ∧ TP W w.heap.size (xs.length * 1) ∧ NR 1 RStr W (w.heap.size + 1) w.heap.size j xs ∧ Below w.heap.size w W ∧ w.heap.size + 1 ≤ W.heap.size ∧ NF w.heap.size W) (fun i W => xs.length - (intOf i).toNat)
    case atStart => exact ⟨0, Nat.zero_le _, rfl, unhide HTP, NR.zero, bal (brf w) _, by simp, nf_al (nf_rf w) _ _⟩
    case round =>
      clear HTP
      obtain ⟨j, hj, rfl, hTP, hNR, hb, hsz, hnf⟩ := hrel
      have HNF := hide hnf
      clear hnf
      have HTP := hide hTP
      have HNR := hide hNR
      by_cases hjn : j < xs.length
      · have hx : xs[j]? = some xs[j] := List.getElem?_eq_getElem hjn
        generalize xs[j] = x at hx
        obtain ⟨u, hul, hat, hrx⟩ := unhide HC j x hx
        have st := sm_take (f := (fun (s : ByteArray) => s.size)) hx
        have sl := sm_le (f := (fun (s : ByteArray) => s.size)) (xs := xs) (j + 1)
        have i1 : (0 : Int) ≤ (j : Int) := by omega
        have i2 : (j : Int) < (xs.length : Int) := by omega
        obtain ⟨⟨w0, c0⟩, f0⟩ := hTP (j * 1 + 0) (by omega)
        simp only [Nat.add_zero, Nat.mul_one] at c0 f0
        obtain ⟨rfl, hts⟩ := hrx
        have k0 := cell_later hb (hat.get (j := 0) rfl)
        simp only [Nat.add_zero, Nat.mul_one] at k0
        have HX := hide hx
        have HB := hide hb
        clear hb hat hul HC hTP hNR hx
        go_wp2
        have hN1 := NR.step RStr.keeps (u := [.string x]) (unhide HTP) (unhide HNR) (Nat.lt_succ_self _) (unhide HX) rfl ⟨rfl, hts⟩ (by omega)
        have hT1 := (unhide HTP).set (o := j) (vs := [.string x])
        have hB1 := setK_below [.string x] (o := j) (unhide HB) (Nat.le_refl w.heap.size)
        simp only [setK, Nat.mul_one] at hN1
        simp only [setK] at hT1 hB1
        exact ⟨⟨j + 1, by omega, by go_num, hT1, hN1, hB1, by simp; omega, nf_set (unhide HNF) _ _⟩, by simp [intOf]; omega⟩
      · obtain rfl : j = xs.length := by omega
        have HB := hide hb
        clear hb hTP hNR HC
        go_wp2
        exact bodyPost_ret (v := .slice (some ⟨w.heap.size, 0, none⟩) xs.length xs.length) (by simp [results, Try.results20, go_sem]) rfl ⟨⟨_, rfl, NR.done RStr.lowers (unhide HNR) (unhide HN) (Nat.le_refl _)⟩, unhide HB, unhide HNF⟩
theorem info_toIntS : (Try.prog.info? 3).map (fun i => (i.zero, i.size, i.bytes)) = some (some (.int .i64 0), 1, 8) := by kernel_rfl
theorem make_toIntS (n : Nat) (hn : n ≤ 1048576) : ∃ M : Array Value, M.size = n * 1 ∧ ∀ W : World, (Instr.makeSlice 27 (.int .i64 (n : Int)) (.int .i64 (n : Int))).run Try.prog W = .ok (.slice (some ⟨W.heap.size, 0, none⟩) n n) (W.alloc (.cells M 3)) := by
  obtain ⟨i0, hi, hz0, hz1, hz2⟩ := info_parts info_toIntS
  refine ⟨_, size_madeCells #[.int .i64 0] (n * 1), fun W => ?_⟩
  have hr := run_make (P := Try.prog) W 27 3 i0 _ (by kernel_rfl) hi hz0 .i64 .i64 n n (by omega) (Int.le_refl _) (by rw [hz2]; omega) (by omega)
  rw [hr, hz1]
  simp
  rfl
set_option maxHeartbeats 1600000 in
theorem toIntS_of (xs : List Int) (v : Value) (w : World) (hl : szL (fun (_ : Int) => 0) xs ≤ 1048576) (hr : RS 1 RInt w 0 xs v) :
    Calls Try.prog 7 #[v] w fun e w' => (∃ v', e = .returned v' ∧ RS 1 RInt w' w.heap.size xs v') ∧ Below w.heap.size w w' ∧ NF w.heap.size w' := by
  have hsm := szL_sm (fun (_ : Int) => 0) xs
  obtain ⟨M, hM, hmk⟩ := make_toIntS xs.length (by omega)
  rcases hr.open with ⟨rfl, a, c, rfl⟩ | ⟨b, o, c, rfl, hc, hn, _, hcs⟩
  · have hmk0 : ∀ W : World, (Instr.makeSlice 27 (.int .i64 0) (.int .i64 0)).run Try.prog W = .ok (.slice (some ⟨W.heap.size, 0, none⟩) 0 0) (W.alloc (.cells M 3)) := hmk
    clear hsm hr hmk hl
    go_enter Try.func7, Try.ntmps7
    go_wp2
    go_loopw [4] (fun i W => i = .int .i64 0 ∧ Below w.heap.size w W ∧ NF w.heap.size W) (fun _ _ => 0)
    case atStart => exact ⟨rfl, bal (brf w) _, nf_al (nf_rf w) _ _⟩
    case round =>
      obtain ⟨rfl, hb, hnf⟩ := hrel
      have HB := hide hb
      have HNF := hide hnf
      clear hb hnf
      go_wp2
      exact bodyPost_ret (v := .slice (some ⟨w.heap.size, 0, none⟩) 0 0) (by simp [results, Try.results7, go_sem]) rfl ⟨⟨_, rfl, RS.nil _ _ _ _ _ _⟩, unhide HB, unhide HNF⟩
  · have hn2 := hn
    unfold maxLen at hn
    have HN := hide hn2
    have HC := hide hcs
    have HTP := hide (TP_made w M 3 (xs.length * 1) hM)
    clear hcs hr hM hn2
    go_enter Try.func7, Try.ntmps7
    go_wp2
    clear hmk
    go_loopw [4] (fun i W => ∃ j : Nat, j ≤ xs.length ∧ i = .int .i64 j ∧ TP W w.heap.size (xs.length * 1) ∧ NR 1 RInt W (w.heap.size + 1) w.heap.size j xs ∧ Below w.heap.size w W ∧ w.heap.size + 1 ≤ W.heap.size ∧ NF w.heap.size W) (fun i W => xs.length - (intOf i).toNat)
    case atStart => exact ⟨0, Nat.zero_le _, rfl, unhide HTP, NR.zero, bal (brf w) _, by simp, nf_al (nf_rf w) _ _⟩
    case round =>
      clear HTP
      obtain ⟨j, hj, rfl, hTP, hNR, hb, hsz, hnf⟩ := hrel
      have HNF := hide hnf
      clear hnf
      have HTP := hide hTP
      have HNR := hide hNR
      by_cases hjn : j < xs.length
      · have hx : xs[j]? = some xs[j] := List.getElem?_eq_getElem hjn
        generalize xs[j] = x at hx
        obtain ⟨u, hul, hat, hrx⟩ := unhide HC j x hx
        have st := sm_take (f := (fun (_ : Int) => 0)) hx
        have sl := sm_le (f := (fun (_ : Int) => 0)) (xs := xs) (j + 1)
        have i1 : (0 : Int) ≤ (j : Int) := by omega
        have i2 : (j : Int) < (xs.length : Int) := by omega
        obtain ⟨⟨w0, c0⟩, f0⟩ := hTP (j * 1 + 0) (by omega)
        simp only [Nat.add_zero, Nat.mul_one] at c0 f0
        obtain rfl := hrx
        have k0 := cell_later hb (hat.get (j := 0) rfl)
        simp only [Nat.add_zero, Nat.mul_one] at k0
        have HX := hide hx
        have HB := hide hb
        clear hb hat hul HC hTP hNR hx
        go_wp2
        have hN1 := NR.step RInt.keeps (u := [.int .i64 x]) (unhide HTP) (unhide HNR) (Nat.lt_succ_self _) (unhide HX) rfl rfl (by omega)
        have hT1 := (unhide HTP).set (o := j) (vs := [.int .i64 x])
        have hB1 := setK_below [.int .i64 x] (o := j) (unhide HB) (Nat.le_refl w.heap.size)
        simp only [setK, Nat.mul_one] at hN1
        simp only [setK] at hT1 hB1
        exact ⟨⟨j + 1, by omega, by go_num, hT1, hN1, hB1, by simp; omega, nf_set (unhide HNF) _ _⟩, by simp [intOf]; omega⟩
      · obtain rfl : j = xs.length := by omega
        have HB := hide hb
        clear hb hTP hNR HC
        go_wp2
        exact bodyPost_ret (v := .slice (some ⟨w.heap.size, 0, none⟩) xs.length xs.length) (by simp [results, Try.results7, go_sem]) rfl ⟨⟨_, rfl, NR.done RInt.lowers (unhide HNR) (unhide HN) (Nat.le_refl _)⟩, unhide HB, unhide HNF⟩
theorem info_toIntSS : (Try.prog.info? 27).map (fun i => (i.zero, i.size, i.bytes)) = some (some (.slice none 0 0), 1, 24) := by kernel_rfl
theorem make_toIntSS (n : Nat) (hn : n ≤ 1048576) : ∃ M : Array Value, M.size = n * 1 ∧ ∀ W : World, (Instr.makeSlice 23 (.int .i64 (n : Int)) (.int .i64 (n : Int))).run Try.prog W = .ok (.slice (some ⟨W.heap.size, 0, none⟩) n n) (W.alloc (.cells M 27)) := by
  obtain ⟨i0, hi, hz0, hz1, hz2⟩ := info_parts info_toIntSS
  refine ⟨_, size_madeCells #[.slice none 0 0] (n * 1), fun W => ?_⟩
  have hr := run_make (P := Try.prog) W 23 27 i0 _ (by kernel_rfl) hi hz0 .i64 .i64 n n (by omega) (Int.le_refl _) (by rw [hz2]; omega) (by omega)
  rw [hr, hz1]
  simp
  rfl
set_option maxHeartbeats 1600000 in
theorem toIntSS_of (xs : List (List Int)) (v : Value) (w : World) (hl : szL szIntS xs ≤ 1048576) (hr : RS 1 RIntS w 0 xs v) :
    Calls Try.prog 21 #[v] w fun e w' => (∃ v', e = .returned v' ∧ RS 1 RIntS w' w.heap.size xs v') ∧ Below w.heap.size w w' ∧ NF w.heap.size w' := by
  have hsm := szL_sm szIntS xs
  obtain ⟨M, hM, hmk⟩ := make_toIntSS xs.length (by omega)
  rcases hr.open with ⟨rfl, a, c, rfl⟩ | ⟨b, o, c, rfl, hc, hn, _, hcs⟩
  · have hmk0 : ∀ W : World, (Instr.makeSlice 23 (.int .i64 0) (.int .i64 0)).run Try.prog W = .ok (.slice (some ⟨W.heap.size, 0, none⟩) 0 0) (W.alloc (.cells M 27)) := hmk
    clear hsm hr hmk hl
    go_enter Try.func21, Try.ntmps21
    go_wp2
    go_loopw [4] (fun i W => i = .int .i64 0 ∧ Below w.heap.size w W ∧ NF w.heap.size W) (fun _ _ => 0)
    case atStart => exact ⟨rfl, bal (brf w) _, nf_al (nf_rf w) _ _⟩
    case round =>
      obtain ⟨rfl, hb, hnf⟩ := hrel
      have HB := hide hb
      have HNF := hide hnf
      clear hb hnf
      go_wp2
      exact bodyPost_ret (v := .slice (some ⟨w.heap.size, 0, none⟩) 0 0) (by simp [results, Try.results21, go_sem]) rfl ⟨⟨_, rfl, RS.nil _ _ _ _ _ _⟩, unhide HB, unhide HNF⟩
  · have hn2 := hn
    unfold maxLen at hn
    have HN := hide hn2
    have HC := hide hcs
    have HTP := hide (TP_made w M 27 (xs.length * 1) hM)
    clear hcs hr hM hn2
    go_enter Try.func21, Try.ntmps21
    go_wp2
    clear hmk
    go_loopw [4] (fun i W => ∃ j : Nat, j ≤ xs.length ∧ i = .int .i64 j ∧ TP W w.heap.size (xs.length * 1) ∧ NR 1 RIntS W (w.heap.size + 1) w.heap.size j xs ∧ Below w.heap.size w W ∧ w.heap.size + 1 ≤ W.heap.size ∧ NF w.heap.size W) (fun i W => xs.length - (intOf i).toNat)
    case atStart => exact ⟨0, Nat.zero_le _, rfl, unhide HTP, NR.zero, bal (brf w) _, by simp, nf_al (nf_rf w) _ _⟩
    case round =>
      clear HTP
      obtain ⟨j, hj, rfl, hTP, hNR, hb, hsz, hnf⟩ := hrel
      have HNF := hide hnf
      clear hnf
      have HTP := hide hTP
      have HNR := hide hNR
      by_cases hjn : j < xs.length
      · have hx : xs[j]? = some xs[j] := List.getElem?_eq_getElem hjn
        generalize xs[j] = x at hx
        obtain ⟨u, hul, hat, hrx⟩ := unhide HC j x hx
        have st := sm_take (f := szIntS) hx
        have sl := sm_le (f := szIntS) (xs := xs) (j + 1)
        have i1 : (0 : Int) ≤ (j : Int) := by omega
        have i2 : (j : Int) < (xs.length : Int) := by omega
        obtain ⟨⟨w0, c0⟩, f0⟩ := hTP (j * 1 + 0) (by omega)
        simp only [Nat.add_zero, Nat.mul_one] at c0 f0
        obtain ⟨ve, rfl, hve⟩ := hrx
        have hdf : szIntS x = szL (fun (_ : Int) => 0) x := rfl
        have PX := hide (toIntS_of x ve wr (by omega) (hve.later RInt.keeps hb))
        obtain ⟨ae, ce, rfl⟩ := hve.slice
        have k0 := cell_later hb (hat.get (j := 0) rfl)
        simp only [Nat.add_zero, Nat.mul_one] at k0
        have HX := hide hx
        have HB := hide hb
        clear hb hat hul HC hTP hNR hx hve hdf
        go_wp2_with (go_at_call 7; refine (unhide PX).mono ?_; rintro e v1 ⟨⟨u1, rfl, hr1⟩, hb1, nf1⟩; have HN1 := hide (nf_tr (unhide HNF) hb1 nf1); clear nf1; have HR1 := hide hr1; have HB1 := hide hb1; have d0 := cell_later hb1 c0; have g0 := frozen_later hb1 c0 f0; obtain ⟨A0, C0, rfl⟩ := hr1.slice; clear hb1 hr1)
        have hgs : w.heap.size + 1 ≤ wr.heap.size := by omega
        have hN1 := NR.step RIntS.keeps (u := [.slice A0 x.length C0]) ((unhide HTP).later (unhide HB1)) ((unhide HNR).later RIntS.keeps (unhide HB1)) (Nat.lt_succ_self _) (unhide HX) rfl ⟨_, rfl, RS.low RInt.lowers hgs (unhide HR1)⟩ (by omega)
        have hT1 := ((unhide HTP).later (unhide HB1)).set (o := j) (vs := [.slice A0 x.length C0])
        have hB1 := setK_below [.slice A0 x.length C0] (o := j) (btr (unhide HB) (unhide HB1)) (Nat.le_refl w.heap.size)
        have hS1 := (unhide HB1).size
        have hF1 := nf_setK [.slice A0 x.length C0] (o := j) (g := w.heap.size) (unhide HN1)
        simp only [setK, Nat.mul_one] at hN1
        simp only [setK] at hT1 hB1 hF1
        exact ⟨⟨j + 1, by omega, by go_num, hT1, hN1, hB1, by simp; omega, hF1⟩, by simp [intOf]; omega⟩
      · obtain rfl : j = xs.length := by omega
        have HB := hide hb
        clear hb hTP hNR HC
        go_wp2
        exact bodyPost_ret (v := .slice (some ⟨w.heap.size, 0, none⟩) xs.length xs.length) (by simp [results, Try.results21, go_sem]) rfl ⟨⟨_, rfl, NR.done RIntS.lowers (unhide HNR) (unhide HN) (Nat.le_refl _)⟩, unhide HB, unhide HNF⟩
theorem info_toStringSS : (Try.prog.info? 22).map (fun i => (i.zero, i.size, i.bytes)) = some (some (.slice none 0 0), 1, 24) := by kernel_rfl
theorem make_toStringSS (n : Nat) (hn : n ≤ 1048576) : ∃ M : Array Value, M.size = n * 1 ∧ ∀ W : World, (Instr.makeSlice 24 (.int .i64 (n : Int)) (.int .i64 (n : Int))).run Try.prog W = .ok (.slice (some ⟨W.heap.size, 0, none⟩) n n) (W.alloc (.cells M 22)) := by
  obtain ⟨i0, hi, hz0, hz1, hz2⟩ := info_parts info_toStringSS
  refine ⟨_, size_madeCells #[.slice none 0 0] (n * 1), fun W => ?_⟩
  have hr := run_make (P := Try.prog) W 24 22 i0 _ (by kernel_rfl) hi hz0 .i64 .i64 n n (by omega) (Int.le_refl _) (by rw [hz2]; omega) (by omega)
  rw [hr, hz1]
  simp
  rfl
set_option maxHeartbeats 1600000 in
theorem toStringSS_of (xs : List (List ByteArray)) (v : Value) (w : World) (hl : szL szStringS xs ≤ 1048576) (hr : RS 1 RStringS w 0 xs v) :
    Calls Try.prog 22 #[v] w fun e w' => (∃ v', e = .returned v' ∧ RS 1 RStringS w' w.heap.size xs v') ∧ Below w.heap.size w w' ∧ NF w.heap.size w' := by
  have hsm := szL_sm szStringS xs
  obtain ⟨M, hM, hmk⟩ := make_toStringSS xs.length (by omega)
  rcases hr.open with ⟨rfl, a, c, rfl⟩ | ⟨b, o, c, rfl, hc, hn, _, hcs⟩
  · have hmk0 : ∀ W : World, (Instr.makeSlice 24 (.int .i64 0) (.int .i64 0)).run Try.prog W = .ok (.slice (some ⟨W.heap.size, 0, none⟩) 0 0) (W.alloc (.cells M 22)) := hmk
    clear hsm hr hmk hl
    go_enter Try.func22, Try.ntmps22
    go_wp2
    go_loopw [4] (fun i W => i = .int .i64 0 ∧ Below w.heap.size w W ∧ NF w.heap.size W) (fun _ _ => 0)
    case atStart => exact ⟨rfl, bal (brf w) _, nf_al (nf_rf w) _ _⟩
    case round =>
      obtain ⟨rfl, hb, hnf⟩ := hrel
      have HB := hide hb
      have HNF := hide hnf
      clear hb hnf
      go_wp2
      exact bodyPost_ret (v := .slice (some ⟨w.heap.size, 0, none⟩) 0 0) (by simp [results, Try.results22, go_sem]) rfl ⟨⟨_, rfl, RS.nil _ _ _ _ _ _⟩, unhide HB, unhide HNF⟩
  · have hn2 := hn
    unfold maxLen at hn
    have HN := hide hn2
    have HC := hide hcs
    have HTP := hide (TP_made w M 22 (xs.length * 1) hM)
    clear hcs hr hM hn2
    go_enter Try.func22, Try.ntmps22
    go_wp2
    clear hmk
    go_loopw [4] (fun i W => ∃ j : Nat, j ≤ xs.length ∧ i = .int .i64 j ∧ TP W w.heap.size (xs.length * 1) ∧ NR 1 RStringS W (w.heap.size + 1) w.heap.size j xs ∧ Below w.heap.size w W ∧ w.heap.size + 1 ≤ W.heap.size ∧ NF w.heap.size W) (fun i W => xs.length - (intOf i).toNat)
    case atStart => exact ⟨0, Nat.zero_le _, rfl, unhide HTP, NR.zero, bal (brf w) _, by simp, nf_al (nf_rf w) _ _⟩
    case round =>
      clear HTP
      obtain ⟨j, hj, rfl, hTP, hNR, hb, hsz, hnf⟩ := hrel
      have HNF := hide hnf
      clear hnf
      have HTP := hide hTP
      have HNR := hide hNR
      by_cases hjn : j < xs.length
      · have hx : xs[j]? = some xs[j] := List.getElem?_eq_getElem hjn
        generalize xs[j] = x at hx
        obtain ⟨u, hul, hat, hrx⟩ := unhide HC j x hx
        have st := sm_take (f := szStringS) hx
        have sl := sm_le (f := szStringS) (xs := xs) (j + 1)
        have i1 : (0 : Int) ≤ (j : Int) := by omega
        have i2 : (j : Int) < (xs.length : Int) := by omega
        obtain ⟨⟨w0, c0⟩, f0⟩ := hTP (j * 1 + 0) (by omega)
        simp only [Nat.add_zero, Nat.mul_one] at c0 f0
        obtain ⟨ve, rfl, hve⟩ := hrx
        have hdf : szStringS x = szL (fun (s : ByteArray) => s.size) x := rfl
        have PX := hide (toStringS_of x ve wr (by omega) (hve.later RStr.keeps hb))
        obtain ⟨ae, ce, rfl⟩ := hve.slice
        have k0 := cell_later hb (hat.get (j := 0) rfl)
        simp only [Nat.add_zero, Nat.mul_one] at k0
        have HX := hide hx
        have HB := hide hb
        clear hb hat hul HC hTP hNR hx hve hdf
        go_wp2_with (go_at_call 20; refine (unhide PX).mono ?_; rintro e v1 ⟨⟨u1, rfl, hr1⟩, hb1, nf1⟩; have HN1 := hide (nf_tr (unhide HNF) hb1 nf1); clear nf1; have HR1 := hide hr1; have HB1 := hide hb1; have d0 := cell_later hb1 c0; have g0 := frozen_later hb1 c0 f0; obtain ⟨A0, C0, rfl⟩ := hr1.slice; clear hb1 hr1)
        have hgs : w.heap.size + 1 ≤ wr.heap.size := by omega
        have hN1 := NR.step RStringS.keeps (u := [.slice A0 x.length C0]) ((unhide HTP).later (unhide HB1)) ((unhide HNR).later RStringS.keeps (unhide HB1)) (Nat.lt_succ_self _) (unhide HX) rfl ⟨_, rfl, RS.low RStr.lowers hgs (unhide HR1)⟩ (by omega)
        have hT1 := ((unhide HTP).later (unhide HB1)).set (o := j) (vs := [.slice A0 x.length C0])
        have hB1 := setK_below [.slice A0 x.length C0] (o := j) (btr (unhide HB) (unhide HB1)) (Nat.le_refl w.heap.size)
        have hS1 := (unhide HB1).size
        have hF1 := nf_setK [.slice A0 x.length C0] (o := j) (g := w.heap.size) (unhide HN1)
        simp only [setK, Nat.mul_one] at hN1
        simp only [setK] at hT1 hB1 hF1
        exact ⟨⟨j + 1, by omega, by go_num, hT1, hN1, hB1, by simp; omega, hF1⟩, by simp [intOf]; omega⟩
      · obtain rfl : j = xs.length := by omega
        have HB := hide hb
        clear hb hTP hNR HC
        go_wp2
        exact bodyPost_ret (v := .slice (some ⟨w.heap.size, 0, none⟩) xs.length xs.length) (by simp [results, Try.results22, go_sem]) rfl ⟨⟨_, rfl, NR.done RStringS.lowers (unhide HNR) (unhide HN) (Nat.le_refl _)⟩, unhide HB, unhide HNF⟩
set_option maxHeartbeats 1600000 in
theorem toFsm_of (x : Fsm) (u : List Value) (w : World) (hl : szFsm x ≤ 1048576) (hr : RFsm w 0 x u) :
    Calls Try.prog 6 #[.agg u.toArray] w fun e w' => (∃ u', e = .returned (.agg u'.toArray) ∧ RFsm w' w.heap.size x u') ∧ Below w.heap.size w w' ∧ NF w.heap.size w' := by
  have hsz : szFsm x = szL (fun (s : ByteArray) => s.size) x.states + szL szIntS x.next + szL szStringS x.outs := rfl
  obtain ⟨v2, v3, v4, rfl, r2, r3, r4⟩ := hr
  have S2 := hide (fun (W : World) (hb : Below w.heap.size w W) => toStringS_of x.states v2 W (by omega) (r2.later RStr.keeps hb))
  obtain ⟨a2, c2, rfl⟩ := r2.slice
  have S3 := hide (fun (W : World) (hb : Below w.heap.size w W) => toIntSS_of x.next v3 W (by omega) (r3.later RIntS.keeps hb))
  obtain ⟨a3, c3, rfl⟩ := r3.slice
  have S4 := hide (fun (W : World) (hb : Below w.heap.size w W) => toStringSS_of x.outs v4 W (by omega) (r4.later RStringS.keeps hb))
  obtain ⟨a4, c4, rfl⟩ := r4.slice
  clear r2 r3 r4
  clear hsz hl
  go_enter Try.func6, Try.ntmps6
  go_wp2_with (first
    | (have hq3 := hB2; go_at_call 22; refine (unhide S4 _ (bst hB2 (by show w.heap.size ≤ w.heap.size + 1 + 1; omega) _)).mono ?_; rintro e W3 ⟨⟨V3, rfl, rd3⟩, hb3, nf3⟩; have HF3 := hide (nf_tr (nf_set (unhide HF2) _ _) hb3 nf3); clear nf3; obtain ⟨A4, C4, rfl⟩ := rd3.slice; obtain ⟨hc3, hf3⟩ := bcell hb3; have hB3 := btr (bst hB2 (by show w.heap.size ≤ w.heap.size + 1 + 1; omega) _) hb3; have sz3 := hb3.size; have t3 : w.heap.size + 1 + 1 < W3.heap.size := (by simp at sz3; omega); have u3 : w.heap.size + 1 < W3.heap.size := (by omega); have s3 : w.heap.size < W3.heap.size := (by omega); have rr3_1 := hide (((unhide rr2_1).set RStr.keeps (g := w.heap.size + 1 + 1) (by omega)).later RStr.keeps hb3); have rr3_2 := hide (((unhide HD2).set RIntS.keeps (g := w.heap.size + 1 + 1) (by omega)).later RIntS.keeps hb3); have HD3 := hide (RS.low RStringS.lowers (B' := w.heap.size + 1 + 1 + 1) (by simp; omega) rd3); clear rd3 hb3 sz3)
    | (have hq2 := hB1; go_at_call 21; refine (unhide S3 _ (bst hB1 (by show w.heap.size ≤ w.heap.size + 1 + 1; omega) _)).mono ?_; rintro e W2 ⟨⟨V2, rfl, rd2⟩, hb2, nf2⟩; have HF2 := hide (nf_tr (nf_set (unhide HF1) _ _) hb2 nf2); clear nf2; obtain ⟨A3, C3, rfl⟩ := rd2.slice; obtain ⟨hc2, hf2⟩ := bcell hb2; have hB2 := btr (bst hB1 (by show w.heap.size ≤ w.heap.size + 1 + 1; omega) _) hb2; have sz2 := hb2.size; have t2 : w.heap.size + 1 + 1 < W2.heap.size := (by simp at sz2; omega); have u2 : w.heap.size + 1 < W2.heap.size := (by omega); have s2 : w.heap.size < W2.heap.size := (by omega); have rr2_1 := hide (((unhide HD1).set RStr.keeps (g := w.heap.size + 1 + 1) (by omega)).later RStr.keeps hb2); have HD2 := hide (RS.low RIntS.lowers (B' := w.heap.size + 1 + 1 + 1) (by simp; omega) rd2); clear rd2 hb2 sz2)
    | (go_at_call 20; refine (unhide S2 _ (bal (bal (bal (brf w) _) _) _)).mono ?_; rintro e W1 ⟨⟨V1, rfl, rd1⟩, hb1, nf1⟩; have HF1 := hide (nf_tr (nf_al (nf_al (nf_al (nf_rf w) _ _) _ _) _ _) hb1 nf1); clear nf1; obtain ⟨A2, C2, rfl⟩ := rd1.slice; obtain ⟨hc1, hf1⟩ := bcell hb1; have hB1 := btr (bal (bal (bal (brf w) _) _) _) hb1; have sz1 := hb1.size; have t1 : w.heap.size + 1 + 1 < W1.heap.size := (by simp at sz1; omega); have u1 : w.heap.size + 1 < W1.heap.size := (by omega); have s1 : w.heap.size < W1.heap.size := (by omega); have HD1 := hide (RS.low RStr.lowers (B' := w.heap.size + 1 + 1 + 1) (by simp) rd1); clear rd1 hb1 sz1))
  refine bodyPost_ret (v := .agg #[.int .i64 x.ins, .int .i64 x.outBits, .slice A2 x.states.length C2, .slice A3 x.next.length C3, .slice A4 x.outs.length C4]) (by simp [results, Try.results6, go_sem, *]) rfl ⟨⟨[.int .i64 x.ins, .int .i64 x.outBits, .slice A2 x.states.length C2, .slice A3 x.next.length C3, .slice A4 x.outs.length C4], rfl, ?_⟩, ?_, ?_⟩
  · refine ⟨_, _, _, rfl, ?_, ?_, ?_⟩
    · refine RS.low RStr.lowers (B := w.heap.size + 1 + 1 + 1) (by omega) ?_
      repeat refine RS.set RStr.keeps ?_ (by omega)
      exact unhide rr3_1
    · refine RS.low RIntS.lowers (B := w.heap.size + 1 + 1 + 1) (by omega) ?_
      repeat refine RS.set RIntS.keeps ?_ (by omega)
      exact unhide rr3_2
    · refine RS.low RStringS.lowers (B := w.heap.size + 1 + 1 + 1) (by omega) ?_
      repeat refine RS.set RStringS.keeps ?_ (by omega)
      exact unhide HD3
  · repeat refine bst ?_ (by first | (simp; done) | (simp; omega)) _
    exact hB3
  · repeat refine nf_set ?_ _ _
    exact unhide HF3
end Go.Proofs.Ytjbbjgoofenkpaa
