/- What the laws' to functions answer: a copy in new memory. -/
import Derived.Test.YtonfbnbkhpabbaaDD
import Derived.Test.YtonfbnbkhpabbaaRT14
namespace Go.Proofs.Ytonfbnbkhpabbaa
open Go.RowKit Gs
set_option linter.unusedVariables false
set_option maxRecDepth 100000
theorem info_toIntS : (Try.prog.info? 3).map (fun i => (i.zero, i.size, i.bytes)) = some (some (.int .i64 0), 1, 8) := by kernel_rfl
theorem make_toIntS (n : Nat) (hn : n ≤ 1048576) : ∃ M : Array Value, M.size = n * 1 ∧ ∀ W : World, (Instr.makeSlice 24 (.int .i64 (n : Int)) (.int .i64 (n : Int))).run Try.prog W = .ok (.slice (some ⟨W.heap.size, 0, none⟩) n n) (W.alloc (.cells M 3)) := by
  obtain ⟨i0, hi, hz0, hz1, hz2⟩ := info_parts info_toIntS
  refine ⟨_, size_madeCells #[.int .i64 0] (n * 1), fun W => ?_⟩
  have hr := run_make (P := Try.prog) W 24 3 i0 _ (by kernel_rfl) hi hz0 .i64 .i64 n n (by omega) (Int.le_refl _) (by rw [hz2]; omega) (by omega)
  rw [hr, hz1]
  simp
  rfl
set_option maxHeartbeats 1600000 in
theorem toIntS_of (xs : List Int) (v : Value) (w : World) (hl : szL (fun (_ : Int) => 0) xs ≤ 1048576) (hr : RS 1 RInt w 0 xs v) :
    Calls Try.prog 16 #[v] w fun e w' => (∃ v', e = .returned v' ∧ RS 1 RInt w' w.heap.size xs v') ∧ Below w.heap.size w w' ∧ NF w.heap.size w' := by
  have hsm := szL_sm (fun (_ : Int) => 0) xs
  obtain ⟨M, hM, hmk⟩ := make_toIntS xs.length (by omega)
  rcases hr.open with ⟨rfl, a, c, rfl⟩ | ⟨b, o, c, rfl, hc, hn, _, hcs⟩
  · have hmk0 : ∀ W : World, (Instr.makeSlice 24 (.int .i64 0) (.int .i64 0)).run Try.prog W = .ok (.slice (some ⟨W.heap.size, 0, none⟩) 0 0) (W.alloc (.cells M 3)) := hmk
    clear hsm hr hmk hl
    go_enter Try.func16, Try.ntmps16
    go_wp2
    go_loopw [4] (fun i W => i = .int .i64 0 ∧ Below w.heap.size w W ∧ NF w.heap.size W) (fun _ _ => 0)
    case atStart => exact ⟨rfl, bal (brf w) _, nf_al (nf_rf w) _ _⟩
    case round =>
      obtain ⟨rfl, hb, hnf⟩ := hrel
      have HB := hide hb
      have HNF := hide hnf
      clear hb hnf
      go_wp2
      exact bodyPost_ret (v := .slice (some ⟨w.heap.size, 0, none⟩) 0 0) (by simp [results, Try.results16, go_sem]) rfl ⟨⟨_, rfl, RS.nil _ _ _ _ _ _⟩, unhide HB, unhide HNF⟩
  · have hn2 := hn
    unfold maxLen at hn
    have HN := hide hn2
    have HC := hide hcs
    have HTP := hide (TP_made w M 3 (xs.length * 1) hM)
    clear hcs hr hM hn2
    go_enter Try.func16, Try.ntmps16
    go_wp2
    clear hmk
    go_loopw [4] (fun i W => ∃ j : Nat, j ≤ xs.length ∧ i = .int .i64 j ∧ TP W w.heap.size (xs.length * 1) ∧ NR 1 RInt W (w.heap.size + 1) w.heap.size j xs ∧ Below w.heap.size w W ∧ w.heap.size + 1 ≤ W.heap.size ∧ NF w.heap.size W) (fun i W => xs.length - (intOf i).toNat)
    case atStart => exact ⟨0, Nat.zero_le _, rfl, unhide HTP, NR.zero, bal (brf w) _, by simp, nf_al (nf_rf w) _ _⟩
    case round =>
      clear HTP
      obtain ⟨j, hj, rfl, hTP, hNR, hb, hsz, hnf⟩ := hrel
      have HNF := hide hnf
      clear hnf
      have HTP := hide hTP
      have HNR := hide hNR
      by_cases hjn : j < xs.length
      · have hx : xs[j]? = some xs[j] := List.getElem?_eq_getElem hjn
        generalize xs[j] = x at hx
        obtain ⟨u, hul, hat, hrx⟩ := unhide HC j x hx
        have st := sm_take (f := (fun (_ : Int) => 0)) hx
        have sl := sm_le (f := (fun (_ : Int) => 0)) (xs := xs) (j + 1)
        have i1 : (0 : Int) ≤ (j : Int) := by omega
        have i2 : (j : Int) < (xs.length : Int) := by omega
        obtain ⟨⟨w0, c0⟩, f0⟩ := hTP (j * 1 + 0) (by omega)
        simp only [Nat.add_zero, Nat.mul_one] at c0 f0
        obtain rfl := hrx
        have k0 := cell_later hb (hat.get (j := 0) rfl)
        simp only [Nat.add_zero, Nat.mul_one] at k0
        have HX := hide hx
        have HB := hide hb
        clear hb hat hul HC hTP hNR hx
        go_wp2
        have hN1 := NR.step RInt.keeps (u := [.int .i64 x]) (unhide HTP) (unhide HNR) (Nat.lt_succ_self _) (unhide HX) rfl rfl (by omega)
        have hT1 := (unhide HTP).set (o := j) (vs := [.int .i64 x])
        have hB1 := setK_below [.int .i64 x] (o := j) (unhide HB) (Nat.le_refl w.heap.size)
        simp only [setK, Nat.mul_one] at hN1
        simp only [setK] at hT1 hB1
        exact ⟨⟨j + 1, by omega, by go_num, hT1, hN1, hB1, by simp; omega, nf_set (unhide HNF) _ _⟩, by simp [intOf]; omega⟩
      · obtain rfl : j = xs.length := by omega
        have HB := hide hb
        clear hb hTP hNR HC
        go_wp2
        exact bodyPost_ret (v := .slice (some ⟨w.heap.size, 0, none⟩) xs.length xs.length) (by simp [results, Try.results16, go_sem]) rfl ⟨⟨_, rfl, NR.done RInt.lowers (unhide HNR) (unhide HN) (Nat.le_refl _)⟩, unhide HB, unhide HNF⟩
theorem info_toIntSS : (Try.prog.info? 24).map (fun i => (i.zero, i.size, i.bytes)) = some (some (.slice none 0 0), 1, 24) := by kernel_rfl
theorem make_toIntSS (n : Nat) (hn : n ≤ 1048576) : ∃ M : Array Value, M.size = n * 1 ∧ ∀ W : World, (Instr.makeSlice 22 (.int .i64 (n : Int)) (.int .i64 (n : Int))).run Try.prog W = .ok (.slice (some ⟨W.heap.size, 0, none⟩) n n) (W.alloc (.cells M 24)) := by
  obtain ⟨i0, hi, hz0, hz1, hz2⟩ := info_parts info_toIntSS
  refine ⟨_, size_madeCells #[.slice none 0 0] (n * 1), fun W => ?_⟩
  have hr := run_make (P := Try.prog) W 22 24 i0 _ (by kernel_rfl) hi hz0 .i64 .i64 n n (by omega) (Int.le_refl _) (by rw [hz2]; omega) (by omega)
  rw [hr, hz1]
  simp
  rfl
set_option maxHeartbeats 1600000 in
theorem toIntSS_of (xs : List (List Int)) (v : Value) (w : World) (hl : szL szIntS xs ≤ 1048576) (hr : RS 1 RIntS w 0 xs v) :
    Calls Try.prog 6 #[v] w fun e w' => (∃ v', e = .returned v' ∧ RS 1 RIntS w' w.heap.size xs v') ∧ Below w.heap.size w w' ∧ NF w.heap.size w' := by
  have hsm := szL_sm szIntS xs
  obtain ⟨M, hM, hmk⟩ := make_toIntSS xs.length (by omega)
  rcases hr.open with ⟨rfl, a, c, rfl⟩ | ⟨b, o, c, rfl, hc, hn, _, hcs⟩
  · have hmk0 : ∀ W : World, (Instr.makeSlice 22 (.int .i64 0) (.int .i64 0)).run Try.prog W = .ok (.slice (some ⟨W.heap.size, 0, none⟩) 0 0) (W.alloc (.cells M 24)) := hmk
    clear hsm hr hmk hl
    go_enter Try.func6, Try.ntmps6
    go_wp2
    go_loopw [4] (fun i W => i = .int .i64 0 ∧ Below w.heap.size w W ∧ NF w.heap.size W) (fun _ _ => 0)
    case atStart => exact ⟨rfl, bal (brf w) _, nf_al (nf_rf w) _ _⟩
    case round =>
      obtain ⟨rfl, hb, hnf⟩ := hrel
      have HB := hide hb
      have HNF := hide hnf
      clear hb hnf
      go_wp2
      exact bodyPost_ret (v := .slice (some ⟨w.heap.size, 0, none⟩) 0 0) (by simp [results, Try.results6, go_sem]) rfl ⟨⟨_, rfl, RS.nil _ _ _ _ _ _⟩, unhide HB, unhide HNF⟩
  · have hn2 := hn
    unfold maxLen at hn
    have HN := hide hn2
    have HC := hide hcs
    have HTP := hide (TP_made w M 24 (xs.length * 1) hM)
    clear hcs hr hM hn2
    go_enter Try.func6, Try.ntmps6
    go_wp2
    clear hmk
    go_loopw [4] (fun i W => ∃ j : Nat, j ≤ xs.length ∧ i = .int .i64 j ∧ TP W w.heap.size (xs.length * 1) ∧ NR 1 RIntS W (w.heap.size + 1) w.heap.size j xs ∧ Below w.heap.size w W ∧ w.heap.size + 1 ≤ W.heap.size ∧ NF w.heap.size W) (fun i W => xs.length - (intOf i).toNat)
    case atStart => exact ⟨0, Nat.zero_le _, rfl, unhide HTP, NR.zero, bal (brf w) _, by simp, nf_al (nf_rf w) _ _⟩
    case round =>
      clear HTP
      obtain ⟨j, hj, rfl, hTP, hNR, hb, hsz, hnf⟩ := hrel
      have HNF := hide hnf
      clear hnf
      have HTP := hide hTP
      have HNR := hide hNR
      by_cases hjn : j < xs.length
      · have hx : xs[j]? = some xs[j] := List.getElem?_eq_getElem hjn
        generalize xs[j] = x at hx
        obtain ⟨u, hul, hat, hrx⟩ := unhide HC j x hx
        have st := sm_take (f := szIntS) hx
        have sl := sm_le (f := szIntS) (xs := xs) (j + 1)
        have i1 : (0 : Int) ≤ (j : Int) := by omega
        have i2 : (j : Int) < (xs.length : Int) := by omega
        obtain ⟨⟨w0, c0⟩, f0⟩ := hTP (j * 1 + 0) (by omega)
        simp only [Nat.add_zero, Nat.mul_one] at c0 f0
        obtain ⟨ve, rfl, hve⟩ := hrx
        have hdf : szIntS x = szL (fun (_ : Int) => 0) x := rfl
        have PX := hide (toIntS_of x ve wr (by omega) (hve.later RInt.keeps hb))
        obtain ⟨ae, ce, rfl⟩ := hve.slice
        have k0 := cell_later hb (hat.get (j := 0) rfl)
        simp only [Nat.add_zero, Nat.mul_one] at k0
        have HX := hide hx
        have HB := hide hb
        clear hb hat hul HC hTP hNR hx hve hdf
        go_wp2_with (go_at_call 16; refine (unhide PX).mono ?_; rintro e v1 ⟨⟨u1, rfl, hr1⟩, hb1, nf1⟩; have HN1 := hide (nf_tr (unhide HNF) hb1 nf1); clear nf1; have HR1 := hide hr1; have HB1 := hide hb1; have d0 := cell_later hb1 c0; have g0 := frozen_later hb1 c0 f0; obtain ⟨A0, C0, rfl⟩ := hr1.slice; clear hb1 hr1)
        have hgs : w.heap.size + 1 ≤ wr.heap.size := by omega
        have hN1 := NR.step RIntS.keeps (u := [.slice A0 x.length C0]) ((unhide HTP).later (unhide HB1)) ((unhide HNR).later RIntS.keeps (unhide HB1)) (Nat.lt_succ_self _) (unhide HX) rfl ⟨_, rfl, RS.low RInt.lowers hgs (unhide HR1)⟩ (by omega)
        have hT1 := ((unhide HTP).later (unhide HB1)).set (o := j) (vs := [.slice A0 x.length C0])
        have hB1 := setK_below [.slice A0 x.length C0] (o := j) (btr (unhide HB) (unhide HB1)) (Nat.le_refl w.heap.size)
        have hS1 := (unhide HB1).size
        have hF1 := nf_setK [.slice A0 x.length C0] (o := j) (g := w.heap.size) (unhide HN1)
        simp only [setK, Nat.mul_one] at hN1
        simp only [setK] at hT1 hB1 hF1
        exact ⟨⟨j + 1, by omega, by go_num, hT1, hN1, hB1, by simp; omega, hF1⟩, by simp [intOf]; omega⟩
      · obtain rfl : j = xs.length := by omega
        have HB := hide hb
        clear hb hTP hNR HC
        go_wp2
        exact bodyPost_ret (v := .slice (some ⟨w.heap.size, 0, none⟩) xs.length xs.length) (by simp [results, Try.results6, go_sem]) rfl ⟨⟨_, rfl, NR.done RIntS.lowers (unhide HNR) (unhide HN) (Nat.le_refl _)⟩, unhide HB, unhide HNF⟩
end Go.Proofs.Ytonfbnbkhpabbaa
