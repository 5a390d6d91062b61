/- What the laws' sz functions answer. -/
import Derived.Test.YtbpcomnneemolaaDD
namespace Go.Proofs.Ytbpcomnneemolaa
open Go.RowKit Gs
set_option linter.unusedVariables false
set_option maxRecDepth 100000
theorem below_step {w W V : World} (h : Below w.heap.size w W) (hb : Below W.heap.size W V) : Below w.heap.size w V := btr h hb
set_option maxHeartbeats 1600000 in
theorem szInstr_of (x : Instr) (u : List Value) (w : World) (left : Nat) (hl : left ≤ 1048576) (hr : RInstr w 0 x u) :
    Calls Try.prog 28 #[.agg u.toArray, .int .i64 left] w fun e w' => e = .returned (.int .i64 (szR (szInstr x) left)) ∧ Below w.heap.size w w' := by
  obtain ⟨rfl, b_bits⟩ := hr
  unfold maxLen at b_bits
  have hsz : szInstr x = x.bits.size := rfl
  generalize szInstr x = total at *
  by_cases h0 : left < x.bits.size
  · have HF : Hid (szR total left = -1) := hide (szR_lt (by omega))
    have q0 : (left : Int) - (x.bits.size : Int) < 0 := by omega
    clear hsz
    go_enter Try.func28, Try.ntmps28
    go_wp2
    exact bodyPost_ret (v := .int .i64 (-1)) (by simp [results, Try.results28, go_sem]) rfl ⟨by rw [unhide HF], bal (brf w) _⟩
  · obtain ⟨l0, e0⟩ : ∃ l0, l0 + x.bits.size = left := ⟨left - x.bits.size, by omega⟩
    have q0 : (left : Int) - (x.bits.size : Int) = (l0 : Int) := by omega
    have HF : Hid (szR total left = (l0 : Int)) := hide (by rw [szR_le (by omega)]; omega)
    clear hsz
    go_enter Try.func28, Try.ntmps28
    go_wp2
    exact bodyPost_ret (v := .int .i64 (l0 : Nat)) (by simp [results, Try.results28, go_sem]) rfl ⟨by rw [unhide HF], bal (brf w) _⟩
set_option maxHeartbeats 800000 in
theorem szInstrS_of (xs : List Instr) (v : Value) (w : World) (left : Nat) (hl : left ≤ 1048576) (hr : RS 9 RInstr w 0 xs v) :
    Calls Try.prog 9 #[v, .int .i64 left] w fun e w' => e = .returned (.int .i64 (szR (szL szInstr xs) left)) ∧ Below w.heap.size w w' := by
  have hsm := szL_sm szInstr xs
  rcases hr.open with ⟨rfl, a, c, rfl⟩ | ⟨b, o, c, rfl, hc, hn, _, hcs⟩
  · have e0 : szR (szL szInstr []) left = (left : Int) := by show szR 0 left = _; rw [szR_le (Nat.zero_le _)]; rfl
    rw [e0]
    clear hsm hr e0
    go_enter Try.func9, Try.ntmps9
    go_wp2
    go_loop [1, 5] (fun l i => l = .int .i64 left ∧ i = .int .i64 0) (fun _ _ => 0)
    case atStart => exact ⟨rfl, rfl⟩
    case round =>
      obtain ⟨rfl, rfl⟩ := hrel
      go_wp2
      exact bodyPost_ret (v := .int .i64 (left : Nat)) (by simp [results, Try.results9, go_sem]) rfl ⟨rfl, brf _⟩
  · unfold maxLen at hn
    by_cases hbig : left < xs.length
    · rw [szR_lt (by omega)]
      have q : (left : Int) - (xs.length : Int) < 0 := by omega
      clear hcs hr
      go_enter Try.func9, Try.ntmps9
      go_wp2
      exact bodyPost_ret (v := .int .i64 (-1)) (by simp [results, Try.results9, go_sem]) rfl ⟨rfl, brf _⟩
    · have HC := hide hcs
      clear hcs hr
      go_enter Try.func9, Try.ntmps9
      go_wp2
      go_loopw [1, 5] (fun l i wr => ∃ (j m : Nat), j ≤ xs.length ∧ i = .int .i64 j ∧ l = .int .i64 m ∧ m + xs.length + sm szInstr (xs.take j) = left ∧ Below w.heap.size w wr) (fun l i wr => xs.length - (intOf i).toNat)
      case atStart => exact ⟨0, left - xs.length, Nat.zero_le _, rfl, by congr 1; omega, by simp [sm]; omega, brf _⟩
      case round =>
        obtain ⟨j, m, hj, rfl, rfl, hm, hb⟩ := hrel
        by_cases hjn : j < xs.length
        · have hx : xs[j]? = some xs[j] := List.getElem?_eq_getElem hjn
          generalize xs[j] = x at hx
          obtain ⟨u, hul, hat, hrx⟩ := unhide HC j x hx
          have st := sm_take (f := szInstr) hx
          have sl := sm_le (f := szInstr) (xs := xs) (j + 1)
          have PX := hide (szInstr_of x u wr m (by omega) (RInstr.keeps _ _ _ _ _ (later_cells hb 0) hrx))
          obtain ⟨rfl, _⟩ := hrx
          have k0 := cell_later hb (hat.get (j := 0) rfl)
          have k1 := cell_later hb (hat.get (j := 1) rfl)
          have k2 := cell_later hb (hat.get (j := 2) rfl)
          have k3 := cell_later hb (hat.get (j := 3) rfl)
          have k4 := cell_later hb (hat.get (j := 4) rfl)
          have k5 := cell_later hb (hat.get (j := 5) rfl)
          have k6 := cell_later hb (hat.get (j := 6) rfl)
          have k7 := cell_later hb (hat.get (j := 7) rfl)
          have k8 := cell_later hb (hat.get (j := 8) rfl)
          simp only [Nat.add_zero] at k0
          have HB := hide hb
          clear hb hat hul HC
          by_cases hfit : szInstr x ≤ m
          · rw [szR_le hfit] at PX
            have q1 : ¬ (((m - szInstr x : Nat) : Int) < 0) := by omega
            generalize hd : m - szInstr x = d at *
            go_wp2_with (go_at_call 28; refine (unhide PX).mono ?_; rintro e v1 ⟨rfl, hb1⟩)
            exact ⟨⟨j + 1, d, by omega, by go_num, rfl, by omega, below_step (unhide HB) hb1⟩, by simp [intOf]; omega⟩
          · rw [szR_lt (by omega)] at PX
            have HF : Hid (szR (szL szInstr xs) left = -1) := hide (szR_lt (by omega))
            go_wp2_with (go_at_call 28; refine (unhide PX).mono ?_; rintro e v1 ⟨rfl, hb1⟩)
            exact bodyPost_ret (v := .int .i64 (-1)) (by simp [results, Try.results9, go_sem]) rfl ⟨by rw [unhide HF], below_step (unhide HB) hb1⟩
        · obtain rfl : j = xs.length := by omega
          rw [List.take_length] at hm
          have HF : Hid (szR (szL szInstr xs) left = (m : Int)) := hide (by rw [szR_le (by omega)]; omega)
          have HB := hide hb
          clear hb HC
          go_wp2
          exact bodyPost_ret (v := .int .i64 (m : Nat)) (by simp [results, Try.results9, go_sem]) rfl ⟨by rw [unhide HF], unhide HB⟩
set_option maxHeartbeats 800000 in
theorem szIntS_of (xs : List Int) (v : Value) (w : World) (left : Nat) (hl : left ≤ 1048576) (hr : RS 1 RInt w 0 xs v) :
    Calls Try.prog 10 #[v, .int .i64 left] w fun e w' => e = .returned (.int .i64 (szR (szL (fun (_ : Int) => 0) xs) left)) ∧ Below w.heap.size w w' := by
  have hsm := szL_sm (fun (_ : Int) => 0) xs
  have h0 : sm (fun (_ : Int) => 0) xs = 0 := sm_zero xs
  obtain ⟨a, c, rfl⟩ := hr.slice
  have hn := hr.len
  unfold maxLen at hn
  clear hr
  by_cases hbig : left < xs.length
  · rw [szR_lt (by omega)]
    have q : (left : Int) - (xs.length : Int) < 0 := by omega
    go_enter Try.func10, Try.ntmps10
    go_wp2
    exact bodyPost_ret (v := .int .i64 (-1)) (by simp [results, Try.results10, go_sem]) rfl ⟨rfl, brf _⟩
  · rw [szR_le (by omega)]
    obtain ⟨m, hm⟩ : ∃ m, m + xs.length = left := ⟨left - xs.length, by omega⟩
    have e1 : left - szL (fun (_ : Int) => 0) xs = m := by omega
    have q : (left : Int) - (xs.length : Int) = (m : Int) := by omega
    rw [e1]
    clear e1 hsm h0
    go_enter Try.func10, Try.ntmps10
    go_wp2
    exact bodyPost_ret (v := .int .i64 (m : Nat)) (by simp [results, Try.results10, go_sem]) rfl ⟨rfl, brf _⟩
set_option maxHeartbeats 800000 in
theorem szStringS_of (xs : List ByteArray) (v : Value) (w : World) (left : Nat) (hl : left ≤ 1048576) (hr : RS 1 RStr w 0 xs v) :
    Calls Try.prog 11 #[v, .int .i64 left] w fun e w' => e = .returned (.int .i64 (szR (szL (fun (s : ByteArray) => s.size) xs) left)) ∧ Below w.heap.size w w' := by
  have hsm := szL_sm (fun (s : ByteArray) => s.size) xs
  rcases hr.open with ⟨rfl, a, c, rfl⟩ | ⟨b, o, c, rfl, hc, hn, _, hcs⟩
  · have e0 : szR (szL (fun (s : ByteArray) => s.size) []) left = (left : Int) := by show szR 0 left = _; rw [szR_le (Nat.zero_le _)]; rfl
    rw [e0]
    clear hsm hr e0
    go_enter Try.func11, Try.ntmps11
    go_wp2
    go_loop [1, 5] (fun l i => l = .int .i64 left ∧ i = .int .i64 0) (fun _ _ => 0)
    case atStart => exact ⟨rfl, rfl⟩
    case round =>
      obtain ⟨rfl, rfl⟩ := hrel
      go_wp2
      exact bodyPost_ret (v := .int .i64 (left : Nat)) (by simp [results, Try.results11, go_sem]) rfl ⟨rfl, brf _⟩
  · unfold maxLen at hn
    by_cases hbig : left < xs.length
    · rw [szR_lt (by omega)]
      have q : (left : Int) - (xs.length : Int) < 0 := by omega
      clear hcs hr
      go_enter Try.func11, Try.ntmps11
      go_wp2
      exact bodyPost_ret (v := .int .i64 (-1)) (by simp [results, Try.results11, go_sem]) rfl ⟨rfl, brf _⟩
    · have HC := hide hcs
      clear hcs hr
      go_enter Try.func11, Try.ntmps11
      go_wp2
      go_loopw [1, 5] (fun l i wr => ∃ (j m : Nat), j ≤ xs.length ∧ i = .int .i64 j ∧ l = .int .i64 m ∧ m + xs.length + sm (fun (s : ByteArray) => s.size) (xs.take j) = left ∧ Below w.heap.size w wr) (fun l i wr => xs.length - (intOf i).toNat)
      case atStart => exact ⟨0, left - xs.length, Nat.zero_le _, rfl, by congr 1; omega, by simp [sm]; omega, brf _⟩
      case round =>
        obtain ⟨j, m, hj, rfl, rfl, hm, hb⟩ := hrel
        by_cases hjn : j < xs.length
        · have hx : xs[j]? = some xs[j] := List.getElem?_eq_getElem hjn
          generalize xs[j] = x at hx
          obtain ⟨u, hul, hat, hrx⟩ := unhide HC j x hx
          have st := sm_take (f := (fun (s : ByteArray) => s.size)) hx
          have sl := sm_le (f := (fun (s : ByteArray) => s.size)) (xs := xs) (j + 1)
          obtain ⟨rfl, hts⟩ := hrx
          unfold maxLen at hts
          have k0 := cell_later hb (hat.get (j := 0) rfl)
          have HB := hide hb
          simp only [Nat.add_zero, Nat.mul_one] at k0
          clear hb hat hul HC
          by_cases hfit : x.size ≤ m
          · obtain ⟨d, hd⟩ : ∃ d, d + x.size = m := ⟨m - x.size, by omega⟩
            have q1 : (m : Int) - (x.size : Int) = (d : Int) := by omega
            go_wp2
            exact ⟨⟨j + 1, d, by omega, by go_num, rfl, by omega, unhide HB⟩, by simp [intOf]; omega⟩
          · have HF : Hid (szR (szL (fun (s : ByteArray) => s.size) xs) left = -1) := hide (szR_lt (by omega))
            have q1 : (m : Int) - (x.size : Int) < 0 := by omega
            go_wp2
            exact bodyPost_ret (v := .int .i64 (-1)) (by simp [results, Try.results11, go_sem]) rfl ⟨by rw [unhide HF], unhide HB⟩
        · obtain rfl : j = xs.length := by omega
          rw [List.take_length] at hm
          have HF : Hid (szR (szL (fun (s : ByteArray) => s.size) xs) left = (m : Int)) := hide (by rw [szR_le (by omega)]; omega)
          have HB := hide hb
          clear hb HC
          go_wp2
          exact bodyPost_ret (v := .int .i64 (m : Nat)) (by simp [results, Try.results11, go_sem]) rfl ⟨by rw [unhide HF], unhide HB⟩
set_option maxHeartbeats 1600000 in
theorem szCode_of (x : Code) (u : List Value) (w : World) (left : Nat) (hl : left ≤ 1048576) (hr : RCode w 0 x u) :
    Calls Try.prog 4 #[.agg u.toArray, .int .i64 left] w fun e w' => e = .returned (.int .i64 (szR (szCode x) left)) ∧ Below w.heap.size w w' := by
  obtain ⟨v1, v2, v4, v5, v6, v7, v8, rfl, r1, r2, r4, r5, r6, r7, r8⟩ := hr
  have S1 := hide (fun (l : Nat) (hl : l ≤ 1048576) (W : World) (hb : Below w.heap.size w W) => szInstrS_of x.instrs v1 W l hl (r1.later RInstr.keeps hb))
  obtain ⟨a1, c1, rfl⟩ := r1.slice
  have S2 := hide (fun (l : Nat) (hl : l ≤ 1048576) (W : World) (hb : Below w.heap.size w W) => szIntS_of x.ins v2 W l hl (r2.later RInt.keeps hb))
  obtain ⟨a2, c2, rfl⟩ := r2.slice
  have S4 := hide (fun (l : Nat) (hl : l ≤ 1048576) (W : World) (hb : Below w.heap.size w W) => szStringS_of x.inits v4 W l hl (r4.later RStr.keeps hb))
  obtain ⟨a4, c4, rfl⟩ := r4.slice
  have S5 := hide (fun (l : Nat) (hl : l ≤ 1048576) (W : World) (hb : Below w.heap.size w W) => szIntS_of x.ticks v5 W l hl (r5.later RInt.keeps hb))
  obtain ⟨a5, c5, rfl⟩ := r5.slice
  have S6 := hide (fun (l : Nat) (hl : l ≤ 1048576) (W : World) (hb : Below w.heap.size w W) => szIntS_of x.nexts v6 W l hl (r6.later RInt.keeps hb))
  obtain ⟨a6, c6, rfl⟩ := r6.slice
  have S7 := hide (fun (l : Nat) (hl : l ≤ 1048576) (W : World) (hb : Below w.heap.size w W) => szIntS_of x.outs v7 W l hl (r7.later RInt.keeps hb))
  obtain ⟨a7, c7, rfl⟩ := r7.slice
  have S8 := hide (fun (l : Nat) (hl : l ≤ 1048576) (W : World) (hb : Below w.heap.size w W) => szIntS_of x.checks v8 W l hl (r8.later RInt.keeps hb))
  obtain ⟨a8, c8, rfl⟩ := r8.slice
  clear r1 r2 r4 r5 r6 r7 r8
  have Z2 : Hid (∀ t, (w.alloc (.cells #[.int .i64 x.slots, .slice a1 x.instrs.length c1, .slice a2 x.ins.length c2, .int .i64 x.clocks, .slice a4 x.inits.length c4, .slice a5 x.ticks.length c5, .slice a6 x.nexts.length c6, .slice a7 x.outs.length c7, .slice a8 x.checks.length c8] t)).cell? ⟨w.heap.size, 2, none⟩ = some (.slice a2 x.ins.length c2)) := hide (fun t => by rw [World.cell?_alloc_new]; rfl)
  have Z4 : Hid (∀ t, (w.alloc (.cells #[.int .i64 x.slots, .slice a1 x.instrs.length c1, .slice a2 x.ins.length c2, .int .i64 x.clocks, .slice a4 x.inits.length c4, .slice a5 x.ticks.length c5, .slice a6 x.nexts.length c6, .slice a7 x.outs.length c7, .slice a8 x.checks.length c8] t)).cell? ⟨w.heap.size, 4, none⟩ = some (.slice a4 x.inits.length c4)) := hide (fun t => by rw [World.cell?_alloc_new]; rfl)
  have Z5 : Hid (∀ t, (w.alloc (.cells #[.int .i64 x.slots, .slice a1 x.instrs.length c1, .slice a2 x.ins.length c2, .int .i64 x.clocks, .slice a4 x.inits.length c4, .slice a5 x.ticks.length c5, .slice a6 x.nexts.length c6, .slice a7 x.outs.length c7, .slice a8 x.checks.length c8] t)).cell? ⟨w.heap.size, 5, none⟩ = some (.slice a5 x.ticks.length c5)) := hide (fun t => by rw [World.cell?_alloc_new]; rfl)
  have Z6 : Hid (∀ t, (w.alloc (.cells #[.int .i64 x.slots, .slice a1 x.instrs.length c1, .slice a2 x.ins.length c2, .int .i64 x.clocks, .slice a4 x.inits.length c4, .slice a5 x.ticks.length c5, .slice a6 x.nexts.length c6, .slice a7 x.outs.length c7, .slice a8 x.checks.length c8] t)).cell? ⟨w.heap.size, 6, none⟩ = some (.slice a6 x.nexts.length c6)) := hide (fun t => by rw [World.cell?_alloc_new]; rfl)
  have Z7 : Hid (∀ t, (w.alloc (.cells #[.int .i64 x.slots, .slice a1 x.instrs.length c1, .slice a2 x.ins.length c2, .int .i64 x.clocks, .slice a4 x.inits.length c4, .slice a5 x.ticks.length c5, .slice a6 x.nexts.length c6, .slice a7 x.outs.length c7, .slice a8 x.checks.length c8] t)).cell? ⟨w.heap.size, 7, none⟩ = some (.slice a7 x.outs.length c7)) := hide (fun t => by rw [World.cell?_alloc_new]; rfl)
  have Z8 : Hid (∀ t, (w.alloc (.cells #[.int .i64 x.slots, .slice a1 x.instrs.length c1, .slice a2 x.ins.length c2, .int .i64 x.clocks, .slice a4 x.inits.length c4, .slice a5 x.ticks.length c5, .slice a6 x.nexts.length c6, .slice a7 x.outs.length c7, .slice a8 x.checks.length c8] t)).cell? ⟨w.heap.size, 8, none⟩ = some (.slice a8 x.checks.length c8)) := hide (fun t => by rw [World.cell?_alloc_new]; rfl)
  have hsz : szCode x = szL szInstr x.instrs + szL (fun (_ : Int) => 0) x.ins + szL (fun (s : ByteArray) => s.size) x.inits + szL (fun (_ : Int) => 0) x.ticks + szL (fun (_ : Int) => 0) x.nexts + szL (fun (_ : Int) => 0) x.outs + szL (fun (_ : Int) => 0) x.checks := rfl
  generalize szCode x = total at *
  generalize szL szInstr x.instrs = s1 at *
  generalize szL (fun (_ : Int) => 0) x.ins = s2 at *
  generalize szL (fun (s : ByteArray) => s.size) x.inits = s4 at *
  generalize szL (fun (_ : Int) => 0) x.ticks = s5 at *
  generalize szL (fun (_ : Int) => 0) x.nexts = s6 at *
  generalize szL (fun (_ : Int) => 0) x.outs = s7 at *
  generalize szL (fun (_ : Int) => 0) x.checks = s8 at *
  by_cases h0 : left < s1
  · have HF : Hid (szR total left = -1) := hide (szR_lt (by omega))
    have T1 := hide (unhide S1 left (by omega))
    rw [szR_lt h0] at T1
    clear hsz
    go_enter Try.func4, Try.ntmps4
    go_wp2_with (first | (go_at_call 9; refine (unhide T1 _ (bal (brf w) _)).mono ?_; rintro e W1 ⟨rfl, hb1⟩; have hB1 := btr (bal (brf w) _) hb1; have y1_2 := cell_later hb1 (unhide Z2 _); have y1_4 := cell_later hb1 (unhide Z4 _); have y1_5 := cell_later hb1 (unhide Z5 _); have y1_6 := cell_later hb1 (unhide Z6 _); have y1_7 := cell_later hb1 (unhide Z7 _); have y1_8 := cell_later hb1 (unhide Z8 _)))
    exact bodyPost_ret (v := .int .i64 (-1)) (by simp [results, Try.results4, go_sem]) rfl ⟨by rw [unhide HF], hB1⟩
  · obtain ⟨l0, e0⟩ : ∃ l0, l0 + s1 = left := ⟨left - s1, by omega⟩
    have T1 := hide (unhide S1 left (by omega))
    rw [szR_le (by omega), show left - s1 = l0 by omega] at T1
    by_cases h1 : l0 < s2
    · have HF : Hid (szR total left = -1) := hide (szR_lt (by omega))
      have T2 := hide (unhide S2 l0 (by omega))
      rw [szR_lt h1] at T2
      clear hsz
      go_enter Try.func4, Try.ntmps4
      go_wp2_with (first | (have hq2 := hB1; go_at_call 10; refine (unhide T2 _ hB1).mono ?_; rintro e W2 ⟨rfl, hb2⟩; have hB2 := btr hB1 hb2; have y2_4 := cell_later hb2 y1_4; have y2_5 := cell_later hb2 y1_5; have y2_6 := cell_later hb2 y1_6; have y2_7 := cell_later hb2 y1_7; have y2_8 := cell_later hb2 y1_8) | (go_at_call 9; refine (unhide T1 _ (bal (brf w) _)).mono ?_; rintro e W1 ⟨rfl, hb1⟩; have hB1 := btr (bal (brf w) _) hb1; have y1_2 := cell_later hb1 (unhide Z2 _); have y1_4 := cell_later hb1 (unhide Z4 _); have y1_5 := cell_later hb1 (unhide Z5 _); have y1_6 := cell_later hb1 (unhide Z6 _); have y1_7 := cell_later hb1 (unhide Z7 _); have y1_8 := cell_later hb1 (unhide Z8 _)))
      exact bodyPost_ret (v := .int .i64 (-1)) (by simp [results, Try.results4, go_sem]) rfl ⟨by rw [unhide HF], hB2⟩
    · obtain ⟨l1, e1⟩ : ∃ l1, l1 + s2 = l0 := ⟨l0 - s2, by omega⟩
      have T2 := hide (unhide S2 l0 (by omega))
      rw [szR_le (by omega), show l0 - s2 = l1 by omega] at T2
      by_cases h2 : l1 < s4
      · have HF : Hid (szR total left = -1) := hide (szR_lt (by omega))
        have T4 := hide (unhide S4 l1 (by omega))
        rw [szR_lt h2] at T4
        clear hsz
        go_enter Try.func4, Try.ntmps4
        go_wp2_with (first | (have hq3 := hB2; go_at_call 11; refine (unhide T4 _ hB2).mono ?_; rintro e W3 ⟨rfl, hb3⟩; have hB3 := btr hB2 hb3; have y3_5 := cell_later hb3 y2_5; have y3_6 := cell_later hb3 y2_6; have y3_7 := cell_later hb3 y2_7; have y3_8 := cell_later hb3 y2_8) | (have hq2 := hB1; go_at_call 10; refine (unhide T2 _ hB1).mono ?_; rintro e W2 ⟨rfl, hb2⟩; have hB2 := btr hB1 hb2; have y2_4 := cell_later hb2 y1_4; have y2_5 := cell_later hb2 y1_5; have y2_6 := cell_later hb2 y1_6; have y2_7 := cell_later hb2 y1_7; have y2_8 := cell_later hb2 y1_8) | (go_at_call 9; refine (unhide T1 _ (bal (brf w) _)).mono ?_; rintro e W1 ⟨rfl, hb1⟩; have hB1 := btr (bal (brf w) _) hb1; have y1_2 := cell_later hb1 (unhide Z2 _); have y1_4 := cell_later hb1 (unhide Z4 _); have y1_5 := cell_later hb1 (unhide Z5 _); have y1_6 := cell_later hb1 (unhide Z6 _); have y1_7 := cell_later hb1 (unhide Z7 _); have y1_8 := cell_later hb1 (unhide Z8 _)))
        exact bodyPost_ret (v := .int .i64 (-1)) (by simp [results, Try.results4, go_sem]) rfl ⟨by rw [unhide HF], hB3⟩
      · obtain ⟨l2, e2⟩ : ∃ l2, l2 + s4 = l1 := ⟨l1 - s4, by omega⟩
        have T4 := hide (unhide S4 l1 (by omega))
        rw [szR_le (by omega), show l1 - s4 = l2 by omega] at T4
        by_cases h3 : l2 < s5
        · have HF : Hid (szR total left = -1) := hide (szR_lt (by omega))
          have T5 := hide (unhide S5 l2 (by omega))
          rw [szR_lt h3] at T5
          clear hsz
          go_enter Try.func4, Try.ntmps4
          go_wp2_with (first | (have hq4 := hB3; go_at_call 10; refine (unhide T5 _ hB3).mono ?_; rintro e W4 ⟨rfl, hb4⟩; have hB4 := btr hB3 hb4; have y4_6 := cell_later hb4 y3_6; have y4_7 := cell_later hb4 y3_7; have y4_8 := cell_later hb4 y3_8) | (have hq3 := hB2; go_at_call 11; refine (unhide T4 _ hB2).mono ?_; rintro e W3 ⟨rfl, hb3⟩; have hB3 := btr hB2 hb3; have y3_5 := cell_later hb3 y2_5; have y3_6 := cell_later hb3 y2_6; have y3_7 := cell_later hb3 y2_7; have y3_8 := cell_later hb3 y2_8) | (have hq2 := hB1; go_at_call 10; refine (unhide T2 _ hB1).mono ?_; rintro e W2 ⟨rfl, hb2⟩; have hB2 := btr hB1 hb2; have y2_4 := cell_later hb2 y1_4; have y2_5 := cell_later hb2 y1_5; have y2_6 := cell_later hb2 y1_6; have y2_7 := cell_later hb2 y1_7; have y2_8 := cell_later hb2 y1_8) | (go_at_call 9; refine (unhide T1 _ (bal (brf w) _)).mono ?_; rintro e W1 ⟨rfl, hb1⟩; have hB1 := btr (bal (brf w) _) hb1; have y1_2 := cell_later hb1 (unhide Z2 _); have y1_4 := cell_later hb1 (unhide Z4 _); have y1_5 := cell_later hb1 (unhide Z5 _); have y1_6 := cell_later hb1 (unhide Z6 _); have y1_7 := cell_later hb1 (unhide Z7 _); have y1_8 := cell_later hb1 (unhide Z8 _)))
          exact bodyPost_ret (v := .int .i64 (-1)) (by simp [results, Try.results4, go_sem]) rfl ⟨by rw [unhide HF], hB4⟩
        · obtain ⟨l3, e3⟩ : ∃ l3, l3 + s5 = l2 := ⟨l2 - s5, by omega⟩
          have T5 := hide (unhide S5 l2 (by omega))
          rw [szR_le (by omega), show l2 - s5 = l3 by omega] at T5
          by_cases h4 : l3 < s6
          · have HF : Hid (szR total left = -1) := hide (szR_lt (by omega))
            have T6 := hide (unhide S6 l3 (by omega))
            rw [szR_lt h4] at T6
            clear hsz
            go_enter Try.func4, Try.ntmps4
            go_wp2_with (first | (have hq5 := hB4; go_at_call 10; refine (unhide T6 _ hB4).mono ?_; rintro e W5 ⟨rfl, hb5⟩; have hB5 := btr hB4 hb5; have y5_7 := cell_later hb5 y4_7; have y5_8 := cell_later hb5 y4_8) | (have hq4 := hB3; go_at_call 10; refine (unhide T5 _ hB3).mono ?_; rintro e W4 ⟨rfl, hb4⟩; have hB4 := btr hB3 hb4; have y4_6 := cell_later hb4 y3_6; have y4_7 := cell_later hb4 y3_7; have y4_8 := cell_later hb4 y3_8) | (have hq3 := hB2; go_at_call 11; refine (unhide T4 _ hB2).mono ?_; rintro e W3 ⟨rfl, hb3⟩; have hB3 := btr hB2 hb3; have y3_5 := cell_later hb3 y2_5; have y3_6 := cell_later hb3 y2_6; have y3_7 := cell_later hb3 y2_7; have y3_8 := cell_later hb3 y2_8) | (have hq2 := hB1; go_at_call 10; refine (unhide T2 _ hB1).mono ?_; rintro e W2 ⟨rfl, hb2⟩; have hB2 := btr hB1 hb2; have y2_4 := cell_later hb2 y1_4; have y2_5 := cell_later hb2 y1_5; have y2_6 := cell_later hb2 y1_6; have y2_7 := cell_later hb2 y1_7; have y2_8 := cell_later hb2 y1_8) | (go_at_call 9; refine (unhide T1 _ (bal (brf w) _)).mono ?_; rintro e W1 ⟨rfl, hb1⟩; have hB1 := btr (bal (brf w) _) hb1; have y1_2 := cell_later hb1 (unhide Z2 _); have y1_4 := cell_later hb1 (unhide Z4 _); have y1_5 := cell_later hb1 (unhide Z5 _); have y1_6 := cell_later hb1 (unhide Z6 _); have y1_7 := cell_later hb1 (unhide Z7 _); have y1_8 := cell_later hb1 (unhide Z8 _)))
            exact bodyPost_ret (v := .int .i64 (-1)) (by simp [results, Try.results4, go_sem]) rfl ⟨by rw [unhide HF], hB5⟩
          · obtain ⟨l4, e4⟩ : ∃ l4, l4 + s6 = l3 := ⟨l3 - s6, by omega⟩
            have T6 := hide (unhide S6 l3 (by omega))
            rw [szR_le (by omega), show l3 - s6 = l4 by omega] at T6
            by_cases h5 : l4 < s7
            · have HF : Hid (szR total left = -1) := hide (szR_lt (by omega))
              have T7 := hide (unhide S7 l4 (by omega))
              rw [szR_lt h5] at T7
              clear hsz
              go_enter Try.func4, Try.ntmps4
              go_wp2_with (first | (have hq6 := hB5; go_at_call 10; refine (unhide T7 _ hB5).mono ?_; rintro e W6 ⟨rfl, hb6⟩; have hB6 := btr hB5 hb6; have y6_8 := cell_later hb6 y5_8) | (have hq5 := hB4; go_at_call 10; refine (unhide T6 _ hB4).mono ?_; rintro e W5 ⟨rfl, hb5⟩; have hB5 := btr hB4 hb5; have y5_7 := cell_later hb5 y4_7; have y5_8 := cell_later hb5 y4_8) | (have hq4 := hB3; go_at_call 10; refine (unhide T5 _ hB3).mono ?_; rintro e W4 ⟨rfl, hb4⟩; have hB4 := btr hB3 hb4; have y4_6 := cell_later hb4 y3_6; have y4_7 := cell_later hb4 y3_7; have y4_8 := cell_later hb4 y3_8) | (have hq3 := hB2; go_at_call 11; refine (unhide T4 _ hB2).mono ?_; rintro e W3 ⟨rfl, hb3⟩; have hB3 := btr hB2 hb3; have y3_5 := cell_later hb3 y2_5; have y3_6 := cell_later hb3 y2_6; have y3_7 := cell_later hb3 y2_7; have y3_8 := cell_later hb3 y2_8) | (have hq2 := hB1; go_at_call 10; refine (unhide T2 _ hB1).mono ?_; rintro e W2 ⟨rfl, hb2⟩; have hB2 := btr hB1 hb2; have y2_4 := cell_later hb2 y1_4; have y2_5 := cell_later hb2 y1_5; have y2_6 := cell_later hb2 y1_6; have y2_7 := cell_later hb2 y1_7; have y2_8 := cell_later hb2 y1_8) | (go_at_call 9; refine (unhide T1 _ (bal (brf w) _)).mono ?_; rintro e W1 ⟨rfl, hb1⟩; have hB1 := btr (bal (brf w) _) hb1; have y1_2 := cell_later hb1 (unhide Z2 _); have y1_4 := cell_later hb1 (unhide Z4 _); have y1_5 := cell_later hb1 (unhide Z5 _); have y1_6 := cell_later hb1 (unhide Z6 _); have y1_7 := cell_later hb1 (unhide Z7 _); have y1_8 := cell_later hb1 (unhide Z8 _)))
              exact bodyPost_ret (v := .int .i64 (-1)) (by simp [results, Try.results4, go_sem]) rfl ⟨by rw [unhide HF], hB6⟩
            · obtain ⟨l5, e5⟩ : ∃ l5, l5 + s7 = l4 := ⟨l4 - s7, by omega⟩
              have T7 := hide (unhide S7 l4 (by omega))
              rw [szR_le (by omega), show l4 - s7 = l5 by omega] at T7
              by_cases h6 : l5 < s8
              · have HF : Hid (szR total left = -1) := hide (szR_lt (by omega))
                have T8 := hide (unhide S8 l5 (by omega))
                rw [szR_lt h6] at T8
                clear hsz
                go_enter Try.func4, Try.ntmps4
                go_wp2_with (first | (have hq7 := hB6; go_at_call 10; refine (unhide T8 _ hB6).mono ?_; rintro e W7 ⟨rfl, hb7⟩; have hB7 := btr hB6 hb7) | (have hq6 := hB5; go_at_call 10; refine (unhide T7 _ hB5).mono ?_; rintro e W6 ⟨rfl, hb6⟩; have hB6 := btr hB5 hb6; have y6_8 := cell_later hb6 y5_8) | (have hq5 := hB4; go_at_call 10; refine (unhide T6 _ hB4).mono ?_; rintro e W5 ⟨rfl, hb5⟩; have hB5 := btr hB4 hb5; have y5_7 := cell_later hb5 y4_7; have y5_8 := cell_later hb5 y4_8) | (have hq4 := hB3; go_at_call 10; refine (unhide T5 _ hB3).mono ?_; rintro e W4 ⟨rfl, hb4⟩; have hB4 := btr hB3 hb4; have y4_6 := cell_later hb4 y3_6; have y4_7 := cell_later hb4 y3_7; have y4_8 := cell_later hb4 y3_8) | (have hq3 := hB2; go_at_call 11; refine (unhide T4 _ hB2).mono ?_; rintro e W3 ⟨rfl, hb3⟩; have hB3 := btr hB2 hb3; have y3_5 := cell_later hb3 y2_5; have y3_6 := cell_later hb3 y2_6; have y3_7 := cell_later hb3 y2_7; have y3_8 := cell_later hb3 y2_8) | (have hq2 := hB1; go_at_call 10; refine (unhide T2 _ hB1).mono ?_; rintro e W2 ⟨rfl, hb2⟩; have hB2 := btr hB1 hb2; have y2_4 := cell_later hb2 y1_4; have y2_5 := cell_later hb2 y1_5; have y2_6 := cell_later hb2 y1_6; have y2_7 := cell_later hb2 y1_7; have y2_8 := cell_later hb2 y1_8) | (go_at_call 9; refine (unhide T1 _ (bal (brf w) _)).mono ?_; rintro e W1 ⟨rfl, hb1⟩; have hB1 := btr (bal (brf w) _) hb1; have y1_2 := cell_later hb1 (unhide Z2 _); have y1_4 := cell_later hb1 (unhide Z4 _); have y1_5 := cell_later hb1 (unhide Z5 _); have y1_6 := cell_later hb1 (unhide Z6 _); have y1_7 := cell_later hb1 (unhide Z7 _); have y1_8 := cell_later hb1 (unhide Z8 _)))
                exact bodyPost_ret (v := .int .i64 (-1)) (by simp [results, Try.results4, go_sem]) rfl ⟨by rw [unhide HF], hB7⟩
              · obtain ⟨l6, e6⟩ : ∃ l6, l6 + s8 = l5 := ⟨l5 - s8, by omega⟩
                have T8 := hide (unhide S8 l5 (by omega))
                rw [szR_le (by omega), show l5 - s8 = l6 by omega] at T8
                have HF : Hid (szR total left = (l6 : Int)) := hide (by rw [szR_le (by omega)]; omega)
                clear hsz
                go_enter Try.func4, Try.ntmps4
                go_wp2_with (first | (have hq7 := hB6; go_at_call 10; refine (unhide T8 _ hB6).mono ?_; rintro e W7 ⟨rfl, hb7⟩; have hB7 := btr hB6 hb7) | (have hq6 := hB5; go_at_call 10; refine (unhide T7 _ hB5).mono ?_; rintro e W6 ⟨rfl, hb6⟩; have hB6 := btr hB5 hb6; have y6_8 := cell_later hb6 y5_8) | (have hq5 := hB4; go_at_call 10; refine (unhide T6 _ hB4).mono ?_; rintro e W5 ⟨rfl, hb5⟩; have hB5 := btr hB4 hb5; have y5_7 := cell_later hb5 y4_7; have y5_8 := cell_later hb5 y4_8) | (have hq4 := hB3; go_at_call 10; refine (unhide T5 _ hB3).mono ?_; rintro e W4 ⟨rfl, hb4⟩; have hB4 := btr hB3 hb4; have y4_6 := cell_later hb4 y3_6; have y4_7 := cell_later hb4 y3_7; have y4_8 := cell_later hb4 y3_8) | (have hq3 := hB2; go_at_call 11; refine (unhide T4 _ hB2).mono ?_; rintro e W3 ⟨rfl, hb3⟩; have hB3 := btr hB2 hb3; have y3_5 := cell_later hb3 y2_5; have y3_6 := cell_later hb3 y2_6; have y3_7 := cell_later hb3 y2_7; have y3_8 := cell_later hb3 y2_8) | (have hq2 := hB1; go_at_call 10; refine (unhide T2 _ hB1).mono ?_; rintro e W2 ⟨rfl, hb2⟩; have hB2 := btr hB1 hb2; have y2_4 := cell_later hb2 y1_4; have y2_5 := cell_later hb2 y1_5; have y2_6 := cell_later hb2 y1_6; have y2_7 := cell_later hb2 y1_7; have y2_8 := cell_later hb2 y1_8) | (go_at_call 9; refine (unhide T1 _ (bal (brf w) _)).mono ?_; rintro e W1 ⟨rfl, hb1⟩; have hB1 := btr (bal (brf w) _) hb1; have y1_2 := cell_later hb1 (unhide Z2 _); have y1_4 := cell_later hb1 (unhide Z4 _); have y1_5 := cell_later hb1 (unhide Z5 _); have y1_6 := cell_later hb1 (unhide Z6 _); have y1_7 := cell_later hb1 (unhide Z7 _); have y1_8 := cell_later hb1 (unhide Z8 _)))
                exact bodyPost_ret (v := .int .i64 (l6 : Nat)) (by simp [results, Try.results4, go_sem]) rfl ⟨by rw [unhide HF], hB7⟩
end Go.Proofs.Ytbpcomnneemolaa
