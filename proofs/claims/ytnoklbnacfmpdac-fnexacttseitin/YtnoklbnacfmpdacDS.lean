/- What the laws' sz functions answer. -/
import Derived.Test.YtnoklbnacfmpdacDDa
namespace Go.Proofs.Ytnoklbnacfmpdac
open Go.RowKit Gs
set_option linter.unusedVariables false
set_option maxRecDepth 100000
theorem below_step {w W V : World} (h : Below w.heap.size w W) (hb : Below W.heap.size W V) : Below w.heap.size w V := btr h hb
set_option maxHeartbeats 800000 in
theorem szStringS_of (xs : List ByteArray) (v : Value) (w : World) (left : Nat) (hl : left ≤ 1048576) (hr : RS 1 RStr w 0 xs v) :
    Calls Try.prog 13 #[v, .int .i64 left] w fun e w' => e = .returned (.int .i64 (szR (szL (fun (s : ByteArray) => s.size) xs) left)) ∧ Below w.heap.size w w' := by
  have hsm := szL_sm (fun (s : ByteArray) => s.size) xs
  rcases hr.open with ⟨rfl, a, c, rfl⟩ | ⟨b, o, c, rfl, hc, hn, _, hcs⟩
  · have e0 : szR (szL (fun (s : ByteArray) => s.size) []) left = (left : Int) := by show szR 0 left = _; rw [szR_le (Nat.zero_le _)]; rfl
    rw [e0]
    clear hsm hr e0
    go_enter Try.func13, Try.ntmps13
    go_wp2
    go_loop [1, 5] (fun l i => l = .int .i64 left ∧ i = .int .i64 0) (fun _ _ => 0)
    case atStart => exact ⟨rfl, rfl⟩
    case round =>
      obtain ⟨rfl, rfl⟩ := hrel
      go_wp2
      exact bodyPost_ret (v := .int .i64 (left : Nat)) (by simp [results, Try.results13, go_sem]) rfl ⟨rfl, brf _⟩
  · unfold maxLen at hn
    by_cases hbig : left < xs.length
    · rw [szR_lt (by omega)]
      have q : (left : Int) - (xs.length : Int) < 0 := by omega
      clear hcs hr
      go_enter Try.func13, Try.ntmps13
      go_wp2
      exact bodyPost_ret (v := .int .i64 (-1)) (by simp [results, Try.results13, go_sem]) rfl ⟨rfl, brf _⟩
    · have HC := hide hcs
      clear hcs hr
      go_enter Try.func13, Try.ntmps13
      go_wp2
      go_loopw [1, 5] (fun l i wr => ∃ (j m : Nat), j ≤ xs.length ∧ i = .int .i64 j ∧ l = .int .i64 m ∧ m + xs.length + sm (fun (s : ByteArray) => s.size) (xs.take j) = left ∧ Below w.heap.size w wr) (fun l i wr => xs.length - (intOf i).toNat)
      case atStart => exact ⟨0, left - xs.length, Nat.zero_le _, rfl, by congr 1; omega, by simp [sm]; omega, brf _⟩
      case round =>
        obtain ⟨j, m, hj, rfl, rfl, hm, hb⟩ := hrel
        by_cases hjn : j < xs.length
        · have hx : xs[j]? = some xs[j] := List.getElem?_eq_getElem hjn
          generalize xs[j] = x at hx
          obtain ⟨u, hul, hat, hrx⟩ := unhide HC j x hx
          have st := sm_take (f := (fun (s : ByteArray) => s.size)) hx
          have sl := sm_le (f := (fun (s : ByteArray) => s.size)) (xs := xs) (j + 1)
          obtain ⟨rfl, hts⟩ := hrx
          unfold maxLen at hts
          have k0 := cell_later hb (hat.get (j := 0) rfl)
          have HB := hide hb
          simp only [Nat.add_zero, Nat.mul_one] at k0
          clear hb hat hul HC
          by_cases hfit : x.size ≤ m
          · obtain ⟨d, hd⟩ : ∃ d, d + x.size = m := ⟨m - x.size, by omega⟩
            have q1 : (m : Int) - (x.size : Int) = (d : Int) := by omega
            go_wp2
            exact ⟨⟨j + 1, d, by omega, by go_num, rfl, by omega, unhide HB⟩, by simp [intOf]; omega⟩
          · have HF : Hid (szR (szL (fun (s : ByteArray) => s.size) xs) left = -1) := hide (szR_lt (by omega))
            have q1 : (m : Int) - (x.size : Int) < 0 := by omega
            go_wp2
            exact bodyPost_ret (v := .int .i64 (-1)) (by simp [results, Try.results13, go_sem]) rfl ⟨by rw [unhide HF], unhide HB⟩
        · obtain rfl : j = xs.length := by omega
          rw [List.take_length] at hm
          have HF : Hid (szR (szL (fun (s : ByteArray) => s.size) xs) left = (m : Int)) := hide (by rw [szR_le (by omega)]; omega)
          have HB := hide hb
          clear hb HC
          go_wp2
          exact bodyPost_ret (v := .int .i64 (m : Nat)) (by simp [results, Try.results13, go_sem]) rfl ⟨by rw [unhide HF], unhide HB⟩
set_option maxHeartbeats 1600000 in
theorem szLatch_of (x : Latch) (u : List Value) (w : World) (left : Nat) (hl : left ≤ 1048576) (hr : RLatch w 0 x u) :
    Calls Try.prog 43 #[.agg u.toArray, .int .i64 left] w fun e w' => e = .returned (.int .i64 (szR (szLatch x) left)) ∧ Below w.heap.size w w' := by
  obtain ⟨rfl, b_name⟩ := hr
  unfold maxLen at b_name
  have hsz : szLatch x = x.name.size := rfl
  generalize szLatch x = total at *
  by_cases h0 : left < x.name.size
  · have HF : Hid (szR total left = -1) := hide (szR_lt (by omega))
    have q0 : (left : Int) - (x.name.size : Int) < 0 := by omega
    clear hsz
    go_enter Try.func43, Try.ntmps43
    go_wp2
    exact bodyPost_ret (v := .int .i64 (-1)) (by simp [results, Try.results43, go_sem]) rfl ⟨by rw [unhide HF], bal (brf w) _⟩
  · obtain ⟨l0, e0⟩ : ∃ l0, l0 + x.name.size = left := ⟨left - x.name.size, by omega⟩
    have q0 : (left : Int) - (x.name.size : Int) = (l0 : Int) := by omega
    have HF : Hid (szR total left = (l0 : Int)) := hide (by rw [szR_le (by omega)]; omega)
    clear hsz
    go_enter Try.func43, Try.ntmps43
    go_wp2
    exact bodyPost_ret (v := .int .i64 (l0 : Nat)) (by simp [results, Try.results43, go_sem]) rfl ⟨by rw [unhide HF], bal (brf w) _⟩
set_option maxHeartbeats 800000 in
theorem szLatchS_of (xs : List Latch) (v : Value) (w : World) (left : Nat) (hl : left ≤ 1048576) (hr : RS 4 RLatch w 0 xs v) :
    Calls Try.prog 14 #[v, .int .i64 left] w fun e w' => e = .returned (.int .i64 (szR (szL szLatch xs) left)) ∧ Below w.heap.size w w' := by
  have hsm := szL_sm szLatch xs
  rcases hr.open with ⟨rfl, a, c, rfl⟩ | ⟨b, o, c, rfl, hc, hn, _, hcs⟩
  · have e0 : szR (szL szLatch []) left = (left : Int) := by show szR 0 left = _; rw [szR_le (Nat.zero_le _)]; rfl
    rw [e0]
    clear hsm hr e0
    go_enter Try.func14, Try.ntmps14
    go_wp2
    go_loop [1, 5] (fun l i => l = .int .i64 left ∧ i = .int .i64 0) (fun _ _ => 0)
    case atStart => exact ⟨rfl, rfl⟩
    case round =>
      obtain ⟨rfl, rfl⟩ := hrel
      go_wp2
      exact bodyPost_ret (v := .int .i64 (left : Nat)) (by simp [results, Try.results14, go_sem]) rfl ⟨rfl, brf _⟩
  · unfold maxLen at hn
    by_cases hbig : left < xs.length
    · rw [szR_lt (by omega)]
      have q : (left : Int) - (xs.length : Int) < 0 := by omega
      clear hcs hr
      go_enter Try.func14, Try.ntmps14
      go_wp2
      exact bodyPost_ret (v := .int .i64 (-1)) (by simp [results, Try.results14, go_sem]) rfl ⟨rfl, brf _⟩
    · have HC := hide hcs
      clear hcs hr
      go_enter Try.func14, Try.ntmps14
      go_wp2
      go_loopw [1, 5] (fun l i wr => ∃ (j m : Nat), j ≤ xs.length ∧ i = .int .i64 j ∧ l = .int .i64 m ∧ m + xs.length + sm szLatch (xs.take j) = left ∧ Below w.heap.size w wr) (fun l i wr => xs.length - (intOf i).toNat)
      case atStart => exact ⟨0, left - xs.length, Nat.zero_le _, rfl, by congr 1; omega, by simp [sm]; omega, brf _⟩
      case round =>
        obtain ⟨j, m, hj, rfl, rfl, hm, hb⟩ := hrel
        by_cases hjn : j < xs.length
        · have hx : xs[j]? = some xs[j] := List.getElem?_eq_getElem hjn
          generalize xs[j] = x at hx
          obtain ⟨u, hul, hat, hrx⟩ := unhide HC j x hx
          have st := sm_take (f := szLatch) hx
          have sl := sm_le (f := szLatch) (xs := xs) (j + 1)
          have PX := hide (szLatch_of x u wr m (by omega) (RLatch.keeps _ _ _ _ _ (later_cells hb 0) hrx))
          obtain ⟨rfl, _⟩ := hrx
          have k0 := cell_later hb (hat.get (j := 0) rfl)
          have k1 := cell_later hb (hat.get (j := 1) rfl)
          have k2 := cell_later hb (hat.get (j := 2) rfl)
          have k3 := cell_later hb (hat.get (j := 3) rfl)
          simp only [Nat.add_zero] at k0
          have HB := hide hb
          clear hb hat hul HC
          by_cases hfit : szLatch x ≤ m
          · rw [szR_le hfit] at PX
            have q1 : ¬ (((m - szLatch x : Nat) : Int) < 0) := by omega
            generalize hd : m - szLatch x = d at *
            go_wp2_with (go_at_call 43; refine (unhide PX).mono ?_; rintro e v1 ⟨rfl, hb1⟩)
            exact ⟨⟨j + 1, d, by omega, by go_num, rfl, by omega, below_step (unhide HB) hb1⟩, by simp [intOf]; omega⟩
          · rw [szR_lt (by omega)] at PX
            have HF : Hid (szR (szL szLatch xs) left = -1) := hide (szR_lt (by omega))
            go_wp2_with (go_at_call 43; refine (unhide PX).mono ?_; rintro e v1 ⟨rfl, hb1⟩)
            exact bodyPost_ret (v := .int .i64 (-1)) (by simp [results, Try.results14, go_sem]) rfl ⟨by rw [unhide HF], below_step (unhide HB) hb1⟩
        · obtain rfl : j = xs.length := by omega
          rw [List.take_length] at hm
          have HF : Hid (szR (szL szLatch xs) left = (m : Int)) := hide (by rw [szR_le (by omega)]; omega)
          have HB := hide hb
          clear hb HC
          go_wp2
          exact bodyPost_ret (v := .int .i64 (m : Nat)) (by simp [results, Try.results14, go_sem]) rfl ⟨by rw [unhide HF], unhide HB⟩
set_option maxHeartbeats 800000 in
theorem szAndGS_of (xs : List AndG) (v : Value) (w : World) (left : Nat) (hl : left ≤ 1048576) (hr : RS 2 RAndG w 0 xs v) :
    Calls Try.prog 15 #[v, .int .i64 left] w fun e w' => e = .returned (.int .i64 (szR (szL szAndG xs) left)) ∧ Below w.heap.size w w' := by
  have hsm := szL_sm szAndG xs
  have h0 : sm szAndG xs = 0 := sm_zero xs
  obtain ⟨a, c, rfl⟩ := hr.slice
  have hn := hr.len
  unfold maxLen at hn
  clear hr
  by_cases hbig : left < xs.length
  · rw [szR_lt (by omega)]
    have q : (left : Int) - (xs.length : Int) < 0 := by omega
    go_enter Try.func15, Try.ntmps15
    go_wp2
    exact bodyPost_ret (v := .int .i64 (-1)) (by simp [results, Try.results15, go_sem]) rfl ⟨rfl, brf _⟩
  · rw [szR_le (by omega)]
    obtain ⟨m, hm⟩ : ∃ m, m + xs.length = left := ⟨left - xs.length, by omega⟩
    have e1 : left - szL szAndG xs = m := by omega
    have q : (left : Int) - (xs.length : Int) = (m : Int) := by omega
    rw [e1]
    clear e1 hsm h0
    go_enter Try.func15, Try.ntmps15
    go_wp2
    exact bodyPost_ret (v := .int .i64 (m : Nat)) (by simp [results, Try.results15, go_sem]) rfl ⟨rfl, brf _⟩
set_option maxHeartbeats 1600000 in
theorem szPin_of (x : Pin) (u : List Value) (w : World) (left : Nat) (hl : left ≤ 1048576) (hr : RPin w 0 x u) :
    Calls Try.prog 44 #[.agg u.toArray, .int .i64 left] w fun e w' => e = .returned (.int .i64 (szR (szPin x) left)) ∧ Below w.heap.size w w' := by
  obtain ⟨rfl, b_name⟩ := hr
  unfold maxLen at b_name
  have hsz : szPin x = x.name.size := rfl
  generalize szPin x = total at *
  by_cases h0 : left < x.name.size
  · have HF : Hid (szR total left = -1) := hide (szR_lt (by omega))
    have q0 : (left : Int) - (x.name.size : Int) < 0 := by omega
    clear hsz
    go_enter Try.func44, Try.ntmps44
    go_wp2
    exact bodyPost_ret (v := .int .i64 (-1)) (by simp [results, Try.results44, go_sem]) rfl ⟨by rw [unhide HF], bal (brf w) _⟩
  · obtain ⟨l0, e0⟩ : ∃ l0, l0 + x.name.size = left := ⟨left - x.name.size, by omega⟩
    have q0 : (left : Int) - (x.name.size : Int) = (l0 : Int) := by omega
    have HF : Hid (szR total left = (l0 : Int)) := hide (by rw [szR_le (by omega)]; omega)
    clear hsz
    go_enter Try.func44, Try.ntmps44
    go_wp2
    exact bodyPost_ret (v := .int .i64 (l0 : Nat)) (by simp [results, Try.results44, go_sem]) rfl ⟨by rw [unhide HF], bal (brf w) _⟩
set_option maxHeartbeats 800000 in
theorem szPinS_of (xs : List Pin) (v : Value) (w : World) (left : Nat) (hl : left ≤ 1048576) (hr : RS 2 RPin w 0 xs v) :
    Calls Try.prog 16 #[v, .int .i64 left] w fun e w' => e = .returned (.int .i64 (szR (szL szPin xs) left)) ∧ Below w.heap.size w w' := by
  have hsm := szL_sm szPin xs
  rcases hr.open with ⟨rfl, a, c, rfl⟩ | ⟨b, o, c, rfl, hc, hn, _, hcs⟩
  · have e0 : szR (szL szPin []) left = (left : Int) := by show szR 0 left = _; rw [szR_le (Nat.zero_le _)]; rfl
    rw [e0]
    clear hsm hr e0
    go_enter Try.func16, Try.ntmps16
    go_wp2
    go_loop [1, 5] (fun l i => l = .int .i64 left ∧ i = .int .i64 0) (fun _ _ => 0)
    case atStart => exact ⟨rfl, rfl⟩
    case round =>
      obtain ⟨rfl, rfl⟩ := hrel
      go_wp2
      exact bodyPost_ret (v := .int .i64 (left : Nat)) (by simp [results, Try.results16, go_sem]) rfl ⟨rfl, brf _⟩
  · unfold maxLen at hn
    by_cases hbig : left < xs.length
    · rw [szR_lt (by omega)]
      have q : (left : Int) - (xs.length : Int) < 0 := by omega
      clear hcs hr
      go_enter Try.func16, Try.ntmps16
      go_wp2
      exact bodyPost_ret (v := .int .i64 (-1)) (by simp [results, Try.results16, go_sem]) rfl ⟨rfl, brf _⟩
    · have HC := hide hcs
      clear hcs hr
      go_enter Try.func16, Try.ntmps16
      go_wp2
      go_loopw [1, 5] (fun l i wr => ∃ (j m : Nat), j ≤ xs.length ∧ i = .int .i64 j ∧ l = .int .i64 m ∧ m + xs.length + sm szPin (xs.take j) = left ∧ Below w.heap.size w wr) (fun l i wr => xs.length - (intOf i).toNat)
      case atStart => exact ⟨0, left - xs.length, Nat.zero_le _, rfl, by congr 1; omega, by simp [sm]; omega, brf _⟩
      case round =>
        obtain ⟨j, m, hj, rfl, rfl, hm, hb⟩ := hrel
        by_cases hjn : j < xs.length
        · have hx : xs[j]? = some xs[j] := List.getElem?_eq_getElem hjn
          generalize xs[j] = x at hx
          obtain ⟨u, hul, hat, hrx⟩ := unhide HC j x hx
          have st := sm_take (f := szPin) hx
          have sl := sm_le (f := szPin) (xs := xs) (j + 1)
          have PX := hide (szPin_of x u wr m (by omega) (RPin.keeps _ _ _ _ _ (later_cells hb 0) hrx))
          obtain ⟨rfl, _⟩ := hrx
          have k0 := cell_later hb (hat.get (j := 0) rfl)
          have k1 := cell_later hb (hat.get (j := 1) rfl)
          simp only [Nat.add_zero] at k0
          have HB := hide hb
          clear hb hat hul HC
          by_cases hfit : szPin x ≤ m
          · rw [szR_le hfit] at PX
            have q1 : ¬ (((m - szPin x : Nat) : Int) < 0) := by omega
            generalize hd : m - szPin x = d at *
            go_wp2_with (go_at_call 44; refine (unhide PX).mono ?_; rintro e v1 ⟨rfl, hb1⟩)
            exact ⟨⟨j + 1, d, by omega, by go_num, rfl, by omega, below_step (unhide HB) hb1⟩, by simp [intOf]; omega⟩
          · rw [szR_lt (by omega)] at PX
            have HF : Hid (szR (szL szPin xs) left = -1) := hide (szR_lt (by omega))
            go_wp2_with (go_at_call 44; refine (unhide PX).mono ?_; rintro e v1 ⟨rfl, hb1⟩)
            exact bodyPost_ret (v := .int .i64 (-1)) (by simp [results, Try.results16, go_sem]) rfl ⟨by rw [unhide HF], below_step (unhide HB) hb1⟩
        · obtain rfl : j = xs.length := by omega
          rw [List.take_length] at hm
          have HF : Hid (szR (szL szPin xs) left = (m : Int)) := hide (by rw [szR_le (by omega)]; omega)
          have HB := hide hb
          clear hb HC
          go_wp2
          exact bodyPost_ret (v := .int .i64 (m : Nat)) (by simp [results, Try.results16, go_sem]) rfl ⟨by rw [unhide HF], unhide HB⟩
set_option maxHeartbeats 1600000 in
theorem szAig_of (x : Aig) (u : List Value) (w : World) (left : Nat) (hl : left ≤ 1048576) (hr : RAig w 0 x u) :
    Calls Try.prog 4 #[.agg u.toArray, .int .i64 left] w fun e w' => e = .returned (.int .i64 (szR (szAig x) left)) ∧ Below w.heap.size w w' := by
  obtain ⟨v0, v1, v2, v3, v4, v5, rfl, r0, r1, r2, r3, r4, r5⟩ := hr
  have S0 := hide (fun (l : Nat) (hl : l ≤ 1048576) (W : World) (hb : Below w.heap.size w W) => szStringS_of x.ins v0 W l hl (r0.later RStr.keeps hb))
  obtain ⟨a0, c0, rfl⟩ := r0.slice
  have S1 := hide (fun (l : Nat) (hl : l ≤ 1048576) (W : World) (hb : Below w.heap.size w W) => szStringS_of x.clocks v1 W l hl (r1.later RStr.keeps hb))
  obtain ⟨a1, c1, rfl⟩ := r1.slice
  have S2 := hide (fun (l : Nat) (hl : l ≤ 1048576) (W : World) (hb : Below w.heap.size w W) => szLatchS_of x.latches v2 W l hl (r2.later RLatch.keeps hb))
  obtain ⟨a2, c2, rfl⟩ := r2.slice
  have S3 := hide (fun (l : Nat) (hl : l ≤ 1048576) (W : World) (hb : Below w.heap.size w W) => szAndGS_of x.ands v3 W l hl (r3.later RAndG.keeps hb))
  obtain ⟨a3, c3, rfl⟩ := r3.slice
  have S4 := hide (fun (l : Nat) (hl : l ≤ 1048576) (W : World) (hb : Below w.heap.size w W) => szPinS_of x.outs v4 W l hl (r4.later RPin.keeps hb))
  obtain ⟨a4, c4, rfl⟩ := r4.slice
  have S5 := hide (fun (l : Nat) (hl : l ≤ 1048576) (W : World) (hb : Below w.heap.size w W) => szPinS_of x.checks v5 W l hl (r5.later RPin.keeps hb))
  obtain ⟨a5, c5, rfl⟩ := r5.slice
  clear r0 r1 r2 r3 r4 r5
  have Z1 : Hid (∀ t, (w.alloc (.cells #[.slice a0 x.ins.length c0, .slice a1 x.clocks.length c1, .slice a2 x.latches.length c2, .slice a3 x.ands.length c3, .slice a4 x.outs.length c4, .slice a5 x.checks.length c5] t)).cell? ⟨w.heap.size, 1, none⟩ = some (.slice a1 x.clocks.length c1)) := hide (fun t => by rw [World.cell?_alloc_new]; rfl)
  have Z2 : Hid (∀ t, (w.alloc (.cells #[.slice a0 x.ins.length c0, .slice a1 x.clocks.length c1, .slice a2 x.latches.length c2, .slice a3 x.ands.length c3, .slice a4 x.outs.length c4, .slice a5 x.checks.length c5] t)).cell? ⟨w.heap.size, 2, none⟩ = some (.slice a2 x.latches.length c2)) := hide (fun t => by rw [World.cell?_alloc_new]; rfl)
  have Z3 : Hid (∀ t, (w.alloc (.cells #[.slice a0 x.ins.length c0, .slice a1 x.clocks.length c1, .slice a2 x.latches.length c2, .slice a3 x.ands.length c3, .slice a4 x.outs.length c4, .slice a5 x.checks.length c5] t)).cell? ⟨w.heap.size, 3, none⟩ = some (.slice a3 x.ands.length c3)) := hide (fun t => by rw [World.cell?_alloc_new]; rfl)
  have Z4 : Hid (∀ t, (w.alloc (.cells #[.slice a0 x.ins.length c0, .slice a1 x.clocks.length c1, .slice a2 x.latches.length c2, .slice a3 x.ands.length c3, .slice a4 x.outs.length c4, .slice a5 x.checks.length c5] t)).cell? ⟨w.heap.size, 4, none⟩ = some (.slice a4 x.outs.length c4)) := hide (fun t => by rw [World.cell?_alloc_new]; rfl)
  have Z5 : Hid (∀ t, (w.alloc (.cells #[.slice a0 x.ins.length c0, .slice a1 x.clocks.length c1, .slice a2 x.latches.length c2, .slice a3 x.ands.length c3, .slice a4 x.outs.length c4, .slice a5 x.checks.length c5] t)).cell? ⟨w.heap.size, 5, none⟩ = some (.slice a5 x.checks.length c5)) := hide (fun t => by rw [World.cell?_alloc_new]; rfl)
  have hsz : szAig x = szL (fun (s : ByteArray) => s.size) x.ins + szL (fun (s : ByteArray) => s.size) x.clocks + szL szLatch x.latches + szL szAndG x.ands + szL szPin x.outs + szL szPin x.checks := rfl
  generalize szAig x = total at *
  generalize szL (fun (s : ByteArray) => s.size) x.ins = s0 at *
  generalize szL (fun (s : ByteArray) => s.size) x.clocks = s1 at *
  generalize szL szLatch x.latches = s2 at *
  generalize szL szAndG x.ands = s3 at *
  generalize szL szPin x.outs = s4 at *
  generalize szL szPin x.checks = s5 at *
  by_cases h0 : left < s0
  · have HF : Hid (szR total left = -1) := hide (szR_lt (by omega))
    have T0 := hide (unhide S0 left (by omega))
    rw [szR_lt h0] at T0
    clear hsz
    go_enter Try.func4, Try.ntmps4
    go_wp2_with (first | (go_at_call 13; refine (unhide T0 _ (bal (brf w) _)).mono ?_; rintro e W1 ⟨rfl, hb1⟩; have hB1 := btr (bal (brf w) _) hb1; have y1_1 := cell_later hb1 (unhide Z1 _); have y1_2 := cell_later hb1 (unhide Z2 _); have y1_3 := cell_later hb1 (unhide Z3 _); have y1_4 := cell_later hb1 (unhide Z4 _); have y1_5 := cell_later hb1 (unhide Z5 _)))
    exact bodyPost_ret (v := .int .i64 (-1)) (by simp [results, Try.results4, go_sem]) rfl ⟨by rw [unhide HF], hB1⟩
  · obtain ⟨l0, e0⟩ : ∃ l0, l0 + s0 = left := ⟨left - s0, by omega⟩
    have T0 := hide (unhide S0 left (by omega))
    rw [szR_le (by omega), show left - s0 = l0 by omega] at T0
    by_cases h1 : l0 < s1
    · have HF : Hid (szR total left = -1) := hide (szR_lt (by omega))
      have T1 := hide (unhide S1 l0 (by omega))
      rw [szR_lt h1] at T1
      clear hsz
      go_enter Try.func4, Try.ntmps4
      go_wp2_with (first | (have hq2 := hB1; go_at_call 13; refine (unhide T1 _ hB1).mono ?_; rintro e W2 ⟨rfl, hb2⟩; have hB2 := btr hB1 hb2; have y2_2 := cell_later hb2 y1_2; have y2_3 := cell_later hb2 y1_3; have y2_4 := cell_later hb2 y1_4; have y2_5 := cell_later hb2 y1_5) | (go_at_call 13; refine (unhide T0 _ (bal (brf w) _)).mono ?_; rintro e W1 ⟨rfl, hb1⟩; have hB1 := btr (bal (brf w) _) hb1; have y1_1 := cell_later hb1 (unhide Z1 _); have y1_2 := cell_later hb1 (unhide Z2 _); have y1_3 := cell_later hb1 (unhide Z3 _); have y1_4 := cell_later hb1 (unhide Z4 _); have y1_5 := cell_later hb1 (unhide Z5 _)))
      exact bodyPost_ret (v := .int .i64 (-1)) (by simp [results, Try.results4, go_sem]) rfl ⟨by rw [unhide HF], hB2⟩
    · obtain ⟨l1, e1⟩ : ∃ l1, l1 + s1 = l0 := ⟨l0 - s1, by omega⟩
      have T1 := hide (unhide S1 l0 (by omega))
      rw [szR_le (by omega), show l0 - s1 = l1 by omega] at T1
      by_cases h2 : l1 < s2
      · have HF : Hid (szR total left = -1) := hide (szR_lt (by omega))
        have T2 := hide (unhide S2 l1 (by omega))
        rw [szR_lt h2] at T2
        clear hsz
        go_enter Try.func4, Try.ntmps4
        go_wp2_with (first | (have hq3 := hB2; go_at_call 14; refine (unhide T2 _ hB2).mono ?_; rintro e W3 ⟨rfl, hb3⟩; have hB3 := btr hB2 hb3; have y3_3 := cell_later hb3 y2_3; have y3_4 := cell_later hb3 y2_4; have y3_5 := cell_later hb3 y2_5) | (have hq2 := hB1; go_at_call 13; refine (unhide T1 _ hB1).mono ?_; rintro e W2 ⟨rfl, hb2⟩; have hB2 := btr hB1 hb2; have y2_2 := cell_later hb2 y1_2; have y2_3 := cell_later hb2 y1_3; have y2_4 := cell_later hb2 y1_4; have y2_5 := cell_later hb2 y1_5) | (go_at_call 13; refine (unhide T0 _ (bal (brf w) _)).mono ?_; rintro e W1 ⟨rfl, hb1⟩; have hB1 := btr (bal (brf w) _) hb1; have y1_1 := cell_later hb1 (unhide Z1 _); have y1_2 := cell_later hb1 (unhide Z2 _); have y1_3 := cell_later hb1 (unhide Z3 _); have y1_4 := cell_later hb1 (unhide Z4 _); have y1_5 := cell_later hb1 (unhide Z5 _)))
        exact bodyPost_ret (v := .int .i64 (-1)) (by simp [results, Try.results4, go_sem]) rfl ⟨by rw [unhide HF], hB3⟩
      · obtain ⟨l2, e2⟩ : ∃ l2, l2 + s2 = l1 := ⟨l1 - s2, by omega⟩
        have T2 := hide (unhide S2 l1 (by omega))
        rw [szR_le (by omega), show l1 - s2 = l2 by omega] at T2
        by_cases h3 : l2 < s3
        · have HF : Hid (szR total left = -1) := hide (szR_lt (by omega))
          have T3 := hide (unhide S3 l2 (by omega))
          rw [szR_lt h3] at T3
          clear hsz
          go_enter Try.func4, Try.ntmps4
          go_wp2_with (first | (have hq4 := hB3; go_at_call 15; refine (unhide T3 _ hB3).mono ?_; rintro e W4 ⟨rfl, hb4⟩; have hB4 := btr hB3 hb4; have y4_4 := cell_later hb4 y3_4; have y4_5 := cell_later hb4 y3_5) | (have hq3 := hB2; go_at_call 14; refine (unhide T2 _ hB2).mono ?_; rintro e W3 ⟨rfl, hb3⟩; have hB3 := btr hB2 hb3; have y3_3 := cell_later hb3 y2_3; have y3_4 := cell_later hb3 y2_4; have y3_5 := cell_later hb3 y2_5) | (have hq2 := hB1; go_at_call 13; refine (unhide T1 _ hB1).mono ?_; rintro e W2 ⟨rfl, hb2⟩; have hB2 := btr hB1 hb2; have y2_2 := cell_later hb2 y1_2; have y2_3 := cell_later hb2 y1_3; have y2_4 := cell_later hb2 y1_4; have y2_5 := cell_later hb2 y1_5) | (go_at_call 13; refine (unhide T0 _ (bal (brf w) _)).mono ?_; rintro e W1 ⟨rfl, hb1⟩; have hB1 := btr (bal (brf w) _) hb1; have y1_1 := cell_later hb1 (unhide Z1 _); have y1_2 := cell_later hb1 (unhide Z2 _); have y1_3 := cell_later hb1 (unhide Z3 _); have y1_4 := cell_later hb1 (unhide Z4 _); have y1_5 := cell_later hb1 (unhide Z5 _)))
          exact bodyPost_ret (v := .int .i64 (-1)) (by simp [results, Try.results4, go_sem]) rfl ⟨by rw [unhide HF], hB4⟩
        · obtain ⟨l3, e3⟩ : ∃ l3, l3 + s3 = l2 := ⟨l2 - s3, by omega⟩
          have T3 := hide (unhide S3 l2 (by omega))
          rw [szR_le (by omega), show l2 - s3 = l3 by omega] at T3
          by_cases h4 : l3 < s4
          · have HF : Hid (szR total left = -1) := hide (szR_lt (by omega))
            have T4 := hide (unhide S4 l3 (by omega))
            rw [szR_lt h4] at T4
            clear hsz
            go_enter Try.func4, Try.ntmps4
            go_wp2_with (first | (have hq5 := hB4; go_at_call 16; refine (unhide T4 _ hB4).mono ?_; rintro e W5 ⟨rfl, hb5⟩; have hB5 := btr hB4 hb5; have y5_5 := cell_later hb5 y4_5) | (have hq4 := hB3; go_at_call 15; refine (unhide T3 _ hB3).mono ?_; rintro e W4 ⟨rfl, hb4⟩; have hB4 := btr hB3 hb4; have y4_4 := cell_later hb4 y3_4; have y4_5 := cell_later hb4 y3_5) | (have hq3 := hB2; go_at_call 14; refine (unhide T2 _ hB2).mono ?_; rintro e W3 ⟨rfl, hb3⟩; have hB3 := btr hB2 hb3; have y3_3 := cell_later hb3 y2_3; have y3_4 := cell_later hb3 y2_4; have y3_5 := cell_later hb3 y2_5) | (have hq2 := hB1; go_at_call 13; refine (unhide T1 _ hB1).mono ?_; rintro e W2 ⟨rfl, hb2⟩; have hB2 := btr hB1 hb2; have y2_2 := cell_later hb2 y1_2; have y2_3 := cell_later hb2 y1_3; have y2_4 := cell_later hb2 y1_4; have y2_5 := cell_later hb2 y1_5) | (go_at_call 13; refine (unhide T0 _ (bal (brf w) _)).mono ?_; rintro e W1 ⟨rfl, hb1⟩; have hB1 := btr (bal (brf w) _) hb1; have y1_1 := cell_later hb1 (unhide Z1 _); have y1_2 := cell_later hb1 (unhide Z2 _); have y1_3 := cell_later hb1 (unhide Z3 _); have y1_4 := cell_later hb1 (unhide Z4 _); have y1_5 := cell_later hb1 (unhide Z5 _)))
            exact bodyPost_ret (v := .int .i64 (-1)) (by simp [results, Try.results4, go_sem]) rfl ⟨by rw [unhide HF], hB5⟩
          · obtain ⟨l4, e4⟩ : ∃ l4, l4 + s4 = l3 := ⟨l3 - s4, by omega⟩
            have T4 := hide (unhide S4 l3 (by omega))
            rw [szR_le (by omega), show l3 - s4 = l4 by omega] at T4
            by_cases h5 : l4 < s5
            · have HF : Hid (szR total left = -1) := hide (szR_lt (by omega))
              have T5 := hide (unhide S5 l4 (by omega))
              rw [szR_lt h5] at T5
              clear hsz
              go_enter Try.func4, Try.ntmps4
              go_wp2_with (first | (have hq6 := hB5; go_at_call 16; refine (unhide T5 _ hB5).mono ?_; rintro e W6 ⟨rfl, hb6⟩; have hB6 := btr hB5 hb6) | (have hq5 := hB4; go_at_call 16; refine (unhide T4 _ hB4).mono ?_; rintro e W5 ⟨rfl, hb5⟩; have hB5 := btr hB4 hb5; have y5_5 := cell_later hb5 y4_5) | (have hq4 := hB3; go_at_call 15; refine (unhide T3 _ hB3).mono ?_; rintro e W4 ⟨rfl, hb4⟩; have hB4 := btr hB3 hb4; have y4_4 := cell_later hb4 y3_4; have y4_5 := cell_later hb4 y3_5) | (have hq3 := hB2; go_at_call 14; refine (unhide T2 _ hB2).mono ?_; rintro e W3 ⟨rfl, hb3⟩; have hB3 := btr hB2 hb3; have y3_3 := cell_later hb3 y2_3; have y3_4 := cell_later hb3 y2_4; have y3_5 := cell_later hb3 y2_5) | (have hq2 := hB1; go_at_call 13; refine (unhide T1 _ hB1).mono ?_; rintro e W2 ⟨rfl, hb2⟩; have hB2 := btr hB1 hb2; have y2_2 := cell_later hb2 y1_2; have y2_3 := cell_later hb2 y1_3; have y2_4 := cell_later hb2 y1_4; have y2_5 := cell_later hb2 y1_5) | (go_at_call 13; refine (unhide T0 _ (bal (brf w) _)).mono ?_; rintro e W1 ⟨rfl, hb1⟩; have hB1 := btr (bal (brf w) _) hb1; have y1_1 := cell_later hb1 (unhide Z1 _); have y1_2 := cell_later hb1 (unhide Z2 _); have y1_3 := cell_later hb1 (unhide Z3 _); have y1_4 := cell_later hb1 (unhide Z4 _); have y1_5 := cell_later hb1 (unhide Z5 _)))
              exact bodyPost_ret (v := .int .i64 (-1)) (by simp [results, Try.results4, go_sem]) rfl ⟨by rw [unhide HF], hB6⟩
            · obtain ⟨l5, e5⟩ : ∃ l5, l5 + s5 = l4 := ⟨l4 - s5, by omega⟩
              have T5 := hide (unhide S5 l4 (by omega))
              rw [szR_le (by omega), show l4 - s5 = l5 by omega] at T5
              have HF : Hid (szR total left = (l5 : Int)) := hide (by rw [szR_le (by omega)]; omega)
              clear hsz
              go_enter Try.func4, Try.ntmps4
              go_wp2_with (first | (have hq6 := hB5; go_at_call 16; refine (unhide T5 _ hB5).mono ?_; rintro e W6 ⟨rfl, hb6⟩; have hB6 := btr hB5 hb6) | (have hq5 := hB4; go_at_call 16; refine (unhide T4 _ hB4).mono ?_; rintro e W5 ⟨rfl, hb5⟩; have hB5 := btr hB4 hb5; have y5_5 := cell_later hb5 y4_5) | (have hq4 := hB3; go_at_call 15; refine (unhide T3 _ hB3).mono ?_; rintro e W4 ⟨rfl, hb4⟩; have hB4 := btr hB3 hb4; have y4_4 := cell_later hb4 y3_4; have y4_5 := cell_later hb4 y3_5) | (have hq3 := hB2; go_at_call 14; refine (unhide T2 _ hB2).mono ?_; rintro e W3 ⟨rfl, hb3⟩; have hB3 := btr hB2 hb3; have y3_3 := cell_later hb3 y2_3; have y3_4 := cell_later hb3 y2_4; have y3_5 := cell_later hb3 y2_5) | (have hq2 := hB1; go_at_call 13; refine (unhide T1 _ hB1).mono ?_; rintro e W2 ⟨rfl, hb2⟩; have hB2 := btr hB1 hb2; have y2_2 := cell_later hb2 y1_2; have y2_3 := cell_later hb2 y1_3; have y2_4 := cell_later hb2 y1_4; have y2_5 := cell_later hb2 y1_5) | (go_at_call 13; refine (unhide T0 _ (bal (brf w) _)).mono ?_; rintro e W1 ⟨rfl, hb1⟩; have hB1 := btr (bal (brf w) _) hb1; have y1_1 := cell_later hb1 (unhide Z1 _); have y1_2 := cell_later hb1 (unhide Z2 _); have y1_3 := cell_later hb1 (unhide Z3 _); have y1_4 := cell_later hb1 (unhide Z4 _); have y1_5 := cell_later hb1 (unhide Z5 _)))
              exact bodyPost_ret (v := .int .i64 (l5 : Nat)) (by simp [results, Try.results4, go_sem]) rfl ⟨by rw [unhide HF], hB6⟩
end Go.Proofs.Ytnoklbnacfmpdac
