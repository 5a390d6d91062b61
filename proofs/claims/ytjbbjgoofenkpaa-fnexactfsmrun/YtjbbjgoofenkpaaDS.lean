/- What the laws' sz functions answer. -/
import Derived.Test.YtjbbjgoofenkpaaDD
namespace Go.Proofs.Ytjbbjgoofenkpaa
open Go.RowKit Gs
set_option linter.unusedVariables false
set_option maxRecDepth 100000
theorem below_step {w W V : World} (h : Below w.heap.size w W) (hb : Below W.heap.size W V) : Below w.heap.size w V := btr h hb
set_option maxHeartbeats 800000 in
theorem szStringS_of (xs : List ByteArray) (v : Value) (w : World) (left : Nat) (hl : left ≤ 1048576) (hr : RS 1 RStr w 0 xs v) :
    Calls Try.prog 16 #[v, .int .i64 left] w fun e w' => e = .returned (.int .i64 (szR (szL (fun (s : ByteArray) => s.size) xs) left)) ∧ Below w.heap.size w w' := by
  have hsm := szL_sm (fun (s : ByteArray) => s.size) xs
  rcases hr.open with ⟨rfl, a, c, rfl⟩ | ⟨b, o, c, rfl, hc, hn, _, hcs⟩
  · have e0 : szR (szL (fun (s : ByteArray) => s.size) []) left = (left : Int) := by show szR 0 left = _; rw [szR_le (Nat.zero_le _)]; rfl
    rw [e0]
    clear hsm hr e0
    go_enter Try.func16, Try.ntmps16
    go_wp2
    go_loop [1, 5] (fun l i => l = .int .i64 left ∧ i = .int .i64 0) (fun _ _ => 0)
    case atStart => exact ⟨rfl, rfl⟩
    case round =>
      obtain ⟨rfl, rfl⟩ := hrel
      go_wp2
      exact bodyPost_ret (v := .int .i64 (left : Nat)) (by simp [results, Try.results16, go_sem]) rfl ⟨rfl, brf _⟩
  · unfold maxLen at hn
    by_cases hbig : left < xs.length
    · rw [szR_lt (by omega)]
      have q : (left : Int) - (xs.length : Int) < 0 := by omega
      clear hcs hr
      go_enter Try.func16, Try.ntmps16
      go_wp2
      exact bodyPost_ret (v := .int .i64 (-1)) (by simp [results, Try.results16, go_sem]) rfl ⟨rfl, brf _⟩
    · have HC := hide hcs
      clear hcs hr
      go_enter Try.func16, Try.ntmps16
      go_wp2
      go_loopw [1, 5] (fun l i wr => ∃ (j m : Nat), j ≤ xs.length ∧ i = .int .i64 j ∧ l = .int .i64 m ∧ m + xs.length + sm (fun (s : ByteArray) => s.size) (xs.take j) = left ∧ Below w.heap.size w wr) (fun l i wr => xs.length - (intOf i).toNat)
      case atStart => exact ⟨0, left - xs.length, Nat.zero_le _, rfl, by congr 1; omega, by simp [sm]; omega, brf _⟩
      case round =>
        obtain ⟨j, m, hj, rfl, rfl, hm, hb⟩ := hrel
        by_cases hjn : j < xs.length
        · have hx : xs[j]? = some xs[j] := List.getElem?_eq_getElem hjn
          generalize xs[j] = x at hx
          obtain ⟨u, hul, hat, hrx⟩ := unhide HC j x hx
          have st := sm_take (f := (fun (s : ByteArray) => s.size)) hx
          have sl := sm_le (f := (fun (s : ByteArray) => s.size)) (xs := xs) (j + 1)
          obtain ⟨rfl, hts⟩ := hrx
          unfold maxLen at hts
          have k0 := cell_later hb (hat.get (j := 0) rfl)
          have HB := hide hb
          simp only [Nat.add_zero, Nat.mul_one] at k0
          clear hb hat hul HC
          by_cases hfit : x.size ≤ m
          · obtain ⟨d, hd⟩ : ∃ d, d + x.size = m := ⟨m - x.size, by omega⟩
            have q1 : (m : Int) - (x.size : Int) = (d : Int) := by omega
            go_wp2
            exact ⟨⟨j + 1, d, by omega, by go_num, rfl, by omega, unhide HB⟩, by simp [intOf]; omega⟩
          · have HF : Hid (szR (szL (fun (s : ByteArray) => s.size) xs) left = -1) := hide (szR_lt (by omega))
            have q1 : (m : Int) - (x.size : Int) < 0 := by omega
            go_wp2
            exact bodyPost_ret (v := .int .i64 (-1)) (by simp [results, Try.results16, go_sem]) rfl ⟨by rw [unhide HF], unhide HB⟩
        · obtain rfl : j = xs.length := by omega
          rw [List.take_length] at hm
          have HF : Hid (szR (szL (fun (s : ByteArray) => s.size) xs) left = (m : Int)) := hide (by rw [szR_le (by omega)]; omega)
          have HB := hide hb
          clear hb HC
          go_wp2
          exact bodyPost_ret (v := .int .i64 (m : Nat)) (by simp [results, Try.results16, go_sem]) rfl ⟨by rw [unhide HF], unhide HB⟩
set_option maxHeartbeats 800000 in
theorem szIntS_of (xs : List Int) (v : Value) (w : World) (left : Nat) (hl : left ≤ 1048576) (hr : RS 1 RInt w 0 xs v) :
    Calls Try.prog 31 #[v, .int .i64 left] w fun e w' => e = .returned (.int .i64 (szR (szL (fun (_ : Int) => 0) xs) left)) ∧ Below w.heap.size w w' := by
  have hsm := szL_sm (fun (_ : Int) => 0) xs
  have h0 : sm (fun (_ : Int) => 0) xs = 0 := sm_zero xs
  obtain ⟨a, c, rfl⟩ := hr.slice
  have hn := hr.len
  unfold maxLen at hn
  clear hr
  by_cases hbig : left < xs.length
  · rw [szR_lt (by omega)]
    have q : (left : Int) - (xs.length : Int) < 0 := by omega
    go_enter Try.func31, Try.ntmps31
    go_wp2
    exact bodyPost_ret (v := .int .i64 (-1)) (by simp [results, Try.results31, go_sem]) rfl ⟨rfl, brf _⟩
  · rw [szR_le (by omega)]
    obtain ⟨m, hm⟩ : ∃ m, m + xs.length = left := ⟨left - xs.length, by omega⟩
    have e1 : left - szL (fun (_ : Int) => 0) xs = m := by omega
    have q : (left : Int) - (xs.length : Int) = (m : Int) := by omega
    rw [e1]
    clear e1 hsm h0
    go_enter Try.func31, Try.ntmps31
    go_wp2
    exact bodyPost_ret (v := .int .i64 (m : Nat)) (by simp [results, Try.results31, go_sem]) rfl ⟨rfl, brf _⟩
set_option maxHeartbeats 800000 in
theorem szIntSS_of (xs : List (List Int)) (v : Value) (w : World) (left : Nat) (hl : left ≤ 1048576) (hr : RS 1 RIntS w 0 xs v) :
    Calls Try.prog 17 #[v, .int .i64 left] w fun e w' => e = .returned (.int .i64 (szR (szL szIntS xs) left)) ∧ Below w.heap.size w w' := by
  have hsm := szL_sm szIntS xs
  rcases hr.open with ⟨rfl, a, c, rfl⟩ | ⟨b, o, c, rfl, hc, hn, _, hcs⟩
  · have e0 : szR (szL szIntS []) left = (left : Int) := by show szR 0 left = _; rw [szR_le (Nat.zero_le _)]; rfl
    rw [e0]
    clear hsm hr e0
    go_enter Try.func17, Try.ntmps17
    go_wp2
    go_loop [1, 5] (fun l i => l = .int .i64 left ∧ i = .int .i64 0) (fun _ _ => 0)
    case atStart => exact ⟨rfl, rfl⟩
    case round =>
      obtain ⟨rfl, rfl⟩ := hrel
      go_wp2
      exact bodyPost_ret (v := .int .i64 (left : Nat)) (by simp [results, Try.results17, go_sem]) rfl ⟨rfl, brf _⟩
  · unfold maxLen at hn
    by_cases hbig : left < xs.length
    · rw [szR_lt (by omega)]
      have q : (left : Int) - (xs.length : Int) < 0 := by omega
      clear hcs hr
      go_enter Try.func17, Try.ntmps17
      go_wp2
      exact bodyPost_ret (v := .int .i64 (-1)) (by simp [results, Try.results17, go_sem]) rfl ⟨rfl, brf _⟩
    · have HC := hide hcs
      clear hcs hr
      go_enter Try.func17, Try.ntmps17
      go_wp2
      go_loopw [1, 5] (fun l i wr => ∃ (j m : Nat), j ≤ xs.length ∧ i = .int .i64 j ∧ l = .int .i64 m ∧ m + xs.length + sm szIntS (xs.take j) = left ∧ Below w.heap.size w wr) (fun l i wr => xs.length - (intOf i).toNat)
      case atStart => exact ⟨0, left - xs.length, Nat.zero_le _, rfl, by congr 1; omega, by simp [sm]; omega, brf _⟩
      case round =>
        obtain ⟨j, m, hj, rfl, rfl, hm, hb⟩ := hrel
        by_cases hjn : j < xs.length
        · have hx : xs[j]? = some xs[j] := List.getElem?_eq_getElem hjn
          generalize xs[j] = x at hx
          obtain ⟨u, hul, hat, hrx⟩ := unhide HC j x hx
          have st := sm_take (f := szIntS) hx
          have sl := sm_le (f := szIntS) (xs := xs) (j + 1)
          obtain ⟨ve, rfl, hve⟩ := hrx
          have PX := hide (szIntS_of x ve wr m (by omega) (hve.later RInt.keeps hb))
          obtain ⟨ae, ce, rfl⟩ := hve.slice
          have k0 := cell_later hb (hat.get (j := 0) rfl)
          simp only [Nat.add_zero, Nat.mul_one] at k0
          have HB := hide hb
          have hdf : szIntS x = szL (fun (_ : Int) => 0) x := rfl
          clear hb hat hul HC hve
          by_cases hfit : szIntS x ≤ m
          · rw [szR_le (by omega)] at PX
            have q1 : ¬ (((m - szL (fun (_ : Int) => 0) x : Nat) : Int) < 0) := by omega
            generalize hd : m - szL (fun (_ : Int) => 0) x = d at *
            go_wp2_with (go_at_call 31; refine (unhide PX).mono ?_; rintro e v1 ⟨rfl, hb1⟩)
            exact ⟨⟨j + 1, d, by omega, by go_num, rfl, by omega, below_step (unhide HB) hb1⟩, by simp [intOf]; omega⟩
          · rw [szR_lt (by omega)] at PX
            have HF : Hid (szR (szL szIntS xs) left = -1) := hide (szR_lt (by omega))
            go_wp2_with (go_at_call 31; refine (unhide PX).mono ?_; rintro e v1 ⟨rfl, hb1⟩)
            exact bodyPost_ret (v := .int .i64 (-1)) (by simp [results, Try.results17, go_sem]) rfl ⟨by rw [unhide HF], below_step (unhide HB) hb1⟩
        · obtain rfl : j = xs.length := by omega
          rw [List.take_length] at hm
          have HF : Hid (szR (szL szIntS xs) left = (m : Int)) := hide (by rw [szR_le (by omega)]; omega)
          have HB := hide hb
          clear hb HC
          go_wp2
          exact bodyPost_ret (v := .int .i64 (m : Nat)) (by simp [results, Try.results17, go_sem]) rfl ⟨by rw [unhide HF], unhide HB⟩
set_option maxHeartbeats 800000 in
theorem szStringSS_of (xs : List (List ByteArray)) (v : Value) (w : World) (left : Nat) (hl : left ≤ 1048576) (hr : RS 1 RStringS w 0 xs v) :
    Calls Try.prog 18 #[v, .int .i64 left] w fun e w' => e = .returned (.int .i64 (szR (szL szStringS xs) left)) ∧ Below w.heap.size w w' := by
  have hsm := szL_sm szStringS xs
  rcases hr.open with ⟨rfl, a, c, rfl⟩ | ⟨b, o, c, rfl, hc, hn, _, hcs⟩
  · have e0 : szR (szL szStringS []) left = (left : Int) := by show szR 0 left = _; rw [szR_le (Nat.zero_le _)]; rfl
    rw [e0]
    clear hsm hr e0
    go_enter Try.func18, Try.ntmps18
    go_wp2
    go_loop [1, 5] (fun l i => l = .int .i64 left ∧ i = .int .i64 0) (fun _ _ => 0)
    case atStart => exact ⟨rfl, rfl⟩
    case round =>
      obtain ⟨rfl, rfl⟩ := hrel
      go_wp2
      exact bodyPost_ret (v := .int .i64 (left : Nat)) (by simp [results, Try.results18, go_sem]) rfl ⟨rfl, brf _⟩
  · unfold maxLen at hn
    by_cases hbig : left < xs.length
    · rw [szR_lt (by omega)]
      have q : (left : Int) - (xs.length : Int) < 0 := by omega
      clear hcs hr
      go_enter Try.func18, Try.ntmps18
      go_wp2
      exact bodyPost_ret (v := .int .i64 (-1)) (by simp [results, Try.results18, go_sem]) rfl ⟨rfl, brf _⟩
    · have HC := hide hcs
      clear hcs hr
      go_enter Try.func18, Try.ntmps18
      go_wp2
      go_loopw [1, 5] (fun l i wr => ∃ (j m : Nat), j ≤ xs.length ∧ i = .int .i64 j ∧ l = .int .i64 m ∧ m + xs.length + sm szStringS (xs.take j) = left ∧ Below w.heap.size w wr) (fun l i wr => xs.length - (intOf i).toNat)
      case atStart => exact ⟨0, left - xs.length, Nat.zero_le _, rfl, by congr 1; omega, by simp [sm]; omega, brf _⟩
      case round =>
        obtain ⟨j, m, hj, rfl, rfl, hm, hb⟩ := hrel
        by_cases hjn : j < xs.length
        · have hx : xs[j]? = some xs[j] := List.getElem?_eq_getElem hjn
          generalize xs[j] = x at hx
          obtain ⟨u, hul, hat, hrx⟩ := unhide HC j x hx
          have st := sm_take (f := szStringS) hx
          have sl := sm_le (f := szStringS) (xs := xs) (j + 1)
          obtain ⟨ve, rfl, hve⟩ := hrx
          have PX := hide (szStringS_of x ve wr m (by omega) (hve.later RStr.keeps hb))
          obtain ⟨ae, ce, rfl⟩ := hve.slice
          have k0 := cell_later hb (hat.get (j := 0) rfl)
          simp only [Nat.add_zero, Nat.mul_one] at k0
          have HB := hide hb
          have hdf : szStringS x = szL (fun (s : ByteArray) => s.size) x := rfl
          clear hb hat hul HC hve
          by_cases hfit : szStringS x ≤ m
          · rw [szR_le (by omega)] at PX
            have q1 : ¬ (((m - szL (fun (s : ByteArray) => s.size) x : Nat) : Int) < 0) := by omega
            generalize hd : m - szL (fun (s : ByteArray) => s.size) x = d at *
            go_wp2_with (go_at_call 16; refine (unhide PX).mono ?_; rintro e v1 ⟨rfl, hb1⟩)
            exact ⟨⟨j + 1, d, by omega, by go_num, rfl, by omega, below_step (unhide HB) hb1⟩, by simp [intOf]; omega⟩
          · rw [szR_lt (by omega)] at PX
            have HF : Hid (szR (szL szStringS xs) left = -1) := hide (szR_lt (by omega))
            go_wp2_with (go_at_call 16; refine (unhide PX).mono ?_; rintro e v1 ⟨rfl, hb1⟩)
            exact bodyPost_ret (v := .int .i64 (-1)) (by simp [results, Try.results18, go_sem]) rfl ⟨by rw [unhide HF], below_step (unhide HB) hb1⟩
        · obtain rfl : j = xs.length := by omega
          rw [List.take_length] at hm
          have HF : Hid (szR (szL szStringS xs) left = (m : Int)) := hide (by rw [szR_le (by omega)]; omega)
          have HB := hide hb
          clear hb HC
          go_wp2
          exact bodyPost_ret (v := .int .i64 (m : Nat)) (by simp [results, Try.results18, go_sem]) rfl ⟨by rw [unhide HF], unhide HB⟩
set_option maxHeartbeats 1600000 in
theorem szFsm_of (x : Fsm) (u : List Value) (w : World) (left : Nat) (hl : left ≤ 1048576) (hr : RFsm w 0 x u) :
    Calls Try.prog 4 #[.agg u.toArray, .int .i64 left] w fun e w' => e = .returned (.int .i64 (szR (szFsm x) left)) ∧ Below w.heap.size w w' := by
  obtain ⟨v2, v3, v4, rfl, r2, r3, r4⟩ := hr
  have S2 := hide (fun (l : Nat) (hl : l ≤ 1048576) (W : World) (hb : Below w.heap.size w W) => szStringS_of x.states v2 W l hl (r2.later RStr.keeps hb))
  obtain ⟨a2, c2, rfl⟩ := r2.slice
  have S3 := hide (fun (l : Nat) (hl : l ≤ 1048576) (W : World) (hb : Below w.heap.size w W) => szIntSS_of x.next v3 W l hl (r3.later RIntS.keeps hb))
  obtain ⟨a3, c3, rfl⟩ := r3.slice
  have S4 := hide (fun (l : Nat) (hl : l ≤ 1048576) (W : World) (hb : Below w.heap.size w W) => szStringSS_of x.outs v4 W l hl (r4.later RStringS.keeps hb))
  obtain ⟨a4, c4, rfl⟩ := r4.slice
  clear r2 r3 r4
  have Z3 : Hid (∀ t, (w.alloc (.cells #[.int .i64 x.ins, .int .i64 x.outBits, .slice a2 x.states.length c2, .slice a3 x.next.length c3, .slice a4 x.outs.length c4] t)).cell? ⟨w.heap.size, 3, none⟩ = some (.slice a3 x.next.length c3)) := hide (fun t => by rw [World.cell?_alloc_new]; rfl)
  have Z4 : Hid (∀ t, (w.alloc (.cells #[.int .i64 x.ins, .int .i64 x.outBits, .slice a2 x.states.length c2, .slice a3 x.next.length c3, .slice a4 x.outs.length c4] t)).cell? ⟨w.heap.size, 4, none⟩ = some (.slice a4 x.outs.length c4)) := hide (fun t => by rw [World.cell?_alloc_new]; rfl)
  have hsz : szFsm x = szL (fun (s : ByteArray) => s.size) x.states + szL szIntS x.next + szL szStringS x.outs := rfl
  generalize szFsm x = total at *
  generalize szL (fun (s : ByteArray) => s.size) x.states = s2 at *
  generalize szL szIntS x.next = s3 at *
  generalize szL szStringS x.outs = s4 at *
  by_cases h0 : left < s2
  · have HF : Hid (szR total left = -1) := hide (szR_lt (by omega))
    have T2 := hide (unhide S2 left (by omega))
    rw [szR_lt h0] at T2
    clear hsz
    go_enter Try.func4, Try.ntmps4
    go_wp2_with (first | (go_at_call 16; refine (unhide T2 _ (bal (brf w) _)).mono ?_; rintro e W1 ⟨rfl, hb1⟩; have hB1 := btr (bal (brf w) _) hb1; have y1_3 := cell_later hb1 (unhide Z3 _); have y1_4 := cell_later hb1 (unhide Z4 _)))
    exact bodyPost_ret (v := .int .i64 (-1)) (by simp [results, Try.results4, go_sem]) rfl ⟨by rw [unhide HF], hB1⟩
  · obtain ⟨l0, e0⟩ : ∃ l0, l0 + s2 = left := ⟨left - s2, by omega⟩
    have T2 := hide (unhide S2 left (by omega))
    rw [szR_le (by omega), show left - s2 = l0 by omega] at T2
    by_cases h1 : l0 < s3
    · have HF : Hid (szR total left = -1) := hide (szR_lt (by omega))
      have T3 := hide (unhide S3 l0 (by omega))
      rw [szR_lt h1] at T3
      clear hsz
      go_enter Try.func4, Try.ntmps4
      go_wp2_with (first | (have hq2 := hB1; go_at_call 17; refine (unhide T3 _ hB1).mono ?_; rintro e W2 ⟨rfl, hb2⟩; have hB2 := btr hB1 hb2; have y2_4 := cell_later hb2 y1_4) | (go_at_call 16; refine (unhide T2 _ (bal (brf w) _)).mono ?_; rintro e W1 ⟨rfl, hb1⟩; have hB1 := btr (bal (brf w) _) hb1; have y1_3 := cell_later hb1 (unhide Z3 _); have y1_4 := cell_later hb1 (unhide Z4 _)))
      exact bodyPost_ret (v := .int .i64 (-1)) (by simp [results, Try.results4, go_sem]) rfl ⟨by rw [unhide HF], hB2⟩
    · obtain ⟨l1, e1⟩ : ∃ l1, l1 + s3 = l0 := ⟨l0 - s3, by omega⟩
      have T3 := hide (unhide S3 l0 (by omega))
      rw [szR_le (by omega), show l0 - s3 = l1 by omega] at T3
      by_cases h2 : l1 < s4
      · have HF : Hid (szR total left = -1) := hide (szR_lt (by omega))
        have T4 := hide (unhide S4 l1 (by omega))
        rw [szR_lt h2] at T4
        clear hsz
        go_enter Try.func4, Try.ntmps4
        go_wp2_with (first | (have hq3 := hB2; go_at_call 18; refine (unhide T4 _ hB2).mono ?_; rintro e W3 ⟨rfl, hb3⟩; have hB3 := btr hB2 hb3) | (have hq2 := hB1; go_at_call 17; refine (unhide T3 _ hB1).mono ?_; rintro e W2 ⟨rfl, hb2⟩; have hB2 := btr hB1 hb2; have y2_4 := cell_later hb2 y1_4) | (go_at_call 16; refine (unhide T2 _ (bal (brf w) _)).mono ?_; rintro e W1 ⟨rfl, hb1⟩; have hB1 := btr (bal (brf w) _) hb1; have y1_3 := cell_later hb1 (unhide Z3 _); have y1_4 := cell_later hb1 (unhide Z4 _)))
        exact bodyPost_ret (v := .int .i64 (-1)) (by simp [results, Try.results4, go_sem]) rfl ⟨by rw [unhide HF], hB3⟩
      · obtain ⟨l2, e2⟩ : ∃ l2, l2 + s4 = l1 := ⟨l1 - s4, by omega⟩
        have T4 := hide (unhide S4 l1 (by omega))
        rw [szR_le (by omega), show l1 - s4 = l2 by omega] at T4
        have HF : Hid (szR total left = (l2 : Int)) := hide (by rw [szR_le (by omega)]; omega)
        clear hsz
        go_enter Try.func4, Try.ntmps4
        go_wp2_with (first | (have hq3 := hB2; go_at_call 18; refine (unhide T4 _ hB2).mono ?_; rintro e W3 ⟨rfl, hb3⟩; have hB3 := btr hB2 hb3) | (have hq2 := hB1; go_at_call 17; refine (unhide T3 _ hB1).mono ?_; rintro e W2 ⟨rfl, hb2⟩; have hB2 := btr hB1 hb2; have y2_4 := cell_later hb2 y1_4) | (go_at_call 16; refine (unhide T2 _ (bal (brf w) _)).mono ?_; rintro e W1 ⟨rfl, hb1⟩; have hB1 := btr (bal (brf w) _) hb1; have y1_3 := cell_later hb1 (unhide Z3 _); have y1_4 := cell_later hb1 (unhide Z4 _)))
        exact bodyPost_ret (v := .int .i64 (l2 : Nat)) (by simp [results, Try.results4, go_sem]) rfl ⟨by rw [unhide HF], hB3⟩
end Go.Proofs.Ytjbbjgoofenkpaa
