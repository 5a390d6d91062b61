/- What the laws' sz functions answer. -/
import Derived.Test.YtlldfaniddbjaaaGreatDoorGN2
namespace Go.Proofs.YtlldfaniddbjaaaGreatDoor
open Go.RowKit Gs
set_option linter.unusedVariables false
set_option maxRecDepth 100000
theorem below_step {w W V : World} (h : Below w.heap.size w W) (hb : Below W.heap.size W V) : Below w.heap.size w V := btr h hb
set_option maxHeartbeats 800000 in
theorem szStringS_of (xs : List ByteArray) (v : Value) (w : World) (left : Nat) (hl : left ≤ 1048576) (hr : RS 1 RStr w 0 xs v) :
    Calls Tryz.prog 15 #[v, .int .i64 left] w fun e w' => e = .returned (.int .i64 (szR (szL (fun (s : ByteArray) => s.size) xs) left)) ∧ Below w.heap.size w w' := by
  have hsm := szL_sm (fun (s : ByteArray) => s.size) xs
  rcases hr.open with ⟨rfl, a, c, rfl⟩ | ⟨b, o, c, rfl, hc, hn, _, hcs⟩
  · have e0 : szR (szL (fun (s : ByteArray) => s.size) []) left = (left : Int) := by show szR 0 left = _; rw [szR_le (Nat.zero_le _)]; rfl
    rw [e0]
    clear hsm hr e0
    go_enter Tryz.func15, Tryz.ntmps15
    go_wp2
    go_loop [1, 5] (fun l i => l = .int .i64 left ∧ i = .int .i64 0) (fun _ _ => 0)
    case atStart => exact ⟨rfl, rfl⟩
    case round =>
      obtain ⟨rfl, rfl⟩ := hrel
      go_wp2
      exact bodyPost_ret (v := .int .i64 (left : Nat)) (by simp [results, Tryz.results15, go_sem]) rfl ⟨rfl, brf _⟩
  · unfold maxLen at hn
    by_cases hbig : left < xs.length
    · rw [szR_lt (by omega)]
      have q : (left : Int) - (xs.length : Int) < 0 := by omega
      clear hcs hr
      go_enter Tryz.func15, Tryz.ntmps15
      go_wp2
      exact bodyPost_ret (v := .int .i64 (-1)) (by simp [results, Tryz.results15, go_sem]) rfl ⟨rfl, brf _⟩
    · have HC := hide hcs
      clear hcs hr
      go_enter Tryz.func15, Tryz.ntmps15
      go_wp2
      go_loopw [1, 5] (fun l i wr => ∃ (j m : Nat), j ≤ xs.length ∧ i = .int .i64 j ∧ l = .int .i64 m ∧ m + xs.length + sm (fun (s : ByteArray) => s.size) (xs.take j) = left ∧ Below w.heap.size w wr) (fun l i wr => xs.length - (intOf i).toNat)
      case atStart => exact ⟨0, left - xs.length, Nat.zero_le _, rfl, by congr 1; omega, by simp [sm]; omega, brf _⟩
      case round =>
        obtain ⟨j, m, hj, rfl, rfl, hm, hb⟩ := hrel
        by_cases hjn : j < xs.length
        · have hx : xs[j]? = some xs[j] := List.getElem?_eq_getElem hjn
          generalize xs[j] = x at hx
          obtain ⟨u, hul, hat, hrx⟩ := unhide HC j x hx
          have st := sm_take (f := (fun (s : ByteArray) => s.size)) hx
          have sl := sm_le (f := (fun (s : ByteArray) => s.size)) (xs := xs) (j + 1)
          obtain ⟨rfl, hts⟩ := hrx
          unfold maxLen at hts
          have k0 := cell_later hb (hat.get (j := 0) rfl)
          have HB := hide hb
          simp only [Nat.add_zero, Nat.mul_one] at k0
          clear hb hat hul HC
          by_cases hfit : x.size ≤ m
          · obtain ⟨d, hd⟩ : ∃ d, d + x.size = m := ⟨m - x.size, by omega⟩
            have q1 : (m : Int) - (x.size : Int) = (d : Int) := by omega
            go_wp2
            exact ⟨⟨j + 1, d, by omega, by go_num, rfl, by omega, unhide HB⟩, by simp [intOf]; omega⟩
          · have HF : Hid (szR (szL (fun (s : ByteArray) => s.size) xs) left = -1) := hide (szR_lt (by omega))
            have q1 : (m : Int) - (x.size : Int) < 0 := by omega
            go_wp2
            exact bodyPost_ret (v := .int .i64 (-1)) (by simp [results, Tryz.results15, go_sem]) rfl ⟨by rw [unhide HF], unhide HB⟩
        · obtain rfl : j = xs.length := by omega
          rw [List.take_length] at hm
          have HF : Hid (szR (szL (fun (s : ByteArray) => s.size) xs) left = (m : Int)) := hide (by rw [szR_le (by omega)]; omega)
          have HB := hide hb
          clear hb HC
          go_wp2
          exact bodyPost_ret (v := .int .i64 (m : Nat)) (by simp [results, Tryz.results15, go_sem]) rfl ⟨by rw [unhide HF], unhide HB⟩
set_option maxHeartbeats 800000 in
theorem szIntS_of (xs : List Int) (v : Value) (w : World) (left : Nat) (hl : left ≤ 1048576) (hr : RS 1 RInt w 0 xs v) :
    Calls Tryz.prog 78 #[v, .int .i64 left] w fun e w' => e = .returned (.int .i64 (szR (szL (fun (_ : Int) => 0) xs) left)) ∧ Below w.heap.size w w' := by
  have hsm := szL_sm (fun (_ : Int) => 0) xs
  have h0 : sm (fun (_ : Int) => 0) xs = 0 := sm_zero xs
  obtain ⟨a, c, rfl⟩ := hr.slice
  have hn := hr.len
  unfold maxLen at hn
  clear hr
  by_cases hbig : left < xs.length
  · rw [szR_lt (by omega)]
    have q : (left : Int) - (xs.length : Int) < 0 := by omega
    go_enter Tryz.func78, Tryz.ntmps78
    go_wp2
    exact bodyPost_ret (v := .int .i64 (-1)) (by simp [results, Tryz.results78, go_sem]) rfl ⟨rfl, brf _⟩
  · rw [szR_le (by omega)]
    obtain ⟨m, hm⟩ : ∃ m, m + xs.length = left := ⟨left - xs.length, by omega⟩
    have e1 : left - szL (fun (_ : Int) => 0) xs = m := by omega
    have q : (left : Int) - (xs.length : Int) = (m : Int) := by omega
    rw [e1]
    clear e1 hsm h0
    go_enter Tryz.func78, Tryz.ntmps78
    go_wp2
    exact bodyPost_ret (v := .int .i64 (m : Nat)) (by simp [results, Tryz.results78, go_sem]) rfl ⟨rfl, brf _⟩
set_option maxHeartbeats 1600000 in
theorem szBlock_of (x : Block) (u : List Value) (w : World) (left : Nat) (hl : left ≤ 1048576) (hr : RBlock w 0 x u) :
    Calls Tryz.prog 42 #[.agg u.toArray, .int .i64 left] w fun e w' => e = .returned (.int .i64 (szR (szBlock x) left)) ∧ Below w.heap.size w w' := by
  obtain ⟨v1, rfl, b_name, r1⟩ := hr
  unfold maxLen at b_name
  have S1 := hide (fun (l : Nat) (hl : l ≤ 1048576) (W : World) (hb : Below w.heap.size w W) => szIntS_of x.inp v1 W l hl (r1.later RInt.keeps hb))
  obtain ⟨a1, c1, rfl⟩ := r1.slice
  clear r1
  have hsz : szBlock x = x.name.size + szL (fun (_ : Int) => 0) x.inp := rfl
  generalize szBlock x = total at *
  generalize szL (fun (_ : Int) => 0) x.inp = s1 at *
  by_cases h0 : left < x.name.size
  · have HF : Hid (szR total left = -1) := hide (szR_lt (by omega))
    have q0 : (left : Int) - (x.name.size : Int) < 0 := by omega
    clear hsz
    go_enter Tryz.func42, Tryz.ntmps42
    go_wp2
    exact bodyPost_ret (v := .int .i64 (-1)) (by simp [results, Tryz.results42, go_sem]) rfl ⟨by rw [unhide HF], bal (brf w) _⟩
  · obtain ⟨l0, e0⟩ : ∃ l0, l0 + x.name.size = left := ⟨left - x.name.size, by omega⟩
    have q0 : (left : Int) - (x.name.size : Int) = (l0 : Int) := by omega
    by_cases h1 : l0 < s1
    · have HF : Hid (szR total left = -1) := hide (szR_lt (by omega))
      have T1 := hide (unhide S1 l0 (by omega))
      rw [szR_lt h1] at T1
      clear hsz
      go_enter Tryz.func42, Tryz.ntmps42
      go_wp2_with (first | (go_at_call 78; refine (unhide T1 _ (bal (brf w) _)).mono ?_; rintro e W1 ⟨rfl, hb1⟩; have hB1 := btr (bal (brf w) _) hb1))
      exact bodyPost_ret (v := .int .i64 (-1)) (by simp [results, Tryz.results42, go_sem]) rfl ⟨by rw [unhide HF], hB1⟩
    · obtain ⟨l1, e1⟩ : ∃ l1, l1 + s1 = l0 := ⟨l0 - s1, by omega⟩
      have T1 := hide (unhide S1 l0 (by omega))
      rw [szR_le (by omega), show l0 - s1 = l1 by omega] at T1
      have HF : Hid (szR total left = (l1 : Int)) := hide (by rw [szR_le (by omega)]; omega)
      clear hsz
      go_enter Tryz.func42, Tryz.ntmps42
      go_wp2_with (first | (go_at_call 78; refine (unhide T1 _ (bal (brf w) _)).mono ?_; rintro e W1 ⟨rfl, hb1⟩; have hB1 := btr (bal (brf w) _) hb1))
      exact bodyPost_ret (v := .int .i64 (l1 : Nat)) (by simp [results, Tryz.results42, go_sem]) rfl ⟨by rw [unhide HF], hB1⟩
set_option maxHeartbeats 800000 in
theorem szBlockS_of (xs : List Block) (v : Value) (w : World) (left : Nat) (hl : left ≤ 1048576) (hr : RS 6 RBlock w 0 xs v) :
    Calls Tryz.prog 16 #[v, .int .i64 left] w fun e w' => e = .returned (.int .i64 (szR (szL szBlock xs) left)) ∧ Below w.heap.size w w' := by
  have hsm := szL_sm szBlock xs
  rcases hr.open with ⟨rfl, a, c, rfl⟩ | ⟨b, o, c, rfl, hc, hn, _, hcs⟩
  · have e0 : szR (szL szBlock []) left = (left : Int) := by show szR 0 left = _; rw [szR_le (Nat.zero_le _)]; rfl
    rw [e0]
    clear hsm hr e0
    go_enter Tryz.func16, Tryz.ntmps16
    go_wp2
    go_loop [1, 5] (fun l i => l = .int .i64 left ∧ i = .int .i64 0) (fun _ _ => 0)
    case atStart => exact ⟨rfl, rfl⟩
    case round =>
      obtain ⟨rfl, rfl⟩ := hrel
      go_wp2
      exact bodyPost_ret (v := .int .i64 (left : Nat)) (by simp [results, Tryz.results16, go_sem]) rfl ⟨rfl, brf _⟩
  · unfold maxLen at hn
    by_cases hbig : left < xs.length
    · rw [szR_lt (by omega)]
      have q : (left : Int) - (xs.length : Int) < 0 := by omega
      clear hcs hr
      go_enter Tryz.func16, Tryz.ntmps16
      go_wp2
      exact bodyPost_ret (v := .int .i64 (-1)) (by simp [results, Tryz.results16, go_sem]) rfl ⟨rfl, brf _⟩
    · have HC := hide hcs
      clear hcs hr
      go_enter Tryz.func16, Tryz.ntmps16
      go_wp2
      go_loopw [1, 5] (fun l i wr => ∃ (j m : Nat), j ≤ xs.length ∧ i = .int .i64 j ∧ l = .int .i64 m ∧ m + xs.length + sm szBlock (xs.take j) = left ∧ Below w.heap.size w wr) (fun l i wr => xs.length - (intOf i).toNat)
      case atStart => exact ⟨0, left - xs.length, Nat.zero_le _, rfl, by congr 1; omega, by simp [sm]; omega, brf _⟩
      case round =>
        obtain ⟨j, m, hj, rfl, rfl, hm, hb⟩ := hrel
        by_cases hjn : j < xs.length
        · have hx : xs[j]? = some xs[j] := List.getElem?_eq_getElem hjn
          generalize xs[j] = x at hx
          obtain ⟨u, hul, hat, hrx⟩ := unhide HC j x hx
          have st := sm_take (f := szBlock) hx
          have sl := sm_le (f := szBlock) (xs := xs) (j + 1)
          have PX := hide (szBlock_of x u wr m (by omega) (RBlock.keeps _ _ _ _ _ (later_cells hb 0) hrx))
          obtain ⟨v1, rfl, _, _⟩ := hrx
          have k0 := cell_later hb (hat.get (j := 0) rfl)
          have k1 := cell_later hb (hat.get (j := 1) rfl)
          have k2 := cell_later hb (hat.get (j := 2) rfl)
          have k3 := cell_later hb (hat.get (j := 3) rfl)
          have k4 := cell_later hb (hat.get (j := 4) rfl)
          have k5 := cell_later hb (hat.get (j := 5) rfl)
          simp only [Nat.add_zero] at k0
          have HB := hide hb
          clear hb hat hul HC
          by_cases hfit : szBlock x ≤ m
          · rw [szR_le hfit] at PX
            have q1 : ¬ (((m - szBlock x : Nat) : Int) < 0) := by omega
            generalize hd : m - szBlock x = d at *
            go_wp2_with (go_at_call 42; refine (unhide PX).mono ?_; rintro e v1 ⟨rfl, hb1⟩)
            exact ⟨⟨j + 1, d, by omega, by go_num, rfl, by omega, below_step (unhide HB) hb1⟩, by simp [intOf]; omega⟩
          · rw [szR_lt (by omega)] at PX
            have HF : Hid (szR (szL szBlock xs) left = -1) := hide (szR_lt (by omega))
            go_wp2_with (go_at_call 42; refine (unhide PX).mono ?_; rintro e v1 ⟨rfl, hb1⟩)
            exact bodyPost_ret (v := .int .i64 (-1)) (by simp [results, Tryz.results16, go_sem]) rfl ⟨by rw [unhide HF], below_step (unhide HB) hb1⟩
        · obtain rfl : j = xs.length := by omega
          rw [List.take_length] at hm
          have HF : Hid (szR (szL szBlock xs) left = (m : Int)) := hide (by rw [szR_le (by omega)]; omega)
          have HB := hide hb
          clear hb HC
          go_wp2
          exact bodyPost_ret (v := .int .i64 (m : Nat)) (by simp [results, Tryz.results16, go_sem]) rfl ⟨by rw [unhide HF], unhide HB⟩
set_option maxHeartbeats 1600000 in
theorem szPort_of (x : Port) (u : List Value) (w : World) (left : Nat) (hl : left ≤ 1048576) (hr : RPort w 0 x u) :
    Calls Tryz.prog 43 #[.agg u.toArray, .int .i64 left] w fun e w' => e = .returned (.int .i64 (szR (szPort x) left)) ∧ Below w.heap.size w w' := by
  obtain ⟨rfl, b_name⟩ := hr
  unfold maxLen at b_name
  have hsz : szPort x = x.name.size := rfl
  generalize szPort x = total at *
  by_cases h0 : left < x.name.size
  · have HF : Hid (szR total left = -1) := hide (szR_lt (by omega))
    have q0 : (left : Int) - (x.name.size : Int) < 0 := by omega
    clear hsz
    go_enter Tryz.func43, Tryz.ntmps43
    go_wp2
    exact bodyPost_ret (v := .int .i64 (-1)) (by simp [results, Tryz.results43, go_sem]) rfl ⟨by rw [unhide HF], bal (brf w) _⟩
  · obtain ⟨l0, e0⟩ : ∃ l0, l0 + x.name.size = left := ⟨left - x.name.size, by omega⟩
    have q0 : (left : Int) - (x.name.size : Int) = (l0 : Int) := by omega
    have HF : Hid (szR total left = (l0 : Int)) := hide (by rw [szR_le (by omega)]; omega)
    clear hsz
    go_enter Tryz.func43, Tryz.ntmps43
    go_wp2
    exact bodyPost_ret (v := .int .i64 (l0 : Nat)) (by simp [results, Tryz.results43, go_sem]) rfl ⟨by rw [unhide HF], bal (brf w) _⟩
set_option maxHeartbeats 800000 in
theorem szPortS_of (xs : List Port) (v : Value) (w : World) (left : Nat) (hl : left ≤ 1048576) (hr : RS 2 RPort w 0 xs v) :
    Calls Tryz.prog 17 #[v, .int .i64 left] w fun e w' => e = .returned (.int .i64 (szR (szL szPort xs) left)) ∧ Below w.heap.size w w' := by
  have hsm := szL_sm szPort xs
  rcases hr.open with ⟨rfl, a, c, rfl⟩ | ⟨b, o, c, rfl, hc, hn, _, hcs⟩
  · have e0 : szR (szL szPort []) left = (left : Int) := by show szR 0 left = _; rw [szR_le (Nat.zero_le _)]; rfl
    rw [e0]
    clear hsm hr e0
    go_enter Tryz.func17, Tryz.ntmps17
    go_wp2
    go_loop [1, 5] (fun l i => l = .int .i64 left ∧ i = .int .i64 0) (fun _ _ => 0)
    case atStart => exact ⟨rfl, rfl⟩
    case round =>
      obtain ⟨rfl, rfl⟩ := hrel
      go_wp2
      exact bodyPost_ret (v := .int .i64 (left : Nat)) (by simp [results, Tryz.results17, go_sem]) rfl ⟨rfl, brf _⟩
  · unfold maxLen at hn
    by_cases hbig : left < xs.length
    · rw [szR_lt (by omega)]
      have q : (left : Int) - (xs.length : Int) < 0 := by omega
      clear hcs hr
      go_enter Tryz.func17, Tryz.ntmps17
      go_wp2
      exact bodyPost_ret (v := .int .i64 (-1)) (by simp [results, Tryz.results17, go_sem]) rfl ⟨rfl, brf _⟩
    · have HC := hide hcs
      clear hcs hr
      go_enter Tryz.func17, Tryz.ntmps17
      go_wp2
      go_loopw [1, 5] (fun l i wr => ∃ (j m : Nat), j ≤ xs.length ∧ i = .int .i64 j ∧ l = .int .i64 m ∧ m + xs.length + sm szPort (xs.take j) = left ∧ Below w.heap.size w wr) (fun l i wr => xs.length - (intOf i).toNat)
      case atStart => exact ⟨0, left - xs.length, Nat.zero_le _, rfl, by congr 1; omega, by simp [sm]; omega, brf _⟩
      case round =>
        obtain ⟨j, m, hj, rfl, rfl, hm, hb⟩ := hrel
        by_cases hjn : j < xs.length
        · have hx : xs[j]? = some xs[j] := List.getElem?_eq_getElem hjn
          generalize xs[j] = x at hx
          obtain ⟨u, hul, hat, hrx⟩ := unhide HC j x hx
          have st := sm_take (f := szPort) hx
          have sl := sm_le (f := szPort) (xs := xs) (j + 1)
          have PX := hide (szPort_of x u wr m (by omega) (RPort.keeps _ _ _ _ _ (later_cells hb 0) hrx))
          obtain ⟨rfl, _⟩ := hrx
          have k0 := cell_later hb (hat.get (j := 0) rfl)
          have k1 := cell_later hb (hat.get (j := 1) rfl)
          simp only [Nat.add_zero] at k0
          have HB := hide hb
          clear hb hat hul HC
          by_cases hfit : szPort x ≤ m
          · rw [szR_le hfit] at PX
            have q1 : ¬ (((m - szPort x : Nat) : Int) < 0) := by omega
            generalize hd : m - szPort x = d at *
            go_wp2_with (go_at_call 43; refine (unhide PX).mono ?_; rintro e v1 ⟨rfl, hb1⟩)
            exact ⟨⟨j + 1, d, by omega, by go_num, rfl, by omega, below_step (unhide HB) hb1⟩, by simp [intOf]; omega⟩
          · rw [szR_lt (by omega)] at PX
            have HF : Hid (szR (szL szPort xs) left = -1) := hide (szR_lt (by omega))
            go_wp2_with (go_at_call 43; refine (unhide PX).mono ?_; rintro e v1 ⟨rfl, hb1⟩)
            exact bodyPost_ret (v := .int .i64 (-1)) (by simp [results, Tryz.results17, go_sem]) rfl ⟨by rw [unhide HF], below_step (unhide HB) hb1⟩
        · obtain rfl : j = xs.length := by omega
          rw [List.take_length] at hm
          have HF : Hid (szR (szL szPort xs) left = (m : Int)) := hide (by rw [szR_le (by omega)]; omega)
          have HB := hide hb
          clear hb HC
          go_wp2
          exact bodyPost_ret (v := .int .i64 (m : Nat)) (by simp [results, Tryz.results17, go_sem]) rfl ⟨by rw [unhide HF], unhide HB⟩
set_option maxHeartbeats 1600000 in
theorem szPacked_of (x : Packed) (u : List Value) (w : World) (left : Nat) (hl : left ≤ 1048576) (hr : RPacked w 0 x u) :
    Calls Tryz.prog 4 #[.agg u.toArray, .int .i64 left] w fun e w' => e = .returned (.int .i64 (szR (szPacked x) left)) ∧ Below w.heap.size w w' := by
  obtain ⟨v0, v1, v2, v3, v4, rfl, r0, r1, r2, r3, r4⟩ := hr
  have S0 := hide (fun (l : Nat) (hl : l ≤ 1048576) (W : World) (hb : Below w.heap.size w W) => szStringS_of x.ins v0 W l hl (r0.later RStr.keeps hb))
  obtain ⟨a0, c0, rfl⟩ := r0.slice
  have S1 := hide (fun (l : Nat) (hl : l ≤ 1048576) (W : World) (hb : Below w.heap.size w W) => szStringS_of x.clocks v1 W l hl (r1.later RStr.keeps hb))
  obtain ⟨a1, c1, rfl⟩ := r1.slice
  have S2 := hide (fun (l : Nat) (hl : l ≤ 1048576) (W : World) (hb : Below w.heap.size w W) => szBlockS_of x.blocks v2 W l hl (r2.later RBlock.keeps hb))
  obtain ⟨a2, c2, rfl⟩ := r2.slice
  have S3 := hide (fun (l : Nat) (hl : l ≤ 1048576) (W : World) (hb : Below w.heap.size w W) => szPortS_of x.outs v3 W l hl (r3.later RPort.keeps hb))
  obtain ⟨a3, c3, rfl⟩ := r3.slice
  have S4 := hide (fun (l : Nat) (hl : l ≤ 1048576) (W : World) (hb : Below w.heap.size w W) => szPortS_of x.checks v4 W l hl (r4.later RPort.keeps hb))
  obtain ⟨a4, c4, rfl⟩ := r4.slice
  clear r0 r1 r2 r3 r4
  have Z1 : Hid (∀ t, (w.alloc (.cells #[.slice a0 x.ins.length c0, .slice a1 x.clocks.length c1, .slice a2 x.blocks.length c2, .slice a3 x.outs.length c3, .slice a4 x.checks.length c4] t)).cell? ⟨w.heap.size, 1, none⟩ = some (.slice a1 x.clocks.length c1)) := hide (fun t => by rw [World.cell?_alloc_new]; rfl)
  have Z2 : Hid (∀ t, (w.alloc (.cells #[.slice a0 x.ins.length c0, .slice a1 x.clocks.length c1, .slice a2 x.blocks.length c2, .slice a3 x.outs.length c3, .slice a4 x.checks.length c4] t)).cell? ⟨w.heap.size, 2, none⟩ = some (.slice a2 x.blocks.length c2)) := hide (fun t => by rw [World.cell?_alloc_new]; rfl)
  have Z3 : Hid (∀ t, (w.alloc (.cells #[.slice a0 x.ins.length c0, .slice a1 x.clocks.length c1, .slice a2 x.blocks.length c2, .slice a3 x.outs.length c3, .slice a4 x.checks.length c4] t)).cell? ⟨w.heap.size, 3, none⟩ = some (.slice a3 x.outs.length c3)) := hide (fun t => by rw [World.cell?_alloc_new]; rfl)
  have Z4 : Hid (∀ t, (w.alloc (.cells #[.slice a0 x.ins.length c0, .slice a1 x.clocks.length c1, .slice a2 x.blocks.length c2, .slice a3 x.outs.length c3, .slice a4 x.checks.length c4] t)).cell? ⟨w.heap.size, 4, none⟩ = some (.slice a4 x.checks.length c4)) := hide (fun t => by rw [World.cell?_alloc_new]; rfl)
  have hsz : szPacked x = szL (fun (s : ByteArray) => s.size) x.ins + szL (fun (s : ByteArray) => s.size) x.clocks + szL szBlock x.blocks + szL szPort x.outs + szL szPort x.checks := rfl
  generalize szPacked x = total at *
  generalize szL (fun (s : ByteArray) => s.size) x.ins = s0 at *
  generalize szL (fun (s : ByteArray) => s.size) x.clocks = s1 at *
  generalize szL szBlock x.blocks = s2 at *
  generalize szL szPort x.outs = s3 at *
  generalize szL szPort x.checks = s4 at *
  by_cases h0 : left < s0
  · have HF : Hid (szR total left = -1) := hide (szR_lt (by omega))
    have T0 := hide (unhide S0 left (by omega))
    rw [szR_lt h0] at T0
    clear hsz
    go_enter Tryz.func4, Tryz.ntmps4
    go_wp2_with (first | (go_at_call 15; refine (unhide T0 _ (bal (brf w) _)).mono ?_; rintro e W1 ⟨rfl, hb1⟩; have hB1 := btr (bal (brf w) _) hb1; have y1_1 := cell_later hb1 (unhide Z1 _); have y1_2 := cell_later hb1 (unhide Z2 _); have y1_3 := cell_later hb1 (unhide Z3 _); have y1_4 := cell_later hb1 (unhide Z4 _)))
    exact bodyPost_ret (v := .int .i64 (-1)) (by simp [results, Tryz.results4, go_sem]) rfl ⟨by rw [unhide HF], hB1⟩
  · obtain ⟨l0, e0⟩ : ∃ l0, l0 + s0 = left := ⟨left - s0, by omega⟩
    have T0 := hide (unhide S0 left (by omega))
    rw [szR_le (by omega), show left - s0 = l0 by omega] at T0
    by_cases h1 : l0 < s1
    · have HF : Hid (szR total left = -1) := hide (szR_lt (by omega))
      have T1 := hide (unhide S1 l0 (by omega))
      rw [szR_lt h1] at T1
      clear hsz
      go_enter Tryz.func4, Tryz.ntmps4
      go_wp2_with (first | (have hq2 := hB1; go_at_call 15; refine (unhide T1 _ hB1).mono ?_; rintro e W2 ⟨rfl, hb2⟩; have hB2 := btr hB1 hb2; have y2_2 := cell_later hb2 y1_2; have y2_3 := cell_later hb2 y1_3; have y2_4 := cell_later hb2 y1_4) | (go_at_call 15; refine (unhide T0 _ (bal (brf w) _)).mono ?_; rintro e W1 ⟨rfl, hb1⟩; have hB1 := btr (bal (brf w) _) hb1; have y1_1 := cell_later hb1 (unhide Z1 _); have y1_2 := cell_later hb1 (unhide Z2 _); have y1_3 := cell_later hb1 (unhide Z3 _); have y1_4 := cell_later hb1 (unhide Z4 _)))
      exact bodyPost_ret (v := .int .i64 (-1)) (by simp [results, Tryz.results4, go_sem]) rfl ⟨by rw [unhide HF], hB2⟩
    · obtain ⟨l1, e1⟩ : ∃ l1, l1 + s1 = l0 := ⟨l0 - s1, by omega⟩
      have T1 := hide (unhide S1 l0 (by omega))
      rw [szR_le (by omega), show l0 - s1 = l1 by omega] at T1
      by_cases h2 : l1 < s2
      · have HF : Hid (szR total left = -1) := hide (szR_lt (by omega))
        have T2 := hide (unhide S2 l1 (by omega))
        rw [szR_lt h2] at T2
        clear hsz
        go_enter Tryz.func4, Tryz.ntmps4
        go_wp2_with (first | (have hq3 := hB2; go_at_call 16; refine (unhide T2 _ hB2).mono ?_; rintro e W3 ⟨rfl, hb3⟩; have hB3 := btr hB2 hb3; have y3_3 := cell_later hb3 y2_3; have y3_4 := cell_later hb3 y2_4) | (have hq2 := hB1; go_at_call 15; refine (unhide T1 _ hB1).mono ?_; rintro e W2 ⟨rfl, hb2⟩; have hB2 := btr hB1 hb2; have y2_2 := cell_later hb2 y1_2; have y2_3 := cell_later hb2 y1_3; have y2_4 := cell_later hb2 y1_4) | (go_at_call 15; refine (unhide T0 _ (bal (brf w) _)).mono ?_; rintro e W1 ⟨rfl, hb1⟩; have hB1 := btr (bal (brf w) _) hb1; have y1_1 := cell_later hb1 (unhide Z1 _); have y1_2 := cell_later hb1 (unhide Z2 _); have y1_3 := cell_later hb1 (unhide Z3 _); have y1_4 := cell_later hb1 (unhide Z4 _)))
        exact bodyPost_ret (v := .int .i64 (-1)) (by simp [results, Tryz.results4, go_sem]) rfl ⟨by rw [unhide HF], hB3⟩
      · obtain ⟨l2, e2⟩ : ∃ l2, l2 + s2 = l1 := ⟨l1 - s2, by omega⟩
        have T2 := hide (unhide S2 l1 (by omega))
        rw [szR_le (by omega), show l1 - s2 = l2 by omega] at T2
        by_cases h3 : l2 < s3
        · have HF : Hid (szR total left = -1) := hide (szR_lt (by omega))
          have T3 := hide (unhide S3 l2 (by omega))
          rw [szR_lt h3] at T3
          clear hsz
          go_enter Tryz.func4, Tryz.ntmps4
          go_wp2_with (first | (have hq4 := hB3; go_at_call 17; refine (unhide T3 _ hB3).mono ?_; rintro e W4 ⟨rfl, hb4⟩; have hB4 := btr hB3 hb4; have y4_4 := cell_later hb4 y3_4) | (have hq3 := hB2; go_at_call 16; refine (unhide T2 _ hB2).mono ?_; rintro e W3 ⟨rfl, hb3⟩; have hB3 := btr hB2 hb3; have y3_3 := cell_later hb3 y2_3; have y3_4 := cell_later hb3 y2_4) | (have hq2 := hB1; go_at_call 15; refine (unhide T1 _ hB1).mono ?_; rintro e W2 ⟨rfl, hb2⟩; have hB2 := btr hB1 hb2; have y2_2 := cell_later hb2 y1_2; have y2_3 := cell_later hb2 y1_3; have y2_4 := cell_later hb2 y1_4) | (go_at_call 15; refine (unhide T0 _ (bal (brf w) _)).mono ?_; rintro e W1 ⟨rfl, hb1⟩; have hB1 := btr (bal (brf w) _) hb1; have y1_1 := cell_later hb1 (unhide Z1 _); have y1_2 := cell_later hb1 (unhide Z2 _); have y1_3 := cell_later hb1 (unhide Z3 _); have y1_4 := cell_later hb1 (unhide Z4 _)))
          exact bodyPost_ret (v := .int .i64 (-1)) (by simp [results, Tryz.results4, go_sem]) rfl ⟨by rw [unhide HF], hB4⟩
        · obtain ⟨l3, e3⟩ : ∃ l3, l3 + s3 = l2 := ⟨l2 - s3, by omega⟩
          have T3 := hide (unhide S3 l2 (by omega))
          rw [szR_le (by omega), show l2 - s3 = l3 by omega] at T3
          by_cases h4 : l3 < s4
          · have HF : Hid (szR total left = -1) := hide (szR_lt (by omega))
            have T4 := hide (unhide S4 l3 (by omega))
            rw [szR_lt h4] at T4
            clear hsz
            go_enter Tryz.func4, Tryz.ntmps4
            go_wp2_with (first | (have hq5 := hB4; go_at_call 17; refine (unhide T4 _ hB4).mono ?_; rintro e W5 ⟨rfl, hb5⟩; have hB5 := btr hB4 hb5) | (have hq4 := hB3; go_at_call 17; refine (unhide T3 _ hB3).mono ?_; rintro e W4 ⟨rfl, hb4⟩; have hB4 := btr hB3 hb4; have y4_4 := cell_later hb4 y3_4) | (have hq3 := hB2; go_at_call 16; refine (unhide T2 _ hB2).mono ?_; rintro e W3 ⟨rfl, hb3⟩; have hB3 := btr hB2 hb3; have y3_3 := cell_later hb3 y2_3; have y3_4 := cell_later hb3 y2_4) | (have hq2 := hB1; go_at_call 15; refine (unhide T1 _ hB1).mono ?_; rintro e W2 ⟨rfl, hb2⟩; have hB2 := btr hB1 hb2; have y2_2 := cell_later hb2 y1_2; have y2_3 := cell_later hb2 y1_3; have y2_4 := cell_later hb2 y1_4) | (go_at_call 15; refine (unhide T0 _ (bal (brf w) _)).mono ?_; rintro e W1 ⟨rfl, hb1⟩; have hB1 := btr (bal (brf w) _) hb1; have y1_1 := cell_later hb1 (unhide Z1 _); have y1_2 := cell_later hb1 (unhide Z2 _); have y1_3 := cell_later hb1 (unhide Z3 _); have y1_4 := cell_later hb1 (unhide Z4 _)))
            exact bodyPost_ret (v := .int .i64 (-1)) (by simp [results, Tryz.results4, go_sem]) rfl ⟨by rw [unhide HF], hB5⟩
          · obtain ⟨l4, e4⟩ : ∃ l4, l4 + s4 = l3 := ⟨l3 - s4, by omega⟩
            have T4 := hide (unhide S4 l3 (by omega))
            rw [szR_le (by omega), show l3 - s4 = l4 by omega] at T4
            have HF : Hid (szR total left = (l4 : Int)) := hide (by rw [szR_le (by omega)]; omega)
            clear hsz
            go_enter Tryz.func4, Tryz.ntmps4
            go_wp2_with (first | (have hq5 := hB4; go_at_call 17; refine (unhide T4 _ hB4).mono ?_; rintro e W5 ⟨rfl, hb5⟩; have hB5 := btr hB4 hb5) | (have hq4 := hB3; go_at_call 17; refine (unhide T3 _ hB3).mono ?_; rintro e W4 ⟨rfl, hb4⟩; have hB4 := btr hB3 hb4; have y4_4 := cell_later hb4 y3_4) | (have hq3 := hB2; go_at_call 16; refine (unhide T2 _ hB2).mono ?_; rintro e W3 ⟨rfl, hb3⟩; have hB3 := btr hB2 hb3; have y3_3 := cell_later hb3 y2_3; have y3_4 := cell_later hb3 y2_4) | (have hq2 := hB1; go_at_call 15; refine (unhide T1 _ hB1).mono ?_; rintro e W2 ⟨rfl, hb2⟩; have hB2 := btr hB1 hb2; have y2_2 := cell_later hb2 y1_2; have y2_3 := cell_later hb2 y1_3; have y2_4 := cell_later hb2 y1_4) | (go_at_call 15; refine (unhide T0 _ (bal (brf w) _)).mono ?_; rintro e W1 ⟨rfl, hb1⟩; have hB1 := btr (bal (brf w) _) hb1; have y1_1 := cell_later hb1 (unhide Z1 _); have y1_2 := cell_later hb1 (unhide Z2 _); have y1_3 := cell_later hb1 (unhide Z3 _); have y1_4 := cell_later hb1 (unhide Z4 _)))
            exact bodyPost_ret (v := .int .i64 (l4 : Nat)) (by simp [results, Tryz.results4, go_sem]) rfl ⟨by rw [unhide HF], hB5⟩
end Go.Proofs.YtlldfaniddbjaaaGreatDoor
