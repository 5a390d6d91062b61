/- What the laws' sz functions answer. -/
import Derived.Test.YtgkfhaahcedbpaaGDD
namespace Go.Proofs.Ytgkfhaahcedbpaa
open Go.RowKit Gs
set_option linter.unusedVariables false
set_option maxRecDepth 100000
theorem below_step {w W V : World} (h : Below w.heap.size w W) (hb : Below W.heap.size W V) : Below w.heap.size w V := btr h hb
set_option maxHeartbeats 1600000 in
theorem szSignal_of (x : Signal) (u : List Value) (w : World) (left : Nat) (hl : left ≤ 1048576) (hr : RSignal w 0 x u) :
    Calls Try.prog 20 #[.agg u.toArray, .int .i64 left] w fun e w' => e = .returned (.int .i64 (szR (szSignal x) left)) ∧ Below w.heap.size w w' := by
  obtain ⟨rfl, b_name, b_init⟩ := hr
  unfold maxLen at b_name
  unfold maxLen at b_init
  have hsz : szSignal x = x.name.size + x.init.size := rfl
  generalize szSignal x = total at *
  by_cases h0 : left < x.name.size
  · have HF : Hid (szR total left = -1) := hide (szR_lt (by omega))
    have q0 : (left : Int) - (x.name.size : Int) < 0 := by omega
    clear hsz
    go_enter Try.func20, Try.ntmps20
    go_wp2
    exact bodyPost_ret (v := .int .i64 (-1)) (by simp [results, Try.results20, go_sem]) rfl ⟨by rw [unhide HF], bal (brf w) _⟩
  · obtain ⟨l0, e0⟩ : ∃ l0, l0 + x.name.size = left := ⟨left - x.name.size, by omega⟩
    have q0 : (left : Int) - (x.name.size : Int) = (l0 : Int) := by omega
    by_cases h1 : l0 < x.init.size
    · have HF : Hid (szR total left = -1) := hide (szR_lt (by omega))
      have q1 : (l0 : Int) - (x.init.size : Int) < 0 := by omega
      clear hsz
      go_enter Try.func20, Try.ntmps20
      go_wp2
      exact bodyPost_ret (v := .int .i64 (-1)) (by simp [results, Try.results20, go_sem]) rfl ⟨by rw [unhide HF], bal (brf w) _⟩
    · obtain ⟨l1, e1⟩ : ∃ l1, l1 + x.init.size = l0 := ⟨l0 - x.init.size, by omega⟩
      have q1 : (l0 : Int) - (x.init.size : Int) = (l1 : Int) := by omega
      have HF : Hid (szR total left = (l1 : Int)) := hide (by rw [szR_le (by omega)]; omega)
      clear hsz
      go_enter Try.func20, Try.ntmps20
      go_wp2
      exact bodyPost_ret (v := .int .i64 (l1 : Nat)) (by simp [results, Try.results20, go_sem]) rfl ⟨by rw [unhide HF], bal (brf w) _⟩
set_option maxHeartbeats 800000 in
theorem szSignalS_of (xs : List Signal) (v : Value) (w : World) (left : Nat) (hl : left ≤ 1048576) (hr : RS 6 RSignal w 0 xs v) :
    Calls Try.prog 9 #[v, .int .i64 left] w fun e w' => e = .returned (.int .i64 (szR (szL szSignal xs) left)) ∧ Below w.heap.size w w' := by
  have hsm := szL_sm szSignal xs
  rcases hr.open with ⟨rfl, a, c, rfl⟩ | ⟨b, o, c, rfl, hc, hn, _, hcs⟩
  · have e0 : szR (szL szSignal []) left = (left : Int) := by show szR 0 left = _; rw [szR_le (Nat.zero_le _)]; rfl
    rw [e0]
    clear hsm hr e0
    go_enter Try.func9, Try.ntmps9
    go_wp2
    go_loop [1, 5] (fun l i => l = .int .i64 left ∧ i = .int .i64 0) (fun _ _ => 0)
    case atStart => exact ⟨rfl, rfl⟩
    case round =>
      obtain ⟨rfl, rfl⟩ := hrel
      go_wp2
      exact bodyPost_ret (v := .int .i64 (left : Nat)) (by simp [results, Try.results9, go_sem]) rfl ⟨rfl, brf _⟩
  · unfold maxLen at hn
    by_cases hbig : left < xs.length
    · rw [szR_lt (by omega)]
      have q : (left : Int) - (xs.length : Int) < 0 := by omega
      clear hcs hr
      go_enter Try.func9, Try.ntmps9
      go_wp2
      exact bodyPost_ret (v := .int .i64 (-1)) (by simp [results, Try.results9, go_sem]) rfl ⟨rfl, brf _⟩
    · have HC := hide hcs
      clear hcs hr
      go_enter Try.func9, Try.ntmps9
      go_wp2
      go_loopw [1, 5] (fun l i wr => ∃ (j m : Nat), j ≤ xs.length ∧ i = .int .i64 j ∧ l = .int .i64 m ∧ m + xs.length + sm szSignal (xs.take j) = left ∧ Below w.heap.size w wr) (fun l i wr => xs.length - (intOf i).toNat)
      case atStart => exact ⟨0, left - xs.length, Nat.zero_le _, rfl, by congr 1; omega, by simp [sm]; omega, brf _⟩
      case round =>
        obtain ⟨j, m, hj, rfl, rfl, hm, hb⟩ := hrel
        by_cases hjn : j < xs.length
        · have hx : xs[j]? = some xs[j] := List.getElem?_eq_getElem hjn
          generalize xs[j] = x at hx
          obtain ⟨u, hul, hat, hrx⟩ := unhide HC j x hx
          have st := sm_take (f := szSignal) hx
          have sl := sm_le (f := szSignal) (xs := xs) (j + 1)
          have PX := hide (szSignal_of x u wr m (by omega) (RSignal.keeps _ _ _ _ _ (later_cells hb 0) hrx))
          obtain ⟨rfl, _, _⟩ := hrx
          have k0 := cell_later hb (hat.get (j := 0) rfl)
          have k1 := cell_later hb (hat.get (j := 1) rfl)
          have k2 := cell_later hb (hat.get (j := 2) rfl)
          have k3 := cell_later hb (hat.get (j := 3) rfl)
          have k4 := cell_later hb (hat.get (j := 4) rfl)
          have k5 := cell_later hb (hat.get (j := 5) rfl)
          simp only [Nat.add_zero] at k0
          have HB := hide hb
          clear hb hat hul HC
          by_cases hfit : szSignal x ≤ m
          · rw [szR_le hfit] at PX
            have q1 : ¬ (((m - szSignal x : Nat) : Int) < 0) := by omega
            generalize hd : m - szSignal x = d at *
            go_wp2_with (go_at_call 20; refine (unhide PX).mono ?_; rintro e v1 ⟨rfl, hb1⟩)
            exact ⟨⟨j + 1, d, by omega, by go_num, rfl, by omega, below_step (unhide HB) hb1⟩, by simp [intOf]; omega⟩
          · rw [szR_lt (by omega)] at PX
            have HF : Hid (szR (szL szSignal xs) left = -1) := hide (szR_lt (by omega))
            go_wp2_with (go_at_call 20; refine (unhide PX).mono ?_; rintro e v1 ⟨rfl, hb1⟩)
            exact bodyPost_ret (v := .int .i64 (-1)) (by simp [results, Try.results9, go_sem]) rfl ⟨by rw [unhide HF], below_step (unhide HB) hb1⟩
        · obtain rfl : j = xs.length := by omega
          rw [List.take_length] at hm
          have HF : Hid (szR (szL szSignal xs) left = (m : Int)) := hide (by rw [szR_le (by omega)]; omega)
          have HB := hide hb
          clear hb HC
          go_wp2
          exact bodyPost_ret (v := .int .i64 (m : Nat)) (by simp [results, Try.results9, go_sem]) rfl ⟨by rw [unhide HF], unhide HB⟩
set_option maxHeartbeats 800000 in
theorem szExS_ofN (d : Nat) (IH : ∀ (x : Ex) (u : List Value) (w : World) (left : Nat) (hl : left ≤ 1048576) (hr : RExN d w 0 x u), Calls Try.prog 51 #[.agg u.toArray, .int .i64 left] w fun e w' => e = .returned (.int .i64 (szR (szExN d x) left)) ∧ Below w.heap.size w w') (xs : List Ex) (v : Value) (w : World) (left : Nat) (hl : left ≤ 1048576) (hr : RS 6 (RExN d) w 0 xs v) :
    Calls Try.prog 44 #[v, .int .i64 left] w fun e w' => e = .returned (.int .i64 (szR (szL (szExN d) xs) left)) ∧ Below w.heap.size w w' := by
  have hsm := szL_sm (szExN d) xs
  rcases hr.open with ⟨rfl, a, c, rfl⟩ | ⟨b, o, c, rfl, hc, hn, _, hcs⟩
  · have e0 : szR (szL (szExN d) []) left = (left : Int) := by show szR 0 left = _; rw [szR_le (Nat.zero_le _)]; rfl
    rw [e0]
    clear hsm hr e0
    go_enter Try.func44, Try.ntmps44
    go_wp2
    go_loop [1, 5] (fun l i => l = .int .i64 left ∧ i = .int .i64 0) (fun _ _ => 0)
    case atStart => exact ⟨rfl, rfl⟩
    case round =>
      obtain ⟨rfl, rfl⟩ := hrel
      go_wp2
      exact bodyPost_ret (v := .int .i64 (left : Nat)) (by simp [results, Try.results44, go_sem]) rfl ⟨rfl, brf _⟩
  · unfold maxLen at hn
    by_cases hbig : left < xs.length
    · rw [szR_lt (by omega)]
      have q : (left : Int) - (xs.length : Int) < 0 := by omega
      clear hcs hr
      go_enter Try.func44, Try.ntmps44
      go_wp2
      exact bodyPost_ret (v := .int .i64 (-1)) (by simp [results, Try.results44, go_sem]) rfl ⟨rfl, brf _⟩
    · have HC := hide hcs
      clear hcs hr
      go_enter Try.func44, Try.ntmps44
      go_wp2
      go_loopw [1, 5] (fun l i wr => ∃ (j m : Nat), j ≤ xs.length ∧ i = .int .i64 j ∧ l = .int .i64 m ∧ m + xs.length + sm (szExN d) (xs.take j) = left ∧ Below w.heap.size w wr) (fun l i wr => xs.length - (intOf i).toNat)
      case atStart => exact ⟨0, left - xs.length, Nat.zero_le _, rfl, by congr 1; omega, by simp [sm]; omega, brf _⟩
      case round =>
        obtain ⟨j, m, hj, rfl, rfl, hm, hb⟩ := hrel
        by_cases hjn : j < xs.length
        · have hx : xs[j]? = some xs[j] := List.getElem?_eq_getElem hjn
          generalize xs[j] = x at hx
          obtain ⟨u, hul, hat, hrx⟩ := unhide HC j x hx
          have st := sm_take (f := (szExN d)) hx
          have sl := sm_le (f := (szExN d)) (xs := xs) (j + 1)
          have PX := hide (IH x u wr m (by omega) ((RExN.keeps d) _ _ _ _ _ (later_cells hb 0) hrx))
          obtain ⟨v5, rfl, _, _⟩ := RExN.cells hrx
          have k0 := cell_later hb (hat.get (j := 0) rfl)
          have k1 := cell_later hb (hat.get (j := 1) rfl)
          have k2 := cell_later hb (hat.get (j := 2) rfl)
          have k3 := cell_later hb (hat.get (j := 3) rfl)
          have k4 := cell_later hb (hat.get (j := 4) rfl)
          have k5 := cell_later hb (hat.get (j := 5) rfl)
          simp only [Nat.add_zero] at k0
          have HB := hide hb
          clear hb hat hul HC
          by_cases hfit : (szExN d) x ≤ m
          · rw [szR_le hfit] at PX
            have q1 : ¬ (((m - (szExN d) x : Nat) : Int) < 0) := by omega
            generalize hd : m - (szExN d) x = d at *
            go_wp2_with (go_at_call 51; refine (unhide PX).mono ?_; rintro e v1 ⟨rfl, hb1⟩)
            exact ⟨⟨j + 1, d, by omega, by go_num, rfl, by omega, below_step (unhide HB) hb1⟩, by simp [intOf]; omega⟩
          · rw [szR_lt (by omega)] at PX
            have HF : Hid (szR (szL (szExN d) xs) left = -1) := hide (szR_lt (by omega))
            go_wp2_with (go_at_call 51; refine (unhide PX).mono ?_; rintro e v1 ⟨rfl, hb1⟩)
            exact bodyPost_ret (v := .int .i64 (-1)) (by simp [results, Try.results44, go_sem]) rfl ⟨by rw [unhide HF], below_step (unhide HB) hb1⟩
        · obtain rfl : j = xs.length := by omega
          rw [List.take_length] at hm
          have HF : Hid (szR (szL (szExN d) xs) left = (m : Int)) := hide (by rw [szR_le (by omega)]; omega)
          have HB := hide hb
          clear hb HC
          go_wp2
          exact bodyPost_ret (v := .int .i64 (m : Nat)) (by simp [results, Try.results44, go_sem]) rfl ⟨by rw [unhide HF], unhide HB⟩
set_option maxHeartbeats 1600000 in
theorem szEx_ofN (d : Nat) (IH : ∀ (xs : List Ex) (v : Value) (w : World) (left : Nat) (hl : left ≤ 1048576) (hr : RS 6 (RExN d) w 0 xs v), Calls Try.prog 44 #[v, .int .i64 left] w fun e w' => e = .returned (.int .i64 (szR (szL (szExN d) xs) left)) ∧ Below w.heap.size w w') (x : Ex) (u : List Value) (w : World) (left : Nat) (hl : left ≤ 1048576) (hr : RExN (d + 1) w 0 x u) :
    Calls Try.prog 51 #[.agg u.toArray, .int .i64 left] w fun e w' => e = .returned (.int .i64 (szR (szExN (d + 1) x) left)) ∧ Below w.heap.size w w' := by
  obtain ⟨v5, rfl, b_bits, r5⟩ := hr
  unfold maxLen at b_bits
  have S5 := hide (fun (l : Nat) (hl : l ≤ 1048576) (W : World) (hb : Below w.heap.size w W) => IH x.kids v5 W l hl (r5.later (RExN.keeps d) hb))
  obtain ⟨a5, c5, rfl⟩ := r5.slice
  clear r5
  have hsz : szExN (d + 1) x = x.bits.size + szL (szExN d) x.kids := rfl
  generalize szExN (d + 1) x = total at *
  generalize szL (szExN d) x.kids = s5 at *
  by_cases h0 : left < x.bits.size
  · have HF : Hid (szR total left = -1) := hide (szR_lt (by omega))
    have q0 : (left : Int) - (x.bits.size : Int) < 0 := by omega
    clear hsz
    go_enter Try.func51, Try.ntmps51
    go_wp2
    exact bodyPost_ret (v := .int .i64 (-1)) (by simp [results, Try.results51, go_sem]) rfl ⟨by rw [unhide HF], bal (brf w) _⟩
  · obtain ⟨l0, e0⟩ : ∃ l0, l0 + x.bits.size = left := ⟨left - x.bits.size, by omega⟩
    have q0 : (left : Int) - (x.bits.size : Int) = (l0 : Int) := by omega
    by_cases h1 : l0 < s5
    · have HF : Hid (szR total left = -1) := hide (szR_lt (by omega))
      have T5 := hide (unhide S5 l0 (by omega))
      rw [szR_lt h1] at T5
      clear hsz
      go_enter Try.func51, Try.ntmps51
      go_wp2_with (first | (go_at_call 44; refine (unhide T5 _ (bal (brf w) _)).mono ?_; rintro e W1 ⟨rfl, hb1⟩; have hB1 := btr (bal (brf w) _) hb1))
      exact bodyPost_ret (v := .int .i64 (-1)) (by simp [results, Try.results51, go_sem]) rfl ⟨by rw [unhide HF], hB1⟩
    · obtain ⟨l1, e1⟩ : ∃ l1, l1 + s5 = l0 := ⟨l0 - s5, by omega⟩
      have T5 := hide (unhide S5 l0 (by omega))
      rw [szR_le (by omega), show l0 - s5 = l1 by omega] at T5
      have HF : Hid (szR total left = (l1 : Int)) := hide (by rw [szR_le (by omega)]; omega)
      clear hsz
      go_enter Try.func51, Try.ntmps51
      go_wp2_with (first | (go_at_call 44; refine (unhide T5 _ (bal (brf w) _)).mono ?_; rintro e W1 ⟨rfl, hb1⟩; have hB1 := btr (bal (brf w) _) hb1))
      exact bodyPost_ret (v := .int .i64 (l1 : Nat)) (by simp [results, Try.results51, go_sem]) rfl ⟨by rw [unhide HF], hB1⟩
theorem szEx_of : ∀ (d : Nat), ∀ (x : Ex) (u : List Value) (w : World) (left : Nat) (hl : left ≤ 1048576) (hr : RExN d w 0 x u), Calls Try.prog 51 #[.agg u.toArray, .int .i64 left] w fun e w' => e = .returned (.int .i64 (szR (szExN d x) left)) ∧ Below w.heap.size w w'
  | 0 => by
    intros
    exact (by assumption : False).elim
  | d + 1 => szEx_ofN d (szExS_ofN d (szEx_of d))
theorem szExS_of (d : Nat) : ∀ (xs : List Ex) (v : Value) (w : World) (left : Nat) (hl : left ≤ 1048576) (hr : RS 6 (RExN d) w 0 xs v), Calls Try.prog 44 #[v, .int .i64 left] w fun e w' => e = .returned (.int .i64 (szR (szL (szExN d) xs) left)) ∧ Below w.heap.size w w' := szExS_ofN d (szEx_of d)
set_option maxHeartbeats 800000 in
theorem szStS_ofN (d : Nat) (IH : ∀ (x : St) (u : List Value) (w : World) (left : Nat) (hl : left ≤ 1048576) (hr : RStN d w 0 x u), Calls Try.prog 34 #[.agg u.toArray, .int .i64 left] w fun e w' => e = .returned (.int .i64 (szR (szStN d x) left)) ∧ Below w.heap.size w w') (xs : List St) (v : Value) (w : World) (left : Nat) (hl : left ≤ 1048576) (hr : RS 6 (RStN d) w 0 xs v) :
    Calls Try.prog 45 #[v, .int .i64 left] w fun e w' => e = .returned (.int .i64 (szR (szL (szStN d) xs) left)) ∧ Below w.heap.size w w' := by
  have hsm := szL_sm (szStN d) xs
  rcases hr.open with ⟨rfl, a, c, rfl⟩ | ⟨b, o, c, rfl, hc, hn, _, hcs⟩
  · have e0 : szR (szL (szStN d) []) left = (left : Int) := by show szR 0 left = _; rw [szR_le (Nat.zero_le _)]; rfl
    rw [e0]
    clear hsm hr e0
    go_enter Try.func45, Try.ntmps45
    go_wp2
    go_loop [1, 5] (fun l i => l = .int .i64 left ∧ i = .int .i64 0) (fun _ _ => 0)
    case atStart => exact ⟨rfl, rfl⟩
    case round =>
      obtain ⟨rfl, rfl⟩ := hrel
      go_wp2
      exact bodyPost_ret (v := .int .i64 (left : Nat)) (by simp [results, Try.results45, go_sem]) rfl ⟨rfl, brf _⟩
  · unfold maxLen at hn
    by_cases hbig : left < xs.length
    · rw [szR_lt (by omega)]
      have q : (left : Int) - (xs.length : Int) < 0 := by omega
      clear hcs hr
      go_enter Try.func45, Try.ntmps45
      go_wp2
      exact bodyPost_ret (v := .int .i64 (-1)) (by simp [results, Try.results45, go_sem]) rfl ⟨rfl, brf _⟩
    · have HC := hide hcs
      clear hcs hr
      go_enter Try.func45, Try.ntmps45
      go_wp2
      go_loopw [1, 5] (fun l i wr => ∃ (j m : Nat), j ≤ xs.length ∧ i = .int .i64 j ∧ l = .int .i64 m ∧ m + xs.length + sm (szStN d) (xs.take j) = left ∧ Below w.heap.size w wr) (fun l i wr => xs.length - (intOf i).toNat)
      case atStart => exact ⟨0, left - xs.length, Nat.zero_le _, rfl, by congr 1; omega, by simp [sm]; omega, brf _⟩
      case round =>
        obtain ⟨j, m, hj, rfl, rfl, hm, hb⟩ := hrel
        by_cases hjn : j < xs.length
        · have hx : xs[j]? = some xs[j] := List.getElem?_eq_getElem hjn
          generalize xs[j] = x at hx
          obtain ⟨u, hul, hat, hrx⟩ := unhide HC j x hx
          have st := sm_take (f := (szStN d)) hx
          have sl := sm_le (f := (szStN d)) (xs := xs) (j + 1)
          have PX := hide (IH x u wr m (by omega) ((RStN.keeps d) _ _ _ _ _ (later_cells hb 0) hrx))
          obtain ⟨v4, v5, rfl, _, _⟩ := RStN.cells hrx
          have k0 := cell_later hb (hat.get (j := 0) rfl)
          have k1 := cell_later hb (hat.get (j := 1) rfl)
          have k2 := cell_later hb (hat.get (j := 2) rfl)
          have k3 := cell_later hb (hat.get (j := 3) rfl)
          have k4 := cell_later hb (hat.get (j := 4) rfl)
          have k5 := cell_later hb (hat.get (j := 5) rfl)
          simp only [Nat.add_zero] at k0
          have HB := hide hb
          clear hb hat hul HC
          by_cases hfit : (szStN d) x ≤ m
          · rw [szR_le hfit] at PX
            have q1 : ¬ (((m - (szStN d) x : Nat) : Int) < 0) := by omega
            generalize hd : m - (szStN d) x = d at *
            go_wp2_with (go_at_call 34; refine (unhide PX).mono ?_; rintro e v1 ⟨rfl, hb1⟩)
            exact ⟨⟨j + 1, d, by omega, by go_num, rfl, by omega, below_step (unhide HB) hb1⟩, by simp [intOf]; omega⟩
          · rw [szR_lt (by omega)] at PX
            have HF : Hid (szR (szL (szStN d) xs) left = -1) := hide (szR_lt (by omega))
            go_wp2_with (go_at_call 34; refine (unhide PX).mono ?_; rintro e v1 ⟨rfl, hb1⟩)
            exact bodyPost_ret (v := .int .i64 (-1)) (by simp [results, Try.results45, go_sem]) rfl ⟨by rw [unhide HF], below_step (unhide HB) hb1⟩
        · obtain rfl : j = xs.length := by omega
          rw [List.take_length] at hm
          have HF : Hid (szR (szL (szStN d) xs) left = (m : Int)) := hide (by rw [szR_le (by omega)]; omega)
          have HB := hide hb
          clear hb HC
          go_wp2
          exact bodyPost_ret (v := .int .i64 (m : Nat)) (by simp [results, Try.results45, go_sem]) rfl ⟨by rw [unhide HF], unhide HB⟩
set_option maxHeartbeats 1600000 in
theorem szSt_ofN (d : Nat) (IH : ∀ (xs : List St) (v : Value) (w : World) (left : Nat) (hl : left ≤ 1048576) (hr : RS 6 (RStN d) w 0 xs v), Calls Try.prog 45 #[v, .int .i64 left] w fun e w' => e = .returned (.int .i64 (szR (szL (szStN d) xs) left)) ∧ Below w.heap.size w w') (x : St) (u : List Value) (w : World) (left : Nat) (hl : left ≤ 1048576) (hr : RStN (d + 1) w 0 x u) :
    Calls Try.prog 34 #[.agg u.toArray, .int .i64 left] w fun e w' => e = .returned (.int .i64 (szR (szStN (d + 1) x) left)) ∧ Below w.heap.size w w' := by
  obtain ⟨v4, v5, rfl, r4, r5⟩ := hr
  have S4 := hide (fun (l : Nat) (hl : l ≤ 1048576) (W : World) (hb : Below w.heap.size w W) => szExS_of d x.exs v4 W l hl (r4.later (RExN.keeps d) hb))
  obtain ⟨a4, c4, rfl⟩ := r4.slice
  have S5 := hide (fun (l : Nat) (hl : l ≤ 1048576) (W : World) (hb : Below w.heap.size w W) => IH x.kids v5 W l hl (r5.later (RStN.keeps d) hb))
  obtain ⟨a5, c5, rfl⟩ := r5.slice
  clear r4 r5
  have Z5 : Hid (∀ t, (w.alloc (.cells #[.int .i64 x.kind, .int .i64 x.n, .int .i64 x.low, .int .i64 x.wide, .slice a4 x.exs.length c4, .slice a5 x.kids.length c5] t)).cell? ⟨w.heap.size, 5, none⟩ = some (.slice a5 x.kids.length c5)) := hide (fun t => by rw [World.cell?_alloc_new]; rfl)
  have hsz : szStN (d + 1) x = szL (szExN d) x.exs + szL (szStN d) x.kids := rfl
  generalize szStN (d + 1) x = total at *
  generalize szL (szExN d) x.exs = s4 at *
  generalize szL (szStN d) x.kids = s5 at *
  by_cases h0 : left < s4
  · have HF : Hid (szR total left = -1) := hide (szR_lt (by omega))
    have T4 := hide (unhide S4 left (by omega))
    rw [szR_lt h0] at T4
    clear hsz
    go_enter Try.func34, Try.ntmps34
    go_wp2_with (first | (go_at_call 44; refine (unhide T4 _ (bal (brf w) _)).mono ?_; rintro e W1 ⟨rfl, hb1⟩; have hB1 := btr (bal (brf w) _) hb1; have y1_5 := cell_later hb1 (unhide Z5 _)))
    exact bodyPost_ret (v := .int .i64 (-1)) (by simp [results, Try.results34, go_sem]) rfl ⟨by rw [unhide HF], hB1⟩
  · obtain ⟨l0, e0⟩ : ∃ l0, l0 + s4 = left := ⟨left - s4, by omega⟩
    have T4 := hide (unhide S4 left (by omega))
    rw [szR_le (by omega), show left - s4 = l0 by omega] at T4
    by_cases h1 : l0 < s5
    · have HF : Hid (szR total left = -1) := hide (szR_lt (by omega))
      have T5 := hide (unhide S5 l0 (by omega))
      rw [szR_lt h1] at T5
      clear hsz
      go_enter Try.func34, Try.ntmps34
      go_wp2_with (first | (have hq2 := hB1; go_at_call 45; refine (unhide T5 _ hB1).mono ?_; rintro e W2 ⟨rfl, hb2⟩; have hB2 := btr hB1 hb2) | (go_at_call 44; refine (unhide T4 _ (bal (brf w) _)).mono ?_; rintro e W1 ⟨rfl, hb1⟩; have hB1 := btr (bal (brf w) _) hb1; have y1_5 := cell_later hb1 (unhide Z5 _)))
      exact bodyPost_ret (v := .int .i64 (-1)) (by simp [results, Try.results34, go_sem]) rfl ⟨by rw [unhide HF], hB2⟩
    · obtain ⟨l1, e1⟩ : ∃ l1, l1 + s5 = l0 := ⟨l0 - s5, by omega⟩
      have T5 := hide (unhide S5 l0 (by omega))
      rw [szR_le (by omega), show l0 - s5 = l1 by omega] at T5
      have HF : Hid (szR total left = (l1 : Int)) := hide (by rw [szR_le (by omega)]; omega)
      clear hsz
      go_enter Try.func34, Try.ntmps34
      go_wp2_with (first | (have hq2 := hB1; go_at_call 45; refine (unhide T5 _ hB1).mono ?_; rintro e W2 ⟨rfl, hb2⟩; have hB2 := btr hB1 hb2) | (go_at_call 44; refine (unhide T4 _ (bal (brf w) _)).mono ?_; rintro e W1 ⟨rfl, hb1⟩; have hB1 := btr (bal (brf w) _) hb1; have y1_5 := cell_later hb1 (unhide Z5 _)))
      exact bodyPost_ret (v := .int .i64 (l1 : Nat)) (by simp [results, Try.results34, go_sem]) rfl ⟨by rw [unhide HF], hB2⟩
theorem szSt_of : ∀ (d : Nat), ∀ (x : St) (u : List Value) (w : World) (left : Nat) (hl : left ≤ 1048576) (hr : RStN d w 0 x u), Calls Try.prog 34 #[.agg u.toArray, .int .i64 left] w fun e w' => e = .returned (.int .i64 (szR (szStN d x) left)) ∧ Below w.heap.size w w'
  | 0 => by
    intros
    exact (by assumption : False).elim
  | d + 1 => szSt_ofN d (szStS_ofN d (szSt_of d))
theorem szStS_of (d : Nat) : ∀ (xs : List St) (v : Value) (w : World) (left : Nat) (hl : left ≤ 1048576) (hr : RS 6 (RStN d) w 0 xs v), Calls Try.prog 45 #[v, .int .i64 left] w fun e w' => e = .returned (.int .i64 (szR (szL (szStN d) xs) left)) ∧ Below w.heap.size w w' := szStS_ofN d (szSt_of d)
set_option maxHeartbeats 1600000 in
theorem szProc_of (d : Nat) (x : Proc) (u : List Value) (w : World) (left : Nat) (hl : left ≤ 1048576) (hr : RProcN d w 0 x u) :
    Calls Try.prog 21 #[.agg u.toArray, .int .i64 left] w fun e w' => e = .returned (.int .i64 (szR (szProcN d x) left)) ∧ Below w.heap.size w w' := by
  obtain ⟨v7, v8, rfl, b_name, r7, r8⟩ := hr
  unfold maxLen at b_name
  have SB := hide (fun (l : Nat) (hl : l ≤ 1048576) (W : World) (hb : Below w.heap.size w W) => szSt_of (d + 1) x.body [.int .i64 x.body.kind, .int .i64 x.body.n, .int .i64 x.body.low, .int .i64 x.body.wide, v7, v8] W l hl ⟨v7, v8, rfl, r7.later (RExN.keeps d) hb, r8.later (RStN.keeps d) hb⟩)
  obtain ⟨a7, c7, rfl⟩ := r7.slice
  obtain ⟨a8, c8, rfl⟩ := r8.slice
  clear r7 r8
  have hsz : szProcN d x = x.name.size + szStN (d + 1) x.body := rfl
  generalize szProcN d x = total at *
  generalize szStN (d + 1) x.body = s3 at *
  by_cases h0 : left < x.name.size
  · have HF : Hid (szR total left = -1) := hide (szR_lt (by omega))
    have q0 : (left : Int) - (x.name.size : Int) < 0 := by omega
    clear hsz
    go_enter Try.func21, Try.ntmps21
    go_wp2
    exact bodyPost_ret (v := .int .i64 (-1)) (by simp [results, Try.results21, go_sem]) rfl ⟨by rw [unhide HF], bal (brf w) _⟩
  · obtain ⟨l0, e0⟩ : ∃ l0, l0 + x.name.size = left := ⟨left - x.name.size, by omega⟩
    have q0 : (left : Int) - (x.name.size : Int) = (l0 : Int) := by omega
    by_cases h1 : l0 < s3
    · have HF : Hid (szR total left = -1) := hide (szR_lt (by omega))
      have T3 := hide (unhide SB l0 (by omega))
      rw [szR_lt h1] at T3
      clear hsz SB
      go_enter Try.func21, Try.ntmps21
      go_wp2_with fail
      refine (unhide T3 _ (bal (brf w) _)).mono ?_
      rintro e W1 ⟨rfl, hb1⟩
      have hB1 := hide (btr (bal (brf w) _) hb1)
      clear hb1
      go_wp2_with fail
      exact bodyPost_ret (v := .int .i64 (-1)) (by simp [results, Try.results21, go_sem]) rfl ⟨by rw [unhide HF], unhide hB1⟩
    · obtain ⟨l1, e1⟩ : ∃ l1, l1 + s3 = l0 := ⟨l0 - s3, by omega⟩
      have HF : Hid (szR total left = (l1 : Int)) := hide (by rw [szR_le (by omega)]; omega)
      have T3 := hide (unhide SB l0 (by omega))
      rw [szR_le (by omega), show l0 - s3 = l1 by omega] at T3
      clear hsz SB
      go_enter Try.func21, Try.ntmps21
      go_wp2_with fail
      refine (unhide T3 _ (bal (brf w) _)).mono ?_
      rintro e W1 ⟨rfl, hb1⟩
      have hB1 := hide (btr (bal (brf w) _) hb1)
      clear hb1
      go_wp2_with fail
      exact bodyPost_ret (v := .int .i64 (l1 : Nat)) (by simp [results, Try.results21, go_sem]) rfl ⟨by rw [unhide HF], unhide hB1⟩
set_option maxHeartbeats 800000 in
theorem szProcS_of (d : Nat) (xs : List Proc) (v : Value) (w : World) (left : Nat) (hl : left ≤ 1048576) (hr : RS 9 (RProcN d) w 0 xs v) :
    Calls Try.prog 10 #[v, .int .i64 left] w fun e w' => e = .returned (.int .i64 (szR (szL (szProcN d) xs) left)) ∧ Below w.heap.size w w' := by
  have hsm := szL_sm (szProcN d) xs
  rcases hr.open with ⟨rfl, a, c, rfl⟩ | ⟨b, o, c, rfl, hc, hn, _, hcs⟩
  · have e0 : szR (szL (szProcN d) []) left = (left : Int) := by show szR 0 left = _; rw [szR_le (Nat.zero_le _)]; rfl
    rw [e0]
    clear hsm hr e0
    go_enter Try.func10, Try.ntmps10
    go_wp2
    go_loop [1, 5] (fun l i => l = .int .i64 left ∧ i = .int .i64 0) (fun _ _ => 0)
    case atStart => exact ⟨rfl, rfl⟩
    case round =>
      obtain ⟨rfl, rfl⟩ := hrel
      go_wp2
      exact bodyPost_ret (v := .int .i64 (left : Nat)) (by simp [results, Try.results10, go_sem]) rfl ⟨rfl, brf _⟩
  · unfold maxLen at hn
    by_cases hbig : left < xs.length
    · rw [szR_lt (by omega)]
      have q : (left : Int) - (xs.length : Int) < 0 := by omega
      clear hcs hr
      go_enter Try.func10, Try.ntmps10
      go_wp2
      exact bodyPost_ret (v := .int .i64 (-1)) (by simp [results, Try.results10, go_sem]) rfl ⟨rfl, brf _⟩
    · have HC := hide hcs
      clear hcs hr
      go_enter Try.func10, Try.ntmps10
      go_wp2
      go_loopw [1, 5] (fun l i wr => ∃ (j m : Nat), j ≤ xs.length ∧ i = .int .i64 j ∧ l = .int .i64 m ∧ m + xs.length + sm (szProcN d) (xs.take j) = left ∧ Below w.heap.size w wr) (fun l i wr => xs.length - (intOf i).toNat)
      case atStart => exact ⟨0, left - xs.length, Nat.zero_le _, rfl, by congr 1; omega, by simp [sm]; omega, brf _⟩
      case round =>
        obtain ⟨j, m, hj, rfl, rfl, hm, hb⟩ := hrel
        by_cases hjn : j < xs.length
        · have hx : xs[j]? = some xs[j] := List.getElem?_eq_getElem hjn
          generalize xs[j] = x at hx
          obtain ⟨u, hul, hat, hrx⟩ := unhide HC j x hx
          have st := sm_take (f := (szProcN d)) hx
          have sl := sm_le (f := (szProcN d)) (xs := xs) (j + 1)
          have PX := hide (szProc_of d x u wr m (by omega) ((RProcN.keeps d) _ _ _ _ _ (later_cells hb 0) hrx))
          obtain ⟨v7, v8, rfl, _, _, _⟩ := hrx
          have k0 := cell_later hb (hat.get (j := 0) rfl)
          have k1 := cell_later hb (hat.get (j := 1) rfl)
          have k2 := cell_later hb (hat.get (j := 2) rfl)
          have k3 := cell_later hb (hat.get (j := 3) rfl)
          have k4 := cell_later hb (hat.get (j := 4) rfl)
          have k5 := cell_later hb (hat.get (j := 5) rfl)
          have k6 := cell_later hb (hat.get (j := 6) rfl)
          have k7 := cell_later hb (hat.get (j := 7) rfl)
          have k8 := cell_later hb (hat.get (j := 8) rfl)
          simp only [Nat.add_zero] at k0
          have HB := hide hb
          clear hb hat hul HC
          by_cases hfit : (szProcN d) x ≤ m
          · rw [szR_le hfit] at PX
            have q1 : ¬ (((m - (szProcN d) x : Nat) : Int) < 0) := by omega
            generalize hd : m - (szProcN d) x = d at *
            go_wp2_with (go_at_call 21; refine (unhide PX).mono ?_; rintro e v1 ⟨rfl, hb1⟩)
            exact ⟨⟨j + 1, d, by omega, by go_num, rfl, by omega, below_step (unhide HB) hb1⟩, by simp [intOf]; omega⟩
          · rw [szR_lt (by omega)] at PX
            have HF : Hid (szR (szL (szProcN d) xs) left = -1) := hide (szR_lt (by omega))
            go_wp2_with (go_at_call 21; refine (unhide PX).mono ?_; rintro e v1 ⟨rfl, hb1⟩)
            exact bodyPost_ret (v := .int .i64 (-1)) (by simp [results, Try.results10, go_sem]) rfl ⟨by rw [unhide HF], below_step (unhide HB) hb1⟩
        · obtain rfl : j = xs.length := by omega
          rw [List.take_length] at hm
          have HF : Hid (szR (szL (szProcN d) xs) left = (m : Int)) := hide (by rw [szR_le (by omega)]; omega)
          have HB := hide hb
          clear hb HC
          go_wp2
          exact bodyPost_ret (v := .int .i64 (m : Nat)) (by simp [results, Try.results10, go_sem]) rfl ⟨by rw [unhide HF], unhide HB⟩
set_option maxHeartbeats 1600000 in
theorem szFlat_of (d : Nat) (x : Flat) (u : List Value) (w : World) (left : Nat) (hl : left ≤ 1048576) (hr : (RFlatN d) w 0 x u) :
    Calls Try.prog 4 #[.agg u.toArray, .int .i64 left] w fun e w' => e = .returned (.int .i64 (szR ((szFlatN d) x) left)) ∧ Below w.heap.size w w' := by
  obtain ⟨v0, v1, rfl, r0, r1⟩ := hr
  have S0 := hide (fun (l : Nat) (hl : l ≤ 1048576) (W : World) (hb : Below w.heap.size w W) => szSignalS_of x.signals v0 W l hl (r0.later RSignal.keeps hb))
  obtain ⟨a0, c0, rfl⟩ := r0.slice
  have S1 := hide (fun (l : Nat) (hl : l ≤ 1048576) (W : World) (hb : Below w.heap.size w W) => szProcS_of d x.procs v1 W l hl (r1.later (RProcN.keeps d) hb))
  obtain ⟨a1, c1, rfl⟩ := r1.slice
  clear r0 r1
  have Z1 : Hid (∀ t, (w.alloc (.cells #[.slice a0 x.signals.length c0, .slice a1 x.procs.length c1] t)).cell? ⟨w.heap.size, 1, none⟩ = some (.slice a1 x.procs.length c1)) := hide (fun t => by rw [World.cell?_alloc_new]; rfl)
  have hsz : (szFlatN d) x = szL szSignal x.signals + szL (szProcN d) x.procs := rfl
  generalize (szFlatN d) x = total at *
  generalize szL szSignal x.signals = s0 at *
  generalize szL (szProcN d) x.procs = s1 at *
  by_cases h0 : left < s0
  · have HF : Hid (szR total left = -1) := hide (szR_lt (by omega))
    have T0 := hide (unhide S0 left (by omega))
    rw [szR_lt h0] at T0
    clear hsz
    go_enter Try.func4, Try.ntmps4
    go_wp2_with (first | (go_at_call 9; refine (unhide T0 _ (bal (brf w) _)).mono ?_; rintro e W1 ⟨rfl, hb1⟩; have hB1 := btr (bal (brf w) _) hb1; have y1_1 := cell_later hb1 (unhide Z1 _)))
    exact bodyPost_ret (v := .int .i64 (-1)) (by simp [results, Try.results4, go_sem]) rfl ⟨by rw [unhide HF], hB1⟩
  · obtain ⟨l0, e0⟩ : ∃ l0, l0 + s0 = left := ⟨left - s0, by omega⟩
    have T0 := hide (unhide S0 left (by omega))
    rw [szR_le (by omega), show left - s0 = l0 by omega] at T0
    by_cases h1 : l0 < s1
    · have HF : Hid (szR total left = -1) := hide (szR_lt (by omega))
      have T1 := hide (unhide S1 l0 (by omega))
      rw [szR_lt h1] at T1
      clear hsz
      go_enter Try.func4, Try.ntmps4
      go_wp2_with (first | (have hq2 := hB1; go_at_call 10; refine (unhide T1 _ hB1).mono ?_; rintro e W2 ⟨rfl, hb2⟩; have hB2 := btr hB1 hb2) | (go_at_call 9; refine (unhide T0 _ (bal (brf w) _)).mono ?_; rintro e W1 ⟨rfl, hb1⟩; have hB1 := btr (bal (brf w) _) hb1; have y1_1 := cell_later hb1 (unhide Z1 _)))
      exact bodyPost_ret (v := .int .i64 (-1)) (by simp [results, Try.results4, go_sem]) rfl ⟨by rw [unhide HF], hB2⟩
    · obtain ⟨l1, e1⟩ : ∃ l1, l1 + s1 = l0 := ⟨l0 - s1, by omega⟩
      have T1 := hide (unhide S1 l0 (by omega))
      rw [szR_le (by omega), show l0 - s1 = l1 by omega] at T1
      have HF : Hid (szR total left = (l1 : Int)) := hide (by rw [szR_le (by omega)]; omega)
      clear hsz
      go_enter Try.func4, Try.ntmps4
      go_wp2_with (first | (have hq2 := hB1; go_at_call 10; refine (unhide T1 _ hB1).mono ?_; rintro e W2 ⟨rfl, hb2⟩; have hB2 := btr hB1 hb2) | (go_at_call 9; refine (unhide T0 _ (bal (brf w) _)).mono ?_; rintro e W1 ⟨rfl, hb1⟩; have hB1 := btr (bal (brf w) _) hb1; have y1_1 := cell_later hb1 (unhide Z1 _)))
      exact bodyPost_ret (v := .int .i64 (l1 : Nat)) (by simp [results, Try.results4, go_sem]) rfl ⟨by rw [unhide HF], hB2⟩
end Go.Proofs.Ytgkfhaahcedbpaa
