/- The program's ClausesOK. -/
import Derived.Test.YtonfbnbkhpabbaaC0
namespace Go.Proofs.Ytonfbnbkhpabbaa
open Go Go.RowKit Gs
set_option linter.unusedVariables false
set_option linter.unusedSimpArgs false
set_option maxRecDepth 100000
theorem okC_range {vars most : Int} {cs : List (List Int)} (h : (decide (0 ≤ vars) && decide (vars < 2049)) = false) : okC vars most cs = false := by
  unfold okC
  by_cases h0 : 0 ≤ vars
  · by_cases h1 : vars ≤ 2048
    · have h2 : vars < 2049 := by omega
      simp [h0, h2] at h
    · simp [h1]
  · simp [h0]
theorem okC_long {vars most : Int} {cs : List (List Int)} (h : 8192 < (cs.length : Int)) : okC vars most cs = false := by
  unfold okC
  have : ¬ cs.length ≤ 8192 := by omega
  simp [this]
theorem okC_all {vars most : Int} {cs : List (List Int)} (h : (decide (0 ≤ vars) && decide (vars < 2049)) = true) (hl : ¬ 8192 < (cs.length : Int)) : okC vars most cs = cs.all (clB vars most) := by
  unfold okC
  have h0 : 0 ≤ vars ∧ vars < 2049 := by simpa using h
  have h1 : vars ≤ 2048 := by omega
  have h2 : cs.length ≤ 8192 := by omega
  simp [h0.1, h1, h2]
theorem clB_long {vars most : Int} {c : List Int} (h : most < (c.length : Int)) : clB vars most c = false := by unfold clB; simp [h]
theorem clB_all {vars most : Int} {c : List Int} (h : ¬ most < (c.length : Int)) : clB vars most c = c.all (litB vars) := by
  unfold clB; rw [show decide (most < (c.length : Int)) = false from decide_eq_false h]; rfl
set_option maxHeartbeats 6400000 in
theorem iFit (vars most : Int) (cs : List (List Int)) (v : Value) (w : World) (hr : RS 1 RIntS w 0 cs v) :
    Calls Try.prog 31 #[.int .i64 vars, v, .int .i64 most] w fun e w' => e = .returned (.bool (okC vars most cs)) ∧ Below w.heap.size w w' := by
  have HP := hide (fun (W : World) => iPlace vars 2049 W)
  have hn := hr.len
  unfold maxLen at hn
  cases hq : (decide (0 ≤ vars) && decide (vars < 2049)) with
  | false =>
    have HT : Hid (okC vars most cs = false) := hide (okC_range hq)
    rw [hq] at HP
    obtain ⟨a, c, rfl⟩ := hr.slice
    clear hr hq
    go_enter Try.func31, Try.ntmps31
    go_wp2_with (first
      | (go_at_call 39; refine (unhide HP _).mono ?_; rintro e W1 ⟨rfl, hw⟩; have hw' := hw.symm; subst hw')
      | go_in)
    exact bodyPost_ret (v := .bool false) (by simp [results, Try.results31, go_sem]) rfl ⟨by rw [unhide HT], bal (brf w) _⟩
  | true =>
    by_cases hlong : 8192 < (cs.length : Int)
    · have HT : Hid (okC vars most cs = false) := hide (okC_long hlong)
      rw [hq] at HP
      obtain ⟨a, c, rfl⟩ := hr.slice
      clear hr hq
      go_enter Try.func31, Try.ntmps31
      go_wp2_with (first
        | (go_at_call 39; refine (unhide HP _).mono ?_; rintro e W1 ⟨rfl, hw⟩; have hw' := hw.symm; subst hw')
        | go_in)
      exact bodyPost_ret (v := .bool false) (by simp [results, Try.results31, go_sem]) rfl ⟨by rw [unhide HT], bal (brf w) _⟩
    · have HT : Hid (okC vars most cs = cs.all (clB vars most)) := hide (okC_all hq hlong)
      have hv : 0 ≤ vars ∧ vars < 2049 := by simpa using hq
      rw [hq] at HP
      clear hq
      have HV := hide hv
      clear hv
      rcases hr.open with ⟨rfl, a, c, rfl⟩ | ⟨b, o, c, rfl, hc, _, _, hcs⟩
      · clear hr
        go_enter Try.func31, Try.ntmps31
        go_wp2_with (first
          | (go_at_call 39; refine (unhide HP _).mono ?_; rintro e W1 ⟨rfl, hw⟩; have hw' := hw.symm; subst hw')
          | go_in)
        refine wp_loop_rounds 1 ?_
        rw [rounds_succ]
        go_wp2
        exact bodyPost_ret (v := .bool true) (by simp [results, Try.results31, go_sem]) rfl ⟨by rw [unhide HT]; rfl, bal (brf w) _⟩
      · have HC := hide hcs
        clear hcs hr hc
        go_enter Try.func31, Try.ntmps31
        go_wp2_with (first
          | (go_at_call 39; refine (unhide HP _).mono ?_; rintro e W1 ⟨rfl, hw⟩; have hw' := hw.symm; subst hw')
          | go_in)
        go_loop [21] (fun i => ∃ k : Nat, k ≤ cs.length ∧ i = .int .i64 k ∧ (cs.take k).all (clB vars most) = true) (fun i => cs.length - (intOf i).toNat)
        case atStart => exact ⟨0, Nat.zero_le _, rfl, rfl⟩
        case round =>
          obtain ⟨k, hk, rfl, hall⟩ := hrel
          have HA := hide hall
          clear hall
          by_cases hlt : k < cs.length
          · have hx : cs[k]? = some cs[k] := List.getElem?_eq_getElem hlt
            generalize cs[k] = y at hx
            have HX := hide hx
            obtain ⟨u, hul, hat, hus⟩ := unhide HC k y hx
            obtain ⟨vy, rfl, hry⟩ := hus
            have k0 := cell_later (bal (brf w) (.cells #[.int .i64 vars] 3)) (hat.get (j := 0) rfl)
            simp only [Nat.add_zero, Nat.mul_one] at k0
            have i1 : (0 : Int) ≤ (k : Int) := by omega
            have i2 : (k : Int) < (cs.length : Int) := by omega
            have hny := hry.len
            unfold maxLen at hny
            have HI := hide (iContainsF y vars w.heap.size vy _ (unhide HV).1 (by have := unhide HV; omega) (by rw [World.cell?_alloc_new]; rfl) (hry.later RInt.keeps (bal (brf w) (.cells #[.int .i64 vars] 3))))
            obtain ⟨ya, yc, rfl⟩ := hry.slice
            clear hat hul HC hx hry
            by_cases hyl : most < (y.length : Int)
            · have HF : Hid (cs.all (clB vars most) = false) := hide (all_no (unhide HX) (clB_long hyl))
              go_wp2_with (first
                | go_in)
              exact bodyPost_ret (v := .bool false) (by simp [results, Try.results31, go_sem]) rfl ⟨by rw [unhide HT, unhide HF], bal (brf w) _⟩
            · have HCL := hide (clB_all (vars := vars) hyl)
              cases hq : y.all (litB vars) with
              | false =>
                have HF : Hid (cs.all (clB vars most) = false) := hide (all_no (unhide HX) ((unhide HCL).trans hq))
                rw [hq] at HI
                clear hq
                go_wp2_with (first
                  | (go_at_call 41; refine (unhide HI).mono ?_; rintro e W1 ⟨rfl, hw⟩; have hw' := hw.symm; subst hw')
                  | go_in)
                exact bodyPost_ret (v := .bool false) (by simp [results, Try.results31, go_sem]) rfl ⟨by rw [unhide HT, unhide HF], bal (brf w) _⟩
              | true =>
                have HF : Hid ((cs.take (k + 1)).all (clB vars most) = true) := hide (by rw [all_take (unhide HX), unhide HA, unhide HCL, hq]; rfl)
                rw [hq] at HI
                clear hq
                go_wp2_with (first
                  | (go_at_call 41; refine (unhide HI).mono ?_; rintro e W1 ⟨rfl, hw⟩; have hw' := hw.symm; subst hw')
                  | go_in)
                go_round
                case rel => exact ⟨k + 1, by omega, by go_num, unhide HF⟩
                case measure => simp [intOf]; omega
          · obtain rfl : k = cs.length := by omega
            clear HC
            go_wp2
            exact bodyPost_ret (v := .bool true) (by simp [results, Try.results31, go_sem]) rfl ⟨by rw [unhide HT, all_end (unhide HA)], bal (brf w) _⟩
theorem iOK (vars : Int) (cs : List (List Int)) (v : Value) (w : World) (hr : RS 1 RIntS w 0 cs v) :
    Calls Try.prog 17 #[.int .i64 vars, v] w fun e w' => e = .returned (.bool (okC vars 64 cs)) ∧ Below w.heap.size w w' := by
  have HI := hide (iFit vars 64 cs v w hr)
  obtain ⟨a, c, rfl⟩ := hr.slice
  clear hr
  go_enter Try.func17, Try.ntmps17
  go_wp2_with fail
  refine (unhide HI).mono ?_
  rintro e W1 ⟨rfl, hb⟩
  have HB := hide hb
  clear hb
  go_wp2_with fail
  exact bodyPost_ret (v := .bool (okC vars 64 cs)) (by simp [results, Try.results17, go_sem]) rfl ⟨rfl, unhide HB⟩
end Go.Proofs.Ytonfbnbkhpabbaa
