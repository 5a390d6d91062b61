/- The specification's look at clauses. -/
import Derived.Test.YtonfbnbkhpabbaaC2
namespace Go.Proofs.Ytonfbnbkhpabbaa
open Go Go.RowKit Gs
set_option linter.unusedVariables false
set_option linter.unusedSimpArgs false
set_option maxRecDepth 100000
theorem okC_neg {vars most : Int} {cs : List (List Int)} (h : vars < 0) : okC vars most cs = false := by
  unfold okC; simp [show ¬ 0 ≤ vars by omega]
theorem okC_gt {vars most : Int} {cs : List (List Int)} (h : 2048 < vars) : okC vars most cs = false := by
  unfold okC; simp [show ¬ vars ≤ 2048 by omega]
theorem litB_zero (vars : Int) : litB vars 0 = false := by unfold litB; simp
theorem litB_gt {vars l : Int} (h : vars < l) : litB vars l = false := by unfold litB; simp [h]
theorem litB_lt {vars l : Int} (h : l < -vars) : litB vars l = false := by unfold litB; simp [h]
theorem litB_yes {vars l : Int} (h : l ≠ 0) (h1 : ¬ vars < l) (h2 : ¬ l < -vars) : litB vars l = true := by unfold litB; simp [h]; omega
theorem clB_no {vars most : Int} {c : List Int} (h : c.all (litB vars) = false) : clB vars most c = false := by unfold clB; rw [h, Bool.and_false]
set_option maxHeartbeats 6400000 in
theorem sFit (vars most : Int) (cs : List (List Int)) (v : Value) (w : World) (hr : RS 1 RIntS w 0 cs v) :
    Calls Try.prog 26 #[.int .i64 vars, v, .int .i64 most] w fun e w' => e = .returned (.bool (okC vars most cs)) ∧ Below w.heap.size w w' := by
  have hn := hr.len
  unfold maxLen at hn
  by_cases h0 : vars < 0
  · have HT := hide (okC_neg (most := most) (cs := cs) h0)
    obtain ⟨a, c, rfl⟩ := hr.slice
    clear hr
    go_enter Try.func26, Try.ntmps26
    go_wp2
    exact bodyPost_ret (v := .bool false) (by simp [results, Try.results26, go_sem]) rfl ⟨by rw [unhide HT], brf w⟩
  · by_cases h1 : 2048 < vars
    · have HT := hide (okC_gt (most := most) (cs := cs) h1)
      obtain ⟨a, c, rfl⟩ := hr.slice
      clear hr
      go_enter Try.func26, Try.ntmps26
      go_wp2
      exact bodyPost_ret (v := .bool false) (by simp [results, Try.results26, go_sem]) rfl ⟨by rw [unhide HT], brf w⟩
    · by_cases hlong : 8192 < (cs.length : Int)
      · have HT := hide (okC_long (vars := vars) (most := most) hlong)
        obtain ⟨a, c, rfl⟩ := hr.slice
        clear hr
        go_enter Try.func26, Try.ntmps26
        go_wp2
        exact bodyPost_ret (v := .bool false) (by simp [results, Try.results26, go_sem]) rfl ⟨by rw [unhide HT], brf w⟩
      · have HT : Hid (okC vars most cs = cs.all (clB vars most)) := hide (okC_all (by simp; omega) hlong)
        rcases hr.open with ⟨rfl, a, c, rfl⟩ | ⟨b, o, c, rfl, hc, _, _, hcs⟩
        · clear hr
          go_enter Try.func26, Try.ntmps26
          go_wp2
          refine wp_loop_rounds 1 ?_
          rw [rounds_succ]
          go_wp2
          exact bodyPost_ret (v := .bool true) (by simp [results, Try.results26, go_sem]) rfl ⟨by rw [unhide HT]; rfl, brf w⟩
        · have HC := hide hcs
          clear hcs hr hc
          go_enter Try.func26, Try.ntmps26
          go_wp2
          go_loop [7] (fun i => ∃ k : Nat, k ≤ cs.length ∧ i = .int .i64 k ∧ (cs.take k).all (clB vars most) = true) (fun i => cs.length - (intOf i).toNat)
          case atStart => exact ⟨0, Nat.zero_le _, rfl, rfl⟩
          case round =>
            obtain ⟨k, hk, rfl, hall⟩ := hrel
            have HA := hide hall
            clear hall
            by_cases hlt : k < cs.length
            · have hx : cs[k]? = some cs[k] := List.getElem?_eq_getElem hlt
              generalize cs[k] = y at hx
              have HX := hide hx
              obtain ⟨u, hul, hat, hus⟩ := unhide HC k y hx
              obtain ⟨vy, rfl, hry⟩ := hus
              have k0 := hat.get (j := 0) rfl
              simp only [Nat.add_zero, Nat.mul_one] at k0
              have i1 : (0 : Int) ≤ (k : Int) := by omega
              have i2 : (k : Int) < (cs.length : Int) := by omega
              have hny := hry.len
              unfold maxLen at hny
              rcases hry.open with ⟨rfl, ya, yc, rfl⟩ | ⟨yb, yo, yc, rfl, _, _, _, hycs⟩
              · clear hat hul HC hx hry
                by_cases hyl : most < ((([] : List Int).length : Nat) : Int)
                · have HF : Hid (cs.all (clB vars most) = false) := hide (all_no (unhide HX) (clB_long hyl))
                  simp only [List.length_nil, Int.natCast_zero, Int.ofNat_zero] at hyl
                  go_wp2
                  exact bodyPost_ret (v := .bool false) (by simp [results, Try.results26, go_sem]) rfl ⟨by rw [unhide HT, unhide HF], brf w⟩
                · have HF : Hid ((cs.take (k + 1)).all (clB vars most) = true) := hide (by rw [all_take (unhide HX), unhide HA, clB_all hyl]; rfl)
                  simp only [List.length_nil, Int.natCast_zero, Int.ofNat_zero] at hyl
                  go_wp2
                  refine wp_loop_rounds 1 ?_
                  rw [rounds_succ]
                  go_wp2
                  go_round
                  case rel => exact ⟨k + 1, by omega, by go_num, unhide HF⟩
                  case measure => simp [intOf]; omega
              · have HY := hide hycs
                clear hat hul HC hx hry hycs
                by_cases hyl : most < (y.length : Int)
                · have HF : Hid (cs.all (clB vars most) = false) := hide (all_no (unhide HX) (clB_long hyl))
                  clear HY
                  go_wp2
                  exact bodyPost_ret (v := .bool false) (by simp [results, Try.results26, go_sem]) rfl ⟨by rw [unhide HT, unhide HF], brf w⟩
                · have HCL := hide (clB_all (vars := vars) hyl)
                  have HNO : Hid (y.all (litB vars) = false → cs.all (clB vars most) = false) := hide (fun h => all_no (unhide HX) (clB_no h))
                  have HYES : Hid (y.all (litB vars) = true → (cs.take (k + 1)).all (clB vars most) = true) := hide (fun h => by rw [all_take (unhide HX), unhide HA, unhide HCL, h]; rfl)
                  clear HX HA HCL
                  go_wp2
                  go_loop [8] (fun i => ∃ j : Nat, j ≤ y.length ∧ i = .int .i64 j ∧ (y.take j).all (litB vars) = true) (fun i => y.length - (intOf i).toNat)
                  case atStart => exact ⟨0, Nat.zero_le _, rfl, rfl⟩
                  case round =>
                    obtain ⟨j, hj, rfl, hall⟩ := hrel
                    have HA := hide hall
                    clear hall
                    by_cases hjl : j < y.length
                    · have hz : y[j]? = some y[j] := List.getElem?_eq_getElem hjl
                      generalize y[j] = z at hz
                      obtain ⟨u, hul, hat, hus⟩ := unhide HY j z hz
                      subst hus
                      have j0 := hat.get (j := 0) rfl
                      simp only [Nat.add_zero, Nat.mul_one] at j0
                      have i3 : (0 : Int) ≤ (j : Int) := by omega
                      have i4 : (j : Int) < (y.length : Int) := by omega
                      have HZ := hide hz
                      clear hat hul HY hz
                      by_cases hz0 : z = 0
                      · have HF := hide (unhide HNO (all_no (unhide HZ) (by rw [hz0]; exact litB_zero vars)))
                        clear HNO HYES HZ
                        subst hz0
                        go_wp2
                        exact bodyPost_ret (v := .bool false) (by simp [results, Try.results26, go_sem]) rfl ⟨by rw [unhide HT, unhide HF], brf w⟩
                      · by_cases hz1 : vars < z
                        · have HF := hide (unhide HNO (all_no (unhide HZ) (litB_gt hz1)))
                          clear HNO HYES HZ
                          go_wp2
                          exact bodyPost_ret (v := .bool false) (by simp [results, Try.results26, go_sem]) rfl ⟨by rw [unhide HT, unhide HF], brf w⟩
                        · by_cases hz2 : z < -vars
                          · have HF := hide (unhide HNO (all_no (unhide HZ) (litB_lt hz2)))
                            clear HNO HYES HZ
                            go_wp2
                            exact bodyPost_ret (v := .bool false) (by simp [results, Try.results26, go_sem]) rfl ⟨by rw [unhide HT, unhide HF], brf w⟩
                          · have HF : Hid ((y.take (j + 1)).all (litB vars) = true) := hide (by rw [all_take (unhide HZ), unhide HA, litB_yes hz0 hz1 hz2]; rfl)
                            clear HNO HYES HZ
                            go_wp2
                            go_round
                            case rel => exact ⟨j + 1, by omega, by go_num, unhide HF⟩
                            case measure => simp [intOf]; omega
                    · obtain rfl : j = y.length := by omega
                      have HF := hide (unhide HYES (all_end (unhide HA)))
                      clear HY HNO HYES
                      go_wp2
                      go_round
                      case rel => exact ⟨k + 1, by omega, by go_num, unhide HF⟩
                      case measure => simp [intOf]; omega
            · obtain rfl : k = cs.length := by omega
              clear HC
              go_wp2
              exact bodyPost_ret (v := .bool true) (by simp [results, Try.results26, go_sem]) rfl ⟨by rw [unhide HT, all_end (unhide HA)], brf w⟩
theorem sOK (vars : Int) (cs : List (List Int)) (v : Value) (w : World) (hr : RS 1 RIntS w 0 cs v) :
    Calls Try.prog 14 #[.int .i64 vars, v] w fun e w' => e = .returned (.bool (okC vars 64 cs)) ∧ Below w.heap.size w w' := by
  have HI := hide (sFit vars 64 cs v w hr)
  obtain ⟨a, c, rfl⟩ := hr.slice
  clear hr
  go_enter Try.func14, Try.ntmps14
  go_wp2_with fail
  refine (unhide HI).mono ?_
  rintro e W1 ⟨rfl, hb⟩
  have HB := hide hb
  clear hb
  go_wp2_with fail
  exact bodyPost_ret (v := .bool (okC vars 64 cs)) (by simp [results, Try.results14, go_sem]) rfl ⟨rfl, unhide HB⟩
end Go.Proofs.Ytonfbnbkhpabbaa
