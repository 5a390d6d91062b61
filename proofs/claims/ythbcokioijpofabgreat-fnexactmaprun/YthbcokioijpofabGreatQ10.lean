/- stepsFit. -/
import Derived.Test.YthbcokioijpofabGreatGs
import Derived.Test.YthbcokioijpofabGreatDD
import Derived.Test.YthbcokioijpofabGreatGS2
import Derived.BigQuiet
namespace Go.Proofs.YthbcokioijpofabGreat
open Go Go.RowKit Gs
set_option linter.unusedVariables false
set_option linter.unusedSimpArgs false
set_option maxRecDepth 100000
theorem bdz {w W : World} {n : Nat} (h : Below w.heap.size w W) : Below w.heap.size w (W.drewN n) := ⟨h.os, h.tape, h.output, h.size, h.block⟩
/-- An input's text is one bit that is known. -/
def inB (v : ByteArray) : Bool := (Vb.okV (L v) && (L v).all Vb.knB) && decide (v.size = 1)
def stepB (n0 n1 : Nat) (s : Step) : Bool := (decide (s.ins.length = n0) && decide (s.ticks.length = n1)) && s.ins.all inB
set_option maxHeartbeats 16000000 in
theorem iStepsFit {W : World} {Bw n0 n1 : Nat} (steps : List Step) (sv wv : Value) (hs : RS 2 RStep W 0 steps sv) (hsl : steps.length ≤ 4096) (hw : RS 1 RInt W Bw (List.replicate n0 1) wv) (hn0 : n0 ≤ 1048576) (hn1 : n1 ≤ 1048576) :
    Calls Tryz.prog 34 #[sv, wv, .int .i64 (n1 : Int)] W fun e w' => e = .returned (.bool (steps.all (stepB n0 n1))) ∧ Below W.heap.size W w' := by
  obtain ⟨a, c, rfl⟩ := hs.slice
  obtain ⟨aw, cw, rfl⟩ := hw.slice
  rw [List.length_replicate]
  have HWI : Hid (∀ i, i < n0 → ∃ b o, aw = some ⟨b, o, none⟩ ∧ W.cell? ⟨b, o + i, none⟩ = some (.int .i64 1)) := hide (by
    intro i hi
    rcases hw.open with ⟨h0, _⟩ | ⟨b, o, c', hv, _, _, _, he⟩
    · have := congrArg List.length h0; simp at this; omega
    · injection hv with e1 e2 e3
      obtain ⟨u, hu, hat, hux⟩ := he i 1 (by simp [List.getElem?_replicate, hi])
      subst hux
      exact ⟨b, o, e1, by simpa using hat.get (j := 0) rfl⟩)
  have HCS : Hid (∀ (i : Nat) s, steps[i]? = some s → ∃ b o ai ci at_ ct, a = some ⟨b, o, none⟩ ∧ W.cell? ⟨b, o + i * 2, none⟩ = some (.slice ai s.ins.length ci) ∧ W.cell? ⟨b, o + i * 2 + 1, none⟩ = some (.slice at_ s.ticks.length ct) ∧ s.ins.length ≤ maxLen ∧ s.ticks.length ≤ maxLen ∧ ∀ (j : Nat) y, s.ins[j]? = some y → ∃ b o, ai = some ⟨b, o, none⟩ ∧ W.cell? ⟨b, o + j, none⟩ = some (.string y) ∧ y.size ≤ maxLen) := hide (by
    intro i s hi
    rcases hs.open with ⟨rfl, _⟩ | ⟨b, o, c', hv, _, _, _, he⟩
    · simp at hi
    · injection hv with e1 e2 e3
      obtain ⟨u, hu, hat, vi, vt, hux, h1, h2⟩ := he i s hi
      subst hux
      have l1 := h1.len
      have l2 := h2.len
      obtain ⟨ai, ci, rfl⟩ := h1.slice
      obtain ⟨at_, ct, rfl⟩ := h2.slice
      refine ⟨b, o, ai, ci, at_, ct, e1, by simpa using hat.get (j := 0) rfl, by simpa using hat.get (j := 1) rfl, l1, l2, fun j y hy => ?_⟩
      rcases h1.open with ⟨h0, _⟩ | ⟨b, o, c', hv, _, _, _, he⟩
      · rw [h0] at hy; simp at hy
      · injection hv with e1 e2 e3
        obtain ⟨u, hu, hat, hux, hsz⟩ := he j y hy
        subst hux
        exact ⟨b, o, e1, by simpa using hat.get (j := 0) rfl, hsz⟩)
  clear hs hw
  go_enter Tryz.func34, Tryz.ntmps34
  go_wp2_with fail
  go_loopw [15] (fun i wr => ∃ k : Nat, k ≤ steps.length ∧ i = .int .i64 k ∧ (steps.take k).all (stepB n0 n1) = true ∧ Below W.heap.size W wr) (fun i wr => steps.length - (intOf i).toNat)
  case atStart => exact ⟨0, Nat.zero_le _, rfl, rfl, brf _⟩
  case round =>
    obtain ⟨k, hk, rfl, hall, hb⟩ := hrel
    have HA := hide hall
    clear hall
    by_cases hlt : k < steps.length
    · have hsk : steps[k]? = some steps[k] := List.getElem?_eq_getElem hlt
      have hmem := List.getElem_mem hlt
      generalize steps[k] = s at hsk hmem
      have HSA := hide (show (steps.take (k + 1)).all (stepB n0 n1) = ((steps.take k).all (stepB n0 n1) && stepB n0 n1 s) by rw [List.take_add_one, hsk, List.all_append]; simp)
      have HF : Hid (stepB n0 n1 s = false → steps.all (stepB n0 n1) = false) := hide (fun h => by rw [← Bool.not_eq_true]; intro e; rw [List.all_eq_true.1 e s hmem] at h; cases h)
      obtain ⟨bb, oo, ai, ci, ak, ct, rfl, hc0, hc1, hl1, hl2, hcj⟩ := unhide HCS k s hsk
      unfold maxLen at hl1 hl2
      have k0 := cell_later hb hc0
      have k1 := cell_later hb hc1
      obtain ⟨B1, hW1⟩ : ∃ B1, B1 = wr.alloc (.cells #[.slice ai s.ins.length ci, .slice ak s.ticks.length ct] 71) := ⟨_, rfl⟩
      have hbB : Below W.heap.size W B1 := by rw [hW1]; exact bal hb _
      have HB1 := hide hbB
      have HW1 := hide hW1
      have HCJ := hide hcj
      clear hcj hc0 hc1 hsk hmem hb hbB hW1 HCS
      by_cases h1 : s.ins.length = n0
      · by_cases h2 : s.ticks.length = n1
        · have d1 : (((s.ins.length : Int) != (n0 : Int))) = false := by rw [bne_eq_false_iff_eq]; omega
          have d2 : (((s.ticks.length : Int) != (n1 : Int))) = false := by rw [bne_eq_false_iff_eq]; omega
          have HH1 := hide h1
          have HSB := hide (show stepB n0 n1 s = s.ins.all inB by simp [stepB, h1, h2])
          clear h1 h2
          go_wp2_with fail
          rw [← unhide HW1]
          clear k0 k1 d1 d2
          go_loopw [35] (fun i wj => ∃ j : Nat, j ≤ s.ins.length ∧ i = .int .i64 j ∧ (s.ins.take j).all inB = true ∧ Below W.heap.size W wj) (fun i wj => s.ins.length - (intOf i).toNat)
          case atStart => exact ⟨0, Nat.zero_le _, rfl, rfl, unhide HB1⟩
          case round =>
            obtain ⟨j, hj, rfl, hja, hbj⟩ := hrel
            have HJA := hide hja
            clear hja
            by_cases hjl : j < s.ins.length
            · have hy : s.ins[j]? = some s.ins[j] := List.getElem?_eq_getElem hjl
              have hym := List.getElem_mem hjl
              generalize s.ins[j] = y at hy hym
              have HJS := hide (show (s.ins.take (j + 1)).all inB = ((s.ins.take j).all inB && inB y) by rw [List.take_add_one, hy, List.all_append]; simp)
              have HJF : Hid (inB y = false → steps.all (stepB n0 n1) = false) := hide (fun h => unhide HF (by rw [unhide HSB, ← Bool.not_eq_true]; intro e; rw [List.all_eq_true.1 e y hym] at h; cases h))
              obtain ⟨by_, oy, rfl, hcy, hys⟩ := unhide HCJ j y hy
              obtain ⟨bw, ow, rfl, hcw⟩ := unhide HWI j (by have := unhide HH1; omega)
              have m0 := cell_later hbj hcy
              have HCW := hide (fun (V : World) (hV : Below W.heap.size W V) => cell_later hV hcw)
              have HBJ := hide hbj
              clear hbj hcy hcw hy hym HCJ HWI
              have i1 : (j : Int) < (n0 : Int) := by have := unhide HH1; omega
              have i0 : (0 : Int) ≤ (j : Int) := by omega
              cases hok : Vb.okV (L y) with
              | false =>
                have HKV := hide (iKnownVec_no y wr hys hok)
                have HIN := hide (show inB y = false by simp [inB, hok])
                unfold V at HKV
                clear hok
                go_wp2_with fail
                refine (unhide HKV).mono ?_
                rintro e V1 ⟨rfl, hb1⟩
                have HB2 := hide (bdr (bal (btr (unhide HBJ) hb1) (.cells #[.int .i64 ((0 : Nat) : Int), .int .u64 (U 0#64), .int .u64 (U 0#64)] 122)))
                have HB3 := hide (bal (btr (unhide HBJ) hb1) (.cells #[.int .i64 ((0 : Nat) : Int), .int .u64 (U 0#64), .int .u64 (U 0#64)] 122))
                have mw := unhide HCW _ (unhide HB3)
                clear hb1
                go_wp2_with fail
                go_quiet (fail)
                go_wp2_with fail
                exact bodyPost_ret (v := .bool false) (by simp [results, Tryz.results34, go_sem]) rfl ⟨by rw [unhide HJF (by rw [unhide HIN])], bdz (unhide HB3)⟩
              | true =>
                have HKV := hide (iKnownVec y wr hys hok)
                have hk1 := Vb.kn_ones (l := L y) (by rw [L_len]; exact ((okV_iff y).1 hok).2.1)
                rw [L_len] at hk1
                unfold V at HKV
                generalize hq : (Vb.kn (L y) == Vb.ones y.size) = q at HKV
                have hqa : (L y).all Vb.knB = q := by
                  rw [← hq, Bool.eq_iff_iff, ← hk1, beq_iff_eq]
                have HIN := hide (show inB y = (q && decide (y.size = 1)) by simp [inB, hok, hqa])
                generalize U (Vb.kn (L y)) = ukn at *
                generalize U (Vb.wh (L y)) = uwh at *
                unfold maxLen at hys
                clear hok hk1 hq hqa
                cases q
                · go_wp2_with fail
                  refine (unhide HKV).mono ?_
                  rintro e V1 ⟨rfl, hb1⟩
                  have HB2 := hide (bdr (bal (btr (unhide HBJ) hb1) (.cells #[.int .i64 (y.size : Int), .int .u64 ukn, .int .u64 uwh] 122)))
                  have HB3 := hide (bal (btr (unhide HBJ) hb1) (.cells #[.int .i64 (y.size : Int), .int .u64 ukn, .int .u64 uwh] 122))
                  have mw := unhide HCW _ (unhide HB3)
                  clear hb1
                  go_wp2_with fail
                  go_quiet (fail)
                  go_wp2_with fail
                  exact bodyPost_ret (v := .bool false) (by simp [results, Tryz.results34, go_sem]) rfl ⟨by rw [unhide HJF (by rw [unhide HIN]; rfl)], bdz (unhide HB3)⟩
                · by_cases hsz : y.size = 1
                  · have d1 : (((y.size : Int) != 1)) = false := by rw [bne_eq_false_iff_eq]; omega
                    have HS := hide hsz
                    clear hsz
                    go_wp2_with fail
                    refine (unhide HKV).mono ?_
                    rintro e V1 ⟨rfl, hb1⟩
                    have HB2 := hide (bdr (bal (btr (unhide HBJ) hb1) (.cells #[.int .i64 (y.size : Int), .int .u64 ukn, .int .u64 uwh] 122)))
                    have HB3 := hide (bal (btr (unhide HBJ) hb1) (.cells #[.int .i64 (y.size : Int), .int .u64 ukn, .int .u64 uwh] 122))
                    have mw := unhide HCW _ (unhide HB3)
                    clear hb1
                    go_wp2_with fail
                    go_quiet (fail)
                    go_wp2_with fail
                    go_roundw
                    case rel => exact ⟨j + 1, by omega, by go_num, by rw [unhide HJS, unhide HJA, unhide HIN, unhide HS]; rfl, bdz (unhide HB3)⟩
                    case measure => simp [intOf]; omega
                  · have d1 : (((y.size : Int) != 1)) = true := by rw [bne_iff_ne]; omega
                    have HS := hide hsz
                    clear hsz
                    go_wp2_with fail
                    refine (unhide HKV).mono ?_
                    rintro e V1 ⟨rfl, hb1⟩
                    have HB2 := hide (bdr (bal (btr (unhide HBJ) hb1) (.cells #[.int .i64 (y.size : Int), .int .u64 ukn, .int .u64 uwh] 122)))
                    have HB3 := hide (bal (btr (unhide HBJ) hb1) (.cells #[.int .i64 (y.size : Int), .int .u64 ukn, .int .u64 uwh] 122))
                    have mw := unhide HCW _ (unhide HB3)
                    clear hb1
                    go_wp2_with fail
                    go_quiet (fail)
                    go_wp2_with fail
                    exact bodyPost_ret (v := .bool false) (by simp [results, Tryz.results34, go_sem]) rfl ⟨by rw [unhide HJF (by rw [unhide HIN]; simp [unhide HS])], bdz (unhide HB3)⟩
            · obtain rfl : j = s.ins.length := by omega
              have h := unhide HJA
              rw [List.take_of_length_le (Nat.le_refl _)] at h
              have HR := hide (show (steps.take (k + 1)).all (stepB n0 n1) = true by rw [unhide HSA, unhide HA, unhide HSB, h]; rfl)
              have HBJ := hide hbj
              clear hbj h HJA HCJ
              go_wp2_with fail
              go_roundw
              case rel => exact ⟨k + 1, by omega, by go_num, unhide HR, unhide HBJ⟩
              case measure => simp [intOf]; omega
        · have d1 : (((s.ins.length : Int) != (n0 : Int))) = false := by rw [bne_eq_false_iff_eq]; omega
          have d2 : (((s.ticks.length : Int) != (n1 : Int))) = true := by rw [bne_iff_ne]; omega
          clear h1
          go_wp2_with fail
          rw [← unhide HW1]
          exact bodyPost_ret (v := .bool false) (by simp [results, Tryz.results34, go_sem]) rfl ⟨by rw [unhide HF (by simp [stepB, h2])], unhide HB1⟩
      · have d1 : (((s.ins.length : Int) != (n0 : Int))) = true := by rw [bne_iff_ne]; omega
        go_wp2_with fail
        rw [← unhide HW1]
        exact bodyPost_ret (v := .bool false) (by simp [results, Tryz.results34, go_sem]) rfl ⟨by rw [unhide HF (by simp [stepB, h1])], unhide HB1⟩
    · obtain rfl : k = steps.length := by omega
      have h := unhide HA
      rw [List.take_of_length_le (Nat.le_refl _)] at h
      have HA2 := hide h
      have HB := hide hb
      clear h hb HCS HA
      go_wp2
      exact bodyPost_ret (v := .bool true) (by simp [results, Tryz.results34, go_sem]) rfl ⟨by rw [unhide HA2], unhide HB⟩
end Go.Proofs.YthbcokioijpofabGreat
