/- What the specification's BitsOK, l01Known, l01Fill and BitsOf answer. -/
import Derived.Test.YtdmmbhemmbgcpabGreatGDD
import Derived.Test.YtdmmbhemmbgcpabGreatGQ9
namespace Go.Proofs.YtdmmbhemmbgcpabGreat
open Go.RowKit

set_option maxHeartbeats 400000 in
theorem sKnown (s : ByteArray) (w : World) (hs : s.size ≤ maxLen) :
    Calls Tryz.prog 54 #[.string s] w fun e w' => e = .returned (.bool ((L s).all Vb.knB)) ∧ w' = w := by
  unfold maxLen at hs
  go_enter Tryz.func54, Tryz.ntmps54
  go_wp2
  go_loop [3] (fun i => ∃ k : Nat, k ≤ s.size ∧ i = .int .i64 k ∧ ((L s).take k).all Vb.knB = true) (fun i => s.size - (intOf i).toNat)
  case atStart => exact ⟨0, Nat.zero_le _, rfl, rfl⟩
  case round =>
    obtain ⟨k, hk, rfl, hv⟩ := hrel
    have HV : Hid (((L s).take k).all Vb.knB = true) := hv
    clear hv
    by_cases hlt : k < s.size
    · by_cases e : s[k] = 48
      · have e' : (s[k].toNat : Int) = 48 := by rw [e]; rfl
        have hn : Hid (Vb.knB s[k] = true) := by rw [e]; exact rfl
        clear e
        go_wp2
        go_round
        case rel => exact ⟨k + 1, by omega, by go_num, all_step k hlt hn.out HV.out⟩
        case measure => simp [intOf]; omega
      · by_cases f : s[k] = 49
        · have e' : (s[k].toNat : Int) = 49 := by rw [f]; rfl
          have hn : Hid (Vb.knB s[k] = true) := by rw [f]; exact rfl
          clear e f
          go_wp2
          go_round
          case rel => exact ⟨k + 1, by omega, by go_num, all_step k hlt hn.out HV.out⟩
          case measure => simp [intOf]; omega
        · have n1 : ((s[k].toNat : Int) != 48) = true := u8_ne 48 (by omega) e
          have n2 : ((s[k].toNat : Int) != 49) = true := u8_ne 49 (by omega) f
          have hn : Vb.knB s[k] = false := by simp [Vb.knB, e, f]
          clear e f
          go_wp2
          go_ret
          exact ⟨ret_bool (not_all k hlt hn).symm, rfl⟩
    · go_wp2
      go_ret
      refine ⟨ret_bool ?_, rfl⟩
      have h := HV.out
      rw [L_take_all s k (by omega)] at h
      exact h.symm
end Go.Proofs.YtdmmbhemmbgcpabGreat
namespace Go.Proofs.YtdmmbhemmbgcpabGreat
open Go.RowKit
set_option maxHeartbeats 400000 in
theorem sBitsOK (s : ByteArray) (w : World) (hs : s.size ≤ maxLen) :
    Calls Tryz.prog 53 #[.string s] w fun e w' => e = .returned (.bool (Vb.okV (L s))) ∧ w' = w := by
  unfold maxLen at hs
  by_cases h1 : (s.size : Int) < 1
  · go_enter Tryz.func53, Tryz.ntmps53
    go_wp2
    go_ret
    exact ⟨ret_bool (by simp [Vb.okV, L_len]; omega), rfl⟩
  · by_cases h2 : (64 : Int) < s.size
    · go_enter Tryz.func53, Tryz.ntmps53
      go_wp2
      go_ret
      exact ⟨ret_bool (by simp [Vb.okV, L_len]; omega), rfl⟩
    · go_enter Tryz.func53, Tryz.ntmps53
      go_wp2
      go_loop [3] (fun i => ∃ k : Nat, k ≤ s.size ∧ i = .int .i64 k ∧ ((L s).take k).all Vb.isV = true) (fun i => s.size - (intOf i).toNat)
      case atStart => exact ⟨0, Nat.zero_le _, rfl, rfl⟩
      case round =>
        obtain ⟨k, hk, rfl, hv⟩ := hrel
        have HV : Hid (((L s).take k).all Vb.isV = true) := hv
        clear hv
        by_cases hlt : k < s.size
        · have fin : Vb.isV s[k] = true → ∃ k1 : Nat, k1 ≤ s.size ∧ (.int .i64 (↑k + 1) : Value) = .int .i64 k1 ∧ ((L s).take k1).all Vb.isV = true :=
            fun h => ⟨k + 1, by omega, by go_num, all_step k hlt h HV.out⟩
          rcases cls s[k] with e | e | e | e | ⟨hn, n1, n2, n3, n4⟩
          · rw [e] at fin
            have e' : (s[k].toNat : Int) = 48 := by rw [e]; rfl
            clear e
            go_wp2
            go_round
            case rel => exact fin rfl
            case measure => simp [intOf]; omega
          · rw [e] at fin
            have e' : (s[k].toNat : Int) = 49 := by rw [e]; rfl
            clear e
            go_wp2
            go_round
            case rel => exact fin rfl
            case measure => simp [intOf]; omega
          · rw [e] at fin
            have e' : (s[k].toNat : Int) = 120 := by rw [e]; rfl
            clear e
            go_wp2
            go_round
            case rel => exact fin rfl
            case measure => simp [intOf]; omega
          · rw [e] at fin
            have e' : (s[k].toNat : Int) = 122 := by rw [e]; rfl
            clear e
            go_wp2
            go_round
            case rel => exact fin rfl
            case measure => simp [intOf]; omega
          · clear fin
            go_wp2
            go_ret
            exact ⟨ret_bool (by simp [Vb.okV, not_all k hlt hn]), rfl⟩
        · go_wp2
          go_ret
          refine ⟨ret_bool ?_, rfl⟩
          have h := HV.out
          rw [L_take_all s k (by omega)] at h
          exact ((okV_iff s).2 ⟨by omega, by omega, h⟩).symm
end Go.Proofs.YtdmmbhemmbgcpabGreat
namespace Go.Proofs.YtdmmbhemmbgcpabGreat
open Go Go.RowKit Gs
set_option linter.unusedVariables false
set_option linter.unusedSimpArgs false
set_option maxRecDepth 100000
set_option maxHeartbeats 16000000 in
theorem sStepsOK {W : World} {n0 n1 cn cc : Nat} {an ac : Option Addr} {z2 z3 z4 z5 : Value} (steps : List Step) (sv : Value) (hs : RS 2 RStep W 0 steps sv) (hsl : steps.length ≤ 4096) (hw : ∀ i, i < n0 → ∃ b o, an = some ⟨b, o, none⟩ ∧ W.cell? ⟨b, o + i * 2 + 1, none⟩ = some (.int .i64 1)) (hn0 : n0 ≤ 1048576) (hn1 : n1 ≤ 1048576) :
    Calls Tryz.prog 22 #[.agg #[.slice an n0 cn, .slice ac n1 cc, z2, z3, z4, z5], sv] W fun e w' => e = .returned (.bool (steps.all (stepB n0 n1))) ∧ Below W.heap.size W w' := by
  obtain ⟨a, c, rfl⟩ := hs.slice
  have HWI := hide hw
  have HCS : Hid (∀ (i : Nat) s, steps[i]? = some s → ∃ b o ai ci at_ ct, a = some ⟨b, o, none⟩ ∧ W.cell? ⟨b, o + i * 2, none⟩ = some (.slice ai s.ins.length ci) ∧ W.cell? ⟨b, o + i * 2 + 1, none⟩ = some (.slice at_ s.ticks.length ct) ∧ s.ins.length ≤ maxLen ∧ s.ticks.length ≤ maxLen ∧ ∀ (j : Nat) y, s.ins[j]? = some y → ∃ b o, ai = some ⟨b, o, none⟩ ∧ W.cell? ⟨b, o + j, none⟩ = some (.string y) ∧ y.size ≤ maxLen) := hide (by
    intro i s hi
    rcases hs.open with ⟨rfl, _⟩ | ⟨b, o, c', hv, _, _, _, he⟩
    · simp at hi
    · injection hv with e1 e2 e3
      obtain ⟨u, hu, hat, vi, vt, hux, h1, h2⟩ := he i s hi
      subst hux
      have l1 := h1.len
      have l2 := h2.len
      obtain ⟨ai, ci, rfl⟩ := h1.slice
      obtain ⟨at_, ct, rfl⟩ := h2.slice
      refine ⟨b, o, ai, ci, at_, ct, e1, by simpa using hat.get (j := 0) rfl, by simpa using hat.get (j := 1) rfl, l1, l2, fun j y hy => ?_⟩
      rcases h1.open with ⟨h0, _⟩ | ⟨b, o, c', hv, _, _, _, he⟩
      · rw [h0] at hy; simp at hy
      · injection hv with e1 e2 e3
        obtain ⟨u, hu, hat, hux, hsz⟩ := he j y hy
        subst hux
        exact ⟨b, o, e1, by simpa using hat.get (j := 0) rfl, hsz⟩)
  clear hs hw
  obtain ⟨Wb, hWb⟩ : ∃ Wb, Wb = W.alloc (.cells #[.slice an n0 cn, .slice ac n1 cc, z2, z3, z4, z5] 60) := ⟨_, rfl⟩
  have HBB : Hid (Below W.heap.size W Wb) := hide (by rw [hWb]; exact bal (brf W) _)
  have HC1 : Hid (∀ V, Below Wb.heap.size Wb V → V.cell? ⟨W.heap.size, 0, none⟩ = some (.slice an n0 cn) ∧ V.cell? ⟨W.heap.size, 1, none⟩ = some (.slice ac n1 cc)) := hide (fun V hb => by
    refine ⟨?_, ?_⟩ <;> exact cell_later hb (by rw [hWb, World.cell?_alloc_new]; rfl))
  have HWb := hide hWb
  clear hWb
  go_enter Tryz.func22, Tryz.ntmps22
  go_wp2_with fail
  rw [← unhide HWb]
  go_loopw [5] (fun i wr => ∃ k : Nat, k ≤ steps.length ∧ i = .int .i64 k ∧ (steps.take k).all (stepB n0 n1) = true ∧ Below Wb.heap.size Wb wr) (fun i wr => steps.length - (intOf i).toNat)
  case atStart => exact ⟨0, Nat.zero_le _, rfl, rfl, brf _⟩
  case round =>
    obtain ⟨k, hk, rfl, hall, hb⟩ := hrel
    have HA := hide hall
    clear hall
    by_cases hlt : k < steps.length
    · have hsk : steps[k]? = some steps[k] := List.getElem?_eq_getElem hlt
      have hmem := List.getElem_mem hlt
      generalize steps[k] = s at hsk hmem
      have HSA := hide (show (steps.take (k + 1)).all (stepB n0 n1) = ((steps.take k).all (stepB n0 n1) && stepB n0 n1 s) by rw [List.take_add_one, hsk, List.all_append]; simp)
      have HF : Hid (stepB n0 n1 s = false → steps.all (stepB n0 n1) = false) := hide (fun h => by rw [← Bool.not_eq_true]; intro e; rw [List.all_eq_true.1 e s hmem] at h; cases h)
      obtain ⟨bb, oo, ai, ci, ak, ct, rfl, hc0, hc1, hl1, hl2, hcj⟩ := unhide HCS k s hsk
      unfold maxLen at hl1 hl2
      have k0 := cell_later (btr (unhide HBB) hb) hc0
      have k1 := cell_later (btr (unhide HBB) hb) hc1
      obtain ⟨q0, q1⟩ := unhide HC1 wr hb
      have HB1 := hide hb
      have HB2 := hide (btr (unhide HBB) hb)
      have HCJ := hide hcj
      have HK0 := hide (fun (V : World) (hV : Below W.heap.size W V) => cell_later hV hc0)
      have i1 : (0 : Int) ≤ (k : Int) := by omega
      have i2 : (k : Int) < (steps.length : Int) := by omega
      clear hcj hc0 hc1 hsk hmem hb HCS
      by_cases h1 : s.ins.length = n0
      · by_cases h2 : s.ticks.length = n1
        · have d1 : (((s.ins.length : Int) != (n0 : Int))) = false := by rw [bne_eq_false_iff_eq]; omega
          have d2 : (((s.ticks.length : Int) != (n1 : Int))) = false := by rw [bne_eq_false_iff_eq]; omega
          have HH1 := hide h1
          have HSB := hide (show stepB n0 n1 s = s.ins.all inB by simp [stepB, h1, h2])
          clear h1 h2
          go_wp2_with fail
          go_quiet (fail)
          go_wp2_with fail
          go_loopw [6] (fun i wj => ∃ j : Nat, j ≤ s.ins.length ∧ i = .int .i64 j ∧ (s.ins.take j).all inB = true ∧ Below Wb.heap.size Wb wj) (fun i wj => s.ins.length - (intOf i).toNat)
          case atStart => exact ⟨0, Nat.zero_le _, rfl, rfl, bdz (unhide HB1)⟩
          case round =>
            clear q0 q1 k0 k1
            obtain ⟨j, hj, rfl, hja, hbj⟩ := hrel
            have HJA := hide hja
            obtain ⟨q0, q1⟩ := unhide HC1 wr hbj
            clear hja
            by_cases hjl : j < s.ins.length
            · have hy : s.ins[j]? = some s.ins[j] := List.getElem?_eq_getElem hjl
              have hym := List.getElem_mem hjl
              generalize s.ins[j] = y at hy hym
              have HJS := hide (show (s.ins.take (j + 1)).all inB = ((s.ins.take j).all inB && inB y) by rw [List.take_add_one, hy, List.all_append]; simp)
              have HJF : Hid (inB y = false → steps.all (stepB n0 n1) = false) := hide (fun h => unhide HF (by rw [unhide HSB, ← Bool.not_eq_true]; intro e; rw [List.all_eq_true.1 e y hym] at h; cases h))
              obtain ⟨by_, oy, rfl, hcy, hys⟩ := unhide HCJ j y hy
              obtain ⟨bw, ow, rfl, hcw⟩ := unhide HWI j (by have := unhide HH1; omega)
              have m0 := cell_later (btr (unhide HBB) hbj) hcy
              have m1 := cell_later (btr (unhide HBB) hbj) hcw
              have m2 := unhide HK0 wr (btr (unhide HBB) hbj)
              have HBJ := hide hbj
              have HBJ2 := hide (btr (unhide HBB) hbj)
              have HYS := hide hys
              have i3 : (j : Int) < (n0 : Int) := by have := unhide HH1; omega
              have i4 : (0 : Int) ≤ (j : Int) := by omega
              have i5 : (j : Int) < (s.ins.length : Int) := by omega
              unfold maxLen at hys
              have hdef : inB y = ((Vb.okV (L y) && (L y).all Vb.knB) && decide (y.size = 1)) := rfl
              generalize hp1 : Vb.okV (L y) = p1 at hdef
              generalize hp2 : (L y).all Vb.knB = p2 at hdef
              have HOK := hide hp1
              have HKN := hide hp2
              have HIN := hide hdef
              clear hbj hcy hcw hy hym HCJ HWI hp1 hp2 hdef
              cases p1
              · go_wp2_with fail
                refine (sBitsOK y _ (unhide HYS)).mono ?_
                rintro e V1 ⟨rfl, h⟩
                subst h
                rw [unhide HOK]
                go_wp2_with fail
                exact bodyPost_ret (v := .bool false) (by simp [results, Tryz.results22, go_sem]) rfl ⟨by rw [unhide HJF (by rw [unhide HIN]; rfl)], unhide HBJ2⟩
              · cases p2
                · go_wp2_with fail
                  refine (sBitsOK y _ (unhide HYS)).mono ?_
                  rintro e V1 ⟨rfl, h⟩
                  subst h
                  rw [unhide HOK]
                  go_wp2_with fail
                  refine (sKnown y _ (unhide HYS)).mono ?_
                  rintro e V1 ⟨rfl, h⟩
                  subst h
                  rw [unhide HKN]
                  go_wp2_with fail
                  exact bodyPost_ret (v := .bool false) (by simp [results, Tryz.results22, go_sem]) rfl ⟨by rw [unhide HJF (by rw [unhide HIN]; rfl)], unhide HBJ2⟩
                · by_cases hsz : y.size = 1
                  · have d1 : (((y.size : Int) != 1)) = false := by rw [bne_eq_false_iff_eq]; omega
                    have HS := hide hsz
                    clear hsz
                    go_wp2_with fail
                    refine (sBitsOK y _ (unhide HYS)).mono ?_
                    rintro e V1 ⟨rfl, h⟩
                    subst h
                    rw [unhide HOK]
                    go_wp2_with fail
                    refine (sKnown y _ (unhide HYS)).mono ?_
                    rintro e V1 ⟨rfl, h⟩
                    subst h
                    rw [unhide HKN]
                    go_wp2_with fail
                    go_roundw
                    case rel => exact ⟨j + 1, by omega, by go_num, by rw [unhide HJS, unhide HJA, unhide HIN, unhide HS]; rfl, unhide HBJ⟩
                    case measure => simp [intOf]; omega
                  · have d1 : (((y.size : Int) != 1)) = true := by rw [bne_iff_ne]; omega
                    have HS := hide hsz
                    clear hsz
                    go_wp2_with fail
                    refine (sBitsOK y _ (unhide HYS)).mono ?_
                    rintro e V1 ⟨rfl, h⟩
                    subst h
                    rw [unhide HOK]
                    go_wp2_with fail
                    refine (sKnown y _ (unhide HYS)).mono ?_
                    rintro e V1 ⟨rfl, h⟩
                    subst h
                    rw [unhide HKN]
                    go_wp2_with fail
                    exact bodyPost_ret (v := .bool false) (by simp [results, Tryz.results22, go_sem]) rfl ⟨by rw [unhide HJF (by rw [unhide HIN]; simp [unhide HS])], unhide HBJ2⟩
            · obtain rfl : j = s.ins.length := by omega
              have h := unhide HJA
              rw [List.take_of_length_le (Nat.le_refl _)] at h
              have HR := hide (show (steps.take (k + 1)).all (stepB n0 n1) = true by rw [unhide HSA, unhide HA, unhide HSB, h]; rfl)
              have HBJ := hide hbj
              have i6 : ¬ ((s.ins.length : Int) < (n0 : Int)) := by have := unhide HH1; omega
              clear hbj h HJA HCJ
              go_wp2_with fail
              go_roundw
              case rel => exact ⟨k + 1, by omega, by go_num, unhide HR, unhide HBJ⟩
              case measure => simp [intOf]; omega
        · have d1 : (((s.ins.length : Int) != (n0 : Int))) = false := by rw [bne_eq_false_iff_eq]; omega
          have d2 : (((s.ticks.length : Int) != (n1 : Int))) = true := by rw [bne_iff_ne]; omega
          clear h1
          go_wp2_with fail
          go_quiet (fail)
          go_wp2_with fail
          exact bodyPost_ret (v := .bool false) (by simp [results, Tryz.results22, go_sem]) rfl ⟨by rw [unhide HF (by simp [stepB, h2])], bdz (unhide HB2)⟩
      · have d1 : (((s.ins.length : Int) != (n0 : Int))) = true := by rw [bne_iff_ne]; omega
        go_wp2_with fail
        go_quiet (fail)
        go_wp2_with fail
        exact bodyPost_ret (v := .bool false) (by simp [results, Tryz.results22, go_sem]) rfl ⟨by rw [unhide HF (by simp [stepB, h1])], bdz (unhide HB2)⟩
    · obtain rfl : k = steps.length := by omega
      have h := unhide HA
      rw [List.take_of_length_le (Nat.le_refl _)] at h
      have HA2 := hide h
      have HB := hide (btr (unhide HBB) hb)
      clear h hb HCS HA
      go_wp2
      exact bodyPost_ret (v := .bool true) (by simp [results, Tryz.results22, go_sem]) rfl ⟨by rw [unhide HA2], unhide HB⟩
end Go.Proofs.YtdmmbhemmbgcpabGreat
