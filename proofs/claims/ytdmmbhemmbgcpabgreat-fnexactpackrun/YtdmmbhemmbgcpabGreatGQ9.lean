/- stepsFit. -/
import Derived.Test.YtdmmbhemmbgcpabGreatGM4
import Derived.Test.YtdmmbhemmbgcpabGreatGDD
import Derived.BigQuiet
import Derived.Test.YtdmmbhemmbgcpabGreatGQ8
import Derived.Test.YtdmmbhemmbgcpabGreatGQ16
import Derived.Test.YtdmmbhemmbgcpabGreatPU5
import Derived.Test.YtdmmbhemmbgcpabGreatGPI
import Derived.Test.YtdmmbhemmbgcpabGreatGPJ
import Derived.Test.YtdmmbhemmbgcpabGreatGPR2
namespace Go.Proofs.YtdmmbhemmbgcpabGreat
open Go Go.RowKit Gs
set_option linter.unusedVariables false
set_option linter.unusedSimpArgs false
set_option maxRecDepth 100000
theorem bdz {w W : World} {n : Nat} (h : Below w.heap.size w W) : Below w.heap.size w (W.drewN n) := ⟨h.os, h.tape, h.output, h.size, h.block⟩
/-- An input's text is one bit that is known. -/
def inB (v : ByteArray) : Bool := (Vb.okV (L v) && (L v).all Vb.knB) && decide (v.size = 1)
def stepB (n0 n1 : Nat) (s : Step) : Bool := (decide (s.ins.length = n0) && decide (s.ticks.length = n1)) && s.ins.all inB
set_option maxHeartbeats 16000000 in
theorem iStepsFit {W : World} {Bw n0 n1 : Nat} (steps : List Step) (sv wv : Value) (hs : RS 2 RStep W 0 steps sv) (hsl : steps.length ≤ 4096) (hw : RS 1 RInt W Bw (List.replicate n0 1) wv) (hn0 : n0 ≤ 1048576) (hn1 : n1 ≤ 1048576) :
    Calls Tryz.prog 33 #[sv, wv, .int .i64 (n1 : Int)] W fun e w' => e = .returned (.bool (steps.all (stepB n0 n1))) ∧ Below W.heap.size W w' := by
  obtain ⟨a, c, rfl⟩ := hs.slice
  obtain ⟨aw, cw, rfl⟩ := hw.slice
  rw [List.length_replicate]
  have HWI : Hid (∀ i, i < n0 → ∃ b o, aw = some ⟨b, o, none⟩ ∧ W.cell? ⟨b, o + i, none⟩ = some (.int .i64 1)) := hide (by
    intro i hi
    rcases hw.open with ⟨h0, _⟩ | ⟨b, o, c', hv, _, _, _, he⟩
    · have := congrArg List.length h0; simp at this; omega
    · injection hv with e1 e2 e3
      obtain ⟨u, hu, hat, hux⟩ := he i 1 (by simp [List.getElem?_replicate, hi])
      subst hux
      exact ⟨b, o, e1, by simpa using hat.get (j := 0) rfl⟩)
  have HCS : Hid (∀ (i : Nat) s, steps[i]? = some s → ∃ b o ai ci at_ ct, a = some ⟨b, o, none⟩ ∧ W.cell? ⟨b, o + i * 2, none⟩ = some (.slice ai s.ins.length ci) ∧ W.cell? ⟨b, o + i * 2 + 1, none⟩ = some (.slice at_ s.ticks.length ct) ∧ s.ins.length ≤ maxLen ∧ s.ticks.length ≤ maxLen ∧ ∀ (j : Nat) y, s.ins[j]? = some y → ∃ b o, ai = some ⟨b, o, none⟩ ∧ W.cell? ⟨b, o + j, none⟩ = some (.string y) ∧ y.size ≤ maxLen) := hide (by
    intro i s hi
    rcases hs.open with ⟨rfl, _⟩ | ⟨b, o, c', hv, _, _, _, he⟩
    · simp at hi
    · injection hv with e1 e2 e3
      obtain ⟨u, hu, hat, vi, vt, hux, h1, h2⟩ := he i s hi
      subst hux
      have l1 := h1.len
      have l2 := h2.len
      obtain ⟨ai, ci, rfl⟩ := h1.slice
      obtain ⟨at_, ct, rfl⟩ := h2.slice
      refine ⟨b, o, ai, ci, at_, ct, e1, by simpa using hat.get (j := 0) rfl, by simpa using hat.get (j := 1) rfl, l1, l2, fun j y hy => ?_⟩
      rcases h1.open with ⟨h0, _⟩ | ⟨b, o, c', hv, _, _, _, he⟩
      · rw [h0] at hy; simp at hy
      · injection hv with e1 e2 e3
        obtain ⟨u, hu, hat, hux, hsz⟩ := he j y hy
        subst hux
        exact ⟨b, o, e1, by simpa using hat.get (j := 0) rfl, hsz⟩)
  clear hs hw
  go_enter Tryz.func33, Tryz.ntmps33
  go_wp2_with fail
  go_loopw [15] (fun i wr => ∃ k : Nat, k ≤ steps.length ∧ i = .int .i64 k ∧ (steps.take k).all (stepB n0 n1) = true ∧ Below W.heap.size W wr) (fun i wr => steps.length - (intOf i).toNat)
  case atStart => exact ⟨0, Nat.zero_le _, rfl, rfl, brf _⟩
  case round =>
    obtain ⟨k, hk, rfl, hall, hb⟩ := hrel
    have HA := hide hall
    clear hall
    by_cases hlt : k < steps.length
    · have hsk : steps[k]? = some steps[k] := List.getElem?_eq_getElem hlt
      have hmem := List.getElem_mem hlt
      generalize steps[k] = s at hsk hmem
      have HSA := hide (show (steps.take (k + 1)).all (stepB n0 n1) = ((steps.take k).all (stepB n0 n1) && stepB n0 n1 s) by rw [List.take_add_one, hsk, List.all_append]; simp)
      have HF : Hid (stepB n0 n1 s = false → steps.all (stepB n0 n1) = false) := hide (fun h => by rw [← Bool.not_eq_true]; intro e; rw [List.all_eq_true.1 e s hmem] at h; cases h)
      obtain ⟨bb, oo, ai, ci, ak, ct, rfl, hc0, hc1, hl1, hl2, hcj⟩ := unhide HCS k s hsk
      unfold maxLen at hl1 hl2
      have k0 := cell_later hb hc0
      have k1 := cell_later hb hc1
      obtain ⟨B1, hW1⟩ : ∃ B1, B1 = wr.alloc (.cells #[.slice ai s.ins.length ci, .slice ak s.ticks.length ct] 68) := ⟨_, rfl⟩
      have hbB : Below W.heap.size W B1 := by rw [hW1]; exact bal hb _
      have HB1 := hide hbB
      have HW1 := hide hW1
      have HCJ := hide hcj
      clear hcj hc0 hc1 hsk hmem hb hbB hW1 HCS
      by_cases h1 : s.ins.length = n0
      · by_cases h2 : s.ticks.length = n1
        · have d1 : (((s.ins.length : Int) != (n0 : Int))) = false := by rw [bne_eq_false_iff_eq]; omega
          have d2 : (((s.ticks.length : Int) != (n1 : Int))) = false := by rw [bne_eq_false_iff_eq]; omega
          have HH1 := hide h1
          have HSB := hide (show stepB n0 n1 s = s.ins.all inB by simp [stepB, h1, h2])
          clear h1 h2
          go_wp2_with fail
          rw [← unhide HW1]
          clear k0 k1 d1 d2
          go_loopw [35] (fun i wj => ∃ j : Nat, j ≤ s.ins.length ∧ i = .int .i64 j ∧ (s.ins.take j).all inB = true ∧ Below W.heap.size W wj) (fun i wj => s.ins.length - (intOf i).toNat)
          case atStart => exact ⟨0, Nat.zero_le _, rfl, rfl, unhide HB1⟩
          case round =>
            obtain ⟨j, hj, rfl, hja, hbj⟩ := hrel
            have HJA := hide hja
            clear hja
            by_cases hjl : j < s.ins.length
            · have hy : s.ins[j]? = some s.ins[j] := List.getElem?_eq_getElem hjl
              have hym := List.getElem_mem hjl
              generalize s.ins[j] = y at hy hym
              have HJS := hide (show (s.ins.take (j + 1)).all inB = ((s.ins.take j).all inB && inB y) by rw [List.take_add_one, hy, List.all_append]; simp)
              have HJF : Hid (inB y = false → steps.all (stepB n0 n1) = false) := hide (fun h => unhide HF (by rw [unhide HSB, ← Bool.not_eq_true]; intro e; rw [List.all_eq_true.1 e y hym] at h; cases h))
              obtain ⟨by_, oy, rfl, hcy, hys⟩ := unhide HCJ j y hy
              obtain ⟨bw, ow, rfl, hcw⟩ := unhide HWI j (by have := unhide HH1; omega)
              have m0 := cell_later hbj hcy
              have HCW := hide (fun (V : World) (hV : Below W.heap.size W V) => cell_later hV hcw)
              have HBJ := hide hbj
              clear hbj hcy hcw hy hym HCJ HWI
              have i1 : (j : Int) < (n0 : Int) := by have := unhide HH1; omega
              have i0 : (0 : Int) ≤ (j : Int) := by omega
              cases hok : Vb.okV (L y) with
              | false =>
                have HKV := hide (iKnownVec_no y wr hys hok)
                have HIN := hide (show inB y = false by simp [inB, hok])
                unfold V at HKV
                clear hok
                go_wp2_with fail
                refine (unhide HKV).mono ?_
                rintro e V1 ⟨rfl, hb1⟩
                have HB2 := hide (bdr (bal (btr (unhide HBJ) hb1) (.cells #[.int .i64 ((0 : Nat) : Int), .int .u64 (U 0#64), .int .u64 (U 0#64)] 115)))
                have HB3 := hide (bal (btr (unhide HBJ) hb1) (.cells #[.int .i64 ((0 : Nat) : Int), .int .u64 (U 0#64), .int .u64 (U 0#64)] 115))
                have mw := unhide HCW _ (unhide HB3)
                clear hb1
                go_wp2_with fail
                go_quiet (fail)
                go_wp2_with fail
                exact bodyPost_ret (v := .bool false) (by simp [results, Tryz.results33, go_sem]) rfl ⟨by rw [unhide HJF (by rw [unhide HIN])], bdz (unhide HB3)⟩
              | true =>
                have HKV := hide (iKnownVec y wr hys hok)
                have hk1 := Vb.kn_ones (l := L y) (by rw [L_len]; exact ((okV_iff y).1 hok).2.1)
                rw [L_len] at hk1
                unfold V at HKV
                generalize hq : (Vb.kn (L y) == Vb.ones y.size) = q at HKV
                have hqa : (L y).all Vb.knB = q := by
                  rw [← hq, Bool.eq_iff_iff, ← hk1, beq_iff_eq]
                have HIN := hide (show inB y = (q && decide (y.size = 1)) by simp [inB, hok, hqa])
                generalize U (Vb.kn (L y)) = ukn at *
                generalize U (Vb.wh (L y)) = uwh at *
                unfold maxLen at hys
                clear hok hk1 hq hqa
                cases q
                · go_wp2_with fail
                  refine (unhide HKV).mono ?_
                  rintro e V1 ⟨rfl, hb1⟩
                  have HB2 := hide (bdr (bal (btr (unhide HBJ) hb1) (.cells #[.int .i64 (y.size : Int), .int .u64 ukn, .int .u64 uwh] 115)))
                  have HB3 := hide (bal (btr (unhide HBJ) hb1) (.cells #[.int .i64 (y.size : Int), .int .u64 ukn, .int .u64 uwh] 115))
                  have mw := unhide HCW _ (unhide HB3)
                  clear hb1
                  go_wp2_with fail
                  go_quiet (fail)
                  go_wp2_with fail
                  exact bodyPost_ret (v := .bool false) (by simp [results, Tryz.results33, go_sem]) rfl ⟨by rw [unhide HJF (by rw [unhide HIN]; rfl)], bdz (unhide HB3)⟩
                · by_cases hsz : y.size = 1
                  · have d1 : (((y.size : Int) != 1)) = false := by rw [bne_eq_false_iff_eq]; omega
                    have HS := hide hsz
                    clear hsz
                    go_wp2_with fail
                    refine (unhide HKV).mono ?_
                    rintro e V1 ⟨rfl, hb1⟩
                    have HB2 := hide (bdr (bal (btr (unhide HBJ) hb1) (.cells #[.int .i64 (y.size : Int), .int .u64 ukn, .int .u64 uwh] 115)))
                    have HB3 := hide (bal (btr (unhide HBJ) hb1) (.cells #[.int .i64 (y.size : Int), .int .u64 ukn, .int .u64 uwh] 115))
                    have mw := unhide HCW _ (unhide HB3)
                    clear hb1
                    go_wp2_with fail
                    go_quiet (fail)
                    go_wp2_with fail
                    go_roundw
                    case rel => exact ⟨j + 1, by omega, by go_num, by rw [unhide HJS, unhide HJA, unhide HIN, unhide HS]; rfl, bdz (unhide HB3)⟩
                    case measure => simp [intOf]; omega
                  · have d1 : (((y.size : Int) != 1)) = true := by rw [bne_iff_ne]; omega
                    have HS := hide hsz
                    clear hsz
                    go_wp2_with fail
                    refine (unhide HKV).mono ?_
                    rintro e V1 ⟨rfl, hb1⟩
                    have HB2 := hide (bdr (bal (btr (unhide HBJ) hb1) (.cells #[.int .i64 (y.size : Int), .int .u64 ukn, .int .u64 uwh] 115)))
                    have HB3 := hide (bal (btr (unhide HBJ) hb1) (.cells #[.int .i64 (y.size : Int), .int .u64 ukn, .int .u64 uwh] 115))
                    have mw := unhide HCW _ (unhide HB3)
                    clear hb1
                    go_wp2_with fail
                    go_quiet (fail)
                    go_wp2_with fail
                    exact bodyPost_ret (v := .bool false) (by simp [results, Tryz.results33, go_sem]) rfl ⟨by rw [unhide HJF (by rw [unhide HIN]; simp [unhide HS])], bdz (unhide HB3)⟩
            · obtain rfl : j = s.ins.length := by omega
              have h := unhide HJA
              rw [List.take_of_length_le (Nat.le_refl _)] at h
              have HR := hide (show (steps.take (k + 1)).all (stepB n0 n1) = true by rw [unhide HSA, unhide HA, unhide HSB, h]; rfl)
              have HBJ := hide hbj
              clear hbj h HJA HCJ
              go_wp2_with fail
              go_roundw
              case rel => exact ⟨k + 1, by omega, by go_num, unhide HR, unhide HBJ⟩
              case measure => simp [intOf]; omega
        · have d1 : (((s.ins.length : Int) != (n0 : Int))) = false := by rw [bne_eq_false_iff_eq]; omega
          have d2 : (((s.ticks.length : Int) != (n1 : Int))) = true := by rw [bne_iff_ne]; omega
          clear h1
          go_wp2_with fail
          rw [← unhide HW1]
          exact bodyPost_ret (v := .bool false) (by simp [results, Tryz.results33, go_sem]) rfl ⟨by rw [unhide HF (by simp [stepB, h2])], unhide HB1⟩
      · have d1 : (((s.ins.length : Int) != (n0 : Int))) = true := by rw [bne_iff_ne]; omega
        go_wp2_with fail
        rw [← unhide HW1]
        exact bodyPost_ret (v := .bool false) (by simp [results, Tryz.results33, go_sem]) rfl ⟨by rw [unhide HF (by simp [stepB, h1])], unhide HB1⟩
    · obtain rfl : k = steps.length := by omega
      have h := unhide HA
      rw [List.take_of_length_le (Nat.le_refl _)] at h
      have HA2 := hide h
      have HB := hide hb
      clear h hb HCS HA
      go_wp2
      exact bodyPost_ret (v := .bool true) (by simp [results, Tryz.results33, go_sem]) rfl ⟨by rw [unhide HA2], unhide HB⟩
end Go.Proofs.YtdmmbhemmbgcpabGreat
namespace Go.Proofs.YtdmmbhemmbgcpabGreat
open Go Go.RowKit Gs
set_option linter.unusedVariables false
set_option linter.unusedSimpArgs false
set_option maxRecDepth 100000
theorem szMapped_parts {x : Mapped} (h : szMapped x ≤ 1048576) : x.ins.length ≤ 1048576 ∧ x.clocks.length ≤ 1048576 ∧ x.regs.length ≤ 1048576 ∧ x.luts.length ≤ 1048576 ∧ x.outs.length ≤ 1048576 ∧ x.checks.length ≤ 1048576 := by
  have hz : szMapped x = szL (fun (s : ByteArray) => s.size) x.ins + szL (fun (s : ByteArray) => s.size) x.clocks + szL szMapReg x.regs + szL szLut x.luts + szL szPort x.outs + szL szPort x.checks := rfl
  have z0 := szL_sm (fun (s : ByteArray) => s.size) x.ins
  have z1 := szL_sm (fun (s : ByteArray) => s.size) x.clocks
  have z2 := szL_sm szMapReg x.regs
  have z3 := szL_sm szLut x.luts
  have z4 := szL_sm szPort x.outs
  have z5 := szL_sm szPort x.checks
  omega
theorem plB_true {x : Int} {n : Nat} (h : plB x n = true) : 0 ≤ x ∧ x < (n : Int) := by
  unfold plB at h; simpa using h
theorem LO4_of (xs : List Lut) (f : Nat) (h : lutsB f xs = true) : LO4 f xs := by
  intro k l hk
  have hlt : k < xs.length := (List.getElem?_eq_some_iff.1 hk).1
  have hb := upB_at h hlt
  rw [lutAt_at hk] at hb
  unfold lutB at hb
  simp only [Bool.and_eq_true, decide_eq_true_eq] at hb
  obtain ⟨b1, b2, b3, b4⟩ := hb
  have := tmask_lt b1
  refine ⟨b1, b2, by omega, fun j y hj => ?_⟩
  have hi := upB_at b4 (List.getElem?_eq_some_iff.1 hj).1
  rw [inAt_at hj] at hi
  rw [Bool.and_eq_true] at hi
  exact plB_true hi.1
def st0M (x : Mapped) : List Bool := x.regs.map (fun l : MapReg => l.init == 1)
theorem rowsV_len (x : Mapped) : ∀ (steps : List Step) (st : List Bool), (rowsV x st steps).length = steps.length
  | [], _ => rfl
  | s :: r, st => by rw [rowsV, List.length_cons, rowsV_len x r, List.length_cons]
theorem in_txt {v : ByteArray} (h : inB v = true) : v = txt1 (bit1 v) := by
  unfold inB at h
  simp only [Bool.and_eq_true, decide_eq_true_eq] at h
  obtain ⟨⟨_, hk⟩, hs⟩ := h
  obtain ⟨d⟩ := v
  obtain ⟨c, rfl⟩ : ∃ c, d = #[c] := by
    have hs' : d.size = 1 := hs
    exact ⟨d[0], by apply Array.ext <;> simp [hs']; intro i hi; simp [hi]⟩
  have hc : Vb.knB c = true := List.all_eq_true.1 hk c (by simp [L])
  unfold Vb.knB at hc
  simp at hc
  rcases hc with rfl | rfl
  · have : bit1 ⟨#[48]⟩ = false := by decide +kernel
    rw [this]; rfl
  · have : bit1 ⟨#[49]⟩ = true := by decide +kernel
    rw [this]; rfl
theorem stepB_fit {x : Mapped} {s : Step} (h : stepB x.ins.length x.clocks.length s = true) : StepFit x s := by
  unfold stepB at h
  simp only [Bool.and_eq_true, decide_eq_true_eq] at h
  exact ⟨h.1.1, h.1.2, fun y hy => in_txt (List.all_eq_true.1 h.2 y hy)⟩
theorem RowsO.low0 {W : World} {B E B' : Nat} {us : List (Value × Value × Value)} {rs : List Row} (h : RowsO W B E us rs) (hB : B' ≤ B) : ∃ E', RowsO W B' E' us rs ∧ E' ≤ E := by
  induction h with
  | nil => exact ⟨B', .nil _, hB⟩
  | snoc h h1 h2 h3 o1 b1 o2 b2 o3 b3 ih =>
    obtain ⟨E', k, hE⟩ := ih
    exact ⟨_, .snoc k (Nat.le_trans hE h1) h2 h3 (o1.low hE) b1 o2 b2 o3 b3, Nat.le_refl _⟩
theorem RowsO.low {W : World} {B E B' S : Nat} {us : List (Value × Value × Value)} {rs : List Row} (h : RowsO W B E us rs) (hE : E ≤ S) (hB : B' ≤ B) : ∃ E', RowsO W B' E' us rs ∧ E' ≤ S := by
  obtain ⟨E', k, hk⟩ := h.low0 hB
  exact ⟨E', k, Nat.le_trans hk hE⟩
end Go.Proofs.YtdmmbhemmbgcpabGreat
namespace Go.Proofs.YtdmmbhemmbgcpabGreat
open Go Go.RowKit Gs
set_option linter.unusedVariables false
set_option linter.unusedSimpArgs false
set_option maxRecDepth 100000
/-- What a design that is PackOK holds. -/
structure PkFit (x : Packed) : Prop where
  n0 : x.ins.length ≤ 2048
  n1 : x.clocks.length ≤ 8
  n2 : x.blocks.length ≤ 512
  n3 : x.outs.length ≤ 2048
  n4 : x.checks.length ≤ 2048
  fit : PFit x.ins.length x.blocks
  blk : ∀ b ∈ x.blocks, b.inp.length ≤ 4 ∧ 0 ≤ b.table ∧ b.table < 65536
  reg : ∀ b ∈ x.blocks, b.reg = true → (b.init = 0 ∨ b.init = 1) ∧ 0 ≤ b.clock ∧ b.clock < (x.clocks.length : Int)
  non : ∀ b ∈ x.blocks, b.reg = false → b.init = 0
  outs : ∀ q ∈ x.outs, 0 ≤ q.src ∧ q.src < ((x.ins.length + x.blocks.length : Nat) : Int)
  checks : ∀ q ∈ x.checks, 0 ≤ q.src ∧ q.src < ((x.ins.length + x.blocks.length : Nat) : Int)
theorem insB_all {n : Nat} {xs : List Int} (h : insB n xs = true) : ∀ y ∈ xs, 0 ≤ y ∧ y < (n : Int) := by
  intro y hy
  obtain ⟨j, hj⟩ := List.getElem?_of_mem hy
  have hi := upB_at h (List.getElem?_eq_some_iff.1 hj).1
  rw [inAt_at hj, Bool.and_eq_true] at hi
  exact plB_true hi.1
theorem PkFit.of {x : Packed} (h : packI x = true) : PkFit x := by
  unfold packI countsA countsN at h
  simp only [Bool.and_eq_true, decide_eq_true_eq] at h
  obtain ⟨⟨⟨a2, a1⟩, ⟨a0, a3⟩, a4⟩, hb, hp, _⟩ := h
  have hblk : ∀ (k : Nat) b, x.blocks[k]? = some b → (b.inp.length ≤ 4 ∧ 0 ≤ b.table ∧ b.table ≤ ((tmask b.inp.length : Nat) : Int) ∧ insB (x.ins.length + x.blocks.length) b.inp = true) ∧ regB x.clocks.length b = true ∧ (b.reg || aheadB x.ins.length x.blocks k b.inp) = true := by
    intro k b hk
    have h1 := upB_at hb (List.getElem?_eq_some_iff.1 hk).1
    rw [blkAt_at hk] at h1
    unfold blkB lutB at h1
    rw [Bool.and_eq_true, Bool.and_eq_true] at h1
    obtain ⟨⟨h1, h2⟩, h3⟩ := h1
    simp only [Bool.and_eq_true, decide_eq_true_eq] at h1
    exact ⟨⟨h1.1, h1.2.1, h1.2.2.1, h1.2.2.2⟩, h2, h3⟩
  have hall := List.all_eq_true.1 hp
  refine ⟨a0, a1, a2, a3, a4, ⟨fun k b hk y hy => insB_all (hblk k b hk).1.2.2.2 y hy, fun k b hk hr y hy hky => ?_⟩, fun b hb => ?_, fun b hb hr => ?_, fun b hb hr => ?_, fun q hq => plB_true (hall q (List.mem_append_left _ hq)), fun q hq => plB_true (hall q (List.mem_append_right _ hq))⟩
  · have h3 := (hblk k b hk).2.2
    rw [hr, Bool.false_or] at h3
    have h4 := List.all_eq_true.1 h3 y hy
    unfold ahB at h4
    rw [decide_eq_true (by omega)] at h4
    simpa using h4
  · obtain ⟨k, hk⟩ := List.getElem?_of_mem hb
    obtain ⟨⟨h1, h2, h3, _⟩, _⟩ := hblk k b hk
    have := tmask_lt h1
    exact ⟨h1, h2, by omega⟩
  · obtain ⟨k, hk⟩ := List.getElem?_of_mem hb
    have h2 := (hblk k b hk).2.1
    unfold regB at h2
    rw [if_pos hr, Bool.and_eq_true] at h2
    have h3 := plB_true h2.1
    have h4 := plB_true h2.2
    exact ⟨by omega, h4⟩
  · obtain ⟨k, hk⟩ := List.getElem?_of_mem hb
    have h2 := (hblk k b hk).2.1
    unfold regB at h2
    rw [if_neg (by rw [hr]; simp)] at h2
    simp only [Bool.and_eq_true, beq_iff_eq] at h2
    exact h2.1.2
/-- Where a source is. -/
theorem Bec.val {n : Nat} {bs : List Block} {f : Int → Int} (hB : Bec n bs (numsB bs true bs.length) (numsB bs false bs.length) f) {z : Int} (h0 : 0 ≤ z) (h1 : z < ((n + bs.length : Nat) : Int)) :
    (z < (n : Int) ∧ f z = z) ∨ (∃ k : Nat, z = (n : Int) + (k : Int) ∧ k < bs.length ∧ (bs.getD k blk0).reg = true ∧ f z = ((n + (numsB bs true k).length : Nat) : Int) ∧ (numsB bs true k).length < (numsB bs true bs.length).length) ∨ (∃ k : Nat, z = (n : Int) + (k : Int) ∧ k < bs.length ∧ (bs.getD k blk0).reg = false ∧ f z = ((n + (numsB bs true bs.length).length + (numsB bs false k).length : Nat) : Int) ∧ (numsB bs false k).length < (numsB bs false bs.length).length) := by
  by_cases hz : z < (n : Int)
  · have := hB.inp z.toNat (by omega)
    rw [show ((z.toNat : Nat) : Int) = z by omega] at this
    exact .inl ⟨hz, this⟩
  · obtain ⟨k, rfl⟩ : ∃ k : Nat, z = (n : Int) + (k : Int) := ⟨(z - (n : Int)).toNat, by omega⟩
    have hk : k < bs.length := by omega
    cases hr : (bs.getD k blk0).reg
    · have hq := numsB_at bs false bs.length k hk hr
      have := hB.at_ ((numsB bs true bs.length).length + (numsB bs false k).length) (k : Int) (by rw [List.getElem?_append_right (by omega), Nat.add_sub_cancel_left]; exact hq)
      exact .inr (.inr ⟨k, rfl, hk, hr, by rw [this, Nat.add_assoc], numsB_more bs false hk hr⟩)
    · have hq := numsB_at bs true bs.length k hk hr
      have := hB.at_ (numsB bs true k).length (k : Int) (by rw [List.getElem?_append_left (List.getElem?_eq_some_iff.1 hq).1]; exact hq)
      exact .inr (.inl ⟨k, rfl, hk, hr, this, numsB_more bs true hk hr⟩)
theorem Bec.range {n : Nat} {bs : List Block} {f : Int → Int} (hB : Bec n bs (numsB bs true bs.length) (numsB bs false bs.length) f) {z : Int} (h0 : 0 ≤ z) (h1 : z < ((n + bs.length : Nat) : Int)) : 0 ≤ f z ∧ f z < ((n + bs.length : Nat) : Int) := by
  have h2 := numsB_two bs bs.length
  rcases hB.val h0 h1 with ⟨h, e⟩ | ⟨k, _, _, _, e, h⟩ | ⟨k, _, _, _, e, h⟩
  · omega
  · omega
  · omega
theorem getD_mem {bs : List Block} {k : Nat} (h : k < bs.length) : bs.getD k blk0 ∈ bs := by
  rw [List.getD_eq_getElem?_getD, List.getElem?_eq_getElem h]
  exact List.getElem_mem h
theorem getD_some {bs : List Block} {k : Nat} (h : k < bs.length) : bs[k]? = some (bs.getD k blk0) := by
  rw [List.getD_eq_getElem?_getD, List.getElem?_eq_getElem h]; rfl
theorem unpack_len (x : Packed) (f : Int → Int) : (unpackM x f).regs.length = (numsB x.blocks true x.blocks.length).length ∧ (unpackM x f).luts.length = x.blocks.length := by
  have := numsB_two x.blocks x.blocks.length
  constructor
  · simp [unpackM]
  · simp [unpackM]; omega
theorem unpack_reg {x : Packed} {f : Int → Int} {l : MapReg} (h : l ∈ (unpackM x f).regs) : ∃ (q k : Nat), k < x.blocks.length ∧ (x.blocks.getD k blk0).reg = true ∧ q < (numsB x.blocks true x.blocks.length).length ∧ l = ⟨(x.blocks.getD k blk0).name, ((x.ins.length + x.blocks.length + q : Nat) : Int), (x.blocks.getD k blk0).init, (x.blocks.getD k blk0).clock⟩ := by
  unfold unpackM at h
  simp only [List.mem_map] at h
  obtain ⟨⟨j, q⟩, hm, rfl⟩ := h
  have hq := List.mem_zipIdx hm
  have hj : (numsB x.blocks true x.blocks.length)[q]? = some j := by
    have := (List.mem_zipIdx_iff_getElem?.1 hm)
    simpa using this
  obtain ⟨k, hk, hkl, hr, _⟩ := numsB_lt x.blocks true _ _ _ hj
  subst hk
  exact ⟨q, k, hkl, hr, (List.getElem?_eq_some_iff.1 hj).1, by simp⟩
theorem MapFit.unpack {x : Packed} {f : Int → Int} (h : PkFit x) (hB : Bec x.ins.length x.blocks (numsB x.blocks true x.blocks.length) (numsB x.blocks false x.blocks.length) f) : MapFit (unpackM x f) := by
  obtain ⟨l1, l2⟩ := unpack_len x f
  have h2 := numsB_two x.blocks x.blocks.length
  have hn2 := h.n2
  have he : (unpackM x f).ins.length + (unpackM x f).regs.length + (unpackM x f).luts.length = x.ins.length + (numsB x.blocks true x.blocks.length).length + x.blocks.length := by rw [l1, l2]; rfl
  refine ⟨h.n0, by omega, by omega, ?_, ?_, fun l hl => ?_, fun l hl => ?_, fun l hl => ?_, ?_, fun p hp => ?_, fun p hp => ?_⟩
  · have := h.n3; simp [unpackM]; omega
  · have := h.n4; simp [unpackM]; omega
  · obtain ⟨q, k, hk, hr, hq, rfl⟩ := unpack_reg hl
    rw [he]
    simp only
    omega
  · obtain ⟨q, k, hk, hr, hq, rfl⟩ := unpack_reg hl
    exact (h.reg _ (getD_mem hk) hr).1
  · obtain ⟨q, k, hk, hr, hq, rfl⟩ := unpack_reg hl
    exact (h.reg _ (getD_mem hk) hr).2
  · intro i l hi
    have hi' : ((numsB x.blocks false x.blocks.length ++ numsB x.blocks true x.blocks.length).map (lutOf x.blocks f))[i]? = some l := hi
    rw [List.getElem?_map] at hi'
    cases hj : (numsB x.blocks false x.blocks.length ++ numsB x.blocks true x.blocks.length)[i]? with
    | none => rw [hj] at hi'; cases hi'
    | some j =>
      rw [hj] at hi'
      injection hi' with hi'
      obtain ⟨k, rfl, hkl⟩ := nums_both x.blocks false true hj
      have hb := getD_mem hkl
      obtain ⟨c1, c2, c3⟩ := h.blk _ hb
      subst hi'
      unfold lutOf
      simp only [Int.toNat_natCast, List.length_map]
      refine ⟨c1, c2, c3, fun t y hy => ?_⟩
      rw [List.getElem?_map] at hy
      cases hz : (x.blocks.getD k blk0).inp[t]? with
      | none => rw [hz] at hy; cases hy
      | some z =>
        rw [hz] at hy
        injection hy with hy
        subst hy
        have hzm := List.mem_of_getElem? hz
        obtain ⟨z0, z1⟩ := h.fit.src k _ (getD_some hkl) z hzm
        rw [l1]
        show 0 ≤ f z ∧ f z < ((x.ins.length + (numsB x.blocks true x.blocks.length).length + i : Nat) : Int)
        rcases hB.val z0 z1 with ⟨e1, e2⟩ | ⟨k', _, _, _, e2, e3⟩ | ⟨k', e0, e1, hr, e2, e3⟩
        · omega
        · omega
        · by_cases hi2 : i < (numsB x.blocks false x.blocks.length).length
          · rw [List.getElem?_append_left hi2] at hj
            obtain ⟨k2, hk2, _, hr2, hi3⟩ := numsB_lt x.blocks false _ _ _ hj
            obtain rfl : k2 = k := by omega
            have hlt : k' < k2 := by
              by_cases hc : k' < k2
              · exact hc
              · have := h.fit.ahead k2 _ (getD_some hkl) hr2 z hzm (by omega)
                rw [show (z - (x.ins.length : Int)).toNat = k' by omega, hr] at this
                cases this
            have := numsB_more x.blocks false hlt hr
            omega
          · omega
  · unfold unpackM at hp
    simp only [List.mem_map] at hp
    obtain ⟨q, hq, rfl⟩ := hp
    obtain ⟨z0, z1⟩ := h.outs q hq
    have := hB.range z0 z1
    rw [he]
    simp only
    omega
  · unfold unpackM at hp
    simp only [List.mem_map] at hp
    obtain ⟨q, hq, rfl⟩ := hp
    obtain ⟨z0, z1⟩ := h.checks q hq
    have := hB.range z0 z1
    rw [he]
    simp only
    omega
/-- The state at first. -/
def st0P (x : Packed) : List Bool := x.blocks.map (fun b => b.init == 1)
theorem st0_same (x : Packed) (f : Int → Int) : regV x.blocks (st0P x) = st0M (unpackM x f) := by
  unfold regV st0M unpackM st0P
  apply List.ext_getElem?
  intro q
  simp only [List.getElem?_map, List.getElem?_zipIdx]
  cases hj : (numsB x.blocks true x.blocks.length)[q]? with
  | none => rfl
  | some j =>
    obtain ⟨k, rfl, hkl, _⟩ := numsB_lt x.blocks true _ _ _ hj
    simp only [Option.map_some, Int.toNat_natCast]
    congr 1
    rw [List.getD_eq_getElem?_getD, List.getElem?_map, getD_some hkl]; rfl
/-- What PackRun answers. -/
def runP (x : Packed) (steps : List Step) : List Row × Int := if steps.length ≤ 4096 then (if packI x then (if steps.all (stepB x.ins.length x.clocks.length) then (rowsP x (st0P x) steps, 0) else ([], 1)) else ([], 1)) else ([], 2)
theorem rows_unpack {x : Packed} {f : Int → Int} (h : PkFit x) (hB : Bec x.ins.length x.blocks (numsB x.blocks true x.blocks.length) (numsB x.blocks false x.blocks.length) f) (steps : List Step) (hs : ∀ s ∈ steps, s.ins.length = x.ins.length) : rowsV (unpackM x f) (st0M (unpackM x f)) steps = rowsP x (st0P x) steps := by
  rw [← st0_same]
  exact rows_same h.fit hB h.outs h.checks steps _ hs
end Go.Proofs.YtdmmbhemmbgcpabGreat
namespace Go.Proofs.YtdmmbhemmbgcpabGreat
open Go Go.RowKit Gs
set_option linter.unusedVariables false
set_option linter.unusedSimpArgs false
set_option maxRecDepth 100000
set_option maxHeartbeats 1600000 in
theorem sBit (s : ByteArray) (w : World) : Calls Tryz.prog 23 #[.string s] w fun e w' => e = .returned (.int .i64 (b2i (bit1 s))) ∧ w' = w := by
  unfold bit1
  generalize hq : (s.toList == [49]) = q
  go_enter Tryz.func23, Tryz.ntmps23
  cases q
  · go_wp2
    exact bodyPost_ret (v := .int .i64 0) (by simp [results, Tryz.results23, go_sem]) rfl ⟨rfl, rfl⟩
  · go_wp2
    exact bodyPost_ret (v := .int .i64 1) (by simp [results, Tryz.results23, go_sem]) rfl ⟨rfl, rfl⟩
set_option maxHeartbeats 1600000 in
theorem sText (q : Bool) (w : World) : Calls Tryz.prog 25 #[.int .i64 (b2i q)] w fun e w' => e = .returned (.string (txt1 q)) ∧ w' = w := by
  go_enter Tryz.func25, Tryz.ntmps25
  cases q
  · unfold b2i
    go_wp2
    exact bodyPost_ret (v := .string ⟨#[48]⟩) (by simp [results, Tryz.results25, go_sem]) rfl ⟨rfl, rfl⟩
  · unfold b2i
    go_wp2
    exact bodyPost_ret (v := .string ⟨#[49]⟩) (by simp [results, Tryz.results25, go_sem]) rfl ⟨rfl, rfl⟩
/-- A slice of bits as ints. -/
theorem bits_at {W : World} {B : Nat} {vs : List Bool} {v : Value} (h : RS 1 RInt W B (vs.map b2i) v) {i : Nat} {y : Bool} (hy : vs[i]? = some y) : ∃ b o c, v = .slice (some ⟨b, o, none⟩) vs.length c ∧ W.cell? ⟨b, o + i, none⟩ = some (.int .i64 (b2i y)) := by
  rcases h.open with ⟨h0, _⟩ | ⟨b, o, c', hv, _, _, _, he⟩
  · have : vs = [] := by simpa using h0
    rw [this] at hy; simp at hy
  · obtain ⟨u, hu, hat, hux⟩ := he i (b2i y) (by rw [List.getElem?_map, hy]; rfl)
    subst hux
    exact ⟨b, o, c', by rw [hv, List.length_map], by simpa using hat.get (j := 0) rfl⟩
end Go.Proofs.YtdmmbhemmbgcpabGreat
