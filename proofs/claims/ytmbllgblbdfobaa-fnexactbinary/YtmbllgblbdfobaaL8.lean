/- The law FnExactBinary's walk: the program's Binary answers as the specification's. -/
import Derived.Test.YtmbllgblbdfobaaBA3
namespace Go.Proofs.Ytmbllgblbdfobaa
open Go.RowKit
set_option linter.unusedVariables false
set_option maxRecDepth 100000 in
set_option maxHeartbeats 400000 in
theorem sBinNoA (op : Int) (sg : Bool) (a b : ByteArray) (ha : a.size ≤ maxLen) (hb : b.size ≤ maxLen) (va : Vb.okV (L a) = false) (w : World) :
    Calls Try.prog 28 #[.int .i64 op, .bool sg, .string a, .string b] w fun e w' => e = .returned (.string (S [])) ∧ Below w.heap.size w w' := by
  have VA := hide va
  have HA := hide ha
  have HBB := hide hb
  clear va ha hb
  go_enter Try.func28, Try.ntmps28
  go_wp2_with (first | (go_at_call_of 35 (Value.string a); refine (sOK0 a _ (unhide HA) (unhide VA)).mono ?_; rintro e w' ⟨rfl, rfl⟩) | (go_at_call_of 35 (Value.string b); refine (sOK1 b _ (unhide HBB) (unhide VBB)).mono ?_; rintro e w' ⟨rfl, rfl⟩))
  go_ret
  exact ⟨rfl, brf _⟩
set_option maxRecDepth 100000 in
set_option maxHeartbeats 400000 in
theorem sBinNoB (op : Int) (sg : Bool) (a b : ByteArray) (ha : a.size ≤ maxLen) (hb : b.size ≤ maxLen) (va : Vb.okV (L a) = true) (vb : Vb.okV (L b) = false) (w : World) :
    Calls Try.prog 28 #[.int .i64 op, .bool sg, .string a, .string b] w fun e w' => e = .returned (.string (S [])) ∧ Below w.heap.size w w' := by
  have VA := hide va
  have HA := hide ha
  have HBB := hide hb
  have VBB := hide vb
  clear va ha hb vb
  go_enter Try.func28, Try.ntmps28
  go_wp2_with (first | (go_at_call_of 35 (Value.string a); refine (sOK1 a _ (unhide HA) (unhide VA)).mono ?_; rintro e w' ⟨rfl, rfl⟩) | (go_at_call_of 35 (Value.string b); refine (sOK0 b _ (unhide HBB) (unhide VBB)).mono ?_; rintro e w' ⟨rfl, rfl⟩))
  go_ret
  exact ⟨rfl, brf _⟩
set_option maxRecDepth 100000 in
set_option maxHeartbeats 400000 in
theorem sBinNoC (op : Int) (sg : Bool) (a b : ByteArray) (ha : a.size ≤ maxLen) (hb : b.size ≤ maxLen) (va : Vb.okV (L a) = true) (vb : Vb.okV (L b) = true) (h : op < 1) (w : World) :
    Calls Try.prog 28 #[.int .i64 op, .bool sg, .string a, .string b] w fun e w' => e = .returned (.string (S [])) ∧ Below w.heap.size w w' := by
  have VA := hide va
  have HA := hide ha
  have HBB := hide hb
  have VBB := hide vb
  clear va ha hb vb
  go_enter Try.func28, Try.ntmps28
  go_wp2_with (first | (go_at_call_of 35 (Value.string a); refine (sOK1 a _ (unhide HA) (unhide VA)).mono ?_; rintro e w' ⟨rfl, rfl⟩) | (go_at_call_of 35 (Value.string b); refine (sOK1 b _ (unhide HBB) (unhide VBB)).mono ?_; rintro e w' ⟨rfl, rfl⟩))
  go_ret
  exact ⟨rfl, brf _⟩
set_option maxRecDepth 100000 in
set_option maxHeartbeats 400000 in
theorem sBinNoD (op : Int) (sg : Bool) (a b : ByteArray) (ha : a.size ≤ maxLen) (hb : b.size ≤ maxLen) (va : Vb.okV (L a) = true) (vb : Vb.okV (L b) = true) (h : 18 < op) (w : World) :
    Calls Try.prog 28 #[.int .i64 op, .bool sg, .string a, .string b] w fun e w' => e = .returned (.string (S [])) ∧ Below w.heap.size w w' := by
  have h1 : ¬ op < 1 := by omega
  have VA := hide va
  have HA := hide ha
  have HBB := hide hb
  have VBB := hide vb
  clear va ha hb vb
  go_enter Try.func28, Try.ntmps28
  go_wp2_with (first | (go_at_call_of 35 (Value.string a); refine (sOK1 a _ (unhide HA) (unhide VA)).mono ?_; rintro e w' ⟨rfl, rfl⟩) | (go_at_call_of 35 (Value.string b); refine (sOK1 b _ (unhide HBB) (unhide VBB)).mono ?_; rintro e w' ⟨rfl, rfl⟩))
  go_ret
  exact ⟨rfl, brf _⟩
set_option maxRecDepth 100000 in
set_option maxHeartbeats 400000 in
theorem sBinNoE (op : Int) (sg : Bool) (a b : ByteArray) (ha : a.size ≤ maxLen) (hb : b.size ≤ maxLen) (va : Vb.okV (L a) = true) (vb : Vb.okV (L b) = true) (h1 : 1 ≤ op) (h2 : op ≤ 13) (hne : a.size ≠ b.size) (w : World) :
    Calls Try.prog 28 #[.int .i64 op, .bool sg, .string a, .string b] w fun e w' => e = .returned (.string (S [])) ∧ Below w.heap.size w w' := by
  have h3 : ¬ op < 1 := by omega
  have h4 : ¬ 18 < op := by omega
  have d1 : ((a.size : Int) != (b.size : Int)) = true := by rw [bne_iff_ne]; omega
  have VA := hide va
  have HA := hide ha
  have HBB := hide hb
  have VBB := hide vb
  clear va ha hb vb
  go_enter Try.func28, Try.ntmps28
  go_wp2_with (first | (go_at_call_of 35 (Value.string a); refine (sOK1 a _ (unhide HA) (unhide VA)).mono ?_; rintro e w' ⟨rfl, rfl⟩) | (go_at_call_of 35 (Value.string b); refine (sOK1 b _ (unhide HBB) (unhide VBB)).mono ?_; rintro e w' ⟨rfl, rfl⟩))
  go_ret
  exact ⟨rfl, brf _⟩
set_option maxHeartbeats 400000 in
theorem iAnyNo (j : Int) (w : World) (h2 : j ≤ 13) : Calls Try.prog 52 #[.int .i64 j] w fun e w' => e = .returned (.bool false) ∧ w = w' := by
  have h1 : ¬ 14 ≤ j := by omega
  go_enter Try.func52, Try.ntmps52
  go_wp2
  go_ret
  exact ⟨rfl, rfl⟩
set_option maxRecDepth 100000 in
set_option maxHeartbeats 400000 in
theorem iBinNoA (op : Int) (sg : Bool) (a b : ByteArray) (ha : a.size ≤ maxLen) (hb : b.size ≤ maxLen) (hv : (Vb.okV (L a) && Vb.okV (L b)) = false) (w : World) :
    Calls Try.prog 19 #[.int .i64 op, .bool sg, .string a, .string b] w fun e w' => e = .returned (.string (S [])) ∧ Below w.heap.size w w' := by
  have HV := hide hv
  clear hv
  go_enter Try.func19, Try.ntmps19
  go_wp2_with fail
  refine (iTwoOf_no a b _ ha hb (unhide HV)).mono ?_
  rintro e w1 ⟨⟨n, k, h, m, p, q, rfl⟩, hb1⟩
  unfold V
  go_wp2
  go_ret
  exact ⟨rfl, bal (bal hb1 _) _⟩
set_option maxRecDepth 100000 in
set_option maxHeartbeats 400000 in
theorem iBinNoC (op : Int) (sg : Bool) (a b : ByteArray) (ha : a.size ≤ maxLen) (hb : b.size ≤ maxLen) (va : Vb.okV (L a) = true) (vb : Vb.okV (L b) = true) (h : op < 1) (w : World) :
    Calls Try.prog 19 #[.int .i64 op, .bool sg, .string a, .string b] w fun e w' => e = .returned (.string (S [])) ∧ Below w.heap.size w w' := by
  have HT := hide (fun W => iTwoOf a b W ha hb va vb)
  clear va vb
  go_enter Try.func19, Try.ntmps19
  go_wp2_with fail
  refine (unhide HT _).mono ?_
  rintro e w1 ⟨rfl, hb1⟩
  unfold V
  go_wp2
  go_ret
  exact ⟨rfl, bal (bal hb1 _) _⟩
set_option maxRecDepth 100000 in
set_option maxHeartbeats 400000 in
theorem iBinNoD (op : Int) (sg : Bool) (a b : ByteArray) (ha : a.size ≤ maxLen) (hb : b.size ≤ maxLen) (va : Vb.okV (L a) = true) (vb : Vb.okV (L b) = true) (h : 18 < op) (w : World) :
    Calls Try.prog 19 #[.int .i64 op, .bool sg, .string a, .string b] w fun e w' => e = .returned (.string (S [])) ∧ Below w.heap.size w w' := by
  have h1 : ¬ op < 1 := by omega
  have HT := hide (fun W => iTwoOf a b W ha hb va vb)
  clear va vb
  go_enter Try.func19, Try.ntmps19
  go_wp2_with fail
  refine (unhide HT _).mono ?_
  rintro e w1 ⟨rfl, hb1⟩
  unfold V
  go_wp2
  go_ret
  exact ⟨rfl, bal (bal hb1 _) _⟩
set_option maxRecDepth 100000 in
set_option maxHeartbeats 400000 in
theorem iBinNoE (op : Int) (sg : Bool) (a b : ByteArray) (ha : a.size ≤ maxLen) (hb : b.size ≤ maxLen) (va : Vb.okV (L a) = true) (vb : Vb.okV (L b) = true) (h1 : 1 ≤ op) (h2 : op ≤ 13) (hne : a.size ≠ b.size) (w : World) :
    Calls Try.prog 19 #[.int .i64 op, .bool sg, .string a, .string b] w fun e w' => e = .returned (.string (S [])) ∧ Below w.heap.size w w' := by
  have h3 : ¬ op < 1 := by omega
  have h4 : ¬ 18 < op := by omega
  have d1 : ((a.size : Int) != (b.size : Int)) = true := by rw [bne_iff_ne]; omega
  have HT := hide (fun W => iTwoOf a b W ha hb va vb)
  clear va vb hne
  go_enter Try.func19, Try.ntmps19
  go_wp2_with fail
  refine (unhide HT _).mono ?_
  rintro e w1 ⟨rfl, hb1⟩
  unfold V
  go_wp2_with fail
  refine (iAnyNo op _ h2).mono ?_
  rintro e w2 ⟨rfl, rfl⟩
  go_wp2
  go_ret
  exact ⟨rfl, bal (bal hb1 _) _⟩
theorem bothAll (op : Int) (sg : Bool) (a b : ByteArray) (ha : a.size ≤ maxLen) (hb : b.size ≤ maxLen) : Both op sg a b := by
  by_cases va : Vb.okV (L a) = true
  · by_cases vb : Vb.okV (L b) = true
    · by_cases h1 : op < 1
      · exact ⟨[], sBinNoC op sg a b ha hb va vb h1, iBinNoC op sg a b ha hb va vb h1⟩
      by_cases h18 : 18 < op
      · exact ⟨[], sBinNoD op sg a b ha hb va vb h18, iBinNoD op sg a b ha hb va vb h18⟩
      by_cases h13 : op ≤ 13
      · by_cases hne : a.size = b.size
        · have hc : op = 1 ∨ op = 2 ∨ op = 3 ∨ op = 4 ∨ op = 5 ∨ op = 6 ∨ op = 7 ∨ op = 8 ∨ op = 9 ∨ op = 10 ∨ op = 11 ∨ op = 12 ∨ op = 13 := by omega
          rcases hc with rfl | rfl | rfl | rfl | rfl | rfl | rfl | rfl | rfl | rfl | rfl | rfl | rfl
          · exact both1 ha hb va vb rfl hne.symm
          · exact both2 ha hb va vb rfl hne.symm
          · exact both3 ha hb va vb rfl hne.symm
          · exact both4 ha hb va vb rfl hne.symm
          · exact both5 ha hb va vb rfl hne.symm
          · exact both6 ha hb va vb rfl hne.symm
          · exact both7 ha hb va vb rfl hne.symm
          · exact both8 ha hb va vb rfl hne.symm
          · exact both9 ha hb va vb rfl hne.symm
          · exact both10 ha hb va vb rfl hne.symm
          · exact both11 ha hb va vb rfl hne.symm
          · exact both12 ha hb va vb rfl hne.symm
          · exact both13 ha hb va vb rfl hne.symm
        · exact ⟨[], sBinNoE op sg a b ha hb va vb (by omega) h13 hne, iBinNoE op sg a b ha hb va vb (by omega) h13 hne⟩
      · have hc : op = 14 ∨ op = 15 ∨ op = 16 ∨ op = 17 ∨ op = 18 := by omega
        rcases hc with rfl | rfl | rfl | rfl | rfl
        · exact both14 ha hb va vb rfl rfl
        · exact both15 ha hb va vb rfl rfl
        · exact both16 ha hb va vb rfl rfl
        · exact both17 ha hb va vb rfl rfl
        · exact both18 ha hb va vb rfl rfl
    · have vb' : Vb.okV (L b) = false := by simpa using vb
      exact ⟨[], sBinNoB op sg a b ha hb va vb', iBinNoA op sg a b ha hb (by rw [vb', Bool.and_false])⟩
  · have va' : Vb.okV (L a) = false := by simpa using va
    exact ⟨[], sBinNoA op sg a b ha hb va', iBinNoA op sg a b ha hb (by rw [va', Bool.false_and])⟩
set_option maxRecDepth 100000 in
set_option maxHeartbeats 800000 in
theorem lBinary (op : Int) (sg : Bool) (a b : ByteArray) (w : World) (_hop : (Lit.int .i64 op).wf = true) (ha : a.size ≤ maxLen) (hb : b.size ≤ maxLen) :
    Calls Try.prog 15 #[.int .i64 op, .bool sg, .string a, .string b] w fun e w' => e = .returned (.bool true) ∧ Below w.heap.size w w' := by
  obtain ⟨R, hs, hi⟩ := bothAll op sg a b ha hb
  have HS := hide hs
  have HI := hide hi
  clear hs hi
  by_cases h : 1048576 < (a.size : Int)
  · go_enter Try.func15, Try.ntmps15
    go_wp2
    go_ret
    exact ⟨rfl, brf _⟩
  by_cases h' : 1048576 < (b.size : Int)
  · go_enter Try.func15, Try.ntmps15
    go_wp2
    go_ret
    exact ⟨rfl, brf _⟩
  · go_enter Try.func15, Try.ntmps15
    go_wp2_with fail
    refine (unhide HS _).mono ?_
    rintro e w1 ⟨rfl, hb1⟩
    go_wp2_with fail
    refine (unhide HI _).mono ?_
    rintro e w2 ⟨rfl, hb2⟩
    go_wp2
    go_ret
    exact ⟨rfl, btr hb1 hb2⟩
end Go.Proofs.Ytmbllgblbdfobaa
