/- What the specification's Binary answers: sums, differences, products and comparisons of known operands. -/
import Derived.Test.YtmbllgblbdfobaaG12S12
namespace Go.Proofs.Ytmbllgblbdfobaa
open Go.RowKit
set_option linter.unusedVariables false
theorem sAddN (n X Y : Nat) (W : World) (hn : n ≤ 64) :
    Calls Try.prog 68 #[.string (S (Vb.nTxt n X)), .string (S (Vb.nTxt n Y)), .int .u8 48] W fun e w' => e = .returned (.string (S (Vb.nTxt n (X + Y)))) ∧ Below W.heap.size W w' := by
  have := sAdd (S (Vb.nTxt n X)) (S (Vb.nTxt n Y)) false W (by rw [S_size, Vb.nTxt_len]; omega) (by rw [S_size, S_size, Vb.nTxt_len, Vb.nTxt_len]) (by rw [L_S]; exact Vb.nTxt_known _ _) (by rw [L_S]; exact Vb.nTxt_known _ _)
  rw [S_size, Vb.nTxt_len, L_S, L_S, Vb.num_nTxt, Vb.num_nTxt] at this
  have e : Vb.nTxt n (X % 2 ^ n + Y % 2 ^ n + false.toNat) = Vb.nTxt n (X + Y) := Vb.nTxt_congr (by rw [Bool.toNat_false, Nat.add_zero, ← Nat.add_mod])
  rw [e] at this
  exact this
theorem S_known {a : ByteArray} {n : Nat} (ea : a.size = n) (ka : (L a).all Vb.knB = true) : a = S (Vb.nTxt n (Vb.num (L a))) := by
  have := Vb.nTxt_num ka
  rw [L_len, ea] at this
  rw [this, S_L]
set_option maxRecDepth 100000 in
set_option maxHeartbeats 1000000 in
theorem sBin4 (sg : Bool) (a b : ByteArray) (n : Nat) (w : World) (ha : a.size ≤ maxLen) (hb : b.size ≤ maxLen) (va : Vb.okV (L a) = true) (vb : Vb.okV (L b) = true) (ea : a.size = n) (eb : b.size = n) (ka : (L a).all Vb.knB = true) (kb : (L b).all Vb.knB = true) :
    Calls Try.prog 28 #[.int .i64 4, .bool sg, .string a, .string b] w fun e w' => e = .returned (.string (S (Vb.nTxt n (Vb.num (L a) + Vb.num (L b))))) ∧ Below w.heap.size w w' := by
  obtain ⟨a1, a2, a3⟩ := (okV_iff a).1 va
  obtain ⟨b1, b2, b3⟩ := (okV_iff b).1 vb
  have VA := hide va
  have VBB := hide vb
  have HA := hide ha
  have HBB := hide hb
  rw [ea] at a1 a2
  rw [eb] at b1 b2
  have A3 := hide a3
  have B3 := hide b3
  clear va vb ha hb a3 b3
  have KA := hide ka
  have KB := hide kb
  have sa := S_known ea ka
  have sb := S_known eb kb
  have hc : ∀ W, Calls Try.prog 68 #[.string a, .string b, .int .u8 48] W fun e w' => e = .returned (.string (S (Vb.nTxt n (Vb.num (L a) + Vb.num (L b))))) ∧ Below W.heap.size W w' := fun W => by
    have := sAddN n (Vb.num (L a)) (Vb.num (L b)) W a2
    rw [← sa, ← sb] at this; exact this
  have HC := hide hc
  clear ka kb sa sb hc
  go_enter Try.func28, Try.ntmps28
  go_wp2_with (first | (go_at_call_of 35 (Value.string a); refine (sOK1 a _ (unhide HA) (unhide VA)).mono ?_; rintro e w' ⟨rfl, rfl⟩) | (go_at_call_of 35 (Value.string b); refine (sOK1 b _ (unhide HBB) (unhide VBB)).mono ?_; rintro e w' ⟨rfl, rfl⟩) | (go_at_call_of 47 (Value.string a); refine (sKn a _ _ (unhide HA) (unhide KA)).mono ?_; rintro e w' ⟨rfl, rfl⟩) | (go_at_call_of 47 (Value.string b); refine (sKn b _ _ (unhide HBB) (unhide KB)).mono ?_; rintro e w' ⟨rfl, rfl⟩) | (go_at_call 68; refine (unhide HC _).mono ?_; rintro e w1 ⟨rfl, hb1⟩))
  go_ret
  exact ⟨rfl, hb1⟩
set_option maxRecDepth 100000 in
set_option maxHeartbeats 1000000 in
theorem sBin5 (sg : Bool) (a b : ByteArray) (n : Nat) (w : World) (ha : a.size ≤ maxLen) (hb : b.size ≤ maxLen) (va : Vb.okV (L a) = true) (vb : Vb.okV (L b) = true) (ea : a.size = n) (eb : b.size = n) (ka : (L a).all Vb.knB = true) (kb : (L b).all Vb.knB = true) :
    Calls Try.prog 28 #[.int .i64 5, .bool sg, .string a, .string b] w fun e w' => e = .returned (.string (S (Vb.nTxt n (Vb.num (L a) + (2 ^ n - Vb.num (L b)))))) ∧ Below w.heap.size w w' := by
  obtain ⟨a1, a2, a3⟩ := (okV_iff a).1 va
  obtain ⟨b1, b2, b3⟩ := (okV_iff b).1 vb
  have VA := hide va
  have VBB := hide vb
  have HA := hide ha
  have HBB := hide hb
  rw [ea] at a1 a2
  rw [eb] at b1 b2
  have A3 := hide a3
  have B3 := hide b3
  clear va vb ha hb a3 b3
  have KA := hide ka
  have KB := hide kb
  have hc : ∀ W, Calls Try.prog 69 #[.string a, .string b] W fun e w' => e = .returned (.string (S (Vb.nTxt n (Vb.num (L a) + (2 ^ n - Vb.num (L b)))))) ∧ Below W.heap.size W w' := fun W => by
    have := sSub a b W (by omega) (by omega) ka kb
    rw [ea] at this; exact this
  have HC := hide hc
  clear ka kb hc
  go_enter Try.func28, Try.ntmps28
  go_wp2_with (first | (go_at_call_of 35 (Value.string a); refine (sOK1 a _ (unhide HA) (unhide VA)).mono ?_; rintro e w' ⟨rfl, rfl⟩) | (go_at_call_of 35 (Value.string b); refine (sOK1 b _ (unhide HBB) (unhide VBB)).mono ?_; rintro e w' ⟨rfl, rfl⟩) | (go_at_call_of 47 (Value.string a); refine (sKn a _ _ (unhide HA) (unhide KA)).mono ?_; rintro e w' ⟨rfl, rfl⟩) | (go_at_call_of 47 (Value.string b); refine (sKn b _ _ (unhide HBB) (unhide KB)).mono ?_; rintro e w' ⟨rfl, rfl⟩) | (go_at_call 69; refine (unhide HC _).mono ?_; rintro e w1 ⟨rfl, hb1⟩))
  go_ret
  exact ⟨rfl, hb1⟩
set_option maxRecDepth 100000 in
set_option maxHeartbeats 1000000 in
theorem sBin6 (sg : Bool) (a b : ByteArray) (n : Nat) (w : World) (ha : a.size ≤ maxLen) (hb : b.size ≤ maxLen) (va : Vb.okV (L a) = true) (vb : Vb.okV (L b) = true) (ea : a.size = n) (eb : b.size = n) (ka : (L a).all Vb.knB = true) (kb : (L b).all Vb.knB = true) :
    Calls Try.prog 28 #[.int .i64 6, .bool sg, .string a, .string b] w fun e w' => e = .returned (.string (S (Vb.nTxt n (Vb.num (L a) * Vb.num (L b))))) ∧ Below w.heap.size w w' := by
  obtain ⟨a1, a2, a3⟩ := (okV_iff a).1 va
  obtain ⟨b1, b2, b3⟩ := (okV_iff b).1 vb
  have VA := hide va
  have VBB := hide vb
  have HA := hide ha
  have HBB := hide hb
  rw [ea] at a1 a2
  rw [eb] at b1 b2
  have A3 := hide a3
  have B3 := hide b3
  clear va vb ha hb a3 b3
  have KA := hide ka
  have KB := hide kb
  have sa := S_known ea ka
  have SA := hide sa
  clear ka kb sa
  go_enter Try.func28, Try.ntmps28
  go_wp2_with (first | (go_at_call_of 35 (Value.string a); refine (sOK1 a _ (unhide HA) (unhide VA)).mono ?_; rintro e w' ⟨rfl, rfl⟩) | (go_at_call_of 35 (Value.string b); refine (sOK1 b _ (unhide HBB) (unhide VBB)).mono ?_; rintro e w' ⟨rfl, rfl⟩) | (go_at_call_of 47 (Value.string a); refine (sKn a _ _ (unhide HA) (unhide KA)).mono ?_; rintro e w' ⟨rfl, rfl⟩) | (go_at_call_of 47 (Value.string b); refine (sKn b _ _ (unhide HBB) (unhide KB)).mono ?_; rintro e w' ⟨rfl, rfl⟩) | (go_at_call 67; refine (sFill 48 n _ (by omega)).mono ?_; rintro e w1 ⟨rfl, hb1⟩))
  have hr0 : S (List.replicate n 48) = S (Vb.nTxt n (Vb.num (L a) * Vb.num ((L b).take 0))) := by
    congr 1
    have := Vb.nTxt_num (known_fill0 n)
    rw [num_fill0, List.length_replicate] at this
    rw [← this, List.take_zero, Vb.num_nil, Nat.mul_zero]
  rw [hr0]
  go_loopw [16, 17] (fun o i wr => ∃ k : Nat, k ≤ n ∧ i = .int .i64 k ∧ o = .string (S (Vb.nTxt n (Vb.num (L a) * Vb.num ((L b).take k)))) ∧ Below w.heap.size w wr) (fun _ i _ => n - (intOf i).toNat)
  case atStart => exact ⟨0, Nat.zero_le _, rfl, rfl, hb1⟩
  case round =>
    clear hr0 hb1
    obtain ⟨k, hk, rfl, rfl, hbel⟩ := hrel
    by_cases hlt : k < n
    · have hltb : k < b.size := by omega
      have hA : Vb.num ((L b).take (k + 1)) = 2 * Vb.num ((L b).take k) + (Vb.oneB b[k]).toNat := by rw [L_take b k hltb, Vb.num_snoc]
      have hkn : Vb.knB b[k] = true := List.all_eq_true.1 (unhide KB) _ (L_mem b k hltb)
      have hbb := Vb.known_bit hkn
      generalize hX : Vb.num (L a) * Vb.num ((L b).take k) = X at *
      have j1 : (k : Int) < n := by omega
      go_wp2_with fail
      refine (sAddN n X X _ a2).mono ?_
      rintro e w2 ⟨rfl, hb2⟩
      have hb3 := hbel.trans (hb2.mono hbel.size)
      clear hb2
      cases ho : Vb.oneB b[k]
      · rw [ho] at hA hbb
        have e48 : (b[k].toNat : Int) = 48 := by rw [hbb]; rfl
        have HE : Hid (Vb.num (L a) * Vb.num ((L b).take (k + 1)) = X + X) := by
          show _ = _
          rw [hA, Bool.toNat_false, Nat.add_zero, Nat.mul_left_comm, hX]; omega
        clear hA hbb ho hX hkn
        go_wp2
        refine ⟨?_, by simp [intOf]; omega⟩
        (repeat apply Exists.intro)
        refine ⟨⟨k + 1, by omega, ?_, ?_, hb3⟩, rfl⟩
        · go_num
        · rw [unhide HE]
      · rw [ho] at hA hbb
        have e49 : (b[k].toNat : Int) = 49 := by rw [hbb]; rfl
        have HE : Hid (Vb.num (L a) * Vb.num ((L b).take (k + 1)) = X + X + Vb.num (L a)) := by
          show _ = _
          rw [hA, Bool.toNat_true, Nat.mul_add, Nat.mul_left_comm, hX]; omega
        have hc2 : ∀ W, Calls Try.prog 68 #[.string (S (Vb.nTxt n (X + X))), .string a, .int .u8 48] W fun e w' => e = .returned (.string (S (Vb.nTxt n (X + X + Vb.num (L a))))) ∧ Below W.heap.size W w' := fun W => by
          have := sAddN n (X + X) (Vb.num (L a)) W a2
          rw [← unhide SA] at this; exact this
        have HC2 := hide hc2
        clear hA hbb ho hX hkn hc2
        go_wp2_with fail
        refine (unhide HC2 _).mono ?_
        rintro e w4 ⟨rfl, hb4⟩
        have hb5 := hb3.trans (hb4.mono hb3.size)
        clear hb4
        go_wp2
        refine ⟨?_, by simp [intOf]; omega⟩
        (repeat apply Exists.intro)
        refine ⟨⟨k + 1, by omega, ?_, ?_, hb5⟩, rfl⟩
        · go_num
        · rw [unhide HE]
    · have hkn : k = n := by omega
      rw [L_take_all b k (by omega)]
      go_wp2
      go_ret
      exact ⟨rfl, hbel⟩
/-- Below, signed or not. -/
def ltL (sg : Bool) (a b : List UInt8) : Bool := if sg = true ∧ a.headD 0 ≠ b.headD 0 then decide (a.headD 0 = 49) else decide (Vb.num a < Vb.num b)
set_option maxRecDepth 100000 in
set_option maxHeartbeats 1000000 in
theorem sBin12 (sg : Bool) (a b : ByteArray) (n : Nat) (w : World) (ha : a.size ≤ maxLen) (hb : b.size ≤ maxLen) (va : Vb.okV (L a) = true) (vb : Vb.okV (L b) = true) (ea : a.size = n) (eb : b.size = n) (ka : (L a).all Vb.knB = true) (kb : (L b).all Vb.knB = true) :
    Calls Try.prog 28 #[.int .i64 12, .bool sg, .string a, .string b] w fun e w' => e = .returned (.string (S ([bl (ltL sg (L a) (L b))]))) ∧ Below w.heap.size w w' := by
  obtain ⟨a1, a2, a3⟩ := (okV_iff a).1 va
  obtain ⟨b1, b2, b3⟩ := (okV_iff b).1 vb
  have VA := hide va
  have VBB := hide vb
  have HA := hide ha
  have HBB := hide hb
  rw [ea] at a1 a2
  rw [eb] at b1 b2
  have A3 := hide a3
  have B3 := hide b3
  clear va vb ha hb a3 b3
  have KA := hide ka
  have KB := hide kb
  have ha0 : 0 < a.size := by omega
  have hb0 : 0 < b.size := by omega
  have hda := L_head a ha0
  have hdb := L_head b hb0
  have hc : ∀ W, Calls Try.prog 70 #[.string a, .string b] W fun e w' => e = .returned (.bool (decide (Vb.num (L a) < Vb.num (L b)))) ∧ Below W.heap.size W w' := fun W => sBelow a b W (by omega) (by omega) ka kb
  have HC := hide hc
  have k0a : Vb.knB a[0] = true := List.all_eq_true.1 ka _ (L_mem a 0 ha0)
  have k0b : Vb.knB b[0] = true := List.all_eq_true.1 kb _ (L_mem b 0 hb0)
  have K0 := hide (And.intro k0a k0b)
  clear ka kb hc k0a k0b
  have t1 : (0 : Int) < n := by omega
  have t2 : 0 < n := by omega
  cases sg
  · have HF : Hid (ltL false (L a) (L b) = decide (Vb.num (L a) < Vb.num (L b))) := by show _ = _; unfold ltL; rw [if_neg (by simp)]
    clear hda hdb
    go_enter Try.func28, Try.ntmps28
    go_wp2_with (first | (go_at_call_of 35 (Value.string a); refine (sOK1 a _ (unhide HA) (unhide VA)).mono ?_; rintro e w' ⟨rfl, rfl⟩) | (go_at_call_of 35 (Value.string b); refine (sOK1 b _ (unhide HBB) (unhide VBB)).mono ?_; rintro e w' ⟨rfl, rfl⟩) | (go_at_call_of 47 (Value.string a); refine (sKn a _ _ (unhide HA) (unhide KA)).mono ?_; rintro e w' ⟨rfl, rfl⟩) | (go_at_call_of 47 (Value.string b); refine (sKn b _ _ (unhide HBB) (unhide KB)).mono ?_; rintro e w' ⟨rfl, rfl⟩))
    go_quiet (fail)
    have hbq := below_drewN (brf w) nq
    generalize w.drewN nq = wq at *
    go_wp2_with (first | (go_at_call 70; refine (unhide HC _).mono ?_; rintro e w1 ⟨rfl, hb1⟩) | (go_at_call 64; refine (sBit _ _).mono ?_; rintro e w2 ⟨rfl, rfl⟩))
    go_ret
    exact ⟨by rw [unhide HF]; rfl, hbq.trans (hb1.mono hbq.size)⟩
  by_cases h0 : a[0] = b[0]
  · have HF : Hid (ltL true (L a) (L b) = decide (Vb.num (L a) < Vb.num (L b))) := by show _ = _; unfold ltL; rw [if_neg (by rw [hda, hdb]; simp [h0])]
    have q1 : ((a[0].toNat : Int) != (b[0].toNat : Int)) = false := by rw [h0]; simp
    clear hda hdb h0
    go_enter Try.func28, Try.ntmps28
    go_wp2_with (first | (go_at_call_of 35 (Value.string a); refine (sOK1 a _ (unhide HA) (unhide VA)).mono ?_; rintro e w' ⟨rfl, rfl⟩) | (go_at_call_of 35 (Value.string b); refine (sOK1 b _ (unhide HBB) (unhide VBB)).mono ?_; rintro e w' ⟨rfl, rfl⟩) | (go_at_call_of 47 (Value.string a); refine (sKn a _ _ (unhide HA) (unhide KA)).mono ?_; rintro e w' ⟨rfl, rfl⟩) | (go_at_call_of 47 (Value.string b); refine (sKn b _ _ (unhide HBB) (unhide KB)).mono ?_; rintro e w' ⟨rfl, rfl⟩))
    go_quiet (fail)
    have hbq := below_drewN (brf w) nq
    generalize w.drewN nq = wq at *
    go_wp2_with (first | (go_at_call 70; refine (unhide HC _).mono ?_; rintro e w1 ⟨rfl, hb1⟩) | (go_at_call 64; refine (sBit _ _).mono ?_; rintro e w2 ⟨rfl, rfl⟩))
    go_ret
    exact ⟨by rw [unhide HF]; rfl, hbq.trans (hb1.mono hbq.size)⟩
  · have HF : Hid (ltL true (L a) (L b) = decide (a[0] = 49)) := by show _ = _; unfold ltL; rw [if_pos (by rw [hda, hdb]; simp [h0]), hda]
    have q1 : ((a[0].toNat : Int) != (b[0].toNat : Int)) = true := by rw [bne_iff_ne]; intro h; exact h0 (UInt8.toNat_inj.1 (by omega))
    rcases is8 a[0] 49 (by omega) with ⟨e1, e2⟩ | ⟨e1, e2, _⟩
    · have HE : Hid (decide (a[0] = 49) = true) := decide_eq_true e1
      clear hda hdb h0 e1
      go_enter Try.func28, Try.ntmps28
      go_wp2_with (first | (go_at_call_of 35 (Value.string a); refine (sOK1 a _ (unhide HA) (unhide VA)).mono ?_; rintro e w' ⟨rfl, rfl⟩) | (go_at_call_of 35 (Value.string b); refine (sOK1 b _ (unhide HBB) (unhide VBB)).mono ?_; rintro e w' ⟨rfl, rfl⟩) | (go_at_call_of 47 (Value.string a); refine (sKn a _ _ (unhide HA) (unhide KA)).mono ?_; rintro e w' ⟨rfl, rfl⟩) | (go_at_call_of 47 (Value.string b); refine (sKn b _ _ (unhide HBB) (unhide KB)).mono ?_; rintro e w' ⟨rfl, rfl⟩))
      go_quiet (fail)
      have hbq := below_drewN (brf w) nq
      generalize w.drewN nq = wq at *
      go_wp2_with (first | (go_at_call 70; refine (unhide HC _).mono ?_; rintro e w1 ⟨rfl, hb1⟩) | (go_at_call 64; refine (sBit _ _).mono ?_; rintro e w2 ⟨rfl, rfl⟩))
      go_ret
      exact ⟨by rw [unhide HF, unhide HE]; rfl, hbq⟩
    · have HE : Hid (decide (a[0] = 49) = false) := decide_eq_false e1
      clear hda hdb h0 e1
      go_enter Try.func28, Try.ntmps28
      go_wp2_with (first | (go_at_call_of 35 (Value.string a); refine (sOK1 a _ (unhide HA) (unhide VA)).mono ?_; rintro e w' ⟨rfl, rfl⟩) | (go_at_call_of 35 (Value.string b); refine (sOK1 b _ (unhide HBB) (unhide VBB)).mono ?_; rintro e w' ⟨rfl, rfl⟩) | (go_at_call_of 47 (Value.string a); refine (sKn a _ _ (unhide HA) (unhide KA)).mono ?_; rintro e w' ⟨rfl, rfl⟩) | (go_at_call_of 47 (Value.string b); refine (sKn b _ _ (unhide HBB) (unhide KB)).mono ?_; rintro e w' ⟨rfl, rfl⟩))
      go_quiet (fail)
      have hbq := below_drewN (brf w) nq
      generalize w.drewN nq = wq at *
      go_wp2_with (first | (go_at_call 70; refine (unhide HC _).mono ?_; rintro e w1 ⟨rfl, hb1⟩) | (go_at_call 64; refine (sBit _ _).mono ?_; rintro e w2 ⟨rfl, rfl⟩))
      go_ret
      exact ⟨by rw [unhide HF, unhide HE]; exact congrArg (fun z => Ending.returned (Value.string (S [bl z]))) e2, hbq⟩
set_option maxRecDepth 100000 in
set_option maxHeartbeats 1000000 in
theorem sBin13 (sg : Bool) (a b : ByteArray) (n : Nat) (w : World) (ha : a.size ≤ maxLen) (hb : b.size ≤ maxLen) (va : Vb.okV (L a) = true) (vb : Vb.okV (L b) = true) (ea : a.size = n) (eb : b.size = n) (ka : (L a).all Vb.knB = true) (kb : (L b).all Vb.knB = true) :
    Calls Try.prog 28 #[.int .i64 13, .bool sg, .string a, .string b] w fun e w' => e = .returned (.string (S ([bl (decide (L a = L b) || ltL sg (L a) (L b))]))) ∧ Below w.heap.size w w' := by
  obtain ⟨a1, a2, a3⟩ := (okV_iff a).1 va
  obtain ⟨b1, b2, b3⟩ := (okV_iff b).1 vb
  have VA := hide va
  have VBB := hide vb
  have HA := hide ha
  have HBB := hide hb
  rw [ea] at a1 a2
  rw [eb] at b1 b2
  have A3 := hide a3
  have B3 := hide b3
  clear va vb ha hb a3 b3
  have KA := hide ka
  have KB := hide kb
  have ha0 : 0 < a.size := by omega
  have hb0 : 0 < b.size := by omega
  have hda := L_head a ha0
  have hdb := L_head b hb0
  have hc : ∀ W, Calls Try.prog 70 #[.string a, .string b] W fun e w' => e = .returned (.bool (decide (Vb.num (L a) < Vb.num (L b)))) ∧ Below W.heap.size W w' := fun W => sBelow a b W (by omega) (by omega) ka kb
  have HC := hide hc
  have k0a : Vb.knB a[0] = true := List.all_eq_true.1 ka _ (L_mem a 0 ha0)
  have k0b : Vb.knB b[0] = true := List.all_eq_true.1 kb _ (L_mem b 0 hb0)
  have K0 := hide (And.intro k0a k0b)
  clear ka kb hc k0a k0b
  have t1 : (0 : Int) < n := by omega
  have t2 : 0 < n := by omega
  by_cases hab : a = b
  · subst hab
    have hd : decide (L a = L a) = true := by simp
    rw [hd, Bool.true_or]
    clear hda hdb
    go_enter Try.func28, Try.ntmps28
    go_wp2_with (first | (go_at_call_of 35 (Value.string a); refine (sOK1 a _ (unhide HA) (unhide VA)).mono ?_; rintro e w' ⟨rfl, rfl⟩) | (go_at_call_of 35 (Value.string b); refine (sOK1 b _ (unhide HBB) (unhide VBB)).mono ?_; rintro e w' ⟨rfl, rfl⟩) | (go_at_call_of 47 (Value.string a); refine (sKn a _ _ (unhide HA) (unhide KA)).mono ?_; rintro e w' ⟨rfl, rfl⟩) | (go_at_call_of 47 (Value.string b); refine (sKn b _ _ (unhide HBB) (unhide KB)).mono ?_; rintro e w' ⟨rfl, rfl⟩))
    go_ret
    exact ⟨rfl, brf _⟩
  have hd : decide (L a = L b) = false := decide_eq_false (fun h => hab (L_inj h))
  rw [hd, Bool.false_or]
  have hq : (a.toList == b.toList) = false := by
    rw [ByteArray.toList_eq, ByteArray.toList_eq, beq_eq_false_iff_ne]
    exact fun h => hab (L_inj h)
  clear hd hab
  cases sg
  · have HF : Hid (ltL false (L a) (L b) = decide (Vb.num (L a) < Vb.num (L b))) := by show _ = _; unfold ltL; rw [if_neg (by simp)]
    clear hda hdb
    go_enter Try.func28, Try.ntmps28
    go_wp2_with (first | (go_at_call_of 35 (Value.string a); refine (sOK1 a _ (unhide HA) (unhide VA)).mono ?_; rintro e w' ⟨rfl, rfl⟩) | (go_at_call_of 35 (Value.string b); refine (sOK1 b _ (unhide HBB) (unhide VBB)).mono ?_; rintro e w' ⟨rfl, rfl⟩) | (go_at_call_of 47 (Value.string a); refine (sKn a _ _ (unhide HA) (unhide KA)).mono ?_; rintro e w' ⟨rfl, rfl⟩) | (go_at_call_of 47 (Value.string b); refine (sKn b _ _ (unhide HBB) (unhide KB)).mono ?_; rintro e w' ⟨rfl, rfl⟩))
    go_quiet (fail)
    have hbq := below_drewN (brf w) nq
    generalize w.drewN nq = wq at *
    go_wp2_with (first | (go_at_call 70; refine (unhide HC _).mono ?_; rintro e w1 ⟨rfl, hb1⟩) | (go_at_call 64; refine (sBit _ _).mono ?_; rintro e w2 ⟨rfl, rfl⟩))
    go_ret
    exact ⟨by rw [unhide HF]; rfl, hbq.trans (hb1.mono hbq.size)⟩
  by_cases h0 : a[0] = b[0]
  · have HF : Hid (ltL true (L a) (L b) = decide (Vb.num (L a) < Vb.num (L b))) := by show _ = _; unfold ltL; rw [if_neg (by rw [hda, hdb]; simp [h0])]
    have q1 : ((a[0].toNat : Int) != (b[0].toNat : Int)) = false := by rw [h0]; simp
    clear hda hdb h0
    go_enter Try.func28, Try.ntmps28
    go_wp2_with (first | (go_at_call_of 35 (Value.string a); refine (sOK1 a _ (unhide HA) (unhide VA)).mono ?_; rintro e w' ⟨rfl, rfl⟩) | (go_at_call_of 35 (Value.string b); refine (sOK1 b _ (unhide HBB) (unhide VBB)).mono ?_; rintro e w' ⟨rfl, rfl⟩) | (go_at_call_of 47 (Value.string a); refine (sKn a _ _ (unhide HA) (unhide KA)).mono ?_; rintro e w' ⟨rfl, rfl⟩) | (go_at_call_of 47 (Value.string b); refine (sKn b _ _ (unhide HBB) (unhide KB)).mono ?_; rintro e w' ⟨rfl, rfl⟩))
    go_quiet (fail)
    have hbq := below_drewN (brf w) nq
    generalize w.drewN nq = wq at *
    go_wp2_with (first | (go_at_call 70; refine (unhide HC _).mono ?_; rintro e w1 ⟨rfl, hb1⟩) | (go_at_call 64; refine (sBit _ _).mono ?_; rintro e w2 ⟨rfl, rfl⟩))
    go_ret
    exact ⟨by rw [unhide HF]; rfl, hbq.trans (hb1.mono hbq.size)⟩
  · have HF : Hid (ltL true (L a) (L b) = decide (a[0] = 49)) := by show _ = _; unfold ltL; rw [if_pos (by rw [hda, hdb]; simp [h0]), hda]
    have q1 : ((a[0].toNat : Int) != (b[0].toNat : Int)) = true := by rw [bne_iff_ne]; intro h; exact h0 (UInt8.toNat_inj.1 (by omega))
    rcases is8 a[0] 49 (by omega) with ⟨e1, e2⟩ | ⟨e1, e2, _⟩
    · have HE : Hid (decide (a[0] = 49) = true) := decide_eq_true e1
      clear hda hdb h0 e1
      go_enter Try.func28, Try.ntmps28
      go_wp2_with (first | (go_at_call_of 35 (Value.string a); refine (sOK1 a _ (unhide HA) (unhide VA)).mono ?_; rintro e w' ⟨rfl, rfl⟩) | (go_at_call_of 35 (Value.string b); refine (sOK1 b _ (unhide HBB) (unhide VBB)).mono ?_; rintro e w' ⟨rfl, rfl⟩) | (go_at_call_of 47 (Value.string a); refine (sKn a _ _ (unhide HA) (unhide KA)).mono ?_; rintro e w' ⟨rfl, rfl⟩) | (go_at_call_of 47 (Value.string b); refine (sKn b _ _ (unhide HBB) (unhide KB)).mono ?_; rintro e w' ⟨rfl, rfl⟩))
      go_quiet (fail)
      have hbq := below_drewN (brf w) nq
      generalize w.drewN nq = wq at *
      go_wp2_with (first | (go_at_call 70; refine (unhide HC _).mono ?_; rintro e w1 ⟨rfl, hb1⟩) | (go_at_call 64; refine (sBit _ _).mono ?_; rintro e w2 ⟨rfl, rfl⟩))
      go_ret
      exact ⟨by rw [unhide HF, unhide HE]; rfl, hbq⟩
    · have HE : Hid (decide (a[0] = 49) = false) := decide_eq_false e1
      clear hda hdb h0 e1
      go_enter Try.func28, Try.ntmps28
      go_wp2_with (first | (go_at_call_of 35 (Value.string a); refine (sOK1 a _ (unhide HA) (unhide VA)).mono ?_; rintro e w' ⟨rfl, rfl⟩) | (go_at_call_of 35 (Value.string b); refine (sOK1 b _ (unhide HBB) (unhide VBB)).mono ?_; rintro e w' ⟨rfl, rfl⟩) | (go_at_call_of 47 (Value.string a); refine (sKn a _ _ (unhide HA) (unhide KA)).mono ?_; rintro e w' ⟨rfl, rfl⟩) | (go_at_call_of 47 (Value.string b); refine (sKn b _ _ (unhide HBB) (unhide KB)).mono ?_; rintro e w' ⟨rfl, rfl⟩))
      go_quiet (fail)
      have hbq := below_drewN (brf w) nq
      generalize w.drewN nq = wq at *
      go_wp2_with (first | (go_at_call 70; refine (unhide HC _).mono ?_; rintro e w1 ⟨rfl, hb1⟩) | (go_at_call 64; refine (sBit _ _).mono ?_; rintro e w2 ⟨rfl, rfl⟩))
      go_ret
      exact ⟨by rw [unhide HF, unhide HE]; exact congrArg (fun z => Ending.returned (Value.string (S [bl z]))) e2, hbq⟩
end Go.Proofs.Ytmbllgblbdfobaa
