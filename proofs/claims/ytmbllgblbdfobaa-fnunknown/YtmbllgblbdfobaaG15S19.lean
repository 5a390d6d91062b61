/- What the specification's Binary answers: moved bits. -/
/- What the specification's Binary answers: moved bits. -/
/- What the specification's Binary answers: moved bits. -/
import Derived.Test.YtmbllgblbdfobaaG12S12
namespace Go.Proofs.Ytmbllgblbdfobaa
open Go.RowKit
set_option linter.unusedVariables false
set_option linter.unusedSimpArgs false
/-- What is known of the number that is counted, N, and the true one, V. -/
theorem shift_step {N V t : Nat} (h : min N 64 = min V 64) (hN : N ≤ 1001) (ht : t ≤ 1) : min (min (N * 2) 1000 + t) 64 = min (2 * V + t) 64 ∧ min (N * 2) 1000 + t ≤ 1001 := by
  have a1 := Nat.le_total N 64
  have a2 := Nat.le_total V 64
  have a3 := Nat.le_total (N * 2) 1000
  have a4 := Nat.le_total (min (N * 2) 1000 + t) 64
  have a5 := Nat.le_total (2 * V + t) 64
  simp only [Nat.min_def] at *
  split at h <;> split at h <;> (refine ⟨?_, ?_⟩) <;> (repeat' split) <;> omega
theorem fill_is (c : UInt8) (n : Nat) (T : ByteArray) (w : World) (hn : n ≤ 65) (hT : S (List.replicate n c) = T) :
    Calls Try.prog 67 #[.int .u8 (c.toNat : Int), .int .i64 n] w fun e w' => e = .returned (.string T) ∧ Below w.heap.size w w' := by rw [← hT]; exact sFill c n w hn
theorem below_step {w W W' : World} (h : Below w.heap.size w W) (h2 : Below W.heap.size W W') : Below w.heap.size w W' := h.trans (h2.mono h.size)
set_option maxRecDepth 100000 in
set_option maxHeartbeats 1000000 in
theorem sBin14u (sg : Bool) (a b : ByteArray) (n m : Nat) (w : World) (ha : a.size ≤ maxLen) (hb : b.size ≤ maxLen) (va : Vb.okV (L a) = true) (vb : Vb.okV (L b) = true) (ea : a.size = n) (eb : b.size = m) (kb : (L b).all Vb.knB = false) :
    Calls Try.prog 28 #[.int .i64 14, .bool sg, .string a, .string b] w fun e w' => e = .returned (.string (S (List.replicate n 120))) ∧ Below w.heap.size w w' := by
  obtain ⟨a1, a2, a3⟩ := (okV_iff a).1 va
  obtain ⟨b1, b2, b3⟩ := (okV_iff b).1 vb
  have VA := hide va
  have VBB := hide vb
  have HA := hide ha
  have HBB := hide hb
  rw [ea] at a1 a2
  rw [eb] at b1 b2
  have A3 := hide a3
  have B3 := hide b3
  clear va vb ha hb a3 b3
  cases hkA : (L a).all Vb.knB
  all_goals
    have KA := hide hkA
    have KB := hide kb
    clear hkA kb
    go_enter Try.func28, Try.ntmps28
    go_wp2_with (first | (go_at_call_of 35 (Value.string a); refine (sOK1 a _ (unhide HA) (unhide VA)).mono ?_; rintro e w' ⟨rfl, rfl⟩) | (go_at_call_of 35 (Value.string b); refine (sOK1 b _ (unhide HBB) (unhide VBB)).mono ?_; rintro e w' ⟨rfl, rfl⟩) | (go_at_call_of 47 (Value.string a); refine (sKn a _ _ (unhide HA) (unhide KA)).mono ?_; rintro e w' ⟨rfl, rfl⟩) | (go_at_call_of 47 (Value.string b); refine (sKn b _ _ (unhide HBB) (unhide KB)).mono ?_; rintro e w' ⟨rfl, rfl⟩) | (go_at_call 67; refine (sFill 120 n _ (by omega)).mono ?_; rintro e w1 ⟨rfl, hb1⟩))
    go_ret
    exact ⟨rfl, hb1⟩
set_option maxRecDepth 100000 in
set_option maxHeartbeats 1000000 in
theorem sBin14 (sg : Bool) (a b : ByteArray) (n m : Nat) (w : World) (ha : a.size ≤ maxLen) (hb : b.size ≤ maxLen) (va : Vb.okV (L a) = true) (vb : Vb.okV (L b) = true) (ea : a.size = n) (eb : b.size = m) (kb : (L b).all Vb.knB = true) :
    Calls Try.prog 28 #[.int .i64 14, .bool sg, .string a, .string b] w fun e w' => e = .returned (.string (S ((L a).drop (min (Vb.num (L b)) n) ++ List.replicate (min (Vb.num (L b)) n) 48))) ∧ Below w.heap.size w w' := by
  obtain ⟨a1, a2, a3⟩ := (okV_iff a).1 va
  obtain ⟨b1, b2, b3⟩ := (okV_iff b).1 vb
  have VA := hide va
  have VBB := hide vb
  have HA := hide ha
  have HBB := hide hb
  rw [ea] at a1 a2
  rw [eb] at b1 b2
  have A3 := hide a3
  have B3 := hide b3
  clear va vb ha hb a3 b3
  have hda := L_head a (by omega)
  obtain ⟨c0, hc0⟩ : ∃ c, a[0]'(by omega) = c := ⟨_, rfl⟩
  rw [hc0] at hda
  have HDA := hide hda
  clear hda
  cases hkA : (L a).all Vb.knB
  all_goals
    have KA := hide hkA
    have KB := hide kb
    clear hkA kb
    go_enter Try.func28, Try.ntmps28
    go_wp2_with (first | (go_at_call_of 35 (Value.string a); refine (sOK1 a _ (unhide HA) (unhide VA)).mono ?_; rintro e w' ⟨rfl, rfl⟩) | (go_at_call_of 35 (Value.string b); refine (sOK1 b _ (unhide HBB) (unhide VBB)).mono ?_; rintro e w' ⟨rfl, rfl⟩) | (go_at_call_of 47 (Value.string a); refine (sKn a _ _ (unhide HA) (unhide KA)).mono ?_; rintro e w' ⟨rfl, rfl⟩) | (go_at_call_of 47 (Value.string b); refine (sKn b _ _ (unhide HBB) (unhide KB)).mono ?_; rintro e w' ⟨rfl, rfl⟩))
    go_loop [14, 15] (fun c i => ∃ k : Nat, k ≤ m ∧ i = .int .i64 k ∧ ∃ N : Nat, c = .int .i64 N ∧ Hid (min N 64 = min (Vb.num ((L b).take k)) 64 ∧ N ≤ 1001)) (fun _ i => m - (intOf i).toNat)
    case atStart => exact ⟨0, Nat.zero_le _, rfl, 0, rfl, ⟨rfl, by decide⟩⟩
    case round =>
      obtain ⟨k, hk, rfl, N, rfl, hN⟩ := hrel
      have hN1 : N ≤ 1001 := (unhide hN).2
      by_cases hlt : k < m
      · have hltb : k < b.size := by omega
        have hA : Vb.num ((L b).take (k + 1)) = 2 * Vb.num ((L b).take k) + (Vb.oneB b[k]).toNat := by rw [L_take b k hltb, Vb.num_snoc]
        have hkn : Vb.knB b[k] = true := List.all_eq_true.1 (unhide KB) _ (L_mem b k hltb)
        have hbb := Vb.known_bit hkn
        have hst := shift_step (unhide hN).1 (unhide hN).2 (bit_le (Vb.oneB b[k]))
        rw [← hA] at hst
        have emin : (if (1000 : Int) < (N : Int) * 2 then (1000 : Int) else (N : Int) * 2) = ((min (N * 2) 1000 : Nat) : Int) := by split <;> omega
        generalize hM : min (N * 2) 1000 = M at *
        have hM1 : M ≤ 1000 := by omega
        have j1 : (k : Int) < m := by omega
        cases ho : Vb.oneB b[k]
        · rw [ho] at hst hbb
          have e48 : (b[k].toNat : Int) = 48 := by rw [hbb]; rfl
          have HST := hide hst
          have HM := hide emin
          clear hst hbb hA ho hM hkn emin
          go_wp2
          exact ⟨⟨k + 1, by omega, by go_num, M, by rw [unhide HM], unhide HST⟩, by simp [intOf]; omega⟩
        · rw [ho] at hst hbb
          have e49 : (b[k].toNat : Int) = 49 := by rw [hbb]; rfl
          have HST := hide hst
          have HM := hide emin
          clear hst hbb hA ho hM hkn emin
          go_wp2
          exact ⟨⟨k + 1, by omega, by go_num, M + 1, by rw [unhide HM]; rfl, unhide HST⟩, by simp [intOf]; omega⟩
      · rw [L_take_all b k (by omega)] at hN
        have hs : min (Vb.num (L b)) n = if n < N then n else N := by have := (unhide hN).1; split <;> omega
        have HSS := hide hs
        clear hs
        by_cases hc : n < N
        · have hsn : n ≤ n := by omega
          have hsm : Hid (min (Vb.num (L b)) n = n) := by show _ = _; rw [unhide HSS, if_pos hc]
          have hz1 : (S (List.replicate n 48)).size = n := by rw [S_size, List.length_replicate]
          have heq : a.extract n n ++ S (List.replicate n 48) = S ((L a).drop n ++ List.replicate n 48) := by apply L_inj; rw [L_append, L_extract, L_S, L_S, List.take_of_length_le (by rw [List.length_drop, L_len, ea]; omega)]
          have hz2 : (a.extract n n).size ≤ 64 := by rw [← L_len, L_extract, List.length_take, List.length_drop, L_len, ea]; omega
          generalize hRR : S ((L a).drop n ++ List.replicate n 48) = RR at *
          have HRR := hide hRR
          have HE2 : Hid (S (List.replicate n 48) = RR) := by
            show _ = _
            rw [← hRR]
            apply congrArg
            rw [List.drop_of_length_le (by rw [L_len, ea]; omega), List.nil_append]
          clear hRR heq hz2
          have t1 : (0 : Int) < n := by omega
          have t2 : 0 < n := by omega
          have t3 : (n : Int) ≤ n := by omega
          have hw0 : IntKind.i64.wrap 0 = 0 := by decide
          have hwp : IntKind.i64.wrap ((n : Int) - n) = (n : Int) - n := by rw [IntKind.wrap_i64]; omega
          have t4 : (0 : Int) ≤ n := by omega
          generalize hTT : S (List.replicate n 48) = TT at *
          have HTT := hide hTT
          clear hTT
          go_wp2
          go_region_with (go_at_call 67; refine (fill_is 48 n TT _ (by omega) (unhide HTT)).mono ?_; rintro e w1 ⟨rfl, hb1⟩)
          all_goals
            have hS1 : Below w.heap.size w w1 := (below_drew (brf w)).trans hb1
            clear hb1
            go_wp2
            go_ret
            refine ⟨?_, hS1⟩
            rw [unhide hsm, unhide HRR]
            first | rfl | exact congrArg (fun z => Ending.returned (Value.string z)) (unhide HE2)
        · have hsn : N ≤ n := by omega
          have hsm : Hid (min (Vb.num (L b)) n = N) := by show _ = _; rw [unhide HSS, if_neg hc]
          have hz1 : (S (List.replicate N 48)).size = N := by rw [S_size, List.length_replicate]
          have heq : a.extract N n ++ S (List.replicate N 48) = S ((L a).drop N ++ List.replicate N 48) := by apply L_inj; rw [L_append, L_extract, L_S, L_S, List.take_of_length_le (by rw [List.length_drop, L_len, ea]; omega)]
          have hz2 : (a.extract N n).size ≤ 64 := by rw [← L_len, L_extract, List.length_take, List.length_drop, L_len, ea]; omega
          generalize hRR : S ((L a).drop N ++ List.replicate N 48) = RR at *
          have HRR := hide hRR
          clear hRR
          generalize hpp : n - N = p at *
          have t5 : (n : Int) - N = (p : Int) := by omega
          have t6 : (p : Int) ≤ n := by omega
          have t7 : (0 : Int) ≤ p := by omega
          have hwq : IntKind.i64.wrap (p : Int) = p := by rw [IntKind.wrap_i64]; omega
          generalize hXX : a.extract N n = X at *
          have t1 : (0 : Int) < n := by omega
          have t2 : 0 < n := by omega
          have t3 : (N : Int) ≤ n := by omega
          have hw0 : IntKind.i64.wrap 0 = 0 := by decide
          have hwp : IntKind.i64.wrap ((n : Int) - N) = (n : Int) - N := by rw [IntKind.wrap_i64]; omega
          have t4 : (0 : Int) ≤ N := by omega
          generalize hTT : S (List.replicate N 48) = TT at *
          have HTT := hide hTT
          clear hTT
          go_wp2
          go_region_with (go_at_call 67; refine (fill_is 48 N TT _ (by omega) (unhide HTT)).mono ?_; rintro e w1 ⟨rfl, hb1⟩)
          all_goals
            have hS1 : Below w.heap.size w w1 := (below_drew (brf w)).trans hb1
            clear hb1
            go_wp2
            go_ret
            refine ⟨?_, hS1⟩
            rw [unhide hsm, unhide HRR]
            first | rfl | exact congrArg (fun z => Ending.returned (Value.string z)) (unhide HE2)
end Go.Proofs.Ytmbllgblbdfobaa
namespace Go.Proofs.Ytmbllgblbdfobaa
open Go.RowKit
set_option linter.unusedVariables false
set_option linter.unusedSimpArgs false
set_option maxRecDepth 100000 in
set_option maxHeartbeats 1000000 in
theorem sBin15u (sg : Bool) (a b : ByteArray) (n m : Nat) (w : World) (ha : a.size ≤ maxLen) (hb : b.size ≤ maxLen) (va : Vb.okV (L a) = true) (vb : Vb.okV (L b) = true) (ea : a.size = n) (eb : b.size = m) (kb : (L b).all Vb.knB = false) :
    Calls Try.prog 28 #[.int .i64 15, .bool sg, .string a, .string b] w fun e w' => e = .returned (.string (S (List.replicate n 120))) ∧ Below w.heap.size w w' := by
  obtain ⟨a1, a2, a3⟩ := (okV_iff a).1 va
  obtain ⟨b1, b2, b3⟩ := (okV_iff b).1 vb
  have VA := hide va
  have VBB := hide vb
  have HA := hide ha
  have HBB := hide hb
  rw [ea] at a1 a2
  rw [eb] at b1 b2
  have A3 := hide a3
  have B3 := hide b3
  clear va vb ha hb a3 b3
  cases hkA : (L a).all Vb.knB
  all_goals
    have KA := hide hkA
    have KB := hide kb
    clear hkA kb
    go_enter Try.func28, Try.ntmps28
    go_wp2_with (first | (go_at_call_of 35 (Value.string a); refine (sOK1 a _ (unhide HA) (unhide VA)).mono ?_; rintro e w' ⟨rfl, rfl⟩) | (go_at_call_of 35 (Value.string b); refine (sOK1 b _ (unhide HBB) (unhide VBB)).mono ?_; rintro e w' ⟨rfl, rfl⟩) | (go_at_call_of 47 (Value.string a); refine (sKn a _ _ (unhide HA) (unhide KA)).mono ?_; rintro e w' ⟨rfl, rfl⟩) | (go_at_call_of 47 (Value.string b); refine (sKn b _ _ (unhide HBB) (unhide KB)).mono ?_; rintro e w' ⟨rfl, rfl⟩) | (go_at_call 67; refine (sFill 120 n _ (by omega)).mono ?_; rintro e w1 ⟨rfl, hb1⟩))
    go_ret
    exact ⟨rfl, hb1⟩
set_option maxRecDepth 100000 in
set_option maxHeartbeats 1000000 in
theorem sBin15 (sg : Bool) (a b : ByteArray) (n m : Nat) (w : World) (ha : a.size ≤ maxLen) (hb : b.size ≤ maxLen) (va : Vb.okV (L a) = true) (vb : Vb.okV (L b) = true) (ea : a.size = n) (eb : b.size = m) (kb : (L b).all Vb.knB = true) :
    Calls Try.prog 28 #[.int .i64 15, .bool sg, .string a, .string b] w fun e w' => e = .returned (.string (S (List.replicate (min (Vb.num (L b)) n) 48 ++ (L a).take (n - min (Vb.num (L b)) n)))) ∧ Below w.heap.size w w' := by
  obtain ⟨a1, a2, a3⟩ := (okV_iff a).1 va
  obtain ⟨b1, b2, b3⟩ := (okV_iff b).1 vb
  have VA := hide va
  have VBB := hide vb
  have HA := hide ha
  have HBB := hide hb
  rw [ea] at a1 a2
  rw [eb] at b1 b2
  have A3 := hide a3
  have B3 := hide b3
  clear va vb ha hb a3 b3
  have hda := L_head a (by omega)
  obtain ⟨c0, hc0⟩ : ∃ c, a[0]'(by omega) = c := ⟨_, rfl⟩
  rw [hc0] at hda
  have HDA := hide hda
  clear hda
  cases hkA : (L a).all Vb.knB
  all_goals
    have KA := hide hkA
    have KB := hide kb
    clear hkA kb
    go_enter Try.func28, Try.ntmps28
    go_wp2_with (first | (go_at_call_of 35 (Value.string a); refine (sOK1 a _ (unhide HA) (unhide VA)).mono ?_; rintro e w' ⟨rfl, rfl⟩) | (go_at_call_of 35 (Value.string b); refine (sOK1 b _ (unhide HBB) (unhide VBB)).mono ?_; rintro e w' ⟨rfl, rfl⟩) | (go_at_call_of 47 (Value.string a); refine (sKn a _ _ (unhide HA) (unhide KA)).mono ?_; rintro e w' ⟨rfl, rfl⟩) | (go_at_call_of 47 (Value.string b); refine (sKn b _ _ (unhide HBB) (unhide KB)).mono ?_; rintro e w' ⟨rfl, rfl⟩))
    go_loop [14, 15] (fun c i => ∃ k : Nat, k ≤ m ∧ i = .int .i64 k ∧ ∃ N : Nat, c = .int .i64 N ∧ Hid (min N 64 = min (Vb.num ((L b).take k)) 64 ∧ N ≤ 1001)) (fun _ i => m - (intOf i).toNat)
    case atStart => exact ⟨0, Nat.zero_le _, rfl, 0, rfl, ⟨rfl, by decide⟩⟩
    case round =>
      obtain ⟨k, hk, rfl, N, rfl, hN⟩ := hrel
      have hN1 : N ≤ 1001 := (unhide hN).2
      by_cases hlt : k < m
      · have hltb : k < b.size := by omega
        have hA : Vb.num ((L b).take (k + 1)) = 2 * Vb.num ((L b).take k) + (Vb.oneB b[k]).toNat := by rw [L_take b k hltb, Vb.num_snoc]
        have hkn : Vb.knB b[k] = true := List.all_eq_true.1 (unhide KB) _ (L_mem b k hltb)
        have hbb := Vb.known_bit hkn
        have hst := shift_step (unhide hN).1 (unhide hN).2 (bit_le (Vb.oneB b[k]))
        rw [← hA] at hst
        have emin : (if (1000 : Int) < (N : Int) * 2 then (1000 : Int) else (N : Int) * 2) = ((min (N * 2) 1000 : Nat) : Int) := by split <;> omega
        generalize hM : min (N * 2) 1000 = M at *
        have hM1 : M ≤ 1000 := by omega
        have j1 : (k : Int) < m := by omega
        cases ho : Vb.oneB b[k]
        · rw [ho] at hst hbb
          have e48 : (b[k].toNat : Int) = 48 := by rw [hbb]; rfl
          have HST := hide hst
          have HM := hide emin
          clear hst hbb hA ho hM hkn emin
          go_wp2
          exact ⟨⟨k + 1, by omega, by go_num, M, by rw [unhide HM], unhide HST⟩, by simp [intOf]; omega⟩
        · rw [ho] at hst hbb
          have e49 : (b[k].toNat : Int) = 49 := by rw [hbb]; rfl
          have HST := hide hst
          have HM := hide emin
          clear hst hbb hA ho hM hkn emin
          go_wp2
          exact ⟨⟨k + 1, by omega, by go_num, M + 1, by rw [unhide HM]; rfl, unhide HST⟩, by simp [intOf]; omega⟩
      · rw [L_take_all b k (by omega)] at hN
        have hs : min (Vb.num (L b)) n = if n < N then n else N := by have := (unhide hN).1; split <;> omega
        have HSS := hide hs
        clear hs
        by_cases hc : n < N
        · have hsn : n ≤ n := by omega
          have hsm : Hid (min (Vb.num (L b)) n = n) := by show _ = _; rw [unhide HSS, if_pos hc]
          have hz1 : (S (List.replicate n 48)).size = n := by rw [S_size, List.length_replicate]
          have heq : S (List.replicate n 48) ++ a.extract 0 (n - n) = S (List.replicate n 48 ++ (L a).take (n - n)) := by apply L_inj; rw [L_append, L_extract, L_S, L_S, List.drop_zero, Nat.sub_zero]
          have hz2 : (a.extract 0 (n - n)).size ≤ 64 := by rw [← L_len, L_extract, List.length_take, List.length_drop, L_len, ea]; omega
          generalize hRR : S (List.replicate n 48 ++ (L a).take (n - n)) = RR at *
          have HRR := hide hRR
          have HE2 : Hid (S (List.replicate n 48) = RR) := by
            show _ = _
            rw [← hRR]
            apply congrArg
            rw [Nat.sub_self, List.take_zero, List.append_nil]
          clear hRR heq hz2
          have t1 : (0 : Int) < n := by omega
          have t2 : 0 < n := by omega
          have t3 : (n : Int) ≤ n := by omega
          have hw0 : IntKind.i64.wrap 0 = 0 := by decide
          have hwp : IntKind.i64.wrap ((n : Int) - n) = (n : Int) - n := by rw [IntKind.wrap_i64]; omega
          have t4 : (0 : Int) ≤ n := by omega
          generalize hTT : S (List.replicate n 48) = TT at *
          have HTT := hide hTT
          clear hTT
          go_wp2
          go_region_with (go_at_call 67; refine (fill_is 48 n TT _ (by omega) (unhide HTT)).mono ?_; rintro e w1 ⟨rfl, hb1⟩)
          all_goals
            have hS1 : Below w.heap.size w w1 := (below_drew (brf w)).trans hb1
            clear hb1
            go_wp2
            go_ret
            refine ⟨?_, hS1⟩
            rw [unhide hsm]
            first | rw [unhide HRR] | rw [hpp, unhide HRR]
            first | rfl | exact congrArg (fun z => Ending.returned (Value.string z)) (unhide HE2)
        · have hsn : N ≤ n := by omega
          have hsm : Hid (min (Vb.num (L b)) n = N) := by show _ = _; rw [unhide HSS, if_neg hc]
          have hz1 : (S (List.replicate N 48)).size = N := by rw [S_size, List.length_replicate]
          have heq : S (List.replicate N 48) ++ a.extract 0 (n - N) = S (List.replicate N 48 ++ (L a).take (n - N)) := by apply L_inj; rw [L_append, L_extract, L_S, L_S, List.drop_zero, Nat.sub_zero]
          have hz2 : (a.extract 0 (n - N)).size ≤ 64 := by rw [← L_len, L_extract, List.length_take, List.length_drop, L_len, ea]; omega
          generalize hRR : S (List.replicate N 48 ++ (L a).take (n - N)) = RR at *
          have HRR := hide hRR
          clear hRR
          generalize hpp : n - N = p at *
          have t5 : (n : Int) - N = (p : Int) := by omega
          have t6 : (p : Int) ≤ n := by omega
          have t7 : (0 : Int) ≤ p := by omega
          have hwq : IntKind.i64.wrap (p : Int) = p := by rw [IntKind.wrap_i64]; omega
          generalize hXX : a.extract 0 p = X at *
          have t1 : (0 : Int) < n := by omega
          have t2 : 0 < n := by omega
          have t3 : (N : Int) ≤ n := by omega
          have hw0 : IntKind.i64.wrap 0 = 0 := by decide
          have hwp : IntKind.i64.wrap ((n : Int) - N) = (n : Int) - N := by rw [IntKind.wrap_i64]; omega
          have t4 : (0 : Int) ≤ N := by omega
          generalize hTT : S (List.replicate N 48) = TT at *
          have HTT := hide hTT
          clear hTT
          go_wp2
          go_region_with (go_at_call 67; refine (fill_is 48 N TT _ (by omega) (unhide HTT)).mono ?_; rintro e w1 ⟨rfl, hb1⟩)
          all_goals
            have hS1 : Below w.heap.size w w1 := (below_drew (brf w)).trans hb1
            clear hb1
            go_wp2
            go_ret
            refine ⟨?_, hS1⟩
            rw [unhide hsm]
            first | rw [unhide HRR] | rw [hpp, unhide HRR]
            first | rfl | exact congrArg (fun z => Ending.returned (Value.string z)) (unhide HE2)
end Go.Proofs.Ytmbllgblbdfobaa
namespace Go.Proofs.Ytmbllgblbdfobaa
open Go.RowKit
set_option linter.unusedVariables false
set_option linter.unusedSimpArgs false
set_option maxRecDepth 100000 in
set_option maxHeartbeats 1000000 in
theorem sBin16u (sg : Bool) (a b : ByteArray) (n m : Nat) (w : World) (ha : a.size ≤ maxLen) (hb : b.size ≤ maxLen) (va : Vb.okV (L a) = true) (vb : Vb.okV (L b) = true) (ea : a.size = n) (eb : b.size = m) (kb : (L b).all Vb.knB = false) :
    Calls Try.prog 28 #[.int .i64 16, .bool sg, .string a, .string b] w fun e w' => e = .returned (.string (S (List.replicate n 120))) ∧ Below w.heap.size w w' := by
  obtain ⟨a1, a2, a3⟩ := (okV_iff a).1 va
  obtain ⟨b1, b2, b3⟩ := (okV_iff b).1 vb
  have VA := hide va
  have VBB := hide vb
  have HA := hide ha
  have HBB := hide hb
  rw [ea] at a1 a2
  rw [eb] at b1 b2
  have A3 := hide a3
  have B3 := hide b3
  clear va vb ha hb a3 b3
  cases hkA : (L a).all Vb.knB
  all_goals
    have KA := hide hkA
    have KB := hide kb
    clear hkA kb
    go_enter Try.func28, Try.ntmps28
    go_wp2_with (first | (go_at_call_of 35 (Value.string a); refine (sOK1 a _ (unhide HA) (unhide VA)).mono ?_; rintro e w' ⟨rfl, rfl⟩) | (go_at_call_of 35 (Value.string b); refine (sOK1 b _ (unhide HBB) (unhide VBB)).mono ?_; rintro e w' ⟨rfl, rfl⟩) | (go_at_call_of 47 (Value.string a); refine (sKn a _ _ (unhide HA) (unhide KA)).mono ?_; rintro e w' ⟨rfl, rfl⟩) | (go_at_call_of 47 (Value.string b); refine (sKn b _ _ (unhide HBB) (unhide KB)).mono ?_; rintro e w' ⟨rfl, rfl⟩) | (go_at_call 67; refine (sFill 120 n _ (by omega)).mono ?_; rintro e w1 ⟨rfl, hb1⟩))
    go_ret
    exact ⟨rfl, hb1⟩
set_option maxRecDepth 100000 in
set_option maxHeartbeats 1000000 in
theorem sBin16 (sg : Bool) (a b : ByteArray) (n m : Nat) (w : World) (ha : a.size ≤ maxLen) (hb : b.size ≤ maxLen) (va : Vb.okV (L a) = true) (vb : Vb.okV (L b) = true) (ea : a.size = n) (eb : b.size = m) (kb : (L b).all Vb.knB = true) :
    Calls Try.prog 28 #[.int .i64 16, .bool sg, .string a, .string b] w fun e w' => e = .returned (.string (S (List.replicate (min (Vb.num (L b)) n) ((L a).headD 0) ++ (L a).take (n - min (Vb.num (L b)) n)))) ∧ Below w.heap.size w w' := by
  obtain ⟨a1, a2, a3⟩ := (okV_iff a).1 va
  obtain ⟨b1, b2, b3⟩ := (okV_iff b).1 vb
  have VA := hide va
  have VBB := hide vb
  have HA := hide ha
  have HBB := hide hb
  rw [ea] at a1 a2
  rw [eb] at b1 b2
  have A3 := hide a3
  have B3 := hide b3
  clear va vb ha hb a3 b3
  have hda := L_head a (by omega)
  obtain ⟨c0, hc0⟩ : ∃ c, a[0]'(by omega) = c := ⟨_, rfl⟩
  rw [hc0] at hda
  have HDA := hide hda
  clear hda
  cases hkA : (L a).all Vb.knB
  all_goals
    have KA := hide hkA
    have KB := hide kb
    clear hkA kb
    go_enter Try.func28, Try.ntmps28
    go_wp2_with (first | (go_at_call_of 35 (Value.string a); refine (sOK1 a _ (unhide HA) (unhide VA)).mono ?_; rintro e w' ⟨rfl, rfl⟩) | (go_at_call_of 35 (Value.string b); refine (sOK1 b _ (unhide HBB) (unhide VBB)).mono ?_; rintro e w' ⟨rfl, rfl⟩) | (go_at_call_of 47 (Value.string a); refine (sKn a _ _ (unhide HA) (unhide KA)).mono ?_; rintro e w' ⟨rfl, rfl⟩) | (go_at_call_of 47 (Value.string b); refine (sKn b _ _ (unhide HBB) (unhide KB)).mono ?_; rintro e w' ⟨rfl, rfl⟩))
    go_loop [14, 15] (fun c i => ∃ k : Nat, k ≤ m ∧ i = .int .i64 k ∧ ∃ N : Nat, c = .int .i64 N ∧ Hid (min N 64 = min (Vb.num ((L b).take k)) 64 ∧ N ≤ 1001)) (fun _ i => m - (intOf i).toNat)
    case atStart => exact ⟨0, Nat.zero_le _, rfl, 0, rfl, ⟨rfl, by decide⟩⟩
    case round =>
      obtain ⟨k, hk, rfl, N, rfl, hN⟩ := hrel
      have hN1 : N ≤ 1001 := (unhide hN).2
      by_cases hlt : k < m
      · have hltb : k < b.size := by omega
        have hA : Vb.num ((L b).take (k + 1)) = 2 * Vb.num ((L b).take k) + (Vb.oneB b[k]).toNat := by rw [L_take b k hltb, Vb.num_snoc]
        have hkn : Vb.knB b[k] = true := List.all_eq_true.1 (unhide KB) _ (L_mem b k hltb)
        have hbb := Vb.known_bit hkn
        have hst := shift_step (unhide hN).1 (unhide hN).2 (bit_le (Vb.oneB b[k]))
        rw [← hA] at hst
        have emin : (if (1000 : Int) < (N : Int) * 2 then (1000 : Int) else (N : Int) * 2) = ((min (N * 2) 1000 : Nat) : Int) := by split <;> omega
        generalize hM : min (N * 2) 1000 = M at *
        have hM1 : M ≤ 1000 := by omega
        have j1 : (k : Int) < m := by omega
        cases ho : Vb.oneB b[k]
        · rw [ho] at hst hbb
          have e48 : (b[k].toNat : Int) = 48 := by rw [hbb]; rfl
          have HST := hide hst
          have HM := hide emin
          clear hst hbb hA ho hM hkn emin
          go_wp2
          exact ⟨⟨k + 1, by omega, by go_num, M, by rw [unhide HM], unhide HST⟩, by simp [intOf]; omega⟩
        · rw [ho] at hst hbb
          have e49 : (b[k].toNat : Int) = 49 := by rw [hbb]; rfl
          have HST := hide hst
          have HM := hide emin
          clear hst hbb hA ho hM hkn emin
          go_wp2
          exact ⟨⟨k + 1, by omega, by go_num, M + 1, by rw [unhide HM]; rfl, unhide HST⟩, by simp [intOf]; omega⟩
      · rw [L_take_all b k (by omega)] at hN
        have hs : min (Vb.num (L b)) n = if n < N then n else N := by have := (unhide hN).1; split <;> omega
        have HSS := hide hs
        clear hs
        by_cases hc : n < N
        · have hsn : n ≤ n := by omega
          have hsm : Hid (min (Vb.num (L b)) n = n) := by show _ = _; rw [unhide HSS, if_pos hc]
          have hz1 : (S (List.replicate n c0)).size = n := by rw [S_size, List.length_replicate]
          have heq : S (List.replicate n c0) ++ a.extract 0 (n - n) = S (List.replicate n ((L a).headD 0) ++ (L a).take (n - n)) := by apply L_inj; rw [L_append, L_extract, L_S, L_S, List.drop_zero, Nat.sub_zero, unhide HDA]
          have hz2 : (a.extract 0 (n - n)).size ≤ 64 := by rw [← L_len, L_extract, List.length_take, List.length_drop, L_len, ea]; omega
          generalize hRR : S (List.replicate n ((L a).headD 0) ++ (L a).take (n - n)) = RR at *
          have HRR := hide hRR
          have HE2 : Hid (S (List.replicate n c0) = RR) := by
            show _ = _
            rw [← hRR]
            apply congrArg
            rw [Nat.sub_self, List.take_zero, List.append_nil, unhide HDA]
          clear hRR heq hz2
          have t1 : (0 : Int) < n := by omega
          have t2 : 0 < n := by omega
          have t3 : (n : Int) ≤ n := by omega
          have hw0 : IntKind.i64.wrap 0 = 0 := by decide
          have hwp : IntKind.i64.wrap ((n : Int) - n) = (n : Int) - n := by rw [IntKind.wrap_i64]; omega
          have t4 : (0 : Int) ≤ n := by omega
          generalize hTT : S (List.replicate n c0) = TT at *
          have HTT := hide hTT
          clear hTT
          go_wp2
          go_region_with (go_at_call 67; refine (fill_is c0 n TT _ (by omega) (unhide HTT)).mono ?_; rintro e w1 ⟨rfl, hb1⟩)
          all_goals
            have hS1 : Below w.heap.size w w1 := (below_drew (brf w)).trans hb1
            clear hb1
            go_wp2
            go_ret
            refine ⟨?_, hS1⟩
            rw [unhide hsm]
            first | rw [unhide HRR] | rw [hpp, unhide HRR]
            first | rfl | exact congrArg (fun z => Ending.returned (Value.string z)) (unhide HE2)
        · have hsn : N ≤ n := by omega
          have hsm : Hid (min (Vb.num (L b)) n = N) := by show _ = _; rw [unhide HSS, if_neg hc]
          have hz1 : (S (List.replicate N c0)).size = N := by rw [S_size, List.length_replicate]
          have heq : S (List.replicate N c0) ++ a.extract 0 (n - N) = S (List.replicate N ((L a).headD 0) ++ (L a).take (n - N)) := by apply L_inj; rw [L_append, L_extract, L_S, L_S, List.drop_zero, Nat.sub_zero, unhide HDA]
          have hz2 : (a.extract 0 (n - N)).size ≤ 64 := by rw [← L_len, L_extract, List.length_take, List.length_drop, L_len, ea]; omega
          generalize hRR : S (List.replicate N ((L a).headD 0) ++ (L a).take (n - N)) = RR at *
          have HRR := hide hRR
          clear hRR
          generalize hpp : n - N = p at *
          have t5 : (n : Int) - N = (p : Int) := by omega
          have t6 : (p : Int) ≤ n := by omega
          have t7 : (0 : Int) ≤ p := by omega
          have hwq : IntKind.i64.wrap (p : Int) = p := by rw [IntKind.wrap_i64]; omega
          generalize hXX : a.extract 0 p = X at *
          have t1 : (0 : Int) < n := by omega
          have t2 : 0 < n := by omega
          have t3 : (N : Int) ≤ n := by omega
          have hw0 : IntKind.i64.wrap 0 = 0 := by decide
          have hwp : IntKind.i64.wrap ((n : Int) - N) = (n : Int) - N := by rw [IntKind.wrap_i64]; omega
          have t4 : (0 : Int) ≤ N := by omega
          generalize hTT : S (List.replicate N c0) = TT at *
          have HTT := hide hTT
          clear hTT
          go_wp2
          go_region_with (go_at_call 67; refine (fill_is c0 N TT _ (by omega) (unhide HTT)).mono ?_; rintro e w1 ⟨rfl, hb1⟩)
          all_goals
            have hS1 : Below w.heap.size w w1 := (below_drew (brf w)).trans hb1
            clear hb1
            go_wp2
            go_ret
            refine ⟨?_, hS1⟩
            rw [unhide hsm]
            first | rw [unhide HRR] | rw [hpp, unhide HRR]
            first | rfl | exact congrArg (fun z => Ending.returned (Value.string z)) (unhide HE2)
end Go.Proofs.Ytmbllgblbdfobaa
