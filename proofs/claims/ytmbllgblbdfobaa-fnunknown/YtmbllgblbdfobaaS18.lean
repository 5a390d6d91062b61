/- What the specification's Binary answers: quotients and rests of known operands. -/
import Derived.Test.YtmbllgblbdfobaaS17
namespace Go.Proofs.Ytmbllgblbdfobaa
open Go.RowKit
set_option linter.unusedVariables false
/-- The number without its sign. -/
def absN (sg : Bool) (l : List UInt8) : Nat := if sg = true ∧ l.headD 0 = 49 then 2 ^ l.length - Vb.num l else Vb.num l
theorem num_head {l : List UInt8} (h : l.headD 0 = 49) : 0 < Vb.num l := by
  cases l with
  | nil => exact absurd h (by decide)
  | cons c t =>
    obtain rfl : c = 49 := h
    rw [Vb.num_cons]
    have := Nat.two_pow_pos t.length
    simp [Vb.oneB]; omega
theorem absN_lt (sg : Bool) (l : List UInt8) : absN sg l < 2 ^ l.length := by
  unfold absN
  have h1 := Vb.num_lt l
  split
  · rename_i h; have := num_head h.2; omega
  · exact h1
theorem absN_pos (sg : Bool) {l : List UInt8} (h : 0 < Vb.num l) : 0 < absN sg l := by
  unfold absN
  have h1 := Vb.num_lt l
  split <;> omega
/-- Quotient and rest of known texts, bit by bit. -/
def divL (n : Nat) (sg : Bool) (a b : List UInt8) : List UInt8 := if sg = true ∧ a.headD 0 ≠ b.headD 0 then Vb.nTxt n (2 ^ n - absN sg a / absN sg b) else Vb.nTxt n (absN sg a / absN sg b)
def remL (n : Nat) (sg : Bool) (a b : List UInt8) : List UInt8 := if sg = true ∧ a.headD 0 = 49 then Vb.nTxt n (2 ^ n - absN sg a % absN sg b) else Vb.nTxt n (absN sg a % absN sg b)
theorem sNegN (n X : Nat) (W : World) (hn : n ≤ 64) (hX : X < 2 ^ n) :
    Calls Try.prog 71 #[.string (S (Vb.nTxt n X))] W fun e w' => e = .returned (.string (S (Vb.nTxt n (2 ^ n - X)))) ∧ Below W.heap.size W w' := by
  have := sNeg (S (Vb.nTxt n X)) W (by rw [S_size, Vb.nTxt_len]; omega) (by rw [L_S]; exact Vb.nTxt_known _ _)
  rw [S_size, Vb.nTxt_len, L_S, Vb.num_nTxt, Nat.mod_eq_of_lt hX] at this
  exact this
theorem truth_known {l : List UInt8} (h : l.all Vb.knB = true) : truthL l = if Vb.num l = 0 then 48 else 49 := by
  unfold truthL
  by_cases h1 : l.any Vb.oneB = true
  · rw [if_pos h1]
    have : Vb.num l ≠ 0 := by
      intro e
      have hz := Vb.known_ext h (known_fill0 l.length) (by simp) (by rw [num_fill0, e])
      rw [hz, List.any_eq_true] at h1
      obtain ⟨c, hc, h2⟩ := h1
      rw [List.eq_of_mem_replicate hc] at h2
      exact absurd h2 (by decide)
    rw [if_neg this]
  · rw [if_neg h1]
    have ha : l.all (fun c => c == 48) = true := by
      rw [List.all_eq_true]
      intro c hc
      have hk := List.all_eq_true.1 h c hc
      unfold Vb.knB at hk
      rw [Bool.or_eq_true] at hk
      rcases hk with hk | hk
      · exact hk
      · exact absurd (List.any_eq_true.2 ⟨c, hc, hk⟩) h1
    rw [if_pos ha]
    have : Vb.num l = 0 := by
      have hz : l = List.replicate l.length 48 := List.eq_replicate_iff.2 ⟨rfl, fun c hc => by have := List.all_eq_true.1 ha c hc; simpa using this⟩
      rw [hz, num_fill0]
    rw [if_pos this]
set_option maxRecDepth 100000 in
set_option maxHeartbeats 1000000 in
theorem sBin7z (sg : Bool) (a b : ByteArray) (n : Nat) (w : World) (ha : a.size ≤ maxLen) (hb : b.size ≤ maxLen) (va : Vb.okV (L a) = true) (vb : Vb.okV (L b) = true) (ea : a.size = n) (eb : b.size = n) (ka : (L a).all Vb.knB = true) (kb : (L b).all Vb.knB = true) (hz : Vb.num (L b) = 0) :
    Calls Try.prog 28 #[.int .i64 7, .bool sg, .string a, .string b] w fun e w' => e = .returned (.string (S (List.replicate n 120))) ∧ Below w.heap.size w w' := by
  obtain ⟨a1, a2, a3⟩ := (okV_iff a).1 va
  obtain ⟨b1, b2, b3⟩ := (okV_iff b).1 vb
  have VA := hide va
  have VBB := hide vb
  have HA := hide ha
  have HBB := hide hb
  rw [ea] at a1 a2
  rw [eb] at b1 b2
  have A3 := hide a3
  have B3 := hide b3
  clear va vb ha hb a3 b3
  have KA := hide ka
  have KB := hide kb
  have HT : Hid (truthL (L b) = 48) := by show _ = _; rw [truth_known kb, if_pos hz]
  clear ka kb hz
  go_enter Try.func28, Try.ntmps28
  go_wp2_with (first | (go_at_call_of 35 (Value.string a); refine (sOK1 a _ (unhide HA) (unhide VA)).mono ?_; rintro e w' ⟨rfl, rfl⟩) | (go_at_call_of 35 (Value.string b); refine (sOK1 b _ (unhide HBB) (unhide VBB)).mono ?_; rintro e w' ⟨rfl, rfl⟩) | (go_at_call_of 47 (Value.string a); refine (sKn a _ _ (unhide HA) (unhide KA)).mono ?_; rintro e w' ⟨rfl, rfl⟩) | (go_at_call_of 47 (Value.string b); refine (sKn b _ _ (unhide HBB) (unhide KB)).mono ?_; rintro e w' ⟨rfl, rfl⟩) | (go_at_call 67; refine (sFill 120 n _ (by omega)).mono ?_; rintro e w1 ⟨rfl, hb1⟩) | (go_at_call 66; refine (sTr b _ _ (unhide HBB) (unhide HT)).mono ?_; rintro e w3 ⟨rfl, rfl⟩))
  go_ret
  exact ⟨rfl, hb1⟩
set_option maxRecDepth 100000 in
set_option maxHeartbeats 1000000 in
theorem sBin7 (sg : Bool) (a b : ByteArray) (n : Nat) (w : World) (ha : a.size ≤ maxLen) (hb : b.size ≤ maxLen) (va : Vb.okV (L a) = true) (vb : Vb.okV (L b) = true) (ea : a.size = n) (eb : b.size = n) (ka : (L a).all Vb.knB = true) (kb : (L b).all Vb.knB = true) (hz : 0 < Vb.num (L b)) :
    Calls Try.prog 28 #[.int .i64 7, .bool sg, .string a, .string b] w fun e w' => e = .returned (.string (S (divL n sg (L a) (L b)))) ∧ Below w.heap.size w w' := by
  obtain ⟨a1, a2, a3⟩ := (okV_iff a).1 va
  obtain ⟨b1, b2, b3⟩ := (okV_iff b).1 vb
  have VA := hide va
  have VBB := hide vb
  have HA := hide ha
  have HBB := hide hb
  rw [ea] at a1 a2
  rw [eb] at b1 b2
  have A3 := hide a3
  have B3 := hide b3
  clear va vb ha hb a3 b3
  have KA := hide ka
  have KB := hide kb
  have HT : Hid (truthL (L b) = 49) := by show _ = _; rw [truth_known kb, if_neg (by omega)]
  have ha0 : 0 < a.size := by omega
  have hb0 : 0 < b.size := by omega
  have hda := L_head a ha0
  have hdb := L_head b hb0
  have t1 : (0 : Int) < n := by omega
  have t2 : 0 < n := by omega
  have hla := absN_lt sg (L a)
  have hlb := absN_lt sg (L b)
  have hpb := absN_pos sg hz
  rw [L_len, ea] at hla
  rw [L_len, eb] at hlb
  have sa := S_known ea ka
  have sb := S_known eb kb
  have hna : ∀ W, Calls Try.prog 71 #[.string a] W fun e w' => e = .returned (.string (S (Vb.nTxt n (2 ^ n - Vb.num (L a))))) ∧ Below W.heap.size W w' := fun W => by
    have := sNeg a W (by omega) ka
    rw [ea] at this; exact this
  have hnb : ∀ W, Calls Try.prog 71 #[.string b] W fun e w' => e = .returned (.string (S (Vb.nTxt n (2 ^ n - Vb.num (L b))))) ∧ Below W.heap.size W w' := fun W => by
    have := sNeg b W (by omega) kb
    rw [eb] at this; exact this
  have hdv : ∀ W, Calls Try.prog 72 #[.string (S (Vb.nTxt n (absN sg (L a)))), .string (S (Vb.nTxt n (absN sg (L b))))] W fun e w' => e = .returned (.tuple #[.string (S (Vb.nTxt n (absN sg (L a) / absN sg (L b)))), .string (S (Vb.nTxt n (absN sg (L a) % absN sg (L b))))]) ∧ Below W.heap.size W w' := fun W => by
    have := sLong (S (Vb.nTxt n (absN sg (L a)))) (S (Vb.nTxt n (absN sg (L b)))) n W a2 (by rw [S_size, Vb.nTxt_len]) (by rw [S_size, Vb.nTxt_len]) (by rw [L_S]; exact Vb.nTxt_known _ _) (by rw [L_S]; exact Vb.nTxt_known _ _) (by rw [L_S, Vb.num_nTxt, Nat.mod_eq_of_lt hlb]; exact hpb)
    rw [L_S, L_S, Vb.num_nTxt, Vb.num_nTxt, Nat.mod_eq_of_lt hla, Nat.mod_eq_of_lt hlb] at this
    exact this
  have HNA := hide hna
  have HNB := hide hnb
  have HDV := hide hdv
  have SA := hide sa
  have SB := hide sb
  clear ka kb hz hna hnb hdv sa sb
  cases sg
  · have HF : Hid (divL n false (L a) (L b) = Vb.nTxt n (absN false (L a) / absN false (L b))) := by show _ = _; unfold divL; rw [if_neg (by simp)]
    have e1 : S (Vb.nTxt n (absN false (L a))) = a := by unfold absN; rw [if_neg (by simp)]; exact (unhide SA).symm
    have e2 : S (Vb.nTxt n (absN false (L b))) = b := by unfold absN; rw [if_neg (by simp)]; exact (unhide SB).symm
    have hdv := unhide HDV
    rw [e1, e2] at hdv
    have HDV2 := hide hdv
    clear hdv e1 e2 HDV hda hdb hla hlb hpb
    go_enter Try.func28, Try.ntmps28
    go_wp2_with (first | (go_at_call_of 35 (Value.string a); refine (sOK1 a _ (unhide HA) (unhide VA)).mono ?_; rintro e w' ⟨rfl, rfl⟩) | (go_at_call_of 35 (Value.string b); refine (sOK1 b _ (unhide HBB) (unhide VBB)).mono ?_; rintro e w' ⟨rfl, rfl⟩) | (go_at_call_of 47 (Value.string a); refine (sKn a _ _ (unhide HA) (unhide KA)).mono ?_; rintro e w' ⟨rfl, rfl⟩) | (go_at_call_of 47 (Value.string b); refine (sKn b _ _ (unhide HBB) (unhide KB)).mono ?_; rintro e w' ⟨rfl, rfl⟩) | (go_at_call 66; refine (sTr b _ _ (unhide HBB) (unhide HT)).mono ?_; rintro e w3 ⟨rfl, rfl⟩))
    refine (unhide HDV2 _).mono ?_
    rintro e w4 ⟨rfl, hb4⟩
    go_wp2
    go_quiet (fail)
    have hbq := below_drewN hb4 nq
    generalize w4.drewN nq = wq at *
    go_wp2
    go_ret
    exact ⟨by rw [unhide HF]; rfl, hbq⟩
  have k0a : Vb.knB a[0] = true := List.all_eq_true.1 (unhide KA) _ (L_mem a 0 ha0)
  have k0b : Vb.knB b[0] = true := List.all_eq_true.1 (unhide KB) _ (L_mem b 0 hb0)
  have c0a : a[0] = 49 ∨ a[0] = 48 := by have := Vb.known_bit k0a; cases h : Vb.oneB a[0] <;> rw [h] at this <;> simp at this <;> simp [this]
  have c0b : b[0] = 49 ∨ b[0] = 48 := by have := Vb.known_bit k0b; cases h : Vb.oneB b[0] <;> rw [h] at this <;> simp at this <;> simp [this]
  have hq1 : absN true (L a) / absN true (L b) < 2 ^ n := Nat.lt_of_le_of_lt (Nat.div_le_self _ _) hla
  have hq2 : absN true (L a) % absN true (L b) < 2 ^ n := Nat.lt_trans (Nat.mod_lt _ hpb) hlb
  have HQ := hide (And.intro hq1 hq2)
  clear k0a k0b hq1 hq2
  rcases c0a with c0a | c0a <;> rcases c0b with c0b | c0b
  · have e1 : absN true (L a) = 2 ^ n - Vb.num (L a) := by unfold absN; rw [if_pos ⟨rfl, by rw [hda]; exact c0a⟩, L_len, ea]
    have e2 : absN true (L b) = 2 ^ n - Vb.num (L b) := by unfold absN; rw [if_pos ⟨rfl, by rw [hdb]; exact c0b⟩, L_len, eb]
    have HF : Hid (divL n true (L a) (L b) = Vb.nTxt n (absN true (L a) / absN true (L b))) := by show _ = _; unfold divL; rw [if_neg (by rw [hda, hdb, c0a, c0b]; decide)]
    have qa : (a[0].toNat : Int) = 49 := by rw [c0a]; rfl
    have qb : (b[0].toNat : Int) = 49 := by rw [c0b]; rfl
    have hna := unhide HNA
    rw [← e1] at hna
    have HNA2 := hide hna
    clear hna
    have hnb := unhide HNB
    rw [← e2] at hnb
    have HNB2 := hide hnb
    clear hnb
    have hdv := unhide HDV
    have HDV2 := hide hdv
    have HNG : Hid (∀ W, Calls Try.prog 71 #[.string (S (Vb.nTxt n (absN true (L a) / absN true (L b))))] W fun e w' => e = .returned (.string (S (Vb.nTxt n (2 ^ n - absN true (L a) / absN true (L b))))) ∧ Below W.heap.size W w') := fun W => sNegN n _ W a2 (unhide HQ).1
    clear hdv e1 e2 hda hdb hla hlb hpb c0a c0b HDV
    go_enter Try.func28, Try.ntmps28
    go_wp2_with (first | (go_at_call_of 35 (Value.string a); refine (sOK1 a _ (unhide HA) (unhide VA)).mono ?_; rintro e w' ⟨rfl, rfl⟩) | (go_at_call_of 35 (Value.string b); refine (sOK1 b _ (unhide HBB) (unhide VBB)).mono ?_; rintro e w' ⟨rfl, rfl⟩) | (go_at_call_of 47 (Value.string a); refine (sKn a _ _ (unhide HA) (unhide KA)).mono ?_; rintro e w' ⟨rfl, rfl⟩) | (go_at_call_of 47 (Value.string b); refine (sKn b _ _ (unhide HBB) (unhide KB)).mono ?_; rintro e w' ⟨rfl, rfl⟩) | (go_at_call 66; refine (sTr b _ _ (unhide HBB) (unhide HT)).mono ?_; rintro e w3 ⟨rfl, rfl⟩) | (go_at_call_of 71 (Value.string a); refine (unhide HNA2 _).mono ?_; rintro e wa ⟨rfl, hba⟩) | (go_at_call_of 71 (Value.string b); refine (unhide HNB2 _).mono ?_; rintro e wb ⟨rfl, hbb⟩))
    refine (unhide HDV2 _).mono ?_
    rintro e w4 ⟨rfl, hb4⟩
    have hp0 : Below w.heap.size w _ := hba.trans (hbb.mono hba.size)
    have hp4 := hp0.trans (hb4.mono hp0.size)
    clear hb4 HDV2
    go_wp2
    go_quiet (fail)
    have hbq := below_drewN hp4 nq
    generalize w4.drewN nq = wq at *
    go_wp2
    go_ret
    exact ⟨by rw [unhide HF]; rfl, hbq⟩
  · have e1 : absN true (L a) = 2 ^ n - Vb.num (L a) := by unfold absN; rw [if_pos ⟨rfl, by rw [hda]; exact c0a⟩, L_len, ea]
    have e2 : absN true (L b) = Vb.num (L b) := by unfold absN; rw [if_neg (by rw [hdb, c0b]; decide)]
    have HF : Hid (divL n true (L a) (L b) = Vb.nTxt n (2 ^ n - absN true (L a) / absN true (L b))) := by show _ = _; unfold divL; rw [if_pos (by rw [hda, hdb, c0a, c0b]; decide)]
    have qa : (a[0].toNat : Int) = 49 := by rw [c0a]; rfl
    have qb : (b[0].toNat : Int) = 48 := by rw [c0b]; rfl
    have hna := unhide HNA
    rw [← e1] at hna
    have HNA2 := hide hna
    clear hna
    have f2 : S (Vb.nTxt n (absN true (L b))) = b := by rw [e2]; exact (unhide SB).symm
    have hdv := unhide HDV
    rw [f2] at hdv
    have HDV2 := hide hdv
    have HNG : Hid (∀ W, Calls Try.prog 71 #[.string (S (Vb.nTxt n (absN true (L a) / absN true (L b))))] W fun e w' => e = .returned (.string (S (Vb.nTxt n (2 ^ n - absN true (L a) / absN true (L b))))) ∧ Below W.heap.size W w') := fun W => sNegN n _ W a2 (unhide HQ).1
    clear hdv e1 e2 hda hdb hla hlb hpb c0a c0b HDV f2
    go_enter Try.func28, Try.ntmps28
    go_wp2_with (first | (go_at_call_of 35 (Value.string a); refine (sOK1 a _ (unhide HA) (unhide VA)).mono ?_; rintro e w' ⟨rfl, rfl⟩) | (go_at_call_of 35 (Value.string b); refine (sOK1 b _ (unhide HBB) (unhide VBB)).mono ?_; rintro e w' ⟨rfl, rfl⟩) | (go_at_call_of 47 (Value.string a); refine (sKn a _ _ (unhide HA) (unhide KA)).mono ?_; rintro e w' ⟨rfl, rfl⟩) | (go_at_call_of 47 (Value.string b); refine (sKn b _ _ (unhide HBB) (unhide KB)).mono ?_; rintro e w' ⟨rfl, rfl⟩) | (go_at_call 66; refine (sTr b _ _ (unhide HBB) (unhide HT)).mono ?_; rintro e w3 ⟨rfl, rfl⟩) | (go_at_call_of 71 (Value.string a); refine (unhide HNA2 _).mono ?_; rintro e wa ⟨rfl, hba⟩))
    refine (unhide HDV2 _).mono ?_
    rintro e w4 ⟨rfl, hb4⟩
    have hp0 : Below w.heap.size w _ := hba
    have hp4 := hp0.trans (hb4.mono hp0.size)
    clear hb4 HDV2
    go_wp2
    go_quiet (fail)
    have hbq := below_drewN hp4 nq
    generalize w4.drewN nq = wq at *
    go_wp2_with fail
    refine (unhide HNG _).mono ?_
    rintro e w7 ⟨rfl, hb7⟩
    go_wp2
    go_ret
    exact ⟨by rw [unhide HF]; rfl, hbq.trans (hb7.mono hbq.size)⟩
  · have e1 : absN true (L a) = Vb.num (L a) := by unfold absN; rw [if_neg (by rw [hda, c0a]; decide)]
    have e2 : absN true (L b) = 2 ^ n - Vb.num (L b) := by unfold absN; rw [if_pos ⟨rfl, by rw [hdb]; exact c0b⟩, L_len, eb]
    have HF : Hid (divL n true (L a) (L b) = Vb.nTxt n (2 ^ n - absN true (L a) / absN true (L b))) := by show _ = _; unfold divL; rw [if_pos (by rw [hda, hdb, c0a, c0b]; decide)]
    have qa : (a[0].toNat : Int) = 48 := by rw [c0a]; rfl
    have qb : (b[0].toNat : Int) = 49 := by rw [c0b]; rfl
    have f1 : S (Vb.nTxt n (absN true (L a))) = a := by rw [e1]; exact (unhide SA).symm
    have hnb := unhide HNB
    rw [← e2] at hnb
    have HNB2 := hide hnb
    clear hnb
    have hdv := unhide HDV
    rw [f1] at hdv
    have HDV2 := hide hdv
    have HNG : Hid (∀ W, Calls Try.prog 71 #[.string (S (Vb.nTxt n (absN true (L a) / absN true (L b))))] W fun e w' => e = .returned (.string (S (Vb.nTxt n (2 ^ n - absN true (L a) / absN true (L b))))) ∧ Below W.heap.size W w') := fun W => sNegN n _ W a2 (unhide HQ).1
    clear hdv e1 e2 hda hdb hla hlb hpb c0a c0b HDV f1
    go_enter Try.func28, Try.ntmps28
    go_wp2_with (first | (go_at_call_of 35 (Value.string a); refine (sOK1 a _ (unhide HA) (unhide VA)).mono ?_; rintro e w' ⟨rfl, rfl⟩) | (go_at_call_of 35 (Value.string b); refine (sOK1 b _ (unhide HBB) (unhide VBB)).mono ?_; rintro e w' ⟨rfl, rfl⟩) | (go_at_call_of 47 (Value.string a); refine (sKn a _ _ (unhide HA) (unhide KA)).mono ?_; rintro e w' ⟨rfl, rfl⟩) | (go_at_call_of 47 (Value.string b); refine (sKn b _ _ (unhide HBB) (unhide KB)).mono ?_; rintro e w' ⟨rfl, rfl⟩) | (go_at_call 66; refine (sTr b _ _ (unhide HBB) (unhide HT)).mono ?_; rintro e w3 ⟨rfl, rfl⟩) | (go_at_call_of 71 (Value.string b); refine (unhide HNB2 _).mono ?_; rintro e wb ⟨rfl, hbb⟩))
    refine (unhide HDV2 _).mono ?_
    rintro e w4 ⟨rfl, hb4⟩
    have hp0 : Below w.heap.size w _ := hbb
    have hp4 := hp0.trans (hb4.mono hp0.size)
    clear hb4 HDV2
    go_wp2
    go_quiet (fail)
    have hbq := below_drewN hp4 nq
    generalize w4.drewN nq = wq at *
    go_wp2_with fail
    refine (unhide HNG _).mono ?_
    rintro e w7 ⟨rfl, hb7⟩
    go_wp2
    go_ret
    exact ⟨by rw [unhide HF]; rfl, hbq.trans (hb7.mono hbq.size)⟩
  · have e1 : absN true (L a) = Vb.num (L a) := by unfold absN; rw [if_neg (by rw [hda, c0a]; decide)]
    have e2 : absN true (L b) = Vb.num (L b) := by unfold absN; rw [if_neg (by rw [hdb, c0b]; decide)]
    have HF : Hid (divL n true (L a) (L b) = Vb.nTxt n (absN true (L a) / absN true (L b))) := by show _ = _; unfold divL; rw [if_neg (by rw [hda, hdb, c0a, c0b]; decide)]
    have qa : (a[0].toNat : Int) = 48 := by rw [c0a]; rfl
    have qb : (b[0].toNat : Int) = 48 := by rw [c0b]; rfl
    have f1 : S (Vb.nTxt n (absN true (L a))) = a := by rw [e1]; exact (unhide SA).symm
    have f2 : S (Vb.nTxt n (absN true (L b))) = b := by rw [e2]; exact (unhide SB).symm
    have hdv := unhide HDV
    rw [f1] at hdv
    rw [f2] at hdv
    have HDV2 := hide hdv
    have HNG : Hid (∀ W, Calls Try.prog 71 #[.string (S (Vb.nTxt n (absN true (L a) / absN true (L b))))] W fun e w' => e = .returned (.string (S (Vb.nTxt n (2 ^ n - absN true (L a) / absN true (L b))))) ∧ Below W.heap.size W w') := fun W => sNegN n _ W a2 (unhide HQ).1
    clear hdv e1 e2 hda hdb hla hlb hpb c0a c0b HDV f1 f2
    go_enter Try.func28, Try.ntmps28
    go_wp2_with (first | (go_at_call_of 35 (Value.string a); refine (sOK1 a _ (unhide HA) (unhide VA)).mono ?_; rintro e w' ⟨rfl, rfl⟩) | (go_at_call_of 35 (Value.string b); refine (sOK1 b _ (unhide HBB) (unhide VBB)).mono ?_; rintro e w' ⟨rfl, rfl⟩) | (go_at_call_of 47 (Value.string a); refine (sKn a _ _ (unhide HA) (unhide KA)).mono ?_; rintro e w' ⟨rfl, rfl⟩) | (go_at_call_of 47 (Value.string b); refine (sKn b _ _ (unhide HBB) (unhide KB)).mono ?_; rintro e w' ⟨rfl, rfl⟩) | (go_at_call 66; refine (sTr b _ _ (unhide HBB) (unhide HT)).mono ?_; rintro e w3 ⟨rfl, rfl⟩))
    refine (unhide HDV2 _).mono ?_
    rintro e w4 ⟨rfl, hb4⟩
    have hp0 : Below w.heap.size w _ := brf _
    have hp4 := hp0.trans (hb4.mono hp0.size)
    clear hb4 HDV2
    go_wp2
    go_quiet (fail)
    have hbq := below_drewN hp4 nq
    generalize w4.drewN nq = wq at *
    go_wp2
    go_ret
    exact ⟨by rw [unhide HF]; rfl, hbq⟩
set_option maxRecDepth 100000 in
set_option maxHeartbeats 1000000 in
theorem sBin8z (sg : Bool) (a b : ByteArray) (n : Nat) (w : World) (ha : a.size ≤ maxLen) (hb : b.size ≤ maxLen) (va : Vb.okV (L a) = true) (vb : Vb.okV (L b) = true) (ea : a.size = n) (eb : b.size = n) (ka : (L a).all Vb.knB = true) (kb : (L b).all Vb.knB = true) (hz : Vb.num (L b) = 0) :
    Calls Try.prog 28 #[.int .i64 8, .bool sg, .string a, .string b] w fun e w' => e = .returned (.string (S (List.replicate n 120))) ∧ Below w.heap.size w w' := by
  obtain ⟨a1, a2, a3⟩ := (okV_iff a).1 va
  obtain ⟨b1, b2, b3⟩ := (okV_iff b).1 vb
  have VA := hide va
  have VBB := hide vb
  have HA := hide ha
  have HBB := hide hb
  rw [ea] at a1 a2
  rw [eb] at b1 b2
  have A3 := hide a3
  have B3 := hide b3
  clear va vb ha hb a3 b3
  have KA := hide ka
  have KB := hide kb
  have HT : Hid (truthL (L b) = 48) := by show _ = _; rw [truth_known kb, if_pos hz]
  clear ka kb hz
  go_enter Try.func28, Try.ntmps28
  go_wp2_with (first | (go_at_call_of 35 (Value.string a); refine (sOK1 a _ (unhide HA) (unhide VA)).mono ?_; rintro e w' ⟨rfl, rfl⟩) | (go_at_call_of 35 (Value.string b); refine (sOK1 b _ (unhide HBB) (unhide VBB)).mono ?_; rintro e w' ⟨rfl, rfl⟩) | (go_at_call_of 47 (Value.string a); refine (sKn a _ _ (unhide HA) (unhide KA)).mono ?_; rintro e w' ⟨rfl, rfl⟩) | (go_at_call_of 47 (Value.string b); refine (sKn b _ _ (unhide HBB) (unhide KB)).mono ?_; rintro e w' ⟨rfl, rfl⟩) | (go_at_call 67; refine (sFill 120 n _ (by omega)).mono ?_; rintro e w1 ⟨rfl, hb1⟩) | (go_at_call 66; refine (sTr b _ _ (unhide HBB) (unhide HT)).mono ?_; rintro e w3 ⟨rfl, rfl⟩))
  go_ret
  exact ⟨rfl, hb1⟩
set_option maxRecDepth 100000 in
set_option maxHeartbeats 1000000 in
theorem sBin8 (sg : Bool) (a b : ByteArray) (n : Nat) (w : World) (ha : a.size ≤ maxLen) (hb : b.size ≤ maxLen) (va : Vb.okV (L a) = true) (vb : Vb.okV (L b) = true) (ea : a.size = n) (eb : b.size = n) (ka : (L a).all Vb.knB = true) (kb : (L b).all Vb.knB = true) (hz : 0 < Vb.num (L b)) :
    Calls Try.prog 28 #[.int .i64 8, .bool sg, .string a, .string b] w fun e w' => e = .returned (.string (S (remL n sg (L a) (L b)))) ∧ Below w.heap.size w w' := by
  obtain ⟨a1, a2, a3⟩ := (okV_iff a).1 va
  obtain ⟨b1, b2, b3⟩ := (okV_iff b).1 vb
  have VA := hide va
  have VBB := hide vb
  have HA := hide ha
  have HBB := hide hb
  rw [ea] at a1 a2
  rw [eb] at b1 b2
  have A3 := hide a3
  have B3 := hide b3
  clear va vb ha hb a3 b3
  have KA := hide ka
  have KB := hide kb
  have HT : Hid (truthL (L b) = 49) := by show _ = _; rw [truth_known kb, if_neg (by omega)]
  have ha0 : 0 < a.size := by omega
  have hb0 : 0 < b.size := by omega
  have hda := L_head a ha0
  have hdb := L_head b hb0
  have t1 : (0 : Int) < n := by omega
  have t2 : 0 < n := by omega
  have hla := absN_lt sg (L a)
  have hlb := absN_lt sg (L b)
  have hpb := absN_pos sg hz
  rw [L_len, ea] at hla
  rw [L_len, eb] at hlb
  have sa := S_known ea ka
  have sb := S_known eb kb
  have hna : ∀ W, Calls Try.prog 71 #[.string a] W fun e w' => e = .returned (.string (S (Vb.nTxt n (2 ^ n - Vb.num (L a))))) ∧ Below W.heap.size W w' := fun W => by
    have := sNeg a W (by omega) ka
    rw [ea] at this; exact this
  have hnb : ∀ W, Calls Try.prog 71 #[.string b] W fun e w' => e = .returned (.string (S (Vb.nTxt n (2 ^ n - Vb.num (L b))))) ∧ Below W.heap.size W w' := fun W => by
    have := sNeg b W (by omega) kb
    rw [eb] at this; exact this
  have hdv : ∀ W, Calls Try.prog 72 #[.string (S (Vb.nTxt n (absN sg (L a)))), .string (S (Vb.nTxt n (absN sg (L b))))] W fun e w' => e = .returned (.tuple #[.string (S (Vb.nTxt n (absN sg (L a) / absN sg (L b)))), .string (S (Vb.nTxt n (absN sg (L a) % absN sg (L b))))]) ∧ Below W.heap.size W w' := fun W => by
    have := sLong (S (Vb.nTxt n (absN sg (L a)))) (S (Vb.nTxt n (absN sg (L b)))) n W a2 (by rw [S_size, Vb.nTxt_len]) (by rw [S_size, Vb.nTxt_len]) (by rw [L_S]; exact Vb.nTxt_known _ _) (by rw [L_S]; exact Vb.nTxt_known _ _) (by rw [L_S, Vb.num_nTxt, Nat.mod_eq_of_lt hlb]; exact hpb)
    rw [L_S, L_S, Vb.num_nTxt, Vb.num_nTxt, Nat.mod_eq_of_lt hla, Nat.mod_eq_of_lt hlb] at this
    exact this
  have HNA := hide hna
  have HNB := hide hnb
  have HDV := hide hdv
  have SA := hide sa
  have SB := hide sb
  clear ka kb hz hna hnb hdv sa sb
  cases sg
  · have HF : Hid (remL n false (L a) (L b) = Vb.nTxt n (absN false (L a) % absN false (L b))) := by show _ = _; unfold remL; rw [if_neg (by simp)]
    have e1 : S (Vb.nTxt n (absN false (L a))) = a := by unfold absN; rw [if_neg (by simp)]; exact (unhide SA).symm
    have e2 : S (Vb.nTxt n (absN false (L b))) = b := by unfold absN; rw [if_neg (by simp)]; exact (unhide SB).symm
    have hdv := unhide HDV
    rw [e1, e2] at hdv
    have HDV2 := hide hdv
    clear hdv e1 e2 HDV hda hdb hla hlb hpb
    go_enter Try.func28, Try.ntmps28
    go_wp2_with (first | (go_at_call_of 35 (Value.string a); refine (sOK1 a _ (unhide HA) (unhide VA)).mono ?_; rintro e w' ⟨rfl, rfl⟩) | (go_at_call_of 35 (Value.string b); refine (sOK1 b _ (unhide HBB) (unhide VBB)).mono ?_; rintro e w' ⟨rfl, rfl⟩) | (go_at_call_of 47 (Value.string a); refine (sKn a _ _ (unhide HA) (unhide KA)).mono ?_; rintro e w' ⟨rfl, rfl⟩) | (go_at_call_of 47 (Value.string b); refine (sKn b _ _ (unhide HBB) (unhide KB)).mono ?_; rintro e w' ⟨rfl, rfl⟩) | (go_at_call 66; refine (sTr b _ _ (unhide HBB) (unhide HT)).mono ?_; rintro e w3 ⟨rfl, rfl⟩))
    refine (unhide HDV2 _).mono ?_
    rintro e w4 ⟨rfl, hb4⟩
    go_wp2
    go_ret
    exact ⟨by rw [unhide HF]; rfl, hb4⟩
  have k0a : Vb.knB a[0] = true := List.all_eq_true.1 (unhide KA) _ (L_mem a 0 ha0)
  have k0b : Vb.knB b[0] = true := List.all_eq_true.1 (unhide KB) _ (L_mem b 0 hb0)
  have c0a : a[0] = 49 ∨ a[0] = 48 := by have := Vb.known_bit k0a; cases h : Vb.oneB a[0] <;> rw [h] at this <;> simp at this <;> simp [this]
  have c0b : b[0] = 49 ∨ b[0] = 48 := by have := Vb.known_bit k0b; cases h : Vb.oneB b[0] <;> rw [h] at this <;> simp at this <;> simp [this]
  have hq1 : absN true (L a) / absN true (L b) < 2 ^ n := Nat.lt_of_le_of_lt (Nat.div_le_self _ _) hla
  have hq2 : absN true (L a) % absN true (L b) < 2 ^ n := Nat.lt_trans (Nat.mod_lt _ hpb) hlb
  have HQ := hide (And.intro hq1 hq2)
  clear k0a k0b hq1 hq2
  rcases c0a with c0a | c0a <;> rcases c0b with c0b | c0b
  · have e1 : absN true (L a) = 2 ^ n - Vb.num (L a) := by unfold absN; rw [if_pos ⟨rfl, by rw [hda]; exact c0a⟩, L_len, ea]
    have e2 : absN true (L b) = 2 ^ n - Vb.num (L b) := by unfold absN; rw [if_pos ⟨rfl, by rw [hdb]; exact c0b⟩, L_len, eb]
    have HF : Hid (remL n true (L a) (L b) = Vb.nTxt n (2 ^ n - absN true (L a) % absN true (L b))) := by show _ = _; unfold remL; rw [if_pos (by rw [hda, c0a]; decide)]
    have qa : (a[0].toNat : Int) = 49 := by rw [c0a]; rfl
    have qb : (b[0].toNat : Int) = 49 := by rw [c0b]; rfl
    have hna := unhide HNA
    rw [← e1] at hna
    have HNA2 := hide hna
    clear hna
    have hnb := unhide HNB
    rw [← e2] at hnb
    have HNB2 := hide hnb
    clear hnb
    have hdv := unhide HDV
    have HDV2 := hide hdv
    have HNG : Hid (∀ W, Calls Try.prog 71 #[.string (S (Vb.nTxt n (absN true (L a) % absN true (L b))))] W fun e w' => e = .returned (.string (S (Vb.nTxt n (2 ^ n - absN true (L a) % absN true (L b))))) ∧ Below W.heap.size W w') := fun W => sNegN n _ W a2 (unhide HQ).2
    clear hdv e1 e2 hda hdb hla hlb hpb c0a c0b HDV
    go_enter Try.func28, Try.ntmps28
    go_wp2_with (first | (go_at_call_of 35 (Value.string a); refine (sOK1 a _ (unhide HA) (unhide VA)).mono ?_; rintro e w' ⟨rfl, rfl⟩) | (go_at_call_of 35 (Value.string b); refine (sOK1 b _ (unhide HBB) (unhide VBB)).mono ?_; rintro e w' ⟨rfl, rfl⟩) | (go_at_call_of 47 (Value.string a); refine (sKn a _ _ (unhide HA) (unhide KA)).mono ?_; rintro e w' ⟨rfl, rfl⟩) | (go_at_call_of 47 (Value.string b); refine (sKn b _ _ (unhide HBB) (unhide KB)).mono ?_; rintro e w' ⟨rfl, rfl⟩) | (go_at_call 66; refine (sTr b _ _ (unhide HBB) (unhide HT)).mono ?_; rintro e w3 ⟨rfl, rfl⟩) | (go_at_call_of 71 (Value.string a); refine (unhide HNA2 _).mono ?_; rintro e wa ⟨rfl, hba⟩) | (go_at_call_of 71 (Value.string b); refine (unhide HNB2 _).mono ?_; rintro e wb ⟨rfl, hbb⟩))
    refine (unhide HDV2 _).mono ?_
    rintro e w4 ⟨rfl, hb4⟩
    have hp0 : Below w.heap.size w _ := hba.trans (hbb.mono hba.size)
    have hp4 := hp0.trans (hb4.mono hp0.size)
    clear hb4 HDV2
    go_wp2_with fail
    refine (unhide HNG _).mono ?_
    rintro e w7 ⟨rfl, hb7⟩
    go_wp2
    go_ret
    exact ⟨by rw [unhide HF]; rfl, hp4.trans (hb7.mono hp4.size)⟩
  · have e1 : absN true (L a) = 2 ^ n - Vb.num (L a) := by unfold absN; rw [if_pos ⟨rfl, by rw [hda]; exact c0a⟩, L_len, ea]
    have e2 : absN true (L b) = Vb.num (L b) := by unfold absN; rw [if_neg (by rw [hdb, c0b]; decide)]
    have HF : Hid (remL n true (L a) (L b) = Vb.nTxt n (2 ^ n - absN true (L a) % absN true (L b))) := by show _ = _; unfold remL; rw [if_pos (by rw [hda, c0a]; decide)]
    have qa : (a[0].toNat : Int) = 49 := by rw [c0a]; rfl
    have qb : (b[0].toNat : Int) = 48 := by rw [c0b]; rfl
    have hna := unhide HNA
    rw [← e1] at hna
    have HNA2 := hide hna
    clear hna
    have f2 : S (Vb.nTxt n (absN true (L b))) = b := by rw [e2]; exact (unhide SB).symm
    have hdv := unhide HDV
    rw [f2] at hdv
    have HDV2 := hide hdv
    have HNG : Hid (∀ W, Calls Try.prog 71 #[.string (S (Vb.nTxt n (absN true (L a) % absN true (L b))))] W fun e w' => e = .returned (.string (S (Vb.nTxt n (2 ^ n - absN true (L a) % absN true (L b))))) ∧ Below W.heap.size W w') := fun W => sNegN n _ W a2 (unhide HQ).2
    clear hdv e1 e2 hda hdb hla hlb hpb c0a c0b HDV f2
    go_enter Try.func28, Try.ntmps28
    go_wp2_with (first | (go_at_call_of 35 (Value.string a); refine (sOK1 a _ (unhide HA) (unhide VA)).mono ?_; rintro e w' ⟨rfl, rfl⟩) | (go_at_call_of 35 (Value.string b); refine (sOK1 b _ (unhide HBB) (unhide VBB)).mono ?_; rintro e w' ⟨rfl, rfl⟩) | (go_at_call_of 47 (Value.string a); refine (sKn a _ _ (unhide HA) (unhide KA)).mono ?_; rintro e w' ⟨rfl, rfl⟩) | (go_at_call_of 47 (Value.string b); refine (sKn b _ _ (unhide HBB) (unhide KB)).mono ?_; rintro e w' ⟨rfl, rfl⟩) | (go_at_call 66; refine (sTr b _ _ (unhide HBB) (unhide HT)).mono ?_; rintro e w3 ⟨rfl, rfl⟩) | (go_at_call_of 71 (Value.string a); refine (unhide HNA2 _).mono ?_; rintro e wa ⟨rfl, hba⟩))
    refine (unhide HDV2 _).mono ?_
    rintro e w4 ⟨rfl, hb4⟩
    have hp0 : Below w.heap.size w _ := hba
    have hp4 := hp0.trans (hb4.mono hp0.size)
    clear hb4 HDV2
    go_wp2_with fail
    refine (unhide HNG _).mono ?_
    rintro e w7 ⟨rfl, hb7⟩
    go_wp2
    go_ret
    exact ⟨by rw [unhide HF]; rfl, hp4.trans (hb7.mono hp4.size)⟩
  · have e1 : absN true (L a) = Vb.num (L a) := by unfold absN; rw [if_neg (by rw [hda, c0a]; decide)]
    have e2 : absN true (L b) = 2 ^ n - Vb.num (L b) := by unfold absN; rw [if_pos ⟨rfl, by rw [hdb]; exact c0b⟩, L_len, eb]
    have HF : Hid (remL n true (L a) (L b) = Vb.nTxt n (absN true (L a) % absN true (L b))) := by show _ = _; unfold remL; rw [if_neg (by rw [hda, c0a]; decide)]
    have qa : (a[0].toNat : Int) = 48 := by rw [c0a]; rfl
    have qb : (b[0].toNat : Int) = 49 := by rw [c0b]; rfl
    have f1 : S (Vb.nTxt n (absN true (L a))) = a := by rw [e1]; exact (unhide SA).symm
    have hnb := unhide HNB
    rw [← e2] at hnb
    have HNB2 := hide hnb
    clear hnb
    have hdv := unhide HDV
    rw [f1] at hdv
    have HDV2 := hide hdv
    have HNG : Hid (∀ W, Calls Try.prog 71 #[.string (S (Vb.nTxt n (absN true (L a) % absN true (L b))))] W fun e w' => e = .returned (.string (S (Vb.nTxt n (2 ^ n - absN true (L a) % absN true (L b))))) ∧ Below W.heap.size W w') := fun W => sNegN n _ W a2 (unhide HQ).2
    clear hdv e1 e2 hda hdb hla hlb hpb c0a c0b HDV f1
    go_enter Try.func28, Try.ntmps28
    go_wp2_with (first | (go_at_call_of 35 (Value.string a); refine (sOK1 a _ (unhide HA) (unhide VA)).mono ?_; rintro e w' ⟨rfl, rfl⟩) | (go_at_call_of 35 (Value.string b); refine (sOK1 b _ (unhide HBB) (unhide VBB)).mono ?_; rintro e w' ⟨rfl, rfl⟩) | (go_at_call_of 47 (Value.string a); refine (sKn a _ _ (unhide HA) (unhide KA)).mono ?_; rintro e w' ⟨rfl, rfl⟩) | (go_at_call_of 47 (Value.string b); refine (sKn b _ _ (unhide HBB) (unhide KB)).mono ?_; rintro e w' ⟨rfl, rfl⟩) | (go_at_call 66; refine (sTr b _ _ (unhide HBB) (unhide HT)).mono ?_; rintro e w3 ⟨rfl, rfl⟩) | (go_at_call_of 71 (Value.string b); refine (unhide HNB2 _).mono ?_; rintro e wb ⟨rfl, hbb⟩))
    refine (unhide HDV2 _).mono ?_
    rintro e w4 ⟨rfl, hb4⟩
    have hp0 : Below w.heap.size w _ := hbb
    have hp4 := hp0.trans (hb4.mono hp0.size)
    clear hb4 HDV2
    go_wp2
    go_ret
    exact ⟨by rw [unhide HF]; rfl, hp4⟩
  · have e1 : absN true (L a) = Vb.num (L a) := by unfold absN; rw [if_neg (by rw [hda, c0a]; decide)]
    have e2 : absN true (L b) = Vb.num (L b) := by unfold absN; rw [if_neg (by rw [hdb, c0b]; decide)]
    have HF : Hid (remL n true (L a) (L b) = Vb.nTxt n (absN true (L a) % absN true (L b))) := by show _ = _; unfold remL; rw [if_neg (by rw [hda, c0a]; decide)]
    have qa : (a[0].toNat : Int) = 48 := by rw [c0a]; rfl
    have qb : (b[0].toNat : Int) = 48 := by rw [c0b]; rfl
    have f1 : S (Vb.nTxt n (absN true (L a))) = a := by rw [e1]; exact (unhide SA).symm
    have f2 : S (Vb.nTxt n (absN true (L b))) = b := by rw [e2]; exact (unhide SB).symm
    have hdv := unhide HDV
    rw [f1] at hdv
    rw [f2] at hdv
    have HDV2 := hide hdv
    have HNG : Hid (∀ W, Calls Try.prog 71 #[.string (S (Vb.nTxt n (absN true (L a) % absN true (L b))))] W fun e w' => e = .returned (.string (S (Vb.nTxt n (2 ^ n - absN true (L a) % absN true (L b))))) ∧ Below W.heap.size W w') := fun W => sNegN n _ W a2 (unhide HQ).2
    clear hdv e1 e2 hda hdb hla hlb hpb c0a c0b HDV f1 f2
    go_enter Try.func28, Try.ntmps28
    go_wp2_with (first | (go_at_call_of 35 (Value.string a); refine (sOK1 a _ (unhide HA) (unhide VA)).mono ?_; rintro e w' ⟨rfl, rfl⟩) | (go_at_call_of 35 (Value.string b); refine (sOK1 b _ (unhide HBB) (unhide VBB)).mono ?_; rintro e w' ⟨rfl, rfl⟩) | (go_at_call_of 47 (Value.string a); refine (sKn a _ _ (unhide HA) (unhide KA)).mono ?_; rintro e w' ⟨rfl, rfl⟩) | (go_at_call_of 47 (Value.string b); refine (sKn b _ _ (unhide HBB) (unhide KB)).mono ?_; rintro e w' ⟨rfl, rfl⟩) | (go_at_call 66; refine (sTr b _ _ (unhide HBB) (unhide HT)).mono ?_; rintro e w3 ⟨rfl, rfl⟩))
    refine (unhide HDV2 _).mono ?_
    rintro e w4 ⟨rfl, hb4⟩
    have hp0 : Below w.heap.size w _ := brf _
    have hp4 := hp0.trans (hb4.mono hp0.size)
    clear hb4 HDV2
    go_wp2
    go_ret
    exact ⟨by rw [unhide HF]; rfl, hp4⟩
end Go.Proofs.Ytmbllgblbdfobaa
