/- What the specification's l01Below, l01Bit and l01Long answer. -/
import Derived.Test.YtmbllgblbdfobaaS9
import Derived.Deep.QuietTactic
import Derived.BigQuiet
namespace Go.Proofs.Ytmbllgblbdfobaa
open Go.RowKit
theorem bl_nat (b : Bool) : (Vb.oneB (bl b)).toNat = b.toNat := by rw [bl_one]
/-- Two known texts that part at a letter: the one with the 0 there is below. -/
theorem below_at {p s t : List UInt8} {c d : UInt8} (hl : s.length = t.length) (hc : Vb.knB c = true) (hd : Vb.knB d = true) (hne : c ≠ d) : (Vb.num (p ++ c :: s) < Vb.num (p ++ d :: t)) ↔ c = 48 := by
  rw [Vb.num_append, Vb.num_append, Vb.num_cons, Vb.num_cons, List.length_cons, List.length_cons, hl]
  have h1 := Vb.num_lt s
  have h2 := Vb.num_lt t
  rw [hl] at h1
  generalize Vb.num p * 2 ^ (t.length + 1) = P at *
  generalize 2 ^ t.length = Q at *
  have kc := Vb.known_bit hc
  have kd := Vb.known_bit hd
  cases ec : Vb.oneB c <;> cases ed : Vb.oneB d <;> simp only [ec, ed, if_true, if_false, Bool.false_eq_true] at kc kd
  · exact absurd (kc.trans kd.symm) hne
  · subst kc; simp only [Bool.toNat_false, Bool.toNat_true]; exact ⟨fun _ => trivial, fun _ => by omega⟩
  · subst kc; simp only [Bool.toNat_false, Bool.toNat_true]
    constructor
    · intro h; omega
    · intro h; exact absurd h (by decide)
  · exact absurd (kc.trans kd.symm) hne
theorem below_at' (a b : ByteArray) (k : Nat) (ha : k < a.size) (hb : k < b.size) (hl : a.size = b.size) (ka : (L a).all Vb.knB = true) (kb : (L b).all Vb.knB = true) (he : (L a).take k = (L b).take k) (hne : a[k] ≠ b[k]) : (Vb.num (L a) < Vb.num (L b)) ↔ a[k] = 48 := by
  have e1 : L a = (L a).take k ++ a[k] :: (L a).drop (k + 1) := by rw [← L_drop a k ha, List.take_append_drop]
  have e2 : L b = (L a).take k ++ b[k] :: (L b).drop (k + 1) := by rw [he, ← L_drop b k hb, List.take_append_drop]
  rw [e2]
  conv => lhs; lhs; rw [e1]
  exact below_at (by rw [List.length_drop, List.length_drop, L_len, L_len, hl]) (List.all_eq_true.1 ka _ (L_mem a k ha)) (List.all_eq_true.1 kb _ (L_mem b k hb)) hne
set_option maxRecDepth 100000 in
set_option maxHeartbeats 800000 in
theorem sBelow (a b : ByteArray) (w : World) (ha : a.size ≤ 65) (hl : a.size = b.size) (ka : (L a).all Vb.knB = true) (kb : (L b).all Vb.knB = true) :
    Calls Try.prog 70 #[.string a, .string b] w fun e w' => e = .returned (.bool (decide (Vb.num (L a) < Vb.num (L b)))) ∧ Below w.heap.size w w' := by
  have KA := hide ka
  have KB := hide kb
  clear ka kb
  go_enter Try.func70, Try.ntmps70
  go_wp2
  go_loopw [5] (fun i W => ∃ k : Nat, k ≤ a.size ∧ i = .int .i64 k ∧ Hid ((L a).take k = (L b).take k) ∧ Below w.heap.size w W) (fun i _ => a.size - (intOf i).toNat)
  case atStart => exact ⟨0, Nat.zero_le _, rfl, rfl, brf _⟩
  case round =>
    obtain ⟨k, hk, rfl, he, hbel⟩ := hrel
    by_cases hlt : k < a.size
    · have hlb : k < b.size := by omega
      have j1 : (k : Int) < a.size := by omega
      have j2 : (k : Int) < b.size := by omega
      by_cases hab : a[k] = b[k]
      · have q1 : ((a[k].toNat : Int) != (b[k].toNat : Int)) = false := by rw [hab]; simp
        have HAB := hide hab
        clear hab
        go_wp2
        go_quiet (fail)
        go_wp2
        go_roundw
        case rel => exact ⟨k + 1, by omega, by go_num, by show _ = _; rw [L_take a k hlt, L_take b k hlb, unhide he, unhide HAB], below_drewN hbel _⟩
        case measure => simp [intOf]; omega
      · have q1 : ((a[k].toNat : Int) != (b[k].toNat : Int)) = true := by rw [bne_iff_ne]; intro h; exact hab (UInt8.toNat_inj.1 (by omega))
        have hd : decide (Vb.num (L a) < Vb.num (L b)) = decide (a[k] = 48) := by rw [decide_eq_decide]; exact below_at' a b k hlt hlb hl (unhide KA) (unhide KB) (unhide he) hab
        have HD := hide hd
        clear hab hd
        rcases is8 a[k] 48 (by omega) with ⟨e1, e2⟩ | ⟨e1, e2, _⟩
        · have HE := hide e1
          clear e1
          go_wp2
          go_quiet (fail)
          go_wp2
          go_ret
          refine ⟨?_, below_drewN hbel _⟩
          rw [unhide HD, unhide HE]; rfl
        · have HE := hide e1
          clear e1
          go_wp2
          go_quiet (fail)
          go_wp2
          go_ret
          refine ⟨?_, below_drewN hbel _⟩
          have : decide (a[k] = 48) = false := decide_eq_false (unhide HE)
          rw [unhide HD, this]
          exact congrArg (fun b => Ending.returned (Value.bool b)) e2
    · have hd : decide (Vb.num (L a) < Vb.num (L b)) = false := by
        have h1 := unhide he
        rw [L_take_all a k (by omega), L_take_all b k (by omega)] at h1
        rw [h1]; simp
      have HD := hide hd
      clear hd
      go_wp2
      go_ret
      exact ⟨by rw [unhide HD]; rfl, hbel⟩
theorem sBit (c : Bool) (w : World) : Calls Try.prog 64 #[.bool c] w fun e w' => e = .returned (.string (S [bl c])) ∧ w = w' := by
  cases c
  · go_enter Try.func64, Try.ntmps64
    go_wp2
    go_ret
    exact ⟨rfl, rfl⟩
  · go_enter Try.func64, Try.ntmps64
    go_wp2
    go_ret
    exact ⟨rfl, rfl⟩
theorem known_snoc {l : List UInt8} {c : UInt8} (h : l.all Vb.knB = true) (hc : Vb.knB c = true) : (l ++ [c]).all Vb.knB = true := by rw [List.all_append, h]; simp [hc]
theorem known_bl (b : Bool) : Vb.knB (bl b) = true := by cases b <;> rfl
theorem nTxt_snoc (k Q : Nat) (b : Bool) : Vb.nTxt k Q ++ [bl b] = Vb.nTxt (k + 1) (2 * Q + b.toNat) := by
  apply Vb.known_ext (known_snoc (Vb.nTxt_known _ _) (known_bl b)) (Vb.nTxt_known _ _)
  · simp [Vb.nTxt_len]
  · rw [Vb.num_snoc, Vb.num_nTxt, Vb.num_nTxt, bl_nat, Nat.pow_succ, Nat.mul_comm (2 ^ k) 2]
    have h1 := bit_le b
    have h2 := Nat.mod_lt Q (Nat.two_pow_pos k)
    have h3 := Nat.div_add_mod Q (2 ^ k)
    have e : 2 * Q + b.toNat = (2 * (Q % 2 ^ k) + b.toNat) + (2 * 2 ^ k) * (Q / 2 ^ k) := by
      rw [Nat.mul_assoc]; omega
    have e2 : (2 * Q + b.toNat) % (2 * 2 ^ k) = 2 * (Q % 2 ^ k) + b.toNat := by rw [e, Nat.add_mul_mod_self_left, Nat.mod_eq_of_lt (by omega)]
    exact e2.symm
theorem nTxt_drop (n R : Nat) : (Vb.nTxt (n + 1) R).drop 1 = Vb.nTxt n R := by
  apply Vb.rat_ext
  intro i
  have hrat : ∀ i, Vb.rat ((Vb.nTxt (n + 1) R).drop 1) i = if i < n then Vb.rat (Vb.nTxt (n + 1) R) i else none := by
    intro i
    unfold Vb.rat
    have hl := Vb.nTxt_len (n + 1) R
    by_cases hi : i < n
    · rw [if_pos hi, List.getElem?_reverse (by rw [List.length_drop]; omega), List.getElem?_reverse (by omega), List.length_drop, List.getElem?_drop, hl]
      congr 1; omega
    · rw [if_neg hi, List.getElem?_eq_none (by rw [List.length_reverse, List.length_drop]; omega)]
  rw [hrat, Vb.rat_nTxt, Vb.rat_nTxt]
  by_cases hi : i < n
  · rw [if_pos hi, if_pos (by omega), if_pos hi]
  · rw [if_neg hi]; simp [hi]
/-- The rest, moved up by one, with the next bit behind it. -/
theorem rest_up (n R : Nat) (c : UInt8) (hc : Vb.knB c = true) : (Vb.nTxt (n + 1) R).drop 1 ++ [c] = Vb.nTxt (n + 1) (2 * R + (Vb.oneB c).toNat) := by
  have hd := nTxt_drop n R
  rw [hd]
  have hcb := Vb.known_bit hc
  have : [c] = [bl (Vb.oneB c)] := by rw [show bl (Vb.oneB c) = c from hcb.symm]
  rw [this, nTxt_snoc]
theorem div_up (A Y t : Nat) (hY : 0 < Y) (ht : t ≤ 1) : (2 * (A % Y) + t < Y → (2 * A + t) / Y = 2 * (A / Y) ∧ (2 * A + t) % Y = 2 * (A % Y) + t) ∧ (¬ 2 * (A % Y) + t < Y → (2 * A + t) / Y = 2 * (A / Y) + 1 ∧ (2 * A + t) % Y = 2 * (A % Y) + t - Y) := by
  have h3 := Nat.div_add_mod A Y
  have h4 := Nat.mod_lt A hY
  generalize A / Y = Q at *
  generalize A % Y = R at *
  have e : 2 * A + t = (2 * R + t) + Y * (2 * Q) := by
    rw [← h3, Nat.mul_add]
    have : Y * (2 * Q) = 2 * (Y * Q) := by rw [Nat.mul_left_comm]
    omega
  constructor
  · intro h
    rw [e, Nat.add_mul_div_left _ _ hY, Nat.add_mul_mod_self_left, Nat.div_eq_of_lt h, Nat.mod_eq_of_lt h]
    exact ⟨by omega, rfl⟩
  · intro h
    have e2 : (2 * R + t) + Y * (2 * Q) = (2 * R + t - Y) + Y * (2 * Q + 1) := by rw [Nat.mul_add Y (2 * Q) 1]; omega
    have h5 : 2 * R + t - Y < Y := by omega
    rw [e, e2, Nat.add_mul_div_left _ _ hY, Nat.add_mul_mod_self_left, Nat.div_eq_of_lt h5, Nat.mod_eq_of_lt h5]
    exact ⟨by omega, rfl⟩
theorem sBelowN (n V Y : Nat) (l : List UInt8) (W : World) (hn : n ≤ 64) (hV : V < 2 ^ (n + 1)) (hl : l.length = n + 1) (hk : l.all Vb.knB = true) (hY : Vb.num l = Y) :
    Calls Try.prog 70 #[.string (S (Vb.nTxt (n + 1) V)), .string (S l)] W fun e w' => e = .returned (.bool (decide (V < Y))) ∧ Below W.heap.size W w' := by
  have := sBelow (S (Vb.nTxt (n + 1) V)) (S l) W (by rw [S_size, Vb.nTxt_len]; omega) (by rw [S_size, S_size, Vb.nTxt_len, hl]) (by rw [L_S]; exact Vb.nTxt_known _ _) (by rw [L_S]; exact hk)
  rw [L_S, L_S, Vb.num_nTxt, Nat.mod_eq_of_lt hV, hY] at this
  exact this
theorem sSubN (n V Y : Nat) (l : List UInt8) (W : World) (hn : n ≤ 64) (hV : V < 2 ^ (n + 1)) (hl : l.length = n + 1) (hk : l.all Vb.knB = true) (hY : Vb.num l = Y) (hle : Y ≤ V) :
    Calls Try.prog 69 #[.string (S (Vb.nTxt (n + 1) V)), .string (S l)] W fun e w' => e = .returned (.string (S (Vb.nTxt (n + 1) (V - Y)))) ∧ Below W.heap.size W w' := by
  have := sSub (S (Vb.nTxt (n + 1) V)) (S l) W (by rw [S_size, Vb.nTxt_len]; omega) (by rw [S_size, S_size, Vb.nTxt_len, hl]) (by rw [L_S]; exact Vb.nTxt_known _ _) (by rw [L_S]; exact hk)
  rw [S_size, Vb.nTxt_len, L_S, L_S, Vb.num_nTxt, Nat.mod_eq_of_lt hV, hY] at this
  have e : Vb.nTxt (n + 1) (V + (2 ^ (n + 1) - Y)) = Vb.nTxt (n + 1) (V - Y) := Vb.nTxt_congr (by rw [show V + (2 ^ (n + 1) - Y) = (V - Y) + 2 ^ (n + 1) by omega, Nat.add_mod_right])
  rw [e] at this
  exact this
set_option maxRecDepth 100000 in
set_option maxHeartbeats 1000000 in
theorem sLong (a b : ByteArray) (n : Nat) (w : World) (hn : n ≤ 64) (ea : a.size = n) (eb : b.size = n) (ka : (L a).all Vb.knB = true) (kb : (L b).all Vb.knB = true) (hY : 0 < Vb.num (L b)) :
    Calls Try.prog 72 #[.string a, .string b] w fun e w' => e = .returned (.tuple #[.string (S (Vb.nTxt n (Vb.num (L a) / Vb.num (L b)))), .string (S (Vb.nTxt n (Vb.num (L a) % Vb.num (L b))))]) ∧ Below w.heap.size w w' := by
  have KA := hide ka
  have KB := hide kb
  have hYlt : Vb.num (L b) < 2 ^ n := by have := Vb.num_lt (L b); rw [L_len, eb] at this; exact this
  have hd : (⟨#[48]⟩ : ByteArray) ++ b = S (48 :: L b) := by apply L_inj; rw [L_append, L_S]; rfl
  have HD := hide hd
  have hdn : Vb.num (48 :: L b) = Vb.num (L b) := by rw [Vb.num_cons]; simp [Vb.oneB]
  have hdk : (48 :: L b).all Vb.knB = true := by rw [List.all_cons, kb]; rfl
  have hdl : (48 :: L b).length = n + 1 := by rw [List.length_cons, L_len, eb]
  have HDF := hide (And.intro hdn (And.intro hdk hdl))
  have HYL := hide hYlt
  have HY := hide hY
  clear ka kb hY hYlt hd hdn hdk hdl
  generalize hYe : Vb.num (L b) = Y at *
  go_enter Try.func72, Try.ntmps72
  go_wp2_with fail
  rw [show ((n : Int) + 1) = ((n + 1 : Nat) : Int) by omega]
  refine (sFill 48 (n + 1) _ (by omega)).mono ?_
  rintro e w1 ⟨rfl, hb1⟩
  have hr0 : S (List.replicate (n + 1) 48) = S (Vb.nTxt (n + 1) 0) := by
    congr 1
    have := Vb.nTxt_num (known_fill0 (n + 1))
    rw [num_fill0, List.length_replicate] at this
    exact this.symm
  rw [hr0]
  have HB1 := hide hb1
  clear hr0 hb1 hYe
  have hD := unhide HD
  go_wp2
  go_loopw [6, 7, 9] (fun q r i W => ∃ k : Nat, k ≤ n ∧ i = .int .i64 k ∧ q = .string (S (Vb.nTxt k (Vb.num ((L a).take k) / Y))) ∧ r = .string (S (Vb.nTxt (n + 1) (Vb.num ((L a).take k) % Y))) ∧ Below w.heap.size w W) (fun _ _ i _ => n - (intOf i).toNat)
  case atStart => exact ⟨0, Nat.zero_le _, rfl, rfl, by simp [Vb.num_nil], unhide HB1⟩
  case round =>
    obtain ⟨k, hk, rfl, rfl, rfl, hbel⟩ := hrel
    by_cases hlt : k < n
    · have hka : k < a.size := by omega
      have hck : Vb.knB a[k] = true := List.all_eq_true.1 (unhide KA) _ (L_mem a k hka)
      have hA : Vb.num ((L a).take (k + 1)) = 2 * Vb.num ((L a).take k) + (Vb.oneB a[k]).toNat := by rw [L_take a k hka, Vb.num_snoc]
      have hdv := div_up (Vb.num ((L a).take k)) Y (Vb.oneB a[k]).toNat (unhide HY) (bit_le _)
      have hbit := bit_le (Vb.oneB a[k])
      have hRY := Nat.mod_lt (Vb.num ((L a).take k)) (unhide HY)
      have hup : (S (Vb.nTxt (n + 1) (Vb.num ((L a).take k) % Y))).extract 1 (n + 1) ++ a.extract k (k + 1) = S (Vb.nTxt (n + 1) (2 * (Vb.num ((L a).take k) % Y) + (Vb.oneB a[k]).toNat)) := by
        rw [← rest_up n _ a[k] hck]
        apply L_inj
        rw [L_append, L_extract, L_extract, L_S, L_S, L_drop a k hka]
        have : List.take (n + 1 - 1) (List.drop 1 (Vb.nTxt (n + 1) (Vb.num ((L a).take k) % Y))) = List.drop 1 (Vb.nTxt (n + 1) (Vb.num ((L a).take k) % Y)) := List.take_of_length_le (by rw [List.length_drop, Vb.nTxt_len]; omega)
        rw [this]
        simp
      rw [← hA] at hdv
      generalize hq : Vb.num ((L a).take k) / Y = Q at *
      generalize hr : Vb.num ((L a).take k) % Y = R at *
      generalize hA1 : Vb.num ((L a).take (k + 1)) = A1 at *
      generalize hbt : (Vb.oneB a[k]).toNat = t at *
      have hzr : (S (Vb.nTxt (n + 1) R)).size = n + 1 := by rw [S_size, Vb.nTxt_len]
      have hzq : (S (Vb.nTxt k Q)).size = k := by rw [S_size, Vb.nTxt_len]
      have HQ0 : Hid (S (Vb.nTxt k Q) ++ (⟨#[48]⟩ : ByteArray) = S (Vb.nTxt (k + 1) (2 * Q))) := by
        show _ = _
        have := nTxt_snoc k Q false
        rw [show 2 * Q + false.toNat = 2 * Q from rfl] at this
        rw [← this]; exact S_snoc _ _
      have HQ1 : Hid (S (Vb.nTxt k Q) ++ (⟨#[49]⟩ : ByteArray) = S (Vb.nTxt (k + 1) (2 * Q + 1))) := by
        show _ = _
        have := nTxt_snoc k Q true
        rw [← show 2 * Q + true.toNat = 2 * Q + 1 from rfl, ← this]; exact S_snoc _ _
      have HDV := hide hdv
      have HA1 := hide hA1
      clear hdv hA hq hr hbt hck
      have j1 : (k : Int) + 1 ≤ n := by omega
      have j2 : (1 : Int) ≤ (n : Int) + 1 := by omega
      have hV : 2 * R + t < 2 ^ (n + 1) := by have := unhide HYL; rw [Nat.pow_succ]; omega
      have HV := hide hV
      have hzv : (S (Vb.nTxt (n + 1) (2 * R + t))).size = n + 1 := by rw [S_size, Vb.nTxt_len]
      clear hV
      go_wp2
      go_quiet (fail)
      have hbq := below_drewN hbel nq
      generalize wr.drewN nq = wq at *
      go_wp2_with fail
      refine (sBelowN n (2 * R + t) Y (48 :: L b) _ hn (unhide HV) (unhide HDF).2.2 (unhide HDF).2.1 (unhide HDF).1).mono ?_
      rintro e w2 ⟨rfl, hb2⟩
      have hbz := hbq.trans (hb2.mono hbq.size)
      clear hb2 hbq hup hD
      by_cases hcmp : 2 * R + t < Y
      · have hcd : decide (2 * R + t < Y) = true := decide_eq_true hcmp
        rw [hcd]
        have hf := (unhide HDV).1 hcmp
        have HF := hide hf
        clear hcd hf hcmp
        generalize hTq : S (Vb.nTxt k Q) = Tq at *
        generalize hTr : S (Vb.nTxt (n + 1) (2 * R + t)) = Tr at *
        have HTR := hide hTr
        have HQ0' := HQ0
        clear hTq hTr HQ1
        go_wp2
        exact ⟨⟨k + 1, by omega, by go_num, congrArg Value.string (by rw [unhide HQ0, unhide HA1, (unhide HF).1]), congrArg Value.string (by rw [← unhide HTR, unhide HA1, (unhide HF).2]), hbz⟩, by simp [intOf]; omega⟩
      · have hcd : decide (2 * R + t < Y) = false := decide_eq_false hcmp
        rw [hcd]
        have hf := (unhide HDV).2 hcmp
        have HF := hide hf
        have HC := hide hcmp
        clear hcd hf hcmp
        go_wp2_with fail
        refine (sSubN n (2 * R + t) Y (48 :: L b) _ hn (unhide HV) (unhide HDF).2.2 (unhide HDF).2.1 (unhide HDF).1 (Nat.le_of_not_lt (unhide HC))).mono ?_
        rintro e w3 ⟨rfl, hb3⟩
        have hby := hbz.trans (hb3.mono hbz.size)
        clear hb3
        generalize hTq : S (Vb.nTxt k Q) = Tq at *
        generalize hTr : S (Vb.nTxt (n + 1) (2 * R + t - Y)) = Tr at *
        have HTR := hide hTr
        clear hTq hTr HQ0
        go_wp2
        exact ⟨⟨k + 1, by omega, by go_num, congrArg Value.string (by rw [unhide HQ1, unhide HA1, (unhide HF).1]), congrArg Value.string (by rw [← unhide HTR, unhide HA1, (unhide HF).2]), hby⟩, by simp [intOf]; omega⟩
    · have hkn : k = n := by omega
      subst hkn
      have hta : (L a).take k = L a := L_take_all a k (by omega)
      rw [hta]
      have hfin : (S (Vb.nTxt (k + 1) (Vb.num (L a) % Y))).extract 1 (k + 1) = S (Vb.nTxt k (Vb.num (L a) % Y)) := by
        apply L_inj
        rw [L_extract, L_S, L_S, List.take_of_length_le (by rw [List.length_drop, Vb.nTxt_len]; omega)]
        exact nTxt_drop k _
      have hzr : (S (Vb.nTxt (k + 1) (Vb.num (L a) % Y))).size = k + 1 := by rw [S_size, Vb.nTxt_len]
      have HFN := hide hfin
      clear hta
      go_wp2
      go_quiet (fail)
      go_wp2
      exact bodyPost_ret (v := .tuple #[.string (S (Vb.nTxt k (Vb.num (L a) / Y))), .string (S (Vb.nTxt k (Vb.num (L a) % Y)))]) (by simp [results, Try.results72, go_sem]) rfl ⟨rfl, below_drewN hbel _⟩
end Go.Proofs.Ytmbllgblbdfobaa
