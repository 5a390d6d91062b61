/- What the specification's l01Below, l01Bit and l01Long answer. -/
/- Slices of strings: what szStringS, toStringS and eqStringS answer. -/
/- What the specification's Join answers. -/
import Derived.Test.YtmbllgblbdfobaaG3IT
import Derived.Deep.QuietTactic
import Derived.BigQuiet
import Derived.Test.YtmbllgblbdfobaaG1Rsz
import Derived.Deep.OwnRows
namespace Go.Proofs.Ytmbllgblbdfobaa
open Go.RowKit
theorem bl_nat (b : Bool) : (Vb.oneB (bl b)).toNat = b.toNat := by rw [bl_one]
/-- Two known texts that part at a letter: the one with the 0 there is below. -/
theorem below_at {p s t : List UInt8} {c d : UInt8} (hl : s.length = t.length) (hc : Vb.knB c = true) (hd : Vb.knB d = true) (hne : c ≠ d) : (Vb.num (p ++ c :: s) < Vb.num (p ++ d :: t)) ↔ c = 48 := by
  rw [Vb.num_append, Vb.num_append, Vb.num_cons, Vb.num_cons, List.length_cons, List.length_cons, hl]
  have h1 := Vb.num_lt s
  have h2 := Vb.num_lt t
  rw [hl] at h1
  generalize Vb.num p * 2 ^ (t.length + 1) = P at *
  generalize 2 ^ t.length = Q at *
  have kc := Vb.known_bit hc
  have kd := Vb.known_bit hd
  cases ec : Vb.oneB c <;> cases ed : Vb.oneB d <;> simp only [ec, ed, if_true, if_false, Bool.false_eq_true] at kc kd
  · exact absurd (kc.trans kd.symm) hne
  · subst kc; simp only [Bool.toNat_false, Bool.toNat_true]; exact ⟨fun _ => trivial, fun _ => by omega⟩
  · subst kc; simp only [Bool.toNat_false, Bool.toNat_true]
    constructor
    · intro h; omega
    · intro h; exact absurd h (by decide)
  · exact absurd (kc.trans kd.symm) hne
theorem below_at' (a b : ByteArray) (k : Nat) (ha : k < a.size) (hb : k < b.size) (hl : a.size = b.size) (ka : (L a).all Vb.knB = true) (kb : (L b).all Vb.knB = true) (he : (L a).take k = (L b).take k) (hne : a[k] ≠ b[k]) : (Vb.num (L a) < Vb.num (L b)) ↔ a[k] = 48 := by
  have e1 : L a = (L a).take k ++ a[k] :: (L a).drop (k + 1) := by rw [← L_drop a k ha, List.take_append_drop]
  have e2 : L b = (L a).take k ++ b[k] :: (L b).drop (k + 1) := by rw [he, ← L_drop b k hb, List.take_append_drop]
  rw [e2]
  conv => lhs; lhs; rw [e1]
  exact below_at (by rw [List.length_drop, List.length_drop, L_len, L_len, hl]) (List.all_eq_true.1 ka _ (L_mem a k ha)) (List.all_eq_true.1 kb _ (L_mem b k hb)) hne
set_option maxRecDepth 100000 in
set_option maxHeartbeats 800000 in
theorem sBelow (a b : ByteArray) (w : World) (ha : a.size ≤ 65) (hl : a.size = b.size) (ka : (L a).all Vb.knB = true) (kb : (L b).all Vb.knB = true) :
    Calls Try.prog 70 #[.string a, .string b] w fun e w' => e = .returned (.bool (decide (Vb.num (L a) < Vb.num (L b)))) ∧ Below w.heap.size w w' := by
  have KA := hide ka
  have KB := hide kb
  clear ka kb
  go_enter Try.func70, Try.ntmps70
  go_wp2
  go_loopw [5] (fun i W => ∃ k : Nat, k ≤ a.size ∧ i = .int .i64 k ∧ Hid ((L a).take k = (L b).take k) ∧ Below w.heap.size w W) (fun i _ => a.size - (intOf i).toNat)
  case atStart => exact ⟨0, Nat.zero_le _, rfl, rfl, brf _⟩
  case round =>
    obtain ⟨k, hk, rfl, he, hbel⟩ := hrel
    by_cases hlt : k < a.size
    · have hlb : k < b.size := by omega
      have j1 : (k : Int) < a.size := by omega
      have j2 : (k : Int) < b.size := by omega
      by_cases hab : a[k] = b[k]
      · have q1 : ((a[k].toNat : Int) != (b[k].toNat : Int)) = false := by rw [hab]; simp
        have HAB := hide hab
        clear hab
        go_wp2
        go_quiet (fail)
        go_wp2
        go_roundw
        case rel => exact ⟨k + 1, by omega, by go_num, by show _ = _; rw [L_take a k hlt, L_take b k hlb, unhide he, unhide HAB], below_drewN hbel _⟩
        case measure => simp [intOf]; omega
      · have q1 : ((a[k].toNat : Int) != (b[k].toNat : Int)) = true := by rw [bne_iff_ne]; intro h; exact hab (UInt8.toNat_inj.1 (by omega))
        have hd : decide (Vb.num (L a) < Vb.num (L b)) = decide (a[k] = 48) := by rw [decide_eq_decide]; exact below_at' a b k hlt hlb hl (unhide KA) (unhide KB) (unhide he) hab
        have HD := hide hd
        clear hab hd
        rcases is8 a[k] 48 (by omega) with ⟨e1, e2⟩ | ⟨e1, e2, _⟩
        · have HE := hide e1
          clear e1
          go_wp2
          go_quiet (fail)
          go_wp2
          go_ret
          refine ⟨?_, below_drewN hbel _⟩
          rw [unhide HD, unhide HE]; rfl
        · have HE := hide e1
          clear e1
          go_wp2
          go_quiet (fail)
          go_wp2
          go_ret
          refine ⟨?_, below_drewN hbel _⟩
          have : decide (a[k] = 48) = false := decide_eq_false (unhide HE)
          rw [unhide HD, this]
          exact congrArg (fun b => Ending.returned (Value.bool b)) e2
    · have hd : decide (Vb.num (L a) < Vb.num (L b)) = false := by
        have h1 := unhide he
        rw [L_take_all a k (by omega), L_take_all b k (by omega)] at h1
        rw [h1]; simp
      have HD := hide hd
      clear hd
      go_wp2
      go_ret
      exact ⟨by rw [unhide HD]; rfl, hbel⟩
theorem sBit (c : Bool) (w : World) : Calls Try.prog 64 #[.bool c] w fun e w' => e = .returned (.string (S [bl c])) ∧ w = w' := by
  cases c
  · go_enter Try.func64, Try.ntmps64
    go_wp2
    go_ret
    exact ⟨rfl, rfl⟩
  · go_enter Try.func64, Try.ntmps64
    go_wp2
    go_ret
    exact ⟨rfl, rfl⟩
theorem known_snoc {l : List UInt8} {c : UInt8} (h : l.all Vb.knB = true) (hc : Vb.knB c = true) : (l ++ [c]).all Vb.knB = true := by rw [List.all_append, h]; simp [hc]
theorem known_bl (b : Bool) : Vb.knB (bl b) = true := by cases b <;> rfl
theorem nTxt_snoc (k Q : Nat) (b : Bool) : Vb.nTxt k Q ++ [bl b] = Vb.nTxt (k + 1) (2 * Q + b.toNat) := by
  apply Vb.known_ext (known_snoc (Vb.nTxt_known _ _) (known_bl b)) (Vb.nTxt_known _ _)
  · simp [Vb.nTxt_len]
  · rw [Vb.num_snoc, Vb.num_nTxt, Vb.num_nTxt, bl_nat, Nat.pow_succ, Nat.mul_comm (2 ^ k) 2]
    have h1 := bit_le b
    have h2 := Nat.mod_lt Q (Nat.two_pow_pos k)
    have h3 := Nat.div_add_mod Q (2 ^ k)
    have e : 2 * Q + b.toNat = (2 * (Q % 2 ^ k) + b.toNat) + (2 * 2 ^ k) * (Q / 2 ^ k) := by
      rw [Nat.mul_assoc]; omega
    have e2 : (2 * Q + b.toNat) % (2 * 2 ^ k) = 2 * (Q % 2 ^ k) + b.toNat := by rw [e, Nat.add_mul_mod_self_left, Nat.mod_eq_of_lt (by omega)]
    exact e2.symm
theorem nTxt_drop (n R : Nat) : (Vb.nTxt (n + 1) R).drop 1 = Vb.nTxt n R := by
  apply Vb.rat_ext
  intro i
  have hrat : ∀ i, Vb.rat ((Vb.nTxt (n + 1) R).drop 1) i = if i < n then Vb.rat (Vb.nTxt (n + 1) R) i else none := by
    intro i
    unfold Vb.rat
    have hl := Vb.nTxt_len (n + 1) R
    by_cases hi : i < n
    · rw [if_pos hi, List.getElem?_reverse (by rw [List.length_drop]; omega), List.getElem?_reverse (by omega), List.length_drop, List.getElem?_drop, hl]
      congr 1; omega
    · rw [if_neg hi, List.getElem?_eq_none (by rw [List.length_reverse, List.length_drop]; omega)]
  rw [hrat, Vb.rat_nTxt, Vb.rat_nTxt]
  by_cases hi : i < n
  · rw [if_pos hi, if_pos (by omega), if_pos hi]
  · rw [if_neg hi]; simp [hi]
/-- The rest, moved up by one, with the next bit behind it. -/
theorem rest_up (n R : Nat) (c : UInt8) (hc : Vb.knB c = true) : (Vb.nTxt (n + 1) R).drop 1 ++ [c] = Vb.nTxt (n + 1) (2 * R + (Vb.oneB c).toNat) := by
  have hd := nTxt_drop n R
  rw [hd]
  have hcb := Vb.known_bit hc
  have : [c] = [bl (Vb.oneB c)] := by rw [show bl (Vb.oneB c) = c from hcb.symm]
  rw [this, nTxt_snoc]
theorem div_up (A Y t : Nat) (hY : 0 < Y) (ht : t ≤ 1) : (2 * (A % Y) + t < Y → (2 * A + t) / Y = 2 * (A / Y) ∧ (2 * A + t) % Y = 2 * (A % Y) + t) ∧ (¬ 2 * (A % Y) + t < Y → (2 * A + t) / Y = 2 * (A / Y) + 1 ∧ (2 * A + t) % Y = 2 * (A % Y) + t - Y) := by
  have h3 := Nat.div_add_mod A Y
  have h4 := Nat.mod_lt A hY
  generalize A / Y = Q at *
  generalize A % Y = R at *
  have e : 2 * A + t = (2 * R + t) + Y * (2 * Q) := by
    rw [← h3, Nat.mul_add]
    have : Y * (2 * Q) = 2 * (Y * Q) := by rw [Nat.mul_left_comm]
    omega
  constructor
  · intro h
    rw [e, Nat.add_mul_div_left _ _ hY, Nat.add_mul_mod_self_left, Nat.div_eq_of_lt h, Nat.mod_eq_of_lt h]
    exact ⟨by omega, rfl⟩
  · intro h
    have e2 : (2 * R + t) + Y * (2 * Q) = (2 * R + t - Y) + Y * (2 * Q + 1) := by rw [Nat.mul_add Y (2 * Q) 1]; omega
    have h5 : 2 * R + t - Y < Y := by omega
    rw [e, e2, Nat.add_mul_div_left _ _ hY, Nat.add_mul_mod_self_left, Nat.div_eq_of_lt h5, Nat.mod_eq_of_lt h5]
    exact ⟨by omega, rfl⟩
theorem sBelowN (n V Y : Nat) (l : List UInt8) (W : World) (hn : n ≤ 64) (hV : V < 2 ^ (n + 1)) (hl : l.length = n + 1) (hk : l.all Vb.knB = true) (hY : Vb.num l = Y) :
    Calls Try.prog 70 #[.string (S (Vb.nTxt (n + 1) V)), .string (S l)] W fun e w' => e = .returned (.bool (decide (V < Y))) ∧ Below W.heap.size W w' := by
  have := sBelow (S (Vb.nTxt (n + 1) V)) (S l) W (by rw [S_size, Vb.nTxt_len]; omega) (by rw [S_size, S_size, Vb.nTxt_len, hl]) (by rw [L_S]; exact Vb.nTxt_known _ _) (by rw [L_S]; exact hk)
  rw [L_S, L_S, Vb.num_nTxt, Nat.mod_eq_of_lt hV, hY] at this
  exact this
theorem sSubN (n V Y : Nat) (l : List UInt8) (W : World) (hn : n ≤ 64) (hV : V < 2 ^ (n + 1)) (hl : l.length = n + 1) (hk : l.all Vb.knB = true) (hY : Vb.num l = Y) (hle : Y ≤ V) :
    Calls Try.prog 69 #[.string (S (Vb.nTxt (n + 1) V)), .string (S l)] W fun e w' => e = .returned (.string (S (Vb.nTxt (n + 1) (V - Y)))) ∧ Below W.heap.size W w' := by
  have := sSub (S (Vb.nTxt (n + 1) V)) (S l) W (by rw [S_size, Vb.nTxt_len]; omega) (by rw [S_size, S_size, Vb.nTxt_len, hl]) (by rw [L_S]; exact Vb.nTxt_known _ _) (by rw [L_S]; exact hk)
  rw [S_size, Vb.nTxt_len, L_S, L_S, Vb.num_nTxt, Nat.mod_eq_of_lt hV, hY] at this
  have e : Vb.nTxt (n + 1) (V + (2 ^ (n + 1) - Y)) = Vb.nTxt (n + 1) (V - Y) := Vb.nTxt_congr (by rw [show V + (2 ^ (n + 1) - Y) = (V - Y) + 2 ^ (n + 1) by omega, Nat.add_mod_right])
  rw [e] at this
  exact this
set_option maxRecDepth 100000 in
set_option maxHeartbeats 1000000 in
theorem sLong (a b : ByteArray) (n : Nat) (w : World) (hn : n ≤ 64) (ea : a.size = n) (eb : b.size = n) (ka : (L a).all Vb.knB = true) (kb : (L b).all Vb.knB = true) (hY : 0 < Vb.num (L b)) :
    Calls Try.prog 72 #[.string a, .string b] w fun e w' => e = .returned (.tuple #[.string (S (Vb.nTxt n (Vb.num (L a) / Vb.num (L b)))), .string (S (Vb.nTxt n (Vb.num (L a) % Vb.num (L b))))]) ∧ Below w.heap.size w w' := by
  have KA := hide ka
  have KB := hide kb
  have hYlt : Vb.num (L b) < 2 ^ n := by have := Vb.num_lt (L b); rw [L_len, eb] at this; exact this
  have hd : (⟨#[48]⟩ : ByteArray) ++ b = S (48 :: L b) := by apply L_inj; rw [L_append, L_S]; rfl
  have HD := hide hd
  have hdn : Vb.num (48 :: L b) = Vb.num (L b) := by rw [Vb.num_cons]; simp [Vb.oneB]
  have hdk : (48 :: L b).all Vb.knB = true := by rw [List.all_cons, kb]; rfl
  have hdl : (48 :: L b).length = n + 1 := by rw [List.length_cons, L_len, eb]
  have HDF := hide (And.intro hdn (And.intro hdk hdl))
  have HYL := hide hYlt
  have HY := hide hY
  clear ka kb hY hYlt hd hdn hdk hdl
  generalize hYe : Vb.num (L b) = Y at *
  go_enter Try.func72, Try.ntmps72
  go_wp2_with fail
  rw [show ((n : Int) + 1) = ((n + 1 : Nat) : Int) by omega]
  refine (sFill 48 (n + 1) _ (by omega)).mono ?_
  rintro e w1 ⟨rfl, hb1⟩
  have hr0 : S (List.replicate (n + 1) 48) = S (Vb.nTxt (n + 1) 0) := by
    congr 1
    have := Vb.nTxt_num (known_fill0 (n + 1))
    rw [num_fill0, List.length_replicate] at this
    exact this.symm
  rw [hr0]
  have HB1 := hide hb1
  clear hr0 hb1 hYe
  have hD := unhide HD
  go_wp2
  go_loopw [6, 7, 9] (fun q r i W => ∃ k : Nat, k ≤ n ∧ i = .int .i64 k ∧ q = .string (S (Vb.nTxt k (Vb.num ((L a).take k) / Y))) ∧ r = .string (S (Vb.nTxt (n + 1) (Vb.num ((L a).take k) % Y))) ∧ Below w.heap.size w W) (fun _ _ i _ => n - (intOf i).toNat)
  case atStart => exact ⟨0, Nat.zero_le _, rfl, rfl, by simp [Vb.num_nil], unhide HB1⟩
  case round =>
    obtain ⟨k, hk, rfl, rfl, rfl, hbel⟩ := hrel
    by_cases hlt : k < n
    · have hka : k < a.size := by omega
      have hck : Vb.knB a[k] = true := List.all_eq_true.1 (unhide KA) _ (L_mem a k hka)
      have hA : Vb.num ((L a).take (k + 1)) = 2 * Vb.num ((L a).take k) + (Vb.oneB a[k]).toNat := by rw [L_take a k hka, Vb.num_snoc]
      have hdv := div_up (Vb.num ((L a).take k)) Y (Vb.oneB a[k]).toNat (unhide HY) (bit_le _)
      have hbit := bit_le (Vb.oneB a[k])
      have hRY := Nat.mod_lt (Vb.num ((L a).take k)) (unhide HY)
      have hup : (S (Vb.nTxt (n + 1) (Vb.num ((L a).take k) % Y))).extract 1 (n + 1) ++ a.extract k (k + 1) = S (Vb.nTxt (n + 1) (2 * (Vb.num ((L a).take k) % Y) + (Vb.oneB a[k]).toNat)) := by
        rw [← rest_up n _ a[k] hck]
        apply L_inj
        rw [L_append, L_extract, L_extract, L_S, L_S, L_drop a k hka]
        have : List.take (n + 1 - 1) (List.drop 1 (Vb.nTxt (n + 1) (Vb.num ((L a).take k) % Y))) = List.drop 1 (Vb.nTxt (n + 1) (Vb.num ((L a).take k) % Y)) := List.take_of_length_le (by rw [List.length_drop, Vb.nTxt_len]; omega)
        rw [this]
        simp
      rw [← hA] at hdv
      generalize hq : Vb.num ((L a).take k) / Y = Q at *
      generalize hr : Vb.num ((L a).take k) % Y = R at *
      generalize hA1 : Vb.num ((L a).take (k + 1)) = A1 at *
      generalize hbt : (Vb.oneB a[k]).toNat = t at *
      have hzr : (S (Vb.nTxt (n + 1) R)).size = n + 1 := by rw [S_size, Vb.nTxt_len]
      have hzq : (S (Vb.nTxt k Q)).size = k := by rw [S_size, Vb.nTxt_len]
      have HQ0 : Hid (S (Vb.nTxt k Q) ++ (⟨#[48]⟩ : ByteArray) = S (Vb.nTxt (k + 1) (2 * Q))) := by
        show _ = _
        have := nTxt_snoc k Q false
        rw [show 2 * Q + false.toNat = 2 * Q from rfl] at this
        rw [← this]; exact S_snoc _ _
      have HQ1 : Hid (S (Vb.nTxt k Q) ++ (⟨#[49]⟩ : ByteArray) = S (Vb.nTxt (k + 1) (2 * Q + 1))) := by
        show _ = _
        have := nTxt_snoc k Q true
        rw [← show 2 * Q + true.toNat = 2 * Q + 1 from rfl, ← this]; exact S_snoc _ _
      have HDV := hide hdv
      have HA1 := hide hA1
      clear hdv hA hq hr hbt hck
      have j1 : (k : Int) + 1 ≤ n := by omega
      have j2 : (1 : Int) ≤ (n : Int) + 1 := by omega
      have hV : 2 * R + t < 2 ^ (n + 1) := by have := unhide HYL; rw [Nat.pow_succ]; omega
      have HV := hide hV
      have hzv : (S (Vb.nTxt (n + 1) (2 * R + t))).size = n + 1 := by rw [S_size, Vb.nTxt_len]
      clear hV
      go_wp2
      go_quiet (fail)
      have hbq := below_drewN hbel nq
      generalize wr.drewN nq = wq at *
      go_wp2_with fail
      refine (sBelowN n (2 * R + t) Y (48 :: L b) _ hn (unhide HV) (unhide HDF).2.2 (unhide HDF).2.1 (unhide HDF).1).mono ?_
      rintro e w2 ⟨rfl, hb2⟩
      have hbz := hbq.trans (hb2.mono hbq.size)
      clear hb2 hbq hup hD
      by_cases hcmp : 2 * R + t < Y
      · have hcd : decide (2 * R + t < Y) = true := decide_eq_true hcmp
        rw [hcd]
        have hf := (unhide HDV).1 hcmp
        have HF := hide hf
        clear hcd hf hcmp
        generalize hTq : S (Vb.nTxt k Q) = Tq at *
        generalize hTr : S (Vb.nTxt (n + 1) (2 * R + t)) = Tr at *
        have HTR := hide hTr
        have HQ0' := HQ0
        clear hTq hTr HQ1
        go_wp2
        exact ⟨⟨k + 1, by omega, by go_num, congrArg Value.string (by rw [unhide HQ0, unhide HA1, (unhide HF).1]), congrArg Value.string (by rw [← unhide HTR, unhide HA1, (unhide HF).2]), hbz⟩, by simp [intOf]; omega⟩
      · have hcd : decide (2 * R + t < Y) = false := decide_eq_false hcmp
        rw [hcd]
        have hf := (unhide HDV).2 hcmp
        have HF := hide hf
        have HC := hide hcmp
        clear hcd hf hcmp
        go_wp2_with fail
        refine (sSubN n (2 * R + t) Y (48 :: L b) _ hn (unhide HV) (unhide HDF).2.2 (unhide HDF).2.1 (unhide HDF).1 (Nat.le_of_not_lt (unhide HC))).mono ?_
        rintro e w3 ⟨rfl, hb3⟩
        have hby := hbz.trans (hb3.mono hbz.size)
        clear hb3
        generalize hTq : S (Vb.nTxt k Q) = Tq at *
        generalize hTr : S (Vb.nTxt (n + 1) (2 * R + t - Y)) = Tr at *
        have HTR := hide hTr
        clear hTq hTr HQ0
        go_wp2
        exact ⟨⟨k + 1, by omega, by go_num, congrArg Value.string (by rw [unhide HQ1, unhide HA1, (unhide HF).1]), congrArg Value.string (by rw [← unhide HTR, unhide HA1, (unhide HF).2]), hby⟩, by simp [intOf]; omega⟩
    · have hkn : k = n := by omega
      subst hkn
      have hta : (L a).take k = L a := L_take_all a k (by omega)
      rw [hta]
      have hfin : (S (Vb.nTxt (k + 1) (Vb.num (L a) % Y))).extract 1 (k + 1) = S (Vb.nTxt k (Vb.num (L a) % Y)) := by
        apply L_inj
        rw [L_extract, L_S, L_S, List.take_of_length_le (by rw [List.length_drop, Vb.nTxt_len]; omega)]
        exact nTxt_drop k _
      have hzr : (S (Vb.nTxt (k + 1) (Vb.num (L a) % Y))).size = k + 1 := by rw [S_size, Vb.nTxt_len]
      have HFN := hide hfin
      clear hta
      go_wp2
      go_quiet (fail)
      go_wp2
      exact bodyPost_ret (v := .tuple #[.string (S (Vb.nTxt k (Vb.num (L a) / Y))), .string (S (Vb.nTxt k (Vb.num (L a) % Y)))]) (by simp [results, Try.results72, go_sem]) rfl ⟨rfl, below_drewN hbel _⟩
end Go.Proofs.Ytmbllgblbdfobaa
namespace Go.Proofs.Ytmbllgblbdfobaa
open Go.RowKit
/-- The slice of n strings at a holds the strings ss. -/
def SL (a : Option Addr) (n : Nat) (ss : List ByteArray) (W : World) : Prop :=
  ss.length = n ∧ (n = 0 ∨ ∃ b off, a = some ⟨b, off, none⟩ ∧ ∀ i, (h : i < ss.length) → W.cell? ⟨b, off + i, none⟩ = some (.string ss[i]))
theorem SL_later {a : Option Addr} {n : Nat} {ss : List ByteArray} {W w1 : World} (hb : Below W.heap.size W w1) (h : SL a n ss W) : SL a n ss w1 := by
  obtain ⟨h1, h2⟩ := h
  refine ⟨h1, ?_⟩
  rcases h2 with h | ⟨b, off, rfl, hc⟩
  · exact .inl h
  · exact .inr ⟨b, off, rfl, fun i hi => cell_later hb (hc i hi)⟩
theorem str_info9 : (Try.prog.info? 9).map (fun i => (i.zero, i.size, i.bytes)) = some (some (.string ByteArray.empty), 1, 16) := by kernel_rfl
/-- What szStringS leaves of the room, or less than nothing. -/
def szL : Int → List ByteArray → Int
  | l, [] => l
  | l, s :: t => if l - s.size < 0 then -1 else szL (l - s.size) t
theorem szL_ok (l : Int) (ss : List ByteArray) (h : 0 ≤ szL l ss) (s : ByteArray) (hs : s ∈ ss) : (s.size : Int) ≤ l := by
  induction ss generalizing l with
  | nil => cases hs
  | cons x t ih =>
    unfold szL at h
    by_cases hl : l - x.size < 0
    · rw [if_pos hl] at h; omega
    · rw [if_neg hl] at h
      rcases List.mem_cons.1 hs with rfl | hs
      · omega
      · have := ih _ h hs; omega
set_option maxHeartbeats 400000 in
theorem szS (a : Option Addr) (n cap : Nat) (ss : List ByteArray) (w : World) (hS : SL a n ss w) (hn : n ≤ maxLen) (hz : ∀ s ∈ ss, s.size ≤ maxLen) :
    Calls Try.prog 40 #[.slice a n cap, .int .i64 1048576] w fun e w' => (∃ r : Int, e = .returned (.int .i64 r) ∧ (0 ≤ r → n ≤ 1048576 ∧ ∀ s ∈ ss, s.size ≤ 1048576)) ∧ w = w' := by
  unfold maxLen at hn hz
  by_cases hbig : 1048576 - (n : Int) < 0
  · go_enter Try.func40, Try.ntmps40
    go_wp2
    go_ret
    exact ⟨⟨_, rfl, fun h => by omega⟩, rfl⟩
  · obtain ⟨hlen, hS⟩ := hS
    have HL := hide hlen
    clear hlen
    rcases hS with rfl | ⟨b, off, rfl, hc⟩
    · have hss : ∀ s ∈ ss, s.size ≤ 1048576 := by rw [List.eq_nil_of_length_eq_zero (unhide HL)]; simp
      have HSS := hide hss
      clear hss
      go_enter Try.func40, Try.ntmps40
      go_wp2
      go_loop [1, 5] (fun l i => i = .int .i64 0 ∧ ∃ r : Int, l = .int .i64 r) (fun _ _ => 0)
      case atStart => exact ⟨rfl, _, rfl⟩
      case round =>
        obtain ⟨rfl, r, rfl⟩ := hrel
        go_wp2
        go_ret
        exact ⟨⟨_, rfl, fun _ => by first | exact unhide HSS | exact ⟨by omega, unhide HSS⟩⟩, rfl⟩
    · have HC := hide hc
      clear hc
      have HZ := hide hz
      clear hz
      go_enter Try.func40, Try.ntmps40
      go_wp2
      go_loop [1, 5] (fun l i => ∃ k : Nat, k ≤ n ∧ i = .int .i64 k ∧ ∃ r : Int, l = .int .i64 r ∧ 0 ≤ r ∧ r ≤ 1048576 ∧ ∀ s ∈ ss.take k, s.size ≤ 1048576) (fun _ i => n - (intOf i).toNat)
      case atStart => exact ⟨0, Nat.zero_le _, rfl, _, rfl, by omega, by omega, by simp⟩
      case round =>
        obtain ⟨k, hk, rfl, r, rfl, r1, r2, hall⟩ := hrel
        have HA := hide hall
        clear hall
        by_cases hlt : k < n
        · have hks : k < ss.length := by rw [unhide HL]; exact hlt
          have hcell := unhide HC k hks
          have hsz := unhide HZ ss[k] (List.getElem_mem hks)
          have st : ∀ s ∈ ss.take (k + 1), s ∈ ss.take k ∨ s = ss[k] := by
            intro s hs
            rw [List.take_succ_eq_append_getElem hks, List.mem_append] at hs
            rcases hs with h | h
            · exact .inl h
            · exact .inr (by simpa using h)
          have ST := hide st
          clear st
          generalize hx : ss[k] = x at *
          have HX := hide hx
          clear hx
          by_cases hneg : r - x.size < 0
          · go_wp2
            go_ret
            exact ⟨⟨_, rfl, fun h => by omega⟩, rfl⟩
          · go_wp2
            go_round
            case rel =>
              refine ⟨k + 1, by omega, by go_num, _, rfl, by omega, by omega, ?_⟩
              intro s hs
              rcases unhide ST s hs with h | h
              · exact unhide HA s h
              · rw [h]; omega
            case measure => simp [intOf]; omega
        · go_wp2
          go_ret
          refine ⟨⟨_, rfl, fun _ => ⟨by omega, ?_⟩⟩, rfl⟩
          have := unhide HA
          rwa [List.take_of_length_le (by rw [unhide HL]; omega)] at this
/-- The row of strings that toStringS fills. -/
def srow (ss : List ByteArray) (n k : Nat) : Array Value := ((ss.take k).map Value.string ++ List.replicate (n - k) (Value.string ByteArray.empty)).toArray
theorem srow_step (ss : List ByteArray) (n k : Nat) (hk : k < ss.length) (hn : k < n) : (srow ss n k).setIfInBounds k (.string ss[k]) = srow ss n (k + 1) := by
  unfold srow
  rw [List.setIfInBounds_toArray]
  congr 1
  rw [show n - k = (n - (k + 1)) + 1 by omega, List.replicate_succ, List.take_succ_eq_append_getElem hk, List.map_append, List.set_append_right _ _ (by simp; omega)]
  have hz : k - (List.map Value.string (List.take k ss)).length = 0 := by simp; omega
  rw [hz]
  simp only [List.map_cons, List.map_nil, List.append_assoc, List.cons_append, List.nil_append, List.set_cons_zero]
theorem srow_size (ss : List ByteArray) (n k : Nat) (hk : k ≤ ss.length) (hn : k ≤ n) : (srow ss n k).size = n := by unfold srow; simp; omega
theorem srow_get (ss : List ByteArray) (n k j : Nat) (hj : j < k) (hk : j < ss.length) : (srow ss n k)[j]? = some (.string ss[j]) := by
  unfold srow
  rw [List.getElem?_toArray, List.getElem?_append_left (by simp; omega), List.getElem?_map, List.getElem?_take_of_lt hj, List.getElem?_eq_getElem hk]; rfl
theorem srow_alloc {X : World} {a b : Array Value} (h : a = b) : X.alloc (.cells a 9) = X.alloc (.cells b 9) := by rw [h]
theorem made_srow (ss : List ByteArray) (n : Nat) : madeCells #[.string ByteArray.empty] n = srow ss n 0 := by
  apply Array.toList_inj.1
  rw [toList_madeCells_one]; simp [srow]
set_option maxRecDepth 100000 in
set_option maxHeartbeats 400000 in
theorem toS (a : Option Addr) (n cap : Nat) (ss : List ByteArray) (w : World) (hS : SL a n ss w) (hn : n ≤ 1048576) :
    Calls Try.prog 42 #[.slice a n cap] w fun e w' => e = .returned (.slice (some ⟨w.heap.size, 0, none⟩) n n) ∧ w.alloc (.cells (srow ss n n) 9) = w' := by
  have hmk := fun W => run_make_row' (P := Try.prog) 33 9 (.string ByteArray.empty) 16 (by kernel_rfl) str_info9 rfl .i64 .i64 n (by omega) (by omega) W
  rw [made_srow ss n] at hmk
  obtain ⟨hlen, hS⟩ := hS
  have HL := hide hlen
  clear hlen
  rcases hS with rfl | ⟨b, off, rfl, hc⟩
  · have hmk0 : ∀ W, (Instr.makeSlice 33 (.int .i64 0) (.int .i64 0)).run Try.prog W = .ok (.slice (some ⟨W.heap.size, 0, none⟩) 0 0) (W.alloc (.cells (srow ss 0 0) 9)) := hmk
    clear hmk
    go_enter Try.func42, Try.ntmps42
    go_wp2
    go_loopw [4] (fun i W => i = .int .i64 0 ∧ W = w.alloc (.cells (srow ss 0 0) 9)) (fun _ _ => 0)
    case atStart => exact ⟨rfl, rfl⟩
    case round =>
      obtain ⟨rfl, rfl⟩ := hrel
      go_wp2
      go_ret
      exact ⟨rfl, rfl⟩
  · have HC := hide hc
    clear hc
    go_enter Try.func42, Try.ntmps42
    go_wp2
    go_loopw [4] (fun i W => ∃ k : Nat, k ≤ n ∧ i = .int .i64 k ∧ W = w.alloc (.cells (srow ss n k) 9)) (fun i _ => n - (intOf i).toNat)
    case atStart => exact ⟨0, Nat.zero_le _, rfl, rfl⟩
    case round =>
      obtain ⟨k, hk, rfl, rfl⟩ := hrel
      by_cases hlt : k < n
      · have hks : k < ss.length := by rw [unhide HL]; exact hlt
        have hcell : (w.alloc (.cells (srow ss n k) 9)).cell? ⟨b, off + k, none⟩ = some (.string ss[k]) := cell_later (bal (brf w) _) (unhide HC k hks)
        have st := srow_step ss n k hks hlt
        obtain ⟨x0, hx0⟩ : ∃ x, (srow ss n k)[k]? = some x := ⟨_, Array.getElem?_eq_getElem (by rw [srow_size ss n k (by omega) hk]; exact hlt)⟩
        have ST := hide st
        clear st
        generalize srow ss n k = R at *
        go_wp2
        exact ⟨⟨k + 1, by omega, by go_num, srow_alloc (unhide ST)⟩, by simp [intOf]; omega⟩
      · have : k = n := by omega
        subst this
        generalize hR : srow ss k k = R at *
        have HR := hide hR
        clear hR hmk
        go_wp2
        go_ret
        exact ⟨rfl, by rw [unhide HR]⟩
theorem SL_made (ss : List ByteArray) (n : Nat) (w : World) (h : ss.length = n) : SL (some ⟨w.heap.size, 0, none⟩) n ss (w.alloc (.cells (srow ss n n) 9)) :=
  ⟨h, .inr ⟨w.heap.size, 0, rfl, fun i hi => by rw [Nat.zero_add, World.cell?_alloc_new]; exact srow_get ss n n i (by omega) hi⟩⟩
set_option maxHeartbeats 400000 in
theorem eqS (a b : Option Addr) (n ca cb : Nat) (ss : List ByteArray) (w : World) (hA : SL a n ss w) (hB : SL b n ss w) (hn : n ≤ 1048576) :
    Calls Try.prog 43 #[.slice a n ca, .slice b n cb] w fun e w' => e = .returned (.bool true) ∧ Below w.heap.size w w' := by
  obtain ⟨hlen, hA⟩ := hA
  have HL := hide hlen
  clear hlen
  obtain ⟨_, hB⟩ := hB
  rcases hA with rfl | ⟨b1, o1, rfl, hc1⟩
  · go_enter Try.func43, Try.ntmps43
    go_wp2
    go_loop [5] (fun i => i = .int .i64 0) (fun _ => 0)
    case atStart => exact rfl
    case round =>
      subst hrel
      go_wp2
      go_ret
      exact ⟨rfl, brf _⟩
  · rcases hB with rfl | ⟨b2, o2, rfl, hc2⟩
    · go_enter Try.func43, Try.ntmps43
      go_wp2
      go_loop [5] (fun i => i = .int .i64 0) (fun _ => 0)
      case atStart => exact rfl
      case round =>
        subst hrel
        go_wp2
        go_ret
        exact ⟨rfl, brf _⟩
    · have HC1 := hide hc1
      have HC2 := hide hc2
      clear hc1 hc2
      go_enter Try.func43, Try.ntmps43
      go_wp2
      go_loopw [5] (fun i W => ∃ k : Nat, k ≤ n ∧ i = .int .i64 k ∧ Below w.heap.size w W) (fun i _ => n - (intOf i).toNat)
      case atStart => exact ⟨0, Nat.zero_le _, rfl, brf _⟩
      case round =>
        obtain ⟨k, hk, rfl, hbel⟩ := hrel
        by_cases hlt : k < n
        · have hks : k < ss.length := by rw [unhide HL]; exact hlt
          have hcell1 := cell_later hbel (unhide HC1 k hks)
          have hcell2 := cell_later hbel (unhide HC2 k hks)
          have i1 : (0 : Int) ≤ (k : Int) := by omega
          have i2 : (k : Int) < (n : Int) := by omega
          generalize ss[k] = x at *
          go_wp2
          go_quiet (fail)
          go_wp2
          exact ⟨⟨k + 1, by omega, by go_num, below_drewN hbel _⟩, by simp [intOf]; omega⟩
        · go_wp2
          go_ret
          exact ⟨rfl, hbel⟩
end Go.Proofs.Ytmbllgblbdfobaa
namespace Go.Proofs.Ytmbllgblbdfobaa
open Go.RowKit
/-- The texts one behind the other, or none. -/
def joinL : List UInt8 → List ByteArray → List UInt8
  | acc, [] => acc
  | acc, s :: t => if Vb.okV (L s) && decide (acc.length + s.size ≤ 64) then joinL (acc ++ L s) t else []
set_option maxRecDepth 100000 in
set_option maxHeartbeats 400000 in
theorem sJoin (a : Option Addr) (n cap : Nat) (ss : List ByteArray) (w : World) (hS : SL a n ss w) (hn : n ≤ 1048576) (hz : ∀ s ∈ ss, s.size ≤ 1048576) :
    Calls Try.prog 41 #[.slice a n cap] w fun e w' => e = .returned (.string (S (joinL [] ss))) ∧ w = w' := by
  obtain ⟨hlen, hS⟩ := hS
  have HL := hide hlen
  clear hlen
  rcases hS with rfl | ⟨b, off, rfl, hc⟩
  · have HE : Hid (ss = []) := List.eq_nil_of_length_eq_zero (unhide HL)
    go_enter Try.func41, Try.ntmps41
    go_wp2
    go_loop [3, 4] (fun o i => i = .int .i64 0 ∧ o = .string (S [])) (fun _ _ => 0)
    case atStart => exact ⟨rfl, rfl⟩
    case round =>
      obtain ⟨rfl, rfl⟩ := hrel
      go_wp2
      go_ret
      exact ⟨by rw [unhide HE]; rfl, rfl⟩
  · have HC := hide hc
    have HZ := hide hz
    clear hc hz
    go_enter Try.func41, Try.ntmps41
    go_wp2
    go_loop [3, 4] (fun o i => ∃ k : Nat, k ≤ n ∧ i = .int .i64 k ∧ ∃ acc : List UInt8, o = .string (S acc) ∧ acc.length ≤ 64 ∧ k ≤ acc.length ∧ joinL [] ss = joinL acc (ss.drop k)) (fun _ i => n - (intOf i).toNat)
    case atStart => exact ⟨0, Nat.zero_le _, rfl, [], rfl, by simp, by simp, rfl⟩
    case round =>
      obtain ⟨k, hk, rfl, acc, rfl, hacc, hka, hj⟩ := hrel
      have hsa : (S acc).size = acc.length := S_size acc
      by_cases hlt : k < n
      · have hks : k < ss.length := by rw [unhide HL]; exact hlt
        have hcell := unhide HC k hks
        have hsz := unhide HZ ss[k] (List.getElem_mem hks)
        rw [List.drop_eq_getElem_cons hks, joinL] at hj
        have h4096 : ¬ (4096 : Int) ≤ (k : Int) := by omega
        have h4096b : decide ((4096 : Int) ≤ (k : Int)) = false := by simp; omega
        generalize ss[k] = x at *
        cases hok : Vb.okV (L x)
        · rw [hok] at hj
          have HJ : Hid (joinL [] ss = []) := by show _ = _; rw [hj]; rfl
          have HO := hide hok
          clear hj hok
          go_wp2_with (first | (go_at_call 35; refine (sOK0 x _ (by unfold maxLen; omega) (unhide HO)).mono ?_; rintro e w' ⟨rfl, rfl⟩))
          go_ret
          exact ⟨by rw [unhide HJ]; rfl, rfl⟩
        · have hx1 := (okV_iff x).1 hok
          rw [hok, Bool.true_and] at hj
          by_cases hfit : acc.length + x.size ≤ 64
          · rw [if_pos (by simpa using hfit)] at hj
            have HJ := hide hj
            have HO := hide hok
            have hap : S acc ++ x = S (acc ++ L x) := by apply L_inj; rw [L_append, L_S, L_S]
            have HAP := hide hap
            have hx1' := hx1.1
            clear hj hok hx1 hap
            generalize hT : S acc = T at *
            have HT := hide hT
            clear hT
            go_wp2_with (first | (go_at_call 35; refine (sOK1 x _ (by unfold maxLen; omega) (unhide HO)).mono ?_; rintro e w' ⟨rfl, rfl⟩))
            go_round
            case rel => exact ⟨k + 1, by omega, by go_num, acc ++ L x, congrArg Value.string (unhide HAP), by rw [List.length_append, L_len]; exact hfit, by rw [List.length_append, L_len]; omega, unhide HJ⟩
            case measure => simp [intOf]; omega
          · rw [if_neg (by simpa using hfit)] at hj
            have HJ := hide hj
            have HO := hide hok
            clear hj hok hx1
            generalize hT : S acc = T at *
            clear hT
            go_wp2_with (first | (go_at_call 35; refine (sOK1 x _ (by unfold maxLen; omega) (unhide HO)).mono ?_; rintro e w' ⟨rfl, rfl⟩))
            go_ret
            exact ⟨by rw [unhide HJ]; rfl, rfl⟩
      · have HJ : Hid (joinL [] ss = acc) := by
          show _ = _
          rw [hj, List.drop_of_length_le (by rw [unhide HL]; omega)]; rfl
        clear hj
        generalize hT : S acc = T at *
        have HT := hide hT
        clear hT
        go_wp2
        go_ret
        exact ⟨ret_str (by rw [unhide HJ, unhide HT]), rfl⟩
end Go.Proofs.Ytmbllgblbdfobaa
