/- What the specification's l01Add, l01Neg and l01Sub answer: sums modulo two to the width. -/
import Derived.Test.YtdgiidlaafbgcabGreatDoorS8
import Derived.Deep.QuietTactic
import Derived.BigQuiet
namespace Go.Proofs.YtdgiidlaafbgcabGreatDoor
open Go.RowKit
/-- The letter of a bit. -/
def bl (b : Bool) : UInt8 := if b then 49 else 48
theorem bl_one (b : Bool) : Vb.oneB (bl b) = b := by cases b <;> rfl
theorem kn_bl {c : UInt8} (h : Vb.knB c = true) : c = bl (Vb.oneB c) := Vb.known_bit h
theorem add_sum (a b x : Bool) : xorB (xorB (bl a) (bl b)) (bl x) = bl (decide ((a.toNat + b.toNat + x.toNat) % 2 = 1)) := by cases a <;> cases b <;> cases x <;> rfl
theorem add_carry (a b x : Bool) : orB (andB (bl a) (bl b)) (andB (bl x) (orB (bl a) (bl b))) = bl (decide ((a.toNat + b.toNat + x.toNat) / 2 = 1)) := by cases a <;> cases b <;> cases x <;> rfl
theorem bit_le (a : Bool) : a.toNat ≤ 1 := by cases a <;> simp
theorem nTxt_step (j v d : Nat) (x : Bool) (hx : v / 2 ^ j = x.toNat) (a b : Bool) (hd : d = (a.toNat + b.toNat) * 2 ^ j + v) :
    Vb.nTxt (j + 1) d = bl (decide ((a.toNat + b.toNat + x.toNat) % 2 = 1)) :: Vb.nTxt j v ∧ d / 2 ^ (j + 1) = (decide ((a.toNat + b.toNat + x.toNat) / 2 = 1)).toNat := by
  have hp : 0 < 2 ^ j := Nat.two_pow_pos j
  have hq : d / 2 ^ j = a.toNat + b.toNat + x.toNat := by
    rw [hd, Nat.add_comm, Nat.add_mul_div_right _ _ hp, hx]; omega
  constructor
  · rw [Vb.nTxt, Nat.testBit_eq_decide_div_mod_eq, hq]
    have e : Vb.nTxt j d = Vb.nTxt j v := Vb.nTxt_congr (by rw [hd, Nat.add_comm, Nat.add_mul_mod_self_right])
    rw [e]; rfl
  · rw [Nat.pow_succ, ← Nat.div_div_eq_div_mul, hq]
    have := bit_le a; have := bit_le b; have := bit_le x
    have h : (a.toNat + b.toNat + x.toNat) / 2 = 0 ∨ (a.toNat + b.toNat + x.toNat) / 2 = 1 := by omega
    rcases h with h | h <;> simp [h]
set_option maxHeartbeats 400000 in
theorem sAdd (a b : ByteArray) (c : Bool) (w : World) (ha : a.size ≤ 70) (hl : a.size = b.size) (ka : (L a).all Vb.knB = true) (kb : (L b).all Vb.knB = true) :
    Calls Tryz.prog 21 #[.string a, .string b, .int .u8 ((bl c).toNat : Int)] w fun e w' => e = .returned (.string (S (Vb.nTxt a.size (Vb.num (L a) + Vb.num (L b) + c.toNat)))) ∧ Below w.heap.size w w' := by
  have HL := hide hl
  have hb : b.size ≤ 70 := by omega
  have KA := hide ka
  have KB := hide kb
  clear hl ka kb
  go_enter Tryz.func21, Tryz.ntmps21
  go_wp2
  go_loopw [2, 7, 8] (fun x o i wr => ∃ m : Nat, m ≤ a.size ∧ i = .int .i64 ((m : Int) - 1) ∧ (∃ X : Bool, x = .int .u8 ((bl X).toNat : Int) ∧ (Vb.num ((L a).drop m) + Vb.num ((L b).drop m) + c.toNat) / 2 ^ (a.size - m) = X.toNat) ∧ o = .string (S (Vb.nTxt (a.size - m) (Vb.num ((L a).drop m) + Vb.num ((L b).drop m) + c.toNat))) ∧ Below w.heap.size w wr) (fun _ _ i _ => (intOf i + 1).toNat)
  case atStart =>
    refine ⟨a.size, Nat.le_refl _, rfl, ⟨c, rfl, ?_⟩, ?_, brf _⟩
    · rw [List.drop_of_length_le (by rw [L_len]; exact Nat.le_refl _), List.drop_of_length_le (by rw [L_len, ← unhide HL]; exact Nat.le_refl _)]; simp [Vb.num]
    · rw [Nat.sub_self]; rfl
  case round =>
    obtain ⟨m, hm, rfl, ⟨X, rfl, hX⟩, rfl, hbel⟩ := hrel
    cases m with
    | zero =>
      have HX := hide hX
      clear hX
      rw [List.drop_zero, List.drop_zero, Nat.sub_zero]
      generalize hT : S (Vb.nTxt a.size (Vb.num (L a) + Vb.num (L b) + c.toNat)) = T
      have HT := hide hT
      clear hT
      go_wp2
      go_ret
      exact ⟨ret_str (unhide HT).symm, hbel⟩
    | succ m =>
      have hma : m < a.size := by omega
      have hmb : m < b.size := by have := unhide HL; omega
      have st := nTxt_step (a.size - (m + 1)) _ (Vb.num ((L a).drop m) + Vb.num ((L b).drop m) + c.toNat) X hX (Vb.oneB a[m]) (Vb.oneB b[m]) (by
        rw [L_drop a m hma, L_drop b m hmb, Vb.num_cons, Vb.num_cons, List.length_drop, List.length_drop, L_len, L_len, ← unhide HL, Nat.add_mul]; omega)
      rw [show a.size - (m + 1) + 1 = a.size - m by omega] at st
      have e1 := kn_bl (all_of (unhide KA) m hma)
      have e2 := kn_bl (all_of (unhide KB) m hmb)
      have hz : (S (Vb.nTxt (a.size - (m + 1)) (Vb.num ((L a).drop (m + 1)) + Vb.num ((L b).drop (m + 1)) + c.toNat))).size = a.size - (m + 1) := by rw [S_size, Vb.nTxt_len]
      have ST := hide st
      clear hX st
      generalize hA : Vb.oneB a[m] = A at *
      generalize hB : Vb.oneB b[m] = B at *
      clear hA hB
      generalize hT : S (Vb.nTxt (a.size - (m + 1)) (Vb.num ((L a).drop (m + 1)) + Vb.num ((L b).drop (m + 1)) + c.toNat)) = T at *
      have HT := hide hT
      clear hT
      rw [show (((m + 1 : Nat) : Int) - 1) = (m : Int) by omega]
      have hcv := one_string ((xorB (xorB (bl A) (bl B)) (bl X)).toNat : Int) (xorB (xorB (bl A) (bl B)) (bl X)) rfl
      have hz1 : (S [xorB (xorB (bl A) (bl B)) (bl X)]).size = 1 := by rw [S_size]; rfl
      go_wp2
      go_quiet ((go_at_call 30; exact Calls.quiet_of_same (sXor _ _ _)))
      have hbq := below_drewN hbel nq
      generalize wr.drewN nq = wq at *
      go_wp2_with fail
      go_quiet ((first | (go_at_call 32; exact Calls.quiet_of_same (sAnd _ _ _)) | (go_at_call 31; exact Calls.quiet_of_same (sOr _ _ _))))
      have hbr := below_drewN hbq nq
      generalize wq.drewN nq = wp at *
      go_wp2
      refine ⟨⟨m, by omega, rfl, ⟨_, by rw [add_carry], (unhide ST).2⟩, congrArg Value.string (by rw [(unhide ST).1, add_sum, ← unhide HT, S_app]), bal hbr _⟩, by simp [intOf]⟩
theorem num_fill0 (n : Nat) : Vb.num (List.replicate n 48) = 0 := by
  induction n with
  | zero => rfl
  | succ n ih => rw [List.replicate_succ, Vb.num_cons, ih]; simp [Vb.oneB]
theorem known_fill0 (n : Nat) : (List.replicate n (48 : UInt8)).all Vb.knB = true := by
  rw [List.all_eq_true]; intro c hc; rw [(List.mem_replicate.1 hc).2]; rfl
theorem known_not {l : List UInt8} (h : l.all Vb.knB = true) : (l.map notB).all Vb.knB = true := by
  rw [List.all_map, List.all_eq_true]
  intro c hc
  have := kn_bl (List.all_eq_true.1 h c hc)
  rw [this]; cases Vb.oneB c <;> rfl
theorem num_not {l : List UInt8} (h : l.all Vb.knB = true) : Vb.num (l.map notB) + Vb.num l + 1 = 2 ^ l.length := by
  induction l with
  | nil => rfl
  | cons c l ih =>
    rw [List.all_cons, Bool.and_eq_true] at h
    have hi := ih h.2
    rw [List.map_cons, Vb.num_cons, Vb.num_cons, List.length_map, List.length_cons, Nat.pow_succ]
    have hc := kn_bl h.1
    rw [hc]
    cases Vb.oneB c
    · have : Vb.oneB (notB (bl false)) = true := rfl
      rw [this, bl_one]; simp; omega
    · have : Vb.oneB (notB (bl true)) = false := rfl
      rw [this, bl_one]; simp; omega
theorem neg_num {l : List UInt8} (h : l.all Vb.knB = true) : Vb.nTxt l.length (0 + Vb.num (l.map notB) + 1) = Vb.nTxt l.length (2 ^ l.length - Vb.num l) := by
  have := num_not h
  rw [show 0 + Vb.num (l.map notB) + 1 = 2 ^ l.length - Vb.num l by omega]
theorem sub_num {a b : List UInt8} (h : b.all Vb.knB = true) (hl : a.length = b.length) : Vb.nTxt a.length (Vb.num a + Vb.num (b.map notB) + 1) = Vb.nTxt a.length (Vb.num a + (2 ^ a.length - Vb.num b)) := by
  have := num_not h
  rw [hl, show Vb.num a + Vb.num (b.map notB) + 1 = Vb.num a + (2 ^ b.length - Vb.num b) by omega]
end Go.Proofs.YtdgiidlaafbgcabGreatDoor
