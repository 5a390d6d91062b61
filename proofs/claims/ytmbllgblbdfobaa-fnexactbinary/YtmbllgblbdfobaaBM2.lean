/- Signed numbers of known texts; comparisons, both, either and the same as texts. -/
import Derived.Test.YtmbllgblbdfobaaBM
import Derived.Test.YtmbllgblbdfobaaL3
namespace Go.Proofs.Ytmbllgblbdfobaa
open Go.RowKit
/-- The signed number of a known text. -/
def sI (l : List UInt8) : Int := (Vb.num l : Int) - (if Vb.oneB (l.headD 0) = true then ((2 ^ l.length : Nat) : Int) else 0)
theorem num_one (t : List UInt8) : Vb.num (49 :: t) = 2 ^ t.length + Vb.num t := by rw [Vb.num_cons, show (Vb.oneB 49).toNat = 1 from rfl, Nat.one_mul]
theorem num_zero (t : List UInt8) : Vb.num (48 :: t) = Vb.num t := by rw [Vb.num_cons, show (Vb.oneB 48).toNat = 0 from rfl, Nat.zero_mul, Nat.zero_add]
theorem pow_two (t : List UInt8) (c : UInt8) : 2 ^ (c :: t).length = 2 * 2 ^ t.length := by rw [List.length_cons, Nat.pow_succ, Nat.mul_comm]
theorem sI_one (t : List UInt8) : sI (49 :: t) = (Vb.num t : Int) - ((2 ^ t.length : Nat) : Int) := by
  unfold sI
  rw [if_pos (show Vb.oneB ((49 :: t).headD 0) = true from rfl), num_one, pow_two]; omega
theorem sI_zero (t : List UInt8) : sI (48 :: t) = (Vb.num t : Int) := by
  unfold sI
  rw [if_neg (show ¬ Vb.oneB ((48 :: t).headD 0) = true from (by decide : ¬ Vb.oneB 48 = true)), num_zero]; omega
theorem known_top {c : UInt8} (hc : Vb.knB c = true) : c = 49 ∨ c = 48 := by
  have := Vb.known_bit hc
  cases h : Vb.oneB c
  · rw [h] at this; exact .inr (by simpa using this)
  · rw [h] at this; exact .inl (by simpa using this)
theorem sgn_sI {l : List UInt8} (hk : l.all Vb.knB = true) (h1 : 1 ≤ l.length) (h2 : l.length ≤ 64) : sgn l.length (Vb.wh l) = sI l := by
  rw [sgn_num hk h1 h2]
  cases l with
  | nil => simp at h1
  | cons c t =>
    have hp : 2 ^ t.length ≤ 2 ^ 63 := Nat.pow_le_pow_right (by decide) (by simp at h2; omega)
    have ht := Vb.num_lt t
    rcases known_top (List.all_eq_true.1 hk c (by simp)) with rfl | rfl
    · have e : intL true (49 :: t) = wrap64 ((Vb.num (49 :: t) : Int) - 2 ^ (49 :: t).length) := by unfold intL; rw [if_pos (show (true && Vb.oneB ((49 :: t).headD 0)) = true from rfl)]
      have e2i : (2 : Int) ^ (49 :: t).length = ((2 ^ (49 :: t).length : Nat) : Int) := by rw [Int.natCast_pow]; rfl
      rw [e, sI_one, e2i, pow_two, num_one]
      generalize 2 ^ t.length = p at *
      unfold wrap64; omega
    · have e : intL true (48 :: t) = wrap64 (Vb.num (48 :: t) : Int) := intL_no (by rfl)
      rw [e, sI_zero, num_zero]
      generalize 2 ^ t.length = p at *
      unfold wrap64; omega
theorem lt_known {a b : List UInt8} (ka : a.all Vb.knB = true) (kb : b.all Vb.knB = true) (hl : a.length = b.length) (h1 : 1 ≤ a.length) (h2 : a.length ≤ 64) (sg : Bool) : ltV a.length a.length (Vb.wh a) (Vb.wh b) sg = ltL sg a b := by
  cases sg
  · rw [ltV_no]
    unfold ltL
    rw [if_neg (by simp)]
    rw [decide_eq_decide]
    unfold U
    rw [Vb.wh_toNat ka h2, Vb.wh_toNat kb (by omega)]
    omega
  · rw [ltV_sg, sgn_sI ka h1 h2]
    have hb := sgn_sI kb (by omega) (by omega)
    rw [← hl] at hb
    rw [hb]
    unfold ltL
    cases a with
    | nil => simp at h1
    | cons c t =>
      cases b with
      | nil => simp at hl
      | cons d u =>
        have hlu : t.length = u.length := by simpa using hl
        have ht := Vb.num_lt t
        have hu := Vb.num_lt u
        rcases known_top (List.all_eq_true.1 ka c (by simp)) with rfl | rfl <;> rcases known_top (List.all_eq_true.1 kb d (by simp)) with rfl | rfl
        · rw [if_neg (by simp), sI_one, sI_one, num_one, num_one, decide_eq_decide, hlu]; omega
        · rw [if_pos ⟨rfl, show (49 : UInt8) ≠ 48 by decide⟩, sI_one, sI_zero, decide_eq_decide]
          exact ⟨fun _ => rfl, fun _ => by omega⟩
        · rw [if_pos ⟨rfl, show (48 : UInt8) ≠ 49 by decide⟩, sI_one, sI_zero, decide_eq_decide]
          exact ⟨fun h => by omega, fun h => absurd h (show ¬ (48 : UInt8) = 49 by decide)⟩
        · rw [if_neg (by simp), sI_zero, sI_zero, num_zero, num_zero, decide_eq_decide]; omega
theorem same_words {a b : List UInt8} (va : a.all Vb.isV = true) (vb : b.all Vb.isV = true) (ha : a.length ≤ 64) (hb : b.length ≤ 64) : (a.length = b.length ∧ Vb.kn a = Vb.kn b ∧ Vb.wh a = Vb.wh b) ↔ a = b := by
  constructor
  · rintro ⟨h1, h2, h3⟩
    rw [← Vb.txt_of va ha, ← Vb.txt_of vb hb, h1, h2, h3]
  · rintro rfl; exact ⟨rfl, rfl, rfl⟩
theorem both_txt (x y : UInt8) (hx : Vb.isV x = true) (hy : Vb.isV y = true) :
    Vb.txt 1 (Vb.kn [x] &&& ~~~Vb.wh [x] ||| Vb.kn [y] &&& ~~~Vb.wh [y] ||| (Vb.kn [x] &&& Vb.wh [x] &&& (Vb.kn [y] &&& Vb.wh [y]))) (Vb.kn [x] &&& Vb.wh [x] &&& (Vb.kn [y] &&& Vb.wh [y])) = [andB x y] :=
  and_txt (a := [x]) (b := [y]) (by simp [hx]) (by simp [hy]) rfl (by simp)
theorem either_txt (x y : UInt8) (hx : Vb.isV x = true) (hy : Vb.isV y = true) :
    Vb.txt 1 (Vb.kn [x] &&& ~~~Vb.wh [x] &&& (Vb.kn [y] &&& ~~~Vb.wh [y]) ||| (Vb.kn [x] &&& Vb.wh [x] ||| Vb.kn [y] &&& Vb.wh [y])) (Vb.kn [x] &&& Vb.wh [x] ||| Vb.kn [y] &&& Vb.wh [y]) = [orB x y] :=
  or_txt (a := [x]) (b := [y]) (by simp [hx]) (by simp [hy]) rfl (by simp)
end Go.Proofs.Ytmbllgblbdfobaa
