/- What a number's text tells: the bits of its digits, of a width. -/
import Derived.Test.YtdgiidlaafbgcabGreatDoorBits
import Derived.Test.YtdgiidlaafbgcabGreatDoorNB0
namespace Nb
/-- What a digit of base 2, 8 or 16 is worth. -/
def hexV (c : UInt8) : Nat := if digB c = true then c.toNat - 48 else c.toNat - 87
/-- The bits of one digit, none where it is too great. -/
def digT (size : Nat) (c : UInt8) : Option (List UInt8) :=
  if c = 120 ∨ c = 122 then some (List.replicate size c) else if 2 ^ size ≤ hexV c then none else some (Vb.nTxt size (hexV c))
def digsA (size : Nat) : List UInt8 → List UInt8 → Option (List UInt8)
  | acc, [] => some acc
  | acc, c :: t => match digT size c with
    | none => none
    | some x => digsA size (acc ++ x) t
def padC (v : List UInt8) : UInt8 := if v.headD 0 = 120 ∨ v.headD 0 = 122 then v.headD 0 else 48
/-- A text made n letters long. -/
def fitT (n : Nat) (pad : UInt8) (all : List UInt8) : Option (List UInt8) :=
  if n < all.length then (if (all.take (all.length - n)).all (fun c => c == 48) = true then some (all.drop (all.length - n)) else none)
  else some (List.replicate (n - all.length) pad ++ all)
def baseN (b : UInt8) : Nat := if b = 111 then 3 else if b = 104 then 4 else 1
/-- What a number of a width tells. -/
def based (n : Nat) (sg : Bool) (b : UInt8) (v : List UInt8) : List UInt8 × Bool × Nat :=
  if b = 100 then (if v.all digB = true then (if 2 ^ n ≤ valD v then ([], false, 11) else (Vb.nTxt n (valD v), sg, 0)) else ([], false, 3))
  else match digsA (baseN b) [] v with
    | none => ([], false, 3)
    | some all => match fitT n (padC v) all with
      | none => ([], false, 11)
      | some r => (r, sg, 0)
def plain (d : List UInt8) : List UInt8 × Bool × Nat := if 2147483647 < valD d then ([], false, 11) else (Vb.nTxt 32 (valD d), true, 0)
def widthed (d : List UInt8) (sg : Bool) (b : UInt8) (v : List UInt8) : List UInt8 × Bool × Nat := if valD d < 1 ∨ 64 < valD d then ([], false, 7) else based (valD d) sg b v
theorem digsA_app (size : Nat) : ∀ (v acc u : List UInt8), digsA size acc (v ++ u) = (match digsA size acc v with | none => none | some x => digsA size x u)
  | [], acc, u => rfl
  | c :: t, acc, u => by
    rw [List.cons_append, digsA, digsA]
    cases digT size c with
    | none => rfl
    | some x => exact digsA_app size t _ u
theorem digsA_snoc (size : Nat) (v acc : List UInt8) (c : UInt8) {x : List UInt8} (h : digsA size acc v = some x) : digsA size acc (v ++ [c]) = (match digT size c with | none => none | some y => some (x ++ y)) := by
  rw [digsA_app, h]
  show (match digT size c with | none => none | some y => digsA size (x ++ y) []) = _
  cases digT size c <;> rfl
theorem digsA_bad (size : Nat) (v acc u : List UInt8) (h : digsA size acc v = none) : digsA size acc (v ++ u) = none := by
  rw [digsA_app, h]
theorem digT_len {size : Nat} {c : UInt8} {x : List UInt8} (h : digT size c = some x) : x.length = size := by
  unfold digT at h
  by_cases h1 : c = 120 ∨ c = 122
  · rw [if_pos h1] at h; cases h; simp
  · rw [if_neg h1] at h
    by_cases h2 : 2 ^ size ≤ hexV c
    · rw [if_pos h2] at h; cases h
    · rw [if_neg h2] at h; cases h; exact Vb.nTxt_len _ _
theorem digsA_len (size : Nat) : ∀ (v acc : List UInt8) {x : List UInt8}, digsA size acc v = some x → x.length = acc.length + size * v.length
  | [], acc, x, h => by cases h; simp
  | c :: t, acc, x, h => by
    rw [digsA] at h
    cases hd : digT size c with
    | none => rw [hd] at h; cases h
    | some y =>
      rw [hd] at h
      have := digsA_len size t _ h
      rw [List.length_append, digT_len hd] at this
      rw [this, List.length_cons, Nat.mul_add]; omega
theorem digT_head {size : Nat} (hs : 1 ≤ size) {c : UInt8} {x : List UInt8} (h : digT size c = some x) : x.headD 0 = (if c = 120 ∨ c = 122 then c else x.headD 0) ∧ ((c = 120 ∨ c = 122) ∨ x.headD 0 = 48 ∨ x.headD 0 = 49) := by
  unfold digT at h
  by_cases h1 : c = 120 ∨ c = 122
  · rw [if_pos h1] at h; cases h
    rw [if_pos h1]
    refine ⟨?_, .inl h1⟩
    cases size with
    | zero => omega
    | succ k => rfl
  · rw [if_neg h1] at h
    rw [if_neg h1]
    refine ⟨rfl, .inr ?_⟩
    by_cases h2 : 2 ^ size ≤ hexV c
    · rw [if_pos h2] at h; cases h
    · rw [if_neg h2] at h; cases h
      have hk := Vb.nTxt_known size (hexV c)
      have hl := Vb.nTxt_len size (hexV c)
      cases hx : Vb.nTxt size (hexV c) with
      | nil => rw [hx] at hl; simp at hl; omega
      | cons e t =>
        rw [hx] at hk; simp [Vb.knB] at hk
        exact hk.1
/-- The letter that is put ahead, by the digits and by the bits. -/
theorem pad_is {size : Nat} (hs : 1 ≤ size) {v all : List UInt8} (hv : v ≠ []) (h : digsA size [] v = some all) : (if all.headD 0 = 49 then 48 else all.headD 0) = padC v := by
  cases v with
  | nil => exact absurd rfl hv
  | cons c t =>
    rw [digsA] at h
    cases hd : digT size c with
    | none => rw [hd] at h; cases h
    | some y =>
      rw [hd] at h
      have hy := digT_len hd
      have hh := digT_head hs hd
      have key : ∀ (t acc x : List UInt8), acc ≠ [] → digsA size acc t = some x → x.headD 0 = acc.headD 0 := by
        intro t
        induction t with
        | nil => intro acc x _ h; cases h; rfl
        | cons e t ih =>
          intro acc x ha h
          rw [digsA] at h
          cases he : digT size e with
          | none => rw [he] at h; cases h
          | some z =>
            rw [he] at h
            have := ih (acc ++ z) x (by simp [ha]) h
            rw [this]
            cases acc with
            | nil => exact absurd rfl ha
            | cons _ _ => rfl
      have hyn : y ≠ [] := by intro e; rw [e] at hy; simp at hy; omega
      have e := key t ([] ++ y) all (by simpa using hyn) h
      rw [List.nil_append] at e
      rw [e]
      unfold padC
      show _ = if c = 120 ∨ c = 122 then c else 48
      by_cases h1 : c = 120 ∨ c = 122
      · rw [if_pos h1]
        have h2 := hh.1
        rw [if_pos h1] at h2
        rw [h2, if_neg (by rcases h1 with rfl | rfl <;> decide)]
      · rw [if_neg h1]
        rcases hh.2 with h3 | h3 | h3
        · exact absurd h3 h1
        · rw [h3]; rfl
        · rw [h3]; rfl
/-- Ten times a number and a digit, modulo a power of two. -/
theorem ten_step (v d P : Nat) (hP : 0 < P) (hd : d ≤ 9) : (10 * (v % P) + d) % P = (10 * v + d) % P ∧ ((P ≤ v ∨ P ≤ 10 * (v % P) + d) ↔ P ≤ 10 * v + d) ∧ 10 * (v % P) + d < 16 * P := by
  have hlt := Nat.mod_lt v hP
  have e := Nat.div_add_mod v P
  refine ⟨?_, ?_, by omega⟩
  · conv => rhs; rw [← e]
    rw [Nat.mul_add, Nat.add_assoc, show 10 * (P * (v / P)) = P * (10 * (v / P)) by rw [← Nat.mul_assoc, Nat.mul_comm 10 P, Nat.mul_assoc], Nat.mul_add_mod]
  · constructor
    · rintro (h | h)
      · omega
      · have := Nat.mod_le v P; omega
    · intro h
      by_cases hv : P ≤ v
      · exact .inl hv
      · right; rw [Nat.mod_eq_of_lt (by omega)]; exact h
end Nb
