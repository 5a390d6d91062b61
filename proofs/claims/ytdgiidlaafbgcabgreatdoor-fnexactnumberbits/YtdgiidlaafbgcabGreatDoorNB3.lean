/- A number's text taken apart at its places, and what NumberBits tells of any text. -/
import Derived.Test.YtdgiidlaafbgcabGreatDoorNB2
namespace Nb
/-- What NumberBits tells of a text. -/
def nbL (l : List UInt8) : List UInt8 × Bool × Nat :=
  if 1000 < l.length then ([], false, 2)
  else if ¬ ((numE l 0).2 = true ∧ (numE l 0).1 = l.length) then ([], false, 3)
  else if l.all digB = true then plain l
  else if l.getD (runE digB l 0 + 1) 0 = 115 then widthed (l.take (runE digB l 0)) true (l.getD (runE digB l 0 + 2) 0) (l.drop (runE digB l 0 + 3))
  else widthed (l.take (runE digB l 0)) false (l.getD (runE digB l 0 + 1) 0) (l.drop (runE digB l 0 + 2))
theorem num_parts {l : List UInt8} (h1 : (numE l 0).2 = true) (h2 : (numE l 0).1 = l.length) (hn : l.all digB = false) :
    1 ≤ runE digB l 0 ∧ runE digB l 0 + 1 < l.length ∧ (l.take (runE digB l 0)).all digB = true ∧ l.getD (runE digB l 0) 0 = 39 ∧
    ((l.getD (runE digB l 0 + 1) 0 = 115 ∧ runE digB l 0 + 2 < l.length ∧ baseB (l.getD (runE digB l 0 + 2) 0) = true ∧ l.drop (runE digB l 0 + 3) ≠ [] ∧ (l.drop (runE digB l 0 + 3)).all valB = true) ∨
     (l.getD (runE digB l 0 + 1) 0 ≠ 115 ∧ baseB (l.getD (runE digB l 0 + 1) 0) = true ∧ l.drop (runE digB l 0 + 2) ≠ [] ∧ (l.drop (runE digB l 0 + 2)).all valB = true)) := by
  have hD : ∀ j, j < runE digB l 0 → digB (l.getD j 0) = true := fun j hj => runE_all (Nat.zero_le _) hj
  have hle := runE_le (p := digB) (l := l) (Nat.zero_le _)
  have hV : ∀ i j, i ≤ j → j < runE valB l i → valB (l.getD j 0) = true := fun i j a b => runE_all a b
  unfold numE at h1 h2
  generalize runE digB l 0 = D at *
  by_cases c1 : D = 0 ∨ D = l.length ∨ l.getD D 0 ≠ 39
  · rw [if_pos c1] at h1 h2
    have h2 : D = l.length := h2
    rw [all_of_getD fun j hj => hD j (by omega)] at hn
    exact absurd hn (by decide)
  · rw [if_neg c1] at h1 h2
    have n1 : D ≠ 0 := fun e => c1 (.inl e)
    have n2 : l.getD D 0 = 39 := by
      by_cases e : l.getD D 0 = 39
      · exact e
      · exact absurd (.inr (.inr e)) c1
    have hd : (l.take D).all digB = true := all_of_getD fun j hj => by
      rw [List.length_take] at hj
      have := hD j (by omega)
      rwa [List.getD_eq_getElem?_getD, List.getElem?_take_of_lt (by omega), ← List.getD_eq_getElem?_getD]
    have tail : ∀ k, runE valB l k = l.length → k < l.length → l.drop k ≠ [] ∧ (l.drop k).all valB = true := fun k e hk => by
      refine ⟨by intro e2; have := congrArg List.length e2; rw [List.length_drop] at this; simp at this; omega, all_of_getD fun j hj => ?_⟩
      rw [List.length_drop] at hj
      rw [getD_drop]; exact hV k (k + j) (by omega) (by omega)
    by_cases c2 : l.getD (D + 1) 0 = 115
    · rw [if_pos c2] at h1 h2
      by_cases c3 : D + 2 = l.length ∨ baseB (l.getD (D + 2) 0) = false
      · rw [if_pos c3] at h1; simp at h1
      · rw [if_neg c3] at h1 h2
        have h2 : runE valB l (D + 3) = l.length := h2
        have h1 : D + 3 < runE valB l (D + 3) := by simpa using h1
        have hb : baseB (l.getD (D + 2) 0) = true := by
          cases e : baseB (l.getD (D + 2) 0)
          · exact absurd (.inr e) c3
          · rfl
        have t := tail (D + 3) h2 (by omega)
        exact ⟨by omega, by omega, hd, n2, .inl ⟨c2, by omega, hb, t.1, t.2⟩⟩
    · rw [if_neg c2] at h1 h2
      by_cases c3 : D + 1 = l.length ∨ baseB (l.getD (D + 1) 0) = false
      · rw [if_pos c3] at h1; simp at h1
      · rw [if_neg c3] at h1 h2
        have h2 : runE valB l (D + 2) = l.length := h2
        have h1 : D + 2 < runE valB l (D + 2) := by simpa using h1
        have hb : baseB (l.getD (D + 1) 0) = true := by
          cases e : baseB (l.getD (D + 1) 0)
          · exact absurd (.inr e) c3
          · rfl
        have t := tail (D + 2) h2 (by omega)
        exact ⟨by omega, by omega, hd, n2, .inr ⟨c2, hb, t.1, t.2⟩⟩
theorem base_cases {b : UInt8} (h : baseB b = true) : b = 98 ∨ b = 111 ∨ b = 104 ∨ b = 100 := by
  unfold baseB at h; simp at h; rcases h with ((h | h) | h) | h <;> simp [h]
end Nb
