/- What the specification's NumberBits answers of any text. -/
import Derived.Test.YtlcpmbdckmdabaaGreatDoorNS8
import Derived.Test.YtlcpmbdckmdabaaGreatDoorNBX
namespace Go.Proofs.YtlcpmbdckmdabaaGreatDoor
open Go.RowKit
set_option maxRecDepth 100000
theorem sNB (s : ByteArray) (w : World) (hs : s.size ≤ maxLen) :
    Calls Tryz.prog 34 #[.string s] w fun e w' => e = .returned (nbV (Nb.nbL (L s))) ∧ Below w.heap.size w w' := by
  have up : ∀ {x : Value}, (Calls Tryz.prog 34 #[.string s] w fun e w' => e = .returned x ∧ w' = w) → Calls Tryz.prog 34 #[.string s] w fun e w' => e = .returned x ∧ Below w.heap.size w w' := fun h => h.mono fun e w' ⟨a, b⟩ => ⟨a, by rw [b]; exact brf _⟩
  have hl : (L s).length = s.size := L_len s
  unfold Nb.nbL
  by_cases c0 : 1000 < (L s).length
  · rw [if_pos c0]; exact up (sNB_long s w hs (by omega))
  rw [if_neg c0]
  by_cases c1 : (Nb.numE (L s) 0).2 = true ∧ (Nb.numE (L s) 0).1 = (L s).length
  · rw [if_neg (fun h => h c1)]
    obtain ⟨h1, h2⟩ := c1
    have h2' : (Nb.numE (L s) 0).1 = s.size := by rw [h2, hl]
    cases c2 : (L s).all Nb.digB
    · rw [if_neg (by decide)]
      obtain ⟨p1, p2, p3, p4, p5⟩ := Nb.num_parts h1 h2 c2
      generalize Nb.runE Nb.digB (L s) 0 = D at *
      have h0 : D + 1 < s.size := by omega
      have h39 : s[D]'(Nat.lt_of_succ_lt h0) = 39 := by rw [gD]; exact p4
      unfold Nb.widthed
      by_cases cw : Nb.valD ((L s).take D) < 1 ∨ 64 < Nb.valD ((L s).take D)
      · rw [if_pos cw, if_pos cw]
        have e : ∀ (P : Prop) [Decidable P], (if P then (([], false, 7) : List UInt8 × Bool × Nat) else ([], false, 7)) = ([], false, 7) := fun P _ => by split <;> rfl
        rw [e]
        exact up (sNB_width s D _ w (by omega) h1 h2' h0 p3 h39 rfl cw)
      · rw [if_neg cw, if_neg cw]
        have w1 : 1 ≤ Nb.valD ((L s).take D) := by omega
        have w2 : Nb.valD ((L s).take D) ≤ 64 := by omega
        rcases p5 with ⟨a1, a2, a3, a4, a5⟩ | ⟨a1, a3, a4, a5⟩
        · rw [if_pos a1]
          have g1 : s[D + 1] = 115 := by rw [gD]; exact a1
          have a2' : D + 1 + 1 < s.size := by omega
          have g2 : (L s).getD (D + 2) 0 = s[D + 1 + 1]'a2' := (gD s _ a2').symm
          rcases Nb.base_cases a3 with e | e | e | e
          · rw [e]; exact sNB_b1 s D _ w (by omega) h1 h2' h0 p3 h39 rfl w1 w2 g1 a2' (g2.symm.trans e) _ rfl a5 a4 _ rfl
          · rw [e]; exact sNB_o1 s D _ w (by omega) h1 h2' h0 p3 h39 rfl w1 w2 g1 a2' (g2.symm.trans e) _ rfl a5 a4 _ rfl
          · rw [e]; exact sNB_h1 s D _ w (by omega) h1 h2' h0 p3 h39 rfl w1 w2 g1 a2' (g2.symm.trans e) _ rfl a5 a4 _ rfl
          · rw [e]; exact sNB_d1 s D _ w (by omega) h1 h2' h0 p3 h39 rfl w1 w2 g1 a2' (g2.symm.trans e) _ rfl a5 _ rfl
        · rw [if_neg a1]
          have g1 : (L s).getD (D + 1) 0 = s[D + 1] := (gD s _ h0).symm
          rcases Nb.base_cases a3 with e | e | e | e
          · rw [e]; exact sNB_b0 s D _ w (by omega) h1 h2' h0 p3 h39 rfl w1 w2 (g1.symm.trans e) _ rfl a5 a4 _ rfl
          · rw [e]; exact sNB_o0 s D _ w (by omega) h1 h2' h0 p3 h39 rfl w1 w2 (g1.symm.trans e) _ rfl a5 a4 _ rfl
          · rw [e]; exact sNB_h0 s D _ w (by omega) h1 h2' h0 p3 h39 rfl w1 w2 (g1.symm.trans e) _ rfl a5 a4 _ rfl
          · rw [e]; exact sNB_d0 s D _ w (by omega) h1 h2' h0 p3 h39 rfl w1 w2 (g1.symm.trans e) _ rfl a5 _ rfl
    · rw [if_pos rfl]
      have h0 : 1 ≤ s.size := by
        cases hz : s.size with
        | zero =>
          have : (L s) = [] := List.eq_nil_of_length_eq_zero (by omega)
          rw [this] at h1
          exact absurd h1 (by decide)
        | succ k => omega
      exact sNB_plain s w (by omega) h1 h2' c2 h0 _ rfl
  · rw [if_pos c1]; exact up (sNB_form s w (by omega) (by rw [← hl]; exact c1))
end Go.Proofs.YtlcpmbdckmdabaaGreatDoor
