/- What the program's NumberBits answers of any text; the law FnExactNumberBits's walk. -/
import Derived.Test.YtdgiidlaafbgcabGreatDoorNI8
namespace Go.Proofs.YtdgiidlaafbgcabGreatDoor
open Go.RowKit
set_option linter.unusedVariables false
theorem based_eq (n : Nat) (sg : Bool) (b : UInt8) (v : List UInt8) : Nb.based n sg b v = if (baseR n b v).2 = 0 then ((baseR n b v).1, sg, 0) else ([], false, (baseR n b v).2) := by
  unfold Nb.based baseR
  by_cases hb : b = 100
  · rw [if_pos hb, if_pos hb]
    unfold decR
    by_cases h1 : v.all Nb.digB = true
    · rw [if_pos h1, if_pos h1]
      by_cases h2 : 2 ^ n ≤ Nb.valD v
      · rw [if_pos h2, if_pos h2]; rfl
      · rw [if_neg h2, if_neg h2]; rfl
    · rw [if_neg h1, if_neg h1]; rfl
  · rw [if_neg hb, if_neg hb]
    unfold digR
    cases Nb.digsA (Nb.baseN b) [] v with
    | none => rfl
    | some all =>
      simp only
      cases Nb.fitT n (Nb.padC v) all with
      | none => rfl
      | some r => rfl
theorem iNB (s : ByteArray) (w : World) (hs : s.size ≤ maxLen) (hg : Gd w) :
    Calls Tryz.prog 5 #[.string s] w fun e w' => e = .returned (nbV (Nb.nbL (L s))) ∧ Below w.heap.size w w' := by
  have hl : (L s).length = s.size := L_len s
  unfold Nb.nbL
  by_cases c0 : 1000 < (L s).length
  · rw [if_pos c0]; exact iNB_long s w hs (by omega)
  rw [if_neg c0]
  by_cases c1 : (Nb.numE (L s) 0).2 = true ∧ (Nb.numE (L s) 0).1 = (L s).length
  · rw [if_neg (fun h => h c1)]
    obtain ⟨h1, h2⟩ := c1
    have hz : Nb.numZ (L s) = s.size := by unfold Nb.numZ; rw [h1, if_pos rfl, h2, hl]
    cases c2 : (L s).all Nb.digB
    · rw [if_neg (by decide)]
      obtain ⟨p1, p2, p3, p4, p5⟩ := Nb.num_parts h1 h2 c2
      generalize Nb.runE Nb.digB (L s) 0 = D at *
      have s1 := Nb.split_at p4 (by decide)
      have hd0 : (L s).take D ≠ [] := by
        intro e
        have := congrArg List.length e
        rw [List.length_take, List.length_nil] at this
        omega
      unfold Nb.widthed
      by_cases cw : Nb.valD ((L s).take D) < 1 ∨ 64 < Nb.valD ((L s).take D)
      · rw [if_pos cw, if_pos cw]
        have e : ∀ (P : Prop) [Decidable P], (if P then (([], false, 7) : List UInt8 × Bool × Nat) else ([], false, 7)) = ([], false, 7) := fun P _ => by split <;> rfl
        rw [e]
        exact iNB_width s w (by omega) hz _ _ s1 p3 hd0 cw hg
      · rw [if_neg cw, if_neg cw]
        rcases p5 with ⟨a1, a2, a3, a4, a5⟩ | ⟨a1, a3, a4, a5⟩
        · rw [if_pos a1, based_eq]
          have b0 : (L s).getD (D + 2) 0 ≠ 0 := by intro e; rw [e] at a3; exact absurd a3 (by decide)
          have s2 := Nb.split_at (l := (L s).drop (D + 1)) (i := 0) (c := 115) (by rw [Nb.getD_drop]; exact a1) (by decide)
          have s3 := Nb.split_at (l := (L s).drop (D + 2)) (i := 0) (c := (L s).getD (D + 2) 0) (by rw [Nb.getD_drop]) b0
          rw [List.take_zero, List.nil_append, List.drop_drop] at s2 s3
          refine iNB_ok s w (by omega) hz ((L s).take D) true _ _ ?_ p3 hd0 _ rfl (by omega) (by omega) a3 a5 a4 hg _ rfl
          rw [if_pos rfl]
          conv => lhs; rw [s1, s2, s3]
          rfl
        · rw [if_neg a1, based_eq]
          have b0 : (L s).getD (D + 1) 0 ≠ 0 := by intro e; rw [e] at a3; exact absurd a3 (by decide)
          have s2 := Nb.split_at (l := (L s).drop (D + 1)) (i := 0) (c := (L s).getD (D + 1) 0) (by rw [Nb.getD_drop]) b0
          rw [List.take_zero, List.nil_append, List.drop_drop] at s2
          refine iNB_ok s w (by omega) hz ((L s).take D) false _ _ ?_ p3 hd0 _ rfl (by omega) (by omega) a3 a5 a4 hg _ rfl
          rw [if_neg (by decide), List.nil_append]
          conv => lhs; rw [s1, s2]
    · rw [if_pos rfl]
      have h0 : 1 ≤ s.size := by
        cases hz : s.size with
        | zero =>
          have : (L s) = [] := List.eq_nil_of_length_eq_zero (by omega)
          rw [this] at h1
          exact absurd h1 (by decide)
        | succ k => omega
      exact iNB_plain s w (by omega) h0 hz c2 hg _ rfl
  · rw [if_pos c1]
    refine iNB_form s w (by omega) ?_
    by_cases h0 : s.size = 0
    · exact .inl h0
    · refine .inr fun e => c1 ?_
      unfold Nb.numZ at e
      by_cases h1 : (Nb.numE (L s) 0).2 = true
      · rw [if_pos h1] at e; exact ⟨h1, by omega⟩
      · rw [if_neg h1] at e; omega
set_option maxRecDepth 100000 in
set_option maxHeartbeats 400000 in
theorem lNB (s : ByteArray) (w : World) (hs : s.size ≤ maxLen) (hg : Gd w) :
    Calls Tryz.prog 3 #[.string s] w fun e w' => e = .returned (.bool true) ∧ Below w.heap.size w w' := by
  by_cases h : 1048576 < (s.size : Int)
  · unfold maxLen at hs
    go_enter Tryz.func3, Tryz.ntmps3
    go_wp2
    go_ret
    exact ⟨rfl, brf _⟩
  · have A := hide (fun v => sNB s v hs)
    have B := hide (fun v hg => iNB s v hs hg)
    have HG := hide hg
    generalize Nb.nbL (L s) = R at *
    unfold nbV at A B
    clear hg
    go_enter Tryz.func3, Tryz.ntmps3
    go_wp2_with fail
    refine (unhide A _).mono ?_
    rintro e v1 ⟨rfl, hb1⟩
    have HB1 := hide hb1
    clear hb1
    go_wp2_with fail
    refine (unhide B _ (Gd_later (unhide HG) (unhide HB1))).mono ?_
    rintro e v2 ⟨rfl, hb2⟩
    have HB2 := hide (below_step (unhide HB1) hb2)
    clear hb2
    go_wp2
    go_ret
    exact ⟨rfl, unhide HB2⟩
end Go.Proofs.YtdgiidlaafbgcabGreatDoor
