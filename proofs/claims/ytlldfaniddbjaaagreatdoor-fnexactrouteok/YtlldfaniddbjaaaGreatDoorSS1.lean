/- The specification's l10Sort: a list that rises, of the same texts. -/
import Derived.Test.YtlldfaniddbjaaaGreatDoorGSS0
import Derived.BigQuiet
namespace Go.Proofs.YtlldfaniddbjaaaGreatDoor
open Go Go.RowKit Gs
set_option linter.unusedVariables false
set_option linter.unusedSimpArgs false
set_option maxRecDepth 100000
def lenOf : Value → Nat
  | .slice _ n _ => n
  | _ => 0
theorem bdn' {w w' : World} {n : Nat} (h : Below w.heap.size w w') : Below w.heap.size w (w'.drewN n) := below_drewN h n
theorem OS.drewN {B : Nat} {v : Value} {xs : List ByteArray} {W : World} (h : OS B W v xs) (n : Nat) : OS B (W.drewN n) v xs := h.later (bdn' (brf W))
theorem merge_l (x : ByteArray) (A : List ByteArray) : (x :: A).merge [] leS = x :: A.merge [] leS := by simp
theorem merge_r (y : ByteArray) (B : List ByteArray) : ([] : List ByteArray).merge (y :: B) leS = y :: ([] : List ByteArray).merge B leS := by simp
theorem merge_t (x y : ByteArray) (A B : List ByteArray) (h : leS x y = true) : (x :: A).merge (y :: B) leS = x :: A.merge (y :: B) leS := by rw [List.cons_merge_cons, if_pos h]
theorem merge_f (x y : ByteArray) (A B : List ByteArray) (h : leS x y = false) : (x :: A).merge (y :: B) leS = y :: (x :: A).merge B leS := by rw [List.cons_merge_cons, if_neg (by rw [h]; simp)]
/-- The cell of a slice's first text. -/
theorem first_cell {W : World} {B : Nat} {x : ByteArray} {A : List ByteArray} {v : Value} (h : RS 1 RStr W B (x :: A) v) : ∃ b o c, v = .slice (some ⟨b, o, none⟩) (A.length + 1) c ∧ W.cell? ⟨b, o, none⟩ = some (.string x) ∧ x.size ≤ maxLen := by
  rcases h.open with ⟨h, _⟩ | ⟨b, o, c, hv, hc, hn, hB, he⟩
  · cases h
  · obtain ⟨u, hu, hat, hx, hs⟩ := he 0 x rfl
    subst hx
    refine ⟨b, o, c, by simpa using hv, ?_, hs⟩
    simpa using hat.get (j := 0) rfl
set_option maxHeartbeats 16000000 in
theorem sSort : ∀ (n : Nat) (xs : List ByteArray) (v : Value) (w : World), xs.length ≤ n → xs.length ≤ 2097152 → RS 1 RStr w 0 xs v →
    Calls Tryz.prog 100 #[v] w fun e w' => (∃ v' ys, e = .returned v' ∧ RS 1 RStr w' 0 ys v' ∧ ys.Perm xs ∧ Up ys) ∧ Below w.heap.size w w' := by
  intro n
  induction n with
  | zero =>
    intro xs v w hn hl hr
    have : xs = [] := List.length_eq_zero_iff.1 (by omega)
    subst this
    have HR := hide hr
    obtain ⟨a, c, rfl⟩ := hr.slice
    clear hr hn
    go_enter Tryz.func100, Tryz.ntmps100
    go_wp2
    exact bodyPost_ret (v := .slice a 0 c) (by simp [results, Tryz.results100, go_sem]) rfl ⟨⟨_, [], rfl, unhide HR, List.Perm.refl _, List.Pairwise.nil⟩, brf _⟩
  | succ n ih =>
    intro xs v w hn hl hr
    by_cases hshort : xs.length < 2
    · have HR := hide hr
      obtain ⟨a, c, rfl⟩ := hr.slice
      have HU : Hid (Up xs) := hide (by
        match xs, hshort with
        | [], _ => exact List.Pairwise.nil
        | [x], _ => exact List.pairwise_singleton _ _
        | _ :: _ :: _, h => simp at h; omega)
      have q : (xs.length : Int) < 2 := by omega
      clear hr hn ih hshort
      go_enter Tryz.func100, Tryz.ntmps100
      go_wp2
      exact bodyPost_ret (v := .slice a xs.length c) (by simp [results, Tryz.results100, go_sem]) rfl ⟨⟨_, xs, rfl, unhide HR, List.Perm.refl _, unhide HU⟩, brf _⟩
    · obtain ⟨k, hk⟩ : ∃ k, k = xs.length / 2 := ⟨_, rfl⟩
      have hk1 : k ≤ xs.length := by omega
      have q : ¬ ((xs.length : Int) < 2) := by omega
      have q2 : (xs.length : Int).tdiv 2 = (k : Int) := by rw [Int.tdiv_eq_ediv_of_nonneg (by omega)]; omega
      have HK := hide hk
      have IH1 := hide (fun (V : World) (v : Value) (hv : RS 1 RStr V 0 (xs.take k) v) => ih (xs.take k) v V (by rw [List.length_take]; omega) (by rw [List.length_take]; omega) hv)
      have IH2 := hide (fun (V : World) (v : Value) (hv : RS 1 RStr V 0 (xs.drop k) v) => ih (xs.drop k) v V (by rw [List.length_drop]; omega) (by rw [List.length_drop]; omega) hv)
      have HPM := hide (show (xs.take k ++ xs.drop k).Perm xs by rw [List.take_append_drop])
      have hl1 : (xs.take k).length ≤ 4194304 := by rw [List.length_take]; omega
      have hl2 : (xs.drop k).length ≤ 4194304 := by rw [List.length_drop]; omega
      have HL1 := hide hl1
      have HL2 := hide hl2
      rcases hr.open with ⟨h0, _⟩ | ⟨b, o, c, rfl, hc, hnm, _, hcs⟩
      · rw [h0] at q; simp at q
      have HH := hide (show ∀ V, Below w.heap.size w V → RS 1 RStr V 0 (xs.take k) (.slice (some ⟨b, o, none⟩) k c) from fun V hb => rs_take (hr.later RStr.keeps hb) k hk1)
      have HT := hide (show ∀ V, Below w.heap.size w V → RS 1 RStr V 0 (xs.drop k) (.slice (some ⟨b, o + k, none⟩) (xs.length - k) (c - k)) from fun V hb => by
        have := rs_drop (hr.later RStr.keeps hb) k hk1
        rw [if_neg (by omega)] at this
        have hk0 : k ≠ 0 := by omega
        simpa [Addr.add, hk0] using this)
      have j1 : (k : Int) ≤ (c : Int) := by omega
      have j2 : ¬ c = 0 := by omega
      have j3 : ¬ c = k := by omega
      have j4 : (k : Int) ≤ (xs.length : Int) := by omega
      have HN := hide hl
      clear hr hn ih hshort hk hl1 hl2 hk1 hcs hnm
      go_enter Tryz.func100, Tryz.ntmps100
      go_wp2_with (first | (at_builtin; refine wpAppS rfl _ _ rfl w.heap.size _ [] rfl (OS_start rfl (Nat.le_refl _)) _ (xs.take k) rfl (unhide HH _ (bal (brf w) _)) (by simpa using unhide HL1) (by simp) ?_; intro v1 w1 ho1 hg1; rw [List.nil_append] at ho1; have HB1 := hide (below_grown (bal (brf w) (.cells #[] 9)) hg1 (by simp) (by intro j hj; cases hj; exact Nat.le_refl _)); have HO1 := hide ho1; clear ho1 hg1))
      refine (unhide IH1 _ _ ((unhide HO1).any (unhide HL1))).mono ?_
      rintro e W1 ⟨⟨va, A, rfl, hra, hpa, hua⟩, hb1⟩
      have HB2 := hide (btr (unhide HB1) hb1)
      have HRA := hide hra
      have HPA := hide hpa
      have HUA := hide hua
      clear hra hpa hua hb1 HO1 HB1
      go_wp2_with (first | (at_builtin; refine wpAppS rfl _ _ rfl W1.heap.size _ [] rfl (OS_start rfl (Nat.le_refl _)) _ (xs.drop k) rfl (unhide HT _ (bal (unhide HB2) _)) (by simpa using unhide HL2) (by simp) ?_; intro v3 w3 ho3 hg3; rw [List.nil_append] at ho3; have HB3 := hide (below_grown (bal (brf W1) (.cells #[] 9)) hg3 (by simp) (by intro j hj; cases hj; exact Nat.le_refl _)); have HO3 := hide ho3; clear ho3 hg3))
      refine (unhide IH2 _ _ ((unhide HO3).any (unhide HL2))).mono ?_
      rintro e W3 ⟨⟨vb, B, rfl, hrb, hpb, hub⟩, hb3⟩
      have HBW := hide (btr (unhide HB3) hb3)
      have HB4 := hide (btr (unhide HB2) (unhide HBW))
      have HRA3 := hide ((unhide HRA).later RStr.keeps (unhide HBW))
      have HRB := hide hrb
      have HPR := hide (show (A.merge B leS).Perm xs from (perm_merge A B).trans ((List.Perm.append (unhide HPA) hpb).trans (unhide HPM)))
      have HUP := hide (up_merge A B (unhide HUA) hub)
      clear hrb hpb hub hb3 HO3 HB3 HRA HPA HUA HH HT IH1 IH2
      have HLM := hide (show A.length + B.length ≤ 2097152 by
        have h1 := (unhide HPR).length_eq
        have h2 := (perm_merge A B).length_eq
        rw [List.length_append] at h2
        have := unhide HN
        omega)
      obtain ⟨M, hM⟩ : ∃ M, A.merge B leS = M := ⟨_, rfl⟩
      have HM := hide hM
      rw [hM] at HPR HUP
      clear hM
      obtain ⟨i0, hi, hz0, hz1, hz2⟩ := info_parts info9
      go_wp2
      go_loopw [3, 4, 5] (fun va vb vo wr => ∃ (A' B' O : List ByteArray), RS 1 RStr W3 0 A' va ∧ RS 1 RStr W3 0 B' vb ∧ OS W3.heap.size wr vo O ∧ O ++ A'.merge B' leS = M ∧ O.length + (A'.length + B'.length) ≤ 2097152 ∧ Below W3.heap.size W3 wr) (fun va vb vo wr => lenOf va + lenOf vb)
      case atStart => exact ⟨A, B, [], unhide HRA3, unhide HRB, OS_start rfl (Nat.le_refl _), unhide HM, by have := unhide HLM; simpa using this, bal (brf W3) _⟩
      case round =>
        clear HRA3 HRB HM HLM
        obtain ⟨A', B', O, hra, hrb, ho, hM, hlen, hb⟩ := hrel
        have HO := hide ho
        have HB := hide hb
        have HM := hide hM
        have HSZ := hide hb.size
        have HRA := hide hra
        have HRB := hide hrb
        cases A' with
        | nil =>
          obtain ⟨aa, ca, rfl⟩ := hra.slice
          cases B' with
          | nil =>
            obtain ⟨ab, cb, rfl⟩ := hrb.slice
            have HE := hide (show O = M by have h := hM; simpa using h)
            clear hra hrb ho hb hM HM
            go_wp2
            refine bodyPost_ret (v := u5) (by simp [results, Tryz.results100, go_sem]) rfl ⟨⟨_, M, rfl, ?_, unhide HPR, unhide HUP⟩, btr (unhide HB4) (unhide HB)⟩
            have h := (unhide HO).any (by omega)
            rw [unhide HE] at h
            exact h
          | cons y B'' =>
            obtain ⟨bb, ob, cb, rfl, hcb, hsy⟩ := first_cell hrb
            have hcapb : B''.length + 1 ≤ cb := by
              obtain ⟨_, _, hv, h1, _⟩ := hrb
              injection hv with e1 e2 e3
              rw [List.length_cons] at h1
              omega
            have HSX := hide hsy
            have kb := cell_later hb hcb
            clear hra hrb ho hb hM hcb hsy
            have HM2 := hide (show (O ++ [y]) ++ ([] : List ByteArray).merge B'' leS = M by
              rw [List.append_assoc, ← unhide HM]
              congr 1
              exact (merge_r y B'').symm)
            have HLN := hide hlen
            clear hlen
            obtain ⟨nb, hnb⟩ : ∃ n, n = B''.length + 1 := ⟨_, rfl⟩
            have pb1 : ((nb : Int) == 0) = false := by rw [beq_eq_false_iff_ne]; omega
            have pb2 : decide ((0 : Int) < (nb : Int)) = true := decide_eq_true (by omega)
            have pb3 : (0 : Int) < (nb : Int) := by omega
            have pb5 : decide (0 < nb) = true := decide_eq_true (by omega)
            have pb6 : 0 < nb := by omega
            have pb4 : (1 : Int) ≤ (nb : Int) := by omega
            rw [← hnb] at HRB hcapb ⊢
            by_cases hc1 : cb = 1
            · have HT1 : Hid (RS 1 RStr W3 0 B'' (.slice (some ⟨bb, ob, none⟩) (nb - 1) (0))) := hide (by
                have h := rs_drop (unhide HRB) 1 (by simp)
                rw [if_pos hc1] at h
                rw [hc1] at h
                simpa [Addr.add] using h)
              have hcc : 1 ≤ cb := by omega
              have HNL := hide hnb
              clear hnb
              go_wp2
              go_quiet (fail)
              go_wp2_with (first
                | (at_builtin; refine wpList_append_own _ rfl _ _ 22 rfl W3.heap.size 9 i0 (.string ByteArray.empty) 1 16 Tryz.underlying22 hi hz0 hz1 hz2 rfl (by decide) _ _ _ rfl (((unhide HO).drewN _).1.alloc _) ⟨wr.heap.size, 0, none⟩ 1 1 [.string y] rfl rfl (newS _ _ _ (by simp)) (oneS _) (by have := unhide HLN; simp only [List.length_cons] at this; unfold maxLen; omega) (by have := unhide HLN; simp only [List.length_cons] at this; omega) (by have := unhide HSZ; simp; omega) ?_; intro v' w2 hown' hgrow _)
                | go_in)
              go_roundw
              case rel => exact ⟨[], B'', O ++ [y], unhide HRA, unhide HT1, OS.step hown' (unhide HO).2 (unhide HSX), unhide HM2, by have := unhide HLN; simp only [List.length_cons, List.length_append, List.length_nil] at this ⊢; omega, below_grown (bal (bdn' (unhide HB)) _) hgrow (by have := unhide HSZ; simp; omega) (own_row (unhide HO).1)⟩
              case measure => have := unhide HNL; simp [lenOf]; omega
            · have HT1 : Hid (RS 1 RStr W3 0 B'' (.slice (some ⟨bb, ob + 1, none⟩) (nb - 1) (cb - 1))) := hide (by
                have h := rs_drop (unhide HRB) 1 (by simp)
                rw [if_neg hc1] at h
                skip
                simpa [Addr.add] using h)
              have hcc : 1 ≤ cb := by omega
              have HNL := hide hnb
              clear hnb
              go_wp2
              go_quiet (fail)
              go_wp2_with (first
                | (at_builtin; refine wpList_append_own _ rfl _ _ 22 rfl W3.heap.size 9 i0 (.string ByteArray.empty) 1 16 Tryz.underlying22 hi hz0 hz1 hz2 rfl (by decide) _ _ _ rfl (((unhide HO).drewN _).1.alloc _) ⟨wr.heap.size, 0, none⟩ 1 1 [.string y] rfl rfl (newS _ _ _ (by simp)) (oneS _) (by have := unhide HLN; simp only [List.length_cons] at this; unfold maxLen; omega) (by have := unhide HLN; simp only [List.length_cons] at this; omega) (by have := unhide HSZ; simp; omega) ?_; intro v' w2 hown' hgrow _)
                | go_in)
              go_roundw
              case rel => exact ⟨[], B'', O ++ [y], unhide HRA, unhide HT1, OS.step hown' (unhide HO).2 (unhide HSX), unhide HM2, by have := unhide HLN; simp only [List.length_cons, List.length_append, List.length_nil] at this ⊢; omega, below_grown (bal (bdn' (unhide HB)) _) hgrow (by have := unhide HSZ; simp; omega) (own_row (unhide HO).1)⟩
              case measure => have := unhide HNL; simp [lenOf]; omega
        | cons x A'' =>
          obtain ⟨ba, oa, ca, rfl, hca, hsx⟩ := first_cell hra
          have hcapa : A''.length + 1 ≤ ca := by
            obtain ⟨_, _, hv, h1, _⟩ := hra
            injection hv with e1 e2 e3
            rw [List.length_cons] at h1
            omega
          have ka := cell_later hb hca
          cases B' with
          | nil =>
            obtain ⟨ab, cb, rfl⟩ := hrb.slice
            have HSX := hide hsx
            clear hra hrb ho hb hM hca hsx
            have HM2 := hide (show (O ++ [x]) ++ A''.merge [] leS = M by
              rw [List.append_assoc, ← unhide HM]
              congr 1
              exact (merge_l x A'').symm)
            have HLN := hide hlen
            clear hlen
            obtain ⟨na, hna⟩ : ∃ n, n = A''.length + 1 := ⟨_, rfl⟩
            have pa1 : ((na : Int) == 0) = false := by rw [beq_eq_false_iff_ne]; omega
            have pa2 : decide ((0 : Int) < (na : Int)) = true := decide_eq_true (by omega)
            have pa3 : (0 : Int) < (na : Int) := by omega
            have pa5 : decide (0 < na) = true := decide_eq_true (by omega)
            have pa6 : 0 < na := by omega
            have pa4 : (1 : Int) ≤ (na : Int) := by omega
            rw [← hna] at HRA hcapa ⊢
            by_cases hc1 : ca = 1
            · have HT1 : Hid (RS 1 RStr W3 0 A'' (.slice (some ⟨ba, oa, none⟩) (na - 1) (0))) := hide (by
                have h := rs_drop (unhide HRA) 1 (by simp)
                rw [if_pos hc1] at h
                rw [hc1] at h
                simpa [Addr.add] using h)
              have hcc : 1 ≤ ca := by omega
              have HNL := hide hna
              clear hna
              go_wp2
              go_quiet (fail)
              go_wp2_with (first
                | (at_builtin; refine wpList_append_own _ rfl _ _ 22 rfl W3.heap.size 9 i0 (.string ByteArray.empty) 1 16 Tryz.underlying22 hi hz0 hz1 hz2 rfl (by decide) _ _ _ rfl (((unhide HO).drewN _).1.alloc _) ⟨wr.heap.size, 0, none⟩ 1 1 [.string x] rfl rfl (newS _ _ _ (by simp)) (oneS _) (by have := unhide HLN; simp only [List.length_cons] at this; unfold maxLen; omega) (by have := unhide HLN; simp only [List.length_cons] at this; omega) (by have := unhide HSZ; simp; omega) ?_; intro v' w2 hown' hgrow _)
                | go_in)
              go_roundw
              case rel => exact ⟨A'', [], O ++ [x], unhide HT1, unhide HRB, OS.step hown' (unhide HO).2 (unhide HSX), unhide HM2, by have := unhide HLN; simp only [List.length_cons, List.length_append, List.length_nil] at this ⊢; omega, below_grown (bal (bdn' (unhide HB)) _) hgrow (by have := unhide HSZ; simp; omega) (own_row (unhide HO).1)⟩
              case measure => have := unhide HNL; simp [lenOf]; omega
            · have HT1 : Hid (RS 1 RStr W3 0 A'' (.slice (some ⟨ba, oa + 1, none⟩) (na - 1) (ca - 1))) := hide (by
                have h := rs_drop (unhide HRA) 1 (by simp)
                rw [if_neg hc1] at h
                skip
                simpa [Addr.add] using h)
              have hcc : 1 ≤ ca := by omega
              have HNL := hide hna
              clear hna
              go_wp2
              go_quiet (fail)
              go_wp2_with (first
                | (at_builtin; refine wpList_append_own _ rfl _ _ 22 rfl W3.heap.size 9 i0 (.string ByteArray.empty) 1 16 Tryz.underlying22 hi hz0 hz1 hz2 rfl (by decide) _ _ _ rfl (((unhide HO).drewN _).1.alloc _) ⟨wr.heap.size, 0, none⟩ 1 1 [.string x] rfl rfl (newS _ _ _ (by simp)) (oneS _) (by have := unhide HLN; simp only [List.length_cons] at this; unfold maxLen; omega) (by have := unhide HLN; simp only [List.length_cons] at this; omega) (by have := unhide HSZ; simp; omega) ?_; intro v' w2 hown' hgrow _)
                | go_in)
              go_roundw
              case rel => exact ⟨A'', [], O ++ [x], unhide HT1, unhide HRB, OS.step hown' (unhide HO).2 (unhide HSX), unhide HM2, by have := unhide HLN; simp only [List.length_cons, List.length_append, List.length_nil] at this ⊢; omega, below_grown (bal (bdn' (unhide HB)) _) hgrow (by have := unhide HSZ; simp; omega) (own_row (unhide HO).1)⟩
              case measure => have := unhide HNL; simp [lenOf]; omega
          | cons y B'' =>
            obtain ⟨bb, ob, cb, rfl, hcb, hsy⟩ := first_cell hrb
            have hcapb : B''.length + 1 ≤ cb := by
              obtain ⟨_, _, hv, h1, _⟩ := hrb
              injection hv with e1 e2 e3
              rw [List.length_cons] at h1
              omega
            have kb := cell_later hb hcb
            cases hle : leS x y
            · have HSX := hide hsy
              have hcmp : (Op.bytesLess x.toList y.toList || x.toList == y.toList) = false := hle
              clear hra hrb ho hb hM hca hcb hsx hsy
              have HM2 := hide (show (O ++ [y]) ++ (x :: A'').merge B'' leS = M by
                rw [List.append_assoc, ← unhide HM]
                congr 1
                exact (merge_f x y A'' B'' hle).symm)
              have HLN := hide hlen
              clear hlen
              obtain ⟨na, hna⟩ : ∃ n, n = A''.length + 1 := ⟨_, rfl⟩
              have pa1 : ((na : Int) == 0) = false := by rw [beq_eq_false_iff_ne]; omega
              have pa2 : decide ((0 : Int) < (na : Int)) = true := decide_eq_true (by omega)
              have pa3 : (0 : Int) < (na : Int) := by omega
              have pa5 : decide (0 < na) = true := decide_eq_true (by omega)
              have pa6 : 0 < na := by omega
              have pa4 : (1 : Int) ≤ (na : Int) := by omega
              rw [← hna] at HRA hcapa ⊢
              obtain ⟨nb, hnb⟩ : ∃ n, n = B''.length + 1 := ⟨_, rfl⟩
              have pb1 : ((nb : Int) == 0) = false := by rw [beq_eq_false_iff_ne]; omega
              have pb2 : decide ((0 : Int) < (nb : Int)) = true := decide_eq_true (by omega)
              have pb3 : (0 : Int) < (nb : Int) := by omega
              have pb5 : decide (0 < nb) = true := decide_eq_true (by omega)
              have pb6 : 0 < nb := by omega
              have pb4 : (1 : Int) ≤ (nb : Int) := by omega
              rw [← hnb] at HRB hcapb ⊢
              by_cases hc1 : cb = 1
              · have HT1 : Hid (RS 1 RStr W3 0 B'' (.slice (some ⟨bb, ob, none⟩) (nb - 1) (0))) := hide (by
                  have h := rs_drop (unhide HRB) 1 (by simp)
                  rw [if_pos hc1] at h
                  rw [hc1] at h
                  simpa [Addr.add] using h)
                have hcc : 1 ≤ cb := by omega
                have HNL := hide hnb
                clear hnb hna
                go_wp2
                go_quiet (fail)
                go_wp2_with (first
                  | (at_builtin; refine wpList_append_own _ rfl _ _ 22 rfl W3.heap.size 9 i0 (.string ByteArray.empty) 1 16 Tryz.underlying22 hi hz0 hz1 hz2 rfl (by decide) _ _ _ rfl (((unhide HO).drewN _).1.alloc _) ⟨wr.heap.size, 0, none⟩ 1 1 [.string y] rfl rfl (newS _ _ _ (by simp)) (oneS _) (by have := unhide HLN; simp only [List.length_cons] at this; unfold maxLen; omega) (by have := unhide HLN; simp only [List.length_cons] at this; omega) (by have := unhide HSZ; simp; omega) ?_; intro v' w2 hown' hgrow _)
                  | go_in)
                go_roundw
                case rel => exact ⟨x :: A'', B'', O ++ [y], unhide HRA, unhide HT1, OS.step hown' (unhide HO).2 (unhide HSX), unhide HM2, by have := unhide HLN; simp only [List.length_cons, List.length_append, List.length_nil] at this ⊢; omega, below_grown (bal (bdn' (unhide HB)) _) hgrow (by have := unhide HSZ; simp; omega) (own_row (unhide HO).1)⟩
                case measure => have := unhide HNL; simp [lenOf]; omega
              · have HT1 : Hid (RS 1 RStr W3 0 B'' (.slice (some ⟨bb, ob + 1, none⟩) (nb - 1) (cb - 1))) := hide (by
                  have h := rs_drop (unhide HRB) 1 (by simp)
                  rw [if_neg hc1] at h
                  skip
                  simpa [Addr.add] using h)
                have hcc : 1 ≤ cb := by omega
                have HNL := hide hnb
                clear hnb hna
                go_wp2
                go_quiet (fail)
                go_wp2_with (first
                  | (at_builtin; refine wpList_append_own _ rfl _ _ 22 rfl W3.heap.size 9 i0 (.string ByteArray.empty) 1 16 Tryz.underlying22 hi hz0 hz1 hz2 rfl (by decide) _ _ _ rfl (((unhide HO).drewN _).1.alloc _) ⟨wr.heap.size, 0, none⟩ 1 1 [.string y] rfl rfl (newS _ _ _ (by simp)) (oneS _) (by have := unhide HLN; simp only [List.length_cons] at this; unfold maxLen; omega) (by have := unhide HLN; simp only [List.length_cons] at this; omega) (by have := unhide HSZ; simp; omega) ?_; intro v' w2 hown' hgrow _)
                  | go_in)
                go_roundw
                case rel => exact ⟨x :: A'', B'', O ++ [y], unhide HRA, unhide HT1, OS.step hown' (unhide HO).2 (unhide HSX), unhide HM2, by have := unhide HLN; simp only [List.length_cons, List.length_append, List.length_nil] at this ⊢; omega, below_grown (bal (bdn' (unhide HB)) _) hgrow (by have := unhide HSZ; simp; omega) (own_row (unhide HO).1)⟩
                case measure => have := unhide HNL; simp [lenOf]; omega
            · have HSX := hide hsx
              have HLE := hide hle
              clear hra hrb ho hb hM hca hcb hsx hsy
              cases hbl : Op.bytesLess x.toList y.toList
              · have hq2 : (x.toList == y.toList) = true := by
                  have h := unhide HLE
                  unfold leS at h
                  rw [hbl] at h
                  exact h
                clear hle
                have HM2 := hide (show (O ++ [x]) ++ A''.merge (y :: B'') leS = M by
                  rw [List.append_assoc, ← unhide HM]
                  congr 1
                  exact (merge_t x y A'' B'' (unhide HLE)).symm)
                have HLN := hide hlen
                clear hlen
                obtain ⟨na, hna⟩ : ∃ n, n = A''.length + 1 := ⟨_, rfl⟩
                have pa1 : ((na : Int) == 0) = false := by rw [beq_eq_false_iff_ne]; omega
                have pa2 : decide ((0 : Int) < (na : Int)) = true := decide_eq_true (by omega)
                have pa3 : (0 : Int) < (na : Int) := by omega
                have pa5 : decide (0 < na) = true := decide_eq_true (by omega)
                have pa6 : 0 < na := by omega
                have pa4 : (1 : Int) ≤ (na : Int) := by omega
                rw [← hna] at HRA hcapa ⊢
                obtain ⟨nb, hnb⟩ : ∃ n, n = B''.length + 1 := ⟨_, rfl⟩
                have pb1 : ((nb : Int) == 0) = false := by rw [beq_eq_false_iff_ne]; omega
                have pb2 : decide ((0 : Int) < (nb : Int)) = true := decide_eq_true (by omega)
                have pb3 : (0 : Int) < (nb : Int) := by omega
                have pb5 : decide (0 < nb) = true := decide_eq_true (by omega)
                have pb6 : 0 < nb := by omega
                have pb4 : (1 : Int) ≤ (nb : Int) := by omega
                rw [← hnb] at HRB hcapb ⊢
                by_cases hc1 : ca = 1
                · have HT1 : Hid (RS 1 RStr W3 0 A'' (.slice (some ⟨ba, oa, none⟩) (na - 1) (0))) := hide (by
                    have h := rs_drop (unhide HRA) 1 (by simp)
                    rw [if_pos hc1] at h
                    rw [hc1] at h
                    simpa [Addr.add] using h)
                  have hcc : 1 ≤ ca := by omega
                  have HNL := hide hna
                  clear hna hnb
                  go_wp2
                  go_quiet (fail)
                  go_wp2_with (first
                    | (at_builtin; refine wpList_append_own _ rfl _ _ 22 rfl W3.heap.size 9 i0 (.string ByteArray.empty) 1 16 Tryz.underlying22 hi hz0 hz1 hz2 rfl (by decide) _ _ _ rfl (((unhide HO).drewN _).1.alloc _) ⟨wr.heap.size, 0, none⟩ 1 1 [.string x] rfl rfl (newS _ _ _ (by simp)) (oneS _) (by have := unhide HLN; simp only [List.length_cons] at this; unfold maxLen; omega) (by have := unhide HLN; simp only [List.length_cons] at this; omega) (by have := unhide HSZ; simp; omega) ?_; intro v' w2 hown' hgrow _)
                    | go_in)
                  go_roundw
                  case rel => exact ⟨A'', y :: B'', O ++ [x], unhide HT1, unhide HRB, OS.step hown' (unhide HO).2 (unhide HSX), unhide HM2, by have := unhide HLN; simp only [List.length_cons, List.length_append, List.length_nil] at this ⊢; omega, below_grown (bal (bdn' (unhide HB)) _) hgrow (by have := unhide HSZ; simp; omega) (own_row (unhide HO).1)⟩
                  case measure => have := unhide HNL; simp [lenOf]; omega
                · have HT1 : Hid (RS 1 RStr W3 0 A'' (.slice (some ⟨ba, oa + 1, none⟩) (na - 1) (ca - 1))) := hide (by
                    have h := rs_drop (unhide HRA) 1 (by simp)
                    rw [if_neg hc1] at h
                    skip
                    simpa [Addr.add] using h)
                  have hcc : 1 ≤ ca := by omega
                  have HNL := hide hna
                  clear hna hnb
                  go_wp2
                  go_quiet (fail)
                  go_wp2_with (first
                    | (at_builtin; refine wpList_append_own _ rfl _ _ 22 rfl W3.heap.size 9 i0 (.string ByteArray.empty) 1 16 Tryz.underlying22 hi hz0 hz1 hz2 rfl (by decide) _ _ _ rfl (((unhide HO).drewN _).1.alloc _) ⟨wr.heap.size, 0, none⟩ 1 1 [.string x] rfl rfl (newS _ _ _ (by simp)) (oneS _) (by have := unhide HLN; simp only [List.length_cons] at this; unfold maxLen; omega) (by have := unhide HLN; simp only [List.length_cons] at this; omega) (by have := unhide HSZ; simp; omega) ?_; intro v' w2 hown' hgrow _)
                    | go_in)
                  go_roundw
                  case rel => exact ⟨A'', y :: B'', O ++ [x], unhide HT1, unhide HRB, OS.step hown' (unhide HO).2 (unhide HSX), unhide HM2, by have := unhide HLN; simp only [List.length_cons, List.length_append, List.length_nil] at this ⊢; omega, below_grown (bal (bdn' (unhide HB)) _) hgrow (by have := unhide HSZ; simp; omega) (own_row (unhide HO).1)⟩
                  case measure => have := unhide HNL; simp [lenOf]; omega
              · clear hle
                have HM2 := hide (show (O ++ [x]) ++ A''.merge (y :: B'') leS = M by
                  rw [List.append_assoc, ← unhide HM]
                  congr 1
                  exact (merge_t x y A'' B'' (unhide HLE)).symm)
                have HLN := hide hlen
                clear hlen
                obtain ⟨na, hna⟩ : ∃ n, n = A''.length + 1 := ⟨_, rfl⟩
                have pa1 : ((na : Int) == 0) = false := by rw [beq_eq_false_iff_ne]; omega
                have pa2 : decide ((0 : Int) < (na : Int)) = true := decide_eq_true (by omega)
                have pa3 : (0 : Int) < (na : Int) := by omega
                have pa5 : decide (0 < na) = true := decide_eq_true (by omega)
                have pa6 : 0 < na := by omega
                have pa4 : (1 : Int) ≤ (na : Int) := by omega
                rw [← hna] at HRA hcapa ⊢
                obtain ⟨nb, hnb⟩ : ∃ n, n = B''.length + 1 := ⟨_, rfl⟩
                have pb1 : ((nb : Int) == 0) = false := by rw [beq_eq_false_iff_ne]; omega
                have pb2 : decide ((0 : Int) < (nb : Int)) = true := decide_eq_true (by omega)
                have pb3 : (0 : Int) < (nb : Int) := by omega
                have pb5 : decide (0 < nb) = true := decide_eq_true (by omega)
                have pb6 : 0 < nb := by omega
                have pb4 : (1 : Int) ≤ (nb : Int) := by omega
                rw [← hnb] at HRB hcapb ⊢
                by_cases hc1 : ca = 1
                · have HT1 : Hid (RS 1 RStr W3 0 A'' (.slice (some ⟨ba, oa, none⟩) (na - 1) (0))) := hide (by
                    have h := rs_drop (unhide HRA) 1 (by simp)
                    rw [if_pos hc1] at h
                    rw [hc1] at h
                    simpa [Addr.add] using h)
                  have hcc : 1 ≤ ca := by omega
                  have HNL := hide hna
                  clear hna hnb
                  go_wp2
                  go_quiet (fail)
                  go_wp2_with (first
                    | (at_builtin; refine wpList_append_own _ rfl _ _ 22 rfl W3.heap.size 9 i0 (.string ByteArray.empty) 1 16 Tryz.underlying22 hi hz0 hz1 hz2 rfl (by decide) _ _ _ rfl (((unhide HO).drewN _).1.alloc _) ⟨wr.heap.size, 0, none⟩ 1 1 [.string x] rfl rfl (newS _ _ _ (by simp)) (oneS _) (by have := unhide HLN; simp only [List.length_cons] at this; unfold maxLen; omega) (by have := unhide HLN; simp only [List.length_cons] at this; omega) (by have := unhide HSZ; simp; omega) ?_; intro v' w2 hown' hgrow _)
                    | go_in)
                  go_roundw
                  case rel => exact ⟨A'', y :: B'', O ++ [x], unhide HT1, unhide HRB, OS.step hown' (unhide HO).2 (unhide HSX), unhide HM2, by have := unhide HLN; simp only [List.length_cons, List.length_append, List.length_nil] at this ⊢; omega, below_grown (bal (bdn' (unhide HB)) _) hgrow (by have := unhide HSZ; simp; omega) (own_row (unhide HO).1)⟩
                  case measure => have := unhide HNL; simp [lenOf]; omega
                · have HT1 : Hid (RS 1 RStr W3 0 A'' (.slice (some ⟨ba, oa + 1, none⟩) (na - 1) (ca - 1))) := hide (by
                    have h := rs_drop (unhide HRA) 1 (by simp)
                    rw [if_neg hc1] at h
                    skip
                    simpa [Addr.add] using h)
                  have hcc : 1 ≤ ca := by omega
                  have HNL := hide hna
                  clear hna hnb
                  go_wp2
                  go_quiet (fail)
                  go_wp2_with (first
                    | (at_builtin; refine wpList_append_own _ rfl _ _ 22 rfl W3.heap.size 9 i0 (.string ByteArray.empty) 1 16 Tryz.underlying22 hi hz0 hz1 hz2 rfl (by decide) _ _ _ rfl (((unhide HO).drewN _).1.alloc _) ⟨wr.heap.size, 0, none⟩ 1 1 [.string x] rfl rfl (newS _ _ _ (by simp)) (oneS _) (by have := unhide HLN; simp only [List.length_cons] at this; unfold maxLen; omega) (by have := unhide HLN; simp only [List.length_cons] at this; omega) (by have := unhide HSZ; simp; omega) ?_; intro v' w2 hown' hgrow _)
                    | go_in)
                  go_roundw
                  case rel => exact ⟨A'', y :: B'', O ++ [x], unhide HT1, unhide HRB, OS.step hown' (unhide HO).2 (unhide HSX), unhide HM2, by have := unhide HLN; simp only [List.length_cons, List.length_append, List.length_nil] at this ⊢; omega, below_grown (bal (bdn' (unhide HB)) _) hgrow (by have := unhide HSZ; simp; omega) (own_row (unhide HO).1)⟩
                  case measure => have := unhide HNL; simp [lenOf]; omega
end Go.Proofs.YtlldfaniddbjaaaGreatDoor
