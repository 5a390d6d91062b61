/- Clauses that watch two of their literals: how one watches another. -/
import Derived.Test.YtnoklbnacfmpdabK1
namespace Go.Proofs.Ytnoklbnacfmpdab
set_option linter.unusedVariables false
def upC (cl : Nat → List Int) (i : Nat) (c : List Int) : Nat → List Int := fun j => if j = i then c else cl j
def upW (ws : Int → List Nat) (l : Int) (r : List Nat) : Int → List Nat := fun m => if m = l then r else ws m
theorem upC_same (cl : Nat → List Int) (i : Nat) (c : List Int) : upC cl i c i = c := by unfold upC; rw [if_pos rfl]
theorem upC_other {cl : Nat → List Int} {i j : Nat} {c : List Int} (h : j ≠ i) : upC cl i c j = cl j := by unfold upC; rw [if_neg h]
theorem upW_same (ws : Int → List Nat) (l : Int) (r : List Nat) : upW ws l r l = r := by unfold upW; rw [if_pos rfl]
theorem upW_other {ws : Int → List Nat} {l m : Int} {r : List Nat} (h : m ≠ l) : upW ws l r m = ws m := by unfold upW; rw [if_neg h]
/-- The same literals, in another order. -/
structure Same (c c' : List Int) : Prop where
  len : c'.length = c.length
  nd : c.Nodup → c'.Nodup
  mem : ∀ l, l ∈ c' ↔ l ∈ c
theorem Rp.same {Cl : List (List Int)} {t0 : List Int} {ids : List Nat} {cl : Nat → List Int} (h : Rp Cl t0 ids cl) {i : Nat} {c' : List Int} (hs : Same (cl i) c') : Rp Cl t0 ids (upC cl i c') := by
  have hm : ∀ j l, l ∈ upC cl i c' j ↔ l ∈ cl j := fun j l => by
    by_cases e : j = i
    · subst e; rw [upC_same]; exact hs.mem l
    · rw [upC_other e]
  refine ⟨fun j hj => ?_, fun c hc => ?_⟩
  · obtain ⟨c, h1, h2, h3⟩ := h.src j hj
    exact ⟨c, h1, fun l hl => h2 l ((hm j l).1 hl), fun l hl => (h3 l hl).imp_left (hm j l).2⟩
  · rcases h.rep c hc with h1 | ⟨j, hj, h2, h3⟩
    · exact .inl h1
    · exact .inr ⟨j, hj, fun l hl => h2 l ((hm j l).1 hl), fun l hl => (h3 l hl).imp_left (hm j l).2⟩
/-- The two watched literals change places. -/
theorem Wt.swap {n : Nat} {ids : List Nat} {cl : Nat → List Int} {ws : Int → List Nat} (h : Wt n ids cl ws) {i : Nat} {c' : List Int} (hs : Same (cl i) c') (e0 : w0 c' = w1 (cl i)) (e1 : w1 c' = w0 (cl i)) : Wt n ids (upC cl i c') ws := by
  refine ⟨fun j hj => ?_, fun j hj => ?_, fun l j hj => ?_, h.nd⟩
  · obtain ⟨h1, h2, h3⟩ := h.ok j hj
    by_cases e : j = i
    · subst e; rw [upC_same]; exact ⟨by rw [hs.len]; exact h1, hs.nd h2, fun l hl => h3 l ((hs.mem l).1 hl)⟩
    · rw [upC_other e]; exact ⟨h1, h2, h3⟩
  · obtain ⟨h1, h2⟩ := h.up j hj
    by_cases e : j = i
    · subst e; rw [upC_same, e0, e1]; exact ⟨h2, h1⟩
    · rw [upC_other e]; exact ⟨h1, h2⟩
  · obtain ⟨h1, h2⟩ := h.dn l j hj
    refine ⟨h1, ?_⟩
    by_cases e : j = i
    · subst e; rw [upC_same, e0, e1]; exact h2.symm
    · rw [upC_other e]; exact h2
theorem Wa.swap {ids : List Nat} {cl : Nat → List Int} {t fp : List Int} (h : Wa ids cl t fp) {i : Nat} {c' : List Int} (e0 : w0 c' = w1 (cl i)) (e1 : w1 c' = w0 (cl i)) : Wa ids (upC cl i c') t fp := by
  intro j hj
  obtain ⟨h1, h2⟩ := h j hj
  by_cases e : j = i
  · subst e; rw [upC_same, e0, e1]; exact ⟨h2, h1⟩
  · rw [upC_other e]; exact ⟨h1, h2⟩
/-- A clause watches another literal. -/
theorem Wt.move {n : Nat} {ids : List Nat} {cl : Nat → List Int} {ws : Int → List Nat} (h : Wt n ids cl ws) {i : Nat} {c' : List Int} {gone lit : Int} {K R : List Nat} (hi : i ∈ ids) (hs : Same (cl i) c') (e0 : w0 c' = w0 (cl i)) (e1 : w1 c' = lit) (hg : w1 (cl i) = gone) (hw : ws gone = K ++ i :: R) (hn1 : lit ≠ gone) (hn0 : lit ≠ w0 (cl i)) :
    Wt n ids (upC cl i c') (upW (upW ws gone (K ++ R)) lit (ws lit ++ [i])) := by
  have hnd := h.nd gone
  rw [hw] at hnd
  have hiKR : i ∉ K ++ R := by
    have h1 := List.nodup_append.1 hnd
    intro hm
    rcases List.mem_append.1 hm with h2 | h2
    · exact h1.2.2 i h2 i List.mem_cons_self rfl
    · exact (List.nodup_cons.1 h1.2.1).1 h2
  have hilit : i ∉ ws lit := fun hm => by
    rcases (h.dn lit i hm).2 with e | e
    · exact hn0 e
    · exact hn1 (e.trans hg)
  obtain ⟨k1, k2, k3⟩ := h.ok i hi
  have hw0g : w0 (cl i) ≠ gone := fun e => w_ne k1 k2 (e.trans hg.symm)
  have hWg : upW (upW ws gone (K ++ R)) lit (ws lit ++ [i]) gone = K ++ R := by rw [upW_other (Ne.symm hn1), upW_same]
  have hWo : ∀ m, m ≠ lit → m ≠ gone → upW (upW ws gone (K ++ R)) lit (ws lit ++ [i]) m = ws m := fun m h1 h2 => by rw [upW_other h1, upW_other h2]
  have hKR : ∀ j, j ≠ i → (j ∈ K ++ R ↔ j ∈ ws gone) := fun j hj => by
    rw [hw]; simp [hj]
  have hin : ∀ m j, j ≠ i → (j ∈ upW (upW ws gone (K ++ R)) lit (ws lit ++ [i]) m ↔ j ∈ ws m) := fun m j hj => by
    by_cases h1 : m = lit
    · subst h1; rw [upW_same]; simp [hj]
    · by_cases h2 : m = gone
      · subst h2; rw [hWg]; exact hKR j hj
      · rw [hWo m h1 h2]
  refine ⟨fun j hj => ?_, fun j hj => ?_, fun m j hj => ?_, fun m => ?_⟩
  · by_cases e : j = i
    · subst e; rw [upC_same]; exact ⟨by rw [hs.len]; exact k1, hs.nd k2, fun l hl => k3 l ((hs.mem l).1 hl)⟩
    · rw [upC_other e]; exact h.ok j hj
  · by_cases e : j = i
    · subst e
      rw [upC_same, e0, e1]
      refine ⟨?_, by rw [upW_same]; simp⟩
      rw [hWo _ (Ne.symm hn0) hw0g]
      exact (h.up j hj).1
    · rw [upC_other e]
      exact ⟨(hin _ j e).2 (h.up j hj).1, (hin _ j e).2 (h.up j hj).2⟩
  · by_cases e : j = i
    · subst e
      refine ⟨hi, ?_⟩
      rw [upC_same, e0, e1]
      by_cases h1 : m = lit
      · exact .inr h1
      · by_cases h2 : m = gone
        · subst h2; rw [hWg] at hj; exact absurd hj hiKR
        · rw [hWo m h1 h2] at hj
          rcases (h.dn m j hj).2 with h3 | h3
          · exact .inl h3
          · exact absurd (h3.trans hg) h2
    · have := h.dn m j ((hin m j e).1 hj)
      rw [upC_other e]; exact this
  · by_cases h1 : m = lit
    · subst h1
      rw [upW_same, List.nodup_append]
      exact ⟨h.nd m, by simp, fun a ha b hb => by simp at hb; subst hb; exact fun e => hilit (e ▸ ha)⟩
    · by_cases h2 : m = gone
      · subst h2
        rw [hWg]
        refine hnd.sublist ?_
        exact List.Sublist.append_left (List.sublist_cons_self i R) K
      · rw [hWo m h1 h2]; exact h.nd m
theorem Wa.move {n : Nat} {ids : List Nat} {cl : Nat → List Int} {t tt fp : List Int} (h : Wa ids cl tt fp) (ht : TrOK n t) (h1 : ∀ l ∈ tt, l ∈ t) (h2 : ∀ l ∈ fp, l ∈ t) {i : Nat} {c' : List Int} {gone lit : Int} (hi : i ∈ ids) (e0 : w0 c' = w0 (cl i)) (e1 : w1 c' = lit) (hg : w1 (cl i) = gone) (hgt : -gone ∈ t) (hlt : -lit ∉ t) : Wa ids (upC cl i c') tt fp := by
  intro j hj
  by_cases e : j = i
  · subst e
    rw [upC_same, e0, e1]
    refine ⟨fun hf => ?_, fun hf => absurd (h2 _ hf) hlt⟩
    have := (h j hj).1 hf
    rw [hg] at this
    exact absurd hgt (ht.not (h1 _ this))
  · rw [upC_other e]; exact h j hj
theorem Wa.more {ids : List Nat} {cl : Nat → List Int} {t fp : List Int} (h : Wa ids cl t fp) (x : Int) : Wa ids cl (t ++ [x]) fp :=
  fun j hj => ⟨fun hf => List.mem_append_left _ ((h j hj).1 hf), fun hf => List.mem_append_left _ ((h j hj).2 hf)⟩
/-- All that watch a literal were looked at. -/
theorem Wa.done {n : Nat} {ids : List Nat} {cl : Nat → List Int} {ws : Int → List Nat} {t fp : List Int} {gone : Int} (hw : Wt n ids cl ws) (h : Wa ids cl t fp) (hk : ∀ i ∈ ws gone, (w0 (cl i) = gone → w1 (cl i) ∈ t) ∧ (w1 (cl i) = gone → w0 (cl i) ∈ t)) : Wa ids cl t (fp ++ [-gone]) := by
  intro j hj
  obtain ⟨u0, u1⟩ := hw.up j hj
  refine ⟨fun hf => ?_, fun hf => ?_⟩
  · rcases List.mem_append.1 hf with h1 | h1
    · exact (h j hj).1 h1
    · have e : w0 (cl j) = gone := by simp at h1; omega
      rw [e] at u0
      exact (hk j u0).1 e
  · rcases List.mem_append.1 hf with h1 | h1
    · exact (h j hj).2 h1
    · have e : w1 (cl j) = gone := by simp at h1; omega
      rw [e] at u1
      exact (hk j u1).2 e
theorem Sn.snoc {Cl : List (List Int)} {A t : List Int} (h : Sn Cl A t) {x : Int} (hx : Der Cl A x) : Sn Cl A (t ++ [x]) := by
  intro l hl
  rcases List.mem_append.1 hl with h1 | h1
  · exact h l h1
  · simp at h1; subst h1; exact hx
/-- What is open of a clause, each once. -/
def opens (P : Int → Bool) : List Int → List Int → List Int
  | acc, [] => acc
  | acc, l :: c => opens P (if P l && !acc.contains l then acc ++ [l] else acc) c
theorem opens_spec (P : Int → Bool) : ∀ (c acc : List Int), acc.Nodup → (opens P acc c).Nodup ∧ ∀ l, l ∈ opens P acc c ↔ l ∈ acc ∨ (l ∈ c ∧ P l = true)
  | [], acc, h => ⟨h, fun l => by simp [opens]⟩
  | x :: c, acc, h => by
    rw [opens]
    by_cases hx : (P x && !acc.contains x) = true
    · rw [if_pos hx]
      rw [Bool.and_eq_true, Bool.not_eq_true', List.contains_eq_mem, decide_eq_false_iff_not] at hx
      have hnd : (acc ++ [x]).Nodup := List.nodup_append.2 ⟨h, by simp, fun a ha b hb => by simp at hb; subst hb; exact fun e => hx.2 (e ▸ ha)⟩
      obtain ⟨h1, h2⟩ := opens_spec P c (acc ++ [x]) hnd
      refine ⟨h1, fun l => ?_⟩
      rw [h2]
      simp only [List.mem_append, List.mem_cons, List.not_mem_nil, or_false]
      constructor
      · rintro ((h3 | h3) | h3)
        · exact .inl h3
        · exact .inr ⟨.inl h3, h3 ▸ hx.1⟩
        · exact .inr ⟨.inr h3.1, h3.2⟩
      · rintro (h3 | ⟨h3 | h3, h4⟩)
        · exact .inl (.inl h3)
        · exact .inl (.inr h3)
        · exact .inr ⟨h3, h4⟩
    · rw [if_neg hx]
      obtain ⟨h1, h2⟩ := opens_spec P c acc h
      refine ⟨h1, fun l => ?_⟩
      rw [h2]
      simp only [List.mem_cons]
      constructor
      · rintro (h3 | h3)
        · exact .inl h3
        · exact .inr ⟨.inr h3.1, h3.2⟩
      · rintro (h3 | ⟨h3 | h3, h4⟩)
        · exact .inl h3
        · subst h3
          rw [Bool.and_eq_true, Bool.not_eq_true', List.contains_eq_mem, decide_eq_false_iff_not] at hx
          by_cases h5 : l ∈ acc
          · exact .inl h5
          · exact absurd ⟨h4, h5⟩ hx
        · exact .inr ⟨h3, h4⟩
theorem opens_snoc (P : Int → Bool) : ∀ (c acc : List Int) (x : Int), opens P acc (c ++ [x]) = (if P x && !(opens P acc c).contains x then opens P acc c ++ [x] else opens P acc c)
  | [], acc, x => by simp [opens]
  | y :: c, acc, x => by rw [List.cons_append, opens, opens, opens_snoc P c]
/-- A clause is put to the others. -/
theorem Wt.add {n : Nat} {ids : List Nat} {cl : Nat → List Int} {ws : Int → List Nat} (h : Wt n ids cl ws) {i : Nat} {c : List Int} (hi : i ∉ ids) (h2 : 2 ≤ c.length) (hn : c.Nodup) (hl : Lits n c) : Wt n (ids ++ [i]) (upC cl i c) (upW (upW ws (w0 c) (ws (w0 c) ++ [i])) (w1 c) (ws (w1 c) ++ [i])) := by
  have hne := w_ne h2 hn
  have hin : ∀ m j, j ≠ i → (j ∈ upW (upW ws (w0 c) (ws (w0 c) ++ [i])) (w1 c) (ws (w1 c) ++ [i]) m ↔ j ∈ ws m) := fun m j hj => by
    by_cases h1 : m = w1 c
    · subst h1; rw [upW_same]; simp [hj]
    · rw [upW_other h1]
      by_cases h3 : m = w0 c
      · subst h3; rw [upW_same]; simp [hj]
      · rw [upW_other h3]
  have hno : ∀ m, i ∉ ws m := fun m hm => hi (h.dn m i hm).1
  refine ⟨fun j hj => ?_, fun j hj => ?_, fun m j hj => ?_, fun m => ?_⟩
  · rcases List.mem_append.1 hj with h1 | h1
    · rw [upC_other (show j ≠ i from fun e => hi (e ▸ h1))]; exact h.ok j h1
    · simp at h1; subst h1; rw [upC_same]; exact ⟨h2, hn, hl⟩
  · rcases List.mem_append.1 hj with h1 | h1
    · have e : j ≠ i := fun e => hi (e ▸ h1)
      rw [upC_other e]
      exact ⟨(hin _ j e).2 (h.up j h1).1, (hin _ j e).2 (h.up j h1).2⟩
    · simp at h1; subst h1
      rw [upC_same]
      refine ⟨?_, by rw [upW_same]; simp⟩
      rw [upW_other hne, upW_same]; simp
  · by_cases e : j = i
    · subst e
      refine ⟨by simp, ?_⟩
      rw [upC_same]
      by_cases h1 : m = w1 c
      · exact .inr h1
      · rw [upW_other h1] at hj
        by_cases h3 : m = w0 c
        · exact .inl h3
        · rw [upW_other h3] at hj
          exact absurd hj (hno m)
    · have := h.dn m j ((hin m j e).1 hj)
      rw [upC_other e]
      exact ⟨List.mem_append_left _ this.1, this.2⟩
  · have hb : ∀ m, (ws m ++ [i]).Nodup := fun m => List.nodup_append.2 ⟨h.nd m, by simp, fun a ha b hb => by simp at hb; subst hb; exact fun e => hno m (e ▸ ha)⟩
    by_cases h1 : m = w1 c
    · subst h1; rw [upW_same]; exact hb _
    · rw [upW_other h1]
      by_cases h3 : m = w0 c
      · subst h3; rw [upW_same]; exact hb _
      · rw [upW_other h3]; exact h.nd m
theorem Wa.add {ids : List Nat} {cl : Nat → List Int} {t fp : List Int} (h : Wa ids cl t fp) {i : Nat} {c : List Int} (hi : i ∉ ids) (h0 : -(w0 c) ∉ fp) (h1 : -(w1 c) ∉ fp) : Wa (ids ++ [i]) (upC cl i c) t fp := by
  intro j hj
  rcases List.mem_append.1 hj with h2 | h2
  · rw [upC_other (show j ≠ i from fun e => hi (e ▸ h2))]; exact h j h2
  · simp at h2; subst h2; rw [upC_same]
    exact ⟨fun hf => absurd hf h0, fun hf => absurd hf h1⟩
theorem Rp.add {Cl : List (List Int)} {t0 : List Int} {ids : List Nat} {cl : Nat → List Int} (h : Rp Cl t0 ids cl) {i : Nat} {c s : List Int} (hi : i ∉ ids) (h1 : ∀ l ∈ s, l ∈ c) (h2 : ∀ l ∈ c, l ∈ s ∨ -l ∈ t0) : Rp (Cl ++ [c]) t0 (ids ++ [i]) (upC cl i s) := by
  refine ⟨fun j hj => ?_, fun d hd => ?_⟩
  · rcases List.mem_append.1 hj with h3 | h3
    · rw [upC_other (show j ≠ i from fun e => hi (e ▸ h3))]
      obtain ⟨d, k1, k2, k3⟩ := h.src j h3
      exact ⟨d, List.mem_append_left _ k1, k2, k3⟩
    · simp at h3; subst h3; rw [upC_same]
      exact ⟨c, by simp, h1, h2⟩
  · rcases List.mem_append.1 hd with h3 | h3
    · rcases h.rep d h3 with k | ⟨j, hj, k2, k3⟩
      · exact .inl k
      · refine .inr ⟨j, List.mem_append_left _ hj, ?_⟩
        rw [upC_other (show j ≠ i from fun e => hi (e ▸ hj))]
        exact ⟨k2, k3⟩
    · simp at h3; subst h3
      exact .inr ⟨i, by simp, by rw [upC_same]; exact ⟨h1, h2⟩⟩
theorem Rp.more {Cl : List (List Int)} {t0 t1 : List Int} {ids : List Nat} {cl : Nat → List Int} (h : Rp Cl t0 ids cl) (h0 : ∀ l ∈ t0, l ∈ t1) : Rp Cl t1 ids cl := by
  refine ⟨fun j hj => ?_, fun d hd => ?_⟩
  · obtain ⟨c, k1, k2, k3⟩ := h.src j hj
    exact ⟨c, k1, k2, fun l hl => (k3 l hl).imp_right (h0 _)⟩
  · rcases h.rep d hd with ⟨l, k1, k2⟩ | ⟨j, hj, k2, k3⟩
    · exact .inl ⟨l, k1, h0 l k2⟩
    · exact .inr ⟨j, hj, k2, fun l hl => (k3 l hl).imp_right (h0 _)⟩
theorem Rp.done {Cl : List (List Int)} {t0 : List Int} {ids : List Nat} {cl : Nat → List Int} (h : Rp Cl t0 ids cl) {c : List Int} (hc : ∃ l ∈ c, l ∈ t0) : Rp (Cl ++ [c]) t0 ids cl := by
  refine ⟨fun j hj => ?_, fun d hd => ?_⟩
  · obtain ⟨d, k1, k2, k3⟩ := h.src j hj
    exact ⟨d, List.mem_append_left _ k1, k2, k3⟩
  · rcases List.mem_append.1 hd with h3 | h3
    · exact h.rep d h3
    · simp at h3; subst h3; exact .inl hc
end Go.Proofs.Ytnoklbnacfmpdab
