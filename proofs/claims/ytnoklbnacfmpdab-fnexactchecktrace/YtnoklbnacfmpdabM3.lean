/- The row that is gone through. -/
import Derived.Test.YtnoklbnacfmpdabP5
namespace Go.Proofs.Ytnoklbnacfmpdab
open Go Go.RowKit Gs
set_option linter.unusedVariables false
set_option linter.unusedSimpArgs false
set_option maxRecDepth 100000
theorem FM.open {B n : Nat} {W : World} {s : FS} (h : FM B n none W s) (p : Nat) {xc : Array Value} (hx : ∀ j, (s.sv p).ownBlock = some j → W.heap[j]? = some (.cells xc 28)) : FM B n (some p) W { s with xc := xc } :=
  ⟨h.lo, h.hb, h.hv, h.ho, h.hm, h.ht, fun q hq _ => h.hw q hq (by simp), h.hc, h.d1, h.d2, h.d3, h.d4, h.d5, h.lv, h.lm, (fun q j he hq hj => by injection he with e; subst e; exact hx j hj), fun q hq => ⟨(h.fz q hq).at_, (h.fz q hq).b, (h.fz q hq).vb, (h.fz q hq).ob, (h.fz q hq).mb, (h.fz q hq).tv, (h.fz q hq).sv, (h.fz q hq).ids⟩⟩
/-- Its row is turned. -/
theorem FM.turn {B n p g : Nat} {W : World} {s : FS} {cs : Array Value} (h : FM B n (some p) W s) (hp : p < 2 * n + 2) (hg : (s.sv p).ownBlock = some g) : FM B n (some p) (W.setRow g cs) { s with xc := cs } := by
  obtain ⟨hBg, o, hgo⟩ := h.d5 p g hp hg
  have hk : ∀ (k : Nat) (o : Array Value) (t : TypeId), W.heap[k]? = some (.cells o t) → k ≠ g → (W.setRow g cs).heap[k]? = some (.cells o t) := fun k o t hc hne => (setRow_other W g k cs hne).trans hc
  have ht : ∀ (k : Nat) (o : Array Value) (t : TypeId), W.heap[k]? = some (.cells o t) → t ≠ 28 → (W.setRow g cs).heap[k]? = some (.cells o t) := fun k o t hc hne => hk k o t hc (ty_ne hc hgo hne)
  refine ⟨h.lo, ht _ _ _ h.hb (by decide), ht _ _ _ h.hv (by decide), ht _ _ _ h.ho (by decide), ht _ _ _ h.hm (by decide), ownsRow_keep h.ht (fun k o _ hc => ht _ _ _ hc (by decide)), fun q hq he => ownsRow_keep (h.hw q hq he) (fun k o hko hc => hk _ _ _ hc (fun e => ?_)), fun i hi => ?_, h.d1, h.d2, h.d3, h.d4, fun q j hq hj => ?_, h.lv, h.lm, fun q j he hq hj => ?_, fun q hq => ⟨hk _ _ _ (h.fz q hq).at_ (fun e => (h.fz q hq).sv p hp (e ▸ hg)), (h.fz q hq).b, (h.fz q hq).vb, (h.fz q hq).ob, (h.fz q hq).mb, (h.fz q hq).tv, (h.fz q hq).sv, (h.fz q hq).ids⟩⟩
  · subst e
    exact he (by rw [h.d4 q p k hq hp hko hg])
  · obtain ⟨h1, cur, h2, h3⟩ := h.hc i hi
    exact ⟨h1, cur, ht _ _ _ h2 (by decide), h3⟩
  · obtain ⟨h1, o', h2⟩ := h.d5 q j hq hj
    by_cases e : j = g
    · subst e
      exact ⟨h1, cs, setRow_heap W j o cs 28 (0, 0) hgo⟩
    · exact ⟨h1, o', hk _ _ _ h2 e⟩
  · injection he with e
    subst e
    have e2 : some g = some j := hg.symm.trans hj
    injection e2 with e3
    subst e3
    exact setRow_heap W g o cs 28 (0, 0) hgo
/-- Who watches it, by name. -/
theorem FM.names {B n : Nat} {l : Int} {W : World} {s : FS} (h : FM B n (some (plN l)) W s) (hl : Lit n l) (r : List Nat) : FM B n (some (plN l)) W { s with ws := upW s.ws l r } := by
  refine ⟨h.lo, h.hb, h.hv, h.ho, h.hm, h.ht, fun q hq he => ?_, h.hc, h.d1, h.d2, h.d3, h.d4, h.d5, h.lv, h.lm, h.hx, fun q hq => ⟨(h.fz q hq).at_, (h.fz q hq).b, (h.fz q hq).vb, (h.fz q hq).ob, (h.fz q hq).mb, (h.fz q hq).tv, (h.fz q hq).sv, (h.fz q hq).ids⟩⟩
  have e : q ≠ plN l := fun e => he (by rw [e])
  have e2 : ltP q ≠ l := fun e3 => e (by rw [← e3, plN_ltP (by rw [e3]; exact hl.1)])
  show World.ownsRow W B 28 1 (s.sv q) (upW s.ws l r (ltP q)).length ((upW s.ws l r (ltP q)).map (hd s.ln s.cap))
  rw [upW_other e2]
  exact h.hw q hq he
/-- Its row is put back. -/
theorem FM.shut {B n : Nat} {l : Int} {W : World} {s : FS} {v' : Value} (h : FM B n (some (plN l)) W s) (hl : Lit n l) (hown : W.ownsRow B 28 1 v' (s.ws l).length ((s.ws l).map (hd s.ln s.cap))) (hb : v'.ownBlock = (s.sv (plN l)).ownBlock) : FM B n none (W.setCell ⟨s.ob, plN l, none⟩ v') { s with sv := upV s.sv (plN l) v' } := by
  have hp := plN_lt hl
  have hk : ∀ (k : Nat) (o : Array Value) (t : TypeId), W.heap[k]? = some (.cells o t) → t ≠ 22 → (W.setCell ⟨s.ob, plN l, none⟩ v').heap[k]? = some (.cells o t) := fun k o t hc hne => (Below.heap_setCell W ⟨s.ob, plN l, none⟩ v' k (ty_ne hc h.ho hne)).trans hc
  have hob : ∀ q, (upV s.sv (plN l) v' q).ownBlock = (s.sv q).ownBlock := fun q => by
    unfold upV
    by_cases e : q = plN l
    · rw [if_pos e, e]; exact hb
    · rw [if_neg e]
  refine ⟨h.lo, hk _ _ _ h.hb (by decide), hk _ _ _ h.hv (by decide), ?_, hk _ _ _ h.hm (by decide), ownsRow_keep h.ht (fun k o _ hc => hk _ _ _ hc (by decide)), fun q hq he => ?_, fun i hi => ?_, h.d1, h.d2, h.d3, fun q r j hq hr h1 h2 => h.d4 q r j hq hr (hob q ▸ h1) (hob r ▸ h2), fun q j hq hj => ?_, h.lv, h.lm, (fun q j he => by cases he), fun q hq => ⟨(Below.heap_setCell W ⟨s.ob, plN l, none⟩ v' q.1 (h.fz q hq).ob).trans (h.fz q hq).at_, (h.fz q hq).b, (h.fz q hq).vb, (h.fz q hq).ob, (h.fz q hq).mb, (h.fz q hq).tv, fun p hp' e => (h.fz q hq).sv p hp' (hob p ▸ e), (h.fz q hq).ids⟩⟩
  · rw [heap_set h.ho, svA_set]
  · show World.ownsRow _ B 28 1 (upV s.sv (plN l) v' q) (s.ws (ltP q)).length ((s.ws (ltP q)).map (hd s.ln s.cap))
    unfold upV
    by_cases e : q = plN l
    · subst e
      rw [if_pos rfl, ltP_plN]
      exact ownsRow_keep hown (fun k o _ hc => hk _ _ _ hc (by decide))
    · rw [if_neg e]
      exact ownsRow_keep (h.hw q hq (fun e2 => e (by injection e2 with e3; exact e3.symm))) (fun k o _ hc => hk _ _ _ hc (by decide))
  · obtain ⟨h1, cur, h2, h3⟩ := h.hc i hi
    exact ⟨h1, cur, hk _ _ _ h2 (by decide), h3⟩
  · obtain ⟨h1, o, h2⟩ := h.d5 q j hq (hob q ▸ hj)
    exact ⟨h1, o, hk _ _ _ h2 (by decide)⟩
/-- Of the row: what was kept, and what is still to come. -/
structure RV (ln cap : Nat → Nat) (xc : Array Value) (c : Nat) (V K : List Nat) (j : Nat) : Prop where
  sz : xc.size = c
  kp : xc.toList.take K.length = K.map (hd ln cap)
  rs : ∀ q i, j ≤ q → V[q]? = some i → xc[q]? = some (hd ln cap i)
  le : K.length ≤ j
  vl : V.length ≤ c
  mx : c ≤ maxLen
theorem RV.skip {ln cap : Nat → Nat} {xc : Array Value} {c : Nat} {V K : List Nat} {j : Nat} (h : RV ln cap xc c V K j) : RV ln cap xc c V K (j + 1) :=
  ⟨h.sz, h.kp, fun q i hq => h.rs q i (by omega), by have := h.le; omega, h.vl, h.mx⟩
theorem RV.keep {ln cap : Nat → Nat} {xc : Array Value} {c : Nat} {V K : List Nat} {j i : Nat} (h : RV ln cap xc c V K j) (hi : V[j]? = some i) : RV ln cap (xc.toList.take K.length ++ [hd ln cap i] ++ xc.toList.drop (K.length + 1)).toArray c V (K ++ [i]) (j + 1) := by
  have hjv : j < V.length := (List.getElem?_eq_some_iff.1 hi).1
  have hk := h.le
  have hv := h.vl
  have hs := h.sz
  refine ⟨?_, ?_, fun q i' hq hi' => ?_, by simp; omega, hv, h.mx⟩
  · simp [hs]; omega
  · rw [h.kp]
    have e : (K ++ [i]).length = (K.map (hd ln cap) ++ [hd ln cap i]).length := by simp
    rw [List.map_append]
    simp only [List.toList_toArray]
    rw [e, List.take_left]
    rfl
  · have hqv : q < V.length := (List.getElem?_eq_some_iff.1 hi').1
    have := h.rs q i' (by omega) hi'
    rw [← this]
    simp only [List.getElem?_toArray]
    rw [List.append_assoc, List.getElem?_append_right (by simp; omega)]
    have e1 : (xc.toList.take K.length).length = K.length := by simp [hs]; omega
    rw [e1, List.getElem?_append_right (by simp; omega), List.getElem?_drop]
    have e2 : K.length + 1 + (q - K.length - [hd ln cap i].length) = q := by simp; omega
    rw [e2]
    simp
theorem RV.own {ln cap : Nat → Nat} {xc : Array Value} {c : Nat} {V K : List Nat} {j g B : Nat} {W : World} (h : RV ln cap xc c V K j) (hj : j ≤ V.length) (hg : W.heap[g]? = some (.cells xc 28)) (hB : B ≤ g) : W.ownsRow B 28 1 (.slice (some ⟨g, 0, none⟩) K.length c) K.length (K.map (hd ln cap)) := by
  have hk := h.le
  have hv := h.vl
  exact ⟨by simp, .inr ⟨g, c, xc, rfl, hB, hg, by omega, h.mx, by rw [h.sz, Nat.mul_one], by rw [Nat.mul_one]; exact h.kp⟩⟩
theorem RV.rest {ln cap : Nat → Nat} {xc : Array Value} {c : Nat} {V K : List Nat} {j : Nat} (h : RV ln cap xc c V K j) (hj : j ≤ V.length) : RV ln cap (xc.toList.take K.length ++ (V.drop j).map (hd ln cap) ++ xc.toList.drop (K.length + ((V.drop j).map (hd ln cap)).length)).toArray c V (K ++ V.drop j) V.length := by
  have hk := h.le
  have hv := h.vl
  have hs := h.sz
  refine ⟨?_, ?_, fun q i' hq hi' => ?_, by simp; omega, hv, h.mx⟩
  · simp [hs]; omega
  · rw [h.kp]
    have e : (K ++ V.drop j).length = (K.map (hd ln cap) ++ (V.drop j).map (hd ln cap)).length := by simp
    rw [List.map_append]
    simp only [List.toList_toArray]
    rw [e, List.take_left]
  · have := (List.getElem?_eq_some_iff.1 hi').1
    omega
end Go.Proofs.Ytnoklbnacfmpdab
