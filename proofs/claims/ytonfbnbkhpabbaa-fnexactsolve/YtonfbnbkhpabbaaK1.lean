/- Clauses that watch two of their literals: what is kept. -/
import Derived.Test.YtonfbnbkhpabbaaK0
namespace Go.Proofs.Ytonfbnbkhpabbaa
set_option linter.unusedVariables false
/-- What was assumed, in order: each variable once. -/
structure TrOK (n : Nat) (t : List Int) : Prop where
  lits : Lits n t
  nd : (t.map Int.natAbs).Nodup
theorem TrOK.not {n : Nat} {t : List Int} (h : TrOK n t) {l : Int} (h1 : l ∈ t) : -l ∉ t := by
  intro h2
  have hl0 := (h.lits l h1).1
  obtain ⟨i, hi, e1⟩ := List.mem_iff_getElem.1 h1
  obtain ⟨j, hj, e2⟩ := List.mem_iff_getElem.1 h2
  have hij : i ≠ j := by
    intro e; subst e
    rw [e1] at e2; omega
  have e : (t.map Int.natAbs)[i]'(by simpa using hi) = (t.map Int.natAbs)[j]'(by simpa using hj) := by
    rw [List.getElem_map, List.getElem_map, e1, e2, Int.natAbs_neg]
  have hp := List.pairwise_iff_getElem.1 h.nd
  rcases Nat.lt_or_gt_of_ne hij with h3 | h3
  · exact hp i j _ _ h3 e
  · exact hp j i _ _ h3 e.symm
/-- A literal that is open. -/
def Opn (t : List Int) (l : Int) : Prop := l ∉ t ∧ -l ∉ t
theorem TrOK.snoc {n : Nat} {t : List Int} (h : TrOK n t) {l : Int} (hl : Lit n l) (ho : Opn t l) : TrOK n (t ++ [l]) := by
  refine ⟨fun m hm => ?_, ?_⟩
  · rcases List.mem_append.1 hm with h1 | h1
    · exact h.lits m h1
    · simp at h1; subst h1; exact hl
  · rw [List.map_append, List.nodup_append]
    refine ⟨h.nd, by simp, fun a ha b hb => ?_⟩
    simp at hb; subst hb
    intro e; subst e
    obtain ⟨m, hm, e⟩ := List.mem_map.1 ha
    have : m = l ∨ m = -l := by omega
    rcases this with e | e
    · subst e; exact ho.1 hm
    · subst e; exact ho.2 hm
theorem nodup_bound : ∀ (n : Nat) (xs : List Nat), xs.Nodup → (∀ x ∈ xs, x < n) → xs.length ≤ n
  | 0, xs, _, h => by
    cases xs with
    | nil => simp
    | cons x r => exact absurd (h x List.mem_cons_self) (Nat.not_lt_zero _)
  | n + 1, xs, hn, h => by
    by_cases hm : n ∈ xs
    · have h1 := nodup_bound n (xs.erase n) (hn.erase n) (fun x hx => by
        have h2 := h x (List.mem_of_mem_erase hx)
        have h3 : x ≠ n := fun e => by subst e; exact (List.Nodup.not_mem_erase hn) hx
        omega)
      have h2 := List.length_erase_of_mem hm
      omega
    · have := nodup_bound n xs hn (fun x hx => by
        have h2 := h x hx
        have h3 : x ≠ n := fun e => hm (e ▸ hx)
        omega)
      omega
theorem TrOK.len {n : Nat} {t : List Int} (h : TrOK n t) : t.length ≤ n := by
  have h1 := nodup_bound (n + 1) (0 :: t.map Int.natAbs) ?_ ?_
  · simp at h1; exact h1
  · rw [List.nodup_cons]
    refine ⟨fun hx => ?_, h.nd⟩
    obtain ⟨l, hl, e2⟩ := List.mem_map.1 hx
    have := (h.lits l hl).vr
    unfold vr at this
    omega
  · intro x hx
    rcases List.mem_cons.1 hx with e | hx
    · omega
    · obtain ⟨l, hl, e2⟩ := List.mem_map.1 hx
      have := (h.lits l hl).vr
      unfold vr at this
      omega
theorem TrOK.take {n : Nat} {t : List Int} (h : TrOK n t) (k : Nat) : TrOK n (t.take k) :=
  ⟨fun l hl => h.lits l (List.mem_of_mem_take hl), by rw [List.map_take]; exact h.nd.sublist (List.take_sublist _ _)⟩
/-- The values are those of what was assumed. -/
def VR (n : Nat) (t vs : List Int) : Prop := vs.length = n + 1 ∧ ∀ l, Lit n l → (l ∈ t → val vs l = 1) ∧ (Opn t l → val vs l = 0)
theorem VR.zero (n : Nat) : VR n [] (zeros (n + 1)) := ⟨by simp [zeros], fun l hl => ⟨fun h => by simp at h, fun _ => zeros_val _ l⟩⟩
theorem VR.neg {n : Nat} {t vs : List Int} (h : VR n t vs) {l : Int} (hl : Lit n l) (hm : -l ∈ t) : val vs l = -1 := by
  have := (h.2 (-l) hl.neg).1 hm
  rw [val_neg vs hl.1] at this
  omega
/-- What a value says. -/
theorem VR.one {n : Nat} {t vs : List Int} (h : VR n t vs) {l : Int} (hl : Lit n l) (hv : val vs l = 1) : l ∈ t := by
  by_cases h1 : l ∈ t
  · exact h1
  · by_cases h2 : -l ∈ t
    · rw [h.neg hl h2] at hv; omega
    · rw [(h.2 l hl).2 ⟨h1, h2⟩] at hv; omega
theorem VR.mone {n : Nat} {t vs : List Int} (h : VR n t vs) {l : Int} (hl : Lit n l) (hv : val vs l = -1) : -l ∈ t := by
  by_cases h1 : l ∈ t
  · rw [(h.2 l hl).1 h1] at hv; omega
  · by_cases h2 : -l ∈ t
    · exact h2
    · rw [(h.2 l hl).2 ⟨h1, h2⟩] at hv; omega
theorem VR.open {n : Nat} {t vs : List Int} (h : VR n t vs) {l : Int} (hl : Lit n l) (hv : val vs l = 0) : Opn t l := by
  refine ⟨fun h1 => ?_, fun h1 => ?_⟩
  · rw [(h.2 l hl).1 h1] at hv; omega
  · rw [h.neg hl h1] at hv; omega
theorem VR.three {n : Nat} {t vs : List Int} (h : VR n t vs) {l : Int} (hl : Lit n l) : val vs l = 1 ∨ val vs l = 0 ∨ val vs l = -1 := by
  by_cases h1 : l ∈ t
  · exact .inl ((h.2 l hl).1 h1)
  · by_cases h2 : -l ∈ t
    · exact .inr (.inr (h.neg hl h2))
    · exact .inr (.inl ((h.2 l hl).2 ⟨h1, h2⟩))
theorem VR.put {n : Nat} {t vs : List Int} (h : VR n t vs) {l : Int} (hl : Lit n l) (hop : Opn t l) : VR n (t ++ [l]) (put vs l) := by
  have h1 : l.natAbs < vs.length := by have := hl.vr; unfold vr at this; rw [h.1]; omega
  have oth : ∀ m, m ≠ l → m ≠ -l → val (Go.Proofs.Ytonfbnbkhpabbaa.put vs l) m = val vs m := fun m e1 e2 => by
    have h2 : m.natAbs ≠ l.natAbs := by omega
    unfold Go.Proofs.Ytonfbnbkhpabbaa.put
    by_cases h0 : m < 0
    · rw [val_negl h0, val_negl h0, getD_set _ _ _ _ h1, if_neg h2]
    · rw [val_pos h0, val_pos h0, getD_set _ _ _ _ h1, if_neg h2]
  have same : val (Go.Proofs.Ytonfbnbkhpabbaa.put vs l) l = 1 := by
    unfold Go.Proofs.Ytonfbnbkhpabbaa.put
    by_cases h0 : l < 0
    · rw [val_negl h0, getD_set _ _ _ _ h1, if_pos rfl]; unfold sgn; rw [if_pos h0]; rfl
    · rw [val_pos h0, getD_set _ _ _ _ h1, if_pos rfl]; unfold sgn; rw [if_neg h0]
  refine ⟨by unfold Go.Proofs.Ytonfbnbkhpabbaa.put; simpa using h.1, fun m hm => ⟨fun hmt => ?_, fun ho => ?_⟩⟩
  · by_cases e : m = l
    · subst e; exact same
    · have hmt' : m ∈ t := by
        rcases List.mem_append.1 hmt with h2 | h2
        · exact h2
        · simp at h2; exact absurd h2 e
      by_cases e2 : m = -l
      · subst e2; exact absurd hmt' hop.2
      · rw [oth m e e2]; exact (h.2 m hm).1 hmt'
  · have e1 : m ≠ l := fun e => ho.1 (by simp [e])
    have e2 : m ≠ -l := fun e => ho.2 (by simp [e])
    rw [oth m e1 e2]
    exact (h.2 m hm).2 ⟨fun hx => ho.1 (List.mem_append_left _ hx), fun hx => ho.2 (List.mem_append_left _ hx)⟩
/-- So many variables are open again. -/
def wipe (vs : List Int) (ls : List Int) : List Int := ls.foldl (fun vs l => vs.set l.natAbs 0) vs
theorem wipe_len : ∀ (ls vs : List Int), (wipe vs ls).length = vs.length
  | [], _ => rfl
  | l :: r, vs => by
    show (wipe (vs.set l.natAbs 0) r).length = _
    rw [wipe_len r]; simp
theorem wipe_get : ∀ (ls vs : List Int) (i : Nat), (wipe vs ls).getD i 0 = if i ∈ ls.map Int.natAbs then 0 else vs.getD i 0
  | [], vs, i => by simp [wipe]
  | l :: r, vs, i => by
    show (wipe (vs.set l.natAbs 0) r).getD i 0 = _
    rw [wipe_get r]
    by_cases h : i ∈ r.map Int.natAbs
    · rw [if_pos h, if_pos (by rw [List.map_cons]; exact List.mem_cons_of_mem _ h)]
    · rw [if_neg h]
      by_cases e : i = l.natAbs
      · rw [if_pos (by rw [List.map_cons, e]; exact List.mem_cons_self)]
        rw [List.getD_eq_getElem?_getD]
        by_cases hi : l.natAbs < vs.length
        · rw [e, List.getElem?_set_self hi]; rfl
        · rw [List.getElem?_eq_none (by simp; omega)]; rfl
      · rw [if_neg (by rw [List.map_cons, List.mem_cons]; exact fun h2 => h2.elim e h), List.getD_eq_getElem?_getD, List.getElem?_set_ne (Ne.symm e), List.getD_eq_getElem?_getD]
theorem VR.wipe {n : Nat} {t vs : List Int} (h : VR n t vs) (ht : TrOK n t) (k : Nat) : VR n (t.take k) (wipe vs (t.drop k)) := by
  have hv : ∀ l, val (Go.Proofs.Ytonfbnbkhpabbaa.wipe vs (t.drop k)) l = if l.natAbs ∈ (t.drop k).map Int.natAbs then 0 else val vs l := fun l => by
    by_cases h0 : l < 0
    · rw [val_negl h0, val_negl h0, wipe_get]; split <;> rfl
    · rw [val_pos h0, val_pos h0, wipe_get]
  have hsplit : t = t.take k ++ t.drop k := (List.take_append_drop k t).symm
  have hnd : ∀ l ∈ t.take k, l.natAbs ∉ (t.drop k).map Int.natAbs := fun l hl hd => by
    have h1 := ht.nd
    rw [hsplit, List.map_append, List.nodup_append] at h1
    exact h1.2.2 _ (List.mem_map_of_mem hl) _ hd rfl
  refine ⟨by rw [wipe_len]; exact h.1, fun l hl => ⟨fun hm => ?_, fun ho => ?_⟩⟩
  · rw [hv, if_neg (hnd l hm)]
    exact (h.2 l hl).1 (List.mem_of_mem_take hm)
  · rw [hv]
    split
    · rfl
    · rename_i hd
      refine (h.2 l hl).2 ⟨fun hm => ?_, fun hm => ?_⟩
      · rw [hsplit] at hm
        rcases List.mem_append.1 hm with h1 | h1
        · exact ho.1 h1
        · exact hd (List.mem_map_of_mem h1)
      · rw [hsplit] at hm
        rcases List.mem_append.1 hm with h1 | h1
        · exact ho.2 h1
        · refine hd ?_
          have := List.mem_map_of_mem (f := Int.natAbs) h1
          rwa [Int.natAbs_neg] at this
/-- The first two literals of a clause. -/
def w0 (c : List Int) : Int := c.getD 0 0
def w1 (c : List Int) : Int := c.getD 1 0
/-- Clauses by their names, and who watches which literal. -/
structure Wt (n : Nat) (ids : List Nat) (cl : Nat → List Int) (ws : Int → List Nat) : Prop where
  ok : ∀ i ∈ ids, 2 ≤ (cl i).length ∧ (cl i).Nodup ∧ Lits n (cl i)
  up : ∀ i ∈ ids, i ∈ ws (w0 (cl i)) ∧ i ∈ ws (w1 (cl i))
  dn : ∀ l, ∀ i ∈ ws l, i ∈ ids ∧ (l = w0 (cl i) ∨ l = w1 (cl i))
  nd : ∀ l, (ws l).Nodup
/-- The clauses stand for others. -/
structure Rp (Cl : List (List Int)) (t0 : List Int) (ids : List Nat) (cl : Nat → List Int) : Prop where
  src : ∀ i ∈ ids, ∃ c ∈ Cl, (∀ l ∈ cl i, l ∈ c) ∧ ∀ l ∈ c, l ∈ cl i ∨ -l ∈ t0
  rep : ∀ c ∈ Cl, (∃ l ∈ c, l ∈ t0) ∨ ∃ i ∈ ids, (∀ l ∈ cl i, l ∈ c) ∧ ∀ l ∈ c, l ∈ cl i ∨ -l ∈ t0
/-- One that watches a literal which became false has another that is true. -/
def Wa (ids : List Nat) (cl : Nat → List Int) (t fp : List Int) : Prop := ∀ i ∈ ids, (-(w0 (cl i)) ∈ fp → w1 (cl i) ∈ t) ∧ (-(w1 (cl i)) ∈ fp → w0 (cl i) ∈ t)
/-- All that was assumed follows. -/
def Sn (Cl : List (List Int)) (A t : List Int) : Prop := ∀ l ∈ t, Der Cl A l
theorem mem_w0 {c : List Int} (h : 2 ≤ c.length) : w0 c ∈ c := by
  unfold w0
  rw [List.getD_eq_getElem?_getD, List.getElem?_eq_getElem (by omega)]
  exact List.getElem_mem _
theorem mem_w1 {c : List Int} (h : 2 ≤ c.length) : w1 c ∈ c := by
  unfold w1
  rw [List.getD_eq_getElem?_getD, List.getElem?_eq_getElem (by omega)]
  exact List.getElem_mem _
theorem w_ne {c : List Int} (h : 2 ≤ c.length) (hn : c.Nodup) : w0 c ≠ w1 c := by
  unfold w0 w1
  rw [List.getD_eq_getElem?_getD, List.getD_eq_getElem?_getD, List.getElem?_eq_getElem (by omega), List.getElem?_eq_getElem (by omega)]
  exact (List.pairwise_iff_getElem.1 hn) 0 1 (by omega) (by omega) (by omega)
/-- One clause says that a literal follows. -/
theorem Rp.unit {n : Nat} {Cl : List (List Int)} {A t0 t : List Int} {ids : List Nat} {cl : Nat → List Int} (h : Rp Cl t0 ids cl) (h0 : ∀ l ∈ t0, l ∈ t) (hs : Sn Cl A t) {i : Nat} (hi : i ∈ ids) {l : Int} (hl : l ∈ cl i) (ho : ∀ m ∈ cl i, m = l ∨ -m ∈ t) : Der Cl A l := by
  obtain ⟨c, hc, h1, h2⟩ := h.src i hi
  refine .step hc (h1 l hl) (fun m hm hne => hs _ ?_)
  rcases h2 m hm with h3 | h3
  · exact (ho m h3).resolve_left hne
  · exact h0 _ h3
theorem Rp.fail {n : Nat} {Cl : List (List Int)} {A t0 t : List Int} {ids : List Nat} {cl : Nat → List Int} (h : Rp Cl t0 ids cl) (h0 : ∀ l ∈ t0, l ∈ t) (hs : Sn Cl A t) {i : Nat} (hi : i ∈ ids) {l : Int} (hl : l ∈ cl i) (ho : ∀ m ∈ cl i, -m ∈ t) : Con Cl A :=
  .inr ⟨l, h.unit (n := n) h0 hs hi hl (fun m hm => .inr (ho m hm)), hs _ (ho l hl)⟩
/-- Nothing more follows: there is no contradiction. -/
theorem no_con {n : Nat} {Cl : List (List Int)} {A t0 t : List Int} {ids : List Nat} {cl : Nat → List Int} {ws : Int → List Nat} (hw : Wt n ids cl ws) (h : Rp Cl t0 ids cl) (h0 : ∀ l ∈ t0, l ∈ t) (ht : TrOK n t) (ha : Wa ids cl t t) (hC : ∀ c ∈ Cl, Lits n c) (hL : Lits n A) (hA : ∀ l ∈ A, l ∈ t) : ¬ Con Cl A := by
  have key : ∀ c ∈ Cl, (∃ l ∈ c, l ∈ t) ∨ ∃ l ∈ c, ∃ m ∈ c, l ≠ m ∧ -l ∉ t ∧ -m ∉ t := fun c hc => by
    rcases h.rep c hc with ⟨l, h1, h2⟩ | ⟨i, hi, h1, h2⟩
    · exact .inl ⟨l, h1, h0 l h2⟩
    · obtain ⟨k1, k2, k3⟩ := hw.ok i hi
      obtain ⟨a1, a2⟩ := ha i hi
      by_cases e0 : -(w0 (cl i)) ∈ t
      · exact .inl ⟨_, h1 _ (mem_w1 k1), a1 e0⟩
      · by_cases e1 : -(w1 (cl i)) ∈ t
        · exact .inl ⟨_, h1 _ (mem_w0 k1), a2 e1⟩
        · exact .inr ⟨_, h1 _ (mem_w0 k1), _, h1 _ (mem_w1 k1), w_ne k1 k2, e0, e1⟩
  have der : ∀ l, Der Cl A l → l ∈ t := fun l hd => by
    induction hd with
    | base h1 => exact hA _ h1
    | @step c l h1 h2 _ ih =>
      rcases key c h1 with ⟨m, hm, hv⟩ | ⟨m, hm, q, hq, hne, h3, h4⟩
      · by_cases e : m = l
        · subst e; exact hv
        · exact absurd (ih m hm e) (ht.not hv)
      · by_cases e : m = l
        · exact absurd (ih q hq (fun e2 => hne (e.trans e2.symm))) h4
        · exact absurd (ih m hm e) h3
  rintro (h1 | ⟨l, h1, h2⟩)
  · rcases key [] h1 with ⟨m, hm, _⟩ | ⟨m, hm, _⟩ <;> cases hm
  · exact ht.not (der l h1) (der _ h2)
end Go.Proofs.Ytonfbnbkhpabbaa
namespace Go.Proofs.Ytonfbnbkhpabbaa
set_option linter.unusedVariables false
def upC (cl : Nat → List Int) (i : Nat) (c : List Int) : Nat → List Int := fun j => if j = i then c else cl j
def upW (ws : Int → List Nat) (l : Int) (r : List Nat) : Int → List Nat := fun m => if m = l then r else ws m
theorem upC_same (cl : Nat → List Int) (i : Nat) (c : List Int) : upC cl i c i = c := by unfold upC; rw [if_pos rfl]
theorem upC_other {cl : Nat → List Int} {i j : Nat} {c : List Int} (h : j ≠ i) : upC cl i c j = cl j := by unfold upC; rw [if_neg h]
theorem upW_same (ws : Int → List Nat) (l : Int) (r : List Nat) : upW ws l r l = r := by unfold upW; rw [if_pos rfl]
theorem upW_other {ws : Int → List Nat} {l m : Int} {r : List Nat} (h : m ≠ l) : upW ws l r m = ws m := by unfold upW; rw [if_neg h]
/-- The same literals, in another order. -/
structure Same (c c' : List Int) : Prop where
  len : c'.length = c.length
  nd : c.Nodup → c'.Nodup
  mem : ∀ l, l ∈ c' ↔ l ∈ c
theorem Rp.same {Cl : List (List Int)} {t0 : List Int} {ids : List Nat} {cl : Nat → List Int} (h : Rp Cl t0 ids cl) {i : Nat} {c' : List Int} (hs : Same (cl i) c') : Rp Cl t0 ids (upC cl i c') := by
  have hm : ∀ j l, l ∈ upC cl i c' j ↔ l ∈ cl j := fun j l => by
    by_cases e : j = i
    · subst e; rw [upC_same]; exact hs.mem l
    · rw [upC_other e]
  refine ⟨fun j hj => ?_, fun c hc => ?_⟩
  · obtain ⟨c, h1, h2, h3⟩ := h.src j hj
    exact ⟨c, h1, fun l hl => h2 l ((hm j l).1 hl), fun l hl => (h3 l hl).imp_left (hm j l).2⟩
  · rcases h.rep c hc with h1 | ⟨j, hj, h2, h3⟩
    · exact .inl h1
    · exact .inr ⟨j, hj, fun l hl => h2 l ((hm j l).1 hl), fun l hl => (h3 l hl).imp_left (hm j l).2⟩
/-- The two watched literals change places. -/
theorem Wt.swap {n : Nat} {ids : List Nat} {cl : Nat → List Int} {ws : Int → List Nat} (h : Wt n ids cl ws) {i : Nat} {c' : List Int} (hs : Same (cl i) c') (e0 : w0 c' = w1 (cl i)) (e1 : w1 c' = w0 (cl i)) : Wt n ids (upC cl i c') ws := by
  refine ⟨fun j hj => ?_, fun j hj => ?_, fun l j hj => ?_, h.nd⟩
  · obtain ⟨h1, h2, h3⟩ := h.ok j hj
    by_cases e : j = i
    · subst e; rw [upC_same]; exact ⟨by rw [hs.len]; exact h1, hs.nd h2, fun l hl => h3 l ((hs.mem l).1 hl)⟩
    · rw [upC_other e]; exact ⟨h1, h2, h3⟩
  · obtain ⟨h1, h2⟩ := h.up j hj
    by_cases e : j = i
    · subst e; rw [upC_same, e0, e1]; exact ⟨h2, h1⟩
    · rw [upC_other e]; exact ⟨h1, h2⟩
  · obtain ⟨h1, h2⟩ := h.dn l j hj
    refine ⟨h1, ?_⟩
    by_cases e : j = i
    · subst e; rw [upC_same, e0, e1]; exact h2.symm
    · rw [upC_other e]; exact h2
theorem Wa.swap {ids : List Nat} {cl : Nat → List Int} {t fp : List Int} (h : Wa ids cl t fp) {i : Nat} {c' : List Int} (e0 : w0 c' = w1 (cl i)) (e1 : w1 c' = w0 (cl i)) : Wa ids (upC cl i c') t fp := by
  intro j hj
  obtain ⟨h1, h2⟩ := h j hj
  by_cases e : j = i
  · subst e; rw [upC_same, e0, e1]; exact ⟨h2, h1⟩
  · rw [upC_other e]; exact ⟨h1, h2⟩
/-- A clause watches another literal. -/
theorem Wt.move {n : Nat} {ids : List Nat} {cl : Nat → List Int} {ws : Int → List Nat} (h : Wt n ids cl ws) {i : Nat} {c' : List Int} {gone lit : Int} {K R : List Nat} (hi : i ∈ ids) (hs : Same (cl i) c') (e0 : w0 c' = w0 (cl i)) (e1 : w1 c' = lit) (hg : w1 (cl i) = gone) (hw : ws gone = K ++ i :: R) (hn1 : lit ≠ gone) (hn0 : lit ≠ w0 (cl i)) :
    Wt n ids (upC cl i c') (upW (upW ws gone (K ++ R)) lit (ws lit ++ [i])) := by
  have hnd := h.nd gone
  rw [hw] at hnd
  have hiKR : i ∉ K ++ R := by
    have h1 := List.nodup_append.1 hnd
    intro hm
    rcases List.mem_append.1 hm with h2 | h2
    · exact h1.2.2 i h2 i List.mem_cons_self rfl
    · exact (List.nodup_cons.1 h1.2.1).1 h2
  have hilit : i ∉ ws lit := fun hm => by
    rcases (h.dn lit i hm).2 with e | e
    · exact hn0 e
    · exact hn1 (e.trans hg)
  obtain ⟨k1, k2, k3⟩ := h.ok i hi
  have hw0g : w0 (cl i) ≠ gone := fun e => w_ne k1 k2 (e.trans hg.symm)
  have hWg : upW (upW ws gone (K ++ R)) lit (ws lit ++ [i]) gone = K ++ R := by rw [upW_other (Ne.symm hn1), upW_same]
  have hWo : ∀ m, m ≠ lit → m ≠ gone → upW (upW ws gone (K ++ R)) lit (ws lit ++ [i]) m = ws m := fun m h1 h2 => by rw [upW_other h1, upW_other h2]
  have hKR : ∀ j, j ≠ i → (j ∈ K ++ R ↔ j ∈ ws gone) := fun j hj => by
    rw [hw]; simp [hj]
  have hin : ∀ m j, j ≠ i → (j ∈ upW (upW ws gone (K ++ R)) lit (ws lit ++ [i]) m ↔ j ∈ ws m) := fun m j hj => by
    by_cases h1 : m = lit
    · subst h1; rw [upW_same]; simp [hj]
    · by_cases h2 : m = gone
      · subst h2; rw [hWg]; exact hKR j hj
      · rw [hWo m h1 h2]
  refine ⟨fun j hj => ?_, fun j hj => ?_, fun m j hj => ?_, fun m => ?_⟩
  · by_cases e : j = i
    · subst e; rw [upC_same]; exact ⟨by rw [hs.len]; exact k1, hs.nd k2, fun l hl => k3 l ((hs.mem l).1 hl)⟩
    · rw [upC_other e]; exact h.ok j hj
  · by_cases e : j = i
    · subst e
      rw [upC_same, e0, e1]
      refine ⟨?_, by rw [upW_same]; simp⟩
      rw [hWo _ (Ne.symm hn0) hw0g]
      exact (h.up j hj).1
    · rw [upC_other e]
      exact ⟨(hin _ j e).2 (h.up j hj).1, (hin _ j e).2 (h.up j hj).2⟩
  · by_cases e : j = i
    · subst e
      refine ⟨hi, ?_⟩
      rw [upC_same, e0, e1]
      by_cases h1 : m = lit
      · exact .inr h1
      · by_cases h2 : m = gone
        · subst h2; rw [hWg] at hj; exact absurd hj hiKR
        · rw [hWo m h1 h2] at hj
          rcases (h.dn m j hj).2 with h3 | h3
          · exact .inl h3
          · exact absurd (h3.trans hg) h2
    · have := h.dn m j ((hin m j e).1 hj)
      rw [upC_other e]; exact this
  · by_cases h1 : m = lit
    · subst h1
      rw [upW_same, List.nodup_append]
      exact ⟨h.nd m, by simp, fun a ha b hb => by simp at hb; subst hb; exact fun e => hilit (e ▸ ha)⟩
    · by_cases h2 : m = gone
      · subst h2
        rw [hWg]
        refine hnd.sublist ?_
        exact List.Sublist.append_left (List.sublist_cons_self i R) K
      · rw [hWo m h1 h2]; exact h.nd m
theorem Wa.move {n : Nat} {ids : List Nat} {cl : Nat → List Int} {t tt fp : List Int} (h : Wa ids cl tt fp) (ht : TrOK n t) (h1 : ∀ l ∈ tt, l ∈ t) (h2 : ∀ l ∈ fp, l ∈ t) {i : Nat} {c' : List Int} {gone lit : Int} (hi : i ∈ ids) (e0 : w0 c' = w0 (cl i)) (e1 : w1 c' = lit) (hg : w1 (cl i) = gone) (hgt : -gone ∈ t) (hlt : -lit ∉ t) : Wa ids (upC cl i c') tt fp := by
  intro j hj
  by_cases e : j = i
  · subst e
    rw [upC_same, e0, e1]
    refine ⟨fun hf => ?_, fun hf => absurd (h2 _ hf) hlt⟩
    have := (h j hj).1 hf
    rw [hg] at this
    exact absurd hgt (ht.not (h1 _ this))
  · rw [upC_other e]; exact h j hj
theorem Wa.more {ids : List Nat} {cl : Nat → List Int} {t fp : List Int} (h : Wa ids cl t fp) (x : Int) : Wa ids cl (t ++ [x]) fp :=
  fun j hj => ⟨fun hf => List.mem_append_left _ ((h j hj).1 hf), fun hf => List.mem_append_left _ ((h j hj).2 hf)⟩
/-- All that watch a literal were looked at. -/
theorem Wa.done {n : Nat} {ids : List Nat} {cl : Nat → List Int} {ws : Int → List Nat} {t fp : List Int} {gone : Int} (hw : Wt n ids cl ws) (h : Wa ids cl t fp) (hk : ∀ i ∈ ws gone, (w0 (cl i) = gone → w1 (cl i) ∈ t) ∧ (w1 (cl i) = gone → w0 (cl i) ∈ t)) : Wa ids cl t (fp ++ [-gone]) := by
  intro j hj
  obtain ⟨u0, u1⟩ := hw.up j hj
  refine ⟨fun hf => ?_, fun hf => ?_⟩
  · rcases List.mem_append.1 hf with h1 | h1
    · exact (h j hj).1 h1
    · have e : w0 (cl j) = gone := by simp at h1; omega
      rw [e] at u0
      exact (hk j u0).1 e
  · rcases List.mem_append.1 hf with h1 | h1
    · exact (h j hj).2 h1
    · have e : w1 (cl j) = gone := by simp at h1; omega
      rw [e] at u1
      exact (hk j u1).2 e
theorem Sn.snoc {Cl : List (List Int)} {A t : List Int} (h : Sn Cl A t) {x : Int} (hx : Der Cl A x) : Sn Cl A (t ++ [x]) := by
  intro l hl
  rcases List.mem_append.1 hl with h1 | h1
  · exact h l h1
  · simp at h1; subst h1; exact hx
/-- What is open of a clause, each once. -/
def opens (P : Int → Bool) : List Int → List Int → List Int
  | acc, [] => acc
  | acc, l :: c => opens P (if P l && !acc.contains l then acc ++ [l] else acc) c
theorem opens_spec (P : Int → Bool) : ∀ (c acc : List Int), acc.Nodup → (opens P acc c).Nodup ∧ ∀ l, l ∈ opens P acc c ↔ l ∈ acc ∨ (l ∈ c ∧ P l = true)
  | [], acc, h => ⟨h, fun l => by simp [opens]⟩
  | x :: c, acc, h => by
    rw [opens]
    by_cases hx : (P x && !acc.contains x) = true
    · rw [if_pos hx]
      rw [Bool.and_eq_true, Bool.not_eq_true', List.contains_eq_mem, decide_eq_false_iff_not] at hx
      have hnd : (acc ++ [x]).Nodup := List.nodup_append.2 ⟨h, by simp, fun a ha b hb => by simp at hb; subst hb; exact fun e => hx.2 (e ▸ ha)⟩
      obtain ⟨h1, h2⟩ := opens_spec P c (acc ++ [x]) hnd
      refine ⟨h1, fun l => ?_⟩
      rw [h2]
      simp only [List.mem_append, List.mem_cons, List.not_mem_nil, or_false]
      constructor
      · rintro ((h3 | h3) | h3)
        · exact .inl h3
        · exact .inr ⟨.inl h3, h3 ▸ hx.1⟩
        · exact .inr ⟨.inr h3.1, h3.2⟩
      · rintro (h3 | ⟨h3 | h3, h4⟩)
        · exact .inl (.inl h3)
        · exact .inl (.inr h3)
        · exact .inr ⟨h3, h4⟩
    · rw [if_neg hx]
      obtain ⟨h1, h2⟩ := opens_spec P c acc h
      refine ⟨h1, fun l => ?_⟩
      rw [h2]
      simp only [List.mem_cons]
      constructor
      · rintro (h3 | h3)
        · exact .inl h3
        · exact .inr ⟨.inr h3.1, h3.2⟩
      · rintro (h3 | ⟨h3 | h3, h4⟩)
        · exact .inl h3
        · subst h3
          rw [Bool.and_eq_true, Bool.not_eq_true', List.contains_eq_mem, decide_eq_false_iff_not] at hx
          by_cases h5 : l ∈ acc
          · exact .inl h5
          · exact absurd ⟨h4, h5⟩ hx
        · exact .inr ⟨h3, h4⟩
theorem opens_snoc (P : Int → Bool) : ∀ (c acc : List Int) (x : Int), opens P acc (c ++ [x]) = (if P x && !(opens P acc c).contains x then opens P acc c ++ [x] else opens P acc c)
  | [], acc, x => by simp [opens]
  | y :: c, acc, x => by rw [List.cons_append, opens, opens, opens_snoc P c]
/-- A clause is put to the others. -/
theorem Wt.add {n : Nat} {ids : List Nat} {cl : Nat → List Int} {ws : Int → List Nat} (h : Wt n ids cl ws) {i : Nat} {c : List Int} (hi : i ∉ ids) (h2 : 2 ≤ c.length) (hn : c.Nodup) (hl : Lits n c) : Wt n (ids ++ [i]) (upC cl i c) (upW (upW ws (w0 c) (ws (w0 c) ++ [i])) (w1 c) (ws (w1 c) ++ [i])) := by
  have hne := w_ne h2 hn
  have hin : ∀ m j, j ≠ i → (j ∈ upW (upW ws (w0 c) (ws (w0 c) ++ [i])) (w1 c) (ws (w1 c) ++ [i]) m ↔ j ∈ ws m) := fun m j hj => by
    by_cases h1 : m = w1 c
    · subst h1; rw [upW_same]; simp [hj]
    · rw [upW_other h1]
      by_cases h3 : m = w0 c
      · subst h3; rw [upW_same]; simp [hj]
      · rw [upW_other h3]
  have hno : ∀ m, i ∉ ws m := fun m hm => hi (h.dn m i hm).1
  refine ⟨fun j hj => ?_, fun j hj => ?_, fun m j hj => ?_, fun m => ?_⟩
  · rcases List.mem_append.1 hj with h1 | h1
    · rw [upC_other (show j ≠ i from fun e => hi (e ▸ h1))]; exact h.ok j h1
    · simp at h1; subst h1; rw [upC_same]; exact ⟨h2, hn, hl⟩
  · rcases List.mem_append.1 hj with h1 | h1
    · have e : j ≠ i := fun e => hi (e ▸ h1)
      rw [upC_other e]
      exact ⟨(hin _ j e).2 (h.up j h1).1, (hin _ j e).2 (h.up j h1).2⟩
    · simp at h1; subst h1
      rw [upC_same]
      refine ⟨?_, by rw [upW_same]; simp⟩
      rw [upW_other hne, upW_same]; simp
  · by_cases e : j = i
    · subst e
      refine ⟨by simp, ?_⟩
      rw [upC_same]
      by_cases h1 : m = w1 c
      · exact .inr h1
      · rw [upW_other h1] at hj
        by_cases h3 : m = w0 c
        · exact .inl h3
        · rw [upW_other h3] at hj
          exact absurd hj (hno m)
    · have := h.dn m j ((hin m j e).1 hj)
      rw [upC_other e]
      exact ⟨List.mem_append_left _ this.1, this.2⟩
  · have hb : ∀ m, (ws m ++ [i]).Nodup := fun m => List.nodup_append.2 ⟨h.nd m, by simp, fun a ha b hb => by simp at hb; subst hb; exact fun e => hno m (e ▸ ha)⟩
    by_cases h1 : m = w1 c
    · subst h1; rw [upW_same]; exact hb _
    · rw [upW_other h1]
      by_cases h3 : m = w0 c
      · subst h3; rw [upW_same]; exact hb _
      · rw [upW_other h3]; exact h.nd m
theorem Wa.add {ids : List Nat} {cl : Nat → List Int} {t fp : List Int} (h : Wa ids cl t fp) {i : Nat} {c : List Int} (hi : i ∉ ids) (h0 : -(w0 c) ∉ fp) (h1 : -(w1 c) ∉ fp) : Wa (ids ++ [i]) (upC cl i c) t fp := by
  intro j hj
  rcases List.mem_append.1 hj with h2 | h2
  · rw [upC_other (show j ≠ i from fun e => hi (e ▸ h2))]; exact h j h2
  · simp at h2; subst h2; rw [upC_same]
    exact ⟨fun hf => absurd hf h0, fun hf => absurd hf h1⟩
theorem Rp.add {Cl : List (List Int)} {t0 : List Int} {ids : List Nat} {cl : Nat → List Int} (h : Rp Cl t0 ids cl) {i : Nat} {c s : List Int} (hi : i ∉ ids) (h1 : ∀ l ∈ s, l ∈ c) (h2 : ∀ l ∈ c, l ∈ s ∨ -l ∈ t0) : Rp (Cl ++ [c]) t0 (ids ++ [i]) (upC cl i s) := by
  refine ⟨fun j hj => ?_, fun d hd => ?_⟩
  · rcases List.mem_append.1 hj with h3 | h3
    · rw [upC_other (show j ≠ i from fun e => hi (e ▸ h3))]
      obtain ⟨d, k1, k2, k3⟩ := h.src j h3
      exact ⟨d, List.mem_append_left _ k1, k2, k3⟩
    · simp at h3; subst h3; rw [upC_same]
      exact ⟨c, by simp, h1, h2⟩
  · rcases List.mem_append.1 hd with h3 | h3
    · rcases h.rep d h3 with k | ⟨j, hj, k2, k3⟩
      · exact .inl k
      · refine .inr ⟨j, List.mem_append_left _ hj, ?_⟩
        rw [upC_other (show j ≠ i from fun e => hi (e ▸ hj))]
        exact ⟨k2, k3⟩
    · simp at h3; subst h3
      exact .inr ⟨i, by simp, by rw [upC_same]; exact ⟨h1, h2⟩⟩
theorem Rp.more {Cl : List (List Int)} {t0 t1 : List Int} {ids : List Nat} {cl : Nat → List Int} (h : Rp Cl t0 ids cl) (h0 : ∀ l ∈ t0, l ∈ t1) : Rp Cl t1 ids cl := by
  refine ⟨fun j hj => ?_, fun d hd => ?_⟩
  · obtain ⟨c, k1, k2, k3⟩ := h.src j hj
    exact ⟨c, k1, k2, fun l hl => (k3 l hl).imp_right (h0 _)⟩
  · rcases h.rep d hd with ⟨l, k1, k2⟩ | ⟨j, hj, k2, k3⟩
    · exact .inl ⟨l, k1, h0 l k2⟩
    · exact .inr ⟨j, hj, k2, fun l hl => (k3 l hl).imp_right (h0 _)⟩
theorem Rp.done {Cl : List (List Int)} {t0 : List Int} {ids : List Nat} {cl : Nat → List Int} (h : Rp Cl t0 ids cl) {c : List Int} (hc : ∃ l ∈ c, l ∈ t0) : Rp (Cl ++ [c]) t0 ids cl := by
  refine ⟨fun j hj => ?_, fun d hd => ?_⟩
  · obtain ⟨d, k1, k2, k3⟩ := h.src j hj
    exact ⟨d, List.mem_append_left _ k1, k2, k3⟩
  · rcases List.mem_append.1 hd with h3 | h3
    · exact h.rep d h3
    · simp at h3; subst h3; exact .inl hc
end Go.Proofs.Ytonfbnbkhpabbaa
