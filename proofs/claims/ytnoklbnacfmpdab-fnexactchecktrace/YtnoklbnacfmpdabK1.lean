/- Clauses that watch two of their literals: what is kept. -/
import Derived.Test.YtnoklbnacfmpdabK0
namespace Go.Proofs.Ytnoklbnacfmpdab
set_option linter.unusedVariables false
/-- What was assumed, in order: each variable once. -/
structure TrOK (n : Nat) (t : List Int) : Prop where
  lits : Lits n t
  nd : (t.map Int.natAbs).Nodup
theorem TrOK.not {n : Nat} {t : List Int} (h : TrOK n t) {l : Int} (h1 : l ∈ t) : -l ∉ t := by
  intro h2
  have hl0 := (h.lits l h1).1
  obtain ⟨i, hi, e1⟩ := List.mem_iff_getElem.1 h1
  obtain ⟨j, hj, e2⟩ := List.mem_iff_getElem.1 h2
  have hij : i ≠ j := by
    intro e; subst e
    rw [e1] at e2; omega
  have e : (t.map Int.natAbs)[i]'(by simpa using hi) = (t.map Int.natAbs)[j]'(by simpa using hj) := by
    rw [List.getElem_map, List.getElem_map, e1, e2, Int.natAbs_neg]
  have hp := List.pairwise_iff_getElem.1 h.nd
  rcases Nat.lt_or_gt_of_ne hij with h3 | h3
  · exact hp i j _ _ h3 e
  · exact hp j i _ _ h3 e.symm
/-- A literal that is open. -/
def Opn (t : List Int) (l : Int) : Prop := l ∉ t ∧ -l ∉ t
theorem TrOK.snoc {n : Nat} {t : List Int} (h : TrOK n t) {l : Int} (hl : Lit n l) (ho : Opn t l) : TrOK n (t ++ [l]) := by
  refine ⟨fun m hm => ?_, ?_⟩
  · rcases List.mem_append.1 hm with h1 | h1
    · exact h.lits m h1
    · simp at h1; subst h1; exact hl
  · rw [List.map_append, List.nodup_append]
    refine ⟨h.nd, by simp, fun a ha b hb => ?_⟩
    simp at hb; subst hb
    intro e; subst e
    obtain ⟨m, hm, e⟩ := List.mem_map.1 ha
    have : m = l ∨ m = -l := by omega
    rcases this with e | e
    · subst e; exact ho.1 hm
    · subst e; exact ho.2 hm
theorem nodup_bound : ∀ (n : Nat) (xs : List Nat), xs.Nodup → (∀ x ∈ xs, x < n) → xs.length ≤ n
  | 0, xs, _, h => by
    cases xs with
    | nil => simp
    | cons x r => exact absurd (h x List.mem_cons_self) (Nat.not_lt_zero _)
  | n + 1, xs, hn, h => by
    by_cases hm : n ∈ xs
    · have h1 := nodup_bound n (xs.erase n) (hn.erase n) (fun x hx => by
        have h2 := h x (List.mem_of_mem_erase hx)
        have h3 : x ≠ n := fun e => by subst e; exact (List.Nodup.not_mem_erase hn) hx
        omega)
      have h2 := List.length_erase_of_mem hm
      omega
    · have := nodup_bound n xs hn (fun x hx => by
        have h2 := h x hx
        have h3 : x ≠ n := fun e => hm (e ▸ hx)
        omega)
      omega
theorem TrOK.len {n : Nat} {t : List Int} (h : TrOK n t) : t.length ≤ n := by
  have h1 := nodup_bound (n + 1) (0 :: t.map Int.natAbs) ?_ ?_
  · simp at h1; exact h1
  · rw [List.nodup_cons]
    refine ⟨fun hx => ?_, h.nd⟩
    obtain ⟨l, hl, e2⟩ := List.mem_map.1 hx
    have := (h.lits l hl).vr
    unfold vr at this
    omega
  · intro x hx
    rcases List.mem_cons.1 hx with e | hx
    · omega
    · obtain ⟨l, hl, e2⟩ := List.mem_map.1 hx
      have := (h.lits l hl).vr
      unfold vr at this
      omega
theorem TrOK.take {n : Nat} {t : List Int} (h : TrOK n t) (k : Nat) : TrOK n (t.take k) :=
  ⟨fun l hl => h.lits l (List.mem_of_mem_take hl), by rw [List.map_take]; exact h.nd.sublist (List.take_sublist _ _)⟩
/-- The values are those of what was assumed. -/
def VR (n : Nat) (t vs : List Int) : Prop := vs.length = n + 1 ∧ ∀ l, Lit n l → (l ∈ t → val vs l = 1) ∧ (Opn t l → val vs l = 0)
theorem VR.zero (n : Nat) : VR n [] (zeros (n + 1)) := ⟨by simp [zeros], fun l hl => ⟨fun h => by simp at h, fun _ => zeros_val _ l⟩⟩
theorem VR.neg {n : Nat} {t vs : List Int} (h : VR n t vs) {l : Int} (hl : Lit n l) (hm : -l ∈ t) : val vs l = -1 := by
  have := (h.2 (-l) hl.neg).1 hm
  rw [val_neg vs hl.1] at this
  omega
/-- What a value says. -/
theorem VR.one {n : Nat} {t vs : List Int} (h : VR n t vs) {l : Int} (hl : Lit n l) (hv : val vs l = 1) : l ∈ t := by
  by_cases h1 : l ∈ t
  · exact h1
  · by_cases h2 : -l ∈ t
    · rw [h.neg hl h2] at hv; omega
    · rw [(h.2 l hl).2 ⟨h1, h2⟩] at hv; omega
theorem VR.mone {n : Nat} {t vs : List Int} (h : VR n t vs) {l : Int} (hl : Lit n l) (hv : val vs l = -1) : -l ∈ t := by
  by_cases h1 : l ∈ t
  · rw [(h.2 l hl).1 h1] at hv; omega
  · by_cases h2 : -l ∈ t
    · exact h2
    · rw [(h.2 l hl).2 ⟨h1, h2⟩] at hv; omega
theorem VR.open {n : Nat} {t vs : List Int} (h : VR n t vs) {l : Int} (hl : Lit n l) (hv : val vs l = 0) : Opn t l := by
  refine ⟨fun h1 => ?_, fun h1 => ?_⟩
  · rw [(h.2 l hl).1 h1] at hv; omega
  · rw [h.neg hl h1] at hv; omega
theorem VR.three {n : Nat} {t vs : List Int} (h : VR n t vs) {l : Int} (hl : Lit n l) : val vs l = 1 ∨ val vs l = 0 ∨ val vs l = -1 := by
  by_cases h1 : l ∈ t
  · exact .inl ((h.2 l hl).1 h1)
  · by_cases h2 : -l ∈ t
    · exact .inr (.inr (h.neg hl h2))
    · exact .inr (.inl ((h.2 l hl).2 ⟨h1, h2⟩))
theorem VR.put {n : Nat} {t vs : List Int} (h : VR n t vs) {l : Int} (hl : Lit n l) (hop : Opn t l) : VR n (t ++ [l]) (put vs l) := by
  have h1 : l.natAbs < vs.length := by have := hl.vr; unfold vr at this; rw [h.1]; omega
  have oth : ∀ m, m ≠ l → m ≠ -l → val (Go.Proofs.Ytnoklbnacfmpdab.put vs l) m = val vs m := fun m e1 e2 => by
    have h2 : m.natAbs ≠ l.natAbs := by omega
    unfold Go.Proofs.Ytnoklbnacfmpdab.put
    by_cases h0 : m < 0
    · rw [val_negl h0, val_negl h0, getD_set _ _ _ _ h1, if_neg h2]
    · rw [val_pos h0, val_pos h0, getD_set _ _ _ _ h1, if_neg h2]
  have same : val (Go.Proofs.Ytnoklbnacfmpdab.put vs l) l = 1 := by
    unfold Go.Proofs.Ytnoklbnacfmpdab.put
    by_cases h0 : l < 0
    · rw [val_negl h0, getD_set _ _ _ _ h1, if_pos rfl]; unfold sgn; rw [if_pos h0]; rfl
    · rw [val_pos h0, getD_set _ _ _ _ h1, if_pos rfl]; unfold sgn; rw [if_neg h0]
  refine ⟨by unfold Go.Proofs.Ytnoklbnacfmpdab.put; simpa using h.1, fun m hm => ⟨fun hmt => ?_, fun ho => ?_⟩⟩
  · by_cases e : m = l
    · subst e; exact same
    · have hmt' : m ∈ t := by
        rcases List.mem_append.1 hmt with h2 | h2
        · exact h2
        · simp at h2; exact absurd h2 e
      by_cases e2 : m = -l
      · subst e2; exact absurd hmt' hop.2
      · rw [oth m e e2]; exact (h.2 m hm).1 hmt'
  · have e1 : m ≠ l := fun e => ho.1 (by simp [e])
    have e2 : m ≠ -l := fun e => ho.2 (by simp [e])
    rw [oth m e1 e2]
    exact (h.2 m hm).2 ⟨fun hx => ho.1 (List.mem_append_left _ hx), fun hx => ho.2 (List.mem_append_left _ hx)⟩
/-- So many variables are open again. -/
def wipe (vs : List Int) (ls : List Int) : List Int := ls.foldl (fun vs l => vs.set l.natAbs 0) vs
theorem wipe_len : ∀ (ls vs : List Int), (wipe vs ls).length = vs.length
  | [], _ => rfl
  | l :: r, vs => by
    show (wipe (vs.set l.natAbs 0) r).length = _
    rw [wipe_len r]; simp
theorem wipe_get : ∀ (ls vs : List Int) (i : Nat), (wipe vs ls).getD i 0 = if i ∈ ls.map Int.natAbs then 0 else vs.getD i 0
  | [], vs, i => by simp [wipe]
  | l :: r, vs, i => by
    show (wipe (vs.set l.natAbs 0) r).getD i 0 = _
    rw [wipe_get r]
    by_cases h : i ∈ r.map Int.natAbs
    · rw [if_pos h, if_pos (by rw [List.map_cons]; exact List.mem_cons_of_mem _ h)]
    · rw [if_neg h]
      by_cases e : i = l.natAbs
      · rw [if_pos (by rw [List.map_cons, e]; exact List.mem_cons_self)]
        rw [List.getD_eq_getElem?_getD]
        by_cases hi : l.natAbs < vs.length
        · rw [e, List.getElem?_set_self hi]; rfl
        · rw [List.getElem?_eq_none (by simp; omega)]; rfl
      · rw [if_neg (by rw [List.map_cons, List.mem_cons]; exact fun h2 => h2.elim e h), List.getD_eq_getElem?_getD, List.getElem?_set_ne (Ne.symm e), List.getD_eq_getElem?_getD]
theorem VR.wipe {n : Nat} {t vs : List Int} (h : VR n t vs) (ht : TrOK n t) (k : Nat) : VR n (t.take k) (wipe vs (t.drop k)) := by
  have hv : ∀ l, val (Go.Proofs.Ytnoklbnacfmpdab.wipe vs (t.drop k)) l = if l.natAbs ∈ (t.drop k).map Int.natAbs then 0 else val vs l := fun l => by
    by_cases h0 : l < 0
    · rw [val_negl h0, val_negl h0, wipe_get]; split <;> rfl
    · rw [val_pos h0, val_pos h0, wipe_get]
  have hsplit : t = t.take k ++ t.drop k := (List.take_append_drop k t).symm
  have hnd : ∀ l ∈ t.take k, l.natAbs ∉ (t.drop k).map Int.natAbs := fun l hl hd => by
    have h1 := ht.nd
    rw [hsplit, List.map_append, List.nodup_append] at h1
    exact h1.2.2 _ (List.mem_map_of_mem hl) _ hd rfl
  refine ⟨by rw [wipe_len]; exact h.1, fun l hl => ⟨fun hm => ?_, fun ho => ?_⟩⟩
  · rw [hv, if_neg (hnd l hm)]
    exact (h.2 l hl).1 (List.mem_of_mem_take hm)
  · rw [hv]
    split
    · rfl
    · rename_i hd
      refine (h.2 l hl).2 ⟨fun hm => ?_, fun hm => ?_⟩
      · rw [hsplit] at hm
        rcases List.mem_append.1 hm with h1 | h1
        · exact ho.1 h1
        · exact hd (List.mem_map_of_mem h1)
      · rw [hsplit] at hm
        rcases List.mem_append.1 hm with h1 | h1
        · exact ho.2 h1
        · refine hd ?_
          have := List.mem_map_of_mem (f := Int.natAbs) h1
          rwa [Int.natAbs_neg] at this
/-- The first two literals of a clause. -/
def w0 (c : List Int) : Int := c.getD 0 0
def w1 (c : List Int) : Int := c.getD 1 0
/-- Clauses by their names, and who watches which literal. -/
structure Wt (n : Nat) (ids : List Nat) (cl : Nat → List Int) (ws : Int → List Nat) : Prop where
  ok : ∀ i ∈ ids, 2 ≤ (cl i).length ∧ (cl i).Nodup ∧ Lits n (cl i)
  up : ∀ i ∈ ids, i ∈ ws (w0 (cl i)) ∧ i ∈ ws (w1 (cl i))
  dn : ∀ l, ∀ i ∈ ws l, i ∈ ids ∧ (l = w0 (cl i) ∨ l = w1 (cl i))
  nd : ∀ l, (ws l).Nodup
/-- The clauses stand for others. -/
structure Rp (Cl : List (List Int)) (t0 : List Int) (ids : List Nat) (cl : Nat → List Int) : Prop where
  src : ∀ i ∈ ids, ∃ c ∈ Cl, (∀ l ∈ cl i, l ∈ c) ∧ ∀ l ∈ c, l ∈ cl i ∨ -l ∈ t0
  rep : ∀ c ∈ Cl, (∃ l ∈ c, l ∈ t0) ∨ ∃ i ∈ ids, (∀ l ∈ cl i, l ∈ c) ∧ ∀ l ∈ c, l ∈ cl i ∨ -l ∈ t0
/-- One that watches a literal which became false has another that is true. -/
def Wa (ids : List Nat) (cl : Nat → List Int) (t fp : List Int) : Prop := ∀ i ∈ ids, (-(w0 (cl i)) ∈ fp → w1 (cl i) ∈ t) ∧ (-(w1 (cl i)) ∈ fp → w0 (cl i) ∈ t)
/-- All that was assumed follows. -/
def Sn (Cl : List (List Int)) (A t : List Int) : Prop := ∀ l ∈ t, Der Cl A l
theorem mem_w0 {c : List Int} (h : 2 ≤ c.length) : w0 c ∈ c := by
  unfold w0
  rw [List.getD_eq_getElem?_getD, List.getElem?_eq_getElem (by omega)]
  exact List.getElem_mem _
theorem mem_w1 {c : List Int} (h : 2 ≤ c.length) : w1 c ∈ c := by
  unfold w1
  rw [List.getD_eq_getElem?_getD, List.getElem?_eq_getElem (by omega)]
  exact List.getElem_mem _
theorem w_ne {c : List Int} (h : 2 ≤ c.length) (hn : c.Nodup) : w0 c ≠ w1 c := by
  unfold w0 w1
  rw [List.getD_eq_getElem?_getD, List.getD_eq_getElem?_getD, List.getElem?_eq_getElem (by omega), List.getElem?_eq_getElem (by omega)]
  exact (List.pairwise_iff_getElem.1 hn) 0 1 (by omega) (by omega) (by omega)
/-- One clause says that a literal follows. -/
theorem Rp.unit {n : Nat} {Cl : List (List Int)} {A t0 t : List Int} {ids : List Nat} {cl : Nat → List Int} (h : Rp Cl t0 ids cl) (h0 : ∀ l ∈ t0, l ∈ t) (hs : Sn Cl A t) {i : Nat} (hi : i ∈ ids) {l : Int} (hl : l ∈ cl i) (ho : ∀ m ∈ cl i, m = l ∨ -m ∈ t) : Der Cl A l := by
  obtain ⟨c, hc, h1, h2⟩ := h.src i hi
  refine .step hc (h1 l hl) (fun m hm hne => hs _ ?_)
  rcases h2 m hm with h3 | h3
  · exact (ho m h3).resolve_left hne
  · exact h0 _ h3
theorem Rp.fail {n : Nat} {Cl : List (List Int)} {A t0 t : List Int} {ids : List Nat} {cl : Nat → List Int} (h : Rp Cl t0 ids cl) (h0 : ∀ l ∈ t0, l ∈ t) (hs : Sn Cl A t) {i : Nat} (hi : i ∈ ids) {l : Int} (hl : l ∈ cl i) (ho : ∀ m ∈ cl i, -m ∈ t) : Con Cl A :=
  .inr ⟨l, h.unit (n := n) h0 hs hi hl (fun m hm => .inr (ho m hm)), hs _ (ho l hl)⟩
/-- Nothing more follows: there is no contradiction. -/
theorem no_con {n : Nat} {Cl : List (List Int)} {A t0 t : List Int} {ids : List Nat} {cl : Nat → List Int} {ws : Int → List Nat} (hw : Wt n ids cl ws) (h : Rp Cl t0 ids cl) (h0 : ∀ l ∈ t0, l ∈ t) (ht : TrOK n t) (ha : Wa ids cl t t) (hC : ∀ c ∈ Cl, Lits n c) (hL : Lits n A) (hA : ∀ l ∈ A, l ∈ t) : ¬ Con Cl A := by
  have key : ∀ c ∈ Cl, (∃ l ∈ c, l ∈ t) ∨ ∃ l ∈ c, ∃ m ∈ c, l ≠ m ∧ -l ∉ t ∧ -m ∉ t := fun c hc => by
    rcases h.rep c hc with ⟨l, h1, h2⟩ | ⟨i, hi, h1, h2⟩
    · exact .inl ⟨l, h1, h0 l h2⟩
    · obtain ⟨k1, k2, k3⟩ := hw.ok i hi
      obtain ⟨a1, a2⟩ := ha i hi
      by_cases e0 : -(w0 (cl i)) ∈ t
      · exact .inl ⟨_, h1 _ (mem_w1 k1), a1 e0⟩
      · by_cases e1 : -(w1 (cl i)) ∈ t
        · exact .inl ⟨_, h1 _ (mem_w0 k1), a2 e1⟩
        · exact .inr ⟨_, h1 _ (mem_w0 k1), _, h1 _ (mem_w1 k1), w_ne k1 k2, e0, e1⟩
  have der : ∀ l, Der Cl A l → l ∈ t := fun l hd => by
    induction hd with
    | base h1 => exact hA _ h1
    | @step c l h1 h2 _ ih =>
      rcases key c h1 with ⟨m, hm, hv⟩ | ⟨m, hm, q, hq, hne, h3, h4⟩
      · by_cases e : m = l
        · subst e; exact hv
        · exact absurd (ih m hm e) (ht.not hv)
      · by_cases e : m = l
        · exact absurd (ih q hq (fun e2 => hne (e.trans e2.symm))) h4
        · exact absurd (ih m hm e) h3
  rintro (h1 | ⟨l, h1, h2⟩)
  · rcases key [] h1 with ⟨m, hm, _⟩ | ⟨m, hm, _⟩ <;> cases hm
  · exact ht.not (der l h1) (der _ h2)
end Go.Proofs.Ytnoklbnacfmpdab
