/- What follows from literals by clauses. -/
namespace Go.Proofs.Ytonfbnbkhpabbaa
set_option linter.unusedVariables false
/-- What follows from what is assumed. -/
inductive Der (Cl : List (List Int)) (A : List Int) : Int → Prop
  | base {l : Int} : l ∈ A → Der Cl A l
  | step {c : List Int} {l : Int} : c ∈ Cl → l ∈ c → (∀ m, m ∈ c → m ≠ l → Der Cl A (-m)) → Der Cl A l
/-- A contradiction follows. -/
def Con (Cl : List (List Int)) (A : List Int) : Prop := [] ∈ Cl ∨ ∃ l, Der Cl A l ∧ Der Cl A (-l)
theorem Der.mono {Cl Cl' : List (List Int)} {A A' : List Int} (hC : ∀ c ∈ Cl, c ∈ Cl') (hA : ∀ l ∈ A, l ∈ A') {l : Int} (h : Der Cl A l) : Der Cl' A' l := by
  induction h with
  | base h => exact .base (hA _ h)
  | step h1 h2 _ ih => exact .step (hC _ h1) h2 ih
theorem Con.mono {Cl Cl' : List (List Int)} {A A' : List Int} (hC : ∀ c ∈ Cl, c ∈ Cl') (hA : ∀ l ∈ A, l ∈ A') (h : Con Cl A) : Con Cl' A' := by
  rcases h with h | ⟨l, h1, h2⟩
  · exact .inl (hC _ h)
  · exact .inr ⟨l, h1.mono hC hA, h2.mono hC hA⟩
/-- The value of a literal. -/
def val (vs : List Int) (l : Int) : Int := if l < 0 then -(vs.getD (-l).toNat 0) else vs.getD l.toNat 0
/-- Values of so many variables. -/
def Vals (n : Nat) (vs : List Int) : Prop := vs.length = n + 1 ∧ ∀ x ∈ vs, x = -1 ∨ x = 0 ∨ x = 1
def Lit (n : Nat) (l : Int) : Prop := l ≠ 0 ∧ -(n : Int) ≤ l ∧ l ≤ (n : Int)
def Lits (n : Nat) (c : List Int) : Prop := ∀ l ∈ c, Lit n l
theorem Lit.neg {n : Nat} {l : Int} (h : Lit n l) : Lit n (-l) := ⟨by have := h.1; omega, by have := h.2.2; omega, by have := h.2.1; omega⟩
/-- The variable of a literal. -/
def vr (l : Int) : Nat := l.natAbs
theorem Lit.vr {n : Nat} {l : Int} (h : Lit n l) : 1 ≤ vr l ∧ vr l ≤ n := by
  obtain ⟨h0, h1, h2⟩ := h
  unfold Go.Proofs.Ytonfbnbkhpabbaa.vr; omega
theorem val_pos {vs : List Int} {l : Int} (h : ¬ l < 0) : val vs l = vs.getD l.natAbs 0 := by
  unfold val; rw [if_neg h]; congr 1; omega
theorem val_negl {vs : List Int} {l : Int} (h : l < 0) : val vs l = -(vs.getD l.natAbs 0) := by
  unfold val; rw [if_pos h]; congr 2; omega
theorem val_neg (vs : List Int) {l : Int} (h : l ≠ 0) : val vs (-l) = -(val vs l) := by
  by_cases h0 : l < 0
  · rw [val_pos (by omega), val_negl h0, Int.natAbs_neg]; omega
  · rw [val_negl (by omega), val_pos h0, Int.natAbs_neg]
theorem Vals.getD {n : Nat} {vs : List Int} (h : Vals n vs) (i : Nat) : vs.getD i 0 = -1 ∨ vs.getD i 0 = 0 ∨ vs.getD i 0 = 1 := by
  rw [List.getD_eq_getElem?_getD]
  cases e : vs[i]? with
  | none => exact .inr (.inl rfl)
  | some x => exact h.2 x (List.mem_of_getElem? e)
theorem Vals.val {n : Nat} {vs : List Int} (h : Vals n vs) (l : Int) : val vs l = -1 ∨ val vs l = 0 ∨ val vs l = 1 := by
  by_cases h0 : l < 0
  · rw [val_negl h0]; have := h.getD l.natAbs; omega
  · rw [val_pos h0]; exact h.getD _
/-- The sign of a literal. -/
def sgn (l : Int) : Int := if l < 0 then -1 else 1
theorem Vals.set {n : Nat} {vs : List Int} (h : Vals n vs) (i : Nat) {x : Int} (hx : x = -1 ∨ x = 0 ∨ x = 1) : Vals n (vs.set i x) := by
  refine ⟨by simpa using h.1, fun y hy => ?_⟩
  rcases List.mem_or_eq_of_mem_set hy with h1 | h1
  · exact h.2 y h1
  · subst h1; exact hx
theorem getD_set (vs : List Int) (i j : Nat) (x : Int) (hi : i < vs.length) : (vs.set i x).getD j 0 = if j = i then x else vs.getD j 0 := by
  rw [List.getD_eq_getElem?_getD, List.getD_eq_getElem?_getD]
  by_cases h : j = i
  · subst h; rw [if_pos rfl, List.getElem?_set_self hi]; rfl
  · rw [if_neg h, List.getElem?_set_ne (Ne.symm h)]
/-- A literal becomes true. -/
def put (vs : List Int) (l : Int) : List Int := vs.set l.natAbs (sgn l)
theorem put_vals {n : Nat} {vs : List Int} (h : Vals n vs) (l : Int) : Vals n (put vs l) := h.set _ (by unfold sgn; split <;> simp)
theorem put_same {n : Nat} {vs : List Int} {l : Int} (h : Vals n vs) (hl : Lit n l) : val (put vs l) l = 1 := by
  have h1 : l.natAbs < vs.length := by have := hl.vr; unfold vr at this; rw [h.1]; omega
  unfold put
  by_cases h0 : l < 0
  · rw [val_negl h0, getD_set _ _ _ _ h1, if_pos rfl]; unfold sgn; rw [if_pos h0]; rfl
  · rw [val_pos h0, getD_set _ _ _ _ h1, if_pos rfl]; unfold sgn; rw [if_neg h0]
theorem put_other {n : Nat} {vs : List Int} {l m : Int} (h : Vals n vs) (hl : Lit n l) (hm : m ≠ l) (hm2 : m ≠ -l) : val (put vs l) m = val vs m := by
  have h1 : l.natAbs < vs.length := by have := hl.vr; unfold vr at this; rw [h.1]; omega
  have h2 : m.natAbs ≠ l.natAbs := by omega
  unfold put
  by_cases h0 : m < 0
  · rw [val_negl h0, val_negl h0, getD_set _ _ _ _ h1, if_neg h2]
  · rw [val_pos h0, val_pos h0, getD_set _ _ _ _ h1, if_neg h2]
theorem put_keep {n : Nat} {vs : List Int} {l m : Int} (h : Vals n vs) (hl : Lit n l) (h0 : val vs l = 0) (hm : val vs m ≠ 0) : val (put vs l) m = val vs m := by
  have hl0 := hl.1
  refine put_other h hl ?_ ?_
  · intro e; subst e; exact hm h0
  · intro e; subst e; rw [val_neg vs hl0, h0] at hm; exact hm rfl
/-- All that is true follows. -/
def Snd (Cl : List (List Int)) (A : List Int) (n : Nat) (vs : List Int) : Prop := ∀ l, Lit n l → val vs l = 1 → Der Cl A l
theorem Snd.put {Cl : List (List Int)} {A : List Int} {n : Nat} {vs : List Int} {l : Int} (h : Snd Cl A n vs) (hv : Vals n vs) (hl : Lit n l) (hd : Der Cl A l) : Snd Cl A n (put vs l) := by
  intro m hm h1
  by_cases e : m = l
  · subst e; exact hd
  · by_cases e2 : m = -l
    · subst e2
      rw [val_neg _ hl.1, put_same hv hl] at h1
      omega
    · rw [put_other hv hl e e2] at h1
      exact h m hm h1
/-- Nothing more follows, and nothing is contradicted. -/
def Shut (Cl : List (List Int)) (vs : List Int) : Prop := ∀ c ∈ Cl, (∃ l ∈ c, val vs l = 1) ∨ ∃ l ∈ c, ∃ m ∈ c, l ≠ m ∧ val vs l = 0 ∧ val vs m = 0
theorem Shut.true {Cl : List (List Int)} {A : List Int} {n : Nat} {vs : List Int} (h : Shut Cl vs) (hC : ∀ c ∈ Cl, Lits n c) (hA : ∀ l ∈ A, val vs l = 1) {l : Int} (hd : Der Cl A l) : val vs l = 1 := by
  induction hd with
  | base h1 => exact hA _ h1
  | @step c l h1 h2 _ ih =>
    have hn : ∀ m, m ∈ c → m ≠ l → val vs m = -1 := fun m hm hne => by
      have := ih m hm hne
      rw [val_neg vs (hC c h1 m hm).1] at this
      omega
    rcases h c h1 with ⟨m, hm, hv⟩ | ⟨m, hm, q, hq, hne, h3, h4⟩
    · by_cases e : m = l
      · subst e; exact hv
      · rw [hn m hm e] at hv; omega
    · by_cases e : m = l
      · have := hn q hq (fun e2 => hne (e.trans e2.symm))
        omega
      · have := hn m hm e
        omega
theorem Der.lit {Cl : List (List Int)} {A : List Int} {n : Nat} (hC : ∀ c ∈ Cl, Lits n c) (hA : Lits n A) {l : Int} (hd : Der Cl A l) : Lit n l := by
  cases hd with
  | base h => exact hA _ h
  | step h1 h2 _ => exact hC _ h1 _ h2
theorem Shut.no {Cl : List (List Int)} {A : List Int} {n : Nat} {vs : List Int} (h : Shut Cl vs) (hC : ∀ c ∈ Cl, Lits n c) (hL : Lits n A) (hA : ∀ l ∈ A, val vs l = 1) : ¬ Con Cl A := by
  rintro (h1 | ⟨l, h1, h2⟩)
  · rcases h [] h1 with ⟨m, hm, _⟩ | ⟨m, hm, _⟩ <;> cases hm
  · have e1 := h.true hC hA h1
    have e2 := h.true hC hA h2
    rw [val_neg vs (h1.lit hC hL).1] at e2
    omega
theorem Snd.neg {Cl : List (List Int)} {A : List Int} {n : Nat} {vs : List Int} (h : Snd Cl A n vs) {m : Int} (hm : Lit n m) (hv : val vs m = -1) : Der Cl A (-m) := by
  refine h _ hm.neg ?_
  rw [val_neg vs hm.1, hv]; rfl
/-- All but one literal of a clause are false. -/
theorem Snd.unit {Cl : List (List Int)} {A : List Int} {n : Nat} {vs : List Int} (h : Snd Cl A n vs) {c : List Int} (hc : c ∈ Cl) (hL : Lits n c) {l : Int} (hl : l ∈ c) (ho : ∀ m ∈ c, m = l ∨ val vs m = -1) : Der Cl A l :=
  .step hc hl (fun m hm hne => h.neg (hL m hm) ((ho m hm).resolve_left hne))
/-- All literals of a clause are false. -/
theorem Snd.fail {Cl : List (List Int)} {A : List Int} {n : Nat} {vs : List Int} (h : Snd Cl A n vs) {c : List Int} (hc : c ∈ Cl) (hL : Lits n c) (ho : ∀ m ∈ c, val vs m = -1) : Con Cl A := by
  cases c with
  | nil => exact .inl hc
  | cons l r =>
    refine .inr ⟨l, h.unit hc hL List.mem_cons_self (fun m hm => .inr (ho m hm)), h.neg (hL l List.mem_cons_self) (ho l List.mem_cons_self)⟩
theorem Snd.clash {Cl : List (List Int)} {A : List Int} {n : Nat} {vs : List Int} (h : Snd Cl A n vs) {l : Int} (hl : Lit n l) (hd : Der Cl A l) (hv : val vs l = -1) : Con Cl A := .inr ⟨l, hd, h.neg hl hv⟩
def zeros (n : Nat) : List Int := List.replicate n 0
theorem zeros_vals (n : Nat) : Vals n (zeros (n + 1)) := ⟨by simp [zeros], fun x hx => by rw [List.eq_of_mem_replicate hx]; exact .inr (.inl rfl)⟩
theorem zeros_val (n : Nat) (l : Int) : val (zeros n) l = 0 := by
  have h : ∀ i, (zeros n).getD i 0 = 0 := fun i => by
    rw [List.getD_eq_getElem?_getD]
    cases e : (zeros n)[i]? with
    | none => rfl
    | some x =>
      have := List.mem_of_getElem? e
      rw [List.eq_of_mem_replicate this]; rfl
  by_cases h0 : l < 0
  · rw [val_negl h0, h]; rfl
  · rw [val_pos h0, h]
theorem zeros_snd (Cl : List (List Int)) (A : List Int) (n : Nat) : Snd Cl A n (zeros (n + 1)) := fun l _ h => by rw [zeros_val] at h; omega
/-- How many are still open. -/
def opn (vs : List Int) : Nat := vs.count 0
theorem put_opn {n : Nat} {vs : List Int} {l : Int} (h : Vals n vs) (hl : Lit n l) (h0 : val vs l = 0) : opn (put vs l) < opn vs := by
  have h1 : l.natAbs < vs.length := by have := hl.vr; unfold vr at this; rw [h.1]; omega
  have h2 : vs[l.natAbs] = 0 := by
    have e : vs.getD l.natAbs 0 = 0 := by
      by_cases hn : l < 0
      · rw [val_negl hn] at h0; omega
      · rw [val_pos hn] at h0; exact h0
    rw [List.getD_eq_getElem?_getD, List.getElem?_eq_getElem h1] at e
    exact e
  unfold opn put
  rw [List.count_set h1, h2]
  have hs : (sgn l == 0) = false := by unfold sgn; split <;> decide
  have hp : 0 < vs.count 0 := List.count_pos_iff.2 (h2 ▸ List.getElem_mem h1)
  simp [hs]
  omega
/-- What is true stays. -/
def Ext (v0 v : List Int) : Prop := ∀ l, val v0 l ≠ 0 → val v l = val v0 l
theorem Ext.refl (v : List Int) : Ext v v := fun _ _ => rfl
theorem Ext.trans {a b c : List Int} (h : Ext a b) (k : Ext b c) : Ext a c := fun l hl => by
  have e := h l hl
  rw [k l (by rw [e]; exact hl), e]
theorem put_ext {n : Nat} {vs : List Int} {l : Int} (h : Vals n vs) (hl : Lit n l) (h0 : val vs l = 0) : Ext vs (put vs l) := fun m hm => put_keep h hl h0 hm
end Go.Proofs.Ytonfbnbkhpabbaa
