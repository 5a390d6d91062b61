/- The search: what it comes to. -/
import Derived.Test.YtonfbnbkhpabbaaK1
namespace Go.Proofs.Ytonfbnbkhpabbaa
set_option linter.unusedVariables false
/-- Nothing more follows: what follows is among what was assumed. -/
theorem der_mem {n : Nat} {Cl : List (List Int)} {A t0 t : List Int} {ids : List Nat} {cl : Nat → List Int} {ws : Int → List Nat} (hw : Wt n ids cl ws) (h : Rp Cl t0 ids cl) (h0 : ∀ l ∈ t0, l ∈ t) (ht : TrOK n t) (ha : Wa ids cl t t) (hA : ∀ l ∈ A, l ∈ t) : ∀ l, Der Cl A l → l ∈ t := by
  have key : ∀ c ∈ Cl, (∃ l ∈ c, l ∈ t) ∨ ∃ l ∈ c, ∃ m ∈ c, l ≠ m ∧ -l ∉ t ∧ -m ∉ t := fun c hc => by
    rcases h.rep c hc with ⟨l, h1, h2⟩ | ⟨i, hi, h1, h2⟩
    · exact .inl ⟨l, h1, h0 l h2⟩
    · obtain ⟨k1, k2, k3⟩ := hw.ok i hi
      obtain ⟨a1, a2⟩ := ha i hi
      by_cases e0 : -(w0 (cl i)) ∈ t
      · exact .inl ⟨_, h1 _ (mem_w1 k1), a1 e0⟩
      · by_cases e1 : -(w1 (cl i)) ∈ t
        · exact .inl ⟨_, h1 _ (mem_w0 k1), a2 e1⟩
        · exact .inr ⟨_, h1 _ (mem_w0 k1), _, h1 _ (mem_w1 k1), w_ne k1 k2, e0, e1⟩
  intro l hd
  induction hd with
  | base h1 => exact hA _ h1
  | @step c l h1 h2 _ ih =>
    rcases key c h1 with ⟨m, hm, hv⟩ | ⟨m, hm, q, hq, hne, h3, h4⟩
    · by_cases e : m = l
      · subst e; exact hv
      · exact absurd (ih m hm e) (ht.not hv)
    · by_cases e : m = l
      · exact absurd (ih q hq (fun e2 => hne (e.trans e2.symm))) h4
      · exact absurd (ih m hm e) h3
/-- A variable that is not assumed. -/
def Fre (Cl : List (List Int)) (D : List Int) (v : Nat) : Prop := ¬ Der Cl D (v : Int) ∧ ¬ Der Cl D (-(v : Int))
def Lst (n : Nat) (Cl : List (List Int)) (D : List Int) (v : Nat) : Prop := 1 ≤ v ∧ v ≤ n ∧ Fre Cl D v ∧ ∀ u, 1 ≤ u → u < v → ¬ Fre Cl D u
def Ful (n : Nat) (Cl : List (List Int)) (D : List Int) : Prop := ∀ u, 1 ≤ u → u ≤ n → ¬ Fre Cl D u
/-- The model: 1 of what follows. -/
def Mdl (n : Nat) (Cl : List (List Int)) (D : List Int) (m : List Int) : Prop := m.length = n ∧ ∀ i, i < n → (m[i]? = some 1 ∧ Der Cl D ((i + 1 : Nat) : Int)) ∨ (m[i]? = some 0 ∧ ¬ Der Cl D ((i + 1 : Nat) : Int))
inductive SRes where
  | over : SRes
  | sat (m : List Int) (k : Nat) : SRes
  | unsat (T : List (List Int)) (k : Nat) : SRes
def negs (D : List Int) : List Int := D.map fun l => -l
/-- What a search comes to: it looks at decisions, or goes back from them. -/
inductive Vs (n most : Nat) (Cl : List (List Int)) : Bool → List Int → Nat → List (List Int) → SRes → Prop
  | over {D k T} : k = most → Vs n most Cl true D k T .over
  | sat {D k T m} : k ≠ most → ¬ Con Cl D → Ful n Cl D → Mdl n Cl D m → Vs n most Cl true D k T (.sat m (k + 1))
  | down {D k T v R} : k ≠ most → ¬ Con Cl D → Lst n Cl D v → Vs n most Cl true (D ++ [-(v : Int)]) (k + 1) T R → Vs n most Cl true D k T R
  | fail {D k T R} : k ≠ most → Con Cl D → Vs n most Cl false D (k + 1) (T ++ [negs D]) R → Vs n most Cl true D k T R
  | done {D k T} : D = [] → Vs n most Cl false D k T (.unsat T k)
  | turn {D E k T R} {l : Int} : E = D ++ [l] → l < 0 → Vs n most Cl true (D ++ [-l]) k T R → Vs n most Cl false E k T R
  | up {D E k T R} {l : Int} : E = D ++ [l] → ¬ l < 0 → Vs n most Cl false D k (T ++ [negs D]) R → Vs n most Cl false E k T R
theorem Lst.one {n : Nat} {Cl : List (List Int)} {D : List Int} {u v : Nat} (h : Lst n Cl D u) (k : Lst n Cl D v) : u = v := by
  rcases Nat.lt_trichotomy u v with e | e | e
  · exact absurd h.2.2.1 (k.2.2.2 u h.1 e)
  · exact e
  · exact absurd k.2.2.1 (h.2.2.2 v k.1 e)
theorem Mdl.one {n : Nat} {Cl : List (List Int)} {D m m' : List Int} (h : Mdl n Cl D m) (k : Mdl n Cl D m') : m = m' := by
  refine List.ext_getElem? fun i => ?_
  by_cases hi : i < n
  · rcases h.2 i hi with ⟨e1, d1⟩ | ⟨e1, d1⟩ <;> rcases k.2 i hi with ⟨e2, d2⟩ | ⟨e2, d2⟩
    · rw [e1, e2]
    · exact absurd d1 d2
    · exact absurd d2 d1
    · rw [e1, e2]
  · rw [List.getElem?_eq_none (by have := h.1; omega), List.getElem?_eq_none (by have := k.1; omega)]
theorem snoc_one {D D' : List Int} {l l' : Int} (h : D ++ [l] = D' ++ [l']) : D = D' ∧ l = l' := by
  have := List.append_inj' h rfl
  exact ⟨this.1, by simpa using this.2⟩
theorem snoc_nil {D : List Int} {l : Int} (h : ([] : List Int) = D ++ [l]) : False := by simp at h
theorem Vs.one {n most : Nat} {Cl : List (List Int)} {b : Bool} {D : List Int} {k : Nat} {T : List (List Int)} {R R' : SRes} (h : Vs n most Cl b D k T R) (h' : Vs n most Cl b D k T R') : R = R' := by
  induction h generalizing R' with
  | over e =>
    cases h' with
    | over _ => rfl
    | sat e' _ _ _ => exact absurd e e'
    | down e' _ _ _ => exact absurd e e'
    | fail e' _ _ => exact absurd e e'
  | sat e c f m =>
    cases h' with
    | over e' => exact absurd e' e
    | sat _ _ _ m' => rw [m.one m']
    | down _ _ l _ => exact absurd l.2.2.1 (f _ l.1 l.2.1)
    | fail _ c' _ => exact absurd c' c
  | down e c l _ ih =>
    cases h' with
    | over e' => exact absurd e' e
    | sat _ _ f _ => exact absurd l.2.2.1 (f _ l.1 l.2.1)
    | down _ _ l' x => obtain rfl := l.one l'; exact ih x
    | fail _ c' _ => exact absurd c' c
  | fail e c _ ih =>
    cases h' with
    | over e' => exact absurd e' e
    | sat _ c' _ _ => exact absurd c c'
    | down _ c' _ _ => exact absurd c c'
    | fail _ _ x => exact ih x
  | done e =>
    cases h' with
    | done _ => rfl
    | turn e' _ _ => exact (snoc_nil (e.symm.trans e')).elim
    | up e' _ _ => exact (snoc_nil (e.symm.trans e')).elim
  | turn e hl _ ih =>
    cases h' with
    | done e' => exact (snoc_nil (e'.symm.trans e)).elim
    | turn e' _ x => obtain ⟨rfl, rfl⟩ := snoc_one (e.symm.trans e'); exact ih x
    | up e' hl' _ => obtain ⟨rfl, rfl⟩ := snoc_one (e.symm.trans e'); exact absurd hl hl'
  | up e hl _ ih =>
    cases h' with
    | done e' => exact (snoc_nil (e'.symm.trans e)).elim
    | turn e' hl' _ => obtain ⟨rfl, rfl⟩ := snoc_one (e.symm.trans e'); exact absurd hl' hl
    | up e' _ x => obtain ⟨rfl, rfl⟩ := snoc_one (e.symm.trans e'); exact ih x
end Go.Proofs.Ytonfbnbkhpabbaa
