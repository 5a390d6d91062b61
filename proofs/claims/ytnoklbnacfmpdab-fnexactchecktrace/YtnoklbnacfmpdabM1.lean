/- What the program follows by, in memory. -/
import Derived.Test.YtnoklbnacfmpdabN4
import Derived.Test.YtnoklbnacfmpdabK2
import Derived.Maps.AppendAt
namespace Go.Proofs.Ytnoklbnacfmpdab
open Go Go.RowKit Gs
set_option linter.unusedVariables false
set_option linter.unusedSimpArgs false
set_option maxRecDepth 100000
/-- The place of a literal, and back. -/
def plN (l : Int) : Nat := if l < 0 then 2 * l.natAbs + 1 else 2 * l.natAbs
def ltP (p : Nat) : Int := if p % 2 = 1 then -((p / 2 : Nat) : Int) else ((p / 2 : Nat) : Int)
theorem ltP_plN {l : Int} : ltP (plN l) = l := by
  unfold ltP plN
  by_cases h : l < 0
  · rw [if_pos h, if_pos (by omega)]; omega
  · rw [if_neg h, if_neg (by omega)]; omega
theorem plN_lt {n : Nat} {l : Int} (h : Lit n l) : plN l < 2 * n + 2 := by
  obtain ⟨h0, h1, h2⟩ := h
  unfold plN; split <;> omega
theorem plN_inj {l m : Int} (h : plN l = plN m) : l = m := by rw [← ltP_plN (l := l), h, ltP_plN]
/-- The state. -/
structure FS where
  b : Nat
  vb : Nat
  ob : Nat
  mb : Nat
  vs : List Int
  ms : List Int
  t : List Int
  tv : Value
  fol : Nat
  rnd : Nat
  brk : Bool
  sv : Nat → Value
  ids : List Nat
  cl : Nat → List Int
  ws : Int → List Nat
  ln : Nat → Nat
  cap : Nat → Nat
  xc : Array Value
  fx : List (Nat × Array Value × TypeId)
def FS.flds (s : FS) (n : Nat) : Array Value := #[.slice (some ⟨s.vb, 0, none⟩) (n + 1) (n + 1), s.tv, .int .i64 (s.fol : Int), .slice (some ⟨s.ob, 0, none⟩) (2 * n + 2) (2 * n + 2), .int .i64 (s.rnd : Int), .slice (some ⟨s.mb, 0, none⟩) (2 * n + 2) (2 * n + 2), .bool s.brk]
def svA (n : Nat) (sv : Nat → Value) : Array Value := ((List.range (2 * n + 2)).map sv).toArray
def hd (ln cap : Nat → Nat) (i : Nat) : Value := .slice (some ⟨i, 0, none⟩) (ln i) (cap i)
def iL (x : List Int) : List Value := x.map fun z => Value.int .i64 z
/-- A block that is none of its own. -/
structure FX (n : Nat) (W : World) (s : FS) (q : Nat × Array Value × TypeId) : Prop where
  at_ : W.heap[q.1]? = some (.cells q.2.1 q.2.2)
  b : q.1 ≠ s.b
  vb : q.1 ≠ s.vb
  ob : q.1 ≠ s.ob
  mb : q.1 ≠ s.mb
  tv : s.tv.ownBlock ≠ some q.1
  sv : ∀ p, p < 2 * n + 2 → (s.sv p).ownBlock ≠ some q.1
  ids : q.1 ∉ s.ids
structure FM (B n : Nat) (ex : Option Nat) (W : World) (s : FS) : Prop where
  lo : B ≤ s.b ∧ B ≤ s.vb ∧ B ≤ s.ob ∧ B ≤ s.mb ∧ ∀ i ∈ s.ids, B ≤ i
  hb : W.heap[s.b]? = some (.cells (s.flds n) 49)
  hv : W.heap[s.vb]? = some (.cells (iC s.vs) 3)
  ho : W.heap[s.ob]? = some (.cells (svA n s.sv) 22)
  hm : W.heap[s.mb]? = some (.cells (iC s.ms) 3)
  ht : W.ownsRow B 3 1 s.tv s.t.length (iL s.t)
  hw : ∀ p, p < 2 * n + 2 → ex ≠ some p → W.ownsRow B 28 1 (s.sv p) (s.ws (ltP p)).length ((s.ws (ltP p)).map (hd s.ln s.cap))
  hc : ∀ i ∈ s.ids, s.ln i = (s.cl i).length ∧ ∃ cur, W.heap[i]? = some (.cells cur 3) ∧ cur.toList.take (s.cl i).length = iL (s.cl i)
  d1 : s.vb ≠ s.mb
  d2 : ∀ j, s.tv.ownBlock = some j → j ≠ s.vb ∧ j ≠ s.mb ∧ j ∉ s.ids
  d3 : ∀ i ∈ s.ids, i ≠ s.vb ∧ i ≠ s.mb
  d4 : ∀ p q j, p < 2 * n + 2 → q < 2 * n + 2 → (s.sv p).ownBlock = some j → (s.sv q).ownBlock = some j → p = q
  d5 : ∀ p j, p < 2 * n + 2 → (s.sv p).ownBlock = some j → B ≤ j ∧ ∃ o, W.heap[j]? = some (.cells o 28)
  lv : s.vs.length = n + 1
  lm : s.ms.length = 2 * n + 2
  hx : ∀ p j, ex = some p → p < 2 * n + 2 → (s.sv p).ownBlock = some j → W.heap[j]? = some (.cells s.xc 28)
  fz : ∀ q ∈ s.fx, FX n W s q
theorem ty_ne {W : World} {a x : Nat} {o o' : Array Value} {t t' : TypeId} {f f' : Nat × Nat} (h : W.heap[a]? = some (.cells o t f)) (h' : W.heap[x]? = some (.cells o' t' f')) (hne : t ≠ t') : a ≠ x := by
  intro e; subst e
  rw [h] at h'
  injection h' with h1
  injection h1 with _ h3 _
  exact hne h3
theorem own_ty {W : World} {B e k n : Nat} {v : Value} {vs : List Value} (h : W.ownsRow B e k v n vs) {j : Nat} (hj : v.ownBlock = some j) : ∃ o, W.heap[j]? = some (.cells o e) := by
  rcases h.2 with ⟨rfl, _⟩ | ⟨g, cap, cur, rfl, _, hg, _⟩
  · cases hj
  · have : some g = some j := hj
    injection this with e; subst e
    exact ⟨cur, hg⟩
/-- Blocks that are not those of another one stay. -/
theorem FM.keep {B n : Nat} {ex : Option Nat} {W W' : World} {s : FS} (h : FM B n ex W s) (hk : ∀ (k : Nat) (o : Array Value) (t : TypeId), W.heap[k]? = some (.cells o t) → W'.heap[k]? = some (.cells o t)) : FM B n ex W' s := by
  refine ⟨h.lo, hk _ _ _ h.hb, hk _ _ _ h.hv, hk _ _ _ h.ho, hk _ _ _ h.hm, ownsRow_keep h.ht (fun g o _ hc => hk _ _ _ hc), fun p hp he => ownsRow_keep (h.hw p hp he) (fun g o _ hc => hk _ _ _ hc), fun i hi => ?_, h.d1, h.d2, h.d3, h.d4, fun p j hp hj => ?_, h.lv, h.lm, fun p j he hp hj => hk _ _ _ (h.hx p j he hp hj), fun q hq => ⟨hk _ _ _ (h.fz q hq).at_, (h.fz q hq).b, (h.fz q hq).vb, (h.fz q hq).ob, (h.fz q hq).mb, (h.fz q hq).tv, (h.fz q hq).sv, (h.fz q hq).ids⟩⟩
  · obtain ⟨h1, cur, h2, h3⟩ := h.hc i hi
    exact ⟨h1, cur, hk _ _ _ h2, h3⟩
  · obtain ⟨h1, o, h2⟩ := h.d5 p j hp hj
    exact ⟨h1, o, hk _ _ _ h2⟩
theorem FM.later {B n : Nat} {ex : Option Nat} {W W' : World} {s : FS} (h : FM B n ex W s) (hb : Below W.heap.size W W') : FM B n ex W' s :=
  h.keep (fun k o t hc => (hb.block k (Array.getElem?_eq_some_iff.1 hc).1).trans hc)
/-- A field of the struct is another one. -/
theorem FM.fld {B n : Nat} {ex : Option Nat} {W W' : World} {s : FS} (h : FM B n ex W s) (fol rnd : Nat) (brk : Bool) (hb : W'.heap[s.b]? = some (.cells ({ s with fol := fol, rnd := rnd, brk := brk }.flds n) 49)) (ho : ∀ k, k ≠ s.b → W'.heap[k]? = W.heap[k]?) : FM B n ex W' { s with fol := fol, rnd := rnd, brk := brk } := by
  have hk : ∀ (k : Nat) (o : Array Value) (t : TypeId), t ≠ 49 → W.heap[k]? = some (.cells o t) → W'.heap[k]? = some (.cells o t) := fun k o t hne hc => (ho k (ty_ne hc h.hb hne)).trans hc
  refine ⟨h.lo, hb, hk _ _ _ (by decide) h.hv, hk _ _ _ (by decide) h.ho, hk _ _ _ (by decide) h.hm, ownsRow_keep h.ht (fun g o _ hc => hk _ _ _ (by decide) hc), fun p hp he => ownsRow_keep (h.hw p hp he) (fun g o _ hc => hk _ _ _ (by decide) hc), fun i hi => ?_, h.d1, h.d2, h.d3, h.d4, fun p j hp hj => ?_, h.lv, h.lm, fun p j he hp hj => hk _ _ _ (by decide) (h.hx p j he hp hj), fun q hq => ⟨(ho q.1 (h.fz q hq).b).trans (h.fz q hq).at_, (h.fz q hq).b, (h.fz q hq).vb, (h.fz q hq).ob, (h.fz q hq).mb, (h.fz q hq).tv, (h.fz q hq).sv, (h.fz q hq).ids⟩⟩
  · obtain ⟨h1, cur, h2, h3⟩ := h.hc i hi
    exact ⟨h1, cur, hk _ _ _ (by decide) h2, h3⟩
  · obtain ⟨h1, o, h2⟩ := h.d5 p j hp hj
    exact ⟨h1, o, hk _ _ _ (by decide) h2⟩
/-- The values are others. -/
theorem FM.vals {B n : Nat} {ex : Option Nat} {W W' : World} {s : FS} (h : FM B n ex W s) (vs : List Int) (hl : vs.length = s.vs.length) (hv : W'.heap[s.vb]? = some (.cells (iC vs) 3)) (ho : ∀ k, k ≠ s.vb → W'.heap[k]? = W.heap[k]?) : FM B n ex W' { s with vs := vs } := by
  have hk : ∀ (k : Nat) (o : Array Value) (t : TypeId), t ≠ 3 → W.heap[k]? = some (.cells o t) → W'.heap[k]? = some (.cells o t) := fun k o t hne hc => (ho k (ty_ne hc h.hv hne)).trans hc
  refine ⟨h.lo, hk _ _ _ (by decide) h.hb, hv, hk _ _ _ (by decide) h.ho, (ho _ (Ne.symm h.d1)).trans h.hm, ownsRow_keep h.ht (fun g o hg hc => (ho g (h.d2 g hg).1).trans hc), fun p hp he => ownsRow_keep (h.hw p hp he) (fun g o _ hc => hk _ _ _ (by decide) hc), fun i hi => ?_, h.d1, h.d2, h.d3, h.d4, fun p j hp hj => ?_, by rw [hl]; exact h.lv, h.lm, fun p j he hp hj => hk _ _ _ (by decide) (h.hx p j he hp hj), fun q hq => ⟨(ho q.1 (h.fz q hq).vb).trans (h.fz q hq).at_, (h.fz q hq).b, (h.fz q hq).vb, (h.fz q hq).ob, (h.fz q hq).mb, (h.fz q hq).tv, (h.fz q hq).sv, (h.fz q hq).ids⟩⟩
  · obtain ⟨h1, cur, h2, h3⟩ := h.hc i hi
    exact ⟨h1, cur, (ho i (h.d3 i hi).1).trans h2, h3⟩
  · obtain ⟨h1, o, h2⟩ := h.d5 p j hp hj
    exact ⟨h1, o, hk _ _ _ (by decide) h2⟩
theorem FM.met {B n : Nat} {ex : Option Nat} {W W' : World} {s : FS} (h : FM B n ex W s) (ms : List Int) (hl : ms.length = s.ms.length) (hv : W'.heap[s.mb]? = some (.cells (iC ms) 3)) (ho : ∀ k, k ≠ s.mb → W'.heap[k]? = W.heap[k]?) : FM B n ex W' { s with ms := ms } := by
  have hk : ∀ (k : Nat) (o : Array Value) (t : TypeId), t ≠ 3 → W.heap[k]? = some (.cells o t) → W'.heap[k]? = some (.cells o t) := fun k o t hne hc => (ho k (ty_ne hc h.hm hne)).trans hc
  refine ⟨h.lo, hk _ _ _ (by decide) h.hb, (ho _ h.d1).trans h.hv, hk _ _ _ (by decide) h.ho, hv, ownsRow_keep h.ht (fun g o hg hc => (ho g (h.d2 g hg).2.1).trans hc), fun p hp he => ownsRow_keep (h.hw p hp he) (fun g o _ hc => hk _ _ _ (by decide) hc), fun i hi => ?_, h.d1, h.d2, h.d3, h.d4, fun p j hp hj => ?_, h.lv, by rw [hl]; exact h.lm, fun p j he hp hj => hk _ _ _ (by decide) (h.hx p j he hp hj), fun q hq => ⟨(ho q.1 (h.fz q hq).mb).trans (h.fz q hq).at_, (h.fz q hq).b, (h.fz q hq).vb, (h.fz q hq).ob, (h.fz q hq).mb, (h.fz q hq).tv, (h.fz q hq).sv, (h.fz q hq).ids⟩⟩
  · obtain ⟨h1, cur, h2, h3⟩ := h.hc i hi
    exact ⟨h1, cur, (ho i (h.d3 i hi).2).trans h2, h3⟩
  · obtain ⟨h1, o, h2⟩ := h.d5 p j hp hj
    exact ⟨h1, o, hk _ _ _ (by decide) h2⟩
/-- A clause's literals stand in another order. -/
theorem FM.swap {B n : Nat} {ex : Option Nat} {W W' : World} {s : FS} (h : FM B n ex W s) {i : Nat} (hi : i ∈ s.ids) (hw0 : ∀ l, ∀ j ∈ s.ws l, True) (c' : List Int) (hl : c'.length = (s.cl i).length) (cur : Array Value) (hv : W'.heap[i]? = some (.cells cur 3)) (hcur : cur.toList.take c'.length = iL c') (hnd : s.ids.Nodup) (ho : ∀ k, k ≠ i → W'.heap[k]? = W.heap[k]?) : FM B n ex W' { s with cl := upC s.cl i c' } := by
  obtain ⟨e1, cur0, e2, e3⟩ := h.hc i hi
  have hk : ∀ (k : Nat) (o : Array Value) (t : TypeId), t ≠ 3 → W.heap[k]? = some (.cells o t) → W'.heap[k]? = some (.cells o t) := fun k o t hne hc => (ho k (ty_ne hc e2 hne)).trans hc
  refine ⟨h.lo, hk _ _ _ (by decide) h.hb, (ho _ (Ne.symm (h.d3 i hi).1)).trans h.hv, hk _ _ _ (by decide) h.ho, (ho _ (Ne.symm (h.d3 i hi).2)).trans h.hm, ownsRow_keep h.ht (fun g o hg hc => (ho g (fun e => (h.d2 g hg).2.2 (e ▸ hi))).trans hc), fun p hp he => ownsRow_keep (h.hw p hp he) (fun g o _ hc => hk _ _ _ (by decide) hc), fun j hj => ?_, h.d1, h.d2, h.d3, h.d4, fun p j hp hj => ?_, h.lv, h.lm, fun p j he hp hj => hk _ _ _ (by decide) (h.hx p j he hp hj), fun q hq => ⟨(ho q.1 (fun e => (h.fz q hq).ids (e ▸ hi))).trans (h.fz q hq).at_, (h.fz q hq).b, (h.fz q hq).vb, (h.fz q hq).ob, (h.fz q hq).mb, (h.fz q hq).tv, (h.fz q hq).sv, (h.fz q hq).ids⟩⟩
  · by_cases e : j = i
    · subst e
      show s.ln j = (upC s.cl j c' j).length ∧ ∃ cur, W'.heap[j]? = some (.cells cur 3) ∧ cur.toList.take (upC s.cl j c' j).length = iL (upC s.cl j c' j)
      rw [upC_same]
      exact ⟨by rw [hl]; exact e1, cur, hv, hcur⟩
    · show s.ln j = (upC s.cl i c' j).length ∧ ∃ cur, W'.heap[j]? = some (.cells cur 3) ∧ cur.toList.take (upC s.cl i c' j).length = iL (upC s.cl i c' j)
      rw [upC_other e]
      obtain ⟨f1, f2, f3, f4⟩ := h.hc j hj
      exact ⟨f1, f2, (ho j e).trans f3, f4⟩
  · obtain ⟨h1, o, h2⟩ := h.d5 p j hp hj
    exact ⟨h1, o, hk _ _ _ (by decide) h2⟩
end Go.Proofs.Ytnoklbnacfmpdab
