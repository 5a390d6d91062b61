/- What the program follows by, in memory. -/
import Derived.Test.YtonfbnbkhpabbaaN3
import Derived.Test.YtonfbnbkhpabbaaK1
import Derived.Maps.AppendAt
namespace Go.Proofs.Ytonfbnbkhpabbaa
open Go Go.RowKit Gs
set_option linter.unusedVariables false
set_option linter.unusedSimpArgs false
set_option maxRecDepth 100000
/-- The place of a literal, and back. -/
def plN (l : Int) : Nat := if l < 0 then 2 * l.natAbs + 1 else 2 * l.natAbs
def ltP (p : Nat) : Int := if p % 2 = 1 then -((p / 2 : Nat) : Int) else ((p / 2 : Nat) : Int)
theorem ltP_plN {l : Int} : ltP (plN l) = l := by
  unfold ltP plN
  by_cases h : l < 0
  · rw [if_pos h, if_pos (by omega)]; omega
  · rw [if_neg h, if_neg (by omega)]; omega
theorem plN_lt {n : Nat} {l : Int} (h : Lit n l) : plN l < 2 * n + 2 := by
  obtain ⟨h0, h1, h2⟩ := h
  unfold plN; split <;> omega
theorem plN_inj {l m : Int} (h : plN l = plN m) : l = m := by rw [← ltP_plN (l := l), h, ltP_plN]
/-- The state. -/
structure FS where
  b : Nat
  vb : Nat
  ob : Nat
  mb : Nat
  vs : List Int
  ms : List Int
  t : List Int
  tv : Value
  fol : Nat
  rnd : Nat
  brk : Bool
  sv : Nat → Value
  ids : List Nat
  cl : Nat → List Int
  ws : Int → List Nat
  ln : Nat → Nat
  cap : Nat → Nat
  xc : Array Value
  fx : List (Nat × Array Value × TypeId)
def FS.flds (s : FS) (n : Nat) : Array Value := #[.slice (some ⟨s.vb, 0, none⟩) (n + 1) (n + 1), s.tv, .int .i64 (s.fol : Int), .slice (some ⟨s.ob, 0, none⟩) (2 * n + 2) (2 * n + 2), .int .i64 (s.rnd : Int), .slice (some ⟨s.mb, 0, none⟩) (2 * n + 2) (2 * n + 2), .bool s.brk]
def svA (n : Nat) (sv : Nat → Value) : Array Value := ((List.range (2 * n + 2)).map sv).toArray
def hd (ln cap : Nat → Nat) (i : Nat) : Value := .slice (some ⟨i, 0, none⟩) (ln i) (cap i)
def iL (x : List Int) : List Value := x.map fun z => Value.int .i64 z
/-- A block that is none of its own. -/
structure FX (n : Nat) (W : World) (s : FS) (q : Nat × Array Value × TypeId) : Prop where
  at_ : W.heap[q.1]? = some (.cells q.2.1 q.2.2)
  b : q.1 ≠ s.b
  vb : q.1 ≠ s.vb
  ob : q.1 ≠ s.ob
  mb : q.1 ≠ s.mb
  tv : s.tv.ownBlock ≠ some q.1
  sv : ∀ p, p < 2 * n + 2 → (s.sv p).ownBlock ≠ some q.1
  ids : q.1 ∉ s.ids
structure FM (B n : Nat) (ex : Option Nat) (W : World) (s : FS) : Prop where
  lo : B ≤ s.b ∧ B ≤ s.vb ∧ B ≤ s.ob ∧ B ≤ s.mb ∧ ∀ i ∈ s.ids, B ≤ i
  hb : W.heap[s.b]? = some (.cells (s.flds n) 53)
  hv : W.heap[s.vb]? = some (.cells (iC s.vs) 3)
  ho : W.heap[s.ob]? = some (.cells (svA n s.sv) 22)
  hm : W.heap[s.mb]? = some (.cells (iC s.ms) 3)
  ht : W.ownsRow B 3 1 s.tv s.t.length (iL s.t)
  hw : ∀ p, p < 2 * n + 2 → ex ≠ some p → W.ownsRow B 24 1 (s.sv p) (s.ws (ltP p)).length ((s.ws (ltP p)).map (hd s.ln s.cap))
  hc : ∀ i ∈ s.ids, s.ln i = (s.cl i).length ∧ ∃ cur, W.heap[i]? = some (.cells cur 3) ∧ cur.toList.take (s.cl i).length = iL (s.cl i)
  d1 : s.vb ≠ s.mb
  d2 : ∀ j, s.tv.ownBlock = some j → j ≠ s.vb ∧ j ≠ s.mb ∧ j ∉ s.ids
  d3 : ∀ i ∈ s.ids, i ≠ s.vb ∧ i ≠ s.mb
  d4 : ∀ p q j, p < 2 * n + 2 → q < 2 * n + 2 → (s.sv p).ownBlock = some j → (s.sv q).ownBlock = some j → p = q
  d5 : ∀ p j, p < 2 * n + 2 → (s.sv p).ownBlock = some j → B ≤ j ∧ ∃ o, W.heap[j]? = some (.cells o 24)
  lv : s.vs.length = n + 1
  lm : s.ms.length = 2 * n + 2
  hx : ∀ p j, ex = some p → p < 2 * n + 2 → (s.sv p).ownBlock = some j → W.heap[j]? = some (.cells s.xc 24)
  fz : ∀ q ∈ s.fx, FX n W s q
theorem ty_ne {W : World} {a x : Nat} {o o' : Array Value} {t t' : TypeId} {f f' : Nat × Nat} (h : W.heap[a]? = some (.cells o t f)) (h' : W.heap[x]? = some (.cells o' t' f')) (hne : t ≠ t') : a ≠ x := by
  intro e; subst e
  rw [h] at h'
  injection h' with h1
  injection h1 with _ h3 _
  exact hne h3
theorem own_ty {W : World} {B e k n : Nat} {v : Value} {vs : List Value} (h : W.ownsRow B e k v n vs) {j : Nat} (hj : v.ownBlock = some j) : ∃ o, W.heap[j]? = some (.cells o e) := by
  rcases h.2 with ⟨rfl, _⟩ | ⟨g, cap, cur, rfl, _, hg, _⟩
  · cases hj
  · have : some g = some j := hj
    injection this with e; subst e
    exact ⟨cur, hg⟩
/-- Blocks that are not those of another one stay. -/
theorem FM.keep {B n : Nat} {ex : Option Nat} {W W' : World} {s : FS} (h : FM B n ex W s) (hk : ∀ (k : Nat) (o : Array Value) (t : TypeId), W.heap[k]? = some (.cells o t) → W'.heap[k]? = some (.cells o t)) : FM B n ex W' s := by
  refine ⟨h.lo, hk _ _ _ h.hb, hk _ _ _ h.hv, hk _ _ _ h.ho, hk _ _ _ h.hm, ownsRow_keep h.ht (fun g o _ hc => hk _ _ _ hc), fun p hp he => ownsRow_keep (h.hw p hp he) (fun g o _ hc => hk _ _ _ hc), fun i hi => ?_, h.d1, h.d2, h.d3, h.d4, fun p j hp hj => ?_, h.lv, h.lm, fun p j he hp hj => hk _ _ _ (h.hx p j he hp hj), fun q hq => ⟨hk _ _ _ (h.fz q hq).at_, (h.fz q hq).b, (h.fz q hq).vb, (h.fz q hq).ob, (h.fz q hq).mb, (h.fz q hq).tv, (h.fz q hq).sv, (h.fz q hq).ids⟩⟩
  · obtain ⟨h1, cur, h2, h3⟩ := h.hc i hi
    exact ⟨h1, cur, hk _ _ _ h2, h3⟩
  · obtain ⟨h1, o, h2⟩ := h.d5 p j hp hj
    exact ⟨h1, o, hk _ _ _ h2⟩
theorem FM.later {B n : Nat} {ex : Option Nat} {W W' : World} {s : FS} (h : FM B n ex W s) (hb : Below W.heap.size W W') : FM B n ex W' s :=
  h.keep (fun k o t hc => (hb.block k (Array.getElem?_eq_some_iff.1 hc).1).trans hc)
/-- A field of the struct is another one. -/
theorem FM.fld {B n : Nat} {ex : Option Nat} {W W' : World} {s : FS} (h : FM B n ex W s) (fol rnd : Nat) (brk : Bool) (hb : W'.heap[s.b]? = some (.cells ({ s with fol := fol, rnd := rnd, brk := brk }.flds n) 53)) (ho : ∀ k, k ≠ s.b → W'.heap[k]? = W.heap[k]?) : FM B n ex W' { s with fol := fol, rnd := rnd, brk := brk } := by
  have hk : ∀ (k : Nat) (o : Array Value) (t : TypeId), t ≠ 53 → W.heap[k]? = some (.cells o t) → W'.heap[k]? = some (.cells o t) := fun k o t hne hc => (ho k (ty_ne hc h.hb hne)).trans hc
  refine ⟨h.lo, hb, hk _ _ _ (by decide) h.hv, hk _ _ _ (by decide) h.ho, hk _ _ _ (by decide) h.hm, ownsRow_keep h.ht (fun g o _ hc => hk _ _ _ (by decide) hc), fun p hp he => ownsRow_keep (h.hw p hp he) (fun g o _ hc => hk _ _ _ (by decide) hc), fun i hi => ?_, h.d1, h.d2, h.d3, h.d4, fun p j hp hj => ?_, h.lv, h.lm, fun p j he hp hj => hk _ _ _ (by decide) (h.hx p j he hp hj), fun q hq => ⟨(ho q.1 (h.fz q hq).b).trans (h.fz q hq).at_, (h.fz q hq).b, (h.fz q hq).vb, (h.fz q hq).ob, (h.fz q hq).mb, (h.fz q hq).tv, (h.fz q hq).sv, (h.fz q hq).ids⟩⟩
  · obtain ⟨h1, cur, h2, h3⟩ := h.hc i hi
    exact ⟨h1, cur, hk _ _ _ (by decide) h2, h3⟩
  · obtain ⟨h1, o, h2⟩ := h.d5 p j hp hj
    exact ⟨h1, o, hk _ _ _ (by decide) h2⟩
/-- The values are others. -/
theorem FM.vals {B n : Nat} {ex : Option Nat} {W W' : World} {s : FS} (h : FM B n ex W s) (vs : List Int) (hl : vs.length = s.vs.length) (hv : W'.heap[s.vb]? = some (.cells (iC vs) 3)) (ho : ∀ k, k ≠ s.vb → W'.heap[k]? = W.heap[k]?) : FM B n ex W' { s with vs := vs } := by
  have hk : ∀ (k : Nat) (o : Array Value) (t : TypeId), t ≠ 3 → W.heap[k]? = some (.cells o t) → W'.heap[k]? = some (.cells o t) := fun k o t hne hc => (ho k (ty_ne hc h.hv hne)).trans hc
  refine ⟨h.lo, hk _ _ _ (by decide) h.hb, hv, hk _ _ _ (by decide) h.ho, (ho _ (Ne.symm h.d1)).trans h.hm, ownsRow_keep h.ht (fun g o hg hc => (ho g (h.d2 g hg).1).trans hc), fun p hp he => ownsRow_keep (h.hw p hp he) (fun g o _ hc => hk _ _ _ (by decide) hc), fun i hi => ?_, h.d1, h.d2, h.d3, h.d4, fun p j hp hj => ?_, by rw [hl]; exact h.lv, h.lm, fun p j he hp hj => hk _ _ _ (by decide) (h.hx p j he hp hj), fun q hq => ⟨(ho q.1 (h.fz q hq).vb).trans (h.fz q hq).at_, (h.fz q hq).b, (h.fz q hq).vb, (h.fz q hq).ob, (h.fz q hq).mb, (h.fz q hq).tv, (h.fz q hq).sv, (h.fz q hq).ids⟩⟩
  · obtain ⟨h1, cur, h2, h3⟩ := h.hc i hi
    exact ⟨h1, cur, (ho i (h.d3 i hi).1).trans h2, h3⟩
  · obtain ⟨h1, o, h2⟩ := h.d5 p j hp hj
    exact ⟨h1, o, hk _ _ _ (by decide) h2⟩
theorem FM.met {B n : Nat} {ex : Option Nat} {W W' : World} {s : FS} (h : FM B n ex W s) (ms : List Int) (hl : ms.length = s.ms.length) (hv : W'.heap[s.mb]? = some (.cells (iC ms) 3)) (ho : ∀ k, k ≠ s.mb → W'.heap[k]? = W.heap[k]?) : FM B n ex W' { s with ms := ms } := by
  have hk : ∀ (k : Nat) (o : Array Value) (t : TypeId), t ≠ 3 → W.heap[k]? = some (.cells o t) → W'.heap[k]? = some (.cells o t) := fun k o t hne hc => (ho k (ty_ne hc h.hm hne)).trans hc
  refine ⟨h.lo, hk _ _ _ (by decide) h.hb, (ho _ h.d1).trans h.hv, hk _ _ _ (by decide) h.ho, hv, ownsRow_keep h.ht (fun g o hg hc => (ho g (h.d2 g hg).2.1).trans hc), fun p hp he => ownsRow_keep (h.hw p hp he) (fun g o _ hc => hk _ _ _ (by decide) hc), fun i hi => ?_, h.d1, h.d2, h.d3, h.d4, fun p j hp hj => ?_, h.lv, by rw [hl]; exact h.lm, fun p j he hp hj => hk _ _ _ (by decide) (h.hx p j he hp hj), fun q hq => ⟨(ho q.1 (h.fz q hq).mb).trans (h.fz q hq).at_, (h.fz q hq).b, (h.fz q hq).vb, (h.fz q hq).ob, (h.fz q hq).mb, (h.fz q hq).tv, (h.fz q hq).sv, (h.fz q hq).ids⟩⟩
  · obtain ⟨h1, cur, h2, h3⟩ := h.hc i hi
    exact ⟨h1, cur, (ho i (h.d3 i hi).2).trans h2, h3⟩
  · obtain ⟨h1, o, h2⟩ := h.d5 p j hp hj
    exact ⟨h1, o, hk _ _ _ (by decide) h2⟩
/-- A clause's literals stand in another order. -/
theorem FM.swap {B n : Nat} {ex : Option Nat} {W W' : World} {s : FS} (h : FM B n ex W s) {i : Nat} (hi : i ∈ s.ids) (hw0 : ∀ l, ∀ j ∈ s.ws l, True) (c' : List Int) (hl : c'.length = (s.cl i).length) (cur : Array Value) (hv : W'.heap[i]? = some (.cells cur 3)) (hcur : cur.toList.take c'.length = iL c') (hnd : s.ids.Nodup) (ho : ∀ k, k ≠ i → W'.heap[k]? = W.heap[k]?) : FM B n ex W' { s with cl := upC s.cl i c' } := by
  obtain ⟨e1, cur0, e2, e3⟩ := h.hc i hi
  have hk : ∀ (k : Nat) (o : Array Value) (t : TypeId), t ≠ 3 → W.heap[k]? = some (.cells o t) → W'.heap[k]? = some (.cells o t) := fun k o t hne hc => (ho k (ty_ne hc e2 hne)).trans hc
  refine ⟨h.lo, hk _ _ _ (by decide) h.hb, (ho _ (Ne.symm (h.d3 i hi).1)).trans h.hv, hk _ _ _ (by decide) h.ho, (ho _ (Ne.symm (h.d3 i hi).2)).trans h.hm, ownsRow_keep h.ht (fun g o hg hc => (ho g (fun e => (h.d2 g hg).2.2 (e ▸ hi))).trans hc), fun p hp he => ownsRow_keep (h.hw p hp he) (fun g o _ hc => hk _ _ _ (by decide) hc), fun j hj => ?_, h.d1, h.d2, h.d3, h.d4, fun p j hp hj => ?_, h.lv, h.lm, fun p j he hp hj => hk _ _ _ (by decide) (h.hx p j he hp hj), fun q hq => ⟨(ho q.1 (fun e => (h.fz q hq).ids (e ▸ hi))).trans (h.fz q hq).at_, (h.fz q hq).b, (h.fz q hq).vb, (h.fz q hq).ob, (h.fz q hq).mb, (h.fz q hq).tv, (h.fz q hq).sv, (h.fz q hq).ids⟩⟩
  · by_cases e : j = i
    · subst e
      show s.ln j = (upC s.cl j c' j).length ∧ ∃ cur, W'.heap[j]? = some (.cells cur 3) ∧ cur.toList.take (upC s.cl j c' j).length = iL (upC s.cl j c' j)
      rw [upC_same]
      exact ⟨by rw [hl]; exact e1, cur, hv, hcur⟩
    · show s.ln j = (upC s.cl i c' j).length ∧ ∃ cur, W'.heap[j]? = some (.cells cur 3) ∧ cur.toList.take (upC s.cl i c' j).length = iL (upC s.cl i c' j)
      rw [upC_other e]
      obtain ⟨f1, f2, f3, f4⟩ := h.hc j hj
      exact ⟨f1, f2, (ho j e).trans f3, f4⟩
  · obtain ⟨h1, o, h2⟩ := h.d5 p j hp hj
    exact ⟨h1, o, hk _ _ _ (by decide) h2⟩
end Go.Proofs.Ytonfbnbkhpabbaa
namespace Go.Proofs.Ytonfbnbkhpabbaa
open Go Go.RowKit Gs
set_option linter.unusedVariables false
set_option linter.unusedSimpArgs false
set_option maxRecDepth 100000
theorem heap_lt {W : World} {k : Nat} {o : Obj} (h : W.heap[k]? = some o) : k < W.heap.size := (Array.getElem?_eq_some_iff.1 h).1
theorem heap_set {W : World} {b i : Nat} {o : Array Value} {t : TypeId} {v : Value} (h : W.heap[b]? = some (.cells o t)) : (W.setCell ⟨b, i, none⟩ v).heap[b]? = some (.cells (o.setIfInBounds i v) t) := by
  unfold World.setCell
  simp only
  rw [Array.getElem?_modify]
  simp [h]
/-- One more is assumed. -/
theorem FM.push {B n : Nat} {ex : Option Nat} {W w1 : World} {s : FS} {v' : Value} {l : Int} (h : FM B n ex W s) (hown : w1.ownsRow B 3 1 v' (s.t.length + 1) (iL s.t ++ [.int .i64 l])) (hg : W.grownBy w1 s.tv.ownBlock) (hb : v'.ownBlock = s.tv.ownBlock ∨ v'.ownBlock = some W.heap.size) : FM B n ex (w1.setCell ⟨s.b, 1, none⟩ v') { s with t := s.t ++ [l], tv := v' } := by
  have hT : ∀ j, s.tv.ownBlock = some j → ∃ o, W.heap[j]? = some (.cells o 3) := fun j hj => own_ty h.ht hj
  have k1 : ∀ (k : Nat) (o : Array Value) (t : TypeId), W.heap[k]? = some (.cells o t) → (t ≠ 3 ∨ s.tv.ownBlock ≠ some k) → w1.heap[k]? = some (.cells o t) := fun k o t hc hne => by
    refine (hg.block k (heap_lt hc) ?_).trans hc
    intro e
    rcases hne with h1 | h1
    · obtain ⟨o', h2⟩ := hT k e.symm
      exact ty_ne hc h2 h1 rfl
    · exact h1 e.symm
  have hb1 := k1 _ _ _ h.hb (.inl (by decide))
  have k2 : ∀ (k : Nat) (o : Array Value) (t : TypeId), t ≠ 53 → w1.heap[k]? = some (.cells o t) → (w1.setCell ⟨s.b, 1, none⟩ v').heap[k]? = some (.cells o t) := fun k o t hne hc => (Below.heap_setCell w1 ⟨s.b, 1, none⟩ v' k (ty_ne hc hb1 hne)).trans hc
  have nv : ∀ x, x < W.heap.size → x ≠ W.heap.size := fun x hx => by omega
  have hvb := k1 _ _ _ h.hv (.inr (fun e => (h.d2 _ e).1 rfl))
  have hmb := k1 _ _ _ h.hm (.inr (fun e => (h.d2 _ e).2.1 rfl))
  refine ⟨h.lo, ?_, k2 _ _ _ (by decide) hvb, k2 _ _ _ (by decide) (k1 _ _ _ h.ho (.inl (by decide))), k2 _ _ _ (by decide) hmb, ?_, fun p hp he => ?_, fun i hi => ?_, h.d1, fun j hj => ?_, h.d3, h.d4, fun p j hp hj => ?_, h.lv, h.lm, fun p j he hp hj => k2 _ _ _ (by decide) (k1 _ _ _ (h.hx p j he hp hj) (.inl (by decide))), fun q hq => ?_⟩
  · rw [heap_set hb1]; rfl
  · show World.ownsRow _ B 3 1 v' (s.t ++ [l]).length (iL (s.t ++ [l]))
    rw [List.length_append]
    unfold iL at *
    rw [List.map_append]
    exact ownsRow_keep hown (fun g o _ hc => k2 _ _ _ (by decide) hc)
  · exact ownsRow_keep (h.hw p hp he) (fun g o _ hc => k2 _ _ _ (by decide) (k1 _ _ _ hc (.inl (by decide))))
  · obtain ⟨h1, cur, h2, h3⟩ := h.hc i hi
    exact ⟨h1, cur, k2 _ _ _ (by decide) (k1 _ _ _ h2 (.inr (fun e => (h.d2 _ e).2.2 hi))), h3⟩
  · rcases hb with e | e
    · exact h.d2 j (e ▸ hj)
    · have hj' : some W.heap.size = some j := e.symm.trans hj
      injection hj' with e2
      subst e2
      refine ⟨show W.heap.size ≠ s.vb from fun e => ?_, show W.heap.size ≠ s.mb from fun e => ?_, fun hm => ?_⟩
      · have := heap_lt h.hv; omega
      · have := heap_lt h.hm; omega
      · obtain ⟨_, cur, h2, _⟩ := h.hc _ hm
        have := heap_lt h2; omega
  · obtain ⟨h1, o, h2⟩ := h.d5 p j hp hj
    exact ⟨h1, o, k2 _ _ _ (by decide) (k1 _ _ _ h2 (.inl (by decide)))⟩
  · have z := h.fz q hq
    refine ⟨(Below.heap_setCell w1 ⟨s.b, 1, none⟩ v' q.1 z.b).trans (k1 _ _ _ z.at_ (.inr z.tv)), z.b, z.vb, z.ob, z.mb, fun e => ?_, z.sv, z.ids⟩
    rcases hb with e1 | e1
    · exact z.tv (e1 ▸ e)
    · have e2 : some W.heap.size = some q.1 := e1.symm.trans e
      injection e2 with e3
      have := heap_lt z.at_; omega
theorem plN_ltP {q : Nat} (h : ltP q ≠ 0) : plN (ltP q) = q := by
  unfold ltP plN at *
  split at h
  · rename_i h1
    rw [if_pos h1]
    split <;> omega
  · rename_i h1
    rw [if_neg h1]
    split <;> omega
def upV (sv : Nat → Value) (p : Nat) (v : Value) : Nat → Value := fun q => if q = p then v else sv q
theorem svA_set (n : Nat) (sv : Nat → Value) (p : Nat) (v : Value) : (svA n sv).setIfInBounds p v = svA n (upV sv p v) := by
  unfold svA
  apply Array.ext'
  simp
  apply List.ext_getElem?
  intro i
  rw [List.getElem?_set]
  by_cases hi : i < 2 * n + 2
  · by_cases e : p = i
    · subst e
      simp [hi, upV]
    · rw [if_neg e]
      simp [List.getElem?_range hi, upV, Ne.symm e]
  · by_cases e : p = i
    · subst e
      simp [hi]
    · rw [if_neg e]
      simp [hi]
/-- A clause more watches a literal. -/
theorem FM.row {B n : Nat} {ex : Option Nat} {W w1 : World} {s : FS} {v' : Value} {lit : Int} {i : Nat} (h : FM B n ex W s) (hl : Lit n lit) (hex : ex ≠ some (plN lit)) (hown : w1.ownsRow B 24 1 v' ((s.ws lit).length + 1) ((s.ws lit).map (hd s.ln s.cap) ++ [hd s.ln s.cap i])) (hg : W.grownBy w1 (s.sv (plN lit)).ownBlock) (hb : v'.ownBlock = (s.sv (plN lit)).ownBlock ∨ v'.ownBlock = some W.heap.size) (hBW : B ≤ W.heap.size) : FM B n ex (w1.setCell ⟨s.ob, plN lit, none⟩ v') { s with sv := upV s.sv (plN lit) v', ws := upW s.ws lit (s.ws lit ++ [i]) } := by
  have hp := plN_lt hl
  have hT : ∀ j, (s.sv (plN lit)).ownBlock = some j → ∃ o, W.heap[j]? = some (.cells o 24) := fun j hj => (h.d5 _ j hp hj).2
  have k1 : ∀ (k : Nat) (o : Array Value) (t : TypeId), W.heap[k]? = some (.cells o t) → (t ≠ 24 ∨ (s.sv (plN lit)).ownBlock ≠ some k) → w1.heap[k]? = some (.cells o t) := fun k o t hc hne => by
    refine (hg.block k (heap_lt hc) ?_).trans hc
    intro e
    rcases hne with h1 | h1
    · obtain ⟨o', h2⟩ := hT k e.symm
      exact ty_ne hc h2 h1 rfl
    · exact h1 e.symm
  have ho1 := k1 _ _ _ h.ho (.inl (by decide))
  have k2 : ∀ (k : Nat) (o : Array Value) (t : TypeId), t ≠ 22 → w1.heap[k]? = some (.cells o t) → (w1.setCell ⟨s.ob, plN lit, none⟩ v').heap[k]? = some (.cells o t) := fun k o t hne hc => (Below.heap_setCell w1 ⟨s.ob, plN lit, none⟩ v' k (ty_ne hc ho1 hne)).trans hc
  have other : ∀ q, q < 2 * n + 2 → q ≠ plN lit → ∀ j, (s.sv q).ownBlock = some j → (s.sv (plN lit)).ownBlock ≠ some j := fun q hq hne j hj e => hne (h.d4 q _ j hq hp hj e)
  refine ⟨h.lo, k2 _ _ _ (by decide) (k1 _ _ _ h.hb (.inl (by decide))), k2 _ _ _ (by decide) (k1 _ _ _ h.hv (.inl (by decide))), ?_, k2 _ _ _ (by decide) (k1 _ _ _ h.hm (.inl (by decide))), ownsRow_keep h.ht (fun g o _ hc => k2 _ _ _ (by decide) (k1 _ _ _ hc (.inl (by decide)))), fun q hq he => ?_, fun j hj => ?_, h.d1, h.d2, h.d3, fun q r j hq hr h1 h2 => ?_, fun q j hq hj => ?_, h.lv, h.lm, fun q j he hq hj => ?_, fun q hq => ?_⟩
  · rw [heap_set ho1, svA_set]
  · show World.ownsRow _ B 24 1 (upV s.sv (plN lit) v' q) (upW s.ws lit (s.ws lit ++ [i]) (ltP q)).length ((upW s.ws lit (s.ws lit ++ [i]) (ltP q)).map (hd s.ln s.cap))
    by_cases e : q = plN lit
    · subst e
      rw [ltP_plN, upW_same, List.length_append, List.map_append]
      unfold upV
      rw [if_pos rfl]
      exact ownsRow_keep hown (fun g o _ hc => k2 _ _ _ (by decide) hc)
    · have e2 : ltP q ≠ lit := fun e3 => e (by rw [← e3, plN_ltP (by rw [e3]; exact hl.1)])
      rw [upW_other e2]
      unfold upV
      rw [if_neg e]
      exact ownsRow_keep (h.hw q hq he) (fun g o hgo hc => k2 _ _ _ (by decide) (k1 _ _ _ hc (.inr (other q hq e g hgo))))
  · obtain ⟨h1, cur, h2, h3⟩ := h.hc j hj
    exact ⟨h1, cur, k2 _ _ _ (by decide) (k1 _ _ _ h2 (.inl (by decide))), h3⟩
  · have key : ∀ q, q < 2 * n + 2 → q ≠ plN lit → (s.sv q).ownBlock = some j → v'.ownBlock ≠ some j := fun q hq hne hj e => by
      rcases hb with e1 | e1
      · exact other q hq hne j hj (e1 ▸ e)
      · obtain ⟨_, o, h3⟩ := h.d5 q j hq hj
        have h4 := heap_lt h3
        have h5 : some W.heap.size = some j := e1.symm.trans e
        injection h5 with h6
        omega
    unfold upV at h1 h2
    simp only at h1 h2
    by_cases eq : q = plN lit
    · by_cases er : r = plN lit
      · rw [eq, er]
      · rw [if_pos eq] at h1
        rw [if_neg er] at h2
        exact absurd h1 (key r hr er h2)
    · by_cases er : r = plN lit
      · rw [if_neg eq] at h1
        rw [if_pos er] at h2
        exact absurd h2 (key q hq eq h1)
      · rw [if_neg eq] at h1
        rw [if_neg er] at h2
        exact h.d4 q r j hq hr h1 h2
  · have hj' : (upV s.sv (plN lit) v' q).ownBlock = some j := hj
    unfold upV at hj'
    by_cases e : q = plN lit
    · rw [if_pos e] at hj'
      obtain ⟨o, h2⟩ := own_ty hown hj'
      refine ⟨(World.ownsRow.lt hown j hj').1, o, k2 _ _ _ (by decide) h2⟩
    · rw [if_neg e] at hj'
      obtain ⟨h1, o, h2⟩ := h.d5 q j hq hj'
      exact ⟨h1, o, k2 _ _ _ (by decide) (k1 _ _ _ h2 (.inr (other q hq e j hj')))⟩
  · have hne : q ≠ plN lit := fun e => hex (by rw [he, e])
    have hj' : (upV s.sv (plN lit) v' q).ownBlock = some j := hj
    unfold upV at hj'
    rw [if_neg hne] at hj'
    exact k2 _ _ _ (by decide) (k1 _ _ _ (h.hx q j he hq hj') (.inr (other q hq hne j hj')))
  · have z := h.fz q hq
    refine ⟨(Below.heap_setCell w1 ⟨s.ob, plN lit, none⟩ v' q.1 z.ob).trans (k1 _ _ _ z.at_ (.inr (z.sv _ hp))), z.b, z.vb, z.ob, z.mb, z.tv, fun p hp' e => ?_, z.ids⟩
    have e' : (upV s.sv (plN lit) v' p).ownBlock = some q.1 := e
    unfold upV at e'
    by_cases ep : p = plN lit
    · rw [if_pos ep] at e'
      rcases hb with e1 | e1
      · exact z.sv _ hp (e1 ▸ e')
      · have e2 : some W.heap.size = some q.1 := e1.symm.trans e'
        injection e2 with e3
        have := heap_lt z.at_; omega
    · rw [if_neg ep] at e'
      exact z.sv p hp' e'
def upN (f : Nat → Nat) (i v : Nat) : Nat → Nat := fun j => if j = i then v else f j
/-- A clause more. -/
theorem FM.name {B n : Nat} {W0 W : World} {s : FS} {i : Nat} {c : List Int} {k cp : Nat} (h0 : FM B n none W0 s) (h : FM B n none W s) (hi : W0.heap.size ≤ i) (hBi : B ≤ i) (hk : k = c.length) (hc : ∃ cur, W.heap[i]? = some (.cells cur 3) ∧ cur.toList.take c.length = iL c) (hws : ∀ l, ∀ j ∈ s.ws l, j ∈ s.ids) : FM B n none W { s with ids := s.ids ++ [i], cl := upC s.cl i c, ln := upN s.ln i k, cap := upN s.cap i cp } := by
  have hni : i ∉ s.ids := fun hm => by
    obtain ⟨_, cur, h2, _⟩ := h0.hc i hm
    have := heap_lt h2; omega
  have hhd : ∀ j, j ≠ i → hd (upN s.ln i k) (upN s.cap i cp) j = hd s.ln s.cap j := fun j hj => by
    unfold hd upN; rw [if_neg hj, if_neg hj]
  refine ⟨⟨h.lo.1, h.lo.2.1, h.lo.2.2.1, h.lo.2.2.2.1, fun j hj => ?_⟩, h.hb, h.hv, h.ho, h.hm, h.ht, fun p hp he => ?_, fun j hj => ?_, h.d1, fun j hj => ?_, fun j hj => ?_, h.d4, h.d5, h.lv, h.lm, (fun p j he => by cases he), fun q hq => ⟨(h.fz q hq).at_, (h.fz q hq).b, (h.fz q hq).vb, (h.fz q hq).ob, (h.fz q hq).mb, (h.fz q hq).tv, (h.fz q hq).sv, fun hm => ?_⟩⟩
  · rcases List.mem_append.1 hj with h1 | h1
    · exact h.lo.2.2.2.2 j h1
    · simp at h1; subst h1; exact hBi
  · show World.ownsRow W B 24 1 (s.sv p) (s.ws (ltP p)).length ((s.ws (ltP p)).map (hd (upN s.ln i k) (upN s.cap i cp)))
    have e : (s.ws (ltP p)).map (hd (upN s.ln i k) (upN s.cap i cp)) = (s.ws (ltP p)).map (hd s.ln s.cap) := List.map_congr_left (fun j hj => hhd j (fun e => hni (e ▸ hws _ j hj)))
    rw [e]
    exact h.hw p hp he
  · show upN s.ln i k j = (upC s.cl i c j).length ∧ ∃ cur, W.heap[j]? = some (.cells cur 3) ∧ cur.toList.take (upC s.cl i c j).length = iL (upC s.cl i c j)
    rcases List.mem_append.1 hj with h1 | h1
    · have e : j ≠ i := fun e => hni (e ▸ h1)
      rw [upC_other e]
      unfold upN
      rw [if_neg e]
      exact h.hc j h1
    · simp at h1; subst h1
      rw [upC_same]
      unfold upN
      rw [if_pos rfl]
      exact ⟨hk, hc⟩
  · obtain ⟨a1, a2, a3⟩ := h.d2 j hj
    refine ⟨a1, a2, fun hm => ?_⟩
    rcases List.mem_append.1 hm with h1 | h1
    · exact a3 h1
    · simp at h1; subst h1
      obtain ⟨o, h2⟩ := own_ty h0.ht hj
      have := heap_lt h2; omega
  · rcases List.mem_append.1 hj with h1 | h1
    · exact h.d3 j h1
    · simp at h1; subst h1
      have h2 := heap_lt h0.hv
      have h3 := heap_lt h0.hm
      exact ⟨(show j ≠ s.vb by omega), (show j ≠ s.mb by omega)⟩
  · rcases List.mem_append.1 hm with h1 | h1
    · exact (h.fz q hq).ids h1
    · have e : q.1 = i := by simpa using h1
      have := heap_lt (h0.fz q hq).at_; omega
end Go.Proofs.Ytonfbnbkhpabbaa
