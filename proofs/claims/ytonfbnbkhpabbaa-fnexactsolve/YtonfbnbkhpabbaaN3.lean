/- The specification's CheckTrace. -/
import Derived.Test.YtonfbnbkhpabbaaN1
import Derived.Deep.Upon
import Derived.Deep.AppendSrc
import Derived.Lib.AppendZeros
namespace Go.Proofs.Ytonfbnbkhpabbaa
open Go Go.RowKit Gs
set_option linter.unusedVariables false
set_option linter.unusedSimpArgs false
set_option maxRecDepth 100000
/-- A row of slices of one's own; what they hold lies in memory that was there. -/
def AR (B : Nat) (w0 : World) (W : World) (v : Value) (xs : List (List Int)) : Prop := ∃ vals, W.ownsRow B 24 1 v xs.length vals ∧ ∀ (i : Nat) x, xs[i]? = some x → ∃ u, vals[i]? = some u ∧ RS 1 RInt w0 0 x u
theorem info28 : (Try.prog.info? 24).map (fun i => (i.zero, i.size, i.bytes)) = some (some (.slice none 0 0), 1, 24) := by kernel_rfl
theorem AR.read {B : Nat} {w0 W : World} {v : Value} {xs : List (List Int)} (h : AR B w0 W v xs) (hb : Below w0.heap.size w0 W) (hl : xs.length ≤ maxLen) : RS 1 RIntS W 0 xs v := by
  obtain ⟨vals, h1, h2⟩ := h
  have hc := fun g hg => World.ownsRow.cells h1 (g := g) hg
  rcases h1.2 with ⟨rfl, hn⟩ | ⟨g, cap, cur, rfl, _, hg, hlc, hm, _⟩
  · have : xs = [] := List.length_eq_zero_iff.1 hn
    subst this
    exact RS.nil _ _ _ _ _ _
  · refine ⟨_, _, rfl, hlc, hl, fun _ => ⟨g, 0, rfl, Nat.zero_le _, fun i x hx => ?_⟩⟩
    obtain ⟨u, hu, hr⟩ := h2 i x hx
    refine ⟨[u], rfl, fun j y hj => ?_, u, rfl, hr.later RInt.keeps hb⟩
    have hj0 : j = 0 := by
      cases j with
      | zero => rfl
      | succ j => simp at hj
    subst hj0
    simp at hj
    subst hj
    have := hc g rfl i _ hu
    rw [Addr.add_lit] at this
    simpa using this
theorem AR.shape {B : Nat} {w0 W : World} {v : Value} {xs : List (List Int)} (h : AR B w0 W v xs) : ∃ a c, v = .slice a xs.length c := by
  obtain ⟨vals, ⟨_, ⟨hv, hn⟩ | ⟨g, cap, cur, hv, _⟩⟩, _⟩ := h
  · exact ⟨none, 0, by rw [hv, hn]⟩
  · exact ⟨_, _, hv⟩
theorem ownsRow_keep {W W' : World} {B e k n : Nat} {v : Value} {vs : List Value} (h : W.ownsRow B e k v n vs) (hk : ∀ g o, v.ownBlock = some g → W.heap[g]? = some (.cells o e) → W'.heap[g]? = some (.cells o e)) : W'.ownsRow B e k v n vs := by
  obtain ⟨h1, h2 | ⟨g, cap, cur, hv, hg, hc, rest⟩⟩ := h
  · exact ⟨h1, .inl h2⟩
  · refine ⟨h1, .inr ⟨g, cap, cur, hv, hg, hk g cur ?_ hc, rest⟩⟩
    rw [hv]; rfl
theorem AR.later {B : Nat} {w0 W W' : World} {v : Value} {xs : List (List Int)} (h : AR B w0 W v xs) (hb : Below W.heap.size W W') : AR B w0 W' v xs := by
  obtain ⟨vals, h1, h2⟩ := h
  exact ⟨vals, ownsRow_keep h1 (fun g o _ hc => (hb.block g (Array.getElem?_eq_some_iff.1 hc).1).trans hc), h2⟩
theorem AR.row {B : Nat} {w0 W : World} {v : Value} {xs : List (List Int)} (h : AR B w0 W v xs) : ∀ j, v.ownBlock = some j → B ≤ j := by
  obtain ⟨vals, h1, _⟩ := h
  exact fun j hj => (World.ownsRow.lt h1 j hj).1
/-- Slices are appended, whatever slice they lie in. -/
theorem wpAppL {ops : Array Oper} {rest : List Oper} {o : Oper} {a : Act} {Q : Exit → Act → World → Prop} {w : World} (hg : o.guard = none) (s x : Operand) (hop : o.op = Op.call { callee := Callee.builtin Builtin.append, args := #[s, x], argTypes := #[22, 22] })
    (B : Nat) (w0 : World) (v : Value) (xs : List (List Int)) (hs : a.eval s = v) (hown : AR B w0 w v xs) (xv : Value) (ys : List (List Int)) (hx : a.eval x = xv) (hb0 : Below w0.heap.size w0 w) (hr : RS 1 RIntS w0 0 ys xv) (hlen : xs.length + ys.length ≤ 4194304) (hB : B ≤ w.heap.size)
    (hK : ∀ v' w', AR B w0 w' v' (xs ++ ys) → w.grownBy w' v.ownBlock → wpList Try.prog ops Q rest (a.put o.dst v') w') : wpList Try.prog ops Q (o :: rest) a w := by
  obtain ⟨i0, hi, hz0, hz1, hz2⟩ := info_parts info28
  rcases hr.open with ⟨rfl, ad, c, rfl⟩ | ⟨b, off, c, rfl, hc, hn, _, hcs⟩
  · obtain ⟨sa, sl, sc, rfl, hle⟩ : ∃ sa sl sc, v = .slice sa sl sc ∧ sl ≤ sc := by
      obtain ⟨vals, h1, _⟩ := hown
      rcases h1.2 with ⟨rfl, _⟩ | ⟨g, cap, cur, rfl, _, _, h, _⟩
      · exact ⟨_, _, _, rfl, Nat.le_refl _⟩
      · exact ⟨_, _, _, rfl, h⟩
    have hS : Src Try.prog i0.size 22 (.slice ad 0 c) 0 [] w := by
      cases ad with
      | none => exact Src.ofNil w Try.underlying22 c
      | some ad => exact Src.ofSlice w Try.underlying22 ad 0 c [] (by simp) (fun j u h => by simp at h) (fun _ h => by cases h)
    have hrun := run_append_nothing (P := Try.prog) w 22 22 o.type 24 i0 Try.underlying22 hi sa sl sc hle _ hS
    refine wpList_plain hg fun K hK' => ?_
    unfold Oper.wp
    simp [execOp, hop, resolve, invoke, builtin, hs, hx, hrun, Result.andThen]
    exact hK' _ _ (hK _ w (by simpa using hown) (World.grownBy.refl _ _))
  · have hun : ∃ us : List Value, us.length = ys.length ∧ ∀ (i : Nat) y, ys[i]? = some y → ∃ u, us[i]? = some u ∧ RS 1 RInt w0 0 y u ∧ w0.cell? ⟨b, off + i, none⟩ = some u := by
      refine ⟨(List.range ys.length).map (fun i => (w0.cell? ⟨b, off + i, none⟩).getD undef), by simp, fun i y hy => ?_⟩
      have hi' := (List.getElem?_eq_some_iff.1 hy).1
      obtain ⟨u, hul, hat, vy, hue, hry⟩ := hcs i y hy
      subst hue
      have k0 := hat.get (j := 0) rfl
      simp only [Nat.add_zero, Nat.mul_one] at k0
      refine ⟨vy, ?_, hry, k0⟩
      rw [List.getElem?_map, List.getElem?_range hi', Option.map_some, k0]; rfl
    obtain ⟨us, hul, hus⟩ := hun
    obtain ⟨vals, h1, h2⟩ := hown
    refine wpList_append_own _ hg s x 22 hop B 24 i0 (.slice none 0 0) 1 24 Try.underlying22 hi hz0 hz1 hz2 rfl (by decide) v xs.length vals hs h1 ⟨b, off, none⟩ ys.length c us hx (by rw [hul, Nat.mul_one]) ?_ ?_ (by unfold maxLen; omega) (by omega) hB ?_
    · intro j u hj
      have hjl : j < ys.length := by rw [← hul]; exact (List.getElem?_eq_some_iff.1 hj).1
      obtain ⟨u', e, _, hcell⟩ := hus j _ (List.getElem?_eq_getElem hjl)
      rw [hj] at e
      cases e
      rw [Addr.add_lit]
      exact cell_later hb0 hcell
    · intro u hu
      obtain ⟨j, hj, e⟩ := List.mem_iff_getElem.1 hu
      obtain ⟨u', e2, hr2, _⟩ := hus j _ (List.getElem?_eq_getElem (by omega : j < ys.length))
      rw [List.getElem?_eq_getElem hj, e] at e2
      cases e2
      obtain ⟨sa, sc, rfl⟩ := hr2.slice
      rfl
    · intro v' w' ho hgr _
      refine hK v' w' ⟨vals ++ us, by rw [List.length_append]; exact ho, fun i z hz => ?_⟩ hgr
      have hvl : vals.length = xs.length := by have := h1.1; omega
      by_cases hi' : i < xs.length
      · rw [List.getElem?_append_left hi'] at hz
        obtain ⟨u, e, hr3⟩ := h2 i z hz
        exact ⟨u, by rw [List.getElem?_append_left (by omega)]; exact e, hr3⟩
      · rw [List.getElem?_append_right (by omega)] at hz
        obtain ⟨u, e, hr3, _⟩ := hus _ z hz
        exact ⟨u, by rw [List.getElem?_append_right (by omega), hvl]; exact e, hr3⟩
/-- What a trace must keep. -/
def TrP (Cl tr : List (List Int)) (i : Nat) : Prop := ∀ (j : Nat) c, j < i → tr[j]? = some c → Con (Cl ++ tr.take j) (c.map fun l => -l)
theorem TrP.step {Cl tr : List (List Int)} {i : Nat} {c : List Int} (h : TrP Cl tr i) (hc : tr[i]? = some c) (hn : Con (Cl ++ tr.take i) (c.map fun l => -l)) : TrP Cl tr (i + 1) := by
  intro j d hj hd
  by_cases e : j = i
  · subst e; rw [hc] at hd; cases hd; exact hn
  · exact h j d (by omega) hd
/-- What both answer. -/
def CTP (vars : Int) (Cl tr : List (List Int)) : Prop := okC vars 64 Cl = true ∧ okC vars vars tr = true ∧ tr ≠ [] ∧ tr.getD (tr.length - 1) [] = [] ∧ TrP Cl tr tr.length
theorem lits_of {vars : Int} {most : Int} {cs : List (List Int)} {n : Nat} (h : okC vars most cs = true) (hn : vars = (n : Int)) : ∀ c ∈ cs, Lits n c := by
  unfold okC at h
  simp only [Bool.and_eq_true] at h
  intro c hc l hl
  have h1 := (List.all_eq_true.1 h.2) c hc
  unfold clB at h1
  rw [Bool.and_eq_true] at h1
  have h2 := (List.all_eq_true.1 h1.2) l hl
  unfold litB at h2
  simp at h2
  exact ⟨h2.1.1, by omega, by omega⟩
theorem okC_vars {vars : Int} {most : Int} {cs : List (List Int)} (h : okC vars most cs = true) : 0 ≤ vars ∧ vars ≤ 2048 ∧ cs.length ≤ 8192 := by
  unfold okC at h
  simp at h
  exact ⟨h.1.1.1, h.1.1.2, h.1.2⟩
end Go.Proofs.Ytonfbnbkhpabbaa
namespace Go.Proofs.Ytonfbnbkhpabbaa
open Go Go.RowKit Gs
set_option linter.unusedVariables false
set_option linter.unusedSimpArgs false
set_option maxRecDepth 100000
/-- It answers yes just where that holds. -/
def CQ (P : Prop) (e : Ending) : Prop := ∃ b : Bool, e = .returned (.bool b) ∧ (b = true ↔ P)
theorem put_true {n : Nat} {vs : List Int} {l m : Int} (h : Vals n vs) (hl : Lit n l) (hn : val vs l ≠ -1) (hm : val vs m = 1) : val (put vs l) m = 1 := by
  by_cases e : m = l
  · subst e; exact put_same h hl
  · by_cases e2 : m = -l
    · subst e2
      rw [val_neg vs hl.1] at hm
      omega
    · rw [put_other h hl e e2]; exact hm
theorem AR_start (w0 W : World) (B : Nat) (h : B ≤ W.heap.size) : AR B w0 (W.alloc (.cells #[] 24)) (.slice (some ⟨W.heap.size, 0, none⟩) 0 0) [] :=
  ⟨[], ⟨rfl, .inr ⟨W.heap.size, 0, #[], rfl, h, heap_new W _, Nat.le_refl _, Nat.zero_le _, rfl, rfl⟩⟩, fun i x hx => by simp at hx⟩
/-- The headers of a list of lists. -/
theorem heads {w : World} {xs : List (List Int)} {a : Option Addr} {l c : Nat} (hr : RS 1 RIntS w 0 xs (.slice a l c)) : ∀ (k : Nat) y, xs[k]? = some y → ∃ sb so ya yc, a = some ⟨sb, so, none⟩ ∧ w.cell? ⟨sb, so + k, none⟩ = some (.slice ya y.length yc) ∧ RS 1 RInt w 0 y (.slice ya y.length yc) := by
  intro k y hx
  rcases hr.open with ⟨e, _⟩ | ⟨sb, so, c', hv, _, _, _, he⟩
  · rw [e] at hx; simp at hx
  · injection hv with e1 e2 e3
    obtain ⟨u, hu, hat, vy, hue, hry⟩ := he k y hx
    subst hue
    have k0 := hat.get (j := 0) rfl
    simp only [Nat.add_zero, Nat.mul_one] at k0
    obtain ⟨ya, yc, hvy⟩ := hry.slice
    exact ⟨sb, so, ya, yc, e1, by rw [k0, hvy], by rw [← hvy]; exact hry⟩
theorem ints {w : World} {y : List Int} {ya : Option Addr} {l yc : Nat} (hry : RS 1 RInt w 0 y (.slice ya l yc)) : ∀ (j : Nat) z, y[j]? = some z → ∃ yb yo, ya = some ⟨yb, yo, none⟩ ∧ w.cell? ⟨yb, yo + j, none⟩ = some (.int .i64 z) := by
  intro j z hz
  rcases hry.open with ⟨rfl, _⟩ | ⟨yb, yo, c2, hv2, _, _, _, he2⟩
  · simp at hz
  · injection hv2 with f1 f2 f3
    obtain ⟨u, hu, hat, hux⟩ := he2 j z hz
    subst hux
    exact ⟨yb, yo, f1, by simpa using hat.get (j := 0) rfl⟩
theorem CTP.no1 {vars : Int} {Cl tr : List (List Int)} (h : okC vars 64 Cl = false) : (false = true ↔ CTP vars Cl tr) := ⟨(fun h => by cases h), fun h2 => by rw [h2.1] at h; cases h⟩
theorem CTP.no2 {vars : Int} {Cl tr : List (List Int)} (h : okC vars vars tr = false) : (false = true ↔ CTP vars Cl tr) := ⟨(fun h => by cases h), fun h2 => by rw [h2.2.1] at h; cases h⟩
end Go.Proofs.Ytonfbnbkhpabbaa
