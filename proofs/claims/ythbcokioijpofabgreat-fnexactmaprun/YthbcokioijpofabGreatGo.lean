/- A plan for a region that appends to a row of one's own, and whose last operation stores what came of it. -/
import Derived.Test.YthbcokioijpofabGreatGb
import Derived.Test.YthbcokioijpofabGreatGd
import Derived.Test.YthbcokioijpofabGreatQ5
namespace Go.Proofs.YthbcokioijpofabGreat
open Go Go.RowKit
set_option linter.unusedVariables false
section
variable {P : Program} {ops : Array Oper} {a0 : Act} {F : Nat → Value → Prop} {F2 : Nat → World → Value → Prop} {w0 : World} {m n : Nat} {A : Value → World → Prop} {E : World → Prop}
/-- Facts: until the append they may speak of the world; of what the append gave one knows A until it is stored. -/
abbrev GA (F : Nat → Value → Prop) (F2 : Nat → World → Value → Prop) (m n : Nat) (A : Value → World → Prop) : Array Bool → Nat → World → Value → Prop := fun l k w v => F k v ∧ (l.getD m false = false → F2 k w v) ∧ (k = m → l.getD n false = false → A v w)
abbrev JA (w0 : World) (m n : Nat) (A : Value → World → Prop) (E : World → Prop) : Array Bool → World → Prop := fun l w => (l.getD m false = false → Below w0.heap.size w0 w) ∧ (l.getD n false = true → E w) ∧ (l.getD n false = true → l.getD m false = true)
theorem JA.start {w0 w : World} {m n q : Nat} {A : Value → World → Prop} {E : World → Prop} (h : Below w0.heap.size w0 w) : JA w0 m n A E (Array.replicate q false) w := by
  have e : (Array.replicate q false).getD n false = false := by
    by_cases hm : n < q
    · simp [Array.getD, hm]
    · simp [Array.getD, hm]
  exact ⟨fun _ => h, fun h => (by rw [e] at h; cases h), fun h => (by rw [e] at h; cases h)⟩
theorem und {G : Array Bool → Nat → World → Value → Prop} {J : Array Bool → World → Prop} {l : Array Bool} {a : Act} {w : World} (hp : PA ops G J a0 l a w) {k j : Nat} (hn : (ops[j]?).any (fun o => onB o.after k) = true) (hu : l.getD k false = false) : l.getD j false = false := by
  cases e : l.getD j false with
  | false => rfl
  | true =>
    exfalso
    cases ho : ops[j]? with
    | none => rw [ho] at hn; simp at hn
    | some o =>
      rw [ho] at hn
      have hd := onB_spec (by simpa using hn) (hp.down j o ho e)
      rw [hu] at hd
      cases hd
theorem set_oth {l : Array Bool} {k j : Nat} (hu : l.getD k true = false) (h : j ≠ k) : (l.setIfInBounds k true).getD j false = l.getD j false := by
  rw [set_ite (lt_of_undone hu), if_neg h]
theorem set_own {l : Array Bool} {k : Nat} (hu : l.getD k true = false) : (l.setIfInBounds k true).getD k false = true := by
  rw [set_ite (lt_of_undone hu), if_pos rfl]
/-- An operation ahead of the append: it reads. -/
theorem sa_val {k : Nat} {o : Oper} (hkm : k ≠ m) (hkn : k ≠ n) (hm : ∀ l a w, PA ops (GA F F2 m n A) (JA w0 m n A E) a0 l a w → l.getD k false = false → l.getD m false = false ∧ l.getD n false = false) (hg : o.guard = none) (h : ∀ l a w, PA ops (GA F F2 m n A) (JA w0 m n A E) a0 l a w → l.getD m false = false → Below w0.heap.size w0 w → (∀ e ∈ o.after, Region.binds .any e = true → l.getD e.on false = true) → ∃ x, (execOp a.eval o).run P w = .ok (.value x) w ∧ F k x ∧ F2 k w x) : Stp P ops (GA F F2 m n A) (JA w0 m n A E) a0 k o := by
  intro l a w hp hu ha
  obtain ⟨h1, h2⟩ := hm l a w hp (notDoneB hu)
  have hb := hp.j.1 h1
  obtain ⟨x, hr, hf, hf2⟩ := h l a w hp h1 hb ha
  unfold opW
  rw [if_pos (wanted_none hg)]
  refine .inl ⟨x, w, hr, x, rfl, ⟨fun _ => hb, fun e => ?_, fun e => ?_⟩, ⟨hf, fun _ => hf2, fun e => absurd e hkm⟩, fun j d hd hj hG => ⟨hG.1, fun _ => hG.2.1 h1, fun e _ => hG.2.2 e h2⟩⟩
  · rw [set_oth hu (Ne.symm hkn), h2] at e; cases e
  · rw [set_oth hu (Ne.symm hkn), h2] at e; cases e
theorem sa_new {k : Nat} {o : Oper} (hL : Lasts F2) (hkm : k ≠ m) (hkn : k ≠ n) (hm : ∀ l a w, PA ops (GA F F2 m n A) (JA w0 m n A E) a0 l a w → l.getD k false = false → l.getD m false = false ∧ l.getD n false = false) (hg : o.guard = none) (h : ∀ l a w, PA ops (GA F F2 m n A) (JA w0 m n A E) a0 l a w → l.getD m false = false → Below w0.heap.size w0 w → (∀ e ∈ o.after, Region.binds .any e = true → l.getD e.on false = true) → ∃ x ob, (execOp a.eval o).run P w = .ok (.value x) (w.alloc ob) ∧ F k x ∧ F2 k (w.alloc ob) x) : Stp P ops (GA F F2 m n A) (JA w0 m n A E) a0 k o := by
  intro l a w hp hu ha
  obtain ⟨h1, h2⟩ := hm l a w hp (notDoneB hu)
  have hb := hp.j.1 h1
  obtain ⟨x, ob, hr, hf, hf2⟩ := h l a w hp h1 hb ha
  unfold opW
  rw [if_pos (wanted_none hg)]
  refine .inl ⟨x, _, hr, x, rfl, ⟨fun _ => bal hb ob, fun e => ?_, fun e => ?_⟩, ⟨hf, fun _ => hf2, fun e => absurd e hkm⟩, fun j d hd hj hG => ⟨hG.1, fun _ => hL _ _ _ _ (bal (brf w) ob) (hG.2.1 h1), fun e _ => ?_⟩⟩
  · rw [set_oth hu (Ne.symm hkn), h2] at e; cases e
  · rw [set_oth hu (Ne.symm hkn), h2] at e; cases e
  · subst e; rw [h1] at hj; cases hj
theorem sa_call {k : Nat} {o : Oper} {f : FuncId} (hL : Lasts F2) (hkm : k ≠ m) (hkn : k ≠ n) (hm : ∀ l a w, PA ops (GA F F2 m n A) (JA w0 m n A E) a0 l a w → l.getD k false = false → l.getD m false = false ∧ l.getD n false = false) (hg : o.guard = none) (h : ∀ l a w, PA ops (GA F F2 m n A) (JA w0 m n A E) a0 l a w → l.getD m false = false → Below w0.heap.size w0 w → (∀ e ∈ o.after, Region.binds .any e = true → l.getD e.on false = true) → ∃ args, (execOp a.eval o).run P w = .ok (.enter f args) w ∧ Calls P f args w fun e w' => ∃ x, e = .returned x ∧ F k x ∧ F2 k w' x ∧ Below w.heap.size w w') : Stp P ops (GA F F2 m n A) (JA w0 m n A E) a0 k o := by
  intro l a w hp hu ha
  obtain ⟨h1, h2⟩ := hm l a w hp (notDoneB hu)
  have hb := hp.j.1 h1
  obtain ⟨args, hr, hc⟩ := h l a w hp h1 hb ha
  unfold opW
  rw [if_pos (wanted_none hg)]
  refine .inr (.inr ⟨f, args, w, hr, Calls.mono hc ?_⟩)
  rintro e w' ⟨x, rfl, hf, hf2, hb'⟩
  refine ⟨x, rfl, x, rfl, ⟨fun _ => btr hb hb', fun e => ?_, fun e => ?_⟩, ⟨hf, fun _ => hf2, fun e => absurd e hkm⟩, fun j d hd hj hG => ⟨hG.1, fun _ => hL _ _ _ _ hb' (hG.2.1 h1), fun e _ => ?_⟩⟩
  · rw [set_oth hu (Ne.symm hkn), h2] at e; cases e
  · rw [set_oth hu (Ne.symm hkn), h2] at e; cases e
  · subst e; rw [h1] at hj; cases hj
/-- An operation that looks at no memory, whenever it is done. -/
theorem sa_float {k : Nat} {o : Oper} (hkm : k ≠ m) (hkn : k ≠ n) (hn : ∀ l a w, PA ops (GA F F2 m n A) (JA w0 m n A E) a0 l a w → l.getD k false = false → l.getD n false = false) (hg : o.guard = none) (h : ∀ l a w, PA ops (GA F F2 m n A) (JA w0 m n A E) a0 l a w → (∀ e ∈ o.after, Region.binds .any e = true → l.getD e.on false = true) → ∃ x, (execOp a.eval o).run P w = .ok (.value x) w ∧ F k x ∧ F2 k w x) : Stp P ops (GA F F2 m n A) (JA w0 m n A E) a0 k o := by
  intro l a w hp hu ha
  have h2 := hn l a w hp (notDoneB hu)
  obtain ⟨x, hr, hf, hf2⟩ := h l a w hp ha
  unfold opW
  rw [if_pos (wanted_none hg)]
  refine .inl ⟨x, w, hr, x, rfl, ⟨fun e => ?_, fun e => ?_, fun e => ?_⟩, ⟨hf, fun _ => hf2, fun e => absurd e hkm⟩, fun j d hd hj hG => ⟨hG.1, fun e => ?_, fun e _ => hG.2.2 e h2⟩⟩
  · rw [set_oth hu (Ne.symm hkm)] at e; exact hp.j.1 e
  · rw [set_oth hu (Ne.symm hkn), h2] at e; cases e
  · rw [set_oth hu (Ne.symm hkn), h2] at e; cases e
  · rw [set_oth hu (Ne.symm hkm)] at e; exact hG.2.1 e
theorem sa_app {o : Oper} (hmn : m ≠ n) (hn : ∀ l a w, PA ops (GA F F2 m n A) (JA w0 m n A E) a0 l a w → l.getD m false = false → l.getD n false = false) (hg : o.guard = none) (h : ∀ l a w, PA ops (GA F F2 m n A) (JA w0 m n A E) a0 l a w → l.getD m false = false → Below w0.heap.size w0 w → (∀ e ∈ o.after, Region.binds .any e = true → l.getD e.on false = true) → ∃ x w', (execOp a.eval o).run P w = .ok (.value x) w' ∧ A x w' ∧ F m x) : Stp P ops (GA F F2 m n A) (JA w0 m n A E) a0 m o := by
  intro l a w hp hu ha
  have h1 := notDoneB hu
  have h2 := hn l a w hp h1
  obtain ⟨x, w', hr, hA, hf⟩ := h l a w hp h1 (hp.j.1 h1) ha
  unfold opW
  rw [if_pos (wanted_none hg)]
  refine .inl ⟨x, w', hr, x, rfl, ⟨fun e => ?_, fun e => ?_, fun e => ?_⟩, ⟨hf, fun e => ?_, fun _ _ => hA⟩, fun j d hd hj hG => ⟨hG.1, fun e => ?_, fun e _ => ?_⟩⟩
  · rw [set_own hu] at e; cases e
  · rw [set_oth hu (Ne.symm hmn), h2] at e; cases e
  · rw [set_oth hu (Ne.symm hmn), h2] at e; cases e
  · rw [set_own hu] at e; cases e
  · rw [set_own hu] at e; cases e
  · subst e; rw [h1] at hj; cases hj
theorem sa_last {o : Oper} {t : Tmp} (hmn : m ≠ n) (hg : o.guard = none) (hd : (ops[m]?).bind (·.dst) = some t) (hon : onB o.after m = true) (h : ∀ l a w, PA ops (GA F F2 m n A) (JA w0 m n A E) a0 l a w → A (a.eval (.tmp t)) w → (∀ e ∈ o.after, Region.binds .any e = true → l.getD e.on false = true) → ∃ w', (execOp a.eval o).run P w = .ok .skip w' ∧ E w') (hfn : F n undef) : Stp P ops (GA F F2 m n A) (JA w0 m n A E) a0 n o := by
  intro l a w hp hu ha
  have h2 := notDoneB hu
  have h1 : l.getD m false = true := onB_spec hon ha
  obtain ⟨om, hom, hdm⟩ := Option.bind_eq_some_iff.1 hd
  have hA := (hp.good m om t hom hdm h1).2.2 rfl h2
  obtain ⟨w', hr, hE⟩ := h l a w hp hA ha
  unfold opW
  rw [if_pos (wanted_none hg)]
  have e1 : (l.setIfInBounds n true).getD m false = true := by rw [set_oth hu hmn, h1]
  have e2 := set_own hu
  refine .inr (.inl ⟨w', hr, undef, rfl, ⟨fun e => ?_, fun _ => hE, fun _ => e1⟩, ⟨hfn, fun e => ?_, fun e => absurd e.symm hmn⟩, fun j d hd hj hG => ⟨hG.1, fun e => ?_, fun _ e => ?_⟩⟩)
  · rw [e1] at e; cases e
  · rw [e1] at e; cases e
  · rw [e1] at e; cases e
  · rw [e2] at e; cases e
end
end Go.Proofs.YthbcokioijpofabGreat
namespace Go.Proofs.YthbcokioijpofabGreat
open Go Go.RowKit Gs
set_option linter.unusedVariables false
set_option linter.unusedSimpArgs false
set_option maxRecDepth 100000
theorem Fx.cell1 {q : Nat} {W W' : World} (h : Fx q W W') {b o : Nat} {y : Value} (hb : b ≠ q) (hc : W.cell? ⟨b, o, none⟩ = some y) : W'.cell? ⟨b, o, none⟩ = some y := by
  have e := h.block b (World.block_lt_of_cell? _ _ hc) hb
  unfold World.cell? at *
  simp only [e] at *
  exact hc
theorem Fx.frozen1 {q : Nat} {W W' : World} (h : Fx q W W') {b o : Nat} {y : Value} (hb : b ≠ q) (hc : W.cell? ⟨b, o, none⟩ = some y) (hf : W.frozen? ⟨b, o, none⟩ = false) : W'.frozen? ⟨b, o, none⟩ = false := by
  have e := h.block b (World.block_lt_of_cell? _ _ hc) hb
  unfold World.frozen? at *
  simp only [e] at *
  exact hf
theorem Ob.fx {q B b g : Nat} {W W' : World} {u : List Value} {vs : List Bool} (h : Ob B W b g u vs) (hf : Fx q W W') (hb : b ≠ q) (hg : g ≠ q) : Ob B W' b g u vs :=
  ⟨h.hb, h.hg, h.ne, Nat.lt_of_lt_of_le h.lt hf.size, fun j y hj => hf.cell1 hb (h.at_ j y hj), fun i x hx => ⟨hf.cell1 hg (h.vals i x hx).1, hf.frozen1 hg (h.vals i x hx).1 (h.vals i x hx).2⟩⟩
theorem OT.fx {q B : Nat} {W W' : World} {v : Value} {xs : List ByteArray} (h : OT B W v xs) (hf : Fx q W W') (hq : v.ownBlock ≠ some q) : OT B W' v xs := by
  obtain ⟨⟨h1, h2 | ⟨g, cap, cur, hv, hg, hc, rest⟩⟩, h3⟩ := h
  · exact ⟨⟨h1, .inl h2⟩, h3⟩
  · refine ⟨⟨h1, .inr ⟨g, cap, cur, hv, hg, (hf.block g (Array.getElem?_eq_some_iff.1 hc).1 (fun e => hq ?_)).trans hc, rest⟩⟩, h3⟩
    rw [hv, ← e]; rfl
/-- A string that a slice of one holds. -/
def F2S (w0 : World) (k8 : Nat) (y : ByteArray) : Nat → World → Value → Prop := fun k w v => k = k8 → ∃ M, v = .slice (some ⟨M, 0, none⟩) 1 1 ∧ w0.heap.size ≤ M ∧ w.cell? ⟨M, 0, none⟩ = some (.string y)
theorem F2S.lasts (w0 : World) (k8 : Nat) (y : ByteArray) : Lasts (F2S w0 k8 y) := fun k w w' v hb h e => by
  obtain ⟨M, h1, h2, h3⟩ := h e
  exact ⟨M, h1, h2, cell_later hb h3⟩
def FQ8 (b q k M : Nat) (tv : Value) (y : ByteArray) : Nat → Value → Prop
  | 0, v => v = .pointer (some ⟨q, 2, none⟩)
  | 1, v => v = tv
  | 2, v => v = .pointer (some ⟨b, 0, none⟩)
  | 3, v => v = .pointer (some ⟨b, 0, none⟩)
  | 4, v => v = .int .i64 (k : Int)
  | 5, v => v = .int .i64 (M : Int)
  | 6, v => v = .string y
  | 9, v => v = .pointer (some ⟨q, 2, none⟩)
  | _, _ => True
def rowOps8 : Array Oper := #[{ dst := some 33, op := Go.Op.fieldAddr 74 (Go.Operand.tmp 3) 2, type := 0, pos := "l12_map.go:177", after := #[], guard := none }, { dst := some 34, op := Go.Op.load 22 (Go.Operand.tmp 33), type := 22, pos := "l12_map.go:177", after := #[{ on := 0, ground := Go.Ground.data }], guard := none }, { dst := some 35, op := Go.Op.load 86 (Go.Operand.tmp 1), type := 86, pos := "l12_map.go:177", after := #[], guard := none }, { dst := some 36, op := Go.Op.load 86 (Go.Operand.tmp 1), type := 86, pos := "l12_map.go:177", after := #[], guard := none }, { dst := some 37, op := Go.Op.move (Go.Operand.tmp 5), type := 3, pos := "l12_map.go:177", after := #[], guard := none }, { dst := some 38, op := Go.Op.call { callee := Go.Callee.value (Go.Operand.func 70), args := #[Go.Operand.tmp 36, Go.Operand.tmp 37], argTypes := #[86, 3] }, type := 3, pos := "l12_map.go:177", after := #[{ on := 3, ground := Go.Ground.data }, { on := 4, ground := Go.Ground.data }], guard := none }, { dst := some 39, op := Go.Op.call { callee := Go.Callee.value (Go.Operand.func 128), args := #[Go.Operand.tmp 35, Go.Operand.tmp 38], argTypes := #[86, 3] }, type := 9, pos := "l12_map.go:177", after := #[{ on := 2, ground := Go.Ground.data }, { on := 5, ground := Go.Ground.data }, { on := 5, ground := Go.Ground.chain }], guard := none }, { dst := some 40, op := Go.Op.buildSlice 22 1 #[(0, Go.Operand.tmp 39)], type := 22, pos := "l12_map.go:177", after := #[{ on := 6, ground := Go.Ground.data }], guard := none }, { dst := some 41, op := Go.Op.call { callee := Go.Callee.builtin Go.Builtin.append, args := #[Go.Operand.tmp 34, Go.Operand.tmp 40], argTypes := #[22, 22] }, type := 22, pos := "l12_map.go:177", after := #[{ on := 1, ground := Go.Ground.data }, { on := 7, ground := Go.Ground.data }, { on := 6, ground := Go.Ground.chain }], guard := none }, { dst := some 42, op := Go.Op.fieldAddr 74 (Go.Operand.tmp 3) 2, type := 0, pos := "l12_map.go:177", after := #[{ on := 0, ground := Go.Ground.phase }, { on := 1, ground := Go.Ground.phase }, { on := 2, ground := Go.Ground.phase }, { on := 3, ground := Go.Ground.phase }, { on := 4, ground := Go.Ground.phase }, { on := 5, ground := Go.Ground.phase }, { on := 6, ground := Go.Ground.phase }, { on := 7, ground := Go.Ground.phase }, { on := 8, ground := Go.Ground.phase }], guard := none }, { dst := none, op := Go.Op.store 22 (Go.Operand.tmp 42) (Go.Operand.tmp 41), type := 0, pos := "l12_map.go:177", after := #[{ on := 9, ground := Go.Ground.data }, { on := 8, ground := Go.Ground.data }, { on := 8, ground := Go.Ground.chain }, { on := 0, ground := Go.Ground.phase }, { on := 1, ground := Go.Ground.phase }, { on := 2, ground := Go.Ground.phase }, { on := 3, ground := Go.Ground.phase }, { on := 4, ground := Go.Ground.phase }, { on := 5, ground := Go.Ground.phase }, { on := 6, ground := Go.Ground.phase }, { on := 7, ground := Go.Ground.phase }, { on := 8, ground := Go.Ground.phase }], guard := none }]
set_option maxHeartbeats 16000000 in
theorem rowRound {b q pp k M : Nat} {tv : Value} {acc : List ByteArray} {y : ByteArray} {W4 wr : World} {Q : Exit → Act → World → Prop} (tm : Nat → Value) (HTV : Hid (OT W4.heap.size wr tv acc)) (HAL : Hid (acc.length ≤ 1048576)) (HSZ : Hid (W4.heap.size ≤ wr.heap.size)) (HYS : Hid (y.size ≤ maxLen)) (HQ4 : Hid (q < W4.heap.size)) (HQC : Hid (wr.cell? ⟨q, 2, none⟩ = some tv)) (HQF : Hid (wr.frozen? ⟨q, 2, none⟩ = false)) (HPC : Hid (wr.cell? ⟨pp, 0, none⟩ = some (.pointer (some ⟨b, 0, none⟩))))
    (HLA : Hid (∀ V, Below wr.heap.size wr V → Calls Tryz.prog 70 #[.pointer (some ⟨b, 0, none⟩), .int .i64 (k : Int)] V fun e w' => e = .returned (.int .i64 (M : Int)) ∧ Below V.heap.size V w'))
    (HTO : Hid (∀ V, Below wr.heap.size wr V → Calls Tryz.prog 128 #[.pointer (some ⟨b, 0, none⟩), .int .i64 (M : Int)] V fun e w' => e = .returned (.string y) ∧ Below V.heap.size V w'))
    (a0 : Act) (ha0 : a0.tmps.size = 45) (e1 : a0.eval (.tmp 1) = .pointer (some ⟨pp, 0, none⟩)) (e3 : a0.eval (.tmp 3) = .pointer (some ⟨q, 0, none⟩)) (e5 : a0.eval (.tmp 5) = .int .i64 (k : Int))
    (hQ : ∀ a V V' v, a.tmps.size = a0.tmps.size → a.defers = a0.defers → (∀ t, t ∉ [33, 34, 35, 36, 37, 38, 39, 40, 41, 42] → a.eval (.tmp t) = a0.eval (.tmp t)) → OT W4.heap.size V' v (acc ++ [y]) → Below W4.heap.size wr V' → V = V'.setCell ⟨q, 2, none⟩ v → Q .normal a V) :
    (Code.region 8 rowOps8 true).wp Tryz.prog Q a0 wr := by
  obtain ⟨i0, hi, hz0, hz1, hz2⟩ := info_parts info9
  have HI := hide (And.intro hi (And.intro hz0 (And.intro hz1 hz2)))
  clear hi hz0 hz1 hz2
  refine wp_plan (GA (FQ8 b q k M tv y) (F2S wr 7 y) 8 10 (fun v V => OT W4.heap.size V v (acc ++ [y]) ∧ ∃ V0, Below wr.heap.size wr V0 ∧ V0.grownBy V tv.ownBlock)) (JA wr 8 10 (fun v V => OT W4.heap.size V v (acc ++ [y]) ∧ ∃ V0, Below wr.heap.size wr V0 ∧ V0.grownBy V tv.ownBlock) (fun V' => ∃ V v, (fun v V => OT W4.heap.size V v (acc ++ [y]) ∧ ∃ V0, Below wr.heap.size wr V0 ∧ V0.grownBy V tv.ownBlock) v V ∧ V' = V.setCell ⟨q, 2, none⟩ v)) (by kernel_rfl) 45 ha0 (by kernel_rfl) ?hj ?hs ?hf
  case hj => exact JA.start (bdr (brf wr))
  case hs =>
    refine ⟨?_, ?_, ?_, ?_, ?_, ?_, ?_, ?_, ?_, ?_, ?_, trivial⟩
    · exact sa_val (by decide) (by decide) (fun l a w hp hu => ⟨(und hp (k := 1) (j := 8) (by kernel_rfl) (und hp (k := 0) (j := 1) (by kernel_rfl) hu)), (und hp (k := 0) (j := 10) (by kernel_rfl) hu)⟩) rfl (fun l a V hp h1 hB ha => ⟨.pointer (some ⟨q, 2, none⟩), by
        have x3 := (ev_form a 3).trans (old hp 3 (v := .pointer (some ⟨q, 0, none⟩)) (by kernel_rfl) e3)
        go_simp, rfl, fun e => absurd e (by decide)⟩)
    · exact sa_val (by decide) (by decide) (fun l a w hp hu => ⟨(und hp (k := 1) (j := 8) (by kernel_rfl) hu), (und hp (k := 1) (j := 10) (by kernel_rfl) hu)⟩) rfl (fun l a V hp h1 hB ha => ⟨tv, by
        have x33 := (ev_form a 33).trans (show a.eval (.tmp 33) = .pointer (some ⟨q, 2, none⟩) from (kn hp ha 33 0 (by kernel_rfl) (by kernel_rfl)).1)
        have mq := cell_later hB (unhide HQC)
        go_simp, rfl, fun e => absurd e (by decide)⟩)
    · exact sa_val (by decide) (by decide) (fun l a w hp hu => ⟨(und hp (k := 6) (j := 8) (by kernel_rfl) (und hp (k := 2) (j := 6) (by kernel_rfl) hu)), (und hp (k := 2) (j := 10) (by kernel_rfl) hu)⟩) rfl (fun l a V hp h1 hB ha => ⟨.pointer (some ⟨b, 0, none⟩), by
        have x1 := (ev_form a 1).trans (old hp 1 (v := .pointer (some ⟨pp, 0, none⟩)) (by kernel_rfl) e1)
        have mp := cell_later hB (unhide HPC)
        go_simp, rfl, fun e => absurd e (by decide)⟩)
    · exact sa_val (by decide) (by decide) (fun l a w hp hu => ⟨(und hp (k := 6) (j := 8) (by kernel_rfl) (und hp (k := 5) (j := 6) (by kernel_rfl) (und hp (k := 3) (j := 5) (by kernel_rfl) hu))), (und hp (k := 3) (j := 10) (by kernel_rfl) hu)⟩) rfl (fun l a V hp h1 hB ha => ⟨.pointer (some ⟨b, 0, none⟩), by
        have x1 := (ev_form a 1).trans (old hp 1 (v := .pointer (some ⟨pp, 0, none⟩)) (by kernel_rfl) e1)
        have mp := cell_later hB (unhide HPC)
        go_simp, rfl, fun e => absurd e (by decide)⟩)
    · exact sa_val (by decide) (by decide) (fun l a w hp hu => ⟨(und hp (k := 6) (j := 8) (by kernel_rfl) (und hp (k := 5) (j := 6) (by kernel_rfl) (und hp (k := 4) (j := 5) (by kernel_rfl) hu))), (und hp (k := 4) (j := 10) (by kernel_rfl) hu)⟩) rfl (fun l a V hp h1 hB ha => ⟨.int .i64 (k : Int), by
        have x5 := (ev_form a 5).trans (old hp 5 (v := .int .i64 (k : Int)) (by kernel_rfl) e5)
        go_simp, rfl, fun e => absurd e (by decide)⟩)
    · exact sa_call (f := 70) (F2S.lasts _ _ _) (by decide) (by decide) (fun l a w hp hu => ⟨(und hp (k := 6) (j := 8) (by kernel_rfl) (und hp (k := 5) (j := 6) (by kernel_rfl) hu)), (und hp (k := 5) (j := 10) (by kernel_rfl) hu)⟩) rfl (fun l a V hp h1 hB ha => ⟨#[.pointer (some ⟨b, 0, none⟩), .int .i64 (k : Int)], by
        have x36 := (ev_form a 36).trans (show a.eval (.tmp 36) = .pointer (some ⟨b, 0, none⟩) from (kn hp ha 36 3 (by kernel_rfl) (by kernel_rfl)).1)
        have x37 := (ev_form a 37).trans (show a.eval (.tmp 37) = .int .i64 (k : Int) from (kn hp ha 37 4 (by kernel_rfl) (by kernel_rfl)).1)
        go_simp, (unhide HLA V hB).mono (by rintro e V1 ⟨rfl, hb⟩; exact ⟨_, rfl, rfl, fun e => absurd e (by decide), hb⟩)⟩)
    · exact sa_call (f := 128) (F2S.lasts _ _ _) (by decide) (by decide) (fun l a w hp hu => ⟨(und hp (k := 6) (j := 8) (by kernel_rfl) hu), (und hp (k := 6) (j := 10) (by kernel_rfl) hu)⟩) rfl (fun l a V hp h1 hB ha => ⟨#[.pointer (some ⟨b, 0, none⟩), .int .i64 (M : Int)], by
        have x35 := (ev_form a 35).trans (show a.eval (.tmp 35) = .pointer (some ⟨b, 0, none⟩) from (kn hp ha 35 2 (by kernel_rfl) (by kernel_rfl)).1)
        have x38 := (ev_form a 38).trans (show a.eval (.tmp 38) = .int .i64 (M : Int) from (kn hp ha 38 5 (by kernel_rfl) (by kernel_rfl)).1)
        go_simp, (unhide HTO V hB).mono (by rintro e V1 ⟨rfl, hb⟩; exact ⟨_, rfl, rfl, fun e => absurd e (by decide), hb⟩)⟩)
    · exact sa_new (F2S.lasts _ _ _) (by decide) (by decide) (fun l a w hp hu => ⟨(und hp (k := 7) (j := 8) (by kernel_rfl) hu), (und hp (k := 7) (j := 10) (by kernel_rfl) hu)⟩) rfl (fun l a V hp h1 hB ha => ⟨.slice (some ⟨V.heap.size, 0, none⟩) 1 1, .cells #[.string y] 9, by
        have x39 := (ev_form a 39).trans (show a.eval (.tmp 39) = .string y from (kn hp ha 39 6 (by kernel_rfl) (by kernel_rfl)).1)
        go_simp, trivial, fun _ => ⟨V.heap.size, rfl, hB.size, by rw [World.cell?_alloc_new]; rfl⟩⟩)
    · refine sa_app (by decide) (fun l a w hp hu => (und hp (k := 8) (j := 10) (by kernel_rfl) hu)) rfl (fun l a V hp h1 hB ha => ?_)
      have hv34 : a.eval (.tmp 34) = tv := (kn hp ha 34 1 (by kernel_rfl) (by kernel_rfl)).1
      obtain ⟨M1, hv41, hM, hMc⟩ := (kn hp ha 40 7 (by kernel_rfl) (by kernel_rfl)).2.1 h1 rfl
      have hot := (unhide HTV).later hB
      obtain ⟨v', w', hr, h2, h3, _⟩ := run_append_own (P := Tryz.prog) V W4.heap.size 22 22 9 i0 (.string ByteArray.empty) 1 16 Tryz.underlying22 (unhide HI).1 (unhide HI).2.1 (unhide HI).2.2.1 (unhide HI).2.2.2 rfl (by decide) tv acc.length _ hot.1 ⟨M1, 0, none⟩ 1 1 [.string y] rfl (by
        intro j u hj
        match j, hj with
        | 0, hj => simp at hj; subst hj; simpa [Addr.add] using hMc
        | j + 1, hj => simp at hj) (oneT _) (by have := unhide HAL; unfold maxLen; omega) (by have := unhide HAL; omega) (by have h1 := hB.size; have h2 := unhide HSZ; omega)
      refine ⟨v', w', ?_, ⟨OT.step h2 hot.2 (unhide HYS), V, hB, h3⟩, trivial⟩
      unfold execOp
      simp only [resolve, invoke, builtin, Sem.run_bind, Sem.run_pure, Result.andThen_ok, List.map_toArray, List.map_cons, List.map_nil, hv34, hv41, hr]
    · exact sa_float (by decide) (by decide) (fun l a w hp hu => (und hp (k := 9) (j := 10) (by kernel_rfl) hu)) rfl (fun l a V hp ha => ⟨.pointer (some ⟨q, 2, none⟩), by
        have x3 := (ev_form a 3).trans (old hp 3 (v := .pointer (some ⟨q, 0, none⟩)) (by kernel_rfl) e3)
        go_simp, rfl, fun e => absurd e (by decide)⟩)
    · refine sa_last (t := 41) (by decide) rfl rfl (by kernel_rfl) (fun l a V hp hA ha => ?_) trivial
      have x42 := (ev_form a 42).trans (show a.eval (.tmp 42) = .pointer (some ⟨q, 2, none⟩) from (kn hp ha 42 9 (by kernel_rfl) (by kernel_rfl)).1)
      have x41 := ev_form a 41
      obtain ⟨h1, V0, hV0, hgr⟩ := id hA
      have hlow := below_grown (hV0.mono (unhide HSZ)) hgr (by have := hV0.size; have := unhide HSZ; omega) (unhide HTV).row
      have m1 := hlow.cell (p := ⟨q, 2, none⟩) (unhide HQ4)
      rw [unhide HQC] at m1
      have m2 := hlow.frozen (p := ⟨q, 2, none⟩) (unhide HQ4)
      rw [unhide HQF] at m2
      generalize a.eval (.tmp 41) = tv' at *
      obtain ⟨sa, sl, sc, rfl⟩ := h1.shape
      exact ⟨V.setCell ⟨q, 2, none⟩ (.slice sa sl sc), by clear hA h1 hgr hlow; go_simp, ⟨V, _, hA, rfl⟩⟩
  case hf =>
    intro l a V hp hall
    obtain ⟨V', v, ⟨h1, V0, hV0, hgr⟩, hV⟩ := hp.j.2.1 (hall 10 (by decide))
    exact hQ a V V' v hp.nt hp.df (fun t ht => hp.keep t (dstIn (by kernel_rfl) ht)) h1 (below_grown (hV0.mono (unhide HSZ)) hgr (by have := hV0.size; have := unhide HSZ; omega) (unhide HTV).row) hV
end Go.Proofs.YthbcokioijpofabGreat
