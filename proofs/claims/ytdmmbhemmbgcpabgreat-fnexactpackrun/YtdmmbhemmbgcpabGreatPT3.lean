/- The specification's PackRun: the regions that put a value's text to a row. -/
import Derived.Test.YtdmmbhemmbgcpabGreatGPT1
import Derived.Test.YtdmmbhemmbgcpabGreatGRW5
namespace Go.Proofs.YtdmmbhemmbgcpabGreat
open Go Go.RowKit Gs
set_option linter.unusedVariables false
set_option linter.unusedSimpArgs false
set_option maxRecDepth 100000
section
variable {P : Program} {ops : Array Oper} {a0 : Act} {F : Nat → Value → Prop} {F2 : Nat → World → Value → Prop} {M : World → Prop} {g m n : Nat} {A : Value → World → Prop} {E : World → Prop}
/-- Facts: until the append they may speak of the world; of what the append gave one knows A until it is stored. -/
abbrev GN (F : Nat → Value → Prop) (F2 : Nat → World → Value → Prop) (m n : Nat) (A : Value → World → Prop) : Array Bool → Nat → World → Value → Prop := fun l k w v => F k v ∧ (l.getD m false = false → F2 k w v) ∧ (k = m → l.getD n false = false → A v w)
abbrev JN (M : World → Prop) (m n : Nat) (A : Value → World → Prop) (E : World → Prop) : Array Bool → World → Prop := fun l w => (l.getD m false = false → M w) ∧ (l.getD n false = true → E w) ∧ (l.getD n false = true → l.getD m false = true)
theorem JN.start {M : World → Prop} {w : World} {m n q : Nat} {A : Value → World → Prop} {E : World → Prop} (h : M w) : JN M m n A E (Array.replicate q false) w := by
  have e : (Array.replicate q false).getD n false = false := by
    by_cases hm : n < q
    · simp [Array.getD, hm]
    · simp [Array.getD, hm]
  exact ⟨fun _ => h, fun h => (by rw [e] at h; cases h), fun h => (by rw [e] at h; cases h)⟩
/-- An operation ahead of the append: it reads. -/
theorem sn_val {k : Nat} {o : Oper} (hkm : k ≠ m) (hkn : k ≠ n) (hm : ∀ l a w, PA ops (GN F F2 m n A) (JN M m n A E) a0 l a w → l.getD k false = false → l.getD m false = false ∧ l.getD n false = false) (hg : o.guard = none) (h : ∀ l a w, PA ops (GN F F2 m n A) (JN M m n A E) a0 l a w → l.getD m false = false → M w → (∀ e ∈ o.after, Region.binds .any e = true → l.getD e.on false = true) → ∃ x, (execOp a.eval o).run P w = .ok (.value x) w ∧ F k x ∧ F2 k w x) : Stp P ops (GN F F2 m n A) (JN M m n A E) a0 k o := by
  intro l a w hp hu ha
  obtain ⟨h1, h2⟩ := hm l a w hp (notDoneB hu)
  have hb := hp.j.1 h1
  obtain ⟨x, hr, hf, hf2⟩ := h l a w hp h1 hb ha
  unfold opW
  rw [if_pos (wanted_none hg)]
  refine .inl ⟨x, w, hr, x, rfl, ⟨fun _ => hb, fun e => ?_, fun e => ?_⟩, ⟨hf, fun _ => hf2, fun e => absurd e hkm⟩, fun j d hd hj hG => ⟨hG.1, fun _ => hG.2.1 h1, fun e _ => hG.2.2 e h2⟩⟩
  · rw [set_oth hu (Ne.symm hkn), h2] at e; cases e
  · rw [set_oth hu (Ne.symm hkn), h2] at e; cases e
theorem sn_new {k : Nat} {o : Oper} (hMB : ∀ w w', M w → Below w.heap.size w w' → M w') (hL : ∀ k w w' v, Fx g w w' → F2 k w v → F2 k w' v) (hkm : k ≠ m) (hkn : k ≠ n) (hm : ∀ l a w, PA ops (GN F F2 m n A) (JN M m n A E) a0 l a w → l.getD k false = false → l.getD m false = false ∧ l.getD n false = false) (hg : o.guard = none) (h : ∀ l a w, PA ops (GN F F2 m n A) (JN M m n A E) a0 l a w → l.getD m false = false → M w → (∀ e ∈ o.after, Region.binds .any e = true → l.getD e.on false = true) → ∃ x ob, (execOp a.eval o).run P w = .ok (.value x) (w.alloc ob) ∧ F k x ∧ F2 k (w.alloc ob) x) : Stp P ops (GN F F2 m n A) (JN M m n A E) a0 k o := by
  intro l a w hp hu ha
  obtain ⟨h1, h2⟩ := hm l a w hp (notDoneB hu)
  have hb := hp.j.1 h1
  obtain ⟨x, ob, hr, hf, hf2⟩ := h l a w hp h1 hb ha
  unfold opW
  rw [if_pos (wanted_none hg)]
  refine .inl ⟨x, _, hr, x, rfl, ⟨fun _ => hMB _ _ hb (bal (brf w) ob), fun e => ?_, fun e => ?_⟩, ⟨hf, fun _ => hf2, fun e => absurd e hkm⟩, fun j d hd hj hG => ⟨hG.1, fun _ => hL _ _ _ _ (Fx.of (bal (brf w) ob)) (hG.2.1 h1), fun e _ => ?_⟩⟩
  · rw [set_oth hu (Ne.symm hkn), h2] at e; cases e
  · rw [set_oth hu (Ne.symm hkn), h2] at e; cases e
  · subst e; rw [h1] at hj; cases hj
theorem sn_call {k : Nat} {o : Oper} {f : FuncId} (hL : ∀ k w w' v, Fx g w w' → F2 k w v → F2 k w' v) (hkm : k ≠ m) (hkn : k ≠ n) (hm : ∀ l a w, PA ops (GN F F2 m n A) (JN M m n A E) a0 l a w → l.getD k false = false → l.getD m false = false ∧ l.getD n false = false) (hg : o.guard = none) (h : ∀ l a w, PA ops (GN F F2 m n A) (JN M m n A E) a0 l a w → l.getD m false = false → M w → (∀ e ∈ o.after, Region.binds .any e = true → l.getD e.on false = true) → ∃ args, (execOp a.eval o).run P w = .ok (.enter f args) w ∧ Calls P f args w fun e w' => ∃ x, e = .returned x ∧ F k x ∧ F2 k w' x ∧ M w' ∧ Fx g w w') : Stp P ops (GN F F2 m n A) (JN M m n A E) a0 k o := by
  intro l a w hp hu ha
  obtain ⟨h1, h2⟩ := hm l a w hp (notDoneB hu)
  have hb := hp.j.1 h1
  obtain ⟨args, hr, hc⟩ := h l a w hp h1 hb ha
  unfold opW
  rw [if_pos (wanted_none hg)]
  refine .inr (.inr ⟨f, args, w, hr, Calls.mono hc ?_⟩)
  rintro e w' ⟨x, rfl, hf, hf2, hM', hb'⟩
  refine ⟨x, rfl, x, rfl, ⟨fun _ => hM', fun e => ?_, fun e => ?_⟩, ⟨hf, fun _ => hf2, fun e => absurd e hkm⟩, fun j d hd hj hG => ⟨hG.1, fun _ => hL _ _ _ _ hb' (hG.2.1 h1), fun e _ => ?_⟩⟩
  · rw [set_oth hu (Ne.symm hkn), h2] at e; cases e
  · rw [set_oth hu (Ne.symm hkn), h2] at e; cases e
  · subst e; rw [h1] at hj; cases hj
/-- An operation that looks at no memory, whenever it is done. -/
theorem sn_float {k : Nat} {o : Oper} (hkm : k ≠ m) (hkn : k ≠ n) (hn : ∀ l a w, PA ops (GN F F2 m n A) (JN M m n A E) a0 l a w → l.getD k false = false → l.getD n false = false) (hg : o.guard = none) (h : ∀ l a w, PA ops (GN F F2 m n A) (JN M m n A E) a0 l a w → (∀ e ∈ o.after, Region.binds .any e = true → l.getD e.on false = true) → ∃ x, (execOp a.eval o).run P w = .ok (.value x) w ∧ F k x ∧ F2 k w x) : Stp P ops (GN F F2 m n A) (JN M m n A E) a0 k o := by
  intro l a w hp hu ha
  have h2 := hn l a w hp (notDoneB hu)
  obtain ⟨x, hr, hf, hf2⟩ := h l a w hp ha
  unfold opW
  rw [if_pos (wanted_none hg)]
  refine .inl ⟨x, w, hr, x, rfl, ⟨fun e => ?_, fun e => ?_, fun e => ?_⟩, ⟨hf, fun _ => hf2, fun e => absurd e hkm⟩, fun j d hd hj hG => ⟨hG.1, fun e => ?_, fun e _ => hG.2.2 e h2⟩⟩
  · rw [set_oth hu (Ne.symm hkm)] at e; exact hp.j.1 e
  · rw [set_oth hu (Ne.symm hkn), h2] at e; cases e
  · rw [set_oth hu (Ne.symm hkn), h2] at e; cases e
  · rw [set_oth hu (Ne.symm hkm)] at e; exact hG.2.1 e
theorem sn_app {o : Oper} (hmn : m ≠ n) (hn : ∀ l a w, PA ops (GN F F2 m n A) (JN M m n A E) a0 l a w → l.getD m false = false → l.getD n false = false) (hg : o.guard = none) (h : ∀ l a w, PA ops (GN F F2 m n A) (JN M m n A E) a0 l a w → l.getD m false = false → M w → (∀ e ∈ o.after, Region.binds .any e = true → l.getD e.on false = true) → ∃ x w', (execOp a.eval o).run P w = .ok (.value x) w' ∧ A x w' ∧ F m x) : Stp P ops (GN F F2 m n A) (JN M m n A E) a0 m o := by
  intro l a w hp hu ha
  have h1 := notDoneB hu
  have h2 := hn l a w hp h1
  obtain ⟨x, w', hr, hA, hf⟩ := h l a w hp h1 (hp.j.1 h1) ha
  unfold opW
  rw [if_pos (wanted_none hg)]
  refine .inl ⟨x, w', hr, x, rfl, ⟨fun e => ?_, fun e => ?_, fun e => ?_⟩, ⟨hf, fun e => ?_, fun _ _ => hA⟩, fun j d hd hj hG => ⟨hG.1, fun e => ?_, fun e _ => ?_⟩⟩
  · rw [set_own hu] at e; cases e
  · rw [set_oth hu (Ne.symm hmn), h2] at e; cases e
  · rw [set_oth hu (Ne.symm hmn), h2] at e; cases e
  · rw [set_own hu] at e; cases e
  · rw [set_own hu] at e; cases e
  · subst e; rw [h1] at hj; cases hj
theorem sn_last {o : Oper} {t : Tmp} (hmn : m ≠ n) (hg : o.guard = none) (hd : (ops[m]?).bind (·.dst) = some t) (hon : onB o.after m = true) (h : ∀ l a w, PA ops (GN F F2 m n A) (JN M m n A E) a0 l a w → A (a.eval (.tmp t)) w → (∀ e ∈ o.after, Region.binds .any e = true → l.getD e.on false = true) → ∃ w', (execOp a.eval o).run P w = .ok .skip w' ∧ E w') (hfn : F n undef) : Stp P ops (GN F F2 m n A) (JN M m n A E) a0 n o := by
  intro l a w hp hu ha
  have h2 := notDoneB hu
  have h1 : l.getD m false = true := onB_spec hon ha
  obtain ⟨om, hom, hdm⟩ := Option.bind_eq_some_iff.1 hd
  have hA := (hp.good m om t hom hdm h1).2.2 rfl h2
  obtain ⟨w', hr, hE⟩ := h l a w hp hA ha
  unfold opW
  rw [if_pos (wanted_none hg)]
  have e1 : (l.setIfInBounds n true).getD m false = true := by rw [set_oth hu hmn, h1]
  have e2 := set_own hu
  refine .inr (.inl ⟨w', hr, undef, rfl, ⟨fun e => ?_, fun _ => hE, fun _ => e1⟩, ⟨hfn, fun e => ?_, fun e => absurd e.symm hmn⟩, fun j d hd hj hG => ⟨hG.1, fun e => ?_, fun _ e => ?_⟩⟩)
  · rw [e1] at e; cases e
  · rw [e1] at e; cases e
  · rw [e1] at e; cases e
  · rw [e2] at e; cases e
end
theorem BW.under {W V : World} {g q : Nat} {bl : List Int} (h : BW W g bl) (hb : Below q W V) (hg : g < q) : BW V g bl := by
  have e := hb.block g hg
  obtain ⟨cur, f, hc⟩ := h.tb
  exact ⟨Nat.lt_of_lt_of_le h.lt hb.size, ⟨cur, f, e.trans hc⟩, fun i x hx => ⟨(heap_cell e).1.trans (h.at_ i x hx).1, (heap_cell e).2.trans (h.at_ i x hx).2⟩⟩
theorem Fx.belowg {g : Nat} {W V : World} (h : Fx g W V) (hg : g ≤ W.heap.size) : Below g W V := h.below (Below.refl g W) (Nat.le_refl _) hg
theorem SE.under {w V V' : World} {g q N : Nat} {x : Packed} {ins st : List Bool} {vi vs : Value} (h : SE w g N x ins st vi vs V) (hb : Below q V V') (hg : g < q) (hi : ∀ j, vi.ownBlock = some j → j < q) (hs : ∀ j, vs.ownBlock = some j → j < q) : SE w g N x ins st vi vs V' := by
  have own : ∀ {v : Value} {xs : List Int}, OI w.heap.size V v xs → (∀ j, v.ownBlock = some j → j < q) → OI w.heap.size V' v xs := by
    intro v xs ho hv
    obtain ⟨h1, h2 | ⟨b, cap, cur, e, hb2, hc, rest⟩⟩ := ho
    · exact ⟨h1, .inl h2⟩
    · exact ⟨h1, .inr ⟨b, cap, cur, e, hb2, (hb.block b (hv b (by rw [e]; rfl))).trans hc, rest⟩⟩
  obtain ⟨m, h1, h2, h3⟩ := h.mem
  have hgw := h.hg
  exact ⟨⟨hb.os.trans h.below.os, hb.tape.trans h.below.tape, hb.output.trans h.below.output, Nat.le_trans h.below.size hb.size, fun k hk => (hb.block k (by omega)).trans (h.below.block k hk)⟩, own h.gi hi, own h.gs hs, h.ni, h.ns, h.hg, m, h1, h2.under hb hg, h3⟩
def prOutsOps : Array Oper := #[{ dst := some 159, op := Go.Op.fieldAddr 71 (Go.Operand.tmp 18) 0, type := 0, pos := "l15_place.go:177", after := #[], guard := none }, { dst := some 160, op := Go.Op.load 22 (Go.Operand.tmp 159), type := 22, pos := "l15_place.go:177", after := #[{ on := 0, ground := Go.Ground.data }], guard := none }, { dst := some 161, op := Go.Op.load 36 (Go.Operand.tmp 2), type := 36, pos := "l15_place.go:177", after := #[], guard := none }, { dst := some 162, op := Go.Op.fieldAddr 36 (Go.Operand.tmp 2) 3, type := 0, pos := "l15_place.go:177", after := #[], guard := none }, { dst := some 163, op := Go.Op.load 34 (Go.Operand.tmp 162), type := 34, pos := "l15_place.go:177", after := #[{ on := 3, ground := Go.Ground.data }], guard := none }, { dst := some 164, op := Go.Op.move (Go.Operand.tmp 19), type := 3, pos := "l15_place.go:177", after := #[], guard := none }, { dst := some 165, op := Go.Op.indexAddr 34 (Go.Operand.tmp 163) (Go.Operand.tmp 164), type := 0, pos := "l15_place.go:177", after := #[{ on := 4, ground := Go.Ground.data }, { on := 5, ground := Go.Ground.data }], guard := none }, { dst := some 166, op := Go.Op.fieldAddr 75 (Go.Operand.tmp 165) 1, type := 0, pos := "l15_place.go:177", after := #[{ on := 6, ground := Go.Ground.data }], guard := none }, { dst := some 167, op := Go.Op.load 3 (Go.Operand.tmp 166), type := 3, pos := "l15_place.go:177", after := #[{ on := 7, ground := Go.Ground.data }], guard := none }, { dst := some 168, op := Go.Op.move (Go.Operand.tmp 13), type := 64, pos := "l15_place.go:177", after := #[], guard := none }, { dst := some 169, op := Go.Op.move (Go.Operand.tmp 8), type := 64, pos := "l15_place.go:177", after := #[], guard := none }, { dst := some 170, op := Go.Op.move (Go.Operand.tmp 15), type := 64, pos := "l15_place.go:177", after := #[], guard := none }, { dst := some 171, op := Go.Op.call { callee := Go.Callee.value (Go.Operand.func 26), args := #[Go.Operand.tmp 161, Go.Operand.tmp 167, Go.Operand.tmp 168, Go.Operand.tmp 169, Go.Operand.tmp 170], argTypes := #[36, 3, 64, 64, 64] }, type := 3, pos := "l15_place.go:177", after := #[{ on := 2, ground := Go.Ground.data }, { on := 8, ground := Go.Ground.data }, { on := 9, ground := Go.Ground.data }, { on := 10, ground := Go.Ground.data }, { on := 11, ground := Go.Ground.data }], guard := none }, { dst := some 172, op := Go.Op.call { callee := Go.Callee.value (Go.Operand.func 25), args := #[Go.Operand.tmp 171], argTypes := #[3] }, type := 9, pos := "l15_place.go:177", after := #[{ on := 12, ground := Go.Ground.data }, { on := 12, ground := Go.Ground.chain }], guard := none }, { dst := some 173, op := Go.Op.buildSlice 22 1 #[(0, Go.Operand.tmp 172)], type := 22, pos := "l15_place.go:177", after := #[{ on := 13, ground := Go.Ground.data }], guard := none }, { dst := some 174, op := Go.Op.call { callee := Go.Callee.builtin Go.Builtin.append, args := #[Go.Operand.tmp 160, Go.Operand.tmp 173], argTypes := #[22, 22] }, type := 22, pos := "l15_place.go:177", after := #[{ on := 1, ground := Go.Ground.data }, { on := 14, ground := Go.Ground.data }, { on := 13, ground := Go.Ground.chain }], guard := none }, { dst := some 175, op := Go.Op.fieldAddr 71 (Go.Operand.tmp 18) 0, type := 0, pos := "l15_place.go:177", after := #[{ on := 0, ground := Go.Ground.phase }, { on := 1, ground := Go.Ground.phase }, { on := 2, ground := Go.Ground.phase }, { on := 3, ground := Go.Ground.phase }, { on := 4, ground := Go.Ground.phase }, { on := 5, ground := Go.Ground.phase }, { on := 6, ground := Go.Ground.phase }, { on := 7, ground := Go.Ground.phase }, { on := 8, ground := Go.Ground.phase }, { on := 9, ground := Go.Ground.phase }, { on := 10, ground := Go.Ground.phase }, { on := 11, ground := Go.Ground.phase }, { on := 12, ground := Go.Ground.phase }, { on := 13, ground := Go.Ground.phase }, { on := 14, ground := Go.Ground.phase }, { on := 15, ground := Go.Ground.phase }], guard := none }, { dst := none, op := Go.Op.store 22 (Go.Operand.tmp 175) (Go.Operand.tmp 174), type := 0, pos := "l15_place.go:177", after := #[{ on := 16, ground := Go.Ground.data }, { on := 15, ground := Go.Ground.data }, { on := 15, ground := Go.Ground.chain }, { on := 0, ground := Go.Ground.phase }, { on := 1, ground := Go.Ground.phase }, { on := 2, ground := Go.Ground.phase }, { on := 3, ground := Go.Ground.phase }, { on := 4, ground := Go.Ground.phase }, { on := 5, ground := Go.Ground.phase }, { on := 6, ground := Go.Ground.phase }, { on := 7, ground := Go.Ground.phase }, { on := 8, ground := Go.Ground.phase }, { on := 9, ground := Go.Ground.phase }, { on := 10, ground := Go.Ground.phase }, { on := 11, ground := Go.Ground.phase }, { on := 12, ground := Go.Ground.phase }, { on := 13, ground := Go.Ground.phase }, { on := 14, ground := Go.Ground.phase }, { on := 15, ground := Go.Ground.phase }], guard := none }]
def prOutsF {s0 s1 s2 s3 s4 : Option Addr} {l0 c0 l1 c1 l2 c2 l3 c3 l4 c4 : Nat} (q pb ab ao al ac k g N : Nat) (vi vs tv : Value) (y : Int) (A : Bool) : Nat → Value → Prop
  | 0, v => v = .pointer (some ⟨q, 0, none⟩)
  | 1, v => v = tv
  | 2, v => v = .agg #[.slice s0 l0 c0, .slice s1 l1 c1, .slice s2 l2 c2, .slice s3 l3 c3, .slice s4 l4 c4]
  | 3, v => v = .pointer (some ⟨pb, 3, none⟩)
  | 4, v => v = .slice (some ⟨ab, ao, none⟩) al ac
  | 5, v => v = .int .i64 (k : Int)
  | 6, v => v = .pointer (some ⟨ab, ao + k * 2, none⟩)
  | 7, v => v = .pointer (some ⟨ab, ao + k * 2 + 1, none⟩)
  | 8, v => v = .int .i64 y
  | 9, v => v = vi
  | 10, v => v = vs
  | 11, v => v = .slice (some ⟨g, 0, none⟩) N N
  | 12, v => v = .int .i64 (b2i A)
  | 13, v => v = .string (txt1 A)
  | 16, v => v = .pointer (some ⟨q, 0, none⟩)
  | _, _ => True
set_option maxHeartbeats 32000000 in
theorem prOuts {s0 s1 s2 s3 s4 : Option Addr} {l0 c0 l1 c1 l2 c2 l3 c3 l4 c4 : Nat} {q pb ab ao al ac k g N B li ci ls cs : Nat} {ai az : Option Addr} {tv : Value} {y : Int} {A : Bool} {acc : List ByteArray} {x : Packed} {ins st : List Bool} {w wr : World} {Q : Exit → Act → World → Prop} (HTV : Hid (OT B wr tv acc)) (HAL : Hid (acc.length ≤ 1048576)) (HSZ : Hid (B ≤ wr.heap.size)) (HGB : Hid (g < q ∧ q < B)) (HQC : Hid (wr.cell? ⟨q, 0, none⟩ = some tv)) (HQF : Hid (wr.frozen? ⟨q, 0, none⟩ = false)) (hkl : k < al) (hk3 : al ≤ 1048576)
    (HPC : Hid (∀ U, Fx g wr U → U.cell? ⟨pb, 0, none⟩ = some (.slice s0 l0 c0) ∧ U.cell? ⟨pb, 1, none⟩ = some (.slice s1 l1 c1) ∧ U.cell? ⟨pb, 2, none⟩ = some (.slice s2 l2 c2) ∧ U.cell? ⟨pb, 3, none⟩ = some (.slice s3 l3 c3) ∧ U.cell? ⟨pb, 4, none⟩ = some (.slice s4 l4 c4) ∧ U.cell? ⟨ab, ao + k * 2 + 1, none⟩ = some (.int .i64 y))) (hs3 : s3 = some ⟨ab, ao, none⟩ ∧ l3 = al ∧ c3 = ac) (HSE : Hid (SE w g N x ins st (.slice ai li ci) (.slice az ls cs) wr))
    (HVY : Hid (∀ V, SE w g N x ins st (.slice ai li ci) (.slice az ls cs) V → Calls Tryz.prog 26 #[.agg #[.slice s0 l0 c0, .slice s1 l1 c1, .slice s2 l2 c2, .slice s3 l3 c3, .slice s4 l4 c4], .int .i64 y, .slice ai li ci, .slice az ls cs, .slice (some ⟨g, 0, none⟩) N N] V fun e w' => e = .returned (.int .i64 (b2i A)) ∧ SE w g N x ins st (.slice ai li ci) (.slice az ls cs) w' ∧ Fx g V w'))
    (a0 : Act) (ha0 : a0.tmps.size = 228) (e18 : a0.eval (.tmp 18) = .pointer (some ⟨q, 0, none⟩)) (e2 : a0.eval (.tmp 2) = .pointer (some ⟨pb, 0, none⟩)) (e19 : a0.eval (.tmp 19) = .int .i64 (k : Int)) (e13 : a0.eval (.tmp 13) = .slice ai li ci) (e8 : a0.eval (.tmp 8) = .slice az ls cs) (e15 : a0.eval (.tmp 15) = .slice (some ⟨g, 0, none⟩) N N)
    (hQ : ∀ a V V' v, a.tmps.size = a0.tmps.size → a.defers = a0.defers → (∀ t, t ∉ [159, 160, 161, 162, 163, 164, 165, 166, 167, 168, 169, 170, 171, 172, 173, 174, 175] → a.eval (.tmp t) = a0.eval (.tmp t)) → (fun v V => OT B V v (acc ++ [txt1 A]) ∧ ∃ V0, (SE w g N x ins st (.slice ai li ci) (.slice az ls cs) V0 ∧ Fx g wr V0) ∧ V0.grownBy V tv.ownBlock) v V' → V = V'.setCell ⟨q, 0, none⟩ v → Q .normal a V) :
    (Code.region 40 prOutsOps true).wp Tryz.prog Q a0 wr := by
  obtain ⟨i0, hi, hz0, hz1, hz2⟩ := info_parts info9
  have HI := hide (And.intro hi (And.intro hz0 (And.intro hz1 hz2)))
  have HMB : ∀ U U', SE w g N x ins st (.slice ai li ci) (.slice az ls cs) U ∧ Fx g wr U → Below U.heap.size U U' → SE w g N x ins st (.slice ai li ci) (.slice az ls cs) U' ∧ Fx g wr U' := fun U U' h hb => ⟨h.1.later hb, h.2.trans (Fx.of hb)⟩
  obtain ⟨hs, hl, hc⟩ := hs3
  subst hs hl hc
  have j1 : (0 : Int) ≤ (k : Int) := by omega
  have j2 : (k : Int) < (l3 : Int) := by omega
  clear hi hz0 hz1 hz2
  have HL : ∀ (k : Nat) (w w' : World) (v : Value), Fx g w w' → (fun (k : Nat) (U : World) (v : Value) => k = 14 → ∃ M1, v = .slice (some ⟨M1, 0, none⟩) 1 1 ∧ g < M1 ∧ U.cell? ⟨M1, 0, none⟩ = some (.string (txt1 A))) k w v → (fun (k : Nat) (U : World) (v : Value) => k = 14 → ∃ M1, v = .slice (some ⟨M1, 0, none⟩) 1 1 ∧ g < M1 ∧ U.cell? ⟨M1, 0, none⟩ = some (.string (txt1 A))) k w' v := by
    intro k w w' v hf h e
    obtain ⟨M1, h1, h2, h3⟩ := h e
    exact ⟨M1, h1, h2, hf.cell h3 (by omega)⟩
  refine wp_plan (GN (prOutsF (s0 := s0) (s1 := s1) (s2 := s2) (s3 := some ⟨ab, ao, none⟩) (s4 := s4) (l0 := l0) (l1 := l1) (l2 := l2) (l3 := l3) (l4 := l4) (c0 := c0) (c1 := c1) (c2 := c2) (c3 := c3) (c4 := c4) q pb ab ao l3 c3 k g N (.slice ai li ci) (.slice az ls cs) tv y A) (fun (k : Nat) (U : World) (v : Value) => k = 14 → ∃ M1, v = .slice (some ⟨M1, 0, none⟩) 1 1 ∧ g < M1 ∧ U.cell? ⟨M1, 0, none⟩ = some (.string (txt1 A))) 15 17 (fun v V => OT B V v (acc ++ [txt1 A]) ∧ ∃ V0, (SE w g N x ins st (.slice ai li ci) (.slice az ls cs) V0 ∧ Fx g wr V0) ∧ V0.grownBy V tv.ownBlock)) (JN (fun U => SE w g N x ins st (.slice ai li ci) (.slice az ls cs) U ∧ Fx g wr U) 15 17 (fun v V => OT B V v (acc ++ [txt1 A]) ∧ ∃ V0, (SE w g N x ins st (.slice ai li ci) (.slice az ls cs) V0 ∧ Fx g wr V0) ∧ V0.grownBy V tv.ownBlock) (fun V' => ∃ V v, (fun v V => OT B V v (acc ++ [txt1 A]) ∧ ∃ V0, (SE w g N x ins st (.slice ai li ci) (.slice az ls cs) V0 ∧ Fx g wr V0) ∧ V0.grownBy V tv.ownBlock) v V ∧ V' = V.setCell ⟨q, 0, none⟩ v)) (by kernel_rfl) 228 ha0 (by kernel_rfl) ?hj ?hs ?hf
  case hj => exact JN.start ⟨(unhide HSE).later (bdr (brf wr)), Fx.of (bdr (brf wr))⟩
  case hs =>
    refine ⟨?_, ?_, ?_, ?_, ?_, ?_, ?_, ?_, ?_, ?_, ?_, ?_, ?_, ?_, ?_, ?_, ?_, ?_, trivial⟩
    · exact sn_val (by decide) (by decide) (fun l a w hp hu => ⟨(und hp (k := 1) (j := 15) (by kernel_rfl) (und hp (k := 0) (j := 1) (by kernel_rfl) hu)), (und hp (k := 0) (j := 17) (by kernel_rfl) hu)⟩) rfl (fun l a V hp h1 hM ha => ⟨.pointer (some ⟨q, 0, none⟩), by
        have x18 := (ev_form a 18).trans (old hp 18 (v := .pointer (some ⟨q, 0, none⟩)) (by kernel_rfl) e18)
        go_simp, rfl, (fun e => absurd e (by decide))⟩)
    · exact sn_val (by decide) (by decide) (fun l a w hp hu => ⟨(und hp (k := 1) (j := 15) (by kernel_rfl) hu), (und hp (k := 1) (j := 17) (by kernel_rfl) hu)⟩) rfl (fun l a V hp h1 hM ha => ⟨tv, by
        have x159 := (ev_form a 159).trans (show a.eval (.tmp 159) = .pointer (some ⟨q, 0, none⟩) from (kn hp ha 159 0 (by kernel_rfl) (by kernel_rfl)).1)
        have mq := hM.2.cell (unhide HQC) (by have := (unhide HGB).1; omega)
        go_simp, rfl, (fun e => absurd e (by decide))⟩)
    · exact sn_val (by decide) (by decide) (fun l a w hp hu => ⟨(und hp (k := 13) (j := 15) (by kernel_rfl) (und hp (k := 12) (j := 13) (by kernel_rfl) (und hp (k := 2) (j := 12) (by kernel_rfl) hu))), (und hp (k := 2) (j := 17) (by kernel_rfl) hu)⟩) rfl (fun l a V hp h1 hM ha => ⟨.agg #[.slice s0 l0 c0, .slice s1 l1 c1, .slice s2 l2 c2, .slice (some ⟨ab, ao, none⟩) l3 c3, .slice s4 l4 c4], by
        have x2 := (ev_form a 2).trans (old hp 2 (v := .pointer (some ⟨pb, 0, none⟩)) (by kernel_rfl) e2)
        obtain ⟨⟨q0, q1, q2, q3, q4⟩, q5⟩ : (V.cell? ⟨pb, 0, none⟩ = some (.slice s0 l0 c0) ∧ V.cell? ⟨pb, 1, none⟩ = some (.slice s1 l1 c1) ∧ V.cell? ⟨pb, 2, none⟩ = some (.slice s2 l2 c2) ∧ V.cell? ⟨pb, 3, none⟩ = some (.slice (some ⟨ab, ao, none⟩) l3 c3) ∧ V.cell? ⟨pb, 4, none⟩ = some (.slice s4 l4 c4)) ∧ V.cell? ⟨ab, ao + k * 2 + 1, none⟩ = some (.int .i64 y) := by
          have h := unhide HPC V hM.2
          exact ⟨⟨h.1, h.2.1, h.2.2.1, h.2.2.2.1, h.2.2.2.2.1⟩, h.2.2.2.2.2⟩
        go_simp, rfl, (fun e => absurd e (by decide))⟩)
    · exact sn_val (by decide) (by decide) (fun l a w hp hu => ⟨(und hp (k := 13) (j := 15) (by kernel_rfl) (und hp (k := 12) (j := 13) (by kernel_rfl) (und hp (k := 8) (j := 12) (by kernel_rfl) (und hp (k := 7) (j := 8) (by kernel_rfl) (und hp (k := 6) (j := 7) (by kernel_rfl) (und hp (k := 4) (j := 6) (by kernel_rfl) (und hp (k := 3) (j := 4) (by kernel_rfl) hu))))))), (und hp (k := 3) (j := 17) (by kernel_rfl) hu)⟩) rfl (fun l a V hp h1 hM ha => ⟨.pointer (some ⟨pb, 3, none⟩), by
        have x2 := (ev_form a 2).trans (old hp 2 (v := .pointer (some ⟨pb, 0, none⟩)) (by kernel_rfl) e2)
        go_simp, rfl, (fun e => absurd e (by decide))⟩)
    · exact sn_val (by decide) (by decide) (fun l a w hp hu => ⟨(und hp (k := 13) (j := 15) (by kernel_rfl) (und hp (k := 12) (j := 13) (by kernel_rfl) (und hp (k := 8) (j := 12) (by kernel_rfl) (und hp (k := 7) (j := 8) (by kernel_rfl) (und hp (k := 6) (j := 7) (by kernel_rfl) (und hp (k := 4) (j := 6) (by kernel_rfl) hu)))))), (und hp (k := 4) (j := 17) (by kernel_rfl) hu)⟩) rfl (fun l a V hp h1 hM ha => ⟨.slice (some ⟨ab, ao, none⟩) l3 c3, by
        have x162 := (ev_form a 162).trans (show a.eval (.tmp 162) = .pointer (some ⟨pb, 3, none⟩) from (kn hp ha 162 3 (by kernel_rfl) (by kernel_rfl)).1)
        obtain ⟨⟨q0, q1, q2, q3, q4⟩, q5⟩ : (V.cell? ⟨pb, 0, none⟩ = some (.slice s0 l0 c0) ∧ V.cell? ⟨pb, 1, none⟩ = some (.slice s1 l1 c1) ∧ V.cell? ⟨pb, 2, none⟩ = some (.slice s2 l2 c2) ∧ V.cell? ⟨pb, 3, none⟩ = some (.slice (some ⟨ab, ao, none⟩) l3 c3) ∧ V.cell? ⟨pb, 4, none⟩ = some (.slice s4 l4 c4)) ∧ V.cell? ⟨ab, ao + k * 2 + 1, none⟩ = some (.int .i64 y) := by
          have h := unhide HPC V hM.2
          exact ⟨⟨h.1, h.2.1, h.2.2.1, h.2.2.2.1, h.2.2.2.2.1⟩, h.2.2.2.2.2⟩
        go_simp, rfl, (fun e => absurd e (by decide))⟩)
    · exact sn_val (by decide) (by decide) (fun l a w hp hu => ⟨(und hp (k := 13) (j := 15) (by kernel_rfl) (und hp (k := 12) (j := 13) (by kernel_rfl) (und hp (k := 8) (j := 12) (by kernel_rfl) (und hp (k := 7) (j := 8) (by kernel_rfl) (und hp (k := 6) (j := 7) (by kernel_rfl) (und hp (k := 5) (j := 6) (by kernel_rfl) hu)))))), (und hp (k := 5) (j := 17) (by kernel_rfl) hu)⟩) rfl (fun l a V hp h1 hM ha => ⟨.int .i64 (k : Int), by
        have x19 := (ev_form a 19).trans (old hp 19 (v := .int .i64 (k : Int)) (by kernel_rfl) e19)
        go_simp, rfl, (fun e => absurd e (by decide))⟩)
    · exact sn_val (by decide) (by decide) (fun l a w hp hu => ⟨(und hp (k := 13) (j := 15) (by kernel_rfl) (und hp (k := 12) (j := 13) (by kernel_rfl) (und hp (k := 8) (j := 12) (by kernel_rfl) (und hp (k := 7) (j := 8) (by kernel_rfl) (und hp (k := 6) (j := 7) (by kernel_rfl) hu))))), (und hp (k := 6) (j := 17) (by kernel_rfl) hu)⟩) rfl (fun l a V hp h1 hM ha => ⟨.pointer (some ⟨ab, ao + k * 2, none⟩), by
        have x163 := (ev_form a 163).trans (show a.eval (.tmp 163) = .slice (some ⟨ab, ao, none⟩) l3 c3 from (kn hp ha 163 4 (by kernel_rfl) (by kernel_rfl)).1)
        have x164 := (ev_form a 164).trans (show a.eval (.tmp 164) = .int .i64 (k : Int) from (kn hp ha 164 5 (by kernel_rfl) (by kernel_rfl)).1)
        go_simp, rfl, (fun e => absurd e (by decide))⟩)
    · exact sn_val (by decide) (by decide) (fun l a w hp hu => ⟨(und hp (k := 13) (j := 15) (by kernel_rfl) (und hp (k := 12) (j := 13) (by kernel_rfl) (und hp (k := 8) (j := 12) (by kernel_rfl) (und hp (k := 7) (j := 8) (by kernel_rfl) hu)))), (und hp (k := 7) (j := 17) (by kernel_rfl) hu)⟩) rfl (fun l a V hp h1 hM ha => ⟨.pointer (some ⟨ab, ao + k * 2 + 1, none⟩), by
        have x165 := (ev_form a 165).trans (show a.eval (.tmp 165) = .pointer (some ⟨ab, ao + k * 2, none⟩) from (kn hp ha 165 6 (by kernel_rfl) (by kernel_rfl)).1)
        go_simp, rfl, (fun e => absurd e (by decide))⟩)
    · exact sn_val (by decide) (by decide) (fun l a w hp hu => ⟨(und hp (k := 13) (j := 15) (by kernel_rfl) (und hp (k := 12) (j := 13) (by kernel_rfl) (und hp (k := 8) (j := 12) (by kernel_rfl) hu))), (und hp (k := 8) (j := 17) (by kernel_rfl) hu)⟩) rfl (fun l a V hp h1 hM ha => ⟨.int .i64 y, by
        have x166 := (ev_form a 166).trans (show a.eval (.tmp 166) = .pointer (some ⟨ab, ao + k * 2 + 1, none⟩) from (kn hp ha 166 7 (by kernel_rfl) (by kernel_rfl)).1)
        obtain ⟨⟨q0, q1, q2, q3, q4⟩, q5⟩ : (V.cell? ⟨pb, 0, none⟩ = some (.slice s0 l0 c0) ∧ V.cell? ⟨pb, 1, none⟩ = some (.slice s1 l1 c1) ∧ V.cell? ⟨pb, 2, none⟩ = some (.slice s2 l2 c2) ∧ V.cell? ⟨pb, 3, none⟩ = some (.slice (some ⟨ab, ao, none⟩) l3 c3) ∧ V.cell? ⟨pb, 4, none⟩ = some (.slice s4 l4 c4)) ∧ V.cell? ⟨ab, ao + k * 2 + 1, none⟩ = some (.int .i64 y) := by
          have h := unhide HPC V hM.2
          exact ⟨⟨h.1, h.2.1, h.2.2.1, h.2.2.2.1, h.2.2.2.2.1⟩, h.2.2.2.2.2⟩
        go_simp, rfl, (fun e => absurd e (by decide))⟩)
    · exact sn_val (by decide) (by decide) (fun l a w hp hu => ⟨(und hp (k := 13) (j := 15) (by kernel_rfl) (und hp (k := 12) (j := 13) (by kernel_rfl) (und hp (k := 9) (j := 12) (by kernel_rfl) hu))), (und hp (k := 9) (j := 17) (by kernel_rfl) hu)⟩) rfl (fun l a V hp h1 hM ha => ⟨.slice ai li ci, by
        have x13 := (ev_form a 13).trans (old hp 13 (v := .slice ai li ci) (by kernel_rfl) e13)
        go_simp, rfl, (fun e => absurd e (by decide))⟩)
    · exact sn_val (by decide) (by decide) (fun l a w hp hu => ⟨(und hp (k := 13) (j := 15) (by kernel_rfl) (und hp (k := 12) (j := 13) (by kernel_rfl) (und hp (k := 10) (j := 12) (by kernel_rfl) hu))), (und hp (k := 10) (j := 17) (by kernel_rfl) hu)⟩) rfl (fun l a V hp h1 hM ha => ⟨.slice az ls cs, by
        have x8 := (ev_form a 8).trans (old hp 8 (v := .slice az ls cs) (by kernel_rfl) e8)
        go_simp, rfl, (fun e => absurd e (by decide))⟩)
    · exact sn_val (by decide) (by decide) (fun l a w hp hu => ⟨(und hp (k := 13) (j := 15) (by kernel_rfl) (und hp (k := 12) (j := 13) (by kernel_rfl) (und hp (k := 11) (j := 12) (by kernel_rfl) hu))), (und hp (k := 11) (j := 17) (by kernel_rfl) hu)⟩) rfl (fun l a V hp h1 hM ha => ⟨.slice (some ⟨g, 0, none⟩) N N, by
        have x15 := (ev_form a 15).trans (old hp 15 (v := .slice (some ⟨g, 0, none⟩) N N) (by kernel_rfl) e15)
        go_simp, rfl, (fun e => absurd e (by decide))⟩)
    · exact sn_call (f := 26) HL (by decide) (by decide) (fun l a w hp hu => ⟨(und hp (k := 13) (j := 15) (by kernel_rfl) (und hp (k := 12) (j := 13) (by kernel_rfl) hu)), (und hp (k := 12) (j := 17) (by kernel_rfl) hu)⟩) rfl (fun l a V hp h1 hM ha => ⟨#[.agg #[.slice s0 l0 c0, .slice s1 l1 c1, .slice s2 l2 c2, .slice (some ⟨ab, ao, none⟩) l3 c3, .slice s4 l4 c4], .int .i64 y, .slice ai li ci, .slice az ls cs, .slice (some ⟨g, 0, none⟩) N N], by
        have x161 := (ev_form a 161).trans (show a.eval (.tmp 161) = .agg #[.slice s0 l0 c0, .slice s1 l1 c1, .slice s2 l2 c2, .slice (some ⟨ab, ao, none⟩) l3 c3, .slice s4 l4 c4] from (kn hp ha 161 2 (by kernel_rfl) (by kernel_rfl)).1)
        have x167 := (ev_form a 167).trans (show a.eval (.tmp 167) = .int .i64 y from (kn hp ha 167 8 (by kernel_rfl) (by kernel_rfl)).1)
        have x168 := (ev_form a 168).trans (show a.eval (.tmp 168) = .slice ai li ci from (kn hp ha 168 9 (by kernel_rfl) (by kernel_rfl)).1)
        have x169 := (ev_form a 169).trans (show a.eval (.tmp 169) = .slice az ls cs from (kn hp ha 169 10 (by kernel_rfl) (by kernel_rfl)).1)
        have x170 := (ev_form a 170).trans (show a.eval (.tmp 170) = .slice (some ⟨g, 0, none⟩) N N from (kn hp ha 170 11 (by kernel_rfl) (by kernel_rfl)).1)
        go_simp, (unhide HVY V hM.1).mono (by rintro e V1 ⟨rfl, h2, h3⟩; exact ⟨_, rfl, rfl, (fun e => absurd e (by decide)), ⟨h2, hM.2.trans h3⟩, h3⟩)⟩)
    · exact sn_call (f := 25) HL (by decide) (by decide) (fun l a w hp hu => ⟨(und hp (k := 13) (j := 15) (by kernel_rfl) hu), (und hp (k := 13) (j := 17) (by kernel_rfl) hu)⟩) rfl (fun l a V hp h1 hM ha => ⟨#[.int .i64 (b2i A)], by
        have x171 := (ev_form a 171).trans (show a.eval (.tmp 171) = .int .i64 (b2i A) from (kn hp ha 171 12 (by kernel_rfl) (by kernel_rfl)).1)
        go_simp, (sText A V).mono (by rintro e V1 ⟨rfl, rfl⟩; exact ⟨_, rfl, rfl, (fun e => absurd e (by decide)), hM, Fx.refl _ _⟩)⟩)
    · exact sn_new HMB HL (by decide) (by decide) (fun l a w hp hu => ⟨(und hp (k := 14) (j := 15) (by kernel_rfl) hu), (und hp (k := 14) (j := 17) (by kernel_rfl) hu)⟩) rfl (fun l a V hp h1 hM ha => ⟨.slice (some ⟨V.heap.size, 0, none⟩) 1 1, .cells #[.string (txt1 A)] 9, by
        have x172 := (ev_form a 172).trans (show a.eval (.tmp 172) = .string (txt1 A) from (kn hp ha 172 13 (by kernel_rfl) (by kernel_rfl)).1)
        go_simp, trivial, fun _ => ⟨V.heap.size, rfl, hM.1.lt, by rw [World.cell?_alloc_new]; rfl⟩⟩)
    · refine sn_app (by decide) (fun l a w hp hu => (und hp (k := 15) (j := 17) (by kernel_rfl) hu)) rfl (fun l a V hp h1 hM ha => ?_)
      have hv1 : a.eval (.tmp 160) = tv := (kn hp ha 160 1 (by kernel_rfl) (by kernel_rfl)).1
      obtain ⟨M1, hv2, hM0, hMc⟩ := (kn hp ha 173 14 (by kernel_rfl) (by kernel_rfl)).2.1 h1 rfl
      have hot : OT B V tv acc := (unhide HTV).fx hM.2 (fun e => by have h1 := (unhide HTV).row _ e; have h2 := unhide HGB; omega)
      obtain ⟨v', w', hr, h2, h3, _⟩ := run_append_own (P := Tryz.prog) V B 22 22 9 i0 (.string ByteArray.empty) 1 16 Tryz.underlying22 (unhide HI).1 (unhide HI).2.1 (unhide HI).2.2.1 (unhide HI).2.2.2 rfl (by decide) tv acc.length _ hot.1 ⟨M1, 0, none⟩ 1 1 [.string (txt1 A)] rfl (by
        intro j u hj
        match j, hj with
        | 0, hj => simp at hj; subst hj; simpa [Addr.add] using hMc
        | j + 1, hj => simp at hj) (oneT _) (by have := unhide HAL; unfold maxLen; omega) (by have := unhide HAL; omega) (by have h1 := hM.2.size; have h2 := unhide HSZ; omega)
      refine ⟨v', w', ?_, ⟨OT.step h2 hot.2 (txt1_size A), V, hM, h3⟩, trivial⟩
      unfold execOp
      simp only [resolve, invoke, builtin, Sem.run_bind, Sem.run_pure, Result.andThen_ok, List.map_toArray, List.map_cons, List.map_nil, hv1, hv2, hr]
    · exact sn_float (by decide) (by decide) (fun l a w hp hu => (und hp (k := 16) (j := 17) (by kernel_rfl) hu)) rfl (fun l a V hp ha => ⟨.pointer (some ⟨q, 0, none⟩), by
        have x18 := (ev_form a 18).trans (old hp 18 (v := .pointer (some ⟨q, 0, none⟩)) (by kernel_rfl) e18)
        go_simp, rfl, (fun e => absurd e (by decide))⟩)
    · refine sn_last (t := 174) (by decide) rfl rfl (by kernel_rfl) (fun l a V hp hA ha => ?_) trivial
      have x175 := (ev_form a 175).trans (show a.eval (.tmp 175) = .pointer (some ⟨q, 0, none⟩) from (kn hp ha 175 16 (by kernel_rfl) (by kernel_rfl)).1)
      have x174 := ev_form a 174
      obtain ⟨h1, V0, hV0, hgr⟩ := id hA
      have hqn : (some q : Option Nat) ≠ tv.ownBlock := fun e => by have h1 := (unhide HTV).row _ e.symm; have h2 := unhide HGB; omega
      have hc0 := hV0.2.cell (unhide HQC) (by have := (unhide HGB).1; omega)
      have m1 := hgr.cell (a := ⟨q, 0, none⟩) hc0 hqn
      have m2 : V.frozen? ⟨q, 0, none⟩ = false := by
        rw [(heap_cell (o := 0) (hgr.block q (World.block_lt_of_cell? _ _ hc0) hqn)).2, (heap_cell (o := 0) (hV0.2.block q (World.block_lt_of_cell? _ _ (unhide HQC)) (by have := (unhide HGB).1; omega))).2]
        exact unhide HQF
      generalize a.eval (.tmp 174) = tv' at *
      obtain ⟨sa, sl, sc, rfl⟩ := h1.shape
      exact ⟨V.setCell ⟨q, 0, none⟩ (.slice sa sl sc), by clear hA h1 hgr; go_simp, ⟨V, _, hA, rfl⟩⟩
  case hf =>
    intro l a V hp hall
    obtain ⟨V', v, hA, hV⟩ := hp.j.2.1 (hall 17 (by decide))
    exact hQ a V V' v hp.nt hp.df (fun t ht => hp.keep t (dstIn (by kernel_rfl) ht)) hA hV
end Go.Proofs.YtdmmbhemmbgcpabGreat
