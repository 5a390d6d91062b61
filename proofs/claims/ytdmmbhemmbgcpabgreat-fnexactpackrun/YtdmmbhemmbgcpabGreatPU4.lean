/- unpacked: the lists of blocks, and the design that is made. -/
import Derived.Test.YtdmmbhemmbgcpabGreatGRW8
namespace Go.Proofs.YtdmmbhemmbgcpabGreat
open Go Go.RowKit Gs
set_option linter.unusedVariables false
set_option linter.unusedSimpArgs false
set_option maxRecDepth 100000
section
variable {P : Program} {ops : Array Oper} {a0 : Act} {F : Nat → Value → Prop} {F2 : Nat → World → Value → Prop} {w0 : World} {n : Nat} {m : Nat} {A : Value → World → Prop} {E : World → Prop}
theorem s2_valn {k : Nat} {o : Oper} (hne : k ≠ n) (hn : (ops[n]?).any (fun o => onB o.after k) = true) (hg : o.guard = none) (h : ∀ l a w, PA ops (G2 F F2 n m A) (JE w0 n E) a0 l a w → l.getD n false = false → Below w0.heap.size w0 w → (∀ e ∈ o.after, Region.binds .any e = true → l.getD e.on false = true) → ∃ x, (execOp a.eval o).run P w = .ok (.value x) w ∧ F k x ∧ F2 k w x) : Stp P ops (G2 F F2 n m A) (JE w0 n E) a0 k o := by
  intro l a w hp hu ha
  have hl := G2.low hp hn hu
  have hb := hp.j.1 hl
  have hst : (l.setIfInBounds k true).getD n false = false := by rw [set_ite (lt_of_undone hu), if_neg (fun e => hne e.symm), hl]
  obtain ⟨x, hr, hf, hf2⟩ := h l a w hp hl hb ha
  unfold opW
  rw [if_pos (wanted_none hg)]
  exact .inl ⟨x, w, hr, x, rfl, JE.step hne hu hl hb, ⟨hf, fun _ => hf2, fun _ e => (by rw [hst] at e; cases e)⟩, fun _ _ _ _ h => ⟨h.1, fun _ => h.2.1 hl, fun _ e => (by rw [hst] at e; cases e)⟩⟩
theorem s2_call {k : Nat} {o : Oper} {f : FuncId} (hL : Lasts F2) (hne : k ≠ n) (hn : (ops[n]?).any (fun o => onB o.after k) = true) (hg : o.guard = none) (h : ∀ l a w, PA ops (G2 F F2 n m A) (JE w0 n E) a0 l a w → l.getD n false = false → Below w0.heap.size w0 w → (∀ e ∈ o.after, Region.binds .any e = true → l.getD e.on false = true) → ∃ args, (execOp a.eval o).run P w = .ok (.enter f args) w ∧ Calls P f args w fun e w' => ∃ x, e = .returned x ∧ F k x ∧ F2 k w' x ∧ Below w.heap.size w w') : Stp P ops (G2 F F2 n m A) (JE w0 n E) a0 k o := by
  intro l a w hp hu ha
  have hl := G2.low hp hn hu
  have hb := hp.j.1 hl
  have hst : (l.setIfInBounds k true).getD n false = false := by rw [set_ite (lt_of_undone hu), if_neg (fun e => hne e.symm), hl]
  obtain ⟨args, hr, hc⟩ := h l a w hp hl hb ha
  unfold opW
  rw [if_pos (wanted_none hg)]
  refine .inr (.inr ⟨f, args, w, hr, Calls.mono hc ?_⟩)
  rintro e w' ⟨x, rfl, hf, hf2, hb'⟩
  exact ⟨x, rfl, x, rfl, JE.step hne hu hl (btr hb hb'), ⟨hf, fun _ => hf2, fun _ e => (by rw [hst] at e; cases e)⟩, fun _ _ _ _ h => ⟨h.1, fun _ => hL _ _ _ _ hb' (h.2.1 hl), fun _ e => (by rw [hst] at e; cases e)⟩⟩
end
def unOps1 : Array Oper := #[{ dst := some 16, op := Go.Op.load 36 (Go.Operand.tmp 1), type := 36, pos := "l15_place.go:227", after := #[], guard := none }, { dst := some 17, op := Go.Op.call { callee := Go.Callee.value (Go.Operand.func 66), args := #[Go.Operand.tmp 16, Go.Operand.const (Go.Value.bool true)], argTypes := #[36, 4] }, type := 64, pos := "l15_place.go:227", after := #[{ on := 0, ground := Go.Ground.data }], guard := none }, { dst := some 18, op := Go.Op.load 36 (Go.Operand.tmp 1), type := 36, pos := "l15_place.go:227", after := #[], guard := none }, { dst := some 19, op := Go.Op.call { callee := Go.Callee.value (Go.Operand.func 66), args := #[Go.Operand.tmp 18, Go.Operand.const (Go.Value.bool false)], argTypes := #[36, 4] }, type := 64, pos := "l15_place.go:227", after := #[{ on := 2, ground := Go.Ground.data }, { on := 1, ground := Go.Ground.chain }], guard := none }, { dst := some 3, op := Go.Op.assign (Go.Operand.tmp 17), type := 64, pos := "l15_place.go:227", after := #[{ on := 1, ground := Go.Ground.data }, { on := 3, ground := Go.Ground.chain }, { on := 0, ground := Go.Ground.phase }, { on := 1, ground := Go.Ground.phase }, { on := 2, ground := Go.Ground.textOnly Go.Departure.lateStores }, { on := 3, ground := Go.Ground.textOnly Go.Departure.lateStoresUnsure }], guard := none }, { dst := some 4, op := Go.Op.assign (Go.Operand.tmp 19), type := 64, pos := "l15_place.go:227", after := #[{ on := 3, ground := Go.Ground.data }, { on := 4, ground := Go.Ground.chain }, { on := 0, ground := Go.Ground.phase }, { on := 1, ground := Go.Ground.phase }, { on := 2, ground := Go.Ground.phase }, { on := 3, ground := Go.Ground.phase }, { on := 4, ground := Go.Ground.phase }], guard := none }]
def unOps13 : Array Oper := #[{ dst := some 57, op := Go.Op.fieldAddr 36 (Go.Operand.tmp 1) 0, type := 0, pos := "l15_place.go:235", after := #[], guard := none }, { dst := some 58, op := Go.Op.load 22 (Go.Operand.tmp 57), type := 22, pos := "l15_place.go:235", after := #[{ on := 0, ground := Go.Ground.data }], guard := none }, { dst := some 59, op := Go.Op.fieldAddr 36 (Go.Operand.tmp 1) 1, type := 0, pos := "l15_place.go:235", after := #[], guard := none }, { dst := some 60, op := Go.Op.load 22 (Go.Operand.tmp 59), type := 22, pos := "l15_place.go:235", after := #[{ on := 2, ground := Go.Ground.data }], guard := none }, { dst := some 61, op := Go.Op.move (Go.Operand.tmp 5), type := 129, pos := "l15_place.go:235", after := #[], guard := none }, { dst := some 62, op := Go.Op.fieldAddr 36 (Go.Operand.tmp 1) 3, type := 0, pos := "l15_place.go:235", after := #[], guard := none }, { dst := some 63, op := Go.Op.load 34 (Go.Operand.tmp 62), type := 34, pos := "l15_place.go:235", after := #[{ on := 5, ground := Go.Ground.data }], guard := none }, { dst := some 64, op := Go.Op.call { callee := Go.Callee.value (Go.Operand.func 69), args := #[Go.Operand.tmp 61, Go.Operand.tmp 63], argTypes := #[129, 34] }, type := 34, pos := "l15_place.go:235", after := #[{ on := 4, ground := Go.Ground.data }, { on := 6, ground := Go.Ground.data }], guard := none }, { dst := some 65, op := Go.Op.move (Go.Operand.tmp 5), type := 129, pos := "l15_place.go:235", after := #[], guard := none }, { dst := some 66, op := Go.Op.fieldAddr 36 (Go.Operand.tmp 1) 4, type := 0, pos := "l15_place.go:235", after := #[], guard := none }, { dst := some 67, op := Go.Op.load 34 (Go.Operand.tmp 66), type := 34, pos := "l15_place.go:235", after := #[{ on := 9, ground := Go.Ground.data }], guard := none }, { dst := some 68, op := Go.Op.call { callee := Go.Callee.value (Go.Operand.func 69), args := #[Go.Operand.tmp 65, Go.Operand.tmp 67], argTypes := #[129, 34] }, type := 34, pos := "l15_place.go:235", after := #[{ on := 8, ground := Go.Ground.data }, { on := 10, ground := Go.Ground.data }, { on := 7, ground := Go.Ground.chain }], guard := none }, { dst := some 69, op := Go.Op.build 88 #[(0, Go.Operand.tmp 58), (1, Go.Operand.tmp 60), (4, Go.Operand.tmp 64), (5, Go.Operand.tmp 68)], type := 88, pos := "l15_place.go:235", after := #[{ on := 1, ground := Go.Ground.data }, { on := 3, ground := Go.Ground.data }, { on := 7, ground := Go.Ground.data }, { on := 11, ground := Go.Ground.data }], guard := none }, { dst := some 9, op := Go.Op.alloc 88, type := 0, pos := "l15_place.go:235", after := #[], guard := none }, { dst := none, op := Go.Op.store 88 (Go.Operand.tmp 9) (Go.Operand.tmp 69), type := 0, pos := "l15_place.go:235", after := #[{ on := 13, ground := Go.Ground.data }, { on := 12, ground := Go.Ground.data }, { on := 11, ground := Go.Ground.chain }, { on := 0, ground := Go.Ground.phase }, { on := 1, ground := Go.Ground.phase }, { on := 2, ground := Go.Ground.phase }, { on := 3, ground := Go.Ground.phase }, { on := 4, ground := Go.Ground.phase }, { on := 5, ground := Go.Ground.phase }, { on := 6, ground := Go.Ground.phase }, { on := 7, ground := Go.Ground.phase }, { on := 8, ground := Go.Ground.phase }, { on := 9, ground := Go.Ground.phase }, { on := 10, ground := Go.Ground.phase }, { on := 11, ground := Go.Ground.phase }, { on := 12, ground := Go.Ground.phase }, { on := 13, ground := Go.Ground.phase }], guard := none }]
def FB1 {s0 s1 s2 s3 s4 : Option Addr} {l0 c0 l1 c1 l2 c2 l3 c3 l4 c4 : Nat} (B : Nat) (R T : List Int) : Nat → World → Value → Prop
  | 0, w, v => v = .agg #[.slice s0 l0 c0, .slice s1 l1 c1, .slice s2 l2 c2, .slice s3 l3 c3, .slice s4 l4 c4]
  | 1, w, v => OI B w v R
  | 2, w, v => v = .agg #[.slice s0 l0 c0, .slice s1 l1 c1, .slice s2 l2 c2, .slice s3 l3 c3, .slice s4 l4 c4]
  | 3, w, v => OI B w v T
  | 4, w, v => OI B w v R
  | 5, w, v => OI B w v T
  | _, _, _ => True
theorem FB1.lasts {s0 s1 s2 s3 s4 : Option Addr} {l0 c0 l1 c1 l2 c2 l3 c3 l4 c4 : Nat} (B : Nat) (R T : List Int) : Lasts (FB1 (s0 := s0) (s1 := s1) (s2 := s2) (s3 := s3) (s4 := s4) (l0 := l0) (l1 := l1) (l2 := l2) (l3 := l3) (l4 := l4) (c0 := c0) (c1 := c1) (c2 := c2) (c3 := c3) (c4 := c4) B R T) := by
  intro k w w' v hb h
  unfold FB1 at *
  split at h
  · exact h
  · exact h.later hb
  · exact h
  · exact h.later hb
  · exact h.later hb
  · exact h.later hb
  · trivial
set_option maxHeartbeats 32000000 in
theorem unR1 {s0 s1 s2 s3 s4 : Option Addr} {l0 c0 l1 c1 l2 c2 l3 c3 l4 c4 : Nat} {B bp : Nat} {R T : List Int} {W0 : World} {Q : Exit → Act → World → Prop} (HP : Hid (∀ V, Below W0.heap.size W0 V → V.cell? ⟨bp, 0, none⟩ = some (.slice s0 l0 c0) ∧ V.cell? ⟨bp, 1, none⟩ = some (.slice s1 l1 c1) ∧ V.cell? ⟨bp, 2, none⟩ = some (.slice s2 l2 c2) ∧ V.cell? ⟨bp, 3, none⟩ = some (.slice s3 l3 c3) ∧ V.cell? ⟨bp, 4, none⟩ = some (.slice s4 l4 c4)))
    (HR : Hid (∀ V, Below W0.heap.size W0 V → Calls Tryz.prog 66 #[.agg #[.slice s0 l0 c0, .slice s1 l1 c1, .slice s2 l2 c2, .slice s3 l3 c3, .slice s4 l4 c4], .bool true] V fun e w' => (∃ v', e = .returned v' ∧ OI B w' v' R) ∧ Below V.heap.size V w')) (HT : Hid (∀ V, Below W0.heap.size W0 V → Calls Tryz.prog 66 #[.agg #[.slice s0 l0 c0, .slice s1 l1 c1, .slice s2 l2 c2, .slice s3 l3 c3, .slice s4 l4 c4], .bool false] V fun e w' => (∃ v', e = .returned v' ∧ OI B w' v' T) ∧ Below V.heap.size V w'))
    (a0 : Act) (ha0 : a0.tmps.size = 127) (e1 : a0.eval (.tmp 1) = .pointer (some ⟨bp, 0, none⟩))
    (hQ : ∀ a V, a.tmps.size = a0.tmps.size → a.defers = a0.defers → (∀ s, s ∉ [16, 17, 18, 19, 3, 4] → a.eval (.tmp s) = a0.eval (.tmp s)) → OI B V (a.eval (.tmp 3)) R → OI B V (a.eval (.tmp 4)) T → Below W0.heap.size W0 V → Q .normal a V) :
    (Code.region 1 unOps1 true).wp Tryz.prog Q a0 W0 := by
  refine wp_plan (GW (FB1 (s0 := s0) (s1 := s1) (s2 := s2) (s3 := s3) (s4 := s4) (l0 := l0) (l1 := l1) (l2 := l2) (l3 := l3) (l4 := l4) (c0 := c0) (c1 := c1) (c2 := c2) (c3 := c3) (c4 := c4) B R T)) (JB W0) (by kernel_rfl) 127 ha0 (by kernel_rfl) ?hj ?hs ?hf
  case hj => exact bdr (brf W0)
  case hs =>
    refine ⟨?_, ?_, ?_, ?_, ?_, ?_, trivial⟩
    · exact sl_val rfl (fun l a V hp ha => ⟨.agg #[.slice s0 l0 c0, .slice s1 l1 c1, .slice s2 l2 c2, .slice s3 l3 c3, .slice s4 l4 c4], by
        have x1 := (ev_form a 1).trans (old hp 1 (v := .pointer (some ⟨bp, 0, none⟩)) (by kernel_rfl) e1)
        obtain ⟨q0, q1, q2, q3, q4⟩ := unhide HP V hp.j
        go_simp, rfl⟩)
    · exact sl_call (f := 66) (FB1.lasts _ _ _) rfl (fun l a V hp ha => ⟨#[.agg #[.slice s0 l0 c0, .slice s1 l1 c1, .slice s2 l2 c2, .slice s3 l3 c3, .slice s4 l4 c4], .bool true], by
        have x16 := (ev_form a 16).trans (show a.eval (.tmp 16) = .agg #[.slice s0 l0 c0, .slice s1 l1 c1, .slice s2 l2 c2, .slice s3 l3 c3, .slice s4 l4 c4] from kn hp ha 16 0 (by kernel_rfl) (by kernel_rfl))
        go_simp, (unhide HR V hp.j).mono (by rintro e V1 ⟨⟨v', rfl, ho⟩, hb⟩; exact ⟨_, rfl, ho, hb⟩)⟩)
    · exact sl_val rfl (fun l a V hp ha => ⟨.agg #[.slice s0 l0 c0, .slice s1 l1 c1, .slice s2 l2 c2, .slice s3 l3 c3, .slice s4 l4 c4], by
        have x1 := (ev_form a 1).trans (old hp 1 (v := .pointer (some ⟨bp, 0, none⟩)) (by kernel_rfl) e1)
        obtain ⟨q0, q1, q2, q3, q4⟩ := unhide HP V hp.j
        go_simp, rfl⟩)
    · exact sl_call (f := 66) (FB1.lasts _ _ _) rfl (fun l a V hp ha => ⟨#[.agg #[.slice s0 l0 c0, .slice s1 l1 c1, .slice s2 l2 c2, .slice s3 l3 c3, .slice s4 l4 c4], .bool false], by
        have x18 := (ev_form a 18).trans (show a.eval (.tmp 18) = .agg #[.slice s0 l0 c0, .slice s1 l1 c1, .slice s2 l2 c2, .slice s3 l3 c3, .slice s4 l4 c4] from kn hp ha 18 2 (by kernel_rfl) (by kernel_rfl))
        go_simp, (unhide HT V hp.j).mono (by rintro e V1 ⟨⟨v', rfl, ho⟩, hb⟩; exact ⟨_, rfl, ho, hb⟩)⟩)
    · exact sl_val rfl (fun l a V hp ha => ⟨a.eval (.tmp 17), by
        have ho : OI B V (a.eval (.tmp 17)) R := kn hp ha 17 1 (by kernel_rfl) (by kernel_rfl)
        have x17 := ev_form a 17
        obtain ⟨t1, t2, t3, hs⟩ := ho.shape
        rw [hs] at x17 ⊢
        go_simp, (show OI B V (a.eval (.tmp 17)) R from kn hp ha 17 1 (by kernel_rfl) (by kernel_rfl))⟩)
    · exact sl_val rfl (fun l a V hp ha => ⟨a.eval (.tmp 19), by
        have ho : OI B V (a.eval (.tmp 19)) T := kn hp ha 19 3 (by kernel_rfl) (by kernel_rfl)
        have x19 := ev_form a 19
        obtain ⟨t1, t2, t3, hs⟩ := ho.shape
        rw [hs] at x19 ⊢
        go_simp, (show OI B V (a.eval (.tmp 19)) T from kn hp ha 19 3 (by kernel_rfl) (by kernel_rfl))⟩)
  case hf =>
    intro l a V hp hall
    exact hQ a V hp.nt hp.df (fun s hs => hp.keep s (dstIn (by kernel_rfl) hs)) (hp.good 4 _ 3 rfl rfl (hall 4 (by decide))) (hp.good 5 _ 4 rfl rfl (hall 5 (by decide))) hp.j
theorem OP.kt {B bm t B' : Nat} {W W' : World} {v : Value} {xs : List Port} {l : List Value} (h : OP B' W v xs) (hk : KT B bm t W W') (hm : MM W bm l) (ht : 75 ≠ t) : OP B' W' v xs :=
  ⟨row_keep (t' := 75) (k := 2) h.1 hk (row_ne (t := 75) (k := 2) h.1 hm.tb (by decide)) ht, h.2⟩
theorem OP.low {B B' : Nat} {W : World} {v : Value} {xs : List Port} (h : OP B' W v xs) (hB : B ≤ B') : OP B W v xs := by
  obtain ⟨⟨h1, h2 | ⟨q, cap, cur, e1, e2, e3⟩⟩, h4⟩ := h
  · exact ⟨⟨h1, .inl h2⟩, h4⟩
  · exact ⟨⟨h1, .inr ⟨q, cap, cur, e1, Nat.le_trans hB e2, e3⟩⟩, h4⟩
theorem OP.shape {B : Nat} {W : World} {v : Value} {xs : List Port} (h : OP B W v xs) : ∃ s1 s2 s3, v = .slice s1 s2 s3 := by
  rcases h.1.2 with ⟨e, _⟩ | ⟨_, _, _, e, _⟩
  · exact ⟨_, _, _, e⟩
  · exact ⟨_, _, _, e⟩
def F13 {s0 s1 s2 s3 s4 : Option Addr} {l0 c0 l1 c1 l2 c2 l3 c3 l4 c4 : Nat} (bp g M : Nat) : Nat → Value → Prop
  | 0, v => v = .pointer (some ⟨bp, 0, none⟩)
  | 1, v => v = .slice s0 l0 c0
  | 2, v => v = .pointer (some ⟨bp, 1, none⟩)
  | 3, v => v = .slice s1 l1 c1
  | 4, v => v = .slice (some ⟨g, 0, none⟩) M M
  | 5, v => v = .pointer (some ⟨bp, 3, none⟩)
  | 6, v => v = .slice s3 l3 c3
  | 8, v => v = .slice (some ⟨g, 0, none⟩) M M
  | 9, v => v = .pointer (some ⟨bp, 4, none⟩)
  | 10, v => v = .slice s4 l4 c4
  | _, _ => True
def F13b (s0 s1 : Option Addr) (l0 l1 c0 c1 B B0 : Nat) (xs ys : List Port) : Nat → World → Value → Prop
  | 7, w, v => OP B w v xs
  | 11, w, v => OP B w v ys
  | 12, w, v => ∃ v4 v5, v = .agg #[.slice s0 l0 c0, .slice s1 l1 c1, .slice none 0 0, .slice none 0 0, v4, v5] ∧ OP B w v4 xs ∧ OP B w v5 ys
  | 13, w, v => ∃ M, v = .pointer (some ⟨M, 0, none⟩) ∧ B0 ≤ M ∧ MM w M [.slice none 0 0, .slice none 0 0, .slice none 0 0, .slice none 0 0, .slice none 0 0, .slice none 0 0]
  | _, _, _ => True
theorem F13b.lasts (s0 s1 : Option Addr) (l0 l1 c0 c1 B B0 : Nat) (xs ys : List Port) : Lasts (F13b s0 s1 l0 l1 c0 c1 B B0 xs ys) := by
  intro k w w' v hb h
  unfold F13b at *
  split at h
  · exact h.later hb
  · exact h.later hb
  · obtain ⟨v4, v5, e, h1, h2⟩ := h; exact ⟨v4, v5, e, h1.later hb, h2.later hb⟩
  · obtain ⟨M, e, h1, h2⟩ := h; exact ⟨M, e, h1, h2.later hb⟩
  · trivial
/-- The design that is made. -/
def A13 (s0 s1 : Option Addr) (l0 l1 c0 c1 B : Nat) (W0 : World) (xs ys : List Port) (v : Value) (V : World) : Prop := ∃ M v4 v5, v = .pointer (some ⟨M, 0, none⟩) ∧ W0.heap.size ≤ M ∧ MM V M [.slice s0 l0 c0, .slice s1 l1 c1, .slice none 0 0, .slice none 0 0, v4, v5] ∧ OP B V v4 xs ∧ OP B V v5 ys ∧ Below W0.heap.size W0 V
set_option maxHeartbeats 32000000 in
theorem unR13 {s0 s1 s2 s3 s4 : Option Addr} {l0 c0 l1 c1 l2 c2 l3 c3 l4 c4 : Nat} {B bp g M : Nat} {xs ys : List Port} {W0 : World} {Q : Exit → Act → World → Prop} (HP : Hid (∀ V, Below W0.heap.size W0 V → V.cell? ⟨bp, 0, none⟩ = some (.slice s0 l0 c0) ∧ V.cell? ⟨bp, 1, none⟩ = some (.slice s1 l1 c1) ∧ V.cell? ⟨bp, 2, none⟩ = some (.slice s2 l2 c2) ∧ V.cell? ⟨bp, 3, none⟩ = some (.slice s3 l3 c3) ∧ V.cell? ⟨bp, 4, none⟩ = some (.slice s4 l4 c4)))
    (HX : Hid (∀ V, Below W0.heap.size W0 V → Calls Tryz.prog 69 #[.slice (some ⟨g, 0, none⟩) M M, .slice s3 l3 c3] V fun e w' => (∃ v', e = .returned v' ∧ OP B w' v' xs) ∧ Below V.heap.size V w')) (HY : Hid (∀ V, Below W0.heap.size W0 V → Calls Tryz.prog 69 #[.slice (some ⟨g, 0, none⟩) M M, .slice s4 l4 c4] V fun e w' => (∃ v', e = .returned v' ∧ OP B w' v' ys) ∧ Below V.heap.size V w'))
    (a0 : Act) (ha0 : a0.tmps.size = 127) (e1 : a0.eval (.tmp 1) = .pointer (some ⟨bp, 0, none⟩)) (e5 : a0.eval (.tmp 5) = .slice (some ⟨g, 0, none⟩) M M)
    (hQ : ∀ a V, a.tmps.size = a0.tmps.size → a.defers = a0.defers → (∀ s, s ∉ [57, 58, 59, 60, 61, 62, 63, 64, 65, 66, 67, 68, 69, 9] → a.eval (.tmp s) = a0.eval (.tmp s)) → A13 s0 s1 l0 l1 c0 c1 B W0 xs ys (a.eval (.tmp 9)) V → Q .normal a V) :
    (Code.region 13 unOps13 true).wp Tryz.prog Q a0 W0 := by
  refine wp_plan (G2 (F13 (s0 := s0) (s1 := s1) (s2 := s2) (s3 := s3) (s4 := s4) (l0 := l0) (l1 := l1) (l2 := l2) (l3 := l3) (l4 := l4) (c0 := c0) (c1 := c1) (c2 := c2) (c3 := c3) (c4 := c4) bp g M) (F13b s0 s1 l0 l1 c0 c1 B W0.heap.size xs ys) 14 13 (A13 s0 s1 l0 l1 c0 c1 B W0 xs ys)) (JE W0 14 (fun _ => True)) (by kernel_rfl) 127 ha0 (by kernel_rfl) ?hj ?hs ?hf
  case hj => exact JE.start (bdr (brf W0))
  case hs =>
    refine ⟨?_, ?_, ?_, ?_, ?_, ?_, ?_, ?_, ?_, ?_, ?_, ?_, ?_, ?_, ?_, trivial⟩
    · exact s2_val (by decide) (by kernel_rfl) rfl (fun l a V hp hB ha => ⟨.pointer (some ⟨bp, 0, none⟩), by
        have x1 := (ev_form a 1).trans (old hp 1 (v := .pointer (some ⟨bp, 0, none⟩)) (by kernel_rfl) e1)
        go_simp, rfl, trivial⟩)
    · exact s2_val (by decide) (by kernel_rfl) rfl (fun l a V hp hB ha => ⟨.slice s0 l0 c0, by
        have x57 := (ev_form a 57).trans (show a.eval (.tmp 57) = .pointer (some ⟨bp, 0, none⟩) from (kn hp ha 57 0 (by kernel_rfl) (by kernel_rfl)).1)
        obtain ⟨q0, q1, q2, q3, q4⟩ := unhide HP V hB
        go_simp, rfl, trivial⟩)
    · exact s2_val (by decide) (by kernel_rfl) rfl (fun l a V hp hB ha => ⟨.pointer (some ⟨bp, 1, none⟩), by
        have x1 := (ev_form a 1).trans (old hp 1 (v := .pointer (some ⟨bp, 0, none⟩)) (by kernel_rfl) e1)
        go_simp, rfl, trivial⟩)
    · exact s2_val (by decide) (by kernel_rfl) rfl (fun l a V hp hB ha => ⟨.slice s1 l1 c1, by
        have x59 := (ev_form a 59).trans (show a.eval (.tmp 59) = .pointer (some ⟨bp, 1, none⟩) from (kn hp ha 59 2 (by kernel_rfl) (by kernel_rfl)).1)
        obtain ⟨q0, q1, q2, q3, q4⟩ := unhide HP V hB
        go_simp, rfl, trivial⟩)
    · exact s2_val (by decide) (by kernel_rfl) rfl (fun l a V hp hB ha => ⟨.slice (some ⟨g, 0, none⟩) M M, by
        have x5 := (ev_form a 5).trans (old hp 5 (v := .slice (some ⟨g, 0, none⟩) M M) (by kernel_rfl) e5)
        go_simp, rfl, trivial⟩)
    · exact s2_val (by decide) (by kernel_rfl) rfl (fun l a V hp hB ha => ⟨.pointer (some ⟨bp, 3, none⟩), by
        have x1 := (ev_form a 1).trans (old hp 1 (v := .pointer (some ⟨bp, 0, none⟩)) (by kernel_rfl) e1)
        go_simp, rfl, trivial⟩)
    · exact s2_val (by decide) (by kernel_rfl) rfl (fun l a V hp hB ha => ⟨.slice s3 l3 c3, by
        have x62 := (ev_form a 62).trans (show a.eval (.tmp 62) = .pointer (some ⟨bp, 3, none⟩) from (kn hp ha 62 5 (by kernel_rfl) (by kernel_rfl)).1)
        obtain ⟨q0, q1, q2, q3, q4⟩ := unhide HP V hB
        go_simp, rfl, trivial⟩)
    · exact s2_call (f := 69) (F13b.lasts _ _ _ _ _ _ _ _ _ _) (by decide) (by kernel_rfl) rfl (fun l a V hp hn hB ha => ⟨#[.slice (some ⟨g, 0, none⟩) M M, .slice s3 l3 c3], by
        have x61 := (ev_form a 61).trans (show a.eval (.tmp 61) = .slice (some ⟨g, 0, none⟩) M M from (kn hp ha 61 4 (by kernel_rfl) (by kernel_rfl)).1)
        have x63 := (ev_form a 63).trans (show a.eval (.tmp 63) = .slice s3 l3 c3 from (kn hp ha 63 6 (by kernel_rfl) (by kernel_rfl)).1)
        go_simp, (unhide HX V hB).mono (by rintro e V1 ⟨⟨v', rfl, ho⟩, hb⟩; exact ⟨_, rfl, trivial, ho, hb⟩)⟩)
    · exact s2_val (by decide) (by kernel_rfl) rfl (fun l a V hp hB ha => ⟨.slice (some ⟨g, 0, none⟩) M M, by
        have x5 := (ev_form a 5).trans (old hp 5 (v := .slice (some ⟨g, 0, none⟩) M M) (by kernel_rfl) e5)
        go_simp, rfl, trivial⟩)
    · exact s2_val (by decide) (by kernel_rfl) rfl (fun l a V hp hB ha => ⟨.pointer (some ⟨bp, 4, none⟩), by
        have x1 := (ev_form a 1).trans (old hp 1 (v := .pointer (some ⟨bp, 0, none⟩)) (by kernel_rfl) e1)
        go_simp, rfl, trivial⟩)
    · exact s2_val (by decide) (by kernel_rfl) rfl (fun l a V hp hB ha => ⟨.slice s4 l4 c4, by
        have x66 := (ev_form a 66).trans (show a.eval (.tmp 66) = .pointer (some ⟨bp, 4, none⟩) from (kn hp ha 66 9 (by kernel_rfl) (by kernel_rfl)).1)
        obtain ⟨q0, q1, q2, q3, q4⟩ := unhide HP V hB
        go_simp, rfl, trivial⟩)
    · exact s2_call (f := 69) (F13b.lasts _ _ _ _ _ _ _ _ _ _) (by decide) (by kernel_rfl) rfl (fun l a V hp hn hB ha => ⟨#[.slice (some ⟨g, 0, none⟩) M M, .slice s4 l4 c4], by
        have x65 := (ev_form a 65).trans (show a.eval (.tmp 65) = .slice (some ⟨g, 0, none⟩) M M from (kn hp ha 65 8 (by kernel_rfl) (by kernel_rfl)).1)
        have x67 := (ev_form a 67).trans (show a.eval (.tmp 67) = .slice s4 l4 c4 from (kn hp ha 67 10 (by kernel_rfl) (by kernel_rfl)).1)
        go_simp, (unhide HY V hB).mono (by rintro e V1 ⟨⟨v', rfl, ho⟩, hb⟩; exact ⟨_, rfl, trivial, ho, hb⟩)⟩)
    · refine s2_valn (by decide) (by kernel_rfl) rfl (fun l a V hp hn hB ha => ?_)
      have ho : OP B V (a.eval (.tmp 64)) xs := (kn hp ha 64 7 (by kernel_rfl) (by kernel_rfl)).2.1 hn
      have hc : OP B V (a.eval (.tmp 68)) ys := (kn hp ha 68 11 (by kernel_rfl) (by kernel_rfl)).2.1 hn
      have x64 := ev_form a 64
      have x68 := ev_form a 68
      have x58 := (ev_form a 58).trans (show a.eval (.tmp 58) = .slice s0 l0 c0 from (kn hp ha 58 1 (by kernel_rfl) (by kernel_rfl)).1)
      have x60 := (ev_form a 60).trans (show a.eval (.tmp 60) = .slice s1 l1 c1 from (kn hp ha 60 3 (by kernel_rfl) (by kernel_rfl)).1)
      obtain ⟨t1, t2, t3, hs⟩ := ho.shape
      obtain ⟨r1, r2, r3, hr⟩ := hc.shape
      rw [hs] at ho x64
      rw [hr] at hc x68
      exact ⟨.agg #[.slice s0 l0 c0, .slice s1 l1 c1, .slice none 0 0, .slice none 0 0, .slice t1 t2 t3, .slice r1 r2 r3], by go_simp, trivial, _, _, rfl, ho, hc⟩
    · exact s2_new (F13b.lasts _ _ _ _ _ _ _ _ _ _) (by decide) (by kernel_rfl) rfl (fun l a V hp hB ha => ⟨.pointer (some ⟨V.heap.size, 0, none⟩), .cells #[.slice none 0 0, .slice none 0 0, .slice none 0 0, .slice none 0 0, .slice none 0 0, .slice none 0 0] 88, by go_simp, trivial, V.heap.size, rfl, hB.size, heap_alloc_new V _⟩)
    · refine s2_last (t := 9) (by decide) rfl rfl (fun l a V hp hn hB ha => ?_) trivial
      obtain ⟨v4, v5, h69, ho, hc⟩ : ∃ v4 v5, a.eval (.tmp 69) = .agg #[.slice s0 l0 c0, .slice s1 l1 c1, .slice none 0 0, .slice none 0 0, v4, v5] ∧ OP B V v4 xs ∧ OP B V v5 ys := (kn hp ha 69 12 (by kernel_rfl) (by kernel_rfl)).2.1 hn
      obtain ⟨m, hm, hms, hmm⟩ : ∃ m, a.eval (.tmp 9) = .pointer (some ⟨m, 0, none⟩) ∧ W0.heap.size ≤ m ∧ MM V m [.slice none 0 0, .slice none 0 0, .slice none 0 0, .slice none 0 0, .slice none 0 0, .slice none 0 0] := (kn hp ha 9 13 (by kernel_rfl) (by kernel_rfl)).2.1 hn
      have x69 := (ev_form a 69).trans h69
      have x9 := (ev_form a 9).trans hm
      have c0' := hmm.cell 0
      have c1' := hmm.cell 1
      have c2' := hmm.cell 2
      have c3' := hmm.cell 3
      have c4' := hmm.cell 4
      have c5' := hmm.cell 5
      simp only [List.getElem?_cons_zero, List.getElem?_cons_succ] at c0' c1' c2' c3' c4' c5'
      have g0 := hmm.frozen 0
      have g1 := hmm.frozen 1
      have g2 := hmm.frozen 2
      have g3 := hmm.frozen 3
      have g4 := hmm.frozen 4
      have g5 := hmm.frozen 5
      obtain ⟨t1, t2, t3, rfl⟩ := ho.shape
      obtain ⟨r1, r2, r3, rfl⟩ := hc.shape
      have hk : KT W0.heap.size m 0 V ((((((V.setCell ⟨m, 0, none⟩ (.slice s0 l0 c0)).setCell ⟨m, 1, none⟩ (.slice s1 l1 c1)).setCell ⟨m, 2, none⟩ (.slice none 0 0)).setCell ⟨m, 3, none⟩ (.slice none 0 0)).setCell ⟨m, 4, none⟩ (.slice t1 t2 t3)).setCell ⟨m, 5, none⟩ (.slice r1 r2 r3)) := (((((KT.set 0 V _).trans (KT.set 1 _ _)).trans (KT.set 2 _ _)).trans (KT.set 3 _ _)).trans (KT.set 4 _ _)).trans (KT.set 5 _ _)
      have hb6 := hB.size
      refine ⟨_, by go_simp, trivial, m, .slice t1 t2 t3, .slice r1 r2 r3, hm, hms, (((((hmm.set 0 _).set 1 _).set 2 _).set 3 _).set 4 _).set 5 _, ho.kt hk hmm (by decide), hc.kt hk hmm (by decide), hk.below hB (Nat.le_refl _) hms hb6⟩
  case hf =>
    intro l a V hp hall
    exact hQ a V hp.nt hp.df (fun s hs => hp.keep s (dstIn (by kernel_rfl) hs)) ((hp.good 13 _ 9 rfl rfl (hall 13 (by decide))).2.2 rfl (hall 14 (by decide)))
end Go.Proofs.YtdmmbhemmbgcpabGreat
