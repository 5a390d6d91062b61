/- The specification's PackRun: the region that takes a register's next value. -/
import Derived.Test.YtdmmbhemmbgcpabGreatGPT8
import Derived.Test.YtdmmbhemmbgcpabGreatGQ9
import Derived.BigQuiet
namespace Go.Proofs.YtdmmbhemmbgcpabGreat
open Go Go.RowKit Gs
set_option linter.unusedVariables false
set_option linter.unusedSimpArgs false
set_option maxRecDepth 100000
section
variable {P : Program} {ops : Array Oper} {a0 : Act} {F : Nat → Value → Prop} {M : World → Prop} {n : Nat} {E : World → Prop}
abbrev JX (M : World → Prop) (n : Nat) (E : World → Prop) : Array Bool → World → Prop := fun l w => (l.getD n false = false → M w) ∧ (l.getD n false = true → E w)
theorem JX.start {M : World → Prop} {w : World} {n m : Nat} {E : World → Prop} (h : M w) : JX M n E (Array.replicate m false) w :=
  ⟨fun _ => h, fun e => by
    exfalso
    by_cases hm : n < m
    · simp [Array.getD, hm] at e
    · simp [Array.getD, hm] at e⟩
theorem JX.low {l : Array Bool} {a : Act} {w : World} (hp : PA ops (GF F) (JX M n E) a0 l a w) {k : Nat} (hn : (ops[n]?).any (fun o => onB o.after k) = true) (hu : l.getD k true = false) : l.getD n false = false := by
  cases e : l.getD n false with
  | false => rfl
  | true =>
    exfalso
    cases ho : ops[n]? with
    | none => rw [ho] at hn; simp at hn
    | some o =>
      rw [ho] at hn
      have hd := onB_spec (by simpa using hn) (hp.down n o ho e)
      rw [notDoneB hu] at hd
      cases hd
theorem JX.step {l : Array Bool} {w' : World} {k : Nat} (hne : k ≠ n) (hu : l.getD k true = false) (hl : l.getD n false = false) (hb : M w') : JX M n E (l.setIfInBounds k true) w' := by
  have e : (l.setIfInBounds k true).getD n false = false := by rw [set_ite (lt_of_undone hu), if_neg (fun e => hne e.symm), hl]
  exact ⟨fun _ => hb, fun h => by rw [e] at h; cases h⟩
theorem sx_Mval {k : Nat} {o : Oper} (hne : k ≠ n) (hn : (ops[n]?).any (fun o => onB o.after k) = true) (hg : o.guard = none) (h : ∀ l a w, PA ops (GF F) (JX M n E) a0 l a w → M w → (∀ e ∈ o.after, Region.binds .any e = true → l.getD e.on false = true) → ∃ x, (execOp a.eval o).run P w = .ok (.value x) w ∧ F k x) : Stp P ops (GF F) (JX M n E) a0 k o := by
  intro l a w hp hu ha
  have hl := JX.low hp hn hu
  have hb := hp.j.1 hl
  obtain ⟨x, hr, hf⟩ := h l a w hp hb ha
  unfold opW
  rw [if_pos (wanted_none hg)]
  exact .inl ⟨x, w, hr, x, rfl, JX.step hne hu hl hb, hf, fun _ _ _ _ h => h⟩
theorem sx_Mcall {k : Nat} {o : Oper} {f : FuncId} (hne : k ≠ n) (hn : (ops[n]?).any (fun o => onB o.after k) = true) (hg : o.guard = none) (h : ∀ l a w, PA ops (GF F) (JX M n E) a0 l a w → M w → (∀ e ∈ o.after, Region.binds .any e = true → l.getD e.on false = true) → ∃ args, (execOp a.eval o).run P w = .ok (.enter f args) w ∧ Calls P f args w fun e w' => ∃ x, e = .returned x ∧ F k x ∧ M w') : Stp P ops (GF F) (JX M n E) a0 k o := by
  intro l a w hp hu ha
  have hl := JX.low hp hn hu
  have hb := hp.j.1 hl
  obtain ⟨args, hr, hc⟩ := h l a w hp hb ha
  unfold opW
  rw [if_pos (wanted_none hg)]
  refine .inr (.inr ⟨f, args, w, hr, Calls.mono hc ?_⟩)
  rintro e w' ⟨x, rfl, hf, hb'⟩
  exact ⟨x, rfl, x, rfl, JX.step hne hu hl hb', hf, fun _ _ _ _ h => h⟩
theorem sx_Mlast {o : Oper} (hg : o.guard = none) (h : ∀ l a w, PA ops (GF F) (JX M n E) a0 l a w → M w → (∀ e ∈ o.after, Region.binds .any e = true → l.getD e.on false = true) → ∃ w', (execOp a.eval o).run P w = .ok .skip w' ∧ E w') (hf : F n undef) : Stp P ops (GF F) (JX M n E) a0 n o := by
  intro l a w hp hu ha
  have hb := hp.j.1 (notDoneB hu)
  obtain ⟨w', hr, hE⟩ := h l a w hp hb ha
  unfold opW
  rw [if_pos (wanted_none hg)]
  have e : (l.setIfInBounds n true).getD n false = true := by rw [set_ite (lt_of_undone hu), if_pos rfl]
  exact .inr (.inl ⟨w', hr, undef, rfl, ⟨fun h => (by rw [e] at h; cases h), fun _ => hE⟩, hf, fun _ _ _ _ h => h⟩)
end
theorem heap_setI {w : World} {b i : Nat} {cur : Array Value} {v : Value} {t : TypeId} {f : Nat × Nat} (h : w.heap[b]? = some (.cells cur t f)) : (w.setCell ⟨b, i, none⟩ v).heap[b]? = some (.cells (cur.setIfInBounds i v) t f) := by
  simp [World.setCell, Array.getElem?_modify, h]
theorem OI.set {B : Nat} {W : World} {g l c : Nat} {xs : List Int} (h : OI B W (.slice (some ⟨g, 0, none⟩) l c) xs) (j : Nat) (y : Int) : OI B (W.setCell ⟨g, j, none⟩ (.int .i64 y)) (.slice (some ⟨g, 0, none⟩) l c) (xs.set j y) := by
  obtain ⟨h1, h2⟩ := h
  refine ⟨by simp, ?_⟩
  rcases h2 with ⟨e, hn⟩ | ⟨g', cap, cur, e, hb, hg, hlc, hm, hcs, ht⟩
  · cases e
  · injection e with e1 e2 e3
    injection e1 with e1
    injection e1 with e1
    subst e1 e2 e3
    refine .inr ⟨g, _, _, by rw [List.length_set], hb, heap_setI hg, by rw [List.length_set]; exact hlc, hm, by simpa using hcs, ?_⟩
    rw [Array.toList_setIfInBounds, List.length_set, List.take_set, ht, List.map_set]
theorem OI.atS {B : Nat} {v : Value} {xs : List Int} {W : World} (h : OI B W v xs) (hne : 0 < xs.length) : ∃ g c, v = .slice (some ⟨g, 0, none⟩) xs.length c ∧ B ≤ g ∧ ∀ (i : Nat) y, xs[i]? = some y → W.cell? ⟨g, i, none⟩ = some (.int .i64 y) ∧ W.frozen? ⟨g, i, none⟩ = false := by
  have hc := fun g hg => World.ownsRow.cells h (g := g) hg
  rcases h.2 with ⟨rfl, hn⟩ | ⟨g, cap, cur, rfl, hb, hg, hlc, hm, _⟩
  · omega
  · refine ⟨g, cap, rfl, hb, fun i y hy => ⟨?_, by simp [World.frozen?, hg]⟩⟩
    have := hc g rfl i (.int .i64 y) (by rw [List.getElem?_map, hy]; rfl)
    rw [Addr.add_lit] at this
    simpa using this
def prNextOps : Array Oper := #[{ dst := some 135, op := Go.Op.move (Go.Operand.tmp 16), type := 64, pos := "l15_place.go:170", after := #[], guard := none }, { dst := some 136, op := Go.Op.move (Go.Operand.tmp 17), type := 3, pos := "l15_place.go:170", after := #[], guard := none }, { dst := some 137, op := Go.Op.load 36 (Go.Operand.tmp 2), type := 36, pos := "l15_place.go:170", after := #[], guard := none }, { dst := some 138, op := Go.Op.fieldAddr 36 (Go.Operand.tmp 2) 2, type := 0, pos := "l15_place.go:170", after := #[], guard := none }, { dst := some 139, op := Go.Op.load 33 (Go.Operand.tmp 138), type := 33, pos := "l15_place.go:170", after := #[{ on := 3, ground := Go.Ground.data }], guard := none }, { dst := some 140, op := Go.Op.move (Go.Operand.tmp 17), type := 3, pos := "l15_place.go:170", after := #[], guard := none }, { dst := some 141, op := Go.Op.indexAddr 33 (Go.Operand.tmp 139) (Go.Operand.tmp 140), type := 0, pos := "l15_place.go:170", after := #[{ on := 4, ground := Go.Ground.data }, { on := 5, ground := Go.Ground.data }], guard := none }, { dst := some 142, op := Go.Op.load 66 (Go.Operand.tmp 141), type := 66, pos := "l15_place.go:170", after := #[{ on := 6, ground := Go.Ground.data }], guard := none }, { dst := some 143, op := Go.Op.move (Go.Operand.tmp 13), type := 64, pos := "l15_place.go:170", after := #[], guard := none }, { dst := some 144, op := Go.Op.move (Go.Operand.tmp 8), type := 64, pos := "l15_place.go:170", after := #[], guard := none }, { dst := some 145, op := Go.Op.move (Go.Operand.tmp 15), type := 64, pos := "l15_place.go:170", after := #[], guard := none }, { dst := some 146, op := Go.Op.call { callee := Go.Callee.value (Go.Operand.func 24), args := #[Go.Operand.tmp 137, Go.Operand.tmp 142, Go.Operand.tmp 143, Go.Operand.tmp 144, Go.Operand.tmp 145], argTypes := #[36, 66, 64, 64, 64] }, type := 3, pos := "l15_place.go:170", after := #[{ on := 2, ground := Go.Ground.data }, { on := 7, ground := Go.Ground.data }, { on := 8, ground := Go.Ground.data }, { on := 9, ground := Go.Ground.data }, { on := 10, ground := Go.Ground.data }], guard := none }, { dst := some 147, op := Go.Op.indexAddr 64 (Go.Operand.tmp 135) (Go.Operand.tmp 136), type := 0, pos := "l15_place.go:170", after := #[{ on := 0, ground := Go.Ground.data }, { on := 1, ground := Go.Ground.data }, { on := 0, ground := Go.Ground.phase }, { on := 1, ground := Go.Ground.phase }, { on := 2, ground := Go.Ground.phase }, { on := 3, ground := Go.Ground.phase }, { on := 4, ground := Go.Ground.phase }, { on := 5, ground := Go.Ground.phase }, { on := 6, ground := Go.Ground.phase }, { on := 7, ground := Go.Ground.phase }, { on := 8, ground := Go.Ground.phase }, { on := 9, ground := Go.Ground.phase }, { on := 10, ground := Go.Ground.phase }, { on := 11, ground := Go.Ground.phase }], guard := none }, { dst := none, op := Go.Op.store 3 (Go.Operand.tmp 147) (Go.Operand.tmp 146), type := 0, pos := "l15_place.go:170", after := #[{ on := 12, ground := Go.Ground.data }, { on := 11, ground := Go.Ground.data }, { on := 11, ground := Go.Ground.chain }, { on := 0, ground := Go.Ground.phase }, { on := 1, ground := Go.Ground.phase }, { on := 2, ground := Go.Ground.phase }, { on := 3, ground := Go.Ground.phase }, { on := 4, ground := Go.Ground.phase }, { on := 5, ground := Go.Ground.phase }, { on := 6, ground := Go.Ground.phase }, { on := 7, ground := Go.Ground.phase }, { on := 8, ground := Go.Ground.phase }, { on := 9, ground := Go.Ground.phase }, { on := 10, ground := Go.Ground.phase }, { on := 11, ground := Go.Ground.phase }], guard := none }]
def prNextF {b2 o2 l2 c2 nb nl nc pb g N k li ci ls cs : Nat} {s0 s1 s3 s4 a1 ai az : Option Addr} {l0 c0 l1 c1 l3 c3 l4 c4 d1 : Nat} {b : Block} {A : Bool} : Nat → Value → Prop
  | 0, v => v = .slice (some ⟨nb, 0, none⟩) nl nc
  | 1, v => v = .int .i64 (k : Int)
  | 2, v => v = .agg #[.slice s0 l0 c0, .slice s1 l1 c1, .slice (some ⟨b2, o2, none⟩) l2 c2, .slice s3 l3 c3, .slice s4 l4 c4]
  | 3, v => v = .pointer (some ⟨pb, 2, none⟩)
  | 4, v => v = .slice (some ⟨b2, o2, none⟩) l2 c2
  | 5, v => v = .int .i64 (k : Int)
  | 6, v => v = .pointer (some ⟨b2, o2 + k * 6, none⟩)
  | 7, v => v = .agg #[.string b.name, .slice a1 b.inp.length d1, .int .i64 b.table, .bool b.reg, .int .i64 b.init, .int .i64 b.clock]
  | 8, v => v = .slice ai li ci
  | 9, v => v = .slice az ls cs
  | 10, v => v = .slice (some ⟨g, 0, none⟩) N N
  | 11, v => v = .int .i64 (b2i A)
  | 12, v => v = .pointer (some ⟨nb, k, none⟩)
  | _, _ => True
set_option maxHeartbeats 32000000 in
theorem prNext {b2 o2 l2 c2 nb nl nc pb g N k li ci ls cs : Nat} {s0 s1 s3 s4 a1 ai az : Option Addr} {l0 c0 l1 c1 l3 c3 l4 c4 d1 : Nat} {b : Block} {A : Bool} {ov : Value} {x : Packed} {ins st : List Bool} {w wr : World} {Q : Exit → Act → World → Prop} (HSE : Hid (SE w g N x ins st (.slice ai li ci) (.slice az ls cs) wr)) (hgn : g < nb) (hkl : k < nl) (hkm : k < l2) (hlc : l2 ≤ c2) (hnl : nl ≤ 1000) (hl2 : l2 ≤ 1000) (HNC : Hid (wr.cell? ⟨nb, k, none⟩ = some ov)) (HNF : Hid (wr.frozen? ⟨nb, k, none⟩ = false))
    (HPC : Hid (∀ U, Fx g wr U → (U.cell? ⟨pb, 0, none⟩ = some (.slice s0 l0 c0) ∧ U.cell? ⟨pb, 1, none⟩ = some (.slice s1 l1 c1) ∧ U.cell? ⟨pb, 2, none⟩ = some (.slice (some ⟨b2, o2, none⟩) l2 c2) ∧ U.cell? ⟨pb, 3, none⟩ = some (.slice s3 l3 c3) ∧ U.cell? ⟨pb, 4, none⟩ = some (.slice s4 l4 c4)) ∧ U.cell? ⟨b2, o2 + k * 6, none⟩ = some (.string b.name) ∧ U.cell? ⟨b2, o2 + k * 6 + 1, none⟩ = some (.slice a1 b.inp.length d1) ∧ U.cell? ⟨b2, o2 + k * 6 + 2, none⟩ = some (.int .i64 b.table) ∧ U.cell? ⟨b2, o2 + k * 6 + 3, none⟩ = some (.bool b.reg) ∧ U.cell? ⟨b2, o2 + k * 6 + 4, none⟩ = some (.int .i64 b.init) ∧ U.cell? ⟨b2, o2 + k * 6 + 5, none⟩ = some (.int .i64 b.clock)))
    (HLK : Hid (∀ V, SE w g N x ins st (.slice ai li ci) (.slice az ls cs) V → Calls Tryz.prog 24 #[.agg #[.slice s0 l0 c0, .slice s1 l1 c1, .slice (some ⟨b2, o2, none⟩) l2 c2, .slice s3 l3 c3, .slice s4 l4 c4], .agg #[.string b.name, .slice a1 b.inp.length d1, .int .i64 b.table, .bool b.reg, .int .i64 b.init, .int .i64 b.clock], .slice ai li ci, .slice az ls cs, .slice (some ⟨g, 0, none⟩) N N] V fun e w' => e = .returned (.int .i64 (b2i A)) ∧ SE w g N x ins st (.slice ai li ci) (.slice az ls cs) w' ∧ Fx g V w'))
    (a0 : Act) (ha0 : a0.tmps.size = 228) (e2 : a0.eval (.tmp 2) = .pointer (some ⟨pb, 0, none⟩)) (e16 : a0.eval (.tmp 16) = .slice (some ⟨nb, 0, none⟩) nl nc) (e17 : a0.eval (.tmp 17) = .int .i64 (k : Int)) (e13 : a0.eval (.tmp 13) = .slice ai li ci) (e8 : a0.eval (.tmp 8) = .slice az ls cs) (e15 : a0.eval (.tmp 15) = .slice (some ⟨g, 0, none⟩) N N)
    (hQ : ∀ a V V', a.tmps.size = a0.tmps.size → a.defers = a0.defers → (∀ t, t ∉ [135, 136, 137, 138, 139, 140, 141, 142, 143, 144, 145, 146, 147] → a.eval (.tmp t) = a0.eval (.tmp t)) → SE w g N x ins st (.slice ai li ci) (.slice az ls cs) V' → Fx g wr V' → V = V'.setCell ⟨nb, k, none⟩ (.int .i64 (b2i A)) → Q .normal a V) :
    (Code.region 33 prNextOps true).wp Tryz.prog Q a0 wr := by
  have j1 : (0 : Int) ≤ (k : Int) := by omega
  have j2 : (k : Int) < (nl : Int) := by omega
  have j3 : (k : Int) < (l2 : Int) := by omega
  refine wp_plan (GF (prNextF (b2 := b2) (o2 := o2) (l2 := l2) (c2 := c2) (nb := nb) (nl := nl) (nc := nc) (pb := pb) (g := g) (N := N) (k := k) (li := li) (ci := ci) (ls := ls) (cs := cs) (s0 := s0) (s1 := s1) (s3 := s3) (s4 := s4) (a1 := a1) (ai := ai) (az := az) (l0 := l0) (c0 := c0) (l1 := l1) (c1 := c1) (l3 := l3) (c3 := c3) (l4 := l4) (c4 := c4) (d1 := d1) (b := b) (A := A))) (JX (fun U => SE w g N x ins st (.slice ai li ci) (.slice az ls cs) U ∧ Fx g wr U) 13 (fun V => ∃ V', (SE w g N x ins st (.slice ai li ci) (.slice az ls cs) V' ∧ Fx g wr V') ∧ V = V'.setCell ⟨nb, k, none⟩ (.int .i64 (b2i A)))) (by kernel_rfl) 228 ha0 (by kernel_rfl) ?hj ?hs ?hf
  case hj => exact JX.start ⟨(unhide HSE).later (bdr (brf wr)), Fx.of (bdr (brf wr))⟩
  case hs =>
    refine ⟨?_, ?_, ?_, ?_, ?_, ?_, ?_, ?_, ?_, ?_, ?_, ?_, ?_, ?_, trivial⟩
    · exact sx_Mval (by decide) (by kernel_rfl) rfl (fun l a V hp hM ha => ⟨.slice (some ⟨nb, 0, none⟩) nl nc, by
        have x16 := (ev_form a 16).trans (old hp 16 (v := .slice (some ⟨nb, 0, none⟩) nl nc) (by kernel_rfl) e16)
        go_simp, rfl⟩)
    · exact sx_Mval (by decide) (by kernel_rfl) rfl (fun l a V hp hM ha => ⟨.int .i64 (k : Int), by
        have x17 := (ev_form a 17).trans (old hp 17 (v := .int .i64 (k : Int)) (by kernel_rfl) e17)
        go_simp, rfl⟩)
    · exact sx_Mval (by decide) (by kernel_rfl) rfl (fun l a V hp hM ha => ⟨.agg #[.slice s0 l0 c0, .slice s1 l1 c1, .slice (some ⟨b2, o2, none⟩) l2 c2, .slice s3 l3 c3, .slice s4 l4 c4], by
        have x2 := (ev_form a 2).trans (old hp 2 (v := .pointer (some ⟨pb, 0, none⟩)) (by kernel_rfl) e2)
        obtain ⟨q0, q1, q2, q3, q4⟩ := (unhide HPC V hM.2).1
        go_simp, rfl⟩)
    · exact sx_Mval (by decide) (by kernel_rfl) rfl (fun l a V hp hM ha => ⟨.pointer (some ⟨pb, 2, none⟩), by
        have x2 := (ev_form a 2).trans (old hp 2 (v := .pointer (some ⟨pb, 0, none⟩)) (by kernel_rfl) e2)
        go_simp, rfl⟩)
    · exact sx_Mval (by decide) (by kernel_rfl) rfl (fun l a V hp hM ha => ⟨.slice (some ⟨b2, o2, none⟩) l2 c2, by
        have x138 := (ev_form a 138).trans (show a.eval (.tmp 138) = .pointer (some ⟨pb, 2, none⟩) from kn hp ha 138 3 (by kernel_rfl) (by kernel_rfl))
        obtain ⟨q0, q1, q2, q3, q4⟩ := (unhide HPC V hM.2).1
        go_simp, rfl⟩)
    · exact sx_Mval (by decide) (by kernel_rfl) rfl (fun l a V hp hM ha => ⟨.int .i64 (k : Int), by
        have x17 := (ev_form a 17).trans (old hp 17 (v := .int .i64 (k : Int)) (by kernel_rfl) e17)
        go_simp, rfl⟩)
    · exact sx_Mval (by decide) (by kernel_rfl) rfl (fun l a V hp hM ha => ⟨.pointer (some ⟨b2, o2 + k * 6, none⟩), by
        have x139 := (ev_form a 139).trans (show a.eval (.tmp 139) = .slice (some ⟨b2, o2, none⟩) l2 c2 from kn hp ha 139 4 (by kernel_rfl) (by kernel_rfl))
        have x140 := (ev_form a 140).trans (show a.eval (.tmp 140) = .int .i64 (k : Int) from kn hp ha 140 5 (by kernel_rfl) (by kernel_rfl))
        go_simp, rfl⟩)
    · exact sx_Mval (by decide) (by kernel_rfl) rfl (fun l a V hp hM ha => ⟨.agg #[.string b.name, .slice a1 b.inp.length d1, .int .i64 b.table, .bool b.reg, .int .i64 b.init, .int .i64 b.clock], by
        have x141 := (ev_form a 141).trans (show a.eval (.tmp 141) = .pointer (some ⟨b2, o2 + k * 6, none⟩) from kn hp ha 141 6 (by kernel_rfl) (by kernel_rfl))
        obtain ⟨z0, z1, z2, z3, z4, z5⟩ := (unhide HPC V hM.2).2
        go_simp, rfl⟩)
    · exact sx_Mval (by decide) (by kernel_rfl) rfl (fun l a V hp hM ha => ⟨.slice ai li ci, by
        have x13 := (ev_form a 13).trans (old hp 13 (v := .slice ai li ci) (by kernel_rfl) e13)
        go_simp, rfl⟩)
    · exact sx_Mval (by decide) (by kernel_rfl) rfl (fun l a V hp hM ha => ⟨.slice az ls cs, by
        have x8 := (ev_form a 8).trans (old hp 8 (v := .slice az ls cs) (by kernel_rfl) e8)
        go_simp, rfl⟩)
    · exact sx_Mval (by decide) (by kernel_rfl) rfl (fun l a V hp hM ha => ⟨.slice (some ⟨g, 0, none⟩) N N, by
        have x15 := (ev_form a 15).trans (old hp 15 (v := .slice (some ⟨g, 0, none⟩) N N) (by kernel_rfl) e15)
        go_simp, rfl⟩)
    · exact sx_Mcall (f := 24) (by decide) (by kernel_rfl) rfl (fun l a V hp hM ha => ⟨#[.agg #[.slice s0 l0 c0, .slice s1 l1 c1, .slice (some ⟨b2, o2, none⟩) l2 c2, .slice s3 l3 c3, .slice s4 l4 c4], .agg #[.string b.name, .slice a1 b.inp.length d1, .int .i64 b.table, .bool b.reg, .int .i64 b.init, .int .i64 b.clock], .slice ai li ci, .slice az ls cs, .slice (some ⟨g, 0, none⟩) N N], by
        have x137 := (ev_form a 137).trans (show a.eval (.tmp 137) = .agg #[.slice s0 l0 c0, .slice s1 l1 c1, .slice (some ⟨b2, o2, none⟩) l2 c2, .slice s3 l3 c3, .slice s4 l4 c4] from kn hp ha 137 2 (by kernel_rfl) (by kernel_rfl))
        have x142 := (ev_form a 142).trans (show a.eval (.tmp 142) = .agg #[.string b.name, .slice a1 b.inp.length d1, .int .i64 b.table, .bool b.reg, .int .i64 b.init, .int .i64 b.clock] from kn hp ha 142 7 (by kernel_rfl) (by kernel_rfl))
        have x143 := (ev_form a 143).trans (show a.eval (.tmp 143) = .slice ai li ci from kn hp ha 143 8 (by kernel_rfl) (by kernel_rfl))
        have x144 := (ev_form a 144).trans (show a.eval (.tmp 144) = .slice az ls cs from kn hp ha 144 9 (by kernel_rfl) (by kernel_rfl))
        have x145 := (ev_form a 145).trans (show a.eval (.tmp 145) = .slice (some ⟨g, 0, none⟩) N N from kn hp ha 145 10 (by kernel_rfl) (by kernel_rfl))
        go_simp, (unhide HLK V hM.1).mono (by rintro e V1 ⟨rfl, h1, h2⟩; exact ⟨_, rfl, rfl, h1, hM.2.trans h2⟩)⟩)
    · exact sx_Mval (by decide) (by kernel_rfl) rfl (fun l a V hp hM ha => ⟨.pointer (some ⟨nb, k, none⟩), by
        have x135 := (ev_form a 135).trans (show a.eval (.tmp 135) = .slice (some ⟨nb, 0, none⟩) nl nc from kn hp ha 135 0 (by kernel_rfl) (by kernel_rfl))
        have x136 := (ev_form a 136).trans (show a.eval (.tmp 136) = .int .i64 (k : Int) from kn hp ha 136 1 (by kernel_rfl) (by kernel_rfl))
        go_simp, rfl⟩)
    · refine sx_Mlast rfl (fun l a V hp hM ha => ?_) trivial
      have x146 := (ev_form a 146).trans (show a.eval (.tmp 146) = .int .i64 (b2i A) from kn hp ha 146 11 (by kernel_rfl) (by kernel_rfl))
      have x147 := (ev_form a 147).trans (show a.eval (.tmp 147) = .pointer (some ⟨nb, k, none⟩) from kn hp ha 147 12 (by kernel_rfl) (by kernel_rfl))
      have m1 := hM.2.cell (unhide HNC) (by omega)
      have m2 : V.frozen? ⟨nb, k, none⟩ = false := by
        rw [(heap_cell (o := k) (hM.2.block nb (World.block_lt_of_cell? _ _ (unhide HNC)) (by omega))).2]; exact unhide HNF
      exact ⟨V.setCell ⟨nb, k, none⟩ (.int .i64 (b2i A)), by go_simp, ⟨V, hM, rfl⟩⟩
  case hf =>
    intro l a V hp hall
    obtain ⟨V', hM, hV⟩ := hp.j.2 (hall 13 (by decide))
    exact hQ a V V' hp.nt hp.df (fun t ht => hp.keep t (dstIn (by kernel_rfl) ht)) hM.1 hM.2 hV
end Go.Proofs.YtdmmbhemmbgcpabGreat
