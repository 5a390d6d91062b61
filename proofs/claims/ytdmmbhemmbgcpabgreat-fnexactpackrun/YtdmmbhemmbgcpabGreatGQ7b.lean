/- row. -/
import Derived.Test.YtdmmbhemmbgcpabGreatQ5
import Derived.Test.YtdmmbhemmbgcpabGreatGRW5
namespace Go.Proofs.YtdmmbhemmbgcpabGreat
open Go Go.RowKit Gs
set_option linter.unusedVariables false
set_option linter.unusedSimpArgs false
set_option maxRecDepth 100000
theorem Fx.cell1 {q : Nat} {W W' : World} (h : Fx q W W') {b o : Nat} {y : Value} (hb : b ≠ q) (hc : W.cell? ⟨b, o, none⟩ = some y) : W'.cell? ⟨b, o, none⟩ = some y := by
  have e := h.block b (World.block_lt_of_cell? _ _ hc) hb
  unfold World.cell? at *
  simp only [e] at *
  exact hc
theorem Fx.frozen1 {q : Nat} {W W' : World} (h : Fx q W W') {b o : Nat} {y : Value} (hb : b ≠ q) (hc : W.cell? ⟨b, o, none⟩ = some y) (hf : W.frozen? ⟨b, o, none⟩ = false) : W'.frozen? ⟨b, o, none⟩ = false := by
  have e := h.block b (World.block_lt_of_cell? _ _ hc) hb
  unfold World.frozen? at *
  simp only [e] at *
  exact hf
theorem Ob.fx {q B b g : Nat} {W W' : World} {u : List Value} {vs : List Bool} (h : Ob B W b g u vs) (hf : Fx q W W') (hb : b ≠ q) (hg : g ≠ q) : Ob B W' b g u vs :=
  ⟨h.hb, h.hg, h.ne, Nat.lt_of_lt_of_le h.lt hf.size, fun j y hj => hf.cell1 hb (h.at_ j y hj), fun i x hx => ⟨hf.cell1 hg (h.vals i x hx).1, hf.frozen1 hg (h.vals i x hx).1 (h.vals i x hx).2⟩⟩
theorem OT.fx {q B : Nat} {W W' : World} {v : Value} {xs : List ByteArray} (h : OT B W v xs) (hf : Fx q W W') (hq : v.ownBlock ≠ some q) : OT B W' v xs := by
  obtain ⟨⟨h1, h2 | ⟨g, cap, cur, hv, hg, hc, rest⟩⟩, h3⟩ := h
  · exact ⟨⟨h1, .inl h2⟩, h3⟩
  · refine ⟨⟨h1, .inr ⟨g, cap, cur, hv, hg, (hf.block g (Array.getElem?_eq_some_iff.1 hc).1 (fun e => hq ?_)).trans hc, rest⟩⟩, h3⟩
    rw [hv, ← e]; rfl
/-- A string that a slice of one holds. -/
def F2S (w0 : World) (k8 : Nat) (y : ByteArray) : Nat → World → Value → Prop := fun k w v => k = k8 → ∃ M, v = .slice (some ⟨M, 0, none⟩) 1 1 ∧ w0.heap.size ≤ M ∧ w.cell? ⟨M, 0, none⟩ = some (.string y)
theorem F2S.lasts (w0 : World) (k8 : Nat) (y : ByteArray) : Lasts (F2S w0 k8 y) := fun k w w' v hb h e => by
  obtain ⟨M, h1, h2, h3⟩ := h e
  exact ⟨M, h1, h2, cell_later hb h3⟩
def FQ8 (b q k M : Nat) (tv : Value) (y : ByteArray) : Nat → Value → Prop
  | 0, v => v = .pointer (some ⟨q, 2, none⟩)
  | 1, v => v = tv
  | 2, v => v = .pointer (some ⟨b, 0, none⟩)
  | 3, v => v = .pointer (some ⟨b, 0, none⟩)
  | 4, v => v = .int .i64 (k : Int)
  | 5, v => v = .int .i64 (M : Int)
  | 6, v => v = .string y
  | 9, v => v = .pointer (some ⟨q, 2, none⟩)
  | _, _ => True
def rowOps8 : Array Oper := #[{ dst := some 33, op := Go.Op.fieldAddr 71 (Go.Operand.tmp 3) 2, type := 0, pos := "l12_map.go:177", after := #[], guard := none }, { dst := some 34, op := Go.Op.load 22 (Go.Operand.tmp 33), type := 22, pos := "l12_map.go:177", after := #[{ on := 0, ground := Go.Ground.data }], guard := none }, { dst := some 35, op := Go.Op.load 83 (Go.Operand.tmp 1), type := 83, pos := "l12_map.go:177", after := #[], guard := none }, { dst := some 36, op := Go.Op.load 83 (Go.Operand.tmp 1), type := 83, pos := "l12_map.go:177", after := #[], guard := none }, { dst := some 37, op := Go.Op.move (Go.Operand.tmp 5), type := 3, pos := "l12_map.go:177", after := #[], guard := none }, { dst := some 38, op := Go.Op.call { callee := Go.Callee.value (Go.Operand.func 65), args := #[Go.Operand.tmp 36, Go.Operand.tmp 37], argTypes := #[83, 3] }, type := 3, pos := "l12_map.go:177", after := #[{ on := 3, ground := Go.Ground.data }, { on := 4, ground := Go.Ground.data }], guard := none }, { dst := some 39, op := Go.Op.call { callee := Go.Callee.value (Go.Operand.func 132), args := #[Go.Operand.tmp 35, Go.Operand.tmp 38], argTypes := #[83, 3] }, type := 9, pos := "l12_map.go:177", after := #[{ on := 2, ground := Go.Ground.data }, { on := 5, ground := Go.Ground.data }, { on := 5, ground := Go.Ground.chain }], guard := none }, { dst := some 40, op := Go.Op.buildSlice 22 1 #[(0, Go.Operand.tmp 39)], type := 22, pos := "l12_map.go:177", after := #[{ on := 6, ground := Go.Ground.data }], guard := none }, { dst := some 41, op := Go.Op.call { callee := Go.Callee.builtin Go.Builtin.append, args := #[Go.Operand.tmp 34, Go.Operand.tmp 40], argTypes := #[22, 22] }, type := 22, pos := "l12_map.go:177", after := #[{ on := 1, ground := Go.Ground.data }, { on := 7, ground := Go.Ground.data }, { on := 6, ground := Go.Ground.chain }], guard := none }, { dst := some 42, op := Go.Op.fieldAddr 71 (Go.Operand.tmp 3) 2, type := 0, pos := "l12_map.go:177", after := #[{ on := 0, ground := Go.Ground.phase }, { on := 1, ground := Go.Ground.phase }, { on := 2, ground := Go.Ground.phase }, { on := 3, ground := Go.Ground.phase }, { on := 4, ground := Go.Ground.phase }, { on := 5, ground := Go.Ground.phase }, { on := 6, ground := Go.Ground.phase }, { on := 7, ground := Go.Ground.phase }, { on := 8, ground := Go.Ground.phase }], guard := none }, { dst := none, op := Go.Op.store 22 (Go.Operand.tmp 42) (Go.Operand.tmp 41), type := 0, pos := "l12_map.go:177", after := #[{ on := 9, ground := Go.Ground.data }, { on := 8, ground := Go.Ground.data }, { on := 8, ground := Go.Ground.chain }, { on := 0, ground := Go.Ground.phase }, { on := 1, ground := Go.Ground.phase }, { on := 2, ground := Go.Ground.phase }, { on := 3, ground := Go.Ground.phase }, { on := 4, ground := Go.Ground.phase }, { on := 5, ground := Go.Ground.phase }, { on := 6, ground := Go.Ground.phase }, { on := 7, ground := Go.Ground.phase }, { on := 8, ground := Go.Ground.phase }], guard := none }]
set_option maxHeartbeats 16000000 in
theorem rowRound {b q pp k M : Nat} {tv : Value} {acc : List ByteArray} {y : ByteArray} {W4 wr : World} {Q : Exit → Act → World → Prop} (tm : Nat → Value) (HTV : Hid (OT W4.heap.size wr tv acc)) (HAL : Hid (acc.length ≤ 1048576)) (HSZ : Hid (W4.heap.size ≤ wr.heap.size)) (HYS : Hid (y.size ≤ maxLen)) (HQ4 : Hid (q < W4.heap.size)) (HQC : Hid (wr.cell? ⟨q, 2, none⟩ = some tv)) (HQF : Hid (wr.frozen? ⟨q, 2, none⟩ = false)) (HPC : Hid (wr.cell? ⟨pp, 0, none⟩ = some (.pointer (some ⟨b, 0, none⟩))))
    (HLA : Hid (∀ V, Below wr.heap.size wr V → Calls Tryz.prog 65 #[.pointer (some ⟨b, 0, none⟩), .int .i64 (k : Int)] V fun e w' => e = .returned (.int .i64 (M : Int)) ∧ Below V.heap.size V w'))
    (HTO : Hid (∀ V, Below wr.heap.size wr V → Calls Tryz.prog 132 #[.pointer (some ⟨b, 0, none⟩), .int .i64 (M : Int)] V fun e w' => e = .returned (.string y) ∧ Below V.heap.size V w'))
    (a0 : Act) (ha0 : a0.tmps.size = 45) (e1 : a0.eval (.tmp 1) = .pointer (some ⟨pp, 0, none⟩)) (e3 : a0.eval (.tmp 3) = .pointer (some ⟨q, 0, none⟩)) (e5 : a0.eval (.tmp 5) = .int .i64 (k : Int))
    (hQ : ∀ a V V' v, a.tmps.size = a0.tmps.size → a.defers = a0.defers → (∀ t, t ∉ [33, 34, 35, 36, 37, 38, 39, 40, 41, 42] → a.eval (.tmp t) = a0.eval (.tmp t)) → OT W4.heap.size V' v (acc ++ [y]) → Below W4.heap.size wr V' → V = V'.setCell ⟨q, 2, none⟩ v → Q .normal a V) :
    (Code.region 8 rowOps8 true).wp Tryz.prog Q a0 wr := by
  obtain ⟨i0, hi, hz0, hz1, hz2⟩ := info_parts info9
  have HI := hide (And.intro hi (And.intro hz0 (And.intro hz1 hz2)))
  clear hi hz0 hz1 hz2
  refine wp_plan (GA (FQ8 b q k M tv y) (F2S wr 7 y) 8 10 (fun v V => OT W4.heap.size V v (acc ++ [y]) ∧ ∃ V0, Below wr.heap.size wr V0 ∧ V0.grownBy V tv.ownBlock)) (JA wr 8 10 (fun v V => OT W4.heap.size V v (acc ++ [y]) ∧ ∃ V0, Below wr.heap.size wr V0 ∧ V0.grownBy V tv.ownBlock) (fun V' => ∃ V v, (fun v V => OT W4.heap.size V v (acc ++ [y]) ∧ ∃ V0, Below wr.heap.size wr V0 ∧ V0.grownBy V tv.ownBlock) v V ∧ V' = V.setCell ⟨q, 2, none⟩ v)) (by kernel_rfl) 45 ha0 (by kernel_rfl) ?hj ?hs ?hf
  case hj => exact JA.start (bdr (brf wr))
  case hs =>
    refine ⟨?_, ?_, ?_, ?_, ?_, ?_, ?_, ?_, ?_, ?_, ?_, trivial⟩
    · exact sa_val (by decide) (by decide) (fun l a w hp hu => ⟨(und hp (k := 1) (j := 8) (by kernel_rfl) (und hp (k := 0) (j := 1) (by kernel_rfl) hu)), (und hp (k := 0) (j := 10) (by kernel_rfl) hu)⟩) rfl (fun l a V hp h1 hB ha => ⟨.pointer (some ⟨q, 2, none⟩), by
        have x3 := (ev_form a 3).trans (old hp 3 (v := .pointer (some ⟨q, 0, none⟩)) (by kernel_rfl) e3)
        go_simp, rfl, fun e => absurd e (by decide)⟩)
    · exact sa_val (by decide) (by decide) (fun l a w hp hu => ⟨(und hp (k := 1) (j := 8) (by kernel_rfl) hu), (und hp (k := 1) (j := 10) (by kernel_rfl) hu)⟩) rfl (fun l a V hp h1 hB ha => ⟨tv, by
        have x33 := (ev_form a 33).trans (show a.eval (.tmp 33) = .pointer (some ⟨q, 2, none⟩) from (kn hp ha 33 0 (by kernel_rfl) (by kernel_rfl)).1)
        have mq := cell_later hB (unhide HQC)
        go_simp, rfl, fun e => absurd e (by decide)⟩)
    · exact sa_val (by decide) (by decide) (fun l a w hp hu => ⟨(und hp (k := 6) (j := 8) (by kernel_rfl) (und hp (k := 2) (j := 6) (by kernel_rfl) hu)), (und hp (k := 2) (j := 10) (by kernel_rfl) hu)⟩) rfl (fun l a V hp h1 hB ha => ⟨.pointer (some ⟨b, 0, none⟩), by
        have x1 := (ev_form a 1).trans (old hp 1 (v := .pointer (some ⟨pp, 0, none⟩)) (by kernel_rfl) e1)
        have mp := cell_later hB (unhide HPC)
        go_simp, rfl, fun e => absurd e (by decide)⟩)
    · exact sa_val (by decide) (by decide) (fun l a w hp hu => ⟨(und hp (k := 6) (j := 8) (by kernel_rfl) (und hp (k := 5) (j := 6) (by kernel_rfl) (und hp (k := 3) (j := 5) (by kernel_rfl) hu))), (und hp (k := 3) (j := 10) (by kernel_rfl) hu)⟩) rfl (fun l a V hp h1 hB ha => ⟨.pointer (some ⟨b, 0, none⟩), by
        have x1 := (ev_form a 1).trans (old hp 1 (v := .pointer (some ⟨pp, 0, none⟩)) (by kernel_rfl) e1)
        have mp := cell_later hB (unhide HPC)
        go_simp, rfl, fun e => absurd e (by decide)⟩)
    · exact sa_val (by decide) (by decide) (fun l a w hp hu => ⟨(und hp (k := 6) (j := 8) (by kernel_rfl) (und hp (k := 5) (j := 6) (by kernel_rfl) (und hp (k := 4) (j := 5) (by kernel_rfl) hu))), (und hp (k := 4) (j := 10) (by kernel_rfl) hu)⟩) rfl (fun l a V hp h1 hB ha => ⟨.int .i64 (k : Int), by
        have x5 := (ev_form a 5).trans (old hp 5 (v := .int .i64 (k : Int)) (by kernel_rfl) e5)
        go_simp, rfl, fun e => absurd e (by decide)⟩)
    · exact sa_call (f := 65) (F2S.lasts _ _ _) (by decide) (by decide) (fun l a w hp hu => ⟨(und hp (k := 6) (j := 8) (by kernel_rfl) (und hp (k := 5) (j := 6) (by kernel_rfl) hu)), (und hp (k := 5) (j := 10) (by kernel_rfl) hu)⟩) rfl (fun l a V hp h1 hB ha => ⟨#[.pointer (some ⟨b, 0, none⟩), .int .i64 (k : Int)], by
        have x36 := (ev_form a 36).trans (show a.eval (.tmp 36) = .pointer (some ⟨b, 0, none⟩) from (kn hp ha 36 3 (by kernel_rfl) (by kernel_rfl)).1)
        have x37 := (ev_form a 37).trans (show a.eval (.tmp 37) = .int .i64 (k : Int) from (kn hp ha 37 4 (by kernel_rfl) (by kernel_rfl)).1)
        go_simp, (unhide HLA V hB).mono (by rintro e V1 ⟨rfl, hb⟩; exact ⟨_, rfl, rfl, fun e => absurd e (by decide), hb⟩)⟩)
    · exact sa_call (f := 132) (F2S.lasts _ _ _) (by decide) (by decide) (fun l a w hp hu => ⟨(und hp (k := 6) (j := 8) (by kernel_rfl) hu), (und hp (k := 6) (j := 10) (by kernel_rfl) hu)⟩) rfl (fun l a V hp h1 hB ha => ⟨#[.pointer (some ⟨b, 0, none⟩), .int .i64 (M : Int)], by
        have x35 := (ev_form a 35).trans (show a.eval (.tmp 35) = .pointer (some ⟨b, 0, none⟩) from (kn hp ha 35 2 (by kernel_rfl) (by kernel_rfl)).1)
        have x38 := (ev_form a 38).trans (show a.eval (.tmp 38) = .int .i64 (M : Int) from (kn hp ha 38 5 (by kernel_rfl) (by kernel_rfl)).1)
        go_simp, (unhide HTO V hB).mono (by rintro e V1 ⟨rfl, hb⟩; exact ⟨_, rfl, rfl, fun e => absurd e (by decide), hb⟩)⟩)
    · exact sa_new (F2S.lasts _ _ _) (by decide) (by decide) (fun l a w hp hu => ⟨(und hp (k := 7) (j := 8) (by kernel_rfl) hu), (und hp (k := 7) (j := 10) (by kernel_rfl) hu)⟩) rfl (fun l a V hp h1 hB ha => ⟨.slice (some ⟨V.heap.size, 0, none⟩) 1 1, .cells #[.string y] 9, by
        have x39 := (ev_form a 39).trans (show a.eval (.tmp 39) = .string y from (kn hp ha 39 6 (by kernel_rfl) (by kernel_rfl)).1)
        go_simp, trivial, fun _ => ⟨V.heap.size, rfl, hB.size, by rw [World.cell?_alloc_new]; rfl⟩⟩)
    · refine sa_app (by decide) (fun l a w hp hu => (und hp (k := 8) (j := 10) (by kernel_rfl) hu)) rfl (fun l a V hp h1 hB ha => ?_)
      have hv34 : a.eval (.tmp 34) = tv := (kn hp ha 34 1 (by kernel_rfl) (by kernel_rfl)).1
      obtain ⟨M1, hv41, hM, hMc⟩ := (kn hp ha 40 7 (by kernel_rfl) (by kernel_rfl)).2.1 h1 rfl
      have hot := (unhide HTV).later hB
      obtain ⟨v', w', hr, h2, h3, _⟩ := run_append_own (P := Tryz.prog) V W4.heap.size 22 22 9 i0 (.string ByteArray.empty) 1 16 Tryz.underlying22 (unhide HI).1 (unhide HI).2.1 (unhide HI).2.2.1 (unhide HI).2.2.2 rfl (by decide) tv acc.length _ hot.1 ⟨M1, 0, none⟩ 1 1 [.string y] rfl (by
        intro j u hj
        match j, hj with
        | 0, hj => simp at hj; subst hj; simpa [Addr.add] using hMc
        | j + 1, hj => simp at hj) (oneT _) (by have := unhide HAL; unfold maxLen; omega) (by have := unhide HAL; omega) (by have h1 := hB.size; have h2 := unhide HSZ; omega)
      refine ⟨v', w', ?_, ⟨OT.step h2 hot.2 (unhide HYS), V, hB, h3⟩, trivial⟩
      unfold execOp
      simp only [resolve, invoke, builtin, Sem.run_bind, Sem.run_pure, Result.andThen_ok, List.map_toArray, List.map_cons, List.map_nil, hv34, hv41, hr]
    · exact sa_float (by decide) (by decide) (fun l a w hp hu => (und hp (k := 9) (j := 10) (by kernel_rfl) hu)) rfl (fun l a V hp ha => ⟨.pointer (some ⟨q, 2, none⟩), by
        have x3 := (ev_form a 3).trans (old hp 3 (v := .pointer (some ⟨q, 0, none⟩)) (by kernel_rfl) e3)
        go_simp, rfl, fun e => absurd e (by decide)⟩)
    · refine sa_last (t := 41) (by decide) rfl rfl (by kernel_rfl) (fun l a V hp hA ha => ?_) trivial
      have x42 := (ev_form a 42).trans (show a.eval (.tmp 42) = .pointer (some ⟨q, 2, none⟩) from (kn hp ha 42 9 (by kernel_rfl) (by kernel_rfl)).1)
      have x41 := ev_form a 41
      obtain ⟨h1, V0, hV0, hgr⟩ := id hA
      have hlow := below_grown (hV0.mono (unhide HSZ)) hgr (by have := hV0.size; have := unhide HSZ; omega) (unhide HTV).row
      have m1 := hlow.cell (p := ⟨q, 2, none⟩) (unhide HQ4)
      rw [unhide HQC] at m1
      have m2 := hlow.frozen (p := ⟨q, 2, none⟩) (unhide HQ4)
      rw [unhide HQF] at m2
      generalize a.eval (.tmp 41) = tv' at *
      obtain ⟨sa, sl, sc, rfl⟩ := h1.shape
      exact ⟨V.setCell ⟨q, 2, none⟩ (.slice sa sl sc), by clear hA h1 hgr hlow; go_simp, ⟨V, _, hA, rfl⟩⟩
  case hf =>
    intro l a V hp hall
    obtain ⟨V', v, ⟨h1, V0, hV0, hgr⟩, hV⟩ := hp.j.2.1 (hall 10 (by decide))
    exact hQ a V V' v hp.nt hp.df (fun t ht => hp.keep t (dstIn (by kernel_rfl) ht)) h1 (below_grown (hV0.mono (unhide HSZ)) hgr (by have := hV0.size; have := unhide HSZ; omega) (unhide HTV).row) hV
end Go.Proofs.YtdmmbhemmbgcpabGreat
namespace Go.Proofs.YtdmmbhemmbgcpabGreat
open Go Go.RowKit Gs
set_option linter.unusedVariables false
set_option linter.unusedSimpArgs false
set_option maxRecDepth 100000
theorem sizeSet (W : World) (a : Addr) (v : Value) : (W.setCell a v).heap.size = W.heap.size := by simp
theorem otherCell (W : World) (g i : Nat) (v : Value) {b o : Nat} {y : Value} (hc : W.cell? ⟨b, o, none⟩ = some y) (h : b ≠ g ∨ o ≠ i) : (W.setCell ⟨g, i, none⟩ v).cell? ⟨b, o, none⟩ = some y := by
  rw [show W.setCell ⟨g, i, none⟩ v = setK W g i [v] from rfl, setK_other [v] W g i b o (by rcases h with h | h; exact .inl h; simp; omega)]
  exact hc
theorem sameCell (W : World) (g i : Nat) (v : Value) {y : Value} (hc : W.cell? ⟨g, i, none⟩ = some y) : (W.setCell ⟨g, i, none⟩ v).cell? ⟨g, i, none⟩ = some v := by
  have := setK_at [v] W g i (fun q hq => ⟨y, by
    have : q = 0 := by simpa using hq
    subst this
    exact hc⟩)
  exact this.get0
theorem frozSet (W : World) (g i : Nat) (v : Value) (a : Addr) : (W.setCell ⟨g, i, none⟩ v).frozen? a = W.frozen? a := setK_frozen [v] W g i a
set_option maxHeartbeats 16000000 in
theorem iRow {b g l0 c0 n2 c2 : Nat} {s0 s2 : Option Addr} {W0 W : World} {p1 p3 v4 v5 : Value} {vs : List Bool} (h : Ob W0.heap.size W b g [.slice s0 l0 c0, p1, .slice s2 n2 c2, p3, v4, v5] vs) (outs checks : List Port) (h4 : RS 2 RPort W0 0 outs v4) (h5 : RS 2 RPort W0 0 checks v5) (hB : Below W0.heap.size W0 W)
    (hl0 : l0 ≤ 1048576) (hl2 : n2 ≤ 1048576) (hl4 : outs.length ≤ 1048576) (hl5 : checks.length ≤ 1048576) (hvl : vs.length ≤ 1048576 * 8) (hvl2 : l0 + n2 ≤ vs.length) (hlit4 : ∀ x ∈ outs, 0 ≤ x.src ∧ x.src < (vs.length : Int)) (hlit5 : ∀ x ∈ checks, 0 ≤ x.src ∧ x.src < (vs.length : Int)) :
    Calls Tryz.prog 127 #[.pointer (some ⟨b, 0, none⟩)] W fun e w' => (∃ vo vc vr E1 E2, e = .returned (.agg #[vo, vc, vr]) ∧ W.heap.size ≤ E1 ∧ E1 ≤ E2 ∧ OT W.heap.size w' vo (outs.map (fun x : Port => txt1 (srcV vs x.src))) ∧ (∀ j, vo.ownBlock = some j → j < E1) ∧ OT E1 w' vc (checks.map (fun x : Port => txt1 (srcV vs x.src))) ∧ (∀ j, vc.ownBlock = some j → j < E2) ∧ OT E2 w' vr ((List.range n2).map (fun i => txt1 (vs.getD (l0 + i) false))) ∧ E2 ≤ w'.heap.size) ∧ Below W.heap.size W w' := by
  obtain ⟨W1, hW1⟩ : ∃ W1, W1 = ((W.alloc (.cells #[.pointer (some ⟨b, 0, none⟩)] 83)).alloc (.cells #[.slice none 0 0, .slice none 0 0, .slice none 0 0] 71)).alloc (.cells #[.slice none 0 0, .slice none 0 0, .slice none 0 0] 71) := ⟨_, rfl⟩
  have hb1 : Below W.heap.size W W1 := by rw [hW1]; exact bal (bal (bal (brf W) _) _) _
  have ho1 := h.later hb1
  have hpc : W1.cell? ⟨W.heap.size, 0, none⟩ = some (.pointer (some ⟨b, 0, none⟩)) := by
    rw [hW1]
    exact cell_later (bal (bal (brf _) _) _) (by rw [World.cell?_alloc_new]; rfl)
  have hsz1 : W1.heap.size = W.heap.size + 1 + 1 + 1 := by rw [hW1]; simp
  have hrc : ∀ i, i < 3 → W1.cell? ⟨W.heap.size + 1, i, none⟩ = some (.slice none 0 0) ∧ W1.frozen? ⟨W.heap.size + 1, i, none⟩ = false := by
    intro i hi
    have e : W.heap.size + 1 = (W.alloc (.cells #[.pointer (some ⟨b, 0, none⟩)] 83)).heap.size := by simp
    have t := TP_made (W.alloc (.cells #[.pointer (some ⟨b, 0, none⟩)] 83)) #[.slice none 0 0, .slice none 0 0, .slice none 0 0] 71 3 rfl i hi
    have c : ((W.alloc (.cells #[.pointer (some ⟨b, 0, none⟩)] 83)).alloc (.cells #[.slice none 0 0, .slice none 0 0, .slice none 0 0] 71)).cell? ⟨W.heap.size + 1, i, none⟩ = some (.slice none 0 0) := by
      rw [e, World.cell?_alloc_new]
      match i, hi with
      | 0, _ => rfl
      | 1, _ => rfl
      | 2, _ => rfl
    rw [← e] at t
    rw [hW1]
    exact ⟨cell_later (bal (brf _) _) c, frozen_later (bal (brf _) _) c t.2⟩
  have hqc : ∀ i, i < 3 → W1.cell? ⟨W.heap.size + 1 + 1, i, none⟩ = some (.slice none 0 0) ∧ W1.frozen? ⟨W.heap.size + 1 + 1, i, none⟩ = false := by
    intro i hi
    have e : W.heap.size + 1 + 1 = ((W.alloc (.cells #[.pointer (some ⟨b, 0, none⟩)] 83)).alloc (.cells #[.slice none 0 0, .slice none 0 0, .slice none 0 0] 71)).heap.size := by simp
    have t := TP_made ((W.alloc (.cells #[.pointer (some ⟨b, 0, none⟩)] 83)).alloc (.cells #[.slice none 0 0, .slice none 0 0, .slice none 0 0] 71)) #[.slice none 0 0, .slice none 0 0, .slice none 0 0] 71 3 rfl i hi
    rw [← e] at t
    rw [hW1]
    refine ⟨?_, t.2⟩
    rw [e, World.cell?_alloc_new]
    match i, hi with
    | 0, _ => rfl
    | 1, _ => rfl
    | 2, _ => rfl
  have hl1 : Below W0.heap.size W0 W1 := hB.trans (hb1.mono hB.size)
  have HT4 := hide (iListTold ho1 hpc hvl hl1 outs v4 hl4 h4 hlit4)
  have hbl : b < W.heap.size := World.block_lt_of_cell? _ _ h.cells.1
  have hgl : g < W.heap.size := h.lt
  obtain ⟨_, _, _, _, q4, _, _⟩ := ho1.cells
  have HW1 := hide hW1
  rw [hW1] at q4
  have HO1 := hide ho1
  have HB1 := hide hb1
  have HPC := hide hpc
  have HS1 := hide hsz1
  have HRC := hide hrc
  have HQC := hide hqc
  have HLB := hide hl1
  have HH5 := hide h5
  have HL5 := hide hlit5
  have HB0 := hide hB.size
  clear hW1 hpc hsz1 hrc hqc hl1 h hb1 ho1 h4 h5 hlit4 hlit5 hB
  go_enter Tryz.func127, Tryz.ntmps127
  go_wp2_with fail
  rw [← unhide HW1]
  refine (unhide HT4).mono ?_
  rintro e V1 ⟨⟨vo, rfl, hvo⟩, hbv1⟩
  obtain ⟨sa, sl, sc, rfl⟩ := hvo.shape
  clear q4 HT4
  have hlt1 := hbv1.size
  have hs1 := unhide HS1
  obtain ⟨V1s, hV1s⟩ : ∃ V1s, V1s = V1.setCell ⟨W.heap.size + 1 + 1, 0, none⟩ (.slice sa sl sc) := ⟨_, rfl⟩
  have hfx1 : Fx (W.heap.size + 1 + 1) V1 V1s := by rw [hV1s]; exact Fx.set _ _ _ _
  have hq0 := cell_later hbv1 (unhide HQC 0 (by decide)).1
  have hf0 := frozen_later hbv1 (unhide HQC 0 (by decide)).1 (unhide HQC 0 (by decide)).2
  have hq1 := cell_later hbv1 (unhide HQC 1 (by decide)).1
  have hf1 := frozen_later hbv1 (unhide HQC 1 (by decide)).1 (unhide HQC 1 (by decide)).2
  have hq2 := cell_later hbv1 (unhide HQC 2 (by decide)).1
  have hf2 := frozen_later hbv1 (unhide HQC 2 (by decide)).1 (unhide HQC 2 (by decide)).2
  have ho1s := ((unhide HO1).later hbv1).fx hfx1 (by omega) (by omega)
  have hps := hfx1.cell1 (b := W.heap.size) (by omega) (cell_later hbv1 (unhide HPC))
  have hbs : Below W0.heap.size W0 V1s := hfx1.below (Below.trans (unhide HLB) (hbv1.mono (by have := unhide HB0; omega))) (by have := unhide HB0; omega) (by have := unhide HB0; omega)
  have hbw1 : Below W.heap.size W V1s := hfx1.below (btr (unhide HB1) hbv1) (by omega) (by omega)
  have HT5 := hide (iListTold ho1s hps hvl hbs checks v5 hl5 (unhide HH5) (unhide HL5))
  obtain ⟨_, _, _, _, _, q5, _⟩ := ho1s.cells
  have HP1s := hide hps
  have HQ0s := hide (show V1s.cell? ⟨W.heap.size + 1 + 1, 0, none⟩ = some (.slice sa sl sc) by rw [hV1s]; exact sameCell _ _ _ _ hq0)
  have HQ1s := hide (show V1s.cell? ⟨W.heap.size + 1 + 1, 1, none⟩ = some (.slice none 0 0) by rw [hV1s]; exact otherCell _ _ _ _ hq1 (.inr (by decide)))
  have HQ2s := hide (show V1s.cell? ⟨W.heap.size + 1 + 1, 2, none⟩ = some (.slice none 0 0) by rw [hV1s]; exact otherCell _ _ _ _ hq2 (.inr (by decide)))
  have HF1s := hide (show V1s.frozen? ⟨W.heap.size + 1 + 1, 1, none⟩ = false by rw [hV1s, frozSet]; exact hf1)
  have HF2s := hide (show V1s.frozen? ⟨W.heap.size + 1 + 1, 2, none⟩ = false by rw [hV1s, frozSet]; exact hf2)
  have hVO : OT W1.heap.size V1s (.slice sa sl sc) (outs.map (fun x : Port => txt1 (srcV vs x.src))) := hvo.fx hfx1 (fun e => by have := hvo.row _ e; omega)
  have HVO := hide hVO
  have HE1 : Hid (∀ j, (Value.slice sa sl sc).ownBlock = some j → j < V1s.heap.size) := hide (fun j hj => (World.ownsRow.lt hVO.1 j hj).2)
  have HRs : Hid (∀ i, i < 3 → V1s.cell? ⟨W.heap.size + 1, i, none⟩ = some (.slice none 0 0) ∧ V1s.frozen? ⟨W.heap.size + 1, i, none⟩ = false) := hide (fun i hi => ⟨hfx1.cell1 (by omega) (cell_later hbv1 (unhide HRC i hi).1), hfx1.frozen1 (by omega) (cell_later hbv1 (unhide HRC i hi).1) (frozen_later hbv1 (unhide HRC i hi).1 (unhide HRC i hi).2)⟩)
  have HZ1 := hide (show W1.heap.size ≤ V1s.heap.size by rw [hV1s, sizeSet]; exact hlt1)
  have HO1s := hide ho1s
  have HBs := hide hbs
  have HBW1 := hide hbw1
  have HV1s := hide hV1s
  rw [hV1s] at hps q5
  clear hV1s hfx1 hvo hbv1 hq1 hf1 hq2 hf2 ho1s hbs hVO hlt1 HQC HRC HPC HO1 HLB HH5 HL5 HW1 hbw1
  go_wp2_with fail
  rw [← unhide HV1s]
  refine (unhide HT5).mono ?_
  rintro e V2 ⟨⟨vc, rfl, hvc⟩, hbv2⟩
  obtain ⟨ta, tl, tc, rfl⟩ := hvc.shape
  clear hps q5 HT5 hq0 hf0
  have hz1 := unhide HZ1
  have hlt2 := hbv2.size
  obtain ⟨W4, hW4⟩ : ∃ W4, W4 = V2.setCell ⟨W.heap.size + 1 + 1, 1, none⟩ (.slice ta tl tc) := ⟨_, rfl⟩
  have hfx2 : Fx (W.heap.size + 1 + 1) V2 W4 := by rw [hW4]; exact Fx.set _ _ _ _
  have hq1 := cell_later hbv2 (unhide HQ1s)
  have hf1 := frozen_later hbv2 (unhide HQ1s) (unhide HF1s)
  have hq2 := cell_later hbv2 (unhide HQ2s)
  have hf2 := frozen_later hbv2 (unhide HQ2s) (unhide HF2s)
  have ho4 := ((unhide HO1s).later hbv2).fx hfx2 (by omega) (by omega)
  have hp4 := hfx2.cell1 (b := W.heap.size) (by omega) (cell_later hbv2 (unhide HP1s))
  have HB4 := hide (hfx2.below (btr (unhide HBW1) hbv2) (by omega) (by omega))
  have HQ0 := hide (show W4.cell? ⟨W.heap.size + 1 + 1, 0, none⟩ = some (.slice sa sl sc) by rw [hW4]; exact otherCell _ _ _ _ (cell_later hbv2 (unhide HQ0s)) (.inr (by decide)))
  have HQ1 := hide (show W4.cell? ⟨W.heap.size + 1 + 1, 1, none⟩ = some (.slice ta tl tc) by rw [hW4]; exact sameCell _ _ _ _ hq1)
  have HQ2 := hide (show W4.cell? ⟨W.heap.size + 1 + 1, 2, none⟩ = some (.slice none 0 0) by rw [hW4]; exact otherCell _ _ _ _ hq2 (.inr (by decide)))
  have HF2 := hide (show W4.frozen? ⟨W.heap.size + 1 + 1, 2, none⟩ = false by rw [hW4, frozSet]; exact hf2)
  have hVO4 := ((unhide HVO).later hbv2).fx hfx2 (fun e => by have := (unhide HVO).row _ e; omega)
  have hVC4 := hvc.fx hfx2 (fun e => by have := hvc.row _ e; omega)
  have HVO4 := hide hVO4
  have HVC4 := hide hVC4
  have HE2 : Hid (∀ j, (Value.slice ta tl tc).ownBlock = some j → j < W4.heap.size) := hide (fun j hj => (World.ownsRow.lt hVC4.1 j hj).2)
  have HR4 : Hid (∀ i, i < 3 → W4.cell? ⟨W.heap.size + 1, i, none⟩ = some (.slice none 0 0) ∧ W4.frozen? ⟨W.heap.size + 1, i, none⟩ = false) := hide (fun i hi => ⟨hfx2.cell1 (by omega) (cell_later hbv2 (unhide HRs i hi).1), hfx2.frozen1 (by omega) (cell_later hbv2 (unhide HRs i hi).1) (frozen_later hbv2 (unhide HRs i hi).1 (unhide HRs i hi).2)⟩)
  have HZ2 := hide (show V1s.heap.size ≤ W4.heap.size by rw [hW4, sizeSet]; exact hlt2)
  obtain ⟨_, _, q2, _, _, _, _⟩ := ho4.cells
  have HO4 := hide ho4
  have HP4 := hide hp4
  have HW4 := hide hW4
  rw [hW4] at hp4 q2
  clear hW4 hfx2 hvc hbv2 hq2 hf2 ho4 hVO4 hVC4 hlt2 HVO HRs HO1s HBs HBW1 HP1s HQ0s HQ1s HQ2s HF1s HF2s HV1s
  go_wp2_with fail
  rw [← unhide HW4]
  clear hp4 q2 hq1 hf1
  have hz2 := unhide HZ2
  go_loopw [30] (fun i wr => ∃ k : Nat, ∃ tv : Value, k ≤ n2 ∧ i = .int .i64 k ∧ OT W4.heap.size wr tv ((List.range k).map (fun i => txt1 (vs.getD (l0 + i) false))) ∧ Fx (W.heap.size + 1 + 1) W4 wr ∧ wr.cell? ⟨W.heap.size + 1 + 1, 0, none⟩ = some (.slice sa sl sc) ∧ wr.cell? ⟨W.heap.size + 1 + 1, 1, none⟩ = some (.slice ta tl tc) ∧ wr.cell? ⟨W.heap.size + 1 + 1, 2, none⟩ = some tv ∧ wr.frozen? ⟨W.heap.size + 1 + 1, 2, none⟩ = false) (fun i wr => n2 - (intOf i).toNat)
  case atStart => exact ⟨0, _, Nat.zero_le _, rfl, OT_nil _ _, Fx.refl _ _, unhide HQ0, unhide HQ1, unhide HQ2, unhide HF2⟩
  case round =>
    obtain ⟨k, tv, hk, rfl, hot, hfx, hc0, hc1, hc2, hcf⟩ := hrel
    by_cases hlt : k < n2
    · have ho := (unhide HO4).fx hfx (by omega) (by omega)
      have HLA : Hid (∀ V, Below wr.heap.size wr V → Calls Tryz.prog 65 #[.pointer (some ⟨b, 0, none⟩), .int .i64 (k : Int)] V fun e w' => e = .returned (.int .i64 ((l0 + k : Nat) : Int)) ∧ Below V.heap.size V w') := hide (fun V hV => by
        refine (iReg (ho.later hV) k hl0 (by omega)).mono ?_
        rintro e w' ⟨rfl, rfl⟩
        exact ⟨rfl, brf _⟩)
      have hle : srcV vs ((l0 + k : Nat) : Int) = vs.getD (l0 + k) false := by
        unfold srcV
        rw [Int.toNat_natCast]
      have HTO : Hid (∀ V, Below wr.heap.size wr V → Calls Tryz.prog 132 #[.pointer (some ⟨b, 0, none⟩), .int .i64 ((l0 + k : Nat) : Int)] V fun e w' => e = .returned (.string (txt1 (vs.getD (l0 + k) false))) ∧ Below V.heap.size V w') := hide (fun V hV => by
        refine (iTold (ho.later hV) _ (by omega) (by omega) hvl).mono ?_
        rintro e w' ⟨rfl, rfl⟩
        exact ⟨by rw [hle], brf _⟩)
      have HST := hide (show (List.range (k + 1)).map (fun i => txt1 (vs.getD (l0 + i) false)) = (List.range k).map (fun i => txt1 (vs.getD (l0 + i) false)) ++ [txt1 (vs.getD (l0 + k) false)] by rw [List.range_succ, List.map_append]; rfl)
      have HAL := hide (show ((List.range k).map (fun i => txt1 (vs.getD (l0 + i) false))).length ≤ 1048576 by simp; omega)
      have HYS := hide (txt1_size (vs.getD (l0 + k) false))
      have HFX := hide hfx
      have HOT := hide hot
      have HC0 := hide hc0
      have HC1 := hide hc1
      have HC2 := hide hc2
      have HCF := hide hcf
      have HPP := hide (hfx.cell1 (b := W.heap.size) (by omega) (unhide HP4))
      clear hle ho hfx hot hc0 hc1 hc2 hcf
      generalize l0 + k = M at *
      generalize (List.range k).map (fun i => txt1 (vs.getD (l0 + i) false)) = acc at *
      generalize txt1 (vs.getD M false) = y at *
      go_wp2_with fail
      refine rowRound (fun _ => undef) HOT HAL (hide (unhide HFX).size) HYS (hide (by omega)) HC2 HCF HPP HLA HTO _ rfl rfl rfl rfl ?_
      intro a V V' v hnt hdf hkeep hOT' hlow hV
      obtain ⟨us, rfl, hus⟩ := putAll_of [33, 34, 35, 36, 37, 38, 39, 40, 41, 42] hnt hdf hkeep
      clear hnt hdf hkeep hus
      simp only [putAll, List.foldl, Act.put, List.setIfInBounds_toArray, List.set_cons_zero, List.set_cons_succ]
      generalize us 33 = z33 at *
      generalize us 34 = z34 at *
      generalize us 35 = z35 at *
      generalize us 36 = z36 at *
      generalize us 37 = z37 at *
      generalize us 38 = z38 at *
      generalize us 39 = z39 at *
      generalize us 40 = z40 at *
      generalize us 41 = z41 at *
      generalize us 42 = z42 at *
      have hFX' : Fx (W.heap.size + 1 + 1) W4 V := by
        have h1 : Fx (W.heap.size + 1 + 1) W4 V' := ⟨hlow.os.trans (unhide HFX).os, hlow.tape.trans (unhide HFX).tape, hlow.output.trans (unhide HFX).output, Nat.le_trans (unhide HFX).size hlow.size, fun i hi hne => (hlow.block i hi).trans ((unhide HFX).block i hi hne)⟩
        rw [hV]; exact h1.trans (Fx.set _ _ _ _)
      have e0 := (hlow.cell (p := ⟨W.heap.size + 1 + 1, 0, none⟩) (by show W.heap.size + 1 + 1 < _; omega)).trans (unhide HC0)
      have e1 := (hlow.cell (p := ⟨W.heap.size + 1 + 1, 1, none⟩) (by show W.heap.size + 1 + 1 < _; omega)).trans (unhide HC1)
      have e2 := (hlow.cell (p := ⟨W.heap.size + 1 + 1, 2, none⟩) (by show W.heap.size + 1 + 1 < _; omega)).trans (unhide HC2)
      have ef := (hlow.frozen (p := ⟨W.heap.size + 1 + 1, 2, none⟩) (by show W.heap.size + 1 + 1 < _; omega)).trans (unhide HCF)
      have HR : Hid (OT W4.heap.size V v (acc ++ [y]) ∧ Fx (W.heap.size + 1 + 1) W4 V ∧ V.cell? ⟨W.heap.size + 1 + 1, 0, none⟩ = some (.slice sa sl sc) ∧ V.cell? ⟨W.heap.size + 1 + 1, 1, none⟩ = some (.slice ta tl tc) ∧ V.cell? ⟨W.heap.size + 1 + 1, 2, none⟩ = some v ∧ V.frozen? ⟨W.heap.size + 1 + 1, 2, none⟩ = false) := hide (by
        refine ⟨?_, hFX', ?_, ?_, ?_, ?_⟩
        · rw [hV]; exact hOT'.fx (Fx.set _ _ _ _) (fun e => by have := hOT'.row _ e; omega)
        · rw [hV]; exact otherCell _ _ _ _ e0 (.inr (by decide))
        · rw [hV]; exact otherCell _ _ _ _ e1 (.inr (by decide))
        · rw [hV]; exact sameCell _ _ _ _ e2
        · rw [hV, frozSet]; exact ef)
      clear hV hOT' hlow hFX' e0 e1 e2 ef
      go_wp2_with fail
      go_roundw
      case rel => exact ⟨k + 1, v, by omega, by go_num, by rw [unhide HST]; exact (unhide HR).1, (unhide HR).2⟩
      case measure => simp [intOf]; omega
    · obtain rfl : k = n2 := by omega
      obtain ⟨ra, rl, rc, rfl⟩ := hot.shape
      have r0 := hfx.cell1 (by omega) (unhide HR4 0 (by decide)).1
      have r1 := hfx.cell1 (by omega) (unhide HR4 1 (by decide)).1
      have r2 := hfx.cell1 (by omega) (unhide HR4 2 (by decide)).1
      have g0 := hfx.frozen1 (by omega) (unhide HR4 0 (by decide)).1 (unhide HR4 0 (by decide)).2
      have g1 := hfx.frozen1 (by omega) (unhide HR4 1 (by decide)).1 (unhide HR4 1 (by decide)).2
      have g2 := hfx.frozen1 (by omega) (unhide HR4 2 (by decide)).1 (unhide HR4 2 (by decide)).2
      have hF3 : Fx (W.heap.size + 1) wr (((wr.setCell ⟨W.heap.size + 1, 0, none⟩ (.slice sa sl sc)).setCell ⟨W.heap.size + 1, 1, none⟩ (.slice ta tl tc)).setCell ⟨W.heap.size + 1, 2, none⟩ (.slice ra rl rc)) := ((Fx.set _ _ _ _).trans (Fx.set _ _ _ _)).trans (Fx.set _ _ _ _)
      have HR : Hid (OT W.heap.size (((wr.setCell ⟨W.heap.size + 1, 0, none⟩ (.slice sa sl sc)).setCell ⟨W.heap.size + 1, 1, none⟩ (.slice ta tl tc)).setCell ⟨W.heap.size + 1, 2, none⟩ (.slice ra rl rc)) (.slice sa sl sc) (outs.map (fun x : Port => txt1 (srcV vs x.src))) ∧ OT V1s.heap.size (((wr.setCell ⟨W.heap.size + 1, 0, none⟩ (.slice sa sl sc)).setCell ⟨W.heap.size + 1, 1, none⟩ (.slice ta tl tc)).setCell ⟨W.heap.size + 1, 2, none⟩ (.slice ra rl rc)) (.slice ta tl tc) (checks.map (fun x : Port => txt1 (srcV vs x.src))) ∧ OT W4.heap.size (((wr.setCell ⟨W.heap.size + 1, 0, none⟩ (.slice sa sl sc)).setCell ⟨W.heap.size + 1, 1, none⟩ (.slice ta tl tc)).setCell ⟨W.heap.size + 1, 2, none⟩ (.slice ra rl rc)) (.slice ra rl rc) ((List.range k).map (fun i => txt1 (vs.getD (l0 + i) false))) ∧ Below W.heap.size W (((wr.setCell ⟨W.heap.size + 1, 0, none⟩ (.slice sa sl sc)).setCell ⟨W.heap.size + 1, 1, none⟩ (.slice ta tl tc)).setCell ⟨W.heap.size + 1, 2, none⟩ (.slice ra rl rc))) := hide (by
        have hzz := hfx.size
        refine ⟨?_, ?_, ?_, ?_⟩
        · have a1 := (unhide HVO4).fx hfx (fun e => by have := (unhide HVO4).row _ e; omega)
          exact (a1.fx hF3 (fun e => by have := a1.row _ e; omega)).low (by omega)
        · have a1 := (unhide HVC4).fx hfx (fun e => by have := (unhide HVC4).row _ e; omega)
          exact a1.fx hF3 (fun e => by have := a1.row _ e; omega)
        · exact hot.fx hF3 (fun e => by have := hot.row _ e; omega)
        · exact hF3.below (hfx.below (unhide HB4) (by omega) (by omega)) (by omega) (by omega))
      have HZ3 := hide hfx.size
      clear hot hfx hF3 hcf
      go_wp2
      exact bodyPost_ret (v := .agg #[.slice sa sl sc, .slice ta tl tc, .slice ra rl rc]) (by simp [results, Tryz.results127, go_sem, r0, r1, r2]) rfl ⟨⟨_, _, _, V1s.heap.size, W4.heap.size, rfl, by omega, by omega, (unhide HR).1, unhide HE1, (unhide HR).2.1, unhide HE2, (unhide HR).2.2.1, by simpa using unhide HZ3⟩, (unhide HR).2.2.2⟩
end Go.Proofs.YtdmmbhemmbgcpabGreat
