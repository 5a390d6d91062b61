/- unpacked: one table more (the region that appends it). -/
import Derived.Test.YtdmmbhemmbgcpabGreatGPR2
import Derived.Test.YtdmmbhemmbgcpabGreatGPU1
namespace Go.Proofs.YtdmmbhemmbgcpabGreat
open Go Go.RowKit Gs
set_option linter.unusedVariables false
set_option linter.unusedSimpArgs false
set_option maxRecDepth 100000
def unOps18 : Array Oper := #[{ dst := some 84, op := Go.Op.fieldAddr 88 (Go.Operand.tmp 9) 3, type := 0, pos := "l15_place.go:238", after := #[], guard := none }, { dst := some 85, op := Go.Op.load 86 (Go.Operand.tmp 84), type := 86, pos := "l15_place.go:238", after := #[{ on := 0, ground := Go.Ground.data }], guard := none }, { dst := some 86, op := Go.Op.move (Go.Operand.tmp 5), type := 129, pos := "l15_place.go:238", after := #[], guard := none }, { dst := some 87, op := Go.Op.fieldAddr 66 (Go.Operand.tmp 12) 1, type := 0, pos := "l15_place.go:238", after := #[], guard := none }, { dst := some 88, op := Go.Op.load 64 (Go.Operand.tmp 87), type := 64, pos := "l15_place.go:238", after := #[{ on := 3, ground := Go.Ground.data }], guard := none }, { dst := some 89, op := Go.Op.call { callee := Go.Callee.value (Go.Operand.func 70), args := #[Go.Operand.tmp 86, Go.Operand.tmp 88], argTypes := #[129, 64] }, type := 64, pos := "l15_place.go:238", after := #[{ on := 2, ground := Go.Ground.data }, { on := 4, ground := Go.Ground.data }], guard := none }, { dst := some 90, op := Go.Op.fieldAddr 66 (Go.Operand.tmp 12) 2, type := 0, pos := "l15_place.go:238", after := #[], guard := none }, { dst := some 91, op := Go.Op.load 3 (Go.Operand.tmp 90), type := 3, pos := "l15_place.go:238", after := #[{ on := 6, ground := Go.Ground.data }], guard := none }, { dst := some 92, op := Go.Op.build 134 #[(0, Go.Operand.tmp 89), (1, Go.Operand.tmp 91)], type := 134, pos := "l15_place.go:238", after := #[{ on := 5, ground := Go.Ground.data }, { on := 7, ground := Go.Ground.data }], guard := none }, { dst := some 93, op := Go.Op.buildSlice 86 1 #[(0, Go.Operand.tmp 92)], type := 86, pos := "l15_place.go:238", after := #[{ on := 8, ground := Go.Ground.data }], guard := none }, { dst := some 94, op := Go.Op.call { callee := Go.Callee.builtin Go.Builtin.append, args := #[Go.Operand.tmp 85, Go.Operand.tmp 93], argTypes := #[86, 86] }, type := 86, pos := "l15_place.go:238", after := #[{ on := 1, ground := Go.Ground.data }, { on := 9, ground := Go.Ground.data }, { on := 5, ground := Go.Ground.chain }], guard := none }, { dst := some 95, op := Go.Op.fieldAddr 88 (Go.Operand.tmp 9) 3, type := 0, pos := "l15_place.go:238", after := #[{ on := 0, ground := Go.Ground.phase }, { on := 1, ground := Go.Ground.phase }, { on := 2, ground := Go.Ground.phase }, { on := 3, ground := Go.Ground.phase }, { on := 4, ground := Go.Ground.phase }, { on := 5, ground := Go.Ground.phase }, { on := 6, ground := Go.Ground.phase }, { on := 7, ground := Go.Ground.phase }, { on := 8, ground := Go.Ground.phase }, { on := 9, ground := Go.Ground.phase }, { on := 10, ground := Go.Ground.phase }], guard := none }, { dst := none, op := Go.Op.store 86 (Go.Operand.tmp 95) (Go.Operand.tmp 94), type := 0, pos := "l15_place.go:238", after := #[{ on := 11, ground := Go.Ground.data }, { on := 10, ground := Go.Ground.data }, { on := 10, ground := Go.Ground.chain }, { on := 0, ground := Go.Ground.phase }, { on := 1, ground := Go.Ground.phase }, { on := 2, ground := Go.Ground.phase }, { on := 3, ground := Go.Ground.phase }, { on := 4, ground := Go.Ground.phase }, { on := 5, ground := Go.Ground.phase }, { on := 6, ground := Go.Ground.phase }, { on := 7, ground := Go.Ground.phase }, { on := 8, ground := Go.Ground.phase }, { on := 9, ground := Go.Ground.phase }, { on := 10, ground := Go.Ground.phase }], guard := none }]
/-- Values of the region. -/
def FU (bm g M q : Nat) (vl : Value) (ai : Option Addr) (mi ci : Nat) (t : Int) : Nat → Value → Prop
  | 0, v => v = .pointer (some ⟨bm, 3, none⟩)
  | 1, v => v = vl
  | 2, v => v = .slice (some ⟨g, 0, none⟩) M M
  | 3, v => v = .pointer (some ⟨q, 1, none⟩)
  | 4, v => v = .slice ai mi ci
  | 6, v => v = .pointer (some ⟨q, 2, none⟩)
  | 7, v => v = .int .i64 t
  | 11, v => v = .pointer (some ⟨bm, 3, none⟩)
  | _, _ => True
def FU2 (B : Nat) (xs : List Int) (t : Int) : Nat → World → Value → Prop
  | 5, w, v => OI B w v xs
  | 8, w, v => ∃ v', v = .agg #[v', .int .i64 t] ∧ OI B w v' xs
  | 9, w, v => ∃ M v', v = .slice (some ⟨M, 0, none⟩) 1 1 ∧ w.cell? ⟨M, 0, none⟩ = some v' ∧ w.cell? ⟨M, 1, none⟩ = some (.int .i64 t) ∧ OI B w v' xs
  | _, _, _ => True
theorem FU2.lasts (B : Nat) (xs : List Int) (t : Int) : Lasts (FU2 B xs t) := by
  intro k w w' v hb h
  unfold FU2 at *
  split at h
  · exact h.later hb
  · obtain ⟨v', e, h⟩ := h; exact ⟨v', e, h.later hb⟩
  · obtain ⟨M, v', e, h1, h2, h3⟩ := h; exact ⟨M, v', e, cell_later hb h1, cell_later hb h2, h3.later hb⟩
  · trivial
/-- What the append gives. -/
def AU (B : Nat) (W0 : World) (vl : Value) (cs : List Value) (k : Nat) (xs : List Int) (t : Int) (v : Value) (V : World) : Prop := ∃ v', V.ownsRow B 134 2 v (k + 1) (cs ++ [v', .int .i64 t]) ∧ OI B V v' xs ∧ ∃ V0, Below W0.heap.size W0 V0 ∧ V0.grownBy V vl.ownBlock
theorem OI.grown134 {B : Nat} {W W' : World} {v vl : Value} {xs : List Int} (h : OI B W v xs) (hg : W.grownBy W' vl.ownBlock) (hv : ∀ q, vl.ownBlock = some q → TB W q 134) : OI B W' v xs := by
  obtain ⟨h1, h2 | ⟨g, cap, cur, e, hb, hc, rest⟩⟩ := h
  · exact ⟨h1, .inl h2⟩
  · refine ⟨h1, .inr ⟨g, cap, cur, e, hb, (hg.block g (Array.getElem?_eq_some_iff.1 hc).1 (fun e2 => ?_)).trans hc, rest⟩⟩
    obtain ⟨cur', f, hc'⟩ := hv g e2.symm
    rw [hc] at hc'
    injection hc' with e1
    injection e1 with e2 e3 e4
    exact absurd e3 (by decide)
theorem slice_one (v' : Value) (a : Option Addr) (l c : Nat) (h : v' = .slice a l c) : v'.oneCell' = true := by subst h; rfl
set_option maxHeartbeats 32000000 in
theorem unRound {B bm g M q k : Nat} {vl : Value} {cs : List Value} {ai : Option Addr} {mi ci : Nat} {t : Int} {ys : List Int} {W0 : World} {Q : Exit → Act → World → Prop} (HRW : Hid (W0.ownsRow B 134 2 vl k cs)) (HK : Hid (k ≤ 1048576)) (HBS : Hid (B ≤ W0.heap.size)) (HTB : Hid (TB W0 bm 88)) (HML : Hid (W0.cell? ⟨bm, 3, none⟩ = some vl)) (HMF : Hid (W0.frozen? ⟨bm, 3, none⟩ = false)) (HQ1 : Hid (W0.cell? ⟨q, 1, none⟩ = some (.slice ai mi ci))) (HQ2 : Hid (W0.cell? ⟨q, 2, none⟩ = some (.int .i64 t)))
    (HAL : Hid (∀ V, Below W0.heap.size W0 V → Calls Tryz.prog 70 #[.slice (some ⟨g, 0, none⟩) M M, .slice ai mi ci] V fun e w' => (∃ v', e = .returned v' ∧ OI B w' v' ys) ∧ Below V.heap.size V w'))
    (a0 : Act) (ha0 : a0.tmps.size = 127) (e9 : a0.eval (.tmp 9) = .pointer (some ⟨bm, 0, none⟩)) (e5 : a0.eval (.tmp 5) = .slice (some ⟨g, 0, none⟩) M M) (e12 : a0.eval (.tmp 12) = .pointer (some ⟨q, 0, none⟩))
    (hQ : ∀ a V V' v, a.tmps.size = a0.tmps.size → a.defers = a0.defers → (∀ s, s ∉ [84, 85, 86, 87, 88, 89, 90, 91, 92, 93, 94, 95] → a.eval (.tmp s) = a0.eval (.tmp s)) → AU B W0 vl cs k ys t v V' → V = V'.setCell ⟨bm, 3, none⟩ v → Q .normal a V) :
    (Code.region 18 unOps18 true).wp Tryz.prog Q a0 W0 := by
  refine wp_plan (GA (FU bm g M q vl ai mi ci t) (FU2 B ys t) 10 12 (AU B W0 vl cs k ys t)) (JA W0 10 12 (AU B W0 vl cs k ys t) (fun V' => ∃ V v, AU B W0 vl cs k ys t v V ∧ V' = V.setCell ⟨bm, 3, none⟩ v)) (by kernel_rfl) 127 ha0 (by kernel_rfl) ?hj ?hs ?hf
  case hj => exact JA.start (bdr (brf W0))
  case hs =>
    refine ⟨?_, ?_, ?_, ?_, ?_, ?_, ?_, ?_, ?_, ?_, ?_, ?_, ?_, trivial⟩
    · exact sa_val (by decide) (by decide) (fun l a w hp hu => ⟨(und hp (k := 1) (j := 10) (by kernel_rfl) (und hp (k := 0) (j := 1) (by kernel_rfl) hu)), (und hp (k := 0) (j := 12) (by kernel_rfl) hu)⟩) rfl (fun l a V hp h1 hB ha => ⟨.pointer (some ⟨bm, 3, none⟩), by
        have x9 := (ev_form a 9).trans (old hp 9 (v := .pointer (some ⟨bm, 0, none⟩)) (by kernel_rfl) e9)
        go_simp, rfl, trivial⟩)
    · exact sa_val (by decide) (by decide) (fun l a w hp hu => ⟨(und hp (k := 1) (j := 10) (by kernel_rfl) hu), (und hp (k := 1) (j := 12) (by kernel_rfl) hu)⟩) rfl (fun l a V hp h1 hB ha => ⟨vl, by
        have x84 := (ev_form a 84).trans (show a.eval (.tmp 84) = .pointer (some ⟨bm, 3, none⟩) from (kn hp ha 84 0 (by kernel_rfl) (by kernel_rfl)).1)
        have y := cell_later hB (unhide HML)
        go_simp, rfl, trivial⟩)
    · exact sa_float (by decide) (by decide) (fun l a w hp hu => (und hp (k := 2) (j := 12) (by kernel_rfl) hu)) rfl (fun l a V hp ha => ⟨.slice (some ⟨g, 0, none⟩) M M, by
        have x5 := (ev_form a 5).trans (old hp 5 (v := .slice (some ⟨g, 0, none⟩) M M) (by kernel_rfl) e5)
        go_simp, rfl, trivial⟩)
    · exact sa_val (by decide) (by decide) (fun l a w hp hu => ⟨(und hp (k := 5) (j := 10) (by kernel_rfl) (und hp (k := 4) (j := 5) (by kernel_rfl) (und hp (k := 3) (j := 4) (by kernel_rfl) hu))), (und hp (k := 3) (j := 12) (by kernel_rfl) hu)⟩) rfl (fun l a V hp h1 hB ha => ⟨.pointer (some ⟨q, 1, none⟩), by
        have x12 := (ev_form a 12).trans (old hp 12 (v := .pointer (some ⟨q, 0, none⟩)) (by kernel_rfl) e12)
        go_simp, rfl, trivial⟩)
    · exact sa_val (by decide) (by decide) (fun l a w hp hu => ⟨(und hp (k := 5) (j := 10) (by kernel_rfl) (und hp (k := 4) (j := 5) (by kernel_rfl) hu)), (und hp (k := 4) (j := 12) (by kernel_rfl) hu)⟩) rfl (fun l a V hp h1 hB ha => ⟨.slice ai mi ci, by
        have x87 := (ev_form a 87).trans (show a.eval (.tmp 87) = .pointer (some ⟨q, 1, none⟩) from (kn hp ha 87 3 (by kernel_rfl) (by kernel_rfl)).1)
        have y := cell_later hB (unhide HQ1)
        go_simp, rfl, trivial⟩)
    · exact sa_call (f := 70) (FU2.lasts _ _ _) (by decide) (by decide) (fun l a w hp hu => ⟨(und hp (k := 5) (j := 10) (by kernel_rfl) hu), (und hp (k := 5) (j := 12) (by kernel_rfl) hu)⟩) rfl (fun l a V hp h1 hB ha => ⟨#[.slice (some ⟨g, 0, none⟩) M M, .slice ai mi ci], by
        have x86 := (ev_form a 86).trans (show a.eval (.tmp 86) = .slice (some ⟨g, 0, none⟩) M M from (kn hp ha 86 2 (by kernel_rfl) (by kernel_rfl)).1)
        have x88 := (ev_form a 88).trans (show a.eval (.tmp 88) = .slice ai mi ci from (kn hp ha 88 4 (by kernel_rfl) (by kernel_rfl)).1)
        go_simp, (unhide HAL V hB).mono (by rintro e V1 ⟨⟨v', rfl, ho⟩, hb⟩; exact ⟨_, rfl, trivial, ho, hb⟩)⟩)
    · exact sa_val (by decide) (by decide) (fun l a w hp hu => ⟨(und hp (k := 9) (j := 10) (by kernel_rfl) (und hp (k := 8) (j := 9) (by kernel_rfl) (und hp (k := 7) (j := 8) (by kernel_rfl) (und hp (k := 6) (j := 7) (by kernel_rfl) hu)))), (und hp (k := 6) (j := 12) (by kernel_rfl) hu)⟩) rfl (fun l a V hp h1 hB ha => ⟨.pointer (some ⟨q, 2, none⟩), by
        have x12 := (ev_form a 12).trans (old hp 12 (v := .pointer (some ⟨q, 0, none⟩)) (by kernel_rfl) e12)
        go_simp, rfl, trivial⟩)
    · exact sa_val (by decide) (by decide) (fun l a w hp hu => ⟨(und hp (k := 9) (j := 10) (by kernel_rfl) (und hp (k := 8) (j := 9) (by kernel_rfl) (und hp (k := 7) (j := 8) (by kernel_rfl) hu))), (und hp (k := 7) (j := 12) (by kernel_rfl) hu)⟩) rfl (fun l a V hp h1 hB ha => ⟨.int .i64 t, by
        have x90 := (ev_form a 90).trans (show a.eval (.tmp 90) = .pointer (some ⟨q, 2, none⟩) from (kn hp ha 90 6 (by kernel_rfl) (by kernel_rfl)).1)
        have y := cell_later hB (unhide HQ2)
        go_simp, rfl, trivial⟩)
    · refine sa_val (by decide) (by decide) (fun l a w hp hu => ⟨(und hp (k := 9) (j := 10) (by kernel_rfl) (und hp (k := 8) (j := 9) (by kernel_rfl) hu)), (und hp (k := 8) (j := 12) (by kernel_rfl) hu)⟩) rfl (fun l a V hp h1 hB ha => ?_)
      have ho : OI B V (a.eval (.tmp 89)) ys := (kn hp ha 89 5 (by kernel_rfl) (by kernel_rfl)).2.1 h1
      have x89 := ev_form a 89
      have x91 := (ev_form a 91).trans (show a.eval (.tmp 91) = .int .i64 t from (kn hp ha 91 7 (by kernel_rfl) (by kernel_rfl)).1)
      obtain ⟨s1, s2, s3, hs⟩ := ho.shape
      rw [hs] at ho x89
      exact ⟨.agg #[.slice s1 s2 s3, .int .i64 t], by go_simp, trivial, _, rfl, ho⟩
    · refine sa_new (FU2.lasts _ _ _) (by decide) (by decide) (fun l a w hp hu => ⟨(und hp (k := 9) (j := 10) (by kernel_rfl) hu), (und hp (k := 9) (j := 12) (by kernel_rfl) hu)⟩) rfl (fun l a V hp h1 hB ha => ?_)
      obtain ⟨v', hv', ho⟩ : ∃ v', a.eval (.tmp 92) = .agg #[v', .int .i64 t] ∧ OI B V v' ys := (kn hp ha 92 8 (by kernel_rfl) (by kernel_rfl)).2.1 h1
      have x92 := (ev_form a 92).trans hv'
      obtain ⟨s1, s2, s3, rfl⟩ := ho.shape
      exact ⟨.slice (some ⟨V.heap.size, 0, none⟩) 1 1, .cells #[.slice s1 s2 s3, .int .i64 t] 134, by go_simp, trivial, V.heap.size, _, rfl, by rw [World.cell?_alloc_new]; rfl, by rw [World.cell?_alloc_new]; rfl, ho.later (bal (brf V) _)⟩
    · refine sa_app (by decide) (fun l a w hp hu => (und hp (k := 10) (j := 12) (by kernel_rfl) hu)) rfl (fun l a V hp h1 hB ha => ?_)
      have hv85 : a.eval (.tmp 85) = vl := (kn hp ha 85 1 (by kernel_rfl) (by kernel_rfl)).1
      obtain ⟨N, v', hv, hc0, hc1, ho⟩ : ∃ N v', a.eval (.tmp 93) = .slice (some ⟨N, 0, none⟩) 1 1 ∧ V.cell? ⟨N, 0, none⟩ = some v' ∧ V.cell? ⟨N, 1, none⟩ = some (.int .i64 t) ∧ OI B V v' ys := (kn hp ha 93 9 (by kernel_rfl) (by kernel_rfl)).2.1 h1
      have hrow := row_later (unhide HRW) hB
      obtain ⟨i0, hi, hz0, hz1, hz2⟩ := info_parts infoLut
      obtain ⟨s1, s2, s3, hs⟩ := ho.shape
      obtain ⟨w1, w', hrun, hown, hgr, _⟩ := run_append_own (P := Tryz.prog) V B 86 86 134 i0 lutZ 2 32 Tryz.underlying86 hi hz0 hz1 hz2 rfl (by decide) vl k cs hrow ⟨N, 0, none⟩ 1 1 [v', .int .i64 t] rfl (by
        intro j u hj
        match j, hj with
        | 0, h => simp at h; subst h; simpa [Addr.add] using hc0
        | 1, h => simp at h; subst h; simpa [Addr.add] using hc1
        | j + 2, h => simp at h) (by
        intro u hu
        simp at hu
        rcases hu with rfl | rfl
        · exact slice_one _ _ _ _ hs
        · rfl) (by have := unhide HK; unfold maxLen; omega) (by have := unhide HK; omega) (by have := hB.size; have := unhide HBS; omega)
      refine ⟨w1, w', ?_, ⟨v', hown, ho.grown134 hgr (fun q hq => (row_tb hrow q hq).2), V, hB, hgr⟩, trivial⟩
      unfold execOp
      simp only [resolve, invoke, builtin, Sem.run_bind, Sem.run_pure, Result.andThen_ok, List.map_toArray, List.map_cons, List.map_nil, hv85, hv, hrun]
    · exact sa_float (by decide) (by decide) (fun l a w hp hu => (und hp (k := 11) (j := 12) (by kernel_rfl) hu)) rfl (fun l a V hp ha => ⟨.pointer (some ⟨bm, 3, none⟩), by
        have x9 := (ev_form a 9).trans (old hp 9 (v := .pointer (some ⟨bm, 0, none⟩)) (by kernel_rfl) e9)
        go_simp, rfl, trivial⟩)
    · refine sa_last (t := 94) (by decide) rfl (by kernel_rfl) (by kernel_rfl) (fun l a V hp hA ha => ?_) trivial
      obtain ⟨v', hown, ho, V0, hb0, hg0⟩ := hA
      have x95 := (ev_form a 95).trans (show a.eval (.tmp 95) = .pointer (some ⟨bm, 3, none⟩) from (kn hp ha 95 11 (by kernel_rfl) (by kernel_rfl)).1)
      have x94 := ev_form a 94
      have hne : some bm ≠ vl.ownBlock := fun e => (row_ne (row_later (unhide HRW) hb0) ((unhide HTB).later hb0) (by decide)) e.symm
      have y := hg0.cell (a := ⟨bm, 3, none⟩) (cell_later hb0 (unhide HML)) hne
      have yf : V.frozen? ⟨bm, 3, none⟩ = false := by
        have e := hg0.block bm (Nat.lt_of_lt_of_le (World.block_lt_of_cell? _ _ (unhide HML)) hb0.size) hne
        rw [(heap_cell (o := 3) e).2]
        exact frozen_later hb0 (unhide HML) (unhide HMF)
      refine ⟨V.setCell ⟨bm, 3, none⟩ (a.eval (.tmp 94)), ?_, V, _, ⟨v', hown, ho, V0, hb0, hg0⟩, rfl⟩
      have hsh : ∃ s1 s2 s3, a.eval (.tmp 94) = .slice s1 s2 s3 := by
        rcases hown.2 with ⟨e, _⟩ | ⟨_, _, _, e, _⟩
        · exact ⟨_, _, _, e⟩
        · exact ⟨_, _, _, e⟩
      obtain ⟨s1, s2, s3, hs⟩ := hsh
      rw [hs] at x94 ⊢
      go_simp
  case hf =>
    intro l a V hp hall
    obtain ⟨V', v, hA, hV⟩ := hp.j.2.1 (hall 12 (by decide))
    exact hQ a V V' v hp.nt hp.df (fun s hs => hp.keep s (dstIn (by kernel_rfl) hs)) hA hV
end Go.Proofs.YtdmmbhemmbgcpabGreat
namespace Go.Proofs.YtdmmbhemmbgcpabGreat
open Go Go.RowKit Gs
set_option linter.unusedVariables false
set_option linter.unusedSimpArgs false
set_option maxRecDepth 100000
/-- The design that is made, in memory. -/
def MM (W : World) (bm : Nat) (l : List Value) : Prop := W.heap[bm]? = some (.cells l.toArray 88 (0, 0))
theorem MM.tb {W : World} {bm : Nat} {l : List Value} (h : MM W bm l) : TB W bm 88 := ⟨_, _, h⟩
theorem MM.cell {W : World} {bm : Nat} {l : List Value} (h : MM W bm l) (i : Nat) : W.cell? ⟨bm, i, none⟩ = l[i]? := by
  unfold MM at h
  simp [World.cell?, h]
theorem MM.frozen {W : World} {bm : Nat} {l : List Value} (h : MM W bm l) (i : Nat) : W.frozen? ⟨bm, i, none⟩ = false := frozen_of_row W bm i _ _ h
theorem MM.set {W : World} {bm : Nat} {l : List Value} (h : MM W bm l) (i : Nat) (v : Value) : MM (W.setCell ⟨bm, i, none⟩ v) bm (l.set i v) := by
  have := heap_setCell_same W bm i _ _ v h
  unfold MM
  rw [this, List.setIfInBounds_toArray]
theorem MM.later {W W' : World} {bm : Nat} {l : List Value} (h : MM W bm l) (hb : Below W.heap.size W W') : MM W' bm l := (hb.block bm (Array.getElem?_eq_some_iff.1 h).1).trans h
theorem MM.lt {W : World} {bm : Nat} {l : List Value} (h : MM W bm l) : bm < W.heap.size := (Array.getElem?_eq_some_iff.1 h).1
theorem MM.grown {W W' : World} {bm : Nat} {l : List Value} {o : Option Nat} (h : MM W bm l) (hg : W.grownBy W' o) (ho : some bm ≠ o) : MM W' bm l := (hg.block bm h.lt ho).trans h
theorem TB.ne {W : World} {a b s t : Nat} (h : TB W a s) (k : TB W b t) (hn : s ≠ t) : a ≠ b := by
  rintro rfl
  obtain ⟨c1, f1, e1⟩ := h
  obtain ⟨c2, f2, e2⟩ := k
  rw [e1] at e2
  injection e2 with e
  injection e with e3 e4 e5
  exact hn e4
theorem OI.kt {B bm t B' : Nat} {W W' : World} {v : Value} {xs : List Int} {l : List Value} (h : OI B' W v xs) (hk : KT B bm t W W') (hm : MM W bm l) (ht : 3 ≠ t) : OI B' W' v xs :=
  row_keep (t' := 3) (k := 1) h hk (row_ne (t := 3) (k := 1) h hm.tb (by decide)) ht
theorem OI.low2 {B B' : Nat} {W : World} {v : Value} {xs : List Int} (h : OI B' W v xs) (hB : B ≤ B') : OI B W v xs := by
  obtain ⟨h1, h2 | ⟨q, cap, cur, e1, e2, e3⟩⟩ := h
  · exact ⟨h1, .inl h2⟩
  · exact ⟨h1, .inr ⟨q, cap, cur, e1, Nat.le_trans hB e2, e3⟩⟩
theorem OI.cells {B : Nat} {W : World} {aL : Option Addr} {ML cL : Nat} {L : List Int} (h : OI B W (.slice aL ML cL) L) (hM : L.length ≤ 1048576) {q : Nat} {j : Int} (hq : L[q]? = some j) : ∃ b o, aL = some ⟨b, o, none⟩ ∧ ML ≤ cL ∧ W.cell? ⟨b, o + q, none⟩ = some (.int .i64 j) := by
  have hr := h.any (by omega)
  rcases hr.open with ⟨rfl, _⟩ | ⟨b, o, c, hv, hc, _, _, hcs⟩
  · simp at hq
  · injection hv with e1 e2 e3
    obtain ⟨u, hul, hat, hrx⟩ := hcs q j hq
    unfold RInt at hrx
    subst hrx
    refine ⟨b, o, e1, by omega, ?_⟩
    have := hat.get (j := 0) rfl
    simpa using this
/-- The cells of a block, in a world that is later. -/
theorem block_cells {w : World} {bs : List Block} {s2 : Option Addr} {l2 c2 : Nat} (h : RS 6 RBlock w 0 bs (.slice s2 l2 c2)) {k : Nat} {b : Block} (hk : bs[k]? = some b) : ∃ b2 o2 a1 d1, s2 = some ⟨b2, o2, none⟩ ∧ l2 ≤ c2 ∧ l2 = bs.length ∧ (∀ j y, [.string b.name, .slice a1 b.inp.length d1, .int .i64 b.table, .bool b.reg, .int .i64 b.init, .int .i64 b.clock][j]? = some y → w.cell? ⟨b2, o2 + k * 6 + j, none⟩ = some y) ∧ RS 1 RInt w 0 b.inp (.slice a1 b.inp.length d1) ∧ b.name.size ≤ maxLen := by
  rcases h.open with ⟨rfl, _⟩ | ⟨b2, o2, c2', hv, hcc, hnm, _, hcs⟩
  · simp at hk
  injection hv with e1 e2 e3
  obtain ⟨u, hul, hat, v1, hus, hsz, hrs⟩ := hcs k b hk
  obtain ⟨ai, ci, rfl⟩ := hrs.slice
  subst hus
  exact ⟨b2, o2, ai, ci, e1, by omega, e2, fun j y hj => hat j y hj, hrs, hsz⟩
/-- A step of the tables. -/
theorem LU.step {B : Nat} {V : World} {v v' : Value} {us : List (Value × Int)} {ls : List Lut} {t : Int} {ys : List Int} (hl : us.length = ls.length) (hins : ∀ (i : Nat) q l, us[i]? = some q → ls[i]? = some l → q.2 = l.table ∧ OI B V q.1 l.inp)
    (hr : V.ownsRow B 134 2 v (ls.length + 1) (us.flatMap lutC ++ [v', .int .i64 t])) (ho : OI B V v' ys) : LU B V v (us ++ [(v', t)]) (ls ++ [⟨ys, t⟩]) := by
  refine ⟨?_, by simp [hl], fun i q l h1 h2 => ?_⟩
  · unfold OW
    rw [List.flatMap_append, List.length_append, hl]
    exact hr
  · by_cases e : i < us.length
    · rw [List.getElem?_append_left e] at h1
      rw [List.getElem?_append_left (by omega)] at h2
      exact hins i q l h1 h2
    · rw [List.getElem?_append_right (by omega)] at h1
      rw [List.getElem?_append_right (by omega)] at h2
      have : i - us.length = 0 := by
        have := (List.getElem?_eq_some_iff.1 h1).1
        simp at this; omega
      rw [this] at h1
      rw [show i - ls.length = 0 by omega] at h2
      simp at h1 h2
      subst h1 h2
      exact ⟨rfl, ho⟩
set_option maxHeartbeats 32000000 in
theorem unLoop4 {u0 u2 u3 u4 u6 u7 u8 u10 u11 u12 u13 u14 u15 u16 u17 u18 u19 u20 u21 u22 u23 u24 u25 u26 u27 u28 u29 u30 u31 u32 u33 u34 u35 u36 u37 u38 u39 u40 u41 u42 u43 u44 u45 u46 u47 u48 u49 u50 u51 u52 u53 u54 u55 u56 u57 u58 u59 u60 u61 u62 u63 u64 u65 u66 u67 u68 u69 u70 u71 u72 u76 u77 u78 u79 u80 u81 u82 u83 u84 u85 u86 u87 u88 u89 u90 u91 u92 u93 u94 u95 u96 u97 u98 u99 u100 u101 u102 u103 u104 u105 u106 u107 u108 u109 u110 u111 u112 u113 u114 u115 u116 u117 u118 u119 u120 u121 u122 u123 u124 u125 u126 : Value} {g pb bm l2 c2 ML cL M : Nat} {aL s2 : Option Addr} {bl L : List Int} {bs : List Block} {m0 m1 m2 m4 m5 : Value} {w W : World} {Q : Exit → Act → World → Prop} (hN : bl.length ≤ 2097152) (hM : bl.length = M) (hML : L.length = ML) (hM1 : ML ≤ 1048576) (hbs : bs.length ≤ 1048576) (HB0 : Hid (Below w.heap.size w W)) (HRB : Hid (RS 6 RBlock w 0 bs (.slice s2 l2 c2))) (HP : Hid (W.cell? ⟨pb, 2, none⟩ = some (.slice s2 l2 c2))) (HPT : Hid (TB W pb 36))
    (HG : Hid (BE W g bl ∧ TB W g 3)) (HL : Hid (OI w.heap.size W (.slice aL ML cL) L)) (HLB : Hid (∀ (q : Nat) (j : Int), L[q]? = some j → ∃ k : Nat, j = (k : Int) ∧ k < bs.length)) (HIN : Hid (∀ b ∈ bs, b.inp.length ≤ 1048576 ∧ ∀ x ∈ b.inp, 0 ≤ x ∧ x < (bl.length : Int)))
    (HM : Hid (MM W bm [m0, m1, m2, .slice none 0 0, m4, m5])) (HBM : Hid (w.heap.size ≤ bm))
    (hT : ∀ (z11 z12 z75 z76 z77 z78 z79 z80 z81 z82 z83 z84 z85 z86 z87 z88 z89 z90 z91 z92 z93 z94 z95 z96 : Value) vl us V, KT w.heap.size bm 134 W V → MM V bm [m0, m1, m2, vl, m4, m5] → LU w.heap.size V vl us (L.map (lutOf bs (becF bl))) → Q (.exit 4) { tmps := (u0 :: .pointer (some ⟨pb, 0, none⟩) :: u2 :: u3 :: u4 :: .slice (some ⟨g, 0, none⟩) M M :: u6 :: u7 :: u8 :: .pointer (some ⟨bm, 0, none⟩) :: u10 :: z11 :: z12 :: u13 :: u14 :: u15 :: u16 :: u17 :: u18 :: u19 :: u20 :: u21 :: u22 :: u23 :: u24 :: u25 :: u26 :: u27 :: u28 :: u29 :: u30 :: u31 :: u32 :: u33 :: u34 :: u35 :: u36 :: u37 :: u38 :: u39 :: u40 :: u41 :: u42 :: u43 :: u44 :: u45 :: u46 :: u47 :: u48 :: u49 :: u50 :: u51 :: u52 :: u53 :: u54 :: u55 :: u56 :: u57 :: u58 :: u59 :: u60 :: u61 :: u62 :: u63 :: u64 :: u65 :: u66 :: u67 :: u68 :: u69 :: u70 :: u71 :: u72 :: .slice aL ML cL :: .int .i64 (ML : Int) :: z75 :: z76 :: z77 :: z78 :: z79 :: z80 :: z81 :: z82 :: z83 :: z84 :: z85 :: z86 :: z87 :: z88 :: z89 :: z90 :: z91 :: z92 :: z93 :: z94 :: z95 :: z96 :: u97 :: u98 :: u99 :: u100 :: u101 :: u102 :: u103 :: u104 :: u105 :: u106 :: u107 :: u108 :: u109 :: u110 :: u111 :: u112 :: u113 :: u114 :: u115 :: u116 :: u117 :: u118 :: u119 :: u120 :: u121 :: u122 :: u123 :: u124 :: u125 :: u126 :: []).toArray, defers := [] } V) :
    Code.wp Tryz.prog (atB 4 (bodyOf Tryz.f36)) Q { tmps := (u0 :: .pointer (some ⟨pb, 0, none⟩) :: u2 :: u3 :: u4 :: .slice (some ⟨g, 0, none⟩) M M :: u6 :: u7 :: u8 :: .pointer (some ⟨bm, 0, none⟩) :: u10 :: u11 :: u12 :: u13 :: u14 :: u15 :: u16 :: u17 :: u18 :: u19 :: u20 :: u21 :: u22 :: u23 :: u24 :: u25 :: u26 :: u27 :: u28 :: u29 :: u30 :: u31 :: u32 :: u33 :: u34 :: u35 :: u36 :: u37 :: u38 :: u39 :: u40 :: u41 :: u42 :: u43 :: u44 :: u45 :: u46 :: u47 :: u48 :: u49 :: u50 :: u51 :: u52 :: u53 :: u54 :: u55 :: u56 :: u57 :: u58 :: u59 :: u60 :: u61 :: u62 :: u63 :: u64 :: u65 :: u66 :: u67 :: u68 :: u69 :: u70 :: u71 :: u72 :: .slice aL ML cL :: .int .i64 (ML : Int) :: .int .i64 0 :: u76 :: u77 :: u78 :: u79 :: u80 :: u81 :: u82 :: u83 :: u84 :: u85 :: u86 :: u87 :: u88 :: u89 :: u90 :: u91 :: u92 :: u93 :: u94 :: u95 :: u96 :: u97 :: u98 :: u99 :: u100 :: u101 :: u102 :: u103 :: u104 :: u105 :: u106 :: u107 :: u108 :: u109 :: u110 :: u111 :: u112 :: u113 :: u114 :: u115 :: u116 :: u117 :: u118 :: u119 :: u120 :: u121 :: u122 :: u123 :: u124 :: u125 :: u126 :: []).toArray, defers := [] } W := by
  have HT := hide hT
  clear hT
  have HWS := hide (unhide HB0).size
  have HPM := hide (TB.ne (unhide HPT) (unhide HM).tb (by decide))
  have HGM := hide (TB.ne (unhide HG).2 (unhide HM).tb (by decide))
  have HLM := hide (row_ne (unhide HL) (unhide HM).tb (by decide))
  have HBL := hide hM
  conv => arg 2; whnf
  go_loopw [75] (fun i wr => ∃ (k : Nat) (vl : Value) (us : List (Value × Int)), k ≤ ML ∧ i = .int .i64 k ∧ KT w.heap.size bm 134 W wr ∧ MM wr bm [m0, m1, m2, vl, m4, m5] ∧ LU w.heap.size wr vl us ((L.take k).map (lutOf bs (becF bl)))) (fun i wr => ML - (intOf i).toNat)
  case atStart => exact ⟨0, _, [], Nat.zero_le _, rfl, KT.refl _ _ _ _, unhide HM, ⟨OW.nil, rfl, fun i q l h => by simp at h⟩⟩
  case round =>
    obtain ⟨k, vl, us, hk, rfl, hkt, hmb, hlu⟩ := hrel
    by_cases hlt : k < ML
    · have hx : L[k]? = some (L[k]'(by omega)) := List.getElem?_eq_getElem (by omega)
      generalize L[k]'(by omega) = j at hx
      obtain ⟨n, rfl, hnb⟩ := unhide HLB k j hx
      have hbx : bs[n]? = some bs[n] := List.getElem?_eq_getElem hnb
      have HMEM := unhide HIN bs[n] (List.getElem_mem hnb)
      have HST : Hid ((L.take (k + 1)).map (lutOf bs (becF bl)) = (L.take k).map (lutOf bs (becF bl)) ++ [⟨bs[n].inp.map (becF bl), bs[n].table⟩]) := hide (by
        rw [List.take_add_one, hx, List.map_append]
        unfold lutOf
        simp only [Option.toList_some, List.map_cons, List.map_nil, Int.toNat_natCast, List.getD_eq_getElem?_getD, hbx, Option.getD_some])
      generalize bs[n] = b at hbx HMEM HST
      obtain ⟨b2, o2, a1, d1, hs2, hcap, hl2, hcell, hrin, hnm⟩ := block_cells (unhide HRB) hbx
      have hbw : Below w.heap.size w wr := hkt.below (unhide HB0) (Nat.le_refl _) (unhide HBM) (unhide HWS)
      have z0 := cell_later hbw (hcell 0 _ rfl)
      have z1 := cell_later hbw (hcell 1 _ rfl)
      have z2 := cell_later hbw (hcell 2 _ rfl)
      have z3 := cell_later hbw (hcell 3 _ rfl)
      have z4 := cell_later hbw (hcell 4 _ rfl)
      have z5 := cell_later hbw (hcell 5 _ rfl)
      simp only [Nat.add_zero] at z0
      have ho : OI w.heap.size wr (.slice aL ML cL) L := row_keep (unhide HL) hkt (unhide HLM) (by decide)
      obtain ⟨bL, oL, haL, hcL, k0⟩ := ho.cells (by omega) hx
      have k1 : wr.cell? ⟨pb, 2, none⟩ = some (.slice s2 l2 c2) := by rw [(heap_cell (hkt.tb (unhide HPT) (unhide HPM) (by decide))).1]; exact unhide HP
      have hbe : BE wr g bl := (unhide HG).1.keep hkt (unhide HG).2 (unhide HGM) (by decide)
      subst haL
      subst hs2
      obtain ⟨B1, hB1⟩ : ∃ B1, B1 = wr.alloc (.cells #[.string b.name, .slice a1 b.inp.length d1, .int .i64 b.table, .bool b.reg, .int .i64 b.init, .int .i64 b.clock] 66) := ⟨_, rfl⟩
      have HBB : Hid (Below wr.heap.size wr B1) := hide (by rw [hB1]; exact bal (brf wr) _)
      have HALL : Hid (∀ V, Below B1.heap.size B1 V → Calls Tryz.prog 70 #[.slice (some ⟨g, 0, none⟩) M M, .slice a1 b.inp.length d1] V fun e w' => (∃ v', e = .returned v' ∧ OI w.heap.size w' v' (b.inp.map (becF bl))) ∧ Below V.heap.size V w') := hide (fun V hV => by
        have hbv := btr (unhide HBB) hV
        have := iAll g bl b.inp (.slice a1 b.inp.length d1) V (by omega) HMEM.1 HMEM.2 (hrin.later RInt.keeps (btr hbw hbv)) (hbe.later hbv)
        rw [hM] at this
        refine this.mono ?_
        rintro e w' ⟨⟨v', rfl, ho⟩, hb⟩
        exact ⟨⟨v', rfl, ho.low2 (btr hbw hbv).size⟩, hb⟩)
      have Y1 : Hid (B1.cell? ⟨wr.heap.size, 1, none⟩ = some (.slice a1 b.inp.length d1)) := hide (by rw [hB1, World.cell?_alloc_new]; rfl)
      have Y2 : Hid (B1.cell? ⟨wr.heap.size, 2, none⟩ = some (.int .i64 b.table)) := hide (by rw [hB1, World.cell?_alloc_new]; rfl)
      have HLU := hide (hlu.later (unhide HBB))
      have HMB := hide (hmb.later (unhide HBB))
      have HKT := hide (hkt.trans (KT.of (unhide HBB)))
      have hus : us.length = k := by rw [hlu.len, List.length_map, List.length_take]; omega
      have HUS := hide hus
      have HRW : Hid (B1.ownsRow w.heap.size 134 2 vl k (us.flatMap lutC)) := hide (by rw [← hus]; exact (unhide HLU).row)
      have HSZ : Hid (w.heap.size ≤ B1.heap.size) := hide (btr hbw (unhide HBB)).size
      have HTB := hide (unhide HMB).tb
      have HML2 : Hid (B1.cell? ⟨bm, 3, none⟩ = some vl) := hide ((unhide HMB).cell 3)
      have HMF := hide ((unhide HMB).frozen 3)
      have HK : Hid (k ≤ 1048576) := hide (by omega)
      have i0 : (0 : Int) ≤ (k : Int) := by omega
      have i1 : (k : Int) < (ML : Int) := by omega
      have i2 : (0 : Int) ≤ (n : Int) := by omega
      have i3 : (n : Int) < (l2 : Int) := by omega
      have HB1 := hide hB1
      have HLT := hide hlt
      clear hkt hmb hlu hx hbx HMEM hcell hrin hnm hbw ho hbe hnb hus HRB HP HG HL HLB HIN HM HT hM HBL hML HPT hB1 hl2 hlt
      go_wp2
      rw [← unhide HB1]
      clear z0 z1 z2 z3 z4 z5
      refine unRound HRW HK HSZ HTB HML2 HMF Y1 Y2 HALL _ rfl rfl rfl rfl ?_
      intro a V V' v hnt hdf hkeep hAU hV
      obtain ⟨v', hown, ho, V0, hb0, hg0⟩ := hAU
      have hrow0 := row_later (unhide HRW) hb0
      have hkt0 : KT w.heap.size bm 134 V0 V' := KT.grown hg0 (fun q hq => row_tb hrow0 q hq)
      have hmm0 := (unhide HMB).later hb0
      have hmm1 := hmm0.grown hg0 (fun e => (row_ne hrow0 hmm0.tb (by decide)) e.symm)
      have hkt1 : KT w.heap.size bm 134 B1 V' := (KT.of hb0).trans hkt0
      have hkt2 : KT w.heap.size bm 134 V' V := by rw [hV]; exact KT.set 3 V' v
      have hkt3 : KT w.heap.size bm 0 V' V := by rw [hV]; exact KT.set 3 V' v
      have R1 := hide ((unhide HKT).trans (hkt1.trans hkt2))
      have R2 : Hid (MM V bm [m0, m1, m2, v, m4, m5]) := hide (by rw [hV]; exact hmm1.set 3 v)
      have R3 : Hid (LU w.heap.size V v (us ++ [(v', b.table)]) ((L.take (k + 1)).map (lutOf bs (becF bl)))) := hide (by
        rw [unhide HST]
        refine LU.step (unhide HLU).len (fun i q l h1 h2 => ?_) ?_ (ho.kt hkt2 hmm1 (by decide))
        · have h := (unhide HLU).ins i q l h1 h2
          exact ⟨h.1, h.2.kt (hkt1.trans hkt2) (unhide HMB) (by decide)⟩
        · rw [show ((L.take k).map (lutOf bs (becF bl))).length = k by rw [← (unhide HLU).len, unhide HUS]]
          exact row_keep hown hkt3 (row_ne hown hmm1.tb (by decide)) (by decide))
      obtain ⟨us', rfl, hus'⟩ := putAll_of [84, 85, 86, 87, 88, 89, 90, 91, 92, 93, 94, 95] hnt hdf hkeep
      clear hnt hdf hkeep hus' hown ho hb0 hg0 hrow0 hkt0 hkt1 hkt2 hkt3 hmm0 hmm1 hV HRW HTB HML2 HMF Y1 Y2 HALL HLU HMB HKT HUS HST
      simp only [putAll, List.foldl, Act.put, List.setIfInBounds_toArray, List.set_cons_zero, List.set_cons_succ]
      go_wp2
      go_roundw
      case rel => exact ⟨k + 1, v, _, by have := unhide HLT; omega, by go_num, unhide R1, unhide R2, unhide R3⟩
      case measure => have := unhide HLT; simp [intOf]; omega
    · obtain rfl : k = ML := by omega
      rw [List.take_of_length_le (by omega)] at hlu
      have HX := hide (unhide HT)
      have H1 := hide hkt
      have H2 := hide hmb
      have H3 := hide hlu
      clear HT hkt hmb hlu HRB HP HG HL HLB HIN HM
      go_wp2
      exact unhide HX _ _ _ _ _ _ _ _ _ _ _ _ _ _ _ _ _ _ _ _ _ _ _ _ _ _ _ (unhide H1) (unhide H2) (unhide H3)
end Go.Proofs.YtdmmbhemmbgcpabGreat
