/- The program's decide: the region that puts a decision to the others. -/
import Derived.Test.YtonfbnbkhpabbaaV4
import Derived.Test.YtonfbnbkhpabbaaP4
namespace Go.Proofs.Ytonfbnbkhpabbaa
open Go Go.RowKit Gs
set_option linter.unusedVariables false
set_option linter.unusedSimpArgs false
set_option maxRecDepth 100000
def F2W (w0 : World) (k8 : Nat) (y z : Value) : Nat → World → Value → Prop := fun k w v => k = k8 → ∃ M, v = .slice (some ⟨M, 0, none⟩) 1 1 ∧ w0.heap.size ≤ M ∧ w.cell? ⟨M, 0, none⟩ = some y ∧ w.cell? ⟨M, 1, none⟩ = some z
theorem F2W.lasts (w0 : World) (k8 : Nat) (y z : Value) : Lasts (F2W w0 k8 y z) := fun k w w' v hb h e => by
  obtain ⟨M, h1, h2, h3, h4⟩ := h e
  exact ⟨M, h1, h2, cell_later hb h3, cell_later hb h4⟩
theorem info72 : (Try.prog.info? 72).map (fun i => (i.zero, i.size, i.bytes)) = some (some (.agg #[.int .i64 0, .int .i64 0]), 2, 16) := by kernel_rfl
def deF (sb b tl tc : Nat) (ta : Option Addr) (dv : Value) (l : Int) : Nat → Value → Prop
  | 0, v => v = .pointer (some ⟨sb, 0, none⟩)
  | 1, v => v = .pointer (some ⟨sb, 0, none⟩)
  | 2, v => v = .pointer (some ⟨sb, 0, none⟩)
  | 3, v => v = .pointer (some ⟨sb, 1, none⟩)
  | 4, v => v = dv
  | 5, v => v = .int .i64 l
  | 6, v => v = .pointer (some ⟨sb, 0, none⟩)
  | 7, v => v = .pointer (some ⟨sb, 0, none⟩)
  | 8, v => v = .pointer (some ⟨sb, 0, none⟩)
  | 9, v => v = .pointer (some ⟨b, 0, none⟩)
  | 10, v => v = .pointer (some ⟨b, 0, none⟩)
  | 11, v => v = .pointer (some ⟨b, 1, none⟩)
  | 12, v => v = .slice ta tl tc
  | 13, v => v = .int .i64 (tl : Int)
  | 14, v => v = .agg #[.int .i64 l, .int .i64 (tl : Int)]
  | 17, v => v = .pointer (some ⟨sb, 0, none⟩)
  | 18, v => v = .pointer (some ⟨sb, 1, none⟩)
  | _, _ => True
def deOps : Array Oper := #[{ dst := some 4, op := Op.move (Operand.tmp 0), type := 41, pos := "l13_sat.go:205", after := #[], guard := none }, { dst := some 5, op := Op.move (Operand.tmp 0), type := 41, pos := "l13_sat.go:205", after := #[], guard := none }, { dst := some 6, op := Op.nilCheck (Operand.tmp 5), type := 0, pos := "l13_sat.go:205", after := #[{ on := 1, ground := Ground.data }], guard := none }, { dst := some 7, op := Op.fieldAddr 46 (Operand.tmp 6) 1, type := 0, pos := "l13_sat.go:205", after := #[{ on := 2, ground := Ground.data }], guard := none }, { dst := some 8, op := Op.load 44 (Operand.tmp 7), type := 44, pos := "l13_sat.go:205", after := #[{ on := 3, ground := Ground.data }], guard := none }, { dst := some 9, op := Op.move (Operand.tmp 1), type := 3, pos := "l13_sat.go:205", after := #[], guard := none }, { dst := some 10, op := Op.move (Operand.tmp 0), type := 41, pos := "l13_sat.go:205", after := #[], guard := none }, { dst := some 11, op := Op.nilCheck (Operand.tmp 10), type := 0, pos := "l13_sat.go:205", after := #[{ on := 6, ground := Ground.data }], guard := none }, { dst := some 12, op := Op.fieldAddr 46 (Operand.tmp 11) 0, type := 0, pos := "l13_sat.go:205", after := #[{ on := 7, ground := Ground.data }], guard := none }, { dst := some 13, op := Op.load 42 (Operand.tmp 12), type := 42, pos := "l13_sat.go:205", after := #[{ on := 8, ground := Ground.data }], guard := none }, { dst := some 14, op := Op.nilCheck (Operand.tmp 13), type := 0, pos := "l13_sat.go:205", after := #[{ on := 9, ground := Ground.data }], guard := none }, { dst := some 15, op := Op.fieldAddr 53 (Operand.tmp 14) 1, type := 0, pos := "l13_sat.go:205", after := #[{ on := 10, ground := Ground.data }], guard := none }, { dst := some 16, op := Op.load 24 (Operand.tmp 15), type := 24, pos := "l13_sat.go:205", after := #[{ on := 11, ground := Ground.data }], guard := none }, { dst := some 17, op := Op.call { callee := Callee.builtin Builtin.len, args := #[Operand.tmp 16], argTypes := #[24] }, type := 3, pos := "l13_sat.go:205", after := #[{ on := 12, ground := Ground.data }], guard := none }, { dst := some 18, op := Op.build 72 #[(0, Operand.tmp 9), (1, Operand.tmp 17)], type := 72, pos := "l13_sat.go:205", after := #[{ on := 5, ground := Ground.data }, { on := 13, ground := Ground.data }], guard := none }, { dst := some 19, op := Op.buildSlice 44 1 #[(0, Operand.tmp 18)], type := 44, pos := "l13_sat.go:205", after := #[{ on := 14, ground := Ground.data }], guard := none }, { dst := some 20, op := Op.call { callee := Callee.builtin Builtin.append, args := #[Operand.tmp 8, Operand.tmp 19], argTypes := #[44, 44] }, type := 44, pos := "l13_sat.go:205", after := #[{ on := 4, ground := Ground.data }, { on := 15, ground := Ground.data }], guard := none }, { dst := some 21, op := Op.nilCheck (Operand.tmp 4), type := 0, pos := "l13_sat.go:205", after := #[{ on := 0, ground := Ground.data }, { on := 0, ground := Ground.phase }, { on := 1, ground := Ground.phase }, { on := 2, ground := Ground.phase }, { on := 3, ground := Ground.phase }, { on := 4, ground := Ground.phase }, { on := 5, ground := Ground.phase }, { on := 6, ground := Ground.phase }, { on := 7, ground := Ground.phase }, { on := 8, ground := Ground.phase }, { on := 9, ground := Ground.phase }, { on := 10, ground := Ground.phase }, { on := 11, ground := Ground.phase }, { on := 12, ground := Ground.phase }, { on := 13, ground := Ground.phase }, { on := 14, ground := Ground.phase }, { on := 15, ground := Ground.phase }, { on := 16, ground := Ground.phase }], guard := none }, { dst := some 22, op := Op.fieldAddr 46 (Operand.tmp 21) 1, type := 0, pos := "l13_sat.go:205", after := #[{ on := 17, ground := Ground.data }, { on := 0, ground := Ground.phase }, { on := 1, ground := Ground.phase }, { on := 2, ground := Ground.phase }, { on := 3, ground := Ground.phase }, { on := 4, ground := Ground.phase }, { on := 5, ground := Ground.phase }, { on := 6, ground := Ground.phase }, { on := 7, ground := Ground.phase }, { on := 8, ground := Ground.phase }, { on := 9, ground := Ground.phase }, { on := 10, ground := Ground.phase }, { on := 11, ground := Ground.phase }, { on := 12, ground := Ground.phase }, { on := 13, ground := Ground.phase }, { on := 14, ground := Ground.phase }, { on := 15, ground := Ground.phase }, { on := 16, ground := Ground.phase }], guard := none }, { dst := none, op := Op.store 44 (Operand.tmp 22) (Operand.tmp 20), type := 0, pos := "l13_sat.go:205", after := #[{ on := 18, ground := Ground.data }, { on := 16, ground := Ground.data }, { on := 16, ground := Ground.chain }, { on := 0, ground := Ground.phase }, { on := 1, ground := Ground.phase }, { on := 2, ground := Ground.phase }, { on := 3, ground := Ground.phase }, { on := 4, ground := Ground.phase }, { on := 5, ground := Ground.phase }, { on := 6, ground := Ground.phase }, { on := 7, ground := Ground.phase }, { on := 8, ground := Ground.phase }, { on := 9, ground := Ground.phase }, { on := 10, ground := Ground.phase }, { on := 11, ground := Ground.phase }, { on := 12, ground := Ground.phase }, { on := 13, ground := Ground.phase }, { on := 14, ground := Ground.phase }, { on := 15, ground := Ground.phase }, { on := 16, ground := Ground.phase }], guard := none }]
set_option maxHeartbeats 16000000 in
theorem deRow {sb b tl tc dl N : Nat} {ta : Option Addr} {dv : Value} {l : Int} {xs : List Value} {cur : Array Value} {wr : World} {Q : Exit → Act → World → Prop} (HTV : Hid (wr.ownsRow N 72 2 dv dl xs)) (HAL : Hid (dl ≤ 1048576)) (HSZ : Hid (N ≤ wr.heap.size)) (HC0 : Hid (wr.cell? ⟨sb, 0, none⟩ = some (.pointer (some ⟨b, 0, none⟩)))) (HC1 : Hid (wr.cell? ⟨sb, 1, none⟩ = some dv)) (HCT : Hid (wr.cell? ⟨b, 1, none⟩ = some (.slice ta tl tc))) (HGB : Hid (wr.heap[sb]? = some (.cells cur 46))) (htv : ∃ a l c, dv = .slice a l c)
    (a0 : Act) (ha0 : a0.tmps.size = 29) (e0 : a0.eval (.tmp 0) = .pointer (some ⟨sb, 0, none⟩)) (e1 : a0.eval (.tmp 1) = .int .i64 l)
    (hQ : ∀ a V V1 V0 v, a.tmps.size = a0.tmps.size → a.defers = a0.defers → (∀ t, t ∉ [4, 5, 6, 7, 8, 9, 10, 11, 12, 13, 14, 15, 16, 17, 18, 19, 20, 21, 22] → a.eval (.tmp t) = a0.eval (.tmp t)) → V1.ownsRow N 72 2 v (dl + 1) (xs ++ [.int .i64 l, .int .i64 (tl : Int)]) → Below wr.heap.size wr V0 → V0.grownBy V1 dv.ownBlock → (v.ownBlock = dv.ownBlock ∨ v.ownBlock = some V0.heap.size) → V = V1.setCell ⟨sb, 1, none⟩ v → Q .normal a V) :
    (Code.region 0 deOps true).wp Try.prog Q a0 wr := by
  obtain ⟨i0, hi, hz0, hz1, hz2⟩ := info_parts info72
  have HI := hide (And.intro hi (And.intro hz0 (And.intro hz1 hz2)))
  have HNB : Hid (∀ k, dv.ownBlock = some k → k ≠ sb) := hide (fun k hk => by
    obtain ⟨o', h2⟩ := own_ty (unhide HTV) hk
    exact ty_ne h2 (unhide HGB) (by decide))
  obtain ⟨xa, xl, xc, htv⟩ := htv
  clear hi hz0 hz1 hz2
  refine wp_plan (GAr (deF sb b tl tc ta dv l) (F2W wr 15 (.int .i64 l) (.int .i64 (tl : Int))) 16 19 (fun v V => V.ownsRow N 72 2 v (dl + 1) (xs ++ [.int .i64 l, .int .i64 (tl : Int)]) ∧ ∃ V0, Below wr.heap.size wr V0 ∧ V0.grownBy V dv.ownBlock ∧ (v.ownBlock = dv.ownBlock ∨ v.ownBlock = some V0.heap.size))) (JAr wr 16 19 (fun v V => V.ownsRow N 72 2 v (dl + 1) (xs ++ [.int .i64 l, .int .i64 (tl : Int)]) ∧ ∃ V0, Below wr.heap.size wr V0 ∧ V0.grownBy V dv.ownBlock ∧ (v.ownBlock = dv.ownBlock ∨ v.ownBlock = some V0.heap.size)) (fun V' => ∃ V v, (fun v V => V.ownsRow N 72 2 v (dl + 1) (xs ++ [.int .i64 l, .int .i64 (tl : Int)]) ∧ ∃ V0, Below wr.heap.size wr V0 ∧ V0.grownBy V dv.ownBlock ∧ (v.ownBlock = dv.ownBlock ∨ v.ownBlock = some V0.heap.size)) v V ∧ V' = V.setCell ⟨sb, 1, none⟩ v)) (by kernel_rfl) 29 ha0 (by kernel_rfl) ?hj ?hs ?hf
  case hj => exact JAr.start (bdr (brf wr))
  case hs =>
    refine ⟨?_, ?_, ?_, ?_, ?_, ?_, ?_, ?_, ?_, ?_, ?_, ?_, ?_, ?_, ?_, ?_, ?_, ?_, ?_, ?_, trivial⟩
    · exact sar_float (by decide) (by decide) (fun l a w hp hu => (und hp (k := 18) (j := 19) (by kernel_rfl) (und hp (k := 17) (j := 18) (by kernel_rfl) (und hp (k := 0) (j := 17) (by kernel_rfl) hu)))) rfl (fun l' a V hp ha => ⟨.pointer (some ⟨sb, 0, none⟩), by
        have x0 := (ev_form a 0).trans (old hp 0 (v := .pointer (some ⟨sb, 0, none⟩)) (by kernel_rfl) e0)
        go_simp, rfl, fun e => absurd e (by decide)⟩)
    · exact sar_val (by decide) (by decide) (fun l a w hp hu => ⟨(und hp (k := 4) (j := 16) (by kernel_rfl) (und hp (k := 3) (j := 4) (by kernel_rfl) (und hp (k := 2) (j := 3) (by kernel_rfl) (und hp (k := 1) (j := 2) (by kernel_rfl) hu)))), (und hp (k := 1) (j := 19) (by kernel_rfl) hu)⟩) rfl (fun l' a V hp h1 hB ha => ⟨.pointer (some ⟨sb, 0, none⟩), by
        have x0 := (ev_form a 0).trans (old hp 0 (v := .pointer (some ⟨sb, 0, none⟩)) (by kernel_rfl) e0)
        go_simp, rfl, fun e => absurd e (by decide)⟩)
    · exact sar_val (by decide) (by decide) (fun l a w hp hu => ⟨(und hp (k := 4) (j := 16) (by kernel_rfl) (und hp (k := 3) (j := 4) (by kernel_rfl) (und hp (k := 2) (j := 3) (by kernel_rfl) hu))), (und hp (k := 2) (j := 19) (by kernel_rfl) hu)⟩) rfl (fun l' a V hp h1 hB ha => ⟨.pointer (some ⟨sb, 0, none⟩), by
        have x5 := (ev_form a 5).trans (show a.eval (.tmp 5) = .pointer (some ⟨sb, 0, none⟩) from (knR hp ha 5 1 (by kernel_rfl) (by kernel_rfl)).1)
        go_simp, rfl, fun e => absurd e (by decide)⟩)
    · exact sar_val (by decide) (by decide) (fun l a w hp hu => ⟨(und hp (k := 4) (j := 16) (by kernel_rfl) (und hp (k := 3) (j := 4) (by kernel_rfl) hu)), (und hp (k := 3) (j := 19) (by kernel_rfl) hu)⟩) rfl (fun l' a V hp h1 hB ha => ⟨.pointer (some ⟨sb, 1, none⟩), by
        have x6 := (ev_form a 6).trans (show a.eval (.tmp 6) = .pointer (some ⟨sb, 0, none⟩) from (knR hp ha 6 2 (by kernel_rfl) (by kernel_rfl)).1)
        go_simp, rfl, fun e => absurd e (by decide)⟩)
    · exact sar_val (by decide) (by decide) (fun l a w hp hu => ⟨(und hp (k := 4) (j := 16) (by kernel_rfl) hu), (und hp (k := 4) (j := 19) (by kernel_rfl) hu)⟩) rfl (fun l' a V hp h1 hB ha => ⟨dv, by
        have x7 := (ev_form a 7).trans (show a.eval (.tmp 7) = .pointer (some ⟨sb, 1, none⟩) from (knR hp ha 7 3 (by kernel_rfl) (by kernel_rfl)).1)
        have mq := cell_later hB (unhide HC1)
        go_simp, rfl, fun e => absurd e (by decide)⟩)
    · exact sar_val (by decide) (by decide) (fun l a w hp hu => ⟨(und hp (k := 15) (j := 16) (by kernel_rfl) (und hp (k := 14) (j := 15) (by kernel_rfl) (und hp (k := 5) (j := 14) (by kernel_rfl) hu))), (und hp (k := 5) (j := 19) (by kernel_rfl) hu)⟩) rfl (fun l' a V hp h1 hB ha => ⟨.int .i64 l, by
        have x1 := (ev_form a 1).trans (old hp 1 (v := .int .i64 l) (by kernel_rfl) e1)
        go_simp, rfl, fun e => absurd e (by decide)⟩)
    · exact sar_val (by decide) (by decide) (fun l a w hp hu => ⟨(und hp (k := 15) (j := 16) (by kernel_rfl) (und hp (k := 14) (j := 15) (by kernel_rfl) (und hp (k := 13) (j := 14) (by kernel_rfl) (und hp (k := 12) (j := 13) (by kernel_rfl) (und hp (k := 11) (j := 12) (by kernel_rfl) (und hp (k := 10) (j := 11) (by kernel_rfl) (und hp (k := 9) (j := 10) (by kernel_rfl) (und hp (k := 8) (j := 9) (by kernel_rfl) (und hp (k := 7) (j := 8) (by kernel_rfl) (und hp (k := 6) (j := 7) (by kernel_rfl) hu)))))))))), (und hp (k := 6) (j := 19) (by kernel_rfl) hu)⟩) rfl (fun l' a V hp h1 hB ha => ⟨.pointer (some ⟨sb, 0, none⟩), by
        have x0 := (ev_form a 0).trans (old hp 0 (v := .pointer (some ⟨sb, 0, none⟩)) (by kernel_rfl) e0)
        go_simp, rfl, fun e => absurd e (by decide)⟩)
    · exact sar_val (by decide) (by decide) (fun l a w hp hu => ⟨(und hp (k := 15) (j := 16) (by kernel_rfl) (und hp (k := 14) (j := 15) (by kernel_rfl) (und hp (k := 13) (j := 14) (by kernel_rfl) (und hp (k := 12) (j := 13) (by kernel_rfl) (und hp (k := 11) (j := 12) (by kernel_rfl) (und hp (k := 10) (j := 11) (by kernel_rfl) (und hp (k := 9) (j := 10) (by kernel_rfl) (und hp (k := 8) (j := 9) (by kernel_rfl) (und hp (k := 7) (j := 8) (by kernel_rfl) hu))))))))), (und hp (k := 7) (j := 19) (by kernel_rfl) hu)⟩) rfl (fun l' a V hp h1 hB ha => ⟨.pointer (some ⟨sb, 0, none⟩), by
        have x10 := (ev_form a 10).trans (show a.eval (.tmp 10) = .pointer (some ⟨sb, 0, none⟩) from (knR hp ha 10 6 (by kernel_rfl) (by kernel_rfl)).1)
        go_simp, rfl, fun e => absurd e (by decide)⟩)
    · exact sar_val (by decide) (by decide) (fun l a w hp hu => ⟨(und hp (k := 15) (j := 16) (by kernel_rfl) (und hp (k := 14) (j := 15) (by kernel_rfl) (und hp (k := 13) (j := 14) (by kernel_rfl) (und hp (k := 12) (j := 13) (by kernel_rfl) (und hp (k := 11) (j := 12) (by kernel_rfl) (und hp (k := 10) (j := 11) (by kernel_rfl) (und hp (k := 9) (j := 10) (by kernel_rfl) (und hp (k := 8) (j := 9) (by kernel_rfl) hu)))))))), (und hp (k := 8) (j := 19) (by kernel_rfl) hu)⟩) rfl (fun l' a V hp h1 hB ha => ⟨.pointer (some ⟨sb, 0, none⟩), by
        have x11 := (ev_form a 11).trans (show a.eval (.tmp 11) = .pointer (some ⟨sb, 0, none⟩) from (knR hp ha 11 7 (by kernel_rfl) (by kernel_rfl)).1)
        go_simp, rfl, fun e => absurd e (by decide)⟩)
    · exact sar_val (by decide) (by decide) (fun l a w hp hu => ⟨(und hp (k := 15) (j := 16) (by kernel_rfl) (und hp (k := 14) (j := 15) (by kernel_rfl) (und hp (k := 13) (j := 14) (by kernel_rfl) (und hp (k := 12) (j := 13) (by kernel_rfl) (und hp (k := 11) (j := 12) (by kernel_rfl) (und hp (k := 10) (j := 11) (by kernel_rfl) (und hp (k := 9) (j := 10) (by kernel_rfl) hu))))))), (und hp (k := 9) (j := 19) (by kernel_rfl) hu)⟩) rfl (fun l' a V hp h1 hB ha => ⟨.pointer (some ⟨b, 0, none⟩), by
        have x12 := (ev_form a 12).trans (show a.eval (.tmp 12) = .pointer (some ⟨sb, 0, none⟩) from (knR hp ha 12 8 (by kernel_rfl) (by kernel_rfl)).1)
        have mq := cell_later hB (unhide HC0)
        go_simp, rfl, fun e => absurd e (by decide)⟩)
    · exact sar_val (by decide) (by decide) (fun l a w hp hu => ⟨(und hp (k := 15) (j := 16) (by kernel_rfl) (und hp (k := 14) (j := 15) (by kernel_rfl) (und hp (k := 13) (j := 14) (by kernel_rfl) (und hp (k := 12) (j := 13) (by kernel_rfl) (und hp (k := 11) (j := 12) (by kernel_rfl) (und hp (k := 10) (j := 11) (by kernel_rfl) hu)))))), (und hp (k := 10) (j := 19) (by kernel_rfl) hu)⟩) rfl (fun l' a V hp h1 hB ha => ⟨.pointer (some ⟨b, 0, none⟩), by
        have x13 := (ev_form a 13).trans (show a.eval (.tmp 13) = .pointer (some ⟨b, 0, none⟩) from (knR hp ha 13 9 (by kernel_rfl) (by kernel_rfl)).1)
        go_simp, rfl, fun e => absurd e (by decide)⟩)
    · exact sar_val (by decide) (by decide) (fun l a w hp hu => ⟨(und hp (k := 15) (j := 16) (by kernel_rfl) (und hp (k := 14) (j := 15) (by kernel_rfl) (und hp (k := 13) (j := 14) (by kernel_rfl) (und hp (k := 12) (j := 13) (by kernel_rfl) (und hp (k := 11) (j := 12) (by kernel_rfl) hu))))), (und hp (k := 11) (j := 19) (by kernel_rfl) hu)⟩) rfl (fun l' a V hp h1 hB ha => ⟨.pointer (some ⟨b, 1, none⟩), by
        have x14 := (ev_form a 14).trans (show a.eval (.tmp 14) = .pointer (some ⟨b, 0, none⟩) from (knR hp ha 14 10 (by kernel_rfl) (by kernel_rfl)).1)
        go_simp, rfl, fun e => absurd e (by decide)⟩)
    · exact sar_val (by decide) (by decide) (fun l a w hp hu => ⟨(und hp (k := 15) (j := 16) (by kernel_rfl) (und hp (k := 14) (j := 15) (by kernel_rfl) (und hp (k := 13) (j := 14) (by kernel_rfl) (und hp (k := 12) (j := 13) (by kernel_rfl) hu)))), (und hp (k := 12) (j := 19) (by kernel_rfl) hu)⟩) rfl (fun l' a V hp h1 hB ha => ⟨.slice ta tl tc, by
        have x15 := (ev_form a 15).trans (show a.eval (.tmp 15) = .pointer (some ⟨b, 1, none⟩) from (knR hp ha 15 11 (by kernel_rfl) (by kernel_rfl)).1)
        have mq := cell_later hB (unhide HCT)
        go_simp, rfl, fun e => absurd e (by decide)⟩)
    · exact sar_val (by decide) (by decide) (fun l a w hp hu => ⟨(und hp (k := 15) (j := 16) (by kernel_rfl) (und hp (k := 14) (j := 15) (by kernel_rfl) (und hp (k := 13) (j := 14) (by kernel_rfl) hu))), (und hp (k := 13) (j := 19) (by kernel_rfl) hu)⟩) rfl (fun l' a V hp h1 hB ha => ⟨.int .i64 (tl : Int), by
        have x16 := (ev_form a 16).trans (show a.eval (.tmp 16) = .slice ta tl tc from (knR hp ha 16 12 (by kernel_rfl) (by kernel_rfl)).1)
        go_simp, rfl, fun e => absurd e (by decide)⟩)
    · exact sar_val (by decide) (by decide) (fun l a w hp hu => ⟨(und hp (k := 15) (j := 16) (by kernel_rfl) (und hp (k := 14) (j := 15) (by kernel_rfl) hu)), (und hp (k := 14) (j := 19) (by kernel_rfl) hu)⟩) rfl (fun l' a V hp h1 hB ha => ⟨.agg #[.int .i64 l, .int .i64 (tl : Int)], by
        have x9 := (ev_form a 9).trans (show a.eval (.tmp 9) = .int .i64 l from (knR hp ha 9 5 (by kernel_rfl) (by kernel_rfl)).1)
        have x17 := (ev_form a 17).trans (show a.eval (.tmp 17) = .int .i64 (tl : Int) from (knR hp ha 17 13 (by kernel_rfl) (by kernel_rfl)).1)
        go_simp, rfl, fun e => absurd e (by decide)⟩)
    · exact sar_new (F2W.lasts _ _ _ _) (by decide) (by decide) (fun l a w hp hu => ⟨(und hp (k := 15) (j := 16) (by kernel_rfl) hu), (und hp (k := 15) (j := 19) (by kernel_rfl) hu)⟩) rfl (fun l' a V hp h1 hB ha => ⟨.slice (some ⟨V.heap.size, 0, none⟩) 1 1, .cells #[.int .i64 l, .int .i64 (tl : Int)] 72, by
        have x18 := (ev_form a 18).trans (show a.eval (.tmp 18) = .agg #[.int .i64 l, .int .i64 (tl : Int)] from (knR hp ha 18 14 (by kernel_rfl) (by kernel_rfl)).1)
        go_simp, trivial, fun _ => ⟨V.heap.size, rfl, hB.size, by rw [World.cell?_alloc_new]; rfl, by rw [World.cell?_alloc_new]; rfl⟩⟩)
    · refine sar_app (by decide) (fun l a w hp hu => (und hp (k := 16) (j := 19) (by kernel_rfl) hu)) rfl (fun l' a V hp h1 hB ha => ?_)
      have hv1 : a.eval (.tmp 8) = dv := (knR hp ha 8 4 (by kernel_rfl) (by kernel_rfl)).1
      obtain ⟨M1, hv2, hM, hMc, hMd⟩ := (knR hp ha 19 15 (by kernel_rfl) (by kernel_rfl)).2.1 h1 rfl
      have hot := unhide HTV
      have hot2 := own_stay hot (V := V) (fun j hj => hB.block j (heap_lt (own_ty hot hj).choose_spec))
      obtain ⟨v', w', hr, h2, h3, _, h5⟩ := run_append_own_at (P := Try.prog) V N 44 44 72 i0 (.agg #[.int .i64 0, .int .i64 0]) 2 16 Try.underlying44 (unhide HI).1 (unhide HI).2.1 (unhide HI).2.2.1 (unhide HI).2.2.2 rfl (by decide) dv dl _ hot2 ⟨M1, 0, none⟩ 1 1 [.int .i64 l, .int .i64 (tl : Int)] rfl (by
        intro j u hj
        match j, hj with
        | 0, hj => simp at hj; subst hj; simpa [Addr.add] using hMc
        | 1, hj => simp at hj; subst hj; simpa [Addr.add] using hMd
        | j + 2, hj => simp at hj) (by intro u hu; simp at hu; rcases hu with rfl | rfl <;> rfl) (by have := unhide HAL; unfold maxLen; omega) (by have := unhide HAL; omega) (by have h1 := hB.size; have h2 := unhide HSZ; omega)
      refine ⟨v', w', ?_, ⟨h2, V, hB, h3, h5⟩, trivial⟩
      unfold execOp
      simp only [resolve, invoke, builtin, Sem.run_bind, Sem.run_pure, Result.andThen_ok, List.map_toArray, List.map_cons, List.map_nil, hv1, hv2, hr]
    · exact sar_float (by decide) (by decide) (fun l a w hp hu => (und hp (k := 18) (j := 19) (by kernel_rfl) (und hp (k := 17) (j := 18) (by kernel_rfl) hu))) rfl (fun l' a V hp ha => ⟨.pointer (some ⟨sb, 0, none⟩), by
        have x4 := (ev_form a 4).trans (show a.eval (.tmp 4) = .pointer (some ⟨sb, 0, none⟩) from (knR hp ha 4 0 (by kernel_rfl) (by kernel_rfl)).1)
        go_simp, rfl, fun e => absurd e (by decide)⟩)
    · exact sar_float (by decide) (by decide) (fun l a w hp hu => (und hp (k := 18) (j := 19) (by kernel_rfl) hu)) rfl (fun l' a V hp ha => ⟨.pointer (some ⟨sb, 1, none⟩), by
        have x21 := (ev_form a 21).trans (show a.eval (.tmp 21) = .pointer (some ⟨sb, 0, none⟩) from (knR hp ha 21 17 (by kernel_rfl) (by kernel_rfl)).1)
        go_simp, rfl, fun e => absurd e (by decide)⟩)
    · refine sar_last (t := 20) (by decide) rfl rfl (by kernel_rfl) (fun l' a V hp hA ha => ?_) trivial
      have x22 := (ev_form a 22).trans (show a.eval (.tmp 22) = .pointer (some ⟨sb, 1, none⟩) from (knR hp ha 22 18 (by kernel_rfl) (by kernel_rfl)).1)
      have x20 := ev_form a 20
      obtain ⟨h1, V0, hV0, hgr, h5⟩ := id hA
      have m1 := hgr.cell (cell_later hV0 (unhide HC1)) (fun e => unhide HNB sb e.symm rfl)
      have m2 : V.frozen? ⟨sb, 1, none⟩ = false := by simp [World.frozen?, (hgr.block sb (Nat.lt_of_lt_of_le (World.block_lt_of_cell? _ _ (unhide HC1)) hV0.size) (fun e => unhide HNB sb e.symm rfl)), (hV0.block sb (World.block_lt_of_cell? _ _ (unhide HC1))), unhide HGB]
      generalize a.eval (.tmp 20) = tv' at *
      obtain ⟨sa, sc, rfl⟩ := own_shape h1
      exact ⟨V.setCell ⟨sb, 1, none⟩ (.slice sa (dl + 1) sc), by clear hA h1 hgr hV0 h5; go_simp, ⟨V, _, hA, rfl⟩⟩
  case hf =>
    intro l' a V hp hall
    obtain ⟨V1, v, ⟨h1, V0, hV0, hgr, h5⟩, hV⟩ := hp.j.2.1 (hall 19 (by decide))
    exact hQ a V V1 V0 v hp.nt hp.df (fun t ht => hp.keep t (dstIn (by kernel_rfl) ht)) h1 hV0 hgr h5 hV
end Go.Proofs.Ytonfbnbkhpabbaa
namespace Go.Proofs.Ytonfbnbkhpabbaa
open Go Go.RowKit Gs
set_option linter.unusedVariables false
set_option linter.unusedSimpArgs false
set_option maxRecDepth 100000
/-- What decide leaves. -/
def DEQ (B n sb k : Nat) (w W : World) (s : FS) (ds : List (Int × Nat)) (T : List (List Int)) (l : Int) (e : Ending) (w' : World) : Prop := e = .returned (.tuple #[]) ∧ Below B w w' ∧ W.heap.size ≤ w'.heap.size ∧ ∃ dv' tv' vals' E' v', SV B n E' w' { s with vs := put s.vs l, t := s.t ++ [l], tv := v', fx := [] } sb dv' tv' vals' (ds ++ [(l, s.t.length)]) T k ∧ FM B n none w' { s with vs := put s.vs l, t := s.t ++ [l], tv := v', fx := [] }
set_option maxHeartbeats 8000000 in
theorem iDecide {B n E sb k : Nat} {w W : World} {s : FS} {dv tv : Value} {vals : List Value} {ds : List (Int × Nat)} {l : Int} {T : List (List Int)} (h : SV B n E W s sb dv tv vals ds T k) (hf : FM B n none W s) (hbl : Below B w W) (hBW : B ≤ W.heap.size) (hlD : ds.length ≤ 4001) (hvr : VR n s.t s.vs) (ht : TrOK n s.t) (hl : Lit n l) (hop : Opn s.t l) (hn : n ≤ 2048) : Calls Try.prog 35 #[.pointer (some ⟨sb, 0, none⟩), .int .i64 l] W (DEQ B n sb k w W s ds T l) := by
  obtain ⟨ta, tc, htv⟩ := hf.tshape
  have HTV := hide h.hd
  have HC0 := hide h.c0
  have HC1 := hide h.c1
  have HCT : Hid (W.cell? ⟨s.b, 1, none⟩ = some (.slice ta s.t.length tc)) := hide (by have := hf.q1; rw [htv] at this; exact this)
  have HGB : Hid (W.heap[sb]? = some (.cells (SVC s.b dv tv k) 46)) := hide h.hs
  have HMS : ∃ a l c, dv = .slice a l c := by obtain ⟨a, c, e⟩ := own_shape h.hd; exact ⟨_, _, _, e⟩
  have htl := ht.len
  have HFIN : Hid (∀ V V1 V0 v', V1.ownsRow B 72 2 v' (ds.length + 1) (dC ds ++ [.int .i64 l, .int .i64 (s.t.length : Int)]) → Below W.heap.size W V0 → V0.grownBy V1 dv.ownBlock → (v'.ownBlock = dv.ownBlock ∨ v'.ownBlock = some V0.heap.size) → V = V1.setCell ⟨sb, 1, none⟩ v' → V.cell? ⟨sb, 0, none⟩ = some (.pointer (some ⟨s.b, 0, none⟩)) ∧ Calls Try.prog 43 #[.pointer (some ⟨s.b, 0, none⟩), .int .i64 l] V fun e w' => e = .returned (.bool true) ∧ DEQ B n sb k w W s ds T l (.returned (.tuple #[])) w') := hide (fun V V1 V0 v' g1 g2 g3 g4 g5 => by
    have h0 := h.later g2
    have f0 := hf.later g2
    have ka : ∀ (g : Nat) (o : Array Value) (t : TypeId), t ≠ 72 → V0.heap[g]? = some (.cells o t) → V1.heap[g]? = some (.cells o t) := fun g o t hne hc => (g3.block g (heap_lt hc) (fun e => by
      obtain ⟨o', h2⟩ := own_ty h0.hd e.symm
      exact ty_ne hc h2 hne rfl)).trans hc
    have hs1 := ka _ _ _ (by decide) h0.hs
    have kb : ∀ (g : Nat) (o : Array Value) (t : TypeId), t ≠ 46 → V1.heap[g]? = some (.cells o t) → V.heap[g]? = some (.cells o t) := fun g o t hne hc => by rw [g5]; exact (Below.heap_setCell V1 ⟨sb, 1, none⟩ v' g (ty_ne hc hs1 hne)).trans hc
    have hap : ∀ g, Ap n s g → Ap n { s with fx := [] } g := fun g a => ⟨a.b, a.vb, a.ob, a.mb, a.tv, a.sv, a.ids⟩
    have z1 := g2.size
    have z2 := g3.size
    have zV : V.heap.size = V1.heap.size := by rw [g5]; simp
    have hsv : SV B n E V { s with fx := [] } sb v' tv vals (ds ++ [(l, s.t.length)]) T k := by
      refine ⟨h0.lo, by rw [g5, heap_set hs1]; rfl, ?_, ownsRow_keep h0.ht (fun g o _ hc => kb _ _ _ (by decide) (ka _ _ _ (by decide) hc)), RI.kept T vals (fun u hu g o _ hc => kb _ _ _ (by decide) (ka _ _ _ (by decide) hc)) h0.hi, by have := h0.he; omega, hap _ h0.ps, fun g hg => hap _ ?_, fun g hg => hap _ (h0.pt g hg), fun u hu g hg => hap _ (h0.pi u hu g hg)⟩
      · rw [List.length_append, dC_snoc]
        exact ownsRow_keep g1 (fun g o _ hc => kb _ _ _ (by decide) hc)
      · rcases g4 with e | e
        · exact h0.pd g (e ▸ hg)
        · have e2 : some V0.heap.size = some g := e.symm.trans hg
          injection e2 with e3
          exact Ap.new f0 (by omega)
    have hfV : FM B n none V { s with fx := [] } := by
      rw [g5]
      exact f0.other (fun g o t hc hna => (Below.heap_setCell V1 ⟨sb, 1, none⟩ v' g (fun e => hna (e ▸ h0.ps))).trans ((g3.block g (heap_lt hc) (fun e => hna (h0.pd g e.symm))).trans hc))
    have hbV : Below B w V := by
      rw [g5]
      exact ((hbl.trans (g2.mono hBW)).grown g3 (by omega) (fun j hj => (World.ownsRow.lt h0.hd j hj).1)).setCell (p := ⟨sb, 1, none⟩) h0.lo _
    refine ⟨hsv.c0, ?_⟩
    refine (iAssumeA hfV ((brf V).mono (by omega)) (by omega) hvr ht hl hn hop).mono ?_
    rintro e w' ⟨rfl, hb', hsz, v2, hf2, hka⟩
    exact ⟨rfl, rfl, hbV.trans hb', by omega, _, _, _, _, v2, hsv.call hka rfl hsz, hf2⟩)
  clear h hf hbl hvr ht hl hop htv
  go_enter Try.func35, Try.ntmps35
  go_wp2
  refine deRow HTV (hide (by omega)) (hide hBW) HC0 HC1 HCT HGB HMS _ rfl rfl rfl ?_
  intro a V V1 V0 v' hnt hdf hkeep g1 g2 g3 g4 g5
  obtain ⟨hc0, hcall⟩ := unhide HFIN V V1 V0 v' g1 g2 g3 g4 g5
  have HCALL := hide hcall
  obtain ⟨us, rfl, hus⟩ := putAll_of [4, 5, 6, 7, 8, 9, 10, 11, 12, 13, 14, 15, 16, 17, 18, 19, 20, 21, 22] hnt hdf hkeep
  clear hnt hdf hkeep hus g1 g2 g3 g4 g5 HFIN HTV HC0 HC1 HCT HGB HMS hcall
  simp only [putAll, List.foldl, Act.put, List.setIfInBounds_toArray, List.set_cons_zero, List.set_cons_succ]
  generalize us 4 = z4 at *
  generalize us 5 = z5 at *
  generalize us 6 = z6 at *
  generalize us 7 = z7 at *
  generalize us 8 = z8 at *
  generalize us 9 = z9 at *
  generalize us 10 = z10 at *
  generalize us 11 = z11 at *
  generalize us 12 = z12 at *
  generalize us 13 = z13 at *
  generalize us 14 = z14 at *
  generalize us 15 = z15 at *
  generalize us 16 = z16 at *
  generalize us 17 = z17 at *
  generalize us 18 = z18 at *
  generalize us 19 = z19 at *
  generalize us 20 = z20 at *
  generalize us 21 = z21 at *
  generalize us 22 = z22 at *
  go_wp2_with fail
  refine (unhide HCALL).mono ?_
  rintro e w' ⟨rfl, hq⟩
  have HQ := hide hq
  clear hq HCALL
  go_wp2
  exact bodyPost_end (v := .tuple #[]) (by simp [results, Try.results35, go_sem]) rfl (unhide HQ)
end Go.Proofs.Ytonfbnbkhpabbaa
