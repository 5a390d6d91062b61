/- The specification's search: the region that puts a value to the model. -/
import Derived.Test.YtonfbnbkhpabbaaP4
import Derived.Test.YtonfbnbkhpabbaaS0
namespace Go.Proofs.Ytonfbnbkhpabbaa
open Go Go.RowKit Gs
set_option linter.unusedVariables false
set_option linter.unusedSimpArgs false
set_option maxRecDepth 100000
theorem sTruth (c : Bool) (w : World) : Calls Try.prog 30 #[.bool c] w fun e w' => e = .returned (.int .i64 (if c then 1 else 0)) ∧ w' = w := by
  cases c with
  | true =>
    go_enter Try.func30, Try.ntmps30
    go_wp2
    exact bodyPost_ret (v := .int .i64 1) (by simp [results, Try.results30, go_sem]) rfl ⟨rfl, rfl⟩
  | false =>
    go_enter Try.func30, Try.ntmps30
    go_wp2
    exact bodyPost_ret (v := .int .i64 0) (by simp [results, Try.results30, go_sem]) rfl ⟨rfl, rfl⟩
def moF (xb b vb H nr : Nat) (mv : Value) (x y : Int) (cb : Bool) : Nat → Value → Prop
  | 0, v => v = .pointer (some ⟨xb, 0, none⟩)
  | 1, v => v = .pointer (some ⟨xb, 0, none⟩)
  | 2, v => v = .pointer (some ⟨xb, 0, none⟩)
  | 3, v => v = .pointer (some ⟨xb, 4, none⟩)
  | 4, v => v = mv
  | 5, v => v = .pointer (some ⟨b, 0, none⟩)
  | 6, v => v = .pointer (some ⟨b, 0, none⟩)
  | 7, v => v = .pointer (some ⟨b, 0, none⟩)
  | 8, v => v = .slice (some ⟨vb, 0, none⟩) nr nr
  | 9, v => v = .int .i64 (H : Int)
  | 10, v => v = .pointer (some ⟨vb, H, none⟩)
  | 11, v => v = .int .i64 x
  | 12, v => v = .bool cb
  | 13, v => v = .int .i64 y
  | 16, v => v = .pointer (some ⟨xb, 0, none⟩)
  | 17, v => v = .pointer (some ⟨xb, 4, none⟩)
  | _, _ => True
def moOps : Array Oper := #[{ dst := some 90, op := Op.move (Operand.tmp 0), type := 36, pos := "l13_sat.go:111", after := #[], guard := none }, { dst := some 91, op := Op.move (Operand.tmp 0), type := 36, pos := "l13_sat.go:111", after := #[], guard := none }, { dst := some 92, op := Op.nilCheck (Operand.tmp 91), type := 0, pos := "l13_sat.go:111", after := #[{ on := 1, ground := Ground.data }], guard := none }, { dst := some 93, op := Op.fieldAddr 38 (Operand.tmp 92) 4, type := 0, pos := "l13_sat.go:111", after := #[{ on := 2, ground := Ground.data }], guard := none }, { dst := some 94, op := Op.load 24 (Operand.tmp 93), type := 24, pos := "l13_sat.go:111", after := #[{ on := 3, ground := Ground.data }], guard := none }, { dst := some 95, op := Op.move (Operand.tmp 5), type := 55, pos := "l13_sat.go:111", after := #[], guard := none }, { dst := some 96, op := Op.nilCheck (Operand.tmp 95), type := 0, pos := "l13_sat.go:111", after := #[{ on := 5, ground := Ground.data }], guard := none }, { dst := some 97, op := Op.fieldAddr 60 (Operand.tmp 96) 0, type := 0, pos := "l13_sat.go:111", after := #[{ on := 6, ground := Ground.data }], guard := none }, { dst := some 98, op := Op.load 24 (Operand.tmp 97), type := 24, pos := "l13_sat.go:111", after := #[{ on := 7, ground := Ground.data }], guard := none }, { dst := some 99, op := Op.move (Operand.tmp 8), type := 3, pos := "l13_sat.go:111", after := #[], guard := none }, { dst := some 100, op := Op.indexAddr 24 (Operand.tmp 98) (Operand.tmp 99), type := 0, pos := "l13_sat.go:111", after := #[{ on := 8, ground := Ground.data }, { on := 9, ground := Ground.data }], guard := none }, { dst := some 101, op := Op.load 3 (Operand.tmp 100), type := 3, pos := "l13_sat.go:111", after := #[{ on := 10, ground := Ground.data }], guard := none }, { dst := some 102, op := Op.binOp BinOp.eql 3 (Operand.tmp 101) (Operand.const (Value.int IntKind.i64 1)) 3, type := 4, pos := "l13_sat.go:111", after := #[{ on := 11, ground := Ground.data }], guard := none }, { dst := some 103, op := Op.call { callee := Callee.value (Operand.func 30), args := #[Operand.tmp 102], argTypes := #[4] }, type := 3, pos := "l13_sat.go:111", after := #[{ on := 12, ground := Ground.data }], guard := none }, { dst := some 104, op := Op.buildSlice 24 1 #[(0, Operand.tmp 103)], type := 24, pos := "l13_sat.go:111", after := #[{ on := 13, ground := Ground.data }], guard := none }, { dst := some 105, op := Op.call { callee := Callee.builtin Builtin.append, args := #[Operand.tmp 94, Operand.tmp 104], argTypes := #[24, 24] }, type := 24, pos := "l13_sat.go:111", after := #[{ on := 4, ground := Ground.data }, { on := 14, ground := Ground.data }, { on := 13, ground := Ground.chain }], guard := none }, { dst := some 106, op := Op.nilCheck (Operand.tmp 90), type := 0, pos := "l13_sat.go:111", after := #[{ on := 0, ground := Ground.data }, { on := 0, ground := Ground.phase }, { on := 1, ground := Ground.phase }, { on := 2, ground := Ground.phase }, { on := 3, ground := Ground.phase }, { on := 4, ground := Ground.phase }, { on := 5, ground := Ground.phase }, { on := 6, ground := Ground.phase }, { on := 7, ground := Ground.phase }, { on := 8, ground := Ground.phase }, { on := 9, ground := Ground.phase }, { on := 10, ground := Ground.phase }, { on := 11, ground := Ground.phase }, { on := 12, ground := Ground.phase }, { on := 13, ground := Ground.phase }, { on := 14, ground := Ground.phase }, { on := 15, ground := Ground.phase }], guard := none }, { dst := some 107, op := Op.fieldAddr 38 (Operand.tmp 106) 4, type := 0, pos := "l13_sat.go:111", after := #[{ on := 16, ground := Ground.data }, { on := 0, ground := Ground.phase }, { on := 1, ground := Ground.phase }, { on := 2, ground := Ground.phase }, { on := 3, ground := Ground.phase }, { on := 4, ground := Ground.phase }, { on := 5, ground := Ground.phase }, { on := 6, ground := Ground.phase }, { on := 7, ground := Ground.phase }, { on := 8, ground := Ground.phase }, { on := 9, ground := Ground.phase }, { on := 10, ground := Ground.phase }, { on := 11, ground := Ground.phase }, { on := 12, ground := Ground.phase }, { on := 13, ground := Ground.phase }, { on := 14, ground := Ground.phase }, { on := 15, ground := Ground.phase }], guard := none }, { dst := none, op := Op.store 24 (Operand.tmp 107) (Operand.tmp 105), type := 0, pos := "l13_sat.go:111", after := #[{ on := 17, ground := Ground.data }, { on := 15, ground := Ground.data }, { on := 15, ground := Ground.chain }, { on := 0, ground := Ground.phase }, { on := 1, ground := Ground.phase }, { on := 2, ground := Ground.phase }, { on := 3, ground := Ground.phase }, { on := 4, ground := Ground.phase }, { on := 5, ground := Ground.phase }, { on := 6, ground := Ground.phase }, { on := 7, ground := Ground.phase }, { on := 8, ground := Ground.phase }, { on := 9, ground := Ground.phase }, { on := 10, ground := Ground.phase }, { on := 11, ground := Ground.phase }, { on := 12, ground := Ground.phase }, { on := 13, ground := Ground.phase }, { on := 14, ground := Ground.phase }, { on := 15, ground := Ground.phase }], guard := none }]
set_option maxHeartbeats 16000000 in
theorem moRow {xb b vb H nr N : Nat} {mv : Value} {x y : Int} {cb : Bool} {xs : List Value} {cur : Array Value} {wr : World} {Q : Exit → Act → World → Prop} (HTV : Hid (wr.ownsRow N 3 1 mv xs.length xs)) (HAL : Hid (xs.length ≤ 1048576)) (hH : H < nr) (HSZ : Hid (N ≤ wr.heap.size)) (HC4 : Hid (wr.cell? ⟨xb, 4, none⟩ = some mv)) (HCV : Hid (wr.cell? ⟨b, 0, none⟩ = some (.slice (some ⟨vb, 0, none⟩) nr nr))) (HCX : Hid (wr.cell? ⟨vb, H, none⟩ = some (.int .i64 x))) (HCB : Hid ((x == 1) = cb)) (HCY : Hid ((if cb then (1 : Int) else 0) = y)) (HGB : Hid (wr.heap[xb]? = some (.cells cur 38))) (htv : ∃ a l c, mv = .slice a l c)
    (a0 : Act) (ha0 : a0.tmps.size = 172) (e0 : a0.eval (.tmp 0) = .pointer (some ⟨xb, 0, none⟩)) (e5 : a0.eval (.tmp 5) = .pointer (some ⟨b, 0, none⟩)) (e8 : a0.eval (.tmp 8) = .int .i64 (H : Int))
    (hQ : ∀ a V V1 V0 v, a.tmps.size = a0.tmps.size → a.defers = a0.defers → (∀ t, t ∉ [90, 91, 92, 93, 94, 95, 96, 97, 98, 99, 100, 101, 102, 103, 104, 105, 106, 107] → a.eval (.tmp t) = a0.eval (.tmp t)) → V1.ownsRow N 3 1 v (xs.length + 1) (xs ++ [.int .i64 y]) → Below wr.heap.size wr V0 → V0.grownBy V1 mv.ownBlock → (v.ownBlock = mv.ownBlock ∨ v.ownBlock = some V0.heap.size) → V = V1.setCell ⟨xb, 4, none⟩ v → Q .normal a V) :
    (Code.region 19 moOps true).wp Try.prog Q a0 wr := by
  obtain ⟨i0, hi, hz0, hz1, hz2⟩ := info_parts info3
  have HI := hide (And.intro hi (And.intro hz0 (And.intro hz1 hz2)))
  have HNB : Hid (∀ k, mv.ownBlock = some k → k ≠ xb) := hide (fun k hk => by
    obtain ⟨o', h2⟩ := own_ty (unhide HTV) hk
    exact ty_ne h2 (unhide HGB) (by decide))
  obtain ⟨ta, tl, tc, htv⟩ := htv
  have j1 : (0 : Int) ≤ (H : Int) := by omega
  have j2 : (H : Int) < (nr : Int) := by omega
  clear hi hz0 hz1 hz2
  refine wp_plan (GAr (moF xb b vb H nr mv x y cb) (F2V wr 14 (.int .i64 y)) 15 18 (fun v V => V.ownsRow N 3 1 v (xs.length + 1) (xs ++ [.int .i64 y]) ∧ ∃ V0, Below wr.heap.size wr V0 ∧ V0.grownBy V mv.ownBlock ∧ (v.ownBlock = mv.ownBlock ∨ v.ownBlock = some V0.heap.size))) (JAr wr 15 18 (fun v V => V.ownsRow N 3 1 v (xs.length + 1) (xs ++ [.int .i64 y]) ∧ ∃ V0, Below wr.heap.size wr V0 ∧ V0.grownBy V mv.ownBlock ∧ (v.ownBlock = mv.ownBlock ∨ v.ownBlock = some V0.heap.size)) (fun V' => ∃ V v, (fun v V => V.ownsRow N 3 1 v (xs.length + 1) (xs ++ [.int .i64 y]) ∧ ∃ V0, Below wr.heap.size wr V0 ∧ V0.grownBy V mv.ownBlock ∧ (v.ownBlock = mv.ownBlock ∨ v.ownBlock = some V0.heap.size)) v V ∧ V' = V.setCell ⟨xb, 4, none⟩ v)) (by kernel_rfl) 172 ha0 (by kernel_rfl) ?hj ?hs ?hf
  case hj => exact JAr.start (bdr (brf wr))
  case hs =>
    refine ⟨?_, ?_, ?_, ?_, ?_, ?_, ?_, ?_, ?_, ?_, ?_, ?_, ?_, ?_, ?_, ?_, ?_, ?_, ?_, trivial⟩
    · exact sar_float (by decide) (by decide) (fun l a w hp hu => (und hp (k := 17) (j := 18) (by kernel_rfl) (und hp (k := 16) (j := 17) (by kernel_rfl) (und hp (k := 0) (j := 16) (by kernel_rfl) hu)))) rfl (fun l a V hp ha => ⟨.pointer (some ⟨xb, 0, none⟩), by
        have x0 := (ev_form a 0).trans (old hp 0 (v := .pointer (some ⟨xb, 0, none⟩)) (by kernel_rfl) e0)
        go_simp, rfl, fun e => absurd e (by decide)⟩)
    · exact sar_val (by decide) (by decide) (fun l a w hp hu => ⟨(und hp (k := 4) (j := 15) (by kernel_rfl) (und hp (k := 3) (j := 4) (by kernel_rfl) (und hp (k := 2) (j := 3) (by kernel_rfl) (und hp (k := 1) (j := 2) (by kernel_rfl) hu)))), (und hp (k := 1) (j := 18) (by kernel_rfl) hu)⟩) rfl (fun l a V hp h1 hB ha => ⟨.pointer (some ⟨xb, 0, none⟩), by
        have x0 := (ev_form a 0).trans (old hp 0 (v := .pointer (some ⟨xb, 0, none⟩)) (by kernel_rfl) e0)
        go_simp, rfl, fun e => absurd e (by decide)⟩)
    · exact sar_val (by decide) (by decide) (fun l a w hp hu => ⟨(und hp (k := 4) (j := 15) (by kernel_rfl) (und hp (k := 3) (j := 4) (by kernel_rfl) (und hp (k := 2) (j := 3) (by kernel_rfl) hu))), (und hp (k := 2) (j := 18) (by kernel_rfl) hu)⟩) rfl (fun l a V hp h1 hB ha => ⟨.pointer (some ⟨xb, 0, none⟩), by
        have x91 := (ev_form a 91).trans (show a.eval (.tmp 91) = .pointer (some ⟨xb, 0, none⟩) from (knR hp ha 91 1 (by kernel_rfl) (by kernel_rfl)).1)
        go_simp, rfl, fun e => absurd e (by decide)⟩)
    · exact sar_val (by decide) (by decide) (fun l a w hp hu => ⟨(und hp (k := 4) (j := 15) (by kernel_rfl) (und hp (k := 3) (j := 4) (by kernel_rfl) hu)), (und hp (k := 3) (j := 18) (by kernel_rfl) hu)⟩) rfl (fun l a V hp h1 hB ha => ⟨.pointer (some ⟨xb, 4, none⟩), by
        have x92 := (ev_form a 92).trans (show a.eval (.tmp 92) = .pointer (some ⟨xb, 0, none⟩) from (knR hp ha 92 2 (by kernel_rfl) (by kernel_rfl)).1)
        go_simp, rfl, fun e => absurd e (by decide)⟩)
    · exact sar_val (by decide) (by decide) (fun l a w hp hu => ⟨(und hp (k := 4) (j := 15) (by kernel_rfl) hu), (und hp (k := 4) (j := 18) (by kernel_rfl) hu)⟩) rfl (fun l a V hp h1 hB ha => ⟨mv, by
        have x93 := (ev_form a 93).trans (show a.eval (.tmp 93) = .pointer (some ⟨xb, 4, none⟩) from (knR hp ha 93 3 (by kernel_rfl) (by kernel_rfl)).1)
        have mq := cell_later hB (unhide HC4)
        go_simp, rfl, fun e => absurd e (by decide)⟩)
    · exact sar_val (by decide) (by decide) (fun l a w hp hu => ⟨(und hp (k := 14) (j := 15) (by kernel_rfl) (und hp (k := 13) (j := 14) (by kernel_rfl) (und hp (k := 12) (j := 13) (by kernel_rfl) (und hp (k := 11) (j := 12) (by kernel_rfl) (und hp (k := 10) (j := 11) (by kernel_rfl) (und hp (k := 8) (j := 10) (by kernel_rfl) (und hp (k := 7) (j := 8) (by kernel_rfl) (und hp (k := 6) (j := 7) (by kernel_rfl) (und hp (k := 5) (j := 6) (by kernel_rfl) hu))))))))), (und hp (k := 5) (j := 18) (by kernel_rfl) hu)⟩) rfl (fun l a V hp h1 hB ha => ⟨.pointer (some ⟨b, 0, none⟩), by
        have x5 := (ev_form a 5).trans (old hp 5 (v := .pointer (some ⟨b, 0, none⟩)) (by kernel_rfl) e5)
        go_simp, rfl, fun e => absurd e (by decide)⟩)
    · exact sar_val (by decide) (by decide) (fun l a w hp hu => ⟨(und hp (k := 14) (j := 15) (by kernel_rfl) (und hp (k := 13) (j := 14) (by kernel_rfl) (und hp (k := 12) (j := 13) (by kernel_rfl) (und hp (k := 11) (j := 12) (by kernel_rfl) (und hp (k := 10) (j := 11) (by kernel_rfl) (und hp (k := 8) (j := 10) (by kernel_rfl) (und hp (k := 7) (j := 8) (by kernel_rfl) (und hp (k := 6) (j := 7) (by kernel_rfl) hu)))))))), (und hp (k := 6) (j := 18) (by kernel_rfl) hu)⟩) rfl (fun l a V hp h1 hB ha => ⟨.pointer (some ⟨b, 0, none⟩), by
        have x95 := (ev_form a 95).trans (show a.eval (.tmp 95) = .pointer (some ⟨b, 0, none⟩) from (knR hp ha 95 5 (by kernel_rfl) (by kernel_rfl)).1)
        go_simp, rfl, fun e => absurd e (by decide)⟩)
    · exact sar_val (by decide) (by decide) (fun l a w hp hu => ⟨(und hp (k := 14) (j := 15) (by kernel_rfl) (und hp (k := 13) (j := 14) (by kernel_rfl) (und hp (k := 12) (j := 13) (by kernel_rfl) (und hp (k := 11) (j := 12) (by kernel_rfl) (und hp (k := 10) (j := 11) (by kernel_rfl) (und hp (k := 8) (j := 10) (by kernel_rfl) (und hp (k := 7) (j := 8) (by kernel_rfl) hu))))))), (und hp (k := 7) (j := 18) (by kernel_rfl) hu)⟩) rfl (fun l a V hp h1 hB ha => ⟨.pointer (some ⟨b, 0, none⟩), by
        have x96 := (ev_form a 96).trans (show a.eval (.tmp 96) = .pointer (some ⟨b, 0, none⟩) from (knR hp ha 96 6 (by kernel_rfl) (by kernel_rfl)).1)
        go_simp, rfl, fun e => absurd e (by decide)⟩)
    · exact sar_val (by decide) (by decide) (fun l a w hp hu => ⟨(und hp (k := 14) (j := 15) (by kernel_rfl) (und hp (k := 13) (j := 14) (by kernel_rfl) (und hp (k := 12) (j := 13) (by kernel_rfl) (und hp (k := 11) (j := 12) (by kernel_rfl) (und hp (k := 10) (j := 11) (by kernel_rfl) (und hp (k := 8) (j := 10) (by kernel_rfl) hu)))))), (und hp (k := 8) (j := 18) (by kernel_rfl) hu)⟩) rfl (fun l a V hp h1 hB ha => ⟨.slice (some ⟨vb, 0, none⟩) nr nr, by
        have x97 := (ev_form a 97).trans (show a.eval (.tmp 97) = .pointer (some ⟨b, 0, none⟩) from (knR hp ha 97 7 (by kernel_rfl) (by kernel_rfl)).1)
        have mq := cell_later hB (unhide HCV)
        go_simp, rfl, fun e => absurd e (by decide)⟩)
    · exact sar_val (by decide) (by decide) (fun l a w hp hu => ⟨(und hp (k := 14) (j := 15) (by kernel_rfl) (und hp (k := 13) (j := 14) (by kernel_rfl) (und hp (k := 12) (j := 13) (by kernel_rfl) (und hp (k := 11) (j := 12) (by kernel_rfl) (und hp (k := 10) (j := 11) (by kernel_rfl) (und hp (k := 9) (j := 10) (by kernel_rfl) hu)))))), (und hp (k := 9) (j := 18) (by kernel_rfl) hu)⟩) rfl (fun l a V hp h1 hB ha => ⟨.int .i64 (H : Int), by
        have x8 := (ev_form a 8).trans (old hp 8 (v := .int .i64 (H : Int)) (by kernel_rfl) e8)
        go_simp, rfl, fun e => absurd e (by decide)⟩)
    · exact sar_val (by decide) (by decide) (fun l a w hp hu => ⟨(und hp (k := 14) (j := 15) (by kernel_rfl) (und hp (k := 13) (j := 14) (by kernel_rfl) (und hp (k := 12) (j := 13) (by kernel_rfl) (und hp (k := 11) (j := 12) (by kernel_rfl) (und hp (k := 10) (j := 11) (by kernel_rfl) hu))))), (und hp (k := 10) (j := 18) (by kernel_rfl) hu)⟩) rfl (fun l a V hp h1 hB ha => ⟨.pointer (some ⟨vb, H, none⟩), by
        have x98 := (ev_form a 98).trans (show a.eval (.tmp 98) = .slice (some ⟨vb, 0, none⟩) nr nr from (knR hp ha 98 8 (by kernel_rfl) (by kernel_rfl)).1)
        have x99 := (ev_form a 99).trans (show a.eval (.tmp 99) = .int .i64 (H : Int) from (knR hp ha 99 9 (by kernel_rfl) (by kernel_rfl)).1)
        go_simp, rfl, fun e => absurd e (by decide)⟩)
    · exact sar_val (by decide) (by decide) (fun l a w hp hu => ⟨(und hp (k := 14) (j := 15) (by kernel_rfl) (und hp (k := 13) (j := 14) (by kernel_rfl) (und hp (k := 12) (j := 13) (by kernel_rfl) (und hp (k := 11) (j := 12) (by kernel_rfl) hu)))), (und hp (k := 11) (j := 18) (by kernel_rfl) hu)⟩) rfl (fun l a V hp h1 hB ha => ⟨.int .i64 x, by
        have x100 := (ev_form a 100).trans (show a.eval (.tmp 100) = .pointer (some ⟨vb, H, none⟩) from (knR hp ha 100 10 (by kernel_rfl) (by kernel_rfl)).1)
        have mq := cell_later hB (unhide HCX)
        go_simp, rfl, fun e => absurd e (by decide)⟩)
    · exact sar_val (by decide) (by decide) (fun l a w hp hu => ⟨(und hp (k := 14) (j := 15) (by kernel_rfl) (und hp (k := 13) (j := 14) (by kernel_rfl) (und hp (k := 12) (j := 13) (by kernel_rfl) hu))), (und hp (k := 12) (j := 18) (by kernel_rfl) hu)⟩) rfl (fun l a V hp h1 hB ha => ⟨.bool cb, by
        have x101 := (ev_form a 101).trans (show a.eval (.tmp 101) = .int .i64 x from (knR hp ha 101 11 (by kernel_rfl) (by kernel_rfl)).1)
        have hcb2 := unhide HCB
        go_simp, rfl, fun e => absurd e (by decide)⟩)
    · exact sar_call (f := 30) (F2V.lasts _ _ _) (by decide) (by decide) (fun l a w hp hu => ⟨(und hp (k := 14) (j := 15) (by kernel_rfl) (und hp (k := 13) (j := 14) (by kernel_rfl) hu)), (und hp (k := 13) (j := 18) (by kernel_rfl) hu)⟩) rfl (fun l a V hp h1 hB ha => ⟨#[.bool cb], by
        have x102 := (ev_form a 102).trans (show a.eval (.tmp 102) = .bool cb from (knR hp ha 102 12 (by kernel_rfl) (by kernel_rfl)).1)
        go_simp, (sTruth cb V).mono (fun e w' h => ⟨.int .i64 y, by rw [← unhide HCY]; exact h.1, rfl, (fun e => absurd e (by decide)), by rw [h.2]; exact brf V⟩)⟩)
    · exact sar_new (F2V.lasts _ _ _) (by decide) (by decide) (fun l a w hp hu => ⟨(und hp (k := 14) (j := 15) (by kernel_rfl) hu), (und hp (k := 14) (j := 18) (by kernel_rfl) hu)⟩) rfl (fun l a V hp h1 hB ha => ⟨.slice (some ⟨V.heap.size, 0, none⟩) 1 1, .cells #[.int .i64 y] 3, by
        have x103 := (ev_form a 103).trans (show a.eval (.tmp 103) = .int .i64 y from (knR hp ha 103 13 (by kernel_rfl) (by kernel_rfl)).1)
        go_simp, trivial, fun _ => ⟨V.heap.size, rfl, hB.size, by rw [World.cell?_alloc_new]; rfl⟩⟩)
    · refine sar_app (by decide) (fun l a w hp hu => (und hp (k := 15) (j := 18) (by kernel_rfl) hu)) rfl (fun l a V hp h1 hB ha => ?_)
      have hv1 : a.eval (.tmp 94) = mv := (knR hp ha 94 4 (by kernel_rfl) (by kernel_rfl)).1
      obtain ⟨M1, hv2, hM, hMc⟩ := (knR hp ha 104 14 (by kernel_rfl) (by kernel_rfl)).2.1 h1 rfl
      have hot := unhide HTV
      have hot2 := own_stay hot (V := V) (fun j hj => hB.block j (heap_lt (own_ty hot hj).choose_spec))
      obtain ⟨v', w', hr, h2, h3, _, h5⟩ := run_append_own_at (P := Try.prog) V N 24 24 3 i0 (.int .i64 0) 1 8 Try.underlying24 (unhide HI).1 (unhide HI).2.1 (unhide HI).2.2.1 (unhide HI).2.2.2 rfl (by decide) mv xs.length _ hot2 ⟨M1, 0, none⟩ 1 1 [.int .i64 y] rfl (by
        intro j u hj
        match j, hj with
        | 0, hj => simp at hj; subst hj; simpa [Addr.add] using hMc
        | j + 1, hj => simp at hj) (one_int _) (by have := unhide HAL; unfold maxLen; omega) (by have := unhide HAL; omega) (by have h1 := hB.size; have h2 := unhide HSZ; omega)
      refine ⟨v', w', ?_, ⟨h2, V, hB, h3, h5⟩, trivial⟩
      unfold execOp
      simp only [resolve, invoke, builtin, Sem.run_bind, Sem.run_pure, Result.andThen_ok, List.map_toArray, List.map_cons, List.map_nil, hv1, hv2, hr]
    · exact sar_float (by decide) (by decide) (fun l a w hp hu => (und hp (k := 17) (j := 18) (by kernel_rfl) (und hp (k := 16) (j := 17) (by kernel_rfl) hu))) rfl (fun l a V hp ha => ⟨.pointer (some ⟨xb, 0, none⟩), by
        have x90 := (ev_form a 90).trans (show a.eval (.tmp 90) = .pointer (some ⟨xb, 0, none⟩) from (knR hp ha 90 0 (by kernel_rfl) (by kernel_rfl)).1)
        go_simp, rfl, fun e => absurd e (by decide)⟩)
    · exact sar_float (by decide) (by decide) (fun l a w hp hu => (und hp (k := 17) (j := 18) (by kernel_rfl) hu)) rfl (fun l a V hp ha => ⟨.pointer (some ⟨xb, 4, none⟩), by
        have x106 := (ev_form a 106).trans (show a.eval (.tmp 106) = .pointer (some ⟨xb, 0, none⟩) from (knR hp ha 106 16 (by kernel_rfl) (by kernel_rfl)).1)
        go_simp, rfl, fun e => absurd e (by decide)⟩)
    · refine sar_last (t := 105) (by decide) rfl rfl (by kernel_rfl) (fun l a V hp hA ha => ?_) trivial
      have x107 := (ev_form a 107).trans (show a.eval (.tmp 107) = .pointer (some ⟨xb, 4, none⟩) from (knR hp ha 107 17 (by kernel_rfl) (by kernel_rfl)).1)
      have x105 := ev_form a 105
      obtain ⟨h1, V0, hV0, hgr, h5⟩ := id hA
      have m1 := hgr.cell (cell_later hV0 (unhide HC4)) (fun e => unhide HNB xb e.symm rfl)
      have m2 : V.frozen? ⟨xb, 4, none⟩ = false := by simp [World.frozen?, (hgr.block xb (Nat.lt_of_lt_of_le (World.block_lt_of_cell? _ _ (unhide HC4)) hV0.size) (fun e => unhide HNB xb e.symm rfl)), (hV0.block xb (World.block_lt_of_cell? _ _ (unhide HC4))), unhide HGB]
      generalize a.eval (.tmp 105) = tv' at *
      obtain ⟨sa, sc, rfl⟩ := own_shape h1
      exact ⟨V.setCell ⟨xb, 4, none⟩ (.slice sa (xs.length + 1) sc), by clear hA h1 hgr hV0 h5; go_simp, ⟨V, _, hA, rfl⟩⟩
  case hf =>
    intro l a V hp hall
    obtain ⟨V1, v, ⟨h1, V0, hV0, hgr, h5⟩, hV⟩ := hp.j.2.1 (hall 18 (by decide))
    exact hQ a V V1 V0 v hp.nt hp.df (fun t ht => hp.keep t (dstIn (by kernel_rfl) ht)) h1 hV0 hgr h5 hV
end Go.Proofs.Ytonfbnbkhpabbaa
