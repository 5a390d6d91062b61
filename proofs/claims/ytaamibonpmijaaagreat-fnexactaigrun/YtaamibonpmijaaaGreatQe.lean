/- l10Values: one round of its loop. -/
import Derived.Test.YtaamibonpmijaaaGreatRWa
import Derived.Test.YtaamibonpmijaaaGreatQa
import Derived.Test.YtaamibonpmijaaaGreatAG
import Derived.Test.YtaamibonpmijaaaGreatQ3
import Derived.Test.YtaamibonpmijaaaGreatAE
namespace Go.Proofs.YtaamibonpmijaaaGreat
open Go Go.RowKit Gs
set_option linter.unusedVariables false
set_option linter.unusedSimpArgs false
set_option maxRecDepth 100000
def F2I (w0 : World) (k8 : Nat) (y : Int) : Nat → World → Value → Prop := fun k w v => k = k8 → ∃ M, v = .slice (some ⟨M, 0, none⟩) 1 1 ∧ w0.heap.size ≤ M ∧ w.cell? ⟨M, 0, none⟩ = some (.int .i64 y)
theorem F2I.lasts (w0 : World) (k8 : Nat) (y : Int) : Lasts (F2I w0 k8 y) := fun k w w' v hb h e => by
  obtain ⟨M, h1, h2, h3⟩ := h e
  exact ⟨M, h1, h2, cell_later hb h3⟩
def FQ7 (pb ab ao al ac k : Nat) (tv : Value) (za zb : Int) (A C : Bool) : Nat → Value → Prop
  | 0, v => v = tv
  | 1, v => v = tv
  | 2, v => v = .pointer (some ⟨pb, 3, none⟩)
  | 3, v => v = .slice (some ⟨ab, ao, none⟩) al ac
  | 4, v => v = .int .i64 (k : Int)
  | 5, v => v = .pointer (some ⟨ab, ao + k * 2, none⟩)
  | 6, v => v = .pointer (some ⟨ab, ao + k * 2, none⟩)
  | 7, v => v = .int .i64 za
  | 8, v => v = .int .i64 (b2i A)
  | 9, v => v = tv
  | 10, v => v = .pointer (some ⟨pb, 3, none⟩)
  | 11, v => v = .slice (some ⟨ab, ao, none⟩) al ac
  | 12, v => v = .int .i64 (k : Int)
  | 13, v => v = .pointer (some ⟨ab, ao + k * 2, none⟩)
  | 14, v => v = .pointer (some ⟨ab, ao + k * 2 + 1, none⟩)
  | 15, v => v = .int .i64 zb
  | 16, v => v = .int .i64 (b2i C)
  | 17, v => v = .int .i64 (b2i (A && C))
  | _, _ => True
def valOps7 : Array Oper := #[{ dst := some 23, op := Op.move (Operand.tmp 7), type := 67, pos := "l10_aig.go:85", after := #[], guard := none }, { dst := some 24, op := Op.move (Operand.tmp 7), type := 67, pos := "l10_aig.go:85", after := #[], guard := none }, { dst := some 25, op := Op.fieldAddr 38 (Operand.tmp 3) 3, type := 0, pos := "l10_aig.go:85", after := #[], guard := none }, { dst := some 26, op := Op.load 35 (Operand.tmp 25), type := 35, pos := "l10_aig.go:85", after := #[{ on := 2, ground := Ground.data }], guard := none }, { dst := some 27, op := Op.move (Operand.tmp 8), type := 3, pos := "l10_aig.go:85", after := #[], guard := none }, { dst := some 28, op := Op.indexAddr 35 (Operand.tmp 26) (Operand.tmp 27), type := 0, pos := "l10_aig.go:85", after := #[{ on := 3, ground := Ground.data }, { on := 4, ground := Ground.data }], guard := none }, { dst := some 29, op := Op.fieldAddr 105 (Operand.tmp 28) 0, type := 0, pos := "l10_aig.go:85", after := #[{ on := 5, ground := Ground.data }], guard := none }, { dst := some 30, op := Op.load 3 (Operand.tmp 29), type := 3, pos := "l10_aig.go:85", after := #[{ on := 6, ground := Ground.data }], guard := none }, { dst := some 31, op := Op.call { callee := Callee.value (Operand.func 26), args := #[Operand.tmp 24, Operand.tmp 30], argTypes := #[67, 3] }, type := 3, pos := "l10_aig.go:85", after := #[{ on := 1, ground := Ground.data }, { on := 7, ground := Ground.data }], guard := none }, { dst := some 32, op := Op.move (Operand.tmp 7), type := 67, pos := "l10_aig.go:85", after := #[], guard := none }, { dst := some 33, op := Op.fieldAddr 38 (Operand.tmp 3) 3, type := 0, pos := "l10_aig.go:85", after := #[], guard := none }, { dst := some 34, op := Op.load 35 (Operand.tmp 33), type := 35, pos := "l10_aig.go:85", after := #[{ on := 10, ground := Ground.data }], guard := none }, { dst := some 35, op := Op.move (Operand.tmp 8), type := 3, pos := "l10_aig.go:85", after := #[], guard := none }, { dst := some 36, op := Op.indexAddr 35 (Operand.tmp 34) (Operand.tmp 35), type := 0, pos := "l10_aig.go:85", after := #[{ on := 11, ground := Ground.data }, { on := 12, ground := Ground.data }], guard := none }, { dst := some 37, op := Op.fieldAddr 105 (Operand.tmp 36) 1, type := 0, pos := "l10_aig.go:85", after := #[{ on := 13, ground := Ground.data }], guard := none }, { dst := some 38, op := Op.load 3 (Operand.tmp 37), type := 3, pos := "l10_aig.go:85", after := #[{ on := 14, ground := Ground.data }], guard := none }, { dst := some 39, op := Op.call { callee := Callee.value (Operand.func 26), args := #[Operand.tmp 32, Operand.tmp 38], argTypes := #[67, 3] }, type := 3, pos := "l10_aig.go:85", after := #[{ on := 9, ground := Ground.data }, { on := 15, ground := Ground.data }, { on := 8, ground := Ground.chain }], guard := none }, { dst := some 40, op := Op.binOp BinOp.and 3 (Operand.tmp 31) (Operand.tmp 39) 3, type := 3, pos := "l10_aig.go:85", after := #[{ on := 8, ground := Ground.data }, { on := 16, ground := Ground.data }], guard := none }, { dst := some 41, op := Op.buildSlice 67 1 #[(0, Operand.tmp 40)], type := 67, pos := "l10_aig.go:85", after := #[{ on := 17, ground := Ground.data }], guard := none }, { dst := some 42, op := Op.call { callee := Callee.builtin Builtin.append, args := #[Operand.tmp 23, Operand.tmp 41], argTypes := #[67, 67] }, type := 67, pos := "l10_aig.go:85", after := #[{ on := 0, ground := Ground.data }, { on := 18, ground := Ground.data }, { on := 16, ground := Ground.chain }], guard := none }, { dst := some 7, op := Op.assign (Operand.tmp 42), type := 67, pos := "l10_aig.go:85", after := #[{ on := 19, ground := Ground.data }, { on := 19, ground := Ground.chain }, { on := 0, ground := Ground.phase }, { on := 1, ground := Ground.phase }, { on := 2, ground := Ground.phase }, { on := 3, ground := Ground.phase }, { on := 4, ground := Ground.phase }, { on := 5, ground := Ground.phase }, { on := 6, ground := Ground.phase }, { on := 7, ground := Ground.phase }, { on := 8, ground := Ground.phase }, { on := 9, ground := Ground.phase }, { on := 10, ground := Ground.phase }, { on := 11, ground := Ground.phase }, { on := 12, ground := Ground.phase }, { on := 13, ground := Ground.phase }, { on := 14, ground := Ground.phase }, { on := 15, ground := Ground.phase }, { on := 16, ground := Ground.phase }, { on := 17, ground := Ground.phase }, { on := 18, ground := Ground.phase }, { on := 19, ground := Ground.phase }], guard := none }]
set_option maxHeartbeats 16000000 in
theorem valRound {pb ab ao al ac k N : Nat} {tv : Value} {acc : List Int} {za zb : Int} {A C : Bool} {wr : World} {Q : Exit → Act → World → Prop} (HTV : Hid (OI N wr tv acc)) (HAL : Hid (acc.length ≤ 4194304)) (HSZ : Hid (N ≤ wr.heap.size)) (hkl : k < al) (hk3 : al ≤ 1048576) (HP3 : Hid (wr.cell? ⟨pb, 3, none⟩ = some (.slice (some ⟨ab, ao, none⟩) al ac))) (HZA : Hid (wr.cell? ⟨ab, ao + k * 2, none⟩ = some (.int .i64 za))) (HZB : Hid (wr.cell? ⟨ab, ao + k * 2 + 1, none⟩ = some (.int .i64 zb)))
    (HCA : Hid (∀ V, Below wr.heap.size wr V → Calls Tryz.prog 26 #[tv, .int .i64 za] V fun e w' => e = .returned (.int .i64 (b2i A)) ∧ Below V.heap.size V w'))
    (HCB : Hid (∀ V, Below wr.heap.size wr V → Calls Tryz.prog 26 #[tv, .int .i64 zb] V fun e w' => e = .returned (.int .i64 (b2i C)) ∧ Below V.heap.size V w'))
    (a0 : Act) (ha0 : a0.tmps.size = 44) (e3 : a0.eval (.tmp 3) = .pointer (some ⟨pb, 0, none⟩)) (e7 : a0.eval (.tmp 7) = tv) (e8 : a0.eval (.tmp 8) = .int .i64 (k : Int))
    (hQ : ∀ a V v, a.tmps.size = a0.tmps.size → a.defers = a0.defers → (∀ t, t ∉ [23, 24, 25, 26, 27, 28, 29, 30, 31, 32, 33, 34, 35, 36, 37, 38, 39, 40, 41, 42, 7] → a.eval (.tmp t) = a0.eval (.tmp t)) → a.eval (.tmp 7) = v → OI N V v (acc ++ [b2i (A && C)]) → Below N wr V → Q .normal a V) :
    (Code.region 7 valOps7 true).wp Tryz.prog Q a0 wr := by
  obtain ⟨i0, hi, hz0, hz1, hz2⟩ := info_parts info3
  have HI := hide (And.intro hi (And.intro hz0 (And.intro hz1 hz2)))
  have HAC : Hid (bits .and .i64 (b2i A) (b2i C) = b2i (A && C)) := hide (by cases A <;> cases C <;> rfl)
  obtain ⟨ta, tl, tc, rfl⟩ := (unhide HTV).shape
  have j1 : (0 : Int) ≤ (k : Int) := by omega
  have j2 : (k : Int) < (al : Int) := by omega
  clear hi hz0 hz1 hz2
  refine wp_plan (GB (FQ7 pb ab ao al ac k (.slice ta tl tc) za zb A C) (F2I wr 18 (b2i (A && C))) 19 (fun v V => OI N V v (acc ++ [b2i (A && C)]) ∧ ∃ V0, Below wr.heap.size wr V0 ∧ V0.grownBy V (Value.slice ta tl tc).ownBlock)) (JC wr 19) (by kernel_rfl) 44 ha0 (by kernel_rfl) ?hj ?hs ?hf
  case hj => exact fun _ => bdr (brf wr)
  case hs =>
    refine ⟨?_, ?_, ?_, ?_, ?_, ?_, ?_, ?_, ?_, ?_, ?_, ?_, ?_, ?_, ?_, ?_, ?_, ?_, ?_, ?_, ?_, trivial⟩
    · exact sb_val (by decide) (by decide) (fun l a w hp hu => ⟨(und hp (k := 0) (j := 19) (by kernel_rfl) hu), (und hp (k := 0) (j := 20) (by kernel_rfl) hu)⟩) rfl (fun l a V hp h1 hB ha => ⟨.slice ta tl tc, by
        have x7 := (ev_form a 7).trans ((hp.fresh 20 _ 7 rfl rfl h1).trans e7)
        go_simp, rfl, fun e => absurd e (by decide)⟩)
    · exact sb_val (by decide) (by decide) (fun l a w hp hu => ⟨(und hp (k := 16) (j := 19) (by kernel_rfl) (und hp (k := 8) (j := 16) (by kernel_rfl) (und hp (k := 1) (j := 8) (by kernel_rfl) hu))), (und hp (k := 1) (j := 20) (by kernel_rfl) hu)⟩) rfl (fun l a V hp h1 hB ha => ⟨.slice ta tl tc, by
        have x7 := (ev_form a 7).trans ((hp.fresh 20 _ 7 rfl rfl h1).trans e7)
        go_simp, rfl, fun e => absurd e (by decide)⟩)
    · exact sb_val (by decide) (by decide) (fun l a w hp hu => ⟨(und hp (k := 16) (j := 19) (by kernel_rfl) (und hp (k := 8) (j := 16) (by kernel_rfl) (und hp (k := 7) (j := 8) (by kernel_rfl) (und hp (k := 6) (j := 7) (by kernel_rfl) (und hp (k := 5) (j := 6) (by kernel_rfl) (und hp (k := 3) (j := 5) (by kernel_rfl) (und hp (k := 2) (j := 3) (by kernel_rfl) hu))))))), (und hp (k := 2) (j := 20) (by kernel_rfl) hu)⟩) rfl (fun l a V hp h1 hB ha => ⟨.pointer (some ⟨pb, 3, none⟩), by
        have x3 := (ev_form a 3).trans (old hp 3 (v := .pointer (some ⟨pb, 0, none⟩)) (by kernel_rfl) e3)
        go_simp, rfl, fun e => absurd e (by decide)⟩)
    · exact sb_val (by decide) (by decide) (fun l a w hp hu => ⟨(und hp (k := 16) (j := 19) (by kernel_rfl) (und hp (k := 8) (j := 16) (by kernel_rfl) (und hp (k := 7) (j := 8) (by kernel_rfl) (und hp (k := 6) (j := 7) (by kernel_rfl) (und hp (k := 5) (j := 6) (by kernel_rfl) (und hp (k := 3) (j := 5) (by kernel_rfl) hu)))))), (und hp (k := 3) (j := 20) (by kernel_rfl) hu)⟩) rfl (fun l a V hp h1 hB ha => ⟨.slice (some ⟨ab, ao, none⟩) al ac, by
        have x25 := (ev_form a 25).trans (show a.eval (.tmp 25) = .pointer (some ⟨pb, 3, none⟩) from (kn hp ha 25 2 (by kernel_rfl) (by kernel_rfl)).1)
        have mq := cell_later hB (unhide HP3)
        go_simp, rfl, fun e => absurd e (by decide)⟩)
    · exact sb_val (by decide) (by decide) (fun l a w hp hu => ⟨(und hp (k := 16) (j := 19) (by kernel_rfl) (und hp (k := 8) (j := 16) (by kernel_rfl) (und hp (k := 7) (j := 8) (by kernel_rfl) (und hp (k := 6) (j := 7) (by kernel_rfl) (und hp (k := 5) (j := 6) (by kernel_rfl) (und hp (k := 4) (j := 5) (by kernel_rfl) hu)))))), (und hp (k := 4) (j := 20) (by kernel_rfl) hu)⟩) rfl (fun l a V hp h1 hB ha => ⟨.int .i64 (k : Int), by
        have x8 := (ev_form a 8).trans (old hp 8 (v := .int .i64 (k : Int)) (by kernel_rfl) e8)
        go_simp, rfl, fun e => absurd e (by decide)⟩)
    · exact sb_val (by decide) (by decide) (fun l a w hp hu => ⟨(und hp (k := 16) (j := 19) (by kernel_rfl) (und hp (k := 8) (j := 16) (by kernel_rfl) (und hp (k := 7) (j := 8) (by kernel_rfl) (und hp (k := 6) (j := 7) (by kernel_rfl) (und hp (k := 5) (j := 6) (by kernel_rfl) hu))))), (und hp (k := 5) (j := 20) (by kernel_rfl) hu)⟩) rfl (fun l a V hp h1 hB ha => ⟨.pointer (some ⟨ab, ao + k * 2, none⟩), by
        have x26 := (ev_form a 26).trans (show a.eval (.tmp 26) = .slice (some ⟨ab, ao, none⟩) al ac from (kn hp ha 26 3 (by kernel_rfl) (by kernel_rfl)).1)
        have x27 := (ev_form a 27).trans (show a.eval (.tmp 27) = .int .i64 (k : Int) from (kn hp ha 27 4 (by kernel_rfl) (by kernel_rfl)).1)
        go_simp, rfl, fun e => absurd e (by decide)⟩)
    · exact sb_val (by decide) (by decide) (fun l a w hp hu => ⟨(und hp (k := 16) (j := 19) (by kernel_rfl) (und hp (k := 8) (j := 16) (by kernel_rfl) (und hp (k := 7) (j := 8) (by kernel_rfl) (und hp (k := 6) (j := 7) (by kernel_rfl) hu)))), (und hp (k := 6) (j := 20) (by kernel_rfl) hu)⟩) rfl (fun l a V hp h1 hB ha => ⟨.pointer (some ⟨ab, ao + k * 2, none⟩), by
        have x28 := (ev_form a 28).trans (show a.eval (.tmp 28) = .pointer (some ⟨ab, ao + k * 2, none⟩) from (kn hp ha 28 5 (by kernel_rfl) (by kernel_rfl)).1)
        go_simp, rfl, fun e => absurd e (by decide)⟩)
    · exact sb_val (by decide) (by decide) (fun l a w hp hu => ⟨(und hp (k := 16) (j := 19) (by kernel_rfl) (und hp (k := 8) (j := 16) (by kernel_rfl) (und hp (k := 7) (j := 8) (by kernel_rfl) hu))), (und hp (k := 7) (j := 20) (by kernel_rfl) hu)⟩) rfl (fun l a V hp h1 hB ha => ⟨.int .i64 za, by
        have x29 := (ev_form a 29).trans (show a.eval (.tmp 29) = .pointer (some ⟨ab, ao + k * 2, none⟩) from (kn hp ha 29 6 (by kernel_rfl) (by kernel_rfl)).1)
        have mz := cell_later hB (unhide HZA)
        go_simp, rfl, fun e => absurd e (by decide)⟩)
    · exact sb_call (f := 26) (F2I.lasts _ _ _) (by decide) (by decide) (fun l a w hp hu => ⟨(und hp (k := 16) (j := 19) (by kernel_rfl) (und hp (k := 8) (j := 16) (by kernel_rfl) hu)), (und hp (k := 8) (j := 20) (by kernel_rfl) hu)⟩) rfl (fun l a V hp h1 hB ha => ⟨#[.slice ta tl tc, .int .i64 za], by
        have x24 := (ev_form a 24).trans (show a.eval (.tmp 24) = .slice ta tl tc from (kn hp ha 24 1 (by kernel_rfl) (by kernel_rfl)).1)
        have x30 := (ev_form a 30).trans (show a.eval (.tmp 30) = .int .i64 za from (kn hp ha 30 7 (by kernel_rfl) (by kernel_rfl)).1)
        go_simp, (unhide HCA V hB).mono (by rintro e V1 ⟨rfl, hb⟩; exact ⟨_, rfl, rfl, fun e => absurd e (by decide), hb⟩)⟩)
    · exact sb_val (by decide) (by decide) (fun l a w hp hu => ⟨(und hp (k := 16) (j := 19) (by kernel_rfl) (und hp (k := 9) (j := 16) (by kernel_rfl) hu)), (und hp (k := 9) (j := 20) (by kernel_rfl) hu)⟩) rfl (fun l a V hp h1 hB ha => ⟨.slice ta tl tc, by
        have x7 := (ev_form a 7).trans ((hp.fresh 20 _ 7 rfl rfl h1).trans e7)
        go_simp, rfl, fun e => absurd e (by decide)⟩)
    · exact sb_val (by decide) (by decide) (fun l a w hp hu => ⟨(und hp (k := 16) (j := 19) (by kernel_rfl) (und hp (k := 15) (j := 16) (by kernel_rfl) (und hp (k := 14) (j := 15) (by kernel_rfl) (und hp (k := 13) (j := 14) (by kernel_rfl) (und hp (k := 11) (j := 13) (by kernel_rfl) (und hp (k := 10) (j := 11) (by kernel_rfl) hu)))))), (und hp (k := 10) (j := 20) (by kernel_rfl) hu)⟩) rfl (fun l a V hp h1 hB ha => ⟨.pointer (some ⟨pb, 3, none⟩), by
        have x3 := (ev_form a 3).trans (old hp 3 (v := .pointer (some ⟨pb, 0, none⟩)) (by kernel_rfl) e3)
        go_simp, rfl, fun e => absurd e (by decide)⟩)
    · exact sb_val (by decide) (by decide) (fun l a w hp hu => ⟨(und hp (k := 16) (j := 19) (by kernel_rfl) (und hp (k := 15) (j := 16) (by kernel_rfl) (und hp (k := 14) (j := 15) (by kernel_rfl) (und hp (k := 13) (j := 14) (by kernel_rfl) (und hp (k := 11) (j := 13) (by kernel_rfl) hu))))), (und hp (k := 11) (j := 20) (by kernel_rfl) hu)⟩) rfl (fun l a V hp h1 hB ha => ⟨.slice (some ⟨ab, ao, none⟩) al ac, by
        have x33 := (ev_form a 33).trans (show a.eval (.tmp 33) = .pointer (some ⟨pb, 3, none⟩) from (kn hp ha 33 10 (by kernel_rfl) (by kernel_rfl)).1)
        have mq := cell_later hB (unhide HP3)
        go_simp, rfl, fun e => absurd e (by decide)⟩)
    · exact sb_val (by decide) (by decide) (fun l a w hp hu => ⟨(und hp (k := 16) (j := 19) (by kernel_rfl) (und hp (k := 15) (j := 16) (by kernel_rfl) (und hp (k := 14) (j := 15) (by kernel_rfl) (und hp (k := 13) (j := 14) (by kernel_rfl) (und hp (k := 12) (j := 13) (by kernel_rfl) hu))))), (und hp (k := 12) (j := 20) (by kernel_rfl) hu)⟩) rfl (fun l a V hp h1 hB ha => ⟨.int .i64 (k : Int), by
        have x8 := (ev_form a 8).trans (old hp 8 (v := .int .i64 (k : Int)) (by kernel_rfl) e8)
        go_simp, rfl, fun e => absurd e (by decide)⟩)
    · exact sb_val (by decide) (by decide) (fun l a w hp hu => ⟨(und hp (k := 16) (j := 19) (by kernel_rfl) (und hp (k := 15) (j := 16) (by kernel_rfl) (und hp (k := 14) (j := 15) (by kernel_rfl) (und hp (k := 13) (j := 14) (by kernel_rfl) hu)))), (und hp (k := 13) (j := 20) (by kernel_rfl) hu)⟩) rfl (fun l a V hp h1 hB ha => ⟨.pointer (some ⟨ab, ao + k * 2, none⟩), by
        have x34 := (ev_form a 34).trans (show a.eval (.tmp 34) = .slice (some ⟨ab, ao, none⟩) al ac from (kn hp ha 34 11 (by kernel_rfl) (by kernel_rfl)).1)
        have x35 := (ev_form a 35).trans (show a.eval (.tmp 35) = .int .i64 (k : Int) from (kn hp ha 35 12 (by kernel_rfl) (by kernel_rfl)).1)
        go_simp, rfl, fun e => absurd e (by decide)⟩)
    · exact sb_val (by decide) (by decide) (fun l a w hp hu => ⟨(und hp (k := 16) (j := 19) (by kernel_rfl) (und hp (k := 15) (j := 16) (by kernel_rfl) (und hp (k := 14) (j := 15) (by kernel_rfl) hu))), (und hp (k := 14) (j := 20) (by kernel_rfl) hu)⟩) rfl (fun l a V hp h1 hB ha => ⟨.pointer (some ⟨ab, ao + k * 2 + 1, none⟩), by
        have x36 := (ev_form a 36).trans (show a.eval (.tmp 36) = .pointer (some ⟨ab, ao + k * 2, none⟩) from (kn hp ha 36 13 (by kernel_rfl) (by kernel_rfl)).1)
        go_simp, rfl, fun e => absurd e (by decide)⟩)
    · exact sb_val (by decide) (by decide) (fun l a w hp hu => ⟨(und hp (k := 16) (j := 19) (by kernel_rfl) (und hp (k := 15) (j := 16) (by kernel_rfl) hu)), (und hp (k := 15) (j := 20) (by kernel_rfl) hu)⟩) rfl (fun l a V hp h1 hB ha => ⟨.int .i64 zb, by
        have x37 := (ev_form a 37).trans (show a.eval (.tmp 37) = .pointer (some ⟨ab, ao + k * 2 + 1, none⟩) from (kn hp ha 37 14 (by kernel_rfl) (by kernel_rfl)).1)
        have mz := cell_later hB (unhide HZB)
        go_simp, rfl, fun e => absurd e (by decide)⟩)
    · exact sb_call (f := 26) (F2I.lasts _ _ _) (by decide) (by decide) (fun l a w hp hu => ⟨(und hp (k := 16) (j := 19) (by kernel_rfl) hu), (und hp (k := 16) (j := 20) (by kernel_rfl) hu)⟩) rfl (fun l a V hp h1 hB ha => ⟨#[.slice ta tl tc, .int .i64 zb], by
        have x32 := (ev_form a 32).trans (show a.eval (.tmp 32) = .slice ta tl tc from (kn hp ha 32 9 (by kernel_rfl) (by kernel_rfl)).1)
        have x38 := (ev_form a 38).trans (show a.eval (.tmp 38) = .int .i64 zb from (kn hp ha 38 15 (by kernel_rfl) (by kernel_rfl)).1)
        go_simp, (unhide HCB V hB).mono (by rintro e V1 ⟨rfl, hb⟩; exact ⟨_, rfl, rfl, fun e => absurd e (by decide), hb⟩)⟩)
    · exact sb_val (by decide) (by decide) (fun l a w hp hu => ⟨(und hp (k := 18) (j := 19) (by kernel_rfl) (und hp (k := 17) (j := 18) (by kernel_rfl) hu)), (und hp (k := 17) (j := 20) (by kernel_rfl) hu)⟩) rfl (fun l a V hp h1 hB ha => ⟨.int .i64 (b2i (A && C)), by
        have x31 := (ev_form a 31).trans (show a.eval (.tmp 31) = .int .i64 (b2i A) from (kn hp ha 31 8 (by kernel_rfl) (by kernel_rfl)).1)
        have x39 := (ev_form a 39).trans (show a.eval (.tmp 39) = .int .i64 (b2i C) from (kn hp ha 39 16 (by kernel_rfl) (by kernel_rfl)).1)
        have hw := unhide HAC
        go_simp, rfl, fun e => absurd e (by decide)⟩)
    · exact sb_new (F2I.lasts _ _ _) (by decide) (by decide) (fun l a w hp hu => ⟨(und hp (k := 18) (j := 19) (by kernel_rfl) hu), (und hp (k := 18) (j := 20) (by kernel_rfl) hu)⟩) rfl (fun l a V hp h1 hB ha => ⟨.slice (some ⟨V.heap.size, 0, none⟩) 1 1, .cells #[.int .i64 (b2i (A && C))] 3, by
        have x40 := (ev_form a 40).trans (show a.eval (.tmp 40) = .int .i64 (b2i (A && C)) from (kn hp ha 40 17 (by kernel_rfl) (by kernel_rfl)).1)
        go_simp, trivial, fun _ => ⟨V.heap.size, rfl, hB.size, by rw [World.cell?_alloc_new]; rfl⟩⟩)
    · refine sb_app (fun l a w hp hu => (und hp (k := 19) (j := 20) (by kernel_rfl) hu)) rfl (fun l a V hp h1 hB ha => ?_)
      have hv23 : a.eval (.tmp 23) = .slice ta tl tc := (kn hp ha 23 0 (by kernel_rfl) (by kernel_rfl)).1
      obtain ⟨M1, hv41, hM, hMc⟩ := (kn hp ha 41 18 (by kernel_rfl) (by kernel_rfl)).2.1 h1 rfl
      have hot := (unhide HTV).later hB
      obtain ⟨v', w', hr, h2, h3, _⟩ := run_append_own (P := Tryz.prog) V N 67 67 3 i0 (.int .i64 0) 1 8 Tryz.underlying67 (unhide HI).1 (unhide HI).2.1 (unhide HI).2.2.1 (unhide HI).2.2.2 rfl (by decide) (.slice ta tl tc) acc.length _ hot ⟨M1, 0, none⟩ 1 1 [.int .i64 (b2i (A && C))] rfl (by
        intro j u hj
        match j, hj with
        | 0, hj => simp at hj; subst hj; simpa [Addr.add] using hMc
        | j + 1, hj => simp at hj) (oneI _) (by have := unhide HAL; unfold maxLen; omega) (by have := unhide HAL; omega) (by have h1 := hB.size; have h2 := unhide HSZ; omega)
      refine ⟨v', w', ?_, ⟨OI.step h2, V, hB, h3⟩, trivial⟩
      unfold execOp
      simp only [resolve, invoke, builtin, Sem.run_bind, Sem.run_pure, Result.andThen_ok, List.map_toArray, List.map_cons, List.map_nil, hv23, hv41, hr]
    · refine sb_last (t := 42) rfl rfl (by kernel_rfl) (fun l a V hp => ?_) (fun _ => trivial)
      have x42 := ev_form a 42
      generalize a.eval (.tmp 42) = tv' at *
      go_simp
  case hf =>
    intro l a V hp hall
    obtain ⟨h1, V0, hV0, hgr⟩ := (hp.good 20 _ 7 rfl rfl (hall 20 (by decide))).2.2 (.inr rfl)
    exact hQ a V _ hp.nt hp.df (fun t ht => hp.keep t (dstIn (by kernel_rfl) ht)) rfl h1 (below_grown (hV0.mono (unhide HSZ)) hgr (by have := hV0.size; have := unhide HSZ; omega) (unhide HTV).row)
end Go.Proofs.YtaamibonpmijaaaGreat
namespace Go.Proofs.YtaamibonpmijaaaGreat
open Go Go.RowKit Gs
set_option linter.unusedVariables false
set_option linter.unusedSimpArgs false
set_option maxRecDepth 100000
theorem OI_one {W : World} {B M : Nat} {x : Int} (hM : W.heap.size = M) (h : B ≤ M) : OI B (W.alloc (.cells #[.int .i64 x] 3)) (.slice (some ⟨M, 0, none⟩) 1 1) [x] := by
  subst hM
  exact ⟨rfl, .inr ⟨W.heap.size, 1, #[.int .i64 x], rfl, h, heap_alloc_new W _, Nat.le_refl _, by decide, rfl, rfl⟩⟩
set_option maxHeartbeats 16000000 in
theorem sValues (s0 s1 s2 s3 s4 s5 : Option Addr) (l0 l1 l2 l3 l4 l5 c0 c1 c2 c3 c4 c5 : Nat) (xs : List AndG) (ins st : List Bool) (vi vt : Value) (w : World) (hr : RS 2 RAndG w 0 xs (.slice s3 l3 c3)) (hi : RS 1 RInt w 0 (ins.map b2i) vi) (ht : RS 1 RInt w 0 (st.map b2i) vt) (hil : ins.length ≤ 1048576) (htl : st.length ≤ 1048576) (hl3 : xs.length ≤ 1048576) (hao : AO (baseV ins st).length xs) :
    Calls Tryz.prog 25 #[.agg #[.slice s0 l0 c0, .slice s1 l1 c1, .slice s2 l2 c2, .slice s3 l3 c3, .slice s4 l4 c4, .slice s5 l5 c5], vi, vt] w fun e w' => (∃ v, e = .returned v ∧ OI w.heap.size w' v ((andsV (baseV ins st) xs).map b2i)) ∧ Below w.heap.size w w' := by
  obtain ⟨hlen, HCS⟩ : l3 = xs.length ∧ Hid (∀ (i : Nat) x, xs[i]? = some x → ∃ b o, s3 = some ⟨b, o, none⟩ ∧ w.cell? ⟨b, o + i * 2, none⟩ = some (.int .i64 x.a) ∧ w.cell? ⟨b, o + i * 2 + 1, none⟩ = some (.int .i64 x.b)) := by
    refine ⟨?_, hide ?_⟩
    · obtain ⟨a, c, hv⟩ := hr.slice
      injection hv
    · intro i x hx
      rcases hr.open with ⟨rfl, _⟩ | ⟨b, o, c', hv, _, _, _, he⟩
      · simp at hx
      · injection hv with e1 e2 e3
        obtain ⟨u, hu, hat, hux⟩ := he i x hx
        subst hux
        exact ⟨b, o, e1, by simpa using hat.get (j := 0) rfl, by simpa using hat.get (j := 1) rfl⟩
  subst hlen
  clear hr
  obtain ⟨Wb, hWb⟩ : ∃ Wb, Wb = w.alloc (.cells #[.slice s0 l0 c0, .slice s1 l1 c1, .slice s2 l2 c2, .slice s3 xs.length c3, .slice s4 l4 c4, .slice s5 l5 c5] 38) := ⟨_, rfl⟩
  have hbB : Below w.heap.size w Wb := by rw [hWb]; exact bal (brf w) _
  have hsb : Wb.heap.size = w.heap.size + 1 := by rw [hWb]; simp
  have HC3 : Hid (∀ V, Below Wb.heap.size Wb V → V.cell? ⟨w.heap.size, 3, none⟩ = some (.slice s3 xs.length c3)) := hide (fun V hb => cell_later hb (by rw [hWb, World.cell?_alloc_new]; rfl))
  have HO := hide (show OI (w.heap.size + 1) ((w.alloc (.cells #[.slice s0 l0 c0, .slice s1 l1 c1, .slice s2 l2 c2, .slice s3 xs.length c3, .slice s4 l4 c4, .slice s5 l5 c5] 38)).alloc (.cells #[.int .i64 0] 3)) (.slice (some ⟨w.heap.size + 1, 0, none⟩) 1 1) [0] by rw [← hWb]; exact OI_one hsb (Nat.le_refl _))
  have hbA : Below Wb.heap.size Wb (Wb.alloc (.cells #[.int .i64 0] 3)) := bal (brf Wb) _
  have HVI := hide (hi.later RInt.keeps (btr hbB hbA))
  have HT0 := hide (fun (V : World) (hV : Below w.heap.size w V) => ht.later RInt.keeps hV)
  have HBA := hide hbA
  have HBB := hide hbB
  have HAO := hide hao
  have HSB := hide hsb
  have HL1 := hide (show ([0] : List Int).length + (ins.map b2i).length ≤ 4194304 by simp; omega)
  have HL2 := hide (show ([0] ++ ins.map b2i : List Int).length + (st.map b2i).length ≤ 4194304 by simp; omega)
  have HSZ1 := hide (show Wb.heap.size ≤ (Wb.alloc (.cells #[.int .i64 0] 3)).heap.size by simp)
  have HWb := hide hWb
  obtain ⟨ia, ic, hvi⟩ := hi.slice
  obtain ⟨ka, kc, hvt⟩ := ht.slice
  rw [List.length_map] at hvi hvt
  subst hvi hvt
  rw [hWb] at HVI
  have HBA2 := hide (show Below Wb.heap.size Wb ((w.alloc (.cells #[.slice s0 l0 c0, .slice s1 l1 c1, .slice s2 l2 c2, .slice s3 xs.length c3, .slice s4 l4 c4, .slice s5 l5 c5] 38)).alloc (.cells #[.int .i64 0] 3)) by rw [← hWb]; exact hbA)
  have HN1 : Hid (w.heap.size + 1 ≤ ((w.alloc (.cells #[.slice s0 l0 c0, .slice s1 l1 c1, .slice s2 l2 c2, .slice s3 xs.length c3, .slice s4 l4 c4, .slice s5 l5 c5] 38)).alloc (.cells #[.int .i64 0] 3)).heap.size) := hide (by simp)
  clear hWb hbB hi ht hao hsb hbA
  go_enter Tryz.func25, Tryz.ntmps25
  go_wp2_with (first
    | (at_builtin; refine wpAppI rfl _ _ rfl (w.heap.size + 1) _ ([0] ++ ins.map b2i) rfl (unhide HO2) _ (st.map b2i) rfl (unhide HVT) (unhide HL2) (unhide HSZ2) ?_; intro v3 w3 ho3 hg3)
    | (at_builtin; refine wpAppI rfl _ _ rfl (w.heap.size + 1) _ [0] rfl (unhide HO) _ (ins.map b2i) rfl (unhide HVI) (unhide HL1) (unhide HN1) ?_; intro v2 w2 ho2 hg2; have hb2 := below_grown ((unhide HBA2).mono (Nat.le_of_eq (unhide HSB).symm)) hg2 (unhide HN1) (unhide HO).row; have HB2 := hide hb2; have HO2 := hide ho2; have HVT := hide (unhide HT0 w2 (btr (unhide HBB) (by rw [unhide HSB]; exact hb2))); have HSZ2 := hide (show w.heap.size + 1 ≤ w2.heap.size by have := hg2.size; have := unhide HN1; omega); clear ho2 hg2 hb2)
    | go_in)
  have hb3 := below_grown (unhide HB2) hg3 (unhide HSZ2) (unhide HO2).row
  have ho3' : OI (w.heap.size + 1) w3 v3 ((baseV ins st).map b2i) := by
    have e : (baseV ins st).map b2i = ([0] ++ ins.map b2i) ++ st.map b2i := by unfold baseV; simp [b2i]
    rw [e]; exact ho3
  have HO3 := hide ho3'
  have HB3 := hide hb3
  clear ho3 ho3' hg3 hb3 HO HO2 HVI HVT HT0 HL1 HL2 HSZ1 HN1 HBA HBA2 HB2
  go_loopw [7, 8] (fun v i wr => ∃ k : Nat, k ≤ xs.length ∧ i = .int .i64 k ∧ OI (w.heap.size + 1) wr v ((andsV (baseV ins st) (xs.take k)).map b2i) ∧ Below (w.heap.size + 1) Wb wr) (fun _ i wr => xs.length - (intOf i).toNat)
  case atStart => exact ⟨0, Nat.zero_le _, rfl, unhide HO3, unhide HB3⟩
  case round =>
    obtain ⟨k, hk, rfl, hot, hb⟩ := hrel
    have hsb := unhide HSB
    have hbW : Below Wb.heap.size Wb wr := by rw [hsb]; exact hb
    have q3 := unhide HC3 wr hbW
    by_cases hlt : k < xs.length
    · have hx : xs[k]? = some xs[k] := List.getElem?_eq_getElem hlt
      generalize xs[k] = x at hx
      obtain ⟨bb, oo, rfl, hc0, hc1⟩ := unhide HCS k x hx
      obtain ⟨ha1, ha2, hb1, hb2⟩ := unhide HAO k x hx
      have hbw := btr (unhide HBB) hbW
      have hal : (andsV (baseV ins st) (xs.take k)).length = (baseV ins st).length + k := by rw [andsV_len, List.length_take]; omega
      have hbl : (baseV ins st).length ≤ 2097153 := by unfold baseV; simp; omega
      have hml : ((andsV (baseV ins st) (xs.take k)).map b2i).length ≤ 4194304 := by rw [List.length_map, hal]; omega
      have HZA := hide (cell_later hbw hc0)
      have HZB := hide (cell_later hbw hc1)
      have HP3 := hide q3
      have HCA : Hid (∀ V, Below wr.heap.size wr V → Calls Tryz.prog 26 #[u7, .int .i64 x.a] V fun e w' => e = .returned (.int .i64 (b2i (litV (andsV (baseV ins st) (xs.take k)) x.a))) ∧ Below V.heap.size V w') := hide (fun V hV => by
        refine (sOf _ _ x.a V ((hot.later hV).read (by unfold maxLen; omega)) ha1 (by rw [hal]; omega) (by omega)).mono ?_
        rintro e w' ⟨rfl, rfl⟩
        exact ⟨rfl, brf _⟩)
      have HCB : Hid (∀ V, Below wr.heap.size wr V → Calls Tryz.prog 26 #[u7, .int .i64 x.b] V fun e w' => e = .returned (.int .i64 (b2i (litV (andsV (baseV ins st) (xs.take k)) x.b))) ∧ Below V.heap.size V w') := hide (fun V hV => by
        refine (sOf _ _ x.b V ((hot.later hV).read (by unfold maxLen; omega)) hb1 (by rw [hal]; omega) (by omega)).mono ?_
        rintro e w' ⟨rfl, rfl⟩
        exact ⟨rfl, brf _⟩)
      have HST := hide (show (andsV (baseV ins st) (xs.take (k + 1))).map b2i = (andsV (baseV ins st) (xs.take k)).map b2i ++ [b2i (litV (andsV (baseV ins st) (xs.take k)) x.a && litV (andsV (baseV ins st) (xs.take k)) x.b)] by rw [andsV_step _ hx, List.map_append]; rfl)
      have HOT := hide hot
      have HML := hide hml
      have HBw := hide hb
      have HSZ := hide (show w.heap.size + 1 ≤ wr.heap.size by have := hbW.size; omega)
      clear hot hb hbW hbw hc0 hc1 HCS hx hal hbl hml ha1 ha2 hb1 hb2 hsb
      generalize x.a = za at *
      generalize x.b = zb at *
      generalize litV (andsV (baseV ins st) (xs.take k)) za = A at *
      generalize litV (andsV (baseV ins st) (xs.take k)) zb = C at *
      generalize (andsV (baseV ins st) (xs.take k)).map b2i = acc at *
      go_wp2_with fail
      clear q3
      refine valRound HOT HML HSZ hlt hl3 HP3 HZA HZB HCA HCB _ rfl rfl rfl rfl ?_
      intro a V v hnt hdf hkeep h7 hOI hlow
      obtain ⟨us, rfl, hus⟩ := putAll_of [23, 24, 25, 26, 27, 28, 29, 30, 31, 32, 33, 34, 35, 36, 37, 38, 39, 40, 41, 42, 7] hnt hdf hkeep
      have hu7 : us 7 = v := (hus 7).trans h7
      clear hnt hdf hkeep hus h7
      simp only [putAll, List.foldl, Act.put, List.setIfInBounds_toArray, List.set_cons_zero, List.set_cons_succ, hu7]
      clear hu7
      generalize us 23 = z23 at *
      generalize us 24 = z24 at *
      generalize us 25 = z25 at *
      generalize us 26 = z26 at *
      generalize us 27 = z27 at *
      generalize us 28 = z28 at *
      generalize us 29 = z29 at *
      generalize us 30 = z30 at *
      generalize us 31 = z31 at *
      generalize us 32 = z32 at *
      generalize us 33 = z33 at *
      generalize us 34 = z34 at *
      generalize us 35 = z35 at *
      generalize us 36 = z36 at *
      generalize us 37 = z37 at *
      generalize us 38 = z38 at *
      generalize us 39 = z39 at *
      generalize us 40 = z40 at *
      generalize us 41 = z41 at *
      generalize us 42 = z42 at *
      have HR1 := hide hOI
      have HR2 := hide ((unhide HBw).trans hlow)
      clear hOI hlow
      go_wp2_with fail
      go_roundw
      case rel => exact ⟨k + 1, by omega, by go_num, by rw [unhide HST]; exact unhide HR1, unhide HR2⟩
      case measure => simp [intOf]; omega
    · obtain rfl : k = xs.length := by omega
      rw [List.take_of_length_le (Nat.le_refl _)] at hot
      have HO := hide (hot.low (B' := w.heap.size) (by omega))
      have HB := hide (btr (unhide HBB) hbW)
      clear hot hb hbW HCS hsb
      go_wp2_with fail
      exact bodyPost_ret (v := u7) (by simp [results, Tryz.results25, go_sem]) rfl ⟨⟨_, rfl, unhide HO⟩, unhide HB⟩
end Go.Proofs.YtaamibonpmijaaaGreat
