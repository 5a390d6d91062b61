/- The program's Solve: the region that tells the model. -/
import Derived.Test.YtonfbnbkhpabbaaV9
import Derived.Test.YtonfbnbkhpabbaaS5
namespace Go.Proofs.Ytonfbnbkhpabbaa
open Go Go.RowKit Gs
set_option linter.unusedVariables false
set_option linter.unusedSimpArgs false
set_option maxRecDepth 100000
section
variable {P : Program} {ops : Array Oper} {a0 : Act} {F : Nat → Value → Prop} {w0 : World} {p q n : Nat} {A : World → Value → Prop} {bd : Value → Value} {E : World → Prop}
/-- A plan for a region in which a call p tells something new, q builds of it, and n stores that. -/
abbrev GP4 (F : Nat → Value → Prop) (p q n : Nat) (A : World → Value → Prop) (bd : Value → Value) : Array Bool → Nat → World → Value → Prop := fun l k w v => F k v ∧ (k = p → l.getD n false = false → A w v) ∧ (k = q → l.getD n false = false → ∃ mv, v = bd mv ∧ A w mv)
abbrev JP4 (w0 : World) (n : Nat) (E : World → Prop) : Array Bool → World → Prop := fun l w => (l.getD n false = false → Below w0.heap.size w0 w) ∧ (l.getD n false = true → E w)
theorem p4_val {k : Nat} {o : Oper} (hp' : k ≠ p) (hq' : k ≠ q) (hn' : k ≠ n) (hm : ∀ l a w, PA ops (GP4 F p q n A bd) (JP4 w0 n E) a0 l a w → l.getD k false = false → l.getD n false = false) (hg : o.guard = none) (h : ∀ l a w, PA ops (GP4 F p q n A bd) (JP4 w0 n E) a0 l a w → Below w0.heap.size w0 w → (∀ e ∈ o.after, Region.binds .any e = true → l.getD e.on false = true) → ∃ x, (execOp a.eval o).run P w = .ok (.value x) w ∧ F k x) : Stp P ops (GP4 F p q n A bd) (JP4 w0 n E) a0 k o := by
  intro l a w hp hu ha
  have h1 := hm l a w hp (notDoneB hu)
  obtain ⟨x, hr, hf⟩ := h l a w hp (hp.j.1 h1) ha
  unfold opWr
  rw [if_pos (wanted_none hg)]
  refine .inl ⟨x, w, hr, x, rfl, ⟨fun _ => hp.j.1 h1, fun e => ?_⟩, ⟨hf, fun e => absurd e hp', fun e => absurd e hq'⟩, fun j d hd hj hG => ⟨hG.1, fun e _ => hG.2.1 e h1, fun e _ => hG.2.2 e h1⟩⟩
  rw [set_oth hu (Ne.symm hn'), h1] at e; cases e
theorem p4_call {o : Oper} {f : FuncId} (hpq : p ≠ q) (hpn : p ≠ n) (hm : ∀ l a w, PA ops (GP4 F p q n A bd) (JP4 w0 n E) a0 l a w → l.getD p false = false → l.getD q false = false ∧ l.getD n false = false) (hg : o.guard = none) (h : ∀ l a w, PA ops (GP4 F p q n A bd) (JP4 w0 n E) a0 l a w → Below w0.heap.size w0 w → (∀ e ∈ o.after, Region.binds .any e = true → l.getD e.on false = true) → ∃ args, (execOp a.eval o).run P w = .ok (.enter f args) w ∧ Calls P f args w fun e w' => ∃ x, e = .returned x ∧ F p x ∧ A w' x ∧ Below w.heap.size w w') : Stp P ops (GP4 F p q n A bd) (JP4 w0 n E) a0 p o := by
  intro l a w hp hu ha
  have h0 := notDoneB hu
  obtain ⟨h2, h1⟩ := hm l a w hp h0
  obtain ⟨args, hr, hc⟩ := h l a w hp (hp.j.1 h1) ha
  unfold opWr
  rw [if_pos (wanted_none hg)]
  refine .inr (.inr ⟨f, args, w, hr, Calls.mono hc ?_⟩)
  rintro e w' ⟨x, rfl, hf, hA, hb⟩
  refine ⟨x, rfl, x, rfl, ⟨fun _ => btr (hp.j.1 h1) hb, fun e => ?_⟩, ⟨hf, fun _ _ => hA, fun e => absurd e hpq⟩, fun j d hd hj hG => ⟨hG.1, fun e => ?_, fun e => ?_⟩⟩
  · rw [set_oth hu (Ne.symm hpn), h1] at e; cases e
  · subst e; rw [h0] at hj; cases hj
  · subst e; rw [h2] at hj; cases hj
theorem p4_build {o : Oper} (hpq : p ≠ q) (hqn : q ≠ n) (hm : ∀ l a w, PA ops (GP4 F p q n A bd) (JP4 w0 n E) a0 l a w → l.getD q false = false → l.getD n false = false) (hg : o.guard = none) (h : ∀ l a w, PA ops (GP4 F p q n A bd) (JP4 w0 n E) a0 l a w → l.getD n false = false → Below w0.heap.size w0 w → (∀ e ∈ o.after, Region.binds .any e = true → l.getD e.on false = true) → ∃ mv, (execOp a.eval o).run P w = .ok (.value (bd mv)) w ∧ F q (bd mv) ∧ A w mv) : Stp P ops (GP4 F p q n A bd) (JP4 w0 n E) a0 q o := by
  intro l a w hp hu ha
  have h1 := hm l a w hp (notDoneB hu)
  obtain ⟨mv, hr, hf, hA⟩ := h l a w hp h1 (hp.j.1 h1) ha
  unfold opWr
  rw [if_pos (wanted_none hg)]
  refine .inl ⟨_, w, hr, _, rfl, ⟨fun _ => hp.j.1 h1, fun e => ?_⟩, ⟨hf, fun e => absurd e.symm hpq, fun _ _ => ⟨mv, rfl, hA⟩⟩, fun j d hd hj hG => ⟨hG.1, fun e _ => hG.2.1 e h1, fun e _ => hG.2.2 e h1⟩⟩
  rw [set_oth hu (Ne.symm hqn), h1] at e; cases e
theorem p4_store {o : Oper} {t : Tmp} (hpn : p ≠ n) (hqn : q ≠ n) (hd : (ops[q]?).bind (·.dst) = some t) (hon : onB o.after q = true) (hg : o.guard = none) (h : ∀ l a w mv, PA ops (GP4 F p q n A bd) (JP4 w0 n E) a0 l a w → Below w0.heap.size w0 w → A w mv → a.eval (.tmp t) = bd mv → (∀ e ∈ o.after, Region.binds .any e = true → l.getD e.on false = true) → ∃ w', (execOp a.eval o).run P w = .ok .skip w' ∧ E w') (hfn : F n undef) : Stp P ops (GP4 F p q n A bd) (JP4 w0 n E) a0 n o := by
  intro l a w hp hu ha
  have h1 := notDoneB hu
  have hq1 : l.getD q false = true := onB_spec hon ha
  obtain ⟨om, hom, hdm⟩ := Option.bind_eq_some_iff.1 hd
  obtain ⟨mv, hv, hA⟩ := (hp.good q om t hom hdm hq1).2.2 rfl h1
  obtain ⟨w', hr, hE⟩ := h l a w mv hp (hp.j.1 h1) hA hv ha
  unfold opWr
  rw [if_pos (wanted_none hg)]
  have e2 := set_own hu
  refine .inr (.inl ⟨w', hr, undef, rfl, ⟨fun e => ?_, fun _ => hE⟩, ⟨hfn, fun e => absurd e.symm hpn, fun e => absurd e.symm hqn⟩, fun j d hd hj hG => ⟨hG.1, fun _ e => ?_, fun _ e => ?_⟩⟩)
  · rw [e2] at e; cases e
  · rw [e2] at e; cases e
  · rw [e2] at e; cases e
theorem p4_last {k : Nat} {o : Oper} (hp' : k ≠ p) (hq' : k ≠ q) (hn' : k ≠ n) (hon : onB o.after n = true) (hg : o.guard = none) (h : ∀ (a : Act) (w : World), ∃ x, (execOp a.eval o).run P w = .ok (.value x) w ∧ F k x) : Stp P ops (GP4 F p q n A bd) (JP4 w0 n E) a0 k o := by
  intro l a w hp hu ha
  have h1 : l.getD n false = true := onB_spec hon ha
  obtain ⟨x, hr, hf⟩ := h a w
  unfold opWr
  rw [if_pos (wanted_none hg)]
  have e2 : (l.setIfInBounds k true).getD n false = true := by rw [set_oth hu (Ne.symm hn'), h1]
  refine .inl ⟨x, w, hr, x, rfl, ⟨fun e => ?_, fun _ => hp.j.2 h1⟩, ⟨hf, fun e => absurd e hp', fun e => absurd e hq'⟩, fun j d hd hj hG => ⟨hG.1, fun _ e => ?_, fun _ e => ?_⟩⟩
  · rw [e2] at e; cases e
  · rw [e2] at e; cases e
  · rw [e2] at e; cases e
end
def soF (sb b vb n k sc : Nat) (sa : Option Addr) : Nat → Value → Prop
  | 0, v => v = .pointer (some ⟨sb, 0, none⟩)
  | 1, v => v = .pointer (some ⟨sb, 0, none⟩)
  | 2, v => v = .pointer (some ⟨sb, 0, none⟩)
  | 3, v => v = .pointer (some ⟨b, 0, none⟩)
  | 4, v => v = .pointer (some ⟨b, 0, none⟩)
  | 5, v => v = .pointer (some ⟨b, 0, none⟩)
  | 6, v => v = .slice (some ⟨vb, 0, none⟩) (n + 1) (n + 1)
  | 7, v => v = .slice sa n sc
  | 8, v => v = .func (.func 20) #[] #[]
  | 10, v => v = .pointer (some ⟨sb, 0, none⟩)
  | 11, v => v = .pointer (some ⟨sb, 0, none⟩)
  | 12, v => v = .pointer (some ⟨sb, 3, none⟩)
  | 13, v => v = .int .i64 (k : Int)
  | 16, v => v = .int .i64 0
  | _, _ => True
def soOps : Array Oper := #[{ dst := some 50, op := Op.move (Operand.tmp 8), type := 41, pos := "l13_sat.go:276", after := #[], guard := none }, { dst := some 51, op := Op.nilCheck (Operand.tmp 50), type := 0, pos := "l13_sat.go:276", after := #[{ on := 0, ground := Ground.data }], guard := none }, { dst := some 52, op := Op.fieldAddr 46 (Operand.tmp 51) 0, type := 0, pos := "l13_sat.go:276", after := #[{ on := 1, ground := Ground.data }], guard := none }, { dst := some 53, op := Op.load 42 (Operand.tmp 52), type := 42, pos := "l13_sat.go:276", after := #[{ on := 2, ground := Ground.data }], guard := none }, { dst := some 54, op := Op.nilCheck (Operand.tmp 53), type := 0, pos := "l13_sat.go:276", after := #[{ on := 3, ground := Ground.data }], guard := none }, { dst := some 55, op := Op.fieldAddr 53 (Operand.tmp 54) 0, type := 0, pos := "l13_sat.go:276", after := #[{ on := 4, ground := Ground.data }], guard := none }, { dst := some 56, op := Op.load 24 (Operand.tmp 55), type := 24, pos := "l13_sat.go:276", after := #[{ on := 5, ground := Ground.data }], guard := none }, { dst := some 57, op := Op.slice 24 (Operand.tmp 56) (some (Operand.const (Value.int IntKind.i64 1))) none none, type := 24, pos := "l13_sat.go:276", after := #[{ on := 6, ground := Ground.data }], guard := none }, { dst := some 58, op := Op.move (Operand.tmp 11), type := 49, pos := "l13_sat.go:276", after := #[], guard := none }, { dst := some 59, op := Op.call { callee := Callee.value (Operand.func 21), args := #[Operand.tmp 57, Operand.tmp 58], argTypes := #[24, 49] }, type := 24, pos := "l13_sat.go:276", after := #[{ on := 7, ground := Ground.data }, { on := 8, ground := Ground.data }], guard := none }, { dst := some 60, op := Op.move (Operand.tmp 8), type := 41, pos := "l13_sat.go:276", after := #[], guard := none }, { dst := some 61, op := Op.nilCheck (Operand.tmp 60), type := 0, pos := "l13_sat.go:276", after := #[{ on := 10, ground := Ground.data }], guard := none }, { dst := some 62, op := Op.fieldAddr 46 (Operand.tmp 61) 3, type := 0, pos := "l13_sat.go:276", after := #[{ on := 11, ground := Ground.data }], guard := none }, { dst := some 63, op := Op.load 3 (Operand.tmp 62), type := 3, pos := "l13_sat.go:276", after := #[{ on := 12, ground := Ground.data }], guard := none }, { dst := some 64, op := Op.build 26 #[(0, Operand.const (Value.int IntKind.i64 1)), (1, Operand.tmp 59), (3, Operand.tmp 63)], type := 26, pos := "l13_sat.go:276", after := #[{ on := 9, ground := Ground.data }, { on := 13, ground := Ground.data }], guard := none }, { dst := none, op := Op.store 26 (Operand.tmp 6) (Operand.tmp 64), type := 0, pos := "l13_sat.go:276", after := #[{ on := 14, ground := Ground.data }, { on := 9, ground := Ground.chain }, { on := 0, ground := Ground.phase }, { on := 1, ground := Ground.phase }, { on := 2, ground := Ground.phase }, { on := 3, ground := Ground.phase }, { on := 4, ground := Ground.phase }, { on := 5, ground := Ground.phase }, { on := 6, ground := Ground.phase }, { on := 7, ground := Ground.phase }, { on := 8, ground := Ground.phase }, { on := 9, ground := Ground.phase }, { on := 10, ground := Ground.phase }, { on := 11, ground := Ground.phase }, { on := 12, ground := Ground.phase }, { on := 13, ground := Ground.phase }, { on := 14, ground := Ground.phase }], guard := none }, { dst := some 7, op := Op.assign (Operand.const (Value.int IntKind.i64 0)), type := 3, pos := "l13_sat.go:276", after := #[{ on := 15, ground := Ground.chain }, { on := 0, ground := Ground.phase }, { on := 1, ground := Ground.phase }, { on := 2, ground := Ground.phase }, { on := 3, ground := Ground.phase }, { on := 4, ground := Ground.phase }, { on := 5, ground := Ground.phase }, { on := 6, ground := Ground.phase }, { on := 7, ground := Ground.phase }, { on := 8, ground := Ground.phase }, { on := 9, ground := Ground.phase }, { on := 10, ground := Ground.phase }, { on := 11, ground := Ground.phase }, { on := 12, ground := Ground.phase }, { on := 13, ground := Ground.phase }, { on := 14, ground := Ground.phase }, { on := 15, ground := Ground.phase }], guard := none }]
set_option maxHeartbeats 16000000 in
theorem soRow {sb b vb n k sc rb : Nat} {sa : Option Addr} {m : List Int} {wr : World} {Q : Exit → Act → World → Prop} (HC0 : Hid (wr.cell? ⟨sb, 0, none⟩ = some (.pointer (some ⟨b, 0, none⟩)))) (HCV : Hid (wr.cell? ⟨b, 0, none⟩ = some (.slice (some ⟨vb, 0, none⟩) (n + 1) (n + 1)))) (HC3 : Hid (wr.cell? ⟨sb, 3, none⟩ = some (.int .i64 (k : Int)))) (HSL : Hid (∀ V : World, (Instr.slice 24 (.slice (some ⟨vb, 0, none⟩) (n + 1) (n + 1)) (some (.int .i64 1)) none none).run Try.prog V = .ok (.slice sa n sc) V)) (HRB : Hid (wr.heap[rb]? = some (.cells #[.int .i64 0, .slice none 0 0, .slice none 0 0, .int .i64 0] 26)))
    (HCALL : Hid (∀ V, Below wr.heap.size wr V → Calls Try.prog 21 #[.slice sa n sc, .func (.func 20) #[] #[]] V fun e w' => ∃ x, e = .returned x ∧ IR wr.heap.size w' x m ∧ Below V.heap.size V w'))
    (a0 : Act) (ha0 : a0.tmps.size = 65) (e8 : a0.eval (.tmp 8) = .pointer (some ⟨sb, 0, none⟩)) (e11 : a0.eval (.tmp 11) = .func (.func 20) #[] #[]) (e6 : a0.eval (.tmp 6) = .pointer (some ⟨rb, 0, none⟩))
    (hQ : ∀ a V V1 mv, a.tmps.size = a0.tmps.size → a.defers = a0.defers → (∀ t, t ∉ [7, 50, 51, 52, 53, 54, 55, 56, 57, 58, 59, 60, 61, 62, 63, 64] → a.eval (.tmp t) = a0.eval (.tmp t)) → a.eval (.tmp 7) = .int .i64 0 → Below wr.heap.size wr V1 → IR wr.heap.size V1 mv m → V = put4 V1 rb (.int .i64 1) mv (.slice none 0 0) (.int .i64 (k : Int)) → Q .normal a V) :
    (Code.region 12 soOps true).wp Try.prog Q a0 wr := by
  refine wp_plan (GP4 (soF sb b vb n k sc sa) 9 14 15 (fun V v => IR wr.heap.size V v m) (fun mv => .agg #[.int .i64 1, mv, .slice none 0 0, .int .i64 (k : Int)])) (JP4 wr 15 (fun V' => ∃ V1 mv, Below wr.heap.size wr V1 ∧ IR wr.heap.size V1 mv m ∧ V' = put4 V1 rb (.int .i64 1) mv (.slice none 0 0) (.int .i64 (k : Int)))) (by kernel_rfl) 65 ha0 (by kernel_rfl) ?hj ?hs ?hf
  case hj => exact ⟨fun _ => bdr (brf wr), fun e => absurd e (by rw [show (Array.replicate soOps.size false).getD 15 false = false by kernel_rfl]; decide)⟩
  case hs =>
    refine ⟨?_, ?_, ?_, ?_, ?_, ?_, ?_, ?_, ?_, ?_, ?_, ?_, ?_, ?_, ?_, ?_, ?_, trivial⟩
    · exact p4_val (by decide) (by decide) (by decide) (fun l a w hp hu => (und hp (k := 14) (j := 15) (by kernel_rfl) (und hp (k := 9) (j := 14) (by kernel_rfl) (und hp (k := 7) (j := 9) (by kernel_rfl) (und hp (k := 6) (j := 7) (by kernel_rfl) (und hp (k := 5) (j := 6) (by kernel_rfl) (und hp (k := 4) (j := 5) (by kernel_rfl) (und hp (k := 3) (j := 4) (by kernel_rfl) (und hp (k := 2) (j := 3) (by kernel_rfl) (und hp (k := 1) (j := 2) (by kernel_rfl) (und hp (k := 0) (j := 1) (by kernel_rfl) hu))))))))))) rfl (fun l a V hp hB ha => ⟨.pointer (some ⟨sb, 0, none⟩), by
        have x8 := (ev_form a 8).trans (old hp 8 (v := .pointer (some ⟨sb, 0, none⟩)) (by kernel_rfl) e8)
        go_simp, rfl⟩)
    · exact p4_val (by decide) (by decide) (by decide) (fun l a w hp hu => (und hp (k := 14) (j := 15) (by kernel_rfl) (und hp (k := 9) (j := 14) (by kernel_rfl) (und hp (k := 7) (j := 9) (by kernel_rfl) (und hp (k := 6) (j := 7) (by kernel_rfl) (und hp (k := 5) (j := 6) (by kernel_rfl) (und hp (k := 4) (j := 5) (by kernel_rfl) (und hp (k := 3) (j := 4) (by kernel_rfl) (und hp (k := 2) (j := 3) (by kernel_rfl) (und hp (k := 1) (j := 2) (by kernel_rfl) hu)))))))))) rfl (fun l a V hp hB ha => ⟨.pointer (some ⟨sb, 0, none⟩), by
        have x50 := (ev_form a 50).trans (show a.eval (.tmp 50) = .pointer (some ⟨sb, 0, none⟩) from (knR hp ha 50 0 (by kernel_rfl) (by kernel_rfl)).1)
        go_simp, rfl⟩)
    · exact p4_val (by decide) (by decide) (by decide) (fun l a w hp hu => (und hp (k := 14) (j := 15) (by kernel_rfl) (und hp (k := 9) (j := 14) (by kernel_rfl) (und hp (k := 7) (j := 9) (by kernel_rfl) (und hp (k := 6) (j := 7) (by kernel_rfl) (und hp (k := 5) (j := 6) (by kernel_rfl) (und hp (k := 4) (j := 5) (by kernel_rfl) (und hp (k := 3) (j := 4) (by kernel_rfl) (und hp (k := 2) (j := 3) (by kernel_rfl) hu))))))))) rfl (fun l a V hp hB ha => ⟨.pointer (some ⟨sb, 0, none⟩), by
        have x51 := (ev_form a 51).trans (show a.eval (.tmp 51) = .pointer (some ⟨sb, 0, none⟩) from (knR hp ha 51 1 (by kernel_rfl) (by kernel_rfl)).1)
        go_simp, rfl⟩)
    · exact p4_val (by decide) (by decide) (by decide) (fun l a w hp hu => (und hp (k := 14) (j := 15) (by kernel_rfl) (und hp (k := 9) (j := 14) (by kernel_rfl) (und hp (k := 7) (j := 9) (by kernel_rfl) (und hp (k := 6) (j := 7) (by kernel_rfl) (und hp (k := 5) (j := 6) (by kernel_rfl) (und hp (k := 4) (j := 5) (by kernel_rfl) (und hp (k := 3) (j := 4) (by kernel_rfl) hu)))))))) rfl (fun l a V hp hB ha => ⟨.pointer (some ⟨b, 0, none⟩), by
        have x52 := (ev_form a 52).trans (show a.eval (.tmp 52) = .pointer (some ⟨sb, 0, none⟩) from (knR hp ha 52 2 (by kernel_rfl) (by kernel_rfl)).1)
        have mq := cell_later hB (unhide HC0)
        go_simp, rfl⟩)
    · exact p4_val (by decide) (by decide) (by decide) (fun l a w hp hu => (und hp (k := 14) (j := 15) (by kernel_rfl) (und hp (k := 9) (j := 14) (by kernel_rfl) (und hp (k := 7) (j := 9) (by kernel_rfl) (und hp (k := 6) (j := 7) (by kernel_rfl) (und hp (k := 5) (j := 6) (by kernel_rfl) (und hp (k := 4) (j := 5) (by kernel_rfl) hu))))))) rfl (fun l a V hp hB ha => ⟨.pointer (some ⟨b, 0, none⟩), by
        have x53 := (ev_form a 53).trans (show a.eval (.tmp 53) = .pointer (some ⟨b, 0, none⟩) from (knR hp ha 53 3 (by kernel_rfl) (by kernel_rfl)).1)
        go_simp, rfl⟩)
    · exact p4_val (by decide) (by decide) (by decide) (fun l a w hp hu => (und hp (k := 14) (j := 15) (by kernel_rfl) (und hp (k := 9) (j := 14) (by kernel_rfl) (und hp (k := 7) (j := 9) (by kernel_rfl) (und hp (k := 6) (j := 7) (by kernel_rfl) (und hp (k := 5) (j := 6) (by kernel_rfl) hu)))))) rfl (fun l a V hp hB ha => ⟨.pointer (some ⟨b, 0, none⟩), by
        have x54 := (ev_form a 54).trans (show a.eval (.tmp 54) = .pointer (some ⟨b, 0, none⟩) from (knR hp ha 54 4 (by kernel_rfl) (by kernel_rfl)).1)
        go_simp, rfl⟩)
    · exact p4_val (by decide) (by decide) (by decide) (fun l a w hp hu => (und hp (k := 14) (j := 15) (by kernel_rfl) (und hp (k := 9) (j := 14) (by kernel_rfl) (und hp (k := 7) (j := 9) (by kernel_rfl) (und hp (k := 6) (j := 7) (by kernel_rfl) hu))))) rfl (fun l a V hp hB ha => ⟨.slice (some ⟨vb, 0, none⟩) (n + 1) (n + 1), by
        have x55 := (ev_form a 55).trans (show a.eval (.tmp 55) = .pointer (some ⟨b, 0, none⟩) from (knR hp ha 55 5 (by kernel_rfl) (by kernel_rfl)).1)
        have mq := cell_later hB (unhide HCV)
        go_simp, rfl⟩)
    · exact p4_val (by decide) (by decide) (by decide) (fun l a w hp hu => (und hp (k := 14) (j := 15) (by kernel_rfl) (und hp (k := 9) (j := 14) (by kernel_rfl) (und hp (k := 7) (j := 9) (by kernel_rfl) hu)))) rfl (fun l a V hp hB ha => ⟨.slice sa n sc, by
        have x56 := (ev_form a 56).trans (show a.eval (.tmp 56) = .slice (some ⟨vb, 0, none⟩) (n + 1) (n + 1) from (knR hp ha 56 6 (by kernel_rfl) (by kernel_rfl)).1)
        have hsl := unhide HSL
        go_simp, rfl⟩)
    · exact p4_val (by decide) (by decide) (by decide) (fun l a w hp hu => (und hp (k := 14) (j := 15) (by kernel_rfl) (und hp (k := 9) (j := 14) (by kernel_rfl) (und hp (k := 8) (j := 9) (by kernel_rfl) hu)))) rfl (fun l a V hp hB ha => ⟨.func (.func 20) #[] #[], by
        have x11 := (ev_form a 11).trans (old hp 11 (v := .func (.func 20) #[] #[]) (by kernel_rfl) e11)
        go_simp, rfl⟩)
    · refine p4_call (f := 21) (by decide) (by decide) (fun l a w hp hu => ⟨(und hp (k := 9) (j := 14) (by kernel_rfl) hu), (und hp (k := 14) (j := 15) (by kernel_rfl) (und hp (k := 9) (j := 14) (by kernel_rfl) hu))⟩) rfl (fun l a V hp hB ha => ⟨#[.slice sa n sc, .func (.func 20) #[] #[]], ?_, (unhide HCALL V hB).mono (fun e w' ⟨x, h1, h2, h3⟩ => ⟨x, h1, trivial, h2, h3⟩)⟩)
      have x57 := (ev_form a 57).trans (show a.eval (.tmp 57) = .slice sa n sc from (knR hp ha 57 7 (by kernel_rfl) (by kernel_rfl)).1)
      have x58 := (ev_form a 58).trans (show a.eval (.tmp 58) = .func (.func 20) #[] #[] from (knR hp ha 58 8 (by kernel_rfl) (by kernel_rfl)).1)
      go_simp
    · exact p4_val (by decide) (by decide) (by decide) (fun l a w hp hu => (und hp (k := 14) (j := 15) (by kernel_rfl) (und hp (k := 13) (j := 14) (by kernel_rfl) (und hp (k := 12) (j := 13) (by kernel_rfl) (und hp (k := 11) (j := 12) (by kernel_rfl) (und hp (k := 10) (j := 11) (by kernel_rfl) hu)))))) rfl (fun l a V hp hB ha => ⟨.pointer (some ⟨sb, 0, none⟩), by
        have x8 := (ev_form a 8).trans (old hp 8 (v := .pointer (some ⟨sb, 0, none⟩)) (by kernel_rfl) e8)
        go_simp, rfl⟩)
    · exact p4_val (by decide) (by decide) (by decide) (fun l a w hp hu => (und hp (k := 14) (j := 15) (by kernel_rfl) (und hp (k := 13) (j := 14) (by kernel_rfl) (und hp (k := 12) (j := 13) (by kernel_rfl) (und hp (k := 11) (j := 12) (by kernel_rfl) hu))))) rfl (fun l a V hp hB ha => ⟨.pointer (some ⟨sb, 0, none⟩), by
        have x60 := (ev_form a 60).trans (show a.eval (.tmp 60) = .pointer (some ⟨sb, 0, none⟩) from (knR hp ha 60 10 (by kernel_rfl) (by kernel_rfl)).1)
        go_simp, rfl⟩)
    · exact p4_val (by decide) (by decide) (by decide) (fun l a w hp hu => (und hp (k := 14) (j := 15) (by kernel_rfl) (und hp (k := 13) (j := 14) (by kernel_rfl) (und hp (k := 12) (j := 13) (by kernel_rfl) hu)))) rfl (fun l a V hp hB ha => ⟨.pointer (some ⟨sb, 3, none⟩), by
        have x61 := (ev_form a 61).trans (show a.eval (.tmp 61) = .pointer (some ⟨sb, 0, none⟩) from (knR hp ha 61 11 (by kernel_rfl) (by kernel_rfl)).1)
        go_simp, rfl⟩)
    · exact p4_val (by decide) (by decide) (by decide) (fun l a w hp hu => (und hp (k := 14) (j := 15) (by kernel_rfl) (und hp (k := 13) (j := 14) (by kernel_rfl) hu))) rfl (fun l a V hp hB ha => ⟨.int .i64 (k : Int), by
        have x62 := (ev_form a 62).trans (show a.eval (.tmp 62) = .pointer (some ⟨sb, 3, none⟩) from (knR hp ha 62 12 (by kernel_rfl) (by kernel_rfl)).1)
        have mq := cell_later hB (unhide HC3)
        go_simp, rfl⟩)
    · refine p4_build (by decide) (by decide) (fun l a w hp hu => (und hp (k := 14) (j := 15) (by kernel_rfl) hu)) rfl (fun l a V hp h1 hB ha => ⟨a.eval (.tmp 59), ?_, trivial, (knR hp ha 59 9 (by kernel_rfl) (by kernel_rfl)).2.1 rfl h1⟩)
      have x63 := (ev_form a 63).trans (show a.eval (.tmp 63) = .int .i64 (k : Int) from (knR hp ha 63 13 (by kernel_rfl) (by kernel_rfl)).1)
      have x59 := ev_form a 59
      have hir := (knR hp ha 59 9 (by kernel_rfl) (by kernel_rfl)).2.1 rfl h1
      generalize a.eval (.tmp 59) = mv at *
      obtain ⟨ma, mc, rfl⟩ := IR.shape hir
      clear hir
      go_simp
    · refine p4_store (t := 64) (by decide) (by decide) rfl (by kernel_rfl) rfl (fun l a V mv hp hB hA hv ha => ?_) trivial
      have x6 := (ev_form a 6).trans (old hp 6 (v := .pointer (some ⟨rb, 0, none⟩)) (by kernel_rfl) e6)
      have x64 := (ev_form a 64).trans hv
      have hres : V.heap[rb]? = some (.cells #[.int .i64 0, .slice none 0 0, .slice none 0 0, .int .i64 0] 26) := (hB.block rb (heap_lt (unhide HRB))).trans (unhide HRB)
      have z0 := resCell hres 0 rfl
      have z1 := resCell hres 1 rfl
      have z2 := resCell hres 2 rfl
      have z3 := resCell hres 3 rfl
      have zf := fun i => resFrz hres i
      refine ⟨put4 V rb (.int .i64 1) mv (.slice none 0 0) (.int .i64 (k : Int)), ?_, V, mv, hB, hA, rfl⟩
      obtain ⟨ma, mc, rfl⟩ := IR.shape hA
      clear hA hB hres
      unfold put4
      go_simp
    · exact p4_last (by decide) (by decide) (by decide) (by kernel_rfl) rfl (fun a w => ⟨.int .i64 0, by go_simp, rfl⟩)
  case hf =>
    intro l a V hp hall
    obtain ⟨V1, mv, h1, h2, h3⟩ := hp.j.2 (hall 15 (by decide))
    exact hQ a V V1 mv hp.nt hp.df (fun t ht => hp.keep t (dstIn (by kernel_rfl) ht)) (hp.good 16 _ 7 rfl rfl (hall 16 (by decide))).1 h1 h2 h3
end Go.Proofs.Ytonfbnbkhpabbaa
