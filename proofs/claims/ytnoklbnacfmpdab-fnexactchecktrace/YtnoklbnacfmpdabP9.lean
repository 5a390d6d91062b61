/- The program's follow: the region that visits. -/
import Derived.Test.YtnoklbnacfmpdabP8
namespace Go.Proofs.Ytnoklbnacfmpdab
open Go Go.RowKit Gs
set_option linter.unusedVariables false
set_option linter.unusedSimpArgs false
set_option maxRecDepth 100000
section
variable {P : Program} {ops : Array Oper} {a0 : Act} {F : Nat → Value → Prop} {w0 : World} {m n : Nat} {E : Bool → World → Prop}
/-- A plan for a region that reads, then calls what tells true or false, then turns that round. -/
abbrev GCl (F : Nat → Value → Prop) (m n : Nat) (E : Bool → World → Prop) : Array Bool → Nat → World → Value → Prop := fun l k w v => F k v ∧ (k = m → ∃ b, v = .bool b ∧ E b w) ∧ (k = n → ∃ b, v = .bool (!b) ∧ E b w)
abbrev JCl (w0 : World) (m n : Nat) : Array Bool → World → Prop := fun l w => (l.getD m false = false → Below w0.heap.size w0 w)
theorem sc_val {k : Nat} {o : Oper} (hkm : k ≠ m) (hkn : k ≠ n) (hd : (ops[m]?).bind (·.dst) ≠ none) (hm : ∀ l a w, PA ops (GCl F m n E) (JCl w0 m n) a0 l a w → l.getD k false = false → l.getD m false = false) (hg : o.guard = none) (h : ∀ l a w, PA ops (GCl F m n E) (JCl w0 m n) a0 l a w → Below w0.heap.size w0 w → (∀ e ∈ o.after, Region.binds .any e = true → l.getD e.on false = true) → ∃ x, (execOp a.eval o).run P w = .ok (.value x) w ∧ F k x) : Stp P ops (GCl F m n E) (JCl w0 m n) a0 k o := by
  intro l a w hp hu ha
  have h1 := hm l a w hp (notDoneB hu)
  obtain ⟨x, hr, hf⟩ := h l a w hp (hp.j h1) ha
  unfold opWr
  rw [if_pos (wanted_none hg)]
  exact .inl ⟨x, w, hr, x, rfl, fun _ => hp.j h1, ⟨hf, fun e => absurd e hkm, fun e => absurd e hkn⟩, fun j d hd hj hG => hG⟩
theorem sc_call {o : Oper} {f : FuncId} (hmn : m ≠ n) (hn : ∀ l a w, PA ops (GCl F m n E) (JCl w0 m n) a0 l a w → l.getD m false = false → l.getD n false = false) (hg : o.guard = none) (h : ∀ l a w, PA ops (GCl F m n E) (JCl w0 m n) a0 l a w → Below w0.heap.size w0 w → (∀ e ∈ o.after, Region.binds .any e = true → l.getD e.on false = true) → ∃ args, (execOp a.eval o).run P w = .ok (.enter f args) w ∧ Calls P f args w fun e w' => ∃ b, e = .returned (.bool b) ∧ E b w') (hF : ∀ v, F m v) : Stp P ops (GCl F m n E) (JCl w0 m n) a0 m o := by
  intro l a w hp hu ha
  have h1 := notDoneB hu
  have h2 := hn l a w hp h1
  obtain ⟨args, hr, hc⟩ := h l a w hp (hp.j h1) ha
  unfold opWr
  rw [if_pos (wanted_none hg)]
  refine .inr (.inr ⟨f, args, w, hr, Calls.mono hc ?_⟩)
  rintro e w' ⟨b, rfl, hE⟩
  refine ⟨_, rfl, _, rfl, fun e => ?_, ⟨hF _, fun _ => ⟨b, rfl, hE⟩, fun e => absurd e hmn⟩, fun j d hd hj hG => ⟨hG.1, fun e => ?_, fun e => ?_⟩⟩
  · rw [set_own hu] at e; cases e
  · subst e; rw [h1] at hj; cases hj
  · subst e; rw [h2] at hj; cases hj
theorem sc_not {o : Oper} {t : Tmp} (hmn : m ≠ n) (hd : (ops[m]?).bind (·.dst) = some t) (hon : onB o.after m = true) (hg : o.guard = none) (h : ∀ (a : Act) (w : World) (b : Bool), a.eval (.tmp t) = .bool b → (execOp a.eval o).run P w = .ok (.value (.bool (!b))) w) (hF : ∀ v, F n v) : Stp P ops (GCl F m n E) (JCl w0 m n) a0 n o := by
  intro l a w hp hu ha
  have h1 : l.getD m false = true := onB_spec hon ha
  obtain ⟨om, hom, hdm⟩ := Option.bind_eq_some_iff.1 hd
  obtain ⟨b, hb, hE⟩ := (hp.good m om t hom hdm h1).2.1 rfl
  have hr := h a w b hb
  unfold opWr
  rw [if_pos (wanted_none hg)]
  refine .inl ⟨_, w, hr, _, rfl, fun e => ?_, ⟨hF _, fun e => absurd e.symm hmn, fun _ => ⟨b, rfl, hE⟩⟩, fun j d hd hj hG => hG⟩
  rw [set_oth hu hmn, h1] at e; cases e
end
def foF (b tg f tl tc : Nat) (z : Int) : Nat → Value → Prop
  | 0, v => v = .pointer (some ⟨b, 0, none⟩)
  | 1, v => v = .pointer (some ⟨b, 0, none⟩)
  | 2, v => v = .pointer (some ⟨b, 0, none⟩)
  | 3, v => v = .pointer (some ⟨b, 1, none⟩)
  | 4, v => v = .slice (some ⟨tg, 0, none⟩) tl tc
  | 5, v => v = .pointer (some ⟨b, 0, none⟩)
  | 6, v => v = .pointer (some ⟨b, 0, none⟩)
  | 7, v => v = .pointer (some ⟨b, 2, none⟩)
  | 8, v => v = .int .i64 (f : Int)
  | 9, v => v = .pointer (some ⟨tg, f, none⟩)
  | 10, v => v = .int .i64 z
  | 11, v => v = .int .i64 (-z)
  | _, _ => True
def foOps : Array Oper := #[{ dst := some 13, op := Op.move (Operand.tmp 0), type := 38, pos := "l13_sat.go:151", after := #[], guard := none }, { dst := some 14, op := Op.move (Operand.tmp 0), type := 38, pos := "l13_sat.go:151", after := #[], guard := none }, { dst := some 15, op := Op.nilCheck (Operand.tmp 14), type := 0, pos := "l13_sat.go:151", after := #[{ on := 1, ground := Ground.data }], guard := none }, { dst := some 16, op := Op.fieldAddr 49 (Operand.tmp 15) 1, type := 0, pos := "l13_sat.go:151", after := #[{ on := 2, ground := Ground.data }], guard := none }, { dst := some 17, op := Op.load 28 (Operand.tmp 16), type := 28, pos := "l13_sat.go:151", after := #[{ on := 3, ground := Ground.data }], guard := none }, { dst := some 18, op := Op.move (Operand.tmp 0), type := 38, pos := "l13_sat.go:151", after := #[], guard := none }, { dst := some 19, op := Op.nilCheck (Operand.tmp 18), type := 0, pos := "l13_sat.go:151", after := #[{ on := 5, ground := Ground.data }], guard := none }, { dst := some 20, op := Op.fieldAddr 49 (Operand.tmp 19) 2, type := 0, pos := "l13_sat.go:151", after := #[{ on := 6, ground := Ground.data }], guard := none }, { dst := some 21, op := Op.load 3 (Operand.tmp 20), type := 3, pos := "l13_sat.go:151", after := #[{ on := 7, ground := Ground.data }], guard := none }, { dst := some 22, op := Op.indexAddr 28 (Operand.tmp 17) (Operand.tmp 21), type := 0, pos := "l13_sat.go:151", after := #[{ on := 4, ground := Ground.data }, { on := 8, ground := Ground.data }], guard := none }, { dst := some 23, op := Op.load 3 (Operand.tmp 22), type := 3, pos := "l13_sat.go:151", after := #[{ on := 9, ground := Ground.data }], guard := none }, { dst := some 24, op := Op.unOp UnOp.neg 3 (Operand.tmp 23), type := 3, pos := "l13_sat.go:151", after := #[{ on := 10, ground := Ground.data }], guard := none }, { dst := some 25, op := Op.call { callee := Callee.value (Operand.func 34), args := #[Operand.tmp 13, Operand.tmp 24], argTypes := #[38, 3] }, type := 4, pos := "l13_sat.go:151", after := #[{ on := 0, ground := Ground.data }, { on := 11, ground := Ground.data }], guard := none }, { dst := some 26, op := Op.unOp UnOp.not 4 (Operand.tmp 25), type := 4, pos := "l13_sat.go:151", after := #[{ on := 12, ground := Ground.data }], guard := none }]
set_option maxHeartbeats 16000000 in
theorem foRow {b tg f tl tc : Nat} {z : Int} {wr : World} {E : Bool → World → Prop} {Q : Exit → Act → World → Prop} (hf : f < tl) (hz1 : -2048 ≤ z) (hz2 : z ≤ 2048) (HC1 : Hid (wr.cell? ⟨b, 1, none⟩ = some (.slice (some ⟨tg, 0, none⟩) tl tc))) (HC2 : Hid (wr.cell? ⟨b, 2, none⟩ = some (.int .i64 (f : Int)))) (HCZ : Hid (wr.cell? ⟨tg, f, none⟩ = some (.int .i64 z))) (HCALL : Hid (∀ V, Below wr.heap.size wr V → Calls Try.prog 34 #[.pointer (some ⟨b, 0, none⟩), .int .i64 (-z)] V fun e w' => ∃ b, e = .returned (.bool b) ∧ E b w'))
    (a0 : Act) (ha0 : a0.tmps.size = 39) (e0 : a0.eval (.tmp 0) = .pointer (some ⟨b, 0, none⟩))
    (hQ : ∀ a V c, a.tmps.size = a0.tmps.size → a.defers = a0.defers → (∀ t, t ∉ [13, 14, 15, 16, 17, 18, 19, 20, 21, 22, 23, 24, 25, 26] → a.eval (.tmp t) = a0.eval (.tmp t)) → a.eval (.tmp 26) = .bool (!c) → E c V → Q .normal a V) :
    (Code.region 2 foOps true).wp Try.prog Q a0 wr := by
  have p1 : (0 : Int) ≤ (f : Int) := by omega
  have p2 : (f : Int) < (tl : Int) := by omega
  refine wp_plan (GCl (foF b tg f tl tc z) 12 13 E) (JCl wr 12 13) (by kernel_rfl) 39 ha0 (by kernel_rfl) ?hj ?hs ?hf
  case hj => exact fun _ => bdr (brf wr)
  case hs =>
    refine ⟨?_, ?_, ?_, ?_, ?_, ?_, ?_, ?_, ?_, ?_, ?_, ?_, ?_, ?_, trivial⟩
    · exact sc_val (by decide) (by decide) (by simp [foOps]) (fun l a w hp hu => (und hp (k := 0) (j := 12) (by kernel_rfl) hu)) rfl (fun l a V hp hB ha => ⟨.pointer (some ⟨b, 0, none⟩), by
        have x0 := (ev_form a 0).trans (old hp 0 (v := .pointer (some ⟨b, 0, none⟩)) (by kernel_rfl) e0)
        go_simp, rfl⟩)
    · exact sc_val (by decide) (by decide) (by simp [foOps]) (fun l a w hp hu => (und hp (k := 11) (j := 12) (by kernel_rfl) (und hp (k := 10) (j := 11) (by kernel_rfl) (und hp (k := 9) (j := 10) (by kernel_rfl) (und hp (k := 4) (j := 9) (by kernel_rfl) (und hp (k := 3) (j := 4) (by kernel_rfl) (und hp (k := 2) (j := 3) (by kernel_rfl) (und hp (k := 1) (j := 2) (by kernel_rfl) hu)))))))) rfl (fun l a V hp hB ha => ⟨.pointer (some ⟨b, 0, none⟩), by
        have x0 := (ev_form a 0).trans (old hp 0 (v := .pointer (some ⟨b, 0, none⟩)) (by kernel_rfl) e0)
        go_simp, rfl⟩)
    · exact sc_val (by decide) (by decide) (by simp [foOps]) (fun l a w hp hu => (und hp (k := 11) (j := 12) (by kernel_rfl) (und hp (k := 10) (j := 11) (by kernel_rfl) (und hp (k := 9) (j := 10) (by kernel_rfl) (und hp (k := 4) (j := 9) (by kernel_rfl) (und hp (k := 3) (j := 4) (by kernel_rfl) (und hp (k := 2) (j := 3) (by kernel_rfl) hu))))))) rfl (fun l a V hp hB ha => ⟨.pointer (some ⟨b, 0, none⟩), by
        have x14 := (ev_form a 14).trans (show a.eval (.tmp 14) = .pointer (some ⟨b, 0, none⟩) from (knR hp ha 14 1 (by kernel_rfl) (by kernel_rfl)).1)
        go_simp, rfl⟩)
    · exact sc_val (by decide) (by decide) (by simp [foOps]) (fun l a w hp hu => (und hp (k := 11) (j := 12) (by kernel_rfl) (und hp (k := 10) (j := 11) (by kernel_rfl) (und hp (k := 9) (j := 10) (by kernel_rfl) (und hp (k := 4) (j := 9) (by kernel_rfl) (und hp (k := 3) (j := 4) (by kernel_rfl) hu)))))) rfl (fun l a V hp hB ha => ⟨.pointer (some ⟨b, 1, none⟩), by
        have x15 := (ev_form a 15).trans (show a.eval (.tmp 15) = .pointer (some ⟨b, 0, none⟩) from (knR hp ha 15 2 (by kernel_rfl) (by kernel_rfl)).1)
        go_simp, rfl⟩)
    · exact sc_val (by decide) (by decide) (by simp [foOps]) (fun l a w hp hu => (und hp (k := 11) (j := 12) (by kernel_rfl) (und hp (k := 10) (j := 11) (by kernel_rfl) (und hp (k := 9) (j := 10) (by kernel_rfl) (und hp (k := 4) (j := 9) (by kernel_rfl) hu))))) rfl (fun l a V hp hB ha => ⟨.slice (some ⟨tg, 0, none⟩) tl tc, by
        have x16 := (ev_form a 16).trans (show a.eval (.tmp 16) = .pointer (some ⟨b, 1, none⟩) from (knR hp ha 16 3 (by kernel_rfl) (by kernel_rfl)).1)
        have mq := cell_later hB (unhide HC1)
        go_simp, rfl⟩)
    · exact sc_val (by decide) (by decide) (by simp [foOps]) (fun l a w hp hu => (und hp (k := 11) (j := 12) (by kernel_rfl) (und hp (k := 10) (j := 11) (by kernel_rfl) (und hp (k := 9) (j := 10) (by kernel_rfl) (und hp (k := 8) (j := 9) (by kernel_rfl) (und hp (k := 7) (j := 8) (by kernel_rfl) (und hp (k := 6) (j := 7) (by kernel_rfl) (und hp (k := 5) (j := 6) (by kernel_rfl) hu)))))))) rfl (fun l a V hp hB ha => ⟨.pointer (some ⟨b, 0, none⟩), by
        have x0 := (ev_form a 0).trans (old hp 0 (v := .pointer (some ⟨b, 0, none⟩)) (by kernel_rfl) e0)
        go_simp, rfl⟩)
    · exact sc_val (by decide) (by decide) (by simp [foOps]) (fun l a w hp hu => (und hp (k := 11) (j := 12) (by kernel_rfl) (und hp (k := 10) (j := 11) (by kernel_rfl) (und hp (k := 9) (j := 10) (by kernel_rfl) (und hp (k := 8) (j := 9) (by kernel_rfl) (und hp (k := 7) (j := 8) (by kernel_rfl) (und hp (k := 6) (j := 7) (by kernel_rfl) hu))))))) rfl (fun l a V hp hB ha => ⟨.pointer (some ⟨b, 0, none⟩), by
        have x18 := (ev_form a 18).trans (show a.eval (.tmp 18) = .pointer (some ⟨b, 0, none⟩) from (knR hp ha 18 5 (by kernel_rfl) (by kernel_rfl)).1)
        go_simp, rfl⟩)
    · exact sc_val (by decide) (by decide) (by simp [foOps]) (fun l a w hp hu => (und hp (k := 11) (j := 12) (by kernel_rfl) (und hp (k := 10) (j := 11) (by kernel_rfl) (und hp (k := 9) (j := 10) (by kernel_rfl) (und hp (k := 8) (j := 9) (by kernel_rfl) (und hp (k := 7) (j := 8) (by kernel_rfl) hu)))))) rfl (fun l a V hp hB ha => ⟨.pointer (some ⟨b, 2, none⟩), by
        have x19 := (ev_form a 19).trans (show a.eval (.tmp 19) = .pointer (some ⟨b, 0, none⟩) from (knR hp ha 19 6 (by kernel_rfl) (by kernel_rfl)).1)
        go_simp, rfl⟩)
    · exact sc_val (by decide) (by decide) (by simp [foOps]) (fun l a w hp hu => (und hp (k := 11) (j := 12) (by kernel_rfl) (und hp (k := 10) (j := 11) (by kernel_rfl) (und hp (k := 9) (j := 10) (by kernel_rfl) (und hp (k := 8) (j := 9) (by kernel_rfl) hu))))) rfl (fun l a V hp hB ha => ⟨.int .i64 (f : Int), by
        have x20 := (ev_form a 20).trans (show a.eval (.tmp 20) = .pointer (some ⟨b, 2, none⟩) from (knR hp ha 20 7 (by kernel_rfl) (by kernel_rfl)).1)
        have mq := cell_later hB (unhide HC2)
        go_simp, rfl⟩)
    · exact sc_val (by decide) (by decide) (by simp [foOps]) (fun l a w hp hu => (und hp (k := 11) (j := 12) (by kernel_rfl) (und hp (k := 10) (j := 11) (by kernel_rfl) (und hp (k := 9) (j := 10) (by kernel_rfl) hu)))) rfl (fun l a V hp hB ha => ⟨.pointer (some ⟨tg, f, none⟩), by
        have x17 := (ev_form a 17).trans (show a.eval (.tmp 17) = .slice (some ⟨tg, 0, none⟩) tl tc from (knR hp ha 17 4 (by kernel_rfl) (by kernel_rfl)).1)
        have x21 := (ev_form a 21).trans (show a.eval (.tmp 21) = .int .i64 (f : Int) from (knR hp ha 21 8 (by kernel_rfl) (by kernel_rfl)).1)
        go_simp, rfl⟩)
    · exact sc_val (by decide) (by decide) (by simp [foOps]) (fun l a w hp hu => (und hp (k := 11) (j := 12) (by kernel_rfl) (und hp (k := 10) (j := 11) (by kernel_rfl) hu))) rfl (fun l a V hp hB ha => ⟨.int .i64 z, by
        have x22 := (ev_form a 22).trans (show a.eval (.tmp 22) = .pointer (some ⟨tg, f, none⟩) from (knR hp ha 22 9 (by kernel_rfl) (by kernel_rfl)).1)
        have mq := cell_later hB (unhide HCZ)
        go_simp, rfl⟩)
    · exact sc_val (by decide) (by decide) (by simp [foOps]) (fun l a w hp hu => (und hp (k := 11) (j := 12) (by kernel_rfl) hu)) rfl (fun l a V hp hB ha => ⟨.int .i64 (-z), by
        have x23 := (ev_form a 23).trans (show a.eval (.tmp 23) = .int .i64 z from (knR hp ha 23 10 (by kernel_rfl) (by kernel_rfl)).1)
        go_simp; exact IntWalk.i64_in _ ⟨by omega, by omega⟩, rfl⟩)
    · refine sc_call (f := 34) (by decide) (fun l a w hp hu => (und hp (k := 12) (j := 13) (by kernel_rfl) hu)) rfl (fun l a V hp hB ha => ⟨#[.pointer (some ⟨b, 0, none⟩), .int .i64 (-z)], ?_, unhide HCALL V hB⟩) (fun v => trivial)
      have x13 := (ev_form a 13).trans (show a.eval (.tmp 13) = .pointer (some ⟨b, 0, none⟩) from (knR hp ha 13 0 (by kernel_rfl) (by kernel_rfl)).1)
      have x24 := (ev_form a 24).trans (show a.eval (.tmp 24) = .int .i64 (-z) from (knR hp ha 24 11 (by kernel_rfl) (by kernel_rfl)).1)
      go_simp
    · exact sc_not (t := 25) (by decide) rfl (by kernel_rfl) rfl (fun a w b hb => by
        have x25 := (ev_form a 25).trans hb
        go_simp) (fun v => trivial)
  case hf =>
    intro l a V hp hall
    obtain ⟨c, hc, hE⟩ := (hp.good 13 _ 26 rfl rfl (hall 13 (by decide))).2.2 rfl
    exact hQ a V c hp.nt hp.df (fun t ht => hp.keep t (dstIn (by kernel_rfl) ht)) hc hE
end Go.Proofs.Ytnoklbnacfmpdab
