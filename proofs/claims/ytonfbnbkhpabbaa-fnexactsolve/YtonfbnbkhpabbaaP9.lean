/- The program's follow: the region that visits. -/
import Derived.Test.YtonfbnbkhpabbaaP8
namespace Go.Proofs.Ytonfbnbkhpabbaa
open Go Go.RowKit Gs
set_option linter.unusedVariables false
set_option linter.unusedSimpArgs false
set_option maxRecDepth 100000
section
variable {P : Program} {ops : Array Oper} {a0 : Act} {F : Nat → Value → Prop} {w0 : World} {m n : Nat} {E : Bool → World → Prop}
/-- A plan for a region that reads, then calls what tells true or false, then turns that round. -/
abbrev GCl (F : Nat → Value → Prop) (m n : Nat) (E : Bool → World → Prop) : Array Bool → Nat → World → Value → Prop := fun l k w v => F k v ∧ (k = m → ∃ b, v = .bool b ∧ E b w) ∧ (k = n → ∃ b, v = .bool (!b) ∧ E b w)
abbrev JCl (w0 : World) (m n : Nat) : Array Bool → World → Prop := fun l w => (l.getD m false = false → Below w0.heap.size w0 w)
theorem sc_val {k : Nat} {o : Oper} (hkm : k ≠ m) (hkn : k ≠ n) (hd : (ops[m]?).bind (·.dst) ≠ none) (hm : ∀ l a w, PA ops (GCl F m n E) (JCl w0 m n) a0 l a w → l.getD k false = false → l.getD m false = false) (hg : o.guard = none) (h : ∀ l a w, PA ops (GCl F m n E) (JCl w0 m n) a0 l a w → Below w0.heap.size w0 w → (∀ e ∈ o.after, Region.binds .any e = true → l.getD e.on false = true) → ∃ x, (execOp a.eval o).run P w = .ok (.value x) w ∧ F k x) : Stp P ops (GCl F m n E) (JCl w0 m n) a0 k o := by
  intro l a w hp hu ha
  have h1 := hm l a w hp (notDoneB hu)
  obtain ⟨x, hr, hf⟩ := h l a w hp (hp.j h1) ha
  unfold opWr
  rw [if_pos (wanted_none hg)]
  exact .inl ⟨x, w, hr, x, rfl, fun _ => hp.j h1, ⟨hf, fun e => absurd e hkm, fun e => absurd e hkn⟩, fun j d hd hj hG => hG⟩
theorem sc_call {o : Oper} {f : FuncId} (hmn : m ≠ n) (hn : ∀ l a w, PA ops (GCl F m n E) (JCl w0 m n) a0 l a w → l.getD m false = false → l.getD n false = false) (hg : o.guard = none) (h : ∀ l a w, PA ops (GCl F m n E) (JCl w0 m n) a0 l a w → Below w0.heap.size w0 w → (∀ e ∈ o.after, Region.binds .any e = true → l.getD e.on false = true) → ∃ args, (execOp a.eval o).run P w = .ok (.enter f args) w ∧ Calls P f args w fun e w' => ∃ b, e = .returned (.bool b) ∧ E b w') (hF : ∀ v, F m v) : Stp P ops (GCl F m n E) (JCl w0 m n) a0 m o := by
  intro l a w hp hu ha
  have h1 := notDoneB hu
  have h2 := hn l a w hp h1
  obtain ⟨args, hr, hc⟩ := h l a w hp (hp.j h1) ha
  unfold opWr
  rw [if_pos (wanted_none hg)]
  refine .inr (.inr ⟨f, args, w, hr, Calls.mono hc ?_⟩)
  rintro e w' ⟨b, rfl, hE⟩
  refine ⟨_, rfl, _, rfl, fun e => ?_, ⟨hF _, fun _ => ⟨b, rfl, hE⟩, fun e => absurd e hmn⟩, fun j d hd hj hG => ⟨hG.1, fun e => ?_, fun e => ?_⟩⟩
  · rw [set_own hu] at e; cases e
  · subst e; rw [h1] at hj; cases hj
  · subst e; rw [h2] at hj; cases hj
theorem sc_not {o : Oper} {t : Tmp} (hmn : m ≠ n) (hd : (ops[m]?).bind (·.dst) = some t) (hon : onB o.after m = true) (hg : o.guard = none) (h : ∀ (a : Act) (w : World) (b : Bool), a.eval (.tmp t) = .bool b → (execOp a.eval o).run P w = .ok (.value (.bool (!b))) w) (hF : ∀ v, F n v) : Stp P ops (GCl F m n E) (JCl w0 m n) a0 n o := by
  intro l a w hp hu ha
  have h1 : l.getD m false = true := onB_spec hon ha
  obtain ⟨om, hom, hdm⟩ := Option.bind_eq_some_iff.1 hd
  obtain ⟨b, hb, hE⟩ := (hp.good m om t hom hdm h1).2.1 rfl
  have hr := h a w b hb
  unfold opWr
  rw [if_pos (wanted_none hg)]
  refine .inl ⟨_, w, hr, _, rfl, fun e => ?_, ⟨hF _, fun e => absurd e.symm hmn, fun _ => ⟨b, rfl, hE⟩⟩, fun j d hd hj hG => hG⟩
  rw [set_oth hu hmn, h1] at e; cases e
end
def foF (b tg f tl tc : Nat) (z : Int) : Nat → Value → Prop
  | 0, v => v = .pointer (some ⟨b, 0, none⟩)
  | 1, v => v = .pointer (some ⟨b, 0, none⟩)
  | 2, v => v = .pointer (some ⟨b, 0, none⟩)
  | 3, v => v = .pointer (some ⟨b, 1, none⟩)
  | 4, v => v = .slice (some ⟨tg, 0, none⟩) tl tc
  | 5, v => v = .pointer (some ⟨b, 0, none⟩)
  | 6, v => v = .pointer (some ⟨b, 0, none⟩)
  | 7, v => v = .pointer (some ⟨b, 2, none⟩)
  | 8, v => v = .int .i64 (f : Int)
  | 9, v => v = .pointer (some ⟨tg, f, none⟩)
  | 10, v => v = .int .i64 z
  | 11, v => v = .int .i64 (-z)
  | _, _ => True
def foOps : Array Oper := #[{ dst := some 13, op := Op.move (Operand.tmp 0), type := 42, pos := "l13_sat.go:151", after := #[], guard := none }, { dst := some 14, op := Op.move (Operand.tmp 0), type := 42, pos := "l13_sat.go:151", after := #[], guard := none }, { dst := some 15, op := Op.nilCheck (Operand.tmp 14), type := 0, pos := "l13_sat.go:151", after := #[{ on := 1, ground := Ground.data }], guard := none }, { dst := some 16, op := Op.fieldAddr 53 (Operand.tmp 15) 1, type := 0, pos := "l13_sat.go:151", after := #[{ on := 2, ground := Ground.data }], guard := none }, { dst := some 17, op := Op.load 24 (Operand.tmp 16), type := 24, pos := "l13_sat.go:151", after := #[{ on := 3, ground := Ground.data }], guard := none }, { dst := some 18, op := Op.move (Operand.tmp 0), type := 42, pos := "l13_sat.go:151", after := #[], guard := none }, { dst := some 19, op := Op.nilCheck (Operand.tmp 18), type := 0, pos := "l13_sat.go:151", after := #[{ on := 5, ground := Ground.data }], guard := none }, { dst := some 20, op := Op.fieldAddr 53 (Operand.tmp 19) 2, type := 0, pos := "l13_sat.go:151", after := #[{ on := 6, ground := Ground.data }], guard := none }, { dst := some 21, op := Op.load 3 (Operand.tmp 20), type := 3, pos := "l13_sat.go:151", after := #[{ on := 7, ground := Ground.data }], guard := none }, { dst := some 22, op := Op.indexAddr 24 (Operand.tmp 17) (Operand.tmp 21), type := 0, pos := "l13_sat.go:151", after := #[{ on := 4, ground := Ground.data }, { on := 8, ground := Ground.data }], guard := none }, { dst := some 23, op := Op.load 3 (Operand.tmp 22), type := 3, pos := "l13_sat.go:151", after := #[{ on := 9, ground := Ground.data }], guard := none }, { dst := some 24, op := Op.unOp UnOp.neg 3 (Operand.tmp 23), type := 3, pos := "l13_sat.go:151", after := #[{ on := 10, ground := Ground.data }], guard := none }, { dst := some 25, op := Op.call { callee := Callee.value (Operand.func 45), args := #[Operand.tmp 13, Operand.tmp 24], argTypes := #[42, 3] }, type := 4, pos := "l13_sat.go:151", after := #[{ on := 0, ground := Ground.data }, { on := 11, ground := Ground.data }], guard := none }, { dst := some 26, op := Op.unOp UnOp.not 4 (Operand.tmp 25), type := 4, pos := "l13_sat.go:151", after := #[{ on := 12, ground := Ground.data }], guard := none }]
set_option maxHeartbeats 16000000 in
theorem foRow {b tg f tl tc : Nat} {z : Int} {wr : World} {E : Bool → World → Prop} {Q : Exit → Act → World → Prop} (hf : f < tl) (hz1 : -2048 ≤ z) (hz2 : z ≤ 2048) (HC1 : Hid (wr.cell? ⟨b, 1, none⟩ = some (.slice (some ⟨tg, 0, none⟩) tl tc))) (HC2 : Hid (wr.cell? ⟨b, 2, none⟩ = some (.int .i64 (f : Int)))) (HCZ : Hid (wr.cell? ⟨tg, f, none⟩ = some (.int .i64 z))) (HCALL : Hid (∀ V, Below wr.heap.size wr V → Calls Try.prog 45 #[.pointer (some ⟨b, 0, none⟩), .int .i64 (-z)] V fun e w' => ∃ b, e = .returned (.bool b) ∧ E b w'))
    (a0 : Act) (ha0 : a0.tmps.size = 39) (e0 : a0.eval (.tmp 0) = .pointer (some ⟨b, 0, none⟩))
    (hQ : ∀ a V c, a.tmps.size = a0.tmps.size → a.defers = a0.defers → (∀ t, t ∉ [13, 14, 15, 16, 17, 18, 19, 20, 21, 22, 23, 24, 25, 26] → a.eval (.tmp t) = a0.eval (.tmp t)) → a.eval (.tmp 26) = .bool (!c) → E c V → Q .normal a V) :
    (Code.region 2 foOps true).wp Try.prog Q a0 wr := by
  have p1 : (0 : Int) ≤ (f : Int) := by omega
  have p2 : (f : Int) < (tl : Int) := by omega
  refine wp_plan (GCl (foF b tg f tl tc z) 12 13 E) (JCl wr 12 13) (by kernel_rfl) 39 ha0 (by kernel_rfl) ?hj ?hs ?hf
  case hj => exact fun _ => bdr (brf wr)
  case hs =>
    refine ⟨?_, ?_, ?_, ?_, ?_, ?_, ?_, ?_, ?_, ?_, ?_, ?_, ?_, ?_, trivial⟩
    · exact sc_val (by decide) (by decide) (by simp [foOps]) (fun l a w hp hu => (und hp (k := 0) (j := 12) (by kernel_rfl) hu)) rfl (fun l a V hp hB ha => ⟨.pointer (some ⟨b, 0, none⟩), by
        have x0 := (ev_form a 0).trans (old hp 0 (v := .pointer (some ⟨b, 0, none⟩)) (by kernel_rfl) e0)
        go_simp, rfl⟩)
    · exact sc_val (by decide) (by decide) (by simp [foOps]) (fun l a w hp hu => (und hp (k := 11) (j := 12) (by kernel_rfl) (und hp (k := 10) (j := 11) (by kernel_rfl) (und hp (k := 9) (j := 10) (by kernel_rfl) (und hp (k := 4) (j := 9) (by kernel_rfl) (und hp (k := 3) (j := 4) (by kernel_rfl) (und hp (k := 2) (j := 3) (by kernel_rfl) (und hp (k := 1) (j := 2) (by kernel_rfl) hu)))))))) rfl (fun l a V hp hB ha => ⟨.pointer (some ⟨b, 0, none⟩), by
        have x0 := (ev_form a 0).trans (old hp 0 (v := .pointer (some ⟨b, 0, none⟩)) (by kernel_rfl) e0)
        go_simp, rfl⟩)
    · exact sc_val (by decide) (by decide) (by simp [foOps]) (fun l a w hp hu => (und hp (k := 11) (j := 12) (by kernel_rfl) (und hp (k := 10) (j := 11) (by kernel_rfl) (und hp (k := 9) (j := 10) (by kernel_rfl) (und hp (k := 4) (j := 9) (by kernel_rfl) (und hp (k := 3) (j := 4) (by kernel_rfl) (und hp (k := 2) (j := 3) (by kernel_rfl) hu))))))) rfl (fun l a V hp hB ha => ⟨.pointer (some ⟨b, 0, none⟩), by
        have x14 := (ev_form a 14).trans (show a.eval (.tmp 14) = .pointer (some ⟨b, 0, none⟩) from (knR hp ha 14 1 (by kernel_rfl) (by kernel_rfl)).1)
        go_simp, rfl⟩)
    · exact sc_val (by decide) (by decide) (by simp [foOps]) (fun l a w hp hu => (und hp (k := 11) (j := 12) (by kernel_rfl) (und hp (k := 10) (j := 11) (by kernel_rfl) (und hp (k := 9) (j := 10) (by kernel_rfl) (und hp (k := 4) (j := 9) (by kernel_rfl) (und hp (k := 3) (j := 4) (by kernel_rfl) hu)))))) rfl (fun l a V hp hB ha => ⟨.pointer (some ⟨b, 1, none⟩), by
        have x15 := (ev_form a 15).trans (show a.eval (.tmp 15) = .pointer (some ⟨b, 0, none⟩) from (knR hp ha 15 2 (by kernel_rfl) (by kernel_rfl)).1)
        go_simp, rfl⟩)
    · exact sc_val (by decide) (by decide) (by simp [foOps]) (fun l a w hp hu => (und hp (k := 11) (j := 12) (by kernel_rfl) (und hp (k := 10) (j := 11) (by kernel_rfl) (und hp (k := 9) (j := 10) (by kernel_rfl) (und hp (k := 4) (j := 9) (by kernel_rfl) hu))))) rfl (fun l a V hp hB ha => ⟨.slice (some ⟨tg, 0, none⟩) tl tc, by
        have x16 := (ev_form a 16).trans (show a.eval (.tmp 16) = .pointer (some ⟨b, 1, none⟩) from (knR hp ha 16 3 (by kernel_rfl) (by kernel_rfl)).1)
        have mq := cell_later hB (unhide HC1)
        go_simp, rfl⟩)
    · exact sc_val (by decide) (by decide) (by simp [foOps]) (fun l a w hp hu => (und hp (k := 11) (j := 12) (by kernel_rfl) (und hp (k := 10) (j := 11) (by kernel_rfl) (und hp (k := 9) (j := 10) (by kernel_rfl) (und hp (k := 8) (j := 9) (by kernel_rfl) (und hp (k := 7) (j := 8) (by kernel_rfl) (und hp (k := 6) (j := 7) (by kernel_rfl) (und hp (k := 5) (j := 6) (by kernel_rfl) hu)))))))) rfl (fun l a V hp hB ha => ⟨.pointer (some ⟨b, 0, none⟩), by
        have x0 := (ev_form a 0).trans (old hp 0 (v := .pointer (some ⟨b, 0, none⟩)) (by kernel_rfl) e0)
        go_simp, rfl⟩)
    · exact sc_val (by decide) (by decide) (by simp [foOps]) (fun l a w hp hu => (und hp (k := 11) (j := 12) (by kernel_rfl) (und hp (k := 10) (j := 11) (by kernel_rfl) (und hp (k := 9) (j := 10) (by kernel_rfl) (und hp (k := 8) (j := 9) (by kernel_rfl) (und hp (k := 7) (j := 8) (by kernel_rfl) (und hp (k := 6) (j := 7) (by kernel_rfl) hu))))))) rfl (fun l a V hp hB ha => ⟨.pointer (some ⟨b, 0, none⟩), by
        have x18 := (ev_form a 18).trans (show a.eval (.tmp 18) = .pointer (some ⟨b, 0, none⟩) from (knR hp ha 18 5 (by kernel_rfl) (by kernel_rfl)).1)
        go_simp, rfl⟩)
    · exact sc_val (by decide) (by decide) (by simp [foOps]) (fun l a w hp hu => (und hp (k := 11) (j := 12) (by kernel_rfl) (und hp (k := 10) (j := 11) (by kernel_rfl) (und hp (k := 9) (j := 10) (by kernel_rfl) (und hp (k := 8) (j := 9) (by kernel_rfl) (und hp (k := 7) (j := 8) (by kernel_rfl) hu)))))) rfl (fun l a V hp hB ha => ⟨.pointer (some ⟨b, 2, none⟩), by
        have x19 := (ev_form a 19).trans (show a.eval (.tmp 19) = .pointer (some ⟨b, 0, none⟩) from (knR hp ha 19 6 (by kernel_rfl) (by kernel_rfl)).1)
        go_simp, rfl⟩)
    · exact sc_val (by decide) (by decide) (by simp [foOps]) (fun l a w hp hu => (und hp (k := 11) (j := 12) (by kernel_rfl) (und hp (k := 10) (j := 11) (by kernel_rfl) (und hp (k := 9) (j := 10) (by kernel_rfl) (und hp (k := 8) (j := 9) (by kernel_rfl) hu))))) rfl (fun l a V hp hB ha => ⟨.int .i64 (f : Int), by
        have x20 := (ev_form a 20).trans (show a.eval (.tmp 20) = .pointer (some ⟨b, 2, none⟩) from (knR hp ha 20 7 (by kernel_rfl) (by kernel_rfl)).1)
        have mq := cell_later hB (unhide HC2)
        go_simp, rfl⟩)
    · exact sc_val (by decide) (by decide) (by simp [foOps]) (fun l a w hp hu => (und hp (k := 11) (j := 12) (by kernel_rfl) (und hp (k := 10) (j := 11) (by kernel_rfl) (und hp (k := 9) (j := 10) (by kernel_rfl) hu)))) rfl (fun l a V hp hB ha => ⟨.pointer (some ⟨tg, f, none⟩), by
        have x17 := (ev_form a 17).trans (show a.eval (.tmp 17) = .slice (some ⟨tg, 0, none⟩) tl tc from (knR hp ha 17 4 (by kernel_rfl) (by kernel_rfl)).1)
        have x21 := (ev_form a 21).trans (show a.eval (.tmp 21) = .int .i64 (f : Int) from (knR hp ha 21 8 (by kernel_rfl) (by kernel_rfl)).1)
        go_simp, rfl⟩)
    · exact sc_val (by decide) (by decide) (by simp [foOps]) (fun l a w hp hu => (und hp (k := 11) (j := 12) (by kernel_rfl) (und hp (k := 10) (j := 11) (by kernel_rfl) hu))) rfl (fun l a V hp hB ha => ⟨.int .i64 z, by
        have x22 := (ev_form a 22).trans (show a.eval (.tmp 22) = .pointer (some ⟨tg, f, none⟩) from (knR hp ha 22 9 (by kernel_rfl) (by kernel_rfl)).1)
        have mq := cell_later hB (unhide HCZ)
        go_simp, rfl⟩)
    · exact sc_val (by decide) (by decide) (by simp [foOps]) (fun l a w hp hu => (und hp (k := 11) (j := 12) (by kernel_rfl) hu)) rfl (fun l a V hp hB ha => ⟨.int .i64 (-z), by
        have x23 := (ev_form a 23).trans (show a.eval (.tmp 23) = .int .i64 z from (knR hp ha 23 10 (by kernel_rfl) (by kernel_rfl)).1)
        go_simp; exact IntWalk.i64_in _ ⟨by omega, by omega⟩, rfl⟩)
    · refine sc_call (f := 45) (by decide) (fun l a w hp hu => (und hp (k := 12) (j := 13) (by kernel_rfl) hu)) rfl (fun l a V hp hB ha => ⟨#[.pointer (some ⟨b, 0, none⟩), .int .i64 (-z)], ?_, unhide HCALL V hB⟩) (fun v => trivial)
      have x13 := (ev_form a 13).trans (show a.eval (.tmp 13) = .pointer (some ⟨b, 0, none⟩) from (knR hp ha 13 0 (by kernel_rfl) (by kernel_rfl)).1)
      have x24 := (ev_form a 24).trans (show a.eval (.tmp 24) = .int .i64 (-z) from (knR hp ha 24 11 (by kernel_rfl) (by kernel_rfl)).1)
      go_simp
    · exact sc_not (t := 25) (by decide) rfl (by kernel_rfl) rfl (fun a w b hb => by
        have x25 := (ev_form a 25).trans hb
        go_simp) (fun v => trivial)
  case hf =>
    intro l a V hp hall
    obtain ⟨c, hc, hE⟩ := (hp.good 13 _ 26 rfl rfl (hall 13 (by decide))).2.2 rfl
    exact hQ a V c hp.nt hp.df (fun t ht => hp.keep t (dstIn (by kernel_rfl) ht)) hc hE
end Go.Proofs.Ytonfbnbkhpabbaa
namespace Go.Proofs.Ytonfbnbkhpabbaa
open Go Go.RowKit Gs
set_option linter.unusedVariables false
set_option linter.unusedSimpArgs false
set_option maxRecDepth 100000
structure FR2 (s s' : FS) : Prop where
  b : s'.b = s.b
  vb : s'.vb = s.vb
  ob : s'.ob = s.ob
  mb : s'.mb = s.mb
  ms : s'.ms = s.ms
  rnd : s'.rnd = s.rnd
  brk : s'.brk = s.brk
  ids : s'.ids = s.ids
  ln : s'.ln = s.ln
  cap : s'.cap = s.cap
  t : ∃ ext, s'.t = s.t ++ ext
  fx : s'.fx = s.fx
theorem FR2.refl (s : FS) : FR2 s s := ⟨rfl, rfl, rfl, rfl, rfl, rfl, rfl, rfl, rfl, rfl, ⟨[], by simp⟩, rfl⟩
theorem FR2.then {a b c : FS} (h : FR2 a b) (k : FR b c) {f : Nat} : FR2 a { c with fol := f } := by
  obtain ⟨x, hx⟩ := h.t
  obtain ⟨y, hy⟩ := k.t
  exact ⟨k.b.trans h.b, k.vb.trans h.vb, k.ob.trans h.ob, k.mb.trans h.mb, k.ms.trans h.ms, k.rnd.trans h.rnd, k.brk.trans h.brk, k.ids.trans h.ids, k.ln.trans h.ln, k.cap.trans h.cap, ⟨x ++ y, by simp [hy, hx, List.append_assoc]⟩, k.fx.trans h.fx⟩
def folW (b : Nat) (w : World) : Nat := match w.cell? ⟨b, 2, none⟩ with
  | some (.int _ z) => z.toNat
  | _ => 0
theorem folW_eq {b f : Nat} {w : World} (h : w.cell? ⟨b, 2, none⟩ = some (.int .i64 (f : Int))) : folW b w = f := by unfold folW; rw [h]; simp
structure FO (ok : Prop) (B n : Nat) (w W : World) (s : FS) (Cl : List (List Int)) (A t0 : List Int) (tb : List (List Int)) (r : FS) (wr : World) : Prop where
  fm : FM B n none wr r
  bl : Below B w wr
  sz : W.heap.size ≤ wr.heap.size
  bw : B ≤ wr.heap.size
  fr : FR2 s r
  fl : r.fol ≤ r.t.length
  ls : LS ok n Cl A t0 tb (r.t.take r.fol) r.t r.vs r.ids r.cl r.ws
theorem FO.step {ok : Prop} {B n : Nat} {w W : World} {s : FS} {Cl : List (List Int)} {A t0 : List Int} {tb : List (List Int)} {r : FS} {wr V : World} {z : Int} (h : FO ok B n w W s Cl A t0 tb r wr) (hz : r.t[r.fol]? = some z) {e : Ending} {w' : World} (hq : VQ ok B n w V r Cl A t0 tb (r.t.take r.fol) (-z) e w') (hV : wr.heap.size ≤ V.heap.size) (he : e = .returned (.bool true)) : ∃ r', FM B n none w' r' ∧ r'.b = s.b ∧ r'.fol = r.fol ∧ (∀ w2 : World, w2.heap[s.b]? = some (.cells ({ r' with fol := r.fol + 1 }.flds n) 53) → (∀ k, k ≠ s.b → w2.heap[k]? = w'.heap[k]?) → Below B w w2 → w2.heap.size = w'.heap.size → FO ok B n w W s Cl A t0 tb { r' with fol := r.fol + 1 } w2) := by
  obtain ⟨hb', hs', r', hf', hfr, hor⟩ := hq
  have hls : LS ok n Cl A t0 tb (r.t.take r.fol ++ [-(-z)]) r'.t r'.vs r'.ids r'.cl r'.ws := by
    rcases hor with ⟨_, h1⟩ | ⟨h1, _⟩
    · exact h1
    · rw [he] at h1; cases h1
  have hlt : r.fol < r.t.length := (List.getElem?_eq_some_iff.1 hz).1
  obtain ⟨x, hx⟩ := hfr.t
  have e2 : r'.t.take (r.fol + 1) = r.t.take r.fol ++ [-(-z)] := by
    rw [hx, List.take_append_of_le_length (by omega), List.take_add_one, hz, Int.neg_neg]; rfl
  have hbs : r'.b = s.b := hfr.b.trans h.fr.b
  refine ⟨r', hf', hbs, hfr.fol, fun w2 h1 h2 h3 h4 => ⟨?_, h3, ?_, ?_, h.fr.then hfr, ?_, ?_⟩⟩
  · exact hf'.fld (r.fol + 1) r'.rnd r'.brk (by rw [hbs]; exact h1) (by rw [hbs]; exact h2)
  · have := h.sz; omega
  · have := h.bw; omega
  · show r.fol + 1 ≤ r'.t.length
    rw [hx, List.length_append]; omega
  · show LS ok n Cl A t0 tb (r'.t.take (r.fol + 1)) r'.t r'.vs r'.ids r'.cl r'.ws
    rw [e2]; exact hls
theorem FO.bad {ok : Prop} {B n : Nat} {w W : World} {s : FS} {Cl : List (List Int)} {A t0 : List Int} {tb : List (List Int)} {r : FS} {wr V : World} {z : Int} (h : FO ok B n w W s Cl A t0 tb r wr) {e : Ending} {w' : World} (hq : VQ ok B n w V r Cl A t0 tb (r.t.take r.fol) (-z) e w') (hV : wr.heap.size ≤ V.heap.size) (he : e = .returned (.bool false)) : (ok → Con Cl A) ∧ ∃ r', FO ok B n w W s Cl A t0 tb r' w' := by
  obtain ⟨hb', hs', r', hf', hfr, hor⟩ := hq
  obtain ⟨hcon, hls⟩ : (ok → Con Cl A) ∧ LS ok n Cl A t0 tb (r.t.take r.fol) r'.t r'.vs r'.ids r'.cl r'.ws := by
    rcases hor with ⟨h1, _⟩ | ⟨_, h1⟩
    · rw [he] at h1; cases h1
    · exact h1
  obtain ⟨x, hx⟩ := hfr.t
  have hl := h.fl
  have e2 : r'.t.take r'.fol = r.t.take r.fol := by rw [hfr.fol, hx, List.take_append_of_le_length hl]
  have h1 := h.sz
  have h2 := h.bw
  refine ⟨hcon, r', hf', hb', by omega, by omega, ?_, by rw [hfr.fol, hx, List.length_append]; omega, by rw [e2]; exact hls⟩
  exact h.fr.then (f := r'.fol) hfr
/-- What follow leaves. -/
def FOQ (ok : Prop) (B n : Nat) (w W : World) (s : FS) (Cl : List (List Int)) (A t0 : List Int) (tb : List (List Int)) (e : Ending) (w' : World) : Prop :=
  ∃ r, FO ok B n w W s Cl A t0 tb r w' ∧ ((e = .returned (.bool (!s.brk)) ∧ r.fol = r.t.length) ∨ (e = .returned (.bool false) ∧ (ok → Con Cl A)))
set_option maxHeartbeats 6400000 in
theorem iFollow {ok : Prop} {B n : Nat} {w W : World} {s : FS} {Cl : List (List Int)} {A t0 : List Int} {tb : List (List Int)} (h : FO ok B n w W s Cl A t0 tb s W) (hn : n ≤ 2048) : Calls Try.prog 33 #[.pointer (some ⟨s.b, 0, none⟩)] W (FOQ ok B n w W s Cl A t0 tb) := by
  have H := hide h
  clear h
  go_enter Try.func33, Try.ntmps33
  go_wp2
  go_loopw [2] (fun v2 wr => ∃ r, FO ok B n w W s Cl A t0 tb r wr) (fun v2 wr => n - folW s.b wr)
  case atStart => exact ⟨s, unhide H⟩
  case round =>
    obtain ⟨r, hfo⟩ := hrel
    clear H
    have q1 := hfo.fm.q1
    have q2 := hfo.fm.q2
    have q6 := hfo.fm.q6
    rw [hfo.fr.b] at q1 q2 q6
    rw [hfo.fr.brk] at q6
    obtain ⟨ta, tc, htv⟩ := hfo.fm.tshape
    rw [htv] at q1
    have hfl := hfo.fl
    have htl := hfo.ls.tr.len
    have HMU := hide (folW_eq q2)
    by_cases hlt : r.fol < r.t.length
    · obtain ⟨z, hz⟩ : ∃ z, r.t[r.fol]? = some z := ⟨_, List.getElem?_eq_getElem hlt⟩
      have hzm := List.mem_of_getElem? hz
      have hzl := hfo.ls.tr.lits z hzm
      have hgl : Lit n (-z) := by obtain ⟨a1, a2, a3⟩ := hzl; exact ⟨by omega, by omega, by omega⟩
      obtain ⟨tg, rfl, HCZ⟩ : ∃ tg, ta = some ⟨tg, 0, none⟩ ∧ Hid (wr.cell? ⟨tg, r.fol, none⟩ = some (.int .i64 z)) := by
        have ho := hfo.fm.ht
        rw [htv] at ho
        rcases id ho.2 with ⟨hv, hn0⟩ | ⟨tg, cap, cur, hv, _⟩
        · omega
        · injection hv with e1 e2 e3
          subst e1
          refine ⟨tg, rfl, hide ?_⟩
          have := World.ownsRow.cells ho (g := tg) rfl r.fol (.int .i64 z) (by unfold iL; rw [List.getElem?_map, hz]; rfl)
          rw [Addr.add_lit] at this
          simpa using this
      have HCALL : Hid (∀ V, Below wr.heap.size wr V → Calls Try.prog 45 #[.pointer (some ⟨s.b, 0, none⟩), .int .i64 (-z)] V fun e w' => ∃ b, e = .returned (.bool b) ∧ (∃ V, wr.heap.size ≤ V.heap.size ∧ VQ ok B n w V r Cl A t0 tb (r.t.take r.fol) (-z) (.returned (.bool b)) w')) := hide (fun V hV => by
        have hsz := hV.size
        have hbw := hfo.bw
        have hc := iVisit (hfo.fm.later hV) (hfo.bl.trans (hV.mono hfo.bw)) (by omega) hfo.ls hgl (by rw [Int.neg_neg]; exact hzm) hn
        rw [← hfo.fr.b]
        refine hc.mono ?_
        rintro e w' hq
        have hq2 := hq
        obtain ⟨_, _, _, _, _, hor⟩ := hq2
        rcases hor with ⟨rfl, _⟩ | ⟨rfl, _⟩
        · exact ⟨true, rfl, V, hsz, hq⟩
        · exact ⟨false, rfl, V, hsz, hq⟩)
      have HC1 := hide q1
      have HC2 := hide q2
      obtain ⟨a1, a2, a3⟩ := id hzl
      have zl1 : -2048 ≤ z := by omega
      have zl2 : z ≤ 2048 := by omega
      have i1 : (r.fol : Int) < (r.t.length : Int) := by omega
      have i2 : r.fol ≤ 2048 := by omega
      have HFO := hide hfo
      have HZ := hide hz
      have i3 : r.fol < n := by omega
      clear hfo hz hzm hzl hgl htv a1 a2 a3 hfl htl
      go_wp2
      go_quiet (fail)
      go_wp2_with fail
      have HB0 : Hid (∀ V, Below (wr.drewN nq).heap.size (wr.drewN nq) V → Below wr.heap.size wr V) := hide (fun V hV => (below_drewN (brf wr) nq).trans hV)
      refine foRow (E := fun b w' => ∃ V, wr.heap.size ≤ V.heap.size ∧ VQ ok B n w V r Cl A t0 tb (r.t.take r.fol) (-z) (.returned (.bool b)) w') hlt zl1 zl2 (hide (by simpa using unhide HC1)) (hide (by simpa using unhide HC2)) (hide (by simpa using unhide HCZ)) (hide (fun V hV => unhide HCALL V (unhide HB0 V hV))) _ rfl rfl ?_
      intro a V9 b hnt hdf hkeep hb hE
      obtain ⟨us, rfl, hus⟩ := putAll_of [13, 14, 15, 16, 17, 18, 19, 20, 21, 22, 23, 24, 25, 26] hnt hdf hkeep
      have h26 : us 26 = .bool (!b) := by rw [hus 26]; exact hb
      clear hnt hdf hkeep hus hb HCALL HB0
      simp only [putAll, List.foldl, Act.put, List.setIfInBounds_toArray, List.set_cons_zero, List.set_cons_succ, h26]
      generalize us 13 = z13 at *
      generalize us 14 = z14 at *
      generalize us 15 = z15 at *
      generalize us 16 = z16 at *
      generalize us 17 = z17 at *
      generalize us 18 = z18 at *
      generalize us 19 = z19 at *
      generalize us 20 = z20 at *
      generalize us 21 = z21 at *
      generalize us 22 = z22 at *
      generalize us 23 = z23 at *
      generalize us 24 = z24 at *
      generalize us 25 = z25 at *
      clear h26
      obtain ⟨V, hV, hq⟩ := hE
      cases b with
      | true =>
        obtain ⟨r', hf', hb', hfo', HX⟩ := (unhide HFO).step (unhide HZ) hq hV rfl
        have k2 := hf'.q2
        have kf := hf'.frz 2
        rw [hb', hfo'] at k2
        rw [hb'] at kf
        have HBL := hide hq.1
        have hlo := hf'.lo.1
        rw [hb'] at hlo
        have hhb := hf'.hb
        rw [hb'] at hhb
        have HNX : Hid (FO ok B n w W s Cl A t0 tb { r' with fol := r.fol + 1 } (V9.setCell ⟨s.b, 2, none⟩ (.int .i64 ((r.fol : Int) + 1)))) := hide (by
          refine HX _ ?_ (fun k hk => Below.heap_setCell V9 ⟨s.b, 2, none⟩ _ k hk) ((unhide HBL).setCell (p := ⟨s.b, 2, none⟩) hlo _) (by simp)
          rw [heap_set hhb]; rfl)
        clear HX hq hf' hhb
        go_wp2
        refine ⟨⟨_, unhide HNX⟩, ?_⟩
        have e1 : folW s.b (V9.setCell ⟨s.b, 2, none⟩ (.int .i64 ((r.fol : Int) + 1))) = r.fol + 1 := folW_eq (by have := (unhide HNX).fm.q2; rw [(unhide HNX).fr.b] at this; exact this)
        rw [unhide HMU, e1]
        omega
      | false =>
        obtain ⟨hcon, r', hfo'⟩ := (unhide HFO).bad hq hV rfl
        have HE : Hid (FOQ ok B n w W s Cl A t0 tb (.returned (.bool false)) V9) := hide ⟨r', hfo', .inr ⟨rfl, hcon⟩⟩
        clear hq hcon hfo'
        go_wp2
        exact bodyPost_ret (v := .bool false) (by simp [results, Try.results33, go_sem]) rfl (unhide HE)
    · have i1 : ¬ ((r.fol : Int) < (r.t.length : Int)) := by omega
      have HE : Hid (∀ k, FOQ ok B n w W s Cl A t0 tb (.returned (.bool (!s.brk))) (wr.drewN k)) := hide (fun k => ⟨r, ⟨hfo.fm.keep (fun _ _ _ hc => hc), below_drewN hfo.bl _, hfo.sz, hfo.bw, hfo.fr, hfo.fl, hfo.ls⟩, .inl ⟨rfl, by omega⟩⟩)
      clear hfo
      go_wp2
      go_quiet (fail)
      go_wp2
      exact bodyPost_ret (v := .bool (!s.brk)) (by simp [results, Try.results33, go_sem]) rfl (unhide HE _)
end Go.Proofs.Ytonfbnbkhpabbaa
