/- The program's watch: the region that puts a clause to a row. -/
import Derived.Test.YtonfbnbkhpabbaaP3
import Derived.Test.YtonfbnbkhpabbaaRW5
namespace Go.Proofs.Ytonfbnbkhpabbaa
open Go Go.RowKit Gs
set_option linter.unusedVariables false
set_option linter.unusedSimpArgs false
set_option maxRecDepth 100000
section
variable {P : Program} {ops : Array Oper} {a0 : Act} {F : Nat → Value → Prop} {F2 : Nat → World → Value → Prop} {w0 : World} {m n : Nat} {A : Value → World → Prop} {E : World → Prop}
/-- An operation that may stand behind the append, and reads what the append leaves alone. -/
theorem sar_floatR {k : Nat} {o : Oper} {t : Tmp} (hkm : k ≠ m) (hkn : k ≠ n) (hd : (ops[m]?).bind (·.dst) = some t) (hn : ∀ l a w, PA ops (GAr F F2 m n A) (JAr w0 m n A E) a0 l a w → l.getD k false = false → l.getD n false = false) (hg : o.guard = none) (h : ∀ l a w, PA ops (GAr F F2 m n A) (JAr w0 m n A E) a0 l a w → (Below w0.heap.size w0 w ∨ ∃ v, A v w) → (∀ e ∈ o.after, Region.binds .any e = true → l.getD e.on false = true) → ∃ x, (execOp a.eval o).run P w = .ok (.value x) w ∧ F k x ∧ F2 k w x) : Stp P ops (GAr F F2 m n A) (JAr w0 m n A E) a0 k o := by
  intro l a w hp hu ha
  have h2 := hn l a w hp (notDoneB hu)
  have hw : Below w0.heap.size w0 w ∨ ∃ v, A v w := by
    cases e : l.getD m false with
    | false => exact .inl (hp.j.1 e)
    | true =>
      obtain ⟨om, hom, hdm⟩ := Option.bind_eq_some_iff.1 hd
      exact .inr ⟨_, (hp.good m om t hom hdm e).2.2 rfl h2⟩
  obtain ⟨x, hr, hf, hf2⟩ := h l a w hp hw ha
  unfold opWr
  rw [if_pos (wanted_none hg)]
  refine .inl ⟨x, w, hr, x, rfl, ⟨fun e => ?_, fun e => ?_, fun e => ?_⟩, ⟨hf, fun _ => hf2, fun e => absurd e hkm⟩, fun j d hd hj hG => ⟨hG.1, fun e => ?_, fun e _ => hG.2.2 e h2⟩⟩
  · rw [set_oth hu (Ne.symm hkm)] at e; exact hp.j.1 e
  · rw [set_oth hu (Ne.symm hkn), h2] at e; cases e
  · rw [set_oth hu (Ne.symm hkn), h2] at e; cases e
  · rw [set_oth hu (Ne.symm hkm)] at e; exact hG.2.1 e
end
theorem anyCell {wr V : World} {row : Option Nat} {b o : Nat} {y : Value} (hc : wr.cell? ⟨b, o, none⟩ = some y) (h : Below wr.heap.size wr V ∨ ∃ V0, Below wr.heap.size wr V0 ∧ V0.grownBy V row) (hne : row = some b → False) : V.cell? ⟨b, o, none⟩ = some y := by
  rcases h with h | ⟨V0, h1, h2⟩
  · exact cell_later h hc
  · exact h2.cell (cell_later h1 hc) (fun e => hne e.symm)
theorem own_stay {B e k n : Nat} {v : Value} {xs : List Value} {W V : World} (h : W.ownsRow B e k v n xs) (hb : ∀ j, v.ownBlock = some j → V.heap[j]? = W.heap[j]?) : V.ownsRow B e k v n xs := ownsRow_keep h (fun g o hg hc => (hb g hg).trans hc)
def F2V (w0 : World) (k8 : Nat) (y : Value) : Nat → World → Value → Prop := fun k w v => k = k8 → ∃ M, v = .slice (some ⟨M, 0, none⟩) 1 1 ∧ w0.heap.size ≤ M ∧ w.cell? ⟨M, 0, none⟩ = some y
theorem F2V.lasts (w0 : World) (k8 : Nat) (y : Value) : Lasts (F2V w0 k8 y) := fun k w w' v hb h e => by
  obtain ⟨M, h1, h2, h3⟩ := h e
  exact ⟨M, h1, h2, cell_later hb h3⟩
def waF (b g H nr : Nat) (tv cv : Value) : Nat → Value → Prop
  | 0, v => v = .pointer (some ⟨b, 0, none⟩)
  | 1, v => v = .pointer (some ⟨b, 0, none⟩)
  | 2, v => v = .pointer (some ⟨b, 3, none⟩)
  | 3, v => v = .slice (some ⟨g, 0, none⟩) nr nr
  | 4, v => v = .int .i64 (H : Int)
  | 5, v => v = .pointer (some ⟨b, 0, none⟩)
  | 6, v => v = .pointer (some ⟨b, 0, none⟩)
  | 7, v => v = .pointer (some ⟨b, 3, none⟩)
  | 8, v => v = .slice (some ⟨g, 0, none⟩) nr nr
  | 9, v => v = .int .i64 (H : Int)
  | 10, v => v = .pointer (some ⟨g, H, none⟩)
  | 11, v => v = tv
  | 12, v => v = cv
  | 15, v => v = .pointer (some ⟨g, H, none⟩)
  | _, _ => True
def waOps : Array Oper := #[{ dst := some 9, op := Op.move (Operand.tmp 0), type := 42, pos := "l13_sat.go:128", after := #[], guard := none }, { dst := some 10, op := Op.nilCheck (Operand.tmp 9), type := 0, pos := "l13_sat.go:128", after := #[{ on := 0, ground := Ground.data }], guard := none }, { dst := some 11, op := Op.fieldAddr 53 (Operand.tmp 10) 3, type := 0, pos := "l13_sat.go:128", after := #[{ on := 1, ground := Ground.data }], guard := none }, { dst := some 12, op := Op.load 51 (Operand.tmp 11), type := 51, pos := "l13_sat.go:128", after := #[{ on := 2, ground := Ground.data }], guard := none }, { dst := some 13, op := Op.move (Operand.tmp 6), type := 3, pos := "l13_sat.go:128", after := #[], guard := none }, { dst := some 14, op := Op.move (Operand.tmp 0), type := 42, pos := "l13_sat.go:128", after := #[], guard := none }, { dst := some 15, op := Op.nilCheck (Operand.tmp 14), type := 0, pos := "l13_sat.go:128", after := #[{ on := 5, ground := Ground.data }], guard := none }, { dst := some 16, op := Op.fieldAddr 53 (Operand.tmp 15) 3, type := 0, pos := "l13_sat.go:128", after := #[{ on := 6, ground := Ground.data }], guard := none }, { dst := some 17, op := Op.load 51 (Operand.tmp 16), type := 51, pos := "l13_sat.go:128", after := #[{ on := 7, ground := Ground.data }], guard := none }, { dst := some 18, op := Op.move (Operand.tmp 6), type := 3, pos := "l13_sat.go:128", after := #[], guard := none }, { dst := some 19, op := Op.indexAddr 51 (Operand.tmp 17) (Operand.tmp 18), type := 0, pos := "l13_sat.go:128", after := #[{ on := 8, ground := Ground.data }, { on := 9, ground := Ground.data }], guard := none }, { dst := some 20, op := Op.load 22 (Operand.tmp 19), type := 22, pos := "l13_sat.go:128", after := #[{ on := 10, ground := Ground.data }], guard := none }, { dst := some 21, op := Op.move (Operand.tmp 2), type := 24, pos := "l13_sat.go:128", after := #[], guard := none }, { dst := some 22, op := Op.buildSlice 22 1 #[(0, Operand.tmp 21)], type := 22, pos := "l13_sat.go:128", after := #[{ on := 12, ground := Ground.data }], guard := none }, { dst := some 23, op := Op.call { callee := Callee.builtin Builtin.append, args := #[Operand.tmp 20, Operand.tmp 22], argTypes := #[22, 22] }, type := 22, pos := "l13_sat.go:128", after := #[{ on := 11, ground := Ground.data }, { on := 13, ground := Ground.data }], guard := none }, { dst := some 24, op := Op.indexAddr 51 (Operand.tmp 12) (Operand.tmp 13), type := 0, pos := "l13_sat.go:128", after := #[{ on := 3, ground := Ground.data }, { on := 4, ground := Ground.data }, { on := 0, ground := Ground.phase }, { on := 1, ground := Ground.phase }, { on := 2, ground := Ground.phase }, { on := 3, ground := Ground.phase }, { on := 4, ground := Ground.phase }, { on := 5, ground := Ground.phase }, { on := 6, ground := Ground.phase }, { on := 7, ground := Ground.phase }, { on := 8, ground := Ground.phase }, { on := 9, ground := Ground.phase }, { on := 10, ground := Ground.phase }, { on := 11, ground := Ground.phase }, { on := 12, ground := Ground.phase }, { on := 13, ground := Ground.phase }, { on := 14, ground := Ground.phase }], guard := none }, { dst := none, op := Op.store 22 (Operand.tmp 24) (Operand.tmp 23), type := 0, pos := "l13_sat.go:128", after := #[{ on := 15, ground := Ground.data }, { on := 14, ground := Ground.data }, { on := 14, ground := Ground.chain }, { on := 0, ground := Ground.phase }, { on := 1, ground := Ground.phase }, { on := 2, ground := Ground.phase }, { on := 3, ground := Ground.phase }, { on := 4, ground := Ground.phase }, { on := 5, ground := Ground.phase }, { on := 6, ground := Ground.phase }, { on := 7, ground := Ground.phase }, { on := 8, ground := Ground.phase }, { on := 9, ground := Ground.phase }, { on := 10, ground := Ground.phase }, { on := 11, ground := Ground.phase }, { on := 12, ground := Ground.phase }, { on := 13, ground := Ground.phase }, { on := 14, ground := Ground.phase }], guard := none }]
set_option maxHeartbeats 16000000 in
theorem waRow {b g H nr N : Nat} {tv cv : Value} {xs : List Value} {cur : Array Value} {wr : World} {Q : Exit → Act → World → Prop} (HTV : Hid (wr.ownsRow N 24 1 tv xs.length xs)) (HAL : Hid (xs.length ≤ 1048576)) (hH : H < nr) (HSZ : Hid (N ≤ wr.heap.size)) (HC3 : Hid (wr.cell? ⟨b, 3, none⟩ = some (.slice (some ⟨g, 0, none⟩) nr nr))) (HCH : Hid (wr.cell? ⟨g, H, none⟩ = some tv)) (HGB : Hid (wr.heap[g]? = some (.cells cur 22))) (HNB : Hid (∀ k, tv.ownBlock = some k → k ≠ b ∧ k ≠ g)) (htv : ∃ a l c, tv = .slice a l c) (hcv : ∃ a l c, cv = .slice a l c)
    (a0 : Act) (ha0 : a0.tmps.size = 25) (e0 : a0.eval (.tmp 0) = .pointer (some ⟨b, 0, none⟩)) (e2 : a0.eval (.tmp 2) = cv) (e6 : a0.eval (.tmp 6) = .int .i64 (H : Int))
    (hQ : ∀ a V V1 V0 v, a.tmps.size = a0.tmps.size → a.defers = a0.defers → V1.ownsRow N 24 1 v (xs.length + 1) (xs ++ [cv]) → Below wr.heap.size wr V0 → V0.grownBy V1 tv.ownBlock → (v.ownBlock = tv.ownBlock ∨ v.ownBlock = some V0.heap.size) → V = V1.setCell ⟨g, H, none⟩ v → Q .normal a V) :
    (Code.region 1 waOps true).wp Try.prog Q a0 wr := by
  obtain ⟨i0, hi, hz0, hz1, hz2⟩ := info_parts info28
  have HI := hide (And.intro hi (And.intro hz0 (And.intro hz1 hz2)))
  obtain ⟨ta, tl, tc, htv⟩ := htv
  obtain ⟨va, vl, vc, hcv⟩ := hcv
  have j1 : (0 : Int) ≤ (H : Int) := by omega
  have j2 : (H : Int) < (nr : Int) := by omega
  clear hi hz0 hz1 hz2
  refine wp_plan (GAr (waF b g H nr tv cv) (F2V wr 13 cv) 14 16 (fun v V => V.ownsRow N 24 1 v (xs.length + 1) (xs ++ [cv]) ∧ ∃ V0, Below wr.heap.size wr V0 ∧ V0.grownBy V tv.ownBlock ∧ (v.ownBlock = tv.ownBlock ∨ v.ownBlock = some V0.heap.size))) (JAr wr 14 16 (fun v V => V.ownsRow N 24 1 v (xs.length + 1) (xs ++ [cv]) ∧ ∃ V0, Below wr.heap.size wr V0 ∧ V0.grownBy V tv.ownBlock ∧ (v.ownBlock = tv.ownBlock ∨ v.ownBlock = some V0.heap.size)) (fun V' => ∃ V v, (fun v V => V.ownsRow N 24 1 v (xs.length + 1) (xs ++ [cv]) ∧ ∃ V0, Below wr.heap.size wr V0 ∧ V0.grownBy V tv.ownBlock ∧ (v.ownBlock = tv.ownBlock ∨ v.ownBlock = some V0.heap.size)) v V ∧ V' = V.setCell ⟨g, H, none⟩ v)) (by kernel_rfl) 25 ha0 (by kernel_rfl) ?hj ?hs ?hf
  case hj => exact JAr.start (bdr (brf wr))
  case hs =>
    refine ⟨?_, ?_, ?_, ?_, ?_, ?_, ?_, ?_, ?_, ?_, ?_, ?_, ?_, ?_, ?_, ?_, ?_, trivial⟩
    · exact sar_float (by decide) (by decide) (fun l a w hp hu => (und hp (k := 0) (j := 16) (by kernel_rfl) hu)) rfl (fun l a V hp ha => ⟨.pointer (some ⟨b, 0, none⟩), by
        have x0 := (ev_form a 0).trans (old hp 0 (v := .pointer (some ⟨b, 0, none⟩)) (by kernel_rfl) e0)
        go_simp, rfl, fun e => absurd e (by decide)⟩)
    · exact sar_float (by decide) (by decide) (fun l a w hp hu => (und hp (k := 1) (j := 16) (by kernel_rfl) hu)) rfl (fun l a V hp ha => ⟨.pointer (some ⟨b, 0, none⟩), by
        have x9 := (ev_form a 9).trans (show a.eval (.tmp 9) = .pointer (some ⟨b, 0, none⟩) from (knR hp ha 9 0 (by kernel_rfl) (by kernel_rfl)).1)
        go_simp, rfl, fun e => absurd e (by decide)⟩)
    · exact sar_float (by decide) (by decide) (fun l a w hp hu => (und hp (k := 2) (j := 16) (by kernel_rfl) hu)) rfl (fun l a V hp ha => ⟨.pointer (some ⟨b, 3, none⟩), by
        have x10 := (ev_form a 10).trans (show a.eval (.tmp 10) = .pointer (some ⟨b, 0, none⟩) from (knR hp ha 10 1 (by kernel_rfl) (by kernel_rfl)).1)
        go_simp, rfl, fun e => absurd e (by decide)⟩)
    · exact sar_floatR (t := 23) (by decide) (by decide) rfl (fun l a w hp hu => (und hp (k := 3) (j := 16) (by kernel_rfl) hu)) rfl (fun l a V hp hV ha => ⟨.slice (some ⟨g, 0, none⟩) nr nr, by
        have x11 := (ev_form a 11).trans (show a.eval (.tmp 11) = .pointer (some ⟨b, 3, none⟩) from (knR hp ha 11 2 (by kernel_rfl) (by kernel_rfl)).1)
        have mq := anyCell (unhide HC3) (hV.imp id (fun ⟨v, _, V0, a, b, _⟩ => ⟨V0, a, b⟩)) (fun e => (unhide HNB b e).1 rfl)
        go_simp, rfl, fun e => absurd e (by decide)⟩)
    · exact sar_float (by decide) (by decide) (fun l a w hp hu => (und hp (k := 4) (j := 16) (by kernel_rfl) hu)) rfl (fun l a V hp ha => ⟨.int .i64 (H : Int), by
        have x6 := (ev_form a 6).trans (old hp 6 (v := .int .i64 (H : Int)) (by kernel_rfl) e6)
        go_simp, rfl, fun e => absurd e (by decide)⟩)
    · exact sar_val (by decide) (by decide) (fun l a w hp hu => ⟨(und hp (k := 11) (j := 14) (by kernel_rfl) (und hp (k := 10) (j := 11) (by kernel_rfl) (und hp (k := 8) (j := 10) (by kernel_rfl) (und hp (k := 7) (j := 8) (by kernel_rfl) (und hp (k := 6) (j := 7) (by kernel_rfl) (und hp (k := 5) (j := 6) (by kernel_rfl) hu)))))), (und hp (k := 5) (j := 16) (by kernel_rfl) hu)⟩) rfl (fun l a V hp h1 hB ha => ⟨.pointer (some ⟨b, 0, none⟩), by
        have x0 := (ev_form a 0).trans (old hp 0 (v := .pointer (some ⟨b, 0, none⟩)) (by kernel_rfl) e0)
        go_simp, rfl, fun e => absurd e (by decide)⟩)
    · exact sar_val (by decide) (by decide) (fun l a w hp hu => ⟨(und hp (k := 11) (j := 14) (by kernel_rfl) (und hp (k := 10) (j := 11) (by kernel_rfl) (und hp (k := 8) (j := 10) (by kernel_rfl) (und hp (k := 7) (j := 8) (by kernel_rfl) (und hp (k := 6) (j := 7) (by kernel_rfl) hu))))), (und hp (k := 6) (j := 16) (by kernel_rfl) hu)⟩) rfl (fun l a V hp h1 hB ha => ⟨.pointer (some ⟨b, 0, none⟩), by
        have x14 := (ev_form a 14).trans (show a.eval (.tmp 14) = .pointer (some ⟨b, 0, none⟩) from (knR hp ha 14 5 (by kernel_rfl) (by kernel_rfl)).1)
        go_simp, rfl, fun e => absurd e (by decide)⟩)
    · exact sar_val (by decide) (by decide) (fun l a w hp hu => ⟨(und hp (k := 11) (j := 14) (by kernel_rfl) (und hp (k := 10) (j := 11) (by kernel_rfl) (und hp (k := 8) (j := 10) (by kernel_rfl) (und hp (k := 7) (j := 8) (by kernel_rfl) hu)))), (und hp (k := 7) (j := 16) (by kernel_rfl) hu)⟩) rfl (fun l a V hp h1 hB ha => ⟨.pointer (some ⟨b, 3, none⟩), by
        have x15 := (ev_form a 15).trans (show a.eval (.tmp 15) = .pointer (some ⟨b, 0, none⟩) from (knR hp ha 15 6 (by kernel_rfl) (by kernel_rfl)).1)
        go_simp, rfl, fun e => absurd e (by decide)⟩)
    · exact sar_val (by decide) (by decide) (fun l a w hp hu => ⟨(und hp (k := 11) (j := 14) (by kernel_rfl) (und hp (k := 10) (j := 11) (by kernel_rfl) (und hp (k := 8) (j := 10) (by kernel_rfl) hu))), (und hp (k := 8) (j := 16) (by kernel_rfl) hu)⟩) rfl (fun l a V hp h1 hB ha => ⟨.slice (some ⟨g, 0, none⟩) nr nr, by
        have x16 := (ev_form a 16).trans (show a.eval (.tmp 16) = .pointer (some ⟨b, 3, none⟩) from (knR hp ha 16 7 (by kernel_rfl) (by kernel_rfl)).1)
        have mq := cell_later hB (unhide HC3)
        go_simp, rfl, fun e => absurd e (by decide)⟩)
    · exact sar_val (by decide) (by decide) (fun l a w hp hu => ⟨(und hp (k := 11) (j := 14) (by kernel_rfl) (und hp (k := 10) (j := 11) (by kernel_rfl) (und hp (k := 9) (j := 10) (by kernel_rfl) hu))), (und hp (k := 9) (j := 16) (by kernel_rfl) hu)⟩) rfl (fun l a V hp h1 hB ha => ⟨.int .i64 (H : Int), by
        have x6 := (ev_form a 6).trans (old hp 6 (v := .int .i64 (H : Int)) (by kernel_rfl) e6)
        go_simp, rfl, fun e => absurd e (by decide)⟩)
    · exact sar_val (by decide) (by decide) (fun l a w hp hu => ⟨(und hp (k := 11) (j := 14) (by kernel_rfl) (und hp (k := 10) (j := 11) (by kernel_rfl) hu)), (und hp (k := 10) (j := 16) (by kernel_rfl) hu)⟩) rfl (fun l a V hp h1 hB ha => ⟨.pointer (some ⟨g, H, none⟩), by
        have x17 := (ev_form a 17).trans (show a.eval (.tmp 17) = .slice (some ⟨g, 0, none⟩) nr nr from (knR hp ha 17 8 (by kernel_rfl) (by kernel_rfl)).1)
        have x18 := (ev_form a 18).trans (show a.eval (.tmp 18) = .int .i64 (H : Int) from (knR hp ha 18 9 (by kernel_rfl) (by kernel_rfl)).1)
        go_simp, rfl, fun e => absurd e (by decide)⟩)
    · exact sar_val (by decide) (by decide) (fun l a w hp hu => ⟨(und hp (k := 11) (j := 14) (by kernel_rfl) hu), (und hp (k := 11) (j := 16) (by kernel_rfl) hu)⟩) rfl (fun l a V hp h1 hB ha => ⟨tv, by
        have x19 := (ev_form a 19).trans (show a.eval (.tmp 19) = .pointer (some ⟨g, H, none⟩) from (knR hp ha 19 10 (by kernel_rfl) (by kernel_rfl)).1)
        have mq := cell_later hB (unhide HCH)
        go_simp, rfl, fun e => absurd e (by decide)⟩)
    · exact sar_val (by decide) (by decide) (fun l a w hp hu => ⟨(und hp (k := 13) (j := 14) (by kernel_rfl) (und hp (k := 12) (j := 13) (by kernel_rfl) hu)), (und hp (k := 12) (j := 16) (by kernel_rfl) hu)⟩) rfl (fun l a V hp h1 hB ha => ⟨cv, by
        have x2 := (ev_form a 2).trans (old hp 2 (v := cv) (by kernel_rfl) e2)
        go_simp, rfl, fun e => absurd e (by decide)⟩)
    · exact sar_new (F2V.lasts _ _ _) (by decide) (by decide) (fun l a w hp hu => ⟨(und hp (k := 13) (j := 14) (by kernel_rfl) hu), (und hp (k := 13) (j := 16) (by kernel_rfl) hu)⟩) rfl (fun l a V hp h1 hB ha => ⟨.slice (some ⟨V.heap.size, 0, none⟩) 1 1, .cells #[cv] 24, by
        have x21 := (ev_form a 21).trans (show a.eval (.tmp 21) = cv from (knR hp ha 21 12 (by kernel_rfl) (by kernel_rfl)).1)
        go_simp, trivial, fun _ => ⟨V.heap.size, rfl, hB.size, by rw [World.cell?_alloc_new]; rfl⟩⟩)
    · refine sar_app (by decide) (fun l a w hp hu => (und hp (k := 14) (j := 16) (by kernel_rfl) hu)) rfl (fun l a V hp h1 hB ha => ?_)
      have hv1 : a.eval (.tmp 20) = tv := (knR hp ha 20 11 (by kernel_rfl) (by kernel_rfl)).1
      obtain ⟨M1, hv2, hM, hMc⟩ := (knR hp ha 22 13 (by kernel_rfl) (by kernel_rfl)).2.1 h1 rfl
      have hot := unhide HTV
      have hot2 := own_stay hot (V := V) (fun j hj => hB.block j (heap_lt (own_ty hot hj).choose_spec))
      obtain ⟨v', w', hr, h2, h3, _, h5⟩ := run_append_own_at (P := Try.prog) V N 22 22 24 i0 (.slice none 0 0) 1 24 Try.underlying22 (unhide HI).1 (unhide HI).2.1 (unhide HI).2.2.1 (unhide HI).2.2.2 rfl (by decide) tv xs.length _ hot2 ⟨M1, 0, none⟩ 1 1 [cv] rfl (by
        intro j u hj
        match j, hj with
        | 0, hj => simp at hj; subst hj; simpa [Addr.add] using hMc
        | j + 1, hj => simp at hj) (by intro u hu; simp at hu; subst hu; subst hcv; rfl) (by have := unhide HAL; unfold maxLen; omega) (by have := unhide HAL; omega) (by have h1 := hB.size; have h2 := unhide HSZ; omega)
      refine ⟨v', w', ?_, ⟨h2, V, hB, h3, h5⟩, trivial⟩
      unfold execOp
      simp only [resolve, invoke, builtin, Sem.run_bind, Sem.run_pure, Result.andThen_ok, List.map_toArray, List.map_cons, List.map_nil, hv1, hv2, hr]
    · exact sar_float (by decide) (by decide) (fun l a w hp hu => (und hp (k := 15) (j := 16) (by kernel_rfl) hu)) rfl (fun l a V hp ha => ⟨.pointer (some ⟨g, H, none⟩), by
        have x12 := (ev_form a 12).trans (show a.eval (.tmp 12) = .slice (some ⟨g, 0, none⟩) nr nr from (knR hp ha 12 3 (by kernel_rfl) (by kernel_rfl)).1)
        have x13 := (ev_form a 13).trans (show a.eval (.tmp 13) = .int .i64 (H : Int) from (knR hp ha 13 4 (by kernel_rfl) (by kernel_rfl)).1)
        go_simp, rfl, fun e => absurd e (by decide)⟩)
    · refine sar_last (t := 23) (by decide) rfl rfl (by kernel_rfl) (fun l a V hp hA ha => ?_) trivial
      have x24 := (ev_form a 24).trans (show a.eval (.tmp 24) = .pointer (some ⟨g, H, none⟩) from (knR hp ha 24 15 (by kernel_rfl) (by kernel_rfl)).1)
      have x23 := ev_form a 23
      obtain ⟨h1, V0, hV0, hgr, h5⟩ := id hA
      have m1 := hgr.cell (cell_later hV0 (unhide HCH)) (fun e => (unhide HNB g e.symm).2 rfl)
      have m2 : V.frozen? ⟨g, H, none⟩ = false := by simp [World.frozen?, (hgr.block g (Nat.lt_of_lt_of_le (World.block_lt_of_cell? _ _ (unhide HCH)) hV0.size) (fun e => (unhide HNB g e.symm).2 rfl)), (hV0.block g (World.block_lt_of_cell? _ _ (unhide HCH))), unhide HGB]
      generalize a.eval (.tmp 23) = tv' at *
      obtain ⟨sa, sc, rfl⟩ := own_shape h1
      exact ⟨V.setCell ⟨g, H, none⟩ (.slice sa (xs.length + 1) sc), by clear hA h1 hgr hV0 h5; go_simp, ⟨V, _, hA, rfl⟩⟩
  case hf =>
    intro l a V hp hall
    obtain ⟨V1, v, ⟨h1, V0, hV0, hgr, h5⟩, hV⟩ := hp.j.2.1 (hall 16 (by decide))
    exact hQ a V V1 V0 v hp.nt hp.df h1 hV0 hgr h5 hV
end Go.Proofs.Ytonfbnbkhpabbaa
namespace Go.Proofs.Ytonfbnbkhpabbaa
open Go Go.RowKit Gs
set_option linter.unusedVariables false
set_option linter.unusedSimpArgs false
set_option maxRecDepth 100000
theorem svA_at {n : Nat} {sv : Nat → Value} {p : Nat} (h : p < 2 * n + 2) : (svA n sv)[p]? = some (sv p) := by
  unfold svA
  simp [List.getElem?_range h]
theorem FM.svq {B n : Nat} {ex : Option Nat} {W : World} {s : FS} (h : FM B n ex W s) {p : Nat} (hp : p < 2 * n + 2) : W.cell? ⟨s.ob, p, none⟩ = some (s.sv p) := by
  simp only [World.cell?, h.ho]; exact svA_at hp
set_option maxHeartbeats 6400000 in
theorem iWatch {B n : Nat} {ex : Option Nat} {w W : World} {s : FS} (h : FM B n ex W s) (hbw : Below B w W) (hBW : B ≤ W.heap.size) {l : Int} (hl : Lit n l) (hex : ex ≠ some (plN l)) (i : Nat) (hlen : (s.ws l).length ≤ 1048576) (hn : n ≤ 2048) : Calls Try.prog 44 #[.pointer (some ⟨s.b, 0, none⟩), .int .i64 l, hd s.ln s.cap i] W fun e w' => e = .returned (.tuple #[]) ∧ Below B w w' ∧ W.heap.size ≤ w'.heap.size ∧ ∃ v', FM B n ex w' { s with sv := upV s.sv (plN l) v', ws := upW s.ws l (s.ws l ++ [i]) } := by
  have hpl := plN_lt hl
  have HPL := hide (iPl n l W hl hn)
  have hrow := h.hw (plN l) hpl hex
  rw [ltP_plN] at hrow
  have HTV : Hid (W.ownsRow B 24 1 (s.sv (plN l)) ((s.ws l).map (hd s.ln s.cap)).length ((s.ws l).map (hd s.ln s.cap))) := hide (by rw [List.length_map]; exact hrow)
  have HAL : Hid (((s.ws l).map (hd s.ln s.cap)).length ≤ 1048576) := hide (by rw [List.length_map]; exact hlen)
  have HSZ := hide hBW
  have HC3 := hide h.q3
  have HCH := hide (h.svq hpl)
  have HGB := hide h.ho
  have HNB : Hid (∀ k, (s.sv (plN l)).ownBlock = some k → k ≠ s.b ∧ k ≠ s.ob) := hide (fun k hk => by
    obtain ⟨_, o, h2⟩ := h.d5 _ k hpl hk
    exact ⟨ty_ne h2 h.hb (by decide), ty_ne h2 h.ho (by decide)⟩)
  have htv : ∃ a m c, s.sv (plN l) = .slice a m c := by
    obtain ⟨a, c, e⟩ := own_shape hrow
    exact ⟨a, _, c, e⟩
  have HF := hide h
  have HB := hide hbw
  clear h hbw hBW hrow
  go_enter Try.func44, Try.ntmps44
  go_wp2_with fail
  refine (unhide HPL).mono ?_
  rintro e W1 ⟨rfl, hw⟩
  have hw' := hw.symm
  subst hw'
  go_wp2_with fail
  refine waRow HTV HAL hpl HSZ HC3 HCH HGB HNB htv ⟨_, _, _, rfl⟩ _ rfl rfl rfl rfl ?_
  intro a V V1 V0 v hnt hdf hOI hV0 hgr hob hV
  subst hV
  have hF0 := (unhide HF).later hV0
  have hsz := hV0.size
  rw [List.length_map] at hOI
  have hR := hF0.row (lit := l) (i := i) (v' := v) hl hex hOI hgr hob (by have := unhide HSZ; omega)
  have hg2 := hgr.size
  refine bodyPost_end (v := .tuple #[]) (by simp [results, Try.results44, go_sem]) hdf ⟨rfl, ?_, by simp; omega, v, hR⟩
  have b0 : Below B w V0 := (unhide HB).trans (hV0.mono (unhide HSZ))
  exact (b0.grown hgr (by have := unhide HSZ; omega) (fun j hj => (World.ownsRow.lt (unhide HTV) j hj).1)).setCell (p := ⟨s.ob, plN l, none⟩) (unhide HF).lo.2.2.1 _
end Go.Proofs.Ytonfbnbkhpabbaa
