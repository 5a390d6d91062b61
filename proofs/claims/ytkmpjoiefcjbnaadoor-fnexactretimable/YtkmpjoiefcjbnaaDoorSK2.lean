/- The specification's NetOK, with the counts. -/
import Derived.Test.YtkmpjoiefcjbnaaDoorSK1
import Derived.Test.YtkmpjoiefcjbnaaDoorEQ
namespace Go.Proofs.YtkmpjoiefcjbnaaDoor
open Go.RowKit Gs
set_option linter.unusedVariables false
set_option maxRecDepth 100000
theorem sNetB_counts {n : Net} (h : countsB n = false) : false = sNetB n := by unfold sNetB; rw [h]; rfl
set_option maxHeartbeats 16000000 in
theorem sNetOK (n : Net) (u : List Value) (w : World) (hr : RNet w 0 n u) :
    Calls Tryd.prog 18 #[.agg u.toArray] w fun e w' => e = .returned (.bool (sNetB n)) ∧ Below w.heap.size w w' := by
  obtain ⟨v0, v1, v2, v3, v4, v5, rfl, h0, h1, h2, h3, h4, h5⟩ := hr
  show Calls Tryd.prog 18 #[.agg #[v0, v1, v2, v3, v4, v5]] w _
  by_cases hC : countsB n = true
  · have hc := hC
    unfold countsB at hc
    simp only [Bool.and_eq_true, decide_eq_true_eq] at hc
    obtain ⟨⟨⟨⟨⟨q2, q3⟩, q1⟩, q0⟩, q4⟩, q5⟩ := hc
    have E : sNetB n = (insB n && regsB n && sCellsTo n n.cells.length && nextsB n && outsB n && checksB n && snamesB n) := by unfold sNetB; rw [hC]; simp
    rw [E]
    exact sNetMain n v0 v1 v2 v3 v4 v5 w h0 h1 h2 h3 h4 h5 q0 q1 q2 q3 q4 q5 (fun hi hr => widths_of hi hr)
  · have E := sNetB_counts (n := n) (by simpa using hC)
    generalize sNetB n = NB at *
    subst E
    have hl0 := h0.len
    have hl1 := h1.len
    have hl2 := h2.len
    have hl3 := h3.len
    have hl4 := h4.len
    have hl5 := h5.len
    unfold maxLen at hl0 hl1 hl2 hl3 hl4 hl5
    obtain ⟨a0, c0, e0⟩ := h0.slice
    obtain ⟨a1, c1, e1⟩ := h1.slice
    obtain ⟨a2, c2, e2⟩ := h2.slice
    obtain ⟨a3, c3, e3⟩ := h3.slice
    obtain ⟨a4, c4, e4⟩ := h4.slice
    obtain ⟨a5, c5, e5⟩ := h5.slice
    subst e0 e1 e2 e3 e4 e5
    clear h0 h1 h2 h3 h4 h5
    have hq : ¬ (n.cells.length ≤ 4096 ∧ n.regs.length ≤ 256 ∧ n.clocks.length ≤ 8 ∧ n.ins.length ≤ 256 ∧ n.outs.length ≤ 256 ∧ n.checks.length ≤ 256) := by
      rintro ⟨q2, q3, q1, q0, q4, q5⟩
      apply hC
      unfold countsB
      simp [q0, q1, q2, q3, q4, q5]
    clear hC
    generalize n.ins.length = L0 at *
    generalize n.clocks.length = L1 at *
    generalize n.cells.length = L2 at *
    generalize n.regs.length = L3 at *
    generalize n.outs.length = L4 at *
    generalize n.checks.length = L5 at *
    by_cases q2 : L2 ≤ 4096
    · have r2 : decide ((4096 : Int) < (L2 : Int)) = false := decide_eq_false (by omega)
      by_cases q3 : L3 ≤ 256
      · have r3 : decide ((256 : Int) < (L3 : Int)) = false := decide_eq_false (by omega)
        by_cases q1 : L1 ≤ 8
        · have r1 : decide ((8 : Int) < (L1 : Int)) = false := decide_eq_false (by omega)
          by_cases q0 : L0 ≤ 256
          · have r0 : decide ((256 : Int) < (L0 : Int)) = false := decide_eq_false (by omega)
            by_cases q4 : L4 ≤ 256
            · have r4 : decide ((256 : Int) < (L4 : Int)) = false := decide_eq_false (by omega)
              have r5 : decide ((256 : Int) < (L5 : Int)) = true := decide_eq_true (by omega)
              clear hq q0 q1 q2 q3 q4
              go_enter Tryd.func18, Tryd.ntmps18
              go_wp2
              go_ret
              exact ⟨rfl, bal (brf w) _⟩
            · have r4 : decide ((256 : Int) < (L4 : Int)) = true := decide_eq_true (by omega)
              clear hq q0 q1 q2 q3 q4
              go_enter Tryd.func18, Tryd.ntmps18
              go_wp2
              go_ret
              exact ⟨rfl, bal (brf w) _⟩
          · have r0 : decide ((256 : Int) < (L0 : Int)) = true := decide_eq_true (by omega)
            clear hq q0 q1 q2 q3
            go_enter Tryd.func18, Tryd.ntmps18
            go_wp2
            go_ret
            exact ⟨rfl, bal (brf w) _⟩
        · have r1 : decide ((8 : Int) < (L1 : Int)) = true := decide_eq_true (by omega)
          clear hq q1 q2 q3
          go_enter Tryd.func18, Tryd.ntmps18
          go_wp2
          go_ret
          exact ⟨rfl, bal (brf w) _⟩
      · have r3 : decide ((256 : Int) < (L3 : Int)) = true := decide_eq_true (by omega)
        clear hq q2 q3
        go_enter Tryd.func18, Tryd.ntmps18
        go_wp2
        go_ret
        exact ⟨rfl, bal (brf w) _⟩
    · have r2 : decide ((4096 : Int) < (L2 : Int)) = true := decide_eq_true (by omega)
      clear hq q2
      go_enter Tryd.func18, Tryd.ntmps18
      go_wp2
      go_ret
      exact ⟨rfl, bal (brf w) _⟩
end Go.Proofs.YtkmpjoiefcjbnaaDoor
