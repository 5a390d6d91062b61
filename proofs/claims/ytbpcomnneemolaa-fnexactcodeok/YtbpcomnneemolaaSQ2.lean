/- The specification's CodeOK, with the counts. -/
import Derived.Test.YtbpcomnneemolaaST1
import Derived.Test.YtbpcomnneemolaaSR
namespace Go.Proofs.Ytbpcomnneemolaa
open Go.RowKit Gs
set_option linter.unusedVariables false
set_option maxRecDepth 100000
theorem sCodeOK (c : Code) (u : List Value) (w : World) (hr : RCode w 0 c u) :
    Calls Try.prog 5 #[.agg u.toArray] w fun e w' => e = .returned (.bool (sCode c)) ∧ Below w.heap.size w w' := by
  obtain ⟨v1, v2, v4, v5, v6, v7, v8, rfl, h1, h2, h4, h5, h6, h7, h8⟩ := hr
  show Calls Try.prog 5 #[.agg #[.int .i64 c.slots, v1, v2, .int .i64 c.clocks, v4, v5, v6, v7, v8]] w _
  cases hC : countsC c
  · have E : sCode c = false := by unfold sCode; rw [hC]; rfl
    rw [E]
    obtain ⟨a1, c1, rfl⟩ := h1.slice
    obtain ⟨a2, c2, rfl⟩ := h2.slice
    obtain ⟨a4, c4, rfl⟩ := h4.slice
    obtain ⟨a5, c5, rfl⟩ := h5.slice
    obtain ⟨a6, c6, rfl⟩ := h6.slice
    obtain ⟨a7, c7, rfl⟩ := h7.slice
    obtain ⟨a8, c8, rfl⟩ := h8.slice
    unfold countsC at hC
    by_cases q0 : (16384 : Int) < (c.instrs.length : Int)
    · exact sCount0 _ _ _ _ _ _ _ _ _ _ _ _ _ _ _ _ _ _ _ _ _ _ _ w (decide_eq_true q0)
    by_cases q1 : c.slots < 0
    · exact sCount1 _ _ _ _ _ _ _ _ _ _ _ _ _ _ _ _ _ _ _ _ _ _ _ w (decide_eq_false q0) (decide_eq_true q1)
    by_cases q2 : (16384 : Int) < c.slots
    · exact sCount2 _ _ _ _ _ _ _ _ _ _ _ _ _ _ _ _ _ _ _ _ _ _ _ w (decide_eq_false q0) (decide_eq_false q1) (decide_eq_true q2)
    by_cases q3 : (256 : Int) < (c.ins.length : Int)
    · exact sCount3 _ _ _ _ _ _ _ _ _ _ _ _ _ _ _ _ _ _ _ _ _ _ _ w (decide_eq_false q0) (decide_eq_false q1) (decide_eq_false q2) (decide_eq_true q3)
    by_cases q4 : (256 : Int) < (c.inits.length : Int)
    · exact sCount4 _ _ _ _ _ _ _ _ _ _ _ _ _ _ _ _ _ _ _ _ _ _ _ w (decide_eq_false q0) (decide_eq_false q1) (decide_eq_false q2) (decide_eq_false q3) (decide_eq_true q4)
    by_cases q5 : c.clocks < 0
    · exact sCount5 _ _ _ _ _ _ _ _ _ _ _ _ _ _ _ _ _ _ _ _ _ _ _ w (decide_eq_false q0) (decide_eq_false q1) (decide_eq_false q2) (decide_eq_false q3) (decide_eq_false q4) (decide_eq_true q5)
    by_cases q6 : (8 : Int) < c.clocks
    · exact sCount6 _ _ _ _ _ _ _ _ _ _ _ _ _ _ _ _ _ _ _ _ _ _ _ w (decide_eq_false q0) (decide_eq_false q1) (decide_eq_false q2) (decide_eq_false q3) (decide_eq_false q4) (decide_eq_false q5) (decide_eq_true q6)
    by_cases q7 : (256 : Int) < (c.outs.length : Int)
    · exact sCount7 _ _ _ _ _ _ _ _ _ _ _ _ _ _ _ _ _ _ _ _ _ _ _ w (decide_eq_false q0) (decide_eq_false q1) (decide_eq_false q2) (decide_eq_false q3) (decide_eq_false q4) (decide_eq_false q5) (decide_eq_false q6) (decide_eq_true q7)
    by_cases q8 : (256 : Int) < (c.checks.length : Int)
    · exact sCount8 _ _ _ _ _ _ _ _ _ _ _ _ _ _ _ _ _ _ _ _ _ _ _ w (decide_eq_false q0) (decide_eq_false q1) (decide_eq_false q2) (decide_eq_false q3) (decide_eq_false q4) (decide_eq_false q5) (decide_eq_false q6) (decide_eq_false q7) (decide_eq_true q8)
    by_cases q9 : (c.ticks.length : Int) = (c.inits.length : Int)
    · by_cases q10 : (c.nexts.length : Int) = (c.inits.length : Int)
      · exfalso
        rw [decide_eq_true (show c.instrs.length ≤ 16384 by omega), decide_eq_true (show 0 ≤ c.slots by omega), decide_eq_true (show c.slots ≤ 16384 by omega), decide_eq_true (show c.inits.length ≤ 256 by omega), decide_eq_true (show 0 ≤ c.clocks by omega), decide_eq_true (show c.clocks ≤ 8 by omega), decide_eq_true (show c.ins.length ≤ 256 by omega), decide_eq_true (show c.outs.length ≤ 256 by omega), decide_eq_true (show c.checks.length ≤ 256 by omega), decide_eq_true (show c.ticks.length = c.inits.length by omega), decide_eq_true (show c.nexts.length = c.inits.length by omega)] at hC
        cases hC
      · exact sCount10 _ _ _ _ _ _ _ _ _ _ _ _ _ _ _ _ _ _ _ _ _ _ _ w (decide_eq_false q0) (decide_eq_false q1) (decide_eq_false q2) (decide_eq_false q3) (decide_eq_false q4) (decide_eq_false q5) (decide_eq_false q6) (decide_eq_false q7) (decide_eq_false q8) (bne_eq_false_iff_eq.2 q9) (bne_iff_ne.2 q10)
    · exact sCount9 _ _ _ _ _ _ _ _ _ _ _ _ _ _ _ _ _ _ _ _ _ _ _ w (decide_eq_false q0) (decide_eq_false q1) (decide_eq_false q2) (decide_eq_false q3) (decide_eq_false q4) (decide_eq_false q5) (decide_eq_false q6) (decide_eq_false q7) (decide_eq_false q8) (bne_iff_ne.2 q9)
  · obtain ⟨⟨n, hn, hn2⟩, k1, k2, k3, k4, k5, k6, k7, k8, k9⟩ := countsC_open hC
    have E : sCode c = (c.ins.all wOK && initsS c && (match runS c c.instrs (List.replicate n 0) with | some ws => endsC c ws | none => false)) := by
      unfold sCode
      rw [hC, hn, Int.toNat_natCast, Bool.true_and]
      rfl
    rw [E]
    exact sCodeMain c v1 v2 v4 v5 v6 v7 v8 w h1 h2 h4 h5 h6 h7 h8 n hn hn2 k1 k2 k3 k4 k5 k6 k7 k8 k9
end Go.Proofs.Ytbpcomnneemolaa
