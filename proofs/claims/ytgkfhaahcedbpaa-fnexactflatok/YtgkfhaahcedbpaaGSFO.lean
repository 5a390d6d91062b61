/- The specification's st, however deep. -/
import Derived.Test.YtgkfhaahcedbpaaGSF2
import Derived.Test.YtgkfhaahcedbpaaSS1k1
import Derived.Test.YtgkfhaahcedbpaaSS1k2
import Derived.Test.YtgkfhaahcedbpaaSS1k3a
import Derived.Test.YtgkfhaahcedbpaaSS1k3b
import Derived.Test.YtgkfhaahcedbpaaSS1k3c
import Derived.Test.YtgkfhaahcedbpaaSS1k4a
import Derived.Test.YtgkfhaahcedbpaaSS1k4b
import Derived.Test.YtgkfhaahcedbpaaSS1k4c
import Derived.Test.YtgkfhaahcedbpaaSS1k5
import Derived.Test.YtgkfhaahcedbpaaSFA
import Derived.Test.YtgkfhaahcedbpaaSFB
namespace Go.Proofs.Ytgkfhaahcedbpaa
open Go Go.RowKit Gs
set_option linter.unusedVariables false
set_option linter.unusedSimpArgs false
set_option maxRecDepth 100000

section
variable (sg : List Signal) (w0 : World) (sv pv : Value) (T : TypeId) (hsg : RS 6 RSignal w0 0 sg sv) (hsl : sg.length ≤ 1048576) (hsw : ∀ g ∈ sg, 1 ≤ g.width ∧ g.width ≤ 64)
include hsg hsl hsw
theorem sSt1 : ∀ d, StC1 sg w0 sv pv T d
  | 0 => fun x u deep k W hr => hr.elim
  | d + 1 => sStStep1 sg w0 sv pv T d hsg hsl hsw (sExAll sg w0 sv pv T hsg hsl d) (sSt1 d)
theorem sSt2 : ∀ d, StC sg 2 w0 sv pv T d
  | 0 => fun x u deep k W hr => hr.elim
  | d + 1 => sStStep2 sg w0 sv pv T d hsg hsl hsw (sExAll sg w0 sv pv T hsg hsl d) (sSt2 d)
theorem sSt3 : ∀ d, StC sg 3 w0 sv pv T d
  | 0 => fun x u deep k W hr => hr.elim
  | d + 1 => fun x u deep k W hr h1 h2 h3 h4 h5 => by
    by_cases c2 : x.kind = 2
    · exact sStStep3k2 sg w0 sv pv T d hsg hsl hsw (sExAll sg w0 sv pv T hsg hsl d) (sSt3 d) x u deep k W c2 hr h1 h2 h3 h4 h5
    by_cases c3 : x.kind = 3
    · exact sStStep3k3 sg w0 sv pv T d hsg hsl hsw (sExAll sg w0 sv pv T hsg hsl d) (sSt3 d) x u deep k W c3 hr h1 h2 h3 h4 h5
    exact sStStep3k0 sg w0 sv pv T d hsg hsl hsw (sExAll sg w0 sv pv T hsg hsl d) (sSt3 d) x u deep k W ⟨c2, c3⟩ hr h1 h2 h3 h4 h5
theorem sSt4 : ∀ d, StC sg 4 w0 sv pv T d
  | 0 => fun x u deep k W hr => hr.elim
  | d + 1 => fun x u deep k W hr h1 h2 h3 h4 h5 => by
    by_cases c2 : x.kind = 2
    · exact sStStep4k2 sg w0 sv pv T d hsg hsl hsw (sExAll sg w0 sv pv T hsg hsl d) (sSt4 d) x u deep k W c2 hr h1 h2 h3 h4 h5
    by_cases c3 : x.kind = 3
    · exact sStStep4k3 sg w0 sv pv T d hsg hsl hsw (sExAll sg w0 sv pv T hsg hsl d) (sSt4 d) x u deep k W c3 hr h1 h2 h3 h4 h5
    exact sStStep4k0 sg w0 sv pv T d hsg hsl hsw (sExAll sg w0 sv pv T hsg hsl d) (sSt4 d) x u deep k W ⟨c2, c3⟩ hr h1 h2 h3 h4 h5
theorem sSt5 : ∀ d, StC sg 5 w0 sv pv T d
  | 0 => fun x u deep k W hr => hr.elim
  | d + 1 => sStStep5 sg w0 sv pv T d hsg hsl hsw (sExAll sg w0 sv pv T hsg hsl d) (sSt5 d)
theorem sStAll (d : Nat) : StK sg w0 sv pv T d := by
  intro p h1 h5 x u k W hr hk hp hb
  have hc : p = 1 ∨ p = 2 ∨ p = 3 ∨ p = 4 ∨ p = 5 := by omega
  rcases hc with rfl | rfl | rfl | rfl | rfl
  · have h := sSt1 sg w0 sv pv T hsg hsl hsw d x u 1 k W hr (by omega) (by omega) hk hp hb
    rw [okS1_eq] at h
    unfold stP
    rw [show (!decide ((1 : Int) = 1) || decide (x.exs.length = 1)) = decide (x.exs.length = 1) from by simp]
    exact h
  all_goals
    unfold stP
    rw [show (!decide ((_ : Int) = 1) || decide (x.exs.length = 1)) = true from by simp, Bool.and_true]
    first
      | exact sSt2 sg w0 sv pv T hsg hsl hsw d x u 1 k W hr (by omega) (by omega) hk hp hb
      | exact sSt3 sg w0 sv pv T hsg hsl hsw d x u 1 k W hr (by omega) (by omega) hk hp hb
      | exact sSt4 sg w0 sv pv T hsg hsl hsw d x u 1 k W hr (by omega) (by omega) hk hp hb
      | exact sSt5 sg w0 sv pv T hsg hsl hsw d x u 1 k W hr (by omega) (by omega) hk hp hb
end
end Go.Proofs.Ytgkfhaahcedbpaa
namespace Go.Proofs.Ytgkfhaahcedbpaa
open Go Go.RowKit Gs
set_option linter.unusedVariables false
set_option linter.unusedSimpArgs false
set_option maxRecDepth 100000
set_option maxHeartbeats 16000000 in
theorem sFlatZ (d : Nat) (f : Flat) (u : List Value) (w : World) (hr : RFlatN d w 0 f u) (hz : ¬ (f.signals.length ≤ 256 ∧ f.procs.length ≤ 256)) :
    Calls Try.prog 5 #[.agg u.toArray] w fun e w' => e = .returned (.bool false) ∧ Below w.heap.size w w' := by
  obtain ⟨v0, v1, rfl, h0, h1⟩ := hr
  have hl0 := h0.len
  have hl1 := h1.len
  unfold maxLen at hl0 hl1
  obtain ⟨s0, c0, rfl⟩ := h0.slice
  obtain ⟨s1, c1, rfl⟩ := h1.slice
  clear h0 h1
  obtain ⟨sg, ps⟩ := f
  dsimp only at *
  obtain ⟨L0, hL0⟩ : ∃ L, sg.length = L := ⟨_, rfl⟩
  obtain ⟨L1, hL1⟩ : ∃ L, ps.length = L := ⟨_, rfl⟩
  rw [hL0] at hl0 hz
  rw [hL1] at hl1 hz
  rw [hL0, hL1]
  clear hL0 hL1
  have HB := hide (bal (brf w) (.cells #[.slice s0 L0 c0, .slice s1 L1 c1] 31))
  by_cases b0 : L0 ≤ 256
  rotate_left
  · have n0 : (256 : Int) < (L0 : Int) := by omega
    clear hz
    go_enter Try.func5, Try.ntmps5
    go_wp2_with fail
    exact bodyPost_ret (v := .bool false) (by simp [results, Try.results5, go_sem]) rfl ⟨rfl, unhide HB⟩
  · have n0 : ¬ (256 : Int) < (L0 : Int) := by omega
    have n1 : (256 : Int) < (L1 : Int) := by omega
    clear hz
    go_enter Try.func5, Try.ntmps5
    go_wp2_with fail
    exact bodyPost_ret (v := .bool false) (by simp [results, Try.results5, go_sem]) rfl ⟨rfl, unhide HB⟩
theorem sFlatOK (d : Nat) (f : Flat) (u : List Value) (w : World) (hr : RFlatN d w 0 f u) :
    Calls Try.prog 5 #[.agg u.toArray] w fun e w' => e = .returned (.bool (flatB d f)) ∧ Below w.heap.size w w' := by
  have EQ : flatB d f = ((decide (f.signals.length ≤ 256) && decide (f.procs.length ≤ 256)) && (f.signals.all sigFB && ((f.procs.all (procOK f.signals d) && decide ((f.procs.map (cntP d)).sum ≤ 16384)) && (decide (f.signals.map (·.name)).Nodup && decide (checksOf f.procs).Nodup)))) := rfl
  by_cases hz : f.signals.length ≤ 256 ∧ f.procs.length ≤ 256
  rotate_left
  · rw [show flatB d f = false from by
      rw [EQ, Bool.and_eq_false_iff]
      left
      rw [Bool.and_eq_false_iff]
      by_cases h : f.signals.length ≤ 256
      · right; exact decide_eq_false (fun h2 => hz ⟨h, h2⟩)
      · left; exact decide_eq_false h]
    exact sFlatZ d f u w hr hz
  cases hg : (f.signals.all sigFB && decide (f.signals.map (·.name)).Nodup)
  · rw [show flatB d f = false from by
      rw [EQ]
      rw [Bool.and_eq_false_iff] at hg
      rcases hg with h | h <;> rw [h] <;> simp]
    exact sFlatA d f u w hr hz.1 hz.2 hg
  · rw [Bool.and_eq_true, decide_eq_true_eq] at hg
    rw [show flatB d f = ((f.procs.all (procOK f.signals d) && decide ((f.procs.map (cntP d)).sum ≤ 16384)) && decide (checksOf f.procs).Nodup) from by
      rw [EQ, hg.1, decide_eq_true hg.2, decide_eq_true hz.1, decide_eq_true hz.2]; simp]
    refine sFlatB d f u w hr hz.1 hz.2 hg.1 hg.2 (fun w0 sv pv T hs => sStAll f.signals w0 sv pv T hs (by omega) ?_ (d + 1))
    intro g hgm
    have h := sigFB_facts (List.all_eq_true.1 hg.1 g hgm)
    have h2 := (okV_iff _).1 h.2.2.2.2.2.1
    have h3 := h.2.2.2.2.1
    omega
end Go.Proofs.Ytgkfhaahcedbpaa
