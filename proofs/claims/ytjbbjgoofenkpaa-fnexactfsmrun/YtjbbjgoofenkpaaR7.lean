/- The specification's FsmRun, whole. -/
import Derived.Test.YtjbbjgoofenkpaaR6
namespace Go.Proofs.Ytjbbjgoofenkpaa
open Go.RowKit Gs
set_option linter.unusedVariables false
set_option linter.unusedSimpArgs false
set_option maxRecDepth 100000
set_option maxHeartbeats 8000000 in
theorem sRun (f : Fsm) (u : List Value) (zs : List Int) (vz : Value) (w : World) (hr : RFsm w 0 f u) (hz : RS 1 RInt w 0 zs vz) :
    Calls Try.prog 5 #[.agg u.toArray, vz] w fun e w' => (∃ v, e = .returned (.tuple #[v, .int .i64 (runR f zs).2]) ∧ OT w.heap.size w' v (runR f zs).1) ∧ Below w.heap.size w w' := by
  have HOK := hide (fun V (hb : Below w.heap.size w V) => sFsmOK f u V (RFsm.keeps _ _ _ _ _ (later_cells hb 0) hr))
  obtain ⟨v2, v3, v4, rfl, h2, h3, h4⟩ := hr
  change Hid (∀ V (hb : Below w.heap.size w V), Calls Try.prog 19 #[.agg #[.int .i64 f.ins, .int .i64 f.outBits, v2, v3, v4]] V _) at HOK
  show Calls Try.prog 5 #[.agg #[.int .i64 f.ins, .int .i64 f.outBits, v2, v3, v4], vz] w _
  have hzl := hz.len
  unfold maxLen at hzl
  by_cases h1 : zs.length ≤ 4096
  · cases hs : fsmS f
    · have e1 : (runR f zs).1 = [] ∧ (runR f zs).2 = 1 := by unfold runR; rw [if_neg (by omega), hs]; exact ⟨rfl, rfl⟩
      rw [e1.1, e1.2]
      rw [hs] at HOK
      obtain ⟨a2, c2, rfl⟩ := h2.slice
      obtain ⟨a3, c3, rfl⟩ := h3.slice
      obtain ⟨a4, c4, rfl⟩ := h4.slice
      obtain ⟨az, cz, rfl⟩ := hz.slice
      have d0 : decide (4096 < (zs.length : Int)) = false := decide_eq_false (by omega)
      clear h2 h3 h4 hz e1 hs h1
      go_enter Try.func5, Try.ntmps5
      go_wp2_with fail
      refine (unhide HOK _ (bal (brf w) _)).mono ?_
      rintro e W1 ⟨rfl, hb1⟩
      have HB := hide (btr (bal (brf w) _) hb1)
      have hsz := (unhide HB).size
      clear hb1
      go_wp2
      refine bodyPost_ret (v := .tuple #[.slice (some ⟨W1.heap.size, 0, none⟩) 0 0, .int .i64 1]) (by simp [results, Try.results5, go_sem]) rfl ⟨⟨_, rfl, OT_start rfl hsz⟩, bal (unhide HB) _⟩
    · have hgd := goodF hs
      obtain ⟨e1, e2⟩ := runR_yes h1 hs
      rw [e1, e2]
      rw [hs] at HOK
      have hfw : FW w f v2 v3 v4 := ⟨h2, h3, h4⟩
      have n1 := hgd.n1
      rcases h2.open with ⟨hnil, _⟩ | ⟨b2, o2, c2, rfl, _, _, _, _⟩
      · have e : f.states.length = 0 := by rw [hnil]; rfl
        omega
      rcases h3.open with ⟨hnil, _⟩ | ⟨b3, o3, c3, rfl, _, _, _, _⟩
      · have e : f.next.length = 0 := by rw [hnil]; rfl
        have := hgd.l3
        omega
      rcases h4.open with ⟨hnil, _⟩ | ⟨b4, o4, c4, rfl, _, _, _, _⟩
      · have e : f.outs.length = 0 := by rw [hnil]; rfl
        have := hgd.l4
        omega
      rw [hgd.l3, hgd.l4] at hfw HOK ⊢
      obtain ⟨az, cz, rfl⟩ := hz.slice
      exact sRunYes f zs _ _ c2 c3 c4 b2 o2 b3 o3 b4 o4 _ cz az w hgd rfl hfw hz rfl h1 (unhide HOK)
  · have e1 : (runR f zs).1 = [] ∧ (runR f zs).2 = 2 := by unfold runR; rw [if_pos (by omega)]; exact ⟨rfl, rfl⟩
    rw [e1.1, e1.2]
    obtain ⟨a2, c2, rfl⟩ := h2.slice
    obtain ⟨a3, c3, rfl⟩ := h3.slice
    obtain ⟨a4, c4, rfl⟩ := h4.slice
    obtain ⟨az, cz, rfl⟩ := hz.slice
    have d0 : decide (4096 < (zs.length : Int)) = true := decide_eq_true (by omega)
    clear h2 h3 h4 hz e1 h1 HOK
    go_enter Try.func5, Try.ntmps5
    go_wp2
    refine bodyPost_ret (v := .tuple #[.slice (some ⟨w.heap.size + 1, 0, none⟩) 0 0, .int .i64 2]) (by simp [results, Try.results5, go_sem]) rfl ⟨⟨_, rfl, OT_start (by simp) (by omega)⟩, bal (bal (brf w) _) _⟩
end Go.Proofs.Ytjbbjgoofenkpaa
