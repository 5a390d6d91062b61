/- Retimable of both, whatever the netlist is. -/
import Derived.Test.YtkmpjoiefcjbnaaDoorRTC
import Derived.Test.YtkmpjoiefcjbnaaDoorSK2
import Derived.Test.YtkmpjoiefcjbnaaDoorEQ
namespace Go.Proofs.YtkmpjoiefcjbnaaDoor
open Go.RowKit Gs
set_option linter.unusedVariables false
set_option linter.unusedSimpArgs false
set_option maxRecDepth 100000
/-- What both answer. -/
def retS (n : Net) : List Int := if sNetB n = true then retTo n n.cells.length else []
theorem RNet.later' {n : Net} {u : List Value} {w W : World} {B : Nat} (h : RNet w B n u) (hb : Below w.heap.size w W) : RNet W B n u := RNet.keeps _ _ _ _ _ (later_cells hb B) h
theorem slices6 {n : Net} {v0 v1 v4 v5 : Value} {w : World} (h0 : RS 2 RNetPort w 0 n.ins v0) (h1 : RS 1 RStr w 0 n.clocks v1) (h4 : RS 2 RNetOut w 0 n.outs v4) (h5 : RS 2 RNetOut w 0 n.checks v5) : (∃ a l c, v0 = .slice a l c) ∧ (∃ a l c, v1 = .slice a l c) ∧ (∃ a l c, v4 = .slice a l c) ∧ (∃ a l c, v5 = .slice a l c) := by
  obtain ⟨a0, c0, rfl⟩ := h0.slice
  obtain ⟨a1, c1, rfl⟩ := h1.slice
  obtain ⟨a4, c4, rfl⟩ := h4.slice
  obtain ⟨a5, c5, rfl⟩ := h5.slice
  exact ⟨⟨_, _, _, rfl⟩, ⟨_, _, _, rfl⟩, ⟨_, _, _, rfl⟩, ⟨_, _, _, rfl⟩⟩
set_option maxHeartbeats 8000000 in
theorem sRet (n : Net) (u : List Value) (w : World) (hr : RNet w 0 n u) :
    Calls Tryd.prog 5 #[.agg u.toArray] w fun e w' => (∃ v, e = .returned v ∧ OI w.heap.size w' v (retS n)) ∧ Below w.heap.size w w' := by
  have NK := hide (fun V (hb : Below w.heap.size w V) => sNetOK n u V (hr.later' hb))
  obtain ⟨v0, v1, v2, v3, v4, v5, rfl, h0, h1, h2, h3, h4, h5⟩ := hr
  change Hid (∀ V (hb : Below w.heap.size w V), Calls Tryd.prog 18 #[.agg #[v0, v1, v2, v3, v4, v5]] V _) at NK
  show Calls Tryd.prog 5 #[.agg #[v0, v1, v2, v3, v4, v5]] w _
  cases hs : sNetB n
  · have E : retS n = [] := by unfold retS; rw [hs]; rfl
    rw [E]
    rw [hs] at NK
    obtain ⟨⟨a0, l0, c0, rfl⟩, ⟨a1, l1, c1, rfl⟩, ⟨a4, l4, c4, rfl⟩, ⟨a5, l5, c5, rfl⟩⟩ := slices6 h0 h1 h4 h5
    obtain ⟨a2, c2, rfl⟩ := h2.slice
    obtain ⟨a3, c3, rfl⟩ := h3.slice
    have S0 := hide (OI_start (W := w.alloc (.cells #[.slice a0 l0 c0, .slice a1 l1 c1, .slice a2 n.cells.length c2, .slice a3 n.regs.length c3, .slice a4 l4 c4, .slice a5 l5 c5] 37)) (B := w.heap.size) (M := w.heap.size + 1) (by simp) (Nat.le_succ _))
    clear h0 h1 h2 h3 h4 h5 E hs
    go_enter Tryd.func5, Tryd.ntmps5
    go_wp2_with fail
    refine (unhide NK _ (bal (bal (brf w) _) _)).mono ?_
    rintro e W1 ⟨rfl, hb1⟩
    have HO := hide ((unhide S0).later hb1)
    have HB := hide (btr (bal (bal (brf w) _) _) hb1)
    clear hb1 S0
    go_wp2
    exact bodyPost_ret (v := .slice (some ⟨w.heap.size + 1, 0, none⟩) 0 0) (by simp [results, Tryd.results5, go_sem]) rfl ⟨⟨_, rfl, unhide HO⟩, unhide HB⟩
  · have E : retS n = retTo n n.cells.length := by unfold retS; rw [hs]; rfl
    rw [E]
    rw [hs] at NK
    obtain ⟨hl, hg⟩ := good_of hs
    exact sRetYes n v0 v1 v2 v3 v4 v5 w ⟨h0, h2, h3⟩ hl (fun j c hj => (hg j c hj).1) (unhide NK) (slices6 h0 h1 h4 h5)
set_option maxHeartbeats 8000000 in
theorem iRet (n : Net) (u : List Value) (w : World) (hr : RNet w 0 n u) (ht : Tz w) :
    Calls Tryd.prog 7 #[.agg u.toArray] w fun e w' => (∃ v, e = .returned v ∧ OI w.heap.size w' v (retS n)) ∧ Below w.heap.size w w' := by
  have NK := hide (fun V (hb : Below w.heap.size w V) => iNetOK n u V (hr.later' hb))
  rw [net_same n] at NK
  obtain ⟨v0, v1, v2, v3, v4, v5, rfl, h0, h1, h2, h3, h4, h5⟩ := hr
  change Hid (∀ V (hb : Below w.heap.size w V), Calls Tryd.prog 25 #[.agg #[v0, v1, v2, v3, v4, v5]] V _) at NK
  show Calls Tryd.prog 7 #[.agg #[v0, v1, v2, v3, v4, v5]] w _
  cases hs : sNetB n
  · have E : retS n = [] := by unfold retS; rw [hs]; rfl
    rw [E]
    rw [hs] at NK
    obtain ⟨⟨a0, l0, c0, rfl⟩, ⟨a1, l1, c1, rfl⟩, ⟨a4, l4, c4, rfl⟩, ⟨a5, l5, c5, rfl⟩⟩ := slices6 h0 h1 h4 h5
    obtain ⟨a2, c2, rfl⟩ := h2.slice
    obtain ⟨a3, c3, rfl⟩ := h3.slice
    clear h0 h1 h2 h3 h4 h5 E hs ht
    go_enter Tryd.func7, Tryd.ntmps7
    go_wp2_with fail
    refine (unhide NK _ (bal (brf w) _)).mono ?_
    rintro e W1 ⟨rfl, hb1⟩
    have HB := hide (btr (bal (brf w) _) hb1)
    clear hb1
    go_wp2
    exact bodyPost_ret (v := .slice none 0 0) (by simp [results, Tryd.results7, go_sem]) rfl ⟨⟨_, rfl, OI_nil _ _⟩, unhide HB⟩
  · obtain ⟨hl, hg⟩ := good_of hs
    have E : retS n = retP n n.cells.length := by unfold retS; rw [hs, ret_same hg]; rfl
    rw [E]
    rw [hs] at NK
    exact iRetYes n v0 v1 v2 v3 v4 v5 w ⟨h0, h2, h3⟩ hl (fun j c hj => (hg j c hj).1) ht (unhide NK) (slices6 h0 h1 h4 h5)
end Go.Proofs.YtkmpjoiefcjbnaaDoor
