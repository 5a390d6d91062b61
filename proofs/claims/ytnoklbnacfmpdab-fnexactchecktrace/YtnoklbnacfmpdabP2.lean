/- The program's takeBack. -/
import Derived.Test.YtnoklbnacfmpdabP1
namespace Go.Proofs.Ytnoklbnacfmpdab
open Go Go.RowKit Gs
set_option linter.unusedVariables false
set_option linter.unusedSimpArgs false
set_option maxRecDepth 100000
theorem wipe_snoc (vs ls : List Int) (l : Int) : wipe vs (ls ++ [l]) = (wipe vs ls).set l.natAbs 0 := by
  unfold wipe; rw [List.foldl_append]; rfl
theorem own_take {W : World} {B e g n c : Nat} {xs : List Value} (h : W.ownsRow B e 1 (.slice (some ⟨g, 0, none⟩) n c) n xs) {m : Nat} (hm : m ≤ n) : W.ownsRow B e 1 (.slice (some ⟨g, 0, none⟩) m c) m (xs.take m) := by
  obtain ⟨h1, ⟨h2, _⟩ | ⟨g', cap, cur, hv, hb, hg, hlc, hcm, hcs, htk⟩⟩ := h
  · cases h2
  · injection hv with e1 e2 e3
    injection e1 with e4
    injection e4 with e5 _
    subst e5 e3
    refine ⟨by rw [List.length_take, h1]; omega, .inr ⟨g, c, cur, rfl, hb, hg, by omega, hcm, hcs, ?_⟩⟩
    rw [← htk, List.take_take]
    congr 1
    omega
/-- The trail's row is shorter. -/
theorem FM.cut {B n : Nat} {W : World} {s : FS} (h : FM B n none W s) (m : Nat) {v' : Value} (hown : W.ownsRow B 3 1 v' m (iL (s.t.take m))) (hm : m ≤ s.t.length) (hb : ∀ j, v'.ownBlock = some j → s.tv.ownBlock = some j) : FM B n none ((W.setCell ⟨s.b, 1, none⟩ v').setCell ⟨s.b, 2, none⟩ (.int .i64 (m : Int))) { s with t := s.t.take m, tv := v', fol := m } := by
  have hbb : ((W.setCell ⟨s.b, 1, none⟩ v').setCell ⟨s.b, 2, none⟩ (.int .i64 (m : Int))).heap[s.b]? = some (.cells ({ s with t := s.t.take m, tv := v', fol := m }.flds n) 49) := by
    rw [heap_set (heap_set h.hb)]; rfl
  have ho : ∀ k, k ≠ s.b → ((W.setCell ⟨s.b, 1, none⟩ v').setCell ⟨s.b, 2, none⟩ (.int .i64 (m : Int))).heap[k]? = W.heap[k]? := fun k hk => (Below.heap_setCell (W.setCell ⟨s.b, 1, none⟩ v') ⟨s.b, 2, none⟩ _ k hk).trans (Below.heap_setCell W ⟨s.b, 1, none⟩ v' k hk)
  have hk : ∀ (k : Nat) (o : Array Value) (t : TypeId), t ≠ 49 → W.heap[k]? = some (.cells o t) → ((W.setCell ⟨s.b, 1, none⟩ v').setCell ⟨s.b, 2, none⟩ (.int .i64 (m : Int))).heap[k]? = some (.cells o t) := fun k o t hne hc => (ho k (ty_ne hc h.hb hne)).trans hc
  refine ⟨h.lo, hbb, hk _ _ _ (by decide) h.hv, hk _ _ _ (by decide) h.ho, hk _ _ _ (by decide) h.hm, ?_, fun p hp he => ownsRow_keep (h.hw p hp he) (fun g o _ hc => hk _ _ _ (by decide) hc), fun i hi => ?_, h.d1, fun j hj => h.d2 j (hb j hj), h.d3, h.d4, fun p j hp hj => ?_, h.lv, h.lm, (fun p j he => by cases he), fun q hq => ⟨(ho q.1 (h.fz q hq).b).trans (h.fz q hq).at_, (h.fz q hq).b, (h.fz q hq).vb, (h.fz q hq).ob, (h.fz q hq).mb, fun e => (h.fz q hq).tv (hb _ e), (h.fz q hq).sv, (h.fz q hq).ids⟩⟩
  · show World.ownsRow _ B 3 1 v' (s.t.take m).length (iL (s.t.take m))
    rw [List.length_take, Nat.min_eq_left hm]
    exact ownsRow_keep hown (fun g o _ hc => hk _ _ _ (by decide) hc)
  · obtain ⟨h1, cur, h2, h3⟩ := h.hc i hi
    exact ⟨h1, cur, hk _ _ _ (by decide) h2, h3⟩
  · obtain ⟨h1, o, h2⟩ := h.d5 p j hp hj
    exact ⟨h1, o, hk _ _ _ (by decide) h2⟩
set_option maxHeartbeats 6400000 in
theorem iTakeBack {B n : Nat} {w W : World} {s : FS} (h : FM B n none W s) (hbw : Below B w W) (ht : TrOK n s.t) (m : Nat) (hm : m ≤ s.t.length) (hn : n ≤ 2048) : Calls Try.prog 27 #[.pointer (some ⟨s.b, 0, none⟩), .int .i64 (m : Int)] W fun e w' => e = .returned (.tuple #[]) ∧ Below B w w' ∧ ∃ v', FM B n none w' { s with vs := wipe s.vs (s.t.drop m), t := s.t.take m, tv := v', fol := m } := by
  have htl := ht.len
  have HL := hide ht.lits
  rcases id h.ht.2 with ⟨hv, hn0⟩ | ⟨g, cap, cur, hv, hBg, hg, hlc, hcm, hcs, htk⟩
  · -- nothing was assumed
    have ht0 : s.t = [] := List.length_eq_zero_iff.1 hn0
    have hm0 : m = 0 := by omega
    have q1 := h.q1
    rw [hv] at q1
    have qf := h.frz 1
    have qf2 := h.frz 2
    have q2 := h.q2
    have HE : Hid (Below B w ((W.setCell ⟨s.b, 1, none⟩ (.slice none 0 0)).setCell ⟨s.b, 2, none⟩ (.int .i64 0)) ∧ FM B n none ((W.setCell ⟨s.b, 1, none⟩ (.slice none 0 0)).setCell ⟨s.b, 2, none⟩ (.int .i64 0)) { s with vs := wipe s.vs (s.t.drop 0), t := s.t.take 0, tv := .slice none 0 0, fol := 0 }) := hide (by
      refine ⟨(hbw.setCell (p := ⟨s.b, 1, none⟩) h.lo.1 _).setCell (p := ⟨s.b, 2, none⟩) h.lo.1 _, ?_⟩
      have h2 := h.cut 0 (v' := .slice none 0 0) ⟨rfl, .inl ⟨rfl, rfl⟩⟩ (Nat.zero_le _) (fun j hj => by cases hj)
      rw [ht0] at h2 ⊢
      exact h2)
    subst hm0
    clear h hbw ht hv
    go_enter Try.func27, Try.ntmps27
    go_wp2
    refine wp_loop_rounds 1 ?_
    rw [rounds_succ]
    go_wp2
    exact bodyPost_end (v := .tuple #[]) (by simp [results, Try.results27, go_sem]) rfl ⟨rfl, (unhide HE).1, _, (unhide HE).2⟩
  · have q1 := h.q1
    rw [hv] at q1
    have hcm' := hcm
    unfold maxLen at hcm'
    have i1 : (m : Int) ≤ (s.t.length : Int) := by omega
    have H := hide h
    have HBW := hide hbw
    have HV := hide hv
    clear h hbw ht
    go_enter Try.func27, Try.ntmps27
    obtain ⟨dl, hdl⟩ : ∃ dl : Nat, dl = s.t.length - m := ⟨_, rfl⟩
    have hdrop : (s.t.drop m).length = dl := by rw [List.length_drop, hdl]
    have HEND : Hid (∀ wr, FM B n none wr { s with vs := wipe s.vs (s.t.drop m) } → Below B w wr → Below B w ((wr.setCell ⟨s.b, 1, none⟩ (.slice (some ⟨g, 0, none⟩) m cap)).setCell ⟨s.b, 2, none⟩ (.int .i64 (m : Int))) ∧ FM B n none ((wr.setCell ⟨s.b, 1, none⟩ (.slice (some ⟨g, 0, none⟩) m cap)).setCell ⟨s.b, 2, none⟩ (.int .i64 (m : Int))) { s with vs := wipe s.vs (s.t.drop m), t := s.t.take m, tv := .slice (some ⟨g, 0, none⟩) m cap, fol := m }) := hide (fun wr hf hb => by
      refine ⟨(hb.setCell (p := ⟨s.b, 1, none⟩) hf.lo.1 _).setCell (p := ⟨s.b, 2, none⟩) hf.lo.1 _, hf.cut m ?_ hm (fun j hj => ?_)⟩
      · have h1 := hf.ht
        have h2 : World.ownsRow wr B 3 1 (.slice (some ⟨g, 0, none⟩) s.t.length cap) s.t.length (iL s.t) := by rw [← unhide HV]; exact h1
        have h3 := own_take h2 hm
        unfold iL at *
        rw [List.map_take]
        exact h3
      · show s.tv.ownBlock = some j
        rw [unhide HV]; exact hj)
    by_cases hcap : cap = m
    · have hd0 : dl = 0 := by omega
      have hz : s.t.drop m = [] := List.length_eq_zero_iff.1 (by omega)
      have HE := hide (unhide HEND W (by rw [hz]; exact unhide H) (unhide HBW))
      have q1b := q1
      have qf := (unhide H).frz 1
      have qf2 := (unhide H).frz 2
      have q2 := (unhide H).q2
      have hlm : s.t.length = m := by omega
      clear HEND hdrop
      have i2 : ((s.t.length - m : Nat) : Int) = 0 := by omega
      go_wp2
      refine wp_loop_rounds 1 ?_
      rw [rounds_succ]
      go_wp2
      have HE2 := unhide HE
      subst hcap
      exact bodyPost_end (v := .tuple #[]) (by simp [results, Try.results27, go_sem]) rfl ⟨rfl, HE2.1, _, HE2.2⟩
    · have HCE : Hid (∀ wr, FM B n none wr s → ∀ (j : Nat) z, (s.t.drop m)[j]? = some z → wr.cell? ⟨g, m + j, none⟩ = some (.int .i64 z)) := hide (fun wr hf j z hz => by
        have h2 : World.ownsRow wr B 3 1 (.slice (some ⟨g, 0, none⟩) s.t.length cap) s.t.length (iL s.t) := by rw [← unhide HV]; exact hf.ht
        rw [List.getElem?_drop] at hz
        have := World.ownsRow.cells h2 (g := g) rfl (m + j) (.int .i64 z) (by unfold iL; rw [List.getElem?_map, hz]; rfl)
        rw [Addr.add_lit] at this
        simpa using this)
      go_wp2
      rw [← hdl]
      go_loopw [13] (fun i wr => ∃ j : Nat, j ≤ dl ∧ i = .int .i64 (j : Int) ∧ FM B n none wr { s with vs := wipe s.vs ((s.t.drop m).take j) } ∧ Below B w wr) (fun i wr => dl - (intOf i).toNat)
      case atStart => exact ⟨0, Nat.zero_le _, rfl, by simpa [wipe] using unhide H, unhide HBW⟩
      case round =>
        obtain ⟨j, hj, rfl, hf, hb⟩ := hrel
        by_cases hjl : j < dl
        · have hz : (s.t.drop m)[j]? = some ((s.t.drop m)[j]'(by omega)) := List.getElem?_eq_getElem (by omega)
          generalize (s.t.drop m)[j]'(by omega) = z at hz
          have hzl := unhide HL z (List.mem_of_mem_drop (List.mem_of_getElem? hz))
          have c0 : wr.cell? ⟨g, m + j, none⟩ = some (.int .i64 z) := by
            have h2 : World.ownsRow wr B 3 1 (.slice (some ⟨g, 0, none⟩) s.t.length cap) s.t.length (iL s.t) := by rw [← unhide HV]; exact hf.ht
            have hz2 := hz
            rw [List.getElem?_drop] at hz2
            have := World.ownsRow.cells h2 (g := g) rfl (m + j) (.int .i64 z) (by unfold iL; rw [List.getElem?_map, hz2]; rfl)
            rw [Addr.add_lit] at this
            simpa using this
          have q0 := hf.q0
          obtain ⟨z0, z1, z2⟩ := id hzl
          obtain ⟨k, hk1⟩ : ∃ k : Nat, k = z.natAbs := ⟨_, rfl⟩
          have hkl : k < (wipe s.vs ((s.t.drop m).take j)).length := by have := hf.lv; simp only at this; omega
          have hk := iC_cell hf.hv (getD_some (i := k) hkl)
          have hfz := iC_frz (i := k) hf.hv
          have hnx : FM B n none (wr.setCell ⟨s.vb, k, none⟩ (.int .i64 0)) { s with vs := wipe s.vs ((s.t.drop m).take (j + 1)) } := by
            have := hf.vals ((wipe s.vs ((s.t.drop m).take j)).set k 0) (by simp) (iC_set hf.hv) (fun q hq => Below.heap_setCell wr ⟨s.vb, k, none⟩ _ q hq)
            rw [List.take_add_one, hz, Option.toList_some, wipe_snoc, ← hk1]
            exact this
          have HNX := hide hnx
          have HNB := hide (hb.setCell (p := ⟨s.vb, k, none⟩) hf.lo.2.1 (.int .i64 0))
          have j1 : (j : Int) < (dl : Int) := by omega
          have j2 : (0 : Int) ≤ (j : Int) := by omega
          have k1 : (0 : Int) ≤ (k : Int) := by omega
          have k2 : (k : Int) < ((n + 1 : Nat) : Int) := by omega
          simp only at hk hfz q0
          generalize (wipe s.vs ((s.t.drop m).take j)).getD k 0 = x at *
          have hcase : z = -(k : Int) ∨ z = (k : Int) := by omega
          have hkp : 1 ≤ k := by omega
          have hkn : k ≤ 2048 := by omega
          clear hf hb hz hnx HCE HEND hk1 hzl z0 z1 z2 hkl H HBW q1
          rcases hcase with rfl | rfl
          · go_wp2
            exact ⟨⟨j + 1, by omega, by go_num, unhide HNX, unhide HNB⟩, by simp [intOf]; omega⟩
          · go_wp2
            exact ⟨⟨j + 1, by omega, by go_num, unhide HNX, unhide HNB⟩, by simp [intOf]; omega⟩
        · have hje : j = dl := by omega
          rw [hje, List.take_of_length_le (by omega)] at hf
          have HE := hide (unhide HEND wr hf hb)
          have q1b : wr.cell? ⟨s.b, 1, none⟩ = some (.slice (some ⟨g, 0, none⟩) s.t.length cap) := by have := hf.q1; rw [← unhide HV]; exact this
          have qf := hf.frz 1
          have qf2 := hf.frz 2
          have q2 := hf.q2
          have j1 : ¬ (j : Int) < (dl : Int) := by omega
          simp only at qf qf2 q2
          clear hf hb HEND HCE H HBW q1
          go_wp2
          exact bodyPost_end (v := .tuple #[]) (by simp [results, Try.results27, go_sem]) rfl ⟨rfl, (unhide HE).1, _, (unhide HE).2⟩
end Go.Proofs.Ytnoklbnacfmpdab
