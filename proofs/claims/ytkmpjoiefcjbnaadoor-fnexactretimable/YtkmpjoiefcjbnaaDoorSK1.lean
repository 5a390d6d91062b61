/- The specification's NetOK: the walk behind the counts. -/
import Derived.Test.YtkmpjoiefcjbnaaDoorSK0
namespace Go.Proofs.YtkmpjoiefcjbnaaDoor
open Go.RowKit Gs
set_option linter.unusedVariables false
set_option linter.unusedSimpArgs false
set_option maxRecDepth 100000
set_option maxHeartbeats 64000000 in
theorem sNetMain (n : Net) (v0 v1 v2 v3 v4 v5 : Value) (w : World) (h0 : RS 2 RNetPort w 0 n.ins v0) (h1 : RS 1 RStr w 0 n.clocks v1) (h2 : RS 6 RCell w 0 n.cells v2) (h3 : RS 5 RNetReg w 0 n.regs v3) (h4 : RS 2 RNetOut w 0 n.outs v4) (h5 : RS 2 RNetOut w 0 n.checks v5)
    (l0 : n.ins.length ≤ 256) (l1 : n.clocks.length ≤ 8) (l2 : n.cells.length ≤ 4096) (l3 : n.regs.length ≤ 256) (l4 : n.outs.length ≤ 256) (l5 : n.checks.length ≤ 256)
    (hWW : insB n = true → regsB n = true → ∀ k, sCellsTo n k = true → ∀ i, i < k → 1 ≤ wOf n (i : Int) ∧ wOf n (i : Int) ≤ 64) :
    Calls Tryd.prog 18 #[.agg #[v0, v1, v2, v3, v4, v5]] w fun e w' => e = .returned (.bool (insB n && regsB n && sCellsTo n n.cells.length && nextsB n && outsB n && checksB n && snamesB n)) ∧ Below w.heap.size w w' := by
  generalize hSB : (insB n && regsB n && sCellsTo n n.cells.length && nextsB n && outsB n && checksB n && snamesB n) = SB
  have F0 := hide (show insB n = false → false = SB from fun h => by rw [← hSB, h]; rfl)
  have F1 := hide (show insB n = true → regsB n = false → false = SB from fun a h => by rw [← hSB, a, h]; rfl)
  have F2 := hide (show insB n = true → regsB n = true → sCellsTo n n.cells.length = false → false = SB from fun a b h => by rw [← hSB, a, b, h]; rfl)
  have F3 := hide (show insB n = true → regsB n = true → sCellsTo n n.cells.length = true → nextsB n = false → false = SB from fun a b c h => by rw [← hSB, a, b, c, h]; rfl)
  have F4 := hide (show insB n = true → regsB n = true → sCellsTo n n.cells.length = true → nextsB n = true → outsB n = false → false = SB from fun a b c d h => by rw [← hSB, a, b, c, d, h]; rfl)
  have F5 := hide (show insB n = true → regsB n = true → sCellsTo n n.cells.length = true → nextsB n = true → outsB n = true → checksB n = false → false = SB from fun a b c d e h => by rw [← hSB, a, b, c, d, e, h]; rfl)
  have F6 := hide (show insB n = true → regsB n = true → sCellsTo n n.cells.length = true → nextsB n = true → outsB n = true → checksB n = true → snamesB n = SB from fun a b c d e f => by rw [← hSB, a, b, c, d, e, f]; rfl)
  clear hSB
  have CF := hide (fun (V : World) (j : Nat) (c : Cell) (hj : n.cells[j]? = some c) (hb : Below w.heap.size w V) hW => sCell n v0 v1 v2 v3 v4 v5 V j c hj ⟨h0.later RNetPort.keeps hb, h2.later RCell.keeps hb, h3.later RNetReg.keeps hb⟩ hW)
  have H1 := hide (fun W (h : Below w.heap.size w W) => h1.later RStr.keeps h)
  have H0 := hide h0
  have H2 := hide h2
  have H3 := hide h3
  have H4 := hide h4
  have H5 := hide h5
  have HWW := hide hWW
  obtain ⟨a0, c0, e0⟩ := h0.slice
  obtain ⟨a1, c1, e1⟩ := h1.slice
  obtain ⟨a2, c2, e2⟩ := h2.slice
  obtain ⟨a3, c3, e3⟩ := h3.slice
  obtain ⟨a4, c4, e4⟩ := h4.slice
  obtain ⟨a5, c5, e5⟩ := h5.slice
  subst e0 e1 e2 e3 e4 e5
  clear h0 h1 h2 h3 h4 h5 hWW
  have r0 : (n.ins.length : Int) ≤ 256 := by omega
  have r1 : (n.clocks.length : Int) ≤ 8 := by omega
  have r2 : (n.cells.length : Int) ≤ 4096 := by omega
  have r3 : (n.regs.length : Int) ≤ 256 := by omega
  have r4 : (n.outs.length : Int) ≤ 256 := by omega
  have r5 : (n.checks.length : Int) ≤ 256 := by omega
  obtain ⟨i0, hi, hz0, hz1, hz2⟩ := info_parts info9
  have S0 := hide (OS_start' (W := w.alloc (.cells #[.slice a0 n.ins.length c0, .slice a1 n.clocks.length c1, .slice a2 n.cells.length c2, .slice a3 n.regs.length c3, .slice a4 n.outs.length c4, .slice a5 n.checks.length c5] 37)) (B := w.heap.size + 1) (M := w.heap.size + 1) (by simp) (Nat.le_refl _))
  have LN := hide (show ([] : List ByteArray).length + n.clocks.length ≤ 4194304 from by simp; omega)
  have LB := hide (show w.heap.size + 1 ≤ ((w.alloc (.cells #[.slice a0 n.ins.length c0, .slice a1 n.clocks.length c1, .slice a2 n.cells.length c2, .slice a3 n.regs.length c3, .slice a4 n.outs.length c4, .slice a5 n.checks.length c5] 37)).alloc (.cells #[] 9)).heap.size from by simp)
  go_enter Tryd.func18, Tryd.ntmps18
  go_wp2_with (first | (at_builtin; go_loud (refine wpAppS rfl _ _ rfl _ _ [] rfl (unhide S0) _ n.clocks rfl (unhide H1 _ (bal (bal (brf w) _) _)) (unhide LN) (unhide LB) ?_); intro x1 W1 ho1 hg1))
  have HB1 : Hid (Bt 37 w #[.slice a0 n.ins.length c0, .slice a1 n.clocks.length c1, .slice a2 n.cells.length c2, .slice a3 n.regs.length c3, .slice a4 n.outs.length c4, .slice a5 n.checks.length c5] W1) := hide (bt_grown (unhide LB) hg1 (own_row (unhide S0).1))
  have HO1 := hide ho1
  clear ho1 hg1 S0 LN LB
  obtain ⟨q0, q1, q2, q3, q4, q5⟩ := (unhide HB1).get6
  go_wp2
  go_loopw [3, 4] (fun v i wr => ∃ k : Nat, k ≤ n.ins.length ∧ i = .int .i64 k ∧ OS (w.heap.size + 1) wr v (n.clocks ++ (n.ins.take k).map (·.name)) ∧ (n.ins.take k).all (fun p => wOK p.width) = true ∧ Bt 37 w #[.slice a0 n.ins.length c0, .slice a1 n.clocks.length c1, .slice a2 n.cells.length c2, .slice a3 n.regs.length c3, .slice a4 n.outs.length c4, .slice a5 n.checks.length c5] wr) (fun _ i _ => n.ins.length - (intOf i).toNat)
  case atStart => exact ⟨0, Nat.zero_le _, rfl, by simpa using unhide HO1, rfl, unhide HB1⟩
  case round =>
    clear q0 q1 q2 q3 q4 q5 HB1 HO1
    obtain ⟨k, hk, rfl, ho, hall, hbx⟩ := hrel
    have HX := hide hbx
    have HO := hide ho
    have HA := hide hall
    have hb := hbx.below
    have hsz := hbx.size
    clear hbx ho hall
    obtain ⟨q0, q1, q2, q3, q4, q5⟩ := (unhide HX).get6
    by_cases hlt : k < n.ins.length
    · have hx : n.ins[k]? = some n.ins[k] := List.getElem?_eq_getElem hlt
      have hmem : n.ins[k] ∈ n.ins := List.getElem_mem hlt
      generalize n.ins[k] = x at hx hmem
      rcases (unhide H0).open with ⟨hnil, _⟩ | ⟨b, o, cc, ee, _, _, _, hcs⟩
      · rw [hnil] at hlt; simp at hlt
      obtain ⟨rfl, rfl⟩ : a0 = some ⟨b, o, none⟩ ∧ c0 = cc := by
        injection ee with e1 e2 e3
        exact ⟨e1, e3⟩
      obtain ⟨u, _, hat, hux, hnsz⟩ := hcs k x hx
      subst hux
      have k0 := cell_later hb (hat.get (j := 0) rfl)
      have k1 := cell_later hb (hat.get (j := 1) rfl)
      simp only [Nat.add_zero] at k0
      have HST := hide (all_take (p := fun p : NetPort => wOK p.width) hx)
      have HMP := hide (map_take (f := fun p : NetPort => p.name) hx)
      have HNO := hide (show wOK x.width = false → false = SB from fun h => unhide F0 (no_all (p := fun p : NetPort => wOK p.width) hmem h))
      have HLN := hide (show (n.clocks ++ (n.ins.take k).map (·.name)).length ≤ 1000 from by rw [List.length_append, List.length_map, List.length_take]; omega)
      have HBZ := hide (show w.heap.size + 1 ≤ (wr.alloc (.cells #[.string x.name] 9)).heap.size from by simp; omega)
      have HN := hide hnsz
      have C1 := hide (hat.get (j := 1) rfl)
      clear hat hcs hx hmem ee hb hnsz H0 H1 H2 H3 H4 H5 F0 F1 F2 F3 F4 F5 F6 CF HWW
      generalize x.name = nm at *
      generalize x.width = wd at *
      have hcase : (wOK wd = false ∧ wd < 1) ∨ (wOK wd = false ∧ 1 ≤ wd ∧ 64 < wd) ∨ (wOK wd = true ∧ 1 ≤ wd ∧ wd ≤ 64) := by
        unfold wOK
        by_cases g1 : 1 ≤ wd
        · by_cases g2 : wd ≤ 64
          · exact .inr (.inr ⟨by rw [decide_eq_true g1, decide_eq_true g2]; rfl, g1, g2⟩)
          · exact .inr (.inl ⟨by rw [decide_eq_false g2, Bool.and_false], g1, by omega⟩)
        · exact .inl ⟨by rw [decide_eq_false g1]; rfl, by omega⟩
      rcases hcase with ⟨hw, g1⟩ | ⟨hw, g1, g2⟩ | ⟨hw, g1, g2⟩
      · go_wp2_with (first
          | (at_builtin; refine wpList_append_own _ rfl _ _ 23 rfl (w.heap.size + 1) 9 i0 (.string ByteArray.empty) 1 16 Tryd.underlying23 hi hz0 hz1 hz2 rfl (by decide) _ _ _ rfl ((unhide HO).1.alloc _) ⟨wr.heap.size, 0, none⟩ 1 1 [.string nm] rfl rfl (newS _ _ _ rfl) (oneS _) (by have := unhide HLN; unfold maxLen; omega) (by have := unhide HLN; omega) (unhide HBZ) ?_; intro v' w2 hown' hgrow _; have HX2 := hide (bt_grown2 (unhide HX) hgrow (own_row (unhide HO).1)); obtain ⟨p0, p1, p2, p3, p4, p5⟩ := (unhide HX2).get6; have m1 := cell_later (unhide HX2).below (unhide C1)))
        go_ret
        exact ⟨ret_bool (unhide HNO hw), (unhide HX2).below⟩
      · go_wp2_with (first
          | (at_builtin; refine wpList_append_own _ rfl _ _ 23 rfl (w.heap.size + 1) 9 i0 (.string ByteArray.empty) 1 16 Tryd.underlying23 hi hz0 hz1 hz2 rfl (by decide) _ _ _ rfl ((unhide HO).1.alloc _) ⟨wr.heap.size, 0, none⟩ 1 1 [.string nm] rfl rfl (newS _ _ _ rfl) (oneS _) (by have := unhide HLN; unfold maxLen; omega) (by have := unhide HLN; omega) (unhide HBZ) ?_; intro v' w2 hown' hgrow _; have HX2 := hide (bt_grown2 (unhide HX) hgrow (own_row (unhide HO).1)); obtain ⟨p0, p1, p2, p3, p4, p5⟩ := (unhide HX2).get6; have m1 := cell_later (unhide HX2).below (unhide C1)))
        go_ret
        exact ⟨ret_bool (unhide HNO hw), (unhide HX2).below⟩
      · go_wp2_with (first
          | (at_builtin; refine wpList_append_own _ rfl _ _ 23 rfl (w.heap.size + 1) 9 i0 (.string ByteArray.empty) 1 16 Tryd.underlying23 hi hz0 hz1 hz2 rfl (by decide) _ _ _ rfl ((unhide HO).1.alloc _) ⟨wr.heap.size, 0, none⟩ 1 1 [.string nm] rfl rfl (newS _ _ _ rfl) (oneS _) (by have := unhide HLN; unfold maxLen; omega) (by have := unhide HLN; omega) (unhide HBZ) ?_; intro v' w2 hown' hgrow _; have HX2 := hide (bt_grown2 (unhide HX) hgrow (own_row (unhide HO).1)); obtain ⟨p0, p1, p2, p3, p4, p5⟩ := (unhide HX2).get6; have m1 := cell_later (unhide HX2).below (unhide C1)))
        have HO2 := hide (OS.step hown' (unhide HO).2 (unhide HN))
        exact ⟨⟨k + 1, by omega, by go_num, by rw [unhide HMP, ← List.append_assoc]; exact unhide HO2, by rw [unhide HST, unhide HA, hw]; rfl, unhide HX2⟩, by simp [intOf]; omega⟩
    · have hkl : k = n.ins.length := by omega
      subst hkl
      rw [List.take_of_length_le (Nat.le_refl _)] at HO HA
      have P0 : Hid (insB n = true) := HA
      clear HA F0 H0 hb hsz H1
      have HN3 := hide HO
      clear q0 q1 q2 q3 q4 q5
      obtain ⟨q0, q1, q2, q3, q4, q5⟩ := (unhide HX).get6
      go_wp2
      go_loopw [5, 6] (fun v i wr2 => ∃ k : Nat, k ≤ n.regs.length ∧ i = .int .i64 k ∧ OS wr.heap.size wr2 v ((n.regs.take k).map (·.name)) ∧ (n.regs.take k).all (regS n) = true ∧ Below wr.heap.size wr wr2) (fun _ i _ => n.regs.length - (intOf i).toNat)
      case atStart => exact ⟨0, Nat.zero_le _, rfl, OS_start (Nat.le_refl _), rfl, bal (brf _) _⟩
      case round =>
        clear q0 q1 q2 q3 q4 q5
        obtain ⟨k, hk, rfl, ho, hall, hb⟩ := hrel
        have HO5 := hide ho
        have HA := hide hall
        have HB := hide hb
        have HXB := hide ((unhide HX).then hb)
        have hbw := (unhide HXB).below
        have hsz := (unhide HXB).size
        clear ho hall hb
        obtain ⟨q0, q1, q2, q3, q4, q5⟩ := (unhide HXB).get6
        by_cases hlt : k < n.regs.length
        · have hx : n.regs[k]? = some n.regs[k] := List.getElem?_eq_getElem hlt
          have hmem : n.regs[k] ∈ n.regs := List.getElem_mem hlt
          generalize n.regs[k] = x at hx hmem
          rcases (unhide H3).open with ⟨hnil, _⟩ | ⟨b, o, cc, ee, _, _, _, hcs⟩
          · rw [hnil] at hlt; simp at hlt
          obtain ⟨rfl, rfl⟩ : a3 = some ⟨b, o, none⟩ ∧ c3 = cc := by
            injection ee with e1 e2 e3
            exact ⟨e1, e3⟩
          obtain ⟨u, _, hat, hux, hnsz, hisz⟩ := hcs k x hx
          subst hux
          have k0 := cell_later hbw (hat.get (j := 0) rfl)
          have k1 := cell_later hbw (hat.get (j := 1) rfl)
          have k2 := cell_later hbw (hat.get (j := 2) rfl)
          have k3 := cell_later hbw (hat.get (j := 3) rfl)
          have k4 := cell_later hbw (hat.get (j := 4) rfl)
          simp only [Nat.add_zero] at k0
          have HST := hide (all_take (p := regS n) hx)
          have HMP := hide (map_take (f := fun p : NetReg => p.name) hx)
          have HNO := hide (show regS n x = false → false = SB from fun h => unhide F1 (unhide P0) (no_all (p := regS n) hmem h))
          have HLN := hide (show ((n.regs.take k).map (·.name)).length ≤ 1000 from by rw [List.length_map, List.length_take]; omega)
          have HN := hide hnsz
          have BO := hide (fun V => sBitsOK x.init V hisz)
          have KO := hide (fun V => sKnown x.init V hisz)
          have ER : regS n x = (Vb.okV (L x.init) && (L x.init).all Vb.knB && decide ((x.init.size : Int) = x.width) && (decide (0 ≤ x.clock) && decide (x.clock < (n.clocks.length : Int)))) := rfl
          clear hat hcs hx hmem ee hnsz hbw P0 HN3 H2 H3 H4 H5 F1 F2 F3 F4 F5 F6 CF HWW
          generalize regS n x = RG at *
          unfold maxLen at hisz
          generalize x.name = nm at *
          generalize x.width = wd at *
          generalize x.clock = ck at *
          generalize x.next = nx at *
          generalize x.init = ini at *
          cases hv : Vb.okV (L ini)
          · have hw : RG = false := by rw [ER, hv]; rfl
            clear ER
            go_wp2_with (first
              | (at_builtin; refine wpList_append_own _ rfl _ _ 23 rfl _ 9 i0 (.string ByteArray.empty) 1 16 Tryd.underlying23 hi hz0 hz1 hz2 rfl (by decide) _ _ _ rfl (((unhide HO5).1.alloc _).alloc _) ⟨wr.heap.size + 1, 0, none⟩ 1 1 [.string nm] rfl rfl (newS _ _ _ (by first | rfl | simp)) (oneS _) (by have := unhide HLN; unfold maxLen; omega) (by have := unhide HLN; omega) (sz_a (sz_a (unhide HB).size _) _) ?_; intro v' w2 hown' hgrow _; have HB2 := hide (below_grown (bal (bal (unhide HB) _) _) hgrow (sz_a (sz_a (unhide HB).size _) _) (own_row (unhide HO5).1)); have HX2 := hide ((unhide HX).then (unhide HB2)); obtain ⟨p0, p1, p2, p3, p4, p5⟩ := (unhide HX2).get6; have y1 := reg_cell hgrow (own_lt (unhide HO5).1) (j := 1) rfl; have y2 := reg_cell hgrow (own_lt (unhide HO5).1) (j := 2) rfl; have y4 := reg_cell hgrow (own_lt (unhide HO5).1) (j := 4) rfl; have HO2 := hide (OS.step hown' (unhide HO5).2 (unhide HN)))
              | (go_at_call 41; refine (unhide BO _).mono ?_; rintro e V ⟨rfl, rfl⟩; rw [hv]) | (go_at_call 42; refine (unhide KO _).mono ?_; rintro e V ⟨rfl, rfl⟩; rw [hkn]))
            go_ret
            exact ⟨ret_bool (unhide HNO hw), (unhide HX2).below⟩
          cases hkn : (L ini).all Vb.knB
          · have hw : RG = false := by rw [ER, hv, hkn]; rfl
            clear ER
            go_wp2_with (first
              | (at_builtin; refine wpList_append_own _ rfl _ _ 23 rfl _ 9 i0 (.string ByteArray.empty) 1 16 Tryd.underlying23 hi hz0 hz1 hz2 rfl (by decide) _ _ _ rfl (((unhide HO5).1.alloc _).alloc _) ⟨wr.heap.size + 1, 0, none⟩ 1 1 [.string nm] rfl rfl (newS _ _ _ (by first | rfl | simp)) (oneS _) (by have := unhide HLN; unfold maxLen; omega) (by have := unhide HLN; omega) (sz_a (sz_a (unhide HB).size _) _) ?_; intro v' w2 hown' hgrow _; have HB2 := hide (below_grown (bal (bal (unhide HB) _) _) hgrow (sz_a (sz_a (unhide HB).size _) _) (own_row (unhide HO5).1)); have HX2 := hide ((unhide HX).then (unhide HB2)); obtain ⟨p0, p1, p2, p3, p4, p5⟩ := (unhide HX2).get6; have y1 := reg_cell hgrow (own_lt (unhide HO5).1) (j := 1) rfl; have y2 := reg_cell hgrow (own_lt (unhide HO5).1) (j := 2) rfl; have y4 := reg_cell hgrow (own_lt (unhide HO5).1) (j := 4) rfl; have HO2 := hide (OS.step hown' (unhide HO5).2 (unhide HN)))
              | (go_at_call 41; refine (unhide BO _).mono ?_; rintro e V ⟨rfl, rfl⟩; rw [hv]) | (go_at_call 42; refine (unhide KO _).mono ?_; rintro e V ⟨rfl, rfl⟩; rw [hkn]))
            go_ret
            exact ⟨ret_bool (unhide HNO hw), (unhide HX2).below⟩
          cases hsw : ((ini.size : Int) != wd)
          · have hse : decide ((ini.size : Int) = wd) = true := by
              rw [decide_eq_true_eq]; simpa using hsw
            by_cases hc0 : 0 ≤ ck
            · by_cases hc1 : ck < (n.clocks.length : Int)
              · have hw : RG = true := by rw [ER, hv, hkn, hse, decide_eq_true hc0, decide_eq_true hc1]; rfl
                clear ER hse
                go_wp2_with (first
                  | (at_builtin; refine wpList_append_own _ rfl _ _ 23 rfl _ 9 i0 (.string ByteArray.empty) 1 16 Tryd.underlying23 hi hz0 hz1 hz2 rfl (by decide) _ _ _ rfl (((unhide HO5).1.alloc _).alloc _) ⟨wr.heap.size + 1, 0, none⟩ 1 1 [.string nm] rfl rfl (newS _ _ _ (by first | rfl | simp)) (oneS _) (by have := unhide HLN; unfold maxLen; omega) (by have := unhide HLN; omega) (sz_a (sz_a (unhide HB).size _) _) ?_; intro v' w2 hown' hgrow _; have HB2 := hide (below_grown (bal (bal (unhide HB) _) _) hgrow (sz_a (sz_a (unhide HB).size _) _) (own_row (unhide HO5).1)); have HX2 := hide ((unhide HX).then (unhide HB2)); obtain ⟨p0, p1, p2, p3, p4, p5⟩ := (unhide HX2).get6; have y1 := reg_cell hgrow (own_lt (unhide HO5).1) (j := 1) rfl; have y2 := reg_cell hgrow (own_lt (unhide HO5).1) (j := 2) rfl; have y4 := reg_cell hgrow (own_lt (unhide HO5).1) (j := 4) rfl; have HO2 := hide (OS.step hown' (unhide HO5).2 (unhide HN)))
                  | (go_at_call 41; refine (unhide BO _).mono ?_; rintro e V ⟨rfl, rfl⟩; rw [hv]) | (go_at_call 42; refine (unhide KO _).mono ?_; rintro e V ⟨rfl, rfl⟩; rw [hkn]))
                exact ⟨⟨k + 1, by omega, by go_num, by rw [unhide HMP]; exact unhide HO2, by rw [unhide HST, unhide HA, hw]; rfl, unhide HB2⟩, by simp [intOf]; omega⟩
              · have hw : RG = false := by rw [ER, decide_eq_false hc1, Bool.and_false, Bool.and_false]
                have hc1' : (n.clocks.length : Int) ≤ ck := by omega
                clear ER hse
                go_wp2_with (first
                  | (at_builtin; refine wpList_append_own _ rfl _ _ 23 rfl _ 9 i0 (.string ByteArray.empty) 1 16 Tryd.underlying23 hi hz0 hz1 hz2 rfl (by decide) _ _ _ rfl (((unhide HO5).1.alloc _).alloc _) ⟨wr.heap.size + 1, 0, none⟩ 1 1 [.string nm] rfl rfl (newS _ _ _ (by first | rfl | simp)) (oneS _) (by have := unhide HLN; unfold maxLen; omega) (by have := unhide HLN; omega) (sz_a (sz_a (unhide HB).size _) _) ?_; intro v' w2 hown' hgrow _; have HB2 := hide (below_grown (bal (bal (unhide HB) _) _) hgrow (sz_a (sz_a (unhide HB).size _) _) (own_row (unhide HO5).1)); have HX2 := hide ((unhide HX).then (unhide HB2)); obtain ⟨p0, p1, p2, p3, p4, p5⟩ := (unhide HX2).get6; have y1 := reg_cell hgrow (own_lt (unhide HO5).1) (j := 1) rfl; have y2 := reg_cell hgrow (own_lt (unhide HO5).1) (j := 2) rfl; have y4 := reg_cell hgrow (own_lt (unhide HO5).1) (j := 4) rfl; have HO2 := hide (OS.step hown' (unhide HO5).2 (unhide HN)))
                  | (go_at_call 41; refine (unhide BO _).mono ?_; rintro e V ⟨rfl, rfl⟩; rw [hv]) | (go_at_call 42; refine (unhide KO _).mono ?_; rintro e V ⟨rfl, rfl⟩; rw [hkn]))
                go_ret
                exact ⟨ret_bool (unhide HNO hw), (unhide HX2).below⟩
            · have hw : RG = false := by rw [ER, decide_eq_false hc0, Bool.false_and, Bool.and_false]
              have hc0' : ck < 0 := by omega
              clear ER hse
              go_wp2_with (first
                | (at_builtin; refine wpList_append_own _ rfl _ _ 23 rfl _ 9 i0 (.string ByteArray.empty) 1 16 Tryd.underlying23 hi hz0 hz1 hz2 rfl (by decide) _ _ _ rfl (((unhide HO5).1.alloc _).alloc _) ⟨wr.heap.size + 1, 0, none⟩ 1 1 [.string nm] rfl rfl (newS _ _ _ (by first | rfl | simp)) (oneS _) (by have := unhide HLN; unfold maxLen; omega) (by have := unhide HLN; omega) (sz_a (sz_a (unhide HB).size _) _) ?_; intro v' w2 hown' hgrow _; have HB2 := hide (below_grown (bal (bal (unhide HB) _) _) hgrow (sz_a (sz_a (unhide HB).size _) _) (own_row (unhide HO5).1)); have HX2 := hide ((unhide HX).then (unhide HB2)); obtain ⟨p0, p1, p2, p3, p4, p5⟩ := (unhide HX2).get6; have y1 := reg_cell hgrow (own_lt (unhide HO5).1) (j := 1) rfl; have y2 := reg_cell hgrow (own_lt (unhide HO5).1) (j := 2) rfl; have y4 := reg_cell hgrow (own_lt (unhide HO5).1) (j := 4) rfl; have HO2 := hide (OS.step hown' (unhide HO5).2 (unhide HN)))
                | (go_at_call 41; refine (unhide BO _).mono ?_; rintro e V ⟨rfl, rfl⟩; rw [hv]) | (go_at_call 42; refine (unhide KO _).mono ?_; rintro e V ⟨rfl, rfl⟩; rw [hkn]))
              go_ret
              exact ⟨ret_bool (unhide HNO hw), (unhide HX2).below⟩
          · have hse : decide ((ini.size : Int) = wd) = false := by
              rw [decide_eq_false_iff_not]; simpa using hsw
            have hw : RG = false := by rw [ER, hse, Bool.and_false, Bool.false_and]
            clear ER hse
            go_wp2_with (first
              | (at_builtin; refine wpList_append_own _ rfl _ _ 23 rfl _ 9 i0 (.string ByteArray.empty) 1 16 Tryd.underlying23 hi hz0 hz1 hz2 rfl (by decide) _ _ _ rfl (((unhide HO5).1.alloc _).alloc _) ⟨wr.heap.size + 1, 0, none⟩ 1 1 [.string nm] rfl rfl (newS _ _ _ (by first | rfl | simp)) (oneS _) (by have := unhide HLN; unfold maxLen; omega) (by have := unhide HLN; omega) (sz_a (sz_a (unhide HB).size _) _) ?_; intro v' w2 hown' hgrow _; have HB2 := hide (below_grown (bal (bal (unhide HB) _) _) hgrow (sz_a (sz_a (unhide HB).size _) _) (own_row (unhide HO5).1)); have HX2 := hide ((unhide HX).then (unhide HB2)); obtain ⟨p0, p1, p2, p3, p4, p5⟩ := (unhide HX2).get6; have y1 := reg_cell hgrow (own_lt (unhide HO5).1) (j := 1) rfl; have y2 := reg_cell hgrow (own_lt (unhide HO5).1) (j := 2) rfl; have y4 := reg_cell hgrow (own_lt (unhide HO5).1) (j := 4) rfl; have HO2 := hide (OS.step hown' (unhide HO5).2 (unhide HN)))
              | (go_at_call 41; refine (unhide BO _).mono ?_; rintro e V ⟨rfl, rfl⟩; rw [hv]) | (go_at_call 42; refine (unhide KO _).mono ?_; rintro e V ⟨rfl, rfl⟩; rw [hkn]))
            go_ret
            exact ⟨ret_bool (unhide HNO hw), (unhide HX2).below⟩
        · have hkl : k = n.regs.length := by omega
          subst hkl
          rw [List.take_of_length_le (Nat.le_refl _)] at HO5 HA
          have P1 : Hid (regsB n = true) := HA
          have HO3 := hide ((unhide HO).later (unhide HB))
          clear HA F1 hsz HX HB HO HN3 hbw
          clear q0 q1 q2 q3 q4 q5
          obtain ⟨q0, q1, q2, q3, q4, q5⟩ := (unhide HXB).get6
          go_wp2
          go_loopw [8] (fun i wr2 => ∃ k : Nat, k ≤ n.cells.length ∧ i = .int .i64 k ∧ sCellsTo n k = true ∧ Below wr.heap.size wr wr2) (fun i _ => n.cells.length - (intOf i).toNat)
          case atStart => exact ⟨0, Nat.zero_le _, rfl, rfl, brf _⟩
          case round =>
            clear q0 q1 q2 q3 q4 q5
            obtain ⟨k, hk, rfl, hall, hb⟩ := hrel
            have HA := hide hall
            have HB := hide hb
            have HX := HXB
            clear HXB
            have HXB := hide ((unhide HX).then hb)
            have hbw := (unhide HXB).below
            have hsz := (unhide HXB).size
            clear hall hb
            obtain ⟨q0, q1, q2, q3, q4, q5⟩ := (unhide HXB).get6
            by_cases hlt : k < n.cells.length
            · have hx : n.cells[k]? = some n.cells[k] := List.getElem?_eq_getElem hlt
              generalize n.cells[k] = x at hx
              have hca : sCellAt n k = sCellB n k x := by unfold sCellAt; rw [hx]
              have CC := hide (unhide CF wr k x hx hbw (unhide HWW (unhide P0) (unhide P1) k (unhide HA)))
              have HNO := hide (show sCellB n k x = false → false = SB from fun h => unhide F2 (unhide P0) (unhide P1) (sCellsTo_le hlt (hca.trans h)))
              have HST := hide (show sCellB n k x = true → sCellsTo n (k + 1) = true from fun h => by rw [sCellsTo_succ, unhide HA, hca, h]; rfl)
              clear hca hx HA H2 H3 H4 H5 F2 F3 F4 F5 F6 CF HWW P0 P1 HO3 HO5 hbw
              generalize sCellB n k x = CB at *
              cases CB
              · go_wp2_with fail
                refine (unhide CC).mono ?_
                rintro e V1 ⟨rfl, hb1⟩
                have HX1 := hide ((unhide HXB).then hb1)
                clear hb1
                go_wp2
                go_ret
                exact ⟨ret_bool (unhide HNO (by first | exact trivial | rfl)), (unhide HX1).below⟩
              · go_wp2_with fail
                refine (unhide CC).mono ?_
                rintro e V1 ⟨rfl, hb1⟩
                have HB1 := hide (btr (unhide HB) hb1)
                clear hb1
                go_wp2
                exact ⟨⟨k + 1, by omega, by go_num, unhide HST (by first | exact trivial | rfl), unhide HB1⟩, by simp [intOf]; omega⟩
            · have hkl : k = n.cells.length := by omega
              subst hkl
              have P2 := HA
              have HN3 := hide ((unhide HO3).later (unhide HB))
              have HN5 := hide ((unhide HO5).later (unhide HB))
              clear HA F2 CF HWW HX HB HO3 HO5 hbw hsz
              have HO3 := HN3
              have HO5 := HN5
              clear HN3 HN5
              clear q0 q1 q2 q3 q4 q5
              obtain ⟨q0, q1, q2, q3, q4, q5⟩ := (unhide HXB).get6
              go_wp2
              go_loopw [9] (fun i wr2 => ∃ k : Nat, k ≤ n.regs.length ∧ i = .int .i64 k ∧ (n.regs.take k).all (nextB n) = true ∧ Below wr.heap.size wr wr2) (fun i _ => n.regs.length - (intOf i).toNat)
              case atStart => exact ⟨0, Nat.zero_le _, rfl, rfl, brf _⟩
              case round =>
                clear q0 q1 q2 q3 q4 q5
                obtain ⟨k, hk, rfl, hall, hb⟩ := hrel
                have HA := hide hall
                have HB := hide hb
                have HX := HXB
                clear HXB
                have HXB := hide ((unhide HX).then hb)
                have hbw := (unhide HXB).below
                have hsz := (unhide HXB).size
                clear hall hb
                obtain ⟨q0, q1, q2, q3, q4, q5⟩ := (unhide HXB).get6
                by_cases hlt : k < n.regs.length
                · have hx : n.regs[k]? = some n.regs[k] := List.getElem?_eq_getElem hlt
                  have hmem : n.regs[k] ∈ n.regs := List.getElem_mem hlt
                  generalize n.regs[k] = x at hx hmem
                  rcases (unhide H3).open with ⟨hnil, _⟩ | ⟨b, o, cc, ee, _, _, _, hcs⟩
                  · rw [hnil] at hlt; simp at hlt
                  obtain ⟨rfl, rfl⟩ : a3 = some ⟨b, o, none⟩ ∧ c3 = cc := by
                    injection ee with e1 e2 e3
                    exact ⟨e1, e3⟩
                  obtain ⟨u, _, hat, hux, _, _⟩ := hcs k x hx
                  subst hux
                  have k1 := cell_later hbw (hat.get (j := 1) rfl)
                  have k3 := cell_later hbw (hat.get (j := 3) rfl)
                  have HST := hide (all_take (p := nextB n) hx)
                  have HNO := hide (show nextB n x = false → false = SB from fun h => unhide F3 (unhide P0) (unhide P1) (unhide P2) (no_all (p := nextB n) hmem h))
                  have hNx : (nextB n x = false ∧ (x.next < 0 ∨ (0 ≤ x.next ∧ (n.cells.length : Int) ≤ x.next))) ∨ ∃ (i : Nat) (d : Int) (b2 o2 : Nat), x.next = (i : Int) ∧ i < n.cells.length ∧ a2 = some ⟨b2, o2, none⟩ ∧ w.cell? ⟨b2, o2 + i * 6 + 1, none⟩ = some (.int .i64 d) ∧ nextB n x = (d == x.width) := by
                    by_cases hp : 0 ≤ x.next ∧ x.next < (n.cells.length : Int)
                    · obtain ⟨hp1, hp2⟩ := hp
                      right
                      obtain ⟨i, hi⟩ : ∃ i : Nat, x.next = (i : Int) := ⟨x.next.toNat, by omega⟩
                      have hil : i < n.cells.length := by omega
                      have hxc : n.cells[i]? = some n.cells[i] := List.getElem?_eq_getElem hil
                      rcases (unhide H2).open with ⟨hnil, _⟩ | ⟨b2, o2, c2', e2, _, _, _, hcs2⟩
                      · rw [hnil] at hil; simp at hil
                      obtain ⟨u, _, hat2, _, rfl, _⟩ := hcs2 i _ hxc
                      refine ⟨i, _, b2, o2, hi, hil, by injection e2, hat2.get (j := 1) rfl, ?_⟩
                      unfold nextB
                      rw [if_pos hp1, hi, Int.toNat_natCast, hxc]
                    · left
                      refine ⟨?_, by omega⟩
                      unfold nextB
                      by_cases g0 : 0 ≤ x.next
                      · rw [if_pos g0, List.getElem?_eq_none (by omega)]
                      · rw [if_neg g0]
                  have j1 : (0 : Int) ≤ (k : Int) := by omega
                  have j2 : (k : Int) < (n.regs.length : Int) := by omega
                  clear hat hcs hx hmem ee H2 H3 H4 H5 F3 F4 F5 F6 P0 P1 P2 HO3 HO5
                  generalize nextB n x = NB at *
                  generalize x.width = wd at *
                  generalize x.next = nx at *
                  rcases hNx with ⟨hw, hn0 | ⟨hn0, hn1⟩⟩ | ⟨i, d, b2, o2, rfl, hil, rfl, hd, hnb⟩
                  · clear hbw
                    go_wp2
                    go_quiet (fail)
                    go_wp2
                    go_ret
                    exact ⟨ret_bool (unhide HNO hw), bdn (unhide HXB).below⟩
                  · have d0 : decide (nx < 0) = false := decide_eq_false (by omega)
                    have d1 : decide ((n.cells.length : Int) ≤ nx) = true := decide_eq_true hn1
                    clear hbw hn0 hn1
                    go_wp2
                    go_quiet (fail)
                    go_wp2
                    go_ret
                    exact ⟨ret_bool (unhide HNO hw), bdn (unhide HXB).below⟩
                  · have hd2 := cell_later hbw hd
                    have d0 : decide ((i : Int) < 0) = false := decide_eq_false (by omega)
                    have d1 : decide ((n.cells.length : Int) ≤ (i : Int)) = false := decide_eq_false (by omega)
                    have i1 : (0 : Int) ≤ (i : Int) := by omega
                    have i2 : (i : Int) < (n.cells.length : Int) := by omega
                    clear hbw hd
                    cases hdw : (d != wd)
                    · have hw : NB = true := by rw [hnb]; simpa using hdw
                      clear hnb
                      go_wp2
                      go_quiet (fail)
                      go_wp2
                      exact ⟨⟨k + 1, by omega, by go_num, by rw [unhide HST, unhide HA, hw]; rfl, bdn (unhide HB)⟩, by simp [intOf]; omega⟩
                    · have hw : NB = false := by rw [hnb]; simpa using hdw
                      clear hnb
                      go_wp2
                      go_quiet (fail)
                      go_wp2
                      go_ret
                      exact ⟨ret_bool (unhide HNO hw), bdn (unhide HXB).below⟩
                · have hkl : k = n.regs.length := by omega
                  subst hkl
                  rw [List.take_of_length_le (Nat.le_refl _)] at HA
                  have P3 : Hid (nextsB n = true) := HA
                  have HN3 := hide ((unhide HO3).later (unhide HB))
                  have HN5 := hide ((unhide HO5).later (unhide HB))
                  clear HA F3 H3 HX HB HO3 HO5 hbw hsz
                  have HO3 := HN3
                  have HO5 := HN5
                  clear HN3 HN5
                  clear q0 q1 q2 q3 q4 q5
                  obtain ⟨q0, q1, q2, q3, q4, q5⟩ := (unhide HXB).get6
                  go_wp2
                  go_loopw [11, 12] (fun v i wr2 => ∃ k : Nat, k ≤ n.outs.length ∧ i = .int .i64 k ∧ OS wr.heap.size wr2 v ((n.outs.take k).map (·.name)) ∧ (n.outs.take k).all (outB n (fun _ => true)) = true ∧ Below wr.heap.size wr wr2) (fun _ i _ => n.outs.length - (intOf i).toNat)
                  case atStart => exact ⟨0, Nat.zero_le _, rfl, OS_start (Nat.le_refl _), rfl, bal (brf _) _⟩
                  case round =>
                    clear q0 q1 q2 q3 q4 q5
                    obtain ⟨k, hk, rfl, ho, hall, hb⟩ := hrel
                    have HOX := hide ho
                    clear ho
                    have HA := hide hall
                    have HB := hide hb
                    have HX := HXB
                    clear HXB
                    have HXB := hide ((unhide HX).then hb)
                    have hbw := (unhide HXB).below
                    have hsz := (unhide HXB).size
                    clear hall hb
                    obtain ⟨q0, q1, q2, q3, q4, q5⟩ := (unhide HXB).get6
                    by_cases hlt : k < n.outs.length
                    · have hx : n.outs[k]? = some n.outs[k] := List.getElem?_eq_getElem hlt
                      have hmem : n.outs[k] ∈ n.outs := List.getElem_mem hlt
                      generalize n.outs[k] = x at hx hmem
                      rcases (unhide H4).open with ⟨hnil, _⟩ | ⟨b, o, cc, ee, _, _, _, hcs⟩
                      · rw [hnil] at hlt; simp at hlt
                      obtain ⟨rfl, rfl⟩ : a4 = some ⟨b, o, none⟩ ∧ c4 = cc := by
                        injection ee with e1 e2 e3
                        exact ⟨e1, e3⟩
                      obtain ⟨u, _, hat, hux, hnsz⟩ := hcs k x hx
                      subst hux
                      have k0 := cell_later hbw (hat.get (j := 0) rfl)
                      have k1 := cell_later hbw (hat.get (j := 1) rfl)
                      simp only [Nat.add_zero] at k0
                      have C1 := hide (hat.get (j := 1) rfl)
                      have HST := hide (all_take (p := outB n (fun _ => true)) hx)
                      have HMP := hide (map_take (f := fun p : NetOut => p.name) hx)
                      have HNO := hide (show outB n (fun _ => true) x = false → false = SB from fun h => unhide F4 (unhide P0) (unhide P1) (unhide P2) (unhide P3) (no_all (p := outB n (fun _ => true)) hmem h))
                      have HLN := hide (show ((n.outs.take k).map (·.name)).length ≤ 1000 from by rw [List.length_map, List.length_take]; omega)
                      have HN := hide hnsz
                      have hNx : (outB n (fun _ => true) x = false ∧ (x.cell < 0 ∨ (0 ≤ x.cell ∧ (n.cells.length : Int) ≤ x.cell))) ∨ ∃ (i : Nat) (d : Int) (b2 o2 : Nat), x.cell = (i : Int) ∧ i < n.cells.length ∧ a2 = some ⟨b2, o2, none⟩ ∧ w.cell? ⟨b2, o2 + i * 6 + 1, none⟩ = some (.int .i64 d) ∧ outB n (fun _ => true) x = true := by
                        by_cases hp : 0 ≤ x.cell ∧ x.cell < (n.cells.length : Int)
                        · obtain ⟨hp1, hp2⟩ := hp
                          right
                          obtain ⟨i, hi⟩ : ∃ i : Nat, x.cell = (i : Int) := ⟨x.cell.toNat, by omega⟩
                          have hil : i < n.cells.length := by omega
                          have hxc : n.cells[i]? = some n.cells[i] := List.getElem?_eq_getElem hil
                          rcases (unhide H2).open with ⟨hnil, _⟩ | ⟨b2, o2, c2', e2, _, _, _, hcs2⟩
                          · rw [hnil] at hil; simp at hil
                          obtain ⟨u, _, hat2, _, rfl, _⟩ := hcs2 i _ hxc
                          refine ⟨i, _, b2, o2, hi, hil, by injection e2, hat2.get (j := 1) rfl, ?_⟩
                          unfold outB
                          rw [if_pos hp1, hi, Int.toNat_natCast, hxc]
                        · left
                          refine ⟨?_, by omega⟩
                          unfold outB
                          by_cases g0 : 0 ≤ x.cell
                          · rw [if_pos g0, List.getElem?_eq_none (by omega)]
                          · rw [if_neg g0]
                      have j1 : (0 : Int) ≤ (k : Int) := by omega
                      have j2 : (k : Int) < (n.outs.length : Int) := by omega
                      clear hat hcs hx hmem ee hnsz H2 H4 H5 F4 F5 F6 P0 P1 P2 P3 HO3 HO5 hbw
                      generalize outB n (fun _ => true) x = NB at *
                      generalize x.name = nm at *
                      generalize x.cell = nx at *
                      rcases hNx with ⟨hw, hn0 | ⟨hn0, hn1⟩⟩ | ⟨i, d, b2, o2, rfl, hil, rfl, hd, hnb⟩
                      · have d0 : decide (nx < 0) = true := decide_eq_true hn0
                        clear hn0
                        go_wp2_with (first
                          | (at_builtin; refine wpList_append_own _ rfl _ _ 23 rfl _ 9 i0 (.string ByteArray.empty) 1 16 Tryd.underlying23 hi hz0 hz1 hz2 rfl (by decide) _ _ _ rfl ((unhide HOX).1.alloc _) ⟨wr.heap.size, 0, none⟩ 1 1 [.string nm] rfl rfl (newS _ _ _ (by first | rfl | simp)) (oneS _) (by have := unhide HLN; unfold maxLen; omega) (by have := unhide HLN; omega) (sz_a (unhide HB).size _) ?_; intro v' w2 hown' hgrow _; have HB2 := hide (below_grown (bal (unhide HB) _) hgrow (sz_a (unhide HB).size _) (own_row (unhide HOX).1)); have HX2 := hide ((unhide HX).then (unhide HB2)); obtain ⟨p0, p1, p2, p3, p4, p5⟩ := (unhide HX2).get6; have m1 := cell_later (unhide HX2).below (unhide C1); have HO2 := hide (OS.step hown' (unhide HOX).2 (unhide HN))))
                        go_quiet (fail)
                        go_wp2
                        go_ret
                        exact ⟨ret_bool (unhide HNO hw), bdn (unhide HX2).below⟩
                      · have d0 : decide (nx < 0) = false := decide_eq_false (by omega)
                        have d1 : decide ((n.cells.length : Int) ≤ nx) = true := decide_eq_true hn1
                        clear hn0 hn1
                        go_wp2_with (first
                          | (at_builtin; refine wpList_append_own _ rfl _ _ 23 rfl _ 9 i0 (.string ByteArray.empty) 1 16 Tryd.underlying23 hi hz0 hz1 hz2 rfl (by decide) _ _ _ rfl ((unhide HOX).1.alloc _) ⟨wr.heap.size, 0, none⟩ 1 1 [.string nm] rfl rfl (newS _ _ _ (by first | rfl | simp)) (oneS _) (by have := unhide HLN; unfold maxLen; omega) (by have := unhide HLN; omega) (sz_a (unhide HB).size _) ?_; intro v' w2 hown' hgrow _; have HB2 := hide (below_grown (bal (unhide HB) _) hgrow (sz_a (unhide HB).size _) (own_row (unhide HOX).1)); have HX2 := hide ((unhide HX).then (unhide HB2)); obtain ⟨p0, p1, p2, p3, p4, p5⟩ := (unhide HX2).get6; have m1 := cell_later (unhide HX2).below (unhide C1); have HO2 := hide (OS.step hown' (unhide HOX).2 (unhide HN))))
                        go_quiet (fail)
                        go_wp2
                        go_ret
                        exact ⟨ret_bool (unhide HNO hw), bdn (unhide HX2).below⟩
                      · have CD := hide hd
                        have d0 : decide ((i : Int) < 0) = false := decide_eq_false (by omega)
                        have d1 : decide ((n.cells.length : Int) ≤ (i : Int)) = false := decide_eq_false (by omega)
                        have i1 : (0 : Int) ≤ (i : Int) := by omega
                        have i2 : (i : Int) < (n.cells.length : Int) := by omega
                        clear hd
                        have hw : NB = true := hnb
                        clear hnb CD
                        go_wp2_with (first
                          | (at_builtin; refine wpList_append_own _ rfl _ _ 23 rfl _ 9 i0 (.string ByteArray.empty) 1 16 Tryd.underlying23 hi hz0 hz1 hz2 rfl (by decide) _ _ _ rfl ((unhide HOX).1.alloc _) ⟨wr.heap.size, 0, none⟩ 1 1 [.string nm] rfl rfl (newS _ _ _ (by first | rfl | simp)) (oneS _) (by have := unhide HLN; unfold maxLen; omega) (by have := unhide HLN; omega) (sz_a (unhide HB).size _) ?_; intro v' w2 hown' hgrow _; have HB2 := hide (below_grown (bal (unhide HB) _) hgrow (sz_a (unhide HB).size _) (own_row (unhide HOX).1)); have HX2 := hide ((unhide HX).then (unhide HB2)); obtain ⟨p0, p1, p2, p3, p4, p5⟩ := (unhide HX2).get6; have m1 := cell_later (unhide HX2).below (unhide C1); have HO2 := hide (OS.step hown' (unhide HOX).2 (unhide HN))))
                        go_quiet (fail)
                        go_wp2
                        exact ⟨⟨k + 1, by omega, by go_num, by rw [unhide HMP]; exact (unhide HO2).later (bdn (brf _)), by rw [unhide HST, unhide HA, hw]; rfl, bdn (unhide HB2)⟩, by simp [intOf]; omega⟩
                    · have hkl : k = n.outs.length := by omega
                      subst hkl
                      rw [List.take_of_length_le (Nat.le_refl _)] at HOX HA
                      have P4 := HA
                      have HO11 := HOX
                      have HN3 := hide ((unhide HO3).later (unhide HB))
                      have HN5 := hide ((unhide HO5).later (unhide HB))

                      clear HA F4 H4 HX HB HO3 HO5 HOX hbw hsz
                      have HO3 := HN3
                      have HO5 := HN5

                      clear HN3 HN5
                      clear q0 q1 q2 q3 q4 q5
                      obtain ⟨q0, q1, q2, q3, q4, q5⟩ := (unhide HXB).get6
                      go_wp2
                      go_loopw [13, 14] (fun v i wr2 => ∃ k : Nat, k ≤ n.checks.length ∧ i = .int .i64 k ∧ OS wr.heap.size wr2 v ((n.checks.take k).map (·.name)) ∧ (n.checks.take k).all (outB n (fun x => x == 1)) = true ∧ Below wr.heap.size wr wr2) (fun _ i _ => n.checks.length - (intOf i).toNat)
                      case atStart => exact ⟨0, Nat.zero_le _, rfl, OS_start (Nat.le_refl _), rfl, bal (brf _) _⟩
                      case round =>
                        clear q0 q1 q2 q3 q4 q5
                        obtain ⟨k, hk, rfl, ho, hall, hb⟩ := hrel
                        have HOX := hide ho
                        clear ho
                        have HA := hide hall
                        have HB := hide hb
                        have HX := HXB
                        clear HXB
                        have HXB := hide ((unhide HX).then hb)
                        have hbw := (unhide HXB).below
                        have hsz := (unhide HXB).size
                        clear hall hb
                        obtain ⟨q0, q1, q2, q3, q4, q5⟩ := (unhide HXB).get6
                        by_cases hlt : k < n.checks.length
                        · have hx : n.checks[k]? = some n.checks[k] := List.getElem?_eq_getElem hlt
                          have hmem : n.checks[k] ∈ n.checks := List.getElem_mem hlt
                          generalize n.checks[k] = x at hx hmem
                          rcases (unhide H5).open with ⟨hnil, _⟩ | ⟨b, o, cc, ee, _, _, _, hcs⟩
                          · rw [hnil] at hlt; simp at hlt
                          obtain ⟨rfl, rfl⟩ : a5 = some ⟨b, o, none⟩ ∧ c5 = cc := by
                            injection ee with e1 e2 e3
                            exact ⟨e1, e3⟩
                          obtain ⟨u, _, hat, hux, hnsz⟩ := hcs k x hx
                          subst hux
                          have k0 := cell_later hbw (hat.get (j := 0) rfl)
                          have k1 := cell_later hbw (hat.get (j := 1) rfl)
                          simp only [Nat.add_zero] at k0
                          have C1 := hide (hat.get (j := 1) rfl)
                          have HST := hide (all_take (p := outB n (fun x => x == 1)) hx)
                          have HMP := hide (map_take (f := fun p : NetOut => p.name) hx)
                          have HNO := hide (show outB n (fun x => x == 1) x = false → false = SB from fun h => unhide F5 (unhide P0) (unhide P1) (unhide P2) (unhide P3) (unhide P4) (no_all (p := outB n (fun x => x == 1)) hmem h))
                          have HLN := hide (show ((n.checks.take k).map (·.name)).length ≤ 1000 from by rw [List.length_map, List.length_take]; omega)
                          have HN := hide hnsz
                          have hNx : (outB n (fun x => x == 1) x = false ∧ (x.cell < 0 ∨ (0 ≤ x.cell ∧ (n.cells.length : Int) ≤ x.cell))) ∨ ∃ (i : Nat) (d : Int) (b2 o2 : Nat), x.cell = (i : Int) ∧ i < n.cells.length ∧ a2 = some ⟨b2, o2, none⟩ ∧ w.cell? ⟨b2, o2 + i * 6 + 1, none⟩ = some (.int .i64 d) ∧ outB n (fun x => x == 1) x = (d == 1) := by
                            by_cases hp : 0 ≤ x.cell ∧ x.cell < (n.cells.length : Int)
                            · obtain ⟨hp1, hp2⟩ := hp
                              right
                              obtain ⟨i, hi⟩ : ∃ i : Nat, x.cell = (i : Int) := ⟨x.cell.toNat, by omega⟩
                              have hil : i < n.cells.length := by omega
                              have hxc : n.cells[i]? = some n.cells[i] := List.getElem?_eq_getElem hil
                              rcases (unhide H2).open with ⟨hnil, _⟩ | ⟨b2, o2, c2', e2, _, _, _, hcs2⟩
                              · rw [hnil] at hil; simp at hil
                              obtain ⟨u, _, hat2, _, rfl, _⟩ := hcs2 i _ hxc
                              refine ⟨i, _, b2, o2, hi, hil, by injection e2, hat2.get (j := 1) rfl, ?_⟩
                              unfold outB
                              rw [if_pos hp1, hi, Int.toNat_natCast, hxc]
                            · left
                              refine ⟨?_, by omega⟩
                              unfold outB
                              by_cases g0 : 0 ≤ x.cell
                              · rw [if_pos g0, List.getElem?_eq_none (by omega)]
                              · rw [if_neg g0]
                          have j1 : (0 : Int) ≤ (k : Int) := by omega
                          have j2 : (k : Int) < (n.checks.length : Int) := by omega
                          clear hat hcs hx hmem ee hnsz H2 H5 F5 F6 P0 P1 P2 P3 P4 HO3 HO5 HO11 hbw
                          generalize outB n (fun x => x == 1) x = NB at *
                          generalize x.name = nm at *
                          generalize x.cell = nx at *
                          rcases hNx with ⟨hw, hn0 | ⟨hn0, hn1⟩⟩ | ⟨i, d, b2, o2, rfl, hil, rfl, hd, hnb⟩
                          · have d0 : decide (nx < 0) = true := decide_eq_true hn0
                            clear hn0
                            go_wp2_with (first
                              | (at_builtin; refine wpList_append_own _ rfl _ _ 23 rfl _ 9 i0 (.string ByteArray.empty) 1 16 Tryd.underlying23 hi hz0 hz1 hz2 rfl (by decide) _ _ _ rfl ((unhide HOX).1.alloc _) ⟨wr.heap.size, 0, none⟩ 1 1 [.string nm] rfl rfl (newS _ _ _ (by first | rfl | simp)) (oneS _) (by have := unhide HLN; unfold maxLen; omega) (by have := unhide HLN; omega) (sz_a (unhide HB).size _) ?_; intro v' w2 hown' hgrow _; have HB2 := hide (below_grown (bal (unhide HB) _) hgrow (sz_a (unhide HB).size _) (own_row (unhide HOX).1)); have HX2 := hide ((unhide HX).then (unhide HB2)); obtain ⟨p0, p1, p2, p3, p4, p5⟩ := (unhide HX2).get6; have m1 := cell_later (unhide HX2).below (unhide C1); have HO2 := hide (OS.step hown' (unhide HOX).2 (unhide HN))))
                            go_ret
                            exact ⟨ret_bool (unhide HNO hw), (unhide HX2).below⟩
                          · have d0 : decide (nx < 0) = false := decide_eq_false (by omega)
                            have d1 : decide ((n.cells.length : Int) ≤ nx) = true := decide_eq_true hn1
                            clear hn0 hn1
                            go_wp2_with (first
                              | (at_builtin; refine wpList_append_own _ rfl _ _ 23 rfl _ 9 i0 (.string ByteArray.empty) 1 16 Tryd.underlying23 hi hz0 hz1 hz2 rfl (by decide) _ _ _ rfl ((unhide HOX).1.alloc _) ⟨wr.heap.size, 0, none⟩ 1 1 [.string nm] rfl rfl (newS _ _ _ (by first | rfl | simp)) (oneS _) (by have := unhide HLN; unfold maxLen; omega) (by have := unhide HLN; omega) (sz_a (unhide HB).size _) ?_; intro v' w2 hown' hgrow _; have HB2 := hide (below_grown (bal (unhide HB) _) hgrow (sz_a (unhide HB).size _) (own_row (unhide HOX).1)); have HX2 := hide ((unhide HX).then (unhide HB2)); obtain ⟨p0, p1, p2, p3, p4, p5⟩ := (unhide HX2).get6; have m1 := cell_later (unhide HX2).below (unhide C1); have HO2 := hide (OS.step hown' (unhide HOX).2 (unhide HN))))
                            go_ret
                            exact ⟨ret_bool (unhide HNO hw), (unhide HX2).below⟩
                          · have CD := hide hd
                            have d0 : decide ((i : Int) < 0) = false := decide_eq_false (by omega)
                            have d1 : decide ((n.cells.length : Int) ≤ (i : Int)) = false := decide_eq_false (by omega)
                            have i1 : (0 : Int) ≤ (i : Int) := by omega
                            have i2 : (i : Int) < (n.cells.length : Int) := by omega
                            clear hd
                            cases hdw : (d != 1)
                            · have hw : NB = true := by rw [hnb]; simpa using hdw
                              clear hnb
                              go_wp2_with (first
                                | (at_builtin; refine wpList_append_own _ rfl _ _ 23 rfl _ 9 i0 (.string ByteArray.empty) 1 16 Tryd.underlying23 hi hz0 hz1 hz2 rfl (by decide) _ _ _ rfl ((unhide HOX).1.alloc _) ⟨wr.heap.size, 0, none⟩ 1 1 [.string nm] rfl rfl (newS _ _ _ (by first | rfl | simp)) (oneS _) (by have := unhide HLN; unfold maxLen; omega) (by have := unhide HLN; omega) (sz_a (unhide HB).size _) ?_; intro v' w2 hown' hgrow _; have HB2 := hide (below_grown (bal (unhide HB) _) hgrow (sz_a (unhide HB).size _) (own_row (unhide HOX).1)); have HX2 := hide ((unhide HX).then (unhide HB2)); obtain ⟨p0, p1, p2, p3, p4, p5⟩ := (unhide HX2).get6; have m1 := cell_later (unhide HX2).below (unhide C1); have HO2 := hide (OS.step hown' (unhide HOX).2 (unhide HN)); have md := cell_later (unhide HX2).below (unhide CD)))
                              exact ⟨⟨k + 1, by omega, by go_num, by rw [unhide HMP]; exact unhide HO2, by rw [unhide HST, unhide HA, hw]; rfl, (unhide HB2)⟩, by simp [intOf]; omega⟩
                            · have hw : NB = false := by rw [hnb]; simpa using hdw
                              clear hnb
                              go_wp2_with (first
                                | (at_builtin; refine wpList_append_own _ rfl _ _ 23 rfl _ 9 i0 (.string ByteArray.empty) 1 16 Tryd.underlying23 hi hz0 hz1 hz2 rfl (by decide) _ _ _ rfl ((unhide HOX).1.alloc _) ⟨wr.heap.size, 0, none⟩ 1 1 [.string nm] rfl rfl (newS _ _ _ (by first | rfl | simp)) (oneS _) (by have := unhide HLN; unfold maxLen; omega) (by have := unhide HLN; omega) (sz_a (unhide HB).size _) ?_; intro v' w2 hown' hgrow _; have HB2 := hide (below_grown (bal (unhide HB) _) hgrow (sz_a (unhide HB).size _) (own_row (unhide HOX).1)); have HX2 := hide ((unhide HX).then (unhide HB2)); obtain ⟨p0, p1, p2, p3, p4, p5⟩ := (unhide HX2).get6; have m1 := cell_later (unhide HX2).below (unhide C1); have HO2 := hide (OS.step hown' (unhide HOX).2 (unhide HN)); have md := cell_later (unhide HX2).below (unhide CD)))
                              go_ret
                              exact ⟨ret_bool (unhide HNO hw), (unhide HX2).below⟩
                        · have hkl : k = n.checks.length := by omega
                          subst hkl
                          rw [List.take_of_length_le (Nat.le_refl _)] at HOX HA
                          have P5 := HA
                          have HO13 := HOX
                          have HN3 := hide ((unhide HO3).later (unhide HB))
                          have HN5 := hide ((unhide HO5).later (unhide HB))
                          have HN11 := hide ((unhide HO11).later (unhide HB))
                          clear HA F5  HX HB HO3 HO5 HOX hbw hsz HO11
                          have HO3 := HN3
                          have HO5 := HN5
                          have HO11 := HN11
                          clear HN3 HN5 HN11
                          have HE := hide (unhide F6 (unhide P0) (unhide P1) (unhide P2) (unhide P3) (unhide P4) (unhide P5))
                          have LN3 := hide (show (n.clocks ++ n.ins.map (·.name)).length ≤ 1000 from by rw [List.length_append, List.length_map]; omega)
                          have LN5 := hide (show (n.regs.map (·.name)).length ≤ 1000 from by rw [List.length_map]; omega)
                          have LN11 := hide (show (n.outs.map (·.name)).length ≤ 1000 from by rw [List.length_map]; omega)
                          have LN13 := hide (show (n.checks.map (·.name)).length ≤ 1000 from by rw [List.length_map]; omega)
                          have E : snamesB n = (namesB (n.clocks ++ n.ins.map (·.name)) && namesB (n.regs.map (·.name)) && namesB (n.outs.map (·.name)) && namesB (n.checks.map (·.name))) := rfl
                          rw [E] at HE
                          clear E F6 P0 P1 P2 P3 P4 P5 H2 H5
                          generalize n.clocks ++ n.ins.map (fun x : NetPort => x.name) = N1 at *
                          generalize n.regs.map (fun x : NetReg => x.name) = N2 at *
                          generalize n.outs.map (fun x : NetOut => x.name) = N3 at *
                          generalize n.checks.map (fun x : NetOut => x.name) = N4 at *
                          cases n1 : namesB N1
                          · rw [n1] at HE
                            go_wp2_with fail
                            refine (sNames _ _ _ (by have := unhide LN3; omega) ((unhide HO3).any (by have := unhide LN3; omega))).mono ?_
                            rintro e V1 ⟨rfl, hb⟩
                            have G1 := hide hb
                            clear hb
                            rw [n1]
                            go_wp2
                            go_ret
                            exact ⟨ret_bool (unhide HE), btr (unhide HXB).below (unhide G1)⟩
                          cases n2 : namesB N2
                          · rw [n1, n2] at HE
                            go_wp2_with fail
                            refine (sNames _ _ _ (by have := unhide LN3; omega) ((unhide HO3).any (by have := unhide LN3; omega))).mono ?_
                            rintro e V1 ⟨rfl, hb⟩
                            have G1 := hide hb
                            clear hb
                            rw [n1]
                            go_wp2_with fail
                            refine (sNames _ _ _ (by have := unhide LN5; omega) (((unhide HO5).later (unhide G1)).any (by have := unhide LN5; omega))).mono ?_
                            rintro e V2 ⟨rfl, hb⟩
                            have G2 := hide (btr (unhide G1) hb)
                            clear hb
                            rw [n2]
                            go_wp2
                            go_ret
                            exact ⟨ret_bool (unhide HE), btr (unhide HXB).below (unhide G2)⟩
                          cases n3 : namesB N3
                          · rw [n1, n2, n3] at HE
                            go_wp2_with fail
                            refine (sNames _ _ _ (by have := unhide LN3; omega) ((unhide HO3).any (by have := unhide LN3; omega))).mono ?_
                            rintro e V1 ⟨rfl, hb⟩
                            have G1 := hide hb
                            clear hb
                            rw [n1]
                            go_wp2_with fail
                            refine (sNames _ _ _ (by have := unhide LN5; omega) (((unhide HO5).later (unhide G1)).any (by have := unhide LN5; omega))).mono ?_
                            rintro e V2 ⟨rfl, hb⟩
                            have G2 := hide (btr (unhide G1) hb)
                            clear hb
                            rw [n2]
                            go_wp2_with fail
                            refine (sNames _ _ _ (by have := unhide LN11; omega) (((unhide HO11).later (unhide G2)).any (by have := unhide LN11; omega))).mono ?_
                            rintro e V3 ⟨rfl, hb⟩
                            have G3 := hide (btr (unhide G2) hb)
                            clear hb
                            rw [n3]
                            go_wp2
                            go_ret
                            exact ⟨ret_bool (unhide HE), btr (unhide HXB).below (unhide G3)⟩
                          cases n4 : namesB N4
                          all_goals
                            rw [n1, n2, n3, n4] at HE
                            go_wp2_with fail
                            refine (sNames _ _ _ (by have := unhide LN3; omega) ((unhide HO3).any (by have := unhide LN3; omega))).mono ?_
                            rintro e V1 ⟨rfl, hb⟩
                            have G1 := hide hb
                            clear hb
                            rw [n1]
                            go_wp2_with fail
                            refine (sNames _ _ _ (by have := unhide LN5; omega) (((unhide HO5).later (unhide G1)).any (by have := unhide LN5; omega))).mono ?_
                            rintro e V2 ⟨rfl, hb⟩
                            have G2 := hide (btr (unhide G1) hb)
                            clear hb
                            rw [n2]
                            go_wp2_with fail
                            refine (sNames _ _ _ (by have := unhide LN11; omega) (((unhide HO11).later (unhide G2)).any (by have := unhide LN11; omega))).mono ?_
                            rintro e V3 ⟨rfl, hb⟩
                            have G3 := hide (btr (unhide G2) hb)
                            clear hb
                            rw [n3]
                            go_wp2_with fail
                            refine (sNames _ _ _ (by have := unhide LN13; omega) (((unhide HO13).later (unhide G3)).any (by have := unhide LN13; omega))).mono ?_
                            rintro e V4 ⟨rfl, hb⟩
                            have G4 := hide (btr (unhide G3) hb)
                            clear hb
                            rw [n4]
                            go_wp2
                            go_ret
                            exact ⟨ret_bool (unhide HE), btr (unhide HXB).below (unhide G4)⟩
end Go.Proofs.YtkmpjoiefcjbnaaDoor
