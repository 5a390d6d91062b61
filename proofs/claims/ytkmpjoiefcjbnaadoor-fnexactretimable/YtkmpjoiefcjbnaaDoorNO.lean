/- The program's NetOK. -/
import Derived.Test.YtkmpjoiefcjbnaaDoorPO
import Derived.Test.YtkmpjoiefcjbnaaDoorNFA
namespace Go.Proofs.YtkmpjoiefcjbnaaDoor
open Go.RowKit Gs
set_option linter.unusedVariables false
set_option maxRecDepth 100000
def cellAt (n : Net) (j : Nat) : Bool := match n.cells[j]? with
  | some c => cellB n j c
  | none => false
def cellsTo (n : Net) (k : Nat) : Bool := (List.range k).all (cellAt n)
theorem cellsTo_succ (n : Net) (k : Nat) : cellsTo n (k + 1) = (cellsTo n k && cellAt n k) := by
  unfold cellsTo; rw [List.range_succ, List.all_append]; simp
theorem cellsTo_le {n : Net} {k m : Nat} (hkm : k < m) (h : cellAt n k = false) : cellsTo n m = false := by
  unfold cellsTo
  rw [← Bool.not_eq_true]; intro e
  rw [List.all_eq_true.1 e k (List.mem_range.2 hkm)] at h; cases h
def countsB (n : Net) : Bool := decide (n.cells.length ≤ 4096) && decide (n.regs.length ≤ 256) && decide (n.clocks.length ≤ 8) && decide (n.ins.length ≤ 256) && decide (n.outs.length ≤ 256) && decide (n.checks.length ≤ 256)
/-- What the program's NetOK answers. -/
def netB (n : Net) : Bool := countsB n && cellsTo n n.cells.length && portsB n && netNames n
theorem netB_counts {n : Net} (h : countsB n = false) : false = netB n := by unfold netB; rw [h]; rfl
set_option maxHeartbeats 16000000 in
theorem iNetOK (n : Net) (u : List Value) (w : World) (hr : RNet w 0 n u) :
    Calls Tryd.prog 25 #[.agg u.toArray] w fun e w' => e = .returned (.bool (netB n)) ∧ Below w.heap.size w w' := by
  obtain ⟨v0, v1, v2, v3, v4, v5, rfl, h0, h1, h2, h3, h4, h5⟩ := hr
  show Calls Tryd.prog 25 #[.agg #[v0, v1, v2, v3, v4, v5]] w _
  have CF := hide (fun (V : World) (j : Nat) (c : Cell) (hj : n.cells[j]? = some c) (hb : Below w.heap.size w V) => iCellFits n v0 v1 v2 v3 v4 v5 V j c hj ⟨h0.later RNetPort.keeps hb, h2.later RCell.keeps hb, h3.later RNetReg.keeps hb⟩)
  have PF := hide (fun (V : World) (hb : Below w.heap.size w V) => iPortsFit n v0 v1 v2 v3 v4 v5 V (h0.later RNetPort.keeps hb) (h1.later RStr.keeps hb) (h2.later RCell.keeps hb) (h3.later RNetReg.keeps hb) (h4.later RNetOut.keeps hb) (h5.later RNetOut.keeps hb))
  have NF := hide (fun (V : World) (hb : Below w.heap.size w V) (l0 : n.ins.length ≤ 4096) (l1 : n.clocks.length ≤ 4096) (l3 : n.regs.length ≤ 4096) (l4 : n.outs.length ≤ 4096) (l5 : n.checks.length ≤ 4096) => iNetNames n v0 v1 v2 v3 v4 v5 V (h0.later RNetPort.keeps hb) (h1.later RStr.keeps hb) (h3.later RNetReg.keeps hb) (h4.later RNetOut.keeps hb) (h5.later RNetOut.keeps hb) l0 l1 l3 l4 l5)
  have hl0 := h0.len
  have hl1 := h1.len
  have hl2 := h2.len
  have hl3 := h3.len
  have hl4 := h4.len
  have hl5 := h5.len
  unfold maxLen at hl0 hl1 hl2 hl3 hl4 hl5
  obtain ⟨a0, c0, e0⟩ := h0.slice
  obtain ⟨a1, c1, e1⟩ := h1.slice
  obtain ⟨a2, c2, e2⟩ := h2.slice
  obtain ⟨a3, c3, e3⟩ := h3.slice
  obtain ⟨a4, c4, e4⟩ := h4.slice
  obtain ⟨a5, c5, e5⟩ := h5.slice
  subst e0 e1 e2 e3 e4 e5
  clear h0 h1 h2 h3 h4 h5
  have nlt : ∀ {a b : Nat}, ¬ a ≤ b → decide (a ≤ b) = false := fun h => decide_eq_false h
  by_cases q2 : n.cells.length ≤ 4096
  · by_cases q3 : n.regs.length ≤ 256
    · by_cases q1 : n.clocks.length ≤ 8
      · have r2 : (n.cells.length : Int) ≤ 4096 := by omega
        have r3 : (n.regs.length : Int) ≤ 256 := by omega
        have r1 : (n.clocks.length : Int) ≤ 8 := by omega
        by_cases qm : n.ins.length ≤ 256 ∧ n.outs.length ≤ 256 ∧ n.checks.length ≤ 256
        · obtain ⟨q0, q4, q5⟩ := qm
          have hC : countsB n = true := by unfold countsB; simp [q0, q1, q2, q3, q4, q5]
          have E : netB n = (cellsTo n n.cells.length && portsB n && netNames n) := by unfold netB; rw [hC]; rfl
          have r0 : (n.ins.length : Int) ≤ 256 := by omega
          have r4 : (n.outs.length : Int) ≤ 256 := by omega
          have r5 : (n.checks.length : Int) ≤ 256 := by omega
          generalize netB n = NB at *
          have HE0 := hide (show cellsTo n n.cells.length = false → false = NB from fun h => by rw [E, h]; rfl)
          have HE1 := hide (show cellsTo n n.cells.length = true → portsB n = false → false = NB from fun h h' => by rw [E, h, h']; rfl)
          have HE2 := hide (show cellsTo n n.cells.length = true → portsB n = true → netNames n = NB from fun h h' => by rw [E, h, h']; rfl)
          have NF' := hide (fun V hb => unhide NF V hb (by omega) (by omega) (by omega) (by omega) (by omega))
          clear E hC NF nlt
          go_enter Tryd.func25, Tryd.ntmps25
          go_wp2
          all_goals
            go_loopw [34] (fun i wr => ∃ k : Nat, k ≤ n.cells.length ∧ i = .int .i64 k ∧ cellsTo n k = true ∧ Bt 37 w #[.slice a0 n.ins.length c0, .slice a1 n.clocks.length c1, .slice a2 n.cells.length c2, .slice a3 n.regs.length c3, .slice a4 n.outs.length c4, .slice a5 n.checks.length c5] wr) (fun i _ => n.cells.length - (intOf i).toNat)
            case atStart => exact ⟨0, Nat.zero_le _, rfl, rfl, Bt.refl _ _ _⟩
            case round =>
              obtain ⟨k, hk, rfl, hall, hbx⟩ := hrel
              obtain ⟨t0, t1, t2, t3, t4, t5⟩ := hbx.get6
              have HX := hide hbx
              have HA := hide hall
              clear hbx hall
              by_cases hlt : k < n.cells.length
              · have hx : n.cells[k]? = some n.cells[k] := List.getElem?_eq_getElem hlt
                generalize n.cells[k] = x at hx
                have hca : cellAt n k = cellB n k x := by unfold cellAt; rw [hx]
                have CC := hide (fun V hb => unhide CF V k x hx hb)
                have HNO := hide (show cellB n k x = false → false = NB from fun h => unhide HE0 (cellsTo_le hlt (hca.trans h)))
                have HST := hide (show cellB n k x = true → cellsTo n (k + 1) = true from fun h => by rw [cellsTo_succ, unhide HA, hca, h]; rfl)
                clear CF PF NF' HE0 HE1 HE2 hca hx HA
                generalize cellB n k x = CB at *
                cases CB
                · go_wp2_with fail
                  refine (unhide CC _ (unhide HX).below).mono ?_
                  rintro e V1 ⟨rfl, hb1⟩
                  have HX1 := hide ((unhide HX).then hb1)
                  clear hb1
                  go_wp2
                  go_ret
                  exact ⟨ret_bool (unhide HNO (by first | exact trivial | rfl)), (unhide HX1).below⟩
                · go_wp2_with fail
                  refine (unhide CC _ (unhide HX).below).mono ?_
                  rintro e V1 ⟨rfl, hb1⟩
                  have HX1 := hide ((unhide HX).then hb1)
                  clear hb1
                  go_wp2
                  go_roundw
                  case rel => exact ⟨k + 1, by omega, by go_num, unhide HST (by first | exact trivial | rfl), unhide HX1⟩
                  case measure => simp [intOf]; omega
              · obtain rfl : k = n.cells.length := by omega
                have H1 := hide (unhide HE1 (unhide HA))
                have H2 := hide (unhide HE2 (unhide HA))
                clear CF HE0 HE1 HE2 HA
                generalize portsB n = PB at *
                generalize netNames n = MB at *
                cases PB
                · go_wp2_with fail
                  refine (unhide PF _ (unhide HX).below).mono ?_
                  rintro e V1 ⟨rfl, hb1⟩
                  have HX1 := hide ((unhide HX).then hb1)
                  clear hb1
                  go_wp2
                  go_ret
                  exact ⟨ret_bool (unhide H1 (by first | exact trivial | rfl)), (unhide HX1).below⟩
                · go_wp2_with fail
                  refine (unhide PF _ (unhide HX).below).mono ?_
                  rintro e V1 ⟨rfl, hb1⟩
                  have HX1 := hide ((unhide HX).then hb1)
                  clear hb1 t0 t1 t2 t3 t4 t5
                  obtain ⟨t0, t1, t2, t3, t4, t5⟩ := (unhide HX1).get6
                  go_wp2_with fail
                  refine (unhide NF' _ (unhide HX1).below).mono ?_
                  rintro e V2 ⟨rfl, hb1⟩
                  have HX2 := hide ((unhide HX1).then hb1)
                  clear hb1
                  go_wp2
                  go_ret
                  exact ⟨ret_bool (unhide H2 (by first | exact trivial | rfl)), (unhide HX2).below⟩
        · have E := netB_counts (n := n) (by
            unfold countsB
            by_cases q0 : n.ins.length ≤ 256
            · by_cases q4 : n.outs.length ≤ 256
              · have q5 : ¬ n.checks.length ≤ 256 := fun q5 => qm ⟨q0, q4, q5⟩
                simp [q5]
              · simp [q4]
            · simp [q0])
          generalize netB n = NB at *
          subst E
          have hmx : (256 : Int) < max (max (n.ins.length : Int) (n.outs.length : Int)) (n.checks.length : Int) := by omega
          clear CF PF NF
          go_enter Tryd.func25, Tryd.ntmps25
          go_wp2
          all_goals (go_ret; exact ⟨rfl, bal (brf w) _⟩)
      · have E := netB_counts (n := n) (by unfold countsB; simp [q1])
        generalize netB n = NB at *
        subst E
        have r2 : (n.cells.length : Int) ≤ 4096 := by omega
        have r3 : (n.regs.length : Int) ≤ 256 := by omega
        have r1 : (8 : Int) < (n.clocks.length : Int) := by omega
        clear CF PF NF
        go_enter Tryd.func25, Tryd.ntmps25
        go_wp2
        go_ret
        exact ⟨rfl, bal (brf w) _⟩
    · have E := netB_counts (n := n) (by unfold countsB; simp [q3])
      generalize netB n = NB at *
      subst E
      have r2 : (n.cells.length : Int) ≤ 4096 := by omega
      have r3 : (256 : Int) < (n.regs.length : Int) := by omega
      clear CF PF NF
      go_enter Tryd.func25, Tryd.ntmps25
      go_wp2
      go_ret
      exact ⟨rfl, bal (brf w) _⟩
  · have E := netB_counts (n := n) (by unfold countsB; simp [q2])
    generalize netB n = NB at *
    subst E
    have r2 : (4096 : Int) < (n.cells.length : Int) := by omega
    clear CF PF NF
    go_enter Tryd.func25, Tryd.ntmps25
    go_wp2
    go_ret
    exact ⟨rfl, bal (brf w) _⟩
end Go.Proofs.YtkmpjoiefcjbnaaDoor
