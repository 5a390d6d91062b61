/- portsFit. -/
import Derived.Test.YtkmpjoiefcjbnaaDoorPF
namespace Go.Proofs.YtkmpjoiefcjbnaaDoor
open Go.RowKit Gs
set_option linter.unusedVariables false
set_option maxRecDepth 100000
def wOK (x : Int) : Bool := decide (1 ≤ x) && decide (x ≤ 64)
def portsB (n : Net) : Bool := n.ins.all (fun p => wOK p.width) && n.regs.all (regFitB n) && n.outs.all (outB n (fun _ => true)) && n.checks.all (outB n (fun x => x == 1))
theorem no_all {α : Type} {p : α → Bool} {xs : List α} {x : α} (hm : x ∈ xs) (h : p x = false) : xs.all p = false := by
  rw [← Bool.not_eq_true]; intro e; rw [List.all_eq_true.1 e x hm] at h; cases h
set_option maxHeartbeats 16000000 in
theorem iPortsFit (n : Net) (v0 v1 v2 v3 v4 v5 : Value) (w : World) (h0 : RS 2 RNetPort w 0 n.ins v0) (h1 : RS 1 RStr w 0 n.clocks v1) (h2 : RS 6 RCell w 0 n.cells v2) (h3 : RS 5 RNetReg w 0 n.regs v3) (h4 : RS 2 RNetOut w 0 n.outs v4) (h5 : RS 2 RNetOut w 0 n.checks v5) :
    Calls Tryd.prog 50 #[.agg #[v0, v1, v2, v3, v4, v5]] w fun e w' => e = .returned (.bool (portsB n)) ∧ Below w.heap.size w w' := by
  have RF := hide (fun (V : World) (r : NetReg) (hb : Below w.heap.size w V) (hi : r.init.size ≤ maxLen) => iRegFits n v0 v1 v2 v3 v4 v5 V r (h1.later RStr.keeps hb) (h2.later RCell.keeps hb) hi)
  have O4 := hide (fun (V : World) (hb : Below w.heap.size w V) => iOutsFit48 (fun _ => true) (fun op width n sg s v w => iRight1 op width n sg s v w) n v0 v1 v2 v3 v4 v5 V n.outs v4 (h2.later RCell.keeps hb) (h4.later RNetOut.keeps hb))
  have O5 := hide (fun (V : World) (hb : Below w.heap.size w V) => iOutsFit49 (fun x => x == 1) (fun op width n sg s v w => iRight2 op width n sg s v w) n v0 v1 v2 v3 v4 v5 V n.checks v5 (h2.later RCell.keeps hb) (h5.later RNetOut.keeps hb))
  generalize hPB : portsB n = PB
  have HE0 := hide (show n.ins.all (fun p => wOK p.width) = false → false = PB from fun h => by rw [← hPB]; unfold portsB; rw [h]; rfl)
  have HE1 := hide (show n.ins.all (fun p => wOK p.width) = true → n.regs.all (regFitB n) = false → false = PB from fun h h' => by rw [← hPB]; unfold portsB; rw [h, h']; rfl)
  have HE2 := hide (show n.ins.all (fun p => wOK p.width) = true → n.regs.all (regFitB n) = true → (n.outs.all (outB n (fun _ => true)) && n.checks.all (outB n (fun x => x == 1))) = PB from fun h h' => by rw [← hPB]; unfold portsB; rw [h, h']; rfl)
  clear hPB
  obtain ⟨a4, c4, e4⟩ := h4.slice
  obtain ⟨a5, c5, e5⟩ := h5.slice
  obtain ⟨a1, c1, e1⟩ := h1.slice
  obtain ⟨a2, c2, e2⟩ := h2.slice
  obtain ⟨a0, c0, e0⟩ := h0.slice
  obtain ⟨a3, c3, e3⟩ := h3.slice
  have hl0 := h0.len
  have hl3 := h3.len
  unfold maxLen at hl0 hl3
  have H0 := hide h0
  have H3 := hide h3
  subst e0 e1 e2 e3 e4 e5
  clear h0 h1 h2 h3 h4 h5
  generalize n.outs.length = L4 at *
  generalize n.checks.length = L5 at *
  generalize n.clocks.length = L1 at *
  generalize n.cells.length = L2 at *
  go_enter Tryd.func50, Tryd.ntmps50
  go_wp2
  go_loopw [10] (fun i wr => ∃ k : Nat, k ≤ n.ins.length ∧ i = .int .i64 k ∧ (n.ins.take k).all (fun p => wOK p.width) = true ∧ Bt 37 w #[.slice a0 n.ins.length c0, .slice a1 L1 c1, .slice a2 L2 c2, .slice a3 n.regs.length c3, .slice a4 L4 c4, .slice a5 L5 c5] wr) (fun i _ => n.ins.length - (intOf i).toNat)
  case atStart => exact ⟨0, Nat.zero_le _, rfl, rfl, Bt.refl _ _ _⟩
  case round =>
    obtain ⟨k, hk, rfl, hall, hbx⟩ := hrel
    obtain ⟨t0, t1, t2, t3, t4, t5⟩ := hbx.get6
    have hb := hbx.below
    have hlt0 := hbx.size
    by_cases hlt : k < n.ins.length
    · have hx : n.ins[k]? = some n.ins[k] := List.getElem?_eq_getElem hlt
      have hmem : n.ins[k] ∈ n.ins := List.getElem_mem hlt
      generalize n.ins[k] = x at hx hmem
      have hst : (n.ins.take (k + 1)).all (fun p => wOK p.width) = ((n.ins.take k).all (fun p => wOK p.width) && wOK x.width) := by
        rw [List.take_add_one, hx, List.all_append]; simp
      rcases (unhide H0).open with ⟨hnil, _⟩ | ⟨b, o, c, e, _, _, _, hcs⟩
      · rw [hnil] at hlt; simp at hlt
      obtain ⟨rfl, rfl⟩ : a0 = some ⟨b, o, none⟩ ∧ c0 = c := by
        injection e with e1 e2 e3
        exact ⟨e1, e3⟩
      obtain ⟨u, _, hat, hux, _⟩ := hcs k x hx
      subst hux
      have k0 := cell_later hb (hat.get (j := 0) rfl)
      have k1 := cell_later hb (hat.get (j := 1) rfl)
      simp only [Nat.add_zero] at k0
      have HNO := hide (fun h => unhide HE0 (no_all (p := fun p : NetPort => wOK p.width) hmem h))
      have HX := hide hbx
      have HST := hide hst
      have HA := hide hall
      have WF := hide (fun V => iWidthOK x.width V)
      clear hst hmem hx hat hcs hall hbx hb H0 H3 RF O4 O5 HE0 HE1 HE2 e
      generalize x.name = z0 at *
      generalize x.width = z1 at *
      cases hw : wOK z1
      · go_wp2_with fail
        refine (unhide WF _).mono ?_
        rintro e V1 ⟨rfl, rfl⟩
        rw [show (decide (1 ≤ z1) && decide (z1 ≤ 64)) = false from hw]
        go_wp2
        go_ret
        exact ⟨ret_bool (unhide HNO hw), bal (unhide HX).below _⟩
      · go_wp2_with fail
        refine (unhide WF _).mono ?_
        rintro e V1 ⟨rfl, rfl⟩
        rw [show (decide (1 ≤ z1) && decide (z1 ≤ 64)) = true from hw]
        go_wp2
        go_roundw
        case rel => exact ⟨k + 1, by omega, by go_num, by rw [unhide HST, unhide HA, hw]; rfl, (unhide HX).alloc _⟩
        case measure => simp [intOf]; omega
    · obtain rfl : k = n.ins.length := by omega
      rw [List.take_of_length_le (Nat.le_refl _)] at hall
      have HA0 := hide hall
      have HX := hide hbx
      clear hall hbx hb H0 HE0
      go_wp2
      go_loopw [22] (fun i wr => ∃ k : Nat, k ≤ n.regs.length ∧ i = .int .i64 k ∧ (n.regs.take k).all (regFitB n) = true ∧ Bt 37 w #[.slice a0 n.ins.length c0, .slice a1 L1 c1, .slice a2 L2 c2, .slice a3 n.regs.length c3, .slice a4 L4 c4, .slice a5 L5 c5] wr) (fun i _ => n.regs.length - (intOf i).toNat)
      case atStart => exact ⟨0, Nat.zero_le _, rfl, rfl, unhide HX⟩
      case round =>
        clear t0 t1 t2 t3 t4 t5 HX hlt0
        obtain ⟨k, hk, rfl, hall, hbx⟩ := hrel
        obtain ⟨t0, t1, t2, t3, t4, t5⟩ := hbx.get6
        have hb := hbx.below
        have hlt0 := hbx.size
        by_cases hlt : k < n.regs.length
        · have hx : n.regs[k]? = some n.regs[k] := List.getElem?_eq_getElem hlt
          have hmem : n.regs[k] ∈ n.regs := List.getElem_mem hlt
          generalize n.regs[k] = x at hx hmem
          have hst : (n.regs.take (k + 1)).all (regFitB n) = ((n.regs.take k).all (regFitB n) && regFitB n x) := by
            rw [List.take_add_one, hx, List.all_append]; simp
          rcases (unhide H3).open with ⟨hnil, _⟩ | ⟨b, o, c, e, _, _, _, hcs⟩
          · rw [hnil] at hlt; simp at hlt
          obtain ⟨rfl, rfl⟩ : a3 = some ⟨b, o, none⟩ ∧ c3 = c := by
            injection e with e1 e2 e3
            exact ⟨e1, e3⟩
          obtain ⟨u, _, hat, hux, _, hini⟩ := hcs k x hx
          subst hux
          have k0 := cell_later hb (hat.get (j := 0) rfl)
          have k1 := cell_later hb (hat.get (j := 1) rfl)
          have k2 := cell_later hb (hat.get (j := 2) rfl)
          have k3 := cell_later hb (hat.get (j := 3) rfl)
          have k4 := cell_later hb (hat.get (j := 4) rfl)
          simp only [Nat.add_zero] at k0
          have HNO := hide (fun h => unhide HE1 (unhide HA0) (no_all (p := regFitB n) hmem h))
          have HX := hide hbx
          have HST := hide hst
          have HA := hide hall
          have WF := hide (fun V hb => unhide RF V x hb hini)
          clear hst hmem hx hat hcs hall hbx hb H3 RF O4 O5 HE1 HE2 e hini
          generalize regFitB n x = FB at *
          generalize x.name = z0 at *
          generalize x.width = z1 at *
          generalize x.clock = z2 at *
          generalize x.next = z3 at *
          generalize x.init = z4 at *
          cases hw : FB
          · rw [hw] at WF
            go_wp2_with fail
            refine (unhide WF _ (bal (unhide HX).below _)).mono ?_
            rintro e V1 ⟨rfl, hb1⟩
            have HX1 := hide (((unhide HX).alloc _).then hb1)
            clear hb1
            go_wp2
            go_ret
            exact ⟨ret_bool (unhide HNO hw), (unhide HX1).below⟩
          · rw [hw] at WF
            go_wp2_with fail
            refine (unhide WF _ (bal (unhide HX).below _)).mono ?_
            rintro e V1 ⟨rfl, hb1⟩
            have HX1 := hide (((unhide HX).alloc _).then hb1)
            clear hb1
            go_wp2
            go_roundw
            case rel => exact ⟨k + 1, by omega, by go_num, by rw [unhide HST, unhide HA, hw]; rfl, unhide HX1⟩
            case measure => simp [intOf]; omega
        · obtain rfl : k = n.regs.length := by omega
          rw [List.take_of_length_le (Nat.le_refl _)] at hall
          have HE := hide (unhide HE2 (unhide HA0) hall)
          have HX := hide hbx
          clear hall hbx hb H3 HE1 HE2 RF
          generalize n.outs.all (outB n (fun _ => true)) = OB at *
          generalize n.checks.all (outB n (fun x => x == 1)) = QB at *
          cases OB
          · go_wp2_with fail
            refine (unhide O4 _ (unhide HX).below).mono ?_
            rintro e V1 ⟨rfl, hb1⟩
            have HX1 := hide ((unhide HX).then hb1)
            clear hb1
            go_wp2
            go_ret
            exact ⟨ret_bool (unhide HE), (unhide HX1).below⟩
          · go_wp2_with fail
            refine (unhide O4 _ (unhide HX).below).mono ?_
            rintro e V1 ⟨rfl, hb1⟩
            have HX1 := hide ((unhide HX).then hb1)
            clear hb1 t0 t1 t2 t3 t4 t5
            obtain ⟨t0, t1, t2, t3, t4, t5⟩ := (unhide HX1).get6
            go_wp2_with fail
            refine (unhide O5 _ (unhide HX1).below).mono ?_
            rintro e V2 ⟨rfl, hb1⟩
            have HX2 := hide ((unhide HX1).then hb1)
            clear hb1
            go_wp2
            go_ret
            exact ⟨ret_bool (unhide HE), (unhide HX2).below⟩
end Go.Proofs.YtkmpjoiefcjbnaaDoor
