/- cellFits: a cell that is an input, or a register. -/
import Derived.Test.YtkceiabgpcakkaaLC
namespace Go.Proofs.Ytkceiabgpcakkaa
open Go.RowKit Gs
set_option linter.unusedVariables false
set_option maxRecDepth 100000
/-- Something of width wd that reads nothing. -/
def bareB (c : Cell) (wd : Int) : Bool := decide (c.width = wd) && !c.signed && c.bits.toList.isEmpty && decide (c.ins.length = 0)
def inB (n : Net) (c : Cell) : Bool := if 0 ≤ c.n then (match n.ins[c.n.toNat]? with | some p => bareB c p.width | none => false) else false
def regB (n : Net) (c : Cell) : Bool := if 0 ≤ c.n then (match n.regs[c.n.toNat]? with | some p => bareB c p.width | none => false) else false
/-- What a walk of cellFits sees of the netlist. -/
structure CW (w : World) (n : Net) (v0 v1 v2 v3 v4 v5 : Value) : Prop where
  ins : RS 2 RNetPort w 0 n.ins v0
  cells : RS 6 RCell w 0 n.cells v2
  regs : RS 5 RNetReg w 0 n.regs v3
theorem belowS7 {W V : World} {a0 a1 a2 a3 a4 a5 a6 a7 : Addr} {x0 x1 x2 x3 x4 x5 x6 x7 : Value} (h : V.cell? a0 = some x0 ∧ V.cell? a1 = some x1 ∧ V.cell? a2 = some x2 ∧ V.cell? a3 = some x3 ∧ V.cell? a4 = some x4 ∧ V.cell? a5 = some x5 ∧ V.cell? a6 = some x6 ∧ V.cell? a7 = some x7 ∧ Below W.heap.size W V) : Below W.heap.size W V := h.2.2.2.2.2.2.2.2
theorem iPlaceB (n c : Int) (b : Bool) (h : (decide (0 ≤ n) && decide (n < c)) = b) (w : World) : Calls Try.prog 41 #[.int .i64 n, .int .i64 c] w fun e w' => e = .returned (.bool b) ∧ w' = w := by
  rw [← h]; exact iPlace n c w
theorem S7 {W V V1 : World} {a0 a1 a2 a3 a4 a5 a6 a7 : Addr} {x0 x1 x2 x3 x4 x5 x6 x7 : Value} (h : V.cell? a0 = some x0 ∧ V.cell? a1 = some x1 ∧ V.cell? a2 = some x2 ∧ V.cell? a3 = some x3 ∧ V.cell? a4 = some x4 ∧ V.cell? a5 = some x5 ∧ V.cell? a6 = some x6 ∧ V.cell? a7 = some x7 ∧ Below W.heap.size W V) (hb : Below V.heap.size V V1) :
    V1.cell? a0 = some x0 ∧ V1.cell? a1 = some x1 ∧ V1.cell? a2 = some x2 ∧ V1.cell? a3 = some x3 ∧ V1.cell? a4 = some x4 ∧ V1.cell? a5 = some x5 ∧ V1.cell? a6 = some x6 ∧ V1.cell? a7 = some x7 ∧ Below W.heap.size W V1 := by
  obtain ⟨h0, h1, h2, h3, h4, h5, h6, h7, h8⟩ := h
  exact ⟨cell_later hb h0, cell_later hb h1, cell_later hb h2, cell_later hb h3, cell_later hb h4, cell_later hb h5, cell_later hb h6, cell_later hb h7, btr h8 hb⟩
set_option maxHeartbeats 4000000 in
theorem iCellIn (n : Net) (v0 v1 v2 v3 v4 v5 : Value) (w : World) (j : Nat) (c : Cell) (hj : n.cells[j]? = some c) (hop : c.op = 33) (h : CW w n v0 v1 v2 v3 v4 v5) :
    Calls Try.prog 23 #[.agg #[v0, v1, v2, v3, v4, v5], .int .i64 j] w fun e w' => e = .returned (.bool (inB n c)) ∧ Below w.heap.size w w' := by
  have hjl : j < n.cells.length := (List.getElem?_eq_some_iff.1 hj).1
  rcases h.cells.open with ⟨hnil, _⟩ | ⟨b2, o2, c2, rfl, hc2, hn2, _, hcs2⟩
  · rw [hnil] at hjl; simp at hjl
  obtain ⟨u, hul, hat, v, rfl, hbits, hins⟩ := hcs2 j c hj
  have hIl := hins.len
  obtain ⟨ia, ic, rfl⟩ := hins.slice
  have hn0 := h.ins.len
  unfold maxLen at hn2 hIl hn0
  have k0 := hat.get (j := 0) rfl
  have k1 := hat.get (j := 1) rfl
  have k2 := hat.get (j := 2) rfl
  have k3 := hat.get (j := 3) rfl
  have k4 := hat.get (j := 4) rfl
  have k5 := hat.get (j := 5) rfl
  simp only [Nat.add_zero] at k0
  rw [hop] at k0
  have hb2 : b2 < w.heap.size := World.block_lt_of_cell? w _ k0
  have j1 : (0 : Int) ≤ (j : Int) := by omega
  have j2 : (j : Int) < (n.cells.length : Int) := by omega
  by_cases hp : 0 ≤ c.n ∧ c.n < n.ins.length
  · obtain ⟨hp1, hp2⟩ := hp
    obtain ⟨i, hi⟩ : ∃ i : Nat, c.n = (i : Int) := ⟨c.n.toNat, by omega⟩
    rw [hi] at hp2 k2
    have hil : i < n.ins.length := by omega
    have hx : n.ins[i]? = some n.ins[i] := List.getElem?_eq_getElem hil
    generalize n.ins[i] = p at hx
    have E : inB n c = bareB c p.width := by
      unfold inB
      rw [if_pos hp1, hi, Int.toNat_natCast, hx]
    rw [E]
    rcases h.ins.open with ⟨hnil, _⟩ | ⟨b0, o0, c0, rfl, hc0, _, _, hcs0⟩
    · rw [hnil] at hil; simp at hil
    obtain ⟨u0, _, hat0, hu0, _⟩ := hcs0 i p hx
    subst hu0
    have m1 := hat0.get (j := 1) rfl
    have hb0 : b0 < w.heap.size := World.block_lt_of_cell? w _ m1
    have hpt : (decide (0 ≤ (i : Int)) && decide ((i : Int) < (n.ins.length : Int))) = true := by
      rw [decide_eq_true (by omega), decide_eq_true (by omega)]; rfl
    have i1 : (0 : Int) ≤ (i : Int) := by omega
    have E2 : bareB c p.width = (decide (c.width = p.width) && !c.signed && c.bits.toList.isEmpty && decide (c.ins.length = 0)) := rfl
    rw [E2]
    clear h hins hcs2 hat hul E E2 hop hj hcs0 hat0 hx hi hp1
    generalize c.width = z1 at *
    generalize c.signed = z3 at *
    generalize c.bits = z4 at *
    generalize c.ins.length = z5 at *
    generalize p.width = z6 at *
    have m2 := cell_later (bal (bal (brf w) (.cells #[.slice (some ⟨b0, o0, none⟩) n.ins.length c0, v1, .slice (some ⟨b2, o2, none⟩) n.cells.length c2, v3, v4, v5] 36)) (.cells #[.int .i64 33, .int .i64 z1, .int .i64 i, .bool z3, .string z4, .slice ia z5 ic] 53)) m1
    have RN := hide (fun V => iReads 33 z1 i z3 z4 ia z5 ic z6 V (by unfold maxLen; omega))
    go_enter Try.func23, Try.ntmps23
    go_wp2
    go_region_held3 (fun V => V.cell? ⟨w.heap.size, 0, none⟩ = some (.slice (some ⟨b0, o0, none⟩) n.ins.length c0) ∧ V.cell? ⟨w.heap.size + 1, 0, none⟩ = some (.int .i64 33) ∧ V.cell? ⟨w.heap.size + 1, 1, none⟩ = some (.int .i64 z1) ∧ V.cell? ⟨w.heap.size + 1, 2, none⟩ = some (.int .i64 i) ∧ V.cell? ⟨w.heap.size + 1, 3, none⟩ = some (.bool z3) ∧ V.cell? ⟨w.heap.size + 1, 4, none⟩ = some (.string z4) ∧ V.cell? ⟨w.heap.size + 1, 5, none⟩ = some (.slice ia z5 ic) ∧ V.cell? ⟨b0, o0 + i * 2 + 1, none⟩ = some (.int .i64 z6) ∧ Below w.heap.size w V)
      (first | (refine ⟨?_, ?_, ?_, ?_, ?_, ?_, ?_, ?_, ?_⟩ <;> first | (go_simp; done) | (exact m2) | (exact bdr (bal (bal (brf w) _) _))) | (exact S7 (by assumption) hb1) | assumption)
      (first | (go_at_call 41; refine (iPlace _ _ _).mono ?_; rintro e V1 ⟨rfl, rfl⟩; rw [hpt]) | (go_at_call 42; refine (unhide RN _).mono ?_; rintro e V1 ⟨rfl, hb1⟩))
    go_wp2
    go_ret
    exact ⟨rfl, belowS7 (by assumption)⟩
  · have hpf : (decide (0 ≤ c.n) && decide (c.n < (n.ins.length : Int))) = false := by
      rw [Bool.and_eq_false_iff, decide_eq_false_iff_not, decide_eq_false_iff_not]; omega
    have E : inB n c = false := by
      unfold inB
      by_cases h0 : 0 ≤ c.n
      · rw [if_pos h0, List.getElem?_eq_none (by omega)]
      · rw [if_neg h0]
    rw [E]
    obtain ⟨a0, c0, rfl⟩ := h.ins.slice
    clear h hins hcs2 hat hul E hp hop hj
    generalize c.width = z1 at *
    generalize c.n = z2 at *
    generalize c.signed = z3 at *
    generalize c.bits = z4 at *
    generalize c.ins.length = z5 at *
    have PF := hide (fun V => iPlaceB z2 (n.ins.length : Int) false hpf V)
    clear hpf
    go_enter Try.func23, Try.ntmps23
    go_wp2
    go_quiet (first | (go_at_call 41; exact Calls.quiet_of_same (unhide PF _)))
    go_wp2
    go_ret
    exact ⟨rfl, bdn (bal (bal (brf w) _) _)⟩
set_option maxHeartbeats 4000000 in
theorem iCellReg (n : Net) (v0 v1 v2 v3 v4 v5 : Value) (w : World) (j : Nat) (c : Cell) (hj : n.cells[j]? = some c) (hop : c.op = 34) (h : CW w n v0 v1 v2 v3 v4 v5) :
    Calls Try.prog 23 #[.agg #[v0, v1, v2, v3, v4, v5], .int .i64 j] w fun e w' => e = .returned (.bool (regB n c)) ∧ Below w.heap.size w w' := by
  have hjl : j < n.cells.length := (List.getElem?_eq_some_iff.1 hj).1
  rcases h.cells.open with ⟨hnil, _⟩ | ⟨b2, o2, c2, rfl, hc2, hn2, _, hcs2⟩
  · rw [hnil] at hjl; simp at hjl
  obtain ⟨u, hul, hat, v, rfl, hbits, hins⟩ := hcs2 j c hj
  have hIl := hins.len
  obtain ⟨ia, ic, rfl⟩ := hins.slice
  have hn0 := h.regs.len
  unfold maxLen at hn2 hIl hn0
  have k0 := hat.get (j := 0) rfl
  have k1 := hat.get (j := 1) rfl
  have k2 := hat.get (j := 2) rfl
  have k3 := hat.get (j := 3) rfl
  have k4 := hat.get (j := 4) rfl
  have k5 := hat.get (j := 5) rfl
  simp only [Nat.add_zero] at k0
  rw [hop] at k0
  have hb2 : b2 < w.heap.size := World.block_lt_of_cell? w _ k0
  have j1 : (0 : Int) ≤ (j : Int) := by omega
  have j2 : (j : Int) < (n.cells.length : Int) := by omega
  by_cases hp : 0 ≤ c.n ∧ c.n < n.regs.length
  · obtain ⟨hp1, hp2⟩ := hp
    obtain ⟨i, hi⟩ : ∃ i : Nat, c.n = (i : Int) := ⟨c.n.toNat, by omega⟩
    rw [hi] at hp2 k2
    have hil : i < n.regs.length := by omega
    have hx : n.regs[i]? = some n.regs[i] := List.getElem?_eq_getElem hil
    generalize n.regs[i] = p at hx
    have E : regB n c = bareB c p.width := by
      unfold regB
      rw [if_pos hp1, hi, Int.toNat_natCast, hx]
    rw [E]
    rcases h.regs.open with ⟨hnil, _⟩ | ⟨b0, o0, c0, rfl, hc0, _, _, hcs0⟩
    · rw [hnil] at hil; simp at hil
    obtain ⟨u0, _, hat0, hu0, _, _⟩ := hcs0 i p hx
    subst hu0
    have m1 := hat0.get (j := 1) rfl
    have hb0 : b0 < w.heap.size := World.block_lt_of_cell? w _ m1
    have hpt : (decide (0 ≤ (i : Int)) && decide ((i : Int) < (n.regs.length : Int))) = true := by
      rw [decide_eq_true (by omega), decide_eq_true (by omega)]; rfl
    have i1 : (0 : Int) ≤ (i : Int) := by omega
    have E2 : bareB c p.width = (decide (c.width = p.width) && !c.signed && c.bits.toList.isEmpty && decide (c.ins.length = 0)) := rfl
    rw [E2]
    clear h hins hcs2 hat hul E E2 hop hj hcs0 hat0 hx hi hp1
    generalize c.width = z1 at *
    generalize c.signed = z3 at *
    generalize c.bits = z4 at *
    generalize c.ins.length = z5 at *
    generalize p.width = z6 at *
    have m2 := cell_later (bal (bal (brf w) (.cells #[v0, v1, .slice (some ⟨b2, o2, none⟩) n.cells.length c2, .slice (some ⟨b0, o0, none⟩) n.regs.length c0, v4, v5] 36)) (.cells #[.int .i64 34, .int .i64 z1, .int .i64 i, .bool z3, .string z4, .slice ia z5 ic] 53)) m1
    have RN := hide (fun V => iReads 34 z1 i z3 z4 ia z5 ic z6 V (by unfold maxLen; omega))
    go_enter Try.func23, Try.ntmps23
    go_wp2
    go_region_held3 (fun V => V.cell? ⟨w.heap.size, 3, none⟩ = some (.slice (some ⟨b0, o0, none⟩) n.regs.length c0) ∧ V.cell? ⟨w.heap.size + 1, 0, none⟩ = some (.int .i64 34) ∧ V.cell? ⟨w.heap.size + 1, 1, none⟩ = some (.int .i64 z1) ∧ V.cell? ⟨w.heap.size + 1, 2, none⟩ = some (.int .i64 i) ∧ V.cell? ⟨w.heap.size + 1, 3, none⟩ = some (.bool z3) ∧ V.cell? ⟨w.heap.size + 1, 4, none⟩ = some (.string z4) ∧ V.cell? ⟨w.heap.size + 1, 5, none⟩ = some (.slice ia z5 ic) ∧ V.cell? ⟨b0, o0 + i * 5 + 1, none⟩ = some (.int .i64 z6) ∧ Below w.heap.size w V)
      (first | (refine ⟨?_, ?_, ?_, ?_, ?_, ?_, ?_, ?_, ?_⟩ <;> first | (go_simp; done) | (exact m2) | (exact bdr (bal (bal (brf w) _) _))) | (exact S7 (by assumption) hb1) | assumption)
      (first | (go_at_call 41; refine (iPlace _ _ _).mono ?_; rintro e V1 ⟨rfl, rfl⟩; rw [hpt]) | (go_at_call 42; refine (unhide RN _).mono ?_; rintro e V1 ⟨rfl, hb1⟩))
    go_wp2
    go_ret
    exact ⟨rfl, belowS7 (by assumption)⟩
  · have hpf : (decide (0 ≤ c.n) && decide (c.n < (n.regs.length : Int))) = false := by
      rw [Bool.and_eq_false_iff, decide_eq_false_iff_not, decide_eq_false_iff_not]; omega
    have E : regB n c = false := by
      unfold regB
      by_cases h0 : 0 ≤ c.n
      · rw [if_pos h0, List.getElem?_eq_none (by omega)]
      · rw [if_neg h0]
    rw [E]
    obtain ⟨a0, c0, rfl⟩ := h.regs.slice
    clear h hins hcs2 hat hul E hp hop hj
    generalize c.width = z1 at *
    generalize c.n = z2 at *
    generalize c.signed = z3 at *
    generalize c.bits = z4 at *
    generalize c.ins.length = z5 at *
    have PF := hide (fun V => iPlaceB z2 (n.regs.length : Int) false hpf V)
    clear hpf
    go_enter Try.func23, Try.ntmps23
    go_wp2
    go_quiet (first | (go_at_call 41; exact Calls.quiet_of_same (unhide PF _)))
    go_wp2
    go_ret
    exact ⟨rfl, bdn (bal (bal (brf w) _) _)⟩
end Go.Proofs.Ytkceiabgpcakkaa
