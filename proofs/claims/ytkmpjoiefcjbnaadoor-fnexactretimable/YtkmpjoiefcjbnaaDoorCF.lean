/- cellFits: a cell that is an input, or a register. -/
import Derived.Test.YtkmpjoiefcjbnaaDoorLC
import Derived.Test.YtkmpjoiefcjbnaaDoorGS2
namespace Go.Proofs.YtkmpjoiefcjbnaaDoor
open Go.RowKit Gs
set_option linter.unusedVariables false
set_option maxRecDepth 100000
/-- Something of width wd that reads nothing. -/
def bareB (c : Cell) (wd : Int) : Bool := decide (c.width = wd) && !c.signed && c.bits.toList.isEmpty && decide (c.ins.length = 0)
def inB (n : Net) (c : Cell) : Bool := if 0 ≤ c.n then (match n.ins[c.n.toNat]? with | some p => bareB c p.width | none => false) else false
def regB (n : Net) (c : Cell) : Bool := if 0 ≤ c.n then (match n.regs[c.n.toNat]? with | some p => bareB c p.width | none => false) else false
/-- What a walk of cellFits sees of the netlist. -/
structure CW (w : World) (n : Net) (v0 v1 v2 v3 v4 v5 : Value) : Prop where
  ins : RS 2 RNetPort w 0 n.ins v0
  cells : RS 6 RCell w 0 n.cells v2
  regs : RS 5 RNetReg w 0 n.regs v3
theorem belowS7 {W V : World} {a0 a1 a2 a3 a4 a5 a6 a7 : Addr} {x0 x1 x2 x3 x4 x5 x6 x7 : Value} (h : V.cell? a0 = some x0 ∧ V.cell? a1 = some x1 ∧ V.cell? a2 = some x2 ∧ V.cell? a3 = some x3 ∧ V.cell? a4 = some x4 ∧ V.cell? a5 = some x5 ∧ V.cell? a6 = some x6 ∧ V.cell? a7 = some x7 ∧ Below W.heap.size W V) : Below W.heap.size W V := h.2.2.2.2.2.2.2.2
theorem iPlaceB (n c : Int) (b : Bool) (h : (decide (0 ≤ n) && decide (n < c)) = b) (w : World) : Calls Tryd.prog 64 #[.int .i64 n, .int .i64 c] w fun e w' => e = .returned (.bool b) ∧ w' = w := by
  rw [← h]; exact iPlace n c w
theorem S7 {W V V1 : World} {a0 a1 a2 a3 a4 a5 a6 a7 : Addr} {x0 x1 x2 x3 x4 x5 x6 x7 : Value} (h : V.cell? a0 = some x0 ∧ V.cell? a1 = some x1 ∧ V.cell? a2 = some x2 ∧ V.cell? a3 = some x3 ∧ V.cell? a4 = some x4 ∧ V.cell? a5 = some x5 ∧ V.cell? a6 = some x6 ∧ V.cell? a7 = some x7 ∧ Below W.heap.size W V) (hb : Below V.heap.size V V1) :
    V1.cell? a0 = some x0 ∧ V1.cell? a1 = some x1 ∧ V1.cell? a2 = some x2 ∧ V1.cell? a3 = some x3 ∧ V1.cell? a4 = some x4 ∧ V1.cell? a5 = some x5 ∧ V1.cell? a6 = some x6 ∧ V1.cell? a7 = some x7 ∧ Below W.heap.size W V1 := by
  obtain ⟨h0, h1, h2, h3, h4, h5, h6, h7, h8⟩ := h
  exact ⟨cell_later hb h0, cell_later hb h1, cell_later hb h2, cell_later hb h3, cell_later hb h4, cell_later hb h5, cell_later hb h6, cell_later hb h7, btr h8 hb⟩
set_option maxHeartbeats 4000000 in
theorem iCellIn (n : Net) (v0 v1 v2 v3 v4 v5 : Value) (w : World) (j : Nat) (c : Cell) (hj : n.cells[j]? = some c) (hop : c.op = 33) (h : CW w n v0 v1 v2 v3 v4 v5) :
    Calls Tryd.prog 49 #[.agg #[v0, v1, v2, v3, v4, v5], .int .i64 j] w fun e w' => e = .returned (.bool (inB n c)) ∧ Below w.heap.size w w' := by
  have hjl : j < n.cells.length := (List.getElem?_eq_some_iff.1 hj).1
  rcases h.cells.open with ⟨hnil, _⟩ | ⟨b2, o2, c2, rfl, hc2, hn2, _, hcs2⟩
  · rw [hnil] at hjl; simp at hjl
  obtain ⟨u, hul, hat, v, rfl, hbits, hins⟩ := hcs2 j c hj
  have hIl := hins.len
  obtain ⟨ia, ic, rfl⟩ := hins.slice
  have hn0 := h.ins.len
  unfold maxLen at hn2 hIl hn0
  have k0 := hat.get (j := 0) rfl
  have k1 := hat.get (j := 1) rfl
  have k2 := hat.get (j := 2) rfl
  have k3 := hat.get (j := 3) rfl
  have k4 := hat.get (j := 4) rfl
  have k5 := hat.get (j := 5) rfl
  simp only [Nat.add_zero] at k0
  rw [hop] at k0
  have hb2 : b2 < w.heap.size := World.block_lt_of_cell? w _ k0
  have j1 : (0 : Int) ≤ (j : Int) := by omega
  have j2 : (j : Int) < (n.cells.length : Int) := by omega
  by_cases hp : 0 ≤ c.n ∧ c.n < n.ins.length
  · obtain ⟨hp1, hp2⟩ := hp
    obtain ⟨i, hi⟩ : ∃ i : Nat, c.n = (i : Int) := ⟨c.n.toNat, by omega⟩
    rw [hi] at hp2 k2
    have hil : i < n.ins.length := by omega
    have hx : n.ins[i]? = some n.ins[i] := List.getElem?_eq_getElem hil
    generalize n.ins[i] = p at hx
    have E : inB n c = bareB c p.width := by
      unfold inB
      rw [if_pos hp1, hi, Int.toNat_natCast, hx]
    rw [E]
    rcases h.ins.open with ⟨hnil, _⟩ | ⟨b0, o0, c0, rfl, hc0, _, _, hcs0⟩
    · rw [hnil] at hil; simp at hil
    obtain ⟨u0, _, hat0, hu0, _⟩ := hcs0 i p hx
    subst hu0
    have m1 := hat0.get (j := 1) rfl
    have hb0 : b0 < w.heap.size := World.block_lt_of_cell? w _ m1
    have hpt : (decide (0 ≤ (i : Int)) && decide ((i : Int) < (n.ins.length : Int))) = true := by
      rw [decide_eq_true (by omega), decide_eq_true (by omega)]; rfl
    have i1 : (0 : Int) ≤ (i : Int) := by omega
    have E2 : bareB c p.width = (decide (c.width = p.width) && !c.signed && c.bits.toList.isEmpty && decide (c.ins.length = 0)) := rfl
    rw [E2]
    clear h hins hcs2 hat hul E E2 hop hj hcs0 hat0 hx hi hp1
    generalize c.width = z1 at *
    generalize c.signed = z3 at *
    generalize c.bits = z4 at *
    generalize c.ins.length = z5 at *
    generalize p.width = z6 at *
    have m2 := cell_later (bal (bal (brf w) (.cells #[.slice (some ⟨b0, o0, none⟩) n.ins.length c0, v1, .slice (some ⟨b2, o2, none⟩) n.cells.length c2, v3, v4, v5] 37)) (.cells #[.int .i64 33, .int .i64 z1, .int .i64 i, .bool z3, .string z4, .slice ia z5 ic] 52)) m1
    have RN := hide (fun V => iReads 33 z1 i z3 z4 ia z5 ic z6 V (by unfold maxLen; omega))
    go_enter Tryd.func49, Tryd.ntmps49
    go_wp2
    go_region_held3 (fun V => V.cell? ⟨w.heap.size, 0, none⟩ = some (.slice (some ⟨b0, o0, none⟩) n.ins.length c0) ∧ V.cell? ⟨w.heap.size + 1, 0, none⟩ = some (.int .i64 33) ∧ V.cell? ⟨w.heap.size + 1, 1, none⟩ = some (.int .i64 z1) ∧ V.cell? ⟨w.heap.size + 1, 2, none⟩ = some (.int .i64 i) ∧ V.cell? ⟨w.heap.size + 1, 3, none⟩ = some (.bool z3) ∧ V.cell? ⟨w.heap.size + 1, 4, none⟩ = some (.string z4) ∧ V.cell? ⟨w.heap.size + 1, 5, none⟩ = some (.slice ia z5 ic) ∧ V.cell? ⟨b0, o0 + i * 2 + 1, none⟩ = some (.int .i64 z6) ∧ Below w.heap.size w V)
      (first | (refine ⟨?_, ?_, ?_, ?_, ?_, ?_, ?_, ?_, ?_⟩ <;> first | (go_simp; done) | (exact m2) | (exact bdr (bal (bal (brf w) _) _))) | (exact S7 (by assumption) hb1) | assumption)
      (first | (go_at_call 64; refine (iPlace _ _ _).mono ?_; rintro e V1 ⟨rfl, rfl⟩; rw [hpt]) | (go_at_call 65; refine (unhide RN _).mono ?_; rintro e V1 ⟨rfl, hb1⟩))
    go_wp2
    go_ret
    exact ⟨rfl, belowS7 (by assumption)⟩
  · have hpf : (decide (0 ≤ c.n) && decide (c.n < (n.ins.length : Int))) = false := by
      rw [Bool.and_eq_false_iff, decide_eq_false_iff_not, decide_eq_false_iff_not]; omega
    have E : inB n c = false := by
      unfold inB
      by_cases h0 : 0 ≤ c.n
      · rw [if_pos h0, List.getElem?_eq_none (by omega)]
      · rw [if_neg h0]
    rw [E]
    obtain ⟨a0, c0, rfl⟩ := h.ins.slice
    clear h hins hcs2 hat hul E hp hop hj
    generalize c.width = z1 at *
    generalize c.n = z2 at *
    generalize c.signed = z3 at *
    generalize c.bits = z4 at *
    generalize c.ins.length = z5 at *
    have PF := hide (fun V => iPlaceB z2 (n.ins.length : Int) false hpf V)
    clear hpf
    go_enter Tryd.func49, Tryd.ntmps49
    go_wp2
    go_quiet (first | (go_at_call 64; exact Calls.quiet_of_same (unhide PF _)))
    go_wp2
    go_ret
    exact ⟨rfl, bdn (bal (bal (brf w) _) _)⟩
set_option maxHeartbeats 4000000 in
theorem iCellReg (n : Net) (v0 v1 v2 v3 v4 v5 : Value) (w : World) (j : Nat) (c : Cell) (hj : n.cells[j]? = some c) (hop : c.op = 34) (h : CW w n v0 v1 v2 v3 v4 v5) :
    Calls Tryd.prog 49 #[.agg #[v0, v1, v2, v3, v4, v5], .int .i64 j] w fun e w' => e = .returned (.bool (regB n c)) ∧ Below w.heap.size w w' := by
  have hjl : j < n.cells.length := (List.getElem?_eq_some_iff.1 hj).1
  rcases h.cells.open with ⟨hnil, _⟩ | ⟨b2, o2, c2, rfl, hc2, hn2, _, hcs2⟩
  · rw [hnil] at hjl; simp at hjl
  obtain ⟨u, hul, hat, v, rfl, hbits, hins⟩ := hcs2 j c hj
  have hIl := hins.len
  obtain ⟨ia, ic, rfl⟩ := hins.slice
  have hn0 := h.regs.len
  unfold maxLen at hn2 hIl hn0
  have k0 := hat.get (j := 0) rfl
  have k1 := hat.get (j := 1) rfl
  have k2 := hat.get (j := 2) rfl
  have k3 := hat.get (j := 3) rfl
  have k4 := hat.get (j := 4) rfl
  have k5 := hat.get (j := 5) rfl
  simp only [Nat.add_zero] at k0
  rw [hop] at k0
  have hb2 : b2 < w.heap.size := World.block_lt_of_cell? w _ k0
  have j1 : (0 : Int) ≤ (j : Int) := by omega
  have j2 : (j : Int) < (n.cells.length : Int) := by omega
  by_cases hp : 0 ≤ c.n ∧ c.n < n.regs.length
  · obtain ⟨hp1, hp2⟩ := hp
    obtain ⟨i, hi⟩ : ∃ i : Nat, c.n = (i : Int) := ⟨c.n.toNat, by omega⟩
    rw [hi] at hp2 k2
    have hil : i < n.regs.length := by omega
    have hx : n.regs[i]? = some n.regs[i] := List.getElem?_eq_getElem hil
    generalize n.regs[i] = p at hx
    have E : regB n c = bareB c p.width := by
      unfold regB
      rw [if_pos hp1, hi, Int.toNat_natCast, hx]
    rw [E]
    rcases h.regs.open with ⟨hnil, _⟩ | ⟨b0, o0, c0, rfl, hc0, _, _, hcs0⟩
    · rw [hnil] at hil; simp at hil
    obtain ⟨u0, _, hat0, hu0, _, _⟩ := hcs0 i p hx
    subst hu0
    have m1 := hat0.get (j := 1) rfl
    have hb0 : b0 < w.heap.size := World.block_lt_of_cell? w _ m1
    have hpt : (decide (0 ≤ (i : Int)) && decide ((i : Int) < (n.regs.length : Int))) = true := by
      rw [decide_eq_true (by omega), decide_eq_true (by omega)]; rfl
    have i1 : (0 : Int) ≤ (i : Int) := by omega
    have E2 : bareB c p.width = (decide (c.width = p.width) && !c.signed && c.bits.toList.isEmpty && decide (c.ins.length = 0)) := rfl
    rw [E2]
    clear h hins hcs2 hat hul E E2 hop hj hcs0 hat0 hx hi hp1
    generalize c.width = z1 at *
    generalize c.signed = z3 at *
    generalize c.bits = z4 at *
    generalize c.ins.length = z5 at *
    generalize p.width = z6 at *
    have m2 := cell_later (bal (bal (brf w) (.cells #[v0, v1, .slice (some ⟨b2, o2, none⟩) n.cells.length c2, .slice (some ⟨b0, o0, none⟩) n.regs.length c0, v4, v5] 37)) (.cells #[.int .i64 34, .int .i64 z1, .int .i64 i, .bool z3, .string z4, .slice ia z5 ic] 52)) m1
    have RN := hide (fun V => iReads 34 z1 i z3 z4 ia z5 ic z6 V (by unfold maxLen; omega))
    go_enter Tryd.func49, Tryd.ntmps49
    go_wp2
    go_region_held3 (fun V => V.cell? ⟨w.heap.size, 3, none⟩ = some (.slice (some ⟨b0, o0, none⟩) n.regs.length c0) ∧ V.cell? ⟨w.heap.size + 1, 0, none⟩ = some (.int .i64 34) ∧ V.cell? ⟨w.heap.size + 1, 1, none⟩ = some (.int .i64 z1) ∧ V.cell? ⟨w.heap.size + 1, 2, none⟩ = some (.int .i64 i) ∧ V.cell? ⟨w.heap.size + 1, 3, none⟩ = some (.bool z3) ∧ V.cell? ⟨w.heap.size + 1, 4, none⟩ = some (.string z4) ∧ V.cell? ⟨w.heap.size + 1, 5, none⟩ = some (.slice ia z5 ic) ∧ V.cell? ⟨b0, o0 + i * 5 + 1, none⟩ = some (.int .i64 z6) ∧ Below w.heap.size w V)
      (first | (refine ⟨?_, ?_, ?_, ?_, ?_, ?_, ?_, ?_, ?_⟩ <;> first | (go_simp; done) | (exact m2) | (exact bdr (bal (bal (brf w) _) _))) | (exact S7 (by assumption) hb1) | assumption)
      (first | (go_at_call 64; refine (iPlace _ _ _).mono ?_; rintro e V1 ⟨rfl, rfl⟩; rw [hpt]) | (go_at_call 65; refine (unhide RN _).mono ?_; rintro e V1 ⟨rfl, hb1⟩))
    go_wp2
    go_ret
    exact ⟨rfl, belowS7 (by assumption)⟩
  · have hpf : (decide (0 ≤ c.n) && decide (c.n < (n.regs.length : Int))) = false := by
      rw [Bool.and_eq_false_iff, decide_eq_false_iff_not, decide_eq_false_iff_not]; omega
    have E : regB n c = false := by
      unfold regB
      by_cases h0 : 0 ≤ c.n
      · rw [if_pos h0, List.getElem?_eq_none (by omega)]
      · rw [if_neg h0]
    rw [E]
    obtain ⟨a0, c0, rfl⟩ := h.regs.slice
    clear h hins hcs2 hat hul E hp hop hj
    generalize c.width = z1 at *
    generalize c.n = z2 at *
    generalize c.signed = z3 at *
    generalize c.bits = z4 at *
    generalize c.ins.length = z5 at *
    have PF := hide (fun V => iPlaceB z2 (n.regs.length : Int) false hpf V)
    clear hpf
    go_enter Tryd.func49, Tryd.ntmps49
    go_wp2
    go_quiet (first | (go_at_call 64; exact Calls.quiet_of_same (unhide PF _)))
    go_wp2
    go_ret
    exact ⟨rfl, bdn (bal (bal (brf w) _) _)⟩
end Go.Proofs.YtkmpjoiefcjbnaaDoor
namespace Go.Proofs.YtkmpjoiefcjbnaaDoor
open Go.RowKit Gs
set_option linter.unusedVariables false
set_option maxRecDepth 100000
theorem infoEx : (Tryd.prog.info? 104).map (fun i => (i.zero, i.size, i.bytes)) = some (some (.agg #[.int .i64 0, .int .i64 0, .int .i64 0, .bool false, .string ByteArray.empty, .slice none 0 0]), 6, 72) := by kernel_rfl
def zEx : Array Value := #[.int .i64 0, .int .i64 0, .int .i64 0, .bool false, .string ByteArray.empty, .slice none 0 0]
theorem made_at (n i j : Nat) (hi : i < n) (hj : j < 6) : (madeCells zEx (n * 6))[i * 6 + j]? = zEx[j]? := by
  have hlt : i * 6 + j < n * 6 := by omega
  unfold madeCells
  rw [Array.getElem?_map, Array.getElem?_range]
  rw [if_pos hlt]
  have hz : zEx.size = 6 := rfl
  rw [hz]
  simp only [Option.map_some]
  rw [show (i * 6 + j) % 6 = j by omega]
  rw [getElem!_pos zEx j (by rw [hz]; omega), Array.getElem?_eq_getElem (by rw [hz]; omega)]
theorem make_Ex (n : Nat) (hn : n ≤ 64) : ∃ M : Array Value, M.size = n * 6 ∧ (∀ i j, i < n → j < 6 → M[i * 6 + j]? = zEx[j]?) ∧ ∀ W : World, (Instr.makeSlice 102 (.int .i64 (n : Int)) (.int .i64 (n : Int))).run Tryd.prog W = .ok (.slice (some ⟨W.heap.size, 0, none⟩) n n) (W.alloc (.cells M 104)) := by
  obtain ⟨i0, hi, hz0, hz1, hz2⟩ := info_parts infoEx
  refine ⟨_, size_madeCells zEx (n * 6), fun i j h1 h2 => made_at n i j h1 h2, fun W => ?_⟩
  have hr := run_make (P := Tryd.prog) W 102 104 i0 _ (by kernel_rfl) hi hz0 .i64 .i64 n n (by omega) (Int.le_refl _) (by rw [hz2]; omega) (by omega)
  rw [hr, hz1]
  simp
  rfl
theorem kids_made (w : World) (M : Array Value) (n B : Nat) (hM : ∀ i j, i < n → j < 6 → M[i * 6 + j]? = zEx[j]?) : NR 6 RKid (w.alloc (.cells M 104)) B w.heap.size n (List.replicate n (0 : Int)) := by
  intro i x hi hx
  have hx0 : x = 0 := by
    have := List.mem_of_getElem? hx
    exact (List.mem_replicate.1 this).2
  subst hx0
  refine ⟨[.int .i64 0, .int .i64 0, .int .i64 0, .bool false, .string ByteArray.empty, .slice none 0 0], rfl, fun j y hj => ?_, rfl⟩
  have hj6 : j < 6 := (List.getElem?_eq_some_iff.1 hj).1
  rw [World.cell?_alloc_new, hM i j hi hj6]
  rw [← hj]
  match j, hj6 with
  | 0, _ => rfl
  | 1, _ => rfl
  | 2, _ => rfl
  | 3, _ => rfl
  | 4, _ => rfl
  | 5, _ => rfl
/-- A kid's width is set. -/
theorem kids_set {W : World} {B g n k : Nat} {xs : List Int} {x : Int} (h : NR 6 RKid W B g n xs) (hT : TP W g (n * 6)) (hk : k < n) (hl : xs.length = n) : NR 6 RKid (W.setCell ⟨g, k * 6 + 1, none⟩ (.int .i64 x)) B g n (xs.set k x) := by
  intro i y hi hy
  have hset : (W.setCell ⟨g, k * 6 + 1, none⟩ (.int .i64 x)).cell? ⟨g, k * 6 + 1, none⟩ = some (.int .i64 x) := by
    obtain ⟨⟨z, hz⟩, _⟩ := hT (k * 6 + 1) (by omega)
    exact World.cell?_setCell_same (w := W) (a := ⟨g, k * 6 + 1, none⟩) (v := .int .i64 x) hz
  have hoth : ∀ p, p ≠ k * 6 + 1 → (W.setCell ⟨g, k * 6 + 1, none⟩ (.int .i64 x)).cell? ⟨g, p, none⟩ = W.cell? ⟨g, p, none⟩ := fun p hp =>
    World.cell?_setCell_other (w := W) (a := ⟨g, k * 6 + 1, none⟩) (b := ⟨g, p, none⟩) (v := .int .i64 x) (ne_addr (.inr hp))
  by_cases e : i = k
  · subst e
    rw [List.getElem?_set_self (by omega)] at hy
    cases hy
    obtain ⟨u, hu, hat, hr⟩ := h i (xs[i]'(by omega)) hi (List.getElem?_eq_getElem _)
    unfold RKid at hr
    subst hr
    refine ⟨[.int .i64 0, .int .i64 x, .int .i64 0, .bool false, .string ByteArray.empty, .slice none 0 0], rfl, fun j z hj => ?_, rfl⟩
    by_cases e1 : j = 1
    · subst e1
      cases hj
      exact hset
    · rw [hoth _ (by omega)]
      refine hat j z ?_
      have hj6 : j < 6 := (List.getElem?_eq_some_iff.1 hj).1
      match j, hj6, hj, e1 with
      | 0, _, hj, _ => exact hj
      | 2, _, hj, _ => exact hj
      | 3, _, hj, _ => exact hj
      | 4, _, hj, _ => exact hj
      | 5, _, hj, _ => exact hj
  · rw [List.getElem?_set_ne (fun h => e h.symm)] at hy
    obtain ⟨u, hu, hat, hr⟩ := h i y hi hy
    refine ⟨u, hu, fun j z hj => ?_, hr⟩
    have hj6 : j < 6 := by rw [← hu]; exact (List.getElem?_eq_some_iff.1 hj).1
    rw [hoth _ (by omega)]
    exact hat j z hj
theorem TP.set1 {W : World} {g m o : Nat} {v : Value} (h : TP W g m) : TP (W.setCell ⟨g, o, none⟩ v) g m := h.set (vs := [v])
/-- The widths behind k operands. -/
def wsAt (f : Int → Int) (ins : List Int) (k : Nat) : List Int := (ins.take k).map f ++ List.replicate (ins.length - k) 0
theorem wsAt_len (f : Int → Int) (ins : List Int) (k : Nat) (hk : k ≤ ins.length) : (wsAt f ins k).length = ins.length := by
  unfold wsAt; simp; omega
theorem wsAt_step (f : Int → Int) (ins : List Int) (k : Nat) (x : Int) (hx : ins[k]? = some x) : (wsAt f ins k).set k (f x) = wsAt f ins (k + 1) := by
  have hk : k < ins.length := (List.getElem?_eq_some_iff.1 hx).1
  unfold wsAt
  have hl : ((ins.take k).map f).length = k := by simp; omega
  rw [List.set_append_right _ _ (by omega), hl, Nat.sub_self, show ins.length - k = (ins.length - (k + 1)) + 1 by omega, List.replicate_succ, List.set_cons_zero, List.take_add_one, hx, List.map_append]
  simp
theorem wsAt_zero (f : Int → Int) (ins : List Int) : wsAt f ins 0 = List.replicate ins.length 0 := by simp [wsAt]
theorem wsAt_all (f : Int → Int) (ins : List Int) : wsAt f ins ins.length = ins.map f := by simp [wsAt]
def wOf (n : Net) (x : Int) : Int := match n.cells[x.toNat]? with
  | some c => c.width
  | none => 0
def placeB (j : Nat) (x : Int) : Bool := decide (0 ≤ x) && decide (x < (j : Int))
def restB (n : Net) (j : Nat) (c : Cell) : Bool := if 64 < c.ins.length then false else if c.ins.all (placeB j) then likeB c.op c.width c.n c.signed c.bits (c.ins.map (wOf n)) else false
end Go.Proofs.YtkmpjoiefcjbnaaDoor
namespace Go.Proofs.YtkmpjoiefcjbnaaDoor
open Go.RowKit Gs
set_option linter.unusedVariables false
set_option maxRecDepth 100000
/-- What the loop of cellFits keeps. -/
structure KL (w2 : World) (g len : Nat) (ws : List Int) (W : World) : Prop where
  row : NR 6 RKid W (g + 1) g len ws
  tp : TP W g (len * 6)
  below : Below w2.heap.size w2 W
  len : ws.length = len
theorem KL.step {w2 W : World} {g len k : Nat} {ws : List Int} {x : Int} (h : KL w2 g len ws W) (hk : k < len) (hg : w2.heap.size ≤ g) : KL w2 g len (ws.set k x) (W.setCell ⟨g, k * 6 + 1, none⟩ (.int .i64 x)) :=
  ⟨kids_set h.row h.tp hk h.len, TP.set1 h.tp, bst h.below hg _, by rw [List.length_set]; exact h.len⟩
theorem KL.cell {w2 W : World} {g len k : Nat} {ws : List Int} (h : KL w2 g len ws W) (hk : k < len) : (∃ x, W.cell? ⟨g, k * 6 + 1, none⟩ = some x) ∧ W.frozen? ⟨g, k * 6 + 1, none⟩ = false := h.tp (k * 6 + 1) (by omega)
theorem KL.rs {w2 W : World} {g len : Nat} {ws : List Int} (h : KL w2 g len ws W) (hl : len ≤ 64) : RS 6 RKid W 0 ws (.slice (some ⟨g, 0, none⟩) len len) := by
  have h1 := h.row
  have h2 := h.len
  subst h2
  exact NR.done RKid.lowers h1 (by unfold maxLen; omega) (Nat.zero_le _)
theorem two_size (w : World) (A B : Array Value) (t u : TypeId) : ((w.alloc (.cells A t)).alloc (.cells B u)).heap.size = w.heap.size + 1 + 1 := by go_simp
theorem two_first (w : World) (A B : Array Value) (t u : TypeId) {j : Nat} {y : Value} (h : A[j]? = some y) : ((w.alloc (.cells A t)).alloc (.cells B u)).cell? ⟨w.heap.size, j, none⟩ = some y :=
  cell_later (bal (brf _) _) (by rw [World.cell?_alloc_new]; exact h)
theorem two_next (w : World) (A B : Array Value) (t u : TypeId) {j : Nat} {y : Value} (h : B[j]? = some y) : ((w.alloc (.cells A t)).alloc (.cells B u)).cell? ⟨w.heap.size + 1, j, none⟩ = some y := by
  have e : (w.alloc (.cells A t)).heap.size = w.heap.size + 1 := by go_simp
  rw [← e, World.cell?_alloc_new]; exact h
set_option maxHeartbeats 8000000 in
theorem iCellRest (n : Net) (v0 v1 v2 v3 v4 v5 : Value) (w : World) (j : Nat) (c : Cell) (hj : n.cells[j]? = some c) (h33 : c.op ≠ 33) (h34 : c.op ≠ 34) (h : CW w n v0 v1 v2 v3 v4 v5) :
    Calls Tryd.prog 49 #[.agg #[v0, v1, v2, v3, v4, v5], .int .i64 j] w fun e w' => e = .returned (.bool (restB n j c)) ∧ Below w.heap.size w w' := by
  have hjl : j < n.cells.length := (List.getElem?_eq_some_iff.1 hj).1
  rcases h.cells.open with ⟨hnil, _⟩ | ⟨b2, o2, c2, rfl, hc2, hn2, _, hcs2⟩
  · rw [hnil] at hjl; simp at hjl
  obtain ⟨u, hul, hat, v, rfl, hbits, hins⟩ := hcs2 j c hj
  have hIl := hins.len
  unfold maxLen at hn2 hIl
  have k0 := hat.get (j := 0) rfl
  have k1 := hat.get (j := 1) rfl
  have k2 := hat.get (j := 2) rfl
  have k3 := hat.get (j := 3) rfl
  have k4 := hat.get (j := 4) rfl
  have k5 := hat.get (j := 5) rfl
  simp only [Nat.add_zero] at k0
  have hb2 : b2 < w.heap.size := World.block_lt_of_cell? w _ k0
  have j1 : (0 : Int) ≤ (j : Int) := by omega
  have j2 : (j : Int) < (n.cells.length : Int) := by omega
  have q33 : (c.op == 33) = false := beq_eq_false_iff_ne.2 h33
  have q34 : (c.op == 34) = false := beq_eq_false_iff_ne.2 h34
  clear hul hat h33 h34
  by_cases h64 : 64 < c.ins.length
  · have E : restB n j c = false := if_pos h64
    rw [E]
    obtain ⟨ia, ic, rfl⟩ := hins.slice
    have q64 : (64 : Int) < (c.ins.length : Int) := by omega
    clear h hins hcs2 E hj hbits
    generalize c.op = z0 at *
    generalize c.width = z1 at *
    generalize c.n = z2 at *
    generalize c.signed = z3 at *
    generalize c.bits = z4 at *
    generalize c.ins.length = z5 at *
    go_enter Tryd.func49, Tryd.ntmps49
    go_wp2
    go_ret
    exact ⟨rfl, bal (bal (brf w) _) _⟩
  · have E : restB n j c = if c.ins.all (placeB j) then likeB c.op c.width c.n c.signed c.bits (c.ins.map (wOf n)) else false := if_neg h64
    generalize restB n j c = R at E ⊢
    have HE1 := hide (show c.ins.all (placeB j) = false → false = R from fun h => by rw [E, h]; rfl)
    have HE2 := hide (show c.ins.all (placeB j) = true → likeB c.op c.width c.n c.signed c.bits (c.ins.map (wOf n)) = R from fun h => by rw [E, h]; rfl)
    clear E
    obtain ⟨M, hM, hz, hmk⟩ := make_Ex c.ins.length (by omega)
    have q64 : (c.ins.length : Int) ≤ 64 := by omega
    have HI := hide hins
    have HW := hide (fun (x : Nat) (hx : x < j) => (show ∃ d, w.cell? ⟨b2, o2 + x * 6 + 1, none⟩ = some (.int .i64 d) ∧ d = wOf n (x : Int) from by
      have hxl : n.cells[x]? = some (n.cells[x]'(by omega)) := List.getElem?_eq_getElem _
      obtain ⟨u, _, hat, _, rfl, _⟩ := hcs2 x _ hxl
      refine ⟨_, hat.get (j := 1) rfl, ?_⟩
      unfold wOf
      rw [Int.toNat_natCast, hxl]))
    have HLC := hide (fun (V : World) (xs : List Int) (v : Value) (hr : RS 6 RKid V 0 xs v) => iLikeCell c.op c.width c.n c.signed c.bits xs v V hbits hr)
    obtain ⟨ia, ic, rfl⟩ := hins.slice
    clear h hins hcs2 hj hbits
    generalize hL : c.ins = ins at *
    generalize c.op = z0 at *
    generalize c.width = z1 at *
    generalize c.n = z2 at *
    generalize c.signed = z3 at *
    generalize c.bits = z4 at *
    clear hL
    generalize hw2 : (w.alloc (.cells #[v0, v1, .slice (some ⟨b2, o2, none⟩) n.cells.length c2, v3, v4, v5] 37)).alloc (.cells #[.int .i64 z0, .int .i64 z1, .int .i64 z2, .bool z3, .string z4, .slice ia ins.length ic] 52) = w2
    have hs2 : w2.heap.size = w.heap.size + 1 + 1 := by rw [← hw2]; exact two_size _ _ _ _ _
    have B2 : Below w.heap.size w w2 := by rw [← hw2]; exact bal (bal (brf w) _) _
    have t0 : w2.cell? ⟨w.heap.size, 2, none⟩ = some (.slice (some ⟨b2, o2, none⟩) n.cells.length c2) := by rw [← hw2]; exact two_first _ _ _ _ _ rfl
    have t1 : w2.cell? ⟨w.heap.size + 1, 0, none⟩ = some (.int .i64 z0) := by rw [← hw2]; exact two_next _ _ _ _ _ rfl
    have t2 : w2.cell? ⟨w.heap.size + 1, 1, none⟩ = some (.int .i64 z1) := by rw [← hw2]; exact two_next _ _ _ _ _ rfl
    have t3 : w2.cell? ⟨w.heap.size + 1, 2, none⟩ = some (.int .i64 z2) := by rw [← hw2]; exact two_next _ _ _ _ _ rfl
    have t4 : w2.cell? ⟨w.heap.size + 1, 3, none⟩ = some (.bool z3) := by rw [← hw2]; exact two_next _ _ _ _ _ rfl
    have t5 : w2.cell? ⟨w.heap.size + 1, 4, none⟩ = some (.string z4) := by rw [← hw2]; exact two_next _ _ _ _ _ rfl
    have t6 : w2.cell? ⟨w.heap.size + 1, 5, none⟩ = some (.slice ia ins.length ic) := by rw [← hw2]; exact two_next _ _ _ _ _ rfl
    have TT := hide (fun (V : World) (hb : Below w2.heap.size w2 V) => (show V.cell? ⟨w.heap.size, 2, none⟩ = some (.slice (some ⟨b2, o2, none⟩) n.cells.length c2) ∧ V.cell? ⟨w.heap.size + 1, 0, none⟩ = some (.int .i64 z0) ∧ V.cell? ⟨w.heap.size + 1, 1, none⟩ = some (.int .i64 z1) ∧ V.cell? ⟨w.heap.size + 1, 2, none⟩ = some (.int .i64 z2) ∧ V.cell? ⟨w.heap.size + 1, 3, none⟩ = some (.bool z3) ∧ V.cell? ⟨w.heap.size + 1, 4, none⟩ = some (.string z4) ∧ V.cell? ⟨w.heap.size + 1, 5, none⟩ = some (.slice ia ins.length ic) from ⟨cell_later hb t0, cell_later hb t1, cell_later hb t2, cell_later hb t3, cell_later hb t4, cell_later hb t5, cell_later hb t6⟩))
    clear t0 t1 t2 t3 t4 t5 t6
    have KL0 := hide (show KL w2 w2.heap.size ins.length (wsAt (wOf n) ins 0) (w2.alloc (.cells M 104)) from by
      rw [wsAt_zero]
      exact ⟨kids_made w2 M ins.length _ hz, TP_made w2 M 104 _ hM, bal (brf w2) _, by simp⟩)
    have HB2 := hide B2
    clear B2
    rw [hs2] at KL0
    rw [← hw2] at KL0 TT HB2
    have HS2 := hide (show ((w.alloc (.cells #[v0, v1, .slice (some ⟨b2, o2, none⟩) n.cells.length c2, v3, v4, v5] 37)).alloc (.cells #[.int .i64 z0, .int .i64 z1, .int .i64 z2, .bool z3, .string z4, .slice ia ins.length ic] 52)).heap.size = w.heap.size + 1 + 1 from by rw [hw2]; exact hs2)
    clear hs2 hw2 hM hz
    go_enter Tryd.func49, Tryd.ntmps49
    go_wp2
    go_loopw [65] (fun i wr => ∃ k : Nat, k ≤ ins.length ∧ i = .int .i64 k ∧ (ins.take k).all (placeB j) = true ∧ KL ((w.alloc (.cells #[v0, v1, .slice (some ⟨b2, o2, none⟩) n.cells.length c2, v3, v4, v5] 37)).alloc (.cells #[.int .i64 z0, .int .i64 z1, .int .i64 z2, .bool z3, .string z4, .slice ia ins.length ic] 52)) (w.heap.size + 1 + 1) ins.length (wsAt (wOf n) ins k) wr) (fun i _ => ins.length - (intOf i).toNat)
    case atStart => exact ⟨0, Nat.zero_le _, rfl, rfl, unhide KL0⟩
    case round =>
      clear k0 k1 k2 k3 k4 k5 KL0
      obtain ⟨k, hk, rfl, hall, hkl⟩ := hrel
      obtain ⟨t0, t1, t2, t3, t4, t5, t6⟩ := unhide TT _ hkl.below
      have hbw := btr (unhide HB2) hkl.below
      by_cases hlt : k < ins.length
      · have hx : ins[k]? = some ins[k] := List.getElem?_eq_getElem hlt
        have hmem : ins[k] ∈ ins := List.getElem_mem hlt
        generalize ins[k] = x at hx hmem
        have hst : (ins.take (k + 1)).all (placeB j) = ((ins.take k).all (placeB j) && placeB j x) := by
          rw [List.take_add_one, hx, List.all_append]; simp
        rcases (unhide HI).open with ⟨hnil, _⟩ | ⟨bi, oi, ci, hie, _, _, _, hcsi⟩
        · rw [hnil] at hlt; simp at hlt
        obtain ⟨rfl, rfl⟩ : ia = some ⟨bi, oi, none⟩ ∧ ic = ci := by
          injection hie with e1 e2 e3
          exact ⟨e1, e3⟩
        obtain ⟨u, _, hati, hui⟩ := hcsi k x hx
        unfold RInt at hui
        subst hui
        have m0 := cell_later hbw (hati.get (j := 0) rfl)
        simp only [Nat.add_zero, Nat.mul_one] at m0
        cases hp : placeB j x
        · have E : ins.all (placeB j) = false := by
            rw [← Bool.not_eq_true]; intro h; rw [List.all_eq_true.1 h x hmem] at hp; cases hp
          have HE := hide (unhide HE1 E)
          have HBW := hide hbw
          have PF := hide (fun V => iPlaceB x (j : Int) false hp V)
          clear hkl hbw hst hcsi hati hie hx hmem hall E HI HW
          go_wp2_with (first | (go_at_call 64; refine (unhide PF _).mono ?_; rintro e V ⟨rfl, rfl⟩))
          go_ret
          exact ⟨ret_bool (unhide HE), unhide HBW⟩
        · have hp2 : 0 ≤ x ∧ x < (j : Int) := by
            have := hp
            unfold placeB at this
            rw [Bool.and_eq_true, decide_eq_true_eq, decide_eq_true_eq] at this
            exact this
          obtain ⟨i, rfl⟩ : ∃ i : Nat, x = (i : Int) := ⟨x.toNat, by omega⟩
          obtain ⟨d, hd, hdw⟩ := unhide HW i (by omega)
          have m1 := cell_later hbw hd
          have hws := wsAt_step (wOf n) ins k _ hx
          rw [← hdw] at hws
          have KLS := hide (hws ▸ hkl.step (x := d) hlt (by rw [unhide HS2]; exact Nat.le_refl _))
          obtain ⟨⟨y, m2⟩, m3⟩ := hkl.cell hlt
          have PF := hide (fun V => iPlaceB (i : Int) (j : Int) true hp V)
          have HA := hide (show (ins.take (k + 1)).all (placeB j) = true from by rw [hst, hall, hp]; rfl)
          have i1 : (0 : Int) ≤ (i : Int) := by omega
          have i2 : (i : Int) < (n.cells.length : Int) := by omega
          clear hkl hbw hst hcsi hati hie hx hmem hall hp hp2 hd hdw hws HI HW
          go_wp2_with (first | (go_at_call 64; refine (unhide PF _).mono ?_; rintro e V ⟨rfl, rfl⟩))
          go_roundw
          case rel => exact ⟨k + 1, by omega, by go_num, unhide HA, unhide KLS⟩
          case measure => simp [intOf]; omega
      · obtain rfl : k = ins.length := by omega
        rw [List.take_of_length_le (Nat.le_refl _)] at hall
        have HE := hide (unhide HE2 hall)
        rw [wsAt_all] at hkl
        have HR := hide (hkl.rs (by omega))
        have HBW := hide hbw
        have LK := hide (fun V => iLike z0 z1 z2 z3 z4 (.slice ia ins.length ic) (some ⟨w.heap.size + 1 + 1, 0, none⟩) ins.length ins.length V)
        clear hkl hbw hall HI HW
        go_wp2_with fail
        refine (unhide LK _).mono ?_
        rintro e V1 ⟨rfl, hb1⟩
        have HR1 := hide ((unhide HR).later RKid.keeps hb1)
        have HBW1 := hide (btr (unhide HBW) hb1)
        clear hb1
        go_wp2_with fail
        refine (unhide HLC _ _ _ (unhide HR1)).mono ?_
        rintro e V2 ⟨rfl, hb2⟩
        have HBW2 := hide (btr (unhide HBW1) hb2)
        clear hb2
        go_wp2
        go_ret
        exact ⟨ret_bool (unhide HE), unhide HBW2⟩
end Go.Proofs.YtkmpjoiefcjbnaaDoor
