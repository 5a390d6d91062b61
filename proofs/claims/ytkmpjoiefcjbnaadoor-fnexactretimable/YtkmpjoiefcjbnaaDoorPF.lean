/- outsFit and portsFit. -/
import Derived.Test.YtkmpjoiefcjbnaaDoorRF
namespace Go.Proofs.YtkmpjoiefcjbnaaDoor
open Go.RowKit Gs
set_option linter.unusedVariables false
set_option maxRecDepth 100000
theorem iRight1 (op width n : Int) (sg : Bool) (s : ByteArray) (v : Value) (w : World) : Calls Tryd.prog 71 #[.agg #[.int .i64 op, .int .i64 width, .int .i64 n, .bool sg, .string s, v]] w fun e w' => e = .returned (.bool true) ∧ Below w.heap.size w w' := by
  go_enter Tryd.func71, Tryd.ntmps71
  go_wp2
  go_ret
  exact ⟨rfl, bal (brf w) _⟩
theorem iRight2 (op width n : Int) (sg : Bool) (s : ByteArray) (v : Value) (w : World) : Calls Tryd.prog 72 #[.agg #[.int .i64 op, .int .i64 width, .int .i64 n, .bool sg, .string s, v]] w fun e w' => e = .returned (.bool (width == 1)) ∧ Below w.heap.size w w' := by
  go_enter Tryd.func72, Tryd.ntmps72
  go_wp2
  go_ret
  exact ⟨rfl, bal (brf w) _⟩
/-- An out or a check: a cell that is right. -/
def outB (n : Net) (p : Int → Bool) (x : NetOut) : Bool := if 0 ≤ x.cell then (match n.cells[x.cell.toNat]? with | some c => p c.width | none => false) else false
set_option maxHeartbeats 8000000 in
theorem iOutsFit48 (p : Int → Bool) (hf : ∀ (op width n : Int) (sg : Bool) (s : ByteArray) (v : Value) (w : World), Calls Tryd.prog 71 #[.agg #[.int .i64 op, .int .i64 width, .int .i64 n, .bool sg, .string s, v]] w fun e w' => e = .returned (.bool (p width)) ∧ Below w.heap.size w w')
    (n : Net) (v0 v1 v2 v3 v4 v5 : Value) (w : World) (xs : List NetOut) (v : Value) (h2 : RS 6 RCell w 0 n.cells v2) (hr : RS 2 RNetOut w 0 xs v) :
    Calls Tryd.prog 70 #[.agg #[v0, v1, v2, v3, v4, v5], v, .func (.func 71) #[] #[]] w fun e w' => e = .returned (.bool (xs.all (outB n p))) ∧ Below w.heap.size w w' := by
  have HF := hide hf
  clear hf
  have hl2 := h2.len
  unfold maxLen at hl2
  obtain ⟨a2, c2, e2⟩ := h2.slice
  subst e2
  rcases hr.open with ⟨rfl, a, c, rfl⟩ | ⟨b, o, c, rfl, hc, hn, _, hcs⟩
  · clear hr h2
    go_enter Tryd.func70, Tryd.ntmps70
    go_wp2
    refine wp_loop_rounds 1 ?_
    rw [rounds_succ]
    go_wp2
    go_ret
    exact ⟨rfl, bal (brf w) _⟩
  · unfold maxLen at hn
    have HC := hide hcs
    have H2 := hide h2
    clear hcs hr h2
    go_enter Tryd.func70, Tryd.ntmps70
    go_wp2
    go_loopw [11] (fun i wr => ∃ k : Nat, k ≤ xs.length ∧ i = .int .i64 k ∧ (xs.take k).all (outB n p) = true ∧ Bt 37 w #[v0, v1, .slice a2 n.cells.length c2, v3, v4, v5] wr) (fun i _ => xs.length - (intOf i).toNat)
    case atStart => exact ⟨0, Nat.zero_le _, rfl, rfl, Bt.refl _ _ _⟩
    case round =>
      obtain ⟨k, hk, rfl, hall, hbx⟩ := hrel
      obtain ⟨t0, t1, t2, t3, t4, t5⟩ := hbx.get6
      have hb := hbx.below
      have hlt0 := hbx.size
      by_cases hlt : k < xs.length
      · have hx : xs[k]? = some xs[k] := List.getElem?_eq_getElem hlt
        have hmem : xs[k] ∈ xs := List.getElem_mem hlt
        generalize xs[k] = x at hx hmem
        have hst : (xs.take (k + 1)).all (outB n p) = ((xs.take k).all (outB n p) && outB n p x) := by
          rw [List.take_add_one, hx, List.all_append]; simp
        have hno : outB n p x = false → false = xs.all (outB n p) := fun hp => by
          symm; rw [← Bool.not_eq_true]; intro h; rw [List.all_eq_true.1 h x hmem] at hp; cases hp
        obtain ⟨u, _, hat, hux, _⟩ := unhide HC k x hx
        subst hux
        have k0 := cell_later hb (hat.get (j := 0) rfl)
        have k1 := cell_later hb (hat.get (j := 1) rfl)
        simp only [Nat.add_zero] at k0
        by_cases hp : 0 ≤ x.cell ∧ x.cell < (n.cells.length : Int)
        · obtain ⟨hp1, hp2⟩ := hp
          obtain ⟨i, hi⟩ : ∃ i : Nat, x.cell = (i : Int) := ⟨x.cell.toNat, by omega⟩
          rw [hi] at k1
          have hil : i < n.cells.length := by omega
          have hxc : n.cells[i]? = some n.cells[i] := List.getElem?_eq_getElem hil
          generalize n.cells[i] = d at hxc
          have E : outB n p x = p d.width := by
            unfold outB
            rw [if_pos hp1, hi, Int.toNat_natCast, hxc]
          rcases (unhide H2).open with ⟨hnil, _⟩ | ⟨b2, o2, c2', e2, hc2, _, _, hcs2⟩
          · rw [hnil] at hil; simp at hil
          obtain ⟨rfl, rfl⟩ : a2 = some ⟨b2, o2, none⟩ ∧ c2 = c2' := by
            injection e2 with e1 e2 e3
            exact ⟨e1, e3⟩
          obtain ⟨u, _, hat2, vk, rfl, _, hins⟩ := hcs2 i d hxc
          obtain ⟨ia, ic, rfl⟩ := hins.slice
          have d0 := cell_later hb (hat2.get (j := 0) rfl)
          have d1 := cell_later hb (hat2.get (j := 1) rfl)
          have d2 := cell_later hb (hat2.get (j := 2) rfl)
          have d3 := cell_later hb (hat2.get (j := 3) rfl)
          have d4 := cell_later hb (hat2.get (j := 4) rfl)
          have d5 := cell_later hb (hat2.get (j := 5) rfl)
          simp only [Nat.add_zero] at d0
          have hb2 : b2 < wr.heap.size := World.block_lt_of_cell? wr _ d0
          have PF := hide (fun V => iPlaceB (i : Int) (n.cells.length : Int) true (by rw [decide_eq_true (by omega), decide_eq_true (by omega)]; rfl) V)
          have i1 : (0 : Int) ≤ (i : Int) := by omega
          have i2 : (i : Int) < (n.cells.length : Int) := by omega
          rw [E] at hst hno
          have HX := hide hbx
          have CF := hide (fun V => unhide HF d.op d.width d.n d.signed d.bits (.slice ia d.ins.length ic) V)
          have HNO := hide hno
          have HST := hide hst
          have HALL := hide hall
          clear E hat hat2 hcs2 hins hxc hx hmem hi hp1 hp2 e2 hb hno hst hall hbx HC H2 HF hil
          generalize d.op = z0 at *
          generalize d.width = z1 at *
          generalize d.n = z2 at *
          generalize d.signed = z3 at *
          generalize d.bits = z4 at *
          generalize d.ins.length = z5 at *
          generalize x.name = z6 at *
          cases hpd : p z1
          · rw [hpd] at CF HNO
            go_wp2_with fail
            refine (unhide PF _).mono ?_
            rintro e V1 ⟨rfl, rfl⟩
            go_wp2_with fail
            refine (unhide CF _).mono ?_
            rintro e V2 ⟨rfl, hb2⟩
            have HB2 := hide (((unhide HX).alloc _).then hb2).below
            clear hb2
            go_wp2
            go_ret
            exact ⟨ret_bool (unhide HNO (by first | exact trivial | rfl)), unhide HB2⟩
          · rw [hpd] at CF HST
            go_wp2_with fail
            refine (unhide PF _).mono ?_
            rintro e V1 ⟨rfl, rfl⟩
            go_wp2_with fail
            refine (unhide CF _).mono ?_
            rintro e V2 ⟨rfl, hb2⟩
            have HX2 := hide (((unhide HX).alloc _).then hb2)
            clear hb2
            go_wp2
            go_roundw
            case rel => exact ⟨k + 1, by omega, by go_num, by rw [unhide HST, unhide HALL]; rfl, unhide HX2⟩
            case measure => simp [intOf]; omega
        · have E : outB n p x = false := by
            unfold outB
            by_cases h0 : 0 ≤ x.cell
            · rw [if_pos h0, List.getElem?_eq_none (by omega)]
            · rw [if_neg h0]
          have PF := hide (fun V => iPlaceB x.cell (n.cells.length : Int) false (by rw [Bool.and_eq_false_iff, decide_eq_false_iff_not, decide_eq_false_iff_not]; omega) V)
          have HNO := hide (hno E)
          have HB := hide hb
          clear hp E hno hst hat hx hmem hall hbx hb HC H2 HF
          generalize x.name = z6 at *
          generalize x.cell = z7 at *
          go_wp2_with fail
          refine (unhide PF _).mono ?_
          rintro e V1 ⟨rfl, rfl⟩
          go_wp2
          go_ret
          exact ⟨ret_bool (unhide HNO), bal (unhide HB) _⟩
      · obtain rfl : k = xs.length := by omega
        rw [List.take_of_length_le (Nat.le_refl _)] at hall
        have HA := hide hall
        have HB := hide hb
        clear hall hb hbx HC H2
        go_wp2
        go_ret
        exact ⟨ret_bool (unhide HA).symm, unhide HB⟩
set_option maxHeartbeats 8000000 in
theorem iOutsFit49 (p : Int → Bool) (hf : ∀ (op width n : Int) (sg : Bool) (s : ByteArray) (v : Value) (w : World), Calls Tryd.prog 72 #[.agg #[.int .i64 op, .int .i64 width, .int .i64 n, .bool sg, .string s, v]] w fun e w' => e = .returned (.bool (p width)) ∧ Below w.heap.size w w')
    (n : Net) (v0 v1 v2 v3 v4 v5 : Value) (w : World) (xs : List NetOut) (v : Value) (h2 : RS 6 RCell w 0 n.cells v2) (hr : RS 2 RNetOut w 0 xs v) :
    Calls Tryd.prog 70 #[.agg #[v0, v1, v2, v3, v4, v5], v, .func (.func 72) #[] #[]] w fun e w' => e = .returned (.bool (xs.all (outB n p))) ∧ Below w.heap.size w w' := by
  have HF := hide hf
  clear hf
  have hl2 := h2.len
  unfold maxLen at hl2
  obtain ⟨a2, c2, e2⟩ := h2.slice
  subst e2
  rcases hr.open with ⟨rfl, a, c, rfl⟩ | ⟨b, o, c, rfl, hc, hn, _, hcs⟩
  · clear hr h2
    go_enter Tryd.func70, Tryd.ntmps70
    go_wp2
    refine wp_loop_rounds 1 ?_
    rw [rounds_succ]
    go_wp2
    go_ret
    exact ⟨rfl, bal (brf w) _⟩
  · unfold maxLen at hn
    have HC := hide hcs
    have H2 := hide h2
    clear hcs hr h2
    go_enter Tryd.func70, Tryd.ntmps70
    go_wp2
    go_loopw [11] (fun i wr => ∃ k : Nat, k ≤ xs.length ∧ i = .int .i64 k ∧ (xs.take k).all (outB n p) = true ∧ Bt 37 w #[v0, v1, .slice a2 n.cells.length c2, v3, v4, v5] wr) (fun i _ => xs.length - (intOf i).toNat)
    case atStart => exact ⟨0, Nat.zero_le _, rfl, rfl, Bt.refl _ _ _⟩
    case round =>
      obtain ⟨k, hk, rfl, hall, hbx⟩ := hrel
      obtain ⟨t0, t1, t2, t3, t4, t5⟩ := hbx.get6
      have hb := hbx.below
      have hlt0 := hbx.size
      by_cases hlt : k < xs.length
      · have hx : xs[k]? = some xs[k] := List.getElem?_eq_getElem hlt
        have hmem : xs[k] ∈ xs := List.getElem_mem hlt
        generalize xs[k] = x at hx hmem
        have hst : (xs.take (k + 1)).all (outB n p) = ((xs.take k).all (outB n p) && outB n p x) := by
          rw [List.take_add_one, hx, List.all_append]; simp
        have hno : outB n p x = false → false = xs.all (outB n p) := fun hp => by
          symm; rw [← Bool.not_eq_true]; intro h; rw [List.all_eq_true.1 h x hmem] at hp; cases hp
        obtain ⟨u, _, hat, hux, _⟩ := unhide HC k x hx
        subst hux
        have k0 := cell_later hb (hat.get (j := 0) rfl)
        have k1 := cell_later hb (hat.get (j := 1) rfl)
        simp only [Nat.add_zero] at k0
        by_cases hp : 0 ≤ x.cell ∧ x.cell < (n.cells.length : Int)
        · obtain ⟨hp1, hp2⟩ := hp
          obtain ⟨i, hi⟩ : ∃ i : Nat, x.cell = (i : Int) := ⟨x.cell.toNat, by omega⟩
          rw [hi] at k1
          have hil : i < n.cells.length := by omega
          have hxc : n.cells[i]? = some n.cells[i] := List.getElem?_eq_getElem hil
          generalize n.cells[i] = d at hxc
          have E : outB n p x = p d.width := by
            unfold outB
            rw [if_pos hp1, hi, Int.toNat_natCast, hxc]
          rcases (unhide H2).open with ⟨hnil, _⟩ | ⟨b2, o2, c2', e2, hc2, _, _, hcs2⟩
          · rw [hnil] at hil; simp at hil
          obtain ⟨rfl, rfl⟩ : a2 = some ⟨b2, o2, none⟩ ∧ c2 = c2' := by
            injection e2 with e1 e2 e3
            exact ⟨e1, e3⟩
          obtain ⟨u, _, hat2, vk, rfl, _, hins⟩ := hcs2 i d hxc
          obtain ⟨ia, ic, rfl⟩ := hins.slice
          have d0 := cell_later hb (hat2.get (j := 0) rfl)
          have d1 := cell_later hb (hat2.get (j := 1) rfl)
          have d2 := cell_later hb (hat2.get (j := 2) rfl)
          have d3 := cell_later hb (hat2.get (j := 3) rfl)
          have d4 := cell_later hb (hat2.get (j := 4) rfl)
          have d5 := cell_later hb (hat2.get (j := 5) rfl)
          simp only [Nat.add_zero] at d0
          have hb2 : b2 < wr.heap.size := World.block_lt_of_cell? wr _ d0
          have PF := hide (fun V => iPlaceB (i : Int) (n.cells.length : Int) true (by rw [decide_eq_true (by omega), decide_eq_true (by omega)]; rfl) V)
          have i1 : (0 : Int) ≤ (i : Int) := by omega
          have i2 : (i : Int) < (n.cells.length : Int) := by omega
          rw [E] at hst hno
          have HX := hide hbx
          have CF := hide (fun V => unhide HF d.op d.width d.n d.signed d.bits (.slice ia d.ins.length ic) V)
          have HNO := hide hno
          have HST := hide hst
          have HALL := hide hall
          clear E hat hat2 hcs2 hins hxc hx hmem hi hp1 hp2 e2 hb hno hst hall hbx HC H2 HF hil
          generalize d.op = z0 at *
          generalize d.width = z1 at *
          generalize d.n = z2 at *
          generalize d.signed = z3 at *
          generalize d.bits = z4 at *
          generalize d.ins.length = z5 at *
          generalize x.name = z6 at *
          cases hpd : p z1
          · rw [hpd] at CF HNO
            go_wp2_with fail
            refine (unhide PF _).mono ?_
            rintro e V1 ⟨rfl, rfl⟩
            go_wp2_with fail
            refine (unhide CF _).mono ?_
            rintro e V2 ⟨rfl, hb2⟩
            have HB2 := hide (((unhide HX).alloc _).then hb2).below
            clear hb2
            go_wp2
            go_ret
            exact ⟨ret_bool (unhide HNO (by first | exact trivial | rfl)), unhide HB2⟩
          · rw [hpd] at CF HST
            go_wp2_with fail
            refine (unhide PF _).mono ?_
            rintro e V1 ⟨rfl, rfl⟩
            go_wp2_with fail
            refine (unhide CF _).mono ?_
            rintro e V2 ⟨rfl, hb2⟩
            have HX2 := hide (((unhide HX).alloc _).then hb2)
            clear hb2
            go_wp2
            go_roundw
            case rel => exact ⟨k + 1, by omega, by go_num, by rw [unhide HST, unhide HALL]; rfl, unhide HX2⟩
            case measure => simp [intOf]; omega
        · have E : outB n p x = false := by
            unfold outB
            by_cases h0 : 0 ≤ x.cell
            · rw [if_pos h0, List.getElem?_eq_none (by omega)]
            · rw [if_neg h0]
          have PF := hide (fun V => iPlaceB x.cell (n.cells.length : Int) false (by rw [Bool.and_eq_false_iff, decide_eq_false_iff_not, decide_eq_false_iff_not]; omega) V)
          have HNO := hide (hno E)
          have HB := hide hb
          clear hp E hno hst hat hx hmem hall hbx hb HC H2 HF
          generalize x.name = z6 at *
          generalize x.cell = z7 at *
          go_wp2_with fail
          refine (unhide PF _).mono ?_
          rintro e V1 ⟨rfl, rfl⟩
          go_wp2
          go_ret
          exact ⟨ret_bool (unhide HNO), bal (unhide HB) _⟩
      · obtain rfl : k = xs.length := by omega
        rw [List.take_of_length_le (Nat.le_refl _)] at hall
        have HA := hide hall
        have HB := hide hb
        clear hall hb hbx HC H2
        go_wp2
        go_ret
        exact ⟨ret_bool (unhide HA).symm, unhide HB⟩
end Go.Proofs.YtkmpjoiefcjbnaaDoor
