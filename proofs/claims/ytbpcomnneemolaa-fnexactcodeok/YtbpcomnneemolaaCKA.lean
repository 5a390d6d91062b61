/- countsFit of a code. -/
import Derived.Test.YtbpcomnneemolaaDD
import Derived.Test.YtbpcomnneemolaaLC
import Derived.BigQuiet
namespace Go.Proofs.Ytbpcomnneemolaa
open Go.RowKit Gs
set_option linter.unusedVariables false
set_option maxRecDepth 100000
def countsC (c : Code) : Bool := decide (c.instrs.length ≤ 16384) && decide (0 ≤ c.slots) && decide (c.slots ≤ 16384) && decide (c.inits.length ≤ 256) && decide (0 ≤ c.clocks) && decide (c.clocks ≤ 8) && (decide (c.ins.length ≤ 256) && decide (c.outs.length ≤ 256) && decide (c.checks.length ≤ 256)) && decide (c.ticks.length = c.inits.length) && decide (c.nexts.length = c.inits.length)
theorem Bt.get9 {t : TypeId} {w W : World} {v0 v1 v2 v3 v4 v5 v6 v7 v8 : Value} (h : Bt t w #[v0, v1, v2, v3, v4, v5, v6, v7, v8] W) : W.cell? ⟨w.heap.size, 0, none⟩ = some v0 ∧ W.cell? ⟨w.heap.size, 1, none⟩ = some v1 ∧ W.cell? ⟨w.heap.size, 2, none⟩ = some v2 ∧ W.cell? ⟨w.heap.size, 3, none⟩ = some v3 ∧ W.cell? ⟨w.heap.size, 4, none⟩ = some v4 ∧ W.cell? ⟨w.heap.size, 5, none⟩ = some v5 ∧ W.cell? ⟨w.heap.size, 6, none⟩ = some v6 ∧ W.cell? ⟨w.heap.size, 7, none⟩ = some v7 ∧ W.cell? ⟨w.heap.size, 8, none⟩ = some v8 :=
  ⟨h.get rfl, h.get rfl, h.get rfl, h.get rfl, h.get rfl, h.get rfl, h.get rfl, h.get rfl, h.get rfl⟩
set_option maxHeartbeats 16000000 in
theorem iCounts (s k : Int) (l1 l2 l4 l5 l6 l7 l8 : Nat) (a1 a2 a4 a5 a6 a7 a8 : Option Addr) (c1 c2 c4 c5 c6 c7 c8 : Nat) (w : World) (h1 : l1 ≤ maxLen) (h2 : l2 ≤ maxLen) (h4 : l4 ≤ maxLen) (h5 : l5 ≤ maxLen) (h6 : l6 ≤ maxLen) (h7 : l7 ≤ maxLen) (h8 : l8 ≤ maxLen) :
    Calls Try.prog 20 #[.agg #[.int .i64 s, .slice a1 l1 c1, .slice a2 l2 c2, .int .i64 k, .slice a4 l4 c4, .slice a5 l5 c5, .slice a6 l6 c6, .slice a7 l7 c7, .slice a8 l8 c8]] w fun e w' =>
      e = .returned (.bool (decide (l1 ≤ 16384) && decide (0 ≤ s) && decide (s ≤ 16384) && decide (l4 ≤ 256) && decide (0 ≤ k) && decide (k ≤ 8) && (decide (l2 ≤ 256) && decide (l7 ≤ 256) && decide (l8 ≤ 256)) && decide (l5 = l4) && decide (l6 = l4))) ∧ Below w.heap.size w w' := by
  unfold maxLen at *
  generalize hR : (decide (l1 ≤ 16384) && decide (0 ≤ s) && decide (s ≤ 16384) && decide (l4 ≤ 256) && decide (0 ≤ k) && decide (k ≤ 8) && (decide (l2 ≤ 256) && decide (l7 ≤ 256) && decide (l8 ≤ 256)) && decide (l5 = l4) && decide (l6 = l4)) = R
  by_cases q : l1 ≤ 16384 ∧ 0 ≤ s ∧ s ≤ 16384
  · obtain ⟨q1, q2, q3⟩ := q
    have d1 : decide ((16384 : Int) < (l1 : Int)) = false := decide_eq_false (by omega)
    have d2 : decide (s < 0) = false := decide_eq_false (by omega)
    have d3 : decide ((16384 : Int) < s) = false := decide_eq_false (by omega)
    by_cases p : l4 ≤ 256 ∧ 0 ≤ k ∧ k ≤ 8
    · obtain ⟨p1, p2, p3⟩ := p
      have d4 : decide ((256 : Int) < (l4 : Int)) = false := decide_eq_false (by omega)
      have d5 : decide (k < 0) = false := decide_eq_false (by omega)
      have d6 : decide ((8 : Int) < k) = false := decide_eq_false (by omega)
      by_cases r : l2 ≤ 256 ∧ l7 ≤ 256 ∧ l8 ≤ 256
      · obtain ⟨r1, r2, r3⟩ := r
        have e1 : (l2 : Int) ≤ 256 := by omega
        have e2 : (l7 : Int) ≤ 256 := by omega
        have e3 : (l8 : Int) ≤ 256 := by omega
        rw [decide_eq_true q1, decide_eq_true q2, decide_eq_true q3, decide_eq_true p1, decide_eq_true p2, decide_eq_true p3, decide_eq_true r1, decide_eq_true r2, decide_eq_true r3] at hR
        clear q1 q2 q3 p1 p2 p3 r1 r2 r3
        by_cases t5 : l5 = l4
        · have f5 : ((l5 : Int) == (l4 : Int)) = true := decide_eq_true (by omega)
          rw [decide_eq_true t5] at hR
          have HE := hide (show ((l6 : Int) == (l4 : Int)) = R from by rw [← hR, show ((l6 : Int) == (l4 : Int)) = decide ((l6 : Int) = (l4 : Int)) from rfl]; simp only [Bool.and_self, Bool.true_and, Int.ofNat_inj])
          clear hR t5
          go_enter Try.func20, Try.ntmps20
          go_wp2
          all_goals (go_ret; exact ⟨ret_bool (unhide HE), bal (brf w) _⟩)
        · have f5 : ((l5 : Int) == (l4 : Int)) = false := decide_eq_false (by omega)
          rw [decide_eq_false t5] at hR
          have HE := hide (show false = R from by rw [← hR]; simp)
          clear hR t5
          go_enter Try.func20, Try.ntmps20
          go_wp2
          all_goals (go_ret; exact ⟨ret_bool (unhide HE), bal (brf w) _⟩)
      · have HE := hide (show false = R from by
          rw [← hR, show (decide (l2 ≤ 256) && decide (l7 ≤ 256) && decide (l8 ≤ 256)) = false from by
            rw [← Bool.not_eq_true]; intro h; simp only [Bool.and_eq_true, decide_eq_true_eq] at h; exact r ⟨h.1.1, h.1.2, h.2⟩]
          simp)
        have hmx : (256 : Int) < max (max (l2 : Int) (l7 : Int)) (l8 : Int) := by omega
        clear hR r p1 p2 p3 q1 q2 q3
        go_enter Try.func20, Try.ntmps20
        go_wp2
        all_goals (go_ret; exact ⟨ret_bool (unhide HE), bal (brf w) _⟩)
    · have HE := hide (show false = R from by
        cases hh : R with
        | false => rfl
        | true =>
          exfalso
          rw [hh] at hR
          simp only [Bool.and_eq_true, decide_eq_true_eq] at hR
          omega)
      clear hR q1 q2 q3
      have hc : (decide ((256 : Int) < (l4 : Int)) = true) ∨ (decide ((256 : Int) < (l4 : Int)) = false ∧ decide (k < 0) = true) ∨ (decide ((256 : Int) < (l4 : Int)) = false ∧ decide (k < 0) = false ∧ decide ((8 : Int) < k) = true) := by
        simp only [decide_eq_true_eq, decide_eq_false_iff_not]; omega
      clear p
      rcases hc with g1 | ⟨g1, g2⟩ | ⟨g1, g2, g3⟩
      all_goals
        go_enter Try.func20, Try.ntmps20
        go_wp2
        go_ret
        exact ⟨ret_bool (unhide HE), bal (brf w) _⟩
  · have HE := hide (show false = R from by
      cases hh : R with
      | false => rfl
      | true =>
        exfalso
        rw [hh] at hR
        simp only [Bool.and_eq_true, decide_eq_true_eq] at hR
        omega)
    clear hR
    have hc : (decide ((16384 : Int) < (l1 : Int)) = true) ∨ (decide ((16384 : Int) < (l1 : Int)) = false ∧ decide (s < 0) = true) ∨ (decide ((16384 : Int) < (l1 : Int)) = false ∧ decide (s < 0) = false ∧ decide ((16384 : Int) < s) = true) := by
      simp only [decide_eq_true_eq, decide_eq_false_iff_not]; omega
    clear q
    rcases hc with g1 | ⟨g1, g2⟩ | ⟨g1, g2, g3⟩
    all_goals
      go_enter Try.func20, Try.ntmps20
      go_wp2
      go_ret
      exact ⟨ret_bool (unhide HE), bal (brf w) _⟩
end Go.Proofs.Ytbpcomnneemolaa
namespace Go.Proofs.Ytbpcomnneemolaa
open Go.RowKit Gs
set_option linter.unusedVariables false
set_option maxRecDepth 100000
def wOK (x : Int) : Bool := decide (1 ≤ x) && decide (x ≤ 64)
def plOK (k x : Int) : Bool := decide (0 ≤ x) && decide (x < k)
def portsC (c : Code) : Bool := c.ins.all wOK && c.inits.all knownS && c.ticks.all (plOK c.clocks)
theorem no_all {α : Type} {p : α → Bool} {xs : List α} {x : α} (hm : x ∈ xs) (h : p x = false) : xs.all p = false := by
  rw [← Bool.not_eq_true]; intro e; rw [List.all_eq_true.1 e x hm] at h; cases h
set_option maxHeartbeats 16000000 in
theorem iPorts (c : Code) (v1 v2 v4 v5 v6 v7 v8 : Value) (w : World) (h2 : RS 1 RInt w 0 c.ins v2) (h4 : RS 1 RStr w 0 c.inits v4) (h5 : RS 1 RInt w 0 c.ticks v5) :
    Calls Try.prog 21 #[.agg #[.int .i64 c.slots, v1, v2, .int .i64 c.clocks, v4, v5, v6, v7, v8]] w fun e w' => e = .returned (.bool (portsC c)) ∧ Below w.heap.size w w' := by
  generalize hPB : portsC c = PB
  have HE0 := hide (show c.ins.all wOK = false → false = PB from fun h => by rw [← hPB]; unfold portsC; rw [h]; rfl)
  have HE1 := hide (show c.ins.all wOK = true → c.inits.all knownS = false → false = PB from fun h h' => by rw [← hPB]; unfold portsC; rw [h, h']; rfl)
  have HE2 := hide (show c.ins.all wOK = true → c.inits.all knownS = true → c.ticks.all (plOK c.clocks) = PB from fun h h' => by rw [← hPB]; unfold portsC; rw [h, h']; rfl)
  clear hPB
  obtain ⟨a2, c2, e2⟩ := h2.slice
  obtain ⟨a4, c4, e4⟩ := h4.slice
  obtain ⟨a5, c5, e5⟩ := h5.slice
  have hl2 := h2.len
  have hl4 := h4.len
  have hl5 := h5.len
  unfold maxLen at hl2 hl4 hl5
  have H2 := hide h2
  have H4 := hide h4
  have H5 := hide h5
  subst e2 e4 e5
  clear h2 h4 h5
  go_enter Try.func21, Try.ntmps21
  go_wp2
  go_loopw [14] (fun i wr => ∃ k : Nat, k ≤ c.ins.length ∧ i = .int .i64 k ∧ (c.ins.take k).all wOK = true ∧ Bt 31 w #[.int .i64 c.slots, v1, .slice a2 c.ins.length c2, .int .i64 c.clocks, .slice a4 c.inits.length c4, .slice a5 c.ticks.length c5, v6, v7, v8] wr) (fun i _ => c.ins.length - (intOf i).toNat)
  case atStart => exact ⟨0, Nat.zero_le _, rfl, rfl, Bt.refl _ _ _⟩
  case round =>
    obtain ⟨k, hk, rfl, hall, hbx⟩ := hrel
    obtain ⟨t0, t1, t2, t3, t4, t5, t6, t7, t8⟩ := hbx.get9
    have hb := hbx.below
    have hlt0 := hbx.size
    by_cases hlt : k < c.ins.length
    · have hx : c.ins[k]? = some c.ins[k] := List.getElem?_eq_getElem hlt
      have hmem : c.ins[k] ∈ c.ins := List.getElem_mem hlt
      generalize c.ins[k] = x at hx hmem
      have hst : (c.ins.take (k + 1)).all wOK = ((c.ins.take k).all wOK && wOK x) := by
        rw [List.take_add_one, hx, List.all_append]; simp
      rcases (unhide H2).open with ⟨hnil, _⟩ | ⟨b, o, cc, e, _, _, _, hcs⟩
      · rw [hnil] at hlt; simp at hlt
      obtain ⟨rfl, rfl⟩ : a2 = some ⟨b, o, none⟩ ∧ c2 = cc := by
        injection e with e1 e2 e3
        exact ⟨e1, e3⟩
      obtain ⟨u, _, hat, hux⟩ := hcs k x hx
      obtain rfl : u = [.int .i64 x] := hux
      have k0 := cell_later hb (hat.get (j := 0) rfl)
      simp only [Nat.add_zero, Nat.mul_one] at k0
      have HNO := hide (fun h => unhide HE0 (no_all (p := wOK) hmem h))
      have HX := hide hbx
      have HST := hide hst
      have HA := hide hall
      have WF := hide (fun V => iWidthOK x V)
      clear hst hmem hx hat hcs hall hbx hb H2 H4 H5 HE0 HE1 HE2 e
      cases hw : wOK x
      · go_wp2_with fail
        refine (unhide WF _).mono ?_
        rintro e V1 ⟨rfl, rfl⟩
        rw [show (decide (1 ≤ x) && decide (x ≤ 64)) = false from hw]
        go_wp2
        go_ret
        exact ⟨ret_bool (unhide HNO hw), (unhide HX).below⟩
      · go_wp2_with fail
        refine (unhide WF _).mono ?_
        rintro e V1 ⟨rfl, rfl⟩
        rw [show (decide (1 ≤ x) && decide (x ≤ 64)) = true from hw]
        go_wp2
        go_roundw
        case rel => exact ⟨k + 1, by omega, by go_num, by rw [unhide HST, unhide HA, hw]; rfl, (unhide HX)⟩
        case measure => simp [intOf]; omega
    · obtain rfl : k = c.ins.length := by omega
      rw [List.take_of_length_le (Nat.le_refl _)] at hall
      have HA0 := hide hall
      have HX := hide hbx
      clear hall hbx hb H2 HE0
      go_wp2
      go_loopw [25] (fun i wr => ∃ k : Nat, k ≤ c.inits.length ∧ i = .int .i64 k ∧ (c.inits.take k).all knownS = true ∧ Bt 31 w #[.int .i64 c.slots, v1, .slice a2 c.ins.length c2, .int .i64 c.clocks, .slice a4 c.inits.length c4, .slice a5 c.ticks.length c5, v6, v7, v8] wr) (fun i _ => c.inits.length - (intOf i).toNat)
      case atStart => exact ⟨0, Nat.zero_le _, rfl, rfl, unhide HX⟩
      case round =>
        clear t0 t1 t2 t3 t4 t5 t6 t7 t8 HX hlt0
        obtain ⟨k, hk, rfl, hall, hbx⟩ := hrel
        obtain ⟨t0, t1, t2, t3, t4, t5, t6, t7, t8⟩ := hbx.get9
        have hb := hbx.below
        have hlt0 := hbx.size
        by_cases hlt : k < c.inits.length
        · have hx : c.inits[k]? = some c.inits[k] := List.getElem?_eq_getElem hlt
          have hmem : c.inits[k] ∈ c.inits := List.getElem_mem hlt
          generalize c.inits[k] = x at hx hmem
          have hst : (c.inits.take (k + 1)).all knownS = ((c.inits.take k).all knownS && knownS x) := by
            rw [List.take_add_one, hx, List.all_append]; simp
          rcases (unhide H4).open with ⟨hnil, _⟩ | ⟨b, o, cc, e, _, _, _, hcs⟩
          · rw [hnil] at hlt; simp at hlt
          obtain ⟨rfl, rfl⟩ : a4 = some ⟨b, o, none⟩ ∧ c4 = cc := by
            injection e with e1 e2 e3
            exact ⟨e1, e3⟩
          obtain ⟨u, _, hat, hux, hxs⟩ := hcs k x hx
          subst hux
          have k0 := cell_later hb (hat.get (j := 0) rfl)
          simp only [Nat.add_zero, Nat.mul_one] at k0
          have HNO := hide (fun h => unhide HE1 (unhide HA0) (no_all (p := knownS) hmem h))
          have HX := hide hbx
          have HST := hide hst
          have HA := hide hall
          have WF := hide (fun V => iKnown x V hxs)
          clear hst hmem hx hat hcs hall hbx hb H4 H5 HE1 HE2 e hxs
          cases hw : knownS x
          · rw [hw] at WF
            go_wp2_with fail
            refine (unhide WF _).mono ?_
            rintro e V1 ⟨⟨n1, p1, q1, rfl, _⟩, hb1⟩
            have HX1 := hide ((unhide HX).then hb1)
            clear hb1
            unfold V
            go_wp2
            go_ret
            exact ⟨ret_bool (unhide HNO hw), bal (unhide HX1).below _⟩
          · rw [hw] at WF
            go_wp2_with fail
            refine (unhide WF _).mono ?_
            rintro e V1 ⟨⟨n1, p1, q1, rfl, _⟩, hb1⟩
            have HX1 := hide ((unhide HX).then hb1)
            clear hb1
            unfold V
            go_wp2
            go_roundw
            case rel => exact ⟨k + 1, by omega, by go_num, by rw [unhide HST, unhide HA, hw]; rfl, (unhide HX1).alloc _⟩
            case measure => simp [intOf]; omega
        · obtain rfl : k = c.inits.length := by omega
          rw [List.take_of_length_le (Nat.le_refl _)] at hall
          have HE := hide (unhide HE2 (unhide HA0) hall)
          have HX := hide hbx
          clear hall hbx hb H4 HE1 HE2 HA0
          go_wp2
          go_loopw [40] (fun i wr => ∃ k : Nat, k ≤ c.ticks.length ∧ i = .int .i64 k ∧ (c.ticks.take k).all (plOK c.clocks) = true ∧ Bt 31 w #[.int .i64 c.slots, v1, .slice a2 c.ins.length c2, .int .i64 c.clocks, .slice a4 c.inits.length c4, .slice a5 c.ticks.length c5, v6, v7, v8] wr) (fun i _ => c.ticks.length - (intOf i).toNat)
          case atStart => exact ⟨0, Nat.zero_le _, rfl, rfl, unhide HX⟩
          case round =>
            clear t0 t1 t2 t3 t4 t5 t6 t7 t8 HX hlt0
            obtain ⟨k, hk, rfl, hall, hbx⟩ := hrel
            obtain ⟨t0, t1, t2, t3, t4, t5, t6, t7, t8⟩ := hbx.get9
            have hb := hbx.below
            have hlt0 := hbx.size
            by_cases hlt : k < c.ticks.length
            · have hx : c.ticks[k]? = some c.ticks[k] := List.getElem?_eq_getElem hlt
              have hmem : c.ticks[k] ∈ c.ticks := List.getElem_mem hlt
              generalize c.ticks[k] = x at hx hmem
              have hst : (c.ticks.take (k + 1)).all (plOK c.clocks) = ((c.ticks.take k).all (plOK c.clocks) && plOK c.clocks x) := by
                rw [List.take_add_one, hx, List.all_append]; simp
              rcases (unhide H5).open with ⟨hnil, _⟩ | ⟨b, o, cc, e, _, _, _, hcs⟩
              · rw [hnil] at hlt; simp at hlt
              obtain ⟨rfl, rfl⟩ : a5 = some ⟨b, o, none⟩ ∧ c5 = cc := by
                injection e with e1 e2 e3
                exact ⟨e1, e3⟩
              obtain ⟨u, _, hat, hux⟩ := hcs k x hx
              obtain rfl : u = [.int .i64 x] := hux
              have k0 := cell_later hb (hat.get (j := 0) rfl)
              simp only [Nat.add_zero, Nat.mul_one] at k0
              have HNO := hide (fun h => (no_all (p := plOK c.clocks) hmem h).symm.trans (unhide HE))
              have HX := hide hbx
              have HST := hide hst
              have HA := hide hall
              have WF := hide (fun V => iPlace x c.clocks V)
              clear hst hmem hx hat hcs hall hbx hb H5 HE e
              cases hw : plOK c.clocks x
              · go_wp2_with fail
                refine (unhide WF _).mono ?_
                rintro e V1 ⟨rfl, rfl⟩
                rw [show (decide (0 ≤ x) && decide (x < c.clocks)) = false from hw]
                go_wp2
                go_ret
                exact ⟨ret_bool (unhide HNO hw), (unhide HX).below⟩
              · go_wp2_with fail
                refine (unhide WF _).mono ?_
                rintro e V1 ⟨rfl, rfl⟩
                rw [show (decide (0 ≤ x) && decide (x < c.clocks)) = true from hw]
                go_wp2
                go_roundw
                case rel => exact ⟨k + 1, by omega, by go_num, by rw [unhide HST, unhide HA, hw]; rfl, (unhide HX)⟩
                case measure => simp [intOf]; omega
            · obtain rfl : k = c.ticks.length := by omega
              rw [List.take_of_length_le (Nat.le_refl _)] at hall
              have HQ := hide (hall.symm.trans (unhide HE))
              have HX := hide hbx
              clear hall hbx hb H5 HE
              go_wp2
              go_ret
              exact ⟨ret_bool (unhide HQ), (unhide HX).below⟩
end Go.Proofs.Ytbpcomnneemolaa
namespace Go.Proofs.Ytbpcomnneemolaa
open Go.RowKit Gs
set_option linter.unusedVariables false
set_option maxRecDepth 100000
/-- An instruction as a value. -/
def IV (x : Instr) : Array Value := #[.int .i64 x.op, .int .i64 x.dst, .int .i64 x.a, .int .i64 x.b, .int .i64 x.c, .int .i64 x.n, .int .i64 x.width, .bool x.signed, .string x.bits]
theorem iInstrOps (x : Instr) (w : World) :
    Calls Try.prog 67 #[.agg (IV x)] w fun e w' => e = .returned (.agg #[.int .i64 x.a, .int .i64 x.b, .int .i64 x.c]) ∧ Below w.heap.size w w' := by
  unfold IV
  go_enter Try.func67, Try.ntmps67
  go_wp2
  exact bodyPost_ret (v := .agg #[.int .i64 x.a, .int .i64 x.b, .int .i64 x.c]) (by simp [results, Try.results67, go_sem]) rfl ⟨rfl, bal (bal (brf w) _) _⟩
theorem iInstrCell (x : Instr) (w : World) :
    Calls Try.prog 53 #[.agg (IV x)] w fun e w' => e = .returned (.agg #[.int .i64 x.op, .int .i64 x.width, .int .i64 x.n, .bool x.signed, .string x.bits, .slice none 0 0]) ∧ Below w.heap.size w w' := by
  unfold IV
  go_enter Try.func53, Try.ntmps53
  go_wp2
  exact bodyPost_ret (v := .agg #[.int .i64 x.op, .int .i64 x.width, .int .i64 x.n, .bool x.signed, .string x.bits, .slice none 0 0]) (by simp [results, Try.results53, go_sem]) rfl ⟨rfl, bal (bal (brf w) _) _⟩
/-- How many slots an op takes. -/
def takesOf (op : Nat) : Int := if op = 25 then 3 else if op = 26 then 2 else if op = 27 ∨ op = 28 then 1 else if 1 ≤ op ∧ op ≤ 18 then 2 else if 19 ≤ op ∧ op ≤ 24 then 1 else 0
/-- A look at b: the code's values, the table of kinds, and the widths at wb. -/
structure Lk (W : World) (b : Nat) (c : Code) (v1 v2 v4 v5 v6 v7 v8 : Value) (wb : Nat) (ws : List Int) : Prop where
  c0 : W.cell? ⟨b, 0, none⟩ = some (.int .i64 c.slots)
  c1 : W.cell? ⟨b, 1, none⟩ = some v1
  c2 : W.cell? ⟨b, 2, none⟩ = some v2
  c3 : W.cell? ⟨b, 3, none⟩ = some (.int .i64 c.clocks)
  c4 : W.cell? ⟨b, 4, none⟩ = some v4
  c5 : W.cell? ⟨b, 5, none⟩ = some v5
  c6 : W.cell? ⟨b, 6, none⟩ = some v6
  c7 : W.cell? ⟨b, 7, none⟩ = some v7
  c8 : W.cell? ⟨b, 8, none⟩ = some v8
  kinds : ∀ j, j < 35 → W.cell? ⟨b, 9 + j * 2, none⟩ = some (.int .i64 (takesOf j))
  widths : W.cell? ⟨b, 79, none⟩ = some (.slice (some ⟨wb, 0, none⟩) ws.length ws.length)
  at_ : ∀ j x, ws[j]? = some x → W.cell? ⟨wb, j, none⟩ = some (.int .i64 x)
  len : c.slots = (ws.length : Int)
  few : ws.length ≤ 16384
theorem Lk.later {W V : World} {b wb : Nat} {c : Code} {v1 v2 v4 v5 v6 v7 v8 : Value} {ws : List Int} (h : Lk W b c v1 v2 v4 v5 v6 v7 v8 wb ws) (hb : Below W.heap.size W V) : Lk V b c v1 v2 v4 v5 v6 v7 v8 wb ws :=
  ⟨cell_later hb h.c0, cell_later hb h.c1, cell_later hb h.c2, cell_later hb h.c3, cell_later hb h.c4, cell_later hb h.c5, cell_later hb h.c6, cell_later hb h.c7, cell_later hb h.c8, fun j hj => cell_later hb (h.kinds j hj), cell_later hb h.widths, fun j x hx => cell_later hb (h.at_ j x hx), h.len, h.few⟩
/-- A slot that holds something. -/
def holdsB (ws : List Int) (s : Int) : Bool := if 0 ≤ s then (match ws[s.toNat]? with | some x => decide (0 < x) | none => false) else false
set_option maxHeartbeats 8000000 in
theorem iHolds (W : World) (b : Nat) (c : Code) (v1 v2 v4 v5 v6 v7 v8 : Value) (wb : Nat) (ws : List Int) (h : Lk W b c v1 v2 v4 v5 v6 v7 v8 wb ws) (s : Int) :
    Calls Try.prog 44 #[.pointer (some ⟨b, 0, none⟩), .int .i64 s] W fun e w' => e = .returned (.bool (holdsB ws s)) ∧ w' = W := by
  have t0 := h.c0
  have t79 := h.widths
  have hlen := h.len
  have hfew := h.few
  rw [hlen] at t0
  have P := hide (fun V => iPlace s (ws.length : Int) V)
  by_cases hp : 0 ≤ s ∧ s < (ws.length : Int)
  · obtain ⟨p1, p2⟩ := hp
    obtain ⟨i, rfl⟩ : ∃ i : Nat, s = (i : Int) := ⟨s.toNat, by omega⟩
    have hil : i < ws.length := by omega
    have hx : ws[i]? = some ws[i] := List.getElem?_eq_getElem hil
    have k := h.at_ i _ hx
    have E : holdsB ws (i : Int) = decide (0 < ws[i]) := by
      unfold holdsB; rw [if_pos p1, Int.toNat_natCast, hx]
    rw [E]
    generalize ws[i] = x at *
    rw [show (decide (0 ≤ (i : Int)) && decide ((i : Int) < (ws.length : Int))) = true from by rw [decide_eq_true p1, decide_eq_true p2]; rfl] at P
    clear h hlen E hx
    generalize ws.length = L at *
    go_enter Try.func44, Try.ntmps44
    go_wp2_with fail
    refine (unhide P _).mono ?_
    rintro e V1 ⟨rfl, rfl⟩
    go_wp2
    go_ret
    exact ⟨rfl, rfl⟩
  · have E : holdsB ws s = false := by
      unfold holdsB
      by_cases h0 : 0 ≤ s
      · rw [if_pos h0, List.getElem?_eq_none (by omega)]
      · rw [if_neg h0]
    rw [E]
    rw [show (decide (0 ≤ s) && decide (s < (ws.length : Int))) = false from by rw [Bool.and_eq_false_iff, decide_eq_false_iff_not, decide_eq_false_iff_not]; omega] at P
    clear h hlen E
    generalize ws.length = L at *
    go_enter Try.func44, Try.ntmps44
    go_wp2_with fail
    refine (unhide P _).mono ?_
    rintro e V1 ⟨rfl, rfl⟩
    go_wp2
    go_ret
    exact ⟨rfl, rfl⟩
end Go.Proofs.Ytbpcomnneemolaa
namespace Go.Proofs.Ytbpcomnneemolaa
open Go.RowKit Gs
set_option linter.unusedVariables false
set_option maxRecDepth 100000
def nextC (c : Code) (ws : List Int) (p : Int × Nat) : Bool := holdsB ws p.1 && (match c.inits[p.2]? with | some t => decide (ws.getD p.1.toNat 0 = (t.size : Int)) | none => false)
def checkC (ws : List Int) (s : Int) : Bool := holdsB ws s && decide (ws.getD s.toNat 0 = 1)
def endsC (c : Code) (ws : List Int) : Bool := c.nexts.zipIdx.all (nextC c ws) && c.outs.all (holdsB ws) && c.checks.all (checkC ws)
/-- A slot that holds: its place and what stands there. -/
theorem holdsB_open {ws : List Int} {s : Int} (h : holdsB ws s = true) : ∃ (i : Nat) (x : Int), s = (i : Int) ∧ i < ws.length ∧ ws[i]? = some x ∧ 0 < x ∧ ws.getD s.toNat 0 = x := by
  unfold holdsB at h
  by_cases h0 : 0 ≤ s
  · rw [if_pos h0] at h
    obtain ⟨i, rfl⟩ : ∃ i : Nat, s = (i : Int) := ⟨s.toNat, by omega⟩
    rw [Int.toNat_natCast] at h ⊢
    by_cases hi : i < ws.length
    · have hx : ws[i]? = some ws[i] := List.getElem?_eq_getElem hi
      rw [hx] at h
      exact ⟨i, ws[i], rfl, hi, hx, of_decide_eq_true h, by rw [List.getD_eq_getElem?_getD, hx]; rfl⟩
    · rw [List.getElem?_eq_none (by omega)] at h; cases h
  · rw [if_neg h0] at h; cases h
set_option maxHeartbeats 16000000 in
theorem iEnds (w : World) (b : Nat) (c : Code) (v1 v2 v4 v5 v6 v7 v8 : Value) (wb : Nat) (ws : List Int) (h : Lk w b c v1 v2 v4 v5 v6 v7 v8 wb ws) (h4 : RS 1 RStr w 0 c.inits v4) (h6 : RS 1 RInt w 0 c.nexts v6) (h7 : RS 1 RInt w 0 c.outs v7) (h8 : RS 1 RInt w 0 c.checks v8) (hn : c.nexts.length = c.inits.length) :
    Calls Try.prog 24 #[.pointer (some ⟨b, 0, none⟩)] w fun e w' => e = .returned (.bool (endsC c ws)) ∧ Below w.heap.size w w' := by
  generalize hPB : endsC c ws = PB
  have HE0 := hide (show c.nexts.zipIdx.all (nextC c ws) = false → false = PB from fun h => by rw [← hPB]; unfold endsC; rw [h]; rfl)
  have HE1 := hide (show c.nexts.zipIdx.all (nextC c ws) = true → c.outs.all (holdsB ws) = false → false = PB from fun h h' => by rw [← hPB]; unfold endsC; rw [h, h']; rfl)
  have HE2 := hide (show c.nexts.zipIdx.all (nextC c ws) = true → c.outs.all (holdsB ws) = true → c.checks.all (checkC ws) = PB from fun h h' => by rw [← hPB]; unfold endsC; rw [h, h']; rfl)
  clear hPB
  have HO := hide (fun (V : World) (hb : Below w.heap.size w V) (s : Int) => iHolds V b c v1 v2 v4 v5 v6 v7 v8 wb ws (h.later hb) s)
  obtain ⟨a4, c4, e4⟩ := h4.slice
  obtain ⟨a6, c6, e6⟩ := h6.slice
  obtain ⟨a7, c7, e7⟩ := h7.slice
  obtain ⟨a8, c8, e8⟩ := h8.slice
  have hl4 := h4.len
  have hl6 := h6.len
  have hl7 := h7.len
  have hl8 := h8.len
  unfold maxLen at hl4 hl6 hl7 hl8
  have H4 := hide h4
  have H6 := hide h6
  have H7 := hide h7
  have H8 := hide h8
  have HL := hide h
  have hfew := h.few
  have t6 := h.c6
  have hbs : b < w.heap.size := World.block_lt_of_cell? w _ t6
  subst e4 e6 e7 e8
  have HNN := hide hn
  clear h4 h6 h7 h8 h hn
  go_enter Try.func24, Try.ntmps24
  go_wp2
  go_loopw [15] (fun i wr => ∃ k : Nat, k ≤ c.nexts.length ∧ i = .int .i64 k ∧ (c.nexts.zipIdx.take k).all (nextC c ws) = true ∧ Below w.heap.size w wr) (fun i _ => c.nexts.length - (intOf i).toNat)
  case atStart => exact ⟨0, Nat.zero_le _, rfl, rfl, brf _⟩
  case round =>
    obtain ⟨k, hk, rfl, hall, hb⟩ := hrel
    clear t6
    by_cases hlt : k < c.nexts.length
    · have hx : c.nexts[k]? = some c.nexts[k] := List.getElem?_eq_getElem hlt
      generalize c.nexts[k] = x at hx
      have hxz : c.nexts.zipIdx[k]? = some (x, k) := by rw [List.getElem?_zipIdx, hx]; simp
      have hmem : (x, k) ∈ c.nexts.zipIdx := List.mem_of_getElem? hxz
      have hst : (c.nexts.zipIdx.take (k + 1)).all (nextC c ws) = ((c.nexts.zipIdx.take k).all (nextC c ws) && nextC c ws (x, k)) := by
        rw [List.take_add_one, hxz, List.all_append]; simp
      rcases (unhide H6).open with ⟨hnil, _⟩ | ⟨b6, o6, cc, e, _, _, _, hcs⟩
      · rw [hnil] at hlt; simp at hlt
      obtain ⟨rfl, rfl⟩ : a6 = some ⟨b6, o6, none⟩ ∧ c6 = cc := by
        injection e with e1 e2 e3
        exact ⟨e1, e3⟩
      obtain ⟨u, _, hat, hux⟩ := hcs k x hx
      obtain rfl : u = [.int .i64 x] := hux
      have k0 := cell_later hb (hat.get (j := 0) rfl)
      simp only [Nat.add_zero, Nat.mul_one] at k0
      have hlk := (unhide HL).later hb
      have t4 := hlk.c4
      have t79 := hlk.widths
      have HNO := hide (fun h => unhide HE0 (no_all (p := nextC c ws) hmem h))
      have HB := hide hb
      have HST := hide hst
      have HA := hide hall
      cases hw : holdsB ws x
      · have HN := hide (unhide HNO (show nextC c ws (x, k) = false from by unfold nextC; simp only; rw [hw]; rfl))
        have HC := hide (fun V hb => unhide HO V hb x)
        rw [hw] at HC
        clear hst hmem hx hxz hat hcs hall H4 H6 H7 H8 HE0 HE1 HE2 HL HNO e hlk hb HO
        go_wp2
        go_quiet ((go_at_call 44; exact Calls.quiet_of_same (unhide HC _ (bdn (unhide HB)))))
        go_wp2
        go_ret
        exact ⟨ret_bool (unhide HN), bdn (unhide HB)⟩
      · obtain ⟨i, y, rfl, hil, hy, hy0, hgd⟩ := holdsB_open hw
        have m1 := hlk.at_ i y hy
        have hik : k < c.inits.length := by have := unhide HNN; omega
        have hiz : c.inits[k]? = some c.inits[k] := List.getElem?_eq_getElem hik
        generalize c.inits[k] = t at hiz
        rcases (unhide H4).open with ⟨hnil, _⟩ | ⟨b4, o4, cc4, e4, _, _, _, hcs4⟩
        · rw [hnil] at hik; simp at hik
        obtain ⟨rfl, rfl⟩ : a4 = some ⟨b4, o4, none⟩ ∧ c4 = cc4 := by
          injection e4 with e1 e2 e3
          exact ⟨e1, e3⟩
        obtain ⟨u4, _, hat4, hux4, hts⟩ := hcs4 k t hiz
        subst hux4
        have m2 := cell_later hb (hat4.get (j := 0) rfl)
        simp only [Nat.add_zero, Nat.mul_one] at m2
        have hE : nextC c ws ((i : Int), k) = decide (y = (t.size : Int)) := by unfold nextC; simp only; rw [hw, hiz, hgd]; rfl
        have HC := hide (fun V hb => unhide HO V hb (i : Int))
        rw [hw] at HC
        have i1 : (i : Int) < (ws.length : Int) := by omega
        have i2 : (0 : Int) ≤ (i : Int) := by omega
        have i3 : (k : Int) < (c.inits.length : Int) := by omega
        unfold maxLen at hts
        clear hst hmem hx hxz hat hcs hall H4 H6 H7 H8 HE0 HE1 HE2 HL e hlk hb HO hat4 hcs4 e4 hiz hy hgd hw
        cases hq : decide (y = (t.size : Int))
        · have HN := hide (unhide HNO (hE.trans hq))
          have hne : (y != (t.size : Int)) = true := by rw [bne_iff_ne]; exact of_decide_eq_false hq
          clear hE HNO hq
          go_wp2
          go_quiet ((go_at_call 44; exact Calls.quiet_of_same (unhide HC _ (bdn (unhide HB)))))
          go_wp2
          go_ret
          exact ⟨ret_bool (unhide HN), bdn (unhide HB)⟩
        · have hne : (y != (t.size : Int)) = false := by rw [bne_eq_false_iff_eq]; exact of_decide_eq_true hq
          have HS := hide (show (c.nexts.zipIdx.take (k + 1)).all (nextC c ws) = true from by rw [unhide HST, unhide HA, hE, hq]; rfl)
          clear hE HNO hq
          go_wp2
          go_quiet ((go_at_call 44; exact Calls.quiet_of_same (unhide HC _ (bdn (unhide HB)))))
          go_wp2
          go_roundw
          case rel => exact ⟨k + 1, by omega, by go_num, unhide HS, bdn (unhide HB)⟩
          case measure => simp [intOf]; omega
    · obtain rfl : k = c.nexts.length := by omega
      rw [List.take_of_length_le (by rw [List.length_zipIdx]; exact Nat.le_refl _)] at hall
      have HA0 := hide hall
      have HB := hide hb
      have t7 := cell_later hb (unhide HL).c7
      clear hall hb H6 H4 HE0
      go_wp2
      go_loopw [50] (fun i wr => ∃ k : Nat, k ≤ c.outs.length ∧ i = .int .i64 k ∧ (c.outs.take k).all (holdsB ws) = true ∧ Below w.heap.size w wr) (fun i _ => c.outs.length - (intOf i).toNat)
      case atStart => exact ⟨0, Nat.zero_le _, rfl, rfl, unhide HB⟩
      case round =>
        clear t7 HB
        obtain ⟨k, hk, rfl, hall, hb⟩ := hrel
        by_cases hlt : k < c.outs.length
        · have hx : c.outs[k]? = some c.outs[k] := List.getElem?_eq_getElem hlt
          have hmem : c.outs[k] ∈ c.outs := List.getElem_mem hlt
          generalize c.outs[k] = x at hx hmem
          have hst : (c.outs.take (k + 1)).all (holdsB ws) = ((c.outs.take k).all (holdsB ws) && holdsB ws x) := by
            rw [List.take_add_one, hx, List.all_append]; simp
          rcases (unhide H7).open with ⟨hnil, _⟩ | ⟨b7, o7, cc, e, _, _, _, hcs⟩
          · rw [hnil] at hlt; simp at hlt
          obtain ⟨rfl, rfl⟩ : a7 = some ⟨b7, o7, none⟩ ∧ c7 = cc := by
            injection e with e1 e2 e3
            exact ⟨e1, e3⟩
          obtain ⟨u, _, hat, hux⟩ := hcs k x hx
          obtain rfl : u = [.int .i64 x] := hux
          have k0 := cell_later hb (hat.get (j := 0) rfl)
          simp only [Nat.add_zero, Nat.mul_one] at k0
          have HNO := hide (fun h => unhide HE1 (unhide HA0) (no_all (p := holdsB ws) hmem h))
          have HB := hide hb
          have HST := hide hst
          have HA := hide hall
          have HC := hide (fun V hb => unhide HO V hb x)
          clear hst hmem hx hat hcs hall H7 H8 HE1 HE2 HL e hb HO
          cases hw : holdsB ws x
          · rw [hw] at HC
            go_wp2_with fail
            refine (unhide HC _ (unhide HB)).mono ?_
            rintro e V1 ⟨rfl, rfl⟩
            go_wp2
            go_ret
            exact ⟨ret_bool (unhide HNO hw), unhide HB⟩
          · rw [hw] at HC
            go_wp2_with fail
            refine (unhide HC _ (unhide HB)).mono ?_
            rintro e V1 ⟨rfl, rfl⟩
            go_wp2
            go_roundw
            case rel => exact ⟨k + 1, by omega, by go_num, by rw [unhide HST, unhide HA, hw]; rfl, unhide HB⟩
            case measure => simp [intOf]; omega
        · obtain rfl : k = c.outs.length := by omega
          rw [List.take_of_length_le (Nat.le_refl _)] at hall
          have HE := hide (unhide HE2 (unhide HA0) hall)
          have HB := hide hb
          have t8 := cell_later hb (unhide HL).c8
          clear hall hb H7 HE1 HE2 HA0
          go_wp2
          go_loopw [65] (fun i wr => ∃ k : Nat, k ≤ c.checks.length ∧ i = .int .i64 k ∧ (c.checks.take k).all (checkC ws) = true ∧ Below w.heap.size w wr) (fun i _ => c.checks.length - (intOf i).toNat)
          case atStart => exact ⟨0, Nat.zero_le _, rfl, rfl, unhide HB⟩
          case round =>
            clear t8 HB
            obtain ⟨k, hk, rfl, hall, hb⟩ := hrel
            by_cases hlt : k < c.checks.length
            · have hx : c.checks[k]? = some c.checks[k] := List.getElem?_eq_getElem hlt
              have hmem : c.checks[k] ∈ c.checks := List.getElem_mem hlt
              generalize c.checks[k] = x at hx hmem
              have hst : (c.checks.take (k + 1)).all (checkC ws) = ((c.checks.take k).all (checkC ws) && checkC ws x) := by
                rw [List.take_add_one, hx, List.all_append]; simp
              rcases (unhide H8).open with ⟨hnil, _⟩ | ⟨b8, o8, cc, e, _, _, _, hcs⟩
              · rw [hnil] at hlt; simp at hlt
              obtain ⟨rfl, rfl⟩ : a8 = some ⟨b8, o8, none⟩ ∧ c8 = cc := by
                injection e with e1 e2 e3
                exact ⟨e1, e3⟩
              obtain ⟨u, _, hat, hux⟩ := hcs k x hx
              obtain rfl : u = [.int .i64 x] := hux
              have k0 := cell_later hb (hat.get (j := 0) rfl)
              simp only [Nat.add_zero, Nat.mul_one] at k0
              have hlk := (unhide HL).later hb
              have t79 := hlk.widths
              have HNO := hide (fun h => (no_all (p := checkC ws) hmem h).symm.trans (unhide HE))
              have HB := hide hb
              have HST := hide hst
              have HA := hide hall
              have HC := hide (fun V hb => unhide HO V hb x)
              cases hw : holdsB ws x
              · rw [hw] at HC
                have HN := hide (unhide HNO (show checkC ws x = false from by unfold checkC; rw [hw]; rfl))
                clear hst hmem hx hat hcs hall H8 HL e hlk hb HO HNO HE
                go_wp2_with fail
                refine (unhide HC _ (unhide HB)).mono ?_
                rintro e V1 ⟨rfl, rfl⟩
                go_wp2
                go_ret
                exact ⟨ret_bool (unhide HN), unhide HB⟩
              · rw [hw] at HC
                obtain ⟨i, y, rfl, hil, hy, hy0, hgd⟩ := holdsB_open hw
                have m1 := hlk.at_ i y hy
                have hE : checkC ws (i : Int) = decide (y = 1) := by unfold checkC; rw [hw, hgd]; rfl
                have i1 : (i : Int) < (ws.length : Int) := by omega
                have i2 : (0 : Int) ≤ (i : Int) := by omega
                clear hst hmem hx hat hcs hall H8 HL e hlk hb HO HE hy hgd hw
                cases hq : decide (y = 1)
                · have HN := hide (unhide HNO (hE.trans hq))
                  have hne : (y != 1) = true := by rw [bne_iff_ne]; exact of_decide_eq_false hq
                  clear hE HNO hq
                  go_wp2_with fail
                  refine (unhide HC _ (unhide HB)).mono ?_
                  rintro e V1 ⟨rfl, rfl⟩
                  go_wp2
                  go_ret
                  exact ⟨ret_bool (unhide HN), unhide HB⟩
                · obtain rfl : y = 1 := of_decide_eq_true hq
                  have HS := hide (show (c.checks.take (k + 1)).all (checkC ws) = true from by rw [unhide HST, unhide HA, hE]; rfl)
                  clear hE HNO hq
                  go_wp2_with fail
                  refine (unhide HC _ (unhide HB)).mono ?_
                  rintro e V1 ⟨rfl, rfl⟩
                  go_wp2
                  go_roundw
                  case rel => exact ⟨k + 1, by omega, by go_num, unhide HS, unhide HB⟩
                  case measure => simp [intOf]; omega
            · obtain rfl : k = c.checks.length := by omega
              rw [List.take_of_length_le (Nat.le_refl _)] at hall
              have HQ := hide (hall.symm.trans (unhide HE))
              have HB := hide hb
              clear hall hb H8 HE
              go_wp2
              go_ret
              exact ⟨ret_bool (unhide HQ), unhide HB⟩
end Go.Proofs.Ytbpcomnneemolaa
