/- The law: both answer the same, and what was handed in reads as it did. -/
import Derived.Test.YtfedgajajpakdaaG6
import Derived.Test.YtfedgajajpakdaaDS
import Derived.Test.YtfedgajajpakdaaDT
import Derived.Test.YtfedgajajpakdaaDE
import Derived.Deep.RegionHeld3
namespace Go.Proofs.Ytfedgajajpakdaa
open Go.RowKit Gs
set_option linter.unusedVariables false
set_option maxRecDepth 100000
theorem RFsm.later {n : Fsm} {u : List Value} {w W : World} {B : Nat} (h : RFsm w B n u) (hb : Below w.heap.size w W) : RFsm W B n u := RFsm.keeps _ _ _ _ _ (later_cells hb B) h
theorem RFsm.any {n : Fsm} {u : List Value} {w : World} {B : Nat} (h : RFsm w B n u) : RFsm w 0 n u := RFsm.lowers _ _ _ _ _ (Nat.zero_le _) h
theorem keepE5 {W V v1 : World} {a0 a1 a2 a3 a4 a5 a6 a7 a8 a9 : Addr} {x0 x1 x2 x3 x4 x5 x6 x7 x8 x9 : Value} (h : V.cell? a0 = some x0 ∧ V.cell? a1 = some x1 ∧ V.cell? a2 = some x2 ∧ V.cell? a3 = some x3 ∧ V.cell? a4 = some x4 ∧ V.cell? a5 = some x5 ∧ V.cell? a6 = some x6 ∧ V.cell? a7 = some x7 ∧ V.cell? a8 = some x8 ∧ V.cell? a9 = some x9 ∧ Below W.heap.size W V) (hb : Below V.heap.size V v1) : v1.cell? a0 = some x0 ∧ v1.cell? a1 = some x1 ∧ v1.cell? a2 = some x2 ∧ v1.cell? a3 = some x3 ∧ v1.cell? a4 = some x4 ∧ v1.cell? a5 = some x5 ∧ v1.cell? a6 = some x6 ∧ v1.cell? a7 = some x7 ∧ v1.cell? a8 = some x8 ∧ v1.cell? a9 = some x9 ∧ Below W.heap.size W v1 :=
  ⟨cell_later hb h.1, cell_later hb h.2.1, cell_later hb h.2.2.1, cell_later hb h.2.2.2.1, cell_later hb h.2.2.2.2.1, cell_later hb h.2.2.2.2.2.1, cell_later hb h.2.2.2.2.2.2.1, cell_later hb h.2.2.2.2.2.2.2.1, cell_later hb h.2.2.2.2.2.2.2.2.1, cell_later hb h.2.2.2.2.2.2.2.2.2.1, btr h.2.2.2.2.2.2.2.2.2.2 hb⟩
theorem belowE5 {W V : World} {a0 a1 a2 a3 a4 a5 a6 a7 a8 a9 : Addr} {x0 x1 x2 x3 x4 x5 x6 x7 x8 x9 : Value} (h : V.cell? a0 = some x0 ∧ V.cell? a1 = some x1 ∧ V.cell? a2 = some x2 ∧ V.cell? a3 = some x3 ∧ V.cell? a4 = some x4 ∧ V.cell? a5 = some x5 ∧ V.cell? a6 = some x6 ∧ V.cell? a7 = some x7 ∧ V.cell? a8 = some x8 ∧ V.cell? a9 = some x9 ∧ Below W.heap.size W V) : Below W.heap.size W V := h.2.2.2.2.2.2.2.2.2.2
set_option maxHeartbeats 16000000 in
theorem lFsmOK (x : Fsm) (u : List Value) (w : World) (hr : RFsm w 0 x u) :
    Calls Try.prog 3 #[.agg u.toArray] w fun e w' => e = .returned (.bool true) ∧ Below w.heap.size w w' := by
  have SZ := hide (fun (W : World) (hb : Below w.heap.size w W) => szFsm_of x u W 1048576 (Nat.le_refl _) (hr.later hb))
  have TN := hide (fun (hl : szFsm x ≤ 1048576) (W : World) (hb : Below w.heap.size w W) => toFsm_of x u W hl (hr.later hb))
  obtain ⟨v2, v3, v4, rfl, _⟩ := hr
  show Calls Try.prog 3 #[.agg #[.int .i64 x.ins, .int .i64 x.outBits, v2, v3, v4]] w _
  change Hid (∀ (W : World), Below w.heap.size w W → Calls Try.prog 4 #[.agg #[.int .i64 x.ins, .int .i64 x.outBits, v2, v3, v4], .int .i64 (1048576 : Int)] W _) at SZ
  change Hid (∀ (hl : szFsm x ≤ 1048576) (W : World), Below w.heap.size w W → Calls Try.prog 6 #[.agg #[.int .i64 x.ins, .int .i64 x.outBits, v2, v3, v4]] W _) at TN
  by_cases hs : szFsm x ≤ 1048576
  · have hsz := szR_le hs
    have hneg : decide ((((1048576 - szFsm x : Nat) : Int)) < 0) = false := decide_eq_false (by omega)
    have TN' := hide (fun W hb => unhide TN hs W hb)
    rw [hsz] at SZ
    clear TN hsz
    generalize ((1048576 - szFsm x : Nat) : Int) = left at *
    go_enter Try.func3, Try.ntmps3
    go_wp2_with fail
    refine (unhide SZ _ (bal (brf w) _)).mono ?_
    rintro e W1 ⟨rfl, hb1⟩
    have HX1 : Hid (Bt 26 w #[.int .i64 x.ins, .int .i64 x.outBits, v2, v3, v4] W1) := hide hb1
    clear hb1
    obtain ⟨q0, q1, q2, q3, q4⟩ := (unhide HX1).get5
    go_wp2_with fail
    refine (unhide TN' _ (unhide HX1).below).mono ?_
    rintro e W2 ⟨⟨u1, rfl, hr1⟩, hb2, _⟩
    have HX2 := hide ((unhide HX1).then hb2)
    have HR1 := hide hr1.any
    clear hb2 hr1 q0 q1 q2 q3 q4
    obtain ⟨q0, q1, q2, q3, q4⟩ := (unhide HX2).get5
    go_wp2_with fail
    refine (sFsmOK x u1 _ (unhide HR1)).mono ?_
    rintro e W3 ⟨rfl, hb3⟩
    have HX3 := hide ((unhide HX2).then hb3)
    clear hb3 q0 q1 q2 q3 q4
    obtain ⟨q0, q1, q2, q3, q4⟩ := (unhide HX3).get5
    go_wp2_with fail
    refine (unhide TN' _ (unhide HX3).below).mono ?_
    rintro e W4 ⟨⟨u2, rfl, hr2⟩, hb4, _⟩
    have HX4 := hide ((unhide HX3).then hb4)
    have HR2 := hide hr2.any
    obtain ⟨y2, y3, y4, rfl, s2, s3, s4⟩ := hr2
    obtain ⟨a2, c2, e2⟩ := s2.slice
    obtain ⟨a3, c3, e3⟩ := s3.slice
    obtain ⟨a4, c4, e4⟩ := s4.slice
    subst e2 e3 e4
    clear hb4 q0 q1 q2 q3 q4 s2 s3 s4
    obtain ⟨q0, q1, q2, q3, q4⟩ := (unhide HX4).get5
    have hlt := (unhide HX4).size
    have IN := hide (fun W (h : RFsm W 0 x [.int .i64 x.ins, .int .i64 x.outBits, .slice a2 x.states.length c2, .slice a3 x.next.length c3, .slice a4 x.outs.length c4]) => (show Calls Try.prog 7 #[.agg #[.int .i64 x.ins, .int .i64 x.outBits, .slice a2 x.states.length c2, .slice a3 x.next.length c3, .slice a4 x.outs.length c4]] W _ from iFsmOK x _ W h))
    have EQ := hide (fun W (u3 : List Value) (h : RFsm W 0 x [.int .i64 x.ins, .int .i64 x.outBits, .slice a2 x.states.length c2, .slice a3 x.next.length c3, .slice a4 x.outs.length c4]) h3 => (show Calls Try.prog 8 #[.agg #[.int .i64 x.ins, .int .i64 x.outBits, .slice a2 x.states.length c2, .slice a3 x.next.length c3, .slice a4 x.outs.length c4], .agg u3.toArray] W _ from eqFsm_of x _ u3 W h h3))
    rw [fsm_same x] at IN
    generalize fsmS x = SB at *
    have hne : (SB != SB) = false := by simp
    go_wp2_with fail
    refine (unhide IN _ ((unhide HR2).later (bal (brf _) _))).mono ?_
    rintro e W5 ⟨rfl, hb5⟩
    have HY : Hid (Bt 29 W4 #[.int .i64 x.ins, .int .i64 x.outBits, .slice a2 x.states.length c2, .slice a3 x.next.length c3, .slice a4 x.outs.length c4] W5) := hide hb5
    have HX5 := hide ((unhide HX4).then (unhide HY).below)
    have HR5 := hide ((unhide HR2).later (unhide HY).below)
    clear hb5 q0 q1 q2 q3 q4
    obtain ⟨q0, q1, q2, q3, q4⟩ := (unhide HX5).get5
    obtain ⟨p0, p1, p2, p3, p4⟩ := (unhide HY).get5
    clear SZ IN HR1 HX1 HX2 HX3 HX4 hneg HR2 HY
    go_wp2
    go_region_held3 (fun V => V.cell? ⟨W4.heap.size, 0, none⟩ = some (.int .i64 x.ins) ∧ V.cell? ⟨W4.heap.size, 1, none⟩ = some (.int .i64 x.outBits) ∧ V.cell? ⟨W4.heap.size, 2, none⟩ = some (.slice a2 x.states.length c2) ∧ V.cell? ⟨W4.heap.size, 3, none⟩ = some (.slice a3 x.next.length c3) ∧ V.cell? ⟨W4.heap.size, 4, none⟩ = some (.slice a4 x.outs.length c4) ∧ V.cell? ⟨w.heap.size, 0, none⟩ = some (.int .i64 x.ins) ∧ V.cell? ⟨w.heap.size, 1, none⟩ = some (.int .i64 x.outBits) ∧ V.cell? ⟨w.heap.size, 2, none⟩ = some v2 ∧ V.cell? ⟨w.heap.size, 3, none⟩ = some v3 ∧ V.cell? ⟨w.heap.size, 4, none⟩ = some v4 ∧ Below W5.heap.size W5 V)
      (first | (exact ⟨p0, p1, p2, p3, p4, q0, q1, q2, q3, q4, bdr (brf _)⟩) | (exact keepE5 (by assumption) hb1))
      (first
        | (go_at_call 6; refine (unhide TN' _ (btr (unhide HX5).below (belowE5 (by assumption)))).mono ?_; rintro e V1 ⟨⟨u3, rfl, hr3⟩, hb1, _⟩; have HR3 := hide hr3.any; clear hr3)
        | (go_at_call 8; refine (unhide EQ _ _ ((unhide HR5).later (belowE5 (by assumption))) (unhide HR3)).mono ?_; rintro e V2 ⟨rfl, hb1⟩))
    all_goals
      go_wp2
      go_ret
      exact ⟨rfl, btr (unhide HX5).below (belowE5 (by assumption))⟩
  · have hsz := szR_lt (s := szFsm x) (left := 1048576) (by omega)
    rw [hsz] at SZ
    clear TN
    go_enter Try.func3, Try.ntmps3
    go_wp2_with fail
    refine (unhide SZ _ (bal (brf w) _)).mono ?_
    rintro e W1 ⟨rfl, hb1⟩
    have HB := hide (btr (bal (brf w) _) hb1)
    clear hb1
    go_wp2
    go_ret
    exact ⟨rfl, unhide HB⟩
end Go.Proofs.Ytfedgajajpakdaa
