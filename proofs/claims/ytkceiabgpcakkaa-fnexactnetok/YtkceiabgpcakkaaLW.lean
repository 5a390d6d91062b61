/- The law: both answer the same, and what was handed in reads as it did. -/
import Derived.Test.YtkceiabgpcakkaaSK2
import Derived.Test.YtkceiabgpcakkaaNO
import Derived.Test.YtkceiabgpcakkaaDS
import Derived.Test.YtkceiabgpcakkaaDT
import Derived.Test.YtkceiabgpcakkaaDE
namespace Go.Proofs.Ytkceiabgpcakkaa
open Go.RowKit Gs
set_option linter.unusedVariables false
set_option maxRecDepth 100000
theorem RNet.later {n : Net} {u : List Value} {w W : World} {B : Nat} (h : RNet w B n u) (hb : Below w.heap.size w W) : RNet W B n u := RNet.keeps _ _ _ _ _ (later_cells hb B) h
theorem RNet.any {n : Net} {u : List Value} {w : World} {B : Nat} (h : RNet w B n u) : RNet w 0 n u := RNet.lowers _ _ _ _ _ (Nat.zero_le _) h
set_option maxHeartbeats 16000000 in
theorem lNetOK (x : Net) (u : List Value) (w : World) (hr : RNet w 0 x u) :
    Calls Try.prog 3 #[.agg u.toArray] w fun e w' => e = .returned (.bool true) ∧ Below w.heap.size w w' := by
  have SZ := hide (fun (W : World) (hb : Below w.heap.size w W) => szNet_of x u W 1048576 (Nat.le_refl _) (hr.later hb))
  have TN := hide (fun (hl : szNet x ≤ 1048576) (W : World) (hb : Below w.heap.size w W) => toNet_of x u W hl (hr.later hb))
  obtain ⟨v0, v1, v2, v3, v4, v5, rfl, _⟩ := hr
  show Calls Try.prog 3 #[.agg #[v0, v1, v2, v3, v4, v5]] w _
  change Hid (∀ (W : World), Below w.heap.size w W → Calls Try.prog 4 #[.agg #[v0, v1, v2, v3, v4, v5], .int .i64 (1048576 : Int)] W _) at SZ
  change Hid (∀ (hl : szNet x ≤ 1048576) (W : World), Below w.heap.size w W → Calls Try.prog 6 #[.agg #[v0, v1, v2, v3, v4, v5]] W _) at TN
  by_cases hs : szNet x ≤ 1048576
  · have hsz := szR_le hs
    have hneg : decide ((((1048576 - szNet x : Nat) : Int)) < 0) = false := decide_eq_false (by omega)
    have TN' := hide (fun W hb => unhide TN hs W hb)
    rw [hsz] at SZ
    clear TN hsz
    generalize ((1048576 - szNet x : Nat) : Int) = left at *
    go_enter Try.func3, Try.ntmps3
    go_wp2_with fail
    refine (unhide SZ _ (bal (brf w) _)).mono ?_
    rintro e W1 ⟨rfl, hb1⟩
    have HX1 : Hid (Bt 28 w #[v0, v1, v2, v3, v4, v5] W1) := hide hb1
    clear hb1
    obtain ⟨q0, q1, q2, q3, q4, q5⟩ := (unhide HX1).get6
    go_wp2_with fail
    refine (unhide TN' _ (unhide HX1).below).mono ?_
    rintro e W2 ⟨⟨u1, rfl, hr1⟩, hb2⟩
    have HX2 := hide ((unhide HX1).then hb2)
    have HR1 := hide hr1.any
    clear hb2 hr1 q0 q1 q2 q3 q4 q5
    obtain ⟨q0, q1, q2, q3, q4, q5⟩ := (unhide HX2).get6
    go_wp2_with fail
    refine (sNetOK x u1 _ (unhide HR1)).mono ?_
    rintro e W3 ⟨rfl, hb3⟩
    have HX3 := hide ((unhide HX2).then hb3)
    clear hb3 q0 q1 q2 q3 q4 q5
    obtain ⟨q0, q1, q2, q3, q4, q5⟩ := (unhide HX3).get6
    go_wp2_with fail
    refine (unhide TN' _ (unhide HX3).below).mono ?_
    rintro e W4 ⟨⟨u2, rfl, hr2⟩, hb4⟩
    have HX4 := hide ((unhide HX3).then hb4)
    have HR2 := hide hr2.any
    obtain ⟨y0, y1, y2, y3, y4, y5, rfl, _⟩ := hr2
    clear hb4 q0 q1 q2 q3 q4 q5
    obtain ⟨q0, q1, q2, q3, q4, q5⟩ := (unhide HX4).get6
    have hlt := (unhide HX4).size
    have IN := hide (fun W (h : RNet W 0 x [y0, y1, y2, y3, y4, y5]) => (show Calls Try.prog 7 #[.agg #[y0, y1, y2, y3, y4, y5]] W _ from iNetOK x [y0, y1, y2, y3, y4, y5] W h))
    have EQ := hide (fun W (u3 : List Value) (h : RNet W 0 x [y0, y1, y2, y3, y4, y5]) h3 => (show Calls Try.prog 8 #[.agg #[y0, y1, y2, y3, y4, y5], .agg u3.toArray] W _ from eqNet_of x [y0, y1, y2, y3, y4, y5] u3 W h h3))
    have O0 := (unhide HR2)
    obtain ⟨z0, z1, z2, z3, z4, z5, hzz, s0, s1, s2, s3, s4, s5⟩ := O0
    injection hzz with f0 hzz; injection hzz with f1 hzz; injection hzz with f2 hzz; injection hzz with f3 hzz; injection hzz with f4 hzz; injection hzz with f5 hzz
    subst f0 f1 f2 f3 f4 f5
    obtain ⟨a0, c0, e0⟩ := s0.slice
    obtain ⟨a1, c1, e1⟩ := s1.slice
    obtain ⟨a2, c2, e2⟩ := s2.slice
    obtain ⟨a3, c3, e3⟩ := s3.slice
    obtain ⟨a4, c4, e4⟩ := s4.slice
    obtain ⟨a5, c5, e5⟩ := s5.slice
    subst e0 e1 e2 e3 e4 e5
    clear s0 s1 s2 s3 s4 s5
    rw [net_same x] at IN
    generalize sNetB x = SB at *
    have hne : (SB != SB) = false := by simp
    go_wp2_with fail
    refine (unhide IN _ ((unhide HR2).later (bal (brf _) _))).mono ?_
    rintro e W5 ⟨rfl, hb5⟩
    have HY : Hid (Bt 36 W4 #[.slice a0 x.ins.length c0, .slice a1 x.clocks.length c1, .slice a2 x.cells.length c2, .slice a3 x.regs.length c3, .slice a4 x.outs.length c4, .slice a5 x.checks.length c5] W5) := hide hb5
    have HX5 := hide ((unhide HX4).then (unhide HY).below)
    have HR5 := hide ((unhide HR2).later (unhide HY).below)
    clear hb5 q0 q1 q2 q3 q4 q5
    obtain ⟨q0, q1, q2, q3, q4, q5⟩ := (unhide HX5).get6
    obtain ⟨p0, p1, p2, p3, p4, p5⟩ := (unhide HY).get6
    clear SZ IN HR1 HX1 HX2 HX3 HX4 hneg HR2 HY
    go_wp2
    go_region_held3 (fun V => V.cell? ⟨W4.heap.size, 0, none⟩ = some (.slice a0 x.ins.length c0) ∧ V.cell? ⟨W4.heap.size, 1, none⟩ = some (.slice a1 x.clocks.length c1) ∧ V.cell? ⟨W4.heap.size, 2, none⟩ = some (.slice a2 x.cells.length c2) ∧ V.cell? ⟨W4.heap.size, 3, none⟩ = some (.slice a3 x.regs.length c3) ∧ V.cell? ⟨W4.heap.size, 4, none⟩ = some (.slice a4 x.outs.length c4) ∧ V.cell? ⟨W4.heap.size, 5, none⟩ = some (.slice a5 x.checks.length c5) ∧ V.cell? ⟨w.heap.size, 0, none⟩ = some v0 ∧ V.cell? ⟨w.heap.size, 1, none⟩ = some v1 ∧ V.cell? ⟨w.heap.size, 2, none⟩ = some v2 ∧ V.cell? ⟨w.heap.size, 3, none⟩ = some v3 ∧ V.cell? ⟨w.heap.size, 4, none⟩ = some v4 ∧ V.cell? ⟨w.heap.size, 5, none⟩ = some v5 ∧ Below W5.heap.size W5 V)
      (first | (exact ⟨p0, p1, p2, p3, p4, p5, q0, q1, q2, q3, q4, q5, bdr (brf _)⟩) | (exact keepE6 (by assumption) hb1))
      (first
        | (go_at_call 6; refine (unhide TN' _ (btr (unhide HX5).below (belowE6 (by assumption)))).mono ?_; rintro e V1 ⟨⟨u3, rfl, hr3⟩, hb1⟩; have HR3 := hide hr3.any; clear hr3)
        | (go_at_call 8; refine (unhide EQ _ _ ((unhide HR5).later (belowE6 (by assumption))) (unhide HR3)).mono ?_; rintro e V2 ⟨rfl, hb1⟩))
    all_goals
      go_wp2
      go_ret
      exact ⟨rfl, btr (unhide HX5).below (belowE6 (by assumption))⟩
  · have hsz := szR_lt (s := szNet x) (left := 1048576) (by omega)
    rw [hsz] at SZ
    clear TN
    go_enter Try.func3, Try.ntmps3
    go_wp2_with fail
    refine (unhide SZ _ (bal (brf w) _)).mono ?_
    rintro e W1 ⟨rfl, hb1⟩
    have HB := hide (btr (bal (brf w) _) hb1)
    clear hb1
    go_wp2
    go_ret
    exact ⟨rfl, unhide HB⟩
end Go.Proofs.Ytkceiabgpcakkaa
