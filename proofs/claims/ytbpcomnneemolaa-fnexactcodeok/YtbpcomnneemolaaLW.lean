/- The law: both answer the same, and what was handed in reads as it did. -/
import Derived.Test.YtbpcomnneemolaaSQ2
import Derived.Test.YtbpcomnneemolaaEQ
import Derived.Test.YtbpcomnneemolaaDS
import Derived.Test.YtbpcomnneemolaaDT
import Derived.Test.YtbpcomnneemolaaDE
namespace Go.Proofs.Ytbpcomnneemolaa
open Go.RowKit Gs
set_option linter.unusedVariables false
set_option maxRecDepth 100000
theorem RCode.later {n : Code} {u : List Value} {w W : World} {B : Nat} (h : RCode w B n u) (hb : Below w.heap.size w W) : RCode W B n u := RCode.keeps _ _ _ _ _ (later_cells hb B) h
theorem RCode.any {n : Code} {u : List Value} {w : World} {B : Nat} (h : RCode w B n u) : RCode w 0 n u := RCode.lowers _ _ _ _ _ (Nat.zero_le _) h
theorem iCodeOK (x : Code) (u : List Value) (w : World) (hr : RCode w 0 x u) : Calls Try.prog 7 #[.agg u.toArray] w fun e w' => e = .returned (.bool (codeI x)) ∧ Below w.heap.size w w' := by
  obtain ⟨v1, v2, v4, v5, v6, v7, v8, rfl, h1, h2, h4, h5, h6, h7, h8⟩ := hr
  exact iCode x v1 v2 v4 v5 v6 v7 v8 w h1 h2 h4 h5 h6 h7 h8
set_option maxHeartbeats 16000000 in
theorem lCodeOK (x : Code) (u : List Value) (w : World) (hr : RCode w 0 x u) :
    Calls Try.prog 3 #[.agg u.toArray] w fun e w' => e = .returned (.bool true) ∧ Below w.heap.size w w' := by
  have SZ := hide (fun (W : World) (hb : Below w.heap.size w W) => szCode_of x u W 1048576 (Nat.le_refl _) (hr.later hb))
  have TN := hide (fun (hl : szCode x ≤ 1048576) (W : World) (hb : Below w.heap.size w W) => toCode_of x u W hl (hr.later hb))
  obtain ⟨v1, v2, v4, v5, v6, v7, v8, rfl, _⟩ := hr
  show Calls Try.prog 3 #[.agg #[.int .i64 x.slots, v1, v2, .int .i64 x.clocks, v4, v5, v6, v7, v8]] w _
  change Hid (∀ (W : World), Below w.heap.size w W → Calls Try.prog 4 #[.agg #[.int .i64 x.slots, v1, v2, .int .i64 x.clocks, v4, v5, v6, v7, v8], .int .i64 (1048576 : Int)] W _) at SZ
  change Hid (∀ (hl : szCode x ≤ 1048576) (W : World), Below w.heap.size w W → Calls Try.prog 6 #[.agg #[.int .i64 x.slots, v1, v2, .int .i64 x.clocks, v4, v5, v6, v7, v8]] W _) at TN
  by_cases hs : szCode x ≤ 1048576
  · have hsz := szR_le hs
    have hneg : decide ((((1048576 - szCode x : Nat) : Int)) < 0) = false := decide_eq_false (by omega)
    have TN' := hide (fun W hb => unhide TN hs W hb)
    rw [hsz] at SZ
    clear TN hsz
    generalize ((1048576 - szCode x : Nat) : Int) = left at *
    go_enter Try.func3, Try.ntmps3
    go_wp2_with fail
    refine (unhide SZ _ (bal (brf w) _)).mono ?_
    rintro e W1 ⟨rfl, hb1⟩
    have HX1 : Hid (Bt 26 w #[.int .i64 x.slots, v1, v2, .int .i64 x.clocks, v4, v5, v6, v7, v8] W1) := hide hb1
    clear hb1
    obtain ⟨q0, q1, q2, q3, q4, q5, q6, q7, q8⟩ := (unhide HX1).get9
    go_wp2_with fail
    refine (unhide TN' _ (unhide HX1).below).mono ?_
    rintro e W2 ⟨⟨u1, rfl, hr1⟩, hb2⟩
    have HX2 := hide ((unhide HX1).then hb2)
    have HR1 := hide hr1.any
    clear hb2 hr1 q0 q1 q2 q3 q4 q5 q6 q7 q8
    obtain ⟨q0, q1, q2, q3, q4, q5, q6, q7, q8⟩ := (unhide HX2).get9
    go_wp2_with fail
    refine (sCodeOK x u1 _ (unhide HR1)).mono ?_
    rintro e W3 ⟨rfl, hb3⟩
    have HX3 := hide ((unhide HX2).then hb3)
    clear hb3 q0 q1 q2 q3 q4 q5 q6 q7 q8
    obtain ⟨q0, q1, q2, q3, q4, q5, q6, q7, q8⟩ := (unhide HX3).get9
    go_wp2_with fail
    refine (unhide TN' _ (unhide HX3).below).mono ?_
    rintro e W4 ⟨⟨u2, rfl, hr2⟩, hb4⟩
    have HX4 := hide ((unhide HX3).then hb4)
    have HR2 := hide hr2.any
    obtain ⟨y1, y2, y4, y5, y6, y7, y8, rfl, _⟩ := hr2
    clear hb4 q0 q1 q2 q3 q4 q5 q6 q7 q8
    obtain ⟨q0, q1, q2, q3, q4, q5, q6, q7, q8⟩ := (unhide HX4).get9
    have hlt := (unhide HX4).size
    have IN := hide (fun W (h : RCode W 0 x [.int .i64 x.slots, y1, y2, .int .i64 x.clocks, y4, y5, y6, y7, y8]) => (show Calls Try.prog 7 #[.agg #[.int .i64 x.slots, y1, y2, .int .i64 x.clocks, y4, y5, y6, y7, y8]] W _ from iCodeOK x [.int .i64 x.slots, y1, y2, .int .i64 x.clocks, y4, y5, y6, y7, y8] W h))
    have EQ := hide (fun W (u3 : List Value) (h : RCode W 0 x [.int .i64 x.slots, y1, y2, .int .i64 x.clocks, y4, y5, y6, y7, y8]) h3 => (show Calls Try.prog 8 #[.agg #[.int .i64 x.slots, y1, y2, .int .i64 x.clocks, y4, y5, y6, y7, y8], .agg u3.toArray] W _ from eqCode_of x [.int .i64 x.slots, y1, y2, .int .i64 x.clocks, y4, y5, y6, y7, y8] u3 W h h3))
    have O0 := (unhide HR2)
    obtain ⟨z1, z2, z4, z5, z6, z7, z8, hzz, s1, s2, s4, s5, s6, s7, s8⟩ := O0
    injection hzz with _ hzz; injection hzz with f1 hzz; injection hzz with f2 hzz; injection hzz with _ hzz; injection hzz with f4 hzz; injection hzz with f5 hzz; injection hzz with f6 hzz; injection hzz with f7 hzz; injection hzz with f8 hzz
    subst f1 f2 f4 f5 f6 f7 f8
    obtain ⟨a1, c1, e1⟩ := s1.slice
    obtain ⟨a2, c2, e2⟩ := s2.slice
    obtain ⟨a4, c4, e4⟩ := s4.slice
    obtain ⟨a5, c5, e5⟩ := s5.slice
    obtain ⟨a6, c6, e6⟩ := s6.slice
    obtain ⟨a7, c7, e7⟩ := s7.slice
    obtain ⟨a8, c8, e8⟩ := s8.slice
    subst e1 e2 e4 e5 e6 e7 e8
    clear s1 s2 s4 s5 s6 s7 s8
    rw [code_same x] at IN
    generalize sCode x = SB at *
    have hne : (SB != SB) = false := by simp
    go_wp2_with fail
    refine (unhide IN _ ((unhide HR2).later (bal (brf _) _))).mono ?_
    rintro e W5 ⟨rfl, hb5⟩
    have HY : Hid (Bt 31 W4 #[.int .i64 x.slots, .slice a1 x.instrs.length c1, .slice a2 x.ins.length c2, .int .i64 x.clocks, .slice a4 x.inits.length c4, .slice a5 x.ticks.length c5, .slice a6 x.nexts.length c6, .slice a7 x.outs.length c7, .slice a8 x.checks.length c8] W5) := hide hb5
    have HX5 := hide ((unhide HX4).then (unhide HY).below)
    have HR5 := hide ((unhide HR2).later (unhide HY).below)
    clear hb5 q0 q1 q2 q3 q4 q5 q6 q7 q8
    obtain ⟨q0, q1, q2, q3, q4, q5, q6, q7, q8⟩ := (unhide HX5).get9
    obtain ⟨p0, p1, p2, p3, p4, p5, p6, p7, p8⟩ := (unhide HY).get9
    clear SZ IN HR1 HX1 HX2 HX3 HX4 hneg HR2 HY
    go_wp2
    go_region_held3 (fun V => V.cell? ⟨W4.heap.size, 0, none⟩ = some (.int .i64 x.slots) ∧ V.cell? ⟨W4.heap.size, 1, none⟩ = some (.slice a1 x.instrs.length c1) ∧ V.cell? ⟨W4.heap.size, 2, none⟩ = some (.slice a2 x.ins.length c2) ∧ V.cell? ⟨W4.heap.size, 3, none⟩ = some (.int .i64 x.clocks) ∧ V.cell? ⟨W4.heap.size, 4, none⟩ = some (.slice a4 x.inits.length c4) ∧ V.cell? ⟨W4.heap.size, 5, none⟩ = some (.slice a5 x.ticks.length c5) ∧ V.cell? ⟨W4.heap.size, 6, none⟩ = some (.slice a6 x.nexts.length c6) ∧ V.cell? ⟨W4.heap.size, 7, none⟩ = some (.slice a7 x.outs.length c7) ∧ V.cell? ⟨W4.heap.size, 8, none⟩ = some (.slice a8 x.checks.length c8) ∧ V.cell? ⟨w.heap.size, 0, none⟩ = some (.int .i64 x.slots) ∧ V.cell? ⟨w.heap.size, 1, none⟩ = some (v1) ∧ V.cell? ⟨w.heap.size, 2, none⟩ = some (v2) ∧ V.cell? ⟨w.heap.size, 3, none⟩ = some (.int .i64 x.clocks) ∧ V.cell? ⟨w.heap.size, 4, none⟩ = some (v4) ∧ V.cell? ⟨w.heap.size, 5, none⟩ = some (v5) ∧ V.cell? ⟨w.heap.size, 6, none⟩ = some (v6) ∧ V.cell? ⟨w.heap.size, 7, none⟩ = some (v7) ∧ V.cell? ⟨w.heap.size, 8, none⟩ = some (v8) ∧ Below W5.heap.size W5 V)
      (first | (exact ⟨p0, p1, p2, p3, p4, p5, p6, p7, p8, q0, q1, q2, q3, q4, q5, q6, q7, q8, bdr (brf _)⟩) | (exact keepE9 (by assumption) hb1))
      (first
        | (go_at_call 6; refine (unhide TN' _ (btr (unhide HX5).below (belowE9 (by assumption)))).mono ?_; rintro e V1 ⟨⟨u3, rfl, hr3⟩, hb1⟩; have HR3 := hide hr3.any; clear hr3)
        | (go_at_call 8; refine (unhide EQ _ _ ((unhide HR5).later (belowE9 (by assumption))) (unhide HR3)).mono ?_; rintro e V2 ⟨rfl, hb1⟩))
    all_goals
      go_wp2
      go_ret
      exact ⟨rfl, btr (unhide HX5).below (belowE9 (by assumption))⟩
  · have hsz := szR_lt (s := szCode x) (left := 1048576) (by omega)
    rw [hsz] at SZ
    clear TN
    go_enter Try.func3, Try.ntmps3
    go_wp2_with fail
    refine (unhide SZ _ (bal (brf w) _)).mono ?_
    rintro e W1 ⟨rfl, hb1⟩
    have HB := hide (btr (bal (brf w) _) hb1)
    clear hb1
    go_wp2
    go_ret
    exact ⟨rfl, unhide HB⟩
end Go.Proofs.Ytbpcomnneemolaa
