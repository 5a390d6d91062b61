/- The law: both answer the same, and what was handed in reads as it did. -/
import Derived.Test.YthbcokioijpofacL1
import Derived.Test.YthbcokioijpofacL2
namespace Go.Proofs.Ythbcokioijpofac
open Go Go.RowKit Gs
set_option linter.unusedVariables false
set_option linter.unusedSimpArgs false
set_option maxRecDepth 100000
set_option maxHeartbeats 16000000 in
theorem lMapDepth (x : Mapped) (u : List Value) (w : World) (hr : RMapped w 0 x u) :
    Calls Try.prog 3 #[.agg u.toArray] w fun e w' => e = .returned (.bool true) ∧ Below w.heap.size w w' := by
  have SZ := hide (fun (W : World) (hb : Below w.heap.size w W) => szMapped_of x u W 1048576 (Nat.le_refl _) (hr.later hb))
  have TN := hide (fun (hl : szMapped x ≤ 1048576) (W : World) (hb : Below w.heap.size w W) => toMapped_of x u W hl (hr.later hb))
  obtain ⟨v0, v1, v2, v3, v4, v5, rfl, h0, h1, h2, h3, h4, h5⟩ := hr
  obtain ⟨a0, c0, e0⟩ := h0.slice
  obtain ⟨a1, c1, e1⟩ := h1.slice
  obtain ⟨a2, c2, e2⟩ := h2.slice
  obtain ⟨a3, c3, e3⟩ := h3.slice
  obtain ⟨a4, c4, e4⟩ := h4.slice
  obtain ⟨a5, c5, e5⟩ := h5.slice
  subst e0 e1 e2 e3 e4 e5
  clear h0 h1 h2 h3 h4 h5
  show Calls Try.prog 3 #[.agg #[.slice a0 x.ins.length c0, .slice a1 x.clocks.length c1, .slice a2 x.regs.length c2, .slice a3 x.luts.length c3, .slice a4 x.outs.length c4, .slice a5 x.checks.length c5]] w _
  change Hid (∀ (W : World), Below w.heap.size w W → Calls Try.prog 4 #[.agg #[.slice a0 x.ins.length c0, .slice a1 x.clocks.length c1, .slice a2 x.regs.length c2, .slice a3 x.luts.length c3, .slice a4 x.outs.length c4, .slice a5 x.checks.length c5], .int .i64 (1048576 : Int)] W _) at SZ
  change Hid (∀ (hl : szMapped x ≤ 1048576) (W : World), Below w.heap.size w W → Calls Try.prog 6 #[.agg #[.slice a0 x.ins.length c0, .slice a1 x.clocks.length c1, .slice a2 x.regs.length c2, .slice a3 x.luts.length c3, .slice a4 x.outs.length c4, .slice a5 x.checks.length c5]] W _) at TN
  by_cases hs : szMapped x ≤ 1048576
  · have hsz := szR_le hs
    have hneg : decide ((((1048576 - szMapped x : Nat) : Int)) < 0) = false := decide_eq_false (by omega)
    have TN' := hide (fun W hb => unhide TN hs W hb)
    rw [hsz] at SZ
    clear TN hsz
    generalize ((1048576 - szMapped x : Nat) : Int) = left at *
    go_enter Try.func3, Try.ntmps3
    go_wp2_with fail
    refine (unhide SZ _ (bal (brf w) _)).mono ?_
    rintro e W1 ⟨rfl, hb1⟩
    have HX1 : Hid (B6 27 w (.slice a0 x.ins.length c0) (.slice a1 x.clocks.length c1) (.slice a2 x.regs.length c2) (.slice a3 x.luts.length c3) (.slice a4 x.outs.length c4) (.slice a5 x.checks.length c5) W1) := hide hb1
    clear hb1
    obtain ⟨q0, q1, q2, q3, q4, q5⟩ := (unhide HX1).get
    go_wp2_with fail
    refine (unhide TN' _ (unhide HX1).below).mono ?_
    rintro e W2 ⟨⟨u1, rfl, hr1⟩, hb2, _⟩
    have HX2 := hide ((unhide HX1).then hb2)
    have HR1 := hide hr1.any
    clear hb2 hr1 q0 q1 q2 q3 q4 q5
    obtain ⟨q0, q1, q2, q3, q4, q5⟩ := (unhide HX2).get
    go_wp2_with fail
    refine (sMapDepth x u1 _ hs (unhide HR1)).mono ?_
    rintro e W3 ⟨rfl, hb3⟩
    have HX3 := hide ((unhide HX2).then hb3)
    clear hb3 q0 q1 q2 q3 q4 q5
    obtain ⟨q0, q1, q2, q3, q4, q5⟩ := (unhide HX3).get
    go_wp2_with fail
    refine (unhide TN' _ (unhide HX3).below).mono ?_
    rintro e W4 ⟨⟨u2, rfl, hr2⟩, hb4, _⟩
    have HX4 := hide ((unhide HX3).then hb4)
    have HR2 := hide hr2.any
    obtain ⟨y0, y1, y2, y3, y4, y5, rfl, g0, g1, g2, g3, g4, g5⟩ := hr2
    obtain ⟨d0, f0, e0⟩ := g0.slice
    obtain ⟨d1, f1, e1⟩ := g1.slice
    obtain ⟨d2, f2, e2⟩ := g2.slice
    obtain ⟨d3, f3, e3⟩ := g3.slice
    obtain ⟨d4, f4, e4⟩ := g4.slice
    obtain ⟨d5, f5, e5⟩ := g5.slice
    subst e0 e1 e2 e3 e4 e5
    clear hb4 q0 q1 q2 q3 q4 q5 g0 g1 g2 g3 g4 g5
    obtain ⟨q0, q1, q2, q3, q4, q5⟩ := (unhide HX4).get
    have IN := hide (fun W (h : RMapped W 0 x [.slice d0 x.ins.length f0, .slice d1 x.clocks.length f1, .slice d2 x.regs.length f2, .slice d3 x.luts.length f3, .slice d4 x.outs.length f4, .slice d5 x.checks.length f5]) => (show Calls Try.prog 7 #[.agg #[.slice d0 x.ins.length f0, .slice d1 x.clocks.length f1, .slice d2 x.regs.length f2, .slice d3 x.luts.length f3, .slice d4 x.outs.length f4, .slice d5 x.checks.length f5]] W _ from iMapDepth x _ W hs h))
    have EQ := hide (fun W (u3 : Array Value) (h : RMapped W 0 x [.slice d0 x.ins.length f0, .slice d1 x.clocks.length f1, .slice d2 x.regs.length f2, .slice d3 x.luts.length f3, .slice d4 x.outs.length f4, .slice d5 x.checks.length f5]) (h3 : RMapped W 0 x u3.toList) => (show Calls Try.prog 8 #[.agg #[.slice d0 x.ins.length f0, .slice d1 x.clocks.length f1, .slice d2 x.regs.length f2, .slice d3 x.luts.length f3, .slice d4 x.outs.length f4, .slice d5 x.checks.length f5], .agg u3] W _ from eqMapped_of x _ u3.toList W h h3))
    generalize depthM x = SB at *
    go_wp2_with fail
    refine (unhide IN _ ((unhide HR2).later (bal (brf _) _))).mono ?_
    rintro e W5 ⟨rfl, hb5⟩
    have HY : Hid (B6 34 W4 (.slice d0 x.ins.length f0) (.slice d1 x.clocks.length f1) (.slice d2 x.regs.length f2) (.slice d3 x.luts.length f3) (.slice d4 x.outs.length f4) (.slice d5 x.checks.length f5) W5) := hide hb5
    have HX5 := hide ((unhide HX4).then (unhide HY).below)
    have HR5 := hide ((unhide HR2).later (unhide HY).below)
    clear hb5 q0 q1 q2 q3 q4 q5
    clear SZ IN HR1 HX1 HX2 HX3 HX4 hneg HR2
    go_wp2
    have LS := FL10_lasts x (.agg #[.slice d0 x.ins.length f0, .slice d1 x.clocks.length f1, .slice d2 x.regs.length f2, .slice d3 x.luts.length f3, .slice d4 x.outs.length f4, .slice d5 x.checks.length f5]) (.agg #[.slice a0 x.ins.length c0, .slice a1 x.clocks.length c1, .slice a2 x.regs.length c2, .slice a3 x.luts.length c3, .slice a4 x.outs.length c4, .slice a5 x.checks.length c5])
    refine wp_plan (GW (FL10 x (.agg #[.slice d0 x.ins.length f0, .slice d1 x.clocks.length f1, .slice d2 x.regs.length f2, .slice d3 x.luts.length f3, .slice d4 x.outs.length f4, .slice d5 x.checks.length f5]) (.agg #[.slice a0 x.ins.length c0, .slice a1 x.clocks.length c1, .slice a2 x.regs.length c2, .slice a3 x.luts.length c3, .slice a4 x.outs.length c4, .slice a5 x.checks.length c5]))) (JB W5) (by kernel_rfl) 27 (by kernel_rfl) (by kernel_rfl) ?hj ?hs ?hf
    case hj => exact bdr (brf W5)
    case hs =>
      refine ⟨?_, ?_, ?_, ?_, ?_, trivial⟩
      · exact sl_val rfl (fun l a V hp ha => ⟨.agg #[.slice d0 x.ins.length f0, .slice d1 x.clocks.length f1, .slice d2 x.regs.length f2, .slice d3 x.luts.length f3, .slice d4 x.outs.length f4, .slice d5 x.checks.length f5], by
          have x5 := (ev_form a 5).trans (old hp 5 (v := .pointer (some ⟨W4.heap.size, 0, none⟩)) (by kernel_rfl) (by kernel_rfl))
          obtain ⟨p0, p1, p2, p3, p4, p5⟩ := ((unhide HY).then hp.j).get
          go_simp, rfl⟩)
      · exact sl_val rfl (fun l a V hp ha => ⟨.agg #[.slice a0 x.ins.length c0, .slice a1 x.clocks.length c1, .slice a2 x.regs.length c2, .slice a3 x.luts.length c3, .slice a4 x.outs.length c4, .slice a5 x.checks.length c5], by
          have x1 := (ev_form a 1).trans (old hp 1 (v := .pointer (some ⟨w.heap.size, 0, none⟩)) (by kernel_rfl) (by kernel_rfl))
          obtain ⟨p0, p1, p2, p3, p4, p5⟩ := ((unhide HX5).then hp.j).get
          go_simp, rfl⟩)
      · exact sl_call (f := 6) LS rfl (fun l a V hp ha => ⟨#[.agg #[.slice a0 x.ins.length c0, .slice a1 x.clocks.length c1, .slice a2 x.regs.length c2, .slice a3 x.luts.length c3, .slice a4 x.outs.length c4, .slice a5 x.checks.length c5]], by
          have x23 := (ev_form a 23).trans (show a.eval (.tmp 23) = .agg #[.slice a0 x.ins.length c0, .slice a1 x.clocks.length c1, .slice a2 x.regs.length c2, .slice a3 x.luts.length c3, .slice a4 x.outs.length c4, .slice a5 x.checks.length c5] from kn hp ha 23 1 (by kernel_rfl) (by kernel_rfl))
          go_simp, (unhide TN' V (btr (unhide HX5).below hp.j)).mono (by rintro e V1 ⟨⟨u3, rfl, hr3⟩, hb, _⟩; exact ⟨_, rfl, ⟨u3.toArray, rfl, by simpa using hr3.any⟩, hb⟩)⟩)
      · refine sl_call (f := 8) LS rfl (fun l a V hp ha => ?_)
        have x22 := (ev_form a 22).trans (show a.eval (.tmp 22) = .agg #[.slice d0 x.ins.length f0, .slice d1 x.clocks.length f1, .slice d2 x.regs.length f2, .slice d3 x.luts.length f3, .slice d4 x.outs.length f4, .slice d5 x.checks.length f5] from kn hp ha 22 0 (by kernel_rfl) (by kernel_rfl))
        obtain ⟨u3, h24, hr3⟩ : ∃ u3, a.eval (.tmp 24) = .agg u3 ∧ RMapped V 0 x u3.toList := kn hp ha 24 2 (by kernel_rfl) (by kernel_rfl)
        have x24 := (ev_form a 24).trans h24
        refine ⟨#[.agg #[.slice d0 x.ins.length f0, .slice d1 x.clocks.length f1, .slice d2 x.regs.length f2, .slice d3 x.luts.length f3, .slice d4 x.outs.length f4, .slice d5 x.checks.length f5], .agg u3], by go_simp, (unhide EQ V u3 ((unhide HR5).later hp.j) hr3).mono ?_⟩
        rintro e V1 ⟨rfl, hb⟩
        exact ⟨_, rfl, rfl, hb⟩
      · exact sl_val rfl (fun l a V hp ha => ⟨.bool false, by
          have x25 := (ev_form a 25).trans (show a.eval (.tmp 25) = .bool true from kn hp ha 25 3 (by kernel_rfl) (by kernel_rfl))
          go_simp, rfl⟩)
    case hf =>
      intro l a V hp hall
      have hv := hp.good 4 _ 26 rfl rfl (hall 4 (by decide))
      have HBV := hide (btr (unhide HX5).below hp.j)
      obtain ⟨us, rfl, hus⟩ := putAll_of [22, 23, 24, 25, 26] hp.nt hp.df (fun t ht => hp.keep t (dstIn (by kernel_rfl) ht))
      have hv2 : us 26 = .bool false := by rw [hus 26]; exact hv
      clear hp hall hv hus
      simp only [putAll, List.foldl, Act.put, List.setIfInBounds_toArray, List.set_cons_zero, List.set_cons_succ, hv2]
      go_wp2
      exact bodyPost_ret (v := .bool true) (by simp [results, Try.results3, go_sem]) rfl ⟨rfl, unhide HBV⟩
  · have hsz := szR_lt (s := szMapped x) (left := 1048576) (by omega)
    rw [hsz] at SZ
    clear TN
    go_enter Try.func3, Try.ntmps3
    go_wp2_with fail
    refine (unhide SZ _ (bal (brf w) _)).mono ?_
    rintro e W1 ⟨rfl, hb1⟩
    have HB := hide (btr (bal (brf w) _) hb1)
    clear hb1
    go_wp2
    go_ret
    exact ⟨rfl, unhide HB⟩
end Go.Proofs.Ythbcokioijpofac
