/- The law: both answer the same, and what was handed in reads as it did. -/
import Derived.Test.YtpkgcccbhfdaiaaDoorUa
import Derived.Test.YtpkgcccbhfdaiaaDoorV1
namespace Go.Proofs.YtpkgcccbhfdaiaaDoor
open Go Go.RowKit Gs
set_option linter.unusedVariables false
set_option linter.unusedSimpArgs false
set_option maxRecDepth 100000
set_option maxHeartbeats 32000000 in
theorem lTable (x : Aig) (u : List Value) (z : Int) (ls : List Int) (lv : Value) (w : World) (hr : RAig w 0 x u) (hls : RS 1 RInt w 0 ls lv) (hG : Gt w) :
    Calls Tryd.prog 3 #[.agg u.toArray, .int .i64 z, lv] w fun e w' => e = .returned (.bool true) ∧ Below w.heap.size w w' := by
  have SZ := hide (fun (W : World) (hb : Below w.heap.size w W) => szAig_of x u W 1048576 (Nat.le_refl _) (hr.later hb))
  have TN := hide (fun (hl : szAig x ≤ 1048576) (W : World) (hb : Below w.heap.size w W) => toAig_of x u W hl (hr.later hb))
  have TI := hide (fun (hl : ls.length ≤ 1048576) (W : World) (hb : Below w.heap.size w W) => toIntS_of ls lv W hl (hls.later RInt.keeps hb))
  have HG := hide (fun (W : World) (hb : Below w.heap.size w W) => hG.later hb)
  obtain ⟨v0, v1, v2, v3, v4, v5, rfl, h0, h1, h2, h3, h4, h5⟩ := hr
  obtain ⟨a0, c0, e0⟩ := h0.slice
  obtain ⟨a1, c1, e1⟩ := h1.slice
  obtain ⟨a2, c2, e2⟩ := h2.slice
  obtain ⟨a3, c3, e3⟩ := h3.slice
  obtain ⟨a4, c4, e4⟩ := h4.slice
  obtain ⟨a5, c5, e5⟩ := h5.slice
  subst e0 e1 e2 e3 e4 e5
  obtain ⟨la, lc, hlv⟩ := hls.slice
  subst hlv
  clear h0 h1 h2 h3 h4 h5 hls hG
  show Calls Tryd.prog 3 #[.agg #[.slice a0 x.ins.length c0, .slice a1 x.clocks.length c1, .slice a2 x.latches.length c2, .slice a3 x.ands.length c3, .slice a4 x.outs.length c4, .slice a5 x.checks.length c5], .int .i64 z, .slice la ls.length lc] w _
  change Hid (∀ (W : World), Below w.heap.size w W → Calls Tryd.prog 4 #[.agg #[.slice a0 x.ins.length c0, .slice a1 x.clocks.length c1, .slice a2 x.latches.length c2, .slice a3 x.ands.length c3, .slice a4 x.outs.length c4, .slice a5 x.checks.length c5], .int .i64 (1048576 : Int)] W _) at SZ
  change Hid (∀ (hl : szAig x ≤ 1048576) (W : World), Below w.heap.size w W → Calls Tryd.prog 6 #[.agg #[.slice a0 x.ins.length c0, .slice a1 x.clocks.length c1, .slice a2 x.latches.length c2, .slice a3 x.ands.length c3, .slice a4 x.outs.length c4, .slice a5 x.checks.length c5]] W _) at TN
  by_cases hll : ls.length ≤ 1048576
  case neg =>
    have hg : decide ((ls.length : Int) > 1048576) = true := decide_eq_true (by omega)
    clear SZ TN TI
    go_enter Tryd.func3, Tryd.ntmps3
    go_wp2_with fail
    exact bodyPost_ret (v := .bool true) (by simp [results, Tryd.results3, go_sem]) rfl ⟨rfl, bal (brf w) _⟩
  have hg : decide ((ls.length : Int) > 1048576) = false := decide_eq_false (by omega)
  have TI' := hide (fun W hb => unhide TI hll W hb)
  have HLL := hide hll
  clear TI hll
  by_cases hs : szAig x ≤ 1048576
  case neg =>
    have hsz := szR_lt (s := szAig x) (left := 1048576) (by omega)
    rw [hsz] at SZ
    clear TN TI' HG
    go_enter Tryd.func3, Tryd.ntmps3
    go_wp2_with fail
    refine (unhide SZ _ (bal (brf w) _)).mono ?_
    rintro e W1 ⟨rfl, hb1⟩
    have HB := hide (btr (bal (brf w) _) hb1)
    clear hb1
    go_wp2_with fail
    exact bodyPost_ret (v := .bool true) (by simp [results, Tryd.results3, go_sem]) rfl ⟨rfl, unhide HB⟩
  have hsz := szR_le hs
  have hneg : decide ((((1048576 - szAig x : Nat) : Int)) < 0) = false := decide_eq_false (by omega)
  have TN' := hide (fun W hb => unhide TN hs W hb)
  rw [hsz] at SZ
  clear TN hsz
  generalize ((1048576 - szAig x : Nat) : Int) = left at *
  have HSP := hide (fun (u : List Value) (lv : Value) (W : World) (h : RAig W 0 x u) (hl : RS 1 RInt W 0 ls lv) => sTableOf x u z ls lv W hs h hl)
  have HIM := hide (fun (u : List Value) (lv : Value) (W : World) (h : RAig W 0 x u) (hl : RS 1 RInt W 0 ls lv) (hg : Gt W) => iTableOf x u z ls lv W hs h hl hg)
  generalize (tabI x z ls).1 = T1 at *
  generalize (tabI x z ls).2 = T2 at *
  have hn1 : (T1 != T1) = false := by simp
  have hn2 : (T2 != T2) = false := by simp
  clear hs
  go_enter Tryd.func3, Tryd.ntmps3
  go_wp2_with fail
  refine (unhide SZ _ (bal (brf w) _)).mono ?_
  rintro e W1 ⟨rfl, hb1⟩
  have HX1 : Hid (B6 27 w (.slice a0 x.ins.length c0) (.slice a1 x.clocks.length c1) (.slice a2 x.latches.length c2) (.slice a3 x.ands.length c3) (.slice a4 x.outs.length c4) (.slice a5 x.checks.length c5) W1) := hide hb1
  clear hb1
  obtain ⟨q0, q1, q2, q3, q4, q5⟩ := (unhide HX1).get
  go_wp2_with fail
  refine (unhide TN' _ (unhide HX1).below).mono ?_
  rintro e W2 ⟨⟨u1, rfl, hr1⟩, hb2, _⟩
  have HX2 := hide ((unhide HX1).then hb2)
  have HR1 := hide hr1.any
  clear hb2 hr1 q0 q1 q2 q3 q4 q5
  go_wp2_with fail
  refine (unhide TI' _ (unhide HX2).below).mono ?_
  rintro e W3 ⟨⟨v1, rfl, hi1⟩, hb3, _⟩
  have HX3 := hide ((unhide HX2).then hb3)
  have HR13 := hide ((unhide HR1).later hb3)
  have HI1 := hide (RS.low RInt.lowers (Nat.zero_le _) hi1)
  clear hb3 hi1
  go_wp2_with fail
  refine (unhide HSP u1 v1 W3 (unhide HR13) (unhide HI1)).mono ?_
  rintro e W4 ⟨rfl, hb4⟩
  have HX4 := hide ((unhide HX3).then hb4)
  clear hb4 HSP HR1 HR13 HI1 HX1 HX2 HX3
  obtain ⟨q0, q1, q2, q3, q4, q5⟩ := (unhide HX4).get
  go_wp2_with fail
  refine (unhide TN' _ (unhide HX4).below).mono ?_
  rintro e W5 ⟨⟨u2, rfl, hr2⟩, hb5, _⟩
  have HX5 := hide ((unhide HX4).then hb5)
  have HR2 := hide hr2.any
  obtain ⟨y0, y1, y2, y3, y4, y5, rfl, g0, g1, g2, g3, g4, g5⟩ := hr2
  obtain ⟨d0, f0, e0⟩ := g0.slice
  obtain ⟨d1, f1, e1⟩ := g1.slice
  obtain ⟨d2, f2, e2⟩ := g2.slice
  obtain ⟨d3, f3, e3⟩ := g3.slice
  obtain ⟨d4, f4, e4⟩ := g4.slice
  obtain ⟨d5, f5, e5⟩ := g5.slice
  subst e0 e1 e2 e3 e4 e5
  clear hb5 q0 q1 q2 q3 q4 q5 g0 g1 g2 g3 g4 g5 HX4
  have IN := hide (fun (lv : Value) W (h : RAig W 0 x [.slice d0 x.ins.length f0, .slice d1 x.clocks.length f1, .slice d2 x.latches.length f2, .slice d3 x.ands.length f3, .slice d4 x.outs.length f4, .slice d5 x.checks.length f5]) hl hg => (show Calls Tryd.prog 8 #[.agg #[.slice d0 x.ins.length f0, .slice d1 x.clocks.length f1, .slice d2 x.latches.length f2, .slice d3 x.ands.length f3, .slice d4 x.outs.length f4, .slice d5 x.checks.length f5], .int .i64 z, lv] W _ from unhide HIM _ lv W h hl hg))
  have EQ := hide (fun W (u3 : Array Value) (h : RAig W 0 x [.slice d0 x.ins.length f0, .slice d1 x.clocks.length f1, .slice d2 x.latches.length f2, .slice d3 x.ands.length f3, .slice d4 x.outs.length f4, .slice d5 x.checks.length f5]) (h3 : RAig W 0 x u3.toList) => (show Calls Tryd.prog 9 #[.agg #[.slice d0 x.ins.length f0, .slice d1 x.clocks.length f1, .slice d2 x.latches.length f2, .slice d3 x.ands.length f3, .slice d4 x.outs.length f4, .slice d5 x.checks.length f5], .agg u3] W _ from eqAig_of x _ u3.toList W h h3))
  clear HIM
  have HXA := hide ((unhide HX5).then (bal (brf W5) (.cells #[.slice d0 x.ins.length f0, .slice d1 x.clocks.length f1, .slice d2 x.latches.length f2, .slice d3 x.ands.length f3, .slice d4 x.outs.length f4, .slice d5 x.checks.length f5] 36)))
  go_wp2_with fail
  refine (unhide TI' _ (unhide HXA).below).mono ?_
  rintro e W6 ⟨⟨v2, rfl, hi2⟩, hb6, _⟩
  have HY6 : Hid (B6 36 W5 (.slice d0 x.ins.length f0) (.slice d1 x.clocks.length f1) (.slice d2 x.latches.length f2) (.slice d3 x.ands.length f3) (.slice d4 x.outs.length f4) (.slice d5 x.checks.length f5) W6) := hide hb6
  have HX6 := hide ((unhide HXA).then hb6)
  have HR6 := hide ((unhide HR2).later (unhide HY6).below)
  have HI6 := hide (RS.low RInt.lowers (Nat.zero_le _) hi2)
  clear hb6 hi2 HX5 HXA HR2
  obtain ⟨q0, q1, q2, q3, q4, q5⟩ := (unhide HY6).get
  go_wp2_with fail
  refine (unhide IN v2 W6 (unhide HR6) (unhide HI6) (unhide HG _ (unhide HX6).below)).mono ?_
  rintro e W7 ⟨rfl, hb7⟩
  have HY7 := hide ((unhide HY6).then hb7)
  have HX7 := hide ((unhide HX6).then hb7)
  have HR7 := hide ((unhide HR6).later hb7)
  have HI7 := hide ((unhide HI6).later RInt.keeps hb7)
  clear hb7 HY6 HX6 HR6 HI6 IN HG q0 q1 q2 q3 q4 q5 SZ
  go_wp2_with fail
  have LS := FL10_lasts x (.agg #[.slice d0 x.ins.length f0, .slice d1 x.clocks.length f1, .slice d2 x.latches.length f2, .slice d3 x.ands.length f3, .slice d4 x.outs.length f4, .slice d5 x.checks.length f5]) (.agg #[.slice a0 x.ins.length c0, .slice a1 x.clocks.length c1, .slice a2 x.latches.length c2, .slice a3 x.ands.length c3, .slice a4 x.outs.length c4, .slice a5 x.checks.length c5])
  refine wp_plan (GW (FL10 x (.agg #[.slice d0 x.ins.length f0, .slice d1 x.clocks.length f1, .slice d2 x.latches.length f2, .slice d3 x.ands.length f3, .slice d4 x.outs.length f4, .slice d5 x.checks.length f5]) (.agg #[.slice a0 x.ins.length c0, .slice a1 x.clocks.length c1, .slice a2 x.latches.length c2, .slice a3 x.ands.length c3, .slice a4 x.outs.length c4, .slice a5 x.checks.length c5]))) (JB W7) (by kernel_rfl) 60 (by kernel_rfl) (by kernel_rfl) ?hj ?hs ?hf
  case hj => exact bdr (brf W7)
  case hs =>
    refine ⟨?_, ?_, ?_, ?_, ?_, trivial⟩
    · exact sl_val rfl (fun l a V hp ha => ⟨.agg #[.slice d0 x.ins.length f0, .slice d1 x.clocks.length f1, .slice d2 x.latches.length f2, .slice d3 x.ands.length f3, .slice d4 x.outs.length f4, .slice d5 x.checks.length f5], by
        have x10 := (ev_form a 10).trans (old hp 10 (v := .pointer (some ⟨W5.heap.size, 0, none⟩)) (by kernel_rfl) (by kernel_rfl))
        obtain ⟨p0, p1, p2, p3, p4, p5⟩ := ((unhide HY7).then hp.j).get
        go_simp, rfl⟩)
    · exact sl_val rfl (fun l a V hp ha => ⟨.agg #[.slice a0 x.ins.length c0, .slice a1 x.clocks.length c1, .slice a2 x.latches.length c2, .slice a3 x.ands.length c3, .slice a4 x.outs.length c4, .slice a5 x.checks.length c5], by
        have x3 := (ev_form a 3).trans (old hp 3 (v := .pointer (some ⟨w.heap.size, 0, none⟩)) (by kernel_rfl) (by kernel_rfl))
        obtain ⟨p0, p1, p2, p3, p4, p5⟩ := ((unhide HX7).then hp.j).get
        go_simp, rfl⟩)
    · exact sl_call (f := 6) LS rfl (fun l a V hp ha => ⟨#[.agg #[.slice a0 x.ins.length c0, .slice a1 x.clocks.length c1, .slice a2 x.latches.length c2, .slice a3 x.ands.length c3, .slice a4 x.outs.length c4, .slice a5 x.checks.length c5]], by
        have x51 := (ev_form a 51).trans (show a.eval (.tmp 51) = .agg #[.slice a0 x.ins.length c0, .slice a1 x.clocks.length c1, .slice a2 x.latches.length c2, .slice a3 x.ands.length c3, .slice a4 x.outs.length c4, .slice a5 x.checks.length c5] from kn hp ha 51 1 (by kernel_rfl) (by kernel_rfl))
        go_simp, (unhide TN' V (btr (unhide HX7).below hp.j)).mono (by rintro e V1 ⟨⟨u3, rfl, hr3⟩, hb, _⟩; exact ⟨_, rfl, ⟨u3.toArray, rfl, by simpa using hr3.any⟩, hb⟩)⟩)
    · refine sl_call (f := 9) LS rfl (fun l a V hp ha => ?_)
      have x50 := (ev_form a 50).trans (show a.eval (.tmp 50) = .agg #[.slice d0 x.ins.length f0, .slice d1 x.clocks.length f1, .slice d2 x.latches.length f2, .slice d3 x.ands.length f3, .slice d4 x.outs.length f4, .slice d5 x.checks.length f5] from kn hp ha 50 0 (by kernel_rfl) (by kernel_rfl))
      obtain ⟨u3, h52, hr3⟩ : ∃ u3, a.eval (.tmp 52) = .agg u3 ∧ RAig V 0 x u3.toList := kn hp ha 52 2 (by kernel_rfl) (by kernel_rfl)
      have x52 := (ev_form a 52).trans h52
      refine ⟨#[.agg #[.slice d0 x.ins.length f0, .slice d1 x.clocks.length f1, .slice d2 x.latches.length f2, .slice d3 x.ands.length f3, .slice d4 x.outs.length f4, .slice d5 x.checks.length f5], .agg u3], by go_simp, (unhide EQ V u3 ((unhide HR7).later hp.j) hr3).mono ?_⟩
      rintro e V1 ⟨rfl, hb⟩
      exact ⟨_, rfl, rfl, hb⟩
    · exact sl_val rfl (fun l a V hp ha => ⟨.bool false, by
        have x53 := (ev_form a 53).trans (show a.eval (.tmp 53) = .bool true from kn hp ha 53 3 (by kernel_rfl) (by kernel_rfl))
        go_simp, rfl⟩)
  case hf =>
    intro l a V hp hall
    have hv := hp.good 4 _ 54 rfl rfl (hall 4 (by decide))
    have HBV := hide (btr (unhide HX7).below hp.j)
    have HIV := hide ((unhide HI7).later RInt.keeps hp.j)
    obtain ⟨us, rfl, hus⟩ := putAll_of [50, 51, 52, 53, 54] hp.nt hp.df (fun t ht => hp.keep t (dstIn (by kernel_rfl) ht))
    have hu54 : us 54 = .bool false := by rw [hus 54]; exact hv
    clear hp hall hv hus HX7 HY7 HR7 HI7 EQ TN' LS
    simp only [putAll, List.foldl, Act.put, List.setIfInBounds_toArray, List.set_cons_zero, List.set_cons_succ, hu54]
    clear hu54
    generalize us 50 = y50 at *
    generalize us 51 = y51 at *
    generalize us 52 = y52 at *
    generalize us 53 = y53 at *
    go_wp2_with fail
    refine (unhide TI' _ (unhide HBV)).mono ?_
    rintro e W8 ⟨⟨v3, rfl, hi3⟩, hb8, _⟩
    have HEQ := hide (eqIntS_of ls v2 v3 W8 ((unhide HIV).later RInt.keeps hb8) (RS.low RInt.lowers (Nat.zero_le _) hi3))
    have HB8 := hide (btr (unhide HBV) hb8)
    clear hb8 hi3 HIV HBV TI'
    go_wp2_with fail
    refine (unhide HEQ).mono ?_
    rintro e W9 ⟨rfl, hb9⟩
    have HB9 := hide (btr (unhide HB8) hb9)
    clear hb9 HB8 HEQ
    go_wp2_with fail
    exact bodyPost_ret (v := .bool true) (by simp [results, Tryd.results3, go_sem]) rfl ⟨rfl, unhide HB9⟩
end Go.Proofs.YtpkgcccbhfdaiaaDoor
