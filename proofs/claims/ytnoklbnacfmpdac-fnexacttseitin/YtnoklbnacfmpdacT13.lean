/- The law of Tseitin. -/
import Derived.Test.YtnoklbnacfmpdacT11
import Derived.Test.YtnoklbnacfmpdacT12
namespace Go.Proofs.Ytnoklbnacfmpdac
open Go Go.RowKit Gs
set_option linter.unusedVariables false
set_option linter.unusedSimpArgs false
set_option maxRecDepth 100000
theorem MK.under {B E : Nat} {W V : World} (h : MK B E W V) (hB : B ≤ W.heap.size) : Below B W V := ⟨h.os, h.tape, h.output, h.size, fun k hk => h.block k (by omega) (.inl hk)⟩
theorem CP.beyond {B E B' E' : Nat} {W V : World} {v : Value} {xs : List (List Int)} (h : CP B' E' W v xs) (hm : MK B E W V) (hE : E ≤ B') : CP B' E' V v xs := by
  have hrow := h.row
  obtain ⟨h0, vs, h1, h2⟩ := h
  refine ⟨Nat.le_trans h0 hm.size, vs, ownsRow_keep h1 (fun g o hg hc => (hm.block g (Array.getElem?_eq_some_iff.1 hc).1 (.inr (by have := hrow g hg; omega))).trans hc), RI.keep xs vs (fun b o hb _ hc => (hm.block b (Array.getElem?_eq_some_iff.1 hc).1 (.inr (by omega))).trans hc) h2⟩
set_option maxHeartbeats 32000000 in
theorem lTs (x : Aig) (u : List Value) (lit : Int) (w : World) (hr : RAig w 0 x u) :
    Calls Try.prog 3 #[.agg u.toArray, .int .i64 lit] w fun e w' => e = .returned (.bool true) ∧ Below w.heap.size w w' := by
  have SZ := hide (fun (W : World) (hb : Below w.heap.size w W) => szAig_of x u W 1048576 (Nat.le_refl _) (hr.later hb))
  have TN := hide (fun (hl : szAig x ≤ 1048576) (W : World) (hb : Below w.heap.size w W) => toAig_of x u W hl (hr.later hb))
  obtain ⟨v0, v1, v2, v3, v4, v5, rfl, h0, h1, h2, h3, h4, h5⟩ := hr
  obtain ⟨s0, c0, e0⟩ := h0.slice
  obtain ⟨s1, c1, e1⟩ := h1.slice
  obtain ⟨s2, c2, e2⟩ := h2.slice
  obtain ⟨s3, c3, e3⟩ := h3.slice
  obtain ⟨s4, c4, e4⟩ := h4.slice
  obtain ⟨s5, c5, e5⟩ := h5.slice
  subst e0 e1 e2 e3 e4 e5
  clear h0 h1 h2 h3 h4 h5
  show Calls Try.prog 3 #[.agg #[.slice s0 x.ins.length c0, .slice s1 x.clocks.length c1, .slice s2 x.latches.length c2, .slice s3 x.ands.length c3, .slice s4 x.outs.length c4, .slice s5 x.checks.length c5], .int .i64 lit] w _
  change Hid (∀ (W : World), Below w.heap.size w W → Calls Try.prog 4 #[.agg #[.slice s0 x.ins.length c0, .slice s1 x.clocks.length c1, .slice s2 x.latches.length c2, .slice s3 x.ands.length c3, .slice s4 x.outs.length c4, .slice s5 x.checks.length c5], .int .i64 (1048576 : Int)] W _) at SZ
  change Hid (∀ (hl : szAig x ≤ 1048576) (W : World), Below w.heap.size w W → Calls Try.prog 6 #[.agg #[.slice s0 x.ins.length c0, .slice s1 x.clocks.length c1, .slice s2 x.latches.length c2, .slice s3 x.ands.length c3, .slice s4 x.outs.length c4, .slice s5 x.checks.length c5]] W _) at TN
  by_cases hs : szAig x ≤ 1048576
  · have hsz := szR_le hs
    rw [hsz] at SZ
    have hneg : decide (((1048576 - szAig x : Nat) : Int) < 0) = false := decide_eq_false (by omega)
    have TN' := hide (fun W hb => unhide TN hs W hb)
    have HS := hide hs
    clear TN hsz
    generalize ((1048576 - szAig x : Nat) : Int) = left1 at *
    have hrl := tsL_len x lit
    have HRM : Hid ((tsL x lit).length ≤ maxLen) := hide (by unfold maxLen; omega)
    have HRS := hide (tsL_small x lit)
    have HSR := hide (fun (u : List Value) (W : World) (h : RAig W 0 x u) => sTs x u lit W hs h)
    have HIR := hide (fun (u : List Value) (W : World) (h : RAig W 0 x u) => iTs x u lit W hs h)
    generalize tsL x lit = rs at *
    generalize tsV x lit = rv at *
    generalize tsK x lit = rc at *
    have hne : (rc != rc) = false := by simp
    have hnv : (rv != rv) = false := by simp
    clear hs
    have HMR := hide (fun (B E : Nat) (v : Value) (W : World) (h : CP B E W v rs) => markRows rs v W hrl (unhide HRS) h)
    have HHR := hide (fun (B E : Nat) (v : Value) (W : World) (h : CP B E W v (mrows 1 rs)) => heldRows rs v W hrl (unhide HRS) h)
    obtain ⟨mm, hmm⟩ : ∃ mm : Nat, mm = 1 + tot rs := ⟨_, rfl⟩
    rw [← hmm] at HMR HHR
    have hnm : ((mm : Int) != (mm : Int)) = false := by simp
    have hnmn : decide ((mm : Int) < 0) = false := decide_eq_false (by omega)
    clear hmm
    go_enter Try.func3, Try.ntmps3
    go_wp2_with fail
    refine (unhide SZ _ (bal (brf w) _)).mono ?_
    rintro e W1 ⟨rfl, hb1⟩
    have HX1 : Hid (B6 27 w (.slice s0 x.ins.length c0) (.slice s1 x.clocks.length c1) (.slice s2 x.latches.length c2) (.slice s3 x.ands.length c3) (.slice s4 x.outs.length c4) (.slice s5 x.checks.length c5) W1) := hide hb1
    clear hb1 SZ
    obtain ⟨q0, q1, q2, q3, q4, q5⟩ := (unhide HX1).get
    go_wp2_with fail
    refine (unhide TN' _ (unhide HX1).below).mono ?_
    rintro e W2 ⟨⟨u1, rfl, hr1⟩, hb2, _⟩
    have HX2 := hide ((unhide HX1).then hb2)
    have HR1 := hide hr1.any
    clear hb2 hr1 q0 q1 q2 q3 q4 q5 HX1
    go_wp2_with fail
    refine (unhide HSR u1 _ (unhide HR1)).mono ?_
    rintro e W3 ⟨⟨vw, rfl, how⟩, hb3⟩
    have HX3 := hide ((unhide HX2).then hb3)
    have HOW := hide how
    obtain ⟨wa, wc, rfl⟩ := how.slice
    clear hb3 how HX2 HR1 HSR
    obtain ⟨q0, q1, q2, q3, q4, q5⟩ := (unhide HX3).get
    go_wp2_with fail
    refine (unhide TN' _ (unhide HX3).below).mono ?_
    rintro e W4 ⟨⟨u2, rfl, hr2⟩, hb4, hnf⟩
    have HX4 := hide ((unhide HX3).then hb4)
    have HR2 := hide hr2
    have HNF := hide hnf
    have HB34 := hide hb4
    obtain ⟨y0, y1, y2, y3, y4, y5, rfl, g0, g1, g2, g3, g4, g5⟩ := hr2
    obtain ⟨a0, f0, e0⟩ := g0.slice
    obtain ⟨a1, f1, e1⟩ := g1.slice
    obtain ⟨a2, f2, e2⟩ := g2.slice
    obtain ⟨a3, f3, e3⟩ := g3.slice
    obtain ⟨a4, f4, e4⟩ := g4.slice
    obtain ⟨a5, f5, e5⟩ := g5.slice
    subst e0 e1 e2 e3 e4 e5
    have hsz4 := hb4.size
    clear hb4 hnf g0 g1 g2 g3 g4 g5 q0 q1 q2 q3 q4 q5
    go_wp2_with fail
    refine (unhide HIR [.slice a0 x.ins.length f0, .slice a1 x.clocks.length f1, .slice a2 x.latches.length f2, .slice a3 x.ands.length f3, .slice a4 x.outs.length f4, .slice a5 x.checks.length f5] _ ((unhide HR2).any.later (bal (brf W4) _))).mono ?_
    rintro e W6 ⟨⟨vg, Eg, rfl, hog⟩, hb6⟩
    have HY6 : Hid (B6 36 W4 (.slice a0 x.ins.length f0) (.slice a1 x.clocks.length f1) (.slice a2 x.latches.length f2) (.slice a3 x.ands.length f3) (.slice a4 x.outs.length f4) (.slice a5 x.checks.length f5) W6) := hide hb6
    have HB46 := hide (unhide HY6).below
    have HX6 := hide ((unhide HX4).then (unhide HB46))
    rw [World.size_alloc] at hog
    have HOG := hide hog
    obtain ⟨ga, gc, rfl⟩ := hog.shape
    clear hb6 hog HX4
    have G1 := hide (RS.low RIntS.lowers (Nat.zero_le _) ((unhide HOG).read (unhide HRM) (unhide HRS)))
    have G2 := hide ((unhide HOW).later RIntS.keeps (btr (unhide HB34) (unhide HB46)))
    go_wp2_with fail
    refine (eqIntSS_of rs _ _ _ (unhide G1) (unhide G2)).mono ?_
    rintro e W7 ⟨rfl, hb7⟩
    have HX7 := hide ((unhide HX6).then hb7)
    have HY7 := hide ((unhide HY6).then hb7)
    have HB47 := hide (btr (unhide HB46) hb7)
    have HOG7 := hide ((unhide HOG).later hb7)
    clear hb7 HX6 HY6 HB46 HOG G1 G2
    have EQ := hide (fun W (u3 : Array Value) (h : RAig W 0 x [.slice a0 x.ins.length f0, .slice a1 x.clocks.length f1, .slice a2 x.latches.length f2, .slice a3 x.ands.length f3, .slice a4 x.outs.length f4, .slice a5 x.checks.length f5]) (h3 : RAig W 0 x u3.toList) => (show Calls Try.prog 9 #[.agg #[.slice a0 x.ins.length f0, .slice a1 x.clocks.length f1, .slice a2 x.latches.length f2, .slice a3 x.ands.length f3, .slice a4 x.outs.length f4, .slice a5 x.checks.length f5], .agg u3] W _ from eqAig_of x _ u3.toList W h h3))
    have HR7 := hide ((unhide HR2).any.later (unhide HB47))
    go_wp2_with fail
    have LS := FL10_lasts x (.agg #[.slice a0 x.ins.length f0, .slice a1 x.clocks.length f1, .slice a2 x.latches.length f2, .slice a3 x.ands.length f3, .slice a4 x.outs.length f4, .slice a5 x.checks.length f5]) (.agg #[.slice s0 x.ins.length c0, .slice s1 x.clocks.length c1, .slice s2 x.latches.length c2, .slice s3 x.ands.length c3, .slice s4 x.outs.length c4, .slice s5 x.checks.length c5])
    refine wp_plan (GW (FL10 x (.agg #[.slice a0 x.ins.length f0, .slice a1 x.clocks.length f1, .slice a2 x.latches.length f2, .slice a3 x.ands.length f3, .slice a4 x.outs.length f4, .slice a5 x.checks.length f5]) (.agg #[.slice s0 x.ins.length c0, .slice s1 x.clocks.length c1, .slice s2 x.latches.length c2, .slice s3 x.ands.length c3, .slice s4 x.outs.length c4, .slice s5 x.checks.length c5]))) (JB W7) (by kernel_rfl) 122 (by kernel_rfl) (by kernel_rfl) ?hj ?hs ?hf
    case hj => exact bdr (brf W7)
    case hs =>
      refine ⟨?_, ?_, ?_, ?_, ?_, trivial⟩
      · exact sl_val rfl (fun l a V hp ha => ⟨.agg #[.slice a0 x.ins.length f0, .slice a1 x.clocks.length f1, .slice a2 x.latches.length f2, .slice a3 x.ands.length f3, .slice a4 x.outs.length f4, .slice a5 x.checks.length f5], by
          have x9 := (ev_form a 9).trans (old hp 9 (v := .pointer (some ⟨W4.heap.size, 0, none⟩)) (by kernel_rfl) (by kernel_rfl))
          obtain ⟨p0, p1, p2, p3, p4, p5⟩ := ((unhide HY7).then hp.j).get
          go_simp, rfl⟩)
      · exact sl_val rfl (fun l a V hp ha => ⟨.agg #[.slice s0 x.ins.length c0, .slice s1 x.clocks.length c1, .slice s2 x.latches.length c2, .slice s3 x.ands.length c3, .slice s4 x.outs.length c4, .slice s5 x.checks.length c5], by
          have x2 := (ev_form a 2).trans (old hp 2 (v := .pointer (some ⟨w.heap.size, 0, none⟩)) (by kernel_rfl) (by kernel_rfl))
          obtain ⟨p0, p1, p2, p3, p4, p5⟩ := ((unhide HX7).then hp.j).get
          go_simp, rfl⟩)
      · exact sl_call (f := 6) LS rfl (fun l a V hp ha => ⟨#[.agg #[.slice s0 x.ins.length c0, .slice s1 x.clocks.length c1, .slice s2 x.latches.length c2, .slice s3 x.ands.length c3, .slice s4 x.outs.length c4, .slice s5 x.checks.length c5]], by
          have x56 := (ev_form a 56).trans (show a.eval (.tmp 56) = .agg #[.slice s0 x.ins.length c0, .slice s1 x.clocks.length c1, .slice s2 x.latches.length c2, .slice s3 x.ands.length c3, .slice s4 x.outs.length c4, .slice s5 x.checks.length c5] from kn hp ha 56 1 (by kernel_rfl) (by kernel_rfl))
          go_simp, (unhide TN' V (btr (unhide HX7).below hp.j)).mono (by rintro e V1 ⟨⟨u3, rfl, hr3⟩, hb, _⟩; exact ⟨_, rfl, ⟨u3.toArray, rfl, by simpa using hr3.any⟩, hb⟩)⟩)
      · refine sl_call (f := 9) LS rfl (fun l a V hp ha => ?_)
        have x55 := (ev_form a 55).trans (show a.eval (.tmp 55) = .agg #[.slice a0 x.ins.length f0, .slice a1 x.clocks.length f1, .slice a2 x.latches.length f2, .slice a3 x.ands.length f3, .slice a4 x.outs.length f4, .slice a5 x.checks.length f5] from kn hp ha 55 0 (by kernel_rfl) (by kernel_rfl))
        obtain ⟨u3, h57, hr3⟩ : ∃ u3, a.eval (.tmp 57) = .agg u3 ∧ RAig V 0 x u3.toList := kn hp ha 57 2 (by kernel_rfl) (by kernel_rfl)
        have x57 := (ev_form a 57).trans h57
        refine ⟨#[.agg #[.slice a0 x.ins.length f0, .slice a1 x.clocks.length f1, .slice a2 x.latches.length f2, .slice a3 x.ands.length f3, .slice a4 x.outs.length f4, .slice a5 x.checks.length f5], .agg u3], by go_simp, (unhide EQ V u3 ((unhide HR7).later hp.j) hr3).mono ?_⟩
        rintro e V1 ⟨rfl, hb⟩
        exact ⟨_, rfl, rfl, hb⟩
      · exact sl_val rfl (fun l a V hp ha => ⟨.bool false, by
          have x58 := (ev_form a 58).trans (show a.eval (.tmp 58) = .bool true from kn hp ha 58 3 (by kernel_rfl) (by kernel_rfl))
          go_simp, rfl⟩)
    case hf =>
    intro l a W8 hp hall
    have hv := hp.good 4 _ 59 rfl rfl (hall 4 (by decide))
    have hb8 : Below W7.heap.size W7 W8 := hp.j
    obtain ⟨us, rfl, hus⟩ := putAll_of [55, 56, 57, 58, 59] hp.nt hp.df (fun t ht => hp.keep t (dstIn (by kernel_rfl) ht))
    have hv2 : us 59 = .bool false := by rw [hus 59]; exact hv
    clear hp hall hv hus
    simp only [putAll, List.foldl, Act.put, List.setIfInBounds_toArray, List.set_cons_zero, List.set_cons_succ, hv2]
    clear hv2
    generalize us 55 = z55 at *
    generalize us 56 = z56 at *
    generalize us 57 = z57 at *
    generalize us 58 = z58 at *
    have HX8 := hide ((unhide HX7).then hb8)
    have HY8 := hide ((unhide HY7).then hb8)
    have HB48 := hide (btr (unhide HB47) hb8)
    have HOG8 := hide ((unhide HOG7).later hb8)
    clear hb8 HX7 HY7 HB47 HOG7 EQ HR7 LS
    obtain ⟨p0, p1, p2, p3, p4, p5⟩ := (unhide HY8).get
    go_wp2_with fail
    refine (markAig_of x _ W4 W3.heap.size (unhide HR2) (unhide HS) (unhide HNF) W8 (MK.later (.refl _ _ _) (unhide HB48))).mono ?_
    rintro e W11 ⟨⟨k, rfl, k0, k1⟩, hm11⟩
    have hs48 := (unhide HB48).size
    have HB811 := hide (hm11.under (B := W3.heap.size) (by omega))
    have HB311 := hide ((btr (unhide HB34) (unhide HB48)).trans (unhide HB811))
    have HOG11 := hide ((unhide HOG8).beyond hm11 (Nat.le_succ _))
    have hsz3 := (unhide HB311).size
    have hneg8 : decide (k < 0) = false := decide_eq_false (by omega)
    have sz11 := hm11.size
    clear hm11 HX8 HY8 HOG8 p0 p1 p2 p3 p4 p5 HB811
    have G1 := hide (RS.low RIntS.lowers (Nat.zero_le _) ((unhide HOG11).read (unhide HRM) (unhide HRS)))
    have G2 := hide ((unhide HOW).later RIntS.keeps (unhide HB311))
    clear k0 k1
    go_wp2_with fail
    refine (eqIntSS_of rs _ _ _ (unhide G1) (unhide G2)).mono ?_
    rintro e W12 ⟨rfl, hb12⟩
    have HB312 := hide (btr (unhide HB311) hb12)
    have HOG12 := hide ((unhide HOG11).later hb12)
    have sz12 := hb12.size
    clear hb12 HB311 HOG11 G1 G2
    go_wp2_with fail
    refine (unhide HMR _ _ _ _ (unhide HOG12)).mono ?_
    rintro e W13 ⟨rfl, hmk, hb13⟩
    have HB313 := hide ((unhide HB312).trans (hb13.mono (show W3.heap.size ≤ W4.heap.size + 1 by omega)))
    have HMK := hide hmk
    clear hmk hb13 HB312 HOG12
    go_wp2_with fail
    refine (unhide HHR _ _ _ _ (unhide HMK)).mono ?_
    rintro e W14 ⟨rfl, hb14⟩
    have HB314 := hide (btr (unhide HB313) hb14)
    have HMK14 := hide ((unhide HMK).later hb14)
    have HX14 : Hid (B6 27 w (.slice s0 x.ins.length c0) (.slice s1 x.clocks.length c1) (.slice s2 x.latches.length c2) (.slice s3 x.ands.length c3) (.slice s4 x.outs.length c4) (.slice s5 x.checks.length c5) W14) := hide (Below.trans (unhide HX3) ((unhide HB314).mono (by have := (unhide HX3).size; omega)))
    clear hb14 HB313 HMK
    obtain ⟨q0, q1, q2, q3, q4, q5⟩ := (unhide HX14).get
    go_wp2_with fail
    refine (unhide TN' _ (unhide HX14).below).mono ?_
    rintro e W15 ⟨⟨u4, rfl, hr4⟩, hb15, _⟩
    have HX15 := hide ((unhide HX14).then hb15)
    have HB315 := hide (btr (unhide HB314) hb15)
    have HMK15 := hide ((unhide HMK14).later hb15)
    have HR4 := hide hr4.any
    clear hb15 hr4 q0 q1 q2 q3 q4 q5 HX14 HB314 HMK14
    go_wp2_with fail
    refine (unhide HIR _ _ (unhide HR4)).mono ?_
    rintro e W16 ⟨⟨vh, Eh, rfl, hoh⟩, hb16⟩
    have HX16 := hide ((unhide HX15).then hb16)
    have HB316 := hide (btr (unhide HB315) hb16)
    have HMK16 := hide ((unhide HMK15).later hb16)
    have HOH := hide hoh
    obtain ⟨ha, hc, rfl⟩ := hoh.shape
    clear hb16 hoh HX15 HB315 HMK15 HR4
    have G1 := hide (RS.low RIntS.lowers (Nat.zero_le _) ((unhide HOH).read (unhide HRM) (unhide HRS)))
    have G2 := hide ((unhide HOW).later RIntS.keeps (unhide HB316))
    go_wp2_with fail
    refine (eqIntSS_of rs _ _ _ (unhide G1) (unhide G2)).mono ?_
    rintro e W17 ⟨rfl, hb17⟩
    have HX17 := hide ((unhide HX16).then hb17)
    have HMK17 := hide ((unhide HMK16).later hb17)
    clear hb17 G1 G2 HX16 HMK16
    go_wp2_with fail
    refine (unhide HHR _ _ _ _ (unhide HMK17)).mono ?_
    rintro e W18 ⟨rfl, hb18⟩
    have HB := hide (btr (unhide HX17).below hb18)
    clear HX17 HMK17 HHR hb18
    go_wp2
    exact bodyPost_ret (v := .bool true) (by simp [results, Try.results3, go_sem]) rfl ⟨rfl, unhide HB⟩
  · have hsz := szR_lt (s := szAig x) (left := 1048576) (by omega)
    rw [hsz] at SZ
    clear TN
    go_enter Try.func3, Try.ntmps3
    go_wp2_with fail
    refine (unhide SZ _ (bal (brf w) _)).mono ?_
    rintro e W1 ⟨rfl, hb1⟩
    have HB := hide (btr (bal (brf w) _) hb1)
    clear hb1
    go_wp2
    exact bodyPost_ret (v := .bool true) (by simp [results, Try.results3, go_sem]) rfl ⟨rfl, unhide HB⟩
end Go.Proofs.Ytnoklbnacfmpdac
