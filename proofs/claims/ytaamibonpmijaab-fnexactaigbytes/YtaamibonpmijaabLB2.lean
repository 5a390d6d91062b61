/- The law FnExactAigBytes. -/
import Derived.Test.YtaamibonpmijaabSB5
import Derived.Test.YtaamibonpmijaabLB1
import Derived.Test.YtaamibonpmijaabDM
import Derived.Test.YtaamibonpmijaabDS
import Derived.Test.YtaamibonpmijaabDT
import Derived.Test.YtaamibonpmijaabDE
namespace Go.Proofs.Ytaamibonpmijaab
open Go Go.RowKit Gs
set_option linter.unusedVariables false
set_option linter.unusedSimpArgs false
set_option maxRecDepth 100000
theorem MK.under {B E : Nat} {W V : World} (h : MK B E W V) (hB : B ≤ W.heap.size) : Below B W V := ⟨h.os, h.tape, h.output, h.size, fun k hk => h.block k (by omega) (.inl hk)⟩
theorem OB.beyond {B E B' : Nat} {W V : World} {v : Value} {xs : List UInt8} (h : OB B' W v xs) (hm : MK B E W V) (hE : E ≤ B') : OB B' V v xs := by
  obtain ⟨h1, h2 | ⟨g, cap, cur, hv, hg, hc, rest⟩⟩ := h
  · exact ⟨h1, .inl h2⟩
  · exact ⟨h1, .inr ⟨g, cap, cur, hv, hg, (hm.block g (Array.getElem?_eq_some_iff.1 hc).1 (.inr (by omega))).trans hc, rest⟩⟩
theorem ansB_len (ok : Bool) (bs : List UInt8) : (ansB ok bs).1.length ≤ 65536 := by
  unfold ansB
  split
  · split
    · simp
    · simp only; omega
  · simp
theorem OB.under {B : Nat} {v : Value} {xs : List UInt8} {W V : World} (h : OB B W v xs) (hb : Below W.heap.size W V) (hl : xs.length ≤ 65536) : RS 1 RByte V 0 xs v := RS.low RByte.lowers (Nat.zero_le _) ((h.later hb).read (by unfold maxLen; omega))
set_option maxHeartbeats 32000000 in
theorem lAigBytes (x : Aig) (u : List Value) (w : World) (hr : RAig w 0 x u) :
    Calls Try.prog 3 #[.agg u.toArray] w fun e w' => e = .returned (.bool true) ∧ Below w.heap.size w w' := by
  have SZ := hide (fun (W : World) (hb : Below w.heap.size w W) => szAig_of x u W 1048576 (Nat.le_refl _) (hr.later hb))
  have TN := hide (fun (hl : szAig x ≤ 1048576) (W : World) (hb : Below w.heap.size w W) => toAig_of x u W hl (hr.later hb))
  obtain ⟨v0, v1, v2, v3, v4, v5, rfl, h0, h1, h2, h3, h4, h5⟩ := hr
  obtain ⟨a0, c0, e0⟩ := h0.slice
  obtain ⟨a1, c1, e1⟩ := h1.slice
  obtain ⟨a2, c2, e2⟩ := h2.slice
  obtain ⟨a3, c3, e3⟩ := h3.slice
  obtain ⟨a4, c4, e4⟩ := h4.slice
  obtain ⟨a5, c5, e5⟩ := h5.slice
  subst e0 e1 e2 e3 e4 e5
  clear h0 h1 h2 h3 h4 h5
  show Calls Try.prog 3 #[.agg #[.slice a0 x.ins.length c0, .slice a1 x.clocks.length c1, .slice a2 x.latches.length c2, .slice a3 x.ands.length c3, .slice a4 x.outs.length c4, .slice a5 x.checks.length c5]] w _
  change Hid (∀ (W : World), Below w.heap.size w W → Calls Try.prog 4 #[.agg #[.slice a0 x.ins.length c0, .slice a1 x.clocks.length c1, .slice a2 x.latches.length c2, .slice a3 x.ands.length c3, .slice a4 x.outs.length c4, .slice a5 x.checks.length c5], .int .i64 (1048576 : Int)] W _) at SZ
  change Hid (∀ (hl : szAig x ≤ 1048576) (W : World), Below w.heap.size w W → Calls Try.prog 6 #[.agg #[.slice a0 x.ins.length c0, .slice a1 x.clocks.length c1, .slice a2 x.latches.length c2, .slice a3 x.ands.length c3, .slice a4 x.outs.length c4, .slice a5 x.checks.length c5]] W _) at TN
  by_cases hs : szAig x ≤ 1048576
  · have hsz := szR_le hs
    have hneg : decide ((((1048576 - szAig x : Nat) : Int)) < 0) = false := decide_eq_false (by omega)
    have TN' := hide (fun W hb => unhide TN hs W hb)
    have HS := hide hs
    rw [hsz] at SZ
    clear TN hsz
    generalize ((1048576 - szAig x : Nat) : Int) = left at *
    have hrl := ansB_len (aigS x) (bytesA x)
    have HSR := hide (fun (u : List Value) (W : World) (h : RAig W 0 x u) => sAigBytes x u W hs h)
    have HIR := hide (fun (u : List Value) (W : World) (h : RAig W 0 x u) => iAigBytes x u W hs h)
    rw [aig_same x] at HIR
    generalize (ansB (aigS x) (bytesA x)).1 = rs at *
    generalize (ansB (aigS x) (bytesA x)).2 = rc at *
    have hne : (rc != rc) = false := by simp
    clear hs
    go_enter Try.func3, Try.ntmps3
    go_wp2_with fail
    refine (unhide SZ _ (bal (brf w) _)).mono ?_
    rintro e W1 ⟨rfl, hb1⟩
    have HX1 : Hid (B6 27 w (.slice a0 x.ins.length c0) (.slice a1 x.clocks.length c1) (.slice a2 x.latches.length c2) (.slice a3 x.ands.length c3) (.slice a4 x.outs.length c4) (.slice a5 x.checks.length c5) W1) := hide hb1
    clear hb1 SZ
    obtain ⟨q0, q1, q2, q3, q4, q5⟩ := (unhide HX1).get
    go_wp2_with fail
    refine (unhide TN' _ (unhide HX1).below).mono ?_
    rintro e W2 ⟨⟨u1, rfl, hr1⟩, hb2, _⟩
    have HX2 := hide ((unhide HX1).then hb2)
    have HR1 := hide hr1.any
    clear hb2 hr1 q0 q1 q2 q3 q4 q5 HX1
    go_wp2_with fail
    refine (unhide HSR u1 _ (unhide HR1)).mono ?_
    rintro e W3 ⟨⟨vw, rfl, how⟩, hb3⟩
    have HX3 := hide ((unhide HX2).then hb3)
    have HOW := hide how
    obtain ⟨wa, wl, wc, rfl⟩ := how.shape3
    clear hb3 how HX2 HR1 HSR
    obtain ⟨q0, q1, q2, q3, q4, q5⟩ := (unhide HX3).get
    go_wp2_with fail
    refine (unhide TN' _ (unhide HX3).below).mono ?_
    rintro e W4 ⟨⟨u2, rfl, hr2⟩, hb4, hnf⟩
    have HX4 := hide ((unhide HX3).then hb4)
    have HR2 := hide hr2
    have HNF := hide hnf
    have HB34 := hide hb4
    have HS34 := hide hb4.size
    obtain ⟨y0, y1, y2, y3, y4, y5, rfl, g0, g1, g2, g3, g4, g5⟩ := hr2
    obtain ⟨d0, f0, e0⟩ := g0.slice
    obtain ⟨d1, f1, e1⟩ := g1.slice
    obtain ⟨d2, f2, e2⟩ := g2.slice
    obtain ⟨d3, f3, e3⟩ := g3.slice
    obtain ⟨d4, f4, e4⟩ := g4.slice
    obtain ⟨d5, f5, e5⟩ := g5.slice
    subst e0 e1 e2 e3 e4 e5
    clear hb4 hnf g0 g1 g2 g3 g4 g5 q0 q1 q2 q3 q4 q5
    go_wp2_with fail
    refine (unhide HIR [.slice d0 x.ins.length f0, .slice d1 x.clocks.length f1, .slice d2 x.latches.length f2, .slice d3 x.ands.length f3, .slice d4 x.outs.length f4, .slice d5 x.checks.length f5] _ ((unhide HR2).any.later (bal (brf _) _))).mono ?_
    rintro e W5 ⟨⟨vg, rfl, hog⟩, hb5⟩
    have HY : Hid (B6 36 W4 (.slice d0 x.ins.length f0) (.slice d1 x.clocks.length f1) (.slice d2 x.latches.length f2) (.slice d3 x.ands.length f3) (.slice d4 x.outs.length f4) (.slice d5 x.checks.length f5) W5) := hide hb5
    have HX5 := hide ((unhide HX4).then (unhide HY).below)
    have HB35 := hide (btr (unhide HB34) (unhide HY).below)
    have HB45 := hide (unhide HY).below
    obtain ⟨BG, hBG⟩ : ∃ BG, BG = (W4.alloc (.cells #[.slice d0 x.ins.length f0, .slice d1 x.clocks.length f1, .slice d2 x.latches.length f2, .slice d3 x.ands.length f3, .slice d4 x.outs.length f4, .slice d5 x.checks.length f5] 36)).heap.size := ⟨_, rfl⟩
    rw [← hBG] at hog
    have hBG4 : W4.heap.size ≤ BG := by rw [hBG]; simp
    have hBG5 : BG ≤ W5.heap.size := by rw [hBG]; exact hb5.size
    have HOG := hide hog
    obtain ⟨ga, gl, gc, rfl⟩ := hog.shape3
    clear hb5 hog HX4 HB34 hBG
    have G1 := hide ((unhide HOG).under (brf _) hrl)
    have G2 := hide ((unhide HOW).under (unhide HB35) hrl)
    go_wp2_with fail
    refine (eqByteS_of rs _ _ _ (unhide G1) (unhide G2)).mono ?_
    rintro e W6 ⟨rfl, hb6⟩
    have HX6 := hide ((unhide HX5).then hb6)
    have HY6 := hide ((unhide HY).then hb6)
    have HB36 := hide (btr (unhide HB35) hb6)
    have HB46 := hide (btr (unhide HB45) hb6)
    have HOG6 := hide ((unhide HOG).later hb6)
    have HSZ56 := hide hb6.size
    clear hb6 HX5 HY HB35 HB45 HOG G1 G2
    have EQ := hide (fun W (u3 : Array Value) (h : RAig W 0 x [.slice d0 x.ins.length f0, .slice d1 x.clocks.length f1, .slice d2 x.latches.length f2, .slice d3 x.ands.length f3, .slice d4 x.outs.length f4, .slice d5 x.checks.length f5]) (h3 : RAig W 0 x u3.toList) => (show Calls Try.prog 9 #[.agg #[.slice d0 x.ins.length f0, .slice d1 x.clocks.length f1, .slice d2 x.latches.length f2, .slice d3 x.ands.length f3, .slice d4 x.outs.length f4, .slice d5 x.checks.length f5], .agg u3] W _ from eqAig_of x _ u3.toList W h h3))
    go_wp2
    have LS := FL10_lasts x (.agg #[.slice d0 x.ins.length f0, .slice d1 x.clocks.length f1, .slice d2 x.latches.length f2, .slice d3 x.ands.length f3, .slice d4 x.outs.length f4, .slice d5 x.checks.length f5]) (.agg #[.slice a0 x.ins.length c0, .slice a1 x.clocks.length c1, .slice a2 x.latches.length c2, .slice a3 x.ands.length c3, .slice a4 x.outs.length c4, .slice a5 x.checks.length c5])
    refine wp_plan (GW (FL10 x (.agg #[.slice d0 x.ins.length f0, .slice d1 x.clocks.length f1, .slice d2 x.latches.length f2, .slice d3 x.ands.length f3, .slice d4 x.outs.length f4, .slice d5 x.checks.length f5]) (.agg #[.slice a0 x.ins.length c0, .slice a1 x.clocks.length c1, .slice a2 x.latches.length c2, .slice a3 x.ands.length c3, .slice a4 x.outs.length c4, .slice a5 x.checks.length c5]))) (JB W6) (by kernel_rfl) 96 (by kernel_rfl) (by kernel_rfl) ?hj ?hs ?hf
    case hj => exact bdr (brf W6)
    case hs =>
      refine ⟨?_, ?_, ?_, ?_, ?_, trivial⟩
      · exact sl_val rfl (fun l a V hp ha => ⟨.agg #[.slice d0 x.ins.length f0, .slice d1 x.clocks.length f1, .slice d2 x.latches.length f2, .slice d3 x.ands.length f3, .slice d4 x.outs.length f4, .slice d5 x.checks.length f5], by
          have x6 := (ev_form a 6).trans (old hp 6 (v := .pointer (some ⟨W4.heap.size, 0, none⟩)) (by kernel_rfl) (by kernel_rfl))
          obtain ⟨p0, p1, p2, p3, p4, p5⟩ := ((unhide HY6).then hp.j).get
          go_simp, rfl⟩)
      · exact sl_val rfl (fun l a V hp ha => ⟨.agg #[.slice a0 x.ins.length c0, .slice a1 x.clocks.length c1, .slice a2 x.latches.length c2, .slice a3 x.ands.length c3, .slice a4 x.outs.length c4, .slice a5 x.checks.length c5], by
          have x1 := (ev_form a 1).trans (old hp 1 (v := .pointer (some ⟨w.heap.size, 0, none⟩)) (by kernel_rfl) (by kernel_rfl))
          obtain ⟨p0, p1, p2, p3, p4, p5⟩ := ((unhide HX6).then hp.j).get
          go_simp, rfl⟩)
      · exact sl_call (f := 6) LS rfl (fun l a V hp ha => ⟨#[.agg #[.slice a0 x.ins.length c0, .slice a1 x.clocks.length c1, .slice a2 x.latches.length c2, .slice a3 x.ands.length c3, .slice a4 x.outs.length c4, .slice a5 x.checks.length c5]], by
          have x42 := (ev_form a 42).trans (show a.eval (.tmp 42) = .agg #[.slice a0 x.ins.length c0, .slice a1 x.clocks.length c1, .slice a2 x.latches.length c2, .slice a3 x.ands.length c3, .slice a4 x.outs.length c4, .slice a5 x.checks.length c5] from kn hp ha 42 1 (by kernel_rfl) (by kernel_rfl))
          go_simp, (unhide TN' V (btr (unhide HX6).below hp.j)).mono (by rintro e V1 ⟨⟨u3, rfl, hr3⟩, hb, _⟩; exact ⟨_, rfl, ⟨u3.toArray, rfl, by simpa using hr3.any⟩, hb⟩)⟩)
      · refine sl_call (f := 9) LS rfl (fun l a V hp ha => ?_)
        have x41 := (ev_form a 41).trans (show a.eval (.tmp 41) = .agg #[.slice d0 x.ins.length f0, .slice d1 x.clocks.length f1, .slice d2 x.latches.length f2, .slice d3 x.ands.length f3, .slice d4 x.outs.length f4, .slice d5 x.checks.length f5] from kn hp ha 41 0 (by kernel_rfl) (by kernel_rfl))
        obtain ⟨u3, h43, hr3⟩ : ∃ u3, a.eval (.tmp 43) = .agg u3 ∧ RAig V 0 x u3.toList := kn hp ha 43 2 (by kernel_rfl) (by kernel_rfl)
        have x43 := (ev_form a 43).trans h43
        refine ⟨#[.agg #[.slice d0 x.ins.length f0, .slice d1 x.clocks.length f1, .slice d2 x.latches.length f2, .slice d3 x.ands.length f3, .slice d4 x.outs.length f4, .slice d5 x.checks.length f5], .agg u3], by go_simp, (unhide EQ V u3 ((unhide HR2).any.later (btr (unhide HB46) hp.j)) hr3).mono ?_⟩
        rintro e V1 ⟨rfl, hb⟩
        exact ⟨_, rfl, rfl, hb⟩
      · exact sl_val rfl (fun l a V hp ha => ⟨.bool false, by
          have x44 := (ev_form a 44).trans (show a.eval (.tmp 44) = .bool true from kn hp ha 44 3 (by kernel_rfl) (by kernel_rfl))
          go_simp, rfl⟩)
    case hf =>
      intro l a W7 hp hall
      have hv := hp.good 4 _ 45 rfl rfl (hall 4 (by decide))
      have hb7 := hp.j
      obtain ⟨us, rfl, hus⟩ := putAll_of [41, 42, 43, 44, 45] hp.nt hp.df (fun t ht => hp.keep t (dstIn (by kernel_rfl) ht))
      have hv2 : us 45 = .bool false := by rw [hus 45]; exact hv
      clear hp hall hv hus
      simp only [putAll, List.foldl, Act.put, List.setIfInBounds_toArray, List.set_cons_zero, List.set_cons_succ, hv2]
      have HX7 := hide ((unhide HX6).then hb7)
      have HY7 := hide ((unhide HY6).then hb7)
      have HB37 := hide (btr (unhide HB36) hb7)
      have HB47 := hide (btr (unhide HB46) hb7)
      have HOG7 := hide ((unhide HOG6).later hb7)
      have hs37 := (unhide HB37).size
      have hs47 : BG ≤ W7.heap.size := Nat.le_trans hBG5 (Nat.le_trans (unhide HSZ56) hb7.size)
      clear hb7 HX6 HY6 HB36 HB46 HOG6 EQ hv2
      obtain ⟨p0, p1, p2, p3, p4, p5⟩ := (unhide HY7).get
      go_wp2_with fail
      refine (markAig_of x _ W4 W3.heap.size (unhide HR2) (unhide HS) (unhide HNF) W7 (MK.later (.refl _ _ _) (unhide HB47))).mono ?_
      rintro e W8 ⟨⟨k, rfl, k0, k1⟩, hm8⟩
      have HB38 := hide ((unhide HB37).trans (hm8.under hs37))
      have HOG8 := hide ((unhide HOG7).beyond hm8 hBG4)
      have hs78 := hm8.size
      have hneg8 : decide (k < 0) = false := decide_eq_false (by omega)
      clear hm8 HX7 HY7 HB37 HOG7 p0 p1 p2 p3 p4 p5 HR2 HNF
      have G1 := hide ((unhide HOG8).under (brf _) hrl)
      have G2 := hide ((unhide HOW).under (unhide HB38) hrl)
      go_wp2_with fail
      refine (eqByteS_of rs _ _ _ (unhide G1) (unhide G2)).mono ?_
      rintro e W9 ⟨rfl, hb9⟩
      have HB39 := hide (btr (unhide HB38) hb9)
      have HOG9 := hide ((unhide HOG8).later hb9)
      have hs49 : BG ≤ W9.heap.size := by
        have := hb9.size
        omega
      have hs3G : W3.heap.size ≤ BG := by
        have := (unhide HS34)
        omega
      clear hb9 HB38 HOG8 G1 G2 k0 k1
      go_wp2_with fail
      refine ((unhide HOG9).marked hrl hs49).mono ?_
      rintro e W10 ⟨rfl, hmk, hb10⟩
      have HB310 := hide ((unhide HB39).trans (hb10.mono hs3G))
      have HMK := hide hmk
      obtain ⟨mm, hmm⟩ : ∃ mm : Int, 1 + (rs.length : Int) = mm := ⟨_, rfl⟩
      have HH := hide (fun (W : World) (h : OB BG W (.slice ga gl gc) (mbs rs.length)) => heldB rs.length (.slice ga gl gc) W hrl (h.under (brf _) (by rw [mbs_len]; exact hrl)))
      have hneg9 : decide (mm < 0) = false := decide_eq_false (by omega)
      have hnem : (mm != mm) = false := by simp
      rw [hmm] at HH ⊢
      clear hmk hb10 HB39 HOG9 hmm
      go_wp2_with fail
      refine (unhide HH _ (unhide HMK)).mono ?_
      rintro e W11 ⟨rfl, hb11⟩
      have HB311 := hide (btr (unhide HB310) hb11)
      have HX11 : Hid (B6 27 w (.slice a0 x.ins.length c0) (.slice a1 x.clocks.length c1) (.slice a2 x.latches.length c2) (.slice a3 x.ands.length c3) (.slice a4 x.outs.length c4) (.slice a5 x.checks.length c5) W11) := hide (Below.trans (unhide HX3) ((unhide HB311).mono (unhide HX3).size))
      have HMK11 := hide ((unhide HMK).later hb11)
      clear hb11 HB310 HMK
      obtain ⟨q0, q1, q2, q3, q4, q5⟩ := (unhide HX11).get
      go_wp2_with fail
      refine (unhide TN' _ (unhide HX11).below).mono ?_
      rintro e W12 ⟨⟨u4, rfl, hr4⟩, hb12, _⟩
      have HX12 := hide ((unhide HX11).then hb12)
      have HB312 := hide (btr (unhide HB311) hb12)
      have HMK12 := hide ((unhide HMK11).later hb12)
      have HR4 := hide hr4.any
      clear hb12 hr4 q0 q1 q2 q3 q4 q5 HX11 HB311 HMK11
      go_wp2_with fail
      refine (unhide HIR _ _ (unhide HR4)).mono ?_
      rintro e W13 ⟨⟨vh, rfl, hoh⟩, hb13⟩
      have HX13 := hide ((unhide HX12).then hb13)
      have HB313 := hide (btr (unhide HB312) hb13)
      have HMK13 := hide ((unhide HMK12).later hb13)
      have HOH := hide hoh
      obtain ⟨ha, hl, hc, rfl⟩ := hoh.shape3
      clear hb13 hoh HX12 HB312 HMK12 HR4
      have G1 := hide ((unhide HOH).under (brf _) hrl)
      have G2 := hide ((unhide HOW).under (unhide HB313) hrl)
      go_wp2_with fail
      refine (eqByteS_of rs _ _ _ (unhide G1) (unhide G2)).mono ?_
      rintro e W14 ⟨rfl, hb14⟩
      have HX14 := hide ((unhide HX13).then hb14)
      have HMK14 := hide ((unhide HMK13).later hb14)
      clear hb14 G1 G2 HX13 HMK13
      go_wp2_with fail
      refine (unhide HH _ (unhide HMK14)).mono ?_
      rintro e W15 ⟨rfl, hb15⟩
      have HB := hide (btr (unhide HX14).below hb15)
      clear HX14 HMK14 HH hb15
      go_wp2
      exact bodyPost_ret (v := .bool true) (by simp [results, Try.results3, go_sem]) rfl ⟨rfl, unhide HB⟩
  · have hsz := szR_lt (s := szAig x) (left := 1048576) (by omega)
    rw [hsz] at SZ
    clear TN
    go_enter Try.func3, Try.ntmps3
    go_wp2_with fail
    refine (unhide SZ _ (bal (brf w) _)).mono ?_
    rintro e W1 ⟨rfl, hb1⟩
    have HB := hide (btr (bal (brf w) _) hb1)
    clear hb1
    go_wp2
    go_ret
    exact ⟨rfl, unhide HB⟩
end Go.Proofs.Ytaamibonpmijaab
