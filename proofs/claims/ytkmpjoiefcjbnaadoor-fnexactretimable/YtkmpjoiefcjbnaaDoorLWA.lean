/- The law: both answer the same; what was handed in reads as it did; the answer owns its memory. -/
import Derived.Test.YtkmpjoiefcjbnaaDoorRT10
import Derived.Test.YtkmpjoiefcjbnaaDoorRTD
import Derived.Test.YtkmpjoiefcjbnaaDoorDS
import Derived.Test.YtkmpjoiefcjbnaaDoorDT
import Derived.Test.YtkmpjoiefcjbnaaDoorDE
import Derived.Test.YtkmpjoiefcjbnaaDoorDM
import Derived.Deep.RegionHeld3
namespace Go.Proofs.YtkmpjoiefcjbnaaDoor
open Go.RowKit Gs
set_option linter.unusedVariables false
set_option maxRecDepth 100000
theorem RNet.later {n : Net} {u : List Value} {w W : World} {B : Nat} (h : RNet w B n u) (hb : Below w.heap.size w W) : RNet W B n u := RNet.keeps _ _ _ _ _ (later_cells hb B) h
theorem RNet.any {n : Net} {u : List Value} {w : World} {B : Nat} (h : RNet w B n u) : RNet w 0 n u := RNet.lowers _ _ _ _ _ (Nat.zero_le _) h
theorem MK.under {B E : Nat} {W V : World} (h : MK B E W V) (hB : B ≤ W.heap.size) : Below B W V := ⟨h.os, h.tape, h.output, h.size, fun k hk => h.block k (by omega) (.inl hk)⟩
/-- Ints in a row of one's own that lies beyond what is written. -/
theorem OI.beyond {B E B' : Nat} {W V : World} {v : Value} {xs : List Int} (h : OI B' W v xs) (hm : MK B E W V) (hE : E ≤ B') : OI B' V v xs := by
  obtain ⟨h1, h2 | ⟨g, cap, cur, hv, hg, hc, rest⟩⟩ := h
  · exact ⟨h1, .inl h2⟩
  · exact ⟨h1, .inr ⟨g, cap, cur, hv, hg, (hm.block g (Array.getElem?_eq_some_iff.1 hc).1 (.inr (by omega))).trans hc, rest⟩⟩
theorem retS_len (n : Net) (h : n.cells.length ≤ 1048576) : (retS n).length ≤ 1048576 := by
  unfold retS
  split
  · exact Nat.le_trans (retTo_len n _) h
  · exact Nat.zero_le _
/-- A row of one's own is marked: the marks lie there; what was not in it is as it was. -/
theorem OI.marked {B : Nat} {W : World} {v : Value} {xs : List Int} (h : OI B W v xs) (hl : xs.length ≤ 1048576) :
    Calls Tryd.prog 11 #[v, .int .i64 1] W fun e w' => e = .returned (.int .i64 (1 + (xs.length : Int))) ∧ RS 1 RInt w' 0 (mks 1 xs.length) v ∧ Below B W w' := by
  have hW : WI W v xs.length := by
    rcases h.2 with ⟨rfl, hn⟩ | ⟨g, cap, cur, rfl, hb, hg, hlc, hm, hcs, _⟩
    · exact ⟨none, 0, by rw [hn], by omega, fun h => absurd hn h⟩
    · refine ⟨some ⟨g, 0, none⟩, cap, rfl, hlc, fun _ => ⟨g, 0, rfl, fun i hi => ⟨⟨cur[i]'(by omega), ?_⟩, ?_⟩⟩⟩
      · simp [World.cell?, hg, show i < cur.size by omega]
      · simp [World.frozen?, hg]
  refine (markI xs.length v W 1 (by omega) (by decide) (by decide) hW).mono ?_
  rintro e w' ⟨rfl, hw⟩
  refine ⟨rfl, ?_⟩
  rcases hw with ⟨rfl, h0⟩ | ⟨b, o, c, rfl, rfl⟩
  · refine ⟨?_, Below.refl _ _⟩
    obtain ⟨a, c, rfl, _⟩ := hW
    rw [h0]
    exact RS.nil _ _ _ _ _ _
  · obtain ⟨a, c', e1, hlc, hw2⟩ := hW
    injection e1 with e1 e2 e3
    subst e1 e3
    have hlm : xs.length ≤ maxLen := by unfold maxLen; omega
    refine ⟨?_, ?_⟩
    · refine ⟨some ⟨b, o, none⟩, c, by rw [mks_len], by rw [mks_len]; exact hlc, by rw [mks_len]; exact hlm, fun hne => ⟨b, o, rfl, Nat.zero_le _, fun i x hx => ⟨[.int .i64 x], rfl, ?_, rfl⟩⟩⟩
      have hn0 : xs.length ≠ 0 := fun e => hne (by rw [e]; rfl)
      obtain ⟨b', o', e2, hc2⟩ := hw2 hn0
      injection e2 with e2
      injection e2 with e2 e3
      subst e2 e3
      have hat := setK_at (mkV 1 xs.length) W b o (fun q hq => (hc2 q (by rw [mkV_len] at hq; exact hq)).1)
      intro j y hj
      have hj0 : j = 0 := by
        cases j with
        | zero => rfl
        | succ j => simp at hj
      subst hj0
      simp at hj
      subst hj
      have := hat i (.int .i64 x) (by unfold mkV; rw [List.getElem?_map, hx]; rfl)
      simpa using this
    · by_cases hn0 : xs.length = 0
      · rw [hn0]
        exact Below.refl _ _
      · rcases h.2 with ⟨e, hn⟩ | ⟨g, cap, cur, e, hb, _⟩
        · exact absurd hn hn0
        · injection e with e
          injection e with e
          injection e with e
          subst e
          exact setK_below _ (Below.refl _ _) hb
end Go.Proofs.YtkmpjoiefcjbnaaDoor
namespace Go.Proofs.YtkmpjoiefcjbnaaDoor
open Go.RowKit Gs
set_option linter.unusedVariables false
set_option maxRecDepth 100000
set_option maxHeartbeats 32000000 in
theorem lRet (x : Net) (u : List Value) (w : World) (hr : RNet w 0 x u) (ht : Tz w) :
    Calls Tryd.prog 3 #[.agg u.toArray] w fun e w' => e = .returned (.bool true) ∧ Below w.heap.size w w' := by
  have SZ := hide (fun (W : World) (hb : Below w.heap.size w W) => szNet_of x u W 1048576 (Nat.le_refl _) (hr.later hb))
  have TN := hide (fun (hl : szNet x ≤ 1048576) (W : World) (hb : Below w.heap.size w W) => toNet_of x u W hl (hr.later hb))
  obtain ⟨v0, v1, v2, v3, v4, v5, rfl, _⟩ := hr
  show Calls Tryd.prog 3 #[.agg #[v0, v1, v2, v3, v4, v5]] w _
  change Hid (∀ (W : World), Below w.heap.size w W → Calls Tryd.prog 4 #[.agg #[v0, v1, v2, v3, v4, v5], .int .i64 (1048576 : Int)] W _) at SZ
  change Hid (∀ (hl : szNet x ≤ 1048576) (W : World), Below w.heap.size w W → Calls Tryd.prog 6 #[.agg #[v0, v1, v2, v3, v4, v5]] W _) at TN
  by_cases hs : szNet x ≤ 1048576
  · have hsz := szR_le hs
    have hneg : decide ((((1048576 - szNet x : Nat) : Int)) < 0) = false := decide_eq_false (by omega)
    have TN' := hide (fun W hb => unhide TN hs W hb)
    have hzl : szNet x = szL szNetPort x.ins + szL (fun (s : ByteArray) => s.size) x.clocks + szL szCell x.cells + szL szNetReg x.regs + szL szNetOut x.outs + szL szNetOut x.checks := rfl
    have hzc := szL_sm szCell x.cells
    have hrl := retS_len x (by omega)
    have HS := hide hs
    have HT := hide ht
    rw [hsz] at SZ
    clear TN hsz hzl hzc ht
    generalize ((1048576 - szNet x : Nat) : Int) = left at *
    generalize hRS : retS x = rs at *
    have hrm : rs.length ≤ maxLen := by unfold maxLen; omega
    have HSR := hide (fun (u : List Value) (W : World) (h : RNet W 0 x u) => sRet x u W h)
    have HIR := hide (fun (u : List Value) (W : World) (h : RNet W 0 x u) (ht : Tz W) => iRet x u W h ht)
    rw [hRS] at HSR HIR
    clear hRS hs
    go_enter Tryd.func3, Tryd.ntmps3
    go_wp2_with fail
    refine (unhide SZ _ (bal (brf w) _)).mono ?_
    rintro e W1 ⟨rfl, hb1⟩
    have HX1 : Hid (Bt 28 w #[v0, v1, v2, v3, v4, v5] W1) := hide hb1
    clear hb1 SZ
    obtain ⟨q0, q1, q2, q3, q4, q5⟩ := (unhide HX1).get6
    go_wp2_with fail
    refine (unhide TN' _ (unhide HX1).below).mono ?_
    rintro e W2 ⟨⟨u1, rfl, hr1⟩, hb2, _⟩
    have HX2 := hide ((unhide HX1).then hb2)
    have HR1 := hide hr1.any
    clear hb2 hr1 q0 q1 q2 q3 q4 q5 HX1
    go_wp2_with fail
    refine (unhide HSR u1 _ (unhide HR1)).mono ?_
    rintro e W3 ⟨⟨vw, rfl, how⟩, hb3⟩
    have HX3 := hide ((unhide HX2).then hb3)
    have HOW := hide how
    obtain ⟨wa, wl, wc, rfl⟩ := how.shape
    clear hb3 how HX2 HR1
    obtain ⟨q0, q1, q2, q3, q4, q5⟩ := (unhide HX3).get6
    go_wp2_with fail
    refine (unhide TN' _ (unhide HX3).below).mono ?_
    rintro e W4 ⟨⟨u2, rfl, hr2⟩, hb4, hnf⟩
    have HX4 := hide ((unhide HX3).then hb4)
    have HR2 := hide hr2
    have HNF := hide hnf
    have HB34 := hide hb4
    obtain ⟨y0, y1, y2, y3, y4, y5, rfl, s0, s1, s2, s3, s4, s5⟩ := hr2
    obtain ⟨a0, c0, e0⟩ := s0.slice
    obtain ⟨a1, c1, e1⟩ := s1.slice
    obtain ⟨a2, c2, e2⟩ := s2.slice
    obtain ⟨a3, c3, e3⟩ := s3.slice
    obtain ⟨a4, c4, e4⟩ := s4.slice
    obtain ⟨a5, c5, e5⟩ := s5.slice
    subst e0 e1 e2 e3 e4 e5
    have hsz4 := hb4.size
    clear hb4 hnf s0 s1 s2 s3 s4 s5 q0 q1 q2 q3 q4 q5
    go_wp2_with fail
    refine (unhide HIR _ _ ((unhide HR2).any.later (bal (brf _) _)) ((unhide HT).later (btr (unhide HX4).below (bal (brf _) _)))).mono ?_
    rintro e W5 ⟨⟨vg, rfl, hog⟩, hb5⟩
    have HY : Hid (Bt 37 W4 #[.slice a0 x.ins.length c0, .slice a1 x.clocks.length c1, .slice a2 x.cells.length c2, .slice a3 x.regs.length c3, .slice a4 x.outs.length c4, .slice a5 x.checks.length c5] W5) := hide hb5
    have HX5 := hide ((unhide HX4).then (unhide HY).below)
    have HB35 := hide (btr (unhide HB34) (unhide HY).below)
    have HOG := hide (OI.low (show W4.heap.size ≤ _ by simp) hog)
    obtain ⟨ga, gl, gc, rfl⟩ := hog.shape
    clear hb5 hog HX4 HB34
    have G1 := hide (RS.low RInt.lowers (Nat.zero_le _) ((unhide HOG).read hrm))
    have G2 := hide (RS.low RInt.lowers (Nat.zero_le _) (((unhide HOW).later (unhide HB35)).read hrm))
    go_wp2_with fail
    refine (eqIntS_of rs _ _ _ (unhide G1) (unhide G2)).mono ?_
    rintro e W6 ⟨rfl, hb6⟩
    have HX6 := hide ((unhide HX5).then hb6)
    have HY6 := hide ((unhide HY).then hb6)
    have HOG6 := hide ((unhide HOG).later hb6)
    have HR6 := hide (((unhide HR2).any.later (unhide HY).below).later hb6)
    have HB36 := hide (btr (unhide HB35) hb6)
    obtain ⟨q0, q1, q2, q3, q4, q5⟩ := (unhide HX6).get6
    obtain ⟨p0, p1, p2, p3, p4, p5⟩ := (unhide HY6).get6
    have EQ := hide (fun W (u3 : List Value) (h : RNet W 0 x [.slice a0 x.ins.length c0, .slice a1 x.clocks.length c1, .slice a2 x.cells.length c2, .slice a3 x.regs.length c3, .slice a4 x.outs.length c4, .slice a5 x.checks.length c5]) h3 => (show Calls Tryd.prog 9 #[.agg #[.slice a0 x.ins.length c0, .slice a1 x.clocks.length c1, .slice a2 x.cells.length c2, .slice a3 x.regs.length c3, .slice a4 x.outs.length c4, .slice a5 x.checks.length c5], .agg u3.toArray] W _ from eqNet_of x _ u3 W h h3))
    clear hb6 HX5 HOG HB35 G1 G2
    go_wp2
    go_region_held3 (fun V => V.cell? ⟨W4.heap.size, 0, none⟩ = some (.slice a0 x.ins.length c0) ∧ V.cell? ⟨W4.heap.size, 1, none⟩ = some (.slice a1 x.clocks.length c1) ∧ V.cell? ⟨W4.heap.size, 2, none⟩ = some (.slice a2 x.cells.length c2) ∧ V.cell? ⟨W4.heap.size, 3, none⟩ = some (.slice a3 x.regs.length c3) ∧ V.cell? ⟨W4.heap.size, 4, none⟩ = some (.slice a4 x.outs.length c4) ∧ V.cell? ⟨W4.heap.size, 5, none⟩ = some (.slice a5 x.checks.length c5) ∧ V.cell? ⟨w.heap.size, 0, none⟩ = some v0 ∧ V.cell? ⟨w.heap.size, 1, none⟩ = some v1 ∧ V.cell? ⟨w.heap.size, 2, none⟩ = some v2 ∧ V.cell? ⟨w.heap.size, 3, none⟩ = some v3 ∧ V.cell? ⟨w.heap.size, 4, none⟩ = some v4 ∧ V.cell? ⟨w.heap.size, 5, none⟩ = some v5 ∧ Below W6.heap.size W6 V)
      (first | (exact ⟨p0, p1, p2, p3, p4, p5, q0, q1, q2, q3, q4, q5, bdr (brf _)⟩) | (exact keepE6 (by assumption) hb1))
      (first
        | (go_at_call 6; refine (unhide TN' _ (btr (unhide HX6).below (belowE6 (by assumption)))).mono ?_; rintro e V1 ⟨⟨u3, rfl, hr3⟩, hb1, _⟩; have HR3 := hide hr3.any; clear hr3)
        | (go_at_call 9; refine (unhide EQ _ _ ((unhide HR6).later (belowE6 (by assumption))) (unhide HR3)).mono ?_; rintro e V2 ⟨rfl, hb1⟩))
    rename_i hH
    obtain ⟨p0, p1, p2, p3, p4, p5, _, _, _, _, _, _, hb7⟩ := hH
    have HY7 := hide (btr (unhide HY6).below hb7)
    have HOG7 := hide ((unhide HOG6).later hb7)
    have HB37 := hide (btr (unhide HB36) hb7)
    have hs7 := (unhide HB37).size
    clear hb7 HX6 HY6 HOG6 HB36 EQ HR6 HY HR3
    go_wp2_with fail
    refine (markNet_of x _ W4 W3.heap.size (unhide HR2) (unhide HS) (unhide HNF) V2 (MK.later (.refl _ _ _) (unhide HY7))).mono ?_
    rintro e W8 ⟨⟨k, rfl, k0, k1⟩, hm8⟩
    have hneg8 : decide (k < 0) = false := decide_eq_false (by omega)
    have HB38 := hide ((unhide HB37).trans (hm8.under hs7))
    have HOG8 := hide ((unhide HOG7).beyond hm8 (Nat.le_refl _))
    have G1 := hide (RS.low RInt.lowers (Nat.zero_le _) ((unhide HOG8).read hrm))
    have G2 := hide (RS.low RInt.lowers (Nat.zero_le _) (((unhide HOW).later (unhide HB38)).read hrm))
    clear hm8 k0 k1 HB37 HOG7 HY7 p0 p1 p2 p3 p4 p5
    go_wp2_with fail
    refine (eqIntS_of rs _ _ _ (unhide G1) (unhide G2)).mono ?_
    rintro e W9 ⟨rfl, hb9⟩
    have HB39 := hide (btr (unhide HB38) hb9)
    have HOG9 := hide ((unhide HOG8).later hb9)
    clear hb9 HB38 HOG8 G1 G2
    go_wp2_with fail
    refine ((unhide HOG9).marked hrl).mono ?_
    rintro e W10 ⟨rfl, hmk, hb10⟩
    have HB310 := hide ((unhide HB39).trans (hb10.mono hsz4))
    have HMK := hide hmk
    obtain ⟨mm, hmm⟩ : ∃ mm : Int, 1 + (rs.length : Int) = mm := ⟨_, rfl⟩
    have HH := hide (fun (W : World) (h : RS 1 RInt W 0 (mks 1 rs.length) (.slice ga gl gc)) => heldI rs.length (.slice ga gl gc) W 1 (by omega) (by decide) (by decide) h)
    have hneg9 : decide (mm < 0) = false := decide_eq_false (by omega)
    have hnem : (mm != mm) = false := by simp
    rw [hmm] at HH ⊢
    clear hmk hb10 HB39 HOG9 hmm
    go_wp2_with fail
    refine (unhide HH _ (unhide HMK)).mono ?_
    rintro e W10' ⟨rfl, e10⟩
    subst e10
    have HX10 : Hid (Bt 28 w #[v0, v1, v2, v3, v4, v5] W10') := hide (Below.trans (unhide HX3) ((unhide HB310).mono (by have := (unhide HX3).size; simp; omega)))
    obtain ⟨q0, q1, q2, q3, q4, q5⟩ := (unhide HX10).get6
    go_wp2_with fail
    refine (unhide TN' _ (unhide HX10).below).mono ?_
    rintro e W11 ⟨⟨u4, rfl, hr4⟩, hb11, _⟩
    have HX11 := hide ((unhide HX10).then hb11)
    have HB311 := hide (btr (unhide HB310) hb11)
    have HMK11 := hide ((unhide HMK).later RInt.keeps hb11)
    have HR4 := hide hr4.any
    clear hb11 hr4 q0 q1 q2 q3 q4 q5 HX10 HB310 HMK
    go_wp2_with fail
    refine (unhide HIR _ _ (unhide HR4) ((unhide HT).later (unhide HX11).below)).mono ?_
    rintro e W12 ⟨⟨vh, rfl, hoh⟩, hb12⟩
    have HX12 := hide ((unhide HX11).then hb12)
    have HB312 := hide (btr (unhide HB311) hb12)
    have HMK12 := hide ((unhide HMK11).later RInt.keeps hb12)
    have HOH := hide hoh
    obtain ⟨ha, hl, hc, rfl⟩ := hoh.shape
    clear hb12 hoh HX11 HB311 HMK11 HR4
    have G1 := hide (RS.low RInt.lowers (Nat.zero_le _) ((unhide HOH).read hrm))
    have G2 := hide (RS.low RInt.lowers (Nat.zero_le _) (((unhide HOW).later (unhide HB312)).read hrm))
    go_wp2_with fail
    refine (eqIntS_of rs _ _ _ (unhide G1) (unhide G2)).mono ?_
    rintro e W13 ⟨rfl, hb13⟩
    have HX13 := hide ((unhide HX12).then hb13)
    have HMK13 := hide ((unhide HMK12).later RInt.keeps hb13)
    clear hb13 G1 G2 HX12 HMK12
    go_wp2_with fail
    refine (unhide HH _ (unhide HMK13)).mono ?_
    rintro e W14 ⟨rfl, e14⟩
    subst e14
    have HB := hide (unhide HX13).below
    clear HX13 HMK13 HH
    go_wp2
    go_ret
    exact ⟨rfl, unhide HB⟩
  · have hsz := szR_lt (s := szNet x) (left := 1048576) (by omega)
    rw [hsz] at SZ
    clear TN
    go_enter Tryd.func3, Tryd.ntmps3
    go_wp2_with fail
    refine (unhide SZ _ (bal (brf w) _)).mono ?_
    rintro e W1 ⟨rfl, hb1⟩
    have HB := hide (btr (bal (brf w) _) hb1)
    clear hb1
    go_wp2
    go_ret
    exact ⟨rfl, unhide HB⟩
end Go.Proofs.YtkmpjoiefcjbnaaDoor
