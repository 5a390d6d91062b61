/- The law FnExactFsmRun. -/
import Derived.Test.YtjbbjgoofenkpaaR7
import Derived.Test.YtjbbjgoofenkpaaMT
import Derived.Test.YtjbbjgoofenkpaaDS
import Derived.Test.YtjbbjgoofenkpaaDT
import Derived.Test.YtjbbjgoofenkpaaDE
namespace Go.Proofs.Ytjbbjgoofenkpaa
open Go.RowKit Gs
set_option linter.unusedVariables false
set_option linter.unusedSimpArgs false
set_option maxRecDepth 100000
theorem RFsm.later {n : Fsm} {u : List Value} {w W : World} {B : Nat} (h : RFsm w B n u) (hb : Below w.heap.size w W) : RFsm W B n u := RFsm.keeps _ _ _ _ _ (later_cells hb B) h
theorem RFsm.any {n : Fsm} {u : List Value} {w : World} {B : Nat} (h : RFsm w B n u) : RFsm w 0 n u := RFsm.lowers _ _ _ _ _ (Nat.zero_le _) h
theorem MK.under {B E : Nat} {W V : World} (h : MK B E W V) (hB : B ≤ W.heap.size) : Below B W V := ⟨h.os, h.tape, h.output, h.size, fun k hk => h.block k (by omega) (.inl hk)⟩
theorem OT.beyond {B E B' : Nat} {W V : World} {v : Value} {xs : List ByteArray} (h : OT B' W v xs) (hm : MK B E W V) (hE : E ≤ B') : OT B' V v xs := by
  obtain ⟨⟨h1, h2 | ⟨g, cap, cur, hv, hg, hc, rest⟩⟩, h3⟩ := h
  · exact ⟨⟨h1, .inl h2⟩, h3⟩
  · exact ⟨⟨h1, .inr ⟨g, cap, cur, hv, hg, (hm.block g (Array.getElem?_eq_some_iff.1 hc).1 (.inr (by omega))).trans hc, rest⟩⟩, h3⟩
theorem keepE5 {W V v1 : World} {a0 a1 a2 a3 a4 a5 a6 a7 a8 a9 : Addr} {x0 x1 x2 x3 x4 x5 x6 x7 x8 x9 : Value} (h : V.cell? a0 = some x0 ∧ V.cell? a1 = some x1 ∧ V.cell? a2 = some x2 ∧ V.cell? a3 = some x3 ∧ V.cell? a4 = some x4 ∧ V.cell? a5 = some x5 ∧ V.cell? a6 = some x6 ∧ V.cell? a7 = some x7 ∧ V.cell? a8 = some x8 ∧ V.cell? a9 = some x9 ∧ Below W.heap.size W V) (hb : Below V.heap.size V v1) : v1.cell? a0 = some x0 ∧ v1.cell? a1 = some x1 ∧ v1.cell? a2 = some x2 ∧ v1.cell? a3 = some x3 ∧ v1.cell? a4 = some x4 ∧ v1.cell? a5 = some x5 ∧ v1.cell? a6 = some x6 ∧ v1.cell? a7 = some x7 ∧ v1.cell? a8 = some x8 ∧ v1.cell? a9 = some x9 ∧ Below W.heap.size W v1 :=
  ⟨cell_later hb h.1, cell_later hb h.2.1, cell_later hb h.2.2.1, cell_later hb h.2.2.2.1, cell_later hb h.2.2.2.2.1, cell_later hb h.2.2.2.2.2.1, cell_later hb h.2.2.2.2.2.2.1, cell_later hb h.2.2.2.2.2.2.2.1, cell_later hb h.2.2.2.2.2.2.2.2.1, cell_later hb h.2.2.2.2.2.2.2.2.2.1, btr h.2.2.2.2.2.2.2.2.2.2 hb⟩
theorem belowE5 {W V : World} {a0 a1 a2 a3 a4 a5 a6 a7 a8 a9 : Addr} {x0 x1 x2 x3 x4 x5 x6 x7 x8 x9 : Value} (h : V.cell? a0 = some x0 ∧ V.cell? a1 = some x1 ∧ V.cell? a2 = some x2 ∧ V.cell? a3 = some x3 ∧ V.cell? a4 = some x4 ∧ V.cell? a5 = some x5 ∧ V.cell? a6 = some x6 ∧ V.cell? a7 = some x7 ∧ V.cell? a8 = some x8 ∧ V.cell? a9 = some x9 ∧ Below W.heap.size W V) : Below W.heap.size W V := h.2.2.2.2.2.2.2.2.2.2
theorem runR_len (f : Fsm) (zs : List Int) : (runR f zs).1.length ≤ 4096 := by
  unfold runR
  split
  · exact Nat.zero_le _
  · split
    · split
      · rename_i xs h
        have := runP_len _ _ _ h
        simp only
        omega
      · exact Nat.zero_le _
    · exact Nat.zero_le _
set_option maxHeartbeats 32000000 in
theorem lRun (x : Fsm) (u : List Value) (zs : List Int) (vz : Value) (w : World) (hr : RFsm w 0 x u) (hz : RS 1 RInt w 0 zs vz) :
    Calls Try.prog 3 #[.agg u.toArray, vz] w fun e w' => e = .returned (.bool true) ∧ Below w.heap.size w w' := by
  have SZ := hide (fun (W : World) (hb : Below w.heap.size w W) => szFsm_of x u W 1048576 (Nat.le_refl _) (hr.later hb))
  have TN := hide (fun (hl : szFsm x ≤ 1048576) (W : World) (hb : Below w.heap.size w W) => toFsm_of x u W hl (hr.later hb))
  have hzm := hz.len
  unfold maxLen at hzm
  have TZ := hide (fun (hl : zs.length ≤ 1048576) (W : World) (hb : Below w.heap.size w W) => toIntS_of zs vz W (by rw [szL_sm, sm_zero]; omega) (hz.later RInt.keeps hb))
  obtain ⟨az, cz, rfl⟩ := hz.slice
  obtain ⟨v2, v3, v4, rfl, _⟩ := hr
  show Calls Try.prog 3 #[.agg #[.int .i64 x.ins, .int .i64 x.outBits, v2, v3, v4], .slice az zs.length cz] w _
  change Hid (∀ (W : World), Below w.heap.size w W → Calls Try.prog 4 #[.agg #[.int .i64 x.ins, .int .i64 x.outBits, v2, v3, v4], .int .i64 (1048576 : Int)] W _) at SZ
  change Hid (∀ (hl : szFsm x ≤ 1048576) (W : World), Below w.heap.size w W → Calls Try.prog 6 #[.agg #[.int .i64 x.ins, .int .i64 x.outBits, v2, v3, v4]] W _) at TN
  by_cases hzl : zs.length ≤ 1048576
  · have d0 : decide (1048576 < (zs.length : Int)) = false := decide_eq_false (by omega)
    by_cases hs : szFsm x ≤ 1048576
    · have hsz := szR_le hs
      have hneg : decide ((((1048576 - szFsm x : Nat) : Int)) < 0) = false := decide_eq_false (by omega)
      have TN' := hide (fun W hb => unhide TN hs W hb)
      have TZ' := hide (fun W hb => unhide TZ hzl W hb)
      have HS := hide hs
      rw [hsz] at SZ
      clear TN TZ hsz
      generalize ((1048576 - szFsm x : Nat) : Int) = left at *
      have hrl := runR_len x zs
      have HSR := hide (fun (u : List Value) (v : Value) (W : World) (h : RFsm W 0 x u) (h2 : RS 1 RInt W 0 zs v) => sRun x u zs v W h h2)
      have HIR := hide (fun (u : List Value) (v : Value) (W : World) (h : RFsm W 0 x u) (h2 : RS 1 RInt W 0 zs v) => iRun x u zs v W h h2)
      generalize (runR x zs).1 = rs at *
      generalize (runR x zs).2 = rc at *
      have hrm : rs.length ≤ maxLen := by unfold maxLen; omega
      have hne : (rc != rc) = false := by simp
      clear hs hz
      go_enter Try.func3, Try.ntmps3
      go_wp2_with fail
      refine (unhide SZ _ (bal (brf w) _)).mono ?_
      rintro e W1 ⟨rfl, hb1⟩
      have HX1 : Hid (Bt 26 w #[.int .i64 x.ins, .int .i64 x.outBits, v2, v3, v4] W1) := hide hb1
      clear hb1 SZ
      obtain ⟨q0, q1, q2, q3, q4⟩ := (unhide HX1).get5
      go_wp2_with fail
      refine (unhide TN' _ (unhide HX1).below).mono ?_
      rintro e W2 ⟨⟨u1, rfl, hr1⟩, hb2, _⟩
      have HX2 := hide ((unhide HX1).then hb2)
      have HR1 := hide hr1.any
      clear hb2 hr1 q0 q1 q2 q3 q4 HX1
      go_wp2_with fail
      refine (unhide TZ' _ (unhide HX2).below).mono ?_
      rintro e W2b ⟨⟨z1, rfl, hz1⟩, hb2, _⟩
      have HX2b := hide ((unhide HX2).then hb2)
      have HR1b := hide ((unhide HR1).later hb2)
      have HZ1 := hide (RS.low RInt.lowers (Nat.zero_le _) hz1)
      obtain ⟨az1, cz1, rfl⟩ := hz1.slice
      clear hb2 hz1 HX2 HR1
      go_wp2_with fail
      refine (unhide HSR u1 _ _ (unhide HR1b) (unhide HZ1)).mono ?_
      rintro e W3 ⟨⟨vw, rfl, how⟩, hb3⟩
      have HX3 := hide ((unhide HX2b).then hb3)
      have HOW := hide how
      obtain ⟨wa, wl, wc, rfl⟩ := how.shape
      clear hb3 how HX2b HR1b HZ1 HSR
      obtain ⟨q0, q1, q2, q3, q4⟩ := (unhide HX3).get5
      go_wp2_with fail
      refine (unhide TN' _ (unhide HX3).below).mono ?_
      rintro e W4 ⟨⟨u2, rfl, hr2⟩, hb4, hnf⟩
      have HX4 := hide ((unhide HX3).then hb4)
      have HR2 := hide hr2
      have HNF := hide hnf
      have HB34 := hide hb4
      obtain ⟨y2, y3, y4, rfl, s2, s3, s4⟩ := hr2
      obtain ⟨a2, c2, e2⟩ := s2.slice
      obtain ⟨a3, c3, e3⟩ := s3.slice
      obtain ⟨a4, c4, e4⟩ := s4.slice
      subst e2 e3 e4
      have hsz4 := hb4.size
      clear hb4 hnf s2 s3 s4 q0 q1 q2 q3 q4
      go_wp2_with fail
      refine (unhide TZ' _ (btr (unhide HX4).below (bal (brf _) _))).mono ?_
      rintro e W5 ⟨⟨z2, rfl, hz2⟩, hb5, hnf5⟩
      have HY : Hid (Bt 31 W4 #[.int .i64 x.ins, .int .i64 x.outBits, .slice a2 x.states.length c2, .slice a3 x.next.length c3, .slice a4 x.outs.length c4] W5) := hide hb5
      have hs5 := (unhide HY).size
      have HX5 := hide ((unhide HX4).then (unhide HY).below)
      have HB35 := hide (btr (unhide HB34) (unhide HY).below)
      have HNF5 := hide (nf_tr (nf_al (unhide HNF) #[.int .i64 x.ins, .int .i64 x.outBits, .slice a2 x.states.length c2, .slice a3 x.next.length c3, .slice a4 x.outs.length c4] 31) hb5 hnf5)
      have HR5 := hide ((unhide HR2).later (unhide HY).below)
      have HZ5 := hide (RS.low RInt.lowers (show W3.heap.size ≤ _ by simp; omega) hz2)
      obtain ⟨az2, cz2, rfl⟩ := hz2.slice
      clear hb5 hnf5 hz2 HNF HR2 HX4 HB34
      obtain ⟨p0, p1, p2, p3, p4⟩ := (unhide HY).get5
      go_wp2_with fail
      refine (unhide HIR _ _ _ (unhide HR5).any (RS.low RInt.lowers (Nat.zero_le _) (unhide HZ5))).mono ?_
      rintro e W6 ⟨⟨vg, rfl, hog⟩, hb6⟩
      have HX6 := hide ((unhide HX5).then hb6)
      have HY6 := hide ((unhide HY).then hb6)
      have HB36 := hide (btr (unhide HB35) hb6)
      have HB56 := hide hb6
      have HOG := hide hog
      obtain ⟨ga, gl, gc, rfl⟩ := hog.shape
      clear hb6 hog HX5 HY HB35 p0 p1 p2 p3 p4
      have G1 := hide (RS.low RStr.lowers (Nat.zero_le _) ((unhide HOG).read hrm))
      have G2 := hide (RS.low RStr.lowers (Nat.zero_le _) (((unhide HOW).later (unhide HB36)).read hrm))
      go_wp2_with fail
      refine (eqStringS_of rs _ _ _ (unhide G1) (unhide G2)).mono ?_
      rintro e W7 ⟨rfl, hb7⟩
      have HX7 := hide ((unhide HX6).then hb7)
      have HY7 := hide ((unhide HY6).then hb7)
      have HB37 := hide (btr (unhide HB36) hb7)
      have HB57 := hide (btr (unhide HB56) hb7)
      have HOG7 := hide ((unhide HOG).later hb7)
      clear hb7 HX6 HY6 HB36 HB56 HOG G1 G2
      obtain ⟨q0, q1, q2, q3, q4⟩ := (unhide HX7).get5
      obtain ⟨p0, p1, p2, p3, p4⟩ := (unhide HY7).get5
      have EQ := hide (fun W (u3 : List Value) (h : RFsm W 0 x [.int .i64 x.ins, .int .i64 x.outBits, .slice a2 x.states.length c2, .slice a3 x.next.length c3, .slice a4 x.outs.length c4]) h3 => (show Calls Try.prog 10 #[.agg #[.int .i64 x.ins, .int .i64 x.outBits, .slice a2 x.states.length c2, .slice a3 x.next.length c3, .slice a4 x.outs.length c4], .agg u3.toArray] W _ from eqFsm_of x _ u3 W h h3))
      go_wp2
      go_region_held3 (fun V => V.cell? ⟨W4.heap.size, 0, none⟩ = some (.int .i64 x.ins) ∧ V.cell? ⟨W4.heap.size, 1, none⟩ = some (.int .i64 x.outBits) ∧ V.cell? ⟨W4.heap.size, 2, none⟩ = some (.slice a2 x.states.length c2) ∧ V.cell? ⟨W4.heap.size, 3, none⟩ = some (.slice a3 x.next.length c3) ∧ V.cell? ⟨W4.heap.size, 4, none⟩ = some (.slice a4 x.outs.length c4) ∧ V.cell? ⟨w.heap.size, 0, none⟩ = some (.int .i64 x.ins) ∧ V.cell? ⟨w.heap.size, 1, none⟩ = some (.int .i64 x.outBits) ∧ V.cell? ⟨w.heap.size, 2, none⟩ = some (v2) ∧ V.cell? ⟨w.heap.size, 3, none⟩ = some (v3) ∧ V.cell? ⟨w.heap.size, 4, none⟩ = some (v4) ∧ Below W7.heap.size W7 V)
        (first | (exact ⟨p0, p1, p2, p3, p4, q0, q1, q2, q3, q4, bdr (brf _)⟩) | (exact keepE5 (by assumption) hb1))
        (first
          | (go_at_call 6; refine (unhide TN' _ (btr (unhide HX7).below (belowE5 (by assumption)))).mono ?_; rintro e V1 ⟨⟨u3, rfl, hr3⟩, hb1, _⟩; have HR3 := hide hr3.any; clear hr3)
          | (go_at_call 10; refine (unhide EQ _ _ (((unhide HR5).any.later (unhide HB57)).later (belowE5 (by assumption))) (unhide HR3)).mono ?_; rintro e V2 ⟨rfl, hb1⟩))
      rename_i hH
      obtain ⟨p0, p1, p2, p3, p4, _, _, _, _, _, hb8⟩ := hH
      have HX8 := hide ((unhide HX7).then hb8)
      have HY8 := hide ((unhide HY7).then hb8)
      have HB38 := hide (btr (unhide HB37) hb8)
      have HB58 := hide (btr (unhide HB57) hb8)
      have HOG8 := hide ((unhide HOG7).later hb8)
      clear hb8 HX7 HY7 HB37 HB57 HOG7 EQ HR3 p0 p1 p2 p3 p4 q0 q1 q2 q3 q4
      go_wp2_with fail
      refine (unhide TZ' _ (unhide HX8).below).mono ?_
      rintro e W9 ⟨⟨z3, rfl, hz3⟩, hb9, _⟩
      have HX9 := hide ((unhide HX8).then hb9)
      have HY9 := hide ((unhide HY8).then hb9)
      have HB39 := hide (btr (unhide HB38) hb9)
      have HB59 := hide (btr (unhide HB58) hb9)
      have HOG9 := hide ((unhide HOG8).later hb9)
      have HZ9 := hide (RS.low RInt.lowers (Nat.zero_le _) hz3)
      obtain ⟨az3, cz3, rfl⟩ := hz3.slice
      clear hb9 hz3 HX8 HY8 HB38 HB58 HOG8
      go_wp2_with fail
      refine (eqIntS_of zs _ _ _ (RS.low RInt.lowers (Nat.zero_le _) ((unhide HZ5).later RInt.keeps (unhide HB59))) (unhide HZ9)).mono ?_
      rintro e W10 ⟨rfl, hb10⟩
      have HX10 := hide ((unhide HX9).then hb10)
      have HY10 := hide ((unhide HY9).then hb10)
      have HB310 := hide (btr (unhide HB39) hb10)
      have HB510 := hide (btr (unhide HB59) hb10)
      have HOG10 := hide ((unhide HOG9).later hb10)
      have hs310 := (unhide HB310).size
      clear hb10 HX9 HY9 HB39 HB59 HOG9 HZ9
      obtain ⟨p0, p1, p2, p3, p4⟩ := (unhide HY10).get5
      go_wp2_with fail
      refine (markFsm_of x _ W5 W3.heap.size (unhide HR5) (unhide HS) (unhide HNF5) W10 (MK.later (.refl _ _ _) (unhide HB510))).mono ?_
      rintro e W11 ⟨⟨k, rfl, k0, k1⟩, hm11⟩
      have HMM := hide (MK.trans (MK.later (.refl _ _ _) (unhide HB510)) hm11)
      have HB311 := hide ((unhide HB310).trans (hm11.under hs310))
      have HOG11 := hide ((unhide HOG10).beyond hm11 (Nat.le_refl _))
      have HKI := hide (KS.of (K := KInt) (by decide) (unhide HZ5) (fun i x u hx h => KInt.of h))
      have hs311 := (unhide HB311).size
      have sz11 := hm11.size
      have sz10 := (unhide HB510).size
      clear hm11 HX10 HY10 HB310 HOG10 p0 p1 p2 p3 p4
      go_wp2_with fail
      refine (markIntS_of zs.length _ W5 W3.heap.size W5.heap.size hzl (unhide HKI) (unhide HNF5) W11 k k0 (by omega) (unhide HMM)).mono ?_
      rintro e W12 ⟨⟨k', rfl, k2, k3⟩, hm12⟩
      have hneg8 : decide (k' < 0) = false := decide_eq_false (by omega)
      have HB312 := hide ((unhide HB311).trans (hm12.under hs311))
      have HOG12 := hide ((unhide HOG11).beyond hm12 (Nat.le_refl _))
      have G1 := hide (RS.low RStr.lowers (Nat.zero_le _) ((unhide HOG12).read hrm))
      have G2 := hide (RS.low RStr.lowers (Nat.zero_le _) (((unhide HOW).later (unhide HB312)).read hrm))
      have sz12 := hm12.size
      clear hm12 k0 k1 k2 k3 HB311 HOG11 HMM HKI
      go_wp2_with fail
      refine (eqStringS_of rs _ _ _ (unhide G1) (unhide G2)).mono ?_
      rintro e W13 ⟨rfl, hb13⟩
      have HB313 := hide (btr (unhide HB312) hb13)
      have HOG13 := hide ((unhide HOG12).later hb13)
      have hs513 : W5.heap.size ≤ W13.heap.size := by
        have := hb13.size
        omega
      clear hb13 HB312 HOG12 G1 G2
      clear sz10 sz11 sz12 hs310 hs311
      have hs35 : W3.heap.size ≤ W5.heap.size := by omega
      go_wp2_with fail
      refine ((unhide HOG13).marked hrl hs513).mono ?_
      rintro e W14 ⟨rfl, hmk, hb14⟩
      have HB314 := hide ((unhide HB313).trans (hb14.mono hs35))
      have HMK := hide hmk
      obtain ⟨mm, hmm⟩ : ∃ mm : Int, 1 + (rs.length : Int) = mm := ⟨_, rfl⟩
      have hml : (mtxs rs.length).length ≤ maxLen := by rw [mtxs_len]; exact hrm
      have HH := hide (fun (W : World) (h : OT W5.heap.size W (.slice ga gl gc) (mtxs rs.length)) => heldT rs.length (.slice ga gl gc) W hrl (RS.low RStr.lowers (Nat.zero_le _) (h.read hml)))
      have hneg9 : decide (mm < 0) = false := decide_eq_false (by omega)
      have hnem : (mm != mm) = false := by simp
      rw [hmm] at HH ⊢
      clear hmk hb14 HB313 HOG13 hmm
      go_wp2_with fail
      refine (unhide HH _ (unhide HMK)).mono ?_
      rintro e W15 ⟨rfl, hb15⟩
      have HX15 : Hid (Bt 26 w #[.int .i64 x.ins, .int .i64 x.outBits, v2, v3, v4] W15) := hide (Below.trans (unhide HX3) ((btr (unhide HB314) hb15).mono (by have := (unhide HX3).size; simp; omega)))
      have HB315 := hide (btr (unhide HB314) hb15)
      have HMK15 := hide ((unhide HMK).later hb15)
      clear hb15 HB314 HMK
      obtain ⟨q0, q1, q2, q3, q4⟩ := (unhide HX15).get5
      go_wp2_with fail
      refine (unhide TN' _ (unhide HX15).below).mono ?_
      rintro e W16 ⟨⟨u4, rfl, hr4⟩, hb16, _⟩
      have HX16 := hide ((unhide HX15).then hb16)
      have HB316 := hide (btr (unhide HB315) hb16)
      have HMK16 := hide ((unhide HMK15).later hb16)
      have HR4 := hide hr4.any
      clear hb16 hr4 q0 q1 q2 q3 q4 HX15 HB315 HMK15
      go_wp2_with fail
      refine (unhide TZ' _ (unhide HX16).below).mono ?_
      rintro e W17 ⟨⟨z4, rfl, hz4⟩, hb17, _⟩
      have HX17 := hide ((unhide HX16).then hb17)
      have HB317 := hide (btr (unhide HB316) hb17)
      have HMK17 := hide ((unhide HMK16).later hb17)
      have HR4b := hide ((unhide HR4).later hb17)
      have HZ4 := hide (RS.low RInt.lowers (Nat.zero_le _) hz4)
      obtain ⟨az4, cz4, rfl⟩ := hz4.slice
      clear hb17 hz4 HX16 HB316 HMK16 HR4
      go_wp2_with fail
      refine (unhide HIR _ _ _ (unhide HR4b) (unhide HZ4)).mono ?_
      rintro e W18 ⟨⟨vh, rfl, hoh⟩, hb18⟩
      have HX18 := hide ((unhide HX17).then hb18)
      have HB318 := hide (btr (unhide HB317) hb18)
      have HMK18 := hide ((unhide HMK17).later hb18)
      have HOH := hide hoh
      obtain ⟨ha, hl, hc, rfl⟩ := hoh.shape
      clear hb18 hoh HX17 HB317 HMK17 HR4b HZ4
      have G1 := hide (RS.low RStr.lowers (Nat.zero_le _) ((unhide HOH).read hrm))
      have G2 := hide (RS.low RStr.lowers (Nat.zero_le _) (((unhide HOW).later (unhide HB318)).read hrm))
      go_wp2_with fail
      refine (eqStringS_of rs _ _ _ (unhide G1) (unhide G2)).mono ?_
      rintro e W19 ⟨rfl, hb19⟩
      have HX19 := hide ((unhide HX18).then hb19)
      have HMK19 := hide ((unhide HMK18).later hb19)
      clear hb19 G1 G2 HX18 HMK18
      go_wp2_with fail
      refine (unhide HH _ (unhide HMK19)).mono ?_
      rintro e W20 ⟨rfl, hb20⟩
      have HB := hide (btr (unhide HX19).below hb20)
      clear HX19 HMK19 HH hb20
      go_wp2
      go_ret
      exact ⟨rfl, unhide HB⟩
    · have hsz := szR_lt (s := szFsm x) (left := 1048576) (by omega)
      rw [hsz] at SZ
      clear TN TZ hz
      go_enter Try.func3, Try.ntmps3
      go_wp2_with fail
      refine (unhide SZ _ (bal (brf w) _)).mono ?_
      rintro e W1 ⟨rfl, hb1⟩
      have HB := hide (btr (bal (brf w) _) hb1)
      clear hb1
      go_wp2
      go_ret
      exact ⟨rfl, unhide HB⟩
  · have d0 : decide (1048576 < (zs.length : Int)) = true := decide_eq_true (by omega)
    clear SZ TN TZ hz
    go_enter Try.func3, Try.ntmps3
    go_wp2
    go_ret
    exact ⟨rfl, bal (brf w) _⟩
end Go.Proofs.Ytjbbjgoofenkpaa
