/- The program's Depth. -/
import Derived.Test.YtpkgcccbhfdaiabL2
import Derived.Test.YtpkgcccbhfdaiabLW
namespace Go.Proofs.Ytpkgcccbhfdaiab
open Go Go.RowKit Gs
set_option linter.unusedVariables false
set_option linter.unusedSimpArgs false
set_option maxRecDepth 100000
theorem RAig.open6 {x : Aig} {u : List Value} {w : World} {B : Nat} (hr : RAig w B x u) : ∃ s0 s1 s2 s3 s4 s5 c0 c1 c2 c3 c4 c5, u = [.slice s0 x.ins.length c0, .slice s1 x.clocks.length c1, .slice s2 x.latches.length c2, .slice s3 x.ands.length c3, .slice s4 x.outs.length c4, .slice s5 x.checks.length c5] ∧ RS 4 RLatch w B x.latches (.slice s2 x.latches.length c2) ∧ RS 2 RAndG w B x.ands (.slice s3 x.ands.length c3) ∧ RS 2 RPin w B x.outs (.slice s4 x.outs.length c4) ∧ RS 2 RPin w B x.checks (.slice s5 x.checks.length c5) := by
  obtain ⟨v0, v1, v2, v3, v4, v5, rfl, h0, h1, h2, h3, h4, h5⟩ := hr
  obtain ⟨a0, c0, e0⟩ := h0.slice
  obtain ⟨a1, c1, e1⟩ := h1.slice
  obtain ⟨a2, c2, e2⟩ := h2.slice
  obtain ⟨a3, c3, e3⟩ := h3.slice
  obtain ⟨a4, c4, e4⟩ := h4.slice
  obtain ⟨a5, c5, e5⟩ := h5.slice
  subst e0 e1 e2 e3 e4 e5
  exact ⟨_, _, _, _, _, _, _, _, _, _, _, _, rfl, h2, h3, h4, h5⟩
theorem szAig_parts {x : Aig} (h : szAig x ≤ 1048576) : x.ins.length ≤ 1048576 ∧ x.clocks.length ≤ 1048576 ∧ x.latches.length ≤ 1048576 ∧ x.ands.length ≤ 1048576 ∧ x.outs.length ≤ 1048576 ∧ x.checks.length ≤ 1048576 := by
  have hz : szAig x = szL (fun (s : ByteArray) => s.size) x.ins + szL (fun (s : ByteArray) => s.size) x.clocks + szL szLatch x.latches + szL szAndG x.ands + szL szPin x.outs + szL szPin x.checks := rfl
  have z0 := szL_sm (fun (s : ByteArray) => s.size) x.ins
  have z1 := szL_sm (fun (s : ByteArray) => s.size) x.clocks
  have z2 := szL_sm szLatch x.latches
  have z3 := szL_sm szAndG x.ands
  have z4 := szL_sm szPin x.outs
  have z5 := szL_sm szPin x.checks
  omega
theorem max_if (d l : Int) : max d l = if d < l then l else d := by split <;> omega
set_option maxHeartbeats 16000000 in
theorem iDepth (x : Aig) (u : List Value) (w : World) (hl : szAig x ≤ 1048576) (hr : RAig w 0 x u) :
    Calls Try.prog 7 #[.agg u.toArray] w fun e w' => e = .returned (.int .i64 (depthA x)) ∧ Below w.heap.size w w' := by
  have HOK := hide (fun (V : World) (hb : Below w.heap.size w V) => iAigOK x u V hl (hr.later hb))
  obtain ⟨b0, b1, b2, b3, b4, b5⟩ := szAig_parts hl
  obtain ⟨s0, s1, s2, s3, s4, s5, c0, c1, c2, c3, c4, c5, rfl, h2, h3, h4, h5⟩ := hr.open6
  show Calls Try.prog 7 #[.agg #[.slice s0 x.ins.length c0, .slice s1 x.clocks.length c1, .slice s2 x.latches.length c2, .slice s3 x.ands.length c3, .slice s4 x.outs.length c4, .slice s5 x.checks.length c5]] w _
  change Hid (∀ (V : World), Below w.heap.size w V → Calls Try.prog 19 #[.agg #[.slice s0 x.ins.length c0, .slice s1 x.clocks.length c1, .slice s2 x.latches.length c2, .slice s3 x.ands.length c3, .slice s4 x.outs.length c4, .slice s5 x.checks.length c5]] V _) at HOK
  cases hok : aigI x
  · have HD : Hid (depthA x = -1) := hide (by unfold depthA; rw [hok]; rfl)
    rw [hok] at HOK
    clear hr h2 h3 h4 h5 hl hok
    go_enter Try.func7, Try.ntmps7
    go_wp2_with fail
    refine (unhide HOK _ (bal (brf w) _)).mono ?_
    rintro e W1 ⟨rfl, hb1⟩
    have HB := hide (btr (bal (brf w) _) hb1)
    clear hb1
    go_wp2_with fail
    exact bodyPost_ret (v := .int .i64 (-1)) (by simp [results, Try.results7, go_sem]) rfl ⟨by rw [unhide HD], unhide HB⟩
  · have HD : Hid (depthA x = deepV (levA x) 0 (endsL x)) := hide (by unfold depthA; rw [hok]; rfl)
    have hfit := Fit.of hok
    rw [hok] at HOK
    have HLV := hide (fun (V : World) (hb : Below w.heap.size w V) => iLevels s0 s1 s2 s3 s4 s5 x.ins.length x.clocks.length x.latches.length x.ands.length x.outs.length x.checks.length c0 c1 c2 c3 c4 c5 x.ands V b0 b2 b3 (h3.later RAndG.keeps hb) hfit.ands)
    have HEN := hide (fun (V : World) (hb : Below w.heap.size w V) => iEnds s0 s1 s2 s3 s4 s5 x.ins.length x.clocks.length x.latches.length x.ands.length x.outs.length x.checks.length c0 c1 c2 c3 c4 c5 x.latches x.outs x.checks V b2 b4 b5 (h2.later RLatch.keeps hb) (h4.later RPin.keeps hb) (h5.later RPin.keeps hb))
    change Hid (∀ (V : World), Below w.heap.size w V → Calls Try.prog 20 _ V (fun e w' => (∃ v, e = .returned v ∧ OI V.heap.size w' v (levA x)) ∧ Below V.heap.size V w')) at HLV
    change Hid (∀ (V : World), Below w.heap.size w V → Calls Try.prog 21 _ V (fun e w' => (∃ v, e = .returned v ∧ OI V.heap.size w' v (endsL x)) ∧ Below V.heap.size V w')) at HEN
    have hlen := levA_len x
    have hfe := hfit.ends
    have hcn := hfit.cnt
    have hbd : LBd (0 + (x.ands.length : Int)) (levA x) := LBd.levs _ _ 0 (LBd.zeros _) (Int.le_refl _)
    have hel : (endsL x).length ≤ 4194304 := by unfold endsL; simp; omega
    rw [← hlen] at hfe
    have hll : (levA x).length ≤ 4194304 := by rw [hlen]; unfold firstN; omega
    have HFE := hide hfe
    have HBD : Hid (LBd 1048576 (levA x)) := hide (fun i y hy => by have := hbd i y hy; omega)
    have HLL := hide hll
    have HEL := hide hel
    have HC : Hid (∀ V, Below (w.alloc (.cells #[.slice s0 x.ins.length c0, .slice s1 x.clocks.length c1, .slice s2 x.latches.length c2, .slice s3 x.ands.length c3, .slice s4 x.outs.length c4, .slice s5 x.checks.length c5] 34)).heap.size (w.alloc (.cells #[.slice s0 x.ins.length c0, .slice s1 x.clocks.length c1, .slice s2 x.latches.length c2, .slice s3 x.ands.length c3, .slice s4 x.outs.length c4, .slice s5 x.checks.length c5] 34)) V → B6 34 w (.slice s0 x.ins.length c0) (.slice s1 x.clocks.length c1) (.slice s2 x.latches.length c2) (.slice s3 x.ands.length c3) (.slice s4 x.outs.length c4) (.slice s5 x.checks.length c5) V) := hide (fun V h => h)
    clear hr h2 h3 h4 h5 hl hok hfit hlen hfe hcn hbd hel hll
    generalize levA x = vs at *
    generalize endsL x = es at *
    generalize depthA x = DD at *
    generalize x.ins.length = n0 at *
    generalize x.clocks.length = n1 at *
    generalize x.latches.length = n2 at *
    generalize x.ands.length = n3 at *
    generalize x.outs.length = n4 at *
    generalize x.checks.length = n5 at *
    go_enter Try.func7, Try.ntmps7
    go_wp2_with fail
    refine (unhide HOK _ (bal (brf w) _)).mono ?_
    rintro e W1 ⟨rfl, hb1⟩
    have HX1 := hide (unhide HC _ hb1)
    obtain ⟨q0, q1, q2, q3, q4, q5⟩ := (unhide HX1).get
    clear hb1
    go_wp2_with fail
    refine (unhide HLV _ (unhide HX1).below).mono ?_
    rintro e W2 ⟨⟨v2, rfl, ho2⟩, hb2⟩
    have HX2 := hide ((unhide HX1).then hb2)
    have HO2 := hide ho2
    clear hb2 ho2 q0 q1 q2 q3 q4 q5
    obtain ⟨q0, q1, q2, q3, q4, q5⟩ := (unhide HX2).get
    go_wp2_with fail
    refine (unhide HEN _ (unhide HX2).below).mono ?_
    rintro e W3 ⟨⟨v3, rfl, ho3⟩, hb3⟩
    have HX3 := hide ((unhide HX2).then hb3)
    have HR2 := hide (((unhide HO2).later hb3).any (unhide HLL))
    have hre := ho3.any (unhide HEL)
    have hb := (unhide HX3).below
    have HB := hide hb
    clear hb3 ho3 q0 q1 q2 q3 q4 q5 HOK HLV HEN HX1 HX2 HX3 HC HO2 hb
    have HOF : Hid (∀ l ∈ es, Calls Try.prog 22 #[v2, .int .i64 l] W3 fun e w' => e = .returned (.int .i64 (lvl vs l)) ∧ w' = W3) := hide (fun l hl => iOf vs v2 l W3 (unhide HR2) (unhide HFE l hl).1 (unhide HFE l hl).2 (unhide HLL))
    rcases hre.open with ⟨rfl, a, c, rfl⟩ | ⟨b, o, c, rfl, hc, hn, _, hce⟩
    · clear hre
      go_wp2_with fail
      refine wp_loop_rounds 1 ?_
      rw [rounds_succ]
      go_wp2_with fail
      exact bodyPost_ret (v := .int .i64 0) (by simp [results, Try.results7, go_sem]) rfl ⟨by rw [unhide HD]; rfl, unhide HB⟩
    · have HCE := hide hce
      unfold maxLen at hn
      clear hre hce hc
      have hel := unhide HEL
      go_wp2_with fail
      go_loop [4, 15] (fun d i => ∃ k : Nat, k ≤ es.length ∧ i = .int .i64 k ∧ d = .int .i64 (deepV vs 0 (es.take k))) (fun d i => es.length - (intOf i).toNat)
      case atStart => exact ⟨0, Nat.zero_le _, rfl, rfl⟩
      case round =>
        obtain ⟨k, hk, rfl, rfl⟩ := hrel
        by_cases hlt : k < es.length
        · have hx : es[k]? = some es[k] := List.getElem?_eq_getElem hlt
          have hmem : es[k] ∈ es := List.getElem_mem hlt
          generalize es[k] = z at hx hmem
          have HST := hide (deepV_step vs 0 hx)
          obtain ⟨u, hul, hat, hus⟩ := unhide HCE k z hx
          subst hus
          have k0 := hat.get (j := 0) rfl
          simp only [Nat.add_zero, Nat.mul_one] at k0
          have HCF := hide (unhide HOF z hmem)
          have hb1 := deepV_bd (unhide HBD) (by omega) (es.take k) 0 (by omega) (by omega)
          have hb2 := (unhide HBD).lvl (by omega) z
          clear hat hul HCE hx hmem HOF
          generalize deepV vs 0 (es.take k) = d at *
          generalize lvl vs z = lz at *
          obtain ⟨hb3, hb4⟩ := hb1
          obtain ⟨hb5, hb6⟩ := hb2
          go_wp2_with fail
          refine (unhide HCF).mono ?_
          rintro e W4 ⟨rfl, rfl⟩
          go_wp2_with fail
          go_round
          case rel => exact ⟨k + 1, by omega, by go_num, by rw [unhide HST, max_if]⟩
          case measure => simp [intOf]; omega
        · obtain rfl : k = es.length := by omega
          rw [List.take_of_length_le (Nat.le_refl _)]
          have HD2 := HD
          clear HCE HOF HD
          generalize deepV vs 0 es = dd at *
          go_wp2_with fail
          exact bodyPost_ret (v := .int .i64 dd) (by simp [results, Try.results7, go_sem]) rfl ⟨by rw [unhide HD2], unhide HB⟩
end Go.Proofs.Ytpkgcccbhfdaiab
