/- The specification's MapDepth. -/
import Derived.Test.YthbcokioijpofacL0
namespace Go.Proofs.Ythbcokioijpofac
open Go Go.RowKit Gs
set_option linter.unusedVariables false
set_option linter.unusedSimpArgs false
set_option maxRecDepth 100000
set_option maxHeartbeats 16000000 in
theorem sMapDepth (x : Mapped) (u : List Value) (w : World) (hl : szMapped x ≤ 1048576) (hr : RMapped w 0 x u) :
    Calls Try.prog 5 #[.agg u.toArray] w fun e w' => e = .returned (.int .i64 (depthM x)) ∧ Below w.heap.size w w' := by
  have HOK := hide (fun (V : World) (hb : Below w.heap.size w V) => sMapOK x u V hl (hr.later hb))
  rw [← map_same x] at HOK
  obtain ⟨s0, s1, s2, s3, s4, s5, c0, c1, c2, c3, c4, c5, rfl, h2, h3, h4, h5⟩ := hr.open6
  show Calls Try.prog 5 #[.agg #[.slice s0 x.ins.length c0, .slice s1 x.clocks.length c1, .slice s2 x.regs.length c2, .slice s3 x.luts.length c3, .slice s4 x.outs.length c4, .slice s5 x.checks.length c5]] w _
  change Hid (∀ (V : World), Below w.heap.size w V → Calls Try.prog 13 #[.agg #[.slice s0 x.ins.length c0, .slice s1 x.clocks.length c1, .slice s2 x.regs.length c2, .slice s3 x.luts.length c3, .slice s4 x.outs.length c4, .slice s5 x.checks.length c5]] V _) at HOK
  cases hok : mapI x
  · have HD : Hid (depthM x = -1) := hide (by unfold depthM; rw [hok]; rfl)
    rw [hok] at HOK
    clear hr h2 h3 h4 h5 hl hok
    go_enter Try.func5, Try.ntmps5
    go_wp2_with fail
    refine (unhide HOK _ (bal (brf w) _)).mono ?_
    rintro e W1 ⟨rfl, hb1⟩
    have HB := hide (btr (bal (brf w) _) hb1)
    clear hb1
    go_wp2_with fail
    exact bodyPost_ret (v := .int .i64 (-1)) (by simp [results, Try.results5, go_sem]) rfl ⟨by rw [unhide HD], unhide HB⟩
  · have HD : Hid (depthM x = (runM (x.ins.length + x.regs.length) x.luts).2) := hide (by unfold depthM; rw [hok]; rfl)
    have hfit := FitM.of hok
    rw [hok] at HOK
    have HCS := hide (fun (V : World) (hb : Below w.heap.size w V) => lut_cells (h3.later RLut.keeps hb))
    have HC : Hid (∀ V, Below (w.alloc (.cells #[.slice s0 x.ins.length c0, .slice s1 x.clocks.length c1, .slice s2 x.regs.length c2, .slice s3 x.luts.length c3, .slice s4 x.outs.length c4, .slice s5 x.checks.length c5] 34)).heap.size (w.alloc (.cells #[.slice s0 x.ins.length c0, .slice s1 x.clocks.length c1, .slice s2 x.regs.length c2, .slice s3 x.luts.length c3, .slice s4 x.outs.length c4, .slice s5 x.checks.length c5] 34)) V → B6 34 w (.slice s0 x.ins.length c0) (.slice s1 x.clocks.length c1) (.slice s2 x.regs.length c2) (.slice s3 x.luts.length c3) (.slice s4 x.outs.length c4) (.slice s5 x.checks.length c5) V) := hide (fun V h => h)
    obtain ⟨f1, f2, f3⟩ := hfit
    have HF3 := hide f3
    obtain ⟨FA, hFA⟩ : ∃ FA, x.ins.length + x.regs.length = FA := ⟨_, rfl⟩
    have hsum : (x.ins.length : Int) + (x.regs.length : Int) = (FA : Int) := by omega
    rw [hFA] at HD HF3 f1
    have HBD := hide (runM_bd FA x.luts)
    clear hr h2 h3 h4 h5 hl hok f3 hFA
    generalize x.luts = xs at *
    generalize depthM x = DD at *
    generalize x.ins.length = n0 at *
    generalize x.clocks.length = n1 at *
    generalize x.regs.length = n2 at *
    generalize x.outs.length = n4 at *
    generalize x.checks.length = n5 at *
    obtain ⟨M, hM, hmk⟩ := make_ints 43 Try.underlying43 FA (by omega)
    have HM := hide hM
    obtain ⟨i0, hi, hz0, hz1, hz2⟩ := info_parts info3
    have HI := hide (And.intro hi (And.intro hz0 (And.intro hz1 hz2)))
    clear hi hz0 hz1 hz2 hM
    go_enter Try.func5, Try.ntmps5
    go_wp2_with fail
    refine (unhide HOK _ (bal (brf w) _)).mono ?_
    rintro e W2 ⟨rfl, hb1⟩
    have HX2 := hide (unhide HC _ hb1)
    obtain ⟨q0, q1, q2, q3, q4, q5⟩ := (unhide HX2).get
    have HO0 : Hid (OI W2.heap.size (W2.alloc (.cells M 3)) (.slice (some ⟨W2.heap.size, 0, none⟩) FA FA) (zerosV FA)) := hide (OI_made (unhide HM) (by omega) (Nat.le_refl _))
    clear hb1
    go_wp2_with fail
    clear q0 q1 q2 q3 q4 q5 hmk hsum
    go_loopw [3, 4, 5] (fun v d i wr => ∃ k : Nat, k ≤ xs.length ∧ i = .int .i64 k ∧ OI W2.heap.size wr v (runM FA (xs.take k)).1 ∧ d = .int .i64 (runM FA (xs.take k)).2 ∧ Below W2.heap.size W2 wr) (fun _ _ i wr => xs.length - (intOf i).toNat)
    case atStart => exact ⟨0, Nat.zero_le _, rfl, unhide HO0, rfl, bal (brf W2) _⟩
    case round =>
      obtain ⟨k, hk, rfl, hot, rfl, hb2⟩ := hrel
      clear HO0
      obtain ⟨q0, q1, q2, q3, q4, q5⟩ := ((unhide HX2).then hb2).get
      have hb := ((unhide HX2).then hb2).below
      have HB2 := hide hb2
      clear q0 q1 q2 q4 q5
      by_cases hlt : k < xs.length
      · have hx : xs[k]? = some xs[k] := List.getElem?_eq_getElem hlt
        generalize xs[k] = l at hx
        have HST := hide (runM_step FA hx)
        obtain ⟨hlen, hbd, hd0, hd1⟩ := unhide HBD k hk
        obtain ⟨hi4, hin⟩ := unhide HF3 k l hx
        obtain ⟨b, o, a, n, rfl, hc0, hc1, hcy⟩ := unhide HCS wr hb k l hx
        obtain ⟨vs, hvs⟩ : ∃ vs, (runM FA (xs.take k)).1 = vs := ⟨_, rfl⟩
        obtain ⟨dd, hdd⟩ : ∃ dd, (runM FA (xs.take k)).2 = dd := ⟨_, rfl⟩
        have HST2 : Hid (runM FA (xs.take (k + 1)) = (vs ++ [mxV vs 0 l.inp + 1], max dd (mxV vs 0 l.inp + 1))) := hide (by rw [unhide HST]; unfold stM; rw [hvs, hdd])
        rw [hvs] at hot hlen hbd
        rw [hdd] at hd0 hd1 ⊢
        have HYC := hide hcy
        have HIN := hide hin
        have HMX := hide (fun (ys : List Int) => mxV_bd hbd (by omega) ys 0 (Int.le_refl _) (by omega))
        have HGD := hide (fun (i : Nat) => hbd.get (by omega) i)
        have HO := hide hot
        have HSZ := hide hb2.size
        have HLEN := hide hlen
        clear hot hb hb2 hx hbd hlen HST hvs hdd hcy hin HCS HF3 HBD hc1
        generalize l.inp = ys at *
        have j1 : (0 : Int) ≤ (k : Int) := by omega
        have j2 : (k : Int) < (xs.length : Int) := by omega
        go_wp2_with fail
        go_loop [6, 7] (fun t i => ∃ m : Nat, m ≤ ys.length ∧ i = .int .i64 m ∧ t = .int .i64 (mxV vs 0 (ys.take m))) (fun _ i => ys.length - (intOf i).toNat)
        case atStart => exact ⟨0, Nat.zero_le _, rfl, rfl⟩
        case round =>
          obtain ⟨m, hm, rfl, rfl⟩ := hrel
          have hmx := unhide HMX (ys.take m)
          by_cases hlm : m < ys.length
          · have hy : ys[m]? = some ys[m] := List.getElem?_eq_getElem hlm
            generalize ys[m] = z at hy
            obtain ⟨z0, z1⟩ := unhide HIN m z hy
            obtain ⟨p, rfl⟩ : ∃ p : Nat, z = (p : Int) := ⟨z.toNat, by omega⟩
            have HSM := hide (mxV_step vs 0 hy)
            obtain ⟨b', o', rfl, hz⟩ := unhide HYC m _ hy
            have hlen := unhide HLEN
            have hpl : p < vs.length := by omega
            obtain ⟨g, gc, rfl, hcl⟩ := (unhide HO).some (by omega)
            have hv : vs[p]? = some (vs.getD p 0) := by rw [List.getD_eq_getElem?_getD, List.getElem?_eq_getElem hpl]; rfl
            have hzc := hcl p _ hv
            have hgd := unhide HGD p
            have r1 : (m : Int) < (ys.length : Int) := by omega
            have r2 : (p : Int) < (vs.length : Int) := by omega
            rw [Int.toNat_natCast] at HSM
            clear hcl hv hy
            generalize vs.getD p 0 = q at *
            generalize mxV vs 0 (ys.take m) = t at *
            obtain ⟨t0, t1⟩ := hmx
            obtain ⟨g0, g1⟩ := hgd
            go_wp2_with fail
            go_round
            case rel => exact ⟨m + 1, by omega, by go_num, by rw [unhide HSM, max_if]⟩
            case measure => simp [intOf]; omega
          · obtain rfl : m = ys.length := by omega
            rw [List.take_of_length_le (Nat.le_refl _)] at hmx ⊢
            generalize mxV vs 0 ys = t at *
            obtain ⟨t0, t1⟩ := hmx
            have hlen := unhide HLEN
            have HM2 := hide (max_if dd (t + 1))
            clear HMX HGD HYC HIN
            go_wp2_with (first
              | (at_builtin; refine wpList_append_own _ rfl _ _ 43 rfl W2.heap.size 3 i0 (.int .i64 0) 1 8 Try.underlying43 (unhide HI).1 (unhide HI).2.1 (unhide HI).2.2.1 (unhide HI).2.2.2 rfl (by decide) _ _ _ rfl ((unhide HO).alloc _) ⟨wr.heap.size, 0, none⟩ 1 1 [.int .i64 (t + 1)] rfl rfl (newI _ _ _ (by simp)) (oneI _) (by unfold maxLen; omega) (by omega) (by have := unhide HSZ; simp; omega) ?_; intro v' w2 hown' hgrow _)
              | fail)
            have R1 : OI W2.heap.size w2 v' (runM FA (xs.take (k + 1))).1 := by
              rw [unhide HST2]; exact OI.step hown'
            have R2 := below_grown (bal (unhide HB2) (.cells #[.int .i64 (t + 1)] 3)) hgrow (by have := unhide HSZ; simp; omega) (unhide HO).row
            have HR1 := hide R1
            have HR2 := hide R2
            clear R1 R2 hown' hgrow
            go_roundw
            case rel => exact ⟨k + 1, by omega, by go_num, unhide HR1, by rw [unhide HST2]; show _ = Value.int .i64 (max dd (t + 1)); rw [unhide HM2], unhide HR2⟩
            case measure => simp [intOf]; omega
      · obtain rfl : k = xs.length := by omega
        rw [List.take_of_length_le (Nat.le_refl _)]
        have HB := hide hb
        clear hot hb hb2 HCS HF3 HBD
        generalize (runM FA xs).2 = dd at *
        go_wp2_with fail
        exact bodyPost_ret (v := .int .i64 dd) (by simp [results, Try.results5, go_sem]) rfl ⟨by rw [unhide HD], unhide HB⟩
end Go.Proofs.Ythbcokioijpofac
