/- The specification's Depth. -/
import Derived.Test.YtpkgcccbhfdaiabL5
namespace Go.Proofs.Ytpkgcccbhfdaiab
open Go Go.RowKit Gs
set_option linter.unusedVariables false
set_option linter.unusedSimpArgs false
set_option maxRecDepth 100000
theorem pins_lit {w : World} {ps : List Pin} {s : Option Addr} {n c : Nat} (h : RS 2 RPin w 0 ps (.slice s n c)) : ∀ (i : Nat) p, ps[i]? = some p → ∃ b o, s = some ⟨b, o, none⟩ ∧ w.cell? ⟨b, o + i * 2 + 1, none⟩ = some (.int .i64 p.lit) := by
  intro i x hx
  rcases h.open with ⟨rfl, _⟩ | ⟨b, o, c', hv, _, _, _, he⟩
  · simp at hx
  · injection hv with e1 e2 e3
    obtain ⟨u, hu, hat, hux⟩ := he i x hx
    unfold RPin at hux
    obtain ⟨rfl, _⟩ := hux
    exact ⟨b, o, e1, by simpa using hat.get (j := 1) rfl⟩
theorem latch_next {w : World} {ps : List Latch} {s : Option Addr} {n c : Nat} (h : RS 4 RLatch w 0 ps (.slice s n c)) : ∀ (i : Nat) p, ps[i]? = some p → ∃ b o, s = some ⟨b, o, none⟩ ∧ w.cell? ⟨b, o + i * 4 + 1, none⟩ = some (.int .i64 p.next) := by
  intro i x hx
  rcases h.open with ⟨rfl, _⟩ | ⟨b, o, c', hv, _, _, _, he⟩
  · simp at hx
  · injection hv with e1 e2 e3
    obtain ⟨u, hu, hat, hux⟩ := he i x hx
    unfold RLatch at hux
    obtain ⟨rfl, _⟩ := hux
    exact ⟨b, o, e1, by simpa using hat.get (j := 1) rfl⟩
set_option maxHeartbeats 16000000 in
theorem sDepth (x : Aig) (u : List Value) (w : World) (hl : szAig x ≤ 1048576) (hr : RAig w 0 x u) :
    Calls Try.prog 5 #[.agg u.toArray] w fun e w' => e = .returned (.int .i64 (depthA x)) ∧ Below w.heap.size w w' := by
  have HOK := hide (fun (V : World) (hb : Below w.heap.size w V) => sAigOK x u V hl (hr.later hb))
  rw [← aig_same x] at HOK
  obtain ⟨b0, b1, b2, b3, b4, b5⟩ := szAig_parts hl
  obtain ⟨s0, s1, s2, s3, s4, s5, c0, c1, c2, c3, c4, c5, rfl, h2, h3, h4, h5⟩ := hr.open6
  show Calls Try.prog 5 #[.agg #[.slice s0 x.ins.length c0, .slice s1 x.clocks.length c1, .slice s2 x.latches.length c2, .slice s3 x.ands.length c3, .slice s4 x.outs.length c4, .slice s5 x.checks.length c5]] w _
  change Hid (∀ (V : World), Below w.heap.size w V → Calls Try.prog 13 #[.agg #[.slice s0 x.ins.length c0, .slice s1 x.clocks.length c1, .slice s2 x.latches.length c2, .slice s3 x.ands.length c3, .slice s4 x.outs.length c4, .slice s5 x.checks.length c5]] V _) at HOK
  cases hok : aigI x
  · have HD : Hid (depthA x = -1) := hide (by unfold depthA; rw [hok]; rfl)
    rw [hok] at HOK
    clear hr h2 h3 h4 h5 hl hok
    go_enter Try.func5, Try.ntmps5
    go_wp2_with fail
    refine (unhide HOK _ (bal (brf w) _)).mono ?_
    rintro e W1 ⟨rfl, hb1⟩
    have HB := hide (btr (bal (brf w) _) hb1)
    clear hb1
    go_wp2_with fail
    exact bodyPost_ret (v := .int .i64 (-1)) (by simp [results, Try.results5, go_sem]) rfl ⟨by rw [unhide HD], unhide HB⟩
  · have HD : Hid (depthA x = deepV (levA x) (deepV (levA x) (deepV (levA x) 0 (x.outs.map (fun p : Pin => p.lit))) (x.checks.map (fun p : Pin => p.lit))) (x.latches.map (fun l : Latch => l.next))) := hide (by unfold depthA; rw [hok]; unfold endsL; rw [if_pos rfl, deepV_app, deepV_app])
    have hfit := Fit.of hok
    rw [hok] at HOK
    have HLV := hide (fun (V : World) (hb : Below w.heap.size w V) => sLevels s0 s1 s2 s3 s4 s5 x.ins.length x.clocks.length x.latches.length x.ands.length x.outs.length x.checks.length c0 c1 c2 c3 c4 c5 x.ands V b0 b2 b3 (h3.later RAndG.keeps hb) hfit.ands)
    change Hid (∀ (V : World), Below w.heap.size w V → Calls Try.prog 14 _ V (fun e w' => (∃ v, e = .returned v ∧ OI V.heap.size w' v (levA x)) ∧ Below V.heap.size V w')) at HLV
    have hlen := levA_len x
    have hfe := hfit.ends
    have hcn := hfit.cnt
    have hbd : LBd (0 + (x.ands.length : Int)) (levA x) := LBd.levs _ _ 0 (LBd.zeros _) (Int.le_refl _)
    rw [← hlen] at hfe
    have hll : (levA x).length ≤ 4194304 := by rw [hlen]; unfold firstN; omega
    have hl1 : 0 < (levA x).length := by rw [hlen]; unfold firstN; omega
    have HL1 := hide hl1
    have HBD : Hid (LBd 1048576 (levA x)) := hide (fun i y hy => by have := hbd i y hy; omega)
    have HLL := hide hll
    have HF4 : Hid (∀ (i : Nat) p, x.outs[i]? = some p → 0 ≤ p.lit ∧ p.lit < 2 * ((levA x).length : Int)) := hide (fun i p hp => hfe p.lit (by unfold endsL; exact List.mem_append_left _ (List.mem_map_of_mem (List.mem_of_getElem? hp))))
    have HF5 : Hid (∀ (i : Nat) p, x.checks[i]? = some p → 0 ≤ p.lit ∧ p.lit < 2 * ((levA x).length : Int)) := hide (fun i p hp => hfe p.lit (by unfold endsL; exact List.mem_append_right _ (List.mem_append_left _ (List.mem_map_of_mem (List.mem_of_getElem? hp)))))
    have HF2 : Hid (∀ (i : Nat) p, x.latches[i]? = some p → 0 ≤ p.next ∧ p.next < 2 * ((levA x).length : Int)) := hide (fun i p hp => hfe p.next (by unfold endsL; exact List.mem_append_right _ (List.mem_append_right _ (List.mem_map_of_mem (List.mem_of_getElem? hp)))))
    have HC : Hid (∀ V, Below (w.alloc (.cells #[.slice s0 x.ins.length c0, .slice s1 x.clocks.length c1, .slice s2 x.latches.length c2, .slice s3 x.ands.length c3, .slice s4 x.outs.length c4, .slice s5 x.checks.length c5] 34)).heap.size (w.alloc (.cells #[.slice s0 x.ins.length c0, .slice s1 x.clocks.length c1, .slice s2 x.latches.length c2, .slice s3 x.ands.length c3, .slice s4 x.outs.length c4, .slice s5 x.checks.length c5] 34)) V → B6 34 w (.slice s0 x.ins.length c0) (.slice s1 x.clocks.length c1) (.slice s2 x.latches.length c2) (.slice s3 x.ands.length c3) (.slice s4 x.outs.length c4) (.slice s5 x.checks.length c5) V) := hide (fun V h => h)
    have HP4 := hide (pins_lit h4)
    have HP5 := hide (pins_lit h5)
    have HP2 := hide (latch_next h2)
    clear hr h2 h3 h4 h5 hl hok hfit hlen hfe hcn hbd hll hl1
    generalize levA x = vs at *
    generalize depthA x = DD at *
    generalize x.outs = outs at *
    generalize x.checks = checks at *
    generalize x.latches = latches at *
    generalize x.ins.length = n0 at *
    generalize x.clocks.length = n1 at *
    generalize x.ands.length = n3 at *
    go_enter Try.func5, Try.ntmps5
    go_wp2_with fail
    refine (unhide HOK _ (bal (brf w) _)).mono ?_
    rintro e W1 ⟨rfl, hb1⟩
    have HX1 := hide (unhide HC _ hb1)
    obtain ⟨q0, q1, q2, q3, q4, q5⟩ := (unhide HX1).get
    clear hb1
    go_wp2_with fail
    refine (unhide HLV _ (unhide HX1).below).mono ?_
    rintro e W2 ⟨⟨v2, rfl, ho2⟩, hb2⟩
    have HX2 := hide ((unhide HX1).then hb2)
    obtain ⟨tb, tc, rfl, hcl⟩ := ho2.some (unhide HL1)
    have HCL := hide hcl
    have HB := hide (unhide HX2).below
    clear hb2 ho2 hcl q0 q1 q2 q3 q4 q5
    obtain ⟨q0, q1, q2, q3, q4, q5⟩ := (unhide HX2).get
    clear HOK HLV HC HX1 HX2 q0 q1 q3
    have htl := unhide HLL
    go_wp2_with fail
    go_loop [4, 5] (fun d i => ∃ k : Nat, k ≤ outs.length ∧ i = .int .i64 k ∧ d = .int .i64 (deepV vs (0) ((outs.map (fun p : Pin => p.lit)).take k))) (fun d i => outs.length - (intOf i).toNat)
    case atStart => exact ⟨0, Nat.zero_le _, rfl, rfl⟩
    case round =>
      obtain ⟨k, hk, rfl, rfl⟩ := hrel
      by_cases hlt : k < outs.length
      · have hx : outs[k]? = some outs[k] := List.getElem?_eq_getElem hlt
        generalize outs[k] = p at hx
        have HST := hide (deepV_step vs (0) (ls := (outs.map (fun p : Pin => p.lit))) (k := k) (l := p.lit) (by rw [List.getElem?_map, hx]; rfl))
        obtain ⟨b, o, rfl, hc⟩ := unhide HP4 k p hx
        have k1 := cell_later (unhide HB) hc
        obtain ⟨f0, f1⟩ := unhide HF4 k p hx
        obtain ⟨pp, hq, hpl, hg⟩ := lvl_at f0 f1
        have k2 := unhide HCL pp _ hg
        have i1 : (0 : Int) ≤ (pp : Int) := by omega
        have i2 : (pp : Int) < (vs.length : Int) := by omega
        have hw2 := wrap_in (n := (pp : Int)) (by omega) (by omega)
        clear hx hc hg f0 f1
        generalize p.lit = z at *
        generalize deepV vs (0) ((outs.map (fun p : Pin => p.lit)).take k) = d at *
        generalize lvl vs z = lz at *
        go_wp2_with fail
        go_round
        case rel => exact ⟨k + 1, by omega, by go_num, by rw [unhide HST, max_if]⟩
        case measure => simp [intOf]; omega
      · obtain rfl : k = outs.length := by omega
        rw [show (outs.map (fun p : Pin => p.lit)).take outs.length = outs.map (fun p : Pin => p.lit) by rw [List.take_of_length_le (by simp)]]
        clear HP4 HF4
        go_wp2_with fail
        go_loop [4, 6] (fun d i => ∃ k : Nat, k ≤ checks.length ∧ i = .int .i64 k ∧ d = .int .i64 (deepV vs (deepV vs 0 (outs.map (fun p : Pin => p.lit))) ((checks.map (fun p : Pin => p.lit)).take k))) (fun d i => checks.length - (intOf i).toNat)
        case atStart => exact ⟨0, Nat.zero_le _, rfl, rfl⟩
        case round =>
          obtain ⟨k, hk, rfl, rfl⟩ := hrel
          by_cases hlt : k < checks.length
          · have hx : checks[k]? = some checks[k] := List.getElem?_eq_getElem hlt
            generalize checks[k] = p at hx
            have HST := hide (deepV_step vs (deepV vs 0 (outs.map (fun p : Pin => p.lit))) (ls := (checks.map (fun p : Pin => p.lit))) (k := k) (l := p.lit) (by rw [List.getElem?_map, hx]; rfl))
            obtain ⟨b, o, rfl, hc⟩ := unhide HP5 k p hx
            have k1 := cell_later (unhide HB) hc
            obtain ⟨f0, f1⟩ := unhide HF5 k p hx
            obtain ⟨pp, hq, hpl, hg⟩ := lvl_at f0 f1
            have k2 := unhide HCL pp _ hg
            have i1 : (0 : Int) ≤ (pp : Int) := by omega
            have i2 : (pp : Int) < (vs.length : Int) := by omega
            have hw2 := wrap_in (n := (pp : Int)) (by omega) (by omega)
            clear hx hc hg f0 f1
            generalize p.lit = z at *
            generalize deepV vs (deepV vs 0 (outs.map (fun p : Pin => p.lit))) ((checks.map (fun p : Pin => p.lit)).take k) = d at *
            generalize lvl vs z = lz at *
            go_wp2_with fail
            go_round
            case rel => exact ⟨k + 1, by omega, by go_num, by rw [unhide HST, max_if]⟩
            case measure => simp [intOf]; omega
          · obtain rfl : k = checks.length := by omega
            rw [show (checks.map (fun p : Pin => p.lit)).take checks.length = checks.map (fun p : Pin => p.lit) by rw [List.take_of_length_le (by simp)]]
            clear HP5 HF5
            go_wp2_with fail
            go_loop [4, 7] (fun d i => ∃ k : Nat, k ≤ latches.length ∧ i = .int .i64 k ∧ d = .int .i64 (deepV vs (deepV vs (deepV vs 0 (outs.map (fun p : Pin => p.lit))) (checks.map (fun p : Pin => p.lit))) ((latches.map (fun l : Latch => l.next)).take k))) (fun d i => latches.length - (intOf i).toNat)
            case atStart => exact ⟨0, Nat.zero_le _, rfl, rfl⟩
            case round =>
              obtain ⟨k, hk, rfl, rfl⟩ := hrel
              by_cases hlt : k < latches.length
              · have hx : latches[k]? = some latches[k] := List.getElem?_eq_getElem hlt
                generalize latches[k] = p at hx
                have HST := hide (deepV_step vs (deepV vs (deepV vs 0 (outs.map (fun p : Pin => p.lit))) (checks.map (fun p : Pin => p.lit))) (ls := (latches.map (fun l : Latch => l.next))) (k := k) (l := p.next) (by rw [List.getElem?_map, hx]; rfl))
                obtain ⟨b, o, rfl, hc⟩ := unhide HP2 k p hx
                have k1 := cell_later (unhide HB) hc
                obtain ⟨f0, f1⟩ := unhide HF2 k p hx
                obtain ⟨pp, hq, hpl, hg⟩ := lvl_at f0 f1
                have k2 := unhide HCL pp _ hg
                have i1 : (0 : Int) ≤ (pp : Int) := by omega
                have i2 : (pp : Int) < (vs.length : Int) := by omega
                have hw2 := wrap_in (n := (pp : Int)) (by omega) (by omega)
                clear hx hc hg f0 f1
                generalize p.next = z at *
                generalize deepV vs (deepV vs (deepV vs 0 (outs.map (fun p : Pin => p.lit))) (checks.map (fun p : Pin => p.lit))) ((latches.map (fun l : Latch => l.next)).take k) = d at *
                generalize lvl vs z = lz at *
                go_wp2_with fail
                go_round
                case rel => exact ⟨k + 1, by omega, by go_num, by rw [unhide HST, max_if]⟩
                case measure => simp [intOf]; omega
              · obtain rfl : k = latches.length := by omega
                rw [show (latches.map (fun l : Latch => l.next)).take latches.length = latches.map (fun l : Latch => l.next) by rw [List.take_of_length_le (by simp)]]
                have HD2 := HD
                clear HD
                generalize deepV vs (deepV vs (deepV vs 0 (outs.map (fun p : Pin => p.lit))) (checks.map (fun p : Pin => p.lit))) (latches.map (fun l : Latch => l.next)) = dd at *
                go_wp2_with fail
                exact bodyPost_ret (v := .int .i64 dd) (by simp [results, Try.results5, go_sem]) rfl ⟨by rw [unhide HD2], unhide HB⟩
end Go.Proofs.Ytpkgcccbhfdaiab
