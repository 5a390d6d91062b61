/- The specification's FlatOK: where the signals are not right. -/
import Derived.Test.YtgkfhaahcedbpaaSF1
namespace Go.Proofs.Ytgkfhaahcedbpaa
open Go Go.RowKit Gs
set_option linter.unusedVariables false
set_option linter.unusedSimpArgs false
set_option maxRecDepth 100000
set_option maxHeartbeats 32000000 in
theorem sFlatA (d : Nat) (f : Flat) (u : List Value) (w : World) (hr : RFlatN d w 0 f u) (b0 : f.signals.length ≤ 256) (b1 : f.procs.length ≤ 256) (hbad : (f.signals.all sigFB && decide (f.signals.map (·.name)).Nodup) = false) :
    Calls Try.prog 5 #[.agg u.toArray] w fun e w' => e = .returned (.bool false) ∧ Below w.heap.size w w' := by
  obtain ⟨v0, v1, rfl, h0, h1⟩ := hr
  have hl0 := h0.len
  have hl1 := h1.len
  unfold maxLen at hl0 hl1
  have HR0 := hide h0
  have HR1 := hide h1
  obtain ⟨s0, c0, rfl⟩ := h0.slice
  obtain ⟨s1, c1, rfl⟩ := h1.slice
  clear h0 h1
  obtain ⟨sg, ps⟩ := f
  dsimp only at *
  have HCS := hide (fun j g hg => sig_cells (unhide HR0) j g hg)
  obtain ⟨L0, hL0⟩ : ∃ L, sg.length = L := ⟨_, rfl⟩
  obtain ⟨L1, hL1⟩ : ∃ L, ps.length = L := ⟨_, rfl⟩
  have n0 : ¬ (256 : Int) < (L0 : Int) := by omega
  have n1 : ¬ (256 : Int) < (L1 : Int) := by omega
  rw [hL0] at hl0 b0 HR0
  rw [hL1] at hl1 b1 HR1
  rw [hL0, hL1]
  have HL0 := hide hL0
  have HL1 := hide hL1
  clear hL0 hL1
  have HB := hide (bal (brf w) (.cells #[.slice s0 L0 c0, .slice s1 L1 c1] 31))
  obtain ⟨X, hX⟩ : ∃ X, X = w.alloc (.cells #[.slice s0 L0 c0, .slice s1 L1 c1] 31) := ⟨_, rfl⟩
  rw [← hX] at HB
  have hXs : X.heap.size = w.heap.size + 1 := by rw [hX]; simp
  have HXS := hide hXs
  have HXC : Hid (∀ V, Below X.heap.size X V → V.cell? ⟨w.heap.size, 0, none⟩ = some (.slice s0 L0 c0) ∧ V.cell? ⟨w.heap.size, 1, none⟩ = some (.slice s1 L1 c1)) := hide (fun V hV => by
    refine ⟨?_, ?_⟩ <;> exact cell_later hV (by rw [hX, World.cell?_alloc_new]; rfl))
  have HX := hide hX
  clear hX hXs
  have HBAD := hide hbad
  clear hbad
  go_enter Try.func5, Try.ntmps5
  go_wp2_with fail
  rw [← unhide HX]
  go_loopw [3] (fun i wr => ∃ j : Nat, j ≤ L0 ∧ i = .int .i64 j ∧ ((sg.take j).map (fun x : Signal => x.name)).Nodup ∧ (sg.take j).all sigFB = true ∧ Below X.heap.size X wr) (fun i _ => L0 - (intOf i).toNat)
  case atStart => exact ⟨0, Nat.zero_le _, rfl, by simp, rfl, brf _⟩
  case round =>
    obtain ⟨j, hj, rfl, hnd, hall, hb⟩ := hrel
    by_cases hlt : j < L0
    · obtain ⟨g, hg⟩ : ∃ g, sg[j]? = some g := ⟨_, List.getElem?_eq_getElem (by rw [unhide HL0]; exact hlt)⟩
      obtain ⟨b, o, rfl, e0, e1, e2, e3, e4, e5, hs1, hs2⟩ := unhide HCS j g hg
      have HST := hide (map_takeG (f := fun x : Signal => x.name) hg)
      have HAT := hide (all_takeG (p := sigFB) hg)
      have HA := hide hall
      have HND := hide hnd
      have HBR := hide hb
      have hw0 := (unhide HB).trans (Below.mono hb (unhide HB).size)
      have k0 := cell_later hw0 e0
      have k1 := cell_later hw0 e1
      have k2 := cell_later hw0 e2
      have k3 := cell_later hw0 e3
      have k4 := cell_later hw0 e4
      have k5 := cell_later hw0 e5
      have x0 := (unhide HXC wr hb).1
      have HGA : Hid (sg.all sigFB = true → sigFB g = true) := hide (fun h => List.all_eq_true.1 h g (List.mem_of_getElem? hg))
      obtain ⟨Y, hY⟩ : ∃ Y, Y = wr.alloc (.cells #[.string g.name, .int .i64 g.kind, .int .i64 g.width, .int .i64 g.depth, .bool g.signed, .string g.init] 38) := ⟨_, rfl⟩
      have hbY : Below wr.heap.size wr Y := by rw [hY]; exact bal (brf wr) _
      have HYB := hide (btr hb hbY)
      have HWY := hide (hw0.trans (Below.mono hbY hw0.size))
      have HYC := hide (show Y.cell? ⟨wr.heap.size, 0, none⟩ = some (.string g.name) ∧ Y.cell? ⟨wr.heap.size, 1, none⟩ = some (.int .i64 g.kind) ∧ Y.cell? ⟨wr.heap.size, 2, none⟩ = some (.int .i64 g.width) ∧ Y.cell? ⟨wr.heap.size, 3, none⟩ = some (.int .i64 g.depth) ∧ Y.cell? ⟨wr.heap.size, 5, none⟩ = some (.string g.init) from by
        refine ⟨?_, ?_, ?_, ?_, ?_⟩ <;> (rw [hY, World.cell?_alloc_new]; rfl))
      have HC := hide (fun V : World => sBitsOK g.init V hs2)
      have hg' : (⟨g.name, g.kind, g.width, g.depth, g.signed, g.init⟩ : Signal) = g := rfl
      have HY := hide hY
      have i1 : (0 : Int) ≤ (j : Int) := by omega
      have i2 : (j : Int) < (L0 : Int) := by omega
      unfold maxLen at hs1 hs2
      clear hall hnd hb hw0 e0 e1 e2 e3 e4 e5 hbY hY hg' hg
      by_cases hgood : sigFB g = true
      rotate_left
      · have hgf := sigFB_bad hgood
        clear hgood HAT HST HGA HA HND
        generalize g.name = z0 at *
        generalize g.kind = z1 at *
        generalize g.width = z2 at *
        generalize g.depth = z3 at *
        generalize g.signed = z4 at *
        generalize g.init = z5 at *
        have HBZ := hide (unhide HWY)
        obtain ⟨y0, y1, y2, y3, y5⟩ := unhide HYC
        clear HCS HXC HWY HYB HYC
        by_cases h1 : (z0.size : Int) < 1
        · skip
          go_wp2_with fail
          rw [← unhide HY]
          go_wp2_with fail
          exact bodyPost_ret (v := .bool false) (by simp [results, Try.results5, go_sem]) rfl ⟨rfl, unhide HBZ⟩
        by_cases h2 : (1000 : Int) < (z0.size : Int)
        · skip
          go_wp2_with fail
          rw [← unhide HY]
          go_wp2_with fail
          exact bodyPost_ret (v := .bool false) (by simp [results, Try.results5, go_sem]) rfl ⟨rfl, unhide HBZ⟩
        by_cases h3 : z1 < 1
        · skip
          go_wp2_with fail
          rw [← unhide HY]
          go_wp2_with fail
          exact bodyPost_ret (v := .bool false) (by simp [results, Try.results5, go_sem]) rfl ⟨rfl, unhide HBZ⟩
        by_cases h4 : (5 : Int) < z1
        · skip
          go_wp2_with fail
          rw [← unhide HY]
          go_wp2_with fail
          exact bodyPost_ret (v := .bool false) (by simp [results, Try.results5, go_sem]) rfl ⟨rfl, unhide HBZ⟩
        by_cases h5 : Vb.okV (L z5) = false
        · skip
          go_wp2_with fail
          rw [← unhide HY]
          go_wp2_with fail
          refine (unhide HC _).mono ?_
          rintro e V ⟨rfl, rfl⟩
          rw [h5]
          go_wp2_with fail
          exact bodyPost_ret (v := .bool false) (by simp [results, Try.results5, go_sem]) rfl ⟨rfl, unhide HBZ⟩
        have h5b : Vb.okV (L z5) = true := by cases h : Vb.okV (L z5) <;> simp_all
        by_cases h6 : (z5.size : Int) = z2
        rotate_left
        · have m6 : ((z5.size : Int) != z2) = true := bne_iff_ne.2 h6
          go_wp2_with fail
          rw [← unhide HY]
          go_wp2_with fail
          refine (unhide HC _).mono ?_
          rintro e V ⟨rfl, rfl⟩
          rw [h5b]
          go_wp2_with fail
          exact bodyPost_ret (v := .bool false) (by simp [results, Try.results5, go_sem]) rfl ⟨rfl, unhide HBZ⟩
        have m6 : ((z5.size : Int) != z2) = false := by simp [h6]
        by_cases h7 : z1 = 5
        · subst h7
          by_cases h8 : z3 < 1
          · skip
            go_wp2_with fail
            rw [← unhide HY]
            go_wp2_with fail
            refine (unhide HC _).mono ?_
            rintro e V ⟨rfl, rfl⟩
            rw [h5b]
            go_wp2_with fail
            exact bodyPost_ret (v := .bool false) (by simp [results, Try.results5, go_sem]) rfl ⟨rfl, unhide HBZ⟩
          have h9 : (64 : Int) < z3 := by rcases hgf with h | h | h | h | h | h | h | h | h <;> first | omega | (rw [h5b] at h; cases h)
          go_wp2_with fail
          rw [← unhide HY]
          go_wp2_with fail
          refine (unhide HC _).mono ?_
          rintro e V ⟨rfl, rfl⟩
          rw [h5b]
          go_wp2_with fail
          exact bodyPost_ret (v := .bool false) (by simp [results, Try.results5, go_sem]) rfl ⟨rfl, unhide HBZ⟩
        have m7 : (z1 == 5) = false := beq_eq_false_iff_ne.2 h7
        have m8 : (z3 != 0) = true := bne_iff_ne.2 (by rcases hgf with h | h | h | h | h | h | h | h | h <;> first | omega | (rw [h5b] at h; cases h))
        go_wp2_with fail
        rw [← unhide HY]
        go_wp2_with fail
        refine (unhide HC _).mono ?_
        rintro e V ⟨rfl, rfl⟩
        rw [h5b]
        go_wp2_with fail
        exact bodyPost_ret (v := .bool false) (by simp [results, Try.results5, go_sem]) rfl ⟨rfl, unhide HBZ⟩
      obtain ⟨p1, p2, p3, p4, p5, p6, p7, p8⟩ := sigFB_facts hgood
      have HA2 : Hid ((sg.take (j + 1)).all sigFB = true) := hide (by rw [unhide HAT, unhide HA, hgood]; rfl)
      clear hgood HAT HA HGA
      generalize g.name = z0 at *
      generalize g.kind = z1 at *
      generalize g.width = z2 at *
      generalize g.depth = z3 at *
      generalize g.signed = z4 at *
      generalize g.init = z5 at *
      have h1 : ¬ (z0.size : Int) < 1 := by omega
      have h2 : ¬ (1000 : Int) < (z0.size : Int) := by omega
      have h3 : ¬ z1 < 1 := by omega
      have h4 : ¬ (5 : Int) < z1 := by omega
      have m6 : ((z5.size : Int) != z2) = false := by simp [p5]
      have HNX : Hid (∀ V, z0 ∉ (sg.take j).map (fun x : Signal => x.name) → Below Y.heap.size Y V → ((sg.take (j + 1)).map (fun x : Signal => x.name)).Nodup ∧ Below X.heap.size X V) := hide (fun V h1 h2 => ⟨by rw [unhide HST]; exact nodup_step (unhide HND) h1, btr (unhide HYB) h2⟩)
      clear p1 p2 p3 p4 p5 HST HND
      obtain ⟨y0, y1, y2, y3, y5⟩ := unhide HYC
      have HP6 := hide p6
      clear p6
      by_cases h7 : z1 = 5
      · subst h7
        obtain ⟨h8, h9⟩ := p7 rfl
        have h8b : ¬ z3 < 1 := by omega
        have h9b : ¬ (64 : Int) < z3 := by omega
        clear p7 p8
        skip
        go_wp2_with fail
        rw [← unhide HY]
        go_wp2_with fail
        refine (unhide HC _).mono ?_
        rintro e Y ⟨rfl, rfl⟩
        rw [unhide HP6]
        go_wp2_with fail
        clear k0 k1 k2 k3 k4 k5 y0 y1 y2 y3 y5 x0
        go_loopw [6] (fun i wr2 => ∃ k : Nat, k ≤ j ∧ i = .int .i64 k ∧ z0 ∉ (sg.take k).map (fun x : Signal => x.name) ∧ Below Y.heap.size Y wr2) (fun i _ => j - (intOf i).toNat)
        case atStart => exact ⟨0, Nat.zero_le _, rfl, by simp, brf _⟩
        case round =>
          obtain ⟨k, hk, rfl, hnm, hbk⟩ := hrel
          have HBK := hide hbk
          have HNM := hide hnm
          clear hbk hnm
          by_cases hkj : k < j
          · obtain ⟨g2, hg2⟩ : ∃ g2, sg[k]? = some g2 := ⟨_, List.getElem?_eq_getElem (by rw [unhide HL0]; omega)⟩
            obtain ⟨b2, o2, hbo, f0, _, _, _, _, _, _, _⟩ := unhide HCS k g2 hg2
            injection hbo with hbo
            injection hbo with hb2 ho2 _
            subst hb2 ho2
            have HG2 := hide hg2
            have m0 := cell_later (btr (unhide HWY) (unhide HBK)) f0
            have mz := cell_later (unhide HBK) (unhide HYC).1
            have mx := (unhide HXC _ (btr (unhide HYB) (unhide HBK))).1
            have j1 : (0 : Int) ≤ (k : Int) := by omega
            have j2 : (k : Int) < (L0 : Int) := by omega
            have j3 : (k : Int) < (j : Int) := by omega
            clear f0 hg2
            obtain ⟨z9, hz9⟩ : ∃ z9, g2.name = z9 := ⟨_, rfl⟩
            rw [hz9] at m0
            have HZ9 := hide hz9
            clear hz9
            by_cases hq : z9 = z0
            · subst hq
              have HBZ := hide (btr (unhide HWY) (unhide HBK))
              clear HCS HXC HNM HG2 HYC
              go_wp2_with fail
              go_big_quiet (fail)
              go_wp2_with fail
              exact bodyPost_ret (v := .bool false) (by simp [results, Try.results5, go_sem]) rfl ⟨rfl, bdn (unhide HBZ)⟩
            · have hq2 : (z9.toList == z0.toList) = false := beq_eq_false_iff_ne.2 (fun h => hq (toList_inj9 h))
              have HN2 : Hid (z0 ∉ (sg.take (k + 1)).map (fun x : Signal => x.name)) := hide (notin_step (unhide HNM) (unhide HG2) (by rw [unhide HZ9]; exact hq))
              have HQ2 := hide hq2
              clear HCS HXC HNM HG2 HYC HZ9
              go_wp2_with fail
              have hq3 := unhide HQ2
              go_big_quiet (fail)
              go_wp2_with fail
              go_roundw
              case rel => exact ⟨k + 1, by omega, by go_num, unhide HN2, bdn (unhide HBK)⟩
              case measure => simp [intOf]; omega
          · obtain rfl : j = k := by omega
            have HFIN := hide (unhide HNX _ (unhide HNM) (unhide HBK))
            clear HNX HNM HCS HXC HYC
            go_wp2_with fail
            go_roundw
            case rel => exact ⟨j + 1, by omega, by go_num, (unhide HFIN).1, unhide HA2, (unhide HFIN).2⟩
            case measure => simp [intOf]; omega
      have m7 : (z1 == 5) = false := beq_eq_false_iff_ne.2 h7
      obtain rfl : z3 = 0 := p8 h7
      clear p7 p8
      skip
      go_wp2_with fail
      rw [← unhide HY]
      go_wp2_with fail
      refine (unhide HC _).mono ?_
      rintro e Y ⟨rfl, rfl⟩
      rw [unhide HP6]
      go_wp2_with fail
      clear k0 k1 k2 k3 k4 k5 y0 y1 y2 y3 y5 x0
      go_loopw [6] (fun i wr2 => ∃ k : Nat, k ≤ j ∧ i = .int .i64 k ∧ z0 ∉ (sg.take k).map (fun x : Signal => x.name) ∧ Below Y.heap.size Y wr2) (fun i _ => j - (intOf i).toNat)
      case atStart => exact ⟨0, Nat.zero_le _, rfl, by simp, brf _⟩
      case round =>
        obtain ⟨k, hk, rfl, hnm, hbk⟩ := hrel
        have HBK := hide hbk
        have HNM := hide hnm
        clear hbk hnm
        by_cases hkj : k < j
        · obtain ⟨g2, hg2⟩ : ∃ g2, sg[k]? = some g2 := ⟨_, List.getElem?_eq_getElem (by rw [unhide HL0]; omega)⟩
          obtain ⟨b2, o2, hbo, f0, _, _, _, _, _, _, _⟩ := unhide HCS k g2 hg2
          injection hbo with hbo
          injection hbo with hb2 ho2 _
          subst hb2 ho2
          have HG2 := hide hg2
          have m0 := cell_later (btr (unhide HWY) (unhide HBK)) f0
          have mz := cell_later (unhide HBK) (unhide HYC).1
          have mx := (unhide HXC _ (btr (unhide HYB) (unhide HBK))).1
          have j1 : (0 : Int) ≤ (k : Int) := by omega
          have j2 : (k : Int) < (L0 : Int) := by omega
          have j3 : (k : Int) < (j : Int) := by omega
          clear f0 hg2
          obtain ⟨z9, hz9⟩ : ∃ z9, g2.name = z9 := ⟨_, rfl⟩
          rw [hz9] at m0
          have HZ9 := hide hz9
          clear hz9
          by_cases hq : z9 = z0
          · subst hq
            have HBZ := hide (btr (unhide HWY) (unhide HBK))
            clear HCS HXC HNM HG2 HYC
            go_wp2_with fail
            go_big_quiet (fail)
            go_wp2_with fail
            exact bodyPost_ret (v := .bool false) (by simp [results, Try.results5, go_sem]) rfl ⟨rfl, bdn (unhide HBZ)⟩
          · have hq2 : (z9.toList == z0.toList) = false := beq_eq_false_iff_ne.2 (fun h => hq (toList_inj9 h))
            have HN2 : Hid (z0 ∉ (sg.take (k + 1)).map (fun x : Signal => x.name)) := hide (notin_step (unhide HNM) (unhide HG2) (by rw [unhide HZ9]; exact hq))
            have HQ2 := hide hq2
            clear HCS HXC HNM HG2 HYC HZ9
            go_wp2_with fail
            have hq3 := unhide HQ2
            go_big_quiet (fail)
            go_wp2_with fail
            go_roundw
            case rel => exact ⟨k + 1, by omega, by go_num, unhide HN2, bdn (unhide HBK)⟩
            case measure => simp [intOf]; omega
        · obtain rfl : j = k := by omega
          have HFIN := hide (unhide HNX _ (unhide HNM) (unhide HBK))
          clear HNX HNM HCS HXC HYC
          go_wp2_with fail
          go_roundw
          case rel => exact ⟨j + 1, by omega, by go_num, (unhide HFIN).1, unhide HA2, (unhide HFIN).2⟩
          case measure => simp [intOf]; omega
    · exfalso
      obtain rfl : L0 = j := by omega
      rw [List.take_of_length_le (by rw [unhide HL0]; exact Nat.le_refl _)] at hnd hall
      have h := unhide HBAD
      rw [hall, decide_eq_true hnd] at h
      cases h
end Go.Proofs.Ytgkfhaahcedbpaa
