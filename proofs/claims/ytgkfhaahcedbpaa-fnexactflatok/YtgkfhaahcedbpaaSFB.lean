/- The specification's FlatOK: where the signals are right. -/
import Derived.Test.YtgkfhaahcedbpaaGSF2
namespace Go.Proofs.Ytgkfhaahcedbpaa
open Go Go.RowKit Gs
set_option linter.unusedVariables false
set_option linter.unusedSimpArgs false
set_option maxRecDepth 100000
set_option maxHeartbeats 32000000 in
theorem sFlatB (d : Nat) (f : Flat) (u : List Value) (w : World) (hr : RFlatN d w 0 f u) (b0 : f.signals.length ≤ 256) (b1 : f.procs.length ≤ 256) (hgood : f.signals.all sigFB = true) (hnod : (f.signals.map (·.name)).Nodup) (hst : ∀ w0 sv pv T, RS 6 RSignal w0 0 f.signals sv → StK f.signals w0 sv pv T (d + 1)) :
    Calls Try.prog 5 #[.agg u.toArray] w fun e w' => e = .returned (.bool (((f.procs.all (procOK f.signals d) && decide ((f.procs.map (cntP d)).sum ≤ 16384)) && decide (checksOf f.procs).Nodup))) ∧ Below w.heap.size w w' := by
  obtain ⟨v0, v1, rfl, h0, h1⟩ := hr
  have hl0 := h0.len
  have hl1 := h1.len
  unfold maxLen at hl0 hl1
  have HR0 := hide h0
  have HR1 := hide h1
  obtain ⟨s0, c0, rfl⟩ := h0.slice
  obtain ⟨s1, c1, rfl⟩ := h1.slice
  clear h0 h1
  obtain ⟨sg, ps⟩ := f
  dsimp only at *
  have HCS := hide (fun j g hg => sig_cells (unhide HR0) j g hg)
  obtain ⟨L0, hL0⟩ : ∃ L, sg.length = L := ⟨_, rfl⟩
  obtain ⟨L1, hL1⟩ : ∃ L, ps.length = L := ⟨_, rfl⟩
  have n0 : ¬ (256 : Int) < (L0 : Int) := by omega
  have n1 : ¬ (256 : Int) < (L1 : Int) := by omega
  rw [hL0] at hl0 b0 HR0
  rw [hL1] at hl1 b1 HR1
  rw [hL0, hL1]
  have HL0 := hide hL0
  have HL1 := hide hL1
  clear hL0 hL1
  obtain ⟨R, hR⟩ : ∃ R, ((ps.all (procOK sg d) && decide ((ps.map (cntP d)).sum ≤ 16384)) && decide (checksOf ps).Nodup) = R := ⟨_, rfl⟩
  rw [hR]
  have HR9 := hide hR
  clear hR
  have HB := hide (bal (brf w) (.cells #[.slice s0 L0 c0, .slice s1 L1 c1] 31))
  obtain ⟨X, hX⟩ : ∃ X, X = w.alloc (.cells #[.slice s0 L0 c0, .slice s1 L1 c1] 31) := ⟨_, rfl⟩
  rw [← hX] at HB
  have hXs : X.heap.size = w.heap.size + 1 := by rw [hX]; simp
  have HXS := hide hXs
  have HXC : Hid (∀ V, Below X.heap.size X V → V.cell? ⟨w.heap.size, 0, none⟩ = some (.slice s0 L0 c0) ∧ V.cell? ⟨w.heap.size, 1, none⟩ = some (.slice s1 L1 c1)) := hide (fun V hV => by
    refine ⟨?_, ?_⟩ <;> exact cell_later hV (by rw [hX, World.cell?_alloc_new]; rfl))
  have HX := hide hX
  clear hX hXs
  have HALLT := hide hgood
  have HNOD := hide hnod
  have HSTK := hide hst
  clear hgood hnod hst
  go_enter Try.func5, Try.ntmps5
  go_wp2_with fail
  rw [← unhide HX]
  go_loopw [3] (fun i wr => ∃ j : Nat, j ≤ L0 ∧ i = .int .i64 j ∧ ((sg.take j).map (fun x : Signal => x.name)).Nodup ∧ (sg.take j).all sigFB = true ∧ Below X.heap.size X wr) (fun i _ => L0 - (intOf i).toNat)
  case atStart => exact ⟨0, Nat.zero_le _, rfl, by simp, rfl, brf _⟩
  case round =>
    obtain ⟨j, hj, rfl, hnd, hall, hb⟩ := hrel
    by_cases hlt : j < L0
    · obtain ⟨g, hg⟩ : ∃ g, sg[j]? = some g := ⟨_, List.getElem?_eq_getElem (by rw [unhide HL0]; exact hlt)⟩
      obtain ⟨b, o, rfl, e0, e1, e2, e3, e4, e5, hs1, hs2⟩ := unhide HCS j g hg
      have HST := hide (map_takeG (f := fun x : Signal => x.name) hg)
      have HAT := hide (all_takeG (p := sigFB) hg)
      have HA := hide hall
      have HND := hide hnd
      have HBR := hide hb
      have hw0 := (unhide HB).trans (Below.mono hb (unhide HB).size)
      have k0 := cell_later hw0 e0
      have k1 := cell_later hw0 e1
      have k2 := cell_later hw0 e2
      have k3 := cell_later hw0 e3
      have k4 := cell_later hw0 e4
      have k5 := cell_later hw0 e5
      have x0 := (unhide HXC wr hb).1
      have HNJ : Hid (∀ k g2, sg[k]? = some g2 → k < j → ¬ g2.name = g.name) := hide (fun k g2 h1 h2 h3 => nodup_no (unhide HNOD) hg h1 h2 h3)
      have HGA : Hid (sg.all sigFB = true → sigFB g = true) := hide (fun h => List.all_eq_true.1 h g (List.mem_of_getElem? hg))
      obtain ⟨Y, hY⟩ : ∃ Y, Y = wr.alloc (.cells #[.string g.name, .int .i64 g.kind, .int .i64 g.width, .int .i64 g.depth, .bool g.signed, .string g.init] 38) := ⟨_, rfl⟩
      have hbY : Below wr.heap.size wr Y := by rw [hY]; exact bal (brf wr) _
      have HYB := hide (btr hb hbY)
      have HWY := hide (hw0.trans (Below.mono hbY hw0.size))
      have HYC := hide (show Y.cell? ⟨wr.heap.size, 0, none⟩ = some (.string g.name) ∧ Y.cell? ⟨wr.heap.size, 1, none⟩ = some (.int .i64 g.kind) ∧ Y.cell? ⟨wr.heap.size, 2, none⟩ = some (.int .i64 g.width) ∧ Y.cell? ⟨wr.heap.size, 3, none⟩ = some (.int .i64 g.depth) ∧ Y.cell? ⟨wr.heap.size, 5, none⟩ = some (.string g.init) from by
        refine ⟨?_, ?_, ?_, ?_, ?_⟩ <;> (rw [hY, World.cell?_alloc_new]; rfl))
      have HC := hide (fun V : World => sBitsOK g.init V hs2)
      have hg' : (⟨g.name, g.kind, g.width, g.depth, g.signed, g.init⟩ : Signal) = g := rfl
      have HY := hide hY
      have i1 : (0 : Int) ≤ (j : Int) := by omega
      have i2 : (j : Int) < (L0 : Int) := by omega
      unfold maxLen at hs1 hs2
      clear hall hnd hb hw0 e0 e1 e2 e3 e4 e5 hbY hY hg' hg
      have hgood : sigFB g = true := unhide HGA (unhide HALLT)
      obtain ⟨p1, p2, p3, p4, p5, p6, p7, p8⟩ := sigFB_facts hgood
      have HA2 : Hid ((sg.take (j + 1)).all sigFB = true) := hide (by rw [unhide HAT, unhide HA, hgood]; rfl)
      clear hgood HAT HA HGA
      generalize g.name = z0 at *
      generalize g.kind = z1 at *
      generalize g.width = z2 at *
      generalize g.depth = z3 at *
      generalize g.signed = z4 at *
      generalize g.init = z5 at *
      have h1 : ¬ (z0.size : Int) < 1 := by omega
      have h2 : ¬ (1000 : Int) < (z0.size : Int) := by omega
      have h3 : ¬ z1 < 1 := by omega
      have h4 : ¬ (5 : Int) < z1 := by omega
      have m6 : ((z5.size : Int) != z2) = false := by simp [p5]
      have HNX : Hid (∀ V, z0 ∉ (sg.take j).map (fun x : Signal => x.name) → Below Y.heap.size Y V → ((sg.take (j + 1)).map (fun x : Signal => x.name)).Nodup ∧ Below X.heap.size X V) := hide (fun V h1 h2 => ⟨by rw [unhide HST]; exact nodup_step (unhide HND) h1, btr (unhide HYB) h2⟩)
      clear p1 p2 p3 p4 p5 HST HND
      obtain ⟨y0, y1, y2, y3, y5⟩ := unhide HYC
      have HP6 := hide p6
      clear p6
      by_cases h7 : z1 = 5
      · subst h7
        obtain ⟨h8, h9⟩ := p7 rfl
        have h8b : ¬ z3 < 1 := by omega
        have h9b : ¬ (64 : Int) < z3 := by omega
        clear p7 p8
        skip
        go_wp2_with fail
        rw [← unhide HY]
        go_wp2_with fail
        refine (unhide HC _).mono ?_
        rintro e Y ⟨rfl, rfl⟩
        rw [unhide HP6]
        go_wp2_with fail
        clear k0 k1 k2 k3 k4 k5 y0 y1 y2 y3 y5 x0
        go_loopw [6] (fun i wr2 => ∃ k : Nat, k ≤ j ∧ i = .int .i64 k ∧ z0 ∉ (sg.take k).map (fun x : Signal => x.name) ∧ Below Y.heap.size Y wr2) (fun i _ => j - (intOf i).toNat)
        case atStart => exact ⟨0, Nat.zero_le _, rfl, by simp, brf _⟩
        case round =>
          obtain ⟨k, hk, rfl, hnm, hbk⟩ := hrel
          have HBK := hide hbk
          have HNM := hide hnm
          clear hbk hnm
          by_cases hkj : k < j
          · obtain ⟨g2, hg2⟩ : ∃ g2, sg[k]? = some g2 := ⟨_, List.getElem?_eq_getElem (by rw [unhide HL0]; omega)⟩
            obtain ⟨b2, o2, hbo, f0, _, _, _, _, _, _, _⟩ := unhide HCS k g2 hg2
            injection hbo with hbo
            injection hbo with hb2 ho2 _
            subst hb2 ho2
            have HG2 := hide hg2
            have m0 := cell_later (btr (unhide HWY) (unhide HBK)) f0
            have mz := cell_later (unhide HBK) (unhide HYC).1
            have mx := (unhide HXC _ (btr (unhide HYB) (unhide HBK))).1
            have j1 : (0 : Int) ≤ (k : Int) := by omega
            have j2 : (k : Int) < (L0 : Int) := by omega
            have j3 : (k : Int) < (j : Int) := by omega
            clear f0 hg2
            obtain ⟨z9, hz9⟩ : ∃ z9, g2.name = z9 := ⟨_, rfl⟩
            rw [hz9] at m0
            have HZ9 := hide hz9
            clear hz9
            by_cases hq : z9 = z0
            · exact absurd (by rw [unhide HZ9]; exact hq) (unhide HNJ k g2 (unhide HG2) hkj)
            · have hq2 : (z9.toList == z0.toList) = false := beq_eq_false_iff_ne.2 (fun h => hq (toList_inj9 h))
              have HN2 : Hid (z0 ∉ (sg.take (k + 1)).map (fun x : Signal => x.name)) := hide (notin_step (unhide HNM) (unhide HG2) (by rw [unhide HZ9]; exact hq))
              have HQ2 := hide hq2
              clear HCS HXC HNM HG2 HYC HZ9
              go_wp2_with fail
              have hq3 := unhide HQ2
              go_big_quiet (fail)
              go_wp2_with fail
              go_roundw
              case rel => exact ⟨k + 1, by omega, by go_num, unhide HN2, bdn (unhide HBK)⟩
              case measure => simp [intOf]; omega
          · obtain rfl : j = k := by omega
            have HFIN := hide (unhide HNX _ (unhide HNM) (unhide HBK))
            clear HNX HNM HCS HXC HYC
            go_wp2_with fail
            go_roundw
            case rel => exact ⟨j + 1, by omega, by go_num, (unhide HFIN).1, unhide HA2, (unhide HFIN).2⟩
            case measure => simp [intOf]; omega
      have m7 : (z1 == 5) = false := beq_eq_false_iff_ne.2 h7
      obtain rfl : z3 = 0 := p8 h7
      clear p7 p8
      skip
      go_wp2_with fail
      rw [← unhide HY]
      go_wp2_with fail
      refine (unhide HC _).mono ?_
      rintro e Y ⟨rfl, rfl⟩
      rw [unhide HP6]
      go_wp2_with fail
      clear k0 k1 k2 k3 k4 k5 y0 y1 y2 y3 y5 x0
      go_loopw [6] (fun i wr2 => ∃ k : Nat, k ≤ j ∧ i = .int .i64 k ∧ z0 ∉ (sg.take k).map (fun x : Signal => x.name) ∧ Below Y.heap.size Y wr2) (fun i _ => j - (intOf i).toNat)
      case atStart => exact ⟨0, Nat.zero_le _, rfl, by simp, brf _⟩
      case round =>
        obtain ⟨k, hk, rfl, hnm, hbk⟩ := hrel
        have HBK := hide hbk
        have HNM := hide hnm
        clear hbk hnm
        by_cases hkj : k < j
        · obtain ⟨g2, hg2⟩ : ∃ g2, sg[k]? = some g2 := ⟨_, List.getElem?_eq_getElem (by rw [unhide HL0]; omega)⟩
          obtain ⟨b2, o2, hbo, f0, _, _, _, _, _, _, _⟩ := unhide HCS k g2 hg2
          injection hbo with hbo
          injection hbo with hb2 ho2 _
          subst hb2 ho2
          have HG2 := hide hg2
          have m0 := cell_later (btr (unhide HWY) (unhide HBK)) f0
          have mz := cell_later (unhide HBK) (unhide HYC).1
          have mx := (unhide HXC _ (btr (unhide HYB) (unhide HBK))).1
          have j1 : (0 : Int) ≤ (k : Int) := by omega
          have j2 : (k : Int) < (L0 : Int) := by omega
          have j3 : (k : Int) < (j : Int) := by omega
          clear f0 hg2
          obtain ⟨z9, hz9⟩ : ∃ z9, g2.name = z9 := ⟨_, rfl⟩
          rw [hz9] at m0
          have HZ9 := hide hz9
          clear hz9
          by_cases hq : z9 = z0
          · exact absurd (by rw [unhide HZ9]; exact hq) (unhide HNJ k g2 (unhide HG2) hkj)
          · have hq2 : (z9.toList == z0.toList) = false := beq_eq_false_iff_ne.2 (fun h => hq (toList_inj9 h))
            have HN2 : Hid (z0 ∉ (sg.take (k + 1)).map (fun x : Signal => x.name)) := hide (notin_step (unhide HNM) (unhide HG2) (by rw [unhide HZ9]; exact hq))
            have HQ2 := hide hq2
            clear HCS HXC HNM HG2 HYC HZ9
            go_wp2_with fail
            have hq3 := unhide HQ2
            go_big_quiet (fail)
            go_wp2_with fail
            go_roundw
            case rel => exact ⟨k + 1, by omega, by go_num, unhide HN2, bdn (unhide HBK)⟩
            case measure => simp [intOf]; omega
        · obtain rfl : j = k := by omega
          have HFIN := hide (unhide HNX _ (unhide HNM) (unhide HBK))
          clear HNX HNM HCS HXC HYC
          go_wp2_with fail
          go_roundw
          case rel => exact ⟨j + 1, by omega, by go_num, (unhide HFIN).1, unhide HA2, (unhide HFIN).2⟩
          case measure => simp [intOf]; omega
    · obtain rfl : L0 = j := by omega
      obtain ⟨W1, rfl⟩ : ∃ W1, W1 = wr := ⟨wr, rfl⟩
      clear hnd hall
      have hwz : w.heap.size < W1.heap.size := by have := hb.size; rw [unhide HXS] at this; omega
      obtain ⟨x0, x1⟩ := unhide HXC W1 hb
      have hWB : Below w.heap.size w W1 := (unhide HB).trans (Below.mono hb (unhide HB).size)
      have HWB := hide hWB
      have hsg1 := (unhide HR0).later RSignal.keeps hWB
      have HSK := hide (unhide HSTK W1 _ (.slice s1 L1 c1) 42 hsg1)
      have HOP := hide (fun (j : Nat) (p : Proc) (hp : ps[j]? = some p) (V : World) (hV : Below w.heap.size w V) => (show ∃ b o uk, s1 = some ⟨b, o, none⟩ ∧ L1 ≤ c1 ∧ RProcN d W1 0 p uk ∧ (∃ a' l' c' a'' l'' c'', uk = [.int .i64 p.kind, .int .i64 p.clock, .string p.name, .int .i64 p.body.kind, .int .i64 p.body.n, .int .i64 p.body.low, .int .i64 p.body.wide, .slice a' l' c', .slice a'' l'' c'']) ∧ p.name.size ≤ maxLen ∧ At V b (o + j * 9) uk from by
        rcases (unhide HR1).open with ⟨hnil, _⟩ | ⟨b, o, kc, e, hlc, _, _, hcs⟩
        · rw [hnil] at hp; simp at hp
        · obtain ⟨uk, _, hat, hu⟩ := hcs j p hp
          injection e with e1 e2 e3
          subst e1 e2 e3
          have hu2 := hu
          obtain ⟨v7, v8, e6, hn, h7, h8⟩ := hu
          obtain ⟨a', c', e8⟩ := h7.slice
          obtain ⟨a'', c'', e9⟩ := h8.slice
          exact ⟨b, o, uk, rfl, hlc, RProcN.keeps d _ _ _ _ _ (fun b o y _ hc => cell_later hWB hc) hu2, ⟨a', _, c', a'', _, c'', by rw [e6, e8, e9]⟩, hn, fun i z hz => cell_later hV (hat i z hz)⟩))
      have HZB := hide (bal (brf W1) (.cells #[.slice s0 L0 c0, .slice s1 L1 c1, .int .i64 16384] 42))
      have HZP := hide (show Pb W1.heap.size (.slice s0 L0 c0) (.slice s1 L1 c1) 42 (W1.alloc (.cells #[.slice s0 L0 c0, .slice s1 L1 c1, .int .i64 16384] 42)) (16384 : Nat) from by
        show (W1.heap.push _)[W1.heap.size]? = some _
        rw [Array.getElem?_push_size]; rfl)
      have HZX : Hid (∀ V, Fx W1.heap.size (W1.alloc (.cells #[.slice s0 L0 c0, .slice s1 L1 c1, .int .i64 16384] 42)) V → V.cell? ⟨w.heap.size, 0, none⟩ = some (.slice s0 L0 c0) ∧ V.cell? ⟨w.heap.size, 1, none⟩ = some (.slice s1 L1 c1)) := hide (fun V hV => ⟨hV.cell (cell_later (unhide HZB) x0) (by omega), hV.cell (cell_later (unhide HZB) x1) (by omega)⟩)
      obtain ⟨Z, hZ⟩ : ∃ Z, Z = W1.alloc (.cells #[.slice s0 L0 c0, .slice s1 L1 c1, .int .i64 16384] 42) := ⟨_, rfl⟩
      rw [← hZ] at HZB HZP HZX
      have hZs : Z.heap.size = W1.heap.size + 1 := by rw [hZ]; simp
      have HZS := hide hZs
      have HZ := hide hZ
      clear hb hWB hZ hZs HR0 HR1 HXC HX hsg1 HSTK HALLT HNOD
      go_wp2_with fail
      rw [← unhide HZ]
      clear x0 x1
      go_loopw [8] (fun i wr => ∃ j : Nat, j ≤ L1 ∧ i = .int .i64 j ∧ (checksOf (ps.take j)).Nodup ∧ (ps.take j).all (procOK sg d) = true ∧ (∃ m : Nat, m + ((ps.take j).map (cntP d)).sum = 16384 ∧ Pb W1.heap.size (.slice s0 L0 c0) (.slice s1 L1 c1) 42 wr (m : Int)) ∧ Fx W1.heap.size Z wr) (fun i _ => L1 - (intOf i).toNat)
      case atStart => exact ⟨0, Nat.zero_le _, rfl, by simp [checksOf], rfl, ⟨16384, by simp, unhide HZP⟩, Fx.refl _ _⟩
      case round =>
        obtain ⟨j, hj, rfl, hnd, hall, ⟨m, hm, hp⟩, hfx⟩ := hrel
        have HND := hide hnd
        have HA := hide hall
        have HM0 := hide hm
        have HPB := hide hp
        have HFX := hide hfx
        have HBR := hide (Fx.below (unhide HZB) hfx (Nat.le_refl _) (unhide HZB).size)
        clear hnd hall hm hp hfx
        by_cases hlt : j < L1
        · obtain ⟨p, hp⟩ : ∃ p, ps[j]? = some p := ⟨_, List.getElem?_eq_getElem (by rw [unhide HL1]; exact hlt)⟩
          obtain ⟨b, o, uk, rfl, hlc, hru, ⟨a', l', c', a'', l'', c'', hue⟩, hns, hat⟩ := unhide HOP j p hp wr (btr (unhide HWB) (unhide HBR))
          obtain ⟨Y, hY⟩ : ∃ Y, Y = wr.alloc (.cells uk.toArray 48) := ⟨_, rfl⟩
          have hbY : Below wr.heap.size wr Y := by rw [hY]; exact bal (brf wr) _
          have hm0 := unhide HM0
          have hfY := (unhide HFX).trans (Fx.of hbY)
          subst hue
          have hbd : RStN (d + 1) W1 0 p.body [.int .i64 p.body.kind, .int .i64 p.body.n, .int .i64 p.body.low, .int .i64 p.body.wide, .slice a' l' c', .slice a'' l'' c''] := by
            obtain ⟨v7, v8, e6, _, h7, h8⟩ := hru
            injection e6 with _ e6
            injection e6 with _ e6
            injection e6 with _ e6
            injection e6 with _ e6
            injection e6 with _ e6
            injection e6 with _ e6
            injection e6 with _ e6
            injection e6 with e7 e6
            injection e6 with e8 _
            exact ⟨v7, v8, by rw [e7, e8], h7, h8⟩
          have HC := hide (fun (h1 : 1 ≤ p.kind) (h5 : p.kind ≤ 5) => unhide HSK p.kind h1 h5 p.body _ m Y hbd (by omega) ((unhide HPB).later hbY) (Fx.below (unhide HZB) hfY (Nat.le_refl _) (unhide HZB).size))
          have HFY := hide hfY
          have hZs := unhide HZS
          have hvs := (unhide HFX).size
          have HYN := hide (show ∀ V, Fx W1.heap.size Y V → V.cell? ⟨wr.heap.size, 0, none⟩ = some (.int .i64 p.kind) ∧ V.cell? ⟨wr.heap.size, 1, none⟩ = some (.int .i64 p.clock) ∧ V.cell? ⟨wr.heap.size, 2, none⟩ = some (.string p.name) ∧ V.cell? ⟨wr.heap.size, 3, none⟩ = some (.int .i64 p.body.kind) from fun V hV => by
            refine ⟨hV.cell ?_ (by omega), hV.cell ?_ (by omega), hV.cell ?_ (by omega), hV.cell ?_ (by omega)⟩ <;> (rw [hY, World.cell?_alloc_new]; rfl))
          have HY := hide hY
          have k0 := hat.get (j := 0) rfl
          have k1 := hat.get (j := 1) rfl
          have k2 := hat.get (j := 2) rfl
          have k3 := hat.get (j := 3) rfl
          have k4 := hat.get (j := 4) rfl
          have k5 := hat.get (j := 5) rfl
          have k6 := hat.get (j := 6) rfl
          have k7 := hat.get (j := 7) rfl
          have k8 := hat.get (j := 8) rfl
          simp only [Nat.add_zero] at k0
          have x1 := (unhide HZX wr (unhide HFX)).2
          have HST := hide (sum_takeG (f := cntP d) hp)
          have HSS := hide (sum_leG (f := cntP d) ps (j + 1))
          have HAT := hide (all_takeG (p := procOK sg d) hp)
          have HNO : Hid (procOK sg d p = false → R = false) := hide (fun h => by
            rw [← unhide HR9, show ps.all (procOK sg d) = false from by
              rw [← Bool.not_eq_true]; intro h2
              have := List.all_eq_true.1 h2 p (List.mem_of_getElem? hp)
              rw [h] at this; cases this]; rfl)
          have HDUP : Hid (p.kind = 5 → ∀ k p2, ps[k]? = some p2 → k < j → p2.kind = 5 → p2.name = p.name → R = false) := hide (fun h5 k p2 h1 h2 h3 h4 => by
            rw [← unhide HR9, decide_eq_false (chk_mem hp h1 h2 h5 h3 h4), Bool.and_false])
          have HCH := hide (chk_take hp)
          have hdef : ((bodyB p.kind p.body.kind p.body.exs.length && (clockB sg p.kind p.clock && nmB p.kind p.name)) && okSN sg (stOf p.kind) (setOf p.kind) (d + 1) 1 p.body) = procOK sg d p := rfl
          have hdc : cntSN (d + 1) p.body = cntP d p := rfl
          have HOUT : Hid (p.kind < 1 ∨ 5 < p.kind → R = false) := hide (fun h => unhide HNO (by rw [← hdef, okSN_out h, Bool.and_false]))
          have HNP : Hid ((bodyB p.kind p.body.kind p.body.exs.length && (clockB sg p.kind p.clock && nmB p.kind p.name)) = false → R = false) := hide (fun h => unhide HNO (by rw [← hdef, h]; rfl))
          have HNS : Hid (stP sg p.kind (d + 1) p.body = false → R = false) := hide (fun h => by
            unfold stP at h
            rw [Bool.and_eq_false_iff] at h
            rcases h with h | h
            · exact unhide HNO (by rw [← hdef, h, Bool.and_false])
            · refine unhide HNP ?_
              by_cases h1 : p.kind = 1
              · have h2 : ¬ p.body.exs.length = 1 := by intro hc; rw [hc] at h; simp at h
                rw [h1]; simp [bodyB, h2]
              · simp [h1] at h)
          have HB1 : Hid (stP sg p.kind (d + 1) p.body = true → p.kind = 1 → p.body.kind = 2 ∧ p.body.exs.length = 1) := hide (fun h h1 => by
            unfold stP at h
            rw [h1, Bool.and_eq_true] at h
            exact ⟨body1 h.1, by simpa using h.2⟩)
          have HB5 : Hid (stP sg p.kind (d + 1) p.body = true → p.kind = 5 → p.body.kind = 7) := hide (fun h h1 => by
            unfold stP at h
            rw [h1, Bool.and_eq_true] at h
            exact body5 h.1)
          have HOK : Hid (stP sg p.kind (d + 1) p.body = true → (bodyB p.kind p.body.kind p.body.exs.length && (clockB sg p.kind p.clock && nmB p.kind p.name)) = true → (ps.take (j + 1)).all (procOK sg d) = true) := hide (fun h1 h2 => by
            unfold stP at h1
            rw [Bool.and_eq_true] at h1
            rw [unhide HAT, unhide HA, ← hdef, h2, h1.1]; rfl)
          have HCT : Hid (¬ cntP d p ≤ m → R = false) := hide (fun h => by
            have h1 := unhide HST
            have h2 := unhide HSS
            rw [← unhide HR9, decide_eq_false (p := (ps.map (cntP d)).sum ≤ 16384) (by omega)]; simp)
          have i1 : (0 : Int) ≤ (j : Int) := by omega
          have i2 : (j : Int) < (L1 : Int) := by omega
          have hns2 := hns
          unfold maxLen at hns2
          rw [hdc] at HC
          clear hat hru hm0 hfY hbY hY hns hdef hbd HNO HAT HA hp hdc HSS
          generalize stP sg p.kind (d + 1) p.body = SP at *
          generalize cntP d p = cy at *
          generalize p.kind = z0 at *
          generalize p.clock = z1 at *
          generalize p.name = z2 at *
          generalize p.body.exs.length = el at *
          generalize p.body.kind = bk at *
          generalize p.body = bd at *
          have HBY := hide ((unhide HWB).trans (Below.mono (Fx.below (unhide HZB) (unhide HFY) (Nat.le_refl _) (unhide HZB).size) (unhide HWB).size))
          obtain ⟨t0, t1, t2, t3⟩ := unhide HYN Y (Fx.refl _ _)
          by_cases hk1 : z0 < 1
          · have HQ := hide (unhide HOUT (.inl hk1))
            clear HST HDUP HCH HOUT HNP HNS HB1 HB5 HOK HCT HC HYN HOP
            go_wp2_with fail
            rw [← unhide HY]
            go_wp2_with fail
            exact bodyPost_ret (v := .bool false) (by simp [results, Try.results5, go_sem]) rfl ⟨ret_bool (unhide HQ).symm, unhide HBY⟩
          by_cases hk5 : 5 < z0
          · have HQ := hide (unhide HOUT (.inr hk5))
            clear HST HDUP HCH HOUT HNP HNS HB1 HB5 HOK HCT HC HYN HOP
            go_wp2_with fail
            rw [← unhide HY]
            go_wp2_with fail
            exact bodyPost_ret (v := .bool false) (by simp [results, Try.results5, go_sem]) rfl ⟨ret_bool (unhide HQ).symm, unhide HBY⟩
          have HCC := hide (unhide HC (by omega) (by omega))
          clear HC HOUT
          go_wp2_with fail
          rw [← unhide HY]
          go_wp2_with fail
          refine (unhide HCC).mono ?_
          rintro e V ⟨r, kk, rfl, hr, hrk, hpv, hfv⟩
          have HR := hide hr
          have HRK := hide hrk
          have HPV := hide hpv
          have HFV := hide ((unhide HFY).trans hfv)
          have HWV2 := hide ((unhide HWB).trans (Below.mono (Fx.below (unhide HZB) (unhide HFV) (Nat.le_refl _) (unhide HZB).size) (unhide HWB).size))
          have HYV := hide (fun (U : World) (h : Below V.heap.size V U) => unhide HYN U (hfv.trans (Fx.of h)))
          have HXV := hide (fun (U : World) (h : Below V.heap.size V U) => unhide HZX U ((unhide HFV).trans (Fx.of h)))
          clear hr hrk hpv hfv HCC k0 k1 k2 k3 k4 k5 k6 k7 k8 t0 t1 t2 t3 x1
          cases r
          · have HQ : Hid (R = false) := hide (by
              have h := (unhide HR).symm
              rw [Bool.and_eq_false_iff] at h
              rcases h with h | h
              · exact unhide HNS h
              · exact unhide HCT (of_decide_eq_false h))
            clear HR HRK HST HDUP HCH HNP HNS HB1 HB5 HOK HCT HYN HOP HYV HXV HPV HFV
            go_wp2_with fail
            exact bodyPost_ret (v := .bool false) (by simp [results, Try.results5, go_sem]) rfl ⟨ret_bool (unhide HQ).symm, unhide HWV2⟩
          have hsp := (unhide HR).symm
          rw [Bool.and_eq_true] at hsp
          have HM2 : Hid (∃ m' : Nat, m' + ((ps.take (j + 1)).map (cntP d)).sum = 16384 ∧ ∀ U, Below V.heap.size V U → Pb W1.heap.size (.slice s0 L0 c0) (.slice (some ⟨b, o, none⟩) L1 c1) 42 U (m' : Int)) := hide (by
            have h1 := of_decide_eq_true hsp.2
            have h4 := unhide HM0
            have h2 := unhide HST
            refine ⟨m - cy, by omega, fun U hU => ?_⟩
            have h5 := (unhide HPV).later hU
            rw [unhide HRK rfl] at h5
            rw [show (((m - cy : Nat) : Int)) = (m : Int) - (cy : Nat) by omega]
            exact h5)
          have HB1' := hide (unhide HB1 hsp.1)
          have HB5' := hide (unhide HB5 hsp.1)
          have HOK' := hide (unhide HOK hsp.1)
          have HFU := hide (fun (U : World) (h : Below V.heap.size V U) => (unhide HFV).trans (Fx.of (g := W1.heap.size) h))
          clear hsp HR HRK HST HNS HB1 HB5 HOK HCT HYN HPV HM0
          obtain ⟨t0, t1, t2, t3⟩ := unhide HYV V (brf V)
          obtain ⟨x0, x1⟩ := unhide HXV V (brf V)
          have HEL := hide (show bodyB z0 bk el = bodyB z0 bk el from rfl)
          clear HEL
          by_cases hz1 : z0 = 1
          · as_aux_lemma =>
              subst hz1
              obtain ⟨rfl, rfl⟩ := unhide HB1' rfl
              cases hE : z2.toList.isEmpty
              · skip
                have HQ := hide (unhide HNP (by rw [show nmB 1 z2 = false from by unfold nmB; rw [hE]; simp]; simp))
                clear HDUP HCH HNP HB1' HB5' HOK' HOP HYV HXV HFU HM2
                go_wp2_with fail
                exact bodyPost_ret (v := .bool false) (by simp [results, Try.results5, go_sem]) rfl ⟨ret_bool (unhide HQ).symm, unhide HWV2⟩
              by_cases hc1 : z1 = -1
              rotate_left
              · have q1 : (z1 != -1) = true := bne_iff_ne.2 hc1
                have HQ := hide (unhide HNP (by rw [show clockB sg 1 z1 = false from by unfold clockB; rw [if_neg (by decide)]; exact decide_eq_false hc1]; simp))
                clear HDUP HCH HNP HB1' HB5' HOK' HOP HYV HXV HFU HM2
                go_wp2_with fail
                exact bodyPost_ret (v := .bool false) (by simp [results, Try.results5, go_sem]) rfl ⟨ret_bool (unhide HQ).symm, unhide HWV2⟩
              subst hc1
              have HOK2 := hide (unhide HOK' (by rw [show nmB 1 z2 = true from by unfold nmB nameB; rw [hE, size_empty hE]; rfl]; simp [bodyB, clockB]))
              have HNX := hide (show (checksOf (ps.take (j + 1))).Nodup from by rw [unhide HCH, if_neg (by decide)]; exact unhide HND)
              clear HDUP
              have HSC := hide trivial
              clear HCH HNP HB1' HB5' HOK' HND
              go_wp2_with fail
              clear t0 t1 t2 t3 x0 x1
              go_loopw [10] (fun i wr2 => ∃ k : Nat, k ≤ j ∧ i = .int .i64 k ∧ Below V.heap.size V wr2) (fun i _ => j - (intOf i).toNat)
              case atStart => exact ⟨0, Nat.zero_le _, rfl, brf _⟩
              case round =>
                obtain ⟨k, hk, rfl, hbk⟩ := hrel
                have HBK := hide hbk
                clear hbk
                by_cases hkj : k < j
                · have j3 : (k : Int) < (j : Int) := by omega
                  obtain ⟨t0, t1, t2, t3⟩ := unhide HYV wr (unhide HBK)
                  clear HOP HXV HNX HSC
                  go_wp2_with fail
                  go_big_quiet (fail)
                  go_wp2_with fail
                  go_roundw
                  case rel => exact ⟨k + 1, by omega, by go_num, bdn (unhide HBK)⟩
                  case measure => simp [intOf]; omega
                · obtain rfl : j = k := by omega
                  have HND2 := hide (unhide HNX)
                  have HP9 := hide (show ∃ m' : Nat, m' + ((ps.take (j + 1)).map (cntP d)).sum = 16384 ∧ Pb W1.heap.size (.slice s0 L0 c0) (.slice (some ⟨b, o, none⟩) L1 c1) 42 wr (m' : Int) from by
                    obtain ⟨m', h1, h2⟩ := unhide HM2
                    exact ⟨m', h1, h2 wr (unhide HBK)⟩)
                  have HF9 := hide (unhide HFU wr (unhide HBK))
                  clear HNX HM2 HFU HBK HOP HYV HXV HSC
                  go_wp2_with fail
                  go_roundw
                  case rel => exact ⟨j + 1, by omega, by go_num, unhide HND2, unhide HOK2, unhide HP9, unhide HF9⟩
                  case measure => simp [intOf]; omega
          by_cases hz2 : z0 = 2
          · as_aux_lemma =>
              subst hz2
              by_cases hb1 : bk = 1
              rotate_left
              · have q1 : (bk != 1) = true := bne_iff_ne.2 hb1
                have HQ := hide (unhide HNP (by simp [bodyB, hb1]))
                clear HDUP HCH HNP HB1' HB5' HOK' HOP HYV HXV HFU HM2
                go_wp2_with fail
                exact bodyPost_ret (v := .bool false) (by simp [results, Try.results5, go_sem]) rfl ⟨ret_bool (unhide HQ).symm, unhide HWV2⟩
              subst hb1
              cases hE : z2.toList.isEmpty
              · skip
                have HQ := hide (unhide HNP (by rw [show nmB 2 z2 = false from by unfold nmB; rw [hE]; simp]; simp))
                clear HDUP HCH HNP HB1' HB5' HOK' HOP HYV HXV HFU HM2
                go_wp2_with fail
                exact bodyPost_ret (v := .bool false) (by simp [results, Try.results5, go_sem]) rfl ⟨ret_bool (unhide HQ).symm, unhide HWV2⟩
              by_cases hc1 : z1 = -1
              rotate_left
              · have q1 : (z1 != -1) = true := bne_iff_ne.2 hc1
                have HQ := hide (unhide HNP (by rw [show clockB sg 2 z1 = false from by unfold clockB; rw [if_neg (by decide)]; exact decide_eq_false hc1]; simp))
                clear HDUP HCH HNP HB1' HB5' HOK' HOP HYV HXV HFU HM2
                go_wp2_with fail
                exact bodyPost_ret (v := .bool false) (by simp [results, Try.results5, go_sem]) rfl ⟨ret_bool (unhide HQ).symm, unhide HWV2⟩
              subst hc1
              have HOK2 := hide (unhide HOK' (by rw [show nmB 2 z2 = true from by unfold nmB nameB; rw [hE, size_empty hE]; rfl]; simp [bodyB, clockB]))
              have HNX := hide (show (checksOf (ps.take (j + 1))).Nodup from by rw [unhide HCH, if_neg (by decide)]; exact unhide HND)
              clear HDUP
              have HSC := hide trivial
              clear HCH HNP HB1' HB5' HOK' HND
              go_wp2_with fail
              clear t0 t1 t2 t3 x0 x1
              go_loopw [10] (fun i wr2 => ∃ k : Nat, k ≤ j ∧ i = .int .i64 k ∧ Below V.heap.size V wr2) (fun i _ => j - (intOf i).toNat)
              case atStart => exact ⟨0, Nat.zero_le _, rfl, brf _⟩
              case round =>
                obtain ⟨k, hk, rfl, hbk⟩ := hrel
                have HBK := hide hbk
                clear hbk
                by_cases hkj : k < j
                · have j3 : (k : Int) < (j : Int) := by omega
                  obtain ⟨t0, t1, t2, t3⟩ := unhide HYV wr (unhide HBK)
                  clear HOP HXV HNX HSC
                  go_wp2_with fail
                  go_big_quiet (fail)
                  go_wp2_with fail
                  go_roundw
                  case rel => exact ⟨k + 1, by omega, by go_num, bdn (unhide HBK)⟩
                  case measure => simp [intOf]; omega
                · obtain rfl : j = k := by omega
                  have HND2 := hide (unhide HNX)
                  have HP9 := hide (show ∃ m' : Nat, m' + ((ps.take (j + 1)).map (cntP d)).sum = 16384 ∧ Pb W1.heap.size (.slice s0 L0 c0) (.slice (some ⟨b, o, none⟩) L1 c1) 42 wr (m' : Int) from by
                    obtain ⟨m', h1, h2⟩ := unhide HM2
                    exact ⟨m', h1, h2 wr (unhide HBK)⟩)
                  have HF9 := hide (unhide HFU wr (unhide HBK))
                  clear HNX HM2 HFU HBK HOP HYV HXV HSC
                  go_wp2_with fail
                  go_roundw
                  case rel => exact ⟨j + 1, by omega, by go_num, unhide HND2, unhide HOK2, unhide HP9, unhide HF9⟩
                  case measure => simp [intOf]; omega
          by_cases hz3 : z0 = 3
          · as_aux_lemma =>
              subst hz3
              by_cases hb1 : bk = 1
              rotate_left
              · have q1 : (bk != 1) = true := bne_iff_ne.2 hb1
                have HQ := hide (unhide HNP (by simp [bodyB, hb1]))
                clear HDUP HCH HNP HB1' HB5' HOK' HOP HYV HXV HFU HM2
                go_wp2_with fail
                exact bodyPost_ret (v := .bool false) (by simp [results, Try.results5, go_sem]) rfl ⟨ret_bool (unhide HQ).symm, unhide HWV2⟩
              subst hb1
              cases hE : z2.toList.isEmpty
              · skip
                have HQ := hide (unhide HNP (by rw [show nmB 3 z2 = false from by unfold nmB; rw [hE]; simp]; simp))
                clear HDUP HCH HNP HB1' HB5' HOK' HOP HYV HXV HFU HM2
                go_wp2_with fail
                exact bodyPost_ret (v := .bool false) (by simp [results, Try.results5, go_sem]) rfl ⟨ret_bool (unhide HQ).symm, unhide HWV2⟩
              by_cases hc0 : z1 < 0
              · skip
                have HQ := hide (unhide HNP (by simp [clockB, sigAt, hc0]))
                clear HDUP HCH HNP HB1' HB5' HOK' HOP HYV HXV HFU HM2
                go_wp2_with fail
                exact bodyPost_ret (v := .bool false) (by simp [results, Try.results5, go_sem]) rfl ⟨ret_bool (unhide HQ).symm, unhide HWV2⟩
              by_cases hc1 : (L0 : Int) ≤ z1
              · skip
                have HQ := hide (unhide HNP (by rw [show clockB sg 3 z1 = false from by unfold clockB; rw [if_pos rfl, sigAt_none (by rw [unhide HL0]; omega)]]; simp))
                clear HDUP HCH HNP HB1' HB5' HOK' HOP HYV HXV HFU HM2
                go_wp2_with fail
                exact bodyPost_ret (v := .bool false) (by simp [results, Try.results5, go_sem]) rfl ⟨ret_bool (unhide HQ).symm, unhide HWV2⟩
              obtain ⟨kx, rfl⟩ : ∃ kx : Nat, z1 = (kx : Int) := ⟨z1.toNat, by omega⟩
              obtain ⟨g, hg⟩ : ∃ g, sg[kx]? = some g := ⟨_, List.getElem?_eq_getElem (by rw [unhide HL0]; omega)⟩
              obtain ⟨gb, go, rfl, _, s1, s2, _⟩ := unhide HCS kx g hg
              have s1 := cell_later (unhide HWV2) s1
              have s2 := cell_later (unhide HWV2) s2
              have HCK : Hid (clockB sg 3 (kx : Int) = (decide (g.width = 1) && !decide (g.kind = 5))) := hide (by unfold clockB; rw [if_pos rfl, sigAt_some hg])
              have y1 : (0 : Int) ≤ (kx : Int) := by omega
              have y2 : (kx : Int) < (L0 : Int) := by omega
              clear hg
              generalize g.width = gw at *
              generalize g.kind = gk at *
              by_cases hgw : gw = 1
              rotate_left
              · have q1 : (gw != 1) = true := bne_iff_ne.2 hgw
                have HQ := hide (unhide HNP (by rw [unhide HCK, decide_eq_false hgw]; simp))
                clear HDUP HCH HNP HB1' HB5' HOK' HOP HYV HXV HFU HM2
                go_wp2_with fail
                exact bodyPost_ret (v := .bool false) (by simp [results, Try.results5, go_sem]) rfl ⟨ret_bool (unhide HQ).symm, unhide HWV2⟩
              subst hgw
              by_cases hgk : gk = 5
              · subst hgk
                have HQ := hide (unhide HNP (by rw [unhide HCK]; simp))
                clear HDUP HCH HNP HB1' HB5' HOK' HOP HYV HXV HFU HM2
                go_wp2_with fail
                exact bodyPost_ret (v := .bool false) (by simp [results, Try.results5, go_sem]) rfl ⟨ret_bool (unhide HQ).symm, unhide HWV2⟩
              have q5 : (gk == 5) = false := beq_eq_false_iff_ne.2 hgk
              have HOK2 := hide (unhide HOK' (by rw [show nmB 3 z2 = true from by unfold nmB nameB; rw [hE, size_empty hE]; rfl, unhide HCK, decide_eq_false hgk]; simp [bodyB]))
              have HNX := hide (show (checksOf (ps.take (j + 1))).Nodup from by rw [unhide HCH, if_neg (by decide)]; exact unhide HND)
              clear HDUP
              have HSC := hide trivial
              clear HCH HNP HB1' HB5' HOK' HND
              go_wp2_with fail
              clear t0 t1 t2 t3 x0 x1
              clear s1 s2
              go_loopw [10] (fun i wr2 => ∃ k : Nat, k ≤ j ∧ i = .int .i64 k ∧ Below V.heap.size V wr2) (fun i _ => j - (intOf i).toNat)
              case atStart => exact ⟨0, Nat.zero_le _, rfl, brf _⟩
              case round =>
                obtain ⟨k, hk, rfl, hbk⟩ := hrel
                have HBK := hide hbk
                clear hbk
                by_cases hkj : k < j
                · have j3 : (k : Int) < (j : Int) := by omega
                  obtain ⟨t0, t1, t2, t3⟩ := unhide HYV wr (unhide HBK)
                  clear HOP HXV HNX HSC
                  go_wp2_with fail
                  go_big_quiet (fail)
                  go_wp2_with fail
                  go_roundw
                  case rel => exact ⟨k + 1, by omega, by go_num, bdn (unhide HBK)⟩
                  case measure => simp [intOf]; omega
                · obtain rfl : j = k := by omega
                  have HND2 := hide (unhide HNX)
                  have HP9 := hide (show ∃ m' : Nat, m' + ((ps.take (j + 1)).map (cntP d)).sum = 16384 ∧ Pb W1.heap.size (.slice (some ⟨gb, go, none⟩) L0 c0) (.slice (some ⟨b, o, none⟩) L1 c1) 42 wr (m' : Int) from by
                    obtain ⟨m', h1, h2⟩ := unhide HM2
                    exact ⟨m', h1, h2 wr (unhide HBK)⟩)
                  have HF9 := hide (unhide HFU wr (unhide HBK))
                  clear HNX HM2 HFU HBK HOP HYV HXV HSC
                  go_wp2_with fail
                  go_roundw
                  case rel => exact ⟨j + 1, by omega, by go_num, unhide HND2, unhide HOK2, unhide HP9, unhide HF9⟩
                  case measure => simp [intOf]; omega
          by_cases hz4 : z0 = 4
          · as_aux_lemma =>
              subst hz4
              by_cases hb1 : bk = 1
              rotate_left
              · have q1 : (bk != 1) = true := bne_iff_ne.2 hb1
                have HQ := hide (unhide HNP (by simp [bodyB, hb1]))
                clear HDUP HCH HNP HB1' HB5' HOK' HOP HYV HXV HFU HM2
                go_wp2_with fail
                exact bodyPost_ret (v := .bool false) (by simp [results, Try.results5, go_sem]) rfl ⟨ret_bool (unhide HQ).symm, unhide HWV2⟩
              subst hb1
              cases hE : z2.toList.isEmpty
              · skip
                have HQ := hide (unhide HNP (by rw [show nmB 4 z2 = false from by unfold nmB; rw [hE]; simp]; simp))
                clear HDUP HCH HNP HB1' HB5' HOK' HOP HYV HXV HFU HM2
                go_wp2_with fail
                exact bodyPost_ret (v := .bool false) (by simp [results, Try.results5, go_sem]) rfl ⟨ret_bool (unhide HQ).symm, unhide HWV2⟩
              by_cases hc1 : z1 = -1
              rotate_left
              · have q1 : (z1 != -1) = true := bne_iff_ne.2 hc1
                have HQ := hide (unhide HNP (by rw [show clockB sg 4 z1 = false from by unfold clockB; rw [if_neg (by decide)]; exact decide_eq_false hc1]; simp))
                clear HDUP HCH HNP HB1' HB5' HOK' HOP HYV HXV HFU HM2
                go_wp2_with fail
                exact bodyPost_ret (v := .bool false) (by simp [results, Try.results5, go_sem]) rfl ⟨ret_bool (unhide HQ).symm, unhide HWV2⟩
              subst hc1
              have HOK2 := hide (unhide HOK' (by rw [show nmB 4 z2 = true from by unfold nmB nameB; rw [hE, size_empty hE]; rfl]; simp [bodyB, clockB]))
              have HNX := hide (show (checksOf (ps.take (j + 1))).Nodup from by rw [unhide HCH, if_neg (by decide)]; exact unhide HND)
              clear HDUP
              have HSC := hide trivial
              clear HCH HNP HB1' HB5' HOK' HND
              go_wp2_with fail
              clear t0 t1 t2 t3 x0 x1
              go_loopw [10] (fun i wr2 => ∃ k : Nat, k ≤ j ∧ i = .int .i64 k ∧ Below V.heap.size V wr2) (fun i _ => j - (intOf i).toNat)
              case atStart => exact ⟨0, Nat.zero_le _, rfl, brf _⟩
              case round =>
                obtain ⟨k, hk, rfl, hbk⟩ := hrel
                have HBK := hide hbk
                clear hbk
                by_cases hkj : k < j
                · have j3 : (k : Int) < (j : Int) := by omega
                  obtain ⟨t0, t1, t2, t3⟩ := unhide HYV wr (unhide HBK)
                  clear HOP HXV HNX HSC
                  go_wp2_with fail
                  go_big_quiet (fail)
                  go_wp2_with fail
                  go_roundw
                  case rel => exact ⟨k + 1, by omega, by go_num, bdn (unhide HBK)⟩
                  case measure => simp [intOf]; omega
                · obtain rfl : j = k := by omega
                  have HND2 := hide (unhide HNX)
                  have HP9 := hide (show ∃ m' : Nat, m' + ((ps.take (j + 1)).map (cntP d)).sum = 16384 ∧ Pb W1.heap.size (.slice s0 L0 c0) (.slice (some ⟨b, o, none⟩) L1 c1) 42 wr (m' : Int) from by
                    obtain ⟨m', h1, h2⟩ := unhide HM2
                    exact ⟨m', h1, h2 wr (unhide HBK)⟩)
                  have HF9 := hide (unhide HFU wr (unhide HBK))
                  clear HNX HM2 HFU HBK HOP HYV HXV HSC
                  go_wp2_with fail
                  go_roundw
                  case rel => exact ⟨j + 1, by omega, by go_num, unhide HND2, unhide HOK2, unhide HP9, unhide HF9⟩
                  case measure => simp [intOf]; omega
          obtain rfl : z0 = 5 := by omega
          as_aux_lemma =>
            obtain rfl := unhide HB5' rfl
            by_cases hn1 : (z2.size : Int) < 1
            · skip
              have HQ := hide (unhide HNP (by rw [show nmB 5 z2 = false from by unfold nmB nameB; simp; omega]; simp))
              clear HDUP HCH HNP HB1' HB5' HOK' HOP HYV HXV HFU HM2
              go_wp2_with fail
              exact bodyPost_ret (v := .bool false) (by simp [results, Try.results5, go_sem]) rfl ⟨ret_bool (unhide HQ).symm, unhide HWV2⟩
            by_cases hn2 : (1000 : Int) < (z2.size : Int)
            · skip
              have HQ := hide (unhide HNP (by rw [show nmB 5 z2 = false from by unfold nmB nameB; simp; omega]; simp))
              clear HDUP HCH HNP HB1' HB5' HOK' HOP HYV HXV HFU HM2
              go_wp2_with fail
              exact bodyPost_ret (v := .bool false) (by simp [results, Try.results5, go_sem]) rfl ⟨ret_bool (unhide HQ).symm, unhide HWV2⟩
            by_cases hc1 : z1 = -1
            rotate_left
            · have q1 : (z1 != -1) = true := bne_iff_ne.2 hc1
              have HQ := hide (unhide HNP (by rw [show clockB sg 5 z1 = false from by unfold clockB; rw [if_neg (by decide)]; exact decide_eq_false hc1]; simp))
              clear HDUP HCH HNP HB1' HB5' HOK' HOP HYV HXV HFU HM2
              go_wp2_with fail
              exact bodyPost_ret (v := .bool false) (by simp [results, Try.results5, go_sem]) rfl ⟨ret_bool (unhide HQ).symm, unhide HWV2⟩
            subst hc1
            have HOK2 := hide (unhide HOK' (by rw [show nmB 5 z2 = true from by unfold nmB nameB; simp; omega]; simp [bodyB, clockB]))
            have HNX := hide (fun (h : z2 ∉ checksOf (ps.take j)) => (show (checksOf (ps.take (j + 1))).Nodup from by rw [unhide HCH, if_pos rfl]; exact nodup_step (unhide HND) h))
            have HDUP2 := hide (unhide HDUP rfl)
            clear HDUP
            have HDUP := HDUP2
            clear HDUP2
            have HWV := HWV2
            have HSC := hide trivial
            clear HCH HNP HB1' HB5' HOK' HND
            go_wp2_with fail
            clear t0 t1 t2 t3 x0 x1
            go_loopw [10] (fun i wr2 => ∃ k : Nat, k ≤ j ∧ i = .int .i64 k ∧ z2 ∉ checksOf (ps.take k) ∧ Below V.heap.size V wr2) (fun i _ => j - (intOf i).toNat)
            case atStart => exact ⟨0, Nat.zero_le _, rfl, by simp [checksOf], brf _⟩
            case round =>
              obtain ⟨k, hk, rfl, hnm, hbk⟩ := hrel
              have HBK := hide hbk
              have HNM := hide hnm
              clear hnm
              clear hbk
              by_cases hkj : k < j
              · have j3 : (k : Int) < (j : Int) := by omega
                obtain ⟨t0, t1, t2, t3⟩ := unhide HYV wr (unhide HBK)
                obtain ⟨p2, hp2⟩ : ∃ p2, ps[k]? = some p2 := ⟨_, List.getElem?_eq_getElem (by rw [unhide HL1]; omega)⟩
                obtain ⟨b2, o2, uk2, hbo, _, _, ⟨a3, l3, c3, a4, l4, c4, hue2⟩, _, hat2⟩ := unhide HOP k p2 hp2 wr (btr (unhide HWV) (unhide HBK))
                injection hbo with hbo
                injection hbo with hb2 ho2 _
                subst hb2 ho2 hue2
                have r0 := hat2.get (j := 0) rfl
                have r2 := hat2.get (j := 2) rfl
                simp only [Nat.add_zero] at r0
                have HP2 := hide hp2
                have mx := (unhide HXV wr (unhide HBK)).2
                have j1 : (0 : Int) ≤ (k : Int) := by omega
                have j2 : (k : Int) < (L1 : Int) := by omega
                clear hat2 hp2
                obtain ⟨y9, hy9⟩ : ∃ y, p2.kind = y := ⟨_, rfl⟩
                obtain ⟨z9, hz9⟩ : ∃ y, p2.name = y := ⟨_, rfl⟩
                rw [hy9] at r0
                rw [hz9] at r2
                have HY9 := hide hy9
                have HZ9 := hide hz9
                clear hy9 hz9
                by_cases hk5 : y9 = 5
                rotate_left
                · have hq2 := hide (show (y9 == 5) = false from beq_eq_false_iff_ne.2 hk5)
                  have HN2 : Hid (z2 ∉ checksOf (ps.take (k + 1))) := hide (chk_step (unhide HNM) (unhide HP2) (by rw [unhide HY9, unhide HZ9]; exact fun h => hk5 h.1))
                  clear HOP HXV HNX HSC HNM HP2 HY9 HZ9 HDUP
                  go_wp2_with fail
                  have hq3 := unhide hq2
                  go_big_quiet (fail)
                  go_wp2_with fail
                  go_roundw
                  case rel => exact ⟨k + 1, by omega, by go_num, unhide HN2, bdn (unhide HBK)⟩
                  case measure => simp [intOf]; omega
                subst hk5
                by_cases hq : z9 = z2
                · have HQ : Hid (R = false) := hide (unhide HDUP k p2 (unhide HP2) hkj (unhide HY9) (by rw [unhide HZ9]; exact hq))
                  subst hq
                  have HBZ := hide (btr (unhide HWV2) (unhide HBK))
                  clear HOP HXV HNX HSC HNM HP2 HY9 HZ9 HDUP
                  go_wp2_with fail
                  go_big_quiet (fail)
                  go_wp2_with fail
                  exact bodyPost_ret (v := .bool false) (by simp [results, Try.results5, go_sem]) rfl ⟨ret_bool (unhide HQ).symm, bdn (unhide HBZ)⟩
                · have hq2 := hide (show (z9.toList == z2.toList) = false from beq_eq_false_iff_ne.2 (fun h => hq (toList_inj9 h)))
                  have HN2 : Hid (z2 ∉ checksOf (ps.take (k + 1))) := hide (chk_step (unhide HNM) (unhide HP2) (by rw [unhide HY9, unhide HZ9]; exact fun h => hq h.2))
                  clear HOP HXV HNX HSC HNM HP2 HY9 HZ9 HDUP
                  go_wp2_with fail
                  have hq3 := unhide hq2
                  go_big_quiet (fail)
                  go_wp2_with fail
                  go_roundw
                  case rel => exact ⟨k + 1, by omega, by go_num, unhide HN2, bdn (unhide HBK)⟩
                  case measure => simp [intOf]; omega
              · obtain rfl : j = k := by omega
                have HND2 := hide (unhide HNX (unhide HNM))
                have HP9 := hide (show ∃ m' : Nat, m' + ((ps.take (j + 1)).map (cntP d)).sum = 16384 ∧ Pb W1.heap.size (.slice s0 L0 c0) (.slice (some ⟨b, o, none⟩) L1 c1) 42 wr (m' : Int) from by
                  obtain ⟨m', h1, h2⟩ := unhide HM2
                  exact ⟨m', h1, h2 wr (unhide HBK)⟩)
                have HF9 := hide (unhide HFU wr (unhide HBK))
                clear HNX HM2 HFU HBK HOP HYV HXV HSC HNM HDUP
                go_wp2_with fail
                go_roundw
                case rel => exact ⟨j + 1, by omega, by go_num, unhide HND2, unhide HOK2, unhide HP9, unhide HF9⟩
                case measure => simp [intOf]; omega
        · obtain rfl : L1 = j := by omega
          rw [List.take_of_length_le (by rw [unhide HL1]; exact Nat.le_refl _)] at HND HA HM0
          have HRR : Hid (R = true) := hide (by
            rw [← unhide HR9, unhide HA, decide_eq_true (p := (ps.map (cntP d)).sum ≤ 16384) (by have := unhide HM0; omega), decide_eq_true (unhide HND)]; rfl)
          have HBZ := hide ((unhide HWB).trans (Below.mono (unhide HBR) (unhide HWB).size))
          obtain ⟨x0, x1⟩ := unhide HZX wr (unhide HFX)
          clear HND HA HM0 HOP HPB HFX HCS
          go_wp2_with fail
          exact bodyPost_ret (v := .bool true) (by simp [results, Try.results5, go_sem]) rfl ⟨ret_bool (unhide HRR).symm, unhide HBZ⟩
end Go.Proofs.Ytgkfhaahcedbpaa
