/- The specification's PlaceOK. -/
import Derived.Test.YtlldfaniddbjaaaGreatDoorGHD
import Derived.Test.YtlldfaniddbjaaaGreatDoorSA
import Derived.Test.YtlldfaniddbjaaaGreatDoorGFB
import Derived.BigQuiet
namespace Go.Proofs.YtlldfaniddbjaaaGreatDoor
open Go Go.RowKit Gs
set_option linter.unusedVariables false
set_option linter.unusedSimpArgs false
set_option maxRecDepth 100000
set_option maxHeartbeats 16000000 in
theorem sPlaceOK (a : Packed) (u : List Value) (x0 x1 x2 x3 : Int) (xs : List Int) (v : Value) (w : World) (hl : szPacked a ≤ 1048576) (hlx : xs.length ≤ 1048576) (hr : RPacked w 0 a u) (hx : RS 1 RInt w 0 xs v) :
    Calls Tryz.prog 19 #[.agg u.toArray, .agg #[.int .i64 x0, .int .i64 x1, .int .i64 x2, .int .i64 x3], v] w fun e w' => e = .returned (.bool (placeB (packS a) x0 x1 x2 x3 a.ins.length a.blocks.length a.outs.length a.checks.length xs)) ∧ Below w.heap.size w w' := by
  have hz : szPacked a = szL (fun (s : ByteArray) => s.size) a.ins + szL (fun (s : ByteArray) => s.size) a.clocks + szL szBlock a.blocks + szL szPort a.outs + szL szPort a.checks := rfl
  have z0 := szL_sm (fun (s : ByteArray) => s.size) a.ins
  have z1 := szL_sm (fun (s : ByteArray) => s.size) a.clocks
  have z2 := szL_sm szBlock a.blocks
  have z4 := szL_sm szPort a.outs
  have z5 := szL_sm szPort a.checks
  have b0 : a.ins.length ≤ 1048576 := by omega
  have b1 : a.clocks.length ≤ 1048576 := by omega
  have b2 : a.blocks.length ≤ 1048576 := by omega
  have b3 : a.outs.length ≤ 1048576 := by omega
  have b4 : a.checks.length ≤ 1048576 := by omega
  clear hz z0 z1 z2 z4 z5
  have HPK := hide (fun (V : World) (hb : Below w.heap.size w V) => sPackOK a u V hl (RPacked.keeps _ _ _ _ _ (later_cells hb 0) hr))
  obtain ⟨v0, v1, v2, v3, v4, rfl, h0, h1, h2, h3, h4⟩ := hr
  obtain ⟨s0, c0, rfl⟩ := h0.slice
  obtain ⟨l0, e0⟩ : ∃ l, a.ins.length = l := ⟨_, rfl⟩
  rw [e0] at HPK b0
  obtain ⟨s1, c1, rfl⟩ := h1.slice
  obtain ⟨l1, e1⟩ : ∃ l, a.clocks.length = l := ⟨_, rfl⟩
  rw [e1] at HPK b1
  obtain ⟨s2, c2, rfl⟩ := h2.slice
  obtain ⟨l2, e2⟩ : ∃ l, a.blocks.length = l := ⟨_, rfl⟩
  rw [e2] at HPK b2
  obtain ⟨s3, c3, rfl⟩ := h3.slice
  obtain ⟨l3, e3⟩ : ∃ l, a.outs.length = l := ⟨_, rfl⟩
  rw [e3] at HPK b3
  obtain ⟨s4, c4, rfl⟩ := h4.slice
  obtain ⟨l4, e4⟩ : ∃ l, a.checks.length = l := ⟨_, rfl⟩
  rw [e4] at HPK b4
  rw [e0, e1, e2, e3, e4]
  clear h0 h1 h2 h3 h4
  obtain ⟨q0, hq0⟩ : ∃ q, packS a = q := ⟨_, rfl⟩
  rw [hq0] at HPK ⊢
  clear hq0 hl e0 e1 e2 e3 e4
  have HPK2 : Hid (∀ V, Below w.heap.size w V → Calls Tryz.prog 44 #[.agg #[.slice s0 l0 c0, .slice s1 l1 c1, .slice s2 l2 c2, .slice s3 l3 c3, .slice s4 l4 c4]] V fun e w' => e = .returned (.bool q0) ∧ Below V.heap.size V w') := hide (fun V hb => unhide HPK V hb)
  have HCH := hide (fun V => sChipOK x0 x1 x2 x3 V)
  obtain ⟨q1, hq1⟩ : ∃ q, chipB x0 x1 x2 x3 = q := ⟨_, rfl⟩
  have HR : Hid (placeB q0 x0 x1 x2 x3 l0 l2 l3 l4 xs = (q0 && (q1 && (padsB (x1 * x3).toNat l0 l3 l4 && (decide (xs.length = l2) && insB (x0 * x1).toNat xs))))) := hide (by unfold placeB; rw [hq1])
  generalize placeB q0 x0 x1 x2 x3 l0 l2 l3 l4 xs = RR at *
  rw [hq1] at HCH
  clear HPK
  obtain ⟨X1, hX1⟩ : ∃ X, X = (w.alloc (.cells #[.slice s0 l0 c0, .slice s1 l1 c1, .slice s2 l2 c2, .slice s3 l3 c3, .slice s4 l4 c4] 37)).alloc (.cells #[.int .i64 x0, .int .i64 x1, .int .i64 x2, .int .i64 x3] 39) := ⟨_, rfl⟩
  have HB1 : Hid (Below w.heap.size w X1) := hide (by rw [hX1]; exact bal (bal (brf w) _) _)
  have HCP : Hid (∀ V, Below X1.heap.size X1 V → V.cell? ⟨w.heap.size, 0, none⟩ = some (.slice s0 l0 c0) ∧ V.cell? ⟨w.heap.size, 1, none⟩ = some (.slice s1 l1 c1) ∧ V.cell? ⟨w.heap.size, 2, none⟩ = some (.slice s2 l2 c2) ∧ V.cell? ⟨w.heap.size, 3, none⟩ = some (.slice s3 l3 c3) ∧ V.cell? ⟨w.heap.size, 4, none⟩ = some (.slice s4 l4 c4)) := hide (fun V hb => by
    rw [hX1] at hb
    have hb' := btr (bal (brf (w.alloc (.cells #[.slice s0 l0 c0, .slice s1 l1 c1, .slice s2 l2 c2, .slice s3 l3 c3, .slice s4 l4 c4] 37))) (.cells #[.int .i64 x0, .int .i64 x1, .int .i64 x2, .int .i64 x3] 39)) hb
    exact ⟨cell_later hb' (by rw [World.cell?_alloc_new]; rfl), cell_later hb' (by rw [World.cell?_alloc_new]; rfl), cell_later hb' (by rw [World.cell?_alloc_new]; rfl), cell_later hb' (by rw [World.cell?_alloc_new]; rfl), cell_later hb' (by rw [World.cell?_alloc_new]; rfl)⟩)
  have HCC : Hid (∀ V, Below X1.heap.size X1 V → V.cell? ⟨w.heap.size + 1, 0, none⟩ = some (.int .i64 x0) ∧ V.cell? ⟨w.heap.size + 1, 1, none⟩ = some (.int .i64 x1) ∧ V.cell? ⟨w.heap.size + 1, 2, none⟩ = some (.int .i64 x2) ∧ V.cell? ⟨w.heap.size + 1, 3, none⟩ = some (.int .i64 x3)) := hide (fun V hb => by
    rw [hX1] at hb
    have hz : (w.alloc (.cells #[.slice s0 l0 c0, .slice s1 l1 c1, .slice s2 l2 c2, .slice s3 l3 c3, .slice s4 l4 c4] 37)).heap.size = w.heap.size + 1 := by simp
    refine ⟨?_, ?_, ?_, ?_⟩ <;> exact cell_later hb (by rw [← hz, World.cell?_alloc_new]; rfl))
  have HX1 := hide hX1
  clear hX1
  cases q0
  · clear hq1
    go_enter Tryz.func19, Tryz.ntmps19
    go_wp2_with fail
    rw [← unhide HX1]
    refine (unhide HPK2 _ (unhide HB1)).mono ?_
    rintro e W1 ⟨rfl, hb⟩
    have B1 : Hid (Below X1.heap.size X1 W1) := hide hb
    clear hb
    go_wp2_with fail
    exact bodyPost_ret (v := .bool false) (by simp [results, Tryz.results19, go_sem]) rfl ⟨by rw [unhide HR]; rfl, btr (unhide HB1) (unhide B1)⟩
  · cases q1
    · clear hq1
      go_enter Tryz.func19, Tryz.ntmps19
      go_wp2_with fail
      rw [← unhide HX1]
      refine (unhide HPK2 _ (unhide HB1)).mono ?_
      rintro e W1 ⟨rfl, hb⟩
      have B1 : Hid (Below X1.heap.size X1 W1) := hide hb
      clear hb
      obtain ⟨g0, g1, g2, g3⟩ := unhide HCC W1 (unhide B1)
      go_wp2_with fail
      refine (unhide HCH _).mono ?_
      rintro e W2 ⟨rfl, hb⟩
      have B2 : Hid (Below X1.heap.size X1 W2) := hide (btr (unhide B1) hb)
      clear hb g0 g1 g2 g3
      go_wp2_with fail
      exact bodyPost_ret (v := .bool false) (by simp [results, Tryz.results19, go_sem]) rfl ⟨by rw [unhide HR]; rfl, btr (unhide HB1) (unhide B2)⟩
    · obtain ⟨d0, d1, d2, d3⟩ := chip_parts hq1
      obtain ⟨T, hT, hT2, hT3⟩ := mul_small (m := 8) (n := 8) (by omega : 1 ≤ x0 ∧ x0 ≤ ((8 : Nat) : Int)) (by omega : 1 ≤ x1 ∧ x1 ≤ ((8 : Nat) : Int))
      obtain ⟨H, hH, hH2, hH3⟩ := mul_small (m := 8) (n := 4) (by omega : 1 ≤ x1 ∧ x1 ≤ ((8 : Nat) : Int)) (by omega : 1 ≤ x3 ∧ x3 ≤ ((4 : Nat) : Int))
      have HR2 : Hid (RR = (padsB H l0 l3 l4 && (decide (xs.length = l2) && insB T xs))) := hide (by
        rw [unhide HR, hT, hH, Int.toNat_natCast, Int.toNat_natCast]; rfl)
      have HPA := hide (fun V => sPads s0 s1 s2 s3 s4 l0 l1 l2 l3 l4 c0 c1 c2 c3 c4 x0 x1 x2 x3 H (by omega) hH V b0 b3 b4)
      have hTb : T ≤ 64 := by omega
      clear HR hq1 d0 d1 d2 d3 hT2 hT3 hH hH2 hH3
      have HLT := hide (fun h : insB T xs = true => insB_len h)
      have HCS : Hid (∀ (i : Nat) y, xs[i]? = some y → ∃ a c b o, v = .slice a xs.length c ∧ a = some ⟨b, o, none⟩ ∧ xs.length ≤ c ∧ w.cell? ⟨b, o + i, none⟩ = some (.int .i64 y)) := hide (fun i y hy => by
        rcases hx.open with ⟨e, _⟩ | ⟨b, o, c', hv, hcc, _, _, hcs⟩
        · rw [e] at hy; simp at hy
        · obtain ⟨u, hul, hat, hus⟩ := hcs i y hy
          subst hus
          exact ⟨_, c', b, o, hv, rfl, hcc, by simpa using hat.get (j := 0) rfl⟩)
      obtain ⟨av, cv, rfl⟩ := hx.slice
      clear hx
      obtain ⟨L, hL⟩ : ∃ L, xs.length = L := ⟨_, rfl⟩
      have HLL := hide hL
      rw [hL] at HCS HR2 hlx HLT ⊢
      clear hL
      generalize hp2 : padsB H l0 l3 l4 = p2 at *
      clear hp2
      cases p2
      · clear hT HCS HLT
        go_enter Tryz.func19, Tryz.ntmps19
        go_wp2_with fail
        rw [← unhide HX1]
        refine (unhide HPK2 _ (unhide HB1)).mono ?_
        rintro e W1 ⟨rfl, hb⟩
        have B1 : Hid (Below X1.heap.size X1 W1) := hide hb
        clear hb
        obtain ⟨g0, g1, g2, g3⟩ := unhide HCC W1 (unhide B1)
        go_wp2_with fail
        refine (unhide HCH _).mono ?_
        rintro e W2 ⟨rfl, hb⟩
        have B2 : Hid (Below X1.heap.size X1 W2) := hide (btr (unhide B1) hb)
        clear hb g0 g1 g2 g3
        obtain ⟨g0, g1, g2, g3⟩ := unhide HCC W2 (unhide B2)
        obtain ⟨n0, n1, n2, n3, n4⟩ := unhide HCP W2 (unhide B2)
        go_wp2_with fail
        refine (unhide HPA _).mono ?_
        rintro e W3 ⟨rfl, hb⟩
        have B3 : Hid (Below X1.heap.size X1 W3) := hide (btr (unhide B2) hb)
        clear hb g0 g1 g2 g3 n0 n1 n2 n3 n4
        obtain ⟨g0, g1, g2, g3⟩ := unhide HCC W3 (unhide B3)
        obtain ⟨n0, n1, n2, n3, n4⟩ := unhide HCP W3 (unhide B3)
        go_wp2_with fail
        exact bodyPost_ret (v := .bool false) (by simp [results, Tryz.results19, go_sem]) rfl ⟨by rw [unhide HR2]; rfl, btr (unhide HB1) (unhide B3)⟩
      · by_cases hn : L = l2
        · have HR3 : Hid (RR = insB T xs) := hide (by rw [unhide HR2, decide_eq_true hn]; rfl)
          subst hn
          clear HR2
          by_cases hg : (T : Int) < (L : Int)
          · have HR4 : Hid (RR = false) := hide (by rw [unhide HR3, ← Bool.not_eq_true]; intro h; have := unhide HLT h; omega)
            clear HR3 HLT HCS
            go_enter Tryz.func19, Tryz.ntmps19
            go_wp2_with fail
            rw [← unhide HX1]
            refine (unhide HPK2 _ (unhide HB1)).mono ?_
            rintro e W1 ⟨rfl, hb⟩
            have B1 : Hid (Below X1.heap.size X1 W1) := hide hb
            clear hb
            obtain ⟨g0, g1, g2, g3⟩ := unhide HCC W1 (unhide B1)
            go_wp2_with fail
            refine (unhide HCH _).mono ?_
            rintro e W2 ⟨rfl, hb⟩
            have B2 : Hid (Below X1.heap.size X1 W2) := hide (btr (unhide B1) hb)
            clear hb g0 g1 g2 g3
            obtain ⟨g0, g1, g2, g3⟩ := unhide HCC W2 (unhide B2)
            obtain ⟨n0, n1, n2, n3, n4⟩ := unhide HCP W2 (unhide B2)
            go_wp2_with fail
            refine (unhide HPA _).mono ?_
            rintro e W3 ⟨rfl, hb⟩
            have B3 : Hid (Below X1.heap.size X1 W3) := hide (btr (unhide B2) hb)
            clear hb g0 g1 g2 g3 n0 n1 n2 n3 n4
            obtain ⟨g0, g1, g2, g3⟩ := unhide HCC W3 (unhide B3)
            obtain ⟨n0, n1, n2, n3, n4⟩ := unhide HCP W3 (unhide B3)
            go_wp2_with fail
            exact bodyPost_ret (v := .bool false) (by simp [results, Tryz.results19, go_sem]) rfl ⟨by rw [unhide HR4], btr (unhide HB1) (unhide B3)⟩
          have hg' : (L : Int) ≤ (T : Int) := by omega
          clear HLT hg
          go_enter Tryz.func19, Tryz.ntmps19
          go_wp2_with fail
          rw [← unhide HX1]
          refine (unhide HPK2 _ (unhide HB1)).mono ?_
          rintro e W1 ⟨rfl, hb⟩
          have B1 : Hid (Below X1.heap.size X1 W1) := hide hb
          clear hb
          obtain ⟨g0, g1, g2, g3⟩ := unhide HCC W1 (unhide B1)
          go_wp2_with fail
          refine (unhide HCH _).mono ?_
          rintro e W2 ⟨rfl, hb⟩
          have B2 : Hid (Below X1.heap.size X1 W2) := hide (btr (unhide B1) hb)
          clear hb g0 g1 g2 g3
          obtain ⟨g0, g1, g2, g3⟩ := unhide HCC W2 (unhide B2)
          obtain ⟨n0, n1, n2, n3, n4⟩ := unhide HCP W2 (unhide B2)
          go_wp2_with fail
          refine (unhide HPA _).mono ?_
          rintro e W3 ⟨rfl, hb⟩
          have B3 : Hid (Below X1.heap.size X1 W3) := hide (btr (unhide B2) hb)
          clear hb g0 g1 g2 g3 n0 n1 n2 n3 n4
          obtain ⟨g0, g1, g2, g3⟩ := unhide HCC W3 (unhide B3)
          obtain ⟨n0, n1, n2, n3, n4⟩ := unhide HCP W3 (unhide B3)
          go_wp2_with fail
          rw [show decide (T < L) = false from decide_eq_false (by omega)]
          clear g0 g1 g2 g3 n0 n1 n2 n3 n4 hg'
          go_loopw [7] (fun i wr => ∃ k : Nat, k ≤ L ∧ i = .int .i64 k ∧ upB (inAt T xs) k = true ∧ Below W3.heap.size W3 wr) (fun i wr => L - (intOf i).toNat)
          case atStart => exact ⟨0, Nat.zero_le _, rfl, rfl, brf _⟩
          case round =>
            obtain ⟨k, hk, rfl, hall, hbw⟩ := hrel
            have HA := hide hall
            have HBW := hide hbw
            have HB0 := hide (btr (unhide HB1) (btr (unhide B3) hbw))
            obtain ⟨g0, g1, g2, g3⟩ := unhide HCC wr (btr (unhide B3) hbw)
            clear hall
            by_cases hlt : k < L
            · have hkx : k < xs.length := by have := unhide HLL; omega
              have hx : xs[k]? = some xs[k] := List.getElem?_eq_getElem hkx
              generalize xs[k] = x at hx
              have HAT := hide (inAt_at (n := T) hx)
              have HF : Hid (inAt T xs k = false → RR = false) := hide (fun h => by rw [unhide HR3]; exact upB_false hkx h)
              have HST := hide (upB_succ (inAt T xs) k)
              have HPL : Hid (plB x T = (decide (0 ≤ x) && decide (x < (T : Int)))) := hide rfl
              obtain ⟨a', c', b, o, hv, ha, hcc, k0⟩ := unhide HCS k x hx
              injection hv with e1 e2 e3
              subst e1 e3
              subst ha
              have HK0 := hide k0
              replace k0 := cell_later (unhide HB0) k0
              have i1 : (0 : Int) ≤ (k : Int) := by omega
              have i2 : (k : Int) < (L : Int) := by omega
              clear hx hbw hkx e2
              by_cases f1 : x < 0
              · have HX := hide (unhide HF (by rw [unhide HAT, unhide HPL, decide_eq_false (p := 0 ≤ x) (by omega)]; rfl))
                have f1' : decide (x < 0) = true := decide_eq_true f1
                clear HF HAT HPL HST HA HCS f1
                go_wp2
                go_quiet (fail)
                go_wp2
                exact bodyPost_ret (v := .bool false) (by simp [results, Tryz.results19, go_sem]) rfl ⟨by rw [unhide HX], below_drewN (unhide HB0) _⟩
              have a1 : decide (x < 0) = false := decide_eq_false f1
              by_cases f2 : (T : Int) ≤ x
              · have HX := hide (unhide HF (by rw [unhide HAT, unhide HPL, decide_eq_false (p := x < (T : Int)) (by omega)]; simp))
                have f2' : decide ((T : Int) ≤ x) = true := decide_eq_true f2
                clear HF HAT HPL HST HA HCS f2
                go_wp2
                go_quiet (fail)
                go_wp2
                exact bodyPost_ret (v := .bool false) (by simp [results, Tryz.results19, go_sem]) rfl ⟨by rw [unhide HX], below_drewN (unhide HB0) _⟩
              have a2 : decide ((T : Int) ≤ x) = false := decide_eq_false f2
              have HP : Hid (inAt T xs k = !hasB (xs.take k) x) := hide (by rw [unhide HAT, unhide HPL, decide_eq_true (p := 0 ≤ x) (by omega), decide_eq_true (p := x < (T : Int)) (by omega)]; rfl)
              obtain ⟨wr1, rfl⟩ : ∃ V : World, V = wr := ⟨wr, rfl⟩
              clear HAT HPL
              go_wp2
              go_quiet (fail)
              go_wp2
              clear a1 a2 f1 f2 g0 g1 g2 g3 k0
              go_loopw [8] (fun j wr => ∃ m : Nat, m ≤ k ∧ j = .int .i64 m ∧ hasB (xs.take m) x = false ∧ Below wr1.heap.size wr1 wr) (fun j wr => k - (intOf j).toNat)
              case atStart => exact ⟨0, Nat.zero_le _, rfl, rfl, below_drewN (brf _) _⟩
              case round =>
                obtain ⟨m, hm, rfl, hno, hb2⟩ := hrel
                have HNO := hide hno
                have HB2 := hide (btr (unhide HB0) hb2)
                have HB3 := hide (btr (unhide HBW) hb2)
                have HB4 := hide hb2
                clear hno hb2
                by_cases hlm : m < k
                · have hmx : m < xs.length := by have := unhide HLL; omega
                  have hy : xs[m]? = some xs[m] := List.getElem?_eq_getElem hmx
                  generalize xs[m] = y at hy
                  obtain ⟨a', c', b', o', hv, ha, _, hc'⟩ := unhide HCS m y hy
                  injection hv with e1 e2 e3
                  subst e1 e3
                  injection ha with ha
                  injection ha with e4 e5 _
                  subst e4 e5
                  have HSM := hide (hasB_take hy x)
                  have HIN : Hid (y = x → inAt T xs k = false) := hide (fun e => by
                    rw [unhide HP]
                    have : hasB (xs.take k) x = true := hasB_mem (k := m) (by rw [List.getElem?_take, if_pos hlm, hy, e])
                    rw [this]; rfl)
                  have k1 := cell_later (unhide HB2) hc'
                  have k2 := cell_later (unhide HB2) (unhide HK0)
                  have j1 : (0 : Int) ≤ (m : Int) := by omega
                  have j2 : (m : Int) < (L : Int) := by omega
                  clear hy hc' e2 hmx
                  by_cases e : y = x
                  · have HX := hide (unhide HF (unhide HIN e))
                    clear HF HP HST HA HCS HIN HSM HK0
                    subst e
                    go_wp2
                    go_quiet (fail)
                    go_wp2
                    exact bodyPost_ret (v := .bool false) (by simp [results, Tryz.results19, go_sem]) rfl ⟨by rw [unhide HX], below_drewN (unhide HB2) _⟩
                  · have q2 : decide (y = x) = false := decide_eq_false e
                    have HN2 : Hid (hasB (xs.take (m + 1)) x = false) := hide (by rw [unhide HSM, unhide HNO, decide_eq_false (fun h => e h.symm)]; rfl)
                    clear HF HP HST HA HCS HIN HSM HK0
                    go_wp2
                    go_quiet (fail)
                    go_wp2
                    go_roundw
                    case rel => exact ⟨m + 1, by omega, by go_num, unhide HN2, below_drewN (unhide HB4) _⟩
                    case measure => simp [intOf]; omega
                · obtain rfl : m = k := by omega
                  have HAA : Hid (upB (inAt T xs) (m + 1) = true) := hide (by rw [unhide HST, unhide HA, unhide HP, unhide HNO]; rfl)
                  clear HF HP HST HA HCS HK0
                  go_wp2
                  go_roundw
                  case rel => exact ⟨m + 1, by omega, by go_num, unhide HAA, unhide HB3⟩
                  case measure => simp [intOf]; omega
            · obtain rfl : k = L := by omega
              clear HCS hbw g0 g1 g2 g3
              go_wp2
              exact bodyPost_ret (v := .bool true) (by simp [results, Tryz.results19, go_sem]) rfl ⟨by rw [unhide HR3, show insB T xs = upB (inAt T xs) xs.length from rfl, unhide HLL, unhide HA], unhide HB0⟩
        · have hne : ((L : Int) != (l2 : Int)) = true := by rw [bne_iff_ne]; omega
          have HR4 : Hid (RR = false) := hide (by rw [unhide HR2, decide_eq_false hn]; rfl)
          clear HR2 hn HCS HLT
          go_enter Tryz.func19, Tryz.ntmps19
          go_wp2_with fail
          rw [← unhide HX1]
          refine (unhide HPK2 _ (unhide HB1)).mono ?_
          rintro e W1 ⟨rfl, hb⟩
          have B1 : Hid (Below X1.heap.size X1 W1) := hide hb
          clear hb
          obtain ⟨g0, g1, g2, g3⟩ := unhide HCC W1 (unhide B1)
          go_wp2_with fail
          refine (unhide HCH _).mono ?_
          rintro e W2 ⟨rfl, hb⟩
          have B2 : Hid (Below X1.heap.size X1 W2) := hide (btr (unhide B1) hb)
          clear hb g0 g1 g2 g3
          obtain ⟨g0, g1, g2, g3⟩ := unhide HCC W2 (unhide B2)
          obtain ⟨n0, n1, n2, n3, n4⟩ := unhide HCP W2 (unhide B2)
          go_wp2_with fail
          refine (unhide HPA _).mono ?_
          rintro e W3 ⟨rfl, hb⟩
          have B3 : Hid (Below X1.heap.size X1 W3) := hide (btr (unhide B2) hb)
          clear hb g0 g1 g2 g3 n0 n1 n2 n3 n4
          obtain ⟨g0, g1, g2, g3⟩ := unhide HCC W3 (unhide B3)
          obtain ⟨n0, n1, n2, n3, n4⟩ := unhide HCP W3 (unhide B3)
          go_wp2_with fail
          exact bodyPost_ret (v := .bool false) (by simp [results, Tryz.results19, go_sem]) rfl ⟨by rw [unhide HR4], btr (unhide HB1) (unhide B3)⟩
end Go.Proofs.YtlldfaniddbjaaaGreatDoor
