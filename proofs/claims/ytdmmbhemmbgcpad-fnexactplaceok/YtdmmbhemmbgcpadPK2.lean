/- impl.PlaceOK. -/
import Derived.Test.YtdmmbhemmbgcpadPK1
import Derived.Test.YtdmmbhemmbgcpadCT
namespace Go.Proofs.Ytdmmbhemmbgcpad
open Go Go.RowKit Gs
set_option linter.unusedVariables false
set_option linter.unusedSimpArgs false
set_option maxRecDepth 100000
set_option maxHeartbeats 16000000 in
theorem iPlaceOK (a : Packed) (u : List Value) (x0 x1 x2 x3 : Int) (xs : List Int) (v : Value) (w : World) (hl : szPacked a ≤ 1048576) (hlx : xs.length ≤ 1048576) (hr : RPacked w 0 a u) (hx : RS 1 RInt w 0 xs v) :
    Calls Try.prog 9 #[.agg u.toArray, .agg #[.int .i64 x0, .int .i64 x1, .int .i64 x2, .int .i64 x3], v] w fun e w' => e = .returned (.bool (placeB (packI a) x0 x1 x2 x3 a.ins.length a.blocks.length a.outs.length a.checks.length xs)) ∧ Below w.heap.size w w' := by
  have hz : szPacked a = szL (fun (s : ByteArray) => s.size) a.ins + szL (fun (s : ByteArray) => s.size) a.clocks + szL szBlock a.blocks + szL szPort a.outs + szL szPort a.checks := rfl
  have z0 := szL_sm (fun (s : ByteArray) => s.size) a.ins
  have z1 := szL_sm (fun (s : ByteArray) => s.size) a.clocks
  have z2 := szL_sm szBlock a.blocks
  have z4 := szL_sm szPort a.outs
  have z5 := szL_sm szPort a.checks
  have b0 : a.ins.length ≤ 1048576 := by omega
  have b1 : a.clocks.length ≤ 1048576 := by omega
  have b2 : a.blocks.length ≤ 1048576 := by omega
  have b3 : a.outs.length ≤ 1048576 := by omega
  have b4 : a.checks.length ≤ 1048576 := by omega
  clear hz z0 z1 z2 z4 z5
  have HPK := hide (fun (V : World) (hb : Below w.heap.size w V) => iPackOK a u V hl (RPacked.keeps _ _ _ _ _ (later_cells hb 0) hr))
  obtain ⟨v0, v1, v2, v3, v4, rfl, h0, h1, h2, h3, h4⟩ := hr
  obtain ⟨s0, c0, rfl⟩ := h0.slice
  obtain ⟨l0, e0⟩ : ∃ l, a.ins.length = l := ⟨_, rfl⟩
  rw [e0] at HPK b0
  obtain ⟨s1, c1, rfl⟩ := h1.slice
  obtain ⟨l1, e1⟩ : ∃ l, a.clocks.length = l := ⟨_, rfl⟩
  rw [e1] at HPK b1
  obtain ⟨s2, c2, rfl⟩ := h2.slice
  obtain ⟨l2, e2⟩ : ∃ l, a.blocks.length = l := ⟨_, rfl⟩
  rw [e2] at HPK b2
  obtain ⟨s3, c3, rfl⟩ := h3.slice
  obtain ⟨l3, e3⟩ : ∃ l, a.outs.length = l := ⟨_, rfl⟩
  rw [e3] at HPK b3
  obtain ⟨s4, c4, rfl⟩ := h4.slice
  obtain ⟨l4, e4⟩ : ∃ l, a.checks.length = l := ⟨_, rfl⟩
  rw [e4] at HPK b4
  rw [e0, e1, e2, e3, e4]
  clear h0 h1 h2 h3 h4
  obtain ⟨q0, hq0⟩ : ∃ q, packI a = q := ⟨_, rfl⟩
  rw [hq0] at HPK ⊢
  clear hq0 hl e0 e1 e2 e3 e4
  have HPK2 : Hid (∀ V, Below w.heap.size w V → Calls Try.prog 21 #[.agg #[.slice s0 l0 c0, .slice s1 l1 c1, .slice s2 l2 c2, .slice s3 l3 c3, .slice s4 l4 c4]] V fun e w' => e = .returned (.bool q0) ∧ Below V.heap.size V w') := hide (fun V hb => unhide HPK V hb)
  have HCH := hide (fun V => iChipOK x0 x1 x2 x3 V)
  obtain ⟨q1, hq1⟩ : ∃ q, chipB x0 x1 x2 x3 = q := ⟨_, rfl⟩
  have HR : Hid (placeB q0 x0 x1 x2 x3 l0 l2 l3 l4 xs = (q0 && (q1 && (padsB (x1 * x3).toNat l0 l3 l4 && (decide (xs.length = l2) && insB (x0 * x1).toNat xs))))) := hide (by unfold placeB; rw [hq1])
  generalize placeB q0 x0 x1 x2 x3 l0 l2 l3 l4 xs = RR at *
  rw [hq1] at HCH
  clear HPK
  obtain ⟨X1, hX1⟩ : ∃ X, X = (w.alloc (.cells #[.slice s0 l0 c0, .slice s1 l1 c1, .slice s2 l2 c2, .slice s3 l3 c3, .slice s4 l4 c4] 35)).alloc (.cells #[.int .i64 x0, .int .i64 x1, .int .i64 x2, .int .i64 x3] 37) := ⟨_, rfl⟩
  have HB1 : Hid (Below w.heap.size w X1) := hide (by rw [hX1]; exact bal (bal (brf w) _) _)
  have HCP : Hid (∀ V, Below X1.heap.size X1 V → V.cell? ⟨w.heap.size, 0, none⟩ = some (.slice s0 l0 c0) ∧ V.cell? ⟨w.heap.size, 1, none⟩ = some (.slice s1 l1 c1) ∧ V.cell? ⟨w.heap.size, 2, none⟩ = some (.slice s2 l2 c2) ∧ V.cell? ⟨w.heap.size, 3, none⟩ = some (.slice s3 l3 c3) ∧ V.cell? ⟨w.heap.size, 4, none⟩ = some (.slice s4 l4 c4)) := hide (fun V hb => by
    rw [hX1] at hb
    have hb' := btr (bal (brf (w.alloc (.cells #[.slice s0 l0 c0, .slice s1 l1 c1, .slice s2 l2 c2, .slice s3 l3 c3, .slice s4 l4 c4] 35))) (.cells #[.int .i64 x0, .int .i64 x1, .int .i64 x2, .int .i64 x3] 37)) hb
    exact ⟨cell_later hb' (by rw [World.cell?_alloc_new]; rfl), cell_later hb' (by rw [World.cell?_alloc_new]; rfl), cell_later hb' (by rw [World.cell?_alloc_new]; rfl), cell_later hb' (by rw [World.cell?_alloc_new]; rfl), cell_later hb' (by rw [World.cell?_alloc_new]; rfl)⟩)
  have HCC : Hid (∀ V, Below X1.heap.size X1 V → V.cell? ⟨w.heap.size + 1, 0, none⟩ = some (.int .i64 x0) ∧ V.cell? ⟨w.heap.size + 1, 1, none⟩ = some (.int .i64 x1) ∧ V.cell? ⟨w.heap.size + 1, 2, none⟩ = some (.int .i64 x2) ∧ V.cell? ⟨w.heap.size + 1, 3, none⟩ = some (.int .i64 x3)) := hide (fun V hb => by
    rw [hX1] at hb
    have hz : (w.alloc (.cells #[.slice s0 l0 c0, .slice s1 l1 c1, .slice s2 l2 c2, .slice s3 l3 c3, .slice s4 l4 c4] 35)).heap.size = w.heap.size + 1 := by simp
    refine ⟨?_, ?_, ?_, ?_⟩ <;> exact cell_later hb (by rw [← hz, World.cell?_alloc_new]; rfl))
  have HX1 := hide hX1
  clear hX1
  cases q0
  · clear hq1
    go_enter Try.func9, Try.ntmps9
    go_wp2_with fail
    rw [← unhide HX1]
    refine (unhide HPK2 _ (unhide HB1)).mono ?_
    rintro e W1 ⟨rfl, hb⟩
    have B1 := hide (btr (unhide HB1) hb)
    clear hb
    go_wp2_with fail
    exact bodyPost_ret (v := .bool false) (by simp [results, Try.results9, go_sem]) rfl ⟨by rw [unhide HR]; rfl, unhide B1⟩
  · cases q1
    · clear hq1
      go_enter Try.func9, Try.ntmps9
      go_wp2_with fail
      rw [← unhide HX1]
      refine (unhide HPK2 _ (unhide HB1)).mono ?_
      rintro e W1 ⟨rfl, hb⟩
      have B1 : Hid (Below X1.heap.size X1 W1) := hide hb
      clear hb
      obtain ⟨g0, g1, g2, g3⟩ := unhide HCC W1 (unhide B1)
      go_wp2_with fail
      refine (unhide HCH _).mono ?_
      rintro e W2 ⟨rfl, hb⟩
      have B2 := hide (btr (unhide HB1) (btr (unhide B1) hb))
      clear hb
      go_wp2_with fail
      exact bodyPost_ret (v := .bool false) (by simp [results, Try.results9, go_sem]) rfl ⟨by rw [unhide HR]; rfl, unhide B2⟩
    · obtain ⟨d0, d1, d2, d3⟩ := chip_parts hq1
      obtain ⟨T, hT, hT2, hT3⟩ := mul_small (m := 8) (n := 8) (by omega : 1 ≤ x0 ∧ x0 ≤ ((8 : Nat) : Int)) (by omega : 1 ≤ x1 ∧ x1 ≤ ((8 : Nat) : Int))
      obtain ⟨H, hH, hH2, hH3⟩ := mul_small (m := 8) (n := 4) (by omega : 1 ≤ x1 ∧ x1 ≤ ((8 : Nat) : Int)) (by omega : 1 ≤ x3 ∧ x3 ≤ ((4 : Nat) : Int))
      have HR2 : Hid (RR = (padsB H l0 l3 l4 && (decide (xs.length = l2) && insB T xs))) := hide (by
        rw [unhide HR, hT, hH, Int.toNat_natCast, Int.toNat_natCast]; rfl)
      have HPA := hide (fun V => iPads s0 s1 s2 s3 s4 l0 l1 l2 l3 l4 c0 c1 c2 c3 c4 x0 x1 x2 x3 H (by omega) hH V b0 b3 b4)
      have HTI := hide (fun V => iTiles x0 x1 x2 x3 T (by omega) hT V)
      have hTb : T ≤ 64 := by omega
      clear HR hq1 d0 d1 d2 d3 hT hT2 hT3 hH hH2 hH3
      have HCO := hide (fun (k : Nat) (x : Int) (V : World) (hb : Below w.heap.size w V) (hk : k ≤ xs.length) (b o c : Nat) (hv : v = .slice (some ⟨b, o, none⟩) xs.length c) => iContains (xs.take k) x (.slice (some ⟨b, o, none⟩) k c) V (by rw [List.length_take]; omega) (RS.take (hv ▸ hx.later RInt.keeps hb) hk))
      have HOP := hide hx
      obtain ⟨av, cv, rfl⟩ := hx.slice
      clear hx
      obtain ⟨L, hL⟩ : ∃ L, xs.length = L := ⟨_, rfl⟩
      have HLL := hide hL
      rw [hL] at HCO HR2 hlx ⊢
      clear hL
      generalize hp2 : padsB H l0 l3 l4 = p2 at *
      clear hp2
      cases p2
      · go_enter Try.func9, Try.ntmps9
        go_wp2_with fail
        rw [← unhide HX1]
        refine (unhide HPK2 _ (unhide HB1)).mono ?_
        rintro e W1 ⟨rfl, hb⟩
        have B1 : Hid (Below X1.heap.size X1 W1) := hide hb
        clear hb
        obtain ⟨g0, g1, g2, g3⟩ := unhide HCC W1 (unhide B1)
        go_wp2_with fail
        refine (unhide HCH _).mono ?_
        rintro e W2 ⟨rfl, hb⟩
        have B2 : Hid (Below X1.heap.size X1 W2) := hide (btr (unhide B1) hb)
        clear hb g0 g1 g2 g3
        obtain ⟨g0, g1, g2, g3⟩ := unhide HCC W2 (unhide B2)
        obtain ⟨n0, n1, n2, n3, n4⟩ := unhide HCP W2 (unhide B2)
        go_wp2_with fail
        refine (unhide HPA _).mono ?_
        rintro e W3 ⟨rfl, hb⟩
        have B3 := hide (btr (unhide HB1) (btr (unhide B2) (btr (bal (brf _) _) hb)))
        clear hb
        go_wp2_with fail
        exact bodyPost_ret (v := .bool false) (by simp [results, Try.results9, go_sem]) rfl ⟨by rw [unhide HR2]; rfl, unhide B3⟩
      · by_cases hn : L = l2
        · have HR3 : Hid (RR = insB T xs) := hide (by rw [unhide HR2, decide_eq_true hn]; rfl)
          subst hn
          clear HR2
          go_enter Try.func9, Try.ntmps9
          go_wp2_with fail
          rw [← unhide HX1]
          refine (unhide HPK2 _ (unhide HB1)).mono ?_
          rintro e W1 ⟨rfl, hb⟩
          have B1 : Hid (Below X1.heap.size X1 W1) := hide hb
          clear hb
          obtain ⟨g0, g1, g2, g3⟩ := unhide HCC W1 (unhide B1)
          go_wp2_with fail
          refine (unhide HCH _).mono ?_
          rintro e W2 ⟨rfl, hb⟩
          have B2 : Hid (Below X1.heap.size X1 W2) := hide (btr (unhide B1) hb)
          clear hb g0 g1 g2 g3
          obtain ⟨g0, g1, g2, g3⟩ := unhide HCC W2 (unhide B2)
          obtain ⟨n0, n1, n2, n3, n4⟩ := unhide HCP W2 (unhide B2)
          go_wp2_with fail
          refine (unhide HPA _).mono ?_
          rintro e W3 ⟨rfl, hb⟩
          have hb' : Below X1.heap.size X1 W3 := btr (unhide B2) (btr (bal (brf _) _) hb)
          have B3 := hide hb'
          have HCS : Hid (∀ V, Below W3.heap.size W3 V → V.cell? ⟨W2.heap.size, 0, none⟩ = some (.slice s0 l0 c0) ∧ V.cell? ⟨W2.heap.size, 1, none⟩ = some (.slice s1 l1 c1) ∧ V.cell? ⟨W2.heap.size, 2, none⟩ = some (.slice s2 L c2) ∧ V.cell? ⟨W2.heap.size, 3, none⟩ = some (.slice s3 l3 c3) ∧ V.cell? ⟨W2.heap.size, 4, none⟩ = some (.slice s4 l4 c4) ∧ V.cell? ⟨W2.heap.size, 5, none⟩ = some (.int .i64 x0) ∧ V.cell? ⟨W2.heap.size, 6, none⟩ = some (.int .i64 x1) ∧ V.cell? ⟨W2.heap.size, 7, none⟩ = some (.int .i64 x2) ∧ V.cell? ⟨W2.heap.size, 8, none⟩ = some (.int .i64 x3)) := hide (fun V hV => by
            refine ⟨?_, ?_, ?_, ?_, ?_, ?_, ?_, ?_, ?_⟩ <;> exact cell_later (btr hb hV) (by rw [World.cell?_alloc_new]; rfl))
          clear hb hb' g0 g1 g2 g3 n0 n1 n2 n3 n4
          obtain ⟨n0, n1, n2, n3, n4⟩ := unhide HCP W3 (unhide B3)
          go_wp2_with fail
          clear n0 n1 n2 n3 n4
          go_loopw [8, 9, 34] (fun _ _ i wr => ∃ k : Nat, k ≤ L ∧ i = .int .i64 k ∧ upB (inAt T xs) k = true ∧ Below W3.heap.size W3 wr) (fun _ _ i wr => L - (intOf i).toNat)
          case atStart => exact ⟨0, Nat.zero_le _, rfl, rfl, brf _⟩
          case round =>
            obtain ⟨k, hk, rfl, hall, hbw⟩ := hrel
            have HA := hide hall
            have HB0 := hide (btr (unhide HB1) (btr (unhide B3) hbw))
            have HBW := hide hbw
            clear hall
            by_cases hlt : k < L
            · have hkx : k < xs.length := by have := unhide HLL; omega
              have hx : xs[k]? = some xs[k] := List.getElem?_eq_getElem hkx
              generalize xs[k] = x at hx
              have HAT := hide (inAt_at (n := T) hx)
              have HF : Hid (inAt T xs k = false → RR = false) := hide (fun h => by rw [unhide HR3]; exact upB_false hkx h)
              have HST := hide (upB_succ (inAt T xs) k)
              obtain ⟨b, o, rfl, k0, hcc⟩ : ∃ b o, av = some ⟨b, o, none⟩ ∧ wr.cell? ⟨b, o + k, none⟩ = some (.int .i64 x) ∧ xs.length ≤ cv := by
                rcases (unhide HOP).open with ⟨e, _⟩ | ⟨b, o, c', hv, hcc, _, _, hcs⟩
                · rw [e] at hx; simp at hx
                · injection hv with e1 e2 e3
                  obtain ⟨u, hul, hat, hus⟩ := hcs k x hx
                  subst hus
                  refine ⟨b, o, e1, ?_, by omega⟩
                  have := cell_later (unhide HB0) (hat.get (j := 0) rfl)
                  simpa using this
              have HCX := hide (fun (V : World) (hV : Below w.heap.size w V) => unhide HCO k x V hV hk b o cv rfl)
              have i1 : (0 : Int) ≤ (k : Int) := by omega
              have i2 : (k : Int) < (L : Int) := by omega
              have i3 : (k : Int) ≤ (cv : Int) := by have := unhide HLL; omega
              obtain ⟨g0, g1, g2, g3, g4, g5, g6, g7, g8⟩ := unhide HCS wr (unhide HBW)
              clear hx HOP HCO hkx hcc hbw
              generalize inAt T xs k = IA at *
              generalize hp1 : plB x T = p1 at *
              have HP1 : Hid ((decide (0 ≤ x) && decide (x < (T : Int))) = p1) := hide hp1
              clear hp1
              generalize hasB (xs.take k) x = p3 at *
              cases p1
              · go_wp2_with fail
                refine (unhide HTI _).mono ?_
                rintro e W4 ⟨rfl, hb⟩
                have B4 := hide (btr (unhide HB0) hb)
                clear hb g0 g1 g2 g3 g4 g5 g6 g7 g8
                go_wp2_with fail
                refine (iPlace x T _).mono ?_
                rintro e W5 ⟨rfl, h⟩
                have h' := h.symm
                subst h'
                rw [unhide HP1]
                go_wp2_with fail
                exact bodyPost_ret (v := .bool false) (by simp [results, Try.results9, go_sem]) rfl ⟨by rw [unhide HF (by rw [unhide HAT]; rfl)], unhide B4⟩
              · cases p3
                · go_wp2_with fail
                  refine (unhide HTI _).mono ?_
                  rintro e W4 ⟨rfl, hb⟩
                  have B4 := hide (btr (unhide HB0) hb)
                  have B5 := hide (btr (unhide HBW) hb)
                  clear hb g0 g1 g2 g3 g4 g5 g6 g7 g8
                  go_wp2_with fail
                  refine (iPlace x T _).mono ?_
                  rintro e W5 ⟨rfl, h⟩
                  have h' := h.symm
                  subst h'
                  rw [unhide HP1]
                  go_wp2_with fail
                  refine (unhide HCX _ (unhide B4)).mono ?_
                  rintro e W5 ⟨rfl, h⟩
                  have h' := h.symm
                  subst h'
                  go_wp2_with fail
                  go_roundw
                  case rel => exact ⟨k + 1, by omega, by go_num, by rw [unhide HST, unhide HA, unhide HAT]; rfl, unhide B5⟩
                  case measure => simp [intOf]; omega
                · go_wp2_with fail
                  refine (unhide HTI _).mono ?_
                  rintro e W4 ⟨rfl, hb⟩
                  have B4 := hide (btr (unhide HB0) hb)
                  clear hb g0 g1 g2 g3 g4 g5 g6 g7 g8
                  go_wp2_with fail
                  refine (iPlace x T _).mono ?_
                  rintro e W5 ⟨rfl, h⟩
                  have h' := h.symm
                  subst h'
                  rw [unhide HP1]
                  go_wp2_with fail
                  refine (unhide HCX _ (unhide B4)).mono ?_
                  rintro e W5 ⟨rfl, h⟩
                  have h' := h.symm
                  subst h'
                  go_wp2_with fail
                  exact bodyPost_ret (v := .bool false) (by simp [results, Try.results9, go_sem]) rfl ⟨by rw [unhide HF (by rw [unhide HAT]; rfl)], unhide B4⟩
            · obtain rfl : k = L := by omega
              clear HOP HCO hbw
              go_wp2
              exact bodyPost_ret (v := .bool true) (by simp [results, Try.results9, go_sem]) rfl ⟨by rw [unhide HR3, show insB T xs = upB (inAt T xs) xs.length from rfl, unhide HLL, unhide HA], unhide HB0⟩
        · have hne : ((L : Int) != (l2 : Int)) = true := by rw [bne_iff_ne]; omega
          have HR3 : Hid (RR = false) := hide (by rw [unhide HR2, decide_eq_false hn]; rfl)
          clear HR2 hn
          go_enter Try.func9, Try.ntmps9
          go_wp2_with fail
          rw [← unhide HX1]
          refine (unhide HPK2 _ (unhide HB1)).mono ?_
          rintro e W1 ⟨rfl, hb⟩
          have B1 : Hid (Below X1.heap.size X1 W1) := hide hb
          clear hb
          obtain ⟨g0, g1, g2, g3⟩ := unhide HCC W1 (unhide B1)
          go_wp2_with fail
          refine (unhide HCH _).mono ?_
          rintro e W2 ⟨rfl, hb⟩
          have B2 : Hid (Below X1.heap.size X1 W2) := hide (btr (unhide B1) hb)
          clear hb g0 g1 g2 g3
          obtain ⟨g0, g1, g2, g3⟩ := unhide HCC W2 (unhide B2)
          obtain ⟨n0, n1, n2, n3, n4⟩ := unhide HCP W2 (unhide B2)
          go_wp2_with fail
          refine (unhide HPA _).mono ?_
          rintro e W3 ⟨rfl, hb⟩
          have B3 : Hid (Below X1.heap.size X1 W3) := hide (btr (unhide B2) (btr (bal (brf _) _) hb))
          clear hb g0 g1 g2 g3 n0 n1 n2 n3 n4
          obtain ⟨n0, n1, n2, n3, n4⟩ := unhide HCP W3 (unhide B3)
          go_wp2_with fail
          exact bodyPost_ret (v := .bool false) (by simp [results, Try.results9, go_sem]) rfl ⟨by rw [unhide HR3], btr (unhide HB1) (unhide B3)⟩
end Go.Proofs.Ytdmmbhemmbgcpad
