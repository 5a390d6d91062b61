/- The specification's search: it goes down. -/
import Derived.Test.YtonfbnbkhpabbaaS2
import Derived.BigQuiet
import Derived.Test.YtonfbnbkhpabbaaS1
namespace Go.Proofs.Ytonfbnbkhpabbaa
open Go Go.RowKit Gs
set_option linter.unusedVariables false
set_option linter.unusedSimpArgs false
set_option maxRecDepth 100000
theorem some_own {W : World} {B m : Nat} {a : Option Addr} {c : Nat} {xs : List Value} {z : Value} (h : W.ownsRow B 3 1 (.slice a (m + 1) c) (m + 1) (xs ++ [z])) : ∃ g, a = some ⟨g, 0, none⟩ := by
  rcases h.2 with ⟨hv, hn⟩ | ⟨g, cap, cur, hv, _⟩
  · omega
  · injection hv with e1 _ _
    exact ⟨g, e1⟩
theorem ints_one (D : List Int) : ∀ u ∈ iL D, u.oneCell' = true := by
  intro u hu
  unfold iL at hu
  obtain ⟨z, _, rfl⟩ := List.mem_map.1 hu
  rfl
set_option maxHeartbeats 16000000 in
theorem sDown {B n : Nat} {w W : World} {Cl T0 : List (List Int)} {D : List Int} {k most xb : Nat} {cv dv tv : Value} (hB : B = w.heap.size) (hn : n ≤ 2048) (hm : most ≤ 4000) (hlD : D.length ≤ 4000) (hlT : T0.length ≤ 4000) (hr : RS 1 RIntS w 0 Cl cv) (hC : ∀ c ∈ Cl, Lits n c) (hD : Lits n D) (hlo : B ≤ xb) (hx : XH n cv most xb k (.slice none 0 0) tv false W) (ht : TR B W tv T0) (hd : IR B W dv D) (hbl : Below B w W) (hk : k < most) (hncon : ¬ Con Cl D) {v0 : Nat} (hlst : Lst n Cl D v0) (hlD2 : D.length ≤ k) (hlT2 : T0.length ≤ k) (hdg : ∃ g c, dv = .slice (some ⟨g, 0, none⟩) D.length c)
    (IH : ∀ (k' : Nat) (D' : List Int) (g' c' : Nat) (T' : List (List Int)) (tv' : Value) (W' : World), k < k' → k' ≤ most → Lits n D' → D'.length ≤ k' → T'.length ≤ k' → XH n cv most xb k' (.slice none 0 0) tv' false W' → TR B W' tv' T' → IR B W' (.slice (some ⟨g', 0, none⟩) D'.length c') D' → Below B w W' → Calls Try.prog 15 #[.pointer (some ⟨xb, 0, none⟩), .slice (some ⟨g', 0, none⟩) D'.length c'] W' (SQ B n w cv most xb Cl D' k' T' W')) : Calls Try.prog 15 #[.pointer (some ⟨xb, 0, none⟩), dv] W (SQ B n w cv most xb Cl D k T0 W) := by
  obtain ⟨dg, dc0, hdg⟩ := hdg
  subst hdg
  obtain ⟨dc, hdc⟩ : ∃ dc, dc = dc0 := ⟨_, rfl⟩
  subst hdc
  obtain ⟨da, hda⟩ : ∃ da : Option Addr, da = some ⟨dg, 0, none⟩ := ⟨_, rfl⟩
  rw [← hda] at hd ⊢
  have HDA := hide hda
  clear hda
  have HIH := hide IH
  clear IH
  have HCL := hide hC
  have HD := hide hD
  have c3 := hx.c3
  have c2 := hx.c2
  have hkm : ((k : Int) == (most : Int)) = false := by simp; omega
  have kk : (k : Int) < 4000 := by omega
  have HX := hide hx
  have HT := hide ht
  have HDV := hide hd
  have HBL := hide hbl
  have HR := hide hr
  have HLO := hide hlo
  have HB := hide hB
  clear hr hC hD hx ht hd hbl hB hlo
  go_enter Try.func15, Try.ntmps15
  go_wp2
  go_quiet (fail)
  obtain ⟨V, hV⟩ : ∃ V, V = W.drewN nq := ⟨_, rfl⟩
  have HXV : Hid (XH n cv most xb k (.slice none 0 0) tv false V) := hide (by rw [hV]; exact unhide HX)
  have HTV : Hid (TR B V tv T0) := hide (by rw [hV]; exact unhide HT)
  have HDVV : Hid (IR B V (.slice da D.length dc) D) := hide (by rw [hV]; exact unhide HDV)
  have HBV : Hid (Below B w V) := hide (by rw [hV]; exact below_drewN (unhide HBL) _)
  have HKV : Hid (KI W V ∧ W.heap.size ≤ V.heap.size) := hide (by rw [hV]; exact ⟨fun _ _ h => h, Nat.le_refl _⟩)
  rw [← hV]
  clear hV HX HT HDV HBL c3 c2
  have c3 := (unhide HXV).c3
  have f3 := (unhide HXV).frz 3
  obtain ⟨W1, hW1⟩ : ∃ W1, W1 = V.setCell ⟨xb, 3, none⟩ (.int .i64 ((k : Int) + 1)) := ⟨_, rfl⟩
  have HX1 : Hid (XH n cv most xb (k + 1) (.slice none 0 0) tv false W1) := hide (by rw [hW1]; exact (unhide HXV).work)
  have HT1 : Hid (TR B W1 tv T0) := hide (by rw [hW1]; exact (unhide HTV).set (unhide HXV) (by decide) (by decide))
  have HK1 : Hid (KI W W1 ∧ W.heap.size ≤ W1.heap.size) := hide (by rw [hW1]; exact ⟨(unhide HKV).1.trans (KI.set (unhide HXV) (by decide)), by simpa using (unhide HKV).2⟩)
  have HD1 : Hid (IR B W1 (.slice da D.length dc) D) := hide (by rw [hW1]; exact (unhide HDVV).keep (KI.set (unhide HXV) (by decide)))
  have HB1 : Hid (Below B w W1) := hide (by rw [hW1]; exact (unhide HBV).setCell (p := ⟨xb, 3, none⟩) (unhide HLO) _)
  have HR1 : Hid (RS 1 RIntS W1 0 Cl cv) := hide (by have h := unhide HB1; rw [unhide HB] at h; exact (unhide HR).later RIntS.keeps h)
  have c0 : W1.cell? ⟨xb, 0, none⟩ = some (.int .i64 (n : Int)) := (unhide HX1).c0
  rw [hW1] at c0
  have HNEW : Hid (Calls Try.prog 27 #[.int .i64 (n : Int)] (V.setCell ⟨xb, 3, none⟩ (.int .i64 ((k : Int) + 1))) fun e w' => (∃ b vb, e = .returned (.pointer (some ⟨b, 0, none⟩)) ∧ SM W1.heap.size n b vb w' (zeros (n + 1)) false) ∧ Below W1.heap.size W1 w') := hide (by rw [← hW1]; exact sNew n W1 hn)
  clear HTV HDVV HBV HKV hW1 HXV
  go_wp2_with fail
  refine (unhide HNEW).mono ?_
  rintro e W4 ⟨⟨b, vb, rfl, hsm⟩, hb4⟩
  have HSM := hide hsm
  have HB4 := hide hb4
  clear hsm hb4 HNEW c0 c3 f3
  have HDC : Hid (∀ (j : Nat) z, D[j]? = some z → ∃ yb, da = some ⟨yb, 0, none⟩ ∧ W1.cell? ⟨yb, j, none⟩ = some (.int .i64 z)) := hide (unhide HD1).cells
  go_wp2
  go_loopw [6] (fun i wr => ∃ (j : Nat) (vs : List Int) (bd : Bool), j ≤ D.length ∧ i = .int .i64 (j : Int) ∧ SM W1.heap.size n b vb wr vs bd ∧ Vals n vs ∧ Snd Cl D n vs ∧ (bd = true → Con Cl D) ∧ (bd = false → ∀ l ∈ D.take j, val vs l = 1) ∧ Below W1.heap.size W1 wr) (fun i wr => D.length - (intOf i).toNat)
  case atStart => exact ⟨0, zeros (n + 1), false, Nat.zero_le _, rfl, unhide HSM, zeros_vals n, zeros_snd _ _ n, (fun h => by cases h), (fun _ l hl => by simp at hl), unhide HB4⟩
  case round =>
    obtain ⟨j, vs, bd, hj, rfl, hsm, hv, hs, hcon1, htrue, hbl⟩ := hrel
    clear HSM HB4
    by_cases hjl : j < D.length
    · have hz : D[j]? = some D[j] := List.getElem?_eq_getElem hjl
      generalize D[j] = z at hz
      have hzl := unhide HD z (List.mem_of_getElem? hz)
      obtain ⟨yb, hyb, z0'⟩ := unhide HDC j z hz
      subst hyb
      have z0 := cell_later hbl z0'
      have htk : D.take (j + 1) = D.take j ++ [z] := by rw [List.take_add_one, hz]; rfl
      have hmem : z ∈ D := List.mem_of_getElem? hz
      have HA := hide (sAssume hsm hbl hv hzl hn)
      have j1 : (j : Int) < (D.length : Int) := by omega
      have j2 : (0 : Int) ≤ (j : Int) := by omega
      have HV := hide hv
      have HS := hide hs
      have HCON := hide hcon1
      have HTR := hide htrue
      have HZL := hide hzl
      have HTK := hide htk
      have HME := hide hmem
      clear hsm hv hs hcon1 htrue hbl hz hzl z0' htk hmem HDC
      go_wp2_with fail
      refine (unhide HA).mono ?_
      rintro e W5 ⟨rfl, hor, hbl⟩
      have hnew : ∃ (vs' : List Int) (bd' : Bool), SM W1.heap.size n b vb W5 vs' bd' ∧ Vals n vs' ∧ Snd Cl D n vs' ∧ (bd' = true → Con Cl D) ∧ (bd' = false → ∀ l ∈ D.take (j + 1), val vs' l = 1) := by
        rcases hor with ⟨h1, h2⟩ | ⟨h1, h2⟩
        · exact ⟨vs, true, h2, unhide HV, unhide HS, fun _ => (unhide HS).clash (unhide HZL) (.base (unhide HME)) h1, (fun h => by cases h)⟩
        · refine ⟨put vs z, bd, h2, put_vals (unhide HV) _, (unhide HS).put (unhide HV) (unhide HZL) (.base (unhide HME)), unhide HCON, fun hbf l hl => ?_⟩
          rw [unhide HTK] at hl
          rcases List.mem_append.1 hl with h3 | h3
          · exact put_true (unhide HV) (unhide HZL) h1 (unhide HTR hbf l h3)
          · simp at h3; subst h3; exact put_same (unhide HV) (unhide HZL)
      obtain ⟨vs', bd', n1, n2, n3, n4, n5⟩ := hnew
      have HN1 := hide n1
      have HN2 := hide n2
      have HN3 := hide n3
      have HN4 := hide n4
      have HN5 := hide n5
      have HBLL := hide hbl
      clear n1 n2 n3 n4 n5 hbl hor HA
      go_wp2
      exact ⟨⟨j + 1, vs', bd', by omega, by go_num, unhide HN1, unhide HN2, unhide HN3, unhide HN4, unhide HN5, unhide HBLL⟩, by simp [intOf]; omega⟩
    · have hje : j = D.length := by omega
      have j1 : ¬ (j : Int) < (D.length : Int) := by omega
      rw [hje, List.take_of_length_le (Nat.le_refl _)] at htrue
      have HFO := hide (sFollow Cl D cv hn (unhide HR1) rfl (unhide HCL) ⟨hsm, hv, hs, Ext.refl vs, hcon1, hbl, fun h => h⟩)
      have HTRU := hide htrue
      have c1 := ((unhide HX1).later hbl).c1
      clear hsm hv hs hcon1 htrue HDC
      obtain ⟨ca, cc, hcv⟩ := (unhide HR1).slice
      rw [hcv] at c1 HFO
      go_wp2_with fail
      refine (unhide HFO).mono ?_
      rintro e W5 ⟨rfl, vs', bad', hfi, hshut⟩
      rw [← hcv] at *
      clear HFO
      cases bad' with
      | true => exact absurd (hfi.con rfl) hncon
      | false =>
        have q1 := hfi.sm.c1
        have hbd : bd = false := by
          cases bd with
          | false => rfl
          | true => exact absurd (hfi.kp rfl) (by decide)
        have hbW := hfi.bl
        have HAv : ∀ l ∈ D, val vs' l = 1 := fun l hl => by
          have h1 := unhide HTRU hbd l hl
          rw [hfi.x _ (by rw [h1]; decide), h1]
        have HX5 : Hid (XH n cv most xb (k + 1) (.slice none 0 0) tv false W5) := hide ((unhide HX1).later hbW)
        have HT5 : Hid (TR B W5 tv T0) := hide ((unhide HT1).later hbW)
        have HD5 : Hid (IR B W5 (.slice da D.length dc) D) := hide ((unhide HD1).keep (KI.below hbW))
        have HB5 : Hid (Below B w W5) := hide ((unhide HB1).trans (hbW.mono (by rw [unhide HB]; exact (unhide HB1).size)))
        have HK5 : Hid (KI W W5 ∧ W.heap.size ≤ W5.heap.size) := hide ⟨(unhide HK1).1.trans (KI.below hbW), by have := (unhide HK1).2; have := hbW.size; omega⟩
        have HS0 : Hid (W5.cell? ⟨b, 0, none⟩ = some (.slice (some ⟨vb, 0, none⟩) (n + 1) (n + 1))) := hide hfi.sm.c0
        have HSV : Hid (∀ u, u ≤ n → W5.cell? ⟨vb, u, none⟩ = some (.int .i64 (vs'.getD u 0))) := hide (fun u hu => iC_cell hfi.sm.vals (getD_some (i := u) (by rw [hfi.v.1]; omega)))
        have HNX : Hid (b ≠ xb ∧ vb ≠ xb ∧ b < W5.heap.size ∧ vb < W5.heap.size) := hide (by
          have h1 := hfi.sm.hb
          have h2 := hfi.sm.hv
          have h3 := heap_lt (unhide HX1)
          exact ⟨by omega, by omega, World.block_lt_of_cell? _ _ hfi.sm.c0, heap_lt hfi.sm.vals⟩)
        obtain ⟨l1, l2, l3, l4⟩ := hlst
        have HVN : Hid (∀ u, 1 ≤ u → u < v0 → vs'.getD u 0 ≠ 0) := hide (fun u h1 h2 => not_fre (hshut rfl) (unhide HCL) HAv h1 (l4 u h1 h2))
        have HV0 : Hid (vs'.getD v0 0 = 0) := hide (is_fre hfi.s l1 l2 hfi.v l3)
        have HDN : Hid (∀ R, Vs n most Cl true (D ++ [-(v0 : Int)]) (k + 1) T0 R → Vs n most Cl true D k T0 R) := hide (fun R h => .down (by omega) hncon ⟨l1, l2, l3, l4⟩ h)
        clear hfi hshut HX1 HT1 HD1 HB1 HK1 hbW HTRU HR1 c1 hcv hncon HAv l3 l4
        have hda := unhide HDA
        subst hda
        clear HDA
        obtain ⟨i0, hi, hz0, hz1, hz2⟩ := info_parts info3
        have HI := hide (And.intro hi (And.intro hz0 (And.intro hz1 hz2)))
        clear hi hz0 hz1 hz2
        go_wp2
        go_loopw [7] (fun i wr => ∃ v : Nat, 1 ≤ v ∧ v ≤ v0 ∧ i = .int .i64 (v : Int) ∧ wr = W5) (fun i wr => n + 1 - (intOf i).toNat)
        case atStart => exact ⟨1, Nat.le_refl _, l1, rfl, rfl⟩
        case round =>
          obtain ⟨v, hv1, hv2, rfl, hwr⟩ := hrel
          have hwr' := hwr.symm
          subst hwr'
          have y0 := (unhide HX5).c0
          have y1 := unhide HS0
          have y2 := unhide HSV v (by omega)
          have v1 : (v : Int) ≤ (n : Int) := by omega
          have v2 : (0 : Int) ≤ (v : Int) := by omega
          have v3 : (v : Int) < ((n + 1 : Nat) : Int) := by omega
          by_cases hvn : v < v0
          · have y3 : (vs'.getD v 0 != 0) = true := by simpa using unhide HVN v hv1 hvn
            generalize vs'.getD v 0 = x at *
            go_wp2
            exact ⟨⟨v + 1, by omega, by omega, by go_num, trivial⟩, by simp [intOf]; omega⟩
          · obtain rfl : v = v0 := by omega
            rw [unhide HV0] at y2
            have v4 : ¬ (n : Int) < (v : Int) := by omega
            have HLV : Hid (Lits n (D ++ [-(v : Int)]) ∧ Lits n (D ++ [(v : Int)])) := hide ⟨fun l hl => (by
              rcases List.mem_append.1 hl with h | h
              · exact unhide HD l h
              · simp at h; subst h; exact ⟨by omega, by omega, by omega⟩), fun l hl => (by
              rcases List.mem_append.1 hl with h | h
              · exact unhide HD l h
              · simp at h; subst h; exact ⟨by omega, by omega, by omega⟩)⟩
            have HDDa := HD5
            clear HVN HSV HS0 HV0
            have HOWa1 : Hid (World.ownsRow (W5.alloc (.cells #[] 3)) W5.heap.size 3 1 (.slice (some ⟨W5.heap.size, 0, none⟩) 0 0) 0 []) := hide (IR.new W5 W5 _ (Nat.le_refl _))
            have HSRa : Hid (∀ j u, (iL D)[j]? = some u → (W5.alloc (.cells #[] 3)).cell? ((⟨dg, 0, none⟩ : Addr).add j) = some u) := hide (fun j u hu => World.ownsRow.cells ((unhide HDDa).keep (KI.below (bal (brf W5) (.cells #[] 3)))) (g := dg) rfl j u hu)
            have HSTa1 : Hid (∀ v1 w3, World.ownsRow w3 W5.heap.size 3 1 v1 (0 + D.length) ([] ++ iL D) → World.grownBy (W5.alloc (.cells #[] 3)) w3 (some W5.heap.size) → World.ownsRow (w3.alloc (.cells #[.int .i64 (-(v : Int))] 3)) W5.heap.size 3 1 v1 D.length (iL D) ∧ Below W5.heap.size W5 (w3.alloc (.cells #[.int .i64 (-(v : Int))] 3)) ∧ Below W5.heap.size W5 w3) := hide (fun v1 w3 h1 h2 => by
              rw [List.nil_append, Nat.zero_add] at h1
              have hb3 : Below W5.heap.size W5 w3 := (bal (brf W5) (.cells #[] 3)).grown h2 (by simp) (fun j hj => by injection hj with e; omega)
              exact ⟨ownsRow_keep h1 (fun g o _ hg => heap_al hg), bal hb3 _, hb3⟩)
            have HSTa2 : Hid (∀ v1 w3 v2 w4, World.ownsRow (w3.alloc (.cells #[.int .i64 (-(v : Int))] 3)) W5.heap.size 3 1 v1 D.length (iL D) ∧ Below W5.heap.size W5 (w3.alloc (.cells #[.int .i64 (-(v : Int))] 3)) ∧ Below W5.heap.size W5 w3 → World.ownsRow w4 W5.heap.size 3 1 v2 (D.length + 1) (iL D ++ [.int .i64 (-(v : Int))]) → World.grownBy (w3.alloc (.cells #[.int .i64 (-(v : Int))] 3)) w4 v1.ownBlock → IR W5.heap.size w4 v2 (D ++ [-(v : Int)]) ∧ Below W5.heap.size W5 w4) := hide (fun v1 w3 v2 w4 h0 h1 h2 => by
              refine ⟨?_, h0.2.1.grown h2 h0.2.1.size (fun j hj => (World.ownsRow.lt h0.1 j hj).1)⟩
              unfold IR
              rw [List.length_append]
              unfold iL at *
              rw [List.map_append]; exact h1)
            go_wp2_with (first
              | (at_builtin; refine wpAppAt rfl _ _ 24 rfl W5.heap.size 3 i0 (.int .i64 0) 1 8 Try.underlying24 (unhide HI).1 (unhide HI).2.1 (unhide HI).2.2.1 (unhide HI).2.2.2 rfl (by decide) _ _ _ rfl (unhide HPa1).1 ⟨w3a.heap.size, 0, none⟩ 1 1 [.int .i64 (-(v : Int))] rfl rfl (at_int _ _ _ rfl) (one_int _) (by unfold maxLen; omega) (by omega) (unhide HPa1).2.1.size ?_; intro v2a w4a k1' k2' k3'; have HPa2 := hide (unhide HSTa2 _ w3a v2a w4a (unhide HPa1) k1' k2'); obtain ⟨saa, sca, hsha⟩ := own_shape k1'; subst hsha; obtain ⟨sga, rfl⟩ := some_own k1'; clear k1' k2' k3')
              | (at_builtin; refine wpAppAt rfl _ _ 24 rfl W5.heap.size 3 i0 (.int .i64 0) 1 8 Try.underlying24 (unhide HI).1 (unhide HI).2.1 (unhide HI).2.2.1 (unhide HI).2.2.2 rfl (by decide) _ _ _ rfl (unhide HOWa1) ⟨dg, 0, none⟩ D.length dc (iL D) rfl (by simp [iL]) (unhide HSRa) (ints_one D) (by unfold maxLen; omega) (by omega) (by simp) ?_; intro v1a w3a k1' k2' k3'; have HPa1 := hide (unhide HSTa1 v1a w3a k1' k2'); obtain ⟨raa, rca, hsha⟩ := own_shape k1'; rw [Nat.zero_add] at hsha; subst hsha; clear k1' k2' k3')
              | fail)
            have HPB : Hid (B ≤ W5.heap.size) := hide (by have := (unhide HB5).size; rw [unhide HB]; exact this)
            have HCa : Hid (Calls Try.prog 15 #[.pointer (some ⟨xb, 0, none⟩), .slice (some ⟨sga, 0, none⟩) (D.length + 1) sca] w4a (SQ B n w cv most xb Cl (D ++ [-(v : Int)]) (k + 1) T0 w4a)) := hide (by
              have h := unhide HIH (k + 1) (D ++ [-(v : Int)]) sga sca T0 tv w4a (by omega) (by omega) (unhide HLV).1 (by simp; omega) (by omega) ((unhide HX5).later (unhide HPa2).2) ((unhide HT5).later (unhide HPa2).2)
              rw [List.length_append] at h
              exact h ((unhide HPa2).1.low (unhide HPB)) ((unhide HB5).trans ((unhide HPa2).2.mono (unhide HPB))))
            refine (unhide HCa).mono ?_
            rintro e W6 ⟨hB6, hK6, hS6, hor⟩
            have HK6 : Hid (KI W W6 ∧ W.heap.size ≤ W6.heap.size) := hide ⟨(unhide HK5).1.trans ((KI.below (unhide HPa2).2).trans hK6), by have h1 := (unhide HK5).2; have h2 := (unhide HPa2).2.size; omega⟩
            have HB6 := hide hB6
            have HDDb : Hid (IR B W6 (.slice (some ⟨dg, 0, none⟩) D.length dc) D) := hide ((unhide HD5).keep ((KI.below (unhide HPa2).2).trans hK6))
            clear hB6 hK6 hS6 HCa
            rcases hor with ⟨rfl, ⟨k1, mv1, tv1, hx1⟩, hvs⟩ | ⟨rfl, k1, m1, mv1, tv1, hx1, hm1, hvs⟩ | ⟨rfl, k1, tv1, T1, hx1, ht1, hk1, hk2, hl1, hf1⟩
            · have o6 := hx1.c6
              have HE : Hid (SQ B n w cv most xb Cl D k T0 W (.returned (.bool false)) W6) := hide ⟨unhide HB6, (unhide HK6).1, (unhide HK6).2, .inl ⟨rfl, ⟨_, _, _, hx1⟩, unhide HDN _ hvs⟩⟩
              clear hx1 hvs
              go_wp2
              exact bodyPost_ret (v := .bool false) (by simp [results, Try.results15, go_sem]) rfl (unhide HE)
            · have o6 := hx1.c6
              have HE : Hid (SQ B n w cv most xb Cl D k T0 W (.returned (.bool true)) W6) := hide ⟨unhide HB6, (unhide HK6).1, (unhide HK6).2, .inr (.inl ⟨rfl, _, _, _, _, hx1, hm1, unhide HDN _ hvs⟩)⟩
              clear hx1 hvs hm1
              go_wp2
              exact bodyPost_ret (v := .bool true) (by simp [results, Try.results15, go_sem]) rfl (unhide HE)
            · have o6 := hx1.c6
              have HX6 := hide hx1
              have HT6 := hide ht1
              have HDN2 : Hid (∀ R, Vs n most Cl true (D ++ [(v : Int)]) k1 T1 R → Vs n most Cl true D k T0 R) := hide (fun R h => unhide HDN R (hf1 R (.turn rfl (by omega) (by rw [Int.neg_neg]; exact h))))
              clear hx1 ht1 hf1 HDN HPa2 HPa1 HOWa1 HSRa HSTa1 HSTa2 HX5 HT5 HK5 HB5
              have HOWb1 : Hid (World.ownsRow (W6.alloc (.cells #[] 3)) W6.heap.size 3 1 (.slice (some ⟨W6.heap.size, 0, none⟩) 0 0) 0 []) := hide (IR.new W6 W6 _ (Nat.le_refl _))
              have HSRb : Hid (∀ j u, (iL D)[j]? = some u → (W6.alloc (.cells #[] 3)).cell? ((⟨dg, 0, none⟩ : Addr).add j) = some u) := hide (fun j u hu => World.ownsRow.cells ((unhide HDDb).keep (KI.below (bal (brf W6) (.cells #[] 3)))) (g := dg) rfl j u hu)
              have HSTb1 : Hid (∀ v1 w3, World.ownsRow w3 W6.heap.size 3 1 v1 (0 + D.length) ([] ++ iL D) → World.grownBy (W6.alloc (.cells #[] 3)) w3 (some W6.heap.size) → World.ownsRow (w3.alloc (.cells #[.int .i64 ((v : Int))] 3)) W6.heap.size 3 1 v1 D.length (iL D) ∧ Below W6.heap.size W6 (w3.alloc (.cells #[.int .i64 ((v : Int))] 3)) ∧ Below W6.heap.size W6 w3) := hide (fun v1 w3 h1 h2 => by
                rw [List.nil_append, Nat.zero_add] at h1
                have hb3 : Below W6.heap.size W6 w3 := (bal (brf W6) (.cells #[] 3)).grown h2 (by simp) (fun j hj => by injection hj with e; omega)
                exact ⟨ownsRow_keep h1 (fun g o _ hg => heap_al hg), bal hb3 _, hb3⟩)
              have HSTb2 : Hid (∀ v1 w3 v2 w4, World.ownsRow (w3.alloc (.cells #[.int .i64 ((v : Int))] 3)) W6.heap.size 3 1 v1 D.length (iL D) ∧ Below W6.heap.size W6 (w3.alloc (.cells #[.int .i64 ((v : Int))] 3)) ∧ Below W6.heap.size W6 w3 → World.ownsRow w4 W6.heap.size 3 1 v2 (D.length + 1) (iL D ++ [.int .i64 ((v : Int))]) → World.grownBy (w3.alloc (.cells #[.int .i64 ((v : Int))] 3)) w4 v1.ownBlock → IR W6.heap.size w4 v2 (D ++ [(v : Int)]) ∧ Below W6.heap.size W6 w4) := hide (fun v1 w3 v2 w4 h0 h1 h2 => by
                refine ⟨?_, h0.2.1.grown h2 h0.2.1.size (fun j hj => (World.ownsRow.lt h0.1 j hj).1)⟩
                unfold IR
                rw [List.length_append]
                unfold iL at *
                rw [List.map_append]; exact h1)
              go_wp2_with (first
                | (at_builtin; refine wpAppAt rfl _ _ 24 rfl W6.heap.size 3 i0 (.int .i64 0) 1 8 Try.underlying24 (unhide HI).1 (unhide HI).2.1 (unhide HI).2.2.1 (unhide HI).2.2.2 rfl (by decide) _ _ _ rfl (unhide HPb1).1 ⟨w3b.heap.size, 0, none⟩ 1 1 [.int .i64 ((v : Int))] rfl rfl (at_int _ _ _ rfl) (one_int _) (by unfold maxLen; omega) (by omega) (unhide HPb1).2.1.size ?_; intro v2b w4b k1' k2' k3'; have HPb2 := hide (unhide HSTb2 _ w3b v2b w4b (unhide HPb1) k1' k2'); obtain ⟨sab, scb, hshb⟩ := own_shape k1'; subst hshb; obtain ⟨sgb, rfl⟩ := some_own k1'; clear k1' k2' k3')
                | (at_builtin; refine wpAppAt rfl _ _ 24 rfl W6.heap.size 3 i0 (.int .i64 0) 1 8 Try.underlying24 (unhide HI).1 (unhide HI).2.1 (unhide HI).2.2.1 (unhide HI).2.2.2 rfl (by decide) _ _ _ rfl (unhide HOWb1) ⟨dg, 0, none⟩ D.length dc (iL D) rfl (by simp [iL]) (unhide HSRb) (ints_one D) (by unfold maxLen; omega) (by omega) (by simp) ?_; intro v1b w3b k1' k2' k3'; have HPb1 := hide (unhide HSTb1 v1b w3b k1' k2'); obtain ⟨rab, rcb, hshb⟩ := own_shape k1'; rw [Nat.zero_add] at hshb; subst hshb; clear k1' k2' k3')
                | fail)
              have HPB6 : Hid (B ≤ W6.heap.size) := hide (by have := (unhide HB6).size; rw [unhide HB]; exact this)
              have HCb : Hid (Calls Try.prog 15 #[.pointer (some ⟨xb, 0, none⟩), .slice (some ⟨sgb, 0, none⟩) (D.length + 1) scb] w4b (SQ B n w cv most xb Cl (D ++ [(v : Int)]) k1 T1 w4b)) := hide (by
                have h := unhide HIH k1 (D ++ [(v : Int)]) sgb scb T1 tv1 w4b (by omega) (by omega) (unhide HLV).2 (by simp; omega) (by omega) ((unhide HX6).later (unhide HPb2).2) ((unhide HT6).later (unhide HPb2).2)
                rw [List.length_append] at h
                exact h ((unhide HPb2).1.low (unhide HPB6)) ((unhide HB6).trans ((unhide HPb2).2.mono (unhide HPB6))))
              refine (unhide HCb).mono ?_
              rintro e W7 ⟨hB7, hK7, hS7, hor⟩
              have HKt : Hid (KI W W7 ∧ W.heap.size ≤ W7.heap.size) := hide ⟨(unhide HK6).1.trans ((KI.below (unhide HPb2).2).trans hK7), by have h1 := (unhide HK6).2; have h2 := (unhide HPb2).2.size; omega⟩
              have HBt := hide hB7
              have HDt : Hid (IR B W7 (.slice (some ⟨dg, 0, none⟩) D.length dc) D) := hide ((unhide HDDb).keep ((KI.below (unhide HPb2).2).trans hK7))
              clear hB7 hK7 hS7 HCb
              rcases hor with ⟨rfl, ⟨k2, mv2, tv2, hx2⟩, hvs⟩ | ⟨rfl, k2, m2, mv2, tv2, hx2, hm2, hvs⟩ | ⟨rfl, k2, tv2, T2, hx2, ht2, hk3, hk4, hl2, hf2⟩
              · have o7 := hx2.c6
                have HE : Hid (SQ B n w cv most xb Cl D k T0 W (.returned (.bool false)) W7) := hide ⟨unhide HBt, (unhide HKt).1, (unhide HKt).2, .inl ⟨rfl, ⟨_, _, _, hx2⟩, unhide HDN2 _ hvs⟩⟩
                clear hx2 hvs
                go_wp2
                exact bodyPost_ret (v := .bool false) (by simp [results, Try.results15, go_sem]) rfl (unhide HE)
              · have o7 := hx2.c6
                have HE : Hid (SQ B n w cv most xb Cl D k T0 W (.returned (.bool true)) W7) := hide ⟨unhide HBt, (unhide HKt).1, (unhide HKt).2, .inr (.inl ⟨rfl, _, _, _, _, hx2, hm2, unhide HDN2 _ hvs⟩)⟩
                clear hx2 hvs hm2
                go_wp2
                exact bodyPost_ret (v := .bool true) (by simp [results, Try.results15, go_sem]) rfl (unhide HE)
              · have o7 := hx2.c6
                have HXt := hide hx2
                have HTt := hide ht2
                have HFt : Hid (∀ R, Vs n most Cl false D k2 (T2 ++ [negs D]) R → Vs n most Cl true D k T0 R) := hide (fun R h => unhide HDN2 R (hf2 R (.up rfl (by omega) h)))
                have hkt : k < k2 ∧ k2 ≤ most := by omega
                have hlen : T2.length + 1 + k = T0.length + k2 := by omega
                have hlt2 : T2.length ≤ 4000 := by omega
                clear hx2 ht2 hf2 HDN2 HPb2 HPb1 HOWb1 HSRb HSTb1 HSTb2 HX6 HT6 HK6 HB6 HDDb HD5 HPB HPB6
                have HDt2 : Hid (∀ (j : Nat) z, D[j]? = some z → ∃ yb, (some ⟨dg, 0, none⟩ : Option Addr) = some ⟨yb, 0, none⟩ ∧ W7.cell? ⟨yb, j, none⟩ = some (.int .i64 z)) := hide (unhide HDt).cells
                obtain ⟨N, hN⟩ : ∃ N, N = W7.heap.size := ⟨_, rfl⟩
                have HN := hide hN
                clear hN
                go_wp2
                go_loopw [9, 10] (fun v i wr => ∃ j : Nat, j ≤ D.length ∧ i = .int .i64 (j : Int) ∧ IR W7.heap.size wr v (negs (D.take j)) ∧ Below W7.heap.size W7 wr) (fun v i wr => D.length - (intOf i).toNat)
                case atStart => exact ⟨0, Nat.zero_le _, rfl, IR.new W7 W7 _ (Nat.le_refl _), bal (brf W7) _⟩
                case round =>
                  obtain ⟨j, hj, rfl, hir, hbl⟩ := hrel
                  by_cases hjl : j < D.length
                  · have hz : D[j]? = some D[j] := List.getElem?_eq_getElem hjl
                    generalize D[j] = z at hz
                    have hzl := unhide HD z (List.mem_of_getElem? hz)
                    obtain ⟨yb, hyb, z0'⟩ := unhide HDt2 j z hz
                    cases hyb
                    have z0 := cell_later hbl z0'
                    have HNG := hide (negs_take hz)
                    obtain ⟨a1, a2, a3⟩ := id hzl
                    have zl1 : -2048 ≤ z := by omega
                    have zl2 : z ≤ 2048 := by omega
                    have j1 : (j : Int) < (D.length : Int) := by omega
                    have j2 : (0 : Int) ≤ (j : Int) := by omega
                    obtain ⟨va, vc, rfl⟩ := hir.shape
                    obtain ⟨i0, hi, hz0, hz1, hz2⟩ := info_parts info3
                    have HI := hide (And.intro hi (And.intro hz0 (And.intro hz1 hz2)))
                    obtain ⟨nl, hnl⟩ : ∃ nl, nl = (negs (D.take j)).length := ⟨_, rfl⟩
                    have hnl2 : nl ≤ 4000 := by rw [hnl]; unfold negs; rw [List.length_map, List.length_take]; omega
                    have HOWN : Hid (World.ownsRow (wr.alloc (.cells #[.int .i64 (-z)] 3)) W7.heap.size 3 1 (.slice va nl vc) nl (iL (negs (D.take j)))) := hide (by
                      have h1 := hir.keep (KI.below (bal (brf wr) (.cells #[.int .i64 (-z)] 3)))
                      unfold IR at h1
                      rw [← hnl] at h1; exact h1)
                    have HBW := hide (show Below W7.heap.size W7 (wr.alloc (.cells #[.int .i64 (-z)] 3)) from bal hbl _)
                    have HFIN : Hid (∀ v' w3, World.ownsRow w3 W7.heap.size 3 1 v' (nl + 1) (iL (negs (D.take j)) ++ [.int .i64 (-z)]) → World.grownBy (wr.alloc (.cells #[.int .i64 (-z)] 3)) w3 (Value.slice va nl vc).ownBlock → IR W7.heap.size w3 v' (negs (D.take (j + 1))) ∧ Below W7.heap.size W7 w3) := hide (fun v' w3 h1 h2 => by
                      refine ⟨?_, (unhide HBW).grown h2 (unhide HBW).size (fun j hj => (World.ownsRow.lt (unhide HOWN) j hj).1)⟩
                      unfold IR
                      rw [unhide HNG, List.length_append, ← hnl]
                      unfold iL at *
                      rw [List.map_append]; exact h1)
                    rw [← hnl]
                    clear hir hbl hz hzl z0' hnl hi hz0 hz1 hz2 a1 a2 a3
                    go_wp2_with (first
                      | (at_builtin; refine wpAppAt rfl _ _ 24 rfl W7.heap.size 3 i0 (.int .i64 0) 1 8 Try.underlying24 (unhide HI).1 (unhide HI).2.1 (unhide HI).2.2.1 (unhide HI).2.2.2 rfl (by decide) _ _ _ rfl (unhide HOWN) ⟨wr.heap.size, 0, none⟩ 1 1 [.int .i64 (-z)] rfl rfl (at_int _ _ _ rfl) (one_int _) (by unfold maxLen; omega) (by omega) (unhide HBW).size ?_; intro v' w3 k1' k2' k3'; have HFN := hide (unhide HFIN _ w3 k1' k2'); clear k1' k2' k3')
                      | go_in)
                    exact ⟨⟨j + 1, by omega, by go_num, (unhide HFN).1, (unhide HFN).2⟩, by simp [intOf]; omega⟩
                  · obtain rfl : j = D.length := by omega
                    rw [List.take_of_length_le (Nat.le_refl _)] at hir
                    have j1 : ¬ (D.length : Int) < (D.length : Int) := by omega
                    have hxr := (unhide HXt).later hbl
                    have c5 := hxr.c5
                    have htr : TR B wr tv2 T2 := (unhide HTt).later hbl
                    obtain ⟨va, vc, rfl⟩ := hir.shape
                    obtain ⟨ta, tc, htv⟩ := htr.shape
                    obtain ⟨vals, hown, hvals⟩ := htr
                    obtain ⟨i0, hi, hz0, hz1, hz2⟩ := info_parts info24
                    have HI := hide (And.intro hi (And.intro hz0 (And.intro hz1 hz2)))
                    have hbB : B ≤ W7.heap.size := by have := (unhide HBt).size; rw [unhide HB]; exact this
                    have HBR : Hid (Below B w wr) := hide ((unhide HBt).trans (hbl.mono hbB))
                    have c5' := cell_later (bal (brf wr) (.cells #[(Value.slice va (negs D).length vc)] 24)) c5
                    have f5' : (wr.alloc (.cells #[(Value.slice va (negs D).length vc)] 24)).frozen? ⟨xb, 5, none⟩ = false := (hxr.later (bal (brf wr) _)).frz 5
                    have HOWN : Hid (World.ownsRow (wr.alloc (.cells #[(Value.slice va (negs D).length vc)] 24)) B 24 1 tv2 T2.length vals) := hide (ownsRow_keep hown (fun g o _ hg => heap_al hg))
                    have HBW := hide (show B ≤ (wr.alloc (.cells #[(Value.slice va (negs D).length vc)] 24)).heap.size by have := (unhide HBR).size; rw [World.size_alloc]; rw [← unhide HB] at this; omega)
                    have HFIN : Hid (∀ v' w3, World.ownsRow w3 B 24 1 v' (T2.length + 1) (vals ++ [(Value.slice va (negs D).length vc)]) → World.grownBy (wr.alloc (.cells #[(Value.slice va (negs D).length vc)] 24)) w3 tv2.ownBlock → SQ B n w cv most xb Cl D k T0 W (.returned (.bool false)) (w3.setCell ⟨xb, 5, none⟩ v') ∧ (∃ y, w3.cell? ⟨xb, 5, none⟩ = some y) ∧ w3.frozen? ⟨xb, 5, none⟩ = false) := hide (fun v' w3 h1 h2 => by
                      have x1 : XH n cv most xb k2 (.slice none 0 0) tv2 false (wr.alloc (.cells #[(Value.slice va (negs D).length vc)] 24)) := hxr.later (bal (brf wr) _)
                      have x3 : XH n cv most xb k2 (.slice none 0 0) tv2 false w3 := x1.grown (unhide HOWN) (by decide) h2
                      have ki0 : KI wr (wr.alloc (.cells #[(Value.slice va (negs D).length vc)] 24)) := KI.below (bal (brf wr) _)
                      have ki1 : KI (wr.alloc (.cells #[(Value.slice va (negs D).length vc)] 24)) w3 := KI.grown (unhide HOWN) (by decide) h2
                      have ki2 : KI w3 (w3.setCell ⟨xb, 5, none⟩ v') := KI.set x3 (by decide)
                      have b1 : Below B w (wr.alloc (.cells #[(Value.slice va (negs D).length vc)] 24)) := (unhide HBR).trans ((bal (brf wr) (.cells #[(Value.slice va (negs D).length vc)] 24)).mono (by have := (unhide HBR).size; rw [← unhide HB] at this; exact this))
                      have b3 : Below B w w3 := b1.grown h2 (unhide HBW) (fun j hj => (World.ownsRow.lt (unhide HOWN) j hj).1)
                      have t3 : TR B w3 v' (T2 ++ [negs D]) := TR.add (unhide HOWN) (fun i z hz => (by obtain ⟨u, e, hu⟩ := hvals i z hz; exact ⟨u, e, hu.keep ki0⟩)) ((hir.low hbB).keep ki0) h1 ki1
                      refine ⟨⟨b3.setCell (p := ⟨xb, 5, none⟩) (unhide HLO) _, (unhide HKt).1.trans ((KI.below hbl).trans (ki0.trans (ki1.trans ki2))), ?_, .inr (.inr ⟨rfl, k2, v', T2 ++ [negs D], x3.trace v', t3.set x3 (by decide) (by decide), hkt.1, hkt.2, ?_, unhide HFt⟩)⟩, ⟨_, x3.c5⟩, x3.frz 5⟩
                      · have s1 := (unhide HKt).2
                        have s2 := hbl.size
                        have s3 := h2.size
                        rw [World.size_alloc] at s3
                        simp; omega
                      · rw [List.length_append]; simp; omega)
                    rw [htv] at c5 c5' HOWN HFIN
                    obtain ⟨nl, hnl⟩ : ∃ nl, nl = (negs D).length := ⟨_, rfl⟩
                    rw [← hnl] at c5' f5' HOWN HFIN HBW ⊢
                    clear hir hbl hown hvals hxr htv hnl hi hz0 hz1 hz2
                    go_wp2_with (first
                      | (at_builtin; refine wpAppAt rfl _ _ 22 rfl B 24 i0 (.slice none 0 0) 1 24 Try.underlying22 (unhide HI).1 (unhide HI).2.1 (unhide HI).2.2.1 (unhide HI).2.2.2 rfl (by decide) _ _ _ rfl (unhide HOWN) ⟨wr.heap.size, 0, none⟩ 1 1 [.slice va nl vc] rfl rfl (at_slice _ _ _ rfl) (by intro u hu; simp at hu; subst hu; rfl) (by unfold maxLen; omega) (by omega) (unhide HBW) ?_; intro v' w3 k1' k2' k3'; obtain ⟨HFN, ⟨y5, hy5⟩, hf5⟩ := unhide HFIN _ w3 k1' k2'; obtain ⟨a', c', hsh⟩ := own_shape k1'; subst hsh; have HFN2 := hide HFN; clear HFN k1' k2' k3')
                      | go_in)
                    exact bodyPost_ret (v := .bool false) (by simp [results, Try.results15, go_sem]) rfl (unhide HFN2)
end Go.Proofs.Ytonfbnbkhpabbaa
namespace Go.Proofs.Ytonfbnbkhpabbaa
open Go Go.RowKit Gs
set_option linter.unusedVariables false
set_option linter.unusedSimpArgs false
set_option maxRecDepth 100000
theorem lst_of {n : Nat} {Cl : List (List Int)} {D : List Int} (h : ¬ Ful n Cl D) : ∃ v, Lst n Cl D v := by
  have key : ∀ m, (∃ v, Lst n Cl D v) ∨ ∀ u, 1 ≤ u → u ≤ n → u < m → ¬ Fre Cl D u := by
    intro m
    induction m with
    | zero => exact .inr (fun u _ _ h => absurd h (Nat.not_lt_zero _))
    | succ m ih =>
      rcases ih with h1 | h1
      · exact .inl h1
      · by_cases hf : 1 ≤ m ∧ m ≤ n ∧ Fre Cl D m
        · exact .inl ⟨m, hf.1, hf.2.1, hf.2.2, fun u hu hum => h1 u hu (by omega) hum⟩
        · refine .inr (fun u hu hun hum => ?_)
          by_cases e : u = m
          · subst e; exact fun hfr => hf ⟨hu, hun, hfr⟩
          · exact h1 u hu hun (by omega)
  rcases key (n + 1) with h1 | h1
  · exact h1
  · exact absurd (fun u hu hun => h1 u hu hun (by omega)) h
theorem sSearch {B n : Nat} {w : World} {Cl : List (List Int)} {most xb : Nat} {cv : Value} (hB : B = w.heap.size) (hn : n ≤ 2048) (hm : most ≤ 4000) (hr : RS 1 RIntS w 0 Cl cv) (hC : ∀ c ∈ Cl, Lits n c) (hlo : B ≤ xb) : ∀ (f k : Nat) (D : List Int) (g c : Nat) (T : List (List Int)) (tv : Value) (W : World), most - k ≤ f → k ≤ most → Lits n D → D.length ≤ k → T.length ≤ k → XH n cv most xb k (.slice none 0 0) tv false W → TR B W tv T → IR B W (.slice (some ⟨g, 0, none⟩) D.length c) D → Below B w W → Calls Try.prog 15 #[.pointer (some ⟨xb, 0, none⟩), .slice (some ⟨g, 0, none⟩) D.length c] W (SQ B n w cv most xb Cl D k T W) := by
  intro f
  induction f with
  | zero =>
    intro k D g c T tv W hf hk hD hlD hlT hx ht hd hb
    exact sOver hB hn hm (by omega) (by omega) hr hC hD hlo hx ht hd hb (by omega)
  | succ f ih =>
    intro k D g c T tv W hf hk hD hlD hlT hx ht hd hb
    by_cases hk1 : k = most
    · exact sOver hB hn hm (by omega) (by omega) hr hC hD hlo hx ht hd hb hk1
    · by_cases hcon : Con Cl D
      · exact sFail hB hn hm (by omega) (by omega) hr hC hD hlo hx ht hd hb (by omega) hcon
      · by_cases hful : Ful n Cl D
        · exact sSat hB hn hm (by omega) (by omega) hr hC hD hlo hx ht hd hb (by omega) hcon hful
        · obtain ⟨v, hv⟩ := lst_of hful
          exact sDown hB hn hm (by omega) (by omega) hr hC hD hlo hx ht hd hb (by omega) hcon hv hlD hlT ⟨g, c, rfl⟩ (fun k' D' g' c' T' tv' W' h1 h2 h3 h4 h5 h6 h7 h8 h9 => ih k' D' g' c' T' tv' W' (by omega) h2 h3 h4 h5 h6 h7 h8 h9)
end Go.Proofs.Ytonfbnbkhpabbaa
