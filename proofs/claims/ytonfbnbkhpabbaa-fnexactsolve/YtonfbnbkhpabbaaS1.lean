/- The specification's search: over, and a contradiction. -/
import Derived.Test.YtonfbnbkhpabbaaS0
import Derived.BigQuiet
namespace Go.Proofs.Ytonfbnbkhpabbaa
open Go Go.RowKit Gs
set_option linter.unusedVariables false
set_option linter.unusedSimpArgs false
set_option maxRecDepth 100000
set_option maxHeartbeats 6400000 in
theorem sOver {B n : Nat} {w W : World} {Cl T0 : List (List Int)} {D : List Int} {k most xb : Nat} {cv dv tv : Value} (hB : B = w.heap.size) (hn : n ≤ 2048) (hm : most ≤ 4000) (hlD : D.length ≤ 4000) (hlT : T0.length ≤ 4000) (hr : RS 1 RIntS w 0 Cl cv) (hC : ∀ c ∈ Cl, Lits n c) (hD : Lits n D) (hlo : B ≤ xb) (hx : XH n cv most xb k (.slice none 0 0) tv false W) (ht : TR B W tv T0) (hd : IR B W dv D) (hbl : Below B w W) (hk : k = most) : Calls Try.prog 15 #[.pointer (some ⟨xb, 0, none⟩), dv] W (SQ B n w cv most xb Cl D k T0 W) := by
  obtain ⟨da, dc, rfl⟩ := hd.shape
  have c3 := hx.c3
  have c2 := hx.c2
  have f6 := hx.frz 6
  have c6 := hx.c6
  subst hk
  have HE : Hid (∀ j, SQ B n w cv k xb Cl D k T0 W (.returned (.bool false)) ((W.drewN j).setCell ⟨xb, 6, none⟩ (.bool true))) := hide (fun j => by
    have hxj : XH n cv k xb k (.slice none 0 0) tv false (W.drewN j) := hx
    refine ⟨(below_drewN hbl j).setCell (p := ⟨xb, 6, none⟩) hlo _, KI.set (W := W.drewN j) (o := XF n cv k k (.slice none 0 0) tv false) hxj (by decide), by simp, .inl ⟨rfl, ⟨_, _, _, hxj.over⟩, .over rfl⟩⟩)
  clear hr hC hD hx ht hd hbl
  go_enter Try.func15, Try.ntmps15
  go_wp2
  go_quiet (fail)
  go_wp2
  exact bodyPost_ret (v := .bool false) (by simp [results, Try.results15, go_sem]) rfl (unhide HE _)
set_option maxHeartbeats 6400000 in
theorem sFail {B n : Nat} {w W : World} {Cl T0 : List (List Int)} {D : List Int} {k most xb : Nat} {cv dv tv : Value} (hB : B = w.heap.size) (hn : n ≤ 2048) (hm : most ≤ 4000) (hlD : D.length ≤ 4000) (hlT : T0.length ≤ 4000) (hr : RS 1 RIntS w 0 Cl cv) (hC : ∀ c ∈ Cl, Lits n c) (hD : Lits n D) (hlo : B ≤ xb) (hx : XH n cv most xb k (.slice none 0 0) tv false W) (ht : TR B W tv T0) (hd : IR B W dv D) (hbl : Below B w W) (hk : k < most) (hcon : Con Cl D) : Calls Try.prog 15 #[.pointer (some ⟨xb, 0, none⟩), dv] W (SQ B n w cv most xb Cl D k T0 W) := by
  obtain ⟨da, dc, rfl⟩ := hd.shape
  have HCL := hide hC
  have HD := hide hD
  have c3 := hx.c3
  have c2 := hx.c2
  have hkm : ((k : Int) == (most : Int)) = false := by simp; omega
  have kk : (k : Int) < 4000 := by omega
  have HX := hide hx
  have HT := hide ht
  have HDV := hide hd
  have HBL := hide hbl
  have HR := hide hr
  have HLO := hide hlo
  have HB := hide hB
  clear hr hC hD hx ht hd hbl hB hlo
  go_enter Try.func15, Try.ntmps15
  go_wp2
  go_quiet (fail)
  obtain ⟨V, hV⟩ : ∃ V, V = W.drewN nq := ⟨_, rfl⟩
  have HXV : Hid (XH n cv most xb k (.slice none 0 0) tv false V) := hide (by rw [hV]; exact unhide HX)
  have HTV : Hid (TR B V tv T0) := hide (by rw [hV]; exact unhide HT)
  have HDVV : Hid (IR B V (.slice da D.length dc) D) := hide (by rw [hV]; exact unhide HDV)
  have HBV : Hid (Below B w V) := hide (by rw [hV]; exact below_drewN (unhide HBL) _)
  have HKV : Hid (KI W V ∧ W.heap.size ≤ V.heap.size) := hide (by rw [hV]; exact ⟨fun _ _ h => h, Nat.le_refl _⟩)
  rw [← hV]
  clear hV HX HT HDV HBL c3 c2
  have c3 := (unhide HXV).c3
  have f3 := (unhide HXV).frz 3
  obtain ⟨W1, hW1⟩ : ∃ W1, W1 = V.setCell ⟨xb, 3, none⟩ (.int .i64 ((k : Int) + 1)) := ⟨_, rfl⟩
  have HX1 : Hid (XH n cv most xb (k + 1) (.slice none 0 0) tv false W1) := hide (by rw [hW1]; exact (unhide HXV).work)
  have HT1 : Hid (TR B W1 tv T0) := hide (by rw [hW1]; exact (unhide HTV).set (unhide HXV) (by decide) (by decide))
  have HK1 : Hid (KI W W1 ∧ W.heap.size ≤ W1.heap.size) := hide (by rw [hW1]; exact ⟨(unhide HKV).1.trans (KI.set (unhide HXV) (by decide)), by simpa using (unhide HKV).2⟩)
  have HD1 : Hid (IR B W1 (.slice da D.length dc) D) := hide (by rw [hW1]; exact (unhide HDVV).keep (KI.set (unhide HXV) (by decide)))
  have HB1 : Hid (Below B w W1) := hide (by rw [hW1]; exact (unhide HBV).setCell (p := ⟨xb, 3, none⟩) (unhide HLO) _)
  have HR1 : Hid (RS 1 RIntS W1 0 Cl cv) := hide (by have h := unhide HB1; rw [unhide HB] at h; exact (unhide HR).later RIntS.keeps h)
  have c0 : W1.cell? ⟨xb, 0, none⟩ = some (.int .i64 (n : Int)) := (unhide HX1).c0
  rw [hW1] at c0
  have HNEW : Hid (Calls Try.prog 27 #[.int .i64 (n : Int)] (V.setCell ⟨xb, 3, none⟩ (.int .i64 ((k : Int) + 1))) fun e w' => (∃ b vb, e = .returned (.pointer (some ⟨b, 0, none⟩)) ∧ SM W1.heap.size n b vb w' (zeros (n + 1)) false) ∧ Below W1.heap.size W1 w') := hide (by rw [← hW1]; exact sNew n W1 hn)
  clear HTV HDVV HBV HKV hW1 HXV
  go_wp2_with fail
  refine (unhide HNEW).mono ?_
  rintro e W4 ⟨⟨b, vb, rfl, hsm⟩, hb4⟩
  have HSM := hide hsm
  have HB4 := hide hb4
  clear hsm hb4 HNEW c0 c3 f3
  have HDC : Hid (∀ (j : Nat) z, D[j]? = some z → ∃ yb, da = some ⟨yb, 0, none⟩ ∧ W1.cell? ⟨yb, j, none⟩ = some (.int .i64 z)) := hide (unhide HD1).cells
  go_wp2
  go_loopw [6] (fun i wr => ∃ (j : Nat) (vs : List Int) (bd : Bool), j ≤ D.length ∧ i = .int .i64 (j : Int) ∧ SM W1.heap.size n b vb wr vs bd ∧ Vals n vs ∧ Snd Cl D n vs ∧ (bd = true → Con Cl D) ∧ (bd = false → ∀ l ∈ D.take j, val vs l = 1) ∧ Below W1.heap.size W1 wr) (fun i wr => D.length - (intOf i).toNat)
  case atStart => exact ⟨0, zeros (n + 1), false, Nat.zero_le _, rfl, unhide HSM, zeros_vals n, zeros_snd _ _ n, (fun h => by cases h), (fun _ l hl => by simp at hl), unhide HB4⟩
  case round =>
    obtain ⟨j, vs, bd, hj, rfl, hsm, hv, hs, hcon1, htrue, hbl⟩ := hrel
    clear HSM HB4
    by_cases hjl : j < D.length
    · have hz : D[j]? = some D[j] := List.getElem?_eq_getElem hjl
      generalize D[j] = z at hz
      have hzl := unhide HD z (List.mem_of_getElem? hz)
      obtain ⟨yb, rfl, z0'⟩ := unhide HDC j z hz
      have z0 := cell_later hbl z0'
      have htk : D.take (j + 1) = D.take j ++ [z] := by rw [List.take_add_one, hz]; rfl
      have hmem : z ∈ D := List.mem_of_getElem? hz
      have HA := hide (sAssume hsm hbl hv hzl hn)
      have j1 : (j : Int) < (D.length : Int) := by omega
      have j2 : (0 : Int) ≤ (j : Int) := by omega
      have HV := hide hv
      have HS := hide hs
      have HCON := hide hcon1
      have HTR := hide htrue
      have HZL := hide hzl
      have HTK := hide htk
      have HME := hide hmem
      clear hsm hv hs hcon1 htrue hbl hz hzl z0' htk hmem HDC
      go_wp2_with fail
      refine (unhide HA).mono ?_
      rintro e W5 ⟨rfl, hor, hbl⟩
      have hnew : ∃ (vs' : List Int) (bd' : Bool), SM W1.heap.size n b vb W5 vs' bd' ∧ Vals n vs' ∧ Snd Cl D n vs' ∧ (bd' = true → Con Cl D) ∧ (bd' = false → ∀ l ∈ D.take (j + 1), val vs' l = 1) := by
        rcases hor with ⟨h1, h2⟩ | ⟨h1, h2⟩
        · exact ⟨vs, true, h2, unhide HV, unhide HS, fun _ => (unhide HS).clash (unhide HZL) (.base (unhide HME)) h1, (fun h => by cases h)⟩
        · refine ⟨put vs z, bd, h2, put_vals (unhide HV) _, (unhide HS).put (unhide HV) (unhide HZL) (.base (unhide HME)), unhide HCON, fun hbf l hl => ?_⟩
          rw [unhide HTK] at hl
          rcases List.mem_append.1 hl with h3 | h3
          · exact put_true (unhide HV) (unhide HZL) h1 (unhide HTR hbf l h3)
          · simp at h3; subst h3; exact put_same (unhide HV) (unhide HZL)
      obtain ⟨vs', bd', n1, n2, n3, n4, n5⟩ := hnew
      have HN1 := hide n1
      have HN2 := hide n2
      have HN3 := hide n3
      have HN4 := hide n4
      have HN5 := hide n5
      have HBLL := hide hbl
      clear n1 n2 n3 n4 n5 hbl hor HA
      go_wp2
      exact ⟨⟨j + 1, vs', bd', by omega, by go_num, unhide HN1, unhide HN2, unhide HN3, unhide HN4, unhide HN5, unhide HBLL⟩, by simp [intOf]; omega⟩
    · have hje : j = D.length := by omega
      have j1 : ¬ (j : Int) < (D.length : Int) := by omega
      rw [hje, List.take_of_length_le (Nat.le_refl _)] at htrue
      have HFO := hide (sFollow Cl D cv hn (unhide HR1) rfl (unhide HCL) ⟨hsm, hv, hs, Ext.refl vs, hcon1, hbl, fun h => h⟩)
      have HTRU := hide htrue
      have c1 := ((unhide HX1).later hbl).c1
      clear hsm hv hs hcon1 htrue HDC
      obtain ⟨ca, cc, hcv⟩ := (unhide HR1).slice
      rw [hcv] at c1 HFO
      go_wp2_with fail
      refine (unhide HFO).mono ?_
      rintro e W5 ⟨rfl, vs', bad', hfi, hshut⟩
      rw [← hcv] at *
      clear HFO
      cases bad' with
      | false => exact absurd hcon ((hshut rfl).no (unhide HCL) (unhide HD) (fun l hl => by
          have hbd : bd = false := by
            cases bd with
            | false => rfl
            | true => exact absurd (hfi.kp rfl) (by decide)
          have h1 := unhide HTRU hbd l hl
          rw [hfi.x _ (by rw [h1]; decide), h1]))
      | true =>
        have q1 := hfi.sm.c1
        obtain ⟨kt, hkt0⟩ : ∃ kt, kt = k + 1 := ⟨_, rfl⟩
        have hbW := hfi.bl
        have HXt : Hid (XH n cv most xb kt (.slice none 0 0) tv false W5) := hide (by rw [hkt0]; exact (unhide HX1).later hbW)
        have HTt : Hid (TR B W5 tv T0) := hide ((unhide HT1).later hbW)
        have HDt : Hid (IR B W5 (.slice da D.length dc) D) := hide ((unhide HD1).keep (KI.below hbW))
        have HBt : Hid (Below B w W5) := hide ((unhide HB1).trans (hbW.mono (by rw [unhide HB]; exact (unhide HB1).size)))
        have HKt : Hid (KI W W5 ∧ W.heap.size ≤ W5.heap.size) := hide ⟨(unhide HK1).1.trans (KI.below hbW), by have := (unhide HK1).2; have := hbW.size; omega⟩
        have HFt : Hid (∀ R, Vs n most Cl false D kt (T0 ++ [negs D]) R → Vs n most Cl true D k T0 R) := hide (fun R h => by rw [hkt0] at h; exact .fail (by omega) hcon h)
        have hkt : k < kt ∧ kt ≤ most := by omega
        have hlen : T0.length + 1 + k = T0.length + kt := by omega
        clear hfi hshut HX1 HT1 HD1 HB1 HK1 hbW HTRU HR1 hkt0 c1 hcv hcon
        have HDt2 : Hid (∀ (j : Nat) z, D[j]? = some z → ∃ yb, da = some ⟨yb, 0, none⟩ ∧ W5.cell? ⟨yb, j, none⟩ = some (.int .i64 z)) := hide (unhide HDt).cells
        obtain ⟨N, hN⟩ : ∃ N, N = W5.heap.size := ⟨_, rfl⟩
        have HN := hide hN
        clear hN
        go_wp2
        go_loopw [9, 10] (fun v i wr => ∃ j : Nat, j ≤ D.length ∧ i = .int .i64 (j : Int) ∧ IR W5.heap.size wr v (negs (D.take j)) ∧ Below W5.heap.size W5 wr) (fun v i wr => D.length - (intOf i).toNat)
        case atStart => exact ⟨0, Nat.zero_le _, rfl, IR.new W5 W5 _ (Nat.le_refl _), bal (brf W5) _⟩
        case round =>
          obtain ⟨j, hj, rfl, hir, hbl⟩ := hrel
          by_cases hjl : j < D.length
          · have hz : D[j]? = some D[j] := List.getElem?_eq_getElem hjl
            generalize D[j] = z at hz
            have hzl := unhide HD z (List.mem_of_getElem? hz)
            obtain ⟨yb, hyb, z0'⟩ := unhide HDt2 j z hz
            cases hyb
            have z0 := cell_later hbl z0'
            have HNG := hide (negs_take hz)
            obtain ⟨a1, a2, a3⟩ := id hzl
            have zl1 : -2048 ≤ z := by omega
            have zl2 : z ≤ 2048 := by omega
            have j1 : (j : Int) < (D.length : Int) := by omega
            have j2 : (0 : Int) ≤ (j : Int) := by omega
            obtain ⟨va, vc, rfl⟩ := hir.shape
            obtain ⟨i0, hi, hz0, hz1, hz2⟩ := info_parts info3
            have HI := hide (And.intro hi (And.intro hz0 (And.intro hz1 hz2)))
            obtain ⟨nl, hnl⟩ : ∃ nl, nl = (negs (D.take j)).length := ⟨_, rfl⟩
            have hnl2 : nl ≤ 4000 := by rw [hnl]; unfold negs; rw [List.length_map, List.length_take]; omega
            have HOWN : Hid (World.ownsRow (wr.alloc (.cells #[.int .i64 (-z)] 3)) W5.heap.size 3 1 (.slice va nl vc) nl (iL (negs (D.take j)))) := hide (by
              have h1 := hir.keep (KI.below (bal (brf wr) (.cells #[.int .i64 (-z)] 3)))
              unfold IR at h1
              rw [← hnl] at h1; exact h1)
            have HBW := hide (show Below W5.heap.size W5 (wr.alloc (.cells #[.int .i64 (-z)] 3)) from bal hbl _)
            have HFIN : Hid (∀ v' w3, World.ownsRow w3 W5.heap.size 3 1 v' (nl + 1) (iL (negs (D.take j)) ++ [.int .i64 (-z)]) → World.grownBy (wr.alloc (.cells #[.int .i64 (-z)] 3)) w3 (Value.slice va nl vc).ownBlock → IR W5.heap.size w3 v' (negs (D.take (j + 1))) ∧ Below W5.heap.size W5 w3) := hide (fun v' w3 h1 h2 => by
              refine ⟨?_, (unhide HBW).grown h2 (unhide HBW).size (fun j hj => (World.ownsRow.lt (unhide HOWN) j hj).1)⟩
              unfold IR
              rw [unhide HNG, List.length_append, ← hnl]
              unfold iL at *
              rw [List.map_append]; exact h1)
            rw [← hnl]
            clear hir hbl hz hzl z0' hnl hi hz0 hz1 hz2 a1 a2 a3
            go_wp2_with (first
              | (at_builtin; refine wpAppAt rfl _ _ 24 rfl W5.heap.size 3 i0 (.int .i64 0) 1 8 Try.underlying24 (unhide HI).1 (unhide HI).2.1 (unhide HI).2.2.1 (unhide HI).2.2.2 rfl (by decide) _ _ _ rfl (unhide HOWN) ⟨wr.heap.size, 0, none⟩ 1 1 [.int .i64 (-z)] rfl rfl (at_int _ _ _ rfl) (one_int _) (by unfold maxLen; omega) (by omega) (unhide HBW).size ?_; intro v' w3 k1' k2' k3'; have HFN := hide (unhide HFIN _ w3 k1' k2'); clear k1' k2' k3')
              | go_in)
            exact ⟨⟨j + 1, by omega, by go_num, (unhide HFN).1, (unhide HFN).2⟩, by simp [intOf]; omega⟩
          · obtain rfl : j = D.length := by omega
            rw [List.take_of_length_le (Nat.le_refl _)] at hir
            have j1 : ¬ (D.length : Int) < (D.length : Int) := by omega
            have hxr := (unhide HXt).later hbl
            have c5 := hxr.c5
            have htr : TR B wr tv T0 := (unhide HTt).later hbl
            obtain ⟨va, vc, rfl⟩ := hir.shape
            obtain ⟨ta, tc, htv⟩ := htr.shape
            obtain ⟨vals, hown, hvals⟩ := htr
            obtain ⟨i0, hi, hz0, hz1, hz2⟩ := info_parts info24
            have HI := hide (And.intro hi (And.intro hz0 (And.intro hz1 hz2)))
            have hbB : B ≤ W5.heap.size := by have := (unhide HBt).size; rw [unhide HB]; exact this
            have HBR : Hid (Below B w wr) := hide ((unhide HBt).trans (hbl.mono hbB))
            have c5' := cell_later (bal (brf wr) (.cells #[(Value.slice va (negs D).length vc)] 24)) c5
            have f5' : (wr.alloc (.cells #[(Value.slice va (negs D).length vc)] 24)).frozen? ⟨xb, 5, none⟩ = false := (hxr.later (bal (brf wr) _)).frz 5
            have HOWN : Hid (World.ownsRow (wr.alloc (.cells #[(Value.slice va (negs D).length vc)] 24)) B 24 1 tv T0.length vals) := hide (ownsRow_keep hown (fun g o _ hg => heap_al hg))
            have HBW := hide (show B ≤ (wr.alloc (.cells #[(Value.slice va (negs D).length vc)] 24)).heap.size by have := (unhide HBR).size; rw [World.size_alloc]; rw [← unhide HB] at this; omega)
            have HFIN : Hid (∀ v' w3, World.ownsRow w3 B 24 1 v' (T0.length + 1) (vals ++ [(Value.slice va (negs D).length vc)]) → World.grownBy (wr.alloc (.cells #[(Value.slice va (negs D).length vc)] 24)) w3 tv.ownBlock → SQ B n w cv most xb Cl D k T0 W (.returned (.bool false)) (w3.setCell ⟨xb, 5, none⟩ v') ∧ (∃ y, w3.cell? ⟨xb, 5, none⟩ = some y) ∧ w3.frozen? ⟨xb, 5, none⟩ = false) := hide (fun v' w3 h1 h2 => by
              have x1 : XH n cv most xb kt (.slice none 0 0) tv false (wr.alloc (.cells #[(Value.slice va (negs D).length vc)] 24)) := hxr.later (bal (brf wr) _)
              have x3 : XH n cv most xb kt (.slice none 0 0) tv false w3 := x1.grown (unhide HOWN) (by decide) h2
              have ki0 : KI wr (wr.alloc (.cells #[(Value.slice va (negs D).length vc)] 24)) := KI.below (bal (brf wr) _)
              have ki1 : KI (wr.alloc (.cells #[(Value.slice va (negs D).length vc)] 24)) w3 := KI.grown (unhide HOWN) (by decide) h2
              have ki2 : KI w3 (w3.setCell ⟨xb, 5, none⟩ v') := KI.set x3 (by decide)
              have b1 : Below B w (wr.alloc (.cells #[(Value.slice va (negs D).length vc)] 24)) := (unhide HBR).trans ((bal (brf wr) (.cells #[(Value.slice va (negs D).length vc)] 24)).mono (by have := (unhide HBR).size; rw [← unhide HB] at this; exact this))
              have b3 : Below B w w3 := b1.grown h2 (unhide HBW) (fun j hj => (World.ownsRow.lt (unhide HOWN) j hj).1)
              have t3 : TR B w3 v' (T0 ++ [negs D]) := TR.add (unhide HOWN) (fun i z hz => (by obtain ⟨u, e, hu⟩ := hvals i z hz; exact ⟨u, e, hu.keep ki0⟩)) ((hir.low hbB).keep ki0) h1 ki1
              refine ⟨⟨b3.setCell (p := ⟨xb, 5, none⟩) (unhide HLO) _, (unhide HKt).1.trans ((KI.below hbl).trans (ki0.trans (ki1.trans ki2))), ?_, .inr (.inr ⟨rfl, kt, v', T0 ++ [negs D], x3.trace v', t3.set x3 (by decide) (by decide), hkt.1, hkt.2, ?_, unhide HFt⟩)⟩, ⟨_, x3.c5⟩, x3.frz 5⟩
              · have s1 := (unhide HKt).2
                have s2 := hbl.size
                have s3 := h2.size
                rw [World.size_alloc] at s3
                simp; omega
              · rw [List.length_append]; simp; omega)
            rw [htv] at c5 c5' HOWN HFIN
            obtain ⟨nl, hnl⟩ : ∃ nl, nl = (negs D).length := ⟨_, rfl⟩
            rw [← hnl] at c5' f5' HOWN HFIN HBW ⊢
            clear hir hbl hown hvals hxr htv hnl hi hz0 hz1 hz2
            go_wp2_with (first
              | (at_builtin; refine wpAppAt rfl _ _ 22 rfl B 24 i0 (.slice none 0 0) 1 24 Try.underlying22 (unhide HI).1 (unhide HI).2.1 (unhide HI).2.2.1 (unhide HI).2.2.2 rfl (by decide) _ _ _ rfl (unhide HOWN) ⟨wr.heap.size, 0, none⟩ 1 1 [.slice va nl vc] rfl rfl (at_slice _ _ _ rfl) (by intro u hu; simp at hu; subst hu; rfl) (by unfold maxLen; omega) (by omega) (unhide HBW) ?_; intro v' w3 k1' k2' k3'; obtain ⟨HFN, ⟨y5, hy5⟩, hf5⟩ := unhide HFIN _ w3 k1' k2'; obtain ⟨a', c', hsh⟩ := own_shape k1'; subst hsh; have HFN2 := hide HFN; clear HFN k1' k2' k3')
              | go_in)
            exact bodyPost_ret (v := .bool false) (by simp [results, Try.results15, go_sem]) rfl (unhide HFN2)
end Go.Proofs.Ytonfbnbkhpabbaa
