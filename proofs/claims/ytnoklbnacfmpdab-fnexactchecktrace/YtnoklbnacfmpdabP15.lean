/- The program's CheckTrace. -/
import Derived.Test.YtnoklbnacfmpdabP14
namespace Go.Proofs.Ytnoklbnacfmpdab
open Go Go.RowKit Gs
set_option linter.unusedVariables false
set_option linter.unusedSimpArgs false
set_option maxRecDepth 100000
theorem okC_len {vars : Int} {most : Int} {cs : List (List Int)} (h : okC vars most cs = true) (hm : most ≤ 2048) : ∀ c ∈ cs, c.length ≤ 4194304 := by
  unfold okC at h
  simp only [Bool.and_eq_true] at h
  intro c hc
  have h2 := (List.all_eq_true.1 h.2) c hc
  unfold clB at h2
  simp at h2
  omega
set_option maxHeartbeats 8000000 in
theorem iCheck (vars : Int) (Cl tr : List (List Int)) (cv tv : Value) (w : World) (h1 : RS 1 RIntS w 0 Cl cv) (h2 : RS 1 RIntS w 0 tr tv) :
    Calls Try.prog 7 #[.int .i64 vars, cv, tv] w fun e w' => CQ (CTP vars Cl tr) e ∧ Below w.heap.size w w' := by
  have HOK := hide (iOK vars Cl cv w h1)
  have HFT := hide (fun (W : World) (hb : Below w.heap.size w W) => iFit vars vars tr tv W (h2.later RIntS.keeps hb))
  have hl1 := h1.len
  have hl2 := h2.len
  obtain ⟨ca, cc, rfl⟩ := h1.slice
  obtain ⟨ta, tc, rfl⟩ := h2.slice
  unfold maxLen at hl1 hl2
  cases hk1 : okC vars 64 Cl with
  | false =>
    have HT := hide (CTP.no1 (tr := tr) hk1)
    rw [hk1] at HOK
    clear h1 h2 hk1
    go_enter Try.func7, Try.ntmps7
    go_wp2_with fail
    refine (unhide HOK).mono ?_
    rintro e W1 ⟨rfl, hb1⟩
    have HB := hide hb1
    clear hb1
    go_wp2
    exact bodyPost_ret (v := .bool false) (by simp [results, Try.results7, go_sem]) rfl ⟨⟨false, rfl, unhide HT⟩, unhide HB⟩
  | true =>
    cases hk2 : okC vars vars tr with
    | false =>
      have HT := hide (CTP.no2 (Cl := Cl) hk2)
      rw [hk1] at HOK
      rw [hk2] at HFT
      clear h1 h2 hk1 hk2
      go_enter Try.func7, Try.ntmps7
      go_wp2_with fail
      refine (unhide HOK).mono ?_
      rintro e W1 ⟨rfl, hb1⟩
      have HB := hide hb1
      clear hb1
      go_wp2_with fail
      refine (unhide HFT _ (unhide HB)).mono ?_
      rintro e W2 ⟨rfl, hb2⟩
      have HB2 := hide (btr (unhide HB) hb2)
      clear hb2
      go_wp2
      exact bodyPost_ret (v := .bool false) (by simp [results, Try.results7, go_sem]) rfl ⟨⟨false, rfl, unhide HT⟩, unhide HB2⟩
    | true =>
      obtain ⟨hv0, hv1, hcl⟩ := okC_vars hk1
      obtain ⟨_, _, htl⟩ := okC_vars hk2
      rw [hk1] at HOK
      rw [hk2] at HFT
      by_cases hne : tr = []
      · have HT : Hid (false = true ↔ CTP vars Cl tr) := hide ⟨(fun h => by cases h), fun h => absurd hne h.2.2.1⟩
        subst hne
        clear h1 h2 hk1 hk2
        go_enter Try.func7, Try.ntmps7
        go_wp2_with fail
        refine (unhide HOK).mono ?_
        rintro e W1 ⟨rfl, hb1⟩
        have HB := hide hb1
        clear hb1
        go_wp2_with fail
        refine (unhide HFT _ (unhide HB)).mono ?_
        rintro e W2 ⟨rfl, hb2⟩
        have HB2 := hide (btr (unhide HB) hb2)
        clear hb2
        go_wp2
        exact bodyPost_ret (v := .bool false) (by simp [results, Try.results7, go_sem]) rfl ⟨⟨false, rfl, unhide HT⟩, unhide HB2⟩
      · have hpos : 0 < tr.length := List.length_pos_iff.2 hne
        obtain ⟨lastc, hlast⟩ : ∃ c, tr[tr.length - 1]? = some c := ⟨_, List.getElem?_eq_getElem (by omega)⟩
        obtain ⟨tb, to, la, lc, rfl, hlc, _⟩ := heads h2 _ _ hlast
        have hld : tr.getD (tr.length - 1) [] = lastc := by rw [List.getD_eq_getElem?_getD, hlast]; rfl
        obtain ⟨p, hp⟩ : ∃ p : Nat, p = tr.length - 1 := ⟨_, rfl⟩
        have hpi : (tr.length : Int) - 1 = (p : Int) := by omega
        have p1 : (0 : Int) ≤ (p : Int) := by omega
        have p2 : (p : Int) < (tr.length : Int) := by omega
        have p3 : decide ((p : Int) < 0) = false := by simp
        rw [← hp] at hlc
        have HP := hide hp
        clear hp
        by_cases hle : 0 < lastc.length
        · have HT : Hid (false = true ↔ CTP vars Cl tr) := hide ⟨(fun h => by cases h), fun h => by
            have := h.2.2.2.1
            rw [hld] at this
            rw [this] at hle; simp at hle⟩
          clear h1 h2 hk1 hk2 hlast hld
          go_enter Try.func7, Try.ntmps7
          go_wp2_with fail
          refine (unhide HOK).mono ?_
          rintro e W1 ⟨rfl, hb1⟩
          have HB := hide hb1
          clear hb1
          go_wp2_with fail
          refine (unhide HFT _ (unhide HB)).mono ?_
          rintro e W2 ⟨rfl, hb2⟩
          have HB2 := hide (btr (unhide HB) hb2)
          have k0 := cell_later (unhide HB2) hlc
          clear hb2
          have hle' : (0 : Int) < (lastc.length : Int) := by omega
          go_wp2
          exact bodyPost_ret (v := .bool false) (by simp [results, Try.results7, go_sem]) rfl ⟨⟨false, rfl, unhide HT⟩, unhide HB2⟩
        · have hle0 : lastc.length = 0 := by omega
          obtain ⟨n, hn⟩ : ∃ n : Nat, vars = (n : Int) := ⟨vars.toNat, by omega⟩
          have hn2 : n ≤ 2048 := by omega
          have HLC := hide (lits_of hk1 hn)
          have HLT := hide (lits_of hk2 hn)
          have HCT : Hid (CTP vars Cl tr ↔ TrP Cl tr tr.length) := hide ⟨fun h => h.2.2.2.2, fun h => ⟨hk1, hk2, hne, by rw [hld]; exact List.length_eq_zero_iff.1 hle0, h⟩⟩
          have H1 := hide h1
          have H2 := hide h2
          have HD := hide (heads h2)
          have HLL := hide (okC_len hk1 (by omega))
          have HLL2 := hide (okC_len hk2 (by omega))
          clear h1 h2 hk1 hk2 hlast hld hne
          subst hn
          generalize CTP (n : Int) Cl tr = PP at *
          go_enter Try.func7, Try.ntmps7
          go_wp2_with fail
          refine (unhide HOK).mono ?_
          rintro e W1 ⟨rfl, hb1⟩
          have HB := hide hb1
          clear hb1
          go_wp2_with fail
          refine (unhide HFT _ (unhide HB)).mono ?_
          rintro e W2 ⟨rfl, hb2⟩
          have HB2 := hide (btr (unhide HB) hb2)
          have k0 := cell_later (unhide HB2) hlc
          clear hb2
          have hle' : ¬ (0 : Int) < (lastc.length : Int) := by omega
          have HNEW := hide (iNew n W2 Cl _ ((unhide H1).later RIntS.keeps (unhide HB2)) (unhide HLC) (unhide HLL) hcl hn2)
          go_wp2_with fail
          refine (unhide HNEW).mono ?_
          rintro e W3 ⟨s0, rfl, had⟩
          have HAD : Hid (AD W2.heap.size n W2 (Cl ++ tr.take 0) s0 W3) := hide (by simpa using had)
          clear had HNEW HOK HFT HB k0 hlc p1 p2 p3 hpi
          have HRT := hide ((unhide H2).later RIntS.keeps (unhide HB2))
          have HDT := hide (heads (unhide HRT))
          go_wp2
          go_loopw [40] (fun i wr => ∃ (k : Nat) (s : FS), k ≤ tr.length ∧ i = .int .i64 (k : Int) ∧ s.b = s0.b ∧ AD W2.heap.size n W2 (Cl ++ tr.take k) s wr ∧ TrP Cl tr k) (fun i wr => tr.length - (intOf i).toNat)
          case atStart => exact ⟨0, s0, Nat.zero_le _, rfl, rfl, unhide HAD, fun j c hj => absurd hj (Nat.not_lt_zero _)⟩
          case round =>
            obtain ⟨k, s, hk, rfl, hsb, had, htp⟩ := hrel
            clear HAD
            by_cases hlt : k < tr.length
            · have hx : tr[k]? = some tr[k] := List.getElem?_eq_getElem hlt
              generalize tr[k] = y at hx
              obtain ⟨sb, so, ya, yc, he, hyh, hry⟩ := unhide HDT k y hx
              injection he with he
              injection he with he1 he2
              subst he1
              subst he2
              have hyl := unhide HLL2 y (List.mem_of_getElem? hx)
              have k0 := cell_later had.bl hyh
              have i1 : (k : Int) < (tr.length : Int) := by omega
              have i2 : (0 : Int) ≤ (k : Int) := by omega
              have hlk : (Cl ++ tr.take k).length ≤ 16384 := by rw [List.length_append, List.length_take]; omega
              have HCL' : Hid (∀ c ∈ Cl ++ tr.take k, Lits n c) := hide (fun c hc => by
                rcases List.mem_append.1 hc with h | h
                · exact unhide HLC c h
                · exact unhide HLT c (List.mem_of_mem_take h))
              have HLY := hide (unhide HLT y (List.mem_of_getElem? hx))
              have HSTEP := hide (fun h => TrP.step htp hx h)
              have HNO : Hid (¬ Con (Cl ++ tr.take k) (y.map fun l => -l) → ¬ PP) := hide (fun h h2 => h ((unhide HCT).1 h2 k y hlt hx))
              have HNXT : Hid (Cl ++ tr.take (k + 1) = (Cl ++ tr.take k) ++ [y]) := hide (by rw [List.take_add_one, hx, Option.toList_some, List.append_assoc])
              have HSH := hide (iShows had rfl y _ (unhide HCL') (unhide HLY) (by omega) hry hn2)
              have HADD := hide (fun (s' : FS) (W' : World) (h : AD W2.heap.size n W2 (Cl ++ tr.take k) s' W') => iAdd h rfl y _ (unhide HLY) (by omega) hry (by omega) hn2)
              rw [hsb] at HSH
              clear had htp hx hyh hry hlk
              generalize Cl ++ tr.take k = CL at *
              go_wp2_with fail
              refine (unhide HSH).mono ?_
              rintro e W4 ⟨b, rfl, hb, s', hsb', had'⟩
              cases b with
              | false =>
                have HNP : Hid (false = true ↔ PP) := hide ⟨(fun h => by cases h), fun h => absurd h (unhide HNO (fun hc => by have := hb.2 hc; cases this))⟩
                have HBE := hide ((unhide HB2).trans (had'.bl.mono (unhide HB2).size))
                clear had' hb HADD HSH
                go_wp2
                exact bodyPost_ret (v := .bool false) (by simp [results, Try.results7, go_sem]) rfl ⟨⟨false, rfl, unhide HNP⟩, unhide HBE⟩
              | true =>
                have HTP := hide (unhide HSTEP (hb.1 rfl))
                have HA := hide (unhide HADD s' W4 had')
                rw [hsb', hsb] at HA
                have HSB := hide (hsb'.trans hsb)
                clear had' hb HADD HSH hsb'
                go_wp2_with fail
                refine (unhide HA).mono ?_
                rintro e W5 ⟨rfl, s2, hs2, had2⟩
                have HAD2 := hide had2
                have HS2 := hide hs2
                clear had2 hs2 HA
                go_wp2
                exact ⟨⟨k + 1, s2, by omega, by go_num, (unhide HS2).trans (unhide HSB), by rw [unhide HNXT]; exact unhide HAD2, unhide HTP⟩, by simp [intOf]; omega⟩
            · obtain rfl : k = tr.length := by omega
              have HBE := hide ((unhide HB2).trans (had.bl.mono (unhide HB2).size))
              have HP2 : Hid PP := hide ((unhide HCT).2 htp)
              have i1 : ¬ (tr.length : Int) < (tr.length : Int) := by omega
              clear had htp
              go_wp2
              exact bodyPost_ret (v := .bool true) (by simp [results, Try.results7, go_sem]) rfl ⟨⟨true, rfl, ⟨fun _ => unhide HP2, fun _ => rfl⟩⟩, unhide HBE⟩
end Go.Proofs.Ytnoklbnacfmpdab
