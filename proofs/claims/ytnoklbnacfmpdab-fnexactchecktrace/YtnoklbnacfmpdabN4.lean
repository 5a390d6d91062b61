/- The specification's CheckTrace. -/
import Derived.Test.YtnoklbnacfmpdabN3
namespace Go.Proofs.Ytnoklbnacfmpdab
open Go Go.RowKit Gs
set_option linter.unusedVariables false
set_option linter.unusedSimpArgs false
set_option maxRecDepth 100000
/-- It answers yes just where that holds. -/
def CQ (P : Prop) (e : Ending) : Prop := ∃ b : Bool, e = .returned (.bool b) ∧ (b = true ↔ P)
theorem put_true {n : Nat} {vs : List Int} {l m : Int} (h : Vals n vs) (hl : Lit n l) (hn : val vs l ≠ -1) (hm : val vs m = 1) : val (put vs l) m = 1 := by
  by_cases e : m = l
  · subst e; exact put_same h hl
  · by_cases e2 : m = -l
    · subst e2
      rw [val_neg vs hl.1] at hm
      omega
    · rw [put_other h hl e e2]; exact hm
theorem AR_start (w0 W : World) (B : Nat) (h : B ≤ W.heap.size) : AR B w0 (W.alloc (.cells #[] 28)) (.slice (some ⟨W.heap.size, 0, none⟩) 0 0) [] :=
  ⟨[], ⟨rfl, .inr ⟨W.heap.size, 0, #[], rfl, h, heap_new W _, Nat.le_refl _, Nat.zero_le _, rfl, rfl⟩⟩, fun i x hx => by simp at hx⟩
/-- The headers of a list of lists. -/
theorem heads {w : World} {xs : List (List Int)} {a : Option Addr} {l c : Nat} (hr : RS 1 RIntS w 0 xs (.slice a l c)) : ∀ (k : Nat) y, xs[k]? = some y → ∃ sb so ya yc, a = some ⟨sb, so, none⟩ ∧ w.cell? ⟨sb, so + k, none⟩ = some (.slice ya y.length yc) ∧ RS 1 RInt w 0 y (.slice ya y.length yc) := by
  intro k y hx
  rcases hr.open with ⟨e, _⟩ | ⟨sb, so, c', hv, _, _, _, he⟩
  · rw [e] at hx; simp at hx
  · injection hv with e1 e2 e3
    obtain ⟨u, hu, hat, vy, hue, hry⟩ := he k y hx
    subst hue
    have k0 := hat.get (j := 0) rfl
    simp only [Nat.add_zero, Nat.mul_one] at k0
    obtain ⟨ya, yc, hvy⟩ := hry.slice
    exact ⟨sb, so, ya, yc, e1, by rw [k0, hvy], by rw [← hvy]; exact hry⟩
theorem ints {w : World} {y : List Int} {ya : Option Addr} {l yc : Nat} (hry : RS 1 RInt w 0 y (.slice ya l yc)) : ∀ (j : Nat) z, y[j]? = some z → ∃ yb yo, ya = some ⟨yb, yo, none⟩ ∧ w.cell? ⟨yb, yo + j, none⟩ = some (.int .i64 z) := by
  intro j z hz
  rcases hry.open with ⟨rfl, _⟩ | ⟨yb, yo, c2, hv2, _, _, _, he2⟩
  · simp at hz
  · injection hv2 with f1 f2 f3
    obtain ⟨u, hu, hat, hux⟩ := he2 j z hz
    subst hux
    exact ⟨yb, yo, f1, by simpa using hat.get (j := 0) rfl⟩
theorem CTP.no1 {vars : Int} {Cl tr : List (List Int)} (h : okC vars 64 Cl = false) : (false = true ↔ CTP vars Cl tr) := ⟨(fun h => by cases h), fun h2 => by rw [h2.1] at h; cases h⟩
theorem CTP.no2 {vars : Int} {Cl tr : List (List Int)} (h : okC vars vars tr = false) : (false = true ↔ CTP vars Cl tr) := ⟨(fun h => by cases h), fun h2 => by rw [h2.2.1] at h; cases h⟩
set_option maxHeartbeats 16000000 in
theorem sCheck (vars : Int) (Cl tr : List (List Int)) (cv tv : Value) (w : World) (h1 : RS 1 RIntS w 0 Cl cv) (h2 : RS 1 RIntS w 0 tr tv) :
    Calls Try.prog 5 #[.int .i64 vars, cv, tv] w fun e w' => CQ (CTP vars Cl tr) e ∧ Below w.heap.size w w' := by
  have HOK := hide (sOK vars Cl cv w h1)
  have HFT := hide (fun (W : World) (hb : Below w.heap.size w W) => sFit vars vars tr tv W (h2.later RIntS.keeps hb))
  have hl1 := h1.len
  have hl2 := h2.len
  obtain ⟨ca, cc, rfl⟩ := h1.slice
  obtain ⟨ta, tc, rfl⟩ := h2.slice
  unfold maxLen at hl1 hl2
  cases hk1 : okC vars 64 Cl with
  | false =>
    have HT := hide (CTP.no1 (tr := tr) hk1)
    rw [hk1] at HOK
    clear h1 h2 hk1
    go_enter Try.func5, Try.ntmps5
    go_wp2_with fail
    refine (unhide HOK).mono ?_
    rintro e W1 ⟨rfl, hb1⟩
    have HB := hide hb1
    clear hb1
    go_wp2
    exact bodyPost_ret (v := .bool false) (by simp [results, Try.results5, go_sem]) rfl ⟨⟨false, rfl, unhide HT⟩, unhide HB⟩
  | true =>
    cases hk2 : okC vars vars tr with
    | false =>
      have HT := hide (CTP.no2 (Cl := Cl) hk2)
      rw [hk1] at HOK
      rw [hk2] at HFT
      clear h1 h2 hk1 hk2
      go_enter Try.func5, Try.ntmps5
      go_wp2_with fail
      refine (unhide HOK).mono ?_
      rintro e W1 ⟨rfl, hb1⟩
      have HB := hide hb1
      clear hb1
      go_wp2_with fail
      refine (unhide HFT _ (unhide HB)).mono ?_
      rintro e W2 ⟨rfl, hb2⟩
      have HB2 := hide (btr (unhide HB) hb2)
      clear hb2
      go_wp2
      exact bodyPost_ret (v := .bool false) (by simp [results, Try.results5, go_sem]) rfl ⟨⟨false, rfl, unhide HT⟩, unhide HB2⟩
    | true =>
      obtain ⟨hv0, hv1, hcl⟩ := okC_vars hk1
      obtain ⟨_, _, htl⟩ := okC_vars hk2
      rw [hk1] at HOK
      rw [hk2] at HFT
      by_cases hne : tr = []
      · have HT : Hid (false = true ↔ CTP vars Cl tr) := hide ⟨(fun h => by cases h), fun h => absurd hne h.2.2.1⟩
        subst hne
        clear h1 h2 hk1 hk2
        go_enter Try.func5, Try.ntmps5
        go_wp2_with fail
        refine (unhide HOK).mono ?_
        rintro e W1 ⟨rfl, hb1⟩
        have HB := hide hb1
        clear hb1
        go_wp2_with fail
        refine (unhide HFT _ (unhide HB)).mono ?_
        rintro e W2 ⟨rfl, hb2⟩
        have HB2 := hide (btr (unhide HB) hb2)
        clear hb2
        go_wp2
        exact bodyPost_ret (v := .bool false) (by simp [results, Try.results5, go_sem]) rfl ⟨⟨false, rfl, unhide HT⟩, unhide HB2⟩
      · have hpos : 0 < tr.length := List.length_pos_iff.2 hne
        obtain ⟨lastc, hlast⟩ : ∃ c, tr[tr.length - 1]? = some c := ⟨_, List.getElem?_eq_getElem (by omega)⟩
        obtain ⟨tb, to, la, lc, rfl, hlc, _⟩ := heads h2 _ _ hlast
        have hld : tr.getD (tr.length - 1) [] = lastc := by rw [List.getD_eq_getElem?_getD, hlast]; rfl
        obtain ⟨p, hp⟩ : ∃ p : Nat, p = tr.length - 1 := ⟨_, rfl⟩
        have hpi : (tr.length : Int) - 1 = (p : Int) := by omega
        have p1 : (0 : Int) ≤ (p : Int) := by omega
        have p2 : (p : Int) < (tr.length : Int) := by omega
        have p3 : ((tr.length : Int) == 0) = false := by simp; omega
        rw [← hp] at hlc
        have HP := hide hp
        clear hp
        by_cases hle : 0 < lastc.length
        · have HT : Hid (false = true ↔ CTP vars Cl tr) := hide ⟨(fun h => by cases h), fun h => by
            have := h.2.2.2.1
            rw [hld] at this
            rw [this] at hle; simp at hle⟩
          clear h1 h2 hk1 hk2 hlast hld
          go_enter Try.func5, Try.ntmps5
          go_wp2_with fail
          refine (unhide HOK).mono ?_
          rintro e W1 ⟨rfl, hb1⟩
          have HB := hide hb1
          clear hb1
          go_wp2_with fail
          refine (unhide HFT _ (unhide HB)).mono ?_
          rintro e W2 ⟨rfl, hb2⟩
          have HB2 := hide (btr (unhide HB) hb2)
          have k0 := cell_later (unhide HB2) hlc
          clear hb2
          have hle' : (0 : Int) < (lastc.length : Int) := by omega
          go_wp2
          exact bodyPost_ret (v := .bool false) (by simp [results, Try.results5, go_sem]) rfl ⟨⟨false, rfl, unhide HT⟩, unhide HB2⟩
        · have hle0 : lastc.length = 0 := by omega
          obtain ⟨n, hn⟩ : ∃ n : Nat, vars = (n : Int) := ⟨vars.toNat, by omega⟩
          have hn2 : n ≤ 2048 := by omega
          have HLC := hide (lits_of hk1 hn)
          have HLT := hide (lits_of hk2 hn)
          have HCT : Hid (CTP vars Cl tr ↔ TrP Cl tr tr.length) := hide ⟨fun h => h.2.2.2.2, fun h => ⟨hk1, hk2, hne, by rw [hld]; exact List.length_eq_zero_iff.1 hle0, h⟩⟩
          have H1 := hide h1
          have H2 := hide h2
          have HD := hide (heads h2)
          clear h1 h2 hk1 hk2 hlast hld hne
          subst hn
          generalize CTP (n : Int) Cl tr = PP at *
          go_enter Try.func5, Try.ntmps5
          go_wp2_with fail
          refine (unhide HOK).mono ?_
          rintro e W1 ⟨rfl, hb1⟩
          have HB := hide hb1
          clear hb1
          go_wp2_with fail
          refine (unhide HFT _ (unhide HB)).mono ?_
          rintro e W2 ⟨rfl, hb2⟩
          have HB2 := hide (btr (unhide HB) hb2)
          have k0 := cell_later (unhide HB2) hlc
          clear hb2
          have hle' : ¬ (0 : Int) < (lastc.length : Int) := by omega
          go_wp2_with (first
            | (at_builtin; refine wpAppL rfl _ _ rfl w.heap.size w _ [] rfl (AR_start w W2 w.heap.size (unhide HB2).size) _ Cl rfl (bal (unhide HB2) _) (unhide H1) (by simp; omega) (by have := (unhide HB2).size; simp; omega) ?_; intro v' w3 hAR hgr)
            | go_in)
          have HB3 : Hid (Below w.heap.size w w3) := hide ((bal (unhide HB2) (.cells #[] 28)).grown hgr (by have := (unhide HB2).size; simp; omega) (fun j hj => by have e : W2.heap.size = j := by { have : some W2.heap.size = some j := hj; injection this }; have := (unhide HB2).size; omega))
          have HAR : Hid (AR w.heap.size w w3 v' (Cl ++ tr.take 0)) := hide (by simpa using hAR)
          clear hgr hAR k0 HOK HFT HB HB2 hlc p1 p2 p3 hpi
          go_loopw [7, 8] (fun v i wr => ∃ k : Nat, k ≤ tr.length ∧ i = .int .i64 (k : Int) ∧ AR w.heap.size w wr v (Cl ++ tr.take k) ∧ Below w.heap.size w wr ∧ TrP Cl tr k) (fun v i wr => tr.length - (intOf i).toNat)
          case atStart => exact ⟨0, Nat.zero_le _, rfl, unhide HAR, unhide HB3, fun j c hj => absurd hj (Nat.not_lt_zero _)⟩
          case round =>
            obtain ⟨k, hk, rfl, har, hb, htp⟩ := hrel
            clear HAR HB3
            by_cases hlt : k < tr.length
            · have hx : tr[k]? = some tr[k] := List.getElem?_eq_getElem hlt
              generalize tr[k] = y at hx
              obtain ⟨sb, so, ya, yc, he, hyh, hry⟩ := unhide HD k y hx
              injection he with he
              injection he with he1 he2
              subst he1
              subst he2
              have hyl := hry.len
              unfold maxLen at hyl
              have HYI := hide (ints hry)
              have HRY := hide hry
              have k0 := cell_later hb hyh
              have i1 : (k : Int) < (tr.length : Int) := by omega
              have i2 : (0 : Int) ≤ (k : Int) := by omega
              have hlk : (Cl ++ tr.take k).length ≤ 16384 := by rw [List.length_append, List.length_take]; omega
              have HLK := hide hlk
              have HALL := hide (har.read hb (by unfold maxLen; omega))
              obtain ⟨aa, ac, rfl⟩ := har.shape
              have HCL' : Hid (∀ c ∈ Cl ++ tr.take k, Lits n c) := hide (fun c hc => by
                rcases List.mem_append.1 hc with h | h
                · exact unhide HLC c h
                · exact unhide HLT c (List.mem_of_mem_take h))
              have HLY := hide (unhide HLT y (List.mem_of_getElem? hx))
              have HSTEP := hide (fun h => TrP.step htp hx h)
              have HNO : Hid (¬ Con (Cl ++ tr.take k) (y.map fun l => -l) → ¬ PP) := hide (fun h h2 => h ((unhide HCT).1 h2 k y hlt hx))
              have HNXT : Hid (Cl ++ tr.take (k + 1) = (Cl ++ tr.take k) ++ [y]) := hide (by rw [List.take_add_one, hx, Option.toList_some, List.append_assoc])
              have HAR := hide har
              have HB := hide hb
              have HYH := hide hyh
              clear har hb htp hx hyh hry hlk
              generalize Cl ++ tr.take k = CL at *
              go_wp2_with fail
              refine (sNew n wr hn2).mono ?_
              rintro e W4 ⟨⟨b, vb, rfl, hsm⟩, hb4⟩
              have HSM := hide hsm
              have HB4 := hide hb4
              clear hsm hb4
              have k1 := cell_later (unhide HB4) k0
              obtain ⟨BB, hBB⟩ : ∃ B, B = wr.heap.size := ⟨_, rfl⟩
              have HBB := hide hBB
              clear hBB
              go_wp2
              go_loopw [10] (fun kk wr2 => ∃ (j : Nat) (vs : List Int) (bd : Bool), j ≤ y.length ∧ kk = .int .i64 (j : Int) ∧ SM wr.heap.size n b vb wr2 vs bd ∧ Vals n vs ∧ Snd CL (y.map fun l => -l) n vs ∧ (bd = true → Con CL (y.map fun l => -l)) ∧ (bd = false → ∀ l ∈ y.take j, val vs (-l) = 1) ∧ Below wr.heap.size wr wr2) (fun kk wr2 => y.length - (intOf kk).toNat)
              case atStart => exact ⟨0, zeros (n + 1), false, Nat.zero_le _, rfl, unhide HSM, zeros_vals n, zeros_snd _ _ n, (fun h => by cases h), (fun _ l hl => by simp at hl), unhide HB4⟩
              case round =>
                obtain ⟨j, vs, bd, hj, rfl, hsm, hv, hs, hcon, htrue, hbl⟩ := hrel
                clear HSM k1
                have k1 := cell_later hbl k0
                by_cases hjl : j < y.length
                · have hz : y[j]? = some y[j] := List.getElem?_eq_getElem hjl
                  generalize y[j] = z at hz
                  have hzl := unhide HLY z (List.mem_of_getElem? hz)
                  obtain ⟨yb, yo, rfl, z0'⟩ := unhide HYI j z hz
                  have z0 := cell_later hbl (cell_later (unhide HB) z0')
                  have htk : y.take (j + 1) = y.take j ++ [z] := by rw [List.take_add_one, hz]; rfl
                  have hmem : -z ∈ y.map (fun l => -l) := List.mem_map_of_mem (List.mem_of_getElem? hz)
                  have HA := hide (sAssume hsm hbl hv hzl.neg hn2)
                  have j1 : (j : Int) < (y.length : Int) := by omega
                  have j2 : (0 : Int) ≤ (j : Int) := by omega
                  obtain ⟨zz0, zz1, zz2⟩ := id hzl
                  have HV := hide hv
                  have HS := hide hs
                  have HCON := hide hcon
                  have HTR := hide htrue
                  have HZL := hide hzl
                  have HTK := hide htk
                  have HME := hide hmem
                  clear hsm hv hs hcon htrue hbl hz hzl z0' htk hmem
                  go_wp2_with fail
                  refine (unhide HA).mono ?_
                  rintro e W5 ⟨rfl, hor, hbl⟩
                  have hnew : ∃ (vs' : List Int) (bd' : Bool), SM BB n b vb W5 vs' bd' ∧ Vals n vs' ∧ Snd CL (y.map fun l => -l) n vs' ∧ (bd' = true → Con CL (y.map fun l => -l)) ∧ (bd' = false → ∀ l ∈ y.take (j + 1), val vs' (-l) = 1) := by
                    rw [unhide HBB]
                    rcases hor with ⟨h1, h2⟩ | ⟨h1, h2⟩
                    · exact ⟨vs, true, h2, unhide HV, unhide HS, fun _ => (unhide HS).clash (unhide HZL).neg (.base (unhide HME)) h1, (fun h => by cases h)⟩
                    · refine ⟨put vs (-z), bd, h2, put_vals (unhide HV) _, (unhide HS).put (unhide HV) (unhide HZL).neg (.base (unhide HME)), unhide HCON, fun hbf l hl => ?_⟩
                      rw [unhide HTK] at hl
                      rcases List.mem_append.1 hl with h3 | h3
                      · exact put_true (unhide HV) (unhide HZL).neg h1 (unhide HTR hbf l h3)
                      · simp at h3; subst h3; exact put_same (unhide HV) (unhide HZL).neg
                  obtain ⟨vs', bd', n1, n2, n3, n4, n5⟩ := hnew
                  rw [unhide HBB] at n1
                  have HN1 := hide n1
                  have HN2 := hide n2
                  have HN3 := hide n3
                  have HN4 := hide n4
                  have HN5 := hide n5
                  have HBL := hide hbl
                  clear n1 n2 n3 n4 n5 hbl hor HA
                  go_wp2
                  exact ⟨⟨j + 1, vs', bd', by omega, by go_num, unhide HN1, unhide HN2, unhide HN3, unhide HN4, unhide HN5, unhide HBL⟩, by simp [intOf]; omega⟩
                · have hje : j = y.length := by omega
                  have j1 : ¬ (j : Int) < (y.length : Int) := by omega
                  rw [hje, List.take_of_length_le (Nat.le_refl _)] at htrue
                  have HFO := hide (sFollow CL (y.map fun l => -l) _ hn2 (unhide HALL) rfl (unhide HCL') ⟨hsm, hv, hs, Ext.refl vs, hcon, hbl, fun h => h⟩)
                  have HTR := hide htrue
                  clear hsm hv hs hcon htrue hbl HYI
                  go_wp2_with fail
                  refine (unhide HFO).mono ?_
                  rintro e W5 ⟨rfl, vs', bad', hfi, hshut⟩
                  have q1 := hfi.sm.c1
                  have HBL := hide hfi.bl
                  cases bad' with
                  | false =>
                    have hbd : bd = false := by
                      cases bd with
                      | false => rfl
                      | true => exact absurd (hfi.kp rfl) (by decide)
                    have HNP : Hid (false = true ↔ PP) := hide ⟨(fun h => by cases h), fun h => by
                      refine absurd h (unhide HNO ((hshut rfl).no (unhide HCL') (fun l hl => ?_) (fun l hl => ?_)))
                      · obtain ⟨m, hm, rfl⟩ := List.mem_map.1 hl
                        exact (unhide HLY m hm).neg
                      · obtain ⟨m, hm, rfl⟩ := List.mem_map.1 hl
                        have h1 := unhide HTR hbd m hm
                        rw [hfi.x _ (by rw [h1]; decide), h1]⟩
                    have HBE := hide ((unhide HB).trans ((unhide HBL).mono (unhide HB).size))
                    clear hfi hshut
                    go_wp2
                    exact bodyPost_ret (v := .bool false) (by simp [results, Try.results5, go_sem]) rfl ⟨⟨false, rfl, unhide HNP⟩, unhide HBE⟩
                  | true =>
                    have HTP := hide (unhide HSTEP (hfi.con rfl))
                    have k2 := cell_later (unhide HBL) k0
                    have HARV : Hid (AR w.heap.size w (W5.alloc (.cells #[.slice ya y.length yc] 28)) (.slice aa CL.length ac) CL) := hide ((unhide HAR).later (btr (unhide HBL) (bal (brf W5) _)))
                    obtain ⟨vals, hown, hvals⟩ := unhide HARV
                    obtain ⟨i0, hi, hz0', hz1', hz2'⟩ := info_parts info28
                    have HOW := hide hown
                    have HVA := hide hvals
                    have HBE := hide (btr (unhide HB) (btr (unhide HBL) (bal (brf W5) (.cells #[.slice ya y.length yc] 28))))
                    clear hfi hshut hown hvals
                    go_wp2_with (first
                      | (at_builtin; refine wpList_append_own _ rfl _ _ 22 rfl w.heap.size 28 i0 (.slice none 0 0) 1 24 Try.underlying22 hi hz0' hz1' hz2' rfl (by decide) _ _ _ rfl (unhide HOW) ⟨W5.heap.size, 0, none⟩ 1 1 [.slice ya y.length yc] rfl rfl (by intro j u hj; match j, hj with | 0, hj => (simp at hj; subst hj; simp [Addr.add]) | j + 1, hj => simp at hj) (by intro u hu; simp at hu; subst hu; rfl) (by have := unhide HLK; unfold maxLen; omega) (by have := unhide HLK; omega) (unhide HBE).size ?_; intro v' w2 hown' hgrow _)
                      | go_in)
                    have har' : AR w.heap.size w w2 v' (CL ++ [y]) := by
                      refine ⟨vals ++ [.slice ya y.length yc], by rw [List.length_append]; exact hown', fun i z hz => ?_⟩
                      have hvl : vals.length = CL.length := by have := (unhide HOW).1; omega
                      by_cases hi' : i < CL.length
                      · rw [List.getElem?_append_left hi'] at hz
                        obtain ⟨u, e, hr3⟩ := unhide HVA i z hz
                        exact ⟨u, by rw [List.getElem?_append_left (by omega)]; exact e, hr3⟩
                      · rw [List.getElem?_append_right (by omega)] at hz
                        have hi0 : i - CL.length = 0 := by
                          have := (List.getElem?_eq_some_iff.1 hz).1
                          simp at this; omega
                        rw [hi0] at hz
                        simp at hz; subst hz
                        exact ⟨_, by rw [List.getElem?_append_right (by omega), hvl, hi0]; rfl, unhide HRY⟩
                    have hbe2 : Below w.heap.size w w2 := (unhide HBE).grown hgrow (unhide HBE).size (fun j hj => (World.ownsRow.lt (unhide HOW) j hj).1)
                    exact ⟨⟨k + 1, by omega, by go_num, by rw [unhide HNXT]; exact har', hbe2, unhide HTP⟩, by simp [intOf]; omega⟩
            · obtain rfl : k = tr.length := by omega
              have HB := hide hb
              have HP2 : Hid PP := hide ((unhide HCT).2 htp)
              have i1 : ¬ (tr.length : Int) < (tr.length : Int) := by omega
              clear hb htp har
              go_wp2
              exact bodyPost_ret (v := .bool true) (by simp [results, Try.results5, go_sem]) rfl ⟨⟨true, rfl, ⟨fun _ => unhide HP2, fun _ => rfl⟩⟩, unhide HB⟩
end Go.Proofs.Ytnoklbnacfmpdab
