/- The specification's Tseitin. -/
import Derived.Test.YtnoklbnacfmpdacT3
namespace Go.Proofs.Ytnoklbnacfmpdac
open Go Go.RowKit Gs
set_option linter.unusedVariables false
set_option linter.unusedSimpArgs false
set_option maxRecDepth 100000
theorem tsOK_parts {x : Aig} {lit : Int} (h : tsOK x lit = true) : aigI x = true ∧ 0 ≤ lit ∧ lit < 2 * ((varsA' x : Nat) : Int) := by
  unfold tsOK at h
  rw [Bool.and_eq_true] at h
  exact ⟨h.1, litB_true h.2⟩
theorem ts_no {x : Aig} {lit : Int} (h : tsOK x lit = false) : tsV x lit = 0 ∧ tsL x lit = [] ∧ tsK x lit = 1 := by
  unfold tsV tsL tsK; rw [h]; exact ⟨rfl, rfl, rfl⟩
theorem ts_many {x : Aig} {lit : Int} (h : tsOK x lit = true) (h2 : tsMany x lit = true) : tsV x lit = 0 ∧ tsL x lit = [] ∧ tsK x lit = 10 := by
  unfold tsV tsL tsK; rw [h, h2]; exact ⟨rfl, rfl, rfl⟩
theorem ts_yes {x : Aig} {lit : Int} (h : tsOK x lit = true) (h2 : tsMany x lit = false) : tsV x lit = (varsA' x : Int) ∧ tsL x lit = tsC (firstN x) x.ands lit ∧ tsK x lit = 0 := by
  unfold tsV tsL tsK; rw [h, h2]; exact ⟨rfl, rfl, rfl⟩
theorem clL_bd {z : Int} (h0 : 0 ≤ z) (h1 : z ≤ 8388606) : -8388608 ≤ clL z ∧ clL z ≤ 8388608 := by
  unfold clL; split <;> omega
set_option maxHeartbeats 16000000 in
theorem sTsGood (s0 s1 s2 s3 s4 s5 : Option Addr) (l0 l1 l2 l4 l5 c0 c1 c2 c3 c4 c5 : Nat) (xs : List AndG) (lit : Int) (FA : Nat) (w : World) (hl0 : l0 ≤ 1048576) (hl2 : l2 ≤ 1048576) (hl3 : xs.length ≤ 8192) (h3 : RS 2 RAndG w 0 xs (.slice s3 xs.length c3)) (hF : FA = 1 + l0 + l2) (hFb : FA ≤ 4096) (hao : AO FA xs) (hz0 : 0 ≤ lit) (hz1 : lit < 2 * ((FA + xs.length : Nat) : Int))
    (hOK : ∀ V, Below w.heap.size w V → Calls Try.prog 17 #[.agg #[.slice s0 l0 c0, .slice s1 l1 c1, .slice s2 l2 c2, .slice s3 xs.length c3, .slice s4 l4 c4, .slice s5 l5 c5]] V fun e w' => e = .returned (.bool true) ∧ Below V.heap.size V w') (hLit : litB lit (1 + l0 + l2 + xs.length) = true) :
    Calls Try.prog 5 #[.agg #[.slice s0 l0 c0, .slice s1 l1 c1, .slice s2 l2 c2, .slice s3 xs.length c3, .slice s4 l4 c4, .slice s5 l5 c5], .int .i64 lit] w fun e w' => ((decide (2048 < ((FA + xs.length : Nat) : Int)) || decide (8192 < ((tsC FA xs lit).length : Int))) = true → ∃ v, e = .returned (.tuple #[.int .i64 0, v, .int .i64 10]) ∧ RS 1 RIntS w' 0 [] v) ∧ ((decide (2048 < ((FA + xs.length : Nat) : Int)) || decide (8192 < ((tsC FA xs lit).length : Int))) = false → ∃ v, e = .returned (.tuple #[.int .i64 ((FA + xs.length : Nat) : Int), v, .int .i64 0]) ∧ RS 1 RIntS w' 0 (tsC FA xs lit) v) ∧ Below w.heap.size w w' := by
  have HCS := hide (AndAt.of h3).2
  have HAO := hide hao
  have HOK := hide hOK
  have HLI := hide (fun V : World => sLit s0 s1 s2 s3 s4 s5 l0 l1 l2 xs.length l4 l5 c0 c1 c2 c3 c4 c5 lit V hl0 hl2 (by omega))
  rw [hLit] at HLI
  have HVA := hide (fun V : World => sVars s0 s1 s2 s3 s4 s5 l0 l1 l2 xs.length l4 l5 c0 c1 c2 c3 c4 c5 V hl0 hl2 (by omega))
  have HCN := hide (fun (V : World) (hb : Below w.heap.size w V) => sCone s0 s1 s2 s3 s4 s5 l0 l1 l2 xs.length l4 l5 c0 c1 c2 c3 c4 c5 xs lit FA V hl0 hl2 (by omega) (h3.later (by intro W W' B x u h hr; exact hr) hb) hF hao hz0 hz1)
  obtain ⟨N, hN⟩ : ∃ N : Nat, N = FA + xs.length := ⟨_, rfl⟩
  rw [← hN]
  rw [show 1 + l0 + l2 + xs.length = N by omega] at HVA
  have hsum : (1 : Int) + (l0 : Int) + (l2 : Int) = (FA : Int) := by omega
  have HNE := hide hN
  have HTL := hide (tsC_len FA xs lit)
  have HTS := hide (tsC_small FA xs lit)
  have HCL := hide (coneB_len FA xs lit)
  have HLT := hide (fun V : World => sLit13 lit V hz0 (by omega))
  have hN4 : N ≤ 12288 := by omega
  have HLB := hide (clL_bd hz0 (by omega))
  clear h3 hao hOK hLit hF hz1 hN
  rw [← unhide HNE] at HCN HCL
  have hneg : (!true) = false := rfl
  obtain ⟨ns, hns⟩ : ∃ ns, ns = coneB FA xs lit := ⟨_, rfl⟩
  rw [← hns] at HCN HCL
  have HTC : Hid (tsC FA xs lit = clsL FA xs (needL FA ns xs.length) ++ [[clL lit]]) := hide (by rw [hns]; rfl)
  clear hns
  generalize tsC FA xs lit = TC at *
  go_enter Try.func5, Try.ntmps5
  go_wp2_with fail
  refine (unhide HOK _ (bal (brf w) _)).mono ?_
  rintro e W1 ⟨rfl, hb1⟩
  have HX1 : Hid (B6 36 w (.slice s0 l0 c0) (.slice s1 l1 c1) (.slice s2 l2 c2) (.slice s3 xs.length c3) (.slice s4 l4 c4) (.slice s5 l5 c5) W1) := hide hb1
  clear hb1 HOK
  obtain ⟨q0, q1, q2, q3, q4, q5⟩ := (unhide HX1).get
  go_wp2_with fail
  refine (unhide HLI _).mono ?_
  rintro e W2 ⟨rfl, hb2⟩
  have HX2 := hide ((unhide HX1).then hb2)
  clear hb2 HLI HX1 q0 q1 q2 q3 q4 q5
  obtain ⟨q0, q1, q2, q3, q4, q5⟩ := (unhide HX2).get
  go_wp2_with fail
  refine (unhide HCN _ (unhide HX2).below).mono ?_
  rintro e W3 ⟨⟨g, rfl, hnb, hg⟩, hb3⟩
  have HX3 := hide ((unhide HX2).then hb3)
  have HNB := hide hnb
  clear hb3 HCN HX2 q0 q1 q2 q3 q4 q5 hg hnb
  obtain ⟨q0, q1, q2, q3, q4, q5⟩ := (unhide HX3).get
  go_wp2
  obtain ⟨i0, hi, hz0', hz1', hz2'⟩ := info_parts info51
  have HST : Hid (CP W3.heap.size (W3.heap.size + 1) ((W3.alloc (.cells #[.int .i64 (-1)] 3)).alloc (.cells #[.slice (some ⟨W3.heap.size, 0, none⟩) 1 1] 51)) (.slice (some ⟨W3.heap.size + 1, 0, none⟩) 1 1) (clsL FA xs (needL FA ns 0))) := hide (CP_start W3 [-1] (Nat.le_refl _))
  have HSB : Hid (Below W3.heap.size W3 ((W3.alloc (.cells #[.int .i64 (-1)] 3)).alloc (.cells #[.slice (some ⟨W3.heap.size, 0, none⟩) 1 1] 51))) := hide (bal (bal (brf W3) _) _)
  clear q0 q1 q2 q3 q4 q5
  go_loopw [9, 10] (fun v i wr => ∃ (k E : Nat), k ≤ xs.length ∧ i = .int .i64 (k : Int) ∧ CP W3.heap.size E wr v (clsL FA xs (needL FA ns k)) ∧ Below W3.heap.size W3 wr) (fun v i wr => xs.length - (intOf i).toNat)
  case atStart => exact ⟨0, _, Nat.zero_le _, rfl, unhide HST, unhide HSB⟩
  case round =>
    obtain ⟨k, E, hk, rfl, hcp, hb⟩ := hrel
    clear HST HSB
    obtain ⟨q0, q1, q2, q3, q4, q5⟩ := ((unhide HX3).then hb).get
    by_cases hlt : k < xs.length
    · have hx : xs[k]? = some xs[k] := List.getElem?_eq_getElem hlt
      generalize xs[k] = x at hx
      obtain ⟨bb, oo, rfl, hc0, hc1⟩ := unhide HCS k x hx
      obtain ⟨ha1, ha2, hb1, hb2⟩ := unhide HAO k x hx
      have hbw := btr (unhide HX3).below hb
      have hN2 := unhide HNE
      have hnl := unhide HCL
      obtain ⟨yn, hnk⟩ : ∃ yn, ns[FA + k]? = some yn := ⟨_, List.getElem?_eq_getElem (by omega)⟩
      have z0 := cell_later hbw hc0
      have z1 := cell_later hbw hc1
      obtain ⟨m, hm⟩ : ∃ m : Nat, m = FA + k := ⟨_, rfl⟩
      have hsumk : (FA : Int) + (k : Int) = (m : Int) := by omega
      have j1 : (0 : Int) ≤ (m : Int) := by omega
      have j2 : (m : Int) < (N : Int) := by omega
      obtain ⟨n0, n1⟩ := ((unhide HNB).later hb) (FA + k) _ hnk
      rw [← hm] at n0 n1
      have k1 : (0 : Int) ≤ (k : Int) := by omega
      have k2 : (k : Int) < (xs.length : Int) := by omega
      have hnl2 := needL_len FA ns k
      have hlen := clsL_len FA xs (needL FA ns k)
      cases yn with
      | false =>
        have HCP := hide (show CP W3.heap.size E wr u9 (clsL FA xs (needL FA ns (k + 1))) by rw [needL_no hnk]; exact hcp)
        have HB := hide hb
        clear hcp hb HCS HAO hc0 hc1 hbw hx hnk hN2 hnl hnl2 hlen hsum ha1 ha2 hb1 hb2 hm z0 z1 hi hz0' hz1' hz2'
        go_wp2
        exact ⟨⟨k + 1, E, by omega, by go_num, unhide HCP, unhide HB⟩, by simp [intOf]; omega⟩
      | true =>
        have HST : Hid (clsL FA xs (needL FA ns (k + 1)) = clsL FA xs (needL FA ns k) ++ andC ((m : Int) + 1) (clL x.a) (clL x.b)) := hide (by rw [needL_yes hnk, clsL_step, clsA_some hx, hm])
        have hwb : W3.heap.size ≤ wr.heap.size := hb.size
        obtain ⟨va, vc, rfl⟩ := hcp.shape
        obtain ⟨hE, vs, hown, hri⟩ := hcp
        have ba := clL_bd ha1 (by omega)
        have bb' := clL_bd hb1 (by omega)
        have HC1 := hide (fun V : World => sLit13 x.a V ha1 (by omega))
        have HC2 := hide (fun V : World => sLit13 x.b V hb1 (by omega))
        have HLEN := hide (show (clsL FA xs (needL FA ns k)).length ≤ 24577 by omega)
        have HB := hide hb
        have HOWN := hide hown
        have HRI := hide hri
        have HE := hide hE
        have HWB := hide hwb
        have hm2 : m ≤ 12288 := by omega
        clear hb HCS HAO hc0 hc1 hbw hx hnk hN2 hnl hnl2 hlen hsum hm hown hri hE hwb ha2 hb2
        generalize clsL FA xs (needL FA ns k) = cs at *
        generalize clL x.a = ca at *
        generalize clL x.b = cb at *
        generalize x.a = za at *
        generalize x.b = zb at *
        have HOV : Hid (((wl3 wr ((m : Int) + 1) ca cb).alloc (.cells (sl3 wr.heap.size).toArray 51)).ownsRow W3.heap.size 51 1 (.slice va cs.length vc) cs.length vs) := hide (ownsRow_keep (unhide HOWN) (fun g o _ hc => ((bal (wl3_below wr ((m : Int) + 1) ca cb) (.cells (sl3 wr.heap.size).toArray 51)).block g (Array.getElem?_eq_some_iff.1 hc).1).trans hc))
        go_wp2_with (first
          | (have hq : wr = wr := rfl; go_at_call 20; refine (unhide HC1 _).mono ?_; rintro e V1 ⟨rfl, hw⟩; have hw' := hw.symm; subst hw'; clear HC1)
          | (go_at_call 20; refine (unhide HC2 _).mono ?_; rintro e V2 ⟨rfl, hw⟩; have hw' := hw.symm; subst hw'; clear HC2)
          | (at_builtin; refine wpList_append_own _ rfl _ _ 29 rfl W3.heap.size 51 i0 (.slice none 0 0) 1 24 Try.underlying29 hi hz0' hz1' hz2' rfl (by decide) _ _ _ rfl (show World.ownsRow _ _ _ _ _ _ _ from unhide HOV) ⟨wr.heap.size + 1 + 1 + 1, 0, none⟩ 3 3 (sl3 wr.heap.size) rfl rfl (sl3_at wr ((m : Int) + 1) ca cb _ rfl) (sl3_one _) (by have := unhide HLEN; unfold maxLen; omega) (by have := unhide HLEN; omega) (by have := unhide HWB; simp; omega) ?_; intro v' w2 hown' hgrow _)
          | go_in)
        have hrow := fun j hj => (World.ownsRow.lt (unhide HOV) j hj).1
        have hbel : Below W3.heap.size W3 w2 := below_grown (btr (unhide HB) (bal (wl3_below wr ((m : Int) + 1) ca cb) (.cells (sl3 wr.heap.size).toArray 51))) hgrow (by have := unhide HWB; rw [World.size_alloc, wl3_size]; omega) hrow
        exact ⟨⟨k + 1, _, by omega, by go_num, by rw [unhide HST]; exact CP.and (unhide HE) (unhide HWB) (unhide HOWN) (unhide HRI) rfl hown' hgrow, hbel⟩, by simp [intOf]; omega⟩
    · obtain rfl : k = xs.length := by omega
      have hwb : W3.heap.size ≤ wr.heap.size := hb.size
      have hnl2 := needL_len FA ns xs.length
      have hlen := clsL_len FA xs (needL FA ns xs.length)
      obtain ⟨va, vc, rfl⟩ := hcp.shape
      obtain ⟨hE, vs, hown, hri⟩ := hcp
      have HLEN := hide (show (clsL FA xs (needL FA ns xs.length)).length ≤ 24577 by omega)
      have HB := hide hb
      have HOWN := hide hown
      have HRI := hide hri
      have HE := hide hE
      have HWB := hide hwb
      have hlb := unhide HLB
      clear hb HCS HAO hnl2 hlen hsum hown hri hE hwb
      generalize clsL FA xs (needL FA ns xs.length) = cs at *
      generalize clL lit = cl at *
      have HOV : Hid (((wr.alloc (.cells (iC [cl]) 3)).alloc (.cells #[.slice (some ⟨wr.heap.size, 0, none⟩) 1 1] 51)).ownsRow W3.heap.size 51 1 (.slice va cs.length vc) cs.length vs) := hide (ownsRow_keep (unhide HOWN) (fun g o _ hc => ((bal (bal (brf wr) (.cells (iC [cl]) 3)) (.cells #[.slice (some ⟨wr.heap.size, 0, none⟩) 1 1] 51)).block g (Array.getElem?_eq_some_iff.1 hc).1).trans hc))
      go_wp2_with (first
        | (go_at_call 20; refine (unhide HLT _).mono ?_; rintro e V1 ⟨rfl, hw⟩; have hw' := hw.symm; subst hw'; clear HLT)
        | (at_builtin; refine wpList_append_own _ rfl _ _ 29 rfl W3.heap.size 51 i0 (.slice none 0 0) 1 24 Try.underlying29 hi hz0' hz1' hz2' rfl (by decide) _ _ _ rfl (show World.ownsRow _ _ _ _ _ _ _ from unhide HOV) ⟨wr.heap.size + 1, 0, none⟩ 1 1 [.slice (some ⟨wr.heap.size, 0, none⟩) 1 1] rfl rfl (by intro j u hj; match j, hj with | 0, hj => (simp at hj; subst hj; simp [Addr.add]) | j + 1, hj => simp at hj) (by intro u hu; simp at hu; subst hu; rfl) (by have := unhide HLEN; unfold maxLen; omega) (by have := unhide HLEN; omega) (by have := unhide HWB; simp; omega) ?_; intro v' w2 hown' hgrow _; clear q0 q1 q2 q3 q4 q5; have hbel : Below W3.heap.size W3 w2 := below_grown (btr (unhide HB) (bal (bal (brf wr) (.cells (iC [cl]) 3)) (.cells #[.slice (some ⟨wr.heap.size, 0, none⟩) 1 1] 51))) hgrow (by have := unhide HWB; simp; omega) (fun j hj => (World.ownsRow.lt (unhide HOV) j hj).1); obtain ⟨q0, q1, q2, q3, q4, q5⟩ := ((unhide HX3).then hbel).get; have HB2 := hide hbel; have HCP := hide (CP.one (x := [cl]) (unhide HE) (unhide HWB) (unhide HOWN) (unhide HRI) rfl hown' hgrow); clear hown' hgrow hbel HOV)
        | fail)
      refine (unhide HVA _).mono ?_
      rintro e W5 ⟨rfl, hb5⟩
      rw [← unhide HTC] at HCP
      have HX5 := hide (((unhide HX3).then (unhide HB2)).then hb5)
      have HCP5 := hide ((unhide HCP).later hb5)
      have htl := unhide HTL
      have HRD := hide (RS.low RIntS.lowers (Nat.zero_le _) ((unhide HCP5).read (by unfold maxLen; omega) (unhide HTS)))
      have hsh := (unhide HCP5).shape
      obtain ⟨va2, vc2, rfl⟩ := hsh
      clear q0 q1 q2 q3 q4 q5 hb5 HCP HCP5 HB2
      obtain ⟨q0, q1, q2, q3, q4, q5⟩ := (unhide HX5).get
      generalize hTL : TC.length = tl at *
      by_cases hm1 : 2048 < (N : Int)
      · have HBL := hide (bal (unhide HX5).below (.cells #[] 51))
        go_wp2
        refine bodyPost_ret (v := .tuple #[.int .i64 0, .slice (some ⟨W5.heap.size, 0, none⟩) 0 0, .int .i64 10]) (by simp [results, Try.results5, go_sem]) rfl ⟨fun _ => ⟨_, rfl, RS.nil _ _ _ _ _ _⟩, fun h => ?_, unhide HBL⟩
        rw [decide_eq_true hm1] at h
        cases h
      · by_cases hm2 : 8192 < (tl : Int)
        · have HBL := hide (bal (unhide HX5).below (.cells #[] 51))
          go_wp2
          refine bodyPost_ret (v := .tuple #[.int .i64 0, .slice (some ⟨W5.heap.size, 0, none⟩) 0 0, .int .i64 10]) (by simp [results, Try.results5, go_sem]) rfl ⟨fun _ => ⟨_, rfl, RS.nil _ _ _ _ _ _⟩, fun h => ?_, unhide HBL⟩
          rw [hTL, decide_eq_true hm2, Bool.or_true] at h
          cases h
        · have HNO : Hid ((decide (2048 < (N : Int)) || decide (8192 < (tl : Int))) = false) := hide (by rw [decide_eq_false hm1, decide_eq_false hm2]; rfl)
          go_wp2_with fail
          refine (unhide HVA _).mono ?_
          rintro e W6 ⟨rfl, hb6⟩
          have HBL := hide (btr (unhide HX5).below hb6)
          have HRD6 := hide ((unhide HRD).later RIntS.keeps hb6)
          clear hb6
          go_wp2
          refine bodyPost_ret (v := .tuple #[.int .i64 (N : Int), .slice va2 tl vc2, .int .i64 0]) (by simp [results, Try.results5, go_sem]) rfl ⟨fun h => ?_, fun _ => ⟨_, rfl, unhide HRD6⟩, unhide HBL⟩
          rw [hTL, unhide HNO] at h
          cases h
set_option maxHeartbeats 6400000 in
theorem sTsBad (s0 s1 s2 s3 s4 s5 : Option Addr) (l0 l1 l2 l3 l4 l5 c0 c1 c2 c3 c4 c5 : Nat) (lit : Int) (w : World) (ok li : Bool) (hbad : (ok && li) = false)
    (hOK : ∀ V, Below w.heap.size w V → Calls Try.prog 17 #[.agg #[.slice s0 l0 c0, .slice s1 l1 c1, .slice s2 l2 c2, .slice s3 l3 c3, .slice s4 l4 c4, .slice s5 l5 c5]] V fun e w' => e = .returned (.bool ok) ∧ Below V.heap.size V w')
    (hLI : ∀ V, Calls Try.prog 18 #[.agg #[.slice s0 l0 c0, .slice s1 l1 c1, .slice s2 l2 c2, .slice s3 l3 c3, .slice s4 l4 c4, .slice s5 l5 c5], .int .i64 lit] V fun e w' => e = .returned (.bool li) ∧ Below V.heap.size V w') :
    Calls Try.prog 5 #[.agg #[.slice s0 l0 c0, .slice s1 l1 c1, .slice s2 l2 c2, .slice s3 l3 c3, .slice s4 l4 c4, .slice s5 l5 c5], .int .i64 lit] w fun e w' => (∃ v, e = .returned (.tuple #[.int .i64 0, v, .int .i64 1]) ∧ RS 1 RIntS w' 0 [] v) ∧ Below w.heap.size w w' := by
  have HOK := hide hOK
  have HLI := hide hLI
  clear hOK hLI
  cases ok with
  | false =>
    go_enter Try.func5, Try.ntmps5
    go_wp2_with fail
    refine (unhide HOK _ (bal (brf w) _)).mono ?_
    rintro e W1 ⟨rfl, hb1⟩
    have HB := hide (bal (btr (bal (brf w) _) hb1) (.cells #[] 51))
    clear hb1
    go_wp2
    exact bodyPost_ret (v := .tuple #[.int .i64 0, .slice (some ⟨W1.heap.size, 0, none⟩) 0 0, .int .i64 1]) (by simp [results, Try.results5, go_sem]) rfl ⟨⟨_, rfl, RS.nil _ _ _ _ _ _⟩, unhide HB⟩
  | true =>
    have hli : li = false := by simpa using hbad
    subst hli
    clear hbad
    go_enter Try.func5, Try.ntmps5
    go_wp2_with fail
    refine (unhide HOK _ (bal (brf w) _)).mono ?_
    rintro e W1 ⟨rfl, hb1⟩
    have HX1 : Hid (B6 36 w (.slice s0 l0 c0) (.slice s1 l1 c1) (.slice s2 l2 c2) (.slice s3 l3 c3) (.slice s4 l4 c4) (.slice s5 l5 c5) W1) := hide hb1
    clear hb1 HOK
    obtain ⟨q0, q1, q2, q3, q4, q5⟩ := (unhide HX1).get
    go_wp2_with fail
    refine (unhide HLI _).mono ?_
    rintro e W2 ⟨rfl, hb2⟩
    have HB := hide (bal ((unhide HX1).then hb2).below (.cells #[] 51))
    clear hb2
    go_wp2
    exact bodyPost_ret (v := .tuple #[.int .i64 0, .slice (some ⟨W2.heap.size, 0, none⟩) 0 0, .int .i64 1]) (by simp [results, Try.results5, go_sem]) rfl ⟨⟨_, rfl, RS.nil _ _ _ _ _ _⟩, unhide HB⟩
theorem sTs (x : Aig) (u : List Value) (lit : Int) (w : World) (hl : szAig x ≤ 1048576) (hr : RAig w 0 x u) :
    Calls Try.prog 5 #[.agg u.toArray, .int .i64 lit] w fun e w' => (∃ v, e = .returned (.tuple #[.int .i64 (tsV x lit), v, .int .i64 (tsK x lit)]) ∧ RS 1 RIntS w' 0 (tsL x lit) v) ∧ Below w.heap.size w w' := by
  have hz : szAig x = szL (fun (s : ByteArray) => s.size) x.ins + szL (fun (s : ByteArray) => s.size) x.clocks + szL szLatch x.latches + szL szAndG x.ands + szL szPin x.outs + szL szPin x.checks := rfl
  have z0 := szL_sm (fun (s : ByteArray) => s.size) x.ins
  have z2 := szL_sm szLatch x.latches
  have z3 := szL_sm szAndG x.ands
  have HOK := hide (fun (V : World) (hb : Below w.heap.size w V) => sAigOK x u V hl (hr.later hb))
  obtain ⟨v0, v1, v2, v3, v4, v5, rfl, r0, r1, r2, r3, r4, r5⟩ := hr
  obtain ⟨s0, c0, rfl⟩ := r0.slice
  obtain ⟨s1, c1, rfl⟩ := r1.slice
  obtain ⟨s2, c2, rfl⟩ := r2.slice
  obtain ⟨s3, c3, rfl⟩ := r3.slice
  obtain ⟨s4, c4, rfl⟩ := r4.slice
  obtain ⟨s5, c5, rfl⟩ := r5.slice
  rw [← aig_same] at HOK
  have e1 : 1 + x.ins.length + x.latches.length + x.ands.length = varsA' x := rfl
  have HLI := hide (fun V : World => sLit s0 s1 s2 s3 s4 s5 x.ins.length x.clocks.length x.latches.length x.ands.length x.outs.length x.checks.length c0 c1 c2 c3 c4 c5 lit V (by omega) (by omega) (by omega))
  cases hk : tsOK x lit with
  | false =>
    obtain ⟨t1, t2, t3⟩ := ts_no hk
    rw [t1, t2, t3]
    exact sTsBad s0 s1 s2 s3 s4 s5 _ _ _ _ _ _ c0 c1 c2 c3 c4 c5 lit w _ _ hk (fun V hb => unhide HOK V hb) (fun V => unhide HLI V)
  | true =>
    obtain ⟨p1, p2, p3⟩ := tsOK_parts hk
    have hfit := Fit.of p1
    rw [p1] at HOK
    have hlb : litB lit (1 + x.ins.length + x.latches.length + x.ands.length) = true := by
      unfold tsOK at hk
      rw [Bool.and_eq_true] at hk
      exact hk.2
    have hc := hfit.cnt
    refine (sTsGood s0 s1 s2 s3 s4 s5 _ _ _ _ _ c0 c1 c2 c3 c4 c5 x.ands lit (firstN x) w (by omega) (by omega) (by omega) r3 rfl (by unfold firstN; omega) hfit.ands p2 p3 (fun V hb => unhide HOK V hb) hlb).mono ?_
    rintro e w' ⟨h1, h2, h3⟩
    cases hm : tsMany x lit with
    | false =>
      obtain ⟨t1, t2, t3⟩ := ts_yes hk hm
      rw [t1, t2, t3]
      exact ⟨h2 hm, h3⟩
    | true =>
      obtain ⟨t1, t2, t3⟩ := ts_many hk hm
      rw [t1, t2, t3]
      exact ⟨h1 hm, h3⟩
end Go.Proofs.Ytnoklbnacfmpdac
