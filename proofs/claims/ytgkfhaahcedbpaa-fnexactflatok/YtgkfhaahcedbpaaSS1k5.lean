/- The specification's st: a step of depth. -/
import Derived.Test.YtgkfhaahcedbpaaGSF2
namespace Go.Proofs.Ytgkfhaahcedbpaa
open Go Go.RowKit Gs
set_option linter.unusedVariables false
set_option linter.unusedSimpArgs false
set_option maxRecDepth 100000

set_option maxHeartbeats 32000000 in
theorem sStStep5 (sg : List Signal) (w0 : World) (sv pv : Value) (T : TypeId) (d : Nat) (hsg : RS 6 RSignal w0 0 sg sv) (hsl : sg.length ≤ 1048576) (hsw : ∀ g ∈ sg, 1 ≤ g.width ∧ g.width ≤ 64) (IX : ExC sg w0 sv pv T d) (IH : StC sg 5 w0 sv pv T d) : StC sg 5 w0 sv pv T (d + 1) := by
  intro x u deep k W hr hd1 hd2 hk hpb hbw
  obtain ⟨v4, v5, rfl, hxr, hkr⟩ := hr
  have HXR := hide hxr
  have hlk := hkr.len
  have hlx := hxr.len
  have HLM := hide (show x.exs.length ≤ maxLen ∧ x.kids.length ≤ maxLen from ⟨hlx, hlk⟩)
  unfold maxLen at hlk hlx
  have HOE := hide (fun (j : Nat) (y : Ex) (hy : x.exs[j]? = some y) (V : World) (hV : Below w0.heap.size w0 V) => (show ∃ b o kc uk, v4 = .slice (some ⟨b, o, none⟩) x.exs.length kc ∧ x.exs.length ≤ kc ∧ RExN d w0 0 y uk ∧ (∃ a' l' c', uk = [.int .i64 y.op, .int .i64 y.width, .int .i64 y.n, .bool y.signed, .string y.bits, .slice a' l' c']) ∧ At V b (o + j * 6) uk from by
    rcases hxr.open with ⟨hnil, _⟩ | ⟨b, o, kc, e, hlc, _, _, hcs⟩
    · rw [hnil] at hy; simp at hy
    · obtain ⟨uk, _, hat, hu⟩ := hcs j y hy
      obtain ⟨v6, e6, _, d', h6⟩ := hu.cells
      obtain ⟨a', c', e7⟩ := h6.slice
      exact ⟨b, o, kc, uk, e, hlc, hu, ⟨a', _, c', by rw [e6, e7]⟩, fun i z hz => cell_later hV (hat i z hz)⟩))
  have HOP := hide (fun (j : Nat) (y : St) (hy : x.kids[j]? = some y) (V : World) (hV : Below w0.heap.size w0 V) => (show ∃ b o kc uk, v5 = .slice (some ⟨b, o, none⟩) x.kids.length kc ∧ x.kids.length ≤ kc ∧ RStN d w0 0 y uk ∧ (∃ a' l' c' a'' l'' c'', uk = [.int .i64 y.kind, .int .i64 y.n, .int .i64 y.low, .int .i64 y.wide, .slice a' l' c', .slice a'' l'' c'']) ∧ At V b (o + j * 6) uk from by
    rcases hkr.open with ⟨hnil, _⟩ | ⟨b, o, kc, e, hlc, _, _, hcs⟩
    · rw [hnil] at hy; simp at hy
    · obtain ⟨uk, _, hat, hu⟩ := hcs j y hy
      obtain ⟨v6, v7, e6, ⟨d', h6⟩, d'', h7⟩ := hu.cells
      obtain ⟨a', c', e8⟩ := h6.slice
      obtain ⟨a'', c'', e9⟩ := h7.slice
      exact ⟨b, o, kc, uk, e, hlc, hu, ⟨a', _, c', a'', _, c'', by rw [e6, e8, e9]⟩, fun i z hz => cell_later hV (hat i z hz)⟩))
  obtain ⟨ka, kc, rfl⟩ := hxr.slice
  obtain ⟨kb, kc2, rfl⟩ := hkr.slice
  clear hkr hxr
  have hck : cntSN (d + 1) x = 1 + ((x.exs.map (cntEN d)).sum + (x.kids.map (cntSN d)).sum) := rfl
  have hok : okSN sg (stOf 5) (setOf 5) (d + 1) deep x = ((decide (deep ≤ 400) && inSet (stOf 5) x.kind) && (x.exs.all (okEN sg d (deep + 1)) && (x.kids.all (okSN sg (stOf 5) (setOf 5) d (deep + 1)) && formS sg (setOf 5) x.kind x.n x.low x.wide (x.exs.map (·.width)) x.kids.length))) := rfl
  by_cases hbad : k = 0 ∨ 400 < deep
  · refine (sStNo w0 sv pv T 5 x.kind x.n x.low x.wide ka kb x.exs.length x.kids.length kc kc2 deep k W hk hpb hbad).mono ?_
    rintro e W' ⟨rfl, h1, h2⟩
    refine ⟨false, _, rfl, ?_, fun h => (by cases h), h1, h2⟩
    symm
    rw [Bool.and_eq_false_iff]
    rcases hbad with h | h
    · right; rw [hck]; exact decide_eq_false (by omega)
    · left; rw [hok, decide_eq_false (p := deep ≤ 400) (by omega)]; rfl
  have hk1 : 1 ≤ k := by omega
  have hdp : deep ≤ 400 := by omega
  clear hbad
  obtain ⟨FB, hFB⟩ : ∃ FB, formS sg (setOf 5) x.kind x.n x.low x.wide (x.exs.map (·.width)) x.kids.length = FB := ⟨_, rfl⟩
  obtain ⟨IN, hIN⟩ : ∃ IN, inSet (stOf 5) x.kind = IN := ⟨_, rfl⟩
  rw [hck, hok, hFB, hIN]
  have HF := hide hFB
  have HIN := hide hIN
  clear hok hck hFB hIN
  obtain ⟨k1, rfl⟩ : ∃ k1, k = k1 + 1 := ⟨k - 1, by omega⟩
  have HIH := hide IH
  have HIX := hide IX
  have HSG := hide hsg
  clear IH IX hsg
  obtain ⟨xs, hxs⟩ : ∃ xs, x.kids = xs := ⟨_, rfl⟩
  rw [hxs] at HOP HF HLM hlk ⊢
  clear hxs
  obtain ⟨es, hes⟩ : ∃ es, x.exs = es := ⟨_, rfl⟩
  rw [hes] at HOE HF HLM HXR hlx ⊢
  clear hes
  generalize x.kind = kind at *
  generalize x.n = n at *
  generalize x.low = low at *
  generalize x.wide = wide at *
  obtain ⟨L, hL⟩ : ∃ L, es.length = L := ⟨_, rfl⟩
  have HL1 := hide hL
  rw [hL] at HOE HLM hlx HXR ⊢
  clear hL
  obtain ⟨L2, hL2⟩ : ∃ L, xs.length = L := ⟨_, rfl⟩
  have HL := hide hL2
  rw [hL2] at HOP HF HLM hlk ⊢
  clear hL2
  obtain ⟨CE, hCE⟩ : ∃ c, (es.map (cntEN d)).sum = c := ⟨_, rfl⟩
  obtain ⟨AE, hAE⟩ : ∃ c, es.all (okEN sg d (deep + 1)) = c := ⟨_, rfl⟩
  obtain ⟨CK, hCK⟩ : ∃ c, (xs.map (cntSN d)).sum = c := ⟨_, rfl⟩
  obtain ⟨AK, hAK⟩ : ∃ c, xs.all (okSN sg (stOf 5) (setOf 5) d (deep + 1)) = c := ⟨_, rfl⟩
  have HCK := hide hCK
  have HAK := hide hAK
  have HCE := hide hCE
  have HAE := hide hAE
  rw [hCK, hAK, hCE, hAE]
  clear hCK hAK hCE hAE
  have q1 : (((k1 + 1 : Nat) : Int)) - 1 = (k1 : Int) := by omega
  have c2 := hpb.c2
  have fr := hpb.free
  have hpl := hpb.lt
  obtain ⟨K, hK⟩ : ∃ K : Int, ((k1 + 1 : Nat) : Int) = K := ⟨_, rfl⟩
  rw [hK] at c2 q1 hpb
  have hn0 : ¬ ((k1 : Int) < 0) := by omega
  obtain ⟨X, hX⟩ : ∃ X, X = (W.setCell ⟨w0.heap.size, 2, none⟩ (.int .i64 (k1 : Int))).alloc (.cells #[.int .i64 kind, .int .i64 n, .int .i64 low, .int .i64 wide, .slice ka L kc, .slice kb L2 kc2] 46) := ⟨_, rfl⟩
  have HP0 := hide (show Pb w0.heap.size sv pv T X (k1 : Int) by rw [hX]; exact (hpb.set (k1 : Int)).later (bal (brf _) _))
  have HFX0 := hide (show Fx w0.heap.size W X by rw [hX]; exact (Fx.set w0.heap.size 2 W _).trans (Fx.of (bal (brf _) _)))
  have HBX := hide (Fx.below hbw (unhide HFX0) (Nat.le_refl _) hbw.size)
  have HXC : Hid (∀ V, Fx w0.heap.size X V → V.cell? ⟨W.heap.size, 0, none⟩ = some (.int .i64 kind) ∧ V.cell? ⟨W.heap.size, 1, none⟩ = some (.int .i64 n) ∧ V.cell? ⟨W.heap.size, 2, none⟩ = some (.int .i64 low) ∧ V.cell? ⟨W.heap.size, 3, none⟩ = some (.int .i64 wide) ∧ V.cell? ⟨W.heap.size, 4, none⟩ = some (.slice ka L kc) ∧ V.cell? ⟨W.heap.size, 5, none⟩ = some (.slice kb L2 kc2)) := hide (fun V hV => by
    have e : (W.setCell ⟨w0.heap.size, 2, none⟩ (.int .i64 (k1 : Int))).heap.size = W.heap.size := by simp
    have K := fun (i : Nat) (y : Value) (hy : (#[.int .i64 kind, .int .i64 n, .int .i64 low, .int .i64 wide, .slice ka L kc, .slice kb L2 kc2] : Array Value)[i]? = some y) => hV.cell (b := W.heap.size) (o := i) (v := y) (by rw [hX, ← e, World.cell?_alloc_new]; exact hy) (by omega)
    exact ⟨K 0 _ rfl, K 1 _ rfl, K 2 _ rfl, K 3 _ rfl, K 4 _ rfl, K 5 _ rfl⟩)
  have HXX := hide hX
  have HBW := hide hbw
  clear hX hpb hbw
  have hdq : -1000 ≤ deep ∧ deep ≤ 1000 := by omega
  go_enter Try.func12, Try.ntmps12
  go_wp2_with fail
  rw [← unhide HXX]
  clear hpl fr c2
  go_loopw [9] (fun i wr => ∃ j : Nat, j ≤ L ∧ i = .int .i64 j ∧ (es.take j).all (okEN sg d (deep + 1)) = true ∧ (∃ m : Nat, m + ((es.take j).map (cntEN d)).sum = k1 ∧ Pb w0.heap.size sv pv T wr (m : Int)) ∧ Fx w0.heap.size X wr) (fun i _ => L - (intOf i).toNat)
  case atStart => exact ⟨0, Nat.zero_le _, rfl, rfl, ⟨k1, by simp, unhide HP0⟩, Fx.refl _ _⟩
  case round =>
    obtain ⟨j, hj, rfl, hall, ⟨m, hm, hp⟩, hfx⟩ := hrel
    obtain ⟨q0, q1', q2, q3, q4, q5⟩ := unhide HXC wr hfx
    have HA := hide hall
    have HM0 := hide hm
    have HPB := hide hp
    have HFX1 := hide hfx
    have HBR := hide (Fx.below (unhide HBX) hfx (Nat.le_refl _) (unhide HBX).size)
    clear hall hp hfx
    by_cases hlt : j < L
    · obtain ⟨y, hy⟩ : ∃ y, es[j]? = some y := ⟨_, List.getElem?_eq_getElem (by rw [unhide HL1]; exact hlt)⟩
      obtain ⟨b, o, kc', uk, hv, hlc, hru, ⟨a', l', c', hue⟩, hat⟩ := unhide HOE j y hy wr (unhide HBR)
      injection hv with e1 e2 e3
      subst e1 e3
      have HC := hide ((unhide HIX) y uk (deep + 1) m wr hru (by omega) (by omega) (by omega) (unhide HPB) (unhide HBR))
      subst hue
      have k0 := hat.get (j := 0) rfl
      have k1' := hat.get (j := 1) rfl
      have k2' := hat.get (j := 2) rfl
      have k3 := hat.get (j := 3) rfl
      have k4 := hat.get (j := 4) rfl
      have k5 := hat.get (j := 5) rfl
      simp only [Nat.add_zero] at k0
      have HST := hide (sum_take (f := cntEN d) hy)
      have HSL := hide (sum_le (f := cntEN d) es (j + 1))
      have HAT := hide (all_takeE (p := okEN sg d (deep + 1)) hy)
      have HNO : Hid (okEN sg d (deep + 1) y = false → AE = false) := hide (fun h => by
        rw [← unhide HAE, ← Bool.not_eq_true]; intro h2
        have := List.all_eq_true.1 h2 y (List.mem_of_getElem? hy)
        rw [h] at this; cases this)
      have i1 : (0 : Int) ≤ (j : Int) := by omega
      have i2 : (j : Int) < (L : Int) := by omega
      obtain ⟨cy, hcy⟩ : ∃ c, cntEN d y = c := ⟨_, rfl⟩
      rw [hcy] at HC HST
      generalize y.op = z0 at *
      generalize y.width = z1 at *
      generalize y.n = z2 at *
      generalize y.signed = z3 at *
      generalize y.bits = z4 at *
      clear hat hru hy
      go_wp2_with fail
      refine (unhide HC).mono ?_
      rintro e V ⟨r, kk, rfl, hr, hrk, hpv, hfv⟩
      have HR := hide hr
      have HRK := hide hrk
      have HPV := hide hpv
      have HFV := hide ((unhide HFX1).trans hfv)
      clear hr hrk hpv hfv k0 k1' k2' k3 k4 k5 q0 q1' q2 q3 q4 q5
      cases r
      · have HRF : Hid (false = (((decide (deep ≤ 400) && IN) && (AE && (AK && FB))) && decide (1 + (CE + CK) ≤ k1 + 1))) := hide (by
          symm
          have h := (unhide HR).symm
          rw [Bool.and_eq_false_iff] at h
          rcases h with h | h
          · rw [unhide HNO h]; simp
          · have h1 := of_decide_eq_false h
            have h2 := unhide HST
            have h3 := unhide HSL
            have h4 := unhide HM0
            have h5 := unhide HCE
            rw [decide_eq_false (p := 1 + (CE + CK) ≤ k1 + 1) (by omega), Bool.and_false])
        have HF2 := hide ((unhide HFX0).trans (unhide HFV))
        clear HR HRK HNO HST HSL HIH HIX HF HXC HXX HCK HAK HCE HAE HOP HOE HC HL HL1 HA HAT HSG HXR
        go_wp2_with fail
        exact bodyPost_ret (v := .bool false) (by simp [results, Try.results12, go_sem]) rfl ⟨false, _, rfl, unhide HRF, fun h => (by cases h), unhide HPV, unhide HF2⟩
      · have HA2 : Hid ((es.take (j + 1)).all (okEN sg d (deep + 1)) = true) := hide (by
          have h := (unhide HR).symm
          rw [Bool.and_eq_true] at h
          rw [unhide HAT, unhide HA, h.1]; rfl)
        have HM2 : Hid (∃ m' : Nat, m' + ((es.take (j + 1)).map (cntEN d)).sum = k1 ∧ Pb w0.heap.size sv pv T V (m' : Int)) := hide (by
          have h := (unhide HR).symm
          rw [Bool.and_eq_true] at h
          have h1 := of_decide_eq_true h.2
          have h4 := unhide HM0
          have h2 := unhide HST
          refine ⟨m - cy, by omega, ?_⟩
          have h5 := unhide HPV
          rw [unhide HRK rfl] at h5
          rw [show (((m - cy : Nat) : Int)) = (m : Int) - (cy : Nat) by omega]
          exact h5)
        clear HR HRK HNO HST HSL HIH HIX HF HXC HXX HCK HAK HCE HAE HOP HOE HC HL HL1 HA HAT HSG HXR
        go_wp2_with fail
        go_roundw
        case rel => exact ⟨j + 1, by omega, by go_num, unhide HA2, unhide HM2, unhide HFV⟩
        case measure => simp [intOf]; omega
    · obtain rfl : L = j := by omega
      have hAE : AE = true := by
        have h := unhide HA
        rw [List.take_of_length_le (by rw [unhide HL1]; exact Nat.le_refl _), unhide HAE] at h
        exact h
      have hSE : m + CE = k1 := by
        have h := unhide HM0
        rwa [List.take_of_length_le (by rw [unhide HL1]; exact Nat.le_refl _), unhide HCE] at h
      have HKW : Hid (∀ y ∈ es.map (·.width), 1 ≤ y ∧ y ≤ 64) := hide (fun y hy => by
        obtain ⟨z, hz, rfl⟩ := List.mem_map.1 hy
        have h := unhide HAE
        rw [hAE] at h
        exact okEN_width (List.all_eq_true.1 h z hz))
      subst hAE
      subst hSE
      clear HCE HAE HIX HOE HA HM0
      go_wp2_with fail
      clear q0 q1' q2 q3 q4 q5
      obtain ⟨W1, rfl⟩ : ∃ W1, W1 = wr := ⟨wr, rfl⟩
      go_loopw [10] (fun i wr => ∃ j : Nat, j ≤ L2 ∧ i = .int .i64 j ∧ (xs.take j).all (okSN sg (stOf 5) (setOf 5) d (deep + 1)) = true ∧ (∃ m' : Nat, m' + ((xs.take j).map (cntSN d)).sum = m ∧ Pb w0.heap.size sv pv T wr (m' : Int)) ∧ Fx w0.heap.size X wr) (fun i _ => L2 - (intOf i).toNat)
      case atStart => exact ⟨0, Nat.zero_le _, rfl, rfl, ⟨m, by simp, unhide HPB⟩, unhide HFX1⟩
      case round =>
        clear HPB HFX1 HBR
        obtain ⟨j, hj, rfl, hall, ⟨m', hm, hp⟩, hfx⟩ := hrel
        obtain ⟨q0, q1', q2, q3, q4, q5⟩ := unhide HXC wr hfx
        have HA := hide hall
        have HM0 := hide hm
        have HPB := hide hp
        have HFX1 := hide hfx
        have HBR := hide (Fx.below (unhide HBX) hfx (Nat.le_refl _) (unhide HBX).size)
        clear hall hp hfx
        by_cases hlt : j < L2
        · obtain ⟨y, hy⟩ : ∃ y, xs[j]? = some y := ⟨_, List.getElem?_eq_getElem (by rw [unhide HL]; exact hlt)⟩
          obtain ⟨b, o, kc', uk, hv, hlc, hru, ⟨a', l', c', a'', l'', c'', hue⟩, hat⟩ := unhide HOP j y hy wr (unhide HBR)
          injection hv with e1 e2 e3
          subst e1 e3
          have HC := hide ((unhide HIH) y uk (deep + 1) m' wr hru (by omega) (by omega) (by omega) (unhide HPB) (unhide HBR))
          subst hue
          have k0 := hat.get (j := 0) rfl
          have k1' := hat.get (j := 1) rfl
          have k2' := hat.get (j := 2) rfl
          have k3 := hat.get (j := 3) rfl
          have k4 := hat.get (j := 4) rfl
          have k5 := hat.get (j := 5) rfl
          simp only [Nat.add_zero] at k0
          have HST := hide (sum_takeS (f := cntSN d) hy)
          have HSL := hide (sum_leS (f := cntSN d) xs (j + 1))
          have HAT := hide (all_takeS (p := okSN sg (stOf 5) (setOf 5) d (deep + 1)) hy)
          have HNO : Hid (okSN sg (stOf 5) (setOf 5) d (deep + 1) y = false → AK = false) := hide (fun h => by
            rw [← unhide HAK, ← Bool.not_eq_true]; intro h2
            have := List.all_eq_true.1 h2 y (List.mem_of_getElem? hy)
            rw [h] at this; cases this)
          have i1 : (0 : Int) ≤ (j : Int) := by omega
          have i2 : (j : Int) < (L2 : Int) := by omega
          obtain ⟨cy, hcy⟩ : ∃ c, cntSN d y = c := ⟨_, rfl⟩
          rw [hcy] at HC HST
          generalize y.kind = z0 at *
          generalize y.n = z1 at *
          generalize y.low = z2 at *
          generalize y.wide = z3 at *
          clear hat hru hy
          go_wp2_with fail
          refine (unhide HC).mono ?_
          rintro e V ⟨r, kk, rfl, hr, hrk, hpv, hfv⟩
          have HR := hide hr
          have HRK := hide hrk
          have HPV := hide hpv
          have HFV := hide ((unhide HFX1).trans hfv)
          clear hr hrk hpv hfv k0 k1' k2' k3 k4 k5 q0 q1' q2 q3 q4 q5
          cases r
          · have HRF : Hid (false = (((decide (deep ≤ 400) && IN) && (true && (AK && FB))) && decide (1 + (CE + CK) ≤ m + CE + 1))) := hide (by
              symm
              have h := (unhide HR).symm
              rw [Bool.and_eq_false_iff] at h
              rcases h with h | h
              · rw [unhide HNO h]; simp
              · have h1 := of_decide_eq_false h
                have h2 := unhide HST
                have h3 := unhide HSL
                have h4 := unhide HM0
                have h5 := unhide HCK
                rw [decide_eq_false (p := 1 + (CE + CK) ≤ m + CE + 1) (by omega), Bool.and_false])
            have HF2 := hide ((unhide HFX0).trans (unhide HFV))
            clear HR HRK HNO HST HSL HIH HF HXC HXX HCK HAK HOP HC HL HL1 HA HAT HSG HXR HKW
            go_wp2_with fail
            exact bodyPost_ret (v := .bool false) (by simp [results, Try.results12, go_sem]) rfl ⟨false, _, rfl, unhide HRF, fun h => (by cases h), unhide HPV, unhide HF2⟩
          · have HA2 : Hid ((xs.take (j + 1)).all (okSN sg (stOf 5) (setOf 5) d (deep + 1)) = true) := hide (by
              have h := (unhide HR).symm
              rw [Bool.and_eq_true] at h
              rw [unhide HAT, unhide HA, h.1]; rfl)
            have HM2 : Hid (∃ m'' : Nat, m'' + ((xs.take (j + 1)).map (cntSN d)).sum = m ∧ Pb w0.heap.size sv pv T V (m'' : Int)) := hide (by
              have h := (unhide HR).symm
              rw [Bool.and_eq_true] at h
              have h1 := of_decide_eq_true h.2
              have h4 := unhide HM0
              have h2 := unhide HST
              refine ⟨m' - cy, by omega, ?_⟩
              have h5 := unhide HPV
              rw [unhide HRK rfl] at h5
              rw [show (((m' - cy : Nat) : Int)) = (m' : Int) - (cy : Nat) by omega]
              exact h5)
            clear HR HRK HNO HST HSL HIH HF HXC HXX HCK HAK HOP HC HL HL1 HA HAT HSG HXR HKW
            go_wp2_with fail
            refine ⟨?_, ?measure⟩
            refine ⟨_, _, _, _, _, _, _, _, _, _, _, _, _, _, _, _, _, _, _, _, ?rel, rfl⟩
            case rel => exact ⟨j + 1, by omega, by go_num, unhide HA2, unhide HM2, unhide HFV⟩
            case measure => simp [intOf]; omega
        · obtain rfl : L2 = j := by omega
          have hAK : AK = true := by
            have h := unhide HA
            rw [List.take_of_length_le (by rw [unhide HL]; exact Nat.le_refl _), unhide HAK] at h
            exact h
          have hSE : m' + CK = m := by
            have h := unhide HM0
            rwa [List.take_of_length_le (by rw [unhide HL]; exact Nat.le_refl _), unhide HCK] at h
          subst hAK
          have HWF : Hid ((((decide (deep ≤ 400) && IN) && (true && (true && FB))) && decide (1 + (CE + CK) ≤ m + CE + 1)) = (IN && FB)) := hide (by
            rw [decide_eq_true hdp, decide_eq_true (show 1 + (CE + CK) ≤ m + CE + 1 by omega)]; simp)
          have HKE : Hid ((m' : Int) = ((m + CE + 1 : Nat) : Int) - ((1 + (CE + CK) : Nat) : Int)) := hide (by omega)
          have HFW := hide ((unhide HFX0).trans (unhide HFX1))
          clear HCK HAK HOP HIH HA HM0 HL HFX0 HFX1 HXX hSE
          have hkl : (es.map (fun x : Ex => x.width)).length = L := by rw [List.length_map, unhide HL1]
          obtain ⟨g1, g4, g5, g6, g7⟩ := formS_plain sg (setOf 5) n low wide (es.map (fun x : Ex => x.width)) L2 L hkl
          by_cases c1 : kind = 1
          · subst c1
            have HIN1 : Hid (IN = false) := hide ((unhide HIN).symm.trans (by decide))
            have HFB := hide ((unhide HF).symm.trans g1)
            clear g1 g4 g5 g6 g7
            by_cases hlo : low = 0
            rotate_left
            · have n1 : (low != 0) = true := bne_iff_ne.2 hlo
              have HQ := hide (show (IN && FB) = false from by rw [unhide HIN1]; rfl)
              clear HXC HIN HF HIN1 HFB HXR HKW HSG HL1
              go_wp2_with fail
              all_goals first
                | exact bodyPost_ret (v := .bool false) (by simp [results, Try.results12, go_sem]) rfl ⟨false, _, rfl, ((unhide HWF).trans (unhide HQ)).symm, fun h => (by cases h), unhide HPB, unhide HFW⟩
                | exact bodyPost_ret (v := .bool false) (by simp [results, Try.results12, go_sem]) rfl (.inl ⟨rfl, fun a b => (by have h := unhide HQ; rw [a, b] at h; cases h), ⟨_, unhide HPB⟩, unhide HFW⟩)
            subst hlo
            by_cases hwi : wide = 0
            rotate_left
            · have n1 : (wide != 0) = true := bne_iff_ne.2 hwi
              have HQ := hide (show (IN && FB) = false from by rw [unhide HIN1]; rfl)
              clear HXC HIN HF HIN1 HFB HXR HKW HSG HL1
              go_wp2_with fail
              all_goals first
                | exact bodyPost_ret (v := .bool false) (by simp [results, Try.results12, go_sem]) rfl ⟨false, _, rfl, ((unhide HWF).trans (unhide HQ)).symm, fun h => (by cases h), unhide HPB, unhide HFW⟩
                | exact bodyPost_ret (v := .bool false) (by simp [results, Try.results12, go_sem]) rfl (.inl ⟨rfl, fun a b => (by have h := unhide HQ; rw [a, b] at h; cases h), ⟨_, unhide HPB⟩, unhide HFW⟩)
            subst hwi
            by_cases hnn : n = 0
            rotate_left
            · have n1 : (n != 0) = true := bne_iff_ne.2 hnn
              have HQ := hide (show (IN && FB) = false from by rw [unhide HIN1]; rfl)
              clear HXC HIN HF HIN1 HFB HXR HKW HSG HL1
              go_wp2_with fail
              all_goals first
                | exact bodyPost_ret (v := .bool false) (by simp [results, Try.results12, go_sem]) rfl ⟨false, _, rfl, ((unhide HWF).trans (unhide HQ)).symm, fun h => (by cases h), unhide HPB, unhide HFW⟩
                | exact bodyPost_ret (v := .bool false) (by simp [results, Try.results12, go_sem]) rfl (.inl ⟨rfl, fun a b => (by have h := unhide HQ; rw [a, b] at h; cases h), ⟨_, unhide HPB⟩, unhide HFW⟩)
            subst hnn
            have HQ := hide (show (IN && FB) = false from by rw [unhide HIN1]; rfl)
            clear HXC HIN HF HIN1 HFB HXR HKW HSG HL1
            go_wp2_with fail
            all_goals first
              | exact bodyPost_ret (v := .bool false) (by simp [results, Try.results12, go_sem]) rfl ⟨false, _, rfl, ((unhide HWF).trans (unhide HQ)).symm, fun h => (by cases h), unhide HPB, unhide HFW⟩
              | exact bodyPost_ret (v := .bool false) (by simp [results, Try.results12, go_sem]) rfl (.inl ⟨rfl, fun a b => (by have h := unhide HQ; rw [a, b] at h; cases h), ⟨_, unhide HPB⟩, unhide HFW⟩)
          by_cases c2 : kind = 2
          · subst c2
            have HIN1 : Hid (IN = false) := hide ((unhide HIN).symm.trans (by decide))
            have HFB : Hid True := hide trivial
            clear g1 g4 g5 g6 g7
            have HQ := hide (show (IN && FB) = false from by rw [unhide HIN1]; rfl)
            clear HXC HIN HF HIN1 HFB HXR HKW HSG HL1
            go_wp2_with fail
            all_goals first
              | exact bodyPost_ret (v := .bool false) (by simp [results, Try.results12, go_sem]) rfl ⟨false, _, rfl, ((unhide HWF).trans (unhide HQ)).symm, fun h => (by cases h), unhide HPB, unhide HFW⟩
              | exact bodyPost_ret (v := .bool false) (by simp [results, Try.results12, go_sem]) rfl (.inl ⟨rfl, fun a b => (by have h := unhide HQ; rw [a, b] at h; cases h), ⟨_, unhide HPB⟩, unhide HFW⟩)
          by_cases c3 : kind = 3
          · subst c3
            have HIN1 : Hid (IN = false) := hide ((unhide HIN).symm.trans (by decide))
            have HFB : Hid True := hide trivial
            clear g1 g4 g5 g6 g7
            have HQ := hide (show (IN && FB) = false from by rw [unhide HIN1]; rfl)
            clear HXC HIN HF HIN1 HFB HXR HKW HSG HL1
            go_wp2_with fail
            all_goals first
              | exact bodyPost_ret (v := .bool false) (by simp [results, Try.results12, go_sem]) rfl ⟨false, _, rfl, ((unhide HWF).trans (unhide HQ)).symm, fun h => (by cases h), unhide HPB, unhide HFW⟩
              | exact bodyPost_ret (v := .bool false) (by simp [results, Try.results12, go_sem]) rfl (.inl ⟨rfl, fun a b => (by have h := unhide HQ; rw [a, b] at h; cases h), ⟨_, unhide HPB⟩, unhide HFW⟩)
          by_cases c4 : kind = 4
          · subst c4
            have HIN1 : Hid (IN = false) := hide ((unhide HIN).symm.trans (by decide))
            have HFB := hide ((unhide HF).symm.trans g4)
            clear g1 g4 g5 g6 g7
            by_cases hlo : low = 0
            rotate_left
            · have n1 : (low != 0) = true := bne_iff_ne.2 hlo
              have HQ := hide (show (IN && FB) = false from by rw [unhide HIN1]; rfl)
              clear HXC HIN HF HIN1 HFB HXR HKW HSG HL1
              go_wp2_with fail
              all_goals first
                | exact bodyPost_ret (v := .bool false) (by simp [results, Try.results12, go_sem]) rfl ⟨false, _, rfl, ((unhide HWF).trans (unhide HQ)).symm, fun h => (by cases h), unhide HPB, unhide HFW⟩
                | exact bodyPost_ret (v := .bool false) (by simp [results, Try.results12, go_sem]) rfl (.inl ⟨rfl, fun a b => (by have h := unhide HQ; rw [a, b] at h; cases h), ⟨_, unhide HPB⟩, unhide HFW⟩)
            subst hlo
            by_cases hwi : wide = 0
            rotate_left
            · have n1 : (wide != 0) = true := bne_iff_ne.2 hwi
              have HQ := hide (show (IN && FB) = false from by rw [unhide HIN1]; rfl)
              clear HXC HIN HF HIN1 HFB HXR HKW HSG HL1
              go_wp2_with fail
              all_goals first
                | exact bodyPost_ret (v := .bool false) (by simp [results, Try.results12, go_sem]) rfl ⟨false, _, rfl, ((unhide HWF).trans (unhide HQ)).symm, fun h => (by cases h), unhide HPB, unhide HFW⟩
                | exact bodyPost_ret (v := .bool false) (by simp [results, Try.results12, go_sem]) rfl (.inl ⟨rfl, fun a b => (by have h := unhide HQ; rw [a, b] at h; cases h), ⟨_, unhide HPB⟩, unhide HFW⟩)
            subst hwi
            by_cases hnn : n = 0
            rotate_left
            · have n1 : (n != 0) = true := bne_iff_ne.2 hnn
              have HQ := hide (show (IN && FB) = false from by rw [unhide HIN1]; rfl)
              clear HXC HIN HF HIN1 HFB HXR HKW HSG HL1
              go_wp2_with fail
              all_goals first
                | exact bodyPost_ret (v := .bool false) (by simp [results, Try.results12, go_sem]) rfl ⟨false, _, rfl, ((unhide HWF).trans (unhide HQ)).symm, fun h => (by cases h), unhide HPB, unhide HFW⟩
                | exact bodyPost_ret (v := .bool false) (by simp [results, Try.results12, go_sem]) rfl (.inl ⟨rfl, fun a b => (by have h := unhide HQ; rw [a, b] at h; cases h), ⟨_, unhide HPB⟩, unhide HFW⟩)
            subst hnn
            have HQ := hide (show (IN && FB) = false from by rw [unhide HIN1]; rfl)
            clear HXC HIN HF HIN1 HFB HXR HKW HSG HL1
            go_wp2_with fail
            all_goals first
              | exact bodyPost_ret (v := .bool false) (by simp [results, Try.results12, go_sem]) rfl ⟨false, _, rfl, ((unhide HWF).trans (unhide HQ)).symm, fun h => (by cases h), unhide HPB, unhide HFW⟩
              | exact bodyPost_ret (v := .bool false) (by simp [results, Try.results12, go_sem]) rfl (.inl ⟨rfl, fun a b => (by have h := unhide HQ; rw [a, b] at h; cases h), ⟨_, unhide HPB⟩, unhide HFW⟩)
          by_cases c5 : kind = 5
          · subst c5
            have HIN1 : Hid (IN = false) := hide ((unhide HIN).symm.trans (by decide))
            have HFB := hide ((unhide HF).symm.trans g5)
            clear g1 g4 g5 g6 g7
            by_cases hlo : low = 0
            rotate_left
            · have n1 : (low != 0) = true := bne_iff_ne.2 hlo
              have HQ := hide (show (IN && FB) = false from by rw [unhide HIN1]; rfl)
              clear HXC HIN HF HIN1 HFB HXR HKW HSG HL1
              go_wp2_with fail
              all_goals first
                | exact bodyPost_ret (v := .bool false) (by simp [results, Try.results12, go_sem]) rfl ⟨false, _, rfl, ((unhide HWF).trans (unhide HQ)).symm, fun h => (by cases h), unhide HPB, unhide HFW⟩
                | exact bodyPost_ret (v := .bool false) (by simp [results, Try.results12, go_sem]) rfl (.inl ⟨rfl, fun a b => (by have h := unhide HQ; rw [a, b] at h; cases h), ⟨_, unhide HPB⟩, unhide HFW⟩)
            subst hlo
            by_cases hwi : wide = 0
            rotate_left
            · have n1 : (wide != 0) = true := bne_iff_ne.2 hwi
              have HQ := hide (show (IN && FB) = false from by rw [unhide HIN1]; rfl)
              clear HXC HIN HF HIN1 HFB HXR HKW HSG HL1
              go_wp2_with fail
              all_goals first
                | exact bodyPost_ret (v := .bool false) (by simp [results, Try.results12, go_sem]) rfl ⟨false, _, rfl, ((unhide HWF).trans (unhide HQ)).symm, fun h => (by cases h), unhide HPB, unhide HFW⟩
                | exact bodyPost_ret (v := .bool false) (by simp [results, Try.results12, go_sem]) rfl (.inl ⟨rfl, fun a b => (by have h := unhide HQ; rw [a, b] at h; cases h), ⟨_, unhide HPB⟩, unhide HFW⟩)
            subst hwi
            have HQ := hide (show (IN && FB) = false from by rw [unhide HIN1]; rfl)
            clear HXC HIN HF HIN1 HFB HXR HKW HSG HL1
            go_wp2_with fail
            all_goals first
              | exact bodyPost_ret (v := .bool false) (by simp [results, Try.results12, go_sem]) rfl ⟨false, _, rfl, ((unhide HWF).trans (unhide HQ)).symm, fun h => (by cases h), unhide HPB, unhide HFW⟩
              | exact bodyPost_ret (v := .bool false) (by simp [results, Try.results12, go_sem]) rfl (.inl ⟨rfl, fun a b => (by have h := unhide HQ; rw [a, b] at h; cases h), ⟨_, unhide HPB⟩, unhide HFW⟩)
          by_cases c6 : kind = 6
          · subst c6
            have HIN1 : Hid (IN = false) := hide ((unhide HIN).symm.trans (by decide))
            have HFB := hide ((unhide HF).symm.trans g6)
            clear g1 g4 g5 g6 g7
            by_cases hlo : low = 0
            rotate_left
            · have n1 : (low != 0) = true := bne_iff_ne.2 hlo
              have HQ := hide (show (IN && FB) = false from by rw [unhide HIN1]; rfl)
              clear HXC HIN HF HIN1 HFB HXR HKW HSG HL1
              go_wp2_with fail
              all_goals first
                | exact bodyPost_ret (v := .bool false) (by simp [results, Try.results12, go_sem]) rfl ⟨false, _, rfl, ((unhide HWF).trans (unhide HQ)).symm, fun h => (by cases h), unhide HPB, unhide HFW⟩
                | exact bodyPost_ret (v := .bool false) (by simp [results, Try.results12, go_sem]) rfl (.inl ⟨rfl, fun a b => (by have h := unhide HQ; rw [a, b] at h; cases h), ⟨_, unhide HPB⟩, unhide HFW⟩)
            subst hlo
            by_cases hwi : wide = 0
            rotate_left
            · have n1 : (wide != 0) = true := bne_iff_ne.2 hwi
              have HQ := hide (show (IN && FB) = false from by rw [unhide HIN1]; rfl)
              clear HXC HIN HF HIN1 HFB HXR HKW HSG HL1
              go_wp2_with fail
              all_goals first
                | exact bodyPost_ret (v := .bool false) (by simp [results, Try.results12, go_sem]) rfl ⟨false, _, rfl, ((unhide HWF).trans (unhide HQ)).symm, fun h => (by cases h), unhide HPB, unhide HFW⟩
                | exact bodyPost_ret (v := .bool false) (by simp [results, Try.results12, go_sem]) rfl (.inl ⟨rfl, fun a b => (by have h := unhide HQ; rw [a, b] at h; cases h), ⟨_, unhide HPB⟩, unhide HFW⟩)
            subst hwi
            by_cases hnn : n = 0
            rotate_left
            · have n1 : (n != 0) = true := bne_iff_ne.2 hnn
              have HQ := hide (show (IN && FB) = false from by rw [unhide HIN1]; rfl)
              clear HXC HIN HF HIN1 HFB HXR HKW HSG HL1
              go_wp2_with fail
              all_goals first
                | exact bodyPost_ret (v := .bool false) (by simp [results, Try.results12, go_sem]) rfl ⟨false, _, rfl, ((unhide HWF).trans (unhide HQ)).symm, fun h => (by cases h), unhide HPB, unhide HFW⟩
                | exact bodyPost_ret (v := .bool false) (by simp [results, Try.results12, go_sem]) rfl (.inl ⟨rfl, fun a b => (by have h := unhide HQ; rw [a, b] at h; cases h), ⟨_, unhide HPB⟩, unhide HFW⟩)
            subst hnn
            have HQ := hide (show (IN && FB) = false from by rw [unhide HIN1]; rfl)
            clear HXC HIN HF HIN1 HFB HXR HKW HSG HL1
            go_wp2_with fail
            all_goals first
              | exact bodyPost_ret (v := .bool false) (by simp [results, Try.results12, go_sem]) rfl ⟨false, _, rfl, ((unhide HWF).trans (unhide HQ)).symm, fun h => (by cases h), unhide HPB, unhide HFW⟩
              | exact bodyPost_ret (v := .bool false) (by simp [results, Try.results12, go_sem]) rfl (.inl ⟨rfl, fun a b => (by have h := unhide HQ; rw [a, b] at h; cases h), ⟨_, unhide HPB⟩, unhide HFW⟩)
          by_cases c7 : kind = 7
          · subst c7
            have HIN1 : Hid (IN = true) := hide ((unhide HIN).symm.trans (by decide))
            have HFB := hide ((unhide HF).symm.trans g7)
            clear g1 g4 g5 g6 g7
            by_cases hlo : low = 0
            rotate_left
            · have n1 : (low != 0) = true := bne_iff_ne.2 hlo
              have HQ := hide (show (IN && FB) = false from by rw [unhide HIN1, unhide HFB]; simp [plainB, hlo])
              clear HXC HIN HF HIN1 HFB HXR HKW HSG HL1
              go_wp2_with fail
              all_goals first
                | exact bodyPost_ret (v := .bool false) (by simp [results, Try.results12, go_sem]) rfl ⟨false, _, rfl, ((unhide HWF).trans (unhide HQ)).symm, fun h => (by cases h), unhide HPB, unhide HFW⟩
                | exact bodyPost_ret (v := .bool false) (by simp [results, Try.results12, go_sem]) rfl (.inl ⟨rfl, fun a b => (by have h := unhide HQ; rw [a, b] at h; cases h), ⟨_, unhide HPB⟩, unhide HFW⟩)
            subst hlo
            by_cases hwi : wide = 0
            rotate_left
            · have n1 : (wide != 0) = true := bne_iff_ne.2 hwi
              have HQ := hide (show (IN && FB) = false from by rw [unhide HIN1, unhide HFB]; simp [plainB, hwi])
              clear HXC HIN HF HIN1 HFB HXR HKW HSG HL1
              go_wp2_with fail
              all_goals first
                | exact bodyPost_ret (v := .bool false) (by simp [results, Try.results12, go_sem]) rfl ⟨false, _, rfl, ((unhide HWF).trans (unhide HQ)).symm, fun h => (by cases h), unhide HPB, unhide HFW⟩
                | exact bodyPost_ret (v := .bool false) (by simp [results, Try.results12, go_sem]) rfl (.inl ⟨rfl, fun a b => (by have h := unhide HQ; rw [a, b] at h; cases h), ⟨_, unhide HPB⟩, unhide HFW⟩)
            subst hwi
            by_cases hnn : n = 0
            rotate_left
            · have n1 : (n != 0) = true := bne_iff_ne.2 hnn
              have HQ := hide (show (IN && FB) = false from by rw [unhide HIN1, unhide HFB]; simp [plainB, hnn])
              clear HXC HIN HF HIN1 HFB HXR HKW HSG HL1
              go_wp2_with fail
              all_goals first
                | exact bodyPost_ret (v := .bool false) (by simp [results, Try.results12, go_sem]) rfl ⟨false, _, rfl, ((unhide HWF).trans (unhide HQ)).symm, fun h => (by cases h), unhide HPB, unhide HFW⟩
                | exact bodyPost_ret (v := .bool false) (by simp [results, Try.results12, go_sem]) rfl (.inl ⟨rfl, fun a b => (by have h := unhide HQ; rw [a, b] at h; cases h), ⟨_, unhide HPB⟩, unhide HFW⟩)
            subst hnn
            by_cases hl : L = 1
            rotate_left
            · have n1 : ((L : Int) == 1) = false := beq_eq_false_iff_ne.2 (by omega)
              have HQ := hide (show (IN && FB) = false from by rw [unhide HIN1, unhide HFB]; simp [plainB, hl, show ¬ ((L : Int) = 1) from by omega])
              clear HXC HIN HF HIN1 HFB HXR HKW HSG HL1
              go_wp2_with fail
              all_goals first
                | exact bodyPost_ret (v := .bool false) (by simp [results, Try.results12, go_sem]) rfl ⟨false, _, rfl, ((unhide HWF).trans (unhide HQ)).symm, fun h => (by cases h), unhide HPB, unhide HFW⟩
                | exact bodyPost_ret (v := .bool false) (by simp [results, Try.results12, go_sem]) rfl (.inl ⟨rfl, fun a b => (by have h := unhide HQ; rw [a, b] at h; cases h), ⟨_, unhide HPB⟩, unhide HFW⟩)
            have n1 : ((L : Int) == 1) = true := by simp [hl]
            have HQ := hide (show (IN && FB) = ((L2 : Int) == 0) from by rw [unhide HIN1, unhide HFB]; simp [plainB, hl] <;> first | rfl | (rw [Bool.eq_iff_iff]; simp) | (rw [Bool.eq_iff_iff]; simp; omega))
            clear HXC HIN HF HIN1 HFB HXR HKW HSG HL1
            go_wp2_with fail
            all_goals exact bodyPost_ret (v := .bool ((L2 : Int) == 0)) (by simp [results, Try.results12, go_sem] <;> omega) rfl ⟨((L2 : Int) == 0), _, rfl, ((unhide HWF).trans (unhide HQ)).symm, fun _ => unhide HKE, unhide HPB, unhide HFW⟩
          have HIN1 : Hid (IN = false) := hide ((unhide HIN).symm.trans (inSet_out (stOf 5) kind (stOf_bits 5) c1 c2 c3 c4 c5 c6 c7))
          have HFB : Hid True := hide trivial
          clear g1 g4 g5 g6 g7
          have f1 : (kind == 1) = false := beq_eq_false_iff_ne.2 c1
          have f2 : (kind == 2) = false := beq_eq_false_iff_ne.2 c2
          have f3 : (kind == 3) = false := beq_eq_false_iff_ne.2 c3
          have f4 : (kind == 4) = false := beq_eq_false_iff_ne.2 c4
          have f5 : (kind == 5) = false := beq_eq_false_iff_ne.2 c5
          have f6 : (kind == 6) = false := beq_eq_false_iff_ne.2 c6
          have f7 : (kind == 7) = false := beq_eq_false_iff_ne.2 c7
          have m5 : (kind != 5) = true := bne_iff_ne.2 c5
          by_cases hlo : low = 0
          rotate_left
          · have n1 : (low != 0) = true := bne_iff_ne.2 hlo
            have HQ := hide (show (IN && FB) = false from by rw [unhide HIN1]; rfl)
            clear HXC HIN HF HIN1 HFB HXR HKW HSG HL1
            go_wp2_with fail
            all_goals first
              | exact bodyPost_ret (v := .bool false) (by simp [results, Try.results12, go_sem]) rfl ⟨false, _, rfl, ((unhide HWF).trans (unhide HQ)).symm, fun h => (by cases h), unhide HPB, unhide HFW⟩
              | exact bodyPost_ret (v := .bool false) (by simp [results, Try.results12, go_sem]) rfl (.inl ⟨rfl, fun a b => (by have h := unhide HQ; rw [a, b] at h; cases h), ⟨_, unhide HPB⟩, unhide HFW⟩)
          subst hlo
          by_cases hwi : wide = 0
          rotate_left
          · have n1 : (wide != 0) = true := bne_iff_ne.2 hwi
            have HQ := hide (show (IN && FB) = false from by rw [unhide HIN1]; rfl)
            clear HXC HIN HF HIN1 HFB HXR HKW HSG HL1
            go_wp2_with fail
            all_goals first
              | exact bodyPost_ret (v := .bool false) (by simp [results, Try.results12, go_sem]) rfl ⟨false, _, rfl, ((unhide HWF).trans (unhide HQ)).symm, fun h => (by cases h), unhide HPB, unhide HFW⟩
              | exact bodyPost_ret (v := .bool false) (by simp [results, Try.results12, go_sem]) rfl (.inl ⟨rfl, fun a b => (by have h := unhide HQ; rw [a, b] at h; cases h), ⟨_, unhide HPB⟩, unhide HFW⟩)
          subst hwi
          by_cases hnn : n = 0
          rotate_left
          · have n1 : (n != 0) = true := bne_iff_ne.2 hnn
            have HQ := hide (show (IN && FB) = false from by rw [unhide HIN1]; rfl)
            clear HXC HIN HF HIN1 HFB HXR HKW HSG HL1
            go_wp2_with fail
            all_goals first
              | exact bodyPost_ret (v := .bool false) (by simp [results, Try.results12, go_sem]) rfl ⟨false, _, rfl, ((unhide HWF).trans (unhide HQ)).symm, fun h => (by cases h), unhide HPB, unhide HFW⟩
              | exact bodyPost_ret (v := .bool false) (by simp [results, Try.results12, go_sem]) rfl (.inl ⟨rfl, fun a b => (by have h := unhide HQ; rw [a, b] at h; cases h), ⟨_, unhide HPB⟩, unhide HFW⟩)
          subst hnn
          have HQ := hide (show (IN && FB) = false from by rw [unhide HIN1]; rfl)
          clear HXC HIN HF HIN1 HFB HXR HKW HSG HL1
          go_wp2_with fail
          all_goals first
            | exact bodyPost_ret (v := .bool false) (by simp [results, Try.results12, go_sem]) rfl ⟨false, _, rfl, ((unhide HWF).trans (unhide HQ)).symm, fun h => (by cases h), unhide HPB, unhide HFW⟩
            | exact bodyPost_ret (v := .bool false) (by simp [results, Try.results12, go_sem]) rfl (.inl ⟨rfl, fun a b => (by have h := unhide HQ; rw [a, b] at h; cases h), ⟨_, unhide HPB⟩, unhide HFW⟩)
end Go.Proofs.Ytgkfhaahcedbpaa
