/- The specification's st: a step of depth. -/
import Derived.Test.YtgkfhaahcedbpaaGSF2
namespace Go.Proofs.Ytgkfhaahcedbpaa
open Go Go.RowKit Gs
set_option linter.unusedVariables false
set_option linter.unusedSimpArgs false
set_option maxRecDepth 100000

set_option maxHeartbeats 32000000 in
theorem sStStep3k3 (sg : List Signal) (w0 : World) (sv pv : Value) (T : TypeId) (d : Nat) (hsg : RS 6 RSignal w0 0 sg sv) (hsl : sg.length ≤ 1048576) (hsw : ∀ g ∈ sg, 1 ≤ g.width ∧ g.width ≤ 64) (IX : ExC sg w0 sv pv T d) (IH : StC sg 3 w0 sv pv T d) : StCr sg 3 w0 sv pv T (d + 1) (fun k => k = 3) := by
  intro x u deep k W hKD hr hd1 hd2 hk hpb hbw
  obtain ⟨v4, v5, rfl, hxr, hkr⟩ := hr
  have HXR := hide hxr
  have hlk := hkr.len
  have hlx := hxr.len
  have HLM := hide (show x.exs.length ≤ maxLen ∧ x.kids.length ≤ maxLen from ⟨hlx, hlk⟩)
  unfold maxLen at hlk hlx
  have HOE := hide (fun (j : Nat) (y : Ex) (hy : x.exs[j]? = some y) (V : World) (hV : Below w0.heap.size w0 V) => (show ∃ b o kc uk, v4 = .slice (some ⟨b, o, none⟩) x.exs.length kc ∧ x.exs.length ≤ kc ∧ RExN d w0 0 y uk ∧ (∃ a' l' c', uk = [.int .i64 y.op, .int .i64 y.width, .int .i64 y.n, .bool y.signed, .string y.bits, .slice a' l' c']) ∧ At V b (o + j * 6) uk from by
    rcases hxr.open with ⟨hnil, _⟩ | ⟨b, o, kc, e, hlc, _, _, hcs⟩
    · rw [hnil] at hy; simp at hy
    · obtain ⟨uk, _, hat, hu⟩ := hcs j y hy
      obtain ⟨v6, e6, _, d', h6⟩ := hu.cells
      obtain ⟨a', c', e7⟩ := h6.slice
      exact ⟨b, o, kc, uk, e, hlc, hu, ⟨a', _, c', by rw [e6, e7]⟩, fun i z hz => cell_later hV (hat i z hz)⟩))
  have HOP := hide (fun (j : Nat) (y : St) (hy : x.kids[j]? = some y) (V : World) (hV : Below w0.heap.size w0 V) => (show ∃ b o kc uk, v5 = .slice (some ⟨b, o, none⟩) x.kids.length kc ∧ x.kids.length ≤ kc ∧ RStN d w0 0 y uk ∧ (∃ a' l' c' a'' l'' c'', uk = [.int .i64 y.kind, .int .i64 y.n, .int .i64 y.low, .int .i64 y.wide, .slice a' l' c', .slice a'' l'' c'']) ∧ At V b (o + j * 6) uk from by
    rcases hkr.open with ⟨hnil, _⟩ | ⟨b, o, kc, e, hlc, _, _, hcs⟩
    · rw [hnil] at hy; simp at hy
    · obtain ⟨uk, _, hat, hu⟩ := hcs j y hy
      obtain ⟨v6, v7, e6, ⟨d', h6⟩, d'', h7⟩ := hu.cells
      obtain ⟨a', c', e8⟩ := h6.slice
      obtain ⟨a'', c'', e9⟩ := h7.slice
      exact ⟨b, o, kc, uk, e, hlc, hu, ⟨a', _, c', a'', _, c'', by rw [e6, e8, e9]⟩, fun i z hz => cell_later hV (hat i z hz)⟩))
  obtain ⟨ka, kc, rfl⟩ := hxr.slice
  obtain ⟨kb, kc2, rfl⟩ := hkr.slice
  clear hkr hxr
  have hck : cntSN (d + 1) x = 1 + ((x.exs.map (cntEN d)).sum + (x.kids.map (cntSN d)).sum) := rfl
  have hok : okSN sg (stOf 3) (setOf 3) (d + 1) deep x = ((decide (deep ≤ 400) && inSet (stOf 3) x.kind) && (x.exs.all (okEN sg d (deep + 1)) && (x.kids.all (okSN sg (stOf 3) (setOf 3) d (deep + 1)) && formS sg (setOf 3) x.kind x.n x.low x.wide (x.exs.map (·.width)) x.kids.length))) := rfl
  by_cases hbad : k = 0 ∨ 400 < deep
  · refine (sStNo w0 sv pv T 3 x.kind x.n x.low x.wide ka kb x.exs.length x.kids.length kc kc2 deep k W hk hpb hbad).mono ?_
    rintro e W' ⟨rfl, h1, h2⟩
    refine ⟨false, _, rfl, ?_, fun h => (by cases h), h1, h2⟩
    symm
    rw [Bool.and_eq_false_iff]
    rcases hbad with h | h
    · right; rw [hck]; exact decide_eq_false (by omega)
    · left; rw [hok, decide_eq_false (p := deep ≤ 400) (by omega)]; rfl
  have hk1 : 1 ≤ k := by omega
  have hdp : deep ≤ 400 := by omega
  clear hbad
  obtain ⟨FB, hFB⟩ : ∃ FB, formS sg (setOf 3) x.kind x.n x.low x.wide (x.exs.map (·.width)) x.kids.length = FB := ⟨_, rfl⟩
  obtain ⟨IN, hIN⟩ : ∃ IN, inSet (stOf 3) x.kind = IN := ⟨_, rfl⟩
  rw [hck, hok, hFB, hIN]
  have HF := hide hFB
  have HIN := hide hIN
  clear hok hck hFB hIN
  obtain ⟨k1, rfl⟩ : ∃ k1, k = k1 + 1 := ⟨k - 1, by omega⟩
  have HIH := hide IH
  have HIX := hide IX
  have HSG := hide hsg
  clear IH IX hsg
  obtain ⟨xs, hxs⟩ : ∃ xs, x.kids = xs := ⟨_, rfl⟩
  rw [hxs] at HOP HF HLM hlk ⊢
  clear hxs
  obtain ⟨es, hes⟩ : ∃ es, x.exs = es := ⟨_, rfl⟩
  rw [hes] at HOE HF HLM HXR hlx ⊢
  clear hes
  generalize x.kind = kind at *
  have HKD := hide hKD
  clear hKD
  generalize x.n = n at *
  generalize x.low = low at *
  generalize x.wide = wide at *
  obtain ⟨L, hL⟩ : ∃ L, es.length = L := ⟨_, rfl⟩
  have HL1 := hide hL
  rw [hL] at HOE HLM hlx HXR ⊢
  clear hL
  obtain ⟨L2, hL2⟩ : ∃ L, xs.length = L := ⟨_, rfl⟩
  have HL := hide hL2
  rw [hL2] at HOP HF HLM hlk ⊢
  clear hL2
  obtain ⟨CE, hCE⟩ : ∃ c, (es.map (cntEN d)).sum = c := ⟨_, rfl⟩
  obtain ⟨AE, hAE⟩ : ∃ c, es.all (okEN sg d (deep + 1)) = c := ⟨_, rfl⟩
  obtain ⟨CK, hCK⟩ : ∃ c, (xs.map (cntSN d)).sum = c := ⟨_, rfl⟩
  obtain ⟨AK, hAK⟩ : ∃ c, xs.all (okSN sg (stOf 3) (setOf 3) d (deep + 1)) = c := ⟨_, rfl⟩
  have HCK := hide hCK
  have HAK := hide hAK
  have HCE := hide hCE
  have HAE := hide hAE
  rw [hCK, hAK, hCE, hAE]
  clear hCK hAK hCE hAE
  have q1 : (((k1 + 1 : Nat) : Int)) - 1 = (k1 : Int) := by omega
  have c2 := hpb.c2
  have fr := hpb.free
  have hpl := hpb.lt
  obtain ⟨K, hK⟩ : ∃ K : Int, ((k1 + 1 : Nat) : Int) = K := ⟨_, rfl⟩
  rw [hK] at c2 q1 hpb
  have hn0 : ¬ ((k1 : Int) < 0) := by omega
  obtain ⟨X, hX⟩ : ∃ X, X = (W.setCell ⟨w0.heap.size, 2, none⟩ (.int .i64 (k1 : Int))).alloc (.cells #[.int .i64 kind, .int .i64 n, .int .i64 low, .int .i64 wide, .slice ka L kc, .slice kb L2 kc2] 46) := ⟨_, rfl⟩
  have HP0 := hide (show Pb w0.heap.size sv pv T X (k1 : Int) by rw [hX]; exact (hpb.set (k1 : Int)).later (bal (brf _) _))
  have HFX0 := hide (show Fx w0.heap.size W X by rw [hX]; exact (Fx.set w0.heap.size 2 W _).trans (Fx.of (bal (brf _) _)))
  have HBX := hide (Fx.below hbw (unhide HFX0) (Nat.le_refl _) hbw.size)
  have HXC : Hid (∀ V, Fx w0.heap.size X V → V.cell? ⟨W.heap.size, 0, none⟩ = some (.int .i64 kind) ∧ V.cell? ⟨W.heap.size, 1, none⟩ = some (.int .i64 n) ∧ V.cell? ⟨W.heap.size, 2, none⟩ = some (.int .i64 low) ∧ V.cell? ⟨W.heap.size, 3, none⟩ = some (.int .i64 wide) ∧ V.cell? ⟨W.heap.size, 4, none⟩ = some (.slice ka L kc) ∧ V.cell? ⟨W.heap.size, 5, none⟩ = some (.slice kb L2 kc2)) := hide (fun V hV => by
    have e : (W.setCell ⟨w0.heap.size, 2, none⟩ (.int .i64 (k1 : Int))).heap.size = W.heap.size := by simp
    have K := fun (i : Nat) (y : Value) (hy : (#[.int .i64 kind, .int .i64 n, .int .i64 low, .int .i64 wide, .slice ka L kc, .slice kb L2 kc2] : Array Value)[i]? = some y) => hV.cell (b := W.heap.size) (o := i) (v := y) (by rw [hX, ← e, World.cell?_alloc_new]; exact hy) (by omega)
    exact ⟨K 0 _ rfl, K 1 _ rfl, K 2 _ rfl, K 3 _ rfl, K 4 _ rfl, K 5 _ rfl⟩)
  have HXX := hide hX
  have HBW := hide hbw
  clear hX hpb hbw
  have hdq : -1000 ≤ deep ∧ deep ≤ 1000 := by omega
  go_enter Try.func12, Try.ntmps12
  go_wp2_with fail
  rw [← unhide HXX]
  clear hpl fr c2
  go_loopw [9] (fun i wr => ∃ j : Nat, j ≤ L ∧ i = .int .i64 j ∧ (es.take j).all (okEN sg d (deep + 1)) = true ∧ (∃ m : Nat, m + ((es.take j).map (cntEN d)).sum = k1 ∧ Pb w0.heap.size sv pv T wr (m : Int)) ∧ Fx w0.heap.size X wr) (fun i _ => L - (intOf i).toNat)
  case atStart => exact ⟨0, Nat.zero_le _, rfl, rfl, ⟨k1, by simp, unhide HP0⟩, Fx.refl _ _⟩
  case round =>
    obtain ⟨j, hj, rfl, hall, ⟨m, hm, hp⟩, hfx⟩ := hrel
    obtain ⟨q0, q1', q2, q3, q4, q5⟩ := unhide HXC wr hfx
    have HA := hide hall
    have HM0 := hide hm
    have HPB := hide hp
    have HFX1 := hide hfx
    have HBR := hide (Fx.below (unhide HBX) hfx (Nat.le_refl _) (unhide HBX).size)
    clear hall hp hfx
    by_cases hlt : j < L
    · obtain ⟨y, hy⟩ : ∃ y, es[j]? = some y := ⟨_, List.getElem?_eq_getElem (by rw [unhide HL1]; exact hlt)⟩
      obtain ⟨b, o, kc', uk, hv, hlc, hru, ⟨a', l', c', hue⟩, hat⟩ := unhide HOE j y hy wr (unhide HBR)
      injection hv with e1 e2 e3
      subst e1 e3
      have HC := hide ((unhide HIX) y uk (deep + 1) m wr hru (by omega) (by omega) (by omega) (unhide HPB) (unhide HBR))
      subst hue
      have k0 := hat.get (j := 0) rfl
      have k1' := hat.get (j := 1) rfl
      have k2' := hat.get (j := 2) rfl
      have k3 := hat.get (j := 3) rfl
      have k4 := hat.get (j := 4) rfl
      have k5 := hat.get (j := 5) rfl
      simp only [Nat.add_zero] at k0
      have HST := hide (sum_take (f := cntEN d) hy)
      have HSL := hide (sum_le (f := cntEN d) es (j + 1))
      have HAT := hide (all_takeE (p := okEN sg d (deep + 1)) hy)
      have HNO : Hid (okEN sg d (deep + 1) y = false → AE = false) := hide (fun h => by
        rw [← unhide HAE, ← Bool.not_eq_true]; intro h2
        have := List.all_eq_true.1 h2 y (List.mem_of_getElem? hy)
        rw [h] at this; cases this)
      have i1 : (0 : Int) ≤ (j : Int) := by omega
      have i2 : (j : Int) < (L : Int) := by omega
      obtain ⟨cy, hcy⟩ : ∃ c, cntEN d y = c := ⟨_, rfl⟩
      rw [hcy] at HC HST
      generalize y.op = z0 at *
      generalize y.width = z1 at *
      generalize y.n = z2 at *
      generalize y.signed = z3 at *
      generalize y.bits = z4 at *
      clear hat hru hy
      go_wp2_with fail
      refine (unhide HC).mono ?_
      rintro e V ⟨r, kk, rfl, hr, hrk, hpv, hfv⟩
      have HR := hide hr
      have HRK := hide hrk
      have HPV := hide hpv
      have HFV := hide ((unhide HFX1).trans hfv)
      clear hr hrk hpv hfv k0 k1' k2' k3 k4 k5 q0 q1' q2 q3 q4 q5
      cases r
      · have HRF : Hid (false = (((decide (deep ≤ 400) && IN) && (AE && (AK && FB))) && decide (1 + (CE + CK) ≤ k1 + 1))) := hide (by
          symm
          have h := (unhide HR).symm
          rw [Bool.and_eq_false_iff] at h
          rcases h with h | h
          · rw [unhide HNO h]; simp
          · have h1 := of_decide_eq_false h
            have h2 := unhide HST
            have h3 := unhide HSL
            have h4 := unhide HM0
            have h5 := unhide HCE
            rw [decide_eq_false (p := 1 + (CE + CK) ≤ k1 + 1) (by omega), Bool.and_false])
        have HF2 := hide ((unhide HFX0).trans (unhide HFV))
        clear HR HRK HNO HST HSL HIH HIX HF HXC HXX HCK HAK HCE HAE HOP HOE HC HL HL1 HA HAT HSG HXR
        go_wp2_with fail
        exact bodyPost_ret (v := .bool false) (by simp [results, Try.results12, go_sem]) rfl ⟨false, _, rfl, unhide HRF, fun h => (by cases h), unhide HPV, unhide HF2⟩
      · have HA2 : Hid ((es.take (j + 1)).all (okEN sg d (deep + 1)) = true) := hide (by
          have h := (unhide HR).symm
          rw [Bool.and_eq_true] at h
          rw [unhide HAT, unhide HA, h.1]; rfl)
        have HM2 : Hid (∃ m' : Nat, m' + ((es.take (j + 1)).map (cntEN d)).sum = k1 ∧ Pb w0.heap.size sv pv T V (m' : Int)) := hide (by
          have h := (unhide HR).symm
          rw [Bool.and_eq_true] at h
          have h1 := of_decide_eq_true h.2
          have h4 := unhide HM0
          have h2 := unhide HST
          refine ⟨m - cy, by omega, ?_⟩
          have h5 := unhide HPV
          rw [unhide HRK rfl] at h5
          rw [show (((m - cy : Nat) : Int)) = (m : Int) - (cy : Nat) by omega]
          exact h5)
        clear HR HRK HNO HST HSL HIH HIX HF HXC HXX HCK HAK HCE HAE HOP HOE HC HL HL1 HA HAT HSG HXR
        go_wp2_with fail
        go_roundw
        case rel => exact ⟨j + 1, by omega, by go_num, unhide HA2, unhide HM2, unhide HFV⟩
        case measure => simp [intOf]; omega
    · obtain rfl : L = j := by omega
      have hAE : AE = true := by
        have h := unhide HA
        rw [List.take_of_length_le (by rw [unhide HL1]; exact Nat.le_refl _), unhide HAE] at h
        exact h
      have hSE : m + CE = k1 := by
        have h := unhide HM0
        rwa [List.take_of_length_le (by rw [unhide HL1]; exact Nat.le_refl _), unhide HCE] at h
      have HKW : Hid (∀ y ∈ es.map (·.width), 1 ≤ y ∧ y ≤ 64) := hide (fun y hy => by
        obtain ⟨z, hz, rfl⟩ := List.mem_map.1 hy
        have h := unhide HAE
        rw [hAE] at h
        exact okEN_width (List.all_eq_true.1 h z hz))
      subst hAE
      subst hSE
      clear HCE HAE HIX HOE HA HM0
      go_wp2_with fail
      clear q0 q1' q2 q3 q4 q5
      obtain ⟨W1, rfl⟩ : ∃ W1, W1 = wr := ⟨wr, rfl⟩
      go_loopw [10] (fun i wr => ∃ j : Nat, j ≤ L2 ∧ i = .int .i64 j ∧ (xs.take j).all (okSN sg (stOf 3) (setOf 3) d (deep + 1)) = true ∧ (∃ m' : Nat, m' + ((xs.take j).map (cntSN d)).sum = m ∧ Pb w0.heap.size sv pv T wr (m' : Int)) ∧ Fx w0.heap.size X wr) (fun i _ => L2 - (intOf i).toNat)
      case atStart => exact ⟨0, Nat.zero_le _, rfl, rfl, ⟨m, by simp, unhide HPB⟩, unhide HFX1⟩
      case round =>
        clear HPB HFX1 HBR
        obtain ⟨j, hj, rfl, hall, ⟨m', hm, hp⟩, hfx⟩ := hrel
        obtain ⟨q0, q1', q2, q3, q4, q5⟩ := unhide HXC wr hfx
        have HA := hide hall
        have HM0 := hide hm
        have HPB := hide hp
        have HFX1 := hide hfx
        have HBR := hide (Fx.below (unhide HBX) hfx (Nat.le_refl _) (unhide HBX).size)
        clear hall hp hfx
        by_cases hlt : j < L2
        · obtain ⟨y, hy⟩ : ∃ y, xs[j]? = some y := ⟨_, List.getElem?_eq_getElem (by rw [unhide HL]; exact hlt)⟩
          obtain ⟨b, o, kc', uk, hv, hlc, hru, ⟨a', l', c', a'', l'', c'', hue⟩, hat⟩ := unhide HOP j y hy wr (unhide HBR)
          injection hv with e1 e2 e3
          subst e1 e3
          have HC := hide ((unhide HIH) y uk (deep + 1) m' wr hru (by omega) (by omega) (by omega) (unhide HPB) (unhide HBR))
          subst hue
          have k0 := hat.get (j := 0) rfl
          have k1' := hat.get (j := 1) rfl
          have k2' := hat.get (j := 2) rfl
          have k3 := hat.get (j := 3) rfl
          have k4 := hat.get (j := 4) rfl
          have k5 := hat.get (j := 5) rfl
          simp only [Nat.add_zero] at k0
          have HST := hide (sum_takeS (f := cntSN d) hy)
          have HSL := hide (sum_leS (f := cntSN d) xs (j + 1))
          have HAT := hide (all_takeS (p := okSN sg (stOf 3) (setOf 3) d (deep + 1)) hy)
          have HNO : Hid (okSN sg (stOf 3) (setOf 3) d (deep + 1) y = false → AK = false) := hide (fun h => by
            rw [← unhide HAK, ← Bool.not_eq_true]; intro h2
            have := List.all_eq_true.1 h2 y (List.mem_of_getElem? hy)
            rw [h] at this; cases this)
          have i1 : (0 : Int) ≤ (j : Int) := by omega
          have i2 : (j : Int) < (L2 : Int) := by omega
          obtain ⟨cy, hcy⟩ : ∃ c, cntSN d y = c := ⟨_, rfl⟩
          rw [hcy] at HC HST
          generalize y.kind = z0 at *
          generalize y.n = z1 at *
          generalize y.low = z2 at *
          generalize y.wide = z3 at *
          clear hat hru hy
          go_wp2_with fail
          refine (unhide HC).mono ?_
          rintro e V ⟨r, kk, rfl, hr, hrk, hpv, hfv⟩
          have HR := hide hr
          have HRK := hide hrk
          have HPV := hide hpv
          have HFV := hide ((unhide HFX1).trans hfv)
          clear hr hrk hpv hfv k0 k1' k2' k3 k4 k5 q0 q1' q2 q3 q4 q5
          cases r
          · have HRF : Hid (false = (((decide (deep ≤ 400) && IN) && (true && (AK && FB))) && decide (1 + (CE + CK) ≤ m + CE + 1))) := hide (by
              symm
              have h := (unhide HR).symm
              rw [Bool.and_eq_false_iff] at h
              rcases h with h | h
              · rw [unhide HNO h]; simp
              · have h1 := of_decide_eq_false h
                have h2 := unhide HST
                have h3 := unhide HSL
                have h4 := unhide HM0
                have h5 := unhide HCK
                rw [decide_eq_false (p := 1 + (CE + CK) ≤ m + CE + 1) (by omega), Bool.and_false])
            have HF2 := hide ((unhide HFX0).trans (unhide HFV))
            clear HR HRK HNO HST HSL HIH HF HXC HXX HCK HAK HOP HC HL HL1 HA HAT HSG HXR HKW
            go_wp2_with fail
            exact bodyPost_ret (v := .bool false) (by simp [results, Try.results12, go_sem]) rfl ⟨false, _, rfl, unhide HRF, fun h => (by cases h), unhide HPV, unhide HF2⟩
          · have HA2 : Hid ((xs.take (j + 1)).all (okSN sg (stOf 3) (setOf 3) d (deep + 1)) = true) := hide (by
              have h := (unhide HR).symm
              rw [Bool.and_eq_true] at h
              rw [unhide HAT, unhide HA, h.1]; rfl)
            have HM2 : Hid (∃ m'' : Nat, m'' + ((xs.take (j + 1)).map (cntSN d)).sum = m ∧ Pb w0.heap.size sv pv T V (m'' : Int)) := hide (by
              have h := (unhide HR).symm
              rw [Bool.and_eq_true] at h
              have h1 := of_decide_eq_true h.2
              have h4 := unhide HM0
              have h2 := unhide HST
              refine ⟨m' - cy, by omega, ?_⟩
              have h5 := unhide HPV
              rw [unhide HRK rfl] at h5
              rw [show (((m' - cy : Nat) : Int)) = (m' : Int) - (cy : Nat) by omega]
              exact h5)
            clear HR HRK HNO HST HSL HIH HF HXC HXX HCK HAK HOP HC HL HL1 HA HAT HSG HXR HKW
            go_wp2_with fail
            refine ⟨?_, ?measure⟩
            refine ⟨_, _, _, _, _, _, _, _, _, _, _, _, _, _, _, _, _, _, _, _, ?rel, rfl⟩
            case rel => exact ⟨j + 1, by omega, by go_num, unhide HA2, unhide HM2, unhide HFV⟩
            case measure => simp [intOf]; omega
        · obtain rfl : L2 = j := by omega
          have hAK : AK = true := by
            have h := unhide HA
            rw [List.take_of_length_le (by rw [unhide HL]; exact Nat.le_refl _), unhide HAK] at h
            exact h
          have hSE : m' + CK = m := by
            have h := unhide HM0
            rwa [List.take_of_length_le (by rw [unhide HL]; exact Nat.le_refl _), unhide HCK] at h
          subst hAK
          have HWF : Hid ((((decide (deep ≤ 400) && IN) && (true && (true && FB))) && decide (1 + (CE + CK) ≤ m + CE + 1)) = (IN && FB)) := hide (by
            rw [decide_eq_true hdp, decide_eq_true (show 1 + (CE + CK) ≤ m + CE + 1 by omega)]; simp)
          have HKE : Hid ((m' : Int) = ((m + CE + 1 : Nat) : Int) - ((1 + (CE + CK) : Nat) : Int)) := hide (by omega)
          have HFW := hide ((unhide HFX0).trans (unhide HFX1))
          clear HCK HAK HOP HIH HA HM0 HL HFX0 HFX1 HXX hSE
          have hkl : (es.map (fun x : Ex => x.width)).length = L := by rw [List.length_map, unhide HL1]
          obtain ⟨g1, g4, g5, g6, g7⟩ := formS_plain sg (setOf 3) n low wide (es.map (fun x : Ex => x.width)) L2 L hkl
          have hKD := unhide HKD
          subst hKD
          have HIN1 : Hid (IN = true) := hide ((unhide HIN).symm.trans (by decide))
          have HFB : Hid (FB = (decide (L2 = 0) && setB sg (setOf 3) n low wide (es.map (·.width)))) := hide ((unhide HF).symm.trans (by simp [formS]))
          clear g1 g4 g5 g6 g7
          obtain ⟨sa, sc, hsv⟩ := (unhide HSG).slice
          obtain ⟨SL, hSL⟩ : ∃ SL, sg.length = SL := ⟨_, rfl⟩
          rw [hSL] at hsl hsv
          subst hsv
          have HSL := hide hSL
          have HPD := hide (fun (V : World) (h : Below wr.heap.size wr V) => (unhide HPB).later h)
          have HFD := hide (fun (V : World) (h : Below wr.heap.size wr V) => (unhide HFW).trans (Fx.of (g := w0.heap.size) h))
          have HQC := hide (fun (V : World) (h : Below wr.heap.size wr V) => And.intro (cell_later h q0) (And.intro (cell_later h q1') (And.intro (cell_later h q2) (And.intro (cell_later h q3) (And.intro (cell_later h q4) (cell_later h q5))))))
          have c0 := (unhide HPB).c0
          have HY : Hid True := hide trivial
          clear hSL
          by_cases hn : n < 0
          · skip
            have HQ := hide (show (IN && FB) = false from by rw [unhide HIN1, unhide HFB, setB_none (by rw [unhide HSL]; omega)]; simp)
            clear HXC HIN HF HIN1 HFB HXR HKW HSG HL1 HQC HY
            go_wp2_with fail
            go_big_quiet (fail)
            go_wp2_with fail
            all_goals first
              | exact bodyPost_ret (v := .bool false) (by simp [results, Try.results12, go_sem]) rfl ⟨false, _, rfl, ((unhide HWF).trans (unhide HQ)).symm, fun h => (by cases h), unhide HPD _ (bdn (brf _)), unhide HFD _ (bdn (brf _))⟩
              | exact bodyPost_ret (v := .bool false) (by simp [results, Try.results12, go_sem]) rfl (.inl ⟨rfl, fun a b => (by have h := unhide HQ; rw [a, b] at h; cases h), ⟨_, unhide HPD _ (bdn (brf _))⟩, unhide HFD _ (bdn (brf _))⟩)
          have BN := hide (decide_eq_false hn)
          by_cases hs : (SL : Int) ≤ n
          · skip
            have HQ := hide (show (IN && FB) = false from by rw [unhide HIN1, unhide HFB, setB_none (by rw [unhide HSL]; omega)]; simp)
            clear HXC HIN HF HIN1 HFB HXR HKW HSG HL1 HQC HY
            go_wp2_with fail
            have bn := unhide BN
            go_big_quiet (fail)
            go_wp2_with fail
            all_goals first
              | exact bodyPost_ret (v := .bool false) (by simp [results, Try.results12, go_sem]) rfl ⟨false, _, rfl, ((unhide HWF).trans (unhide HQ)).symm, fun h => (by cases h), unhide HPD _ (bdn (brf _)), unhide HFD _ (bdn (brf _))⟩
              | exact bodyPost_ret (v := .bool false) (by simp [results, Try.results12, go_sem]) rfl (.inl ⟨rfl, fun a b => (by have h := unhide HQ; rw [a, b] at h; cases h), ⟨_, unhide HPD _ (bdn (brf _))⟩, unhide HFD _ (bdn (brf _))⟩)
          obtain ⟨kx, rfl⟩ : ∃ kx : Nat, n = (kx : Int) := ⟨n.toNat, by omega⟩
          have BS := hide (eq_false (show ¬ SL ≤ kx by omega))
          have i1 : (0 : Int) ≤ (kx : Int) := by omega
          have i2 : (kx : Int) < (SL : Int) := by omega
          obtain ⟨g, hg⟩ : ∃ g, sg[kx]? = some g := ⟨_, List.getElem?_eq_getElem (by rw [unhide HSL]; omega)⟩
          have HOS := unhide HSG
          rcases HOS.open with ⟨hnil, _⟩ | ⟨sb, so, kcs, eS, _, _, _, hcs⟩
          · rw [hnil] at hg; simp at hg
          obtain ⟨uk, _, hgat, hru⟩ := hcs kx g hg
          obtain ⟨rfl, _, _⟩ := hru
          injection eS with e1 e2 e3
          subst e1 e3
          clear HOS hcs e2
          have HGW := hide (hsw g (List.mem_of_getElem? hg))
          have HGG : Hid (∀ V, Below w0.heap.size w0 V → At V sb (so + kx * 6) [.string g.name, .int .i64 g.kind, .int .i64 g.width, .int .i64 g.depth, .bool g.signed, .string g.init]) := hide (fun V h => fun i z hz => cell_later h (hgat i z hz))
          have HFB1 : Hid (FB = (decide (L2 = 0) && (inSet (setOf 3) g.kind && setF g low wide (es.map (·.width))))) := hide ((unhide HFB).trans (by rw [setB_some hg]))
          clear HFB HSG hgat hg
          have HFB := HFB1
          clear HFB1
          by_cases h2 : L2 = 0
          rotate_left
          · have n2 : ((L2 : Int) != 0) = true := bne_iff_ne.2 (by omega)
            have HQ := hide (show (IN && FB) = false from by rw [unhide HIN1, unhide HFB, decide_eq_false h2]; simp)
            clear HXC HIN HF HIN1 HFB HXR HKW HL1 HQC HY HGG HGW
            go_wp2_with fail
            have bn := unhide BN
            have bs := unhide BS
            go_big_quiet (fail)
            go_wp2_with fail
            all_goals first
              | exact bodyPost_ret (v := .bool false) (by simp [results, Try.results12, go_sem]) rfl ⟨false, _, rfl, ((unhide HWF).trans (unhide HQ)).symm, fun h => (by cases h), unhide HPD _ (bdn (brf _)), unhide HFD _ (bdn (brf _))⟩
              | exact bodyPost_ret (v := .bool false) (by simp [results, Try.results12, go_sem]) rfl (.inl ⟨rfl, fun a b => (by have h := unhide HQ; rw [a, b] at h; cases h), ⟨_, unhide HPD _ (bdn (brf _))⟩, unhide HFD _ (bdn (brf _))⟩)
          subst h2
          by_cases h1 : L < 1
          · have hz := L0_nil (unhide HL1) h1
            have BL1 := hide (decide_eq_true (show (L : Int) < 1 by omega))
            have HQ := hide (show (IN && FB) = false from by rw [unhide HIN1, unhide HFB, hz]; simp [setF])
            clear HXC HIN HF HIN1 HFB HXR HKW HL1 HQC HY HGG HGW hz
            go_wp2_with fail
            have bn := unhide BN
            have bs := unhide BS
            have bl1 := unhide BL1
            go_big_quiet (fail)
            go_wp2_with fail
            all_goals first
              | exact bodyPost_ret (v := .bool false) (by simp [results, Try.results12, go_sem]) rfl ⟨false, _, rfl, ((unhide HWF).trans (unhide HQ)).symm, fun h => (by cases h), unhide HPD _ (bdn (brf _)), unhide HFD _ (bdn (brf _))⟩
              | exact bodyPost_ret (v := .bool false) (by simp [results, Try.results12, go_sem]) rfl (.inl ⟨rfl, fun a b => (by have h := unhide HQ; rw [a, b] at h; cases h), ⟨_, unhide HPD _ (bdn (brf _))⟩, unhide HFD _ (bdn (brf _))⟩)
          have BL1 := hide (decide_eq_false (show ¬ (L : Int) < 1 by omega))
          by_cases h3 : 2 < L
          · have BL2 := hide (decide_eq_true (show (2 : Int) < (L : Int) by omega))
            have hz := setF_long g low wide (es.map (·.width)) (by rw [List.length_map, unhide HL1]; exact h3)
            have HQ := hide (show (IN && FB) = false from by rw [unhide HIN1, unhide HFB, hz]; simp)
            clear HXC HIN HF HIN1 HFB HXR HKW HL1 HQC HY HGG HGW hz
            go_wp2_with fail
            have bn := unhide BN
            have bs := unhide BS
            have bl1 := unhide BL1
            have bl2 := unhide BL2
            go_big_quiet (fail)
            go_wp2_with fail
            all_goals first
              | exact bodyPost_ret (v := .bool false) (by simp [results, Try.results12, go_sem]) rfl ⟨false, _, rfl, ((unhide HWF).trans (unhide HQ)).symm, fun h => (by cases h), unhide HPD _ (bdn (brf _)), unhide HFD _ (bdn (brf _))⟩
              | exact bodyPost_ret (v := .bool false) (by simp [results, Try.results12, go_sem]) rfl (.inl ⟨rfl, fun a b => (by have h := unhide HQ; rw [a, b] at h; cases h), ⟨_, unhide HPD _ (bdn (brf _))⟩, unhide HFD _ (bdn (brf _))⟩)
          have BL2 := hide (decide_eq_false (show ¬ (2 : Int) < (L : Int) by omega))
          obtain ⟨a, r, har⟩ := L1_cons (unhide HL1) h1
          obtain ⟨aa, ca, e2, hk⟩ := kids_open (RS.kid (unhide HXR))
          obtain ⟨xb, xo, ho, hac, _⟩ := hk 0 a (by rw [har]; rfl)
          injection e2 with e3 e4 e5
          clear e4 e5
          subst e3 ho
          rw [Nat.zero_mul, Nat.add_zero] at hac
          clear hk
          have HAC := hide (fun (V : World) (h : Below w0.heap.size w0 V) => cell_later h hac)
          have hLr : r.length + 1 = L := by have h := unhide HL1; rw [← List.length_map (f := (·.width)), har] at h; simpa using h
          have HAW : Hid (1 ≤ a ∧ a ≤ 64) := hide (unhide HKW a (by rw [har]; exact List.mem_cons_self ..))
          rw [har] at HFB
          have HBR1 := HBR
          have IL := hide (show (0 : Int) < (L : Int) by omega)
          have ka0 := unhide HAC wr (unhide HBR)
          clear hac har HKW HXR
          by_cases ha : a = wide
          rotate_left
          · have n3 : (a != wide) = true := bne_iff_ne.2 ha
            have HQ := hide (show (IN && FB) = false from by rw [unhide HIN1, unhide HFB, setF_ne (ne := ha)]; simp)
            clear HXC HIN HF HIN1 HFB HL1 HQC HY HGG HGW HAC HAW
            go_wp2_with fail
            have bn := unhide BN
            have bs := unhide BS
            have bl1 := unhide BL1
            have bl2 := unhide BL2
            have il := unhide IL
            go_big_quiet (fail)
            go_wp2_with fail
            all_goals first
              | exact bodyPost_ret (v := .bool false) (by simp [results, Try.results12, go_sem]) rfl ⟨false, _, rfl, ((unhide HWF).trans (unhide HQ)).symm, fun h => (by cases h), unhide HPD _ (bdn (brf _)), unhide HFD _ (bdn (brf _))⟩
              | exact bodyPost_ret (v := .bool false) (by simp [results, Try.results12, go_sem]) rfl (.inl ⟨rfl, fun a b => (by have h := unhide HQ; rw [a, b] at h; cases h), ⟨_, unhide HPD _ (bdn (brf _))⟩, unhide HFD _ (bdn (brf _))⟩)
          subst ha
          have HIF : Hid ((IN && FB) = ((inSet (setOf 3) g.kind && setG g low a L))) := hide (by rw [unhide HIN1, unhide HFB, setF_eq g low a r hLr h3 (unhide HGW) (unhide HAW)]; simp)
          clear HFB HIN HF HIN1 HXC
          go_wp2_with fail
          have bn := unhide BN
          have bs := unhide BS
          have bl1 := unhide BL1
          have bl2 := unhide BL2
          have il := unhide IL
          go_big_quiet (fail)
          go_wp2_with fail
          obtain ⟨W0, hW0⟩ : ∃ W0, W0 = wr.drewN nq := ⟨_, rfl⟩
          rw [← hW0]
          have HB0 : Hid (Below wr.heap.size wr W0) := hide (by rw [hW0]; exact bdn (brf wr))
          have HS0 := hide (fun (V : World) (h : Below W0.heap.size W0 V) => cell_later (btr (unhide HB0) h) c0)
          have HN0 := hide (fun (V : World) (h : Below W0.heap.size W0 V) => (unhide HQC V (btr (unhide HB0) h)).2.1)
          have HG0 := hide (fun (V : World) (h : Below W0.heap.size W0 V) => sg_cells (unhide HGG V (btr (unhide HBR1) (btr (unhide HB0) h))))
          clear hW0 c0 ka0 q0 q1' q2 q3 q4 q5 HBR BN BS BL1 BL2 IL bn bs bl1 bl2 il
          refine wp_plan (GZ (FSg12 w0.heap.size sb so SL sc (W.heap.size) kx g W0.heap.size) (FSg12b g W0.heap.size) 10) (JE W0 10 (fun V => Below W0.heap.size W0 V)) (by kernel_rfl) 356 (by kernel_rfl) (by kernel_rfl) ?hj ?hs ?hf
          case hj => exact JE.start (bdr (brf W0))
          case hs =>
            refine ⟨?_, ?_, ?_, ?_, ?_, ?_, ?_, ?_, ?_, ?_, ?_, trivial⟩
            · exact sz_val (by decide) (by kernel_rfl) rfl (fun l a V hp hl hB ha => ⟨.pointer (some ⟨w0.heap.size, 0, none⟩), by
                have x0 := (ev_form a 0).trans (old hp 0 (v := .pointer (some ⟨w0.heap.size, 0, none⟩)) (by kernel_rfl) (by kernel_rfl))
                go_simp, rfl⟩)
            · exact sz_val (by decide) (by kernel_rfl) rfl (fun l a V hp hl hB ha => ⟨.pointer (some ⟨w0.heap.size, 0, none⟩), by
                have x252 := (ev_form a 252).trans (show a.eval (.tmp 252) = .pointer (some ⟨w0.heap.size, 0, none⟩) from (kn hp ha 252 0 (by kernel_rfl) (by kernel_rfl)).1 hl)
                go_simp, rfl⟩)
            · exact sz_val (by decide) (by kernel_rfl) rfl (fun l a V hp hl hB ha => ⟨.pointer (some ⟨w0.heap.size, 0, none⟩), by
                have x253 := (ev_form a 253).trans (show a.eval (.tmp 253) = .pointer (some ⟨w0.heap.size, 0, none⟩) from (kn hp ha 253 1 (by kernel_rfl) (by kernel_rfl)).1 hl)
                go_simp, rfl⟩)
            · exact sz_val (by decide) (by kernel_rfl) rfl (fun l a V hp hl hB ha => ⟨.pointer (some ⟨w0.heap.size, 0, none⟩), by
                have x254 := (ev_form a 254).trans (show a.eval (.tmp 254) = .pointer (some ⟨w0.heap.size, 0, none⟩) from (kn hp ha 254 2 (by kernel_rfl) (by kernel_rfl)).1 hl)
                go_simp, rfl⟩)
            · exact sz_val (by decide) (by kernel_rfl) rfl (fun l a V hp hl hB ha => ⟨.slice (some ⟨sb, so, none⟩) SL sc, by
                have x255 := (ev_form a 255).trans (show a.eval (.tmp 255) = .pointer (some ⟨w0.heap.size, 0, none⟩) from (kn hp ha 255 3 (by kernel_rfl) (by kernel_rfl)).1 hl)
                have k0 := unhide HS0 V hB
                go_simp, rfl⟩)
            · exact sz_val (by decide) (by kernel_rfl) rfl (fun l a V hp hl hB ha => ⟨.pointer (some ⟨W.heap.size, 1, none⟩), by
                have x5 := (ev_form a 5).trans (old hp 5 (v := .pointer (some ⟨W.heap.size, 0, none⟩)) (by kernel_rfl) (by kernel_rfl))
                go_simp, rfl⟩)
            · exact sz_val (by decide) (by kernel_rfl) rfl (fun l a V hp hl hB ha => ⟨.int .i64 (kx : Int), by
                have x257 := (ev_form a 257).trans (show a.eval (.tmp 257) = .pointer (some ⟨W.heap.size, 1, none⟩) from (kn hp ha 257 5 (by kernel_rfl) (by kernel_rfl)).1 hl)
                have k0 := unhide HN0 V hB
                go_simp, rfl⟩)
            · exact sz_val (by decide) (by kernel_rfl) rfl (fun l a V hp hl hB ha => ⟨.pointer (some ⟨sb, so + kx * 6, none⟩), by
                have x256 := (ev_form a 256).trans (show a.eval (.tmp 256) = .slice (some ⟨sb, so, none⟩) SL sc from (kn hp ha 256 4 (by kernel_rfl) (by kernel_rfl)).1 hl)
                have x258 := (ev_form a 258).trans (show a.eval (.tmp 258) = .int .i64 (kx : Int) from (kn hp ha 258 6 (by kernel_rfl) (by kernel_rfl)).1 hl)
                go_simp, rfl⟩)
            · exact sz_val (by decide) (by kernel_rfl) rfl (fun l a V hp hl hB ha => ⟨.agg #[.string g.name, .int .i64 g.kind, .int .i64 g.width, .int .i64 g.depth, .bool g.signed, .string g.init], by
                have x259 := (ev_form a 259).trans (show a.eval (.tmp 259) = .pointer (some ⟨sb, so + kx * 6, none⟩) from (kn hp ha 259 7 (by kernel_rfl) (by kernel_rfl)).1 hl)
                obtain ⟨k0, k1, k2, k3, k4, k5⟩ := unhide HG0 V hB
                go_simp, rfl⟩)
            · exact sz_new (FSg12.lasts _ _ _ _ _ _ _ _ _) (by decide) (by kernel_rfl) rfl (fun l a V hp hl hB ha => ⟨.pointer (some ⟨V.heap.size, 0, none⟩), .cells #[.string ByteArray.empty, .int .i64 0, .int .i64 0, .int .i64 0, .bool false, .string ByteArray.empty] 38, by
                go_simp <;> rfl, V.heap.size, rfl, by simp, hB.size, fun i hi => by
                  have := TP_made V #[.string ByteArray.empty, .int .i64 0, .int .i64 0, .int .i64 0, .bool false, .string ByteArray.empty] 38 6 rfl i hi
                  exact this⟩)
            · refine sz_last rfl (fun l a V hp hl hB ha => ?_)
              have x260 := (ev_form a 260).trans (show a.eval (.tmp 260) = .agg #[.string g.name, .int .i64 g.kind, .int .i64 g.width, .int .i64 g.depth, .bool g.signed, .string g.init] from (kn hp ha 260 8 (by kernel_rfl) (by kernel_rfl)).1 hl)
              obtain ⟨M, hM, hM1, hM2, hM3⟩ := (kn hp ha 13 9 (by kernel_rfl) (by kernel_rfl)).1 hl
              have x13 := (ev_form a 13).trans hM
              obtain ⟨⟨y0, r0⟩, f0⟩ := hM3 0 (by decide)
              obtain ⟨⟨y1, r1⟩, f1⟩ := hM3 1 (by decide)
              obtain ⟨⟨y2, r2⟩, f2⟩ := hM3 2 (by decide)
              obtain ⟨⟨y3, r3⟩, f3⟩ := hM3 3 (by decide)
              obtain ⟨⟨y4, r4⟩, f4⟩ := hM3 4 (by decide)
              obtain ⟨⟨y5, r5⟩, f5⟩ := hM3 5 (by decide)
              refine ⟨setK V M 0 [.string g.name, .int .i64 g.kind, .int .i64 g.width, .int .i64 g.depth, .bool g.signed, .string g.init], by simp only [setK]; go_simp, setK_below _ hB hM2, trivial, ?_⟩
              intro q dd hd hv
              match q, hd, hv with
              | 0, _, _ => exact trivial
              | 1, _, _ => exact trivial
              | 2, _, _ => exact trivial
              | 3, _, _ => exact trivial
              | 4, _, _ => exact trivial
              | 5, _, _ => exact trivial
              | 6, _, _ => exact trivial
              | 7, _, _ => exact trivial
              | 8, _, _ => exact trivial
              | 9, hd, _ =>
                have hd2 : some 13 = some dd := hd
                injection hd2 with hd3
                subst hd3
                refine ⟨M, hM, hM2, setK_at _ _ _ _ (fun i hi => ?_)⟩
                rw [Nat.zero_add]
                exact (hM3 i hi).1
              | _ + 10, _, _ => exact trivial
          case hf =>
            intro lb1 ab1 V1 hp hall
            have hE := hp.j.2 (hall 10 (by decide))
            obtain ⟨M, hM, hM2, hat⟩ := (hp.good 9 _ 13 rfl rfl (hall 9 (by decide))).2 (hall 10 (by decide))
            obtain ⟨us1, rfl, hus⟩ := putAll_of [252, 253, 254, 255, 256, 257, 258, 259, 260, 13] hp.nt hp.df (fun t ht => hp.keep t (dstIn (by kernel_rfl) ht))
            have h9 : us1 13 = .pointer (some ⟨M, 0, none⟩) := by rw [hus 13]; exact hM
            clear hp hall hus
            simp only [putAll, List.foldl, Act.put, List.setIfInBounds_toArray, List.set_cons_zero, List.set_cons_succ, h9]
            have n0 := hat.get (j := 0) rfl
            have n1 := hat.get (j := 1) rfl
            have n2 := hat.get (j := 2) rfl
            have n3 := hat.get (j := 3) rfl
            have n4 := hat.get (j := 4) rfl
            have n5 := hat.get (j := 5) rfl
            simp only [Nat.zero_add] at n0 n1 n2 n3 n4 n5
            have HPV := hide (unhide HPD V1 (btr (unhide HB0) hE))
            have HFV := hide (unhide HFD V1 (btr (unhide HB0) hE))
            obtain ⟨e0, e1, e2, e3, e4, e5⟩ := unhide HQC V1 (btr (unhide HB0) hE)
            clear hE hat h9 hM hM2 HPD HFD HQC HS0 HN0 HG0 HB0 HGG HBR1 HAC
            obtain ⟨gw1, gw2⟩ := unhide HGW
            obtain ⟨aw1, aw2⟩ := unhide HAW
            clear HGW HAW
            obtain ⟨y0, y1, y2, y3, y4, y5⟩ := g
            simp only at n0 n1 n2 n3 n4 n5 gw1 gw2
            have HIG : Hid ((IN && FB) = ((inSet (setOf 3) y1 && setG ⟨y0, y1, y2, y3, y4, y5⟩ low a L))) := HIF
            clear HIF
            by_cases y4c : y1 = 4
            · subst y4c
              by_cases hl1 : L = 2
              · subst hl1
                by_cases hlo : low = 0
                rotate_left
                · have m1 : (low == 0) = false := beq_eq_false_iff_ne.2 hlo
                  have HQ := hide (show (IN && FB) = false from by rw [unhide HIG]; simp [setG, hlo])
                  clear HIG HL1 HY
                  go_wp2_with fail
                  all_goals first
                    | exact bodyPost_ret (v := .bool false) (by simp [results, Try.results12, go_sem]) rfl ⟨false, _, rfl, ((unhide HWF).trans (unhide HQ)).symm, fun h => (by cases h), unhide HPV, unhide HFV⟩
                    | exact bodyPost_ret (v := .bool false) (by simp [results, Try.results12, go_sem]) rfl (.inl ⟨rfl, fun a b => (by have h := unhide HQ; rw [a, b] at h; cases h), ⟨_, unhide HPV⟩, unhide HFV⟩)
                subst hlo
                have HQ := hide (show (IN && FB) = (a == 1) from by rw [unhide HIG, show inSet (setOf 3) 4 = true from by decide, Bool.true_and]; simp [setG]; try rfl)
                clear HIG HL1 HY
                go_wp2_with fail
                all_goals first
                  | exact bodyPost_ret (v := .bool (a == 1)) (by simp [results, Try.results12, go_sem] <;> omega) rfl ⟨(a == 1), _, rfl, ((unhide HWF).trans (unhide HQ)).symm, fun _ => unhide HKE, unhide HPV, unhide HFV⟩
                  | refine bodyPost_ret (v := .bool (a == 1)) (by simp [results, Try.results12, go_sem] <;> omega) rfl ?_
                    have hq := unhide HQ
                    have hke := unhide HKE
                    have hle : 1 + (CE + CK) ≤ m + CE + 1 := by omega
                    have hp := unhide HPV
                    have hke2 : (m' : Int) = K - (1 + ((CE : Int) + (CK : Int))) := by omega
                    rw [hke2] at hp
                    cases hr : (a == 1) with
                    | false => rw [hr] at hq; exact .inl ⟨rfl, fun a b => (by rw [a, b] at hq; cases hq), ⟨_, hp⟩, unhide HFV⟩
                    | true => rw [hr, Bool.and_eq_true] at hq; exact .inr ⟨rfl, ⟨hq, hle⟩, hp, unhide HFV⟩
              obtain rfl : L = 1 := by omega
              by_cases hlo : low < 0
              · skip
                have HQ := hide (show (IN && FB) = false from by rw [unhide HIG, show inSet (setOf 3) 4 = true from by decide, Bool.true_and]; simp [setG]; omega)
                clear HIG HL1 HY
                go_wp2_with fail
                all_goals first
                  | exact bodyPost_ret (v := .bool false) (by simp [results, Try.results12, go_sem]) rfl ⟨false, _, rfl, ((unhide HWF).trans (unhide HQ)).symm, fun h => (by cases h), unhide HPV, unhide HFV⟩
                  | exact bodyPost_ret (v := .bool false) (by simp [results, Try.results12, go_sem]) rfl (.inl ⟨rfl, fun a b => (by have h := unhide HQ; rw [a, b] at h; cases h), ⟨_, unhide HPV⟩, unhide HFV⟩)
              by_cases hlw : y2 ≤ low
              · skip
                have HQ := hide (show (IN && FB) = false from by rw [unhide HIG, show inSet (setOf 3) 4 = true from by decide, Bool.true_and]; simp [setG]; intros; omega)
                clear HIG HL1 HY
                go_wp2_with fail
                all_goals first
                  | exact bodyPost_ret (v := .bool false) (by simp [results, Try.results12, go_sem]) rfl ⟨false, _, rfl, ((unhide HWF).trans (unhide HQ)).symm, fun h => (by cases h), unhide HPV, unhide HFV⟩
                  | exact bodyPost_ret (v := .bool false) (by simp [results, Try.results12, go_sem]) rfl (.inl ⟨rfl, fun a b => (by have h := unhide HQ; rw [a, b] at h; cases h), ⟨_, unhide HPV⟩, unhide HFV⟩)
              have hw1 : (1 : Int) ≤ a := aw1
              have hlo2 : 0 ≤ low := by omega
              have hlw2 : low < y2 := by omega
              have HQ := hide (show (IN && FB) = (decide (low + a ≤ y2)) from by rw [unhide HIG, show inSet (setOf 3) 4 = true from by decide, Bool.true_and]; simp [setG, hlo2])
              clear HIG HL1 HY
              go_wp2_with fail
              all_goals first
                | exact bodyPost_ret (v := .bool (decide (low + a ≤ y2))) (by simp [results, Try.results12, go_sem] <;> omega) rfl ⟨(decide (low + a ≤ y2)), _, rfl, ((unhide HWF).trans (unhide HQ)).symm, fun _ => unhide HKE, unhide HPV, unhide HFV⟩
                | refine bodyPost_ret (v := .bool (decide (low + a ≤ y2))) (by simp [results, Try.results12, go_sem] <;> omega) rfl ?_
                  have hq := unhide HQ
                  have hke := unhide HKE
                  have hle : 1 + (CE + CK) ≤ m + CE + 1 := by omega
                  have hp := unhide HPV
                  have hke2 : (m' : Int) = K - (1 + ((CE : Int) + (CK : Int))) := by omega
                  rw [hke2] at hp
                  cases hr : (decide (low + a ≤ y2)) with
                  | false => rw [hr] at hq; exact .inl ⟨rfl, fun a b => (by rw [a, b] at hq; cases hq), ⟨_, hp⟩, unhide HFV⟩
                  | true => rw [hr, Bool.and_eq_true] at hq; exact .inr ⟨rfl, ⟨hq, hle⟩, hp, unhide HFV⟩
            by_cases y5c : y1 = 5
            · subst y5c
              by_cases hl1 : L = 2
              · subst hl1
                by_cases hlo : low = 0
                rotate_left
                · have m1 : (low == 0) = false := beq_eq_false_iff_ne.2 hlo
                  have HQ := hide (show (IN && FB) = false from by rw [unhide HIG]; simp [setG, hlo])
                  clear HIG HL1 HY
                  go_wp2_with fail
                  all_goals first
                    | exact bodyPost_ret (v := .bool false) (by simp [results, Try.results12, go_sem]) rfl ⟨false, _, rfl, ((unhide HWF).trans (unhide HQ)).symm, fun h => (by cases h), unhide HPV, unhide HFV⟩
                    | exact bodyPost_ret (v := .bool false) (by simp [results, Try.results12, go_sem]) rfl (.inl ⟨rfl, fun a b => (by have h := unhide HQ; rw [a, b] at h; cases h), ⟨_, unhide HPV⟩, unhide HFV⟩)
                subst hlo
                have HQ := hide (show (IN && FB) = (a == y2) from by rw [unhide HIG, show inSet (setOf 3) 5 = true from by decide, Bool.true_and]; simp [setG]; try rfl)
                clear HIG HL1 HY
                go_wp2_with fail
                all_goals first
                  | exact bodyPost_ret (v := .bool (a == y2)) (by simp [results, Try.results12, go_sem] <;> omega) rfl ⟨(a == y2), _, rfl, ((unhide HWF).trans (unhide HQ)).symm, fun _ => unhide HKE, unhide HPV, unhide HFV⟩
                  | refine bodyPost_ret (v := .bool (a == y2)) (by simp [results, Try.results12, go_sem] <;> omega) rfl ?_
                    have hq := unhide HQ
                    have hke := unhide HKE
                    have hle : 1 + (CE + CK) ≤ m + CE + 1 := by omega
                    have hp := unhide HPV
                    have hke2 : (m' : Int) = K - (1 + ((CE : Int) + (CK : Int))) := by omega
                    rw [hke2] at hp
                    cases hr : (a == y2) with
                    | false => rw [hr] at hq; exact .inl ⟨rfl, fun a b => (by rw [a, b] at hq; cases hq), ⟨_, hp⟩, unhide HFV⟩
                    | true => rw [hr, Bool.and_eq_true] at hq; exact .inr ⟨rfl, ⟨hq, hle⟩, hp, unhide HFV⟩
              obtain rfl : L = 1 := by omega
              have HQ := hide (show (IN && FB) = false from by rw [unhide HIG]; simp [setG])
              clear HIG HL1 HY
              go_wp2_with fail
              all_goals first
                | exact bodyPost_ret (v := .bool false) (by simp [results, Try.results12, go_sem]) rfl ⟨false, _, rfl, ((unhide HWF).trans (unhide HQ)).symm, fun h => (by cases h), unhide HPV, unhide HFV⟩
                | exact bodyPost_ret (v := .bool false) (by simp [results, Try.results12, go_sem]) rfl (.inl ⟨rfl, fun a b => (by have h := unhide HQ; rw [a, b] at h; cases h), ⟨_, unhide HPV⟩, unhide HFV⟩)
            have z4 : (y1 == 4) = false := beq_eq_false_iff_ne.2 y4c
            have z5 : (y1 == 5) = false := beq_eq_false_iff_ne.2 y5c
            have HQ := hide (show (IN && FB) = false from by rw [unhide HIG, show setOf 3 = 48 from rfl, inSet_state y1 y4c y5c]; simp)
            clear HIG HL1 HY
            go_wp2_with fail
            all_goals first
              | exact bodyPost_ret (v := .bool false) (by simp [results, Try.results12, go_sem]) rfl ⟨false, _, rfl, ((unhide HWF).trans (unhide HQ)).symm, fun h => (by cases h), unhide HPV, unhide HFV⟩
              | exact bodyPost_ret (v := .bool false) (by simp [results, Try.results12, go_sem]) rfl (.inl ⟨rfl, fun a b => (by have h := unhide HQ; rw [a, b] at h; cases h), ⟨_, unhide HPV⟩, unhide HFV⟩)
end Go.Proofs.Ytgkfhaahcedbpaa
