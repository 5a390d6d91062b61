/- The program's look: a statement. -/
import Derived.Test.YtgkfhaahcedbpaaP9
namespace Go.Proofs.Ytgkfhaahcedbpaa
open Go Go.RowKit Gs
set_option linter.unusedVariables false
set_option linter.unusedSimpArgs false
set_option maxRecDepth 100000

set_option maxHeartbeats 32000000 in
theorem iStStep (sg : List Signal) (kd tg : Nat) (hkd : kd < 2 ^ 48) (htg : tg < 2 ^ 48) (w0 : World) (sv : Value) (T : TypeId) (d : Nat) (hsg : RS 6 RSignal w0 0 sg sv) (hsl : sg.length ≤ 1048576) (IX : XsP sg w0 sv T d) (IH : StP sg kd tg w0 sv T d) : StP sg kd tg w0 sv T (d + 1) := by
  intro x u deep k W hr hd1 hd2 hk hpb hbw
  obtain ⟨v4, v5, rfl, hxr, hkr⟩ := hr
  have HXR := hide hxr
  have hlk := hkr.len
  have hlx := hxr.len
  have HLM := hide (show x.exs.length ≤ maxLen ∧ x.kids.length ≤ maxLen from ⟨hlx, hlk⟩)
  unfold maxLen at hlk hlx
  have HOP := hide (fun (j : Nat) (y : St) (hy : x.kids[j]? = some y) (V : World) (hV : Below w0.heap.size w0 V) => (show ∃ b o kc uk, v5 = .slice (some ⟨b, o, none⟩) x.kids.length kc ∧ x.kids.length ≤ kc ∧ RStN d w0 0 y uk ∧ (∃ a' l' c' a'' l'' c'', uk = [.int .i64 y.kind, .int .i64 y.n, .int .i64 y.low, .int .i64 y.wide, .slice a' l' c', .slice a'' l'' c'']) ∧ At V b (o + j * 6) uk from by
    rcases hkr.open with ⟨hnil, _⟩ | ⟨b, o, kc, e, hlc, _, _, hcs⟩
    · rw [hnil] at hy; simp at hy
    · obtain ⟨uk, _, hat, hu⟩ := hcs j y hy
      obtain ⟨v6, v7, e6, ⟨d', h6⟩, d'', h7⟩ := hu.cells
      obtain ⟨a', c', e8⟩ := h6.slice
      obtain ⟨a'', c'', e9⟩ := h7.slice
      exact ⟨b, o, kc, uk, e, hlc, hu, ⟨a', _, c', a'', _, c'', by rw [e6, e8, e9]⟩, fun i z hz => cell_later hV (hat i z hz)⟩))
  obtain ⟨ka, kc, rfl⟩ := hxr.slice
  obtain ⟨kb, kc2, rfl⟩ := hkr.slice
  clear hkr hxr
  have hck : cntSN (d + 1) x = 1 + ((x.exs.map (cntEN d)).sum + (x.kids.map (cntSN d)).sum) := rfl
  have hok : okSN sg kd tg (d + 1) deep x = ((decide (deep ≤ 400) && inSet kd x.kind) && (x.exs.all (okEN sg d (deep + 1)) && (x.kids.all (okSN sg kd tg d (deep + 1)) && formS sg tg x.kind x.n x.low x.wide (x.exs.map (·.width)) x.kids.length))) := rfl
  have HSF := hide (fun (V : World) (hV : Below w0.heap.size w0 V) (hp0 : V.cell? ⟨w0.heap.size, 0, none⟩ = some sv) => iSetFits sg tg htg x.kind x.n x.low x.wide (x.exs.map (·.width)) ka kb x.exs.length x.kids.length kc kc2 w0.heap.size sv V hsl hp0 (hsg.later RSignal.keeps hV) ((RS.kid (unhide HXR)).later RKid.keeps hV))
  have HNX := hide (fun (V : World) (hp : Pl w0.heap.size sv T V k) => iNext w0.heap.size sv T k deep V hk hp)
  have HHS := hide (fun (V : World) => iKHas kd x.kind V hkd)
  have HIX := hide (fun (k1 : Nat) (V : World) (h1 : deep ≤ 400) (h2 : k1 ≤ 16384) (h3 : Pl w0.heap.size sv T V k1) (h4 : Below w0.heap.size w0 V) => IX x.exs _ (deep + 1) k1 V (unhide HXR) (by omega) (by omega) h2 h3 h4)
  obtain ⟨FB, hFB⟩ : ∃ FB, formS sg tg x.kind x.n x.low x.wide (x.exs.map (·.width)) x.kids.length = FB := ⟨_, rfl⟩
  rw [hck, hok, hFB]
  have HF := hide hFB
  unfold formS at HF
  rw [List.length_map] at HF
  clear hok hck hFB
  generalize setB sg tg x.n x.low x.wide (x.exs.map (·.width)) = SB at *
  have HIH := hide IH
  clear IH IX HXR hsg
  obtain ⟨xs, hxs⟩ : ∃ xs, x.kids = xs := ⟨_, rfl⟩
  rw [hxs] at HOP HSF HF HLM hlk ⊢
  clear hxs
  obtain ⟨es, hes⟩ : ∃ es, x.exs = es := ⟨_, rfl⟩
  rw [hes] at HSF HF HIX HLM hlx ⊢
  clear hes
  generalize x.kind = kind at *
  generalize x.n = n at *
  generalize x.low = low at *
  generalize x.wide = wide at *
  obtain ⟨L, hL⟩ : ∃ L, es.length = L := ⟨_, rfl⟩
  rw [hL] at HSF HF HIX HLM hlx ⊢
  clear hL
  obtain ⟨L2, hL2⟩ : ∃ L, xs.length = L := ⟨_, rfl⟩
  have HL := hide hL2
  rw [hL2] at HOP HSF HF HLM hlk ⊢
  clear hL2
  generalize (es.map (cntEN d)).sum = CE at *
  generalize es.all (okEN sg d (deep + 1)) = AE at *
  obtain ⟨CK, hCK⟩ : ∃ c, (xs.map (cntSN d)).sum = c := ⟨_, rfl⟩
  obtain ⟨AK, hAK⟩ : ∃ c, xs.all (okSN sg kd tg d (deep + 1)) = c := ⟨_, rfl⟩
  have HCK := hide hCK
  have HAK := hide hAK
  rw [hCK, hAK]
  clear hCK hAK
  obtain ⟨X, hX⟩ : ∃ X, X = W.alloc (.cells #[.int .i64 kind, .int .i64 n, .int .i64 low, .int .i64 wide, .slice ka L kc, .slice kb L2 kc2] 46) := ⟨_, rfl⟩
  have hbX : Below W.heap.size W X := by rw [hX]; exact bal (brf W) _
  have HPX := hide (hpb.later hbX)
  have HFX := hide (Fx.of (g := w0.heap.size) hbX)
  have HBW := hide hbw
  have hpl := hpb.lt
  have HXC : Hid (∀ V, Fx w0.heap.size X V → V.cell? ⟨W.heap.size, 0, none⟩ = some (.int .i64 kind) ∧ V.cell? ⟨W.heap.size, 1, none⟩ = some (.int .i64 n) ∧ V.cell? ⟨W.heap.size, 2, none⟩ = some (.int .i64 low) ∧ V.cell? ⟨W.heap.size, 3, none⟩ = some (.int .i64 wide) ∧ V.cell? ⟨W.heap.size, 4, none⟩ = some (.slice ka L kc) ∧ V.cell? ⟨W.heap.size, 5, none⟩ = some (.slice kb L2 kc2)) := hide (fun V hV => by
    have K := fun (i : Nat) (y : Value) (hy : (#[.int .i64 kind, .int .i64 n, .int .i64 low, .int .i64 wide, .slice ka L kc, .slice kb L2 kc2] : Array Value)[i]? = some y) => hV.cell (b := W.heap.size) (o := i) (v := y) (by rw [hX, World.cell?_alloc_new]; exact hy) (by omega)
    exact ⟨K 0 _ rfl, K 1 _ rfl, K 2 _ rfl, K 3 _ rfl, K 4 _ rfl, K 5 _ rfl⟩)
  have HXX := hide hX
  clear hX hbX hpb hbw hpl
  have hdq : -1000 ≤ deep ∧ deep ≤ 1000 := by omega
  go_enter Try.func29, Try.ntmps29
  go_wp2_with fail
  rw [← unhide HXX]
  refine (unhide HNX X (unhide HPX)).mono ?_
  rintro e V1 ⟨rfl, hp1, hf1⟩
  have HP1 := hide hp1
  have HF1 := hide ((unhide HFX).trans hf1)
  have HX1 := hide hf1
  clear hp1 hf1 HNX HPX HFX
  by_cases hnx : (decide (1 ≤ k) && decide (deep ≤ 400)) = true
  rotate_left
  · have hnf : (decide (1 ≤ k) && decide (deep ≤ 400)) = false := by simpa using hnx
    rw [hnf]
    have HRF : Hid (false = (((decide (deep ≤ 400) && inSet kd kind) && (AE && (AK && FB))) && decide (1 + (CE + CK) ≤ k))) := hide (by
      symm
      rw [Bool.and_eq_false_iff] at hnf
      rcases hnf with h | h
      · rw [decide_eq_false (p := 1 + (CE + CK) ≤ k) (by have := of_decide_eq_false h; omega), Bool.and_false]
      · rw [h]; simp)
    clear hnx hnf HIH HIX HF HSF HHS HXC HXX HCK HAK HOP HL
    go_wp2_with fail
    exact bodyPost_ret (v := .bool false) (by simp [results, Try.results29, go_sem]) rfl ⟨false, _, rfl, unhide HRF, fun h => (by cases h), unhide HP1, unhide HF1⟩
  rw [hnx]
  rw [Bool.and_eq_true] at hnx
  have hk1 : 1 ≤ k := of_decide_eq_true hnx.1
  have hdp : deep ≤ 400 := of_decide_eq_true hnx.2
  clear hnx
  obtain ⟨k1, rfl⟩ : ∃ k1, k = k1 + 1 := ⟨k - 1, by omega⟩
  have q1 : (((k1 + 1 : Nat) : Int)) - 1 = (k1 : Int) := by omega
  rw [q1] at HP1
  clear q1
  obtain ⟨q0, q1', q2, q3, q4, q5⟩ := unhide HXC V1 (unhide HX1)
  have HB1 := hide (Fx.below (unhide HBW) (unhide HF1) (Nat.le_refl _) (unhide HBW).size)
  have HXS := hide (unhide HIX k1 V1 hdp (by omega) (unhide HP1) (unhide HB1))
  clear HIX
  go_wp2_with fail
  refine (unhide HHS V1).mono ?_
  rintro e V1b ⟨rfl, rfl⟩
  cases hin : inSet kd kind
  · have HRF : Hid (false = (((decide (deep ≤ 400) && inSet kd kind) && (AE && (AK && FB))) && decide (1 + (CE + CK) ≤ k1 + 1))) := hide (by rw [hin]; simp)
    clear hin HIH HF HSF HHS HXC HXX HCK HAK HOP HL HXS
    go_wp2_with fail
    exact bodyPost_ret (v := .bool false) (by simp [results, Try.results29, go_sem]) rfl ⟨false, _, rfl, unhide HRF, fun h => (by cases h), unhide HP1, unhide HF1⟩
  have HIN := hide hin
  clear hin HHS
  go_wp2_with fail
  refine (unhide HXS).mono ?_
  rintro e V2 ⟨r, k', rfl, hr, hrk, hp2, hf2⟩
  have HR := hide hr
  have HRK := hide hrk
  have HP2 := hide hp2
  have HF2 := hide ((unhide HF1).trans hf2)
  have HX2 := hide ((unhide HX1).trans hf2)
  clear hr hrk hp2 hf2 q0 q1' q2 q3 q4 q5 HXS
  cases r
  · have HRF : Hid (false = (((decide (deep ≤ 400) && inSet kd kind) && (AE && (AK && FB))) && decide (1 + (CE + CK) ≤ k1 + 1))) := hide (by
      symm
      have h := (unhide HR).symm
      rw [Bool.and_eq_false_iff] at h
      rcases h with h | h
      · rw [h]; simp
      · rw [decide_eq_false (p := 1 + (CE + CK) ≤ k1 + 1) (by have := of_decide_eq_false h; omega), Bool.and_false])
    clear HR HRK HIH HF HSF HXC HXX HCK HAK HOP HL HIN
    go_wp2_with fail
    exact bodyPost_ret (v := .bool false) (by simp [results, Try.results29, go_sem]) rfl ⟨false, _, rfl, unhide HRF, fun h => (by cases h), unhide HP2, unhide HF2⟩
  have hAB : AE = true ∧ CE ≤ k1 := by
    have h := (unhide HR).symm
    rw [Bool.and_eq_true] at h
    exact ⟨h.1, of_decide_eq_true h.2⟩
  obtain ⟨rfl, hcs⟩ := hAB
  have hk' := unhide HRK rfl
  subst hk'
  obtain ⟨k2, rfl⟩ : ∃ k2, k1 = k2 + CE := ⟨k1 - CE, by omega⟩
  have q1 : (((k2 + CE : Nat) : Int)) - (CE : Int) = (k2 : Int) := by omega
  rw [q1] at HP2
  clear q1 HR HRK hcs
  obtain ⟨q0, q1', q2, q3, q4, q5⟩ := unhide HXC V2 (unhide HX2)
  go_wp2_with fail
  clear q0 q1' q2 q3 q4 q5
  go_loopw [36] (fun i wr => ∃ j : Nat, j ≤ L2 ∧ i = .int .i64 j ∧ (xs.take j).all (okSN sg kd tg d (deep + 1)) = true ∧ (∃ m : Nat, m + ((xs.take j).map (cntSN d)).sum = k2 ∧ Pl w0.heap.size sv T wr (m : Int)) ∧ Fx w0.heap.size X wr) (fun i _ => L2 - (intOf i).toNat)
  case atStart => exact ⟨0, Nat.zero_le _, rfl, rfl, ⟨k2, by simp, unhide HP2⟩, unhide HX2⟩
  case round =>
    obtain ⟨j, hj, rfl, hall, ⟨m, hm, hp⟩, hfx⟩ := hrel
    obtain ⟨q0, q1', q2, q3, q4, q5⟩ := unhide HXC wr hfx
    have HA := hide hall
    have HM0 := hide hm
    have HPB := hide hp
    have HFW := hide ((Fx.of (g := w0.heap.size) (show Below W.heap.size W X by rw [unhide HXX]; exact bal (brf W) _)).trans hfx)
    have HFX1 := hide hfx
    have HBR := hide (Fx.below (unhide HBW) (unhide HFW) (Nat.le_refl _) (unhide HBW).size)
    clear hall hp hfx
    by_cases hlt : j < L2
    · obtain ⟨y, hy⟩ : ∃ y, xs[j]? = some y := ⟨_, List.getElem?_eq_getElem (by rw [unhide HL]; exact hlt)⟩
      obtain ⟨b, o, kc', uk, hv, hlc, hru, ⟨a', l', c', a'', l'', c'', hue⟩, hat⟩ := unhide HOP j y hy wr (unhide HBR)
      injection hv with e1 e2 e3
      subst e1 e3
      obtain ⟨Y, hY⟩ : ∃ Y, Y = wr.alloc (.cells uk.toArray 46) := ⟨_, rfl⟩
      have hbY : Below wr.heap.size wr Y := by rw [hY]; exact bal (brf wr) _
      have HFXX := hide ((unhide HFX1).trans (Fx.of hbY))
      have HFWW := hide ((unhide HFW).trans (Fx.of hbY))
      have HC := hide ((unhide HIH) y uk (deep + 1) m Y hru (by omega) (by omega) (by omega) ((unhide HPB).later hbY) ((unhide HBR).trans (Below.mono hbY (unhide HBR).size)))
      subst hue
      have HYY := hide hY
      clear hY hbY
      have k0 := hat.get (j := 0) rfl
      have k1' := hat.get (j := 1) rfl
      have k2' := hat.get (j := 2) rfl
      have k3 := hat.get (j := 3) rfl
      have k4 := hat.get (j := 4) rfl
      have k5 := hat.get (j := 5) rfl
      simp only [Nat.add_zero] at k0
      have HST := hide (sum_takeS (f := cntSN d) hy)
      have HSL := hide (sum_leS (f := cntSN d) xs (j + 1))
      have HAT := hide (all_takeS (p := okSN sg kd tg d (deep + 1)) hy)
      have HNO : Hid (okSN sg kd tg d (deep + 1) y = false → AK = false) := hide (fun h => by
        rw [← unhide HAK, ← Bool.not_eq_true]; intro h2
        have := List.all_eq_true.1 h2 y (List.mem_of_getElem? hy)
        rw [h] at this; cases this)
      have i1 : (0 : Int) ≤ (j : Int) := by omega
      have i2 : (j : Int) < (L2 : Int) := by omega
      obtain ⟨cy, hcy⟩ : ∃ c, cntSN d y = c := ⟨_, rfl⟩
      rw [hcy] at HC HST
      generalize y.kind = z0 at *
      generalize y.n = z1 at *
      generalize y.low = z2 at *
      generalize y.wide = z3 at *
      clear hat hru hy
      go_wp2_with fail
      rw [← unhide HYY]
      refine (unhide HC).mono ?_
      rintro e V ⟨r, kk, rfl, hr, hrk, hpv, hfv⟩
      have HR := hide hr
      have HRK := hide hrk
      have HPV := hide hpv
      have HFV := hide ((unhide HFXX).trans hfv)
      have HFWV := hide ((unhide HFWW).trans hfv)
      clear hr hrk hpv hfv k0 k1' k2' k3 k4 k5 q0 q1' q2 q3 q4 q5
      cases r
      · have HRF : Hid (false = (((decide (deep ≤ 400) && inSet kd kind) && (true && (AK && FB))) && decide (1 + (CE + CK) ≤ k2 + CE + 1))) := hide (by
          symm
          have h := (unhide HR).symm
          rw [Bool.and_eq_false_iff] at h
          rcases h with h | h
          · rw [unhide HNO h]; simp
          · have h1 := of_decide_eq_false h
            have h2 := unhide HST
            have h3 := unhide HSL
            have h4 := unhide HM0
            have h5 := unhide HCK
            rw [decide_eq_false (p := 1 + (CE + CK) ≤ k2 + CE + 1) (by omega), Bool.and_false])
        clear HR HRK HNO HST HSL HIH HF HSF HXC HXX HCK HAK HOP HC HL HA HAT HYY HFXX
        go_wp2_with fail
        exact bodyPost_ret (v := .bool false) (by simp [results, Try.results29, go_sem]) rfl ⟨false, _, rfl, unhide HRF, fun h => (by cases h), unhide HPV, unhide HFWV⟩
      · have HA2 : Hid ((xs.take (j + 1)).all (okSN sg kd tg d (deep + 1)) = true) := hide (by
          have h := (unhide HR).symm
          rw [Bool.and_eq_true] at h
          rw [unhide HAT, unhide HA, h.1]; rfl)
        have HM2 : Hid (∃ m' : Nat, m' + ((xs.take (j + 1)).map (cntSN d)).sum = k2 ∧ Pl w0.heap.size sv T V (m' : Int)) := hide (by
          have h := (unhide HR).symm
          rw [Bool.and_eq_true] at h
          have h1 := of_decide_eq_true h.2
          have h4 := unhide HM0
          have h2 := unhide HST
          refine ⟨m - cy, by omega, ?_⟩
          have h5 := unhide HPV
          rw [unhide HRK rfl] at h5
          rw [show (((m - cy : Nat) : Int)) = (m : Int) - (cy : Nat) by omega]
          exact h5)
        clear HR HRK HNO HST HSL HIH HF HSF HXC HXX HCK HAK HOP HC HL HA HAT HYY HFXX
        go_wp2_with fail
        go_roundw
        case rel => exact ⟨j + 1, by omega, by go_num, unhide HA2, unhide HM2, unhide HFV⟩
        case measure => simp [intOf]; omega
    · obtain rfl : L2 = j := by omega
      have hAE : AK = true := by
        have h := unhide HA
        rw [List.take_of_length_le (by rw [unhide HL]; exact Nat.le_refl _), unhide HAK] at h
        exact h
      have hSE : m + CK = k2 := by
        have h := unhide HM0
        rwa [List.take_of_length_le (by rw [unhide HL]; exact Nat.le_refl _), unhide HCK] at h
      clear HCK HAK HOP HIH HA HM0 HL
      subst hAE
      have HWF : Hid ((((decide (deep ≤ 400) && inSet kd kind) && (true && (true && FB))) && decide (1 + (CE + CK) ≤ k2 + CE + 1)) = FB) := hide (by
        rw [decide_eq_true hdp, unhide HIN, decide_eq_true (show 1 + (CE + CK) ≤ k2 + CE + 1 by omega)]; simp)
      have HKE : Hid ((m : Int) = ((k2 + CE + 1 : Nat) : Int) - ((1 + (CE + CK) : Nat) : Int)) := hide (by omega)
      have HFX := HFW
      have fk : ∀ k : Int, kind ≠ k → (kind == k) = false := fun k h => beq_eq_false_iff_ne.2 h
      have nk2 : ¬ (L2 : Int) < (L2 : Int) := by omega
      by_cases c2 : kind = 2 ∨ kind = 3
      · have HQ := hide ((unhide HF).symm.trans (if_pos c2))
        by_cases hz : L2 = 0
        · subst hz
          have HQ2 := hide (show FB = SB from (unhide HQ).trans (by simp))
          have HC := hide (unhide HSF wr (unhide HBR) (unhide HPB).c0)
          clear HQ HF HSF HXC HLM fk
          rcases c2 with rfl | rfl
          · skip
            go_wp2_with fail
            refine (unhide HC).mono ?_
            rintro e V ⟨rfl, hb⟩
            have HV1 := hide ((unhide HPB).later hb)
            have HV2 := hide ((unhide HFW).trans (Fx.of hb))
            clear hb HC
            go_wp2_with fail
            exact bodyPost_ret (v := .bool SB) (by simp [results, Try.results29, go_sem]) rfl ⟨SB, _, rfl, ((unhide HWF).trans (unhide HQ2)).symm, fun _ => unhide HKE, unhide HV1, unhide HV2⟩
          · skip
            go_wp2_with fail
            refine (unhide HC).mono ?_
            rintro e V ⟨rfl, hb⟩
            have HV1 := hide ((unhide HPB).later hb)
            have HV2 := hide ((unhide HFW).trans (Fx.of hb))
            clear hb HC
            go_wp2_with fail
            exact bodyPost_ret (v := .bool SB) (by simp [results, Try.results29, go_sem]) rfl ⟨SB, _, rfl, ((unhide HWF).trans (unhide HQ2)).symm, fun _ => unhide HKE, unhide HV1, unhide HV2⟩
        · have HQ2 := hide (show FB = false from (unhide HQ).trans (by simp [hz]))
          have n0 : ((L2 : Int) == 0) = false := beq_eq_false_iff_ne.2 (by omega)
          clear HQ HF HSF HXC HLM fk
          rcases c2 with rfl | rfl
          · skip
            go_wp2_with fail
            exact bodyPost_ret (v := .bool false) (by simp [results, Try.results29, go_sem]) rfl (.inl ⟨rfl, fun _ hf => (by rw [unhide HQ2] at hf; cases hf), ⟨_, unhide HPB⟩, unhide HFW⟩)
          · skip
            go_wp2_with fail
            exact bodyPost_ret (v := .bool false) (by simp [results, Try.results29, go_sem]) rfl (.inl ⟨rfl, fun _ hf => (by rw [unhide HQ2] at hf; cases hf), ⟨_, unhide HPB⟩, unhide HFW⟩)
      by_cases c5 : kind = 5
      · have HQ := hide ((unhide HF).symm.trans ((if_neg c2).trans (if_pos c5)))
        subst c5
        by_cases h0 : 0 ≤ n
        · by_cases h1 : n ≤ 1000000
          · have HQ2 := hide (show FB = plainB n low wide L L2 n 0 0 from (unhide HQ).trans (by simp [h0, h1]))
            clear HQ c2 fk
            have HC := hide (iIsPlain 5 n low wide ka kb L L2 kc kc2 (n) (0) (0) wr (unhide HLM).1 (unhide HLM).2)
            generalize plainB n low wide L L2 (n) (0) (0) = R at HC HQ2
            clear HXC HSF HF HLM
            go_wp2_with fail
            refine (unhide HC).mono ?_
            rintro e V ⟨rfl, hb⟩
            have HV1 := hide ((unhide HPB).later hb)
            have HV2 := hide ((unhide HFW).trans (Fx.of hb))
            clear hb HC
            go_wp2_with fail
            exact bodyPost_ret (v := .bool R) (by simp [results, Try.results29, go_sem]) rfl ⟨R, _, rfl, ((unhide HWF).trans (unhide HQ2)).symm, fun _ => unhide HKE, unhide HV1, unhide HV2⟩
          · have HQ2 := hide (show FB = false from (unhide HQ).trans (by simp [h1]))
            clear HQ c2 fk HF HSF HXC HLM
            go_wp2_with fail
            exact bodyPost_ret (v := .bool false) (by simp [results, Try.results29, go_sem]) rfl (.inl ⟨rfl, fun _ hf => (by rw [unhide HQ2] at hf; cases hf), ⟨_, unhide HPB⟩, unhide HFW⟩)
        · have HQ2 := hide (show FB = false from (unhide HQ).trans (by simp [h0]))
          clear HQ c2 fk HF HSF HXC HLM
          go_wp2_with fail
          exact bodyPost_ret (v := .bool false) (by simp [results, Try.results29, go_sem]) rfl (.inl ⟨rfl, fun _ hf => (by rw [unhide HQ2] at hf; cases hf), ⟨_, unhide HPB⟩, unhide HFW⟩)
      by_cases c4 : kind = 4
      · have HQ := hide ((unhide HF).symm.trans ((if_neg c2).trans ((if_neg c5).trans (if_pos c4))))
        subst c4
        clear fk
        have HC := hide (iIsPlain 4 n low wide ka kb L L2 kc kc2 (0) (1) (2) wr (unhide HLM).1 (unhide HLM).2)
        generalize plainB n low wide L L2 (0) (1) (2) = R at HC HQ
        clear HXC HSF HF HLM
        go_wp2_with fail
        refine (unhide HC).mono ?_
        rintro e V ⟨rfl, hb⟩
        have HV1 := hide ((unhide HPB).later hb)
        have HV2 := hide ((unhide HFW).trans (Fx.of hb))
        clear hb HC
        go_wp2_with fail
        exact bodyPost_ret (v := .bool R) (by simp [results, Try.results29, go_sem]) rfl ⟨R, _, rfl, ((unhide HWF).trans (unhide HQ)).symm, fun _ => unhide HKE, unhide HV1, unhide HV2⟩
      by_cases c7 : kind = 7
      · have HQ := hide ((unhide HF).symm.trans ((if_neg c2).trans ((if_neg c5).trans ((if_neg c4).trans (if_pos c7)))))
        subst c7
        clear fk
        have HC := hide (iIsPlain 7 n low wide ka kb L L2 kc kc2 (0) (1) (0) wr (unhide HLM).1 (unhide HLM).2)
        generalize plainB n low wide L L2 (0) (1) (0) = R at HC HQ
        clear HXC HSF HF HLM
        go_wp2_with fail
        refine (unhide HC).mono ?_
        rintro e V ⟨rfl, hb⟩
        have HV1 := hide ((unhide HPB).later hb)
        have HV2 := hide ((unhide HFW).trans (Fx.of hb))
        clear hb HC
        go_wp2_with fail
        exact bodyPost_ret (v := .bool R) (by simp [results, Try.results29, go_sem]) rfl ⟨R, _, rfl, ((unhide HWF).trans (unhide HQ)).symm, fun _ => unhide HKE, unhide HV1, unhide HV2⟩
      by_cases c6 : kind = 6
      · have HQ := hide ((unhide HF).symm.trans ((if_neg c2).trans ((if_neg c5).trans ((if_neg c4).trans ((if_neg c7).trans (if_pos c6))))))
        subst c6
        clear fk
        have HC := hide (iIsPlain 6 n low wide ka kb L L2 kc kc2 (0) (0) (0) wr (unhide HLM).1 (unhide HLM).2)
        generalize plainB n low wide L L2 (0) (0) (0) = R at HC HQ
        clear HXC HSF HF HLM
        go_wp2_with fail
        refine (unhide HC).mono ?_
        rintro e V ⟨rfl, hb⟩
        have HV1 := hide ((unhide HPB).later hb)
        have HV2 := hide ((unhide HFW).trans (Fx.of hb))
        clear hb HC
        go_wp2_with fail
        exact bodyPost_ret (v := .bool R) (by simp [results, Try.results29, go_sem]) rfl ⟨R, _, rfl, ((unhide HWF).trans (unhide HQ)).symm, fun _ => unhide HKE, unhide HV1, unhide HV2⟩
      have HQ := hide ((unhide HF).symm.trans ((if_neg c2).trans ((if_neg c5).trans ((if_neg c4).trans ((if_neg c7).trans ((if_neg c6)))))))
      have f2 := fk 2 (by omega)
      have f3 := fk 3 (by omega)
      have f4 := fk 4 c4
      have f5 := fk 5 c5
      have f6 := fk 6 c6
      have f7 := fk 7 c7
      clear fk c2 c5 c4 c7 c6
      have HC := hide (iIsPlain kind n low wide ka kb L L2 kc kc2 (0) (0) (L2) wr (unhide HLM).1 (unhide HLM).2)
      generalize plainB n low wide L L2 (0) (0) (L2) = R at HC HQ
      clear HXC HSF HF HLM
      go_wp2_with fail
      refine (unhide HC).mono ?_
      rintro e V ⟨rfl, hb⟩
      have HV1 := hide ((unhide HPB).later hb)
      have HV2 := hide ((unhide HFW).trans (Fx.of hb))
      clear hb HC
      go_wp2_with fail
      exact bodyPost_ret (v := .bool R) (by simp [results, Try.results29, go_sem]) rfl ⟨R, _, rfl, ((unhide HWF).trans (unhide HQ)).symm, fun _ => unhide HKE, unhide HV1, unhide HV2⟩
end Go.Proofs.Ytgkfhaahcedbpaa
