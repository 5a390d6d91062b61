/- The specification's ex: a step of depth. -/
import Derived.Test.YtgkfhaahcedbpaaGP6
namespace Go.Proofs.Ytgkfhaahcedbpaa
open Go Go.RowKit Gs
set_option linter.unusedVariables false
set_option linter.unusedSimpArgs false
set_option maxRecDepth 100000
set_option maxHeartbeats 16000000 in
theorem sExStep (sg : List Signal) (w0 : World) (sv pv : Value) (T : TypeId) (d : Nat) (hsg : RS 6 RSignal w0 0 sg sv) (hsl : sg.length ≤ 1048576) (IH : ExC sg w0 sv pv T d) : ExC sg w0 sv pv T (d + 1) := by
  intro x u deep k W hr hd1 hd2 hk hpb hbw
  obtain ⟨v5, rfl, hbs, hkr⟩ := hr
  have hlk := hkr.len
  unfold maxLen at hlk
  have HKR := hide hkr
  have HOP := hide (fun (j : Nat) (y : Ex) (hy : x.kids[j]? = some y) (V : World) (hV : Below w0.heap.size w0 V) => (show ∃ b o kc uk, v5 = .slice (some ⟨b, o, none⟩) x.kids.length kc ∧ x.kids.length ≤ kc ∧ RExN d w0 0 y uk ∧ (∃ a' l' c', uk = [.int .i64 y.op, .int .i64 y.width, .int .i64 y.n, .bool y.signed, .string y.bits, .slice a' l' c']) ∧ At V b (o + j * 6) uk from by
    rcases hkr.open with ⟨hnil, _⟩ | ⟨b, o, kc, e, hlc, _, _, hcs⟩
    · rw [hnil] at hy; simp at hy
    · obtain ⟨uk, _, hat, hu⟩ := hcs j y hy
      obtain ⟨v6, e6, _, d', h6⟩ := hu.cells
      obtain ⟨a', c', e7⟩ := h6.slice
      exact ⟨b, o, kc, uk, e, hlc, hu, ⟨a', _, c', by rw [e6, e7]⟩, fun i z hz => cell_later hV (hat i z hz)⟩))
  obtain ⟨ka, kc, rfl⟩ := hkr.slice
  clear hkr
  have hck : cntEN (d + 1) x = 1 + (x.kids.map (cntEN d)).sum := rfl
  have hok : okEN sg (d + 1) deep x = ((decide (deep ≤ 400) && (decide (1 ≤ x.width) && decide (x.width ≤ 64))) && (x.kids.all (okEN sg d (deep + 1)) && (fieldsB x.op x.n x.signed x.bits && shG sg x.op x.width x.n x.signed x.bits (x.kids.map (·.width))))) := rfl
  by_cases hbad : k = 0 ∨ 400 < deep ∨ x.width < 1 ∨ 64 < x.width
  · refine (sExNo sg w0 sv pv T d x.op x.width x.n x.signed x.bits ka x.kids.length kc deep k W hk hpb hbad).mono ?_
    rintro e W' ⟨rfl, h1, h2⟩
    refine ⟨false, _, rfl, ?_, fun h => (by cases h), h1, h2⟩
    symm
    rw [Bool.and_eq_false_iff]
    rcases hbad with h | h | h | h
    · right; rw [hck]; exact decide_eq_false (by omega)
    · left; rw [hok, decide_eq_false (p := deep ≤ 400) (by omega)]; rfl
    · left; rw [hok, decide_eq_false (p := 1 ≤ x.width) (by omega)]; simp
    · left; rw [hok, decide_eq_false (p := x.width ≤ 64) (by omega)]; simp
  have hk1 : 1 ≤ k := by omega
  have hdp : deep ≤ 400 := by omega
  have hw1 : 1 ≤ x.width := by omega
  have hw2 : x.width ≤ 64 := by omega
  rw [hok, decide_eq_true hdp, decide_eq_true hw1, decide_eq_true hw2, hck, Bool.and_self, Bool.true_and, Bool.true_and]
  clear hbad hok hck
  obtain ⟨k1, rfl⟩ : ∃ k1, k = k1 + 1 := ⟨k - 1, by omega⟩
  have HSH := hide (fun (V : World) (hV : Below w0.heap.size w0 V) (hp0 : V.cell? ⟨w0.heap.size, 0, none⟩ = some sv) (hx : ∀ y ∈ x.kids.map (·.width), 0 ≤ y ∧ y ≤ 64) (hl : (x.kids.map (·.width)).length ≤ 1048576) => sShapeG sg x.op x.width x.n x.signed x.bits (x.kids.map (·.width)) _ w0.heap.size sv V hw1 hw2 hbs hx hl ((RS.wide (unhide HKR)).later RKz.keeps hV) hp0 (hsg.later RSignal.keeps hV) hsl)
  have HIH := hide IH
  have HKL : Hid (∀ j y, x.kids[j]? = some y → y ∈ x.kids) := hide (fun j y h => List.mem_of_getElem? h)
  clear IH HKR hsg hbs
  generalize shG sg x.op x.width x.n x.signed x.bits (x.kids.map (·.width)) = SB at *
  obtain ⟨xs, hxs⟩ : ∃ xs, x.kids = xs := ⟨_, rfl⟩
  rw [hxs] at HOP HSH HKL hlk ⊢
  clear hxs
  generalize x.op = op at *
  generalize x.width = width at *
  generalize x.n = n at *
  generalize x.signed = sd at *
  generalize x.bits = s at *
  obtain ⟨L, hL⟩ : ∃ L, xs.length = L := ⟨_, rfl⟩
  have HL := hide hL
  rw [hL] at HOP HSH hlk ⊢
  clear hL
  have q1 : (((k1 + 1 : Nat) : Int)) - 1 = (k1 : Int) := by omega
  have c2 := hpb.c2
  have fr := hpb.free
  have hpl := hpb.lt
  have HPL := hide hpl
  obtain ⟨K, hK⟩ : ∃ K : Int, ((k1 + 1 : Nat) : Int) = K := ⟨_, rfl⟩
  rw [hK] at c2 q1 hpb
  have hn0 : ¬ ((k1 : Int) < 0) := by omega
  obtain ⟨X, hX⟩ : ∃ X, X = (W.setCell ⟨w0.heap.size, 2, none⟩ (.int .i64 (k1 : Int))).alloc (.cells #[.int .i64 op, .int .i64 width, .int .i64 n, .bool sd, .string s, .slice ka L kc] 72) := ⟨_, rfl⟩
  have HP0 := hide (show Pb w0.heap.size sv pv T X (k1 : Int) by rw [hX]; exact (hpb.set (k1 : Int)).later (bal (brf _) _))
  have HFX0 := hide (show Fx w0.heap.size W X by rw [hX]; exact (Fx.set w0.heap.size 2 W _).trans (Fx.of (bal (brf _) _)))
  have HBW := hide hbw
  have HBX := hide (Fx.below hbw (unhide HFX0) (Nat.le_refl _) hbw.size)
  have HXC : Hid (∀ V, Fx w0.heap.size X V → V.cell? ⟨W.heap.size, 0, none⟩ = some (.int .i64 op) ∧ V.cell? ⟨W.heap.size, 1, none⟩ = some (.int .i64 width) ∧ V.cell? ⟨W.heap.size, 2, none⟩ = some (.int .i64 n) ∧ V.cell? ⟨W.heap.size, 3, none⟩ = some (.bool sd) ∧ V.cell? ⟨W.heap.size, 4, none⟩ = some (.string s) ∧ V.cell? ⟨W.heap.size, 5, none⟩ = some (.slice ka L kc)) := hide (fun V hV => by
    have e : (W.setCell ⟨w0.heap.size, 2, none⟩ (.int .i64 (k1 : Int))).heap.size = W.heap.size := by simp
    have K := fun (i : Nat) (y : Value) (hy : (#[.int .i64 op, .int .i64 width, .int .i64 n, .bool sd, .string s, .slice ka L kc] : Array Value)[i]? = some y) => hV.cell (b := W.heap.size) (o := i) (v := y) (by rw [hX, ← e, World.cell?_alloc_new]; exact hy) (by omega)
    exact ⟨K 0 _ rfl, K 1 _ rfl, K 2 _ rfl, K 3 _ rfl, K 4 _ rfl, K 5 _ rfl⟩)
  have HXX := hide hX
  clear hX hpb
  go_enter Try.func22, Try.ntmps22
  go_wp2_with fail
  rw [← unhide HXX]
  go_loopw [7] (fun i wr => ∃ j : Nat, j ≤ L ∧ i = .int .i64 j ∧ (xs.take j).all (okEN sg d (deep + 1)) = true ∧ (∃ m : Nat, m + ((xs.take j).map (cntEN d)).sum = k1 ∧ Pb w0.heap.size sv pv T wr (m : Int)) ∧ Fx w0.heap.size X wr) (fun i _ => L - (intOf i).toNat)
  case atStart => exact ⟨0, Nat.zero_le _, rfl, rfl, ⟨k1, by simp, unhide HP0⟩, Fx.refl _ _⟩
  case round =>
    obtain ⟨j, hj, rfl, hall, ⟨m, hm, hp⟩, hfx⟩ := hrel
    obtain ⟨q0, q1', q2, q3, q4, q5⟩ := unhide HXC wr hfx
    have HA := hide hall
    have HM0 := hide hm
    have HPB := hide hp
    have HFX1 := hide hfx
    have HBR := hide (Fx.below (unhide HBX) hfx (Nat.le_refl _) (unhide HBX).size)
    clear hall hp hfx
    by_cases hlt : j < L
    · obtain ⟨y, hy⟩ : ∃ y, xs[j]? = some y := ⟨_, List.getElem?_eq_getElem (by rw [unhide HL]; exact hlt)⟩
      obtain ⟨b, o, kc', uk, hv, hlc, hru, ⟨a', l', c', hue⟩, hat⟩ := unhide HOP j y hy wr (unhide HBR)
      injection hv with e1 e2 e3
      subst e1 e3
      have HC := hide ((unhide HIH) y uk (deep + 1) m wr hru (by omega) (by omega) (by omega) (unhide HPB) (unhide HBR))
      subst hue
      have k0 := hat.get (j := 0) rfl
      have k1' := hat.get (j := 1) rfl
      have k2 := hat.get (j := 2) rfl
      have k3 := hat.get (j := 3) rfl
      have k4 := hat.get (j := 4) rfl
      have k5 := hat.get (j := 5) rfl
      simp only [Nat.add_zero] at k0
      have HST := hide (sum_take (f := cntEN d) hy)
      have HSL := hide (sum_le (f := cntEN d) xs (j + 1))
      have HAT := hide (all_takeE (p := okEN sg d (deep + 1)) hy)
      have HNO : Hid (okEN sg d (deep + 1) y = false → xs.all (okEN sg d (deep + 1)) = false) := hide (fun h => by
        rw [← Bool.not_eq_true]; intro h2
        have := List.all_eq_true.1 h2 y (List.mem_of_getElem? hy)
        rw [h] at this; cases this)
      have hdw : deep + 1 ≤ 401 := by omega
      have i1 : (0 : Int) ≤ (j : Int) := by omega
      have i2 : (j : Int) < (L : Int) := by omega
      have hdq : -1000 ≤ deep ∧ deep ≤ 1000 := by omega
      obtain ⟨cy, hcy⟩ : ∃ c, cntEN d y = c := ⟨_, rfl⟩
      rw [hcy] at HC HST
      generalize y.op = z0 at *
      generalize y.width = z1 at *
      generalize y.n = z2 at *
      generalize y.signed = z3 at *
      generalize y.bits = z4 at *
      clear hat hru hy
      go_wp2_with fail
      refine (unhide HC).mono ?_
      rintro e V ⟨r, kk, rfl, hr, hrk, hpv, hfv⟩
      have HR := hide hr
      have HRK := hide hrk
      have HPV := hide hpv
      have HFV := hide ((unhide HFX1).trans hfv)
      clear hr hrk hpv hfv k0 k1' k2 k3 k4 k5 q0 q1' q2 q3 q4 q5
      cases r
      · have HRF : Hid (false = ((xs.all (okEN sg d (deep + 1)) && (fieldsB op n sd s && SB)) && decide (1 + (xs.map (cntEN d)).sum ≤ k1 + 1))) := hide (by
          symm
          rw [Bool.and_eq_false_iff]
          have h := (unhide HR).symm
          rw [Bool.and_eq_false_iff] at h
          rcases h with h | h
          · left; rw [unhide HNO h, Bool.false_and]
          · right
            have h1 := of_decide_eq_false h
            have h2 := unhide HST
            have h3 := unhide HSL
            have h4 := unhide HM0
            exact decide_eq_false (by omega))
        have HF2 := hide ((unhide HFX0).trans (unhide HFV))
        clear HR HRK HNO HST HSL HSH HIH HOP HXC HKL HC HL HA HAT
        go_wp2_with fail
        exact bodyPost_ret (v := .bool false) (by simp [results, Try.results22, go_sem]) rfl ⟨false, _, rfl, unhide HRF, fun h => (by cases h), unhide HPV, unhide HF2⟩
      · have HA2 : Hid ((xs.take (j + 1)).all (okEN sg d (deep + 1)) = true) := hide (by
          have h := (unhide HR).symm
          rw [Bool.and_eq_true] at h
          rw [unhide HAT, unhide HA, h.1]; rfl)
        have HM2 : Hid (∃ m' : Nat, m' + ((xs.take (j + 1)).map (cntEN d)).sum = k1 ∧ Pb w0.heap.size sv pv T V (m' : Int)) := hide (by
          have h := (unhide HR).symm
          rw [Bool.and_eq_true] at h
          have h1 := of_decide_eq_true h.2
          have h4 := unhide HM0
          have h2 := unhide HST
          refine ⟨m - cy, by omega, ?_⟩
          have h5 := unhide HPV
          rw [unhide HRK rfl] at h5
          rw [show (((m - cy : Nat) : Int)) = (m : Int) - (cy : Nat) by omega]
          exact h5)
        clear HR HRK HNO HST HSL HSH HIH HOP HXC HKL HC HL HA HAT
        go_wp2_with fail
        go_roundw
        case rel => exact ⟨j + 1, by omega, by go_num, unhide HA2, unhide HM2, unhide HFV⟩
        case measure => simp [intOf]; omega
    · obtain rfl : L = j := by omega
      have HAE : Hid (xs.all (okEN sg d (deep + 1)) = true) := hide (by
        have h := unhide HA
        rwa [List.take_of_length_le (by rw [unhide HL]; exact Nat.le_refl _)] at h)
      have HSE : Hid (m + (xs.map (cntEN d)).sum = k1) := hide (by
        have h := unhide HM0
        rwa [List.take_of_length_le (by rw [unhide HL]; exact Nat.le_refl _)] at h)
      have HR0 : Hid (((xs.all (okEN sg d (deep + 1)) && (fieldsB op n sd s && SB)) && decide (1 + (xs.map (cntEN d)).sum ≤ k1 + 1)) = (fieldsB op n sd s && SB)) := hide (by
        rw [unhide HAE, decide_eq_true (by have := unhide HSE; omega), Bool.true_and, Bool.and_true])
      have HM : Hid ((m : Int) = ((k1 + 1 : Nat) : Int) - ((1 + (xs.map (cntEN d)).sum : Nat) : Int)) := hide (by have := unhide HSE; omega)
      have SH0 := hide (unhide HSH wr (unhide HBR) (unhide HPB).c0 (fun y hy => by
        obtain ⟨z, hz, rfl⟩ := List.mem_map.1 hy
        have := okEN_width (List.all_eq_true.1 (unhide HAE) z hz)
        omega) (by
        rw [List.length_map]
        have h1 := len_sum (f := cntEN d) xs (fun z hz => cntEN_pos (List.all_eq_true.1 (unhide HAE) z hz))
        have h2 := unhide HSE
        omega))
      have HFX := hide ((unhide HFX0).trans (unhide HFX1))
      have HT := hide (show fieldsB op n sd s = true → SB = ((xs.all (okEN sg d (deep + 1)) && (fieldsB op n sd s && SB)) && decide (1 + (xs.map (cntEN d)).sum ≤ k1 + 1)) from fun h => by rw [unhide HR0, h]; rfl)
      have HF := hide (show fieldsB op n sd s = false → false = ((xs.all (okEN sg d (deep + 1)) && (fieldsB op n sd s && SB)) && decide (1 + (xs.map (cntEN d)).sum ≤ k1 + 1)) from fun h => by rw [unhide HR0, h]; rfl)
      have SH := SH0
      clear HR0 HAE HSE SH0 HSH HIH HOP HXC HKL HL HA HM0
      have fop : ∀ k : Int, op ≠ k → (op == k) = false ∧ (op != k) = true := fun k h => ⟨beq_eq_false_iff_ne.2 h, bne_iff_ne.2 h⟩
      cases hE : s.toList.isEmpty
      · by_cases o29 : op = 29
        · subst o29
          by_cases hn : n = 0
          · subst hn
            cases sd
            · skip
              have HE := hide (unhide HT (by simp [fieldsB, hE]))
              go_wp2_with (first | (go_at_call 35; refine (unhide SH).mono ?_; rintro e V ⟨rfl, hb⟩; have HV1 := hide ((unhide HPB).later hb); have HV2 := hide ((unhide HFX).trans (Fx.of hb)); clear hb))
              exact bodyPost_ret (v := .bool SB) (by simp [results, Try.results22, go_sem]) rfl ⟨SB, _, rfl, unhide HE, fun _ => unhide HM, unhide HV1, unhide HV2⟩
            · skip
              have HFB := hide (show fieldsB 29 0 true s = false by simp [fieldsB, hE])
              have HE := hide (unhide HF (unhide HFB))
              go_wp2
              first
                | exact bodyPost_ret (v := .bool false) (by simp [results, Try.results22, go_sem]) rfl ⟨false, _, rfl, unhide HE, fun h => (by cases h), unhide HPB, unhide HFX⟩
                | exact bodyPost_ret (v := .bool false) (by simp [results, Try.results22, go_sem]) rfl (.inl ⟨rfl, fun _ hf => (by rw [unhide HFB] at hf; cases hf), ⟨_, unhide HPB⟩, unhide HFX⟩)
          · have hn1 : (n != 0) = true := bne_iff_ne.2 hn
            have HFB := hide (show fieldsB 29 n sd s = false by simp [fieldsB, hE, hn])
            have HE := hide (unhide HF (unhide HFB))
            go_wp2
            first
              | exact bodyPost_ret (v := .bool false) (by simp [results, Try.results22, go_sem]) rfl ⟨false, _, rfl, unhide HE, fun h => (by cases h), unhide HPB, unhide HFX⟩
              | exact bodyPost_ret (v := .bool false) (by simp [results, Try.results22, go_sem]) rfl (.inl ⟨rfl, fun _ hf => (by rw [unhide HFB] at hf; cases hf), ⟨_, unhide HPB⟩, unhide HFX⟩)
        · obtain ⟨f1, f2⟩ := fop 29 o29
          have HFB := hide (show fieldsB op n sd s = false by simp [fieldsB, hE, o29])
          have HE := hide (unhide HF (unhide HFB))
          go_wp2
          first
            | exact bodyPost_ret (v := .bool false) (by simp [results, Try.results22, go_sem]) rfl ⟨false, _, rfl, unhide HE, fun h => (by cases h), unhide HPB, unhide HFX⟩
            | exact bodyPost_ret (v := .bool false) (by simp [results, Try.results22, go_sem]) rfl (.inl ⟨rfl, fun _ hf => (by rw [unhide HFB] at hf; cases hf), ⟨_, unhide HPB⟩, unhide HFX⟩)
      · by_cases hn : n = 0
        · subst hn
          cases sd
          · skip
            have HE := hide (unhide HT (by simp [fieldsB, hE]))
            go_wp2_with (first | (go_at_call 35; refine (unhide SH).mono ?_; rintro e V ⟨rfl, hb⟩; have HV1 := hide ((unhide HPB).later hb); have HV2 := hide ((unhide HFX).trans (Fx.of hb)); clear hb))
            exact bodyPost_ret (v := .bool SB) (by simp [results, Try.results22, go_sem]) rfl ⟨SB, _, rfl, unhide HE, fun _ => unhide HM, unhide HV1, unhide HV2⟩
          · skip
            by_cases o7 : op = 7
            · subst o7
              have HE := hide (unhide HT (by simp [fieldsB, hE]))
              go_wp2_with (first | (go_at_call 35; refine (unhide SH).mono ?_; rintro e V ⟨rfl, hb⟩; have HV1 := hide ((unhide HPB).later hb); have HV2 := hide ((unhide HFX).trans (Fx.of hb)); clear hb))
              exact bodyPost_ret (v := .bool SB) (by simp [results, Try.results22, go_sem]) rfl ⟨SB, _, rfl, unhide HE, fun _ => unhide HM, unhide HV1, unhide HV2⟩
            by_cases o8 : op = 8
            · subst o8
              have HE := hide (unhide HT (by simp [fieldsB, hE]))
              go_wp2_with (first | (go_at_call 35; refine (unhide SH).mono ?_; rintro e V ⟨rfl, hb⟩; have HV1 := hide ((unhide HPB).later hb); have HV2 := hide ((unhide HFX).trans (Fx.of hb)); clear hb))
              exact bodyPost_ret (v := .bool SB) (by simp [results, Try.results22, go_sem]) rfl ⟨SB, _, rfl, unhide HE, fun _ => unhide HM, unhide HV1, unhide HV2⟩
            by_cases o12 : op = 12
            · subst o12
              have HE := hide (unhide HT (by simp [fieldsB, hE]))
              go_wp2_with (first | (go_at_call 35; refine (unhide SH).mono ?_; rintro e V ⟨rfl, hb⟩; have HV1 := hide ((unhide HPB).later hb); have HV2 := hide ((unhide HFX).trans (Fx.of hb)); clear hb))
              exact bodyPost_ret (v := .bool SB) (by simp [results, Try.results22, go_sem]) rfl ⟨SB, _, rfl, unhide HE, fun _ => unhide HM, unhide HV1, unhide HV2⟩
            by_cases o13 : op = 13
            · subst o13
              have HE := hide (unhide HT (by simp [fieldsB, hE]))
              go_wp2_with (first | (go_at_call 35; refine (unhide SH).mono ?_; rintro e V ⟨rfl, hb⟩; have HV1 := hide ((unhide HPB).later hb); have HV2 := hide ((unhide HFX).trans (Fx.of hb)); clear hb))
              exact bodyPost_ret (v := .bool SB) (by simp [results, Try.results22, go_sem]) rfl ⟨SB, _, rfl, unhide HE, fun _ => unhide HM, unhide HV1, unhide HV2⟩
            by_cases o28 : op = 28
            · subst o28
              have HE := hide (unhide HT (by simp [fieldsB, hE]))
              go_wp2_with (first | (go_at_call 35; refine (unhide SH).mono ?_; rintro e V ⟨rfl, hb⟩; have HV1 := hide ((unhide HPB).later hb); have HV2 := hide ((unhide HFX).trans (Fx.of hb)); clear hb))
              exact bodyPost_ret (v := .bool SB) (by simp [results, Try.results22, go_sem]) rfl ⟨SB, _, rfl, unhide HE, fun _ => unhide HM, unhide HV1, unhide HV2⟩
            obtain ⟨fa7, fb7⟩ := fop 7 o7
            obtain ⟨fa8, fb8⟩ := fop 8 o8
            obtain ⟨fa12, fb12⟩ := fop 12 o12
            obtain ⟨fa13, fb13⟩ := fop 13 o13
            obtain ⟨fa28, fb28⟩ := fop 28 o28
            have HFB := hide (show fieldsB op 0 true s = false by simp [fieldsB, hE, o7, o8, o12, o13, o28])
            have HE := hide (unhide HF (unhide HFB))
            go_wp2
            first
              | exact bodyPost_ret (v := .bool false) (by simp [results, Try.results22, go_sem]) rfl ⟨false, _, rfl, unhide HE, fun h => (by cases h), unhide HPB, unhide HFX⟩
              | exact bodyPost_ret (v := .bool false) (by simp [results, Try.results22, go_sem]) rfl (.inl ⟨rfl, fun _ hf => (by rw [unhide HFB] at hf; cases hf), ⟨_, unhide HPB⟩, unhide HFX⟩)
        · have hn1 : (n != 0) = true := bne_iff_ne.2 hn
          by_cases o27 : op = 27
          · subst o27
            cases sd
            · skip
              have HE := hide (unhide HT (by simp [fieldsB, hE, hn]))
              go_wp2_with (first | (go_at_call 35; refine (unhide SH).mono ?_; rintro e V ⟨rfl, hb⟩; have HV1 := hide ((unhide HPB).later hb); have HV2 := hide ((unhide HFX).trans (Fx.of hb)); clear hb))
              exact bodyPost_ret (v := .bool SB) (by simp [results, Try.results22, go_sem]) rfl ⟨SB, _, rfl, unhide HE, fun _ => unhide HM, unhide HV1, unhide HV2⟩
            · skip
              have HFB := hide (show fieldsB 27 n true s = false by simp [fieldsB, hE, hn])
              have HE := hide (unhide HF (unhide HFB))
              go_wp2
              first
                | exact bodyPost_ret (v := .bool false) (by simp [results, Try.results22, go_sem]) rfl ⟨false, _, rfl, unhide HE, fun h => (by cases h), unhide HPB, unhide HFX⟩
                | exact bodyPost_ret (v := .bool false) (by simp [results, Try.results22, go_sem]) rfl (.inl ⟨rfl, fun _ hf => (by rw [unhide HFB] at hf; cases hf), ⟨_, unhide HPB⟩, unhide HFX⟩)
          · obtain ⟨f1, f2⟩ := fop 27 o27
            by_cases o30 : op < 30
            · skip
              have HFB := hide (show fieldsB op n sd s = false by simp [fieldsB, hE, hn, o27, Int.not_le.2 o30])
              have HE := hide (unhide HF (unhide HFB))
              go_wp2
              first
                | exact bodyPost_ret (v := .bool false) (by simp [results, Try.results22, go_sem]) rfl ⟨false, _, rfl, unhide HE, fun h => (by cases h), unhide HPB, unhide HFX⟩
                | exact bodyPost_ret (v := .bool false) (by simp [results, Try.results22, go_sem]) rfl (.inl ⟨rfl, fun _ hf => (by rw [unhide HFB] at hf; cases hf), ⟨_, unhide HPB⟩, unhide HFX⟩)
            · have o30d : decide (op < 30) = false := decide_eq_false o30
              have o31 : 30 ≤ op := by omega
              have o7 : op ≠ 7 := by omega
              have o8 : op ≠ 8 := by omega
              have o12 : op ≠ 12 := by omega
              have o13 : op ≠ 13 := by omega
              have o28 : op ≠ 28 := by omega
              obtain ⟨fa7, fb7⟩ := fop 7 o7
              obtain ⟨fa8, fb8⟩ := fop 8 o8
              obtain ⟨fa12, fb12⟩ := fop 12 o12
              obtain ⟨fa13, fb13⟩ := fop 13 o13
              obtain ⟨fa28, fb28⟩ := fop 28 o28
              cases sd
              · skip
                have HE := hide (unhide HT (by simp [fieldsB, hE, hn, o27, o31, o7, o8, o12, o13, o28]))
                go_wp2_with (first | (go_at_call 35; refine (unhide SH).mono ?_; rintro e V ⟨rfl, hb⟩; have HV1 := hide ((unhide HPB).later hb); have HV2 := hide ((unhide HFX).trans (Fx.of hb)); clear hb))
                exact bodyPost_ret (v := .bool SB) (by simp [results, Try.results22, go_sem]) rfl ⟨SB, _, rfl, unhide HE, fun _ => unhide HM, unhide HV1, unhide HV2⟩
              · skip
                have HFB := hide (show fieldsB op n true s = false by simp [fieldsB, hE, hn, o27, o31, o7, o8, o12, o13, o28])
                have HE := hide (unhide HF (unhide HFB))
                go_wp2
                first
                  | exact bodyPost_ret (v := .bool false) (by simp [results, Try.results22, go_sem]) rfl ⟨false, _, rfl, unhide HE, fun h => (by cases h), unhide HPB, unhide HFX⟩
                  | exact bodyPost_ret (v := .bool false) (by simp [results, Try.results22, go_sem]) rfl (.inl ⟨rfl, fun _ hf => (by rw [unhide HFB] at hf; cases hf), ⟨_, unhide HPB⟩, unhide HFX⟩)
end Go.Proofs.Ytgkfhaahcedbpaa
