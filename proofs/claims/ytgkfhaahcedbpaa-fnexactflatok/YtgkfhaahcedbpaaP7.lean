/- The program's look: an expression, however deep. -/
import Derived.Test.YtgkfhaahcedbpaaGP6
namespace Go.Proofs.Ytgkfhaahcedbpaa
open Go Go.RowKit Gs
set_option linter.unusedVariables false
set_option linter.unusedSimpArgs false
set_option maxRecDepth 100000

set_option maxHeartbeats 16000000 in
theorem iExStep (sg : List Signal) (w0 : World) (sv : Value) (T : TypeId) (d : Nat) (hsg : RS 6 RSignal w0 0 sg sv) (hsl : sg.length ≤ 1048576) (IH : XsP sg w0 sv T d) : ExP sg w0 sv T (d + 1) := by
  intro x u deep k W hr hd1 hd2 hk hpb hbw
  obtain ⟨v5, rfl, hbs, hkr⟩ := hr
  have HKR := hide hkr
  obtain ⟨ka, kc, rfl⟩ := hkr.slice
  clear hkr
  have hck : cntEN (d + 1) x = 1 + (x.kids.map (cntEN d)).sum := rfl
  have hok : okEN sg (d + 1) deep x = ((decide (deep ≤ 400) && (decide (1 ≤ x.width) && decide (x.width ≤ 64))) && (x.kids.all (okEN sg d (deep + 1)) && (fieldsB x.op x.n x.signed x.bits && shG sg x.op x.width x.n x.signed x.bits (x.kids.map (·.width))))) := rfl
  have HOS := hide (fun (h1 : 1 ≤ x.width) (h2 : x.width ≤ 64) (hx : ∀ y ∈ x.kids.map (·.width), 1 ≤ y ∧ y ≤ 64) (hl : (x.kids.map (·.width)).length ≤ 16384) => op_same sg x.op x.width x.n x.signed x.bits (x.kids.map (·.width)) h1 h2 hx hl)
  have HOF := hide (fun (V : World) (hV : Below w0.heap.size w0 V) (hp0 : V.cell? ⟨w0.heap.size, 0, none⟩ = some sv) => iOpFits sg x.op x.width x.n x.signed x.bits (x.kids.map (·.width)) ka x.kids.length kc w0.heap.size sv V hbs ((RS.kid (unhide HKR)).later RKid.keeps hV) hsl hp0 (hsg.later RSignal.keeps hV))
  have HNX := hide (fun (V : World) (hp : Pl w0.heap.size sv T V k) => iNext w0.heap.size sv T k deep V hk hp)
  have HON := hide (fun (V : World) => iOnlyG x.op x.width x.n x.signed x.bits ka x.kids.length kc V)
  rw [hck, hok]
  clear hok hck
  generalize opB sg x.op x.width x.n x.signed x.bits (x.kids.map (·.width)) = OB at *
  generalize shG sg x.op x.width x.n x.signed x.bits (x.kids.map (·.width)) = SB at *
  generalize onlyG x.op x.n x.signed x.bits = NB at *
  generalize fieldsB x.op x.n x.signed x.bits = FB at *
  have HIH := hide (fun (k1 : Nat) (V : World) (h1 : deep ≤ 400) (h2 : k1 ≤ 16384) (h3 : Pl w0.heap.size sv T V k1) (h4 : Below w0.heap.size w0 V) => IH x.kids _ (deep + 1) k1 V (unhide HKR) (by omega) (by omega) h2 h3 h4)
  clear IH HKR hsg hbs
  obtain ⟨xs, hxs⟩ : ∃ xs, x.kids = xs := ⟨_, rfl⟩
  rw [hxs] at HOS HOF HIH HON ⊢
  clear hxs
  generalize x.op = op at *
  generalize x.width = width at *
  generalize x.n = n at *
  generalize x.signed = sd at *
  generalize x.bits = s at *
  have HLS : Hid (xs.all (okEN sg d (deep + 1)) = true → (xs.map (cntEN d)).sum ≤ 16384 → (∀ y ∈ xs.map (·.width), 1 ≤ y ∧ y ≤ 64) ∧ (xs.map (·.width)).length ≤ 16384) := hide (fun h hs => by
    refine ⟨fun y hy => ?_, ?_⟩
    · obtain ⟨z, hz, rfl⟩ := List.mem_map.1 hy
      exact okEN_width (List.all_eq_true.1 h z hz)
    · rw [List.length_map]
      have h1 := len_sum (f := cntEN d) xs (fun z hz => cntEN_pos (List.all_eq_true.1 h z hz))
      omega)
  obtain ⟨L, hL⟩ : ∃ L, xs.length = L := ⟨_, rfl⟩
  rw [hL] at HOF HIH HON ⊢
  clear hL
  generalize (xs.map (cntEN d)).sum = CS at *
  generalize xs.all (okEN sg d (deep + 1)) = AB at *
  obtain ⟨X, hX⟩ : ∃ X, X = W.alloc (.cells #[.int .i64 op, .int .i64 width, .int .i64 n, .bool sd, .string s, .slice ka L kc] 72) := ⟨_, rfl⟩
  have hbX : Below W.heap.size W X := by rw [hX]; exact bal (brf W) _
  have HPX := hide (hpb.later hbX)
  have HFX := hide (Fx.of (g := w0.heap.size) hbX)
  have HBW := hide hbw
  have hpl := hpb.lt
  have HXC : Hid (∀ V, Fx w0.heap.size X V → V.cell? ⟨W.heap.size, 0, none⟩ = some (.int .i64 op) ∧ V.cell? ⟨W.heap.size, 1, none⟩ = some (.int .i64 width) ∧ V.cell? ⟨W.heap.size, 2, none⟩ = some (.int .i64 n) ∧ V.cell? ⟨W.heap.size, 3, none⟩ = some (.bool sd) ∧ V.cell? ⟨W.heap.size, 4, none⟩ = some (.string s) ∧ V.cell? ⟨W.heap.size, 5, none⟩ = some (.slice ka L kc)) := hide (fun V hV => by
    have K := fun (i : Nat) (y : Value) (hy : (#[.int .i64 op, .int .i64 width, .int .i64 n, .bool sd, .string s, .slice ka L kc] : Array Value)[i]? = some y) => hV.cell (b := W.heap.size) (o := i) (v := y) (by rw [hX, World.cell?_alloc_new]; exact hy) (by omega)
    exact ⟨K 0 _ rfl, K 1 _ rfl, K 2 _ rfl, K 3 _ rfl, K 4 _ rfl, K 5 _ rfl⟩)
  have HXX := hide hX
  clear hX hbX hpb hbw hpl
  have hdq : -1000 ≤ deep ∧ deep ≤ 1000 := by omega
  go_enter Try.func48, Try.ntmps48
  go_wp2_with fail
  rw [← unhide HXX]
  refine (unhide HNX X (unhide HPX)).mono ?_
  rintro e V1 ⟨rfl, hp1, hf1⟩
  have HP1 := hide hp1
  have HF1 := hide ((unhide HFX).trans hf1)
  have HX1 := hide hf1
  clear hp1 hf1 HNX
  by_cases hnx : (decide (1 ≤ k) && decide (deep ≤ 400)) = true
  rotate_left
  · have hnf : (decide (1 ≤ k) && decide (deep ≤ 400)) = false := by simpa using hnx
    rw [hnf]
    have HRF : Hid (false = (((decide (deep ≤ 400) && (decide (1 ≤ width) && decide (width ≤ 64))) && (AB && (FB && SB))) && decide (1 + CS ≤ k))) := hide (by
      symm
      rw [Bool.and_eq_false_iff] at hnf
      rcases hnf with h | h
      · rw [decide_eq_false (p := 1 + CS ≤ k) (by have := of_decide_eq_false h; omega), Bool.and_false]
      · rw [h]; simp)
    clear hnx hnf HIH HOF HON HOS HLS HXC HXX
    go_wp2_with fail
    exact bodyPost_ret (v := .bool false) (by simp [results, Try.results48, go_sem]) rfl ⟨false, _, rfl, unhide HRF, fun h => (by cases h), unhide HP1, unhide HF1⟩
  rw [hnx]
  rw [Bool.and_eq_true] at hnx
  have hk1 : 1 ≤ k := of_decide_eq_true hnx.1
  have hdp : deep ≤ 400 := of_decide_eq_true hnx.2
  clear hnx
  obtain ⟨k1, rfl⟩ : ∃ k1, k = k1 + 1 := ⟨k - 1, by omega⟩
  have q1 : (((k1 + 1 : Nat) : Int)) - 1 = (k1 : Int) := by omega
  rw [q1] at HP1
  clear q1
  obtain ⟨q0, q1', q2, q3, q4, q5⟩ := unhide HXC V1 (unhide HX1)
  have HB1 := hide (Fx.below (unhide HBW) (unhide HF1) (Nat.le_refl _) (unhide HBW).size)
  have HXS := hide (unhide HIH k1 V1 hdp (by omega) (unhide HP1) (unhide HB1))
  clear HIH
  go_wp2_with fail
  refine (unhide HXS).mono ?_
  rintro e V2 ⟨r, k', rfl, hr, hrk, hp2, hf2⟩
  have HR := hide hr
  have HRK := hide hrk
  have HP2 := hide hp2
  have HF2 := hide ((unhide HF1).trans hf2)
  have HX2 := hide ((unhide HX1).trans hf2)
  clear hr hrk hp2 hf2 q0 q1' q2 q3 q4 q5 HXS
  cases r
  · have HRF : Hid (false = (((decide (deep ≤ 400) && (decide (1 ≤ width) && decide (width ≤ 64))) && (AB && (FB && SB))) && decide (1 + CS ≤ k1 + 1))) := hide (by
      symm
      have h := (unhide HR).symm
      rw [Bool.and_eq_false_iff] at h
      rcases h with h | h
      · rw [h]; simp
      · rw [decide_eq_false (p := 1 + CS ≤ k1 + 1) (by have := of_decide_eq_false h; omega), Bool.and_false])
    clear HR HRK HOF HON HOS HLS HXC HXX
    go_wp2_with fail
    exact bodyPost_ret (v := .bool false) (by simp [results, Try.results48, go_sem]) rfl ⟨false, _, rfl, unhide HRF, fun h => (by cases h), unhide HP2, unhide HF2⟩
  have hAB : AB = true ∧ CS ≤ k1 := by
    have h := (unhide HR).symm
    rw [Bool.and_eq_true] at h
    exact ⟨h.1, of_decide_eq_true h.2⟩
  obtain ⟨rfl, hcs⟩ := hAB
  have hk' := unhide HRK rfl
  subst hk'
  obtain ⟨hLS1, hLS2⟩ := unhide HLS rfl (by omega)
  have HFM := hide (show (((decide (deep ≤ 400) && (decide (1 ≤ width) && decide (width ≤ 64))) && (true && (FB && SB))) && decide (1 + CS ≤ k1 + 1)) = ((decide (1 ≤ width) && decide (width ≤ 64)) && (FB && SB)) from by
    rw [decide_eq_true hdp, decide_eq_true (show 1 + CS ≤ k1 + 1 by omega), Bool.true_and, Bool.true_and, Bool.and_true])
  have HKE : Hid ((k1 : Int) - (CS : Int) = ((k1 + 1 : Nat) : Int) - ((1 + CS : Nat) : Int)) := hide (by omega)
  generalize (k1 : Int) - (CS : Int) = KK at *
  obtain ⟨q0, q1', q2, q3, q4, q5⟩ := unhide HXC V2 (unhide HX2)
  have HWO := hide (iWidthOK width)
  by_cases hw : (decide (1 ≤ width) && decide (width ≤ 64)) = true
  rotate_left
  · have hwf : (decide (1 ≤ width) && decide (width ≤ 64)) = false := by simpa using hw
    have HRF := hide (show false = (((decide (deep ≤ 400) && (decide (1 ≤ width) && decide (width ≤ 64))) && (true && (FB && SB))) && decide (1 + CS ≤ k1 + 1)) from by rw [unhide HFM, hwf]; rfl)
    clear HFM
    clear hw HR HRK HOF HON HOS HLS HXC HXX hcs hLS1 hLS2
    have HW2 : Hid (∀ V, Calls Try.prog 26 #[.int .i64 width] V fun e V' => e = .returned (.bool false) ∧ V' = V) := hide (fun V => (unhide HWO V).mono (by rintro e V' ⟨rfl, rfl⟩; rw [hwf]; exact ⟨rfl, rfl⟩))
    clear hwf
    go_wp2_with fail
    refine (unhide HW2 V2).mono ?_
    rintro e V3 ⟨rfl, rfl⟩
    go_wp2_with fail
    exact bodyPost_ret (v := .bool false) (by simp [results, Try.results48, go_sem]) rfl ⟨false, _, rfl, unhide HRF, fun h => (by cases h), unhide HP2, unhide HF2⟩
  have HW2 : Hid (∀ V, Calls Try.prog 26 #[.int .i64 width] V fun e V' => e = .returned (.bool true) ∧ V' = V) := hide (fun V => (unhide HWO V).mono (by rintro e V' ⟨rfl, rfl⟩; rw [hw]; exact ⟨rfl, rfl⟩))
  have HFN := hide (show (((decide (deep ≤ 400) && (decide (1 ≤ width) && decide (width ≤ 64))) && (true && (FB && SB))) && decide (1 + CS ≤ k1 + 1)) = (NB && OB) from by
    rw [unhide HFM, hw]
    rw [Bool.and_eq_true] at hw
    rw [unhide HOS (of_decide_eq_true hw.1) (of_decide_eq_true hw.2) hLS1 hLS2]
    rfl)
  clear HFM hw HWO HR HRK HOS HLS hcs hLS1 hLS2
  go_wp2_with fail
  refine (unhide HW2 V2).mono ?_
  rintro e V3 ⟨rfl, rfl⟩
  go_wp2_with fail
  refine (unhide HON V3).mono ?_
  rintro e V4 ⟨rfl, hb4⟩
  have HP4 := hide ((unhide HP2).later hb4)
  have HF4 := hide ((unhide HF2).trans (Fx.of hb4))
  have HX4 := hide ((unhide HX2).trans (Fx.of hb4))
  clear hb4 q0 q1' q2 q3 q4 q5 HW2 HON
  cases NB
  · clear HOF HXC HXX
    go_wp2_with fail
    exact bodyPost_ret (v := .bool false) (by simp [results, Try.results48, go_sem]) rfl ⟨false, _, rfl, (unhide HFN).symm, fun h => (by cases h), unhide HP4, unhide HF4⟩
  obtain ⟨q0, q1', q2, q3, q4, q5⟩ := unhide HXC V4 (unhide HX4)
  have HB4 := hide (Fx.below (unhide HBW) (unhide HF4) (Nat.le_refl _) (unhide HBW).size)
  have HO5 := hide (unhide HOF V4 (unhide HB4) (unhide HP4).c0)
  clear HOF
  go_wp2_with fail
  refine (unhide HO5).mono ?_
  rintro e V5 ⟨rfl, hb5⟩
  have HP5 := hide ((unhide HP4).later hb5)
  have HF5 := hide ((unhide HF4).trans (Fx.of hb5))
  clear hb5 q0 q1' q2 q3 q4 q5 HO5
  go_wp2_with fail
  exact bodyPost_ret (v := .bool OB) (by simp [results, Try.results48, go_sem]) rfl ⟨OB, _, rfl, (unhide HFN).symm, fun _ => unhide HKE, unhide HP5, unhide HF5⟩
theorem iExAll (sg : List Signal) (w0 : World) (sv : Value) (T : TypeId) (hsg : RS 6 RSignal w0 0 sg sv) (hsl : sg.length ≤ 1048576) : ∀ d, ExP sg w0 sv T d
  | 0 => fun x u deep k W hr => hr.elim
  | d + 1 => iExStep sg w0 sv T d hsg hsl (iExs sg w0 sv T d (iExAll sg w0 sv T hsg hsl d))
theorem iExsAll (sg : List Signal) (w0 : World) (sv : Value) (T : TypeId) (hsg : RS 6 RSignal w0 0 sg sv) (hsl : sg.length ≤ 1048576) (d : Nat) : XsP sg w0 sv T d := iExs sg w0 sv T d (iExAll sg w0 sv T hsg hsl d)
end Go.Proofs.Ytgkfhaahcedbpaa
