/- The specification's ex. -/
import Derived.Test.YtgkfhaahcedbpaaGP1
import Derived.Test.YtgkfhaahcedbpaaP5
namespace Go.Proofs.Ytgkfhaahcedbpaa
open Go Go.RowKit Gs
set_option linter.unusedVariables false
set_option linter.unusedSimpArgs false
set_option maxRecDepth 100000
/-- The look: its signals, its processes, how many may still come. -/
def Pb (pb : Nat) (sv pv : Value) (T : TypeId) (W : World) (k : Int) : Prop := W.heap[pb]? = some (.cells #[sv, pv, .int .i64 k] T)
theorem Pb.lt {pb : Nat} {sv pv : Value} {T : TypeId} {W : World} {k : Int} (h : Pb pb sv pv T W k) : pb < W.heap.size := (Array.getElem?_eq_some_iff.1 h).1
theorem Pb.c0 {pb : Nat} {sv pv : Value} {T : TypeId} {W : World} {k : Int} (h : Pb pb sv pv T W k) : W.cell? ⟨pb, 0, none⟩ = some sv := by simp [World.cell?, show W.heap[pb]? = _ from h]
theorem Pb.c2 {pb : Nat} {sv pv : Value} {T : TypeId} {W : World} {k : Int} (h : Pb pb sv pv T W k) : W.cell? ⟨pb, 2, none⟩ = some (.int .i64 k) := by simp [World.cell?, show W.heap[pb]? = _ from h]
theorem Pb.free {pb : Nat} {sv pv : Value} {T : TypeId} {W : World} {k : Int} (h : Pb pb sv pv T W k) : W.frozen? ⟨pb, 2, none⟩ = false := by simp [World.frozen?, show W.heap[pb]? = _ from h]
theorem Pb.later {pb : Nat} {sv pv : Value} {T : TypeId} {W V : World} {k : Int} (h : Pb pb sv pv T W k) (hb : Below W.heap.size W V) : Pb pb sv pv T V k := (hb.block pb h.lt).trans h
theorem Pb.set {pb : Nat} {sv pv : Value} {T : TypeId} {W : World} {k : Int} (h : Pb pb sv pv T W k) (k' : Int) : Pb pb sv pv T (W.setCell ⟨pb, 2, none⟩ (.int .i64 k')) k' := by
  unfold Pb World.setCell
  simp only
  rw [Array.getElem?_modify]
  simp [show W.heap[pb]? = _ from h]
/-- What ex does, of expressions as deep as d. -/
def ExC (sg : List Signal) (w0 : World) (sv pv : Value) (T : TypeId) (d : Nat) : Prop := ∀ (x : Ex) (u : List Value) (deep : Int) (k : Nat) (W : World), RExN d w0 0 x u → 1 ≤ deep → deep ≤ 401 → k ≤ 16384 → Pb w0.heap.size sv pv T W k → Below w0.heap.size w0 W →
  Calls Try.prog 22 #[.pointer (some ⟨w0.heap.size, 0, none⟩), .agg u.toArray, .int .i64 deep] W fun e W' => ∃ (r : Bool) (k' : Int), e = .returned (.bool r) ∧ r = (okEN sg d deep x && decide (cntEN d x ≤ k)) ∧ (r = true → k' = (k : Int) - (cntEN d x : Nat)) ∧ Pb w0.heap.size sv pv T W' k' ∧ Fx w0.heap.size W W'
theorem sum_take {f : Ex → Nat} {xs : List Ex} {j : Nat} {x : Ex} (h : xs[j]? = some x) : ((xs.take (j + 1)).map f).sum = ((xs.take j).map f).sum + f x := by
  rw [List.take_add_one, h]; simp
theorem all_takeE {p : Ex → Bool} {xs : List Ex} {k : Nat} {x : Ex} (h : xs[k]? = some x) : (xs.take (k + 1)).all p = ((xs.take k).all p && p x) := by
  rw [List.take_add_one, h, List.all_append]; simp
theorem sum_le {f : Ex → Nat} (xs : List Ex) (j : Nat) : ((xs.take j).map f).sum ≤ (xs.map f).sum := by
  have : (xs.map f).sum = ((xs.take j).map f).sum + ((xs.drop j).map f).sum := by rw [← List.sum_append, ← List.map_append, List.take_append_drop]
  omega
theorem len_sum {f : Ex → Nat} (xs : List Ex) (h : ∀ x ∈ xs, 1 ≤ f x) : xs.length ≤ (xs.map f).sum := by
  induction xs with
  | nil => simp
  | cons x xs ih =>
    have h1 := h x (List.mem_cons_self)
    have h2 := ih (fun y hy => h y (List.mem_cons_of_mem _ hy))
    simp only [List.map_cons, List.sum_cons, List.length_cons]
    omega
set_option maxHeartbeats 8000000 in
theorem sExNo (sg : List Signal) (w0 : World) (sv pv : Value) (T : TypeId) (d : Nat) (op width n : Int) (sd : Bool) (s : ByteArray) (ka : Option Addr) (L kc : Nat) (deep : Int) (k : Nat) (W : World) (hk : k ≤ 16384) (hpb : Pb w0.heap.size sv pv T W k) (hbad : k = 0 ∨ 400 < deep ∨ width < 1 ∨ 64 < width) :
    Calls Try.prog 22 #[.pointer (some ⟨w0.heap.size, 0, none⟩), .agg #[.int .i64 op, .int .i64 width, .int .i64 n, .bool sd, .string s, .slice ka L kc], .int .i64 deep] W fun e W' => e = .returned (.bool false) ∧ Pb w0.heap.size sv pv T W' ((k : Int) - 1) ∧ Fx w0.heap.size W W' := by
  have c2 := hpb.c2
  have fr := hpb.free
  have hpl := hpb.lt
  have HP := hide (fun o => (hpb.set ((k : Int) - 1)).later (bal (brf _) o))
  have HX := hide (fun o => (Fx.set w0.heap.size 2 W (.int .i64 ((k : Int) - 1))).trans (Fx.of (bal (brf _) o)))
  obtain ⟨m, hm⟩ : ∃ m, (k : Int) - 1 = m := ⟨_, rfl⟩
  rw [hm] at HP HX ⊢
  by_cases h0 : m < 0
  · clear hpb hbad
    go_enter Try.func22, Try.ntmps22
    go_wp2
    go_ret
    exact ⟨rfl, unhide HP _, unhide HX _⟩
  by_cases h1 : 400 < deep
  · clear hpb hbad
    go_enter Try.func22, Try.ntmps22
    go_wp2
    go_ret
    exact ⟨rfl, unhide HP _, unhide HX _⟩
  by_cases h2 : width < 1
  · clear hpb hbad
    go_enter Try.func22, Try.ntmps22
    go_wp2
    go_ret
    exact ⟨rfl, unhide HP _, unhide HX _⟩
  · have h3 : 64 < width := by omega
    clear hpb hbad
    go_enter Try.func22, Try.ntmps22
    go_wp2
    go_ret
    exact ⟨rfl, unhide HP _, unhide HX _⟩
end Go.Proofs.Ytgkfhaahcedbpaa
namespace Go.Proofs.Ytgkfhaahcedbpaa
open Go Go.RowKit Gs
set_option linter.unusedVariables false
set_option linter.unusedSimpArgs false
set_option maxRecDepth 100000

theorem Pl.fx {lb : Nat} {sv : Value} {T : TypeId} {W V : World} {k : Int} (h : Pl lb sv T W k) (hb : Below W.heap.size W V) : Pl lb sv T V k := h.later hb
/-- What ex does, of expressions as deep as d. -/
def ExP (sg : List Signal) (w0 : World) (sv : Value) (T : TypeId) (d : Nat) : Prop := ∀ (x : Ex) (u : List Value) (deep : Int) (k : Nat) (W : World), RExN d w0 0 x u → 1 ≤ deep → deep ≤ 401 → k ≤ 16384 → Pl w0.heap.size sv T W k → Below w0.heap.size w0 W →
  Calls Try.prog 48 #[.pointer (some ⟨w0.heap.size, 0, none⟩), .agg u.toArray, .int .i64 deep] W fun e W' => ∃ (r : Bool) (k' : Int), e = .returned (.bool r) ∧ r = (okEN sg d deep x && decide (cntEN d x ≤ k)) ∧ (r = true → k' = (k : Int) - (cntEN d x : Nat)) ∧ Pl w0.heap.size sv T W' k' ∧ Fx w0.heap.size W W'
/-- What exs does. -/
def XsP (sg : List Signal) (w0 : World) (sv : Value) (T : TypeId) (d : Nat) : Prop := ∀ (xs : List Ex) (v : Value) (deep : Int) (k : Nat) (W : World), RS 6 (RExN d) w0 0 xs v → 1 ≤ deep → deep ≤ 401 → k ≤ 16384 → Pl w0.heap.size sv T W k → Below w0.heap.size w0 W →
  Calls Try.prog 40 #[.pointer (some ⟨w0.heap.size, 0, none⟩), v, .int .i64 deep] W fun e W' => ∃ (r : Bool) (k' : Int), e = .returned (.bool r) ∧ r = (xs.all (okEN sg d deep) && decide ((xs.map (cntEN d)).sum ≤ k)) ∧ (r = true → k' = (k : Int) - ((xs.map (cntEN d)).sum : Nat)) ∧ Pl w0.heap.size sv T W' k' ∧ Fx w0.heap.size W W'
set_option maxHeartbeats 16000000 in
theorem iExs (sg : List Signal) (w0 : World) (sv : Value) (T : TypeId) (d : Nat) (IH : ExP sg w0 sv T d) : XsP sg w0 sv T d := by
  intro xs v deep k W hkr hd1 hd2 hk hpb hbw
  have hlk := hkr.len
  unfold maxLen at hlk
  have HOP := hide (fun (j : Nat) (y : Ex) (hy : xs[j]? = some y) (V : World) (hV : Below w0.heap.size w0 V) => (show ∃ b o kc uk, v = .slice (some ⟨b, o, none⟩) xs.length kc ∧ xs.length ≤ kc ∧ RExN d w0 0 y uk ∧ (∃ a' l' c', uk = [.int .i64 y.op, .int .i64 y.width, .int .i64 y.n, .bool y.signed, .string y.bits, .slice a' l' c']) ∧ At V b (o + j * 6) uk from by
    rcases hkr.open with ⟨hnil, _⟩ | ⟨b, o, kc, e, hlc, _, _, hcs⟩
    · rw [hnil] at hy; simp at hy
    · obtain ⟨uk, _, hat, hu⟩ := hcs j y hy
      obtain ⟨v6, e6, _, d', h6⟩ := hu.cells
      obtain ⟨a', c', e7⟩ := h6.slice
      exact ⟨b, o, kc, uk, e, hlc, hu, ⟨a', _, c', by rw [e6, e7]⟩, fun i z hz => cell_later hV (hat i z hz)⟩))
  obtain ⟨ka, kc, rfl⟩ := hkr.slice
  clear hkr
  have HIH := hide IH
  clear IH
  obtain ⟨L, hL⟩ : ∃ L, xs.length = L := ⟨_, rfl⟩
  have HL := hide hL
  rw [hL] at HOP hlk ⊢
  clear hL
  have HP0 := hide hpb
  have HBW := hide hbw
  have HPL := hide hpb.lt
  clear hpb hbw
  go_enter Try.func40, Try.ntmps40
  go_wp2_with fail
  go_loopw [11] (fun i wr => ∃ j : Nat, j ≤ L ∧ i = .int .i64 j ∧ (xs.take j).all (okEN sg d deep) = true ∧ (∃ m : Nat, m + ((xs.take j).map (cntEN d)).sum = k ∧ Pl w0.heap.size sv T wr (m : Int)) ∧ Fx w0.heap.size W wr) (fun i _ => L - (intOf i).toNat)
  case atStart => exact ⟨0, Nat.zero_le _, rfl, rfl, ⟨k, by simp, unhide HP0⟩, Fx.refl _ _⟩
  case round =>
    obtain ⟨j, hj, rfl, hall, ⟨m, hm, hp⟩, hfx⟩ := hrel
    have HA := hide hall
    have HM0 := hide hm
    have HPB := hide hp
    have HFX1 := hide hfx
    have HBR := hide (Fx.below (unhide HBW) hfx (Nat.le_refl _) (unhide HBW).size)
    clear hall hp hfx
    by_cases hlt : j < L
    · obtain ⟨y, hy⟩ : ∃ y, xs[j]? = some y := ⟨_, List.getElem?_eq_getElem (by rw [unhide HL]; exact hlt)⟩
      obtain ⟨b, o, kc', uk, hv, hlc, hru, ⟨a', l', c', hue⟩, hat⟩ := unhide HOP j y hy wr (unhide HBR)
      injection hv with e1 e2 e3
      subst e1 e3
      obtain ⟨X, hX⟩ : ∃ X, X = wr.alloc (.cells uk.toArray 72) := ⟨_, rfl⟩
      have hbX : Below wr.heap.size wr X := by rw [hX]; exact bal (brf wr) _
      have HFXX := hide ((unhide HFX1).trans (Fx.of hbX))
      have HC := hide ((unhide HIH) y uk deep m X hru (by omega) (by omega) (by omega) ((unhide HPB).later hbX) ((unhide HBR).trans (Below.mono hbX (unhide HBR).size)))
      subst hue
      have HXX := hide hX
      clear hX hbX
      have k0 := hat.get (j := 0) rfl
      have k1' := hat.get (j := 1) rfl
      have k2 := hat.get (j := 2) rfl
      have k3 := hat.get (j := 3) rfl
      have k4 := hat.get (j := 4) rfl
      have k5 := hat.get (j := 5) rfl
      simp only [Nat.add_zero] at k0
      have HST := hide (sum_take (f := cntEN d) hy)
      have HSL := hide (sum_le (f := cntEN d) xs (j + 1))
      have HAT := hide (all_takeE (p := okEN sg d deep) hy)
      have HNO : Hid (okEN sg d deep y = false → xs.all (okEN sg d deep) = false) := hide (fun h => by
        rw [← Bool.not_eq_true]; intro h2
        have := List.all_eq_true.1 h2 y (List.mem_of_getElem? hy)
        rw [h] at this; cases this)
      have i1 : (0 : Int) ≤ (j : Int) := by omega
      have i2 : (j : Int) < (L : Int) := by omega
      obtain ⟨cy, hcy⟩ : ∃ c, cntEN d y = c := ⟨_, rfl⟩
      rw [hcy] at HC HST
      generalize y.op = z0 at *
      generalize y.width = z1 at *
      generalize y.n = z2 at *
      generalize y.signed = z3 at *
      generalize y.bits = z4 at *
      clear hat hru hy
      go_wp2_with fail
      rw [← unhide HXX]
      refine (unhide HC).mono ?_
      rintro e V ⟨r, kk, rfl, hr, hrk, hpv, hfv⟩
      have HR := hide hr
      have HRK := hide hrk
      have HPV := hide hpv
      have HFV := hide ((unhide HFXX).trans hfv)
      clear hr hrk hpv hfv k0 k1' k2 k3 k4 k5
      cases r
      · have HRF : Hid (false = (xs.all (okEN sg d deep) && decide ((xs.map (cntEN d)).sum ≤ k))) := hide (by
          symm
          rw [Bool.and_eq_false_iff]
          have h := (unhide HR).symm
          rw [Bool.and_eq_false_iff] at h
          rcases h with h | h
          · left; exact unhide HNO h
          · right
            have h1 := of_decide_eq_false h
            have h2 := unhide HST
            have h3 := unhide HSL
            have h4 := unhide HM0
            exact decide_eq_false (by omega))
        clear HR HRK HNO HST HSL HIH HOP HC HL HA HAT HXX HFXX
        go_wp2_with fail
        exact bodyPost_ret (v := .bool false) (by simp [results, Try.results40, go_sem]) rfl ⟨false, _, rfl, unhide HRF, fun h => (by cases h), unhide HPV, unhide HFV⟩
      · have HA2 : Hid ((xs.take (j + 1)).all (okEN sg d deep) = true) := hide (by
          have h := (unhide HR).symm
          rw [Bool.and_eq_true] at h
          rw [unhide HAT, unhide HA, h.1]; rfl)
        have HM2 : Hid (∃ m' : Nat, m' + ((xs.take (j + 1)).map (cntEN d)).sum = k ∧ Pl w0.heap.size sv T V (m' : Int)) := hide (by
          have h := (unhide HR).symm
          rw [Bool.and_eq_true] at h
          have h1 := of_decide_eq_true h.2
          have h4 := unhide HM0
          have h2 := unhide HST
          refine ⟨m - cy, by omega, ?_⟩
          have h5 := unhide HPV
          rw [unhide HRK rfl] at h5
          rw [show (((m - cy : Nat) : Int)) = (m : Int) - (cy : Nat) by omega]
          exact h5)
        clear HR HRK HNO HST HSL HIH HOP HC HL HA HAT HXX HFXX
        go_wp2_with fail
        go_roundw
        case rel => exact ⟨j + 1, by omega, by go_num, unhide HA2, unhide HM2, unhide HFV⟩
        case measure => simp [intOf]; omega
    · obtain rfl : L = j := by omega
      have HAE : Hid (xs.all (okEN sg d deep) = true) := hide (by
        have h := unhide HA
        rwa [List.take_of_length_le (by rw [unhide HL]; exact Nat.le_refl _)] at h)
      have HSE : Hid (m + (xs.map (cntEN d)).sum = k) := hide (by
        have h := unhide HM0
        rwa [List.take_of_length_le (by rw [unhide HL]; exact Nat.le_refl _)] at h)
      have HRT : Hid (true = (xs.all (okEN sg d deep) && decide ((xs.map (cntEN d)).sum ≤ k))) := hide (by
        rw [unhide HAE, Bool.true_and]
        have := unhide HSE
        exact (decide_eq_true (by omega)).symm)
      have HKE : Hid ((m : Int) = (k : Int) - ((xs.map (cntEN d)).sum : Nat)) := hide (by
        have := unhide HSE
        omega)
      clear HA HM0 HAE HSE HIH HOP HL
      go_wp2_with fail
      exact bodyPost_ret (v := .bool true) (by simp [results, Try.results40, go_sem]) rfl ⟨true, _, rfl, unhide HRT, fun _ => unhide HKE, unhide HPB, unhide HFX1⟩
end Go.Proofs.Ytgkfhaahcedbpaa
