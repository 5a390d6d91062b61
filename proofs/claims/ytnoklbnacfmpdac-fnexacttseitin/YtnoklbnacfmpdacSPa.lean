/- The specification's l10Vars, l10Lit, l10Names. -/
import Derived.Test.YtnoklbnacfmpdacSSa
import Derived.Test.YtnoklbnacfmpdacAC1
import Derived.Test.YtnoklbnacfmpdacRWa
import Derived.Test.YtnoklbnacfmpdacANL
namespace Go.Proofs.Ytnoklbnacfmpdac
open Go Go.RowKit Gs
set_option linter.unusedVariables false
set_option linter.unusedSimpArgs false
set_option maxRecDepth 100000
set_option maxHeartbeats 1600000 in
theorem sVars (s0 s1 s2 s3 s4 s5 : Option Addr) (l0 l1 l2 l3 l4 l5 c0 c1 c2 c3 c4 c5 : Nat) (w : World) (h0 : l0 ≤ 1048576) (h2 : l2 ≤ 1048576) (h3 : l3 ≤ 1048576) :
    Calls Try.prog 21 #[.agg #[.slice s0 l0 c0, .slice s1 l1 c1, .slice s2 l2 c2, .slice s3 l3 c3, .slice s4 l4 c4, .slice s5 l5 c5]] w fun e w' => e = .returned (.int .i64 ((1 + l0 + l2 + l3 : Nat) : Int)) ∧ Below w.heap.size w w' := by
  obtain ⟨N, e1⟩ : ∃ N : Nat, 1 + l0 + l2 + l3 = N := ⟨_, rfl⟩
  rw [e1]
  have q : (1 : Int) + (l0 : Int) + (l2 : Int) + (l3 : Int) = (N : Int) := by omega
  clear e1
  go_enter Try.func21, Try.ntmps21
  go_wp2
  exact bodyPost_ret (v := .int .i64 (N : Int)) (by simp [results, Try.results21, go_sem]) rfl ⟨rfl, bal (brf w) _⟩
set_option maxHeartbeats 1600000 in
theorem sLit (s0 s1 s2 s3 s4 s5 : Option Addr) (l0 l1 l2 l3 l4 l5 c0 c1 c2 c3 c4 c5 : Nat) (x : Int) (w : World) (h0 : l0 ≤ 1048576) (h2 : l2 ≤ 1048576) (h3 : l3 ≤ 1048576) :
    Calls Try.prog 18 #[.agg #[.slice s0 l0 c0, .slice s1 l1 c1, .slice s2 l2 c2, .slice s3 l3 c3, .slice s4 l4 c4, .slice s5 l5 c5], .int .i64 x] w fun e w' => e = .returned (.bool (litB x (1 + l0 + l2 + l3))) ∧ Below w.heap.size w w' := by
  have HV := hide (fun V : World => sVars s0 s1 s2 s3 s4 s5 l0 l1 l2 l3 l4 l5 c0 c1 c2 c3 c4 c5 V h0 h2 h3)
  obtain ⟨N, e1⟩ : ∃ N : Nat, 1 + l0 + l2 + l3 = N := ⟨_, rfl⟩
  have hN : N ≤ 4194304 := by omega
  rw [e1] at HV ⊢
  clear e1
  by_cases hx : 0 ≤ x
  · have HR : Hid (litB x N = decide (x < 2 * (N : Int))) := hide (by unfold litB; rw [decide_eq_true hx]; rfl)
    go_enter Try.func18, Try.ntmps18
    go_wp2_with fail
    refine (unhide HV _).mono ?_
    rintro e W1 ⟨rfl, hb1⟩
    have HB := hide (btr (bal (brf w) _) hb1)
    clear hb1
    go_wp2_with fail
    exact bodyPost_ret (v := .bool (decide (x < 2 * (N : Int)))) (by simp [results, Try.results18, go_sem]) rfl ⟨by rw [unhide HR], unhide HB⟩
  · have HR : Hid (litB x N = false) := hide (by unfold litB; rw [decide_eq_false hx]; rfl)
    have h1 : decide (0 ≤ x) = false := decide_eq_false hx
    have h2 : x < 0 := by omega
    go_enter Try.func18, Try.ntmps18
    go_wp2
    exact bodyPost_ret (v := .bool false) (by simp [results, Try.results18, go_sem]) rfl ⟨by rw [unhide HR], bal (brf w) _⟩
theorem toList_ne {a b : ByteArray} (h : a ≠ b) : (a.toList == b.toList) = false := by
  rw [beq_eq_false_iff_ne]
  exact fun e => h (toL_inj e)
set_option maxHeartbeats 8000000 in
theorem sNames (ss : List ByteArray) (v : Value) (w : World) (hl : ss.length ≤ 2097152) (hr : RS 1 RStr w 0 ss v) :
    Calls Try.prog 45 #[v] w fun e w' => e = .returned (.bool (namesB ss)) ∧ Below w.heap.size w w' := by
  have HR := hide hr
  have HL := hide hl
  -- behind the first loop
  have HT : Hid (∀ V v1, OS w.heap.size V v1 ss → Calls Try.prog 62 #[v1] V fun e w' => (∃ v' ys, e = .returned v' ∧ RS 1 RStr w' 0 ys v' ∧ ys.Perm ss ∧ Up ys) ∧ Below V.heap.size V w') := hide (fun V v1 ho => sSort ss.length ss v1 V (Nat.le_refl _) hl (ho.any (by omega)))
  obtain ⟨a, c, rfl⟩ := hr.slice
  have hcs : Hid (∀ (i : Nat) x, ss[i]? = some x → ∃ b o, a = some ⟨b, o, none⟩ ∧ w.cell? ⟨b, o + i, none⟩ = some (.string x) ∧ x.size ≤ maxLen) := hide (by
    intro i x hx
    rcases hr.open with ⟨rfl, _⟩ | ⟨b, o, c', hv, _, _, _, he⟩
    · simp at hx
    · injection hv with e1 e2 e3
      obtain ⟨u, hu, hat, hux, hs⟩ := he i x hx
      subst hux
      refine ⟨b, o, e1, ?_, hs⟩
      simpa using hat.get (j := 0) rfl)
  clear hr
  go_enter Try.func45, Try.ntmps45
  go_wp2
  go_loop [3] (fun i => ∃ k : Nat, k ≤ ss.length ∧ i = .int .i64 k ∧ (ss.take k).all nmOK = true) (fun i => ss.length - (intOf i).toNat)
  case atStart => exact ⟨0, Nat.zero_le _, rfl, rfl⟩
  case round =>
    obtain ⟨k, hk, rfl, hall⟩ := hrel
    have HA := hide hall
    clear hall
    by_cases hlt : k < ss.length
    · have hx : ss[k]? = some ss[k] := List.getElem?_eq_getElem hlt
      have hmem : ss[k] ∈ ss := List.getElem_mem hlt
      generalize ss[k] = s at hx hmem
      have HST := hide (show (ss.take (k + 1)).all nmOK = ((ss.take k).all nmOK && nmOK s) by rw [List.take_add_one, hx, List.all_append]; simp)
      have HF : Hid (nmOK s = false → namesB ss = false) := hide (fun h => by
        unfold namesB
        rw [show ss.all nmOK = false from by rw [← Bool.not_eq_true]; intro e; rw [List.all_eq_true.1 e s hmem] at h; cases h]
        rfl)
      obtain ⟨b, o, rfl, k0, hsz⟩ := unhide hcs k s hx
      unfold maxLen at hsz
      clear hcs hx hmem
      by_cases h1 : s.size < 1
      · have HE := hide (show nmOK s = false by unfold nmOK; rw [decide_eq_false (p := 1 ≤ s.size) (by omega)]; rfl)
        have g1 : (s.size : Int) < 1 := by omega
        clear h1
        go_wp2
        exact bodyPost_ret (v := .bool false) (by simp [results, Try.results45, go_sem]) rfl ⟨by rw [unhide HF (unhide HE)], brf _⟩
      · by_cases h2 : s.size > 1000
        · have HE := hide (show nmOK s = false by unfold nmOK; rw [decide_eq_false (p := s.size ≤ 1000) (by omega), Bool.and_false])
          have g1 : (1 : Int) ≤ (s.size : Int) := by omega
          have g2 : (1000 : Int) < (s.size : Int) := by omega
          clear h1 h2
          go_wp2
          exact bodyPost_ret (v := .bool false) (by simp [results, Try.results45, go_sem]) rfl ⟨by rw [unhide HF (unhide HE)], brf _⟩
        · have HE := hide (show nmOK s = true by unfold nmOK; rw [decide_eq_true (p := s.size ≤ 1000) (by omega), decide_eq_true (p := 1 ≤ s.size) (by omega)]; rfl)
          have g1 : (1 : Int) ≤ (s.size : Int) := by omega
          have g2 : (s.size : Int) ≤ 1000 := by omega
          clear h1 h2
          go_wp2
          go_round
          case rel => exact ⟨k + 1, by omega, by go_num, by rw [unhide HST, unhide HA, unhide HE]; rfl⟩
          case measure => simp [intOf]; omega
    · obtain rfl : k = ss.length := by omega
      have HA2 : Hid (ss.all nmOK = true) := hide (by have h := unhide HA; rwa [List.take_of_length_le (Nat.le_refl _)] at h)
      clear hcs HA
      go_wp2_with (first | (at_builtin; refine wpAppS rfl _ _ rfl w.heap.size _ [] rfl (OS_start rfl (Nat.le_refl _)) _ ss rfl ((unhide HR).later RStr.keeps (bal (brf w) _)) (by have := unhide HL; simp; omega) (by simp) ?_; intro v1 w1 ho1 hg1; rw [List.nil_append] at ho1; have HB1 := hide (below_grown (bal (brf w) (.cells #[] 9)) hg1 (by simp) (by intro j hj; cases hj; exact Nat.le_refl _)); have HO1 := hide ho1; clear ho1 hg1))
      refine (unhide HT _ _ (unhide HO1)).mono ?_
      rintro e W1 ⟨⟨vs, ys, rfl, hrs, hp, hu⟩, hb1⟩
      have HB2 := hide (btr (unhide HB1) hb1)
      have HRR : Hid (namesB ss = apart ys) := hide (by
        unfold namesB
        rw [unhide HA2, Bool.true_and]
        rw [Bool.eq_iff_iff, decide_eq_true_eq, apart_nodup ys hu]
        exact hp.nodup_iff.symm)
      have hyl : ys.length ≤ 2097152 := by rw [hp.length_eq]; exact unhide HL
      obtain ⟨ay, cy, rfl⟩ := hrs.slice
      have HYC : Hid (∀ (i : Nat) x, ys[i]? = some x → ∃ b o, ay = some ⟨b, o, none⟩ ∧ W1.cell? ⟨b, o + i, none⟩ = some (.string x)) := hide (by
        intro i x hx
        rcases hrs.open with ⟨rfl, _⟩ | ⟨b, o, c', hv, _, _, _, he⟩
        · simp at hx
        · injection hv with e1 e2 e3
          obtain ⟨u, hu, hat, hux, hs⟩ := he i x hx
          subst hux
          refine ⟨b, o, e1, ?_⟩
          simpa using hat.get (j := 0) rfl)
      clear hrs hp hu hb1 HO1 HB1
      go_wp2
      go_loopw [5] (fun i wr => ∃ k : Nat, (k ≤ ys.length ∨ k = 1) ∧ 1 ≤ k ∧ i = .int .i64 k ∧ apart (ys.take k) = true ∧ Below W1.heap.size W1 wr) (fun i wr => ys.length - (intOf i).toNat)
      case atStart => exact ⟨1, .inr rfl, Nat.le_refl _, rfl, by cases ys <;> simp [apart], brf _⟩
      case round =>
        obtain ⟨k, hk, hk1, rfl, hall, hb⟩ := hrel
        have HA := hide hall
        have HB := hide hb
        clear hall
        by_cases hlt : k < ys.length
        · obtain ⟨m, rfl⟩ : ∃ m, k = m + 1 := ⟨k - 1, by omega⟩
          have hx : ys[m]? = some ys[m] := List.getElem?_eq_getElem (by omega)
          have hy : ys[m + 1]? = some ys[m + 1] := List.getElem?_eq_getElem hlt
          generalize ys[m] = x at hx
          generalize ys[m + 1] = y at hy
          have HST := hide (apart_take ys m x y hx hy)
          obtain ⟨b, o, e1, hc1⟩ := unhide HYC m x hx
          obtain ⟨b2, o2, e2, hc2⟩ := unhide HYC (m + 1) y hy
          subst e1
          injection e2 with e2
          injection e2 with e2 e3 _
          subst e2
          subst e3
          have k0 := cell_later hb hc1
          have k1 := cell_later hb hc2
          have i1 : (m : Int) < (ys.length : Int) := by omega
          have i2 : (m : Int) + 1 < (ys.length : Int) := by omega
          have i3 : (0 : Int) ≤ (m : Int) := by omega
          clear HYC hx hy hb hc1 hc2 hk hk1
          by_cases hxy : x = y
          · have HF := hide (show apart ys = false from apart_mono ys (m + 2) (by rw [unhide HST, hxy]; simp))
            subst hxy
            go_wp2
            go_quiet (fail)
            go_wp2
            exact bodyPost_ret (v := .bool false) (by simp [results, Try.results45, go_sem]) rfl ⟨by rw [unhide HRR, unhide HF], btr (unhide HB2) (bdn' (unhide HB))⟩
          · have q := toList_ne hxy
            have HN := hide (show apart (ys.take (m + 2)) = true by rw [unhide HST, unhide HA]; simp [hxy])
            go_wp2
            go_quiet (fail)
            go_wp2
            go_roundw
            case rel => exact ⟨m + 2, .inl (by omega), by omega, by go_num, unhide HN, bdn' (unhide HB)⟩
            case measure => simp [intOf]; omega
        · have HAY : Hid (apart ys = true) := hide (by have h := unhide HA; rwa [List.take_of_length_le (by omega)] at h)
          have hnl : ¬ ((k : Int) < (ys.length : Int)) := by omega
          clear HYC hb hk hk1
          go_wp2
          exact bodyPost_ret (v := .bool true) (by simp [results, Try.results45, go_sem]) rfl ⟨by rw [unhide HRR, unhide HAY], btr (unhide HB2) (unhide HB)⟩
end Go.Proofs.Ytnoklbnacfmpdac
namespace Go.Proofs.Ytnoklbnacfmpdac
open Go Go.RowKit Gs
set_option linter.unusedVariables false
set_option linter.unusedSimpArgs false
set_option maxRecDepth 100000
def FP6 (s0 s1 s2 s3 s4 s5 : Option Addr) (l0 l1 l2 l3 l4 l5 c0 c1 c2 c3 c4 c5 : Nat) (b o n cp k VV : Nat) (z : Int) : Nat → Value → Prop
  | 0, v => v = .agg #[.slice s0 l0 c0, .slice s1 l1 c1, .slice s2 l2 c2, .slice s3 l3 c3, .slice s4 l4 c4, .slice s5 l5 c5]
  | 1, v => v = .slice (some ⟨b, o, none⟩) n cp
  | 2, v => v = .int .i64 (k : Int)
  | 3, v => v = .pointer (some ⟨b, o + k * 2, none⟩)
  | 4, v => v = .pointer (some ⟨b, o + k * 2 + 1, none⟩)
  | 5, v => v = .int .i64 z
  | 6, v => v = .bool (litB z VV)
  | 7, v => v = .bool (!(litB z VV))
  | _, _ => True
/-- What l10Pins answers. -/
def pinsB (VV : Nat) (ps : List Pin) : Bool := ps.all (fun p : Pin => litB p.lit VV) && namesB (ps.map (fun p : Pin => p.name))
set_option maxHeartbeats 16000000 in
theorem sPins (s0 s1 s2 s3 s4 s5 : Option Addr) (l0 l1 l2 l3 l4 l5 c0 c1 c2 c3 c4 c5 : Nat) (ps : List Pin) (v : Value) (w : World) (h0 : l0 ≤ 1048576) (h2 : l2 ≤ 1048576) (h3 : l3 ≤ 1048576) (hl : ps.length ≤ 1048576) (hr : RS 2 RPin w 0 ps v) :
    Calls Try.prog 46 #[.agg #[.slice s0 l0 c0, .slice s1 l1 c1, .slice s2 l2 c2, .slice s3 l3 c3, .slice s4 l4 c4, .slice s5 l5 c5], v] w fun e w' => e = .returned (.bool (pinsB (1 + l0 + l2 + l3) ps)) ∧ Below w.heap.size w w' := by
  have HLT := hide (fun (V : World) (x : Int) => sLit s0 s1 s2 s3 s4 s5 l0 l1 l2 l3 l4 l5 c0 c1 c2 c3 c4 c5 x V h0 h2 h3)
  generalize 1 + l0 + l2 + l3 = VV at *
  have HC1 : Hid (∀ V, Below (w.alloc (.cells #[.slice s0 l0 c0, .slice s1 l1 c1, .slice s2 l2 c2, .slice s3 l3 c3, .slice s4 l4 c4, .slice s5 l5 c5] 36)).heap.size (w.alloc (.cells #[.slice s0 l0 c0, .slice s1 l1 c1, .slice s2 l2 c2, .slice s3 l3 c3, .slice s4 l4 c4, .slice s5 l5 c5] 36)) V → V.cell? ⟨w.heap.size, 0, none⟩ = some (.slice s0 l0 c0) ∧ V.cell? ⟨w.heap.size, 1, none⟩ = some (.slice s1 l1 c1) ∧ V.cell? ⟨w.heap.size, 2, none⟩ = some (.slice s2 l2 c2) ∧ V.cell? ⟨w.heap.size, 3, none⟩ = some (.slice s3 l3 c3) ∧ V.cell? ⟨w.heap.size, 4, none⟩ = some (.slice s4 l4 c4) ∧ V.cell? ⟨w.heap.size, 5, none⟩ = some (.slice s5 l5 c5)) := hide (fun V hb => ⟨cell_later hb (by rw [World.cell?_alloc_new]; rfl), cell_later hb (by rw [World.cell?_alloc_new]; rfl), cell_later hb (by rw [World.cell?_alloc_new]; rfl), cell_later hb (by rw [World.cell?_alloc_new]; rfl), cell_later hb (by rw [World.cell?_alloc_new]; rfl), cell_later hb (by rw [World.cell?_alloc_new]; rfl)⟩)
  obtain ⟨W, hW⟩ : ∃ W, W = w.alloc (.cells #[.slice s0 l0 c0, .slice s1 l1 c1, .slice s2 l2 c2, .slice s3 l3 c3, .slice s4 l4 c4, .slice s5 l5 c5] 36) := ⟨_, rfl⟩
  have HW : Hid (Below w.heap.size w W) := hide (by rw [hW]; exact bal (brf w) _)
  have hWS : W.heap.size = w.heap.size + 1 := by rw [hW]; simp
  rw [← hW] at HC1
  have HW' := hide hW
  obtain ⟨ap, cp, rfl⟩ := hr.slice
  have HCS : Hid (∀ (i : Nat) x, ps[i]? = some x → ∃ b o, ap = some ⟨b, o, none⟩ ∧ w.cell? ⟨b, o + i * 2, none⟩ = some (.string x.name) ∧ w.cell? ⟨b, o + i * 2 + 1, none⟩ = some (.int .i64 x.lit) ∧ x.name.size ≤ maxLen) := hide (by
    intro i x hx
    rcases hr.open with ⟨rfl, _⟩ | ⟨b, o, c', hv, _, _, _, he⟩
    · simp at hx
    · injection hv with e1 e2 e3
      obtain ⟨u, hu, hat, hux, hs⟩ := he i x hx
      subst hux
      refine ⟨b, o, e1, ?_, ?_, hs⟩
      · simpa using hat.get (j := 0) rfl
      · simpa using hat.get (j := 1) rfl)
  clear hr h0 h2 h3 hW
  obtain ⟨i0, hi, hz0, hz1, hz2⟩ := info_parts info9
  have HI := hide (And.intro hi (And.intro hz0 (And.intro hz1 hz2)))
  clear hi hz0 hz1 hz2
  go_enter Try.func46, Try.ntmps46
  go_wp2
  rw [← unhide HW', ← hWS]
  clear hWS
  go_loopw [5, 6] (fun vn i wr => ∃ k : Nat, k ≤ ps.length ∧ i = .int .i64 k ∧ OS W.heap.size wr vn ((ps.take k).map (fun p : Pin => p.name)) ∧ (ps.take k).all (fun p : Pin => litB p.lit VV) = true ∧ Below W.heap.size W wr) (fun vn i wr => ps.length - (intOf i).toNat)
  case atStart => exact ⟨0, Nat.zero_le _, rfl, OS_start rfl (Nat.le_refl _), rfl, bal (brf W) _⟩
  case round =>
    obtain ⟨k, hk, rfl, ho, hall, hb⟩ := hrel
    have HO := hide ho
    have HA := hide hall
    have HB := hide hb
    clear ho hall
    by_cases hlt : k < ps.length
    · have hx : ps[k]? = some ps[k] := List.getElem?_eq_getElem hlt
      have hmem : ps[k] ∈ ps := List.getElem_mem hlt
      generalize ps[k] = x at hx hmem
      have HST := hide (show (ps.take (k + 1)).map (fun p : Pin => p.name) = (ps.take k).map (fun p : Pin => p.name) ++ [x.name] by rw [List.take_add_one, hx, List.map_append]; rfl)
      have HLEN := hide (show ((ps.take k).map (fun p : Pin => p.name)).length = k by rw [List.length_map, List.length_take]; omega)
      have HSA := hide (show (ps.take (k + 1)).all (fun p : Pin => litB p.lit VV) = ((ps.take k).all (fun p : Pin => litB p.lit VV) && litB x.lit VV) by rw [List.take_add_one, hx, List.all_append]; simp)
      have HF : Hid (litB x.lit VV = false → pinsB VV ps = false) := hide (fun h => by
        unfold pinsB
        rw [show ps.all (fun p : Pin => litB p.lit VV) = false from by rw [← Bool.not_eq_true]; intro e; rw [List.all_eq_true.1 e x hmem] at h; cases h]
        rfl)
      obtain ⟨b, o, rfl, hc0, hc1, hsz⟩ := unhide HCS k x hx
      have k0 := cell_later (btr (unhide HW) hb) hc0
      have HZ := hide (fun (V : World) (hV : Below w.heap.size w V) => cell_later hV hc1)
      have HN := hide hsz
      have HSZ := hide hb.size
      have i1 : (0 : Int) ≤ (k : Int) := by omega
      have i2 : (k : Int) < (ps.length : Int) := by omega
      clear HCS hx hmem hc0 hc1 hsz hb
      generalize x.name = nm at *
      generalize x.lit = z at *
      go_wp2_with (first
        | (at_builtin; refine wpList_append_own _ rfl _ _ 22 rfl W.heap.size 9 i0 (.string ByteArray.empty) 1 16 Try.underlying22 (unhide HI).1 (unhide HI).2.1 (unhide HI).2.2.1 (unhide HI).2.2.2 rfl (by decide) _ _ _ rfl ((unhide HO).1.alloc _) ⟨wr.heap.size, 0, none⟩ 1 1 [.string nm] rfl rfl (newS _ _ _ rfl) (oneS _) (by have := unhide HLEN; unfold maxLen; omega) (by have := unhide HLEN; omega) (by have := unhide HSZ; simp; omega) ?_; intro v' w2 hown' hgrow _)
        | go_in)
      have R1 : OS W.heap.size w2 v' ((ps.take (k + 1)).map (fun p : Pin => p.name)) := by rw [unhide HST]; exact OS.step hown' (unhide HO).2 (unhide HN)
      have HB2 := hide (below_grown (bal (unhide HB) (.cells #[.string nm] 9)) hgrow (by have := unhide HSZ; simp; omega) (own_row (unhide HO).1))
      have hz2 := unhide HZ w2 (btr (unhide HW) (unhide HB2))
      have HR1 := hide R1
      clear R1 hown' hgrow HZ
      refine wp_plan (GF (FP6 s0 s1 s2 s3 s4 s5 l0 l1 l2 l3 l4 l5 c0 c1 c2 c3 c4 c5 b o ps.length cp k VV z)) (JB w2) (by kernel_rfl) 32 (by kernel_rfl) (by kernel_rfl) ?hj ?hs ?hf
      case hj => exact bdr (brf w2)
      case hs =>
        refine ⟨?_, ?_, ?_, ?_, ?_, ?_, ?_, ?_, trivial⟩
        · exact st_val rfl (fun l a V hp ha => ⟨.agg #[.slice s0 l0 c0, .slice s1 l1 c1, .slice s2 l2 c2, .slice s3 l3 c3, .slice s4 l4 c4, .slice s5 l5 c5], by
            have x2 := (ev_form a 2).trans (old hp 2 (v := .pointer (some ⟨w.heap.size, 0, none⟩)) (by kernel_rfl) (by kernel_rfl))
            obtain ⟨q0, q1, q2, q3, q4, q5⟩ := unhide HC1 V (btr (unhide HB2) hp.j)
            go_simp, rfl⟩)
        · exact st_val rfl (fun l a V hp ha => ⟨.slice (some ⟨b, o, none⟩) ps.length cp, by
            have x1 := (ev_form a 1).trans (old hp 1 (v := .slice (some ⟨b, o, none⟩) ps.length cp) (by kernel_rfl) (by kernel_rfl))
            go_simp, rfl⟩)
        · exact st_val rfl (fun l a V hp ha => ⟨.int .i64 (k : Int), by
            have x6 := (ev_form a 6).trans (old hp 6 (v := .int .i64 (k : Int)) (by kernel_rfl) (by kernel_rfl))
            go_simp, rfl⟩)
        · exact st_val rfl (fun l a V hp ha => ⟨.pointer (some ⟨b, o + k * 2, none⟩), by
            have x23 := (ev_form a 23).trans (show a.eval (.tmp 23) = .slice (some ⟨b, o, none⟩) ps.length cp from kn hp ha 23 1 (by kernel_rfl) (by kernel_rfl))
            have x24 := (ev_form a 24).trans (show a.eval (.tmp 24) = .int .i64 (k : Int) from kn hp ha 24 2 (by kernel_rfl) (by kernel_rfl))
            go_simp, rfl⟩)
        · exact st_val rfl (fun l a V hp ha => ⟨.pointer (some ⟨b, o + k * 2 + 1, none⟩), by
            have x25 := (ev_form a 25).trans (show a.eval (.tmp 25) = .pointer (some ⟨b, o + k * 2, none⟩) from kn hp ha 25 3 (by kernel_rfl) (by kernel_rfl))
            go_simp, rfl⟩)
        · exact st_val rfl (fun l a V hp ha => ⟨.int .i64 z, by
            have x26 := (ev_form a 26).trans (show a.eval (.tmp 26) = .pointer (some ⟨b, o + k * 2 + 1, none⟩) from kn hp ha 26 4 (by kernel_rfl) (by kernel_rfl))
            have mz := cell_later hp.j hz2
            go_simp, rfl⟩)
        · exact st_call (f := 18) rfl (fun l a V hp ha => ⟨#[.agg #[.slice s0 l0 c0, .slice s1 l1 c1, .slice s2 l2 c2, .slice s3 l3 c3, .slice s4 l4 c4, .slice s5 l5 c5], .int .i64 z], by
            have x22 := (ev_form a 22).trans (show a.eval (.tmp 22) = .agg #[.slice s0 l0 c0, .slice s1 l1 c1, .slice s2 l2 c2, .slice s3 l3 c3, .slice s4 l4 c4, .slice s5 l5 c5] from kn hp ha 22 0 (by kernel_rfl) (by kernel_rfl))
            have x27 := (ev_form a 27).trans (show a.eval (.tmp 27) = .int .i64 z from kn hp ha 27 5 (by kernel_rfl) (by kernel_rfl))
            go_simp, (unhide HLT V z).mono (by rintro e V1 ⟨rfl, hb⟩; exact ⟨_, rfl, rfl, hb⟩)⟩)
        · exact st_val rfl (fun l a V hp ha => ⟨.bool (!(litB z VV)), by
            have x28 := (ev_form a 28).trans (show a.eval (.tmp 28) = .bool (litB z VV) from kn hp ha 28 6 (by kernel_rfl) (by kernel_rfl))
            go_simp, rfl⟩)
      case hf =>
        intro l a V hp hall
        have hv29 := hp.good 7 _ 29 rfl rfl (hall 7 (by decide))
        have HBV := hide hp.j
        obtain ⟨us, rfl, hus⟩ := putAll_of [22, 23, 24, 25, 26, 27, 28, 29] hp.nt hp.df (fun t ht => hp.keep t (dstIn (by kernel_rfl) ht))
        have hu29 : us 29 = .bool (!(litB z VV)) := (hus 29).trans hv29
        clear hp hall hv29 hus
        simp only [putAll, List.foldl, Act.put, List.setIfInBounds_toArray, List.set_cons_zero, List.set_cons_succ, hu29]
        clear hu29
        generalize us 22 = y22 at *
        generalize us 23 = y23 at *
        generalize us 24 = y24 at *
        generalize us 25 = y25 at *
        generalize us 26 = y26 at *
        generalize us 27 = y27 at *
        generalize us 28 = y28 at *
        have HR2 := hide ((unhide HR1).later (unhide HBV))
        have HB3 := hide (btr (unhide HB2) (unhide HBV))
        clear hz2 k0
        generalize hp1 : litB z VV = p1 at *
        have HP := hide hp1
        clear hp1
        cases p1
        · go_wp2_with fail
          exact bodyPost_ret (v := .bool false) (by simp [results, Try.results46, go_sem]) rfl ⟨by rw [show pinsB VV ps = false from unhide HF (by first | rfl | trivial)], btr (unhide HW) (unhide HB3)⟩
        · go_wp2_with fail
          go_roundw
          case rel => exact ⟨k + 1, by omega, by go_num, unhide HR2, by rw [unhide HSA, unhide HA]; rfl, unhide HB3⟩
          case measure => simp [intOf]; omega
    · obtain rfl : k = ps.length := by omega
      have HR : Hid (pinsB VV ps = namesB (ps.map (fun p : Pin => p.name))) := hide (by
        have h := unhide HA
        rw [List.take_of_length_le (Nat.le_refl _)] at h
        unfold pinsB
        rw [h]; rfl)
      have h := unhide HO
      rw [List.take_of_length_le (Nat.le_refl _)] at h
      have HNM := hide (sNames _ _ wr (by rw [List.length_map]; omega) (h.any (by rw [List.length_map]; omega)))
      clear h hb HCS HA HO
      go_wp2_with fail
      refine (unhide HNM).mono ?_
      rintro e W1 ⟨rfl, hb1⟩
      have HB1 := hide (btr (btr (unhide HW) (unhide HB)) hb1)
      clear hb1
      go_wp2_with fail
      exact bodyPost_ret (v := .bool (namesB (ps.map (fun p : Pin => p.name)))) (by simp [results, Try.results46, go_sem]) rfl ⟨by rw [unhide HR], unhide HB1⟩
end Go.Proofs.Ytnoklbnacfmpdac
namespace Go.Proofs.Ytnoklbnacfmpdac
open Go Go.RowKit Gs
set_option linter.unusedVariables false
set_option linter.unusedSimpArgs false
set_option maxRecDepth 100000
theorem runAppS {o : Oper} {a : Act} {w : World} (s x : Operand) (hop : o.op = Op.call { callee := Callee.builtin Builtin.append, args := #[s, x], argTypes := #[22, 22] })
    (B : Nat) (v : Value) (xs : List ByteArray) (hs : a.eval s = v) (hown : OS B w v xs) (xv : Value) (ys : List ByteArray) (hx : a.eval x = xv) (hr : RS 1 RStr w 0 ys xv) (hlen : xs.length + ys.length ≤ 4194304) (hB : B ≤ w.heap.size) :
    ∃ v' w', (execOp a.eval o).run Try.prog w = .ok (.value v') w' ∧ OS B w' v' (xs ++ ys) ∧ w.grownBy w' v.ownBlock := by
  obtain ⟨i0, hi, hz0, hz1, hz2⟩ := info_parts info9
  rcases hr.open with ⟨rfl, ad, c, rfl⟩ | ⟨b, off, c, rfl, hc, hn, _, hcs⟩
  · obtain ⟨sa, sl, sc, rfl, hle⟩ : ∃ sa sl sc, v = .slice sa sl sc ∧ sl ≤ sc := by
      rcases hown.1.2 with ⟨rfl, _⟩ | ⟨g, cap, cur, rfl, _, _, h, _⟩
      · exact ⟨_, _, _, rfl, Nat.le_refl _⟩
      · exact ⟨_, _, _, rfl, h⟩
    have hS : Src Try.prog i0.size 22 (.slice ad 0 c) 0 [] w := by
      cases ad with
      | none => exact Src.ofNil w Try.underlying22 c
      | some ad => exact Src.ofSlice w Try.underlying22 ad 0 c [] (by simp) (fun j u h => by simp at h) (fun _ h => by cases h)
    have hrun := run_append_nothing (P := Try.prog) w 22 22 o.type 9 i0 Try.underlying22 hi sa sl sc hle _ hS
    refine ⟨_, w, ?_, by simpa using hown, World.grownBy.refl _ _⟩
    simp [execOp, hop, resolve, invoke, builtin, hs, hx, hrun, Result.andThen]
  · obtain ⟨v', w', hrun, ho, hgr, _⟩ := run_append_own (P := Try.prog) w B 22 o.type 9 i0 (.string ByteArray.empty) 1 16 Try.underlying22 hi hz0 hz1 hz2 rfl (by decide) v xs.length (xs.map Value.string) hown.1 ⟨b, off, none⟩ ys.length c (ys.map Value.string) (by simp) (by
        intro j u hj
        rw [List.getElem?_map, Option.map_eq_some_iff] at hj
        obtain ⟨y, hy, rfl⟩ := hj
        obtain ⟨u, hul, hat, hu, _⟩ := hcs j y hy
        subst hu
        have := hat.get (j := 0) rfl
        rw [Addr.add_lit]
        simpa using this) (strs_one ys) (by unfold maxLen; omega) (by omega) hB
    refine ⟨v', w', ?_, ⟨?_, fun s hs => ?_⟩, hgr⟩
    · simp [execOp, hop, resolve, invoke, builtin, hs, hx, hrun, Result.andThen]
    · rw [List.length_append, List.map_append]; exact ho
    · rcases List.mem_append.1 hs with h | h
      · exact hown.2 s h
      · obtain ⟨j, hj⟩ := List.getElem?_of_mem h
        obtain ⟨_, _, _, _, hb⟩ := hcs j s hj
        exact hb
theorem opApp {ops : Array Oper} {o : Oper} {a : Act} {w : World} {K : Act → World → Prop} (hg : o.guard = none) (s x : Operand) (hop : o.op = Op.call { callee := Callee.builtin Builtin.append, args := #[s, x], argTypes := #[22, 22] })
    (B : Nat) (v : Value) (xs : List ByteArray) (hs : a.eval s = v) (hown : OS B w v xs) (xv : Value) (ys : List ByteArray) (hx : a.eval x = xv) (hr : RS 1 RStr w 0 ys xv) (hlen : xs.length + ys.length ≤ 4194304) (hB : B ≤ w.heap.size)
    (h : ∀ v' w', OS B w' v' (xs ++ ys) → w.grownBy w' v.ownBlock → K (a.put o.dst v') w') : opW Try.prog ops o K a w := by
  obtain ⟨v', w', hrun, ho, hgr⟩ := runAppS s x hop B v xs hs hown xv ys hx hr hlen hB
  unfold opW
  rw [if_pos (wanted_none hg)]
  exact .inl ⟨v', w', hrun, h v' w' ho hgr⟩
/-- What is known of each operation while the names are put together. -/
def GA (B N : Nat) (v0 v1 : Value) (xs0 xs1 : List ByteArray) (l : Array Bool) (k : Nat) (W : World) (v : Value) : Prop := match k with
  | 0 => l.getD 3 false = false → OS N W v []
  | 1 => v = .pointer (some ⟨B, 0, none⟩)
  | 2 => v = v0
  | 3 => l.getD 6 false = false → OS N W v xs0
  | 4 => v = .pointer (some ⟨B, 1, none⟩)
  | 5 => v = v1
  | 6 => OS N W v (xs0 ++ xs1)
  | 7 => OS N W v (xs0 ++ xs1)
  | _ => True
def JA (W0 : World) (l : Array Bool) (W : World) : Prop := Below W0.heap.size W0 W ∧ (l.getD 6 false = true → l.getD 3 false = true) ∧ (l.getD 7 false = true → l.getD 6 false = true)
theorem get_un {l : Array Bool} {i j : Nat} (h : (l.setIfInBounds i true).getD j false = false) : l.getD j false = false := by
  by_cases e : j = i
  · subst e
    by_cases hs : j < l.size
    · rw [set_ite hs] at h; simp at h
    · simp [Array.getD, hs]
  · rwa [getD_set_ne false (fun e' => e e'.symm)] at h
theorem get_ne {l : Array Bool} {i j : Nat} (e : j ≠ i) : (l.setIfInBounds i true).getD j false = l.getD j false := getD_set_ne false (fun e' => e e'.symm)
theorem get_mono {l : Array Bool} {i j : Nat} (h : l.getD j false = true) : (l.setIfInBounds i true).getD j false = true := by
  by_cases e : j = i
  · subst e
    have hs : j < l.size := by
      rcases Nat.lt_or_ge j l.size with h' | h'
      · exact h'
      · simp [Array.getD, Nat.not_lt.2 h'] at h
    rw [set_ite hs]; simp
  · rw [get_ne e]; exact h
theorem not_done {l : Array Bool} {k : Nat} (h : l.getD k true = false) : l.getD k false = false := by
  by_cases hs : k < l.size
  · simpa [Array.getD, hs] using h
  · simp [Array.getD, hs]
theorem now_done {l : Array Bool} {k : Nat} (h : l.getD k true = false) : (l.setIfInBounds k true).getD k false = true := by
  have hs : k < l.size := by
    rcases Nat.lt_or_ge k l.size with h' | h'
    · exact h'
    · simp [Array.getD, Nat.not_lt.2 h'] at h
  rw [set_ite hs]; simp
theorem GA.keep {B N : Nat} {v0 v1 : Value} {xs0 xs1 : List ByteArray} {l : Array Bool} {k i : Nat} {W W' : World} {v : Value} (h : GA B N v0 v1 xs0 xs1 l k W v) (hb : Below W.heap.size W W') : GA B N v0 v1 xs0 xs1 (l.setIfInBounds i true) k W' v := by
  unfold GA at *
  split at h
  · exact fun e => (h (get_un e)).later hb
  · exact h
  · exact h
  · exact fun e => (h (get_un e)).later hb
  · exact h
  · exact h
  · exact OS.later h hb
  · exact OS.later h hb
  · trivial
theorem JA.keep {W0 : World} {l : Array Bool} {i : Nat} {W W' : World} (h : JA W0 l W) (hi : i ≠ 6 ∧ i ≠ 7) (hb : Below W.heap.size W W') : JA W0 (l.setIfInBounds i true) W' := by
  obtain ⟨h1, h2, h3⟩ := h
  refine ⟨btr h1 hb, fun e => get_mono (h2 ?_), fun e => get_mono (h3 ?_)⟩
  · rwa [get_ne (fun e' => hi.1 e'.symm)] at e
  · rwa [get_ne (fun e' => hi.2 e'.symm)] at e
theorem sa_val {ops : Array Oper} {a0 : Act} {W0 : World} {B N : Nat} {v0 v1 : Value} {xs0 xs1 : List ByteArray} {k : Nat} {o : Oper} (hk : k ≠ 6 ∧ k ≠ 7) (hg : o.guard = none) (h : ∀ l a w, PA ops (GA B N v0 v1 xs0 xs1) (JA W0) a0 l a w → (∀ e ∈ o.after, Region.binds .any e = true → l.getD e.on false = true) → ∃ x, (execOp a.eval o).run Try.prog w = .ok (.value x) w ∧ ∀ l', GA B N v0 v1 xs0 xs1 l' k w x) : Stp Try.prog ops (GA B N v0 v1 xs0 xs1) (JA W0) a0 k o := by
  intro l a w hp hu ha
  obtain ⟨x, hr, hf⟩ := h l a w hp ha
  unfold opW
  rw [if_pos (wanted_none hg)]
  exact .inl ⟨x, w, hr, x, rfl, hp.j.keep hk (brf w), hf _, fun _ _ _ _ h => h.keep (brf w)⟩
end Go.Proofs.Ytnoklbnacfmpdac
