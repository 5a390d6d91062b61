/- The specification's l10Vars, l10Lit, l10Names. -/
import Derived.Test.YtlldfaniddbjaaaGreatDoorSS1
import Derived.Test.YtlldfaniddbjaaaGreatDoorGFB
import Derived.Test.YtlldfaniddbjaaaGreatDoorGMX
namespace Go.Proofs.YtlldfaniddbjaaaGreatDoor
open Go Go.RowKit Gs
set_option linter.unusedVariables false
set_option linter.unusedSimpArgs false
set_option maxRecDepth 100000
theorem toList_ne {a b : ByteArray} (h : a ≠ b) : (a.toList == b.toList) = false := by
  rw [beq_eq_false_iff_ne]
  exact fun e => h (toL_inj e)
set_option maxHeartbeats 8000000 in
theorem sNames (ss : List ByteArray) (v : Value) (w : World) (hl : ss.length ≤ 2097152) (hr : RS 1 RStr w 0 ss v) :
    Calls Tryz.prog 80 #[v] w fun e w' => e = .returned (.bool (namesB ss)) ∧ Below w.heap.size w w' := by
  have HR := hide hr
  have HL := hide hl
  -- behind the first loop
  have HT : Hid (∀ V v1, OS w.heap.size V v1 ss → Calls Tryz.prog 100 #[v1] V fun e w' => (∃ v' ys, e = .returned v' ∧ RS 1 RStr w' 0 ys v' ∧ ys.Perm ss ∧ Up ys) ∧ Below V.heap.size V w') := hide (fun V v1 ho => sSort ss.length ss v1 V (Nat.le_refl _) hl (ho.any (by omega)))
  obtain ⟨a, c, rfl⟩ := hr.slice
  have hcs : Hid (∀ (i : Nat) x, ss[i]? = some x → ∃ b o, a = some ⟨b, o, none⟩ ∧ w.cell? ⟨b, o + i, none⟩ = some (.string x) ∧ x.size ≤ maxLen) := hide (by
    intro i x hx
    rcases hr.open with ⟨rfl, _⟩ | ⟨b, o, c', hv, _, _, _, he⟩
    · simp at hx
    · injection hv with e1 e2 e3
      obtain ⟨u, hu, hat, hux, hs⟩ := he i x hx
      subst hux
      refine ⟨b, o, e1, ?_, hs⟩
      simpa using hat.get (j := 0) rfl)
  clear hr
  go_enter Tryz.func80, Tryz.ntmps80
  go_wp2
  go_loop [3] (fun i => ∃ k : Nat, k ≤ ss.length ∧ i = .int .i64 k ∧ (ss.take k).all nmOK = true) (fun i => ss.length - (intOf i).toNat)
  case atStart => exact ⟨0, Nat.zero_le _, rfl, rfl⟩
  case round =>
    obtain ⟨k, hk, rfl, hall⟩ := hrel
    have HA := hide hall
    clear hall
    by_cases hlt : k < ss.length
    · have hx : ss[k]? = some ss[k] := List.getElem?_eq_getElem hlt
      have hmem : ss[k] ∈ ss := List.getElem_mem hlt
      generalize ss[k] = s at hx hmem
      have HST := hide (show (ss.take (k + 1)).all nmOK = ((ss.take k).all nmOK && nmOK s) by rw [List.take_add_one, hx, List.all_append]; simp)
      have HF : Hid (nmOK s = false → namesB ss = false) := hide (fun h => by
        unfold namesB
        rw [show ss.all nmOK = false from by rw [← Bool.not_eq_true]; intro e; rw [List.all_eq_true.1 e s hmem] at h; cases h]
        rfl)
      obtain ⟨b, o, rfl, k0, hsz⟩ := unhide hcs k s hx
      unfold maxLen at hsz
      clear hcs hx hmem
      by_cases h1 : s.size < 1
      · have HE := hide (show nmOK s = false by unfold nmOK; rw [decide_eq_false (p := 1 ≤ s.size) (by omega)]; rfl)
        have g1 : (s.size : Int) < 1 := by omega
        clear h1
        go_wp2
        exact bodyPost_ret (v := .bool false) (by simp [results, Tryz.results80, go_sem]) rfl ⟨by rw [unhide HF (unhide HE)], brf _⟩
      · by_cases h2 : s.size > 1000
        · have HE := hide (show nmOK s = false by unfold nmOK; rw [decide_eq_false (p := s.size ≤ 1000) (by omega), Bool.and_false])
          have g1 : (1 : Int) ≤ (s.size : Int) := by omega
          have g2 : (1000 : Int) < (s.size : Int) := by omega
          clear h1 h2
          go_wp2
          exact bodyPost_ret (v := .bool false) (by simp [results, Tryz.results80, go_sem]) rfl ⟨by rw [unhide HF (unhide HE)], brf _⟩
        · have HE := hide (show nmOK s = true by unfold nmOK; rw [decide_eq_true (p := s.size ≤ 1000) (by omega), decide_eq_true (p := 1 ≤ s.size) (by omega)]; rfl)
          have g1 : (1 : Int) ≤ (s.size : Int) := by omega
          have g2 : (s.size : Int) ≤ 1000 := by omega
          clear h1 h2
          go_wp2
          go_round
          case rel => exact ⟨k + 1, by omega, by go_num, by rw [unhide HST, unhide HA, unhide HE]; rfl⟩
          case measure => simp [intOf]; omega
    · obtain rfl : k = ss.length := by omega
      have HA2 : Hid (ss.all nmOK = true) := hide (by have h := unhide HA; rwa [List.take_of_length_le (Nat.le_refl _)] at h)
      clear hcs HA
      go_wp2_with (first | (at_builtin; refine wpAppS rfl _ _ rfl w.heap.size _ [] rfl (OS_start rfl (Nat.le_refl _)) _ ss rfl ((unhide HR).later RStr.keeps (bal (brf w) _)) (by have := unhide HL; simp; omega) (by simp) ?_; intro v1 w1 ho1 hg1; rw [List.nil_append] at ho1; have HB1 := hide (below_grown (bal (brf w) (.cells #[] 9)) hg1 (by simp) (by intro j hj; cases hj; exact Nat.le_refl _)); have HO1 := hide ho1; clear ho1 hg1))
      refine (unhide HT _ _ (unhide HO1)).mono ?_
      rintro e W1 ⟨⟨vs, ys, rfl, hrs, hp, hu⟩, hb1⟩
      have HB2 := hide (btr (unhide HB1) hb1)
      have HRR : Hid (namesB ss = apart ys) := hide (by
        unfold namesB
        rw [unhide HA2, Bool.true_and]
        rw [Bool.eq_iff_iff, decide_eq_true_eq, apart_nodup ys hu]
        exact hp.nodup_iff.symm)
      have hyl : ys.length ≤ 2097152 := by rw [hp.length_eq]; exact unhide HL
      obtain ⟨ay, cy, rfl⟩ := hrs.slice
      have HYC : Hid (∀ (i : Nat) x, ys[i]? = some x → ∃ b o, ay = some ⟨b, o, none⟩ ∧ W1.cell? ⟨b, o + i, none⟩ = some (.string x)) := hide (by
        intro i x hx
        rcases hrs.open with ⟨rfl, _⟩ | ⟨b, o, c', hv, _, _, _, he⟩
        · simp at hx
        · injection hv with e1 e2 e3
          obtain ⟨u, hu, hat, hux, hs⟩ := he i x hx
          subst hux
          refine ⟨b, o, e1, ?_⟩
          simpa using hat.get (j := 0) rfl)
      clear hrs hp hu hb1 HO1 HB1
      go_wp2
      go_loopw [5] (fun i wr => ∃ k : Nat, (k ≤ ys.length ∨ k = 1) ∧ 1 ≤ k ∧ i = .int .i64 k ∧ apart (ys.take k) = true ∧ Below W1.heap.size W1 wr) (fun i wr => ys.length - (intOf i).toNat)
      case atStart => exact ⟨1, .inr rfl, Nat.le_refl _, rfl, by cases ys <;> simp [apart], brf _⟩
      case round =>
        obtain ⟨k, hk, hk1, rfl, hall, hb⟩ := hrel
        have HA := hide hall
        have HB := hide hb
        clear hall
        by_cases hlt : k < ys.length
        · obtain ⟨m, rfl⟩ : ∃ m, k = m + 1 := ⟨k - 1, by omega⟩
          have hx : ys[m]? = some ys[m] := List.getElem?_eq_getElem (by omega)
          have hy : ys[m + 1]? = some ys[m + 1] := List.getElem?_eq_getElem hlt
          generalize ys[m] = x at hx
          generalize ys[m + 1] = y at hy
          have HST := hide (apart_take ys m x y hx hy)
          obtain ⟨b, o, e1, hc1⟩ := unhide HYC m x hx
          obtain ⟨b2, o2, e2, hc2⟩ := unhide HYC (m + 1) y hy
          subst e1
          injection e2 with e2
          injection e2 with e2 e3 _
          subst e2
          subst e3
          have k0 := cell_later hb hc1
          have k1 := cell_later hb hc2
          have i1 : (m : Int) < (ys.length : Int) := by omega
          have i2 : (m : Int) + 1 < (ys.length : Int) := by omega
          have i3 : (0 : Int) ≤ (m : Int) := by omega
          clear HYC hx hy hb hc1 hc2 hk hk1
          by_cases hxy : x = y
          · have HF := hide (show apart ys = false from apart_mono ys (m + 2) (by rw [unhide HST, hxy]; simp))
            subst hxy
            go_wp2
            go_quiet (fail)
            go_wp2
            exact bodyPost_ret (v := .bool false) (by simp [results, Tryz.results80, go_sem]) rfl ⟨by rw [unhide HRR, unhide HF], btr (unhide HB2) (bdn' (unhide HB))⟩
          · have q := toList_ne hxy
            have HN := hide (show apart (ys.take (m + 2)) = true by rw [unhide HST, unhide HA]; simp [hxy])
            go_wp2
            go_quiet (fail)
            go_wp2
            go_roundw
            case rel => exact ⟨m + 2, .inl (by omega), by omega, by go_num, unhide HN, bdn' (unhide HB)⟩
            case measure => simp [intOf]; omega
        · have HAY : Hid (apart ys = true) := hide (by have h := unhide HA; rwa [List.take_of_length_le (by omega)] at h)
          have hnl : ¬ ((k : Int) < (ys.length : Int)) := by omega
          clear HYC hb hk hk1
          go_wp2
          exact bodyPost_ret (v := .bool true) (by simp [results, Tryz.results80, go_sem]) rfl ⟨by rw [unhide HRR, unhide HAY], btr (unhide HB2) (unhide HB)⟩
end Go.Proofs.YtlldfaniddbjaaaGreatDoor
namespace Go.Proofs.YtlldfaniddbjaaaGreatDoor
open Go Go.RowKit Gs
set_option linter.unusedVariables false
set_option linter.unusedSimpArgs false
set_option maxRecDepth 100000
/-- What l12Ports answers. -/
def portsB (VV : Nat) (ps : List Port) : Bool := ps.all (fun p : Port => plB p.src VV) && namesB (ps.map (fun p : Port => p.name))
set_option maxHeartbeats 16000000 in
theorem sPorts (VV : Nat) (ps : List Port) (v : Value) (w : World) (hl : ps.length ≤ 1048576) (hr : RS 2 RPort w 0 ps v) :
    Calls Tryz.prog 81 #[v, .int .i64 (VV : Int)] w fun e w' => e = .returned (.bool (portsB VV ps)) ∧ Below w.heap.size w w' := by
  obtain ⟨ap, cp, rfl⟩ := hr.slice
  have HCS : Hid (∀ (i : Nat) x, ps[i]? = some x → ∃ b o, ap = some ⟨b, o, none⟩ ∧ w.cell? ⟨b, o + i * 2, none⟩ = some (.string x.name) ∧ w.cell? ⟨b, o + i * 2 + 1, none⟩ = some (.int .i64 x.src) ∧ x.name.size ≤ maxLen) := hide (by
    intro i x hx
    rcases hr.open with ⟨rfl, _⟩ | ⟨b, o, c', hv, _, _, _, he⟩
    · simp at hx
    · injection hv with e1 e2 e3
      obtain ⟨u, hu, hat, hux, hs⟩ := he i x hx
      subst hux
      refine ⟨b, o, e1, ?_, ?_, hs⟩
      · simpa using hat.get (j := 0) rfl
      · simpa using hat.get (j := 1) rfl)
  clear hr
  obtain ⟨i0, hi, hz0, hz1, hz2⟩ := info_parts info9
  have HI := hide (And.intro hi (And.intro hz0 (And.intro hz1 hz2)))
  clear hi hz0 hz1 hz2
  go_enter Tryz.func81, Tryz.ntmps81
  go_wp2
  go_loopw [5, 6] (fun vn i wr => ∃ k : Nat, k ≤ ps.length ∧ i = .int .i64 k ∧ OS w.heap.size wr vn ((ps.take k).map (fun p : Port => p.name)) ∧ (ps.take k).all (fun p : Port => plB p.src VV) = true ∧ Below w.heap.size w wr) (fun vn i wr => ps.length - (intOf i).toNat)
  case atStart => exact ⟨0, Nat.zero_le _, rfl, OS_start rfl (Nat.le_refl _), rfl, bal (brf w) _⟩
  case round =>
    obtain ⟨k, hk, rfl, ho, hall, hb⟩ := hrel
    have HO := hide ho
    have HA := hide hall
    have HB := hide hb
    clear ho hall
    by_cases hlt : k < ps.length
    · have hx : ps[k]? = some ps[k] := List.getElem?_eq_getElem hlt
      have hmem : ps[k] ∈ ps := List.getElem_mem hlt
      generalize ps[k] = x at hx hmem
      have HST := hide (show (ps.take (k + 1)).map (fun p : Port => p.name) = (ps.take k).map (fun p : Port => p.name) ++ [x.name] by rw [List.take_add_one, hx, List.map_append]; rfl)
      have HLEN := hide (show ((ps.take k).map (fun p : Port => p.name)).length = k by rw [List.length_map, List.length_take]; omega)
      have HSA := hide (show (ps.take (k + 1)).all (fun p : Port => plB p.src VV) = ((ps.take k).all (fun p : Port => plB p.src VV) && plB x.src VV) by rw [List.take_add_one, hx, List.all_append]; simp)
      have HF : Hid (plB x.src VV = false → portsB VV ps = false) := hide (fun h => by
        unfold portsB
        rw [show ps.all (fun p : Port => plB p.src VV) = false from by rw [← Bool.not_eq_true]; intro e; rw [List.all_eq_true.1 e x hmem] at h; cases h]
        rfl)
      obtain ⟨b, o, rfl, hc0, hc1, hsz⟩ := unhide HCS k x hx
      have k0 := cell_later hb hc0
      have HZ := hide (fun (V : World) (hV : Below w.heap.size w V) => cell_later hV hc1)
      have HN := hide hsz
      have HSZ := hide hb.size
      have i1 : (0 : Int) ≤ (k : Int) := by omega
      have i2 : (k : Int) < (ps.length : Int) := by omega
      have HPL : Hid (plB x.src VV = (decide (0 ≤ x.src) && decide (x.src < (VV : Int)))) := hide rfl
      clear HCS hx hmem hc0 hc1 hsz hb
      generalize plB x.src VV = P at *
      generalize x.name = nm at *
      generalize x.src = z at *
      by_cases g1 : z < 0
      · have HFF : Hid (portsB VV ps = false) := hide (unhide HF (by rw [unhide HPL, decide_eq_false (p := 0 ≤ z) (by omega)]; rfl))
        go_wp2_with (first
          | (at_builtin; refine wpList_append_own _ rfl _ _ 22 rfl w.heap.size 9 i0 (.string ByteArray.empty) 1 16 Tryz.underlying22 (unhide HI).1 (unhide HI).2.1 (unhide HI).2.2.1 (unhide HI).2.2.2 rfl (by decide) _ _ _ rfl ((unhide HO).1.alloc _) ⟨wr.heap.size, 0, none⟩ 1 1 [.string nm] rfl rfl (newS _ _ _ rfl) (oneS _) (by have := unhide HLEN; unfold maxLen; omega) (by have := unhide HLEN; omega) (by have := unhide HSZ; simp; omega) ?_; intro v' w2 hown' hgrow _; have HB2 := hide (below_grown (bal (unhide HB) (.cells #[.string nm] 9)) hgrow (by have := unhide HSZ; simp; omega) (own_row (unhide HO).1)); have z2 := unhide HZ w2 (unhide HB2); clear hgrow hown')
          | fail)
        exact bodyPost_ret (v := .bool false) (by simp [results, Tryz.results81, go_sem]) rfl ⟨by rw [unhide HFF], unhide HB2⟩
      have a1 : decide (z < 0) = false := decide_eq_false g1
      by_cases g2 : (VV : Int) ≤ z
      · have HFF : Hid (portsB VV ps = false) := hide (unhide HF (by rw [unhide HPL, decide_eq_false (p := z < (VV : Int)) (by omega)]; simp))
        go_wp2_with (first
          | (at_builtin; refine wpList_append_own _ rfl _ _ 22 rfl w.heap.size 9 i0 (.string ByteArray.empty) 1 16 Tryz.underlying22 (unhide HI).1 (unhide HI).2.1 (unhide HI).2.2.1 (unhide HI).2.2.2 rfl (by decide) _ _ _ rfl ((unhide HO).1.alloc _) ⟨wr.heap.size, 0, none⟩ 1 1 [.string nm] rfl rfl (newS _ _ _ rfl) (oneS _) (by have := unhide HLEN; unfold maxLen; omega) (by have := unhide HLEN; omega) (by have := unhide HSZ; simp; omega) ?_; intro v' w2 hown' hgrow _; have HB2 := hide (below_grown (bal (unhide HB) (.cells #[.string nm] 9)) hgrow (by have := unhide HSZ; simp; omega) (own_row (unhide HO).1)); have z2 := unhide HZ w2 (unhide HB2); clear hgrow hown')
          | fail)
        exact bodyPost_ret (v := .bool false) (by simp [results, Tryz.results81, go_sem]) rfl ⟨by rw [unhide HFF], unhide HB2⟩
      have a2 : decide ((VV : Int) ≤ z) = false := decide_eq_false g2
      have HP : Hid (P = true) := hide (by rw [unhide HPL, decide_eq_true (p := 0 ≤ z) (by omega), decide_eq_true (p := z < (VV : Int)) (by omega)]; rfl)
      go_wp2_with (first
        | (at_builtin; refine wpList_append_own _ rfl _ _ 22 rfl w.heap.size 9 i0 (.string ByteArray.empty) 1 16 Tryz.underlying22 (unhide HI).1 (unhide HI).2.1 (unhide HI).2.2.1 (unhide HI).2.2.2 rfl (by decide) _ _ _ rfl ((unhide HO).1.alloc _) ⟨wr.heap.size, 0, none⟩ 1 1 [.string nm] rfl rfl (newS _ _ _ rfl) (oneS _) (by have := unhide HLEN; unfold maxLen; omega) (by have := unhide HLEN; omega) (by have := unhide HSZ; simp; omega) ?_; intro v' w2 hown' hgrow _; have HB2 := hide (below_grown (bal (unhide HB) (.cells #[.string nm] 9)) hgrow (by have := unhide HSZ; simp; omega) (own_row (unhide HO).1)); have z2 := unhide HZ w2 (unhide HB2); have HR1 : Hid (OS w.heap.size w2 v' ((ps.take (k + 1)).map (fun p : Port => p.name))) := hide (by rw [unhide HST]; exact OS.step hown' (unhide HO).2 (unhide HN)); clear hgrow hown')
        | fail)
      go_roundw
      case rel => exact ⟨k + 1, by omega, by go_num, unhide HR1, by rw [unhide HSA, unhide HA, unhide HP]; rfl, unhide HB2⟩
      case measure => simp [intOf]; omega
    · obtain rfl : k = ps.length := by omega
      have HR : Hid (portsB VV ps = namesB (ps.map (fun p : Port => p.name))) := hide (by
        have h := unhide HA
        rw [List.take_of_length_le (Nat.le_refl _)] at h
        unfold portsB
        rw [h]; rfl)
      have h := unhide HO
      rw [List.take_of_length_le (Nat.le_refl _)] at h
      have HNM := hide (sNames _ _ wr (by rw [List.length_map]; omega) (h.any (by rw [List.length_map]; omega)))
      clear h hb HCS HA HO
      go_wp2_with fail
      refine (unhide HNM).mono ?_
      rintro e W1 ⟨rfl, hb1⟩
      have HB1 := hide (btr (unhide HB) hb1)
      clear hb1
      go_wp2_with fail
      exact bodyPost_ret (v := .bool (namesB (ps.map (fun p : Port => p.name)))) (by simp [results, Tryz.results81, go_sem]) rfl ⟨by rw [unhide HR], unhide HB1⟩
end Go.Proofs.YtlldfaniddbjaaaGreatDoor
