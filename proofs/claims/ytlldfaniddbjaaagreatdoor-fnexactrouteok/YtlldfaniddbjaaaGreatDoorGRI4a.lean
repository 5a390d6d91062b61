/- The program's hasWire. -/
import Derived.Test.YtlldfaniddbjaaaGreatDoorGRI2
import Derived.Test.YtlldfaniddbjaaaGreatDoorGFB
import Derived.ChangeKeysEq
namespace Go.Proofs.YtlldfaniddbjaaaGreatDoor
open Go Go.RowKit Gs
set_option linter.unusedVariables false
set_option linter.unusedSimpArgs false
set_option maxRecDepth 100000
set_option maxHeartbeats 16000000
def FHW0 (W H T P g : Nat) (x y d t f ex ey : Int) (r : Bool) : Nat → Value → Prop
  | 0, v => v = .pointer (some ⟨g + 1, 0, none⟩)
  | 1, v => v = .int .i64 x
  | 2, v => v = .pointer (some ⟨g, 0, none⟩)
  | 3, v => v = .int .i64 (W : Int)
  | 4, v => v = .bool false
  | 5, v => v = .bool false
  | 6, v => false = true → v = .agg #[.int .i64 (W : Int), .int .i64 (H : Int), .int .i64 (T : Int), .int .i64 (P : Int)]
  | 7, v => false = true → v = .agg #[.int .i64 x, .int .i64 y, .int .i64 d, .int .i64 t, .int .i64 f]
  | 8, v => false = true → v = .agg #[.int .i64 ex, .int .i64 ey, .int .i64 t]
  | 9, v => false = true → v = .agg #[.int .i64 ex, .int .i64 ey]
  | 10, v => false = true → v = .bool r
  | 11, v => v = .bool false
  | 12, v => v = .bool false
  | _, _ => True
def FHW1 (W H T P g : Nat) (x y d t f ex ey : Int) (r : Bool) : Nat → Value → Prop
  | 0, v => v = .pointer (some ⟨g + 1, 0, none⟩)
  | 1, v => v = .int .i64 x
  | 2, v => v = .pointer (some ⟨g, 0, none⟩)
  | 3, v => v = .int .i64 (W : Int)
  | 4, v => v = .bool true
  | 5, v => v = .bool true
  | 6, v => true = true → v = .agg #[.int .i64 (W : Int), .int .i64 (H : Int), .int .i64 (T : Int), .int .i64 (P : Int)]
  | 7, v => true = true → v = .agg #[.int .i64 x, .int .i64 y, .int .i64 d, .int .i64 t, .int .i64 f]
  | 8, v => true = true → v = .agg #[.int .i64 ex, .int .i64 ey, .int .i64 t]
  | 9, v => true = true → v = .agg #[.int .i64 ex, .int .i64 ey]
  | 10, v => true = true → v = .bool r
  | 11, v => v = .bool r
  | 12, v => v = .bool r
  | _, _ => True

theorem iHasWire (W H T P : Nat) (x y d t f : Int) (w : World) (hW : W ≤ 8) (hH : H ≤ 8) (hg : Gc w) : Calls Tryz.prog 91 #[.agg #[.int .i64 (W : Int), .int .i64 (H : Int), .int .i64 (T : Int), .int .i64 (P : Int)], .agg #[.int .i64 x, .int .i64 y, .int .i64 d, .int .i64 t, .int .i64 f]] w fun e w' => e = .returned (.bool (thereB W H T x y d t)) ∧ Below w.heap.size w w' := by
  have hform := there_form W H T x y d t
  obtain ⟨RB, hRB⟩ : ∃ b, thereB W H T x y d t = b := ⟨_, rfl⟩
  rw [hRB] at hform ⊢
  have HF := hide hform
  have H1 := hide (fun V => iPlace y (H : Int) V)
  have H2 := hide (fun V => iPlace d 4 V)
  have H3 := hide (fun V => iPlace t (T : Int) V)
  have HP1 := hide (fun V => iPlace x (W : Int) V)
  have HGG := hide hg
  change Hid (∀ V, Calls Tryz.prog 56 _ V fun e w' => e = .returned (.bool (plI y H)) ∧ w' = V) at H1
  change Hid (∀ V, Calls Tryz.prog 56 _ V fun e w' => e = .returned (.bool (plI d 4)) ∧ w' = V) at H2
  change Hid (∀ V, Calls Tryz.prog 56 _ V fun e w' => e = .returned (.bool (plI t T)) ∧ w' = V) at H3
  change Hid (∀ V, Calls Tryz.prog 56 _ V fun e w' => e = .returned (.bool (plI x W)) ∧ w' = V) at HP1
  obtain ⟨py, hpy⟩ : ∃ b, plI y H = b := ⟨_, rfl⟩
  obtain ⟨pd, hpd⟩ : ∃ b, plI d 4 = b := ⟨_, rfl⟩
  obtain ⟨pt, hpt⟩ : ∃ b, plI t T = b := ⟨_, rfl⟩
  obtain ⟨px, hpx⟩ : ∃ b, plI x W = b := ⟨_, rfl⟩
  have HPY := hide hpy
  have HPD := hide hpd
  have HPX := hide hpx
  rw [hpy] at H1
  rw [hpd] at H2
  rw [hpt] at H3
  rw [hpx] at HP1
  rw [hpy, hpd, hpt, hpx] at HF
  obtain ⟨W0, hW0⟩ : ∃ W0, W0 = (w.alloc (.cells #[.int .i64 (W : Int), .int .i64 (H : Int), .int .i64 (T : Int), .int .i64 (P : Int)] 39)).alloc (.cells #[.int .i64 x, .int .i64 y, .int .i64 d, .int .i64 t, .int .i64 f] 61) := ⟨_, rfl⟩
  have HB0 := hide (show Below w.heap.size w W0 by rw [hW0]; exact bal (bal (brf w) _) _)
  have HCC : Hid (∀ V, Below W0.heap.size W0 V → V.cell? ⟨w.heap.size, 0, none⟩ = some (.int .i64 (W : Int)) ∧ V.cell? ⟨w.heap.size, 1, none⟩ = some (.int .i64 (H : Int)) ∧ V.cell? ⟨w.heap.size, 2, none⟩ = some (.int .i64 (T : Int)) ∧ V.cell? ⟨w.heap.size, 3, none⟩ = some (.int .i64 (P : Int))) := hide (fun V hV => by
    rw [hW0] at hV
    have K := fun (i : Nat) z hz => (new_cell (i := i) (x := z) (btr (bal (brf _) _) hV) hz).1
    exact ⟨K 0 _ rfl, K 1 _ rfl, K 2 _ rfl, K 3 _ rfl⟩)
  have HH : Hid (∀ V, Below W0.heap.size W0 V → V.cell? ⟨w.heap.size + 1, 0, none⟩ = some (.int .i64 x) ∧ V.cell? ⟨w.heap.size + 1, 1, none⟩ = some (.int .i64 y) ∧ V.cell? ⟨w.heap.size + 1, 2, none⟩ = some (.int .i64 d) ∧ V.cell? ⟨w.heap.size + 1, 3, none⟩ = some (.int .i64 t) ∧ V.cell? ⟨w.heap.size + 1, 4, none⟩ = some (.int .i64 f)) := hide (fun V hV => by
    rw [hW0] at hV
    have K := fun (i : Nat) z hz => (new_cell (i := i) (x := z) hV hz).1
    simp only [World.size_alloc] at K
    exact ⟨K 0 _ rfl, K 1 _ rfl, K 2 _ rfl, K 3 _ rfl, K 4 _ rfl⟩)
  have HWW := hide hW0
  clear hform hRB hpy hpd hpt hpx hW0
  go_enter Tryz.func91, Tryz.ntmps91
  go_wp2_with fail
  rw [← unhide HWW]
  obtain ⟨q0, q1, q2, q3⟩ := unhide HCC W0 (brf _)
  obtain ⟨k0, k1, k2, k3, k4⟩ := unhide HH W0 (brf _)
  refine (unhide H1 _).mono ?_
  rintro e V1 ⟨rfl, h⟩
  have h' := h.symm
  subst h'
  cases py
  · go_wp2_with fail
    exact bodyPost_ret (v := .bool false) (by simp [results, Tryz.results91, go_sem]) rfl ⟨by rw [unhide HF]; rfl, unhide HB0⟩
  go_wp2_with fail
  refine (unhide H2 _).mono ?_
  rintro e V1 ⟨rfl, h⟩
  have h' := h.symm
  subst h'
  cases pd
  · go_wp2_with fail
    exact bodyPost_ret (v := .bool false) (by simp [results, Tryz.results91, go_sem]) rfl ⟨by rw [unhide HF]; rfl, unhide HB0⟩
  go_wp2_with fail
  refine (unhide H3 _).mono ?_
  rintro e V1 ⟨rfl, h⟩
  have h' := h.symm
  subst h'
  cases pt
  · go_wp2_with fail
    exact bodyPost_ret (v := .bool false) (by simp [results, Tryz.results91, go_sem]) rfl ⟨by rw [unhide HF]; rfl, unhide HB0⟩
  by_cases hd : d = 0
  · have HV : Hid (RB = (decide (x = -1) || px)) := hide (by rw [unhide HF, if_pos hd]; rfl)
    clear HF
    by_cases hx : x = -1
    · have HV2 : Hid (RB = true) := hide (by rw [unhide HV, decide_eq_true hx]; rfl)
      go_wp2_with fail
      exact bodyPost_ret (v := .bool true) (by simp [results, Tryz.results91, go_sem]) rfl ⟨by rw [unhide HV2], unhide HB0⟩
    · have HV2 : Hid (RB = px) := hide (by rw [unhide HV, decide_eq_false hx]; rfl)
      go_wp2_with fail
      refine (unhide HP1 _).mono ?_
      rintro e V1 ⟨rfl, h⟩
      have h' := h.symm
      subst h'
      go_wp2_with fail
      exact bodyPost_ret (v := .bool px) (by simp [results, Tryz.results91, go_sem, hx]) rfl ⟨by rw [unhide HV2], unhide HB0⟩
  · have hpd := plI_iff.1 (unhide HPD)
    have hpy := plI_iff.1 (unhide HPY)
    obtain ⟨ex, hex⟩ : ∃ z, endX x d = z := ⟨_, rfl⟩
    obtain ⟨ey, hey⟩ : ∃ z, endY y d = z := ⟨_, rfl⟩
    have HP1B : Hid (∀ V, Calls Tryz.prog 56 #[.int .i64 x, .int .i64 (W : Int)] V fun e w' => e = .returned (.bool px) ∧ Below V.heap.size V w') := hide (fun V => (unhide HP1 V).mono (fun e w' h => ⟨h.1, by rw [h.2]; exact brf _⟩))
    obtain ⟨r, hr⟩ : ∃ b, (plI ex W && plI ey H) = b := ⟨_, rfl⟩
    have HV : Hid (RB = (px && r)) := hide (by rw [unhide HF, if_neg hd, hex, hey, hr]; rfl)
    have HT2 : Hid (∀ V, Calls Tryz.prog 113 #[.agg #[.int .i64 (W : Int), .int .i64 (H : Int), .int .i64 (T : Int), .int .i64 (P : Int)], .agg #[.int .i64 ex, .int .i64 ey]] V fun e w' => e = .returned (.bool r) ∧ Below V.heap.size V w') := hide (fun V => by rw [← hr]; exact iHasTile W H T P ex ey V)
    cases px
    · clear HF hex hey hr hpd hpy
      go_wp2_with fail
      refine wp_plan (GF (FHW0 W H T P w.heap.size x y d t f ex ey r)) (JB W0) (by kernel_rfl) 50 (by kernel_rfl) (by kernel_rfl) ?hj ?hs ?hf
      case hj => exact bdr (brf W0)
      case hs =>
        refine ⟨?_, ?_, ?_, ?_, ?_, ?_, ?_, ?_, ?_, ?_, ?_, ?_, ?_, trivial⟩
        · exact st_val rfl (fun l a V hp ha => ⟨.pointer (some ⟨w.heap.size + 1, 0, none⟩), by
            have x3 := (ev_form a 3).trans (old hp 3 (v := .pointer (some ⟨w.heap.size + 1, 0, none⟩)) (by kernel_rfl) (by kernel_rfl))
            go_simp, rfl⟩)
        · exact st_val rfl (fun l a V hp ha => ⟨.int .i64 x, by
            have x38 := (ev_form a 38).trans (show a.eval (.tmp 38) = .pointer (some ⟨w.heap.size + 1, 0, none⟩) from kn hp ha 38 0 (by kernel_rfl) (by kernel_rfl))
            obtain ⟨k0, k1, k2, k3, k4⟩ := unhide HH V hp.j
            go_simp, rfl⟩)
        · exact st_val rfl (fun l a V hp ha => ⟨.pointer (some ⟨w.heap.size, 0, none⟩), by
            have x2 := (ev_form a 2).trans (old hp 2 (v := .pointer (some ⟨w.heap.size, 0, none⟩)) (by kernel_rfl) (by kernel_rfl))
            go_simp, rfl⟩)
        · exact st_val rfl (fun l a V hp ha => ⟨.int .i64 (W : Int), by
            have x40 := (ev_form a 40).trans (show a.eval (.tmp 40) = .pointer (some ⟨w.heap.size, 0, none⟩) from kn hp ha 40 2 (by kernel_rfl) (by kernel_rfl))
            obtain ⟨q0, q1, q2, q3⟩ := unhide HCC V hp.j
            go_simp, rfl⟩)
        · exact st_call (f := 56) rfl (fun l a V hp ha => ⟨#[.int .i64 x, .int .i64 (W : Int)], by
            have x39 := (ev_form a 39).trans (show a.eval (.tmp 39) = .int .i64 x from kn hp ha 39 1 (by kernel_rfl) (by kernel_rfl))
            have x41 := (ev_form a 41).trans (show a.eval (.tmp 41) = .int .i64 (W : Int) from kn hp ha 41 3 (by kernel_rfl) (by kernel_rfl))
            go_simp, (unhide HP1B V).mono (by rintro e V1 ⟨rfl, hb⟩; exact ⟨_, rfl, rfl, hb⟩)⟩)
        · exact st_val rfl (fun l a V hp ha => ⟨.bool false, by
            have x42 := (ev_form a 42).trans (show a.eval (.tmp 42) = .bool false from kn hp ha 42 4 (by kernel_rfl) (by kernel_rfl))
            go_simp, rfl⟩)
        · exact st_valg (c := false) rfl rfl (by simp) (by kernel_rfl) (fun v h => h) (fun hn hc => absurd hc hn) (fun l a V hp ha hc => ⟨.agg #[.int .i64 (W : Int), .int .i64 (H : Int), .int .i64 (T : Int), .int .i64 (P : Int)], by
            have x2 := (ev_form a 2).trans (old hp 2 (v := .pointer (some ⟨w.heap.size, 0, none⟩)) (by kernel_rfl) (by kernel_rfl))
            obtain ⟨q0, q1, q2, q3⟩ := unhide HCC V hp.j
            go_simp, fun _ => rfl⟩)
        · exact st_valg (c := false) rfl rfl (by simp) (by kernel_rfl) (fun v h => h) (fun hn hc => absurd hc hn) (fun l a V hp ha hc => ⟨.agg #[.int .i64 x, .int .i64 y, .int .i64 d, .int .i64 t, .int .i64 f], by
            have x3 := (ev_form a 3).trans (old hp 3 (v := .pointer (some ⟨w.heap.size + 1, 0, none⟩)) (by kernel_rfl) (by kernel_rfl))
            obtain ⟨k0, k1, k2, k3, k4⟩ := unhide HH V hp.j
            go_simp, fun _ => rfl⟩)
        · exact st_callg (f := 73) (c := false) rfl rfl (by simp) (by kernel_rfl) (fun v h => h) (fun hn hc => absurd hc hn) (fun l a V hp ha hc => ⟨#[.agg #[.int .i64 x, .int .i64 y, .int .i64 d, .int .i64 t, .int .i64 f]], by
            have x45 := (ev_form a 45).trans (show a.eval (.tmp 45) = .agg #[.int .i64 x, .int .i64 y, .int .i64 d, .int .i64 t, .int .i64 f] from (kn hp ha 45 7 (by kernel_rfl) (by kernel_rfl)) hc)
            go_simp, absurd hc (by decide)⟩)
        · exact st_callg (f := 74) (c := false) rfl rfl (by simp) (by kernel_rfl) (fun v h => h) (fun hn hc => absurd hc hn) (fun l a V hp ha hc => ⟨#[.agg #[.int .i64 ex, .int .i64 ey, .int .i64 t]], by
            have x46 := (ev_form a 46).trans (show a.eval (.tmp 46) = .agg #[.int .i64 ex, .int .i64 ey, .int .i64 t] from (kn hp ha 46 8 (by kernel_rfl) (by kernel_rfl)) hc)
            go_simp, (iSpotJ ex ey t V).mono (by rintro e V1 ⟨rfl, hb⟩; exact ⟨_, rfl, fun _ => rfl, hb⟩)⟩)
        · exact st_callg (f := 113) (c := false) rfl rfl (by simp) (by kernel_rfl) (fun v h => h) (fun hn hc => absurd hc hn) (fun l a V hp ha hc => ⟨#[.agg #[.int .i64 (W : Int), .int .i64 (H : Int), .int .i64 (T : Int), .int .i64 (P : Int)], .agg #[.int .i64 ex, .int .i64 ey]], by
            have x44 := (ev_form a 44).trans (show a.eval (.tmp 44) = .agg #[.int .i64 (W : Int), .int .i64 (H : Int), .int .i64 (T : Int), .int .i64 (P : Int)] from (kn hp ha 44 6 (by kernel_rfl) (by kernel_rfl)) hc)
            have x47 := (ev_form a 47).trans (show a.eval (.tmp 47) = .agg #[.int .i64 ex, .int .i64 ey] from (kn hp ha 47 9 (by kernel_rfl) (by kernel_rfl)) hc)
            go_simp, (unhide HT2 V).mono (by rintro e V1 ⟨rfl, hb⟩; exact ⟨_, rfl, fun _ => rfl, hb⟩)⟩)
        · exact st_val rfl (fun l a V hp ha => ⟨.bool false, by
              have x43 := (ev_form a 43).trans (show a.eval (.tmp 43) = .bool false from kn hp ha 43 5 (by kernel_rfl) (by kernel_rfl))
              go_simp, rfl⟩)
        · exact st_val rfl (fun l a V hp ha => ⟨.bool false, by
            have x49 := (ev_form a 49).trans (show a.eval (.tmp 49) = .bool false from kn hp ha 49 11 (by kernel_rfl) (by kernel_rfl))
            go_simp, rfl⟩)
      case hf =>
        intro l a W1 hp hall
        have B1 : Hid (Below W0.heap.size W0 W1) := hide hp.j
        have hv4 := hp.good 12 _ 4 rfl rfl (hall 12 (by decide))
        obtain ⟨us1, rfl, hus⟩ := putAll_of [38, 39, 40, 41, 42, 43, 44, 45, 46, 47, 48, 49, 4] hp.nt hp.df (fun t ht => hp.keep t (dstIn (by kernel_rfl) ht))
        have hw4 : us1 4 = .bool false := by rw [hus 4]; exact hv4
        clear hp hall hus hv4
        simp only [putAll, List.foldl, Act.put, List.setIfInBounds_toArray, List.set_cons_zero, List.set_cons_succ, hw4]
        go_wp2_with fail
        exact bodyPost_ret (v := .bool false) (by simp [results, Tryz.results91, go_sem]) rfl ⟨by rw [unhide HV]; rfl, btr (unhide HB0) (unhide B1)⟩
    · have hpx := plI_iff.1 (unhide HPX)
      have HE : Hid (∀ V, Below W0.heap.size W0 V → Calls Tryz.prog 73 #[.agg #[.int .i64 x, .int .i64 y, .int .i64 d, .int .i64 t, .int .i64 f]] V fun e w' => e = .returned (.agg #[.int .i64 ex, .int .i64 ey, .int .i64 t]) ∧ Below V.heap.size V w') := hide (fun V hV => by
        have h := iEndJ x y d t f V (by omega) (by omega) (by omega) ((unhide HGG).later (btr (unhide HB0) hV))
        rw [hex, hey] at h; exact h)
      clear HF hex hey hr hpd hpy hpx
      go_wp2_with fail
      refine wp_plan (GF (FHW1 W H T P w.heap.size x y d t f ex ey r)) (JB W0) (by kernel_rfl) 50 (by kernel_rfl) (by kernel_rfl) ?hj ?hs ?hf
      case hj => exact bdr (brf W0)
      case hs =>
        refine ⟨?_, ?_, ?_, ?_, ?_, ?_, ?_, ?_, ?_, ?_, ?_, ?_, ?_, trivial⟩
        · exact st_val rfl (fun l a V hp ha => ⟨.pointer (some ⟨w.heap.size + 1, 0, none⟩), by
            have x3 := (ev_form a 3).trans (old hp 3 (v := .pointer (some ⟨w.heap.size + 1, 0, none⟩)) (by kernel_rfl) (by kernel_rfl))
            go_simp, rfl⟩)
        · exact st_val rfl (fun l a V hp ha => ⟨.int .i64 x, by
            have x38 := (ev_form a 38).trans (show a.eval (.tmp 38) = .pointer (some ⟨w.heap.size + 1, 0, none⟩) from kn hp ha 38 0 (by kernel_rfl) (by kernel_rfl))
            obtain ⟨k0, k1, k2, k3, k4⟩ := unhide HH V hp.j
            go_simp, rfl⟩)
        · exact st_val rfl (fun l a V hp ha => ⟨.pointer (some ⟨w.heap.size, 0, none⟩), by
            have x2 := (ev_form a 2).trans (old hp 2 (v := .pointer (some ⟨w.heap.size, 0, none⟩)) (by kernel_rfl) (by kernel_rfl))
            go_simp, rfl⟩)
        · exact st_val rfl (fun l a V hp ha => ⟨.int .i64 (W : Int), by
            have x40 := (ev_form a 40).trans (show a.eval (.tmp 40) = .pointer (some ⟨w.heap.size, 0, none⟩) from kn hp ha 40 2 (by kernel_rfl) (by kernel_rfl))
            obtain ⟨q0, q1, q2, q3⟩ := unhide HCC V hp.j
            go_simp, rfl⟩)
        · exact st_call (f := 56) rfl (fun l a V hp ha => ⟨#[.int .i64 x, .int .i64 (W : Int)], by
            have x39 := (ev_form a 39).trans (show a.eval (.tmp 39) = .int .i64 x from kn hp ha 39 1 (by kernel_rfl) (by kernel_rfl))
            have x41 := (ev_form a 41).trans (show a.eval (.tmp 41) = .int .i64 (W : Int) from kn hp ha 41 3 (by kernel_rfl) (by kernel_rfl))
            go_simp, (unhide HP1B V).mono (by rintro e V1 ⟨rfl, hb⟩; exact ⟨_, rfl, rfl, hb⟩)⟩)
        · exact st_val rfl (fun l a V hp ha => ⟨.bool true, by
            have x42 := (ev_form a 42).trans (show a.eval (.tmp 42) = .bool true from kn hp ha 42 4 (by kernel_rfl) (by kernel_rfl))
            go_simp, rfl⟩)
        · exact st_valg (c := true) rfl rfl (by simp) (by kernel_rfl) (fun v h => h) (fun hn hc => absurd hc hn) (fun l a V hp ha hc => ⟨.agg #[.int .i64 (W : Int), .int .i64 (H : Int), .int .i64 (T : Int), .int .i64 (P : Int)], by
            have x2 := (ev_form a 2).trans (old hp 2 (v := .pointer (some ⟨w.heap.size, 0, none⟩)) (by kernel_rfl) (by kernel_rfl))
            obtain ⟨q0, q1, q2, q3⟩ := unhide HCC V hp.j
            go_simp, fun _ => rfl⟩)
        · exact st_valg (c := true) rfl rfl (by simp) (by kernel_rfl) (fun v h => h) (fun hn hc => absurd hc hn) (fun l a V hp ha hc => ⟨.agg #[.int .i64 x, .int .i64 y, .int .i64 d, .int .i64 t, .int .i64 f], by
            have x3 := (ev_form a 3).trans (old hp 3 (v := .pointer (some ⟨w.heap.size + 1, 0, none⟩)) (by kernel_rfl) (by kernel_rfl))
            obtain ⟨k0, k1, k2, k3, k4⟩ := unhide HH V hp.j
            go_simp, fun _ => rfl⟩)
        · exact st_callg (f := 73) (c := true) rfl rfl (by simp) (by kernel_rfl) (fun v h => h) (fun hn hc => absurd hc hn) (fun l a V hp ha hc => ⟨#[.agg #[.int .i64 x, .int .i64 y, .int .i64 d, .int .i64 t, .int .i64 f]], by
            have x45 := (ev_form a 45).trans (show a.eval (.tmp 45) = .agg #[.int .i64 x, .int .i64 y, .int .i64 d, .int .i64 t, .int .i64 f] from (kn hp ha 45 7 (by kernel_rfl) (by kernel_rfl)) hc)
            go_simp, (unhide HE V hp.j).mono (by rintro e V1 ⟨rfl, hb⟩; exact ⟨_, rfl, fun _ => rfl, hb⟩)⟩)
        · exact st_callg (f := 74) (c := true) rfl rfl (by simp) (by kernel_rfl) (fun v h => h) (fun hn hc => absurd hc hn) (fun l a V hp ha hc => ⟨#[.agg #[.int .i64 ex, .int .i64 ey, .int .i64 t]], by
            have x46 := (ev_form a 46).trans (show a.eval (.tmp 46) = .agg #[.int .i64 ex, .int .i64 ey, .int .i64 t] from (kn hp ha 46 8 (by kernel_rfl) (by kernel_rfl)) hc)
            go_simp, (iSpotJ ex ey t V).mono (by rintro e V1 ⟨rfl, hb⟩; exact ⟨_, rfl, fun _ => rfl, hb⟩)⟩)
        · exact st_callg (f := 113) (c := true) rfl rfl (by simp) (by kernel_rfl) (fun v h => h) (fun hn hc => absurd hc hn) (fun l a V hp ha hc => ⟨#[.agg #[.int .i64 (W : Int), .int .i64 (H : Int), .int .i64 (T : Int), .int .i64 (P : Int)], .agg #[.int .i64 ex, .int .i64 ey]], by
            have x44 := (ev_form a 44).trans (show a.eval (.tmp 44) = .agg #[.int .i64 (W : Int), .int .i64 (H : Int), .int .i64 (T : Int), .int .i64 (P : Int)] from (kn hp ha 44 6 (by kernel_rfl) (by kernel_rfl)) hc)
            have x47 := (ev_form a 47).trans (show a.eval (.tmp 47) = .agg #[.int .i64 ex, .int .i64 ey] from (kn hp ha 47 9 (by kernel_rfl) (by kernel_rfl)) hc)
            go_simp, (unhide HT2 V).mono (by rintro e V1 ⟨rfl, hb⟩; exact ⟨_, rfl, fun _ => rfl, hb⟩)⟩)
        · exact st_val rfl (fun l a V hp ha => ⟨.bool r, by
              have x43 := (ev_form a 43).trans (show a.eval (.tmp 43) = .bool true from kn hp ha 43 5 (by kernel_rfl) (by kernel_rfl))
              have x48 := (ev_form a 48).trans (show a.eval (.tmp 48) = .bool r from (kn hp ha 48 10 (by kernel_rfl) (by kernel_rfl)) rfl)
              go_simp, rfl⟩)
        · exact st_val rfl (fun l a V hp ha => ⟨.bool r, by
            have x49 := (ev_form a 49).trans (show a.eval (.tmp 49) = .bool r from kn hp ha 49 11 (by kernel_rfl) (by kernel_rfl))
            go_simp, rfl⟩)
      case hf =>
        intro l a W1 hp hall
        have B1 : Hid (Below W0.heap.size W0 W1) := hide hp.j
        have hv4 := hp.good 12 _ 4 rfl rfl (hall 12 (by decide))
        obtain ⟨us1, rfl, hus⟩ := putAll_of [38, 39, 40, 41, 42, 43, 44, 45, 46, 47, 48, 49, 4] hp.nt hp.df (fun t ht => hp.keep t (dstIn (by kernel_rfl) ht))
        have hw4 : us1 4 = .bool r := by rw [hus 4]; exact hv4
        clear hp hall hus hv4
        simp only [putAll, List.foldl, Act.put, List.setIfInBounds_toArray, List.set_cons_zero, List.set_cons_succ, hw4]
        go_wp2_with fail
        exact bodyPost_ret (v := .bool r) (by simp [results, Tryz.results91, go_sem]) rfl ⟨by rw [unhide HV]; rfl, btr (unhide HB0) (unhide B1)⟩
end Go.Proofs.YtlldfaniddbjaaaGreatDoor
namespace Go.Proofs.YtlldfaniddbjaaaGreatDoor
open Go Go.RowKit Gs
set_option linter.unusedVariables false
set_option linter.unusedSimpArgs false
set_option maxRecDepth 100000
theorem run_eq3 (w : World) (a b c x y z : Int) : (Op.equalIn 10000 129 (.agg #[.int .i64 a, .int .i64 b, .int .i64 c]) (.agg #[.int .i64 x, .int .i64 y, .int .i64 z])).run Tryz.prog w = .ok (decide (a = x) && (decide (b = y) && decide (c = z))) w := by
  obtain ⟨i0, hi, _⟩ := info_parts info3
  rw [run_equalIn_array w 9999 (e := 3) (n := 3) (i := i0) _ _ (by kernel_rfl) hi]
  have hc : Tryz.prog.cellsOf 3 = 1 := by kernel_rfl
  rw [hc, show List.range 3 = [0, 1, 2] from rfl]
  have h := fun (p q : Int) (V : World) => run_equalIn_int (P := Tryz.prog) (w := V) 9998 3 .i64 .i64 p q Tryz.underlying3
  simp only [Op.eqItems, part, Sem.run_bind]
  simp [h, go_sem, Result.andThen]
  by_cases g1 : a = x <;> by_cases g2 : b = y <;> by_cases g3 : c = z <;> simp [g1, g2, g3]
end Go.Proofs.YtlldfaniddbjaaaGreatDoor
