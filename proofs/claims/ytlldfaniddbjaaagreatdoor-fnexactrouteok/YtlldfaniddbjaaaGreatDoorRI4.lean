/- The program's hopFits. -/
import Derived.Test.YtlldfaniddbjaaaGreatDoorGRI4a
import Derived.Test.YtlldfaniddbjaaaGreatDoorGRS15
namespace Go.Proofs.YtlldfaniddbjaaaGreatDoor
open Go Go.RowKit Gs
set_option linter.unusedVariables false
set_option linter.unusedSimpArgs false
set_option maxRecDepth 100000
set_option maxHeartbeats 16000000
theorem three_eq {α : Type} {p q r : Prop} [Decidable p] [Decidable q] [Decidable r] {b : Bool} {f : Bool → α} (h : (decide p && (decide q && decide r)) = b) : (if p then if q then if r then f true else f false else f false else f false) = f b := by
  subst h
  by_cases g1 : p <;> by_cases g2 : q <;> by_cases g3 : r <;> simp [g1, g2, g3]
/-- Whether a wire of a net is right, but for those that are taken. -/
def fitB (W H T : Nat) (own : Int × Int) (net : List Hop) (i : Nat) (h : Hop) : Bool := thH W H T h && (decide (-1 ≤ h.f) && (decide (h.f < (i : Int)) && fromB own net h))
def FHF5 (g sb so lS cS s : Nat) (x y d t f o1 o2 : Int) (q : Bool) : Nat → Value → Prop
  | 0, v => v = .agg #[.int .i64 x, .int .i64 y, .int .i64 d, .int .i64 t, .int .i64 f]
  | 1, v => v = .agg #[.int .i64 x, .int .i64 y, .int .i64 t]
  | 2, v => v = .agg #[.int .i64 x, .int .i64 y]
  | 3, v => v = .pointer (some ⟨g, 9, none⟩)
  | 4, v => v = .slice (some ⟨sb, so, none⟩) lS cS
  | 5, v => v = .int .i64 (s : Int)
  | 6, v => v = .pointer (some ⟨sb, so + s * 2, none⟩)
  | 7, v => v = .agg #[.int .i64 o1, .int .i64 o2]
  | 8, v => v = .bool q
  | 9, v => v = .bool q
  | _, _ => True
def FHF60 (g k n nc nb no : Nat) (x y d t f : Int) : Nat → Value → Prop
  | 0, v => v = .pointer (some ⟨g + 1, 4, none⟩)
  | 1, v => v = .int .i64 f
  | 2, v => v = .int .i64 (k : Int)
  | 3, v => v = .bool false
  | 4, v => v = .bool false
  | 5, v => false = true → v = undef
  | 6, v => false = true → v = undef
  | 7, v => false = true → v = undef
  | 8, v => false = true → v = undef
  | 9, v => false = true → v = undef
  | 10, v => false = true → v = undef
  | 11, v => false = true → v = undef
  | 12, v => false = true → v = undef
  | 13, v => false = true → v = undef
  | 14, v => v = .bool false
  | 15, v => v = .bool false
  | _, _ => True
def FHF61 (g k n nc nb no j : Nat) (x y d t ex ey : Int) (a : Hop) (q : Bool) : Nat → Value → Prop
  | 0, v => v = .pointer (some ⟨g + 1, 4, none⟩)
  | 1, v => v = .int .i64 (j : Int)
  | 2, v => v = .int .i64 (k : Int)
  | 3, v => v = .bool true
  | 4, v => v = .bool true
  | 5, v => true = true → v = .slice (some ⟨nb, no, none⟩) n nc
  | 6, v => true = true → v = .pointer (some ⟨g + 1, 4, none⟩)
  | 7, v => true = true → v = .int .i64 (j : Int)
  | 8, v => true = true → v = .pointer (some ⟨nb, no + j * 5, none⟩)
  | 9, v => true = true → v = .agg #[.int .i64 a.x, .int .i64 a.y, .int .i64 a.d, .int .i64 a.t, .int .i64 a.f]
  | 10, v => true = true → v = .agg #[.int .i64 ex, .int .i64 ey, .int .i64 a.t]
  | 11, v => true = true → v = .agg #[.int .i64 x, .int .i64 y, .int .i64 d, .int .i64 t, .int .i64 (j : Int)]
  | 12, v => true = true → v = .agg #[.int .i64 x, .int .i64 y, .int .i64 t]
  | 13, v => true = true → v = .bool q
  | 14, v => v = .bool q
  | 15, v => v = .bool q
  | _, _ => True

theorem iHopFits (s0 s1 s2 s3 s4 sS sL : Option Addr) (l0 l1 l2 l3 l4 lS lL c0 c1 c2 c3 c4 cS cL : Nat) (W H T P s k n nc : Nat) (nv : Option Addr) (st : List (Int × Int)) (o1 o2 : Int) (net : List Hop) (h : Hop) (w : World) (hW : W ≤ 8) (hH : H ≤ 8) (hn : net.length = n) (hn2 : n ≤ 1048576) (hk : net[k]? = some h) (hlS : st.length = lS) (hlS2 : lS ≤ 1048576) (hs : st[s]? = some (o1, o2)) (hg : Gc w) (hst : RS 2 RSpot w 0 st (.slice sS lS cS)) (hnet : RS 5 RHop w 0 net (.slice nv n nc)) (hth : ∀ (j : Nat) a, j < k → net[j]? = some a → thH W H T a = true) :
    Calls Tryz.prog 61 #[.agg #[.slice s0 l0 c0, .slice s1 l1 c1, .slice s2 l2 c2, .slice s3 l3 c3, .slice s4 l4 c4, .int .i64 (W : Int), .int .i64 (H : Int), .int .i64 (T : Int), .int .i64 (P : Int), .slice sS lS cS, .slice sL lL cL], .int .i64 (s : Int), .slice nv n nc, .int .i64 (k : Int)] w fun e w' => e = .returned (.bool (fitB W H T (o1, o2) net k h)) ∧ Below w.heap.size w w' := by
  have hkn : k < n := by rw [← hn]; exact (List.getElem?_eq_some_iff.1 hk).1
  have hsl : s < lS := by rw [← hlS]; exact (List.getElem?_eq_some_iff.1 hs).1
  obtain ⟨nb, no, hnv, hc0, hc1, hc2, hc3, hc4⟩ := hops_at hnet k h hk
  obtain ⟨sb, so, hsv, hd0, hd1⟩ := spot_cells hst s _ hs
  obtain ⟨x, y, d, t, f⟩ := h
  have HNA := hide (hops_at hnet)
  have HTH := hide hth
  have HGG := hide hg
  have HKK := hide hk
  subst hnv
  subst hsv
  have i1 : (0 : Int) ≤ (k : Int) := by omega
  have i2 : (k : Int) < (n : Int) := by omega
  have i3 : (0 : Int) ≤ (s : Int) := by omega
  have i4 : (s : Int) < (lS : Int) := by omega
  obtain ⟨V0, hV0⟩ : ∃ V0, V0 = w.alloc (.cells #[.slice s0 l0 c0, .slice s1 l1 c1, .slice s2 l2 c2, .slice s3 l3 c3, .slice s4 l4 c4, .int .i64 (W : Int), .int .i64 (H : Int), .int .i64 (T : Int), .int .i64 (P : Int), .slice (some ⟨sb, so, none⟩) lS cS, .slice sL lL cL] 81) := ⟨_, rfl⟩
  obtain ⟨W0, hW0⟩ : ∃ W0, W0 = V0.alloc (.cells #[.int .i64 x, .int .i64 y, .int .i64 d, .int .i64 t, .int .i64 f] 61) := ⟨_, rfl⟩
  have hv : Below w.heap.size w V0 := by rw [hV0]; exact bal (brf w) _
  have HB0 := hide (show Below w.heap.size w W0 by rw [hW0]; exact bal hv _)
  have hsV : V0.heap.size = w.heap.size + 1 := by rw [hV0]; simp
  have HCC : Hid (∀ V, Below W0.heap.size W0 V → V.cell? ⟨w.heap.size, 5, none⟩ = some (.int .i64 (W : Int)) ∧ V.cell? ⟨w.heap.size, 6, none⟩ = some (.int .i64 (H : Int)) ∧ V.cell? ⟨w.heap.size, 7, none⟩ = some (.int .i64 (T : Int)) ∧ V.cell? ⟨w.heap.size, 8, none⟩ = some (.int .i64 (P : Int)) ∧ V.cell? ⟨w.heap.size, 9, none⟩ = some (.slice (some ⟨sb, so, none⟩) lS cS)) := hide (fun V hV => by
    rw [hW0, hV0] at hV
    have K := fun (i : Nat) z hz => (new_cell (i := i) (x := z) (btr (bal (brf _) _) hV) hz).1
    exact ⟨K 5 _ rfl, K 6 _ rfl, K 7 _ rfl, K 8 _ rfl, K 9 _ rfl⟩)
  have HSC : Hid (∀ V, Below W0.heap.size W0 V → V.cell? ⟨w.heap.size, 9, none⟩ = some (.slice (some ⟨sb, so, none⟩) lS cS)) := hide (fun V hV => (unhide HCC V hV).2.2.2.2)
  have HH : Hid (∀ V, Below W0.heap.size W0 V → V.cell? ⟨w.heap.size + 1, 0, none⟩ = some (.int .i64 x) ∧ V.cell? ⟨w.heap.size + 1, 1, none⟩ = some (.int .i64 y) ∧ V.cell? ⟨w.heap.size + 1, 2, none⟩ = some (.int .i64 d) ∧ V.cell? ⟨w.heap.size + 1, 3, none⟩ = some (.int .i64 t) ∧ V.cell? ⟨w.heap.size + 1, 4, none⟩ = some (.int .i64 f)) := hide (fun V hV => by
    rw [hW0] at hV
    have K := fun (i : Nat) z hz => (new_cell (i := i) (x := z) hV hz).1
    simp only [hsV] at K
    exact ⟨K 0 _ rfl, K 1 _ rfl, K 2 _ rfl, K 3 _ rfl, K 4 _ rfl⟩)
  have HSO : Hid (∀ V, Below W0.heap.size W0 V → V.cell? ⟨sb, so + s * 2, none⟩ = some (.int .i64 o1) ∧ V.cell? ⟨sb, so + s * 2 + 1, none⟩ = some (.int .i64 o2)) := hide (fun V hV => ⟨cell_later (btr (unhide HB0) hV) hd0, cell_later (btr (unhide HB0) hV) hd1⟩)
  obtain ⟨k0, k1, k2, k3, k4⟩ : V0.cell? ⟨nb, no + k * 5, none⟩ = some (.int .i64 x) ∧ V0.cell? ⟨nb, no + k * 5 + 1, none⟩ = some (.int .i64 y) ∧ V0.cell? ⟨nb, no + k * 5 + 2, none⟩ = some (.int .i64 d) ∧ V0.cell? ⟨nb, no + k * 5 + 3, none⟩ = some (.int .i64 t) ∧ V0.cell? ⟨nb, no + k * 5 + 4, none⟩ = some (.int .i64 f) := ⟨cell_later hv hc0, cell_later hv hc1, cell_later hv hc2, cell_later hv hc3, cell_later hv hc4⟩
  obtain ⟨th, hth2⟩ : ∃ b, thereB W H T x y d t = b := ⟨_, rfl⟩
  have HIW := hide (fun V hV => iHasWire W H T P x y d t f V hW hH ((unhide HGG).later (btr (unhide HB0) hV)))
  rw [hth2] at HIW
  have HTT := hide hth2
  have HFB : Hid (fitB W H T (o1, o2) net k ⟨x, y, d, t, f⟩ = (th && (decide (-1 ≤ f) && (decide (f < (k : Int)) && fromB (o1, o2) net ⟨x, y, d, t, f⟩)))) := hide (by unfold fitB thH; rw [hth2])
  obtain ⟨FB, hFB⟩ : ∃ b, fitB W H T (o1, o2) net k ⟨x, y, d, t, f⟩ = b := ⟨_, rfl⟩
  rw [hFB] at HFB ⊢
  have HV0 := hide hV0
  have HW0 := hide hW0
  clear hth hg hc0 hc1 hc2 hc3 hc4 hd0 hd1 hst hnet hk hs hth2 hFB hV0 hW0 hv hsV
  go_enter Tryz.func61, Tryz.ntmps61
  rw [unhide HV0] at k0 k1 k2 k3 k4
  go_wp2_with fail
  rw [← unhide HV0, ← unhide HW0]
  clear k0 k1 k2 k3 k4
  obtain ⟨q0, q1, q2, q3, q4⟩ := unhide HCC W0 (brf _)
  obtain ⟨k0, k1, k2, k3, k4⟩ := unhide HH W0 (brf _)
  go_wp2_with fail
  refine (unhide HIW W0 (brf _)).mono ?_
  rintro e W2 ⟨rfl, hb2⟩
  have HB2 := hide hb2
  have HBW2 := hide (btr (unhide HB0) hb2)
  have HCC2 : Hid (∀ V, Below W2.heap.size W2 V → V.cell? ⟨w.heap.size, 9, none⟩ = some (.slice (some ⟨sb, so, none⟩) lS cS)) := hide (fun V hV => unhide HSC V (btr (unhide HB2) hV))
  clear q0 q1 q2 q3 q4 k0 k1 k2 k3 k4 hb2
  cases th
  · have HV : Hid (FB = false) := hide (by rw [unhide HFB]; rfl)
    go_wp2_with fail
    exact bodyPost_ret (v := .bool false) (by simp [results, Tryz.results61, go_sem]) rfl ⟨by rw [unhide HV], unhide HBW2⟩
  obtain ⟨k0, k1, k2, k3, k4⟩ := unhide HH W2 (unhide HB2)
  have HH2 := hide (fun V hV => unhide HH V (btr (unhide HB2) hV))
  have HSO2 := hide (fun V hV => unhide HSO V (btr (unhide HB2) hV))
  have HSC2 := hide (fun V hV => unhide HSC V (btr (unhide HB2) hV))
  obtain ⟨hpy, hpt, hpx, hpd, _⟩ := there_parts (unhide HTT)
  by_cases hf : f = -1
  · obtain ⟨q, hq⟩ : ∃ q, (decide (x = o1) && decide (y = o2)) = q := ⟨_, rfl⟩
    have HQ := hide hq
    have HV : Hid (FB = q) := hide (by
      rw [unhide HFB, decide_eq_true (p := -1 ≤ f) (by omega), decide_eq_true (p := f < (k : Int)) (by omega)]
      unfold fromB
      rw [if_pos (by show f < 0; omega)]
      simpa using hq)
    clear hq HFB hpy hpt hpx hpd
    go_wp2_with fail
    refine wp_plan (GF (FHF5 w.heap.size sb so lS cS s x y d t f o1 o2 q)) (JB W2) (by kernel_rfl) 47 (by kernel_rfl) (by kernel_rfl) ?hj ?hs ?hf
    case hj => exact bdr (brf W2)
    case hs =>
      refine ⟨?_, ?_, ?_, ?_, ?_, ?_, ?_, ?_, ?_, ?_, trivial⟩
      · exact st_val rfl (fun l a V hp ha => ⟨.agg #[.int .i64 x, .int .i64 y, .int .i64 d, .int .i64 t, .int .i64 f], by
          have x9 := (ev_form a 9).trans (old hp 9 (v := .pointer (some ⟨w.heap.size + 1, 0, none⟩)) (by kernel_rfl) (by kernel_rfl))
          obtain ⟨k0, k1, k2, k3, k4⟩ := unhide HH2 V hp.j
          go_simp, rfl⟩)
      · exact st_call (f := 92) rfl (fun l a V hp ha => ⟨#[.agg #[.int .i64 x, .int .i64 y, .int .i64 d, .int .i64 t, .int .i64 f]], by
          have x23 := (ev_form a 23).trans (show a.eval (.tmp 23) = .agg #[.int .i64 x, .int .i64 y, .int .i64 d, .int .i64 t, .int .i64 f] from kn hp ha 23 0 (by kernel_rfl) (by kernel_rfl))
          go_simp, (iStart x y d t f V).mono (by rintro e V1 ⟨rfl, hb⟩; exact ⟨_, rfl, rfl, hb⟩)⟩)
      · exact st_call (f := 74) rfl (fun l a V hp ha => ⟨#[.agg #[.int .i64 x, .int .i64 y, .int .i64 t]], by
          have x24 := (ev_form a 24).trans (show a.eval (.tmp 24) = .agg #[.int .i64 x, .int .i64 y, .int .i64 t] from kn hp ha 24 1 (by kernel_rfl) (by kernel_rfl))
          go_simp, (iSpotJ x y t V).mono (by rintro e V1 ⟨rfl, hb⟩; exact ⟨_, rfl, rfl, hb⟩)⟩)
      · exact st_val rfl (fun l a V hp ha => ⟨.pointer (some ⟨w.heap.size, 9, none⟩), by
          have x4 := (ev_form a 4).trans (old hp 4 (v := .pointer (some ⟨w.heap.size, 0, none⟩)) (by kernel_rfl) (by kernel_rfl))
          go_simp, rfl⟩)
      · exact st_val rfl (fun l a V hp ha => ⟨.slice (some ⟨sb, so, none⟩) lS cS, by
          have x26 := (ev_form a 26).trans (show a.eval (.tmp 26) = .pointer (some ⟨w.heap.size, 9, none⟩) from kn hp ha 26 3 (by kernel_rfl) (by kernel_rfl))
          have k0 := unhide HSC2 V hp.j
          go_simp, rfl⟩)
      · exact st_val rfl (fun l a V hp ha => ⟨.int .i64 (s : Int), by
          have x1 := (ev_form a 1).trans (old hp 1 (v := .int .i64 (s : Int)) (by kernel_rfl) (by kernel_rfl))
          go_simp, rfl⟩)
      · exact st_val rfl (fun l a V hp ha => ⟨.pointer (some ⟨sb, so + s * 2, none⟩), by
          have x27 := (ev_form a 27).trans (show a.eval (.tmp 27) = .slice (some ⟨sb, so, none⟩) lS cS from kn hp ha 27 4 (by kernel_rfl) (by kernel_rfl))
          have x28 := (ev_form a 28).trans (show a.eval (.tmp 28) = .int .i64 (s : Int) from kn hp ha 28 5 (by kernel_rfl) (by kernel_rfl))
          go_simp, rfl⟩)
      · exact st_val rfl (fun l a V hp ha => ⟨.agg #[.int .i64 o1, .int .i64 o2], by
          have x29 := (ev_form a 29).trans (show a.eval (.tmp 29) = .pointer (some ⟨sb, so + s * 2, none⟩) from kn hp ha 29 6 (by kernel_rfl) (by kernel_rfl))
          obtain ⟨k0, k1⟩ := unhide HSO2 V hp.j
          go_simp, rfl⟩)
      · exact st_val rfl (fun l a V hp ha => ⟨.bool q, by
            have x25 := (ev_form a 25).trans (show a.eval (.tmp 25) = .agg #[.int .i64 x, .int .i64 y] from kn hp ha 25 2 (by kernel_rfl) (by kernel_rfl))
            have x30 := (ev_form a 30).trans (show a.eval (.tmp 30) = .agg #[.int .i64 o1, .int .i64 o2] from kn hp ha 30 7 (by kernel_rfl) (by kernel_rfl))
            go_simp
            exact two_eq (f := fun z => Result.ok (Next.value (.bool z)) V) (unhide HQ), rfl⟩)
      · exact st_val rfl (fun l a V hp ha => ⟨.bool q, by
          have x31 := (ev_form a 31).trans (show a.eval (.tmp 31) = .bool q from kn hp ha 31 8 (by kernel_rfl) (by kernel_rfl))
          go_simp, rfl⟩)
    case hf =>
      intro l a W1 hp hall
      have B1 : Hid (Below W2.heap.size W2 W1) := hide hp.j
      have hv8 := hp.good 9 _ 8 rfl rfl (hall 9 (by decide))
      obtain ⟨us1, rfl, hus⟩ := putAll_of [23, 24, 25, 26, 27, 28, 29, 30, 31, 8] hp.nt hp.df (fun t ht => hp.keep t (dstIn (by kernel_rfl) ht))
      have hw8 : us1 8 = .bool q := by rw [hus 8]; exact hv8
      clear hp hall hus hv8
      simp only [putAll, List.foldl, Act.put, List.setIfInBounds_toArray, List.set_cons_zero, List.set_cons_succ, hw8]
      go_wp2_with fail
      exact bodyPost_ret (v := .bool q) (by simp [results, Tryz.results61, go_sem]) rfl ⟨by rw [unhide HV], btr (unhide HBW2) (unhide B1)⟩
  · obtain ⟨pl, hpl⟩ : ∃ b, plI f k = b := ⟨_, rfl⟩
    have HPL : Hid (∀ V, Calls Tryz.prog 56 #[.int .i64 f, .int .i64 (k : Int)] V fun e w' => e = .returned (.bool pl) ∧ Below V.heap.size V w') := hide (fun V => (iPlace f (k : Int) V).mono (fun e w' h => ⟨by rw [← hpl]; exact h.1, by rw [h.2]; exact brf _⟩))
    cases pl
    · have HV : Hid (FB = false) := hide (by
        rw [unhide HFB]
        have : ¬ (0 ≤ f ∧ f < (k : Int)) := fun h => by rw [plI_iff.2 h] at hpl; cases hpl
        by_cases h1 : -1 ≤ f
        · rw [decide_eq_false (p := f < (k : Int)) (by omega)]; simp
        · rw [decide_eq_false h1]; simp)
      clear hpl HFB hpy hpt hpx hpd
      go_wp2_with fail
      refine wp_plan (GF (FHF60 w.heap.size k n nc nb no x y d t f)) (JB W2) (by kernel_rfl) 47 (by kernel_rfl) (by kernel_rfl) ?hj ?hs ?hf
      case hj => exact bdr (brf W2)
      case hs =>
        refine ⟨?_, ?_, ?_, ?_, ?_, ?_, ?_, ?_, ?_, ?_, ?_, ?_, ?_, ?_, ?_, ?_, trivial⟩
        · exact st_val rfl (fun l a V hp ha => ⟨.pointer (some ⟨w.heap.size + 1, 4, none⟩), by
            have x9 := (ev_form a 9).trans (old hp 9 (v := .pointer (some ⟨w.heap.size + 1, 0, none⟩)) (by kernel_rfl) (by kernel_rfl))
            go_simp, rfl⟩)
        · exact st_val rfl (fun l a V hp ha => ⟨.int .i64 f, by
            have x32 := (ev_form a 32).trans (show a.eval (.tmp 32) = .pointer (some ⟨w.heap.size + 1, 4, none⟩) from kn hp ha 32 0 (by kernel_rfl) (by kernel_rfl))
            obtain ⟨k0, k1, k2, k3, k4⟩ := unhide HH2 V hp.j
            go_simp, rfl⟩)
        · exact st_val rfl (fun l a V hp ha => ⟨.int .i64 (k : Int), by
            have x3 := (ev_form a 3).trans (old hp 3 (v := .int .i64 (k : Int)) (by kernel_rfl) (by kernel_rfl))
            go_simp, rfl⟩)
        · exact st_call (f := 56) rfl (fun l a V hp ha => ⟨#[.int .i64 f, .int .i64 (k : Int)], by
            have x33 := (ev_form a 33).trans (show a.eval (.tmp 33) = .int .i64 f from kn hp ha 33 1 (by kernel_rfl) (by kernel_rfl))
            have x34 := (ev_form a 34).trans (show a.eval (.tmp 34) = .int .i64 (k : Int) from kn hp ha 34 2 (by kernel_rfl) (by kernel_rfl))
            go_simp, (unhide HPL V).mono (by rintro e V1 ⟨rfl, hb⟩; exact ⟨_, rfl, rfl, hb⟩)⟩)
        · exact st_val rfl (fun l a V hp ha => ⟨.bool false, by
            have x35 := (ev_form a 35).trans (show a.eval (.tmp 35) = .bool false from kn hp ha 35 3 (by kernel_rfl) (by kernel_rfl))
            go_simp, rfl⟩)
        · exact st_valg (c := false) rfl rfl (by simp) (by kernel_rfl) (fun v h => h) (fun hn hc => absurd hc hn) (fun l a V hp ha hc => absurd hc (by decide))
        · exact st_valg (c := false) rfl rfl (by simp) (by kernel_rfl) (fun v h => h) (fun hn hc => absurd hc hn) (fun l a V hp ha hc => absurd hc (by decide))
        · exact st_valg (c := false) rfl rfl (by simp) (by kernel_rfl) (fun v h => h) (fun hn hc => absurd hc hn) (fun l a V hp ha hc => absurd hc (by decide))
        · exact st_valg (c := false) rfl rfl (by simp) (by kernel_rfl) (fun v h => h) (fun hn hc => absurd hc hn) (fun l a V hp ha hc => absurd hc (by decide))
        · exact st_valg (c := false) rfl rfl (by simp) (by kernel_rfl) (fun v h => h) (fun hn hc => absurd hc hn) (fun l a V hp ha hc => absurd hc (by decide))
        · exact st_callg (f := 73) (c := false) rfl rfl (by simp) (by kernel_rfl) (fun v h => h) (fun hn hc => absurd hc hn) (fun l a V hp ha hc => absurd hc (by decide))
        · exact st_valg (c := false) rfl rfl (by simp) (by kernel_rfl) (fun v h => h) (fun hn hc => absurd hc hn) (fun l a V hp ha hc => absurd hc (by decide))
        · exact st_callg (f := 92) (c := false) rfl rfl (by simp) (by kernel_rfl) (fun v h => h) (fun hn hc => absurd hc hn) (fun l a V hp ha hc => absurd hc (by decide))
        · exact st_valg (c := false) rfl rfl (by simp) (by kernel_rfl) (fun v h => h) (fun hn hc => absurd hc hn) (fun l a V hp ha hc => absurd hc (by decide))
        · exact st_val rfl (fun l a V hp ha => ⟨.bool false, by
              have x36 := (ev_form a 36).trans (show a.eval (.tmp 36) = .bool false from kn hp ha 36 4 (by kernel_rfl) (by kernel_rfl))
              go_simp, rfl⟩)
        · exact st_val rfl (fun l a V hp ha => ⟨.bool false, by
            have x46 := (ev_form a 46).trans (show a.eval (.tmp 46) = .bool false from kn hp ha 46 14 (by kernel_rfl) (by kernel_rfl))
            go_simp, rfl⟩)
      case hf =>
        intro l a W1 hp hall
        have B1 : Hid (Below W2.heap.size W2 W1) := hide hp.j
        have hv8 := hp.good 15 _ 8 rfl rfl (hall 15 (by decide))
        obtain ⟨us1, rfl, hus⟩ := putAll_of [32, 33, 34, 35, 36, 37, 38, 39, 40, 41, 42, 43, 44, 45, 46, 8] hp.nt hp.df (fun t ht => hp.keep t (dstIn (by kernel_rfl) ht))
        have hw8 : us1 8 = .bool false := by rw [hus 8]; exact hv8
        clear hp hall hus hv8
        simp only [putAll, List.foldl, Act.put, List.setIfInBounds_toArray, List.set_cons_zero, List.set_cons_succ, hw8]
        go_wp2_with fail
        exact bodyPost_ret (v := .bool false) (by simp [results, Tryz.results61, go_sem]) rfl ⟨by rw [unhide HV], btr (unhide HBW2) (unhide B1)⟩
    · have hpl2 := plI_iff.1 hpl
      obtain ⟨j, rfl⟩ : ∃ j : Nat, f = (j : Int) := ⟨f.toNat, by omega⟩
      have hjk : j < k := by omega
      obtain ⟨a, ha⟩ : ∃ a, net[j]? = some a := ⟨_, List.getElem?_eq_getElem (by omega)⟩
      obtain ⟨b', o', hbo, m0, m1, m2, m3, m4⟩ := unhide HNA j a ha
      injection hbo with hbo
      injection hbo with e1 e2 e3
      subst e1 e2
      have hta := unhide HTH j a hjk ha
      obtain ⟨ay, at', ax, ad, _⟩ := there_parts (show thereB W H T a.x a.y a.d a.t = true from hta)
      obtain ⟨ex, hex⟩ : ∃ z, endX a.x a.d = z := ⟨_, rfl⟩
      obtain ⟨ey, hey⟩ : ∃ z, endY a.y a.d = z := ⟨_, rfl⟩
      obtain ⟨q, hq⟩ : ∃ q, (decide (ex = x) && (decide (ey = y) && decide (a.t = t))) = q := ⟨_, rfl⟩
      have HQ := hide hq
      have HV : Hid (FB = q) := hide (by
        rw [unhide HFB, decide_eq_true (p := -1 ≤ (j : Int)) (by omega), decide_eq_true (p := (j : Int) < (k : Int)) (by omega)]
        unfold fromB
        rw [if_neg (by show ¬ (j : Int) < 0; omega)]
        have e : ((⟨x, y, d, t, (j : Int)⟩ : Hop).f).toNat = j := by simp
        rw [e, ha]
        simp only [hex, hey]
        simpa using hq)
      have HA : Hid (∀ V, Below W2.heap.size W2 V → V.cell? ⟨nb, no + j * 5, none⟩ = some (.int .i64 a.x) ∧ V.cell? ⟨nb, no + j * 5 + 1, none⟩ = some (.int .i64 a.y) ∧ V.cell? ⟨nb, no + j * 5 + 2, none⟩ = some (.int .i64 a.d) ∧ V.cell? ⟨nb, no + j * 5 + 3, none⟩ = some (.int .i64 a.t) ∧ V.cell? ⟨nb, no + j * 5 + 4, none⟩ = some (.int .i64 a.f)) := hide (fun V hV => by
        have hb := btr (unhide HBW2) hV
        exact ⟨cell_later hb m0, cell_later hb m1, cell_later hb m2, cell_later hb m3, cell_later hb m4⟩)
      have HE : Hid (∀ V, Below W2.heap.size W2 V → Calls Tryz.prog 73 #[.agg #[.int .i64 a.x, .int .i64 a.y, .int .i64 a.d, .int .i64 a.t, .int .i64 a.f]] V fun e w' => e = .returned (.agg #[.int .i64 ex, .int .i64 ey, .int .i64 a.t]) ∧ Below V.heap.size V w') := hide (fun V hV => by
        have h := iEndJ a.x a.y a.d a.t a.f V (by omega) (by omega) (by omega) ((unhide HGG).later (btr (unhide HBW2) hV))
        rw [hex, hey] at h; exact h)
      have j1 : (0 : Int) ≤ (j : Int) := by omega
      have j2 : (j : Int) < (n : Int) := by omega
      clear hq HFB hpl hpl2 hpy hpt hpx hpd hta ay at' ax ad hex hey ha m0 m1 m2 m3 m4
      go_wp2_with fail
      refine wp_plan (GF (FHF61 w.heap.size k n nc nb no j x y d t ex ey a q)) (JB W2) (by kernel_rfl) 47 (by kernel_rfl) (by kernel_rfl) ?hj ?hs ?hf
      case hj => exact bdr (brf W2)
      case hs =>
        refine ⟨?_, ?_, ?_, ?_, ?_, ?_, ?_, ?_, ?_, ?_, ?_, ?_, ?_, ?_, ?_, ?_, trivial⟩
        · exact st_val rfl (fun l a' V hp ha => ⟨.pointer (some ⟨w.heap.size + 1, 4, none⟩), by
            have x9 := (ev_form a' 9).trans (old hp 9 (v := .pointer (some ⟨w.heap.size + 1, 0, none⟩)) (by kernel_rfl) (by kernel_rfl))
            go_simp, rfl⟩)
        · exact st_val rfl (fun l a' V hp ha => ⟨.int .i64 (j : Int), by
            have x32 := (ev_form a' 32).trans (show a'.eval (.tmp 32) = .pointer (some ⟨w.heap.size + 1, 4, none⟩) from kn hp ha 32 0 (by kernel_rfl) (by kernel_rfl))
            obtain ⟨k0, k1, k2, k3, k4⟩ := unhide HH2 V hp.j
            go_simp, rfl⟩)
        · exact st_val rfl (fun l a' V hp ha => ⟨.int .i64 (k : Int), by
            have x3 := (ev_form a' 3).trans (old hp 3 (v := .int .i64 (k : Int)) (by kernel_rfl) (by kernel_rfl))
            go_simp, rfl⟩)
        · exact st_call (f := 56) rfl (fun l a' V hp ha => ⟨#[.int .i64 (j : Int), .int .i64 (k : Int)], by
            have x33 := (ev_form a' 33).trans (show a'.eval (.tmp 33) = .int .i64 (j : Int) from kn hp ha 33 1 (by kernel_rfl) (by kernel_rfl))
            have x34 := (ev_form a' 34).trans (show a'.eval (.tmp 34) = .int .i64 (k : Int) from kn hp ha 34 2 (by kernel_rfl) (by kernel_rfl))
            go_simp, (unhide HPL V).mono (by rintro e V1 ⟨rfl, hb⟩; exact ⟨_, rfl, rfl, hb⟩)⟩)
        · exact st_val rfl (fun l a' V hp ha => ⟨.bool true, by
            have x35 := (ev_form a' 35).trans (show a'.eval (.tmp 35) = .bool true from kn hp ha 35 3 (by kernel_rfl) (by kernel_rfl))
            go_simp, rfl⟩)
        · exact st_valg (c := true) rfl rfl (by simp) (by kernel_rfl) (fun v h => h) (fun hn hc => absurd hc hn) (fun l a' V hp ha hc => ⟨.slice (some ⟨nb, no, none⟩) n nc, by
            have x2 := (ev_form a' 2).trans (old hp 2 (v := .slice (some ⟨nb, no, none⟩) n nc) (by kernel_rfl) (by kernel_rfl))
            go_simp, fun _ => rfl⟩)
        · exact st_valg (c := true) rfl rfl (by simp) (by kernel_rfl) (fun v h => h) (fun hn hc => absurd hc hn) (fun l a' V hp ha hc => ⟨.pointer (some ⟨w.heap.size + 1, 4, none⟩), by
            have x9 := (ev_form a' 9).trans (old hp 9 (v := .pointer (some ⟨w.heap.size + 1, 0, none⟩)) (by kernel_rfl) (by kernel_rfl))
            go_simp, fun _ => rfl⟩)
        · exact st_valg (c := true) rfl rfl (by simp) (by kernel_rfl) (fun v h => h) (fun hn hc => absurd hc hn) (fun l a' V hp ha hc => ⟨.int .i64 (j : Int), by
            have x38 := (ev_form a' 38).trans (show a'.eval (.tmp 38) = .pointer (some ⟨w.heap.size + 1, 4, none⟩) from (kn hp ha 38 6 (by kernel_rfl) (by kernel_rfl)) hc)
            obtain ⟨k0, k1, k2, k3, k4⟩ := unhide HH2 V hp.j
            go_simp, fun _ => rfl⟩)
        · exact st_valg (c := true) rfl rfl (by simp) (by kernel_rfl) (fun v h => h) (fun hn hc => absurd hc hn) (fun l a' V hp ha hc => ⟨.pointer (some ⟨nb, no + j * 5, none⟩), by
            have x37 := (ev_form a' 37).trans (show a'.eval (.tmp 37) = .slice (some ⟨nb, no, none⟩) n nc from (kn hp ha 37 5 (by kernel_rfl) (by kernel_rfl)) hc)
            have x39 := (ev_form a' 39).trans (show a'.eval (.tmp 39) = .int .i64 (j : Int) from (kn hp ha 39 7 (by kernel_rfl) (by kernel_rfl)) hc)
            go_simp, fun _ => rfl⟩)
        · exact st_valg (c := true) rfl rfl (by simp) (by kernel_rfl) (fun v h => h) (fun hn hc => absurd hc hn) (fun l a' V hp ha hc => ⟨.agg #[.int .i64 a.x, .int .i64 a.y, .int .i64 a.d, .int .i64 a.t, .int .i64 a.f], by
            have x40 := (ev_form a' 40).trans (show a'.eval (.tmp 40) = .pointer (some ⟨nb, no + j * 5, none⟩) from (kn hp ha 40 8 (by kernel_rfl) (by kernel_rfl)) hc)
            obtain ⟨m0, m1, m2, m3, m4⟩ := unhide HA V hp.j
            go_simp, fun _ => rfl⟩)
        · exact st_callg (f := 73) (c := true) rfl rfl (by simp) (by kernel_rfl) (fun v h => h) (fun hn hc => absurd hc hn) (fun l a' V hp ha hc => ⟨#[.agg #[.int .i64 a.x, .int .i64 a.y, .int .i64 a.d, .int .i64 a.t, .int .i64 a.f]], by
            have x41 := (ev_form a' 41).trans (show a'.eval (.tmp 41) = .agg #[.int .i64 a.x, .int .i64 a.y, .int .i64 a.d, .int .i64 a.t, .int .i64 a.f] from (kn hp ha 41 9 (by kernel_rfl) (by kernel_rfl)) hc)
            go_simp, (unhide HE V hp.j).mono (by rintro e V1 ⟨rfl, hb⟩; exact ⟨_, rfl, fun _ => rfl, hb⟩)⟩)
        · exact st_valg (c := true) rfl rfl (by simp) (by kernel_rfl) (fun v h => h) (fun hn hc => absurd hc hn) (fun l a' V hp ha hc => ⟨.agg #[.int .i64 x, .int .i64 y, .int .i64 d, .int .i64 t, .int .i64 (j : Int)], by
            have x9 := (ev_form a' 9).trans (old hp 9 (v := .pointer (some ⟨w.heap.size + 1, 0, none⟩)) (by kernel_rfl) (by kernel_rfl))
            obtain ⟨k0, k1, k2, k3, k4⟩ := unhide HH2 V hp.j
            go_simp, fun _ => rfl⟩)
        · exact st_callg (f := 92) (c := true) rfl rfl (by simp) (by kernel_rfl) (fun v h => h) (fun hn hc => absurd hc hn) (fun l a' V hp ha hc => ⟨#[.agg #[.int .i64 x, .int .i64 y, .int .i64 d, .int .i64 t, .int .i64 (j : Int)]], by
            have x43 := (ev_form a' 43).trans (show a'.eval (.tmp 43) = .agg #[.int .i64 x, .int .i64 y, .int .i64 d, .int .i64 t, .int .i64 (j : Int)] from (kn hp ha 43 11 (by kernel_rfl) (by kernel_rfl)) hc)
            go_simp, (iStart x y d t (j : Int) V).mono (by rintro e V1 ⟨rfl, hb⟩; exact ⟨_, rfl, fun _ => rfl, hb⟩)⟩)
        · exact st_valg (c := true) rfl rfl (by simp) (by kernel_rfl) (fun v h => h) (fun hn hc => absurd hc hn) (fun l a' V hp ha hc => ⟨.bool q, by
              have x42 := (ev_form a' 42).trans (show a'.eval (.tmp 42) = .agg #[.int .i64 ex, .int .i64 ey, .int .i64 a.t] from (kn hp ha 42 10 (by kernel_rfl) (by kernel_rfl)) hc)
              have x44 := (ev_form a' 44).trans (show a'.eval (.tmp 44) = .agg #[.int .i64 x, .int .i64 y, .int .i64 t] from (kn hp ha 44 12 (by kernel_rfl) (by kernel_rfl)) hc)
              go_simp
              rw [run_eq3, unhide HQ]; rfl, fun _ => rfl⟩)
        · exact st_val rfl (fun l a' V hp ha => ⟨.bool q, by
              have x36 := (ev_form a' 36).trans (show a'.eval (.tmp 36) = .bool true from kn hp ha 36 4 (by kernel_rfl) (by kernel_rfl))
              have x45 := (ev_form a' 45).trans (show a'.eval (.tmp 45) = .bool q from (kn hp ha 45 13 (by kernel_rfl) (by kernel_rfl)) rfl)
              go_simp, rfl⟩)
        · exact st_val rfl (fun l a' V hp ha => ⟨.bool q, by
            have x46 := (ev_form a' 46).trans (show a'.eval (.tmp 46) = .bool q from kn hp ha 46 14 (by kernel_rfl) (by kernel_rfl))
            go_simp, rfl⟩)
      case hf =>
        intro l a' W1 hp hall
        have B1 : Hid (Below W2.heap.size W2 W1) := hide hp.j
        have hv8 := hp.good 15 _ 8 rfl rfl (hall 15 (by decide))
        obtain ⟨us1, rfl, hus⟩ := putAll_of [32, 33, 34, 35, 36, 37, 38, 39, 40, 41, 42, 43, 44, 45, 46, 8] hp.nt hp.df (fun t ht => hp.keep t (dstIn (by kernel_rfl) ht))
        have hw8 : us1 8 = .bool q := by rw [hus 8]; exact hv8
        clear hp hall hus hv8
        simp only [putAll, List.foldl, Act.put, List.setIfInBounds_toArray, List.set_cons_zero, List.set_cons_succ, hw8]
        go_wp2_with fail
        exact bodyPost_ret (v := .bool q) (by simp [results, Tryz.results61, go_sem]) rfl ⟨by rw [unhide HV], btr (unhide HBW2) (unhide B1)⟩
end Go.Proofs.YtlldfaniddbjaaaGreatDoor
