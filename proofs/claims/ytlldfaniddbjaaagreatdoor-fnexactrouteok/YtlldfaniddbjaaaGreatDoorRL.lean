/- The law of RouteOK: both answer the same, and what was handed in reads as it did. -/
import Derived.Test.YtlldfaniddbjaaaGreatDoorRI22
import Derived.Test.YtlldfaniddbjaaaGreatDoorGRS8
import Derived.Test.YtlldfaniddbjaaaGreatDoorGHT
namespace Go.Proofs.YtlldfaniddbjaaaGreatDoor
open Go Go.RowKit Gs
set_option linter.unusedVariables false
set_option linter.unusedSimpArgs false
set_option maxRecDepth 100000
theorem iRouteOK (x : Packed) (u : List Value) (x0 x1 x2 x3 : Int) (ts : List Int) (nets : List (List Hop)) (tv nv : Value) (w : World) (hl : szPacked x ≤ 1048576) (hlt : ts.length ≤ 1048576) (hln : szL szHopS nets ≤ 1048576) (hr : RPacked w 0 x u) (ht : RS 1 RInt w 0 ts tv) (hns : RS 1 RHopS w 0 nets nv) (hg : Gc w) :
    Calls Tryz.prog 11 #[.agg u.toArray, .agg #[.int .i64 x0, .int .i64 x1, .int .i64 x2, .int .i64 x3], tv, nv] w fun e w' => e = .returned (.bool (routeB (placeB (packS x) x0 x1 x2 x3 x.ins.length x.blocks.length x.outs.length x.checks.length ts) x x0.toNat x1.toNat x2.toNat ts nets)) ∧ Below w.heap.size w w' := by
  rw [← pack_same]
  cases hp : placeB (packI x) x0 x1 x2 x3 x.ins.length x.blocks.length x.outs.length x.checks.length ts with
  | false => exact iRouteNo x u x0 x1 x2 x3 ts nets tv nv w hl hlt hln hr ht hns hp
  | true =>
    have hx := stOK_of hl hp
    have hpo := fun (V : World) (hV : Below w.heap.size w V) => (iPlaceOK x u x0 x1 x2 x3 ts tv V hl hlt (hr.later hV) (ht.later RInt.keeps hV))
    rw [hp] at hpo
    unfold placeB at hp
    simp only [Bool.and_eq_true] at hp
    have hc := chip_parts hp.2.1
    have hpk := hp.1
    clear hp
    obtain ⟨W, rfl⟩ : ∃ W : Nat, x0 = (W : Int) := ⟨x0.toNat, by omega⟩
    obtain ⟨H, rfl⟩ : ∃ H : Nat, x1 = (H : Int) := ⟨x1.toNat, by omega⟩
    obtain ⟨T, rfl⟩ : ∃ T : Nat, x2 = (T : Int) := ⟨x2.toNat, by omega⟩
    obtain ⟨P, rfl⟩ : ∃ P : Nat, x3 = (P : Int) := ⟨x3.toNat, by omega⟩
    simp only [Int.toNat_natCast] at hx ⊢
    refine (iRouteYes W H T P x u ts nets tv nv w hl hlt hln hr ht hns hg hx hpk hpo).mono ?_
    rintro e w' ⟨rfl, hb⟩
    exact ⟨by unfold routeB; rw [Bool.true_and], hb⟩
/-- What is known in the region that calls the specification. -/
def FQ1 (x : Packed) (xs : List Int) (ns : List (List Hop)) (e1 e2 e3 e4 : Value) (b : Bool) : Nat → World → Value → Prop
  | 0, W, v => v = e1
  | 1, W, v => ∃ u, v = .agg u ∧ RPacked W 0 x u.toList
  | 2, W, v => v = e2
  | 3, W, v => v = e2
  | 4, W, v => v = e3
  | 5, W, v => RS 1 RInt W 0 xs v
  | 6, W, v => v = e4
  | 7, W, v => RS 1 RHopS W 0 ns v
  | 8, W, v => v = .bool b
  | 9, W, v => v = .bool b
  | _, _, _ => True
theorem FQ1_lasts (x : Packed) (xs : List Int) (ns : List (List Hop)) (e1 e2 e3 e4 : Value) (b : Bool) : Lasts (FQ1 x xs ns e1 e2 e3 e4 b) := by
  intro k w w' v hb h
  match k, h with
  | 0, h => exact h
  | 1, h => obtain ⟨u, e, hr⟩ := h; exact ⟨u, e, hr.later hb⟩
  | 2, h => exact h
  | 3, h => exact h
  | 4, h => exact h
  | 5, h => exact RS.later RInt.keeps h hb
  | 6, h => exact h
  | 7, h => exact RS.later RHopS.keeps h hb
  | 8, h => exact h
  | 9, h => exact h
  | _ + 10, _ => trivial
/-- What is known in the region that calls the program. -/
def FQ2 (e1 e2 e3 e4 : Value) (b : Bool) : Nat → World → Value → Prop
  | 0, W, v => v = e1
  | 1, W, v => v = e2
  | 2, W, v => v = e2
  | 3, W, v => v = e3
  | 4, W, v => v = e4
  | 5, W, v => v = .bool b
  | 6, W, v => v = .bool b
  | _, _, _ => True
theorem FQ2_lasts (e1 e2 e3 e4 : Value) (b : Bool) : Lasts (FQ2 e1 e2 e3 e4 b) := by
  intro k w w' v hb h
  match k, h with
  | 0, h => exact h
  | 1, h => exact h
  | 2, h => exact h
  | 3, h => exact h
  | 4, h => exact h
  | 5, h => exact h
  | 6, h => exact h
  | _ + 7, _ => trivial
set_option maxHeartbeats 32000000 in
theorem lRouteOK (x : Packed) (u : List Value) (z0 z1 z2 z3 : Int) (xs : List Int) (v : Value) (ns : List (List Hop)) (nv : Value) (w : World) (hr : RPacked w 0 x u) (hx : RS 1 RInt w 0 xs v) (hn : RS 1 RHopS w 0 ns nv) (hg : Gc w) :
    Calls Tryz.prog 3 #[.agg u.toArray, .agg #[.int .i64 z0, .int .i64 z1, .int .i64 z2, .int .i64 z3], v, nv] w fun e w' => e = .returned (.bool true) ∧ Below w.heap.size w w' := by
  have SZ := hide (fun (W : World) (hb : Below w.heap.size w W) => szPacked_of x u W 1048576 (Nat.le_refl _) (hr.later hb))
  have SH := hide (fun (W : World) (left : Nat) (hl : left ≤ 1048576) (hb : Below w.heap.size w W) => szHopSS_of ns nv W left hl (hn.later RHopS.keeps hb))
  have TN := hide (fun (hl : szPacked x ≤ 1048576) (W : World) (hb : Below w.heap.size w W) => toPacked_of x u W hl (hr.later hb))
  have TI := hide (fun (hl : xs.length ≤ 1048576) (W : World) (hb : Below w.heap.size w W) => toIntS_of xs v W (by rw [szL_sm, sm_zero]; omega) (hx.later RInt.keeps hb))
  have TH := hide (fun (hl : szL szHopS ns ≤ 1048576) (W : World) (hb : Below w.heap.size w W) => toHopSS_of ns nv W hl (hn.later RHopS.keeps hb))
  have HG := hide hg
  obtain ⟨av, cv, rfl⟩ := hx.slice
  obtain ⟨bv, dv, rfl⟩ := hn.slice
  have hlm := hx.len
  unfold maxLen at hlm
  clear hx hn hg
  obtain ⟨L, hL⟩ : ∃ L, xs.length = L := ⟨_, rfl⟩
  have HLL := hide hL
  rw [hL] at TI hlm ⊢
  clear hL
  obtain ⟨K, hK⟩ : ∃ K, ns.length = K := ⟨_, rfl⟩
  have HKK := hide hK
  rw [hK] at SH TH ⊢
  clear hK
  obtain ⟨v0, v1, v2, v3, v4, rfl, h0, h1, h2, h3, h4⟩ := hr
  obtain ⟨a0, c0, e0⟩ := h0.slice
  obtain ⟨a1, c1, e1⟩ := h1.slice
  obtain ⟨a2, c2, e2⟩ := h2.slice
  obtain ⟨a3, c3, e3⟩ := h3.slice
  obtain ⟨a4, c4, e4⟩ := h4.slice
  subst e0 e1 e2 e3 e4
  clear h0 h1 h2 h3 h4
  show Calls Tryz.prog 3 #[.agg #[.slice a0 x.ins.length c0, .slice a1 x.clocks.length c1, .slice a2 x.blocks.length c2, .slice a3 x.outs.length c3, .slice a4 x.checks.length c4], .agg #[.int .i64 z0, .int .i64 z1, .int .i64 z2, .int .i64 z3], .slice av L cv, .slice bv K dv] w _
  change Hid (∀ (W : World), Below w.heap.size w W → Calls Tryz.prog 4 #[.agg #[.slice a0 x.ins.length c0, .slice a1 x.clocks.length c1, .slice a2 x.blocks.length c2, .slice a3 x.outs.length c3, .slice a4 x.checks.length c4], .int .i64 (1048576 : Int)] W _) at SZ
  change Hid (∀ (hl : szPacked x ≤ 1048576) (W : World), Below w.heap.size w W → Calls Tryz.prog 7 #[.agg #[.slice a0 x.ins.length c0, .slice a1 x.clocks.length c1, .slice a2 x.blocks.length c2, .slice a3 x.outs.length c3, .slice a4 x.checks.length c4]] W _) at TN
  by_cases hbig : (1048576 : Int) < (L : Int)
  · clear SZ TN TI SH TH
    go_enter Tryz.func3, Tryz.ntmps3
    go_wp2
    exact bodyPost_ret (v := .bool true) (by simp [results, Tryz.results3, go_sem]) rfl ⟨rfl, bal (bal (brf w) _) _⟩
  have hlL : L ≤ 1048576 := by omega
  obtain ⟨X1, hX1⟩ : ∃ X, X = (w.alloc (.cells #[.slice a0 x.ins.length c0, .slice a1 x.clocks.length c1, .slice a2 x.blocks.length c2, .slice a3 x.outs.length c3, .slice a4 x.checks.length c4] 26)).alloc (.cells #[.int .i64 z0, .int .i64 z1, .int .i64 z2, .int .i64 z3] 28) := ⟨_, rfl⟩
  have HB1 : Hid (Below w.heap.size w X1) := hide (by rw [hX1]; exact bal (bal (brf w) _) _)
  have HCP : Hid (∀ V, Below X1.heap.size X1 V → V.cell? ⟨w.heap.size, 0, none⟩ = some (.slice a0 x.ins.length c0) ∧ V.cell? ⟨w.heap.size, 1, none⟩ = some (.slice a1 x.clocks.length c1) ∧ V.cell? ⟨w.heap.size, 2, none⟩ = some (.slice a2 x.blocks.length c2) ∧ V.cell? ⟨w.heap.size, 3, none⟩ = some (.slice a3 x.outs.length c3) ∧ V.cell? ⟨w.heap.size, 4, none⟩ = some (.slice a4 x.checks.length c4)) := hide (fun V hb => by
    rw [hX1] at hb
    have hb' := btr (bal (brf (w.alloc (.cells #[.slice a0 x.ins.length c0, .slice a1 x.clocks.length c1, .slice a2 x.blocks.length c2, .slice a3 x.outs.length c3, .slice a4 x.checks.length c4] 26))) (.cells #[.int .i64 z0, .int .i64 z1, .int .i64 z2, .int .i64 z3] 28)) hb
    exact ⟨cell_later hb' (by rw [World.cell?_alloc_new]; rfl), cell_later hb' (by rw [World.cell?_alloc_new]; rfl), cell_later hb' (by rw [World.cell?_alloc_new]; rfl), cell_later hb' (by rw [World.cell?_alloc_new]; rfl), cell_later hb' (by rw [World.cell?_alloc_new]; rfl)⟩)
  have HCC : Hid (∀ V, Below X1.heap.size X1 V → V.cell? ⟨w.heap.size + 1, 0, none⟩ = some (.int .i64 z0) ∧ V.cell? ⟨w.heap.size + 1, 1, none⟩ = some (.int .i64 z1) ∧ V.cell? ⟨w.heap.size + 1, 2, none⟩ = some (.int .i64 z2) ∧ V.cell? ⟨w.heap.size + 1, 3, none⟩ = some (.int .i64 z3)) := hide (fun V hb => by
    rw [hX1] at hb
    have hz : (w.alloc (.cells #[.slice a0 x.ins.length c0, .slice a1 x.clocks.length c1, .slice a2 x.blocks.length c2, .slice a3 x.outs.length c3, .slice a4 x.checks.length c4] 26)).heap.size = w.heap.size + 1 := by simp
    refine ⟨?_, ?_, ?_, ?_⟩ <;> exact cell_later hb (by rw [← hz, World.cell?_alloc_new]; rfl))
  have HX1 := hide hX1
  clear hX1
  by_cases hs : szPacked x ≤ 1048576
  · have hsz := szR_le hs
    obtain ⟨LF, hLF⟩ : ∃ LF : Nat, 1048576 - szPacked x = LF := ⟨_, rfl⟩
    have hLF2 : LF ≤ 1048576 := by omega
    rw [hLF] at hsz
    have hng : ¬ ((LF : Int) < 0) := by omega
    rw [hsz] at SZ
    clear hsz hLF
    by_cases hh : szL szHopS ns ≤ LF
    · have hsz := szR_le hh
      obtain ⟨LG, hLG⟩ : ∃ LG : Nat, LF - szL szHopS ns = LG := ⟨_, rfl⟩
      rw [hLG] at hsz
      have hng2 : ¬ ((LG : Int) < 0) := by omega
      have hhm : szL szHopS ns ≤ 1048576 := by omega
      have SH' := hide (fun W hb => unhide SH W LF hLF2 hb)
      rw [hsz] at SH'
      clear hsz hLG SH
      have TN' := hide (fun W hb => unhide TN hs W hb)
      have TI' : Hid (∀ W, Below w.heap.size w W → Calls Tryz.prog 9 #[.slice av L cv] W fun e w' => (∃ v', e = .returned v' ∧ RS 1 RInt w' 0 xs v') ∧ Below W.heap.size W w') := hide (fun W hb => (unhide TI hlL W hb).mono (by
        rintro e V ⟨⟨v', rfl, h⟩, hb, _⟩
        exact ⟨⟨v', rfl, h.low RInt.lowers (Nat.zero_le _)⟩, hb⟩))
      have TH' : Hid (∀ W, Below w.heap.size w W → Calls Tryz.prog 10 #[.slice bv K dv] W fun e w' => (∃ v', e = .returned v' ∧ RS 1 RHopS w' 0 ns v') ∧ Below W.heap.size W w') := hide (fun W hb => (unhide TH hhm W hb).mono (by
        rintro e V ⟨⟨v', rfl, h⟩, hb, _⟩
        exact ⟨⟨v', rfl, h.low RHopS.lowers (Nat.zero_le _)⟩, hb⟩))
      have IP := hide (fun (W : World) (u' : Array Value) (t' n' : Value) (hG : Gc W) (h : RPacked W 0 x u'.toList) (ht : RS 1 RInt W 0 xs t') (hn : RS 1 RHopS W 0 ns n') => (show Calls Tryz.prog 11 #[.agg u', .agg #[.int .i64 z0, .int .i64 z1, .int .i64 z2, .int .i64 z3], t', n'] W _ from iRouteOK x u'.toList z0 z1 z2 z3 xs ns t' n' W hs (by have := unhide HLL; omega) hhm h ht hn hG))
      have SP := hide (fun (W : World) (u' : Array Value) (t' n' : Value) (h : RPacked W 0 x u'.toList) (ht : RS 1 RInt W 0 xs t') (hn : RS 1 RHopS W 0 ns n') => (show Calls Tryz.prog 6 #[.agg u', .agg #[.int .i64 z0, .int .i64 z1, .int .i64 z2, .int .i64 z3], t', n'] W _ from sRouteOK x u'.toList z0 z1 z2 z3 xs ns t' n' W hs (by have := unhide HLL; omega) hhm h ht hn))
      have CHP := hide (fun W => toChip_of z0 z1 z2 z3 W)
      have EQ := hide (fun W (u3 u4 : Array Value) (h : RPacked W 0 x u3.toList) (h3 : RPacked W 0 x u4.toList) => (show Calls Tryz.prog 12 #[.agg u3, .agg u4] W _ from eqPacked_of x u3.toList u4.toList W h h3))
      have EI := hide (fun W (t1 t2 : Value) (h : RS 1 RInt W 0 xs t1) (h3 : RS 1 RInt W 0 xs t2) => eqIntS_of xs t1 t2 W h h3)
      have EH := hide (fun W (t1 t2 : Value) (h : RS 1 RHopS W 0 ns t1) (h3 : RS 1 RHopS W 0 ns t2) => eqHopSS_of ns t1 t2 W h h3)
      clear TN TI TH
      generalize routeB (placeB (packS x) z0 z1 z2 z3 x.ins.length x.blocks.length x.outs.length x.checks.length xs) x z0.toNat z1.toNat z2.toNat xs ns = SB at *
      have hne : (SB != SB) = false := by simp
      clear hs hh hhm
      go_enter Tryz.func3, Tryz.ntmps3
      go_wp2_with fail
      rw [← unhide HX1]
      obtain ⟨q0, q1, q2, q3, q4⟩ := unhide HCP X1 (brf _)
      go_wp2_with fail
      refine (unhide SZ _ (unhide HB1)).mono ?_
      rintro e W1 ⟨rfl, hb⟩
      have B1 : Hid (Below X1.heap.size X1 W1) := hide hb
      clear hb q0 q1 q2 q3 q4
      go_wp2_with fail
      refine (unhide SH' _ (btr (unhide HB1) (unhide B1))).mono ?_
      rintro e W1b ⟨rfl, hb⟩
      have B1b : Hid (Below X1.heap.size X1 W1b) := hide (btr (unhide B1) hb)
      clear hb B1 SH'
      go_wp2_with fail
      clear hng hng2 hbig
      have LS1 := FQ1_lasts x xs ns (.agg #[.slice a0 x.ins.length c0, .slice a1 x.clocks.length c1, .slice a2 x.blocks.length c2, .slice a3 x.outs.length c3, .slice a4 x.checks.length c4]) (.agg #[.int .i64 z0, .int .i64 z1, .int .i64 z2, .int .i64 z3]) (.slice av L cv) (.slice bv K dv) SB
      refine wp_plan (GW (FQ1 x xs ns (.agg #[.slice a0 x.ins.length c0, .slice a1 x.clocks.length c1, .slice a2 x.blocks.length c2, .slice a3 x.outs.length c3, .slice a4 x.checks.length c4]) (.agg #[.int .i64 z0, .int .i64 z1, .int .i64 z2, .int .i64 z3]) (.slice av L cv) (.slice bv K dv) SB)) (JB W1b) (by kernel_rfl) 67 (by kernel_rfl) (by kernel_rfl) ?hj ?hs ?hf
      case hj => exact bdr (brf W1b)
      case hs =>
        refine ⟨?_, ?_, ?_, ?_, ?_, ?_, ?_, ?_, ?_, ?_, trivial⟩
        · exact sl_val rfl (fun l a V hp ha => ⟨.agg #[.slice a0 x.ins.length c0, .slice a1 x.clocks.length c1, .slice a2 x.blocks.length c2, .slice a3 x.outs.length c3, .slice a4 x.checks.length c4], by
            have x4 := (ev_form a 4).trans (old hp 4 (v := .pointer (some ⟨w.heap.size, 0, none⟩)) (by kernel_rfl) (by kernel_rfl))
            obtain ⟨p0, p1, p2, p3, p4⟩ := unhide HCP V (btr (unhide B1b) hp.j)
            go_simp, rfl⟩)
        · exact sl_call (f := 7) LS1 rfl (fun l a V hp ha => ⟨#[.agg #[.slice a0 x.ins.length c0, .slice a1 x.clocks.length c1, .slice a2 x.blocks.length c2, .slice a3 x.outs.length c3, .slice a4 x.checks.length c4]], by
            have x28 := (ev_form a 28).trans (show a.eval (.tmp 28) = .agg #[.slice a0 x.ins.length c0, .slice a1 x.clocks.length c1, .slice a2 x.blocks.length c2, .slice a3 x.outs.length c3, .slice a4 x.checks.length c4] from kn hp ha 28 0 (by kernel_rfl) (by kernel_rfl))
            go_simp, (unhide TN' V (btr (btr (unhide HB1) (unhide B1b)) hp.j)).mono (by rintro e V1 ⟨⟨u3, rfl, hr3⟩, hb, _⟩; exact ⟨_, rfl, ⟨u3.toArray, rfl, by simpa using hr3.any⟩, hb⟩)⟩)
        · exact sl_val rfl (fun l a V hp ha => ⟨.agg #[.int .i64 z0, .int .i64 z1, .int .i64 z2, .int .i64 z3], by
            have x5 := (ev_form a 5).trans (old hp 5 (v := .pointer (some ⟨w.heap.size + 1, 0, none⟩)) (by kernel_rfl) (by kernel_rfl))
            obtain ⟨p0, p1, p2, p3⟩ := unhide HCC V (btr (unhide B1b) hp.j)
            go_simp, rfl⟩)
        · exact sl_call (f := 8) LS1 rfl (fun l a V hp ha => ⟨#[.agg #[.int .i64 z0, .int .i64 z1, .int .i64 z2, .int .i64 z3]], by
            have x30 := (ev_form a 30).trans (show a.eval (.tmp 30) = .agg #[.int .i64 z0, .int .i64 z1, .int .i64 z2, .int .i64 z3] from kn hp ha 30 2 (by kernel_rfl) (by kernel_rfl))
            go_simp, (unhide CHP V).mono (by rintro e V1 ⟨rfl, hb⟩; exact ⟨_, rfl, rfl, hb⟩)⟩)
        · exact sl_val rfl (fun l a V hp ha => ⟨.slice av L cv, by
            have x2 := (ev_form a 2).trans (old hp 2 (v := .slice av L cv) (by kernel_rfl) (by kernel_rfl))
            go_simp, rfl⟩)
        · exact sl_call (f := 9) LS1 rfl (fun l a V hp ha => ⟨#[.slice av L cv], by
            have x32 := (ev_form a 32).trans (show a.eval (.tmp 32) = .slice av L cv from kn hp ha 32 4 (by kernel_rfl) (by kernel_rfl))
            go_simp, (unhide TI' V (btr (btr (unhide HB1) (unhide B1b)) hp.j)).mono (by rintro e V1 ⟨⟨t3, rfl, hr3⟩, hb⟩; exact ⟨_, rfl, hr3, hb⟩)⟩)
        · exact sl_val rfl (fun l a V hp ha => ⟨.slice bv K dv, by
            have x3 := (ev_form a 3).trans (old hp 3 (v := .slice bv K dv) (by kernel_rfl) (by kernel_rfl))
            go_simp, rfl⟩)
        · exact sl_call (f := 10) LS1 rfl (fun l a V hp ha => ⟨#[.slice bv K dv], by
            have x34 := (ev_form a 34).trans (show a.eval (.tmp 34) = .slice bv K dv from kn hp ha 34 6 (by kernel_rfl) (by kernel_rfl))
            go_simp, (unhide TH' V (btr (btr (unhide HB1) (unhide B1b)) hp.j)).mono (by rintro e V1 ⟨⟨t3, rfl, hr3⟩, hb⟩; exact ⟨_, rfl, hr3, hb⟩)⟩)
        · refine sl_call (f := 6) LS1 rfl (fun l a V hp ha => ?_)
          obtain ⟨u3, h21, hr3⟩ : ∃ u3, a.eval (.tmp 29) = .agg u3 ∧ RPacked V 0 x u3.toList := kn hp ha 29 1 (by kernel_rfl) (by kernel_rfl)
          have x29 := (ev_form a 29).trans h21
          have x31 := (ev_form a 31).trans (show a.eval (.tmp 31) = .agg #[.int .i64 z0, .int .i64 z1, .int .i64 z2, .int .i64 z3] from kn hp ha 31 3 (by kernel_rfl) (by kernel_rfl))
          have h25 : RS 1 RInt V 0 xs (a.eval (.tmp 33)) := kn hp ha 33 5 (by kernel_rfl) (by kernel_rfl)
          have h26 : RS 1 RHopS V 0 ns (a.eval (.tmp 35)) := kn hp ha 35 7 (by kernel_rfl) (by kernel_rfl)
          obtain ⟨at5, ct5, ht5⟩ := h25.slice
          rw [ht5] at h25
          have x33 := (ev_form a 33).trans ht5
          obtain ⟨at6, ct6, ht6⟩ := h26.slice
          rw [ht6] at h26
          have x35 := (ev_form a 35).trans ht6
          refine ⟨#[.agg u3, .agg #[.int .i64 z0, .int .i64 z1, .int .i64 z2, .int .i64 z3], .slice at5 xs.length ct5, .slice at6 ns.length ct6], by go_simp, (unhide SP V u3 _ _ hr3 h25 h26).mono ?_⟩
          rintro e V1 ⟨rfl, hb⟩
          exact ⟨_, rfl, rfl, hb⟩
        · exact sl_val rfl (fun l a V hp ha => ⟨.bool SB, by
            have x36 := (ev_form a 36).trans (show a.eval (.tmp 36) = .bool SB from kn hp ha 36 8 (by kernel_rfl) (by kernel_rfl))
            go_simp, rfl⟩)
      case hf =>
        intro l a W2 hp hall
        have hv := hp.good 9 _ 10 rfl rfl (hall 9 (by decide))
        have B2 : Hid (Below X1.heap.size X1 W2) := hide (btr (unhide B1b) hp.j)
        obtain ⟨us, rfl, hus⟩ := putAll_of [28, 29, 30, 31, 32, 33, 34, 35, 36, 10] hp.nt hp.df (fun t ht => hp.keep t (dstIn (by kernel_rfl) ht))
        have hv2 : us 10 = .bool SB := by rw [hus 10]; exact hv
        clear hp hall hv hus LS1 SP
        simp only [putAll, List.foldl, Act.put, List.setIfInBounds_toArray, List.set_cons_zero, List.set_cons_succ, hv2]
        obtain ⟨q0, q1, q2, q3, q4⟩ := unhide HCP W2 (unhide B2)
        go_wp2_with fail
        refine (unhide TN' _ (btr (unhide HB1) (unhide B2))).mono ?_
        rintro e W3 ⟨⟨u2, rfl, hr2⟩, hb3, _⟩
        have HR2 := hide hr2.any
        obtain ⟨y0, y1, y2, y3, y4, rfl, g0, g1, g2, g3, g4⟩ := hr2
        obtain ⟨d0, f0, e0⟩ := g0.slice
        obtain ⟨d1, f1, e1⟩ := g1.slice
        obtain ⟨d2, f2, e2⟩ := g2.slice
        obtain ⟨d3, f3, e3⟩ := g3.slice
        obtain ⟨d4, f4, e4⟩ := g4.slice
        subst e0 e1 e2 e3 e4
        have B3 : Hid (Below X1.heap.size X1 W3) := hide (btr (unhide B2) hb3)
        clear hb3 q0 q1 q2 q3 q4 g0 g1 g2 g3 g4
        obtain ⟨X4, hX4⟩ : ∃ X, X = W3.alloc (.cells #[.slice d0 x.ins.length f0, .slice d1 x.clocks.length f1, .slice d2 x.blocks.length f2, .slice d3 x.outs.length f3, .slice d4 x.checks.length f4] 37) := ⟨_, rfl⟩
        have B4 : Hid (Below X1.heap.size X1 X4) := hide (by rw [hX4]; exact bal (unhide B3) _)
        have HCX : Hid (∀ V, Below X4.heap.size X4 V → V.cell? ⟨W3.heap.size, 0, none⟩ = some (.slice d0 x.ins.length f0) ∧ V.cell? ⟨W3.heap.size, 1, none⟩ = some (.slice d1 x.clocks.length f1) ∧ V.cell? ⟨W3.heap.size, 2, none⟩ = some (.slice d2 x.blocks.length f2) ∧ V.cell? ⟨W3.heap.size, 3, none⟩ = some (.slice d3 x.outs.length f3) ∧ V.cell? ⟨W3.heap.size, 4, none⟩ = some (.slice d4 x.checks.length f4)) := hide (fun V hb => by
          rw [hX4] at hb
          exact ⟨cell_later hb (by rw [World.cell?_alloc_new]; rfl), cell_later hb (by rw [World.cell?_alloc_new]; rfl), cell_later hb (by rw [World.cell?_alloc_new]; rfl), cell_later hb (by rw [World.cell?_alloc_new]; rfl), cell_later hb (by rw [World.cell?_alloc_new]; rfl)⟩)
        have HR4 : Hid (RPacked X4 0 x [.slice d0 x.ins.length f0, .slice d1 x.clocks.length f1, .slice d2 x.blocks.length f2, .slice d3 x.outs.length f3, .slice d4 x.checks.length f4]) := hide (by rw [hX4]; exact (unhide HR2).later (bal (brf _) _))
        have HX4 := hide hX4
        clear hX4 HR2
        go_wp2_with fail
        rw [← unhide HX4]
        refine (unhide TI' _ (btr (unhide HB1) (unhide B4))).mono ?_
        rintro e W5 ⟨⟨t5, rfl, ht5⟩, hb5⟩
        obtain ⟨a9, c9, rfl⟩ := ht5.slice
        have HT5a : Hid (RS 1 RInt W5 0 xs (.slice a9 L c9)) := hide (by rw [← unhide HLL]; exact ht5)
        rw [unhide HLL]
        have B5a : Hid (Below X4.heap.size X4 W5) := hide hb5
        clear ht5 hb5
        go_wp2_with fail
        refine (unhide TH' _ (btr (unhide HB1) (btr (unhide B4) (unhide B5a)))).mono ?_
        rintro e W5b ⟨⟨t5, rfl, ht5⟩, hb5⟩
        obtain ⟨b9, d9, rfl⟩ := ht5.slice
        have HN5 : Hid (RS 1 RHopS W5b 0 ns (.slice b9 K d9)) := hide (by rw [← unhide HKK]; exact ht5)
        rw [unhide HKK]
        have HT5 := hide ((unhide HT5a).later RInt.keeps hb5)
        have B5 : Hid (Below X4.heap.size X4 W5b) := hide (btr (unhide B5a) hb5)
        have HG5 := hide ((unhide HG).later (btr (unhide HB1) (btr (unhide B4) (unhide B5))))
        clear ht5 hb5 HT5a B5a
        go_wp2_with fail
        have LS2 := FQ2_lasts (.agg #[.slice d0 x.ins.length f0, .slice d1 x.clocks.length f1, .slice d2 x.blocks.length f2, .slice d3 x.outs.length f3, .slice d4 x.checks.length f4]) (.agg #[.int .i64 z0, .int .i64 z1, .int .i64 z2, .int .i64 z3]) (.slice a9 L c9) (.slice b9 K d9) SB
        refine wp_plan (GW (FQ2 (.agg #[.slice d0 x.ins.length f0, .slice d1 x.clocks.length f1, .slice d2 x.blocks.length f2, .slice d3 x.outs.length f3, .slice d4 x.checks.length f4]) (.agg #[.int .i64 z0, .int .i64 z1, .int .i64 z2, .int .i64 z3]) (.slice a9 L c9) (.slice b9 K d9) SB)) (JB W5b) (by kernel_rfl) 67 (by kernel_rfl) (by kernel_rfl) ?hj ?hs ?hf
        case hj => exact bdr (brf W5b)
        case hs =>
          refine ⟨?_, ?_, ?_, ?_, ?_, ?_, ?_, trivial⟩
          · exact sl_val rfl (fun l a V hp ha => ⟨.agg #[.slice d0 x.ins.length f0, .slice d1 x.clocks.length f1, .slice d2 x.blocks.length f2, .slice d3 x.outs.length f3, .slice d4 x.checks.length f4], by
              have x11 := (ev_form a 11).trans (old hp 11 (v := .pointer (some ⟨W3.heap.size, 0, none⟩)) (by kernel_rfl) (by kernel_rfl))
              obtain ⟨p0, p1, p2, p3, p4⟩ := unhide HCX V (btr (unhide B5) hp.j)
              go_simp, rfl⟩)
          · exact sl_val rfl (fun l a V hp ha => ⟨.agg #[.int .i64 z0, .int .i64 z1, .int .i64 z2, .int .i64 z3], by
              have x5 := (ev_form a 5).trans (old hp 5 (v := .pointer (some ⟨w.heap.size + 1, 0, none⟩)) (by kernel_rfl) (by kernel_rfl))
              obtain ⟨p0, p1, p2, p3⟩ := unhide HCC V (btr (unhide B4) (btr (unhide B5) hp.j))
              go_simp, rfl⟩)
          · exact sl_call (f := 8) LS2 rfl (fun l a V hp ha => ⟨#[.agg #[.int .i64 z0, .int .i64 z1, .int .i64 z2, .int .i64 z3]], by
              have x44 := (ev_form a 44).trans (show a.eval (.tmp 44) = .agg #[.int .i64 z0, .int .i64 z1, .int .i64 z2, .int .i64 z3] from kn hp ha 44 1 (by kernel_rfl) (by kernel_rfl))
              go_simp, (unhide CHP V).mono (by rintro e V1 ⟨rfl, hb⟩; exact ⟨_, rfl, rfl, hb⟩)⟩)
          · exact sl_val rfl (fun l a V hp ha => ⟨.slice a9 L c9, by
              have x12 := (ev_form a 12).trans (old hp 12 (v := .slice a9 L c9) (by kernel_rfl) (by kernel_rfl))
              go_simp, rfl⟩)
          · exact sl_val rfl (fun l a V hp ha => ⟨.slice b9 K d9, by
              have x13 := (ev_form a 13).trans (old hp 13 (v := .slice b9 K d9) (by kernel_rfl) (by kernel_rfl))
              go_simp, rfl⟩)
          · refine sl_call (f := 11) LS2 rfl (fun l a V hp ha => ?_)
            have x43 := (ev_form a 43).trans (show a.eval (.tmp 43) = .agg #[.slice d0 x.ins.length f0, .slice d1 x.clocks.length f1, .slice d2 x.blocks.length f2, .slice d3 x.outs.length f3, .slice d4 x.checks.length f4] from kn hp ha 43 0 (by kernel_rfl) (by kernel_rfl))
            have x45 := (ev_form a 45).trans (show a.eval (.tmp 45) = .agg #[.int .i64 z0, .int .i64 z1, .int .i64 z2, .int .i64 z3] from kn hp ha 45 2 (by kernel_rfl) (by kernel_rfl))
            have x46 := (ev_form a 46).trans (show a.eval (.tmp 46) = .slice a9 L c9 from kn hp ha 46 3 (by kernel_rfl) (by kernel_rfl))
            have x47 := (ev_form a 47).trans (show a.eval (.tmp 47) = .slice b9 K d9 from kn hp ha 47 4 (by kernel_rfl) (by kernel_rfl))
            refine ⟨#[.agg #[.slice d0 x.ins.length f0, .slice d1 x.clocks.length f1, .slice d2 x.blocks.length f2, .slice d3 x.outs.length f3, .slice d4 x.checks.length f4], .agg #[.int .i64 z0, .int .i64 z1, .int .i64 z2, .int .i64 z3], .slice a9 L c9, .slice b9 K d9], by go_simp, (unhide IP V #[.slice d0 x.ins.length f0, .slice d1 x.clocks.length f1, .slice d2 x.blocks.length f2, .slice d3 x.outs.length f3, .slice d4 x.checks.length f4] _ _ ((unhide HG5).later hp.j) ((unhide HR4).later (btr (unhide B5) hp.j)) ((unhide HT5).later RInt.keeps hp.j) ((unhide HN5).later RHopS.keeps hp.j)).mono ?_⟩
            rintro e V1 ⟨rfl, hb⟩
            exact ⟨_, rfl, rfl, hb⟩
          · exact sl_val rfl (fun l a V hp ha => ⟨.bool SB, by
              have x48 := (ev_form a 48).trans (show a.eval (.tmp 48) = .bool SB from kn hp ha 48 5 (by kernel_rfl) (by kernel_rfl))
              go_simp, rfl⟩)
        case hf =>
          intro l a W6 hp hall
          have hv := hp.good 6 _ 14 rfl rfl (hall 6 (by decide))
          have B6 : Hid (Below X4.heap.size X4 W6) := hide (btr (unhide B5) hp.j)
          have HT6 := hide ((unhide HT5).later RInt.keeps hp.j)
          have HN6 := hide ((unhide HN5).later RHopS.keeps hp.j)
          obtain ⟨us2, rfl, hus⟩ := putAll_of [43, 44, 45, 46, 47, 48, 14] hp.nt hp.df (fun t ht => hp.keep t (dstIn (by kernel_rfl) ht))
          have hv2 : us2 14 = .bool SB := by rw [hus 14]; exact hv
          clear hp hall hv hus LS2 IP HT5 HN5 HG5 HG
          simp only [putAll, List.foldl, Act.put, List.setIfInBounds_toArray, List.set_cons_zero, List.set_cons_succ, hv2]
          go_wp2_with fail
          have LS3 := FL10_lasts x (.agg #[.slice d0 x.ins.length f0, .slice d1 x.clocks.length f1, .slice d2 x.blocks.length f2, .slice d3 x.outs.length f3, .slice d4 x.checks.length f4]) (.agg #[.slice a0 x.ins.length c0, .slice a1 x.clocks.length c1, .slice a2 x.blocks.length c2, .slice a3 x.outs.length c3, .slice a4 x.checks.length c4])
          refine wp_plan (GW (FL10 x (.agg #[.slice d0 x.ins.length f0, .slice d1 x.clocks.length f1, .slice d2 x.blocks.length f2, .slice d3 x.outs.length f3, .slice d4 x.checks.length f4]) (.agg #[.slice a0 x.ins.length c0, .slice a1 x.clocks.length c1, .slice a2 x.blocks.length c2, .slice a3 x.outs.length c3, .slice a4 x.checks.length c4]))) (JB W6) (by kernel_rfl) 67 (by kernel_rfl) (by kernel_rfl) ?hj ?hs ?hf
          case hj => exact bdr (brf W6)
          case hs =>
            refine ⟨?_, ?_, ?_, ?_, ?_, trivial⟩
            · exact sl_val rfl (fun l a V hp ha => ⟨.agg #[.slice d0 x.ins.length f0, .slice d1 x.clocks.length f1, .slice d2 x.blocks.length f2, .slice d3 x.outs.length f3, .slice d4 x.checks.length f4], by
                have x11 := (ev_form a 11).trans (old hp 11 (v := .pointer (some ⟨W3.heap.size, 0, none⟩)) (by kernel_rfl) (by kernel_rfl))
                obtain ⟨p0, p1, p2, p3, p4⟩ := unhide HCX V (btr (unhide B6) hp.j)
                go_simp, rfl⟩)
            · exact sl_val rfl (fun l a V hp ha => ⟨.agg #[.slice a0 x.ins.length c0, .slice a1 x.clocks.length c1, .slice a2 x.blocks.length c2, .slice a3 x.outs.length c3, .slice a4 x.checks.length c4], by
                have x4 := (ev_form a 4).trans (old hp 4 (v := .pointer (some ⟨w.heap.size, 0, none⟩)) (by kernel_rfl) (by kernel_rfl))
                obtain ⟨p0, p1, p2, p3, p4⟩ := unhide HCP V (btr (unhide B4) (btr (unhide B6) hp.j))
                go_simp, rfl⟩)
            · exact sl_call (f := 7) LS3 rfl (fun l a V hp ha => ⟨#[.agg #[.slice a0 x.ins.length c0, .slice a1 x.clocks.length c1, .slice a2 x.blocks.length c2, .slice a3 x.outs.length c3, .slice a4 x.checks.length c4]], by
                have x53 := (ev_form a 53).trans (show a.eval (.tmp 53) = .agg #[.slice a0 x.ins.length c0, .slice a1 x.clocks.length c1, .slice a2 x.blocks.length c2, .slice a3 x.outs.length c3, .slice a4 x.checks.length c4] from kn hp ha 53 1 (by kernel_rfl) (by kernel_rfl))
                go_simp, (unhide TN' V (btr (unhide HB1) (btr (unhide B4) (btr (unhide B6) hp.j)))).mono (by rintro e V1 ⟨⟨u3, rfl, hr3⟩, hb, _⟩; exact ⟨_, rfl, ⟨u3.toArray, rfl, by simpa using hr3.any⟩, hb⟩)⟩)
            · refine sl_call (f := 12) LS3 rfl (fun l a V hp ha => ?_)
              have x52 := (ev_form a 52).trans (show a.eval (.tmp 52) = .agg #[.slice d0 x.ins.length f0, .slice d1 x.clocks.length f1, .slice d2 x.blocks.length f2, .slice d3 x.outs.length f3, .slice d4 x.checks.length f4] from kn hp ha 52 0 (by kernel_rfl) (by kernel_rfl))
              obtain ⟨u3, h41, hr3⟩ : ∃ u3, a.eval (.tmp 54) = .agg u3 ∧ RPacked V 0 x u3.toList := kn hp ha 54 2 (by kernel_rfl) (by kernel_rfl)
              have x54 := (ev_form a 54).trans h41
              refine ⟨#[.agg #[.slice d0 x.ins.length f0, .slice d1 x.clocks.length f1, .slice d2 x.blocks.length f2, .slice d3 x.outs.length f3, .slice d4 x.checks.length f4], .agg u3], by go_simp, (unhide EQ V #[.slice d0 x.ins.length f0, .slice d1 x.clocks.length f1, .slice d2 x.blocks.length f2, .slice d3 x.outs.length f3, .slice d4 x.checks.length f4] u3 ((unhide HR4).later (btr (unhide B6) hp.j)) hr3).mono ?_⟩
              rintro e V1 ⟨rfl, hb⟩
              exact ⟨_, rfl, rfl, hb⟩
            · exact sl_val rfl (fun l a V hp ha => ⟨.bool false, by
                have x55 := (ev_form a 55).trans (show a.eval (.tmp 55) = .bool true from kn hp ha 55 3 (by kernel_rfl) (by kernel_rfl))
                go_simp, rfl⟩)
          case hf =>
            intro l a W7 hp hall
            have hv := hp.good 4 _ 56 rfl rfl (hall 4 (by decide))
            have B7 : Hid (Below X4.heap.size X4 W7) := hide (btr (unhide B6) hp.j)
            have HT7 := hide ((unhide HT6).later RInt.keeps hp.j)
            have HN7 := hide ((unhide HN6).later RHopS.keeps hp.j)
            obtain ⟨us3, rfl, hus⟩ := putAll_of [52, 53, 54, 55, 56] hp.nt hp.df (fun t ht => hp.keep t (dstIn (by kernel_rfl) ht))
            have hv2 : us3 56 = .bool false := by rw [hus 56]; exact hv
            clear hp hall hv hus LS3 HT6 HN6 EQ
            simp only [putAll, List.foldl, Act.put, List.setIfInBounds_toArray, List.set_cons_zero, List.set_cons_succ, hv2]
            go_wp2_with fail
            refine (unhide TI' _ (btr (unhide HB1) (btr (unhide B4) (unhide B7)))).mono ?_
            rintro e W8 ⟨⟨t8, rfl, ht8⟩, hb8⟩
            have B8 := hide (btr (unhide HB1) (btr (unhide B4) (btr (unhide B7) hb8)))
            have E8 := hide (unhide EI W8 _ _ ((unhide HT7).later RInt.keeps hb8) ht8)
            have HN8 := hide ((unhide HN7).later RHopS.keeps hb8)
            obtain ⟨a8, c8, rfl⟩ := ht8.slice
            clear hb8 ht8
            go_wp2_with fail
            refine (unhide E8).mono ?_
            rintro e W9 ⟨rfl, hb9⟩
            have B9 := hide (btr (unhide B8) hb9)
            have HN9 := hide ((unhide HN8).later RHopS.keeps hb9)
            clear hb9
            go_wp2_with fail
            refine (unhide TH' _ (unhide B9)).mono ?_
            rintro e W10 ⟨⟨t8, rfl, ht8⟩, hb8⟩
            have B10 := hide (btr (unhide B9) hb8)
            have E10 := hide (unhide EH W10 _ _ ((unhide HN9).later RHopS.keeps hb8) ht8)
            obtain ⟨b8, d8, rfl⟩ := ht8.slice
            clear hb8 ht8
            go_wp2_with fail
            refine (unhide E10).mono ?_
            rintro e W11 ⟨rfl, hb11⟩
            have B11 := hide (btr (unhide B10) hb11)
            clear hb11
            go_wp2_with fail
            exact bodyPost_ret (v := .bool true) (by simp [results, Tryz.results3, go_sem]) rfl ⟨rfl, unhide B11⟩
    · have hsz := szR_lt (s := szL szHopS ns) (left := LF) (by omega)
      have SH' := hide (fun W hb => unhide SH W LF hLF2 hb)
      rw [hsz] at SH'
      clear TN TI TH SH hsz
      go_enter Tryz.func3, Tryz.ntmps3
      go_wp2_with fail
      rw [← unhide HX1]
      obtain ⟨q0, q1, q2, q3, q4⟩ := unhide HCP X1 (brf _)
      go_wp2_with fail
      refine (unhide SZ _ (unhide HB1)).mono ?_
      rintro e W1 ⟨rfl, hb1⟩
      have HB := hide (btr (unhide HB1) hb1)
      clear hb1 q0 q1 q2 q3 q4
      go_wp2_with fail
      refine (unhide SH' _ (unhide HB)).mono ?_
      rintro e W2 ⟨rfl, hb2⟩
      have HB2 := hide (btr (unhide HB) hb2)
      clear hb2
      go_wp2_with fail
      exact bodyPost_ret (v := .bool true) (by simp [results, Tryz.results3, go_sem]) rfl ⟨rfl, unhide HB2⟩
  · have hsz := szR_lt (s := szPacked x) (left := 1048576) (by omega)
    rw [hsz] at SZ
    clear TN TI TH SH
    go_enter Tryz.func3, Tryz.ntmps3
    go_wp2_with fail
    rw [← unhide HX1]
    obtain ⟨q0, q1, q2, q3, q4⟩ := unhide HCP X1 (brf _)
    go_wp2_with fail
    refine (unhide SZ _ (unhide HB1)).mono ?_
    rintro e W1 ⟨rfl, hb1⟩
    have HB := hide (btr (unhide HB1) hb1)
    clear hb1
    go_wp2_with fail
    exact bodyPost_ret (v := .bool true) (by simp [results, Tryz.results3, go_sem]) rfl ⟨rfl, unhide HB⟩
end Go.Proofs.YtlldfaniddbjaaaGreatDoor
