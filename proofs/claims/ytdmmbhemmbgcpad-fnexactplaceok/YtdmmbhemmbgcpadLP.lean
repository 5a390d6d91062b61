/- The law of PlaceOK. -/
import Derived.Test.YtdmmbhemmbgcpadLW
import Derived.Test.YtdmmbhemmbgcpadPK2
import Derived.Test.YtdmmbhemmbgcpadPK3
import Derived.Test.YtdmmbhemmbgcpadDC1
namespace Go.Proofs.Ytdmmbhemmbgcpad
open Go Go.RowKit Gs
set_option linter.unusedVariables false
set_option linter.unusedSimpArgs false
set_option maxRecDepth 100000
/-- What is known in the region that calls the specification. -/
def FQ1 (x : Packed) (xs : List Int) (e1 e2 e3 : Value) (b : Bool) : Nat → World → Value → Prop
  | 0, W, v => v = e1
  | 1, W, v => ∃ u, v = .agg u ∧ RPacked W 0 x u.toList
  | 2, W, v => v = e2
  | 3, W, v => v = e2
  | 4, W, v => v = e3
  | 5, W, v => RS 1 RInt W 0 xs v
  | 6, W, v => v = .bool b
  | 7, W, v => v = .bool b
  | _, _, _ => True
theorem FQ1_lasts (x : Packed) (xs : List Int) (e1 e2 e3 : Value) (b : Bool) : Lasts (FQ1 x xs e1 e2 e3 b) := by
  intro k w w' v hb h
  match k, h with
  | 0, h => exact h
  | 1, h => obtain ⟨u, e, hr⟩ := h; exact ⟨u, e, hr.later hb⟩
  | 2, h => exact h
  | 3, h => exact h
  | 4, h => exact h
  | 5, h => exact RS.later RInt.keeps h hb
  | 6, h => exact h
  | 7, h => exact h
  | _ + 8, _ => trivial
/-- What is known in the region that calls the program. -/
def FQ2 (e1 e2 e3 : Value) (b : Bool) : Nat → World → Value → Prop
  | 0, W, v => v = e1
  | 1, W, v => v = e2
  | 2, W, v => v = e2
  | 3, W, v => v = e3
  | 4, W, v => v = .bool b
  | 5, W, v => v = .bool b
  | _, _, _ => True
theorem FQ2_lasts (e1 e2 e3 : Value) (b : Bool) : Lasts (FQ2 e1 e2 e3 b) := by
  intro k w w' v hb h
  match k, h with
  | 0, h => exact h
  | 1, h => exact h
  | 2, h => exact h
  | 3, h => exact h
  | 4, h => exact h
  | 5, h => exact h
  | _ + 6, _ => trivial
set_option maxHeartbeats 32000000 in
theorem lPlaceOK (x : Packed) (u : List Value) (z : Chip) (xs : List Int) (v : Value) (w : World) (hr : RPacked w 0 x u) (hx : RS 1 RInt w 0 xs v) :
    Calls Try.prog 3 #[.agg u.toArray, .agg #[.int .i64 z.wide, .int .i64 z.high, .int .i64 z.tracks, .int .i64 z.pads], v] w fun e w' => e = .returned (.bool true) ∧ Below w.heap.size w w' := by
  have SZ := hide (fun (W : World) (hb : Below w.heap.size w W) => szPacked_of x u W 1048576 (Nat.le_refl _) (hr.later hb))
  have TN := hide (fun (hl : szPacked x ≤ 1048576) (W : World) (hb : Below w.heap.size w W) => toPacked_of x u W hl (hr.later hb))
  have TI := hide (fun (hl : xs.length ≤ 1048576) (W : World) (hb : Below w.heap.size w W) => toIntS_of xs v W (by rw [szL_sm, sm_zero]; omega) (hx.later RInt.keeps hb))
  have HX := hide hx
  obtain ⟨av, cv, rfl⟩ := hx.slice
  have hlm := hx.len
  unfold maxLen at hlm
  clear hx
  obtain ⟨L, hL⟩ : ∃ L, xs.length = L := ⟨_, rfl⟩
  have HLL := hide hL
  rw [hL] at TI hlm ⊢
  clear hL
  obtain ⟨v0, v1, v2, v3, v4, rfl, h0, h1, h2, h3, h4⟩ := hr
  obtain ⟨a0, c0, e0⟩ := h0.slice
  obtain ⟨a1, c1, e1⟩ := h1.slice
  obtain ⟨a2, c2, e2⟩ := h2.slice
  obtain ⟨a3, c3, e3⟩ := h3.slice
  obtain ⟨a4, c4, e4⟩ := h4.slice
  subst e0 e1 e2 e3 e4
  clear h0 h1 h2 h3 h4
  show Calls Try.prog 3 #[.agg #[.slice a0 x.ins.length c0, .slice a1 x.clocks.length c1, .slice a2 x.blocks.length c2, .slice a3 x.outs.length c3, .slice a4 x.checks.length c4], .agg #[.int .i64 z.wide, .int .i64 z.high, .int .i64 z.tracks, .int .i64 z.pads], .slice av L cv] w _
  change Hid (∀ (W : World), Below w.heap.size w W → Calls Try.prog 4 #[.agg #[.slice a0 x.ins.length c0, .slice a1 x.clocks.length c1, .slice a2 x.blocks.length c2, .slice a3 x.outs.length c3, .slice a4 x.checks.length c4], .int .i64 (1048576 : Int)] W _) at SZ
  change Hid (∀ (hl : szPacked x ≤ 1048576) (W : World), Below w.heap.size w W → Calls Try.prog 6 #[.agg #[.slice a0 x.ins.length c0, .slice a1 x.clocks.length c1, .slice a2 x.blocks.length c2, .slice a3 x.outs.length c3, .slice a4 x.checks.length c4]] W _) at TN
  by_cases hbig : (1048576 : Int) < (L : Int)
  · clear SZ TN TI
    go_enter Try.func3, Try.ntmps3
    go_wp2
    exact bodyPost_ret (v := .bool true) (by simp [results, Try.results3, go_sem]) rfl ⟨rfl, bal (bal (brf w) _) _⟩
  have hlL : L ≤ 1048576 := by omega
  obtain ⟨X1, hX1⟩ : ∃ X, X = (w.alloc (.cells #[.slice a0 x.ins.length c0, .slice a1 x.clocks.length c1, .slice a2 x.blocks.length c2, .slice a3 x.outs.length c3, .slice a4 x.checks.length c4] 26)).alloc (.cells #[.int .i64 z.wide, .int .i64 z.high, .int .i64 z.tracks, .int .i64 z.pads] 28) := ⟨_, rfl⟩
  have HB1 : Hid (Below w.heap.size w X1) := hide (by rw [hX1]; exact bal (bal (brf w) _) _)
  have HCP : Hid (∀ V, Below X1.heap.size X1 V → V.cell? ⟨w.heap.size, 0, none⟩ = some (.slice a0 x.ins.length c0) ∧ V.cell? ⟨w.heap.size, 1, none⟩ = some (.slice a1 x.clocks.length c1) ∧ V.cell? ⟨w.heap.size, 2, none⟩ = some (.slice a2 x.blocks.length c2) ∧ V.cell? ⟨w.heap.size, 3, none⟩ = some (.slice a3 x.outs.length c3) ∧ V.cell? ⟨w.heap.size, 4, none⟩ = some (.slice a4 x.checks.length c4)) := hide (fun V hb => by
    rw [hX1] at hb
    have hb' := btr (bal (brf (w.alloc (.cells #[.slice a0 x.ins.length c0, .slice a1 x.clocks.length c1, .slice a2 x.blocks.length c2, .slice a3 x.outs.length c3, .slice a4 x.checks.length c4] 26))) (.cells #[.int .i64 z.wide, .int .i64 z.high, .int .i64 z.tracks, .int .i64 z.pads] 28)) hb
    exact ⟨cell_later hb' (by rw [World.cell?_alloc_new]; rfl), cell_later hb' (by rw [World.cell?_alloc_new]; rfl), cell_later hb' (by rw [World.cell?_alloc_new]; rfl), cell_later hb' (by rw [World.cell?_alloc_new]; rfl), cell_later hb' (by rw [World.cell?_alloc_new]; rfl)⟩)
  have HCC : Hid (∀ V, Below X1.heap.size X1 V → V.cell? ⟨w.heap.size + 1, 0, none⟩ = some (.int .i64 z.wide) ∧ V.cell? ⟨w.heap.size + 1, 1, none⟩ = some (.int .i64 z.high) ∧ V.cell? ⟨w.heap.size + 1, 2, none⟩ = some (.int .i64 z.tracks) ∧ V.cell? ⟨w.heap.size + 1, 3, none⟩ = some (.int .i64 z.pads)) := hide (fun V hb => by
    rw [hX1] at hb
    have hz : (w.alloc (.cells #[.slice a0 x.ins.length c0, .slice a1 x.clocks.length c1, .slice a2 x.blocks.length c2, .slice a3 x.outs.length c3, .slice a4 x.checks.length c4] 26)).heap.size = w.heap.size + 1 := by simp
    refine ⟨?_, ?_, ?_, ?_⟩ <;> exact cell_later hb (by rw [← hz, World.cell?_alloc_new]; rfl))
  have HX1 := hide hX1
  clear hX1
  by_cases hs : szPacked x ≤ 1048576
  · have hsz := szR_le hs
    have hneg : decide ((((1048576 - szPacked x : Nat) : Int)) < 0) = false := decide_eq_false (by omega)
    have hng : ¬ ((((1048576 - szPacked x : Nat) : Int)) < 0) := by omega
    have TN' := hide (fun W hb => unhide TN hs W hb)
    have TI' : Hid (∀ W, Below w.heap.size w W → Calls Try.prog 8 #[.slice av L cv] W fun e w' => (∃ v', e = .returned v' ∧ RS 1 RInt w' 0 xs v') ∧ Below W.heap.size W w') := hide (fun W hb => (unhide TI hlL W hb).mono (by
      rintro e V ⟨⟨v', rfl, h⟩, hb, _⟩
      exact ⟨⟨v', rfl, h.low RInt.lowers (Nat.zero_le _)⟩, hb⟩))
    have IP := hide (fun (W : World) (u' : Array Value) (t' : Value) (h : RPacked W 0 x u'.toList) (ht : RS 1 RInt W 0 xs t') => (show Calls Try.prog 9 #[.agg u', .agg #[.int .i64 z.wide, .int .i64 z.high, .int .i64 z.tracks, .int .i64 z.pads], t'] W _ from iPlaceOK x u'.toList z.wide z.high z.tracks z.pads xs t' W hs (by have := unhide HLL; omega) h ht))
    have SP := hide (fun (W : World) (u' : Array Value) (t' : Value) (h : RPacked W 0 x u'.toList) (ht : RS 1 RInt W 0 xs t') => (show Calls Try.prog 5 #[.agg u', .agg #[.int .i64 z.wide, .int .i64 z.high, .int .i64 z.tracks, .int .i64 z.pads], t'] W _ from sPlaceOK x u'.toList z.wide z.high z.tracks z.pads xs t' W hs (by have := unhide HLL; omega) h ht))
    have CH := hide (fun W => toChip_of z.wide z.high z.tracks z.pads W)
    have EQ := hide (fun W (u3 u4 : Array Value) (h : RPacked W 0 x u3.toList) (h3 : RPacked W 0 x u4.toList) => (show Calls Try.prog 10 #[.agg u3, .agg u4] W _ from eqPacked_of x u3.toList u4.toList W h h3))
    have EI := hide (fun W (t1 t2 : Value) (h : RS 1 RInt W 0 xs t1) (h3 : RS 1 RInt W 0 xs t2) => eqIntS_of xs t1 t2 W h h3)
    rw [pack_same x] at IP
    rw [hsz] at SZ
    clear TN TI hsz
    generalize placeB (packS x) z.wide z.high z.tracks z.pads x.ins.length x.blocks.length x.outs.length x.checks.length xs = SB at *
    have hne : (SB != SB) = false := by simp
    generalize ((1048576 - szPacked x : Nat) : Int) = left at *
    go_enter Try.func3, Try.ntmps3
    go_wp2_with fail
    rw [← unhide HX1]
    obtain ⟨q0, q1, q2, q3, q4⟩ := unhide HCP X1 (brf _)
    go_wp2_with fail
    refine (unhide SZ _ (unhide HB1)).mono ?_
    rintro e W1 ⟨rfl, hb⟩
    have B1 : Hid (Below X1.heap.size X1 W1) := hide hb
    clear hb q0 q1 q2 q3 q4
    go_wp2
    clear hneg hng hbig
    have LS1 := FQ1_lasts x xs (.agg #[.slice a0 x.ins.length c0, .slice a1 x.clocks.length c1, .slice a2 x.blocks.length c2, .slice a3 x.outs.length c3, .slice a4 x.checks.length c4]) (.agg #[.int .i64 z.wide, .int .i64 z.high, .int .i64 z.tracks, .int .i64 z.pads]) (.slice av L cv) SB
    refine wp_plan (GW (FQ1 x xs (.agg #[.slice a0 x.ins.length c0, .slice a1 x.clocks.length c1, .slice a2 x.blocks.length c2, .slice a3 x.outs.length c3, .slice a4 x.checks.length c4]) (.agg #[.int .i64 z.wide, .int .i64 z.high, .int .i64 z.tracks, .int .i64 z.pads]) (.slice av L cv) SB)) (JB W1) (by kernel_rfl) 49 (by kernel_rfl) (by kernel_rfl) ?hj ?hs ?hf
    case hj => exact bdr (brf W1)
    case hs =>
      refine ⟨?_, ?_, ?_, ?_, ?_, ?_, ?_, ?_, trivial⟩
      · exact sl_val rfl (fun l a V hp ha => ⟨.agg #[.slice a0 x.ins.length c0, .slice a1 x.clocks.length c1, .slice a2 x.blocks.length c2, .slice a3 x.outs.length c3, .slice a4 x.checks.length c4], by
          have x3 := (ev_form a 3).trans (old hp 3 (v := .pointer (some ⟨w.heap.size, 0, none⟩)) (by kernel_rfl) (by kernel_rfl))
          obtain ⟨p0, p1, p2, p3, p4⟩ := unhide HCP V (btr (unhide B1) hp.j)
          go_simp, rfl⟩)
      · exact sl_call (f := 6) LS1 rfl (fun l a V hp ha => ⟨#[.agg #[.slice a0 x.ins.length c0, .slice a1 x.clocks.length c1, .slice a2 x.blocks.length c2, .slice a3 x.outs.length c3, .slice a4 x.checks.length c4]], by
          have x20 := (ev_form a 20).trans (show a.eval (.tmp 20) = .agg #[.slice a0 x.ins.length c0, .slice a1 x.clocks.length c1, .slice a2 x.blocks.length c2, .slice a3 x.outs.length c3, .slice a4 x.checks.length c4] from kn hp ha 20 0 (by kernel_rfl) (by kernel_rfl))
          go_simp, (unhide TN' V (btr (btr (unhide HB1) (unhide B1)) hp.j)).mono (by rintro e V1 ⟨⟨u3, rfl, hr3⟩, hb, _⟩; exact ⟨_, rfl, ⟨u3.toArray, rfl, by simpa using hr3.any⟩, hb⟩)⟩)
      · exact sl_val rfl (fun l a V hp ha => ⟨.agg #[.int .i64 z.wide, .int .i64 z.high, .int .i64 z.tracks, .int .i64 z.pads], by
          have x4 := (ev_form a 4).trans (old hp 4 (v := .pointer (some ⟨w.heap.size + 1, 0, none⟩)) (by kernel_rfl) (by kernel_rfl))
          obtain ⟨p0, p1, p2, p3⟩ := unhide HCC V (btr (unhide B1) hp.j)
          go_simp, rfl⟩)
      · exact sl_call (f := 7) LS1 rfl (fun l a V hp ha => ⟨#[.agg #[.int .i64 z.wide, .int .i64 z.high, .int .i64 z.tracks, .int .i64 z.pads]], by
          have x22 := (ev_form a 22).trans (show a.eval (.tmp 22) = .agg #[.int .i64 z.wide, .int .i64 z.high, .int .i64 z.tracks, .int .i64 z.pads] from kn hp ha 22 2 (by kernel_rfl) (by kernel_rfl))
          go_simp, (unhide CH V).mono (by rintro e V1 ⟨rfl, hb⟩; exact ⟨_, rfl, rfl, hb⟩)⟩)
      · exact sl_val rfl (fun l a V hp ha => ⟨.slice av L cv, by
          have x2 := (ev_form a 2).trans (old hp 2 (v := .slice av L cv) (by kernel_rfl) (by kernel_rfl))
          go_simp, rfl⟩)
      · exact sl_call (f := 8) LS1 rfl (fun l a V hp ha => ⟨#[.slice av L cv], by
          have x24 := (ev_form a 24).trans (show a.eval (.tmp 24) = .slice av L cv from kn hp ha 24 4 (by kernel_rfl) (by kernel_rfl))
          go_simp, (unhide TI' V (btr (btr (unhide HB1) (unhide B1)) hp.j)).mono (by rintro e V1 ⟨⟨t3, rfl, hr3⟩, hb⟩; exact ⟨_, rfl, hr3, hb⟩)⟩)
      · refine sl_call (f := 5) LS1 rfl (fun l a V hp ha => ?_)
        obtain ⟨u3, h21, hr3⟩ : ∃ u3, a.eval (.tmp 21) = .agg u3 ∧ RPacked V 0 x u3.toList := kn hp ha 21 1 (by kernel_rfl) (by kernel_rfl)
        have x21 := (ev_form a 21).trans h21
        have x23 := (ev_form a 23).trans (show a.eval (.tmp 23) = .agg #[.int .i64 z.wide, .int .i64 z.high, .int .i64 z.tracks, .int .i64 z.pads] from kn hp ha 23 3 (by kernel_rfl) (by kernel_rfl))
        have h25 : RS 1 RInt V 0 xs (a.eval (.tmp 25)) := kn hp ha 25 5 (by kernel_rfl) (by kernel_rfl)
        obtain ⟨at5, ct5, ht5⟩ := h25.slice
        rw [ht5] at h25
        have x25 := (ev_form a 25).trans ht5
        refine ⟨#[.agg u3, .agg #[.int .i64 z.wide, .int .i64 z.high, .int .i64 z.tracks, .int .i64 z.pads], .slice at5 xs.length ct5], by go_simp, (unhide SP V u3 _ hr3 h25).mono ?_⟩
        rintro e V1 ⟨rfl, hb⟩
        exact ⟨_, rfl, rfl, hb⟩
      · exact sl_val rfl (fun l a V hp ha => ⟨.bool SB, by
          have x26 := (ev_form a 26).trans (show a.eval (.tmp 26) = .bool SB from kn hp ha 26 6 (by kernel_rfl) (by kernel_rfl))
          go_simp, rfl⟩)
    case hf =>
      intro l a W2 hp hall
      have hv := hp.good 7 _ 8 rfl rfl (hall 7 (by decide))
      have B2 : Hid (Below X1.heap.size X1 W2) := hide (btr (unhide B1) hp.j)
      obtain ⟨us, rfl, hus⟩ := putAll_of [20, 21, 22, 23, 24, 25, 26, 8] hp.nt hp.df (fun t ht => hp.keep t (dstIn (by kernel_rfl) ht))
      have hv2 : us 8 = .bool SB := by rw [hus 8]; exact hv
      clear hp hall hv hus LS1 SP
      simp only [putAll, List.foldl, Act.put, List.setIfInBounds_toArray, List.set_cons_zero, List.set_cons_succ, hv2]
      obtain ⟨q0, q1, q2, q3, q4⟩ := unhide HCP W2 (unhide B2)
      go_wp2_with fail
      refine (unhide TN' _ (btr (unhide HB1) (unhide B2))).mono ?_
      rintro e W3 ⟨⟨u2, rfl, hr2⟩, hb3, _⟩
      have HR2 := hide hr2.any
      obtain ⟨y0, y1, y2, y3, y4, rfl, g0, g1, g2, g3, g4⟩ := hr2
      obtain ⟨d0, f0, e0⟩ := g0.slice
      obtain ⟨d1, f1, e1⟩ := g1.slice
      obtain ⟨d2, f2, e2⟩ := g2.slice
      obtain ⟨d3, f3, e3⟩ := g3.slice
      obtain ⟨d4, f4, e4⟩ := g4.slice
      subst e0 e1 e2 e3 e4
      have B3 : Hid (Below X1.heap.size X1 W3) := hide (btr (unhide B2) hb3)
      clear hb3 q0 q1 q2 q3 q4 g0 g1 g2 g3 g4
      obtain ⟨X4, hX4⟩ : ∃ X, X = W3.alloc (.cells #[.slice d0 x.ins.length f0, .slice d1 x.clocks.length f1, .slice d2 x.blocks.length f2, .slice d3 x.outs.length f3, .slice d4 x.checks.length f4] 35) := ⟨_, rfl⟩
      have B4 : Hid (Below X1.heap.size X1 X4) := hide (by rw [hX4]; exact bal (unhide B3) _)
      have HCX : Hid (∀ V, Below X4.heap.size X4 V → V.cell? ⟨W3.heap.size, 0, none⟩ = some (.slice d0 x.ins.length f0) ∧ V.cell? ⟨W3.heap.size, 1, none⟩ = some (.slice d1 x.clocks.length f1) ∧ V.cell? ⟨W3.heap.size, 2, none⟩ = some (.slice d2 x.blocks.length f2) ∧ V.cell? ⟨W3.heap.size, 3, none⟩ = some (.slice d3 x.outs.length f3) ∧ V.cell? ⟨W3.heap.size, 4, none⟩ = some (.slice d4 x.checks.length f4)) := hide (fun V hb => by
        rw [hX4] at hb
        exact ⟨cell_later hb (by rw [World.cell?_alloc_new]; rfl), cell_later hb (by rw [World.cell?_alloc_new]; rfl), cell_later hb (by rw [World.cell?_alloc_new]; rfl), cell_later hb (by rw [World.cell?_alloc_new]; rfl), cell_later hb (by rw [World.cell?_alloc_new]; rfl)⟩)
      have HR4 : Hid (RPacked X4 0 x [.slice d0 x.ins.length f0, .slice d1 x.clocks.length f1, .slice d2 x.blocks.length f2, .slice d3 x.outs.length f3, .slice d4 x.checks.length f4]) := hide (by rw [hX4]; exact (unhide HR2).later (bal (brf _) _))
      have HX4 := hide hX4
      clear hX4 HR2
      go_wp2_with fail
      rw [← unhide HX4]
      refine (unhide TI' _ (btr (unhide HB1) (unhide B4))).mono ?_
      rintro e W5 ⟨⟨t5, rfl, ht5⟩, hb5⟩
      obtain ⟨a9, c9, rfl⟩ := ht5.slice
      have HT5 : Hid (RS 1 RInt W5 0 xs (.slice a9 L c9)) := hide (by rw [← unhide HLL]; exact ht5)
      rw [unhide HLL]
      have B5 : Hid (Below X4.heap.size X4 W5) := hide hb5
      clear ht5 hb5
      go_wp2
      have LS2 := FQ2_lasts (.agg #[.slice d0 x.ins.length f0, .slice d1 x.clocks.length f1, .slice d2 x.blocks.length f2, .slice d3 x.outs.length f3, .slice d4 x.checks.length f4]) (.agg #[.int .i64 z.wide, .int .i64 z.high, .int .i64 z.tracks, .int .i64 z.pads]) (.slice a9 L c9) SB
      refine wp_plan (GW (FQ2 (.agg #[.slice d0 x.ins.length f0, .slice d1 x.clocks.length f1, .slice d2 x.blocks.length f2, .slice d3 x.outs.length f3, .slice d4 x.checks.length f4]) (.agg #[.int .i64 z.wide, .int .i64 z.high, .int .i64 z.tracks, .int .i64 z.pads]) (.slice a9 L c9) SB)) (JB W5) (by kernel_rfl) 49 (by kernel_rfl) (by kernel_rfl) ?hj ?hs ?hf
      case hj => exact bdr (brf W5)
      case hs =>
        refine ⟨?_, ?_, ?_, ?_, ?_, ?_, trivial⟩
        · exact sl_val rfl (fun l a V hp ha => ⟨.agg #[.slice d0 x.ins.length f0, .slice d1 x.clocks.length f1, .slice d2 x.blocks.length f2, .slice d3 x.outs.length f3, .slice d4 x.checks.length f4], by
            have x9 := (ev_form a 9).trans (old hp 9 (v := .pointer (some ⟨W3.heap.size, 0, none⟩)) (by kernel_rfl) (by kernel_rfl))
            obtain ⟨p0, p1, p2, p3, p4⟩ := unhide HCX V (btr (unhide B5) hp.j)
            go_simp, rfl⟩)
        · exact sl_val rfl (fun l a V hp ha => ⟨.agg #[.int .i64 z.wide, .int .i64 z.high, .int .i64 z.tracks, .int .i64 z.pads], by
            have x4 := (ev_form a 4).trans (old hp 4 (v := .pointer (some ⟨w.heap.size + 1, 0, none⟩)) (by kernel_rfl) (by kernel_rfl))
            obtain ⟨p0, p1, p2, p3⟩ := unhide HCC V (btr (unhide B4) (btr (unhide B5) hp.j))
            go_simp, rfl⟩)
        · exact sl_call (f := 7) LS2 rfl (fun l a V hp ha => ⟨#[.agg #[.int .i64 z.wide, .int .i64 z.high, .int .i64 z.tracks, .int .i64 z.pads]], by
            have x32 := (ev_form a 32).trans (show a.eval (.tmp 32) = .agg #[.int .i64 z.wide, .int .i64 z.high, .int .i64 z.tracks, .int .i64 z.pads] from kn hp ha 32 1 (by kernel_rfl) (by kernel_rfl))
            go_simp, (unhide CH V).mono (by rintro e V1 ⟨rfl, hb⟩; exact ⟨_, rfl, rfl, hb⟩)⟩)
        · exact sl_val rfl (fun l a V hp ha => ⟨.slice a9 L c9, by
            have x10 := (ev_form a 10).trans (old hp 10 (v := .slice a9 L c9) (by kernel_rfl) (by kernel_rfl))
            go_simp, rfl⟩)
        · refine sl_call (f := 9) LS2 rfl (fun l a V hp ha => ?_)
          have x31 := (ev_form a 31).trans (show a.eval (.tmp 31) = .agg #[.slice d0 x.ins.length f0, .slice d1 x.clocks.length f1, .slice d2 x.blocks.length f2, .slice d3 x.outs.length f3, .slice d4 x.checks.length f4] from kn hp ha 31 0 (by kernel_rfl) (by kernel_rfl))
          have x33 := (ev_form a 33).trans (show a.eval (.tmp 33) = .agg #[.int .i64 z.wide, .int .i64 z.high, .int .i64 z.tracks, .int .i64 z.pads] from kn hp ha 33 2 (by kernel_rfl) (by kernel_rfl))
          have x34 := (ev_form a 34).trans (show a.eval (.tmp 34) = .slice a9 L c9 from kn hp ha 34 3 (by kernel_rfl) (by kernel_rfl))
          refine ⟨#[.agg #[.slice d0 x.ins.length f0, .slice d1 x.clocks.length f1, .slice d2 x.blocks.length f2, .slice d3 x.outs.length f3, .slice d4 x.checks.length f4], .agg #[.int .i64 z.wide, .int .i64 z.high, .int .i64 z.tracks, .int .i64 z.pads], .slice a9 L c9], by go_simp, (unhide IP V #[.slice d0 x.ins.length f0, .slice d1 x.clocks.length f1, .slice d2 x.blocks.length f2, .slice d3 x.outs.length f3, .slice d4 x.checks.length f4] _ ((unhide HR4).later (btr (unhide B5) hp.j)) ((unhide HT5).later RInt.keeps hp.j)).mono ?_⟩
          rintro e V1 ⟨rfl, hb⟩
          exact ⟨_, rfl, rfl, hb⟩
        · exact sl_val rfl (fun l a V hp ha => ⟨.bool SB, by
            have x35 := (ev_form a 35).trans (show a.eval (.tmp 35) = .bool SB from kn hp ha 35 4 (by kernel_rfl) (by kernel_rfl))
            go_simp, rfl⟩)
      case hf =>
        intro l a W6 hp hall
        have hv := hp.good 5 _ 11 rfl rfl (hall 5 (by decide))
        have B6 : Hid (Below X4.heap.size X4 W6) := hide (btr (unhide B5) hp.j)
        have HT6 := hide ((unhide HT5).later RInt.keeps hp.j)
        obtain ⟨us2, rfl, hus⟩ := putAll_of [31, 32, 33, 34, 35, 11] hp.nt hp.df (fun t ht => hp.keep t (dstIn (by kernel_rfl) ht))
        have hv2 : us2 11 = .bool SB := by rw [hus 11]; exact hv
        clear hp hall hv hus LS2 IP HT5
        simp only [putAll, List.foldl, Act.put, List.setIfInBounds_toArray, List.set_cons_zero, List.set_cons_succ, hv2]
        go_wp2
        have LS3 := FL10_lasts x (.agg #[.slice d0 x.ins.length f0, .slice d1 x.clocks.length f1, .slice d2 x.blocks.length f2, .slice d3 x.outs.length f3, .slice d4 x.checks.length f4]) (.agg #[.slice a0 x.ins.length c0, .slice a1 x.clocks.length c1, .slice a2 x.blocks.length c2, .slice a3 x.outs.length c3, .slice a4 x.checks.length c4])
        refine wp_plan (GW (FL10 x (.agg #[.slice d0 x.ins.length f0, .slice d1 x.clocks.length f1, .slice d2 x.blocks.length f2, .slice d3 x.outs.length f3, .slice d4 x.checks.length f4]) (.agg #[.slice a0 x.ins.length c0, .slice a1 x.clocks.length c1, .slice a2 x.blocks.length c2, .slice a3 x.outs.length c3, .slice a4 x.checks.length c4]))) (JB W6) (by kernel_rfl) 49 (by kernel_rfl) (by kernel_rfl) ?hj ?hs ?hf
        case hj => exact bdr (brf W6)
        case hs =>
          refine ⟨?_, ?_, ?_, ?_, ?_, trivial⟩
          · exact sl_val rfl (fun l a V hp ha => ⟨.agg #[.slice d0 x.ins.length f0, .slice d1 x.clocks.length f1, .slice d2 x.blocks.length f2, .slice d3 x.outs.length f3, .slice d4 x.checks.length f4], by
              have x9 := (ev_form a 9).trans (old hp 9 (v := .pointer (some ⟨W3.heap.size, 0, none⟩)) (by kernel_rfl) (by kernel_rfl))
              obtain ⟨p0, p1, p2, p3, p4⟩ := unhide HCX V (btr (unhide B6) hp.j)
              go_simp, rfl⟩)
          · exact sl_val rfl (fun l a V hp ha => ⟨.agg #[.slice a0 x.ins.length c0, .slice a1 x.clocks.length c1, .slice a2 x.blocks.length c2, .slice a3 x.outs.length c3, .slice a4 x.checks.length c4], by
              have x3 := (ev_form a 3).trans (old hp 3 (v := .pointer (some ⟨w.heap.size, 0, none⟩)) (by kernel_rfl) (by kernel_rfl))
              obtain ⟨p0, p1, p2, p3, p4⟩ := unhide HCP V (btr (unhide B4) (btr (unhide B6) hp.j))
              go_simp, rfl⟩)
          · exact sl_call (f := 6) LS3 rfl (fun l a V hp ha => ⟨#[.agg #[.slice a0 x.ins.length c0, .slice a1 x.clocks.length c1, .slice a2 x.blocks.length c2, .slice a3 x.outs.length c3, .slice a4 x.checks.length c4]], by
              have x40 := (ev_form a 40).trans (show a.eval (.tmp 40) = .agg #[.slice a0 x.ins.length c0, .slice a1 x.clocks.length c1, .slice a2 x.blocks.length c2, .slice a3 x.outs.length c3, .slice a4 x.checks.length c4] from kn hp ha 40 1 (by kernel_rfl) (by kernel_rfl))
              go_simp, (unhide TN' V (btr (unhide HB1) (btr (unhide B4) (btr (unhide B6) hp.j)))).mono (by rintro e V1 ⟨⟨u3, rfl, hr3⟩, hb, _⟩; exact ⟨_, rfl, ⟨u3.toArray, rfl, by simpa using hr3.any⟩, hb⟩)⟩)
          · refine sl_call (f := 10) LS3 rfl (fun l a V hp ha => ?_)
            have x39 := (ev_form a 39).trans (show a.eval (.tmp 39) = .agg #[.slice d0 x.ins.length f0, .slice d1 x.clocks.length f1, .slice d2 x.blocks.length f2, .slice d3 x.outs.length f3, .slice d4 x.checks.length f4] from kn hp ha 39 0 (by kernel_rfl) (by kernel_rfl))
            obtain ⟨u3, h41, hr3⟩ : ∃ u3, a.eval (.tmp 41) = .agg u3 ∧ RPacked V 0 x u3.toList := kn hp ha 41 2 (by kernel_rfl) (by kernel_rfl)
            have x41 := (ev_form a 41).trans h41
            refine ⟨#[.agg #[.slice d0 x.ins.length f0, .slice d1 x.clocks.length f1, .slice d2 x.blocks.length f2, .slice d3 x.outs.length f3, .slice d4 x.checks.length f4], .agg u3], by go_simp, (unhide EQ V #[.slice d0 x.ins.length f0, .slice d1 x.clocks.length f1, .slice d2 x.blocks.length f2, .slice d3 x.outs.length f3, .slice d4 x.checks.length f4] u3 ((unhide HR4).later (btr (unhide B6) hp.j)) hr3).mono ?_⟩
            rintro e V1 ⟨rfl, hb⟩
            exact ⟨_, rfl, rfl, hb⟩
          · exact sl_val rfl (fun l a V hp ha => ⟨.bool false, by
              have x42 := (ev_form a 42).trans (show a.eval (.tmp 42) = .bool true from kn hp ha 42 3 (by kernel_rfl) (by kernel_rfl))
              go_simp, rfl⟩)
        case hf =>
          intro l a W7 hp hall
          have hv := hp.good 4 _ 43 rfl rfl (hall 4 (by decide))
          have B7 : Hid (Below X4.heap.size X4 W7) := hide (btr (unhide B6) hp.j)
          have HT7 := hide ((unhide HT6).later RInt.keeps hp.j)
          obtain ⟨us3, rfl, hus⟩ := putAll_of [39, 40, 41, 42, 43] hp.nt hp.df (fun t ht => hp.keep t (dstIn (by kernel_rfl) ht))
          have hv2 : us3 43 = .bool false := by rw [hus 43]; exact hv
          clear hp hall hv hus LS3 HT6 EQ
          simp only [putAll, List.foldl, Act.put, List.setIfInBounds_toArray, List.set_cons_zero, List.set_cons_succ, hv2]
          go_wp2_with fail
          refine (unhide TI' _ (btr (unhide HB1) (btr (unhide B4) (unhide B7)))).mono ?_
          rintro e W8 ⟨⟨t8, rfl, ht8⟩, hb8⟩
          have B8 := hide (btr (unhide HB1) (btr (unhide B4) (btr (unhide B7) hb8)))
          have E8 := hide (unhide EI W8 _ _ ((unhide HT7).later RInt.keeps hb8) ht8)
          obtain ⟨a8, c8, rfl⟩ := ht8.slice
          clear hb8 ht8
          go_wp2_with fail
          refine (unhide E8).mono ?_
          rintro e W9 ⟨rfl, hb9⟩
          have B9 := hide (btr (unhide B8) hb9)
          clear hb9
          go_wp2
          exact bodyPost_ret (v := .bool true) (by simp [results, Try.results3, go_sem]) rfl ⟨rfl, unhide B9⟩
  · have hsz := szR_lt (s := szPacked x) (left := 1048576) (by omega)
    rw [hsz] at SZ
    clear TN TI
    go_enter Try.func3, Try.ntmps3
    go_wp2_with fail
    rw [← unhide HX1]
    obtain ⟨q0, q1, q2, q3, q4⟩ := unhide HCP X1 (brf _)
    go_wp2_with fail
    refine (unhide SZ _ (unhide HB1)).mono ?_
    rintro e W1 ⟨rfl, hb1⟩
    have HB := hide (btr (unhide HB1) hb1)
    clear hb1
    go_wp2
    exact bodyPost_ret (v := .bool true) (by simp [results, Try.results3, go_sem]) rfl ⟨rfl, unhide HB⟩
end Go.Proofs.Ytdmmbhemmbgcpad
