/- Both answer the same; the law: and what was handed in reads as it did. -/
import Derived.Test.YtdmmbhemmbgcpaaSA
import Derived.Test.YtdmmbhemmbgcpaaDS
import Derived.Test.YtdmmbhemmbgcpaaDT
import Derived.Test.YtdmmbhemmbgcpaaDE
namespace Go.Proofs.Ytdmmbhemmbgcpaa
open Go Go.RowKit Gs
set_option linter.unusedVariables false
set_option linter.unusedSimpArgs false
set_option maxRecDepth 100000
theorem pack_same (a : Packed) : packI a = packS a := by
  unfold packI packS nms portsB blocksB
  rw [show upB (blkSAt a.ins.length a.blocks a.clocks.length (a.ins.length + a.blocks.length)) a.blocks.length = upB (blkAt a.ins.length a.blocks a.clocks.length) a.blocks.length from by
    congr 1
    funext k
    exact blkS_eq _ _ _ _ _]
  rw [List.all_append]
  generalize countsA a = c1
  generalize upB _ a.blocks.length = c2
  generalize a.outs.all _ = c3
  generalize a.checks.all _ = c4
  generalize namesB (a.ins ++ a.clocks) = c7
  generalize namesB ((a.blocks.filter (·.reg)).map _) = c8
  generalize namesB (a.outs.map _) = c9
  generalize namesB (a.checks.map _) = c10
  cases c1 <;> cases c2 <;> cases c3 <;> cases c4 <;> cases c7 <;> cases c8 <;> cases c9 <;> cases c10 <;> rfl
theorem RPacked.later {n : Packed} {u : List Value} {w W : World} {B : Nat} (h : RPacked w B n u) (hb : Below w.heap.size w W) : RPacked W B n u := RPacked.keeps _ _ _ _ _ (later_cells hb B) h
theorem RPacked.any {n : Packed} {u : List Value} {w : World} {B : Nat} (h : RPacked w B n u) : RPacked w 0 n u := RPacked.lowers _ _ _ _ _ (Nat.zero_le _) h
/-- A world behind one that boxed 5 cells. -/
def B5 (t : TypeId) (w : World) (y0 y1 y2 y3 y4 : Value) (V : World) : Prop := Below (w.alloc (.cells #[y0, y1, y2, y3, y4] t)).heap.size (w.alloc (.cells #[y0, y1, y2, y3, y4] t)) V
theorem B5.get {t : TypeId} {w : World} {y0 y1 y2 y3 y4 : Value} {V : World} (h : B5 t w y0 y1 y2 y3 y4 V) : V.cell? ⟨w.heap.size, 0, none⟩ = some y0 ∧ V.cell? ⟨w.heap.size, 1, none⟩ = some y1 ∧ V.cell? ⟨w.heap.size, 2, none⟩ = some y2 ∧ V.cell? ⟨w.heap.size, 3, none⟩ = some y3 ∧ V.cell? ⟨w.heap.size, 4, none⟩ = some y4 :=
  ⟨cell_later h (by rw [World.cell?_alloc_new]; rfl), cell_later h (by rw [World.cell?_alloc_new]; rfl), cell_later h (by rw [World.cell?_alloc_new]; rfl), cell_later h (by rw [World.cell?_alloc_new]; rfl), cell_later h (by rw [World.cell?_alloc_new]; rfl)⟩
theorem B5.then {t : TypeId} {w : World} {y0 y1 y2 y3 y4 : Value} {V U : World} (h : B5 t w y0 y1 y2 y3 y4 V) (hb : Below V.heap.size V U) : B5 t w y0 y1 y2 y3 y4 U := btr h hb
theorem B5.below {t : TypeId} {w : World} {y0 y1 y2 y3 y4 : Value} {V : World} (h : B5 t w y0 y1 y2 y3 y4 V) : Below w.heap.size w V := btr (bal (brf w) _) h
def FL10 (v24 : Packed) (e1 e2 : Value) : Nat → World → Value → Prop
  | 0, W, v => v = e1
  | 1, W, v => v = e2
  | 2, W, v => ∃ u, v = .agg u ∧ RPacked W 0 v24 u.toList
  | 3, W, v => v = .bool true
  | 4, W, v => v = .bool false
  | _, _, _ => True
theorem FL10_lasts (v24 : Packed) (e1 e2 : Value) : Lasts (FL10 v24 e1 e2) := by
  intro k w w' v hb h
  match k, h with
  | 0, h => exact h
  | 1, h => exact h
  | 2, h => obtain ⟨u, e, hr⟩ := h; exact ⟨u, e, hr.later hb⟩
  | 3, h => exact h
  | 4, h => exact h
  | _ + 5, _ => trivial
set_option maxHeartbeats 16000000 in
theorem lPackOK (x : Packed) (u : List Value) (w : World) (hr : RPacked w 0 x u) :
    Calls Try.prog 3 #[.agg u.toArray] w fun e w' => e = .returned (.bool true) ∧ Below w.heap.size w w' := by
  have SZ := hide (fun (W : World) (hb : Below w.heap.size w W) => szPacked_of x u W 1048576 (Nat.le_refl _) (hr.later hb))
  have TN := hide (fun (hl : szPacked x ≤ 1048576) (W : World) (hb : Below w.heap.size w W) => toPacked_of x u W hl (hr.later hb))
  obtain ⟨v0, v1, v2, v3, v4, rfl, h0, h1, h2, h3, h4⟩ := hr
  obtain ⟨a0, c0, e0⟩ := h0.slice
  obtain ⟨a1, c1, e1⟩ := h1.slice
  obtain ⟨a2, c2, e2⟩ := h2.slice
  obtain ⟨a3, c3, e3⟩ := h3.slice
  obtain ⟨a4, c4, e4⟩ := h4.slice
  subst e0 e1 e2 e3 e4
  clear h0 h1 h2 h3 h4
  show Calls Try.prog 3 #[.agg #[.slice a0 x.ins.length c0, .slice a1 x.clocks.length c1, .slice a2 x.blocks.length c2, .slice a3 x.outs.length c3, .slice a4 x.checks.length c4]] w _
  change Hid (∀ (W : World), Below w.heap.size w W → Calls Try.prog 4 #[.agg #[.slice a0 x.ins.length c0, .slice a1 x.clocks.length c1, .slice a2 x.blocks.length c2, .slice a3 x.outs.length c3, .slice a4 x.checks.length c4], .int .i64 (1048576 : Int)] W _) at SZ
  change Hid (∀ (hl : szPacked x ≤ 1048576) (W : World), Below w.heap.size w W → Calls Try.prog 6 #[.agg #[.slice a0 x.ins.length c0, .slice a1 x.clocks.length c1, .slice a2 x.blocks.length c2, .slice a3 x.outs.length c3, .slice a4 x.checks.length c4]] W _) at TN
  by_cases hs : szPacked x ≤ 1048576
  · have hsz := szR_le hs
    have hneg : decide ((((1048576 - szPacked x : Nat) : Int)) < 0) = false := decide_eq_false (by omega)
    have TN' := hide (fun W hb => unhide TN hs W hb)
    rw [hsz] at SZ
    clear TN hsz
    generalize ((1048576 - szPacked x : Nat) : Int) = left at *
    go_enter Try.func3, Try.ntmps3
    go_wp2_with fail
    refine (unhide SZ _ (bal (brf w) _)).mono ?_
    rintro e W1 ⟨rfl, hb1⟩
    have HX1 : Hid (B5 26 w (.slice a0 x.ins.length c0) (.slice a1 x.clocks.length c1) (.slice a2 x.blocks.length c2) (.slice a3 x.outs.length c3) (.slice a4 x.checks.length c4) W1) := hide hb1
    clear hb1
    obtain ⟨q0, q1, q2, q3, q4⟩ := (unhide HX1).get
    go_wp2_with fail
    refine (unhide TN' _ (unhide HX1).below).mono ?_
    rintro e W2 ⟨⟨u1, rfl, hr1⟩, hb2, _⟩
    have HX2 := hide ((unhide HX1).then hb2)
    have HR1 := hide hr1.any
    clear hb2 hr1 q0 q1 q2 q3 q4
    obtain ⟨q0, q1, q2, q3, q4⟩ := (unhide HX2).get
    go_wp2_with fail
    refine (sPackOK x u1 _ hs (unhide HR1)).mono ?_
    rintro e W3 ⟨rfl, hb3⟩
    have HX3 := hide ((unhide HX2).then hb3)
    clear hb3 q0 q1 q2 q3 q4
    obtain ⟨q0, q1, q2, q3, q4⟩ := (unhide HX3).get
    go_wp2_with fail
    refine (unhide TN' _ (unhide HX3).below).mono ?_
    rintro e W4 ⟨⟨u2, rfl, hr2⟩, hb4, _⟩
    have HX4 := hide ((unhide HX3).then hb4)
    have HR2 := hide hr2.any
    obtain ⟨y0, y1, y2, y3, y4, rfl, g0, g1, g2, g3, g4⟩ := hr2
    obtain ⟨d0, f0, e0⟩ := g0.slice
    obtain ⟨d1, f1, e1⟩ := g1.slice
    obtain ⟨d2, f2, e2⟩ := g2.slice
    obtain ⟨d3, f3, e3⟩ := g3.slice
    obtain ⟨d4, f4, e4⟩ := g4.slice
    subst e0 e1 e2 e3 e4
    clear hb4 q0 q1 q2 q3 q4 g0 g1 g2 g3 g4
    obtain ⟨q0, q1, q2, q3, q4⟩ := (unhide HX4).get
    have IN := hide (fun W (h : RPacked W 0 x [.slice d0 x.ins.length f0, .slice d1 x.clocks.length f1, .slice d2 x.blocks.length f2, .slice d3 x.outs.length f3, .slice d4 x.checks.length f4]) => (show Calls Try.prog 7 #[.agg #[.slice d0 x.ins.length f0, .slice d1 x.clocks.length f1, .slice d2 x.blocks.length f2, .slice d3 x.outs.length f3, .slice d4 x.checks.length f4]] W _ from iPackOK x _ W hs h))
    have EQ := hide (fun W (u3 : Array Value) (h : RPacked W 0 x [.slice d0 x.ins.length f0, .slice d1 x.clocks.length f1, .slice d2 x.blocks.length f2, .slice d3 x.outs.length f3, .slice d4 x.checks.length f4]) (h3 : RPacked W 0 x u3.toList) => (show Calls Try.prog 8 #[.agg #[.slice d0 x.ins.length f0, .slice d1 x.clocks.length f1, .slice d2 x.blocks.length f2, .slice d3 x.outs.length f3, .slice d4 x.checks.length f4], .agg u3] W _ from eqPacked_of x _ u3.toList W h h3))
    rw [pack_same x] at IN
    generalize packS x = SB at *
    have hne : (SB != SB) = false := by simp
    go_wp2_with fail
    refine (unhide IN _ ((unhide HR2).later (bal (brf _) _))).mono ?_
    rintro e W5 ⟨rfl, hb5⟩
    have HY : Hid (B5 32 W4 (.slice d0 x.ins.length f0) (.slice d1 x.clocks.length f1) (.slice d2 x.blocks.length f2) (.slice d3 x.outs.length f3) (.slice d4 x.checks.length f4) W5) := hide hb5
    have HX5 := hide ((unhide HX4).then (unhide HY).below)
    have HR5 := hide ((unhide HR2).later (unhide HY).below)
    clear hb5 q0 q1 q2 q3 q4
    clear SZ IN HR1 HX1 HX2 HX3 HX4 hneg HR2
    go_wp2
    have LS := FL10_lasts x (.agg #[.slice d0 x.ins.length f0, .slice d1 x.clocks.length f1, .slice d2 x.blocks.length f2, .slice d3 x.outs.length f3, .slice d4 x.checks.length f4]) (.agg #[.slice a0 x.ins.length c0, .slice a1 x.clocks.length c1, .slice a2 x.blocks.length c2, .slice a3 x.outs.length c3, .slice a4 x.checks.length c4])
    refine wp_plan (GW (FL10 x (.agg #[.slice d0 x.ins.length f0, .slice d1 x.clocks.length f1, .slice d2 x.blocks.length f2, .slice d3 x.outs.length f3, .slice d4 x.checks.length f4]) (.agg #[.slice a0 x.ins.length c0, .slice a1 x.clocks.length c1, .slice a2 x.blocks.length c2, .slice a3 x.outs.length c3, .slice a4 x.checks.length c4]))) (JB W5) (by kernel_rfl) 27 (by kernel_rfl) (by kernel_rfl) ?hj ?hs ?hf
    case hj => exact bdr (brf W5)
    case hs =>
      refine ⟨?_, ?_, ?_, ?_, ?_, trivial⟩
      · exact sl_val rfl (fun l a V hp ha => ⟨.agg #[.slice d0 x.ins.length f0, .slice d1 x.clocks.length f1, .slice d2 x.blocks.length f2, .slice d3 x.outs.length f3, .slice d4 x.checks.length f4], by
          have x5 := (ev_form a 5).trans (old hp 5 (v := .pointer (some ⟨W4.heap.size, 0, none⟩)) (by kernel_rfl) (by kernel_rfl))
          obtain ⟨p0, p1, p2, p3, p4⟩ := ((unhide HY).then hp.j).get
          go_simp, rfl⟩)
      · exact sl_val rfl (fun l a V hp ha => ⟨.agg #[.slice a0 x.ins.length c0, .slice a1 x.clocks.length c1, .slice a2 x.blocks.length c2, .slice a3 x.outs.length c3, .slice a4 x.checks.length c4], by
          have x1 := (ev_form a 1).trans (old hp 1 (v := .pointer (some ⟨w.heap.size, 0, none⟩)) (by kernel_rfl) (by kernel_rfl))
          obtain ⟨p0, p1, p2, p3, p4⟩ := ((unhide HX5).then hp.j).get
          go_simp, rfl⟩)
      · exact sl_call (f := 6) LS rfl (fun l a V hp ha => ⟨#[.agg #[.slice a0 x.ins.length c0, .slice a1 x.clocks.length c1, .slice a2 x.blocks.length c2, .slice a3 x.outs.length c3, .slice a4 x.checks.length c4]], by
          have x23 := (ev_form a 23).trans (show a.eval (.tmp 23) = .agg #[.slice a0 x.ins.length c0, .slice a1 x.clocks.length c1, .slice a2 x.blocks.length c2, .slice a3 x.outs.length c3, .slice a4 x.checks.length c4] from kn hp ha 23 1 (by kernel_rfl) (by kernel_rfl))
          go_simp, (unhide TN' V (btr (unhide HX5).below hp.j)).mono (by rintro e V1 ⟨⟨u3, rfl, hr3⟩, hb, _⟩; exact ⟨_, rfl, ⟨u3.toArray, rfl, by simpa using hr3.any⟩, hb⟩)⟩)
      · refine sl_call (f := 8) LS rfl (fun l a V hp ha => ?_)
        have x22 := (ev_form a 22).trans (show a.eval (.tmp 22) = .agg #[.slice d0 x.ins.length f0, .slice d1 x.clocks.length f1, .slice d2 x.blocks.length f2, .slice d3 x.outs.length f3, .slice d4 x.checks.length f4] from kn hp ha 22 0 (by kernel_rfl) (by kernel_rfl))
        obtain ⟨u3, h24, hr3⟩ : ∃ u3, a.eval (.tmp 24) = .agg u3 ∧ RPacked V 0 x u3.toList := kn hp ha 24 2 (by kernel_rfl) (by kernel_rfl)
        have x24 := (ev_form a 24).trans h24
        refine ⟨#[.agg #[.slice d0 x.ins.length f0, .slice d1 x.clocks.length f1, .slice d2 x.blocks.length f2, .slice d3 x.outs.length f3, .slice d4 x.checks.length f4], .agg u3], by go_simp, (unhide EQ V u3 ((unhide HR5).later hp.j) hr3).mono ?_⟩
        rintro e V1 ⟨rfl, hb⟩
        exact ⟨_, rfl, rfl, hb⟩
      · exact sl_val rfl (fun l a V hp ha => ⟨.bool false, by
          have x25 := (ev_form a 25).trans (show a.eval (.tmp 25) = .bool true from kn hp ha 25 3 (by kernel_rfl) (by kernel_rfl))
          go_simp, rfl⟩)
    case hf =>
      intro l a V hp hall
      have hv := hp.good 4 _ 26 rfl rfl (hall 4 (by decide))
      have HBV := hide (btr (unhide HX5).below hp.j)
      obtain ⟨us, rfl, hus⟩ := putAll_of [22, 23, 24, 25, 26] hp.nt hp.df (fun t ht => hp.keep t (dstIn (by kernel_rfl) ht))
      have hv2 : us 26 = .bool false := by rw [hus 26]; exact hv
      clear hp hall hv hus
      simp only [putAll, List.foldl, Act.put, List.setIfInBounds_toArray, List.set_cons_zero, List.set_cons_succ, hv2]
      go_wp2
      exact bodyPost_ret (v := .bool true) (by simp [results, Try.results3, go_sem]) rfl ⟨rfl, unhide HBV⟩
  · have hsz := szR_lt (s := szPacked x) (left := 1048576) (by omega)
    rw [hsz] at SZ
    clear TN
    go_enter Try.func3, Try.ntmps3
    go_wp2_with fail
    refine (unhide SZ _ (bal (brf w) _)).mono ?_
    rintro e W1 ⟨rfl, hb1⟩
    have HB := hide (btr (bal (brf w) _) hb1)
    clear hb1
    go_wp2
    go_ret
    exact ⟨rfl, unhide HB⟩
end Go.Proofs.Ytdmmbhemmbgcpaa
