/- The specification's shape: what reads a signal that is there, 32. -/
import Derived.Test.YtgkfhaahcedbpaaGSHd
namespace Go.Proofs.Ytgkfhaahcedbpaa
open Go Go.RowKit Gs
set_option linter.unusedVariables false
set_option linter.unusedSimpArgs false
set_option maxRecDepth 100000
set_option maxHeartbeats 16000000
theorem sShIn32 (width : Int) (k : Nat) (sd : Bool) (s : ByteArray) (a : Option Addr) (l c : Nat) (pb sb so sl sc : Nat) (g : Signal) (W : World) (hk : k < sl) (hsl : sl ≤ 1048576) (hl : l ≤ maxLen) (h0 : W.cell? ⟨pb, 0, none⟩ = some (.slice (some ⟨sb, so, none⟩) sl sc))
    (g0 : W.cell? ⟨sb, so + k * 6, none⟩ = some (.string g.name)) (g1 : W.cell? ⟨sb, so + k * 6 + 1, none⟩ = some (.int .i64 g.kind)) (g2 : W.cell? ⟨sb, so + k * 6 + 2, none⟩ = some (.int .i64 g.width)) (g3 : W.cell? ⟨sb, so + k * 6 + 3, none⟩ = some (.int .i64 g.depth)) (g4 : W.cell? ⟨sb, so + k * 6 + 4, none⟩ = some (.bool g.signed)) (g5 : W.cell? ⟨sb, so + k * 6 + 5, none⟩ = some (.string g.init)) :
    Calls Try.prog 35 #[.pointer (some ⟨pb, 0, none⟩), .agg #[.int .i64 32, .int .i64 width, .int .i64 (k : Int), .bool sd, .string s, .slice a l c]] W fun e w' => e = .returned (.bool (sigB g 32 width l)) ∧ Below W.heap.size W w' := by
  unfold maxLen at hl
  obtain ⟨X, hX⟩ : ∃ X, X = W.alloc (.cells #[.int .i64 32, .int .i64 width, .int .i64 (k : Int), .bool sd, .string s, .slice a l c] 72) := ⟨_, rfl⟩
  have hb : Below W.heap.size W X := by rw [hX]; exact bal (brf W) _
  have HXB := hide hb
  have HS1 := hide (fun (V : World) (h : Below X.heap.size X V) => cell_later (btr hb h) h0)
  have HN1 := hide (fun (V : World) (h : Below X.heap.size X V) => cell_later h (show X.cell? ⟨W.heap.size, 2, none⟩ = some (.int .i64 (k : Int)) by rw [hX, World.cell?_alloc_new]; rfl))
  have HG1 := hide (fun (V : World) (h : Below X.heap.size X V) => And.intro (cell_later (btr hb h) g0) (And.intro (cell_later (btr hb h) g1) (And.intro (cell_later (btr hb h) g2) (And.intro (cell_later (btr hb h) g3) (And.intro (cell_later (btr hb h) g4) (cell_later (btr hb h) g5))))))
  have HE := hide (fun (V : World) (h : Below X.heap.size X V) => (show V.cell? ⟨W.heap.size, 0, none⟩ = some (.int .i64 32) ∧ V.cell? ⟨W.heap.size, 1, none⟩ = some (.int .i64 width) ∧ V.cell? ⟨W.heap.size, 5, none⟩ = some (.slice a l c) from by
    refine ⟨cell_later h ?_, cell_later h ?_, cell_later h ?_⟩ <;> (rw [hX, World.cell?_alloc_new]; rfl)))
  have m0 := unhide HS1 X (brf X)
  rw [hX] at m0
  clear hb h0 g0 g1 g2 g3 g4 g5
  have hn0 : ¬ ((k : Int) < 0) := by omega
  have hn1 : ¬ ((sl : Int) ≤ (k : Int)) := by omega
  have i1 : (0 : Int) ≤ (k : Int) := by omega
  have i2 : (k : Int) < (sl : Int) := by omega
  have HS := hide (show sigB g 32 width l = (decide (l = 1) && (decide (g.kind ≠ 5) && decide (width = 1))) from rfl)
  generalize sigB g 32 width l = R at *
  have HX := hide hX
  clear hX
  go_enter Try.func35, Try.ntmps35
  go_wp2
  go_quiet (fail)
  go_wp2
  obtain ⟨W0, hW0⟩ : ∃ W0, W0 = X.drewN nq := ⟨_, rfl⟩
  rw [← unhide HX, ← hW0]
  have HB0 : Hid (Below X.heap.size X W0) := hide (by rw [hW0]; exact bdn (brf X))
  have HS0 := hide (fun (V : World) (h : Below W0.heap.size W0 V) => unhide HS1 V (btr (unhide HB0) h))
  have HN0 := hide (fun (V : World) (h : Below W0.heap.size W0 V) => unhide HN1 V (btr (unhide HB0) h))
  have HG0 := hide (fun (V : World) (h : Below W0.heap.size W0 V) => unhide HG1 V (btr (unhide HB0) h))
  clear hW0 m0
  refine wp_plan (GZ (FSg35 pb sb so sl sc (W.heap.size) k g W0.heap.size) (FSg35b g W0.heap.size) 10) (JE W0 10 (fun V => Below W0.heap.size W0 V)) (by kernel_rfl) 335 (by kernel_rfl) (by kernel_rfl) ?hj ?hs ?hf
  case hj => exact JE.start (bdr (brf W0))
  case hs =>
    refine ⟨?_, ?_, ?_, ?_, ?_, ?_, ?_, ?_, ?_, ?_, ?_, trivial⟩
    · exact sz_val (by decide) (by kernel_rfl) rfl (fun l a V hp hl hB ha => ⟨.pointer (some ⟨pb, 0, none⟩), by
        have x0 := (ev_form a 0).trans (old hp 0 (v := .pointer (some ⟨pb, 0, none⟩)) (by kernel_rfl) (by kernel_rfl))
        go_simp, rfl⟩)
    · exact sz_val (by decide) (by kernel_rfl) rfl (fun l a V hp hl hB ha => ⟨.pointer (some ⟨pb, 0, none⟩), by
        have x278 := (ev_form a 278).trans (show a.eval (.tmp 278) = .pointer (some ⟨pb, 0, none⟩) from (kn hp ha 278 0 (by kernel_rfl) (by kernel_rfl)).1 hl)
        go_simp, rfl⟩)
    · exact sz_val (by decide) (by kernel_rfl) rfl (fun l a V hp hl hB ha => ⟨.pointer (some ⟨pb, 0, none⟩), by
        have x279 := (ev_form a 279).trans (show a.eval (.tmp 279) = .pointer (some ⟨pb, 0, none⟩) from (kn hp ha 279 1 (by kernel_rfl) (by kernel_rfl)).1 hl)
        go_simp, rfl⟩)
    · exact sz_val (by decide) (by kernel_rfl) rfl (fun l a V hp hl hB ha => ⟨.pointer (some ⟨pb, 0, none⟩), by
        have x280 := (ev_form a 280).trans (show a.eval (.tmp 280) = .pointer (some ⟨pb, 0, none⟩) from (kn hp ha 280 2 (by kernel_rfl) (by kernel_rfl)).1 hl)
        go_simp, rfl⟩)
    · exact sz_val (by decide) (by kernel_rfl) rfl (fun l a V hp hl hB ha => ⟨.slice (some ⟨sb, so, none⟩) sl sc, by
        have x281 := (ev_form a 281).trans (show a.eval (.tmp 281) = .pointer (some ⟨pb, 0, none⟩) from (kn hp ha 281 3 (by kernel_rfl) (by kernel_rfl)).1 hl)
        have k0 := unhide HS0 V hB
        go_simp, rfl⟩)
    · exact sz_val (by decide) (by kernel_rfl) rfl (fun l a V hp hl hB ha => ⟨.pointer (some ⟨W.heap.size, 2, none⟩), by
        have x3 := (ev_form a 3).trans (old hp 3 (v := .pointer (some ⟨W.heap.size, 0, none⟩)) (by kernel_rfl) (by kernel_rfl))
        go_simp, rfl⟩)
    · exact sz_val (by decide) (by kernel_rfl) rfl (fun l a V hp hl hB ha => ⟨.int .i64 (k : Int), by
        have x283 := (ev_form a 283).trans (show a.eval (.tmp 283) = .pointer (some ⟨W.heap.size, 2, none⟩) from (kn hp ha 283 5 (by kernel_rfl) (by kernel_rfl)).1 hl)
        have k0 := unhide HN0 V hB
        go_simp, rfl⟩)
    · exact sz_val (by decide) (by kernel_rfl) rfl (fun l a V hp hl hB ha => ⟨.pointer (some ⟨sb, so + k * 6, none⟩), by
        have x282 := (ev_form a 282).trans (show a.eval (.tmp 282) = .slice (some ⟨sb, so, none⟩) sl sc from (kn hp ha 282 4 (by kernel_rfl) (by kernel_rfl)).1 hl)
        have x284 := (ev_form a 284).trans (show a.eval (.tmp 284) = .int .i64 (k : Int) from (kn hp ha 284 6 (by kernel_rfl) (by kernel_rfl)).1 hl)
        go_simp, rfl⟩)
    · exact sz_val (by decide) (by kernel_rfl) rfl (fun l a V hp hl hB ha => ⟨.agg #[.string g.name, .int .i64 g.kind, .int .i64 g.width, .int .i64 g.depth, .bool g.signed, .string g.init], by
        have x285 := (ev_form a 285).trans (show a.eval (.tmp 285) = .pointer (some ⟨sb, so + k * 6, none⟩) from (kn hp ha 285 7 (by kernel_rfl) (by kernel_rfl)).1 hl)
        obtain ⟨k0, k1, k2, k3, k4, k5⟩ := unhide HG0 V hB
        go_simp, rfl⟩)
    · exact sz_new (FSg35.lasts _ _ _ _ _ _ _ _ _) (by decide) (by kernel_rfl) rfl (fun l a V hp hl hB ha => ⟨.pointer (some ⟨V.heap.size, 0, none⟩), .cells #[.string ByteArray.empty, .int .i64 0, .int .i64 0, .int .i64 0, .bool false, .string ByteArray.empty] 38, by
        go_simp <;> rfl, V.heap.size, rfl, by simp, hB.size, fun i hi => by
          have := TP_made V #[.string ByteArray.empty, .int .i64 0, .int .i64 0, .int .i64 0, .bool false, .string ByteArray.empty] 38 6 rfl i hi
          exact this⟩)
    · refine sz_last rfl (fun l a V hp hl hB ha => ?_)
      have x286 := (ev_form a 286).trans (show a.eval (.tmp 286) = .agg #[.string g.name, .int .i64 g.kind, .int .i64 g.width, .int .i64 g.depth, .bool g.signed, .string g.init] from (kn hp ha 286 8 (by kernel_rfl) (by kernel_rfl)).1 hl)
      obtain ⟨M, hM, hM1, hM2, hM3⟩ := (kn hp ha 9 9 (by kernel_rfl) (by kernel_rfl)).1 hl
      have x9 := (ev_form a 9).trans hM
      obtain ⟨⟨y0, r0⟩, f0⟩ := hM3 0 (by decide)
      obtain ⟨⟨y1, r1⟩, f1⟩ := hM3 1 (by decide)
      obtain ⟨⟨y2, r2⟩, f2⟩ := hM3 2 (by decide)
      obtain ⟨⟨y3, r3⟩, f3⟩ := hM3 3 (by decide)
      obtain ⟨⟨y4, r4⟩, f4⟩ := hM3 4 (by decide)
      obtain ⟨⟨y5, r5⟩, f5⟩ := hM3 5 (by decide)
      refine ⟨setK V M 0 [.string g.name, .int .i64 g.kind, .int .i64 g.width, .int .i64 g.depth, .bool g.signed, .string g.init], by simp only [setK]; go_simp, setK_below _ hB hM2, trivial, ?_⟩
      intro q dd hd hv
      match q, hd, hv with
      | 0, _, _ => exact trivial
      | 1, _, _ => exact trivial
      | 2, _, _ => exact trivial
      | 3, _, _ => exact trivial
      | 4, _, _ => exact trivial
      | 5, _, _ => exact trivial
      | 6, _, _ => exact trivial
      | 7, _, _ => exact trivial
      | 8, _, _ => exact trivial
      | 9, hd, _ =>
        have hd2 : some 9 = some dd := hd
        injection hd2 with hd3
        subst hd3
        refine ⟨M, hM, hM2, setK_at _ _ _ _ (fun i hi => ?_)⟩
        rw [Nat.zero_add]
        exact (hM3 i hi).1
      | _ + 10, _, _ => exact trivial
  case hf =>
    intro lb ab V hp hall
    have hE := hp.j.2 (hall 10 (by decide))
    obtain ⟨M, hM, hM2, hat⟩ := (hp.good 9 _ 9 rfl rfl (hall 9 (by decide))).2 (hall 10 (by decide))
    obtain ⟨us1, rfl, hus⟩ := putAll_of [278, 279, 280, 281, 282, 283, 284, 285, 286, 9] hp.nt hp.df (fun t ht => hp.keep t (dstIn (by kernel_rfl) ht))
    have h9 : us1 9 = .pointer (some ⟨M, 0, none⟩) := by rw [hus 9]; exact hM
    clear hp hall hus
    simp only [putAll, List.foldl, Act.put, List.setIfInBounds_toArray, List.set_cons_zero, List.set_cons_succ, h9]
    have n0 := hat.get (j := 0) rfl
    have n1 := hat.get (j := 1) rfl
    have n2 := hat.get (j := 2) rfl
    have n3 := hat.get (j := 3) rfl
    have n4 := hat.get (j := 4) rfl
    have n5 := hat.get (j := 5) rfl
    simp only [Nat.zero_add] at n0 n1 n2 n3 n4 n5

    have HBV := hide (btr (unhide HXB) (btr (unhide HB0) hE))
    obtain ⟨e0, e1, e5⟩ := unhide HE V (btr (unhide HB0) hE)
    clear hE hat h9 hM
    generalize g.name = y0 at *
    generalize g.kind = y1 at *
    generalize g.width = y2 at *
    generalize g.depth = y3 at *
    generalize g.signed = y4 at *
    generalize g.init = y5 at *
    by_cases hl0 : l = 1
    · subst hl0
      by_cases h5 : y1 = 5
      · subst h5
        go_wp2
        go_ret
        refine ⟨ret_bool ?_, by first | exact unhide HBV | exact bdr (unhide HBV)⟩
        rw [unhide HS]
        first | rfl | simp | simp_all
      · have b5 : (y1 == 5) = false := beq_eq_false_iff_ne.2 h5
        have b6 : (y1 != 5) = true := bne_iff_ne.2 h5
        have d5 : decide (y1 = 5) = false := decide_eq_false h5
        go_wp2
        go_ret
        refine ⟨ret_bool ?_, by first | exact unhide HBV | exact bdr (unhide HBV)⟩
        rw [unhide HS]
        first | rfl | (simp [h5]; done) | (simp [h5]; rfl)
    · have bl : ((l : Int) == 1) = false := beq_eq_false_iff_ne.2 (by omega)
      have bl2 : ((l : Int) != 1) = true := bne_iff_ne.2 (by omega)
      have hd : decide (l = 1) = false := decide_eq_false hl0
      go_wp2
      go_ret
      refine ⟨ret_bool ?_, by first | exact unhide HBV | exact bdr (unhide HBV)⟩
      rw [unhide HS, hd]
      rfl
end Go.Proofs.Ytgkfhaahcedbpaa
