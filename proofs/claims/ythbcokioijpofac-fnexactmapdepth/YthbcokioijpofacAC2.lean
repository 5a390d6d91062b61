/- countsFit. -/
import Derived.Test.YthbcokioijpofacAC1
import Derived.Test.YthbcokioijpofacRW2
namespace Go.Proofs.Ythbcokioijpofac
open Go Go.RowKit Gs
set_option linter.unusedVariables false
set_option linter.unusedSimpArgs false
set_option maxRecDepth 100000
def FCN (s0 s1 s2 s3 s4 s5 : Option Addr) (l0 l1 l2 l3 l4 l5 c0 c1 c2 c3 c4 c5 : Nat) (B : Nat) (M : Int) : Nat → Value → Prop
  | 0, v => v = .agg #[.slice s0 l0 c0, .slice s1 l1 c1, .slice s2 l2 c2, .slice s3 l3 c3, .slice s4 l4 c4, .slice s5 l5 c5]
  | 1, v => v = .int .i64 ((l0 + l2 : Nat) : Int)
  | 2, v => v = .pointer (some ⟨B, 4, none⟩)
  | 3, v => v = .slice s4 l4 c4
  | 4, v => v = .int .i64 (l4 : Int)
  | 5, v => v = .pointer (some ⟨B, 5, none⟩)
  | 6, v => v = .slice s5 l5 c5
  | 7, v => v = .int .i64 (l5 : Int)
  | 8, v => v = .int .i64 M
  | 9, v => v = .bool (decide (M ≤ 2048))
  | 10, v => v = .bool (decide (M ≤ 2048))
  | _, _ => True
set_option maxHeartbeats 3200000 in
theorem iCounts (s0 s1 s2 s3 s4 s5 : Option Addr) (l0 l1 l2 l3 l4 l5 c0 c1 c2 c3 c4 c5 : Nat) (w : World) (h0 : l0 ≤ 1048576) (h1 : l1 ≤ 1048576) (h2 : l2 ≤ 1048576) (h3 : l3 ≤ 1048576) (h4 : l4 ≤ 1048576) (h5 : l5 ≤ 1048576) :
    Calls Try.prog 33 #[.agg #[.slice s0 l0 c0, .slice s1 l1 c1, .slice s2 l2 c2, .slice s3 l3 c3, .slice s4 l4 c4, .slice s5 l5 c5]] w fun e w' => e = .returned (.bool (countsN l0 l1 l2 l3 l4 l5)) ∧ Below w.heap.size w w' := by
  by_cases k3 : (l3 : Int) > 1024
  · have HR : Hid (countsN l0 l1 l2 l3 l4 l5 = false) := hide (by unfold countsN; rw [decide_eq_false (p := l3 ≤ 1024) (by omega)]; rfl)
    go_enter Try.func33, Try.ntmps33
    go_wp2
    exact bodyPost_ret (v := .bool false) (by simp [results, Try.results33, go_sem]) rfl ⟨by rw [unhide HR], bal (brf w) _⟩
  · by_cases k1 : (l1 : Int) > 8
    · have HR : Hid (countsN l0 l1 l2 l3 l4 l5 = false) := hide (by unfold countsN; rw [decide_eq_false (p := l1 ≤ 8) (by omega)]; simp)
      have k3' : decide ((1024 : Int) < l3) = false := decide_eq_false (by omega)
      go_enter Try.func33, Try.ntmps33
      go_wp2
      exact bodyPost_ret (v := .bool false) (by simp [results, Try.results33, go_sem]) rfl ⟨by rw [unhide HR], bal (brf w) _⟩
    · obtain ⟨M, hM⟩ : ∃ M : Int, M = (if (if ((l0 + l2 : Nat) : Int) < (l4 : Int) then (l4 : Int) else ((l0 + l2 : Nat) : Int)) < (l5 : Int) then (l5 : Int) else (if ((l0 + l2 : Nat) : Int) < (l4 : Int) then (l4 : Int) else ((l0 + l2 : Nat) : Int))) := ⟨_, rfl⟩
      have HR : Hid (countsN l0 l1 l2 l3 l4 l5 = decide (M ≤ 2048)) := hide (by
        unfold countsN
        rw [decide_eq_true (p := l1 ≤ 8) (by omega), decide_eq_true (p := l3 ≤ 1024) (by omega), hM, Bool.eq_iff_iff]
        simp only [Bool.true_and, Bool.and_eq_true, decide_eq_true_eq]
        split <;> split <;> omega)
      have k3' : decide ((1024 : Int) < l3) = false := decide_eq_false (by omega)
      have k1' : decide ((8 : Int) < l1) = false := decide_eq_false (by omega)
      have HM := hide hM
      have HC1 : Hid (∀ V, Below (w.alloc (.cells #[.slice s0 l0 c0, .slice s1 l1 c1, .slice s2 l2 c2, .slice s3 l3 c3, .slice s4 l4 c4, .slice s5 l5 c5] 34)).heap.size (w.alloc (.cells #[.slice s0 l0 c0, .slice s1 l1 c1, .slice s2 l2 c2, .slice s3 l3 c3, .slice s4 l4 c4, .slice s5 l5 c5] 34)) V → V.cell? ⟨w.heap.size, 0, none⟩ = some (.slice s0 l0 c0) ∧ V.cell? ⟨w.heap.size, 1, none⟩ = some (.slice s1 l1 c1) ∧ V.cell? ⟨w.heap.size, 2, none⟩ = some (.slice s2 l2 c2) ∧ V.cell? ⟨w.heap.size, 3, none⟩ = some (.slice s3 l3 c3) ∧ V.cell? ⟨w.heap.size, 4, none⟩ = some (.slice s4 l4 c4) ∧ V.cell? ⟨w.heap.size, 5, none⟩ = some (.slice s5 l5 c5)) := hide (fun V hb => ⟨cell_later hb (by rw [World.cell?_alloc_new]; rfl), cell_later hb (by rw [World.cell?_alloc_new]; rfl), cell_later hb (by rw [World.cell?_alloc_new]; rfl), cell_later hb (by rw [World.cell?_alloc_new]; rfl), cell_later hb (by rw [World.cell?_alloc_new]; rfl), cell_later hb (by rw [World.cell?_alloc_new]; rfl)⟩)
      clear hM
      go_enter Try.func33, Try.ntmps33
      go_wp2
      obtain ⟨W, hW⟩ : ∃ W, W = w.alloc (.cells #[.slice s0 l0 c0, .slice s1 l1 c1, .slice s2 l2 c2, .slice s3 l3 c3, .slice s4 l4 c4, .slice s5 l5 c5] 34) := ⟨_, rfl⟩
      have HW := hide hW
      have HB : Hid (Below w.heap.size w W) := hide (by rw [hW]; exact bal (brf w) _)
      rw [← hW]
      clear hW k3' k1' k3 k1
      refine wp_plan (GF (FCN s0 s1 s2 s3 s4 s5 l0 l1 l2 l3 l4 l5 c0 c1 c2 c3 c4 c5 w.heap.size M)) (JB W) (by kernel_rfl) 23 (by kernel_rfl) (by kernel_rfl) ?hj ?hs ?hf
      case hj => exact bdr (brf W)
      case hs =>
        refine ⟨?_, ?_, ?_, ?_, ?_, ?_, ?_, ?_, ?_, ?_, ?_, trivial⟩
        · exact st_val rfl (fun l a V hp ha => ⟨.agg #[.slice s0 l0 c0, .slice s1 l1 c1, .slice s2 l2 c2, .slice s3 l3 c3, .slice s4 l4 c4, .slice s5 l5 c5], by
            have x1 := (ev_form a 1).trans (old hp 1 (v := .pointer (some ⟨w.heap.size, 0, none⟩)) (by kernel_rfl) (by kernel_rfl))
            obtain ⟨q0, q1, q2, q3, q4, q5⟩ := unhide HC1 V (by rw [← unhide HW]; exact hp.j)
            go_simp, rfl⟩)
        · exact st_call (f := 19) rfl (fun l a V hp ha => ⟨#[.agg #[.slice s0 l0 c0, .slice s1 l1 c1, .slice s2 l2 c2, .slice s3 l3 c3, .slice s4 l4 c4, .slice s5 l5 c5]], by
            have x13 := (ev_form a 13).trans (show a.eval (.tmp 13) = .agg #[.slice s0 l0 c0, .slice s1 l1 c1, .slice s2 l2 c2, .slice s3 l3 c3, .slice s4 l4 c4, .slice s5 l5 c5] from kn hp ha 13 0 (by kernel_rfl) (by kernel_rfl))
            go_simp, (iFirst s0 s2 l0 l2 c0 c2 _ _ _ _ V h0 h2).mono (by rintro e V1 ⟨rfl, hb⟩; exact ⟨_, rfl, rfl, hb⟩)⟩)
        · exact st_val rfl (fun l a V hp ha => ⟨.pointer (some ⟨w.heap.size, 4, none⟩), by
            have x1 := (ev_form a 1).trans (old hp 1 (v := .pointer (some ⟨w.heap.size, 0, none⟩)) (by kernel_rfl) (by kernel_rfl))
            go_simp, rfl⟩)
        · exact st_val rfl (fun l a V hp ha => ⟨.slice s4 l4 c4, by
            have x15 := (ev_form a 15).trans (show a.eval (.tmp 15) = .pointer (some ⟨w.heap.size, 4, none⟩) from kn hp ha 15 2 (by kernel_rfl) (by kernel_rfl))
            obtain ⟨q0, q1, q2, q3, q4, q5⟩ := unhide HC1 V (by rw [← unhide HW]; exact hp.j)
            go_simp, rfl⟩)
        · exact st_val rfl (fun l a V hp ha => ⟨.int .i64 (l4 : Int), by
            have x16 := (ev_form a 16).trans (show a.eval (.tmp 16) = .slice s4 l4 c4 from kn hp ha 16 3 (by kernel_rfl) (by kernel_rfl))
            go_simp, rfl⟩)
        · exact st_val rfl (fun l a V hp ha => ⟨.pointer (some ⟨w.heap.size, 5, none⟩), by
            have x1 := (ev_form a 1).trans (old hp 1 (v := .pointer (some ⟨w.heap.size, 0, none⟩)) (by kernel_rfl) (by kernel_rfl))
            go_simp, rfl⟩)
        · exact st_val rfl (fun l a V hp ha => ⟨.slice s5 l5 c5, by
            have x18 := (ev_form a 18).trans (show a.eval (.tmp 18) = .pointer (some ⟨w.heap.size, 5, none⟩) from kn hp ha 18 5 (by kernel_rfl) (by kernel_rfl))
            obtain ⟨q0, q1, q2, q3, q4, q5⟩ := unhide HC1 V (by rw [← unhide HW]; exact hp.j)
            go_simp, rfl⟩)
        · exact st_val rfl (fun l a V hp ha => ⟨.int .i64 (l5 : Int), by
            have x19 := (ev_form a 19).trans (show a.eval (.tmp 19) = .slice s5 l5 c5 from kn hp ha 19 6 (by kernel_rfl) (by kernel_rfl))
            go_simp, rfl⟩)
        · exact st_val rfl (fun l a V hp ha => ⟨.int .i64 M, by
            have x14 := (ev_form a 14).trans (show a.eval (.tmp 14) = .int .i64 ((l0 + l2 : Nat) : Int) from kn hp ha 14 1 (by kernel_rfl) (by kernel_rfl))
            have x17 := (ev_form a 17).trans (show a.eval (.tmp 17) = .int .i64 (l4 : Int) from kn hp ha 17 4 (by kernel_rfl) (by kernel_rfl))
            have x20 := (ev_form a 20).trans (show a.eval (.tmp 20) = .int .i64 (l5 : Int) from kn hp ha 20 7 (by kernel_rfl) (by kernel_rfl))
            have hM := unhide HM
            go_simp, rfl⟩)
        · exact st_val rfl (fun l a V hp ha => ⟨.bool (decide (M ≤ 2048)), by
            have x21 := (ev_form a 21).trans (show a.eval (.tmp 21) = .int .i64 M from kn hp ha 21 8 (by kernel_rfl) (by kernel_rfl))
            go_simp, rfl⟩)
        · exact st_val rfl (fun l a V hp ha => ⟨.bool (decide (M ≤ 2048)), by
            have x22 := (ev_form a 22).trans (show a.eval (.tmp 22) = .bool (decide (M ≤ 2048)) from kn hp ha 22 9 (by kernel_rfl) (by kernel_rfl))
            go_simp, rfl⟩)

      case hf =>
        intro l a V hp hall
        have hv := hp.good 10 _ 2 rfl rfl (hall 10 (by decide))
        have HBV := hide (btr (unhide HB) hp.j)
        obtain ⟨us, rfl, hus⟩ := putAll_of [13, 14, 15, 16, 17, 18, 19, 20, 21, 22, 2] hp.nt hp.df (fun t ht => hp.keep t (dstIn (by kernel_rfl) ht))
        have hu2 : us 2 = .bool (decide (M ≤ 2048)) := (hus 2).trans hv
        clear hp hall hv hus
        simp only [putAll, List.foldl, Act.put, List.setIfInBounds_toArray, List.set_cons_zero, List.set_cons_succ, hu2]
        clear hu2
        go_wp2
        exact bodyPost_ret (v := .bool (decide (M ≤ 2048))) (by simp [results, Try.results33, go_sem]) rfl ⟨by rw [unhide HR], unhide HBV⟩
end Go.Proofs.Ythbcokioijpofac
