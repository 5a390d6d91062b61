/- The literals that are ends, and the lists of names: regions that draw. -/
import Derived.Test.YtnoklbnacfmpdacAG
import Derived.Test.YtnoklbnacfmpdacAL
import Derived.Test.YtnoklbnacfmpdacRWa
namespace Go.Proofs.Ytnoklbnacfmpdac
open Go Go.RowKit Gs
set_option linter.unusedVariables false
set_option linter.unusedSimpArgs false
set_option maxRecDepth 100000
theorem OI.low {B B' : Nat} {v : Value} {xs : List Int} {W : World} (h : OI B W v xs) (hB : B' ≤ B) : OI B' W v xs := by
  obtain ⟨h1, h2 | ⟨g, cap, cur, hv, hg, rest⟩⟩ := h
  · exact ⟨h1, .inl h2⟩
  · exact ⟨h1, .inr ⟨g, cap, cur, hv, Nat.le_trans hB hg, rest⟩⟩
theorem OS.low {B B' : Nat} {v : Value} {xs : List ByteArray} {W : World} (h : OS B W v xs) (hB : B' ≤ B) : OS B' W v xs := by
  obtain ⟨⟨h1, h2 | ⟨g, cap, cur, hv, hg, rest⟩⟩, h3⟩ := h
  · exact ⟨⟨h1, .inl h2⟩, h3⟩
  · exact ⟨⟨h1, .inr ⟨g, cap, cur, hv, Nat.le_trans hB hg, rest⟩⟩, h3⟩
def EF (B N : Nat) (v2 v4 v5 : Value) (xs4 xs5 : List Pin) (xs2 : List Latch) : Nat → World → Value → Prop
  | 0, W, v => v = .pointer (some ⟨B, 4, none⟩)
  | 1, W, v => v = v4
  | 2, W, v => v = .func (.func 72) #[] #[]
  | 3, W, v => OI N W v (xs4.map (fun p : Pin => p.lit))
  | 4, W, v => v = .pointer (some ⟨B, 5, none⟩)
  | 5, W, v => v = v5
  | 6, W, v => v = .func (.func 72) #[] #[]
  | 7, W, v => OI N W v (xs5.map (fun p : Pin => p.lit))
  | 8, W, v => v = .pointer (some ⟨B, 2, none⟩)
  | 9, W, v => v = v2
  | 10, W, v => OI N W v (xs2.map (fun l : Latch => l.next))
  | 11, W, v => RS 1 (RL 1 RInt) W 0 [xs4.map (fun p : Pin => p.lit), xs5.map (fun p : Pin => p.lit), xs2.map (fun l : Latch => l.next)] v
  | 12, W, v => OI N W v (List.flatten [xs4.map (fun p : Pin => p.lit), xs5.map (fun p : Pin => p.lit), xs2.map (fun l : Latch => l.next)])
  | 13, W, v => OI N W v (List.flatten [xs4.map (fun p : Pin => p.lit), xs5.map (fun p : Pin => p.lit), xs2.map (fun l : Latch => l.next)])
  | _, _, _ => True
theorem EF_lasts (B N : Nat) (v2 v4 v5 : Value) (xs4 xs5 : List Pin) (xs2 : List Latch) : Lasts (EF B N v2 v4 v5 xs4 xs5 xs2) := by
  intro k w w' v hb h
  match k, h with
  | 0, h => exact h
  | 1, h => exact h
  | 2, h => exact h
  | 3, h => exact OI.later h hb
  | 4, h => exact h
  | 5, h => exact h
  | 6, h => exact h
  | 7, h => exact OI.later h hb
  | 8, h => exact h
  | 9, h => exact h
  | 10, h => exact OI.later h hb
  | 11, h => exact RS.later (RL.keeps RInt.keeps) h hb
  | 12, h => exact OI.later h hb
  | 13, h => exact OI.later h hb
  | _ + 14, _ => trivial
set_option maxHeartbeats 16000000 in
theorem iEnds (s0 s1 s2 s3 s4 s5 : Option Addr) (l0 l1 l2 l3 l4 l5 c0 c1 c2 c3 c4 c5 : Nat) (xs2 : List Latch) (xs4 xs5 : List Pin) (w : World) (hl2 : xs2.length ≤ 1048576) (hl4 : xs4.length ≤ 1048576) (hl5 : xs5.length ≤ 1048576) (h2 : RS 4 RLatch w 0 xs2 (.slice s2 l2 c2)) (h4 : RS 2 RPin w 0 xs4 (.slice s4 l4 c4)) (h5 : RS 2 RPin w 0 xs5 (.slice s5 l5 c5)) :
    Calls Try.prog 63 #[.agg #[.slice s0 l0 c0, .slice s1 l1 c1, .slice s2 l2 c2, .slice s3 l3 c3, .slice s4 l4 c4, .slice s5 l5 c5]] w fun e w' => (∃ v', e = .returned v' ∧ OI w.heap.size w' v' (xs4.map (fun p : Pin => p.lit) ++ (xs5.map (fun p : Pin => p.lit) ++ xs2.map (fun l : Latch => l.next)))) ∧ Below w.heap.size w w' := by
  have H2 := hide h2
  have H4 := hide h4
  have H5 := hide h5
  clear h2 h4 h5
  have HC : Hid (∀ W V : World, W = w.alloc (.cells #[.slice s0 l0 c0, .slice s1 l1 c1, .slice s2 l2 c2, .slice s3 l3 c3, .slice s4 l4 c4, .slice s5 l5 c5] 36) → Below W.heap.size W V → V.cell? ⟨w.heap.size, 0, none⟩ = some (.slice s0 l0 c0) ∧ V.cell? ⟨w.heap.size, 1, none⟩ = some (.slice s1 l1 c1) ∧ V.cell? ⟨w.heap.size, 2, none⟩ = some (.slice s2 l2 c2) ∧ V.cell? ⟨w.heap.size, 3, none⟩ = some (.slice s3 l3 c3) ∧ V.cell? ⟨w.heap.size, 4, none⟩ = some (.slice s4 l4 c4) ∧ V.cell? ⟨w.heap.size, 5, none⟩ = some (.slice s5 l5 c5)) := hide (fun W V hW hb => by
    subst hW
    exact ⟨cell_later hb (by rw [World.cell?_alloc_new]; rfl), cell_later hb (by rw [World.cell?_alloc_new]; rfl), cell_later hb (by rw [World.cell?_alloc_new]; rfl), cell_later hb (by rw [World.cell?_alloc_new]; rfl), cell_later hb (by rw [World.cell?_alloc_new]; rfl), cell_later hb (by rw [World.cell?_alloc_new]; rfl)⟩)
  go_enter Try.func63, Try.ntmps63
  go_wp2
  obtain ⟨W, hW⟩ : ∃ W, W = w.alloc (.cells #[.slice s0 l0 c0, .slice s1 l1 c1, .slice s2 l2 c2, .slice s3 l3 c3, .slice s4 l4 c4, .slice s5 l5 c5] 36) := ⟨_, rfl⟩
  have HB : Hid (Below w.heap.size w W) := hide (by rw [hW]; exact bal (brf w) _)
  have hS : w.heap.size ≤ W.heap.size := (unhide HB).size
  rw [← hW]
  have LS := EF_lasts w.heap.size W.heap.size (.slice s2 l2 c2) (.slice s4 l4 c4) (.slice s5 l5 c5) xs4 xs5 xs2
  refine wp_plan (GW (EF w.heap.size W.heap.size (.slice s2 l2 c2) (.slice s4 l4 c4) (.slice s5 l5 c5) xs4 xs5 xs2)) (JB W) (by kernel_rfl) 17 (by kernel_rfl) (by kernel_rfl) ?hj ?hs ?hf
  case hj => exact bdr (brf W)
  case hs =>
    refine ⟨?_, ?_, ?_, ?_, ?_, ?_, ?_, ?_, ?_, ?_, ?_, ?_, ?_, ?_, trivial⟩
    · exact sl_val rfl (fun l a V hp ha => ⟨.pointer (some ⟨w.heap.size, 4, none⟩), by
        have x1 := (ev_form a 1).trans (old hp 1 (v := .pointer (some ⟨w.heap.size, 0, none⟩)) (by kernel_rfl) (by kernel_rfl))
        go_simp, rfl⟩)
    · exact sl_val rfl (fun l a V hp ha => ⟨(.slice s4 l4 c4), by
        have x4 := (ev_form a 4).trans (show a.eval (.tmp 4) = .pointer (some ⟨w.heap.size, 4, none⟩) from kn hp ha 4 0 (by kernel_rfl) (by kernel_rfl))
        obtain ⟨q0, q1, q2, q3, q4, q5⟩ := unhide HC W V hW hp.j
        go_simp, rfl⟩)
    · exact sl_val rfl (fun l a V hp ha => ⟨.func (.func 72) #[] #[], by
        have x3 := (ev_form a 3).trans (old hp 3 (v := .func (.func 72) #[] #[]) (by kernel_rfl) (by kernel_rfl))
        go_simp, rfl⟩)
    · exact sl_call (f := 74) LS rfl (fun l a V hp ha => ⟨#[(.slice s4 l4 c4), .func (.func 72) #[] #[]], by
        have x5 := (ev_form a 5).trans (show a.eval (.tmp 5) = (.slice s4 l4 c4) from kn hp ha 5 1 (by kernel_rfl) (by kernel_rfl))
        have x6 := (ev_form a 6).trans (show a.eval (.tmp 6) = .func (.func 72) #[] #[] from kn hp ha 6 2 (by kernel_rfl) (by kernel_rfl))
        go_simp, (iListPinI xs4 (.slice s4 l4 c4) V hl4 ((unhide H4).later RPin.keeps (btr (unhide HB) hp.j))).mono (by rintro e V1 ⟨⟨vr, rfl, h⟩, hb⟩; exact ⟨_, rfl, OI.low h hp.j.size, hb⟩)⟩)
    · exact sl_val rfl (fun l a V hp ha => ⟨.pointer (some ⟨w.heap.size, 5, none⟩), by
        have x1 := (ev_form a 1).trans (old hp 1 (v := .pointer (some ⟨w.heap.size, 0, none⟩)) (by kernel_rfl) (by kernel_rfl))
        go_simp, rfl⟩)
    · exact sl_val rfl (fun l a V hp ha => ⟨(.slice s5 l5 c5), by
        have x8 := (ev_form a 8).trans (show a.eval (.tmp 8) = .pointer (some ⟨w.heap.size, 5, none⟩) from kn hp ha 8 4 (by kernel_rfl) (by kernel_rfl))
        obtain ⟨q0, q1, q2, q3, q4, q5⟩ := unhide HC W V hW hp.j
        go_simp, rfl⟩)
    · exact sl_val rfl (fun l a V hp ha => ⟨.func (.func 72) #[] #[], by
        have x3 := (ev_form a 3).trans (old hp 3 (v := .func (.func 72) #[] #[]) (by kernel_rfl) (by kernel_rfl))
        go_simp, rfl⟩)
    · exact sl_call (f := 74) LS rfl (fun l a V hp ha => ⟨#[(.slice s5 l5 c5), .func (.func 72) #[] #[]], by
        have x9 := (ev_form a 9).trans (show a.eval (.tmp 9) = (.slice s5 l5 c5) from kn hp ha 9 5 (by kernel_rfl) (by kernel_rfl))
        have x10 := (ev_form a 10).trans (show a.eval (.tmp 10) = .func (.func 72) #[] #[] from kn hp ha 10 6 (by kernel_rfl) (by kernel_rfl))
        go_simp, (iListPinI xs5 (.slice s5 l5 c5) V hl5 ((unhide H5).later RPin.keeps (btr (unhide HB) hp.j))).mono (by rintro e V1 ⟨⟨vr, rfl, h⟩, hb⟩; exact ⟨_, rfl, OI.low h hp.j.size, hb⟩)⟩)
    · exact sl_val rfl (fun l a V hp ha => ⟨.pointer (some ⟨w.heap.size, 2, none⟩), by
        have x1 := (ev_form a 1).trans (old hp 1 (v := .pointer (some ⟨w.heap.size, 0, none⟩)) (by kernel_rfl) (by kernel_rfl))
        go_simp, rfl⟩)
    · exact sl_val rfl (fun l a V hp ha => ⟨(.slice s2 l2 c2), by
        have x12 := (ev_form a 12).trans (show a.eval (.tmp 12) = .pointer (some ⟨w.heap.size, 2, none⟩) from kn hp ha 12 8 (by kernel_rfl) (by kernel_rfl))
        obtain ⟨q0, q1, q2, q3, q4, q5⟩ := unhide HC W V hW hp.j
        go_simp, rfl⟩)
    · exact sl_call (f := 75) LS rfl (fun l a V hp ha => ⟨#[(.slice s2 l2 c2), .func (.func 76) #[] #[]], by
        have x13 := (ev_form a 13).trans (show a.eval (.tmp 13) = (.slice s2 l2 c2) from kn hp ha 13 9 (by kernel_rfl) (by kernel_rfl))
        go_simp, (iListLatchI xs2 (.slice s2 l2 c2) V hl2 ((unhide H2).later RLatch.keeps (btr (unhide HB) hp.j))).mono (by rintro e V1 ⟨⟨vr, rfl, h⟩, hb⟩; exact ⟨_, rfl, OI.low h hp.j.size, hb⟩)⟩)
    · refine sl_new LS rfl (fun l a V hp ha => ?_)
      have f7 : OI W.heap.size V (a.eval (.tmp 7)) (xs4.map (fun p : Pin => p.lit)) := kn hp ha 7 3 (by kernel_rfl) (by kernel_rfl)
      have f11 : OI W.heap.size V (a.eval (.tmp 11)) (xs5.map (fun p : Pin => p.lit)) := kn hp ha 11 7 (by kernel_rfl) (by kernel_rfl)
      have f14 : OI W.heap.size V (a.eval (.tmp 14)) (xs2.map (fun l : Latch => l.next)) := kn hp ha 14 10 (by kernel_rfl) (by kernel_rfl)
      have x7 := ev_form a 7
      have x11 := ev_form a 11
      have x14 := ev_form a 14
      generalize a.eval (.tmp 7) = y7 at *
      generalize a.eval (.tmp 11) = y11 at *
      generalize a.eval (.tmp 14) = y14 at *
      obtain ⟨s7, l7, c7, rfl⟩ := f7.shape
      obtain ⟨s11, l11, c11, rfl⟩ := f11.shape
      obtain ⟨s14, l14, c14, rfl⟩ := f14.shape
      refine ⟨.slice (some ⟨V.heap.size, 0, none⟩) 3 3, .cells (#[.slice s7 l7 c7, .slice s11 l11 c11, .slice s14 l14 c14]) 51, by go_simp, ?_⟩
      refine RL_built RInt.keeps V 51 [xs4.map (fun p : Pin => p.lit), xs5.map (fun p : Pin => p.lit), xs2.map (fun l : Latch => l.next)] [.slice s7 l7 c7, .slice s11 l11 c11, .slice s14 l14 c14] rfl (by simp [maxLen]) ?_
      intro i x v hx hv
      match i, hx, hv with
      | 0, hx, hv => simp at hx hv; subst hx; subst hv; exact f7.any (by simp; omega)
      | 1, hx, hv => simp at hx hv; subst hx; subst hv; exact f11.any (by simp; omega)
      | 2, hx, hv => simp at hx hv; subst hx; subst hv; exact f14.any (by simp; omega)
      | i + 3, hx, hv => simp at hx
    · refine sl_call (f := 73) LS rfl (fun l a V hp ha => ?_)
      have f15 : RS 1 (RL 1 RInt) V 0 [xs4.map (fun p : Pin => p.lit), xs5.map (fun p : Pin => p.lit), xs2.map (fun l : Latch => l.next)] (a.eval (.tmp 15)) := kn hp ha 15 11 (by kernel_rfl) (by kernel_rfl)
      have x15 := ev_form a 15
      generalize a.eval (.tmp 15) = y15 at *
      refine ⟨#[y15], by go_simp, (iConcatI [xs4.map (fun p : Pin => p.lit), xs5.map (fun p : Pin => p.lit), xs2.map (fun l : Latch => l.next)] y15 V (by simp) (by simp; omega) f15).mono ?_⟩
      rintro e V1 ⟨⟨vr, rfl, h⟩, hb⟩
      exact ⟨_, rfl, OI.low h hp.j.size, hb⟩
    · refine sl_val rfl (fun l a V hp ha => ?_)
      have f16 : OI W.heap.size V (a.eval (.tmp 16)) (List.flatten [xs4.map (fun p : Pin => p.lit), xs5.map (fun p : Pin => p.lit), xs2.map (fun l : Latch => l.next)]) := kn hp ha 16 12 (by kernel_rfl) (by kernel_rfl)
      have x16 := ev_form a 16
      generalize a.eval (.tmp 16) = y16 at *
      exact ⟨y16, by go_simp, f16⟩
  case hf =>
    intro l a V hp hall
    have hv := hp.good 13 _ 2 rfl rfl (hall 13 (by decide))
    have HBV := hide (btr (unhide HB) hp.j)
    obtain ⟨us, rfl, hus⟩ := putAll_of [4, 5, 6, 7, 8, 9, 10, 11, 12, 13, 14, 15, 16, 2] hp.nt hp.df (fun t ht => hp.keep t (dstIn (by kernel_rfl) ht))
    have hv2 : OI W.heap.size V (us 2) (List.flatten [xs4.map (fun p : Pin => p.lit), xs5.map (fun p : Pin => p.lit), xs2.map (fun l : Latch => l.next)]) := by rw [hus 2]; exact hv
    have HV := hide hv2
    have HS := hide hS
    clear hp hall hv hus hv2 hS
    simp only [putAll, List.foldl, Act.put, List.setIfInBounds_toArray, List.set_cons_zero, List.set_cons_succ]
    generalize us 2 = y at *
    go_wp2
    exact bodyPost_ret (v := y) (by simp [results, Try.results63, go_sem]) rfl ⟨⟨_, rfl, by have h := (unhide HV).low (unhide HS); simpa using h⟩, unhide HBV⟩
end Go.Proofs.Ytnoklbnacfmpdac
