/- The lists of names: a region that draws. -/
import Derived.Test.YtnoklbnacfmpdacAG
import Derived.Test.YtnoklbnacfmpdacAL
import Derived.Test.YtnoklbnacfmpdacRWa
import Derived.Test.YtnoklbnacfmpdacAE
namespace Go.Proofs.Ytnoklbnacfmpdac
open Go Go.RowKit Gs
set_option linter.unusedVariables false
set_option linter.unusedSimpArgs false
set_option maxRecDepth 100000
theorem OS.shape {B : Nat} {v : Value} {xs : List ByteArray} {W : World} (h : OS B W v xs) : ∃ a l c, v = .slice a l c := by
  rcases h.1.2 with ⟨rfl, _⟩ | ⟨g, cap, cur, rfl, _⟩
  · exact ⟨_, _, _, rfl⟩
  · exact ⟨_, _, _, rfl⟩
def NL (B N : Nat) (v0 v1 v2 v4 v5 : Value) (xs0 xs1 : List ByteArray) (xs2 : List Latch) (xs4 xs5 : List Pin) : Nat → World → Value → Prop
  | 0, W, v => v = .pointer (some ⟨B, 0, none⟩)
  | 1, W, v => v = v0
  | 2, W, v => v = .pointer (some ⟨B, 1, none⟩)
  | 3, W, v => v = v1
  | 4, W, v => RS 1 (RL 1 RStr) W 0 [xs0, xs1] v
  | 5, W, v => OS N W v (List.flatten [xs0, xs1])
  | 6, W, v => v = .pointer (some ⟨B, 2, none⟩)
  | 7, W, v => v = v2
  | 8, W, v => OS N W v (xs2.map (fun l : Latch => l.name))
  | 9, W, v => v = .pointer (some ⟨B, 4, none⟩)
  | 10, W, v => v = v4
  | 11, W, v => v = .func (.func 64) #[] #[]
  | 12, W, v => OS N W v (xs4.map (fun p : Pin => p.name))
  | 13, W, v => v = .pointer (some ⟨B, 5, none⟩)
  | 14, W, v => v = v5
  | 15, W, v => v = .func (.func 64) #[] #[]
  | 16, W, v => OS N W v (xs5.map (fun p : Pin => p.name))
  | 17, W, v => RS 1 (RL 1 RStr) W 0 [(List.flatten [xs0, xs1]), xs2.map (fun l : Latch => l.name), xs4.map (fun p : Pin => p.name), xs5.map (fun p : Pin => p.name)] v
  | 18, W, v => RS 1 (RL 1 RStr) W 0 [(List.flatten [xs0, xs1]), xs2.map (fun l : Latch => l.name), xs4.map (fun p : Pin => p.name), xs5.map (fun p : Pin => p.name)] v
  | _, _, _ => True
theorem NL_lasts (B N : Nat) (v0 v1 v2 v4 v5 : Value) (xs0 xs1 : List ByteArray) (xs2 : List Latch) (xs4 xs5 : List Pin) : Lasts (NL B N v0 v1 v2 v4 v5 xs0 xs1 xs2 xs4 xs5) := by
  intro k w w' v hb h
  match k, h with
  | 0, h => exact h
  | 1, h => exact h
  | 2, h => exact h
  | 3, h => exact h
  | 4, h => exact RS.later (RL.keeps RStr.keeps) h hb
  | 5, h => exact OS.later h hb
  | 6, h => exact h
  | 7, h => exact h
  | 8, h => exact OS.later h hb
  | 9, h => exact h
  | 10, h => exact h
  | 11, h => exact h
  | 12, h => exact OS.later h hb
  | 13, h => exact h
  | 14, h => exact h
  | 15, h => exact h
  | 16, h => exact OS.later h hb
  | 17, h => exact RS.later (RL.keeps RStr.keeps) h hb
  | 18, h => exact RS.later (RL.keeps RStr.keeps) h hb
  | _ + 19, _ => trivial
set_option maxHeartbeats 16000000 in
theorem iNameLists (s0 s1 s2 s3 s4 s5 : Option Addr) (l0 l1 l2 l3 l4 l5 c0 c1 c2 c3 c4 c5 : Nat) (xs0 xs1 : List ByteArray) (xs2 : List Latch) (xs4 xs5 : List Pin) (w : World) (hl0 : xs0.length ≤ 1048576) (hl1 : xs1.length ≤ 1048576) (hl2 : xs2.length ≤ 1048576) (hl4 : xs4.length ≤ 1048576) (hl5 : xs5.length ≤ 1048576) (h0 : RS 1 RStr w 0 xs0 (.slice s0 l0 c0)) (h1 : RS 1 RStr w 0 xs1 (.slice s1 l1 c1)) (h2 : RS 4 RLatch w 0 xs2 (.slice s2 l2 c2)) (h4 : RS 2 RPin w 0 xs4 (.slice s4 l4 c4)) (h5 : RS 2 RPin w 0 xs5 (.slice s5 l5 c5)) :
    Calls Try.prog 53 #[.agg #[.slice s0 l0 c0, .slice s1 l1 c1, .slice s2 l2 c2, .slice s3 l3 c3, .slice s4 l4 c4, .slice s5 l5 c5]] w fun e w' => (∃ v', e = .returned v' ∧ RS 1 (RL 1 RStr) w' 0 [xs0 ++ xs1, xs2.map (fun l : Latch => l.name), xs4.map (fun p : Pin => p.name), xs5.map (fun p : Pin => p.name)] v') ∧ Below w.heap.size w w' := by
  have H0 := hide h0
  have H1 := hide h1
  have H2 := hide h2
  have H4 := hide h4
  have H5 := hide h5
  clear h0 h1 h2 h4 h5
  have HC : Hid (∀ W V : World, W = w.alloc (.cells #[.slice s0 l0 c0, .slice s1 l1 c1, .slice s2 l2 c2, .slice s3 l3 c3, .slice s4 l4 c4, .slice s5 l5 c5] 36) → Below W.heap.size W V → V.cell? ⟨w.heap.size, 0, none⟩ = some (.slice s0 l0 c0) ∧ V.cell? ⟨w.heap.size, 1, none⟩ = some (.slice s1 l1 c1) ∧ V.cell? ⟨w.heap.size, 2, none⟩ = some (.slice s2 l2 c2) ∧ V.cell? ⟨w.heap.size, 3, none⟩ = some (.slice s3 l3 c3) ∧ V.cell? ⟨w.heap.size, 4, none⟩ = some (.slice s4 l4 c4) ∧ V.cell? ⟨w.heap.size, 5, none⟩ = some (.slice s5 l5 c5)) := hide (fun W V hW hb => by
    subst hW
    exact ⟨cell_later hb (by rw [World.cell?_alloc_new]; rfl), cell_later hb (by rw [World.cell?_alloc_new]; rfl), cell_later hb (by rw [World.cell?_alloc_new]; rfl), cell_later hb (by rw [World.cell?_alloc_new]; rfl), cell_later hb (by rw [World.cell?_alloc_new]; rfl), cell_later hb (by rw [World.cell?_alloc_new]; rfl)⟩)
  go_enter Try.func53, Try.ntmps53
  go_wp2
  obtain ⟨W, hW⟩ : ∃ W, W = w.alloc (.cells #[.slice s0 l0 c0, .slice s1 l1 c1, .slice s2 l2 c2, .slice s3 l3 c3, .slice s4 l4 c4, .slice s5 l5 c5] 36) := ⟨_, rfl⟩
  have HB : Hid (Below w.heap.size w W) := hide (by rw [hW]; exact bal (brf w) _)
  have hS : w.heap.size ≤ W.heap.size := (unhide HB).size
  rw [← hW]
  have LS := NL_lasts w.heap.size W.heap.size (.slice s0 l0 c0) (.slice s1 l1 c1) (.slice s2 l2 c2) (.slice s4 l4 c4) (.slice s5 l5 c5) xs0 xs1 xs2 xs4 xs5
  refine wp_plan (GW (NL w.heap.size W.heap.size (.slice s0 l0 c0) (.slice s1 l1 c1) (.slice s2 l2 c2) (.slice s4 l4 c4) (.slice s5 l5 c5) xs0 xs1 xs2 xs4 xs5)) (JB W) (by kernel_rfl) 22 (by kernel_rfl) (by kernel_rfl) ?hj ?hs ?hf
  case hj => exact bdr (brf W)
  case hs =>
    refine ⟨?_, ?_, ?_, ?_, ?_, ?_, ?_, ?_, ?_, ?_, ?_, ?_, ?_, ?_, ?_, ?_, ?_, ?_, ?_, trivial⟩
    · exact sl_val rfl (fun l a V hp ha => ⟨.pointer (some ⟨w.heap.size, 0, none⟩), by
        have x1 := (ev_form a 1).trans (old hp 1 (v := .pointer (some ⟨w.heap.size, 0, none⟩)) (by kernel_rfl) (by kernel_rfl))
        go_simp, rfl⟩)
    · exact sl_val rfl (fun l a V hp ha => ⟨(.slice s0 l0 c0), by
        have x4 := (ev_form a 4).trans (show a.eval (.tmp 4) = .pointer (some ⟨w.heap.size, 0, none⟩) from kn hp ha 4 0 (by kernel_rfl) (by kernel_rfl))
        obtain ⟨q0, q1, q2, q3, q4, q5⟩ := unhide HC W V hW hp.j
        go_simp, rfl⟩)
    · exact sl_val rfl (fun l a V hp ha => ⟨.pointer (some ⟨w.heap.size, 1, none⟩), by
        have x1 := (ev_form a 1).trans (old hp 1 (v := .pointer (some ⟨w.heap.size, 0, none⟩)) (by kernel_rfl) (by kernel_rfl))
        go_simp, rfl⟩)
    · exact sl_val rfl (fun l a V hp ha => ⟨(.slice s1 l1 c1), by
        have x6 := (ev_form a 6).trans (show a.eval (.tmp 6) = .pointer (some ⟨w.heap.size, 1, none⟩) from kn hp ha 6 2 (by kernel_rfl) (by kernel_rfl))
        obtain ⟨q0, q1, q2, q3, q4, q5⟩ := unhide HC W V hW hp.j
        go_simp, rfl⟩)
    · refine sl_new LS rfl (fun l a V hp ha => ?_)
      have x5 := (ev_form a 5).trans (show a.eval (.tmp 5) = (.slice s0 l0 c0) from kn hp ha 5 1 (by kernel_rfl) (by kernel_rfl))
      have x7 := (ev_form a 7).trans (show a.eval (.tmp 7) = (.slice s1 l1 c1) from kn hp ha 7 3 (by kernel_rfl) (by kernel_rfl))
      refine ⟨.slice (some ⟨V.heap.size, 0, none⟩) 2 2, .cells (#[(.slice s0 l0 c0), (.slice s1 l1 c1)]) 22, by go_simp, ?_⟩
      refine RL_built RStr.keeps V 22 [xs0, xs1] [(.slice s0 l0 c0), (.slice s1 l1 c1)] rfl (by simp [maxLen]) ?_
      intro i x v hx hv
      match i, hx, hv with
      | 0, hx, hv => simp at hx hv; subst hx; subst hv; exact (unhide H0).later RStr.keeps (btr (unhide HB) hp.j)
      | 1, hx, hv => simp at hx hv; subst hx; subst hv; exact (unhide H1).later RStr.keeps (btr (unhide HB) hp.j)
      | i + 2, hx, hv => simp at hx
    · refine sl_call (f := 65) LS rfl (fun l a V hp ha => ?_)
      have f8 : RS 1 (RL 1 RStr) V 0 [xs0, xs1] (a.eval (.tmp 8)) := kn hp ha 8 4 (by kernel_rfl) (by kernel_rfl)
      have x8 := ev_form a 8
      generalize a.eval (.tmp 8) = y8 at *
      refine ⟨#[y8], by go_simp, (iConcatS [xs0, xs1] y8 V (by simp) (by simp; omega) f8).mono ?_⟩
      rintro e V1 ⟨⟨vr, rfl, h⟩, hb⟩
      exact ⟨_, rfl, OS.low h hp.j.size, hb⟩
    · exact sl_val rfl (fun l a V hp ha => ⟨.pointer (some ⟨w.heap.size, 2, none⟩), by
        have x1 := (ev_form a 1).trans (old hp 1 (v := .pointer (some ⟨w.heap.size, 0, none⟩)) (by kernel_rfl) (by kernel_rfl))
        go_simp, rfl⟩)
    · exact sl_val rfl (fun l a V hp ha => ⟨(.slice s2 l2 c2), by
        have x10 := (ev_form a 10).trans (show a.eval (.tmp 10) = .pointer (some ⟨w.heap.size, 2, none⟩) from kn hp ha 10 6 (by kernel_rfl) (by kernel_rfl))
        obtain ⟨q0, q1, q2, q3, q4, q5⟩ := unhide HC W V hW hp.j
        go_simp, rfl⟩)
    · exact sl_call (f := 66) LS rfl (fun l a V hp ha => ⟨#[(.slice s2 l2 c2), .func (.func 67) #[] #[]], by
        have x11 := (ev_form a 11).trans (show a.eval (.tmp 11) = (.slice s2 l2 c2) from kn hp ha 11 7 (by kernel_rfl) (by kernel_rfl))
        go_simp, (iListLatchS xs2 (.slice s2 l2 c2) V hl2 ((unhide H2).later RLatch.keeps (btr (unhide HB) hp.j))).mono (by rintro e V1 ⟨⟨vr, rfl, h⟩, hb⟩; exact ⟨_, rfl, OS.low h hp.j.size, hb⟩)⟩)
    · exact sl_val rfl (fun l a V hp ha => ⟨.pointer (some ⟨w.heap.size, 4, none⟩), by
        have x1 := (ev_form a 1).trans (old hp 1 (v := .pointer (some ⟨w.heap.size, 0, none⟩)) (by kernel_rfl) (by kernel_rfl))
        go_simp, rfl⟩)
    · exact sl_val rfl (fun l a V hp ha => ⟨(.slice s4 l4 c4), by
        have x13 := (ev_form a 13).trans (show a.eval (.tmp 13) = .pointer (some ⟨w.heap.size, 4, none⟩) from kn hp ha 13 9 (by kernel_rfl) (by kernel_rfl))
        obtain ⟨q0, q1, q2, q3, q4, q5⟩ := unhide HC W V hW hp.j
        go_simp, rfl⟩)
    · exact sl_val rfl (fun l a V hp ha => ⟨.func (.func 64) #[] #[], by
        have x3 := (ev_form a 3).trans (old hp 3 (v := .func (.func 64) #[] #[]) (by kernel_rfl) (by kernel_rfl))
        go_simp, rfl⟩)
    · exact sl_call (f := 68) LS rfl (fun l a V hp ha => ⟨#[(.slice s4 l4 c4), .func (.func 64) #[] #[]], by
        have x14 := (ev_form a 14).trans (show a.eval (.tmp 14) = (.slice s4 l4 c4) from kn hp ha 14 10 (by kernel_rfl) (by kernel_rfl))
        have x15 := (ev_form a 15).trans (show a.eval (.tmp 15) = .func (.func 64) #[] #[] from kn hp ha 15 11 (by kernel_rfl) (by kernel_rfl))
        go_simp, (iListPinS xs4 (.slice s4 l4 c4) V hl4 ((unhide H4).later RPin.keeps (btr (unhide HB) hp.j))).mono (by rintro e V1 ⟨⟨vr, rfl, h⟩, hb⟩; exact ⟨_, rfl, OS.low h hp.j.size, hb⟩)⟩)
    · exact sl_val rfl (fun l a V hp ha => ⟨.pointer (some ⟨w.heap.size, 5, none⟩), by
        have x1 := (ev_form a 1).trans (old hp 1 (v := .pointer (some ⟨w.heap.size, 0, none⟩)) (by kernel_rfl) (by kernel_rfl))
        go_simp, rfl⟩)
    · exact sl_val rfl (fun l a V hp ha => ⟨(.slice s5 l5 c5), by
        have x17 := (ev_form a 17).trans (show a.eval (.tmp 17) = .pointer (some ⟨w.heap.size, 5, none⟩) from kn hp ha 17 13 (by kernel_rfl) (by kernel_rfl))
        obtain ⟨q0, q1, q2, q3, q4, q5⟩ := unhide HC W V hW hp.j
        go_simp, rfl⟩)
    · exact sl_val rfl (fun l a V hp ha => ⟨.func (.func 64) #[] #[], by
        have x3 := (ev_form a 3).trans (old hp 3 (v := .func (.func 64) #[] #[]) (by kernel_rfl) (by kernel_rfl))
        go_simp, rfl⟩)
    · exact sl_call (f := 68) LS rfl (fun l a V hp ha => ⟨#[(.slice s5 l5 c5), .func (.func 64) #[] #[]], by
        have x18 := (ev_form a 18).trans (show a.eval (.tmp 18) = (.slice s5 l5 c5) from kn hp ha 18 14 (by kernel_rfl) (by kernel_rfl))
        have x19 := (ev_form a 19).trans (show a.eval (.tmp 19) = .func (.func 64) #[] #[] from kn hp ha 19 15 (by kernel_rfl) (by kernel_rfl))
        go_simp, (iListPinS xs5 (.slice s5 l5 c5) V hl5 ((unhide H5).later RPin.keeps (btr (unhide HB) hp.j))).mono (by rintro e V1 ⟨⟨vr, rfl, h⟩, hb⟩; exact ⟨_, rfl, OS.low h hp.j.size, hb⟩)⟩)
    · refine sl_new LS rfl (fun l a V hp ha => ?_)
      have f9 : OS W.heap.size V (a.eval (.tmp 9)) (List.flatten [xs0, xs1]) := kn hp ha 9 5 (by kernel_rfl) (by kernel_rfl)
      have f12 : OS W.heap.size V (a.eval (.tmp 12)) (xs2.map (fun l : Latch => l.name)) := kn hp ha 12 8 (by kernel_rfl) (by kernel_rfl)
      have f16 : OS W.heap.size V (a.eval (.tmp 16)) (xs4.map (fun p : Pin => p.name)) := kn hp ha 16 12 (by kernel_rfl) (by kernel_rfl)
      have f20 : OS W.heap.size V (a.eval (.tmp 20)) (xs5.map (fun p : Pin => p.name)) := kn hp ha 20 16 (by kernel_rfl) (by kernel_rfl)
      have x9 := ev_form a 9
      generalize a.eval (.tmp 9) = y9 at *
      obtain ⟨s9, l9, c9, rfl⟩ := f9.shape
      have x12 := ev_form a 12
      generalize a.eval (.tmp 12) = y12 at *
      obtain ⟨s12, l12, c12, rfl⟩ := f12.shape
      have x16 := ev_form a 16
      generalize a.eval (.tmp 16) = y16 at *
      obtain ⟨s16, l16, c16, rfl⟩ := f16.shape
      have x20 := ev_form a 20
      generalize a.eval (.tmp 20) = y20 at *
      obtain ⟨s20, l20, c20, rfl⟩ := f20.shape
      refine ⟨.slice (some ⟨V.heap.size, 0, none⟩) 4 4, .cells (#[.slice s9 l9 c9, .slice s12 l12 c12, .slice s16 l16 c16, .slice s20 l20 c20]) 22, by go_simp, ?_⟩
      refine RL_built RStr.keeps V 22 [(List.flatten [xs0, xs1]), xs2.map (fun l : Latch => l.name), xs4.map (fun p : Pin => p.name), xs5.map (fun p : Pin => p.name)] [.slice s9 l9 c9, .slice s12 l12 c12, .slice s16 l16 c16, .slice s20 l20 c20] rfl (by simp [maxLen]) ?_
      intro i x v hx hv
      match i, hx, hv with
      | 0, hx, hv => simp at hx hv; subst hx; subst hv; exact OS.any (by simpa using f9) (by simp; omega)
      | 1, hx, hv => simp at hx hv; subst hx; subst hv; exact OS.any (by simpa using f12) (by simp; omega)
      | 2, hx, hv => simp at hx hv; subst hx; subst hv; exact OS.any (by simpa using f16) (by simp; omega)
      | 3, hx, hv => simp at hx hv; subst hx; subst hv; exact OS.any (by simpa using f20) (by simp; omega)
      | i + 4, hx, hv => simp at hx
    · refine sl_val rfl (fun l a V hp ha => ?_)
      have f21 : RS 1 (RL 1 RStr) V 0 [(List.flatten [xs0, xs1]), xs2.map (fun l : Latch => l.name), xs4.map (fun p : Pin => p.name), xs5.map (fun p : Pin => p.name)] (a.eval (.tmp 21)) := kn hp ha 21 17 (by kernel_rfl) (by kernel_rfl)
      have x21 := ev_form a 21
      generalize a.eval (.tmp 21) = y21 at *
      exact ⟨y21, by go_simp, f21⟩
  case hf =>
    intro l a V hp hall
    have hv := hp.good 18 _ 2 rfl rfl (hall 18 (by decide))
    have HBV := hide (btr (unhide HB) hp.j)
    obtain ⟨us, rfl, hus⟩ := putAll_of [4, 5, 6, 7, 8, 9, 10, 11, 12, 13, 14, 15, 16, 17, 18, 19, 20, 21, 2] hp.nt hp.df (fun t ht => hp.keep t (dstIn (by kernel_rfl) ht))
    have hv2 : RS 1 (RL 1 RStr) V 0 [(List.flatten [xs0, xs1]), xs2.map (fun l : Latch => l.name), xs4.map (fun p : Pin => p.name), xs5.map (fun p : Pin => p.name)] (us 2) := by rw [hus 2]; exact hv
    have HV := hide hv2
    have HS := hide hS
    clear hp hall hv hus hv2 hS
    simp only [putAll, List.foldl, Act.put, List.setIfInBounds_toArray, List.set_cons_zero, List.set_cons_succ]
    generalize us 2 = y at *
    go_wp2
    exact bodyPost_ret (v := y) (by simp [results, Try.results53, go_sem]) rfl ⟨⟨_, rfl, by have h := unhide HV; simpa using h⟩, unhide HBV⟩
end Go.Proofs.Ytnoklbnacfmpdac
