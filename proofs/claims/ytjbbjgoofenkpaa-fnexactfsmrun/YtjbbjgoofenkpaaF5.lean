/- The program's rowFits. -/
import Derived.Test.YtjbbjgoofenkpaaF4
namespace Go.Proofs.Ytjbbjgoofenkpaa
open Go.RowKit Gs
set_option linter.unusedVariables false
set_option linter.unusedSimpArgs false
set_option maxRecDepth 100000
attribute [local go_sem] Oper.semAt_some
/-- What is known of each operation while the two rows are fetched and boxed. -/
def G1 (S0 B s b3 o3 N3 c3 b4 o4 N4 c4 n1 y1 n2 y2 : Nat) (x1 x2 : Option Addr) (l : Array Bool) (k : Nat) (w : World) (v : Value) : Prop := match k with
  | 0 => v = .pointer (some ⟨B, 3, none⟩)
  | 1 => v = .slice (some ⟨b3, o3, none⟩) N3 c3
  | 2 => v = .int .i64 (s : Int)
  | 3 => v = .pointer (some ⟨b3, o3 + s, none⟩)
  | 4 => v = .slice x1 n1 y1
  | 5 => v = .pointer (some ⟨B, 4, none⟩)
  | 6 => v = .slice (some ⟨b4, o4, none⟩) N4 c4
  | 7 => v = .int .i64 (s : Int)
  | 8 => v = .pointer (some ⟨b4, o4 + s, none⟩)
  | 9 => v = .slice x2 n2 y2
  | 10 => ∃ b, v = .pointer (some ⟨b, 0, none⟩) ∧ S0 ≤ b ∧ w.heap[b]? = some (.cells #[if l.getD 12 false = true then .slice x1 n1 y1 else .slice none 0 0] 27 (0, 0))
  | 11 => ∃ b, v = .pointer (some ⟨b, 0, none⟩) ∧ S0 ≤ b ∧ w.heap[b]? = some (.cells #[if l.getD 13 false = true then .slice x2 n2 y2 else .slice none 0 0] 22 (0, 0))
  | _ => True
def J1 (W0 : World) (l : Array Bool) (w : World) : Prop := Below W0.heap.size W0 w ∧ (l.getD 12 false = true → l.getD 10 false = true) ∧ (l.getD 13 false = true → l.getD 11 false = true)
theorem getD_set_other {l : Array Bool} {i j : Nat} (h : j ≠ i) : (l.setIfInBounds i true).getD j false = l.getD j false := getD_set_ne false (fun e => h e.symm)
theorem getD_set_up {l : Array Bool} {i j : Nat} (h : l.getD j false = true) : (l.setIfInBounds i true).getD j false = true := by
  by_cases e : j = i
  · subst e
    have hi : j < l.size := by
      rcases Nat.lt_or_ge j l.size with h' | h'
      · exact h'
      · simp [Array.getD, Nat.not_lt.2 h'] at h
    simp [Array.getD, hi]
  · rw [getD_set_other e]; exact h
theorem J1.set {W0 : World} {l : Array Bool} {w w' : World} (h : J1 W0 l w) {k : Nat} (hk : k ≠ 12) (hk' : k ≠ 13) (hb : Below W0.heap.size W0 w') : J1 W0 (l.setIfInBounds k true) w' :=
  ⟨hb, fun e => getD_set_up (h.2.1 (by rw [getD_set_other (by omega)] at e; exact e)), fun e => getD_set_up (h.2.2 (by rw [getD_set_other (by omega)] at e; exact e))⟩
theorem G1.set {S0 B s b3 o3 N3 c3 b4 o4 N4 c4 n1 y1 n2 y2 : Nat} {x1 x2 : Option Addr} {l : Array Bool} {w w' : World} {j k : Nat} {v : Value} (h : G1 S0 B s b3 o3 N3 c3 b4 o4 N4 c4 n1 y1 n2 y2 x1 x2 l j w v) (hk : k ≠ 12) (hk' : k ≠ 13) (hb : Below w.heap.size w w') : G1 S0 B s b3 o3 N3 c3 b4 o4 N4 c4 n1 y1 n2 y2 x1 x2 (l.setIfInBounds k true) j w' v := by
  unfold G1 at *
  split at h
  case h_11 =>
    obtain ⟨b, e1, e2, e3⟩ := h
    exact ⟨b, e1, e2, by rw [getD_set_other (by omega)]; exact (hb.block b (Array.getElem?_eq_some_iff.1 e3).1).trans e3⟩
  case h_12 =>
    obtain ⟨b, e1, e2, e3⟩ := h
    exact ⟨b, e1, e2, by rw [getD_set_other (by omega)]; exact (hb.block b (Array.getElem?_eq_some_iff.1 e3).1).trans e3⟩
  all_goals exact h
theorem st1 {ops : Array Oper} {a0 : Act} {W0 : World} {S0 B s b3 o3 N3 c3 b4 o4 N4 c4 n1 y1 n2 y2 : Nat} {x1 x2 : Option Addr} (k : Nat) (hk : k < 10) {o : Oper} (hg : o.guard = none) (h : ∀ l a w, PA ops (G1 S0 B s b3 o3 N3 c3 b4 o4 N4 c4 n1 y1 n2 y2 x1 x2) (J1 W0) a0 l a w → (∀ e ∈ o.after, Region.binds .any e = true → l.getD e.on false = true) → ∃ x, (execOp a.eval o).run Try.prog w = .ok (.value x) w ∧ ∀ l', G1 S0 B s b3 o3 N3 c3 b4 o4 N4 c4 n1 y1 n2 y2 x1 x2 l' k w x) : Stp Try.prog ops (G1 S0 B s b3 o3 N3 c3 b4 o4 N4 c4 n1 y1 n2 y2 x1 x2) (J1 W0) a0 k o := by
  intro l a w hp hu ha
  obtain ⟨x, hr, hf⟩ := h l a w hp ha
  unfold opW
  rw [if_pos (wanted_none hg)]
  exact .inl ⟨x, w, hr, x, rfl, J1.set hp.j (by omega) (by omega) hp.j.1, hf _, fun _ _ _ _ h => G1.set h (by omega) (by omega) (brf w)⟩
theorem notDone {l : Array Bool} {k : Nat} (h : l.getD k true = false) : l.getD k false = false := by
  unfold Array.getD at *
  split at h
  · rename_i hk; rw [dif_pos hk]; exact h
  · cases h
theorem heap_new (w : World) (o : Obj) : (w.alloc o).heap[w.heap.size]? = some o := by
  show (w.heap.push o)[w.heap.size]? = some o
  simp
theorem heap_set {w : World} {b : Nat} {u v : Value} {t : TypeId} {f : Nat × Nat} (h : w.heap[b]? = some (.cells #[u] t f)) : (w.setCell ⟨b, 0, none⟩ v).heap[b]? = some (.cells #[v] t f) := by
  simp [World.setCell, Array.getElem?_modify, h]
set_option maxHeartbeats 16000000 in
open Go.Shelf in
theorem iRow (ins ob : Int) (N2 N3 N4 n1 n2 c2 c3 c4 y1 y2 b3 o3 b4 o4 s : Nat) (a2 x1 x2 : Option Addr) (xs : List Int) (ys : List ByteArray) (w : World) (h0 : 0 ≤ ins) (h5 : ins ≤ 5)
    (hn1 : n1 = xs.length) (hn2 : n2 = ys.length) (r1 : RS 1 RInt w 0 xs (.slice x1 n1 y1)) (r2 : RS 1 RStr w 0 ys (.slice x2 n2 y2)) (hN2 : N2 ≤ 64) (hN3 : N3 ≤ 64) (hN4 : N4 ≤ 64)
    (hs3 : s < N3) (hs4 : s < N4) (hw3 : w.cell? ⟨b3, o3 + s, none⟩ = some (.slice x1 n1 y1)) (hw4 : w.cell? ⟨b4, o4 + s, none⟩ = some (.slice x2 n2 y2)) :
    Calls Try.prog 36 #[.agg #[.int .i64 ins, .int .i64 ob, .slice a2 N2 c2, .slice (some ⟨b3, o3, none⟩) N3 c3, .slice (some ⟨b4, o4, none⟩) N4 c4], .int .i64 (s : Int)] w fun e w' => e = .returned (.bool (rowB ins ob N2 xs ys)) ∧ Below w.heap.size w w' := by
  refine (callsIn_wide (n := 6)).1 ?_
  refine callsIn_of_wp_marks Try.func36 rfl trivial ?_ rfl
  refine wpIn_wide.2 ?_
  simp only [Try.ntmps36, List.size_toArray, List.length_cons, List.length_nil, Nat.reduceAdd, Nat.reduceSub, Array.replicate_succ, Array.replicate_zero, List.push_toArray, List.append_toArray, List.nil_append, List.cons_append]
  have i3 : (s : Int) < (N3 : Int) := by omega
  have i4 : (s : Int) < (N4 : Int) := by omega
  have HTL := hide (fun (W : World) (b5 b6 : Nat) => iRowTail ins ob N2 n1 n2 c2 y1 y2 w.heap.size (w.heap.size + 1) b5 b6 a2 x1 x2 (.slice (some ⟨b3, o3, none⟩) N3 c3) (.slice (some ⟨b4, o4, none⟩) N4 c4) xs ys w W h0 h5 hn1 hn2 r1 r2 hN2)
  clear r1 r2 hn1 hn2
  go_wp2
  obtain ⟨W0, hW0⟩ : ∃ W0, (w.alloc (.cells #[.int .i64 ins, .int .i64 ob, .slice a2 N2 c2, .slice (some ⟨b3, o3, none⟩) N3 c3, .slice (some ⟨b4, o4, none⟩) N4 c4] 31)).alloc (.cells #[.bool false] 4) = W0 := ⟨_, rfl⟩
  have hb0 : Below w.heap.size w W0 := by rw [← hW0]; exact bal (bal (brf w) _) _
  have hs0 : W0.heap.size = w.heap.size + 2 := by rw [← hW0]; simp
  have hbx : Bt 31 w #[.int .i64 ins, .int .i64 ob, .slice a2 N2 c2, .slice (some ⟨b3, o3, none⟩) N3 c3, .slice (some ⟨b4, o4, none⟩) N4 c4] W0 := by rw [← hW0]; exact (Bt.refl _ _ _).alloc _
  have hR0 : W0.cell? ⟨w.heap.size + 1, 0, none⟩ = some (.bool false) := by
    rw [← hW0]
    have e : (w.alloc (.cells #[.int .i64 ins, .int .i64 ob, .slice a2 N2 c2, .slice (some ⟨b3, o3, none⟩) N3 c3, .slice (some ⟨b4, o4, none⟩) N4 c4] 31)).heap.size = w.heap.size + 1 := by go_simp
    rw [← e, World.cell?_alloc_new]; rfl
  have hRf0 : W0.frozen? ⟨w.heap.size + 1, 0, none⟩ = false := by rw [← hW0]; simp
  have hc3 := cell_later hb0 hw3
  have hc4 := cell_later hb0 hw4
  rw [hW0]
  have HQ : Hid (∀ V, Below W0.heap.size W0 V → V.cell? ⟨w.heap.size, 0, none⟩ = some (.int .i64 ins) ∧ V.cell? ⟨w.heap.size, 1, none⟩ = some (.int .i64 ob) ∧ V.cell? ⟨w.heap.size, 2, none⟩ = some (.slice a2 N2 c2) ∧ V.cell? ⟨w.heap.size, 3, none⟩ = some (.slice (some ⟨b3, o3, none⟩) N3 c3) ∧ V.cell? ⟨w.heap.size, 4, none⟩ = some (.slice (some ⟨b4, o4, none⟩) N4 c4)) := hide (fun V h => (hbx.then h).get5)
  obtain ⟨B, hB⟩ : ∃ B, w.heap.size = B := ⟨_, rfl⟩
  rw [hB] at HQ hR0 hRf0 ⊢
  clear hW0 hbx hw3 hw4
  refine wp_plan (G1 W0.heap.size B s b3 o3 N3 c3 b4 o4 N4 c4 n1 y1 n2 y2 x1 x2) (J1 W0) (by kernel_rfl) 63 (by kernel_rfl) (by kernel_rfl) ?hj ?hs ?hf
  case hj => exact ⟨bdr (brf W0), fun h => (by simp [Array.getD] at h), fun h => (by simp [Array.getD] at h)⟩
  case hs =>
    refine ⟨?_, ?_, ?_, ?_, ?_, ?_, ?_, ?_, ?_, ?_, ?_, ?_, ?_, ?_, trivial⟩
    · exact st1 0 (by decide) rfl (fun l a V hp ha => ⟨.pointer (some ⟨B, 3, none⟩), by
        have x2 := (ev_form a 2).trans (old hp 2 (v := .pointer (some ⟨B, 0, none⟩)) (by kernel_rfl) (by kernel_rfl))
        go_simp, fun _ => rfl⟩)
    · exact st1 1 (by decide) rfl (fun l a V hp ha => ⟨.slice (some ⟨b3, o3, none⟩) N3 c3, by
        have x10 := (ev_form a 10).trans (show a.eval (.tmp 10) = .pointer (some ⟨B, 3, none⟩) from kn hp ha 10 0 (by kernel_rfl) (by kernel_rfl))
        obtain ⟨q0, q1, q2, q3, q4⟩ := unhide HQ V hp.j.1
        go_simp, fun _ => rfl⟩)
    · exact st1 2 (by decide) rfl (fun l a V hp ha => ⟨.int .i64 (s : Int), by
        have x1 := (ev_form a 1).trans (old hp 1 (v := .int .i64 (s : Int)) (by kernel_rfl) (by kernel_rfl))
        go_simp, fun _ => rfl⟩)
    · exact st1 3 (by decide) rfl (fun l a V hp ha => ⟨.pointer (some ⟨b3, o3 + s, none⟩), by
        have x11 := (ev_form a 11).trans (show a.eval (.tmp 11) = .slice (some ⟨b3, o3, none⟩) N3 c3 from kn hp ha 11 1 (by kernel_rfl) (by kernel_rfl))
        have x12 := (ev_form a 12).trans (show a.eval (.tmp 12) = .int .i64 (s : Int) from kn hp ha 12 2 (by kernel_rfl) (by kernel_rfl))
        go_simp, fun _ => rfl⟩)
    · exact st1 4 (by decide) rfl (fun l a V hp ha => ⟨.slice x1 n1 y1, by
        have x13 := (ev_form a 13).trans (show a.eval (.tmp 13) = .pointer (some ⟨b3, o3 + s, none⟩) from kn hp ha 13 3 (by kernel_rfl) (by kernel_rfl))
        have m3 := cell_later hp.j.1 hc3
        go_simp, fun _ => rfl⟩)
    · exact st1 5 (by decide) rfl (fun l a V hp ha => ⟨.pointer (some ⟨B, 4, none⟩), by
        have x2 := (ev_form a 2).trans (old hp 2 (v := .pointer (some ⟨B, 0, none⟩)) (by kernel_rfl) (by kernel_rfl))
        go_simp, fun _ => rfl⟩)
    · exact st1 6 (by decide) rfl (fun l a V hp ha => ⟨.slice (some ⟨b4, o4, none⟩) N4 c4, by
        have x15 := (ev_form a 15).trans (show a.eval (.tmp 15) = .pointer (some ⟨B, 4, none⟩) from kn hp ha 15 5 (by kernel_rfl) (by kernel_rfl))
        obtain ⟨q0, q1, q2, q3, q4⟩ := unhide HQ V hp.j.1
        go_simp, fun _ => rfl⟩)
    · exact st1 7 (by decide) rfl (fun l a V hp ha => ⟨.int .i64 (s : Int), by
        have x1 := (ev_form a 1).trans (old hp 1 (v := .int .i64 (s : Int)) (by kernel_rfl) (by kernel_rfl))
        go_simp, fun _ => rfl⟩)
    · exact st1 8 (by decide) rfl (fun l a V hp ha => ⟨.pointer (some ⟨b4, o4 + s, none⟩), by
        have x16 := (ev_form a 16).trans (show a.eval (.tmp 16) = .slice (some ⟨b4, o4, none⟩) N4 c4 from kn hp ha 16 6 (by kernel_rfl) (by kernel_rfl))
        have x17 := (ev_form a 17).trans (show a.eval (.tmp 17) = .int .i64 (s : Int) from kn hp ha 17 7 (by kernel_rfl) (by kernel_rfl))
        go_simp, fun _ => rfl⟩)
    · exact st1 9 (by decide) rfl (fun l a V hp ha => ⟨.slice x2 n2 y2, by
        have x18 := (ev_form a 18).trans (show a.eval (.tmp 18) = .pointer (some ⟨b4, o4 + s, none⟩) from kn hp ha 18 8 (by kernel_rfl) (by kernel_rfl))
        have m4 := cell_later hp.j.1 hc4
        go_simp, fun _ => rfl⟩)
    · intro l a V hp hu ha
      unfold opW
      rw [if_pos (wanted_none rfl)]
      have h12 : l.getD 12 false = false := by
        cases e : l.getD 12 false with
        | false => rfl
        | true => have := hp.j.2.1 e; rw [notDone hu] at this; cases this
      refine .inl ⟨.pointer (some ⟨V.heap.size, 0, none⟩), V.alloc (.cells #[.slice none 0 0] 27), by go_simp, _, rfl, J1.set hp.j (by decide) (by decide) (bal hp.j.1 _), ⟨V.heap.size, rfl, hp.j.1.size, ?_⟩, fun _ _ _ _ h => G1.set h (by decide) (by decide) (bal (brf V) _)⟩
      rw [getD_set_other (by decide), h12]
      exact heap_new V _
    · intro l a V hp hu ha
      unfold opW
      rw [if_pos (wanted_none rfl)]
      have h13 : l.getD 13 false = false := by
        cases e : l.getD 13 false with
        | false => rfl
        | true => have := hp.j.2.2 e; rw [notDone hu] at this; cases this
      refine .inl ⟨.pointer (some ⟨V.heap.size, 0, none⟩), V.alloc (.cells #[.slice none 0 0] 22), by go_simp, _, rfl, J1.set hp.j (by decide) (by decide) (bal hp.j.1 _), ⟨V.heap.size, rfl, hp.j.1.size, ?_⟩, fun _ _ _ _ h => G1.set h (by decide) (by decide) (bal (brf V) _)⟩
      rw [getD_set_other (by decide), h13]
      exact heap_new V _
    · intro l a V hp hu ha
      unfold opW
      rw [if_pos (wanted_none rfl)]
      obtain ⟨b, hv5, hS, hh⟩ := kn hp ha 5 10 (by kernel_rfl) (by kernel_rfl)
      have x5 := (ev_form a 5).trans hv5
      have x14 := (ev_form a 14).trans (show a.eval (.tmp 14) = .slice x1 n1 y1 from kn hp ha 14 4 (by kernel_rfl) (by kernel_rfl))
      have hlt : 12 < l.size := by rw [hp.sz]; decide
      have mc : ∃ u, V.cell? ⟨b, 0, none⟩ = some u := ⟨_, by simp [World.cell?, hh]; rfl⟩
      obtain ⟨u0, mc⟩ := mc
      have mf : V.frozen? ⟨b, 0, none⟩ = false := by simp [World.frozen?, hh]
      refine .inr (.inl ⟨V.setCell ⟨b, 0, none⟩ (.slice x1 n1 y1), by go_simp, undef, rfl, ⟨bst hp.j.1 hS _, fun _ => ?_, fun e => ?_⟩, trivial, fun j d hj hl hG => ?_⟩)
      · rw [getD_set_other (by decide)]; exact onB_spec (by kernel_rfl : onB _ 10 = true) ha
      · rw [getD_set_other (by decide)] at e ⊢; exact hp.j.2.2 e
      · unfold G1 at *
        split at hG
        case h_11 =>
          obtain rfl : d = 5 := by have : (some 5 : Option Tmp) = some d := hj; injection this with e; exact e.symm
          rw [hv5] at hG ⊢
          refine ⟨b, rfl, hS, ?_⟩
          rw [set_ite hlt, if_pos rfl]
          exact heap_set hh
        case h_12 =>
          obtain ⟨b', e1, e2, e3⟩ := hG
          refine ⟨b', e1, e2, ?_⟩
          rw [getD_set_other (by decide)]
          rw [Below.heap_setCell _ _ _ _ (show b' ≠ b from fun e => by rw [e, hh] at e3; injection e3 with e3; injection e3 with _ e3; cases e3)]
          exact e3
        all_goals exact hG
    · intro l a V hp hu ha
      unfold opW
      rw [if_pos (wanted_none rfl)]
      obtain ⟨b, hv6, hS, hh⟩ := kn hp ha 6 11 (by kernel_rfl) (by kernel_rfl)
      have x6 := (ev_form a 6).trans hv6
      have x19 := (ev_form a 19).trans (show a.eval (.tmp 19) = .slice x2 n2 y2 from kn hp ha 19 9 (by kernel_rfl) (by kernel_rfl))
      have hlt : 13 < l.size := by rw [hp.sz]; decide
      have mc : ∃ u, V.cell? ⟨b, 0, none⟩ = some u := ⟨_, by simp [World.cell?, hh]; rfl⟩
      obtain ⟨u0, mc⟩ := mc
      have mf : V.frozen? ⟨b, 0, none⟩ = false := by simp [World.frozen?, hh]
      refine .inr (.inl ⟨V.setCell ⟨b, 0, none⟩ (.slice x2 n2 y2), by go_simp, undef, rfl, ⟨bst hp.j.1 hS _, fun e => ?_, fun _ => ?_⟩, trivial, fun j d hj hl hG => ?_⟩)
      · rw [getD_set_other (by decide)] at e ⊢; exact hp.j.2.1 e
      · rw [getD_set_other (by decide)]; exact onB_spec (by kernel_rfl : onB _ 11 = true) ha
      · unfold G1 at *
        split at hG
        case h_12 =>
          obtain rfl : d = 6 := by have : (some 6 : Option Tmp) = some d := hj; injection this with e; exact e.symm
          rw [hv6] at hG ⊢
          refine ⟨b, rfl, hS, ?_⟩
          rw [set_ite hlt, if_pos rfl]
          exact heap_set hh
        case h_11 =>
          obtain ⟨b', e1, e2, e3⟩ := hG
          refine ⟨b', e1, e2, ?_⟩
          rw [getD_set_other (by decide)]
          rw [Below.heap_setCell _ _ _ _ (show b' ≠ b from fun e => by rw [e, hh] at e3; injection e3 with e3; injection e3 with _ e3; cases e3)]
          exact e3
        all_goals exact hG
  case hf =>
    intro l a V hp hall
    obtain ⟨b5, hv5, hS5, hh5⟩ := hp.good 10 _ 5 rfl rfl (hall 10 (by decide))
    obtain ⟨b6, hv6, hS6, hh6⟩ := hp.good 11 _ 6 rfl rfl (hall 11 (by decide))
    rw [if_pos (hall 12 (by decide))] at hh5
    rw [if_pos (hall 13 (by decide))] at hh6
    have k5 : V.cell? ⟨b5, 0, none⟩ = some (.slice x1 n1 y1) := by simp [World.cell?, hh5]
    have k6 : V.cell? ⟨b6, 0, none⟩ = some (.slice x2 n2 y2) := by simp [World.cell?, hh6]
    have hbV := hp.j.1
    obtain ⟨q0, q1, q2, q3, q4⟩ := unhide HQ V hbV
    obtain ⟨us, rfl, hus⟩ := putAll_of [10, 11, 12, 13, 14, 15, 16, 17, 18, 19, 5, 6] hp.nt hp.df (fun t ht => hp.keep t (dstIn (by kernel_rfl) ht))
    have hu5 : us 5 = .pointer (some ⟨b5, 0, none⟩) := (hus 5).trans hv5
    have hu6 : us 6 = .pointer (some ⟨b6, 0, none⟩) := (hus 6).trans hv6
    clear hp hall hv5 hv6 hus
    simp only [putAll, List.foldl, Act.put, List.setIfInBounds_toArray, List.set_cons_zero, List.set_cons_succ, hu5, hu6]
    clear hu5 hu6
    have hTT := unhide HTL V b5 b6 (btr hb0 hbV) (by rw [hB]; exact ⟨q0, q1, q2, q3, q4, k5, k6⟩) (by rw [hB]; exact cell_later hbV hR0) (by rw [hB]; exact frozen_later hbV hR0 hRf0) (by omega) (by omega) (by omega) (by omega)
    subst hB
    have hk := ‹∀ (a : Act) (w : World), Code.wp Try.prog _ _ a w → _›
    refine hk _ _ ?_
    exact hTT _ _ _ _ _ _ _ _ _ _ _ _ _ _ _ _ _ _ _ _ _ _ _ _ _ _ _ _ _ _ _ _ _ _ _ _ _ _ _ _ _ _ _ _ _ _ _ _ _ _ _ _ _ _ _ _ _ _ _
end Go.Proofs.Ytjbbjgoofenkpaa
