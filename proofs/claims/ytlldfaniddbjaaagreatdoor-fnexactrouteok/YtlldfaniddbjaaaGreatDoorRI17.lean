/- The program's link: a number is put to a row of rows. -/
import Derived.Test.YtlldfaniddbjaaaGreatDoorRI16
import Derived.Test.YtlldfaniddbjaaaGreatDoorGRP
import Derived.Test.YtlldfaniddbjaaaGreatDoorGN2
namespace Go.Proofs.YtlldfaniddbjaaaGreatDoor
open Go Go.RowKit Gs
set_option linter.unusedVariables false
set_option linter.unusedSimpArgs false
set_option maxRecDepth 100000
set_option maxHeartbeats 16000000
theorem heap_lt {W : World} {k : Nat} {o : Obj} (h : W.heap[k]? = some o) : k < W.heap.size := (Array.getElem?_eq_some_iff.1 h).1
theorem heap_set {W : World} {b i : Nat} {o : Array Value} {t : TypeId} {v : Value} (h : W.heap[b]? = some (.cells o t)) : (W.setCell ⟨b, i, none⟩ v).heap[b]? = some (.cells (o.setIfInBounds i v) t) := by
  unfold World.setCell
  simp only
  rw [Array.getElem?_modify]
  simp [h]
theorem ty_ne {W : World} {a x : Nat} {o o' : Array Value} {t t' : TypeId} {f f' : Nat × Nat} (h : W.heap[a]? = some (.cells o t f)) (h' : W.heap[x]? = some (.cells o' t' f')) (hne : t ≠ t') : a ≠ x := by
  intro e; subst e
  rw [h] at h'
  injection h' with h1
  injection h1 with _ h3 _
  exact hne h3
theorem own_ty {W : World} {B e k n : Nat} {v : Value} {vs : List Value} (h : W.ownsRow B e k v n vs) {j : Nat} (hj : v.ownBlock = some j) : ∃ o, W.heap[j]? = some (.cells o e) := by
  rcases h.2 with ⟨rfl, _⟩ | ⟨g, cap, cur, rfl, _, hg, _⟩
  · cases hj
  · have : some g = some j := hj
    injection this with e; subst e
    exact ⟨cur, hg⟩
theorem ownsRow_keep {W W' : World} {B e k n : Nat} {v : Value} {vs : List Value} (h : W.ownsRow B e k v n vs) (hk : ∀ g o, v.ownBlock = some g → W.heap[g]? = some (.cells o e) → W'.heap[g]? = some (.cells o e)) : W'.ownsRow B e k v n vs := by
  obtain ⟨h1, h2 | ⟨g, cap, cur, hv, hg, hc, rest⟩⟩ := h
  · exact ⟨h1, .inl h2⟩
  · refine ⟨h1, .inr ⟨g, cap, cur, hv, hg, hk g cur ?_ hc, rest⟩⟩
    rw [hv]; rfl
theorem own_shape {W : World} {B e k n : Nat} {v : Value} {xs : List Value} (h : W.ownsRow B e k v n xs) : ∃ a c, v = .slice a n c := by
  rcases h.2 with ⟨hv, hn⟩ | ⟨g, cap, cur, hv, _⟩
  · exact ⟨none, 0, by rw [hv, hn]⟩
  · exact ⟨_, _, hv⟩
section
variable {P : Program} {ops : Array Oper} {a0 : Act} {F : Nat → Value → Prop} {F2 : Nat → World → Value → Prop} {w0 : World} {m n : Nat} {A : Value → World → Prop} {E : World → Prop}
/-- An operation that may stand behind the append, and reads what the append leaves alone. -/
theorem sar_floatR {k : Nat} {o : Oper} {t : Tmp} (hkm : k ≠ m) (hkn : k ≠ n) (hd : (ops[m]?).bind (·.dst) = some t) (hn : ∀ l a w, PA ops (GAr F F2 m n A) (JAr w0 m n A E) a0 l a w → l.getD k false = false → l.getD n false = false) (hg : o.guard = none) (h : ∀ l a w, PA ops (GAr F F2 m n A) (JAr w0 m n A E) a0 l a w → (Below w0.heap.size w0 w ∨ ∃ v, A v w) → (∀ e ∈ o.after, Region.binds .any e = true → l.getD e.on false = true) → ∃ x, (execOp a.eval o).run P w = .ok (.value x) w ∧ F k x ∧ F2 k w x) : Stp P ops (GAr F F2 m n A) (JAr w0 m n A E) a0 k o := by
  intro l a w hp hu ha
  have h2 := hn l a w hp (notDoneB hu)
  have hw : Below w0.heap.size w0 w ∨ ∃ v, A v w := by
    cases e : l.getD m false with
    | false => exact .inl (hp.j.1 e)
    | true =>
      obtain ⟨om, hom, hdm⟩ := Option.bind_eq_some_iff.1 hd
      exact .inr ⟨_, (hp.good m om t hom hdm e).2.2 rfl h2⟩
  obtain ⟨x, hr, hf, hf2⟩ := h l a w hp hw ha
  unfold opW
  rw [if_pos (wanted_none hg)]
  refine .inl ⟨x, w, hr, x, rfl, ⟨fun e => ?_, fun e => ?_, fun e => ?_⟩, ⟨hf, fun _ => hf2, fun e => absurd e hkm⟩, fun j d hd hj hG => ⟨hG.1, fun e => ?_, fun e _ => hG.2.2 e h2⟩⟩
  · rw [set_oth hu (Ne.symm hkm)] at e; exact hp.j.1 e
  · rw [set_oth hu (Ne.symm hkn), h2] at e; cases e
  · rw [set_oth hu (Ne.symm hkn), h2] at e; cases e
  · rw [set_oth hu (Ne.symm hkm)] at e; exact hG.2.1 e
end
theorem anyCell {wr V : World} {row : Option Nat} {b o : Nat} {y : Value} (hc : wr.cell? ⟨b, o, none⟩ = some y) (h : Below wr.heap.size wr V ∨ ∃ V0, Below wr.heap.size wr V0 ∧ V0.grownBy V row) (hne : row = some b → False) : V.cell? ⟨b, o, none⟩ = some y := by
  rcases h with h | ⟨V0, h1, h2⟩
  · exact cell_later h hc
  · exact h2.cell (cell_later h1 hc) (fun e => hne e.symm)
theorem own_stay {B e k n : Nat} {v : Value} {xs : List Value} {W V : World} (h : W.ownsRow B e k v n xs) (hb : ∀ j, v.ownBlock = some j → V.heap[j]? = W.heap[j]?) : V.ownsRow B e k v n xs := ownsRow_keep h (fun g o hg hc => (hb g hg).trans hc)
def F2V (w0 : World) (k8 : Nat) (y : Value) : Nat → World → Value → Prop := fun k w v => k = k8 → ∃ M, v = .slice (some ⟨M, 0, none⟩) 1 1 ∧ w0.heap.size ≤ M ∧ w.cell? ⟨M, 0, none⟩ = some y
theorem F2V.lasts (w0 : World) (k8 : Nat) (y : Value) : Lasts (F2V w0 k8 y) := fun k w w' v hb h e => by
  obtain ⟨M, h1, h2, h3⟩ := h e
  exact ⟨M, h1, h2, cell_later hb h3⟩
def lkF (g i nr nc : Nat) (tv : Value) (r : Int) : Nat → Value → Prop
  | 0, v => v = .slice (some ⟨g, 0, none⟩) nr nc
  | 1, v => v = .int .i64 (i : Int)
  | 2, v => v = .slice (some ⟨g, 0, none⟩) nr nc
  | 3, v => v = .int .i64 (i : Int)
  | 4, v => v = .pointer (some ⟨g, i, none⟩)
  | 5, v => v = tv
  | 6, v => v = .int .i64 r
  | 9, v => v = .pointer (some ⟨g, i, none⟩)
  | _, _ => True
theorem iLink1 {b g i nr nc B : Nat} {tv : Value} {xs : List Value} {cur : Array Value} {r : Int} {wr : World} (HTV : Hid (wr.ownsRow B 3 1 tv xs.length xs)) (HAL : Hid (xs.length ≤ 4194303)) (hH : i < nr) (HSZ : Hid (B ≤ wr.heap.size)) (HC3 : Hid (wr.cell? ⟨b, 0, none⟩ = some (.slice (some ⟨g, 0, none⟩) nr nc))) (HCH : Hid (wr.cell? ⟨g, i, none⟩ = some tv)) (HGB : Hid (wr.heap[g]? = some (.cells cur 29))) (HNB : Hid (∀ k, tv.ownBlock = some k → k ≠ b ∧ k ≠ g)) (htv : ∃ a l c, tv = .slice a l c) :
    Calls Tryz.prog 89 #[.int .i64 (i : Int), .int .i64 r, .pointer (some ⟨b, 0, none⟩)] wr fun e V => e = .returned (.tuple #[]) ∧ ∃ V1 V0 v, V1.ownsRow B 3 1 v (xs.length + 1) (xs ++ [.int .i64 r]) ∧ Below wr.heap.size wr V0 ∧ V0.grownBy V1 tv.ownBlock ∧ (v.ownBlock = tv.ownBlock ∨ v.ownBlock = some V0.heap.size) ∧ V = V1.setCell ⟨g, i, none⟩ v := by
  obtain ⟨i0, hi, hz0, hz1, hz2⟩ := info_parts info3
  have HI := hide (And.intro hi (And.intro hz0 (And.intro hz1 hz2)))
  obtain ⟨ta, tl, tc, htv⟩ := htv
  have j1 : (0 : Int) ≤ (i : Int) := by omega
  have j2 : (i : Int) < (nr : Int) := by omega
  clear hi hz0 hz1 hz2
  go_enter Tryz.func89, Tryz.ntmps89
  refine wp_plan (GAr (lkF g i nr nc tv r) (F2V wr 7 (.int .i64 r)) 8 10 (fun v V => V.ownsRow B 3 1 v (xs.length + 1) (xs ++ [.int .i64 r]) ∧ ∃ V0, Below wr.heap.size wr V0 ∧ V0.grownBy V tv.ownBlock ∧ (v.ownBlock = tv.ownBlock ∨ v.ownBlock = some V0.heap.size))) (JAr wr 8 10 (fun v V => V.ownsRow B 3 1 v (xs.length + 1) (xs ++ [.int .i64 r]) ∧ ∃ V0, Below wr.heap.size wr V0 ∧ V0.grownBy V tv.ownBlock ∧ (v.ownBlock = tv.ownBlock ∨ v.ownBlock = some V0.heap.size)) (fun V' => ∃ V v, (fun v V => V.ownsRow B 3 1 v (xs.length + 1) (xs ++ [.int .i64 r]) ∧ ∃ V0, Below wr.heap.size wr V0 ∧ V0.grownBy V tv.ownBlock ∧ (v.ownBlock = tv.ownBlock ∨ v.ownBlock = some V0.heap.size)) v V ∧ V' = V.setCell ⟨g, i, none⟩ v)) (by kernel_rfl) 15 (by kernel_rfl) (by kernel_rfl) ?hj ?hs ?hf
  case hj => exact JAr.start (bdr (brf wr))
  case hs =>
    refine ⟨?_, ?_, ?_, ?_, ?_, ?_, ?_, ?_, ?_, ?_, ?_, trivial⟩
    · exact sar_floatR (t := 13) (by decide) (by decide) rfl (fun l a w hp hu => (und hp (k := 0) (j := 10) (by kernel_rfl) hu)) rfl (fun l a V hp hV ha => ⟨.slice (some ⟨g, 0, none⟩) nr nc, by
        have x2 := (ev_form a 2).trans (old hp 2 (v := .pointer (some ⟨b, 0, none⟩)) (by kernel_rfl) (by kernel_rfl))
        have mq := anyCell (unhide HC3) (hV.imp id (fun ⟨v, _, V0, a, b, _⟩ => ⟨V0, a, b⟩)) (fun e => (unhide HNB b e).1 rfl)
        go_simp, rfl, fun e => absurd e (by decide)⟩)
    · exact sar_float (by decide) (by decide) (fun l a w hp hu => (und hp (k := 1) (j := 10) (by kernel_rfl) hu)) rfl (fun l a V hp ha => ⟨.int .i64 (i : Int), by
        have x0 := (ev_form a 0).trans (old hp 0 (v := .int .i64 (i : Int)) (by kernel_rfl) (by kernel_rfl))
        go_simp, rfl, fun e => absurd e (by decide)⟩)
    · exact sar_val (by decide) (by decide) (fun l a w hp hu => ⟨(und hp (k := 5) (j := 8) (by kernel_rfl) (und hp (k := 4) (j := 5) (by kernel_rfl) (und hp (k := 2) (j := 4) (by kernel_rfl) hu))), (und hp (k := 2) (j := 10) (by kernel_rfl) hu)⟩) rfl (fun l a V hp h1 hB ha => ⟨.slice (some ⟨g, 0, none⟩) nr nc, by
        have x2 := (ev_form a 2).trans (old hp 2 (v := .pointer (some ⟨b, 0, none⟩)) (by kernel_rfl) (by kernel_rfl))
        have mq := cell_later hB (unhide HC3)
        go_simp, rfl, fun e => absurd e (by decide)⟩)
    · exact sar_val (by decide) (by decide) (fun l a w hp hu => ⟨(und hp (k := 5) (j := 8) (by kernel_rfl) (und hp (k := 4) (j := 5) (by kernel_rfl) (und hp (k := 3) (j := 4) (by kernel_rfl) hu))), (und hp (k := 3) (j := 10) (by kernel_rfl) hu)⟩) rfl (fun l a V hp h1 hB ha => ⟨.int .i64 (i : Int), by
        have x0 := (ev_form a 0).trans (old hp 0 (v := .int .i64 (i : Int)) (by kernel_rfl) (by kernel_rfl))
        go_simp, rfl, fun e => absurd e (by decide)⟩)
    · exact sar_val (by decide) (by decide) (fun l a w hp hu => ⟨(und hp (k := 5) (j := 8) (by kernel_rfl) (und hp (k := 4) (j := 5) (by kernel_rfl) hu)), (und hp (k := 4) (j := 10) (by kernel_rfl) hu)⟩) rfl (fun l a V hp h1 hB ha => ⟨.pointer (some ⟨g, i, none⟩), by
        have x7 := (ev_form a 7).trans (show a.eval (.tmp 7) = .slice (some ⟨g, 0, none⟩) nr nc from (kn hp ha 7 2 (by kernel_rfl) (by kernel_rfl)).1)
        have x8 := (ev_form a 8).trans (show a.eval (.tmp 8) = .int .i64 (i : Int) from (kn hp ha 8 3 (by kernel_rfl) (by kernel_rfl)).1)
        go_simp, rfl, fun e => absurd e (by decide)⟩)
    · exact sar_val (by decide) (by decide) (fun l a w hp hu => ⟨(und hp (k := 5) (j := 8) (by kernel_rfl) hu), (und hp (k := 5) (j := 10) (by kernel_rfl) hu)⟩) rfl (fun l a V hp h1 hB ha => ⟨tv, by
        have x9 := (ev_form a 9).trans (show a.eval (.tmp 9) = .pointer (some ⟨g, i, none⟩) from (kn hp ha 9 4 (by kernel_rfl) (by kernel_rfl)).1)
        have mq := cell_later hB (unhide HCH)
        go_simp, rfl, fun e => absurd e (by decide)⟩)
    · exact sar_val (by decide) (by decide) (fun l a w hp hu => ⟨(und hp (k := 7) (j := 8) (by kernel_rfl) (und hp (k := 6) (j := 7) (by kernel_rfl) hu)), (und hp (k := 6) (j := 10) (by kernel_rfl) hu)⟩) rfl (fun l a V hp h1 hB ha => ⟨.int .i64 r, by
        have x1 := (ev_form a 1).trans (old hp 1 (v := .int .i64 r) (by kernel_rfl) (by kernel_rfl))
        go_simp, rfl, fun e => absurd e (by decide)⟩)
    · exact sar_new (F2V.lasts _ _ _) (by decide) (by decide) (fun l a w hp hu => ⟨(und hp (k := 7) (j := 8) (by kernel_rfl) hu), (und hp (k := 7) (j := 10) (by kernel_rfl) hu)⟩) rfl (fun l a V hp h1 hB ha => ⟨.slice (some ⟨V.heap.size, 0, none⟩) 1 1, .cells #[.int .i64 r] 3, by
        have x11 := (ev_form a 11).trans (show a.eval (.tmp 11) = .int .i64 r from (kn hp ha 11 6 (by kernel_rfl) (by kernel_rfl)).1)
        go_simp, trivial, fun _ => ⟨V.heap.size, rfl, hB.size, by rw [World.cell?_alloc_new]; rfl⟩⟩)
    · refine sar_app (by decide) (fun l a w hp hu => (und hp (k := 8) (j := 10) (by kernel_rfl) hu)) rfl (fun l a V hp h1 hB ha => ?_)
      have hv1 : a.eval (.tmp 10) = tv := (kn hp ha 10 5 (by kernel_rfl) (by kernel_rfl)).1
      obtain ⟨M1, hv2, hM, hMc⟩ := (kn hp ha 12 7 (by kernel_rfl) (by kernel_rfl)).2.1 h1 rfl
      have hot := unhide HTV
      have hot2 := own_stay hot (V := V) (fun j hj => hB.block j (heap_lt (own_ty hot hj).choose_spec))
      obtain ⟨v', w', hr, h2, h3, _, h5⟩ := run_append_own_at (P := Tryz.prog) V B 29 29 3 i0 (.int .i64 0) 1 8 Tryz.underlying29 (unhide HI).1 (unhide HI).2.1 (unhide HI).2.2.1 (unhide HI).2.2.2 rfl (by decide) tv xs.length _ hot2 ⟨M1, 0, none⟩ 1 1 [.int .i64 r] rfl (by
        intro j u hj
        match j, hj with
        | 0, hj => simp at hj; subst hj; simpa [Addr.add] using hMc
        | j + 1, hj => simp at hj) (by intro u hu; simp at hu; subst hu; rfl) (by have := unhide HAL; unfold maxLen; omega) (by have := unhide HAL; omega) (by have h1 := hB.size; have h2 := unhide HSZ; omega)
      refine ⟨v', w', ?_, ⟨h2, V, hB, h3, h5⟩, trivial⟩
      unfold execOp
      simp only [resolve, invoke, builtin, Sem.run_bind, Sem.run_pure, Result.andThen_ok, List.map_toArray, List.map_cons, List.map_nil, hv1, hv2, hr]
    · exact sar_float (by decide) (by decide) (fun l a w hp hu => (und hp (k := 9) (j := 10) (by kernel_rfl) hu)) rfl (fun l a V hp ha => ⟨.pointer (some ⟨g, i, none⟩), by
        have x5 := (ev_form a 5).trans (show a.eval (.tmp 5) = .slice (some ⟨g, 0, none⟩) nr nc from (kn hp ha 5 0 (by kernel_rfl) (by kernel_rfl)).1)
        have x6 := (ev_form a 6).trans (show a.eval (.tmp 6) = .int .i64 (i : Int) from (kn hp ha 6 1 (by kernel_rfl) (by kernel_rfl)).1)
        go_simp, rfl, fun e => absurd e (by decide)⟩)
    · refine sar_last (t := 13) (by decide) rfl rfl (by kernel_rfl) (fun l a V hp hA ha => ?_) trivial
      have x14 := (ev_form a 14).trans (show a.eval (.tmp 14) = .pointer (some ⟨g, i, none⟩) from (kn hp ha 14 9 (by kernel_rfl) (by kernel_rfl)).1)
      have x13 := ev_form a 13
      obtain ⟨h1, V0, hV0, hgr, h5⟩ := id hA
      have m1 := hgr.cell (cell_later hV0 (unhide HCH)) (fun e => (unhide HNB g e.symm).2 rfl)
      have m2 : V.frozen? ⟨g, i, none⟩ = false := by simp [World.frozen?, (hgr.block g (Nat.lt_of_lt_of_le (World.block_lt_of_cell? _ _ (unhide HCH)) hV0.size) (fun e => (unhide HNB g e.symm).2 rfl)), (hV0.block g (World.block_lt_of_cell? _ _ (unhide HCH))), unhide HGB]
      generalize a.eval (.tmp 13) = tv' at *
      obtain ⟨sa, sc, rfl⟩ := own_shape h1
      exact ⟨V.setCell ⟨g, i, none⟩ (.slice sa (xs.length + 1) sc), by clear hA h1 hgr hV0 h5; go_simp, ⟨V, _, hA, rfl⟩⟩
  case hf =>
    intro l a V hp hall
    obtain ⟨V1, v, ⟨h1, V0, hV0, hgr, h5⟩, hV⟩ := hp.j.2.1 (hall 10 (by decide))
    have hdf := hp.df
    refine bodyPost_end (results_none rfl _ _ _) hdf ?_
    exact ⟨rfl, V1, V0, v, h1, hV0, hgr, h5, hV⟩
end Go.Proofs.YtlldfaniddbjaaaGreatDoor
