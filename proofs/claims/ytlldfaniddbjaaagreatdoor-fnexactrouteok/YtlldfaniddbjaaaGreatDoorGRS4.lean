/- A plan for a region whose last operation alone writes. -/
import Derived.Test.YtlldfaniddbjaaaGreatDoorGRW2
import Derived.Test.YtlldfaniddbjaaaGreatDoorGGS2
import Derived.Test.YtlldfaniddbjaaaGreatDoorGRS3
namespace Go.Proofs.YtlldfaniddbjaaaGreatDoor
open Go Go.RowKit
set_option linter.unusedVariables false
section
variable {P : Program} {ops : Array Oper} {a0 : Act} {F : Nat → Value → Prop} {w0 : World} {n : Nat} {E : World → Prop}
abbrev JE (w0 : World) (n : Nat) (E : World → Prop) : Array Bool → World → Prop := fun l w => (l.getD n false = false → Below w0.heap.size w0 w) ∧ (l.getD n false = true → E w)
theorem JE.start {w0 w : World} {n m : Nat} {E : World → Prop} (h : Below w0.heap.size w0 w) : JE w0 n E (Array.replicate m false) w :=
  ⟨fun _ => h, fun e => by
    exfalso
    by_cases hm : n < m
    · simp [Array.getD, hm] at e
    · simp [Array.getD, hm] at e⟩
theorem lt_of_undone {l : Array Bool} {k : Nat} (h : l.getD k true = false) : k < l.size := by
  by_cases hk : k < l.size
  · exact hk
  · simp [Array.getD, hk] at h
theorem JE.low {l : Array Bool} {a : Act} {w : World} (hp : PA ops (GF F) (JE w0 n E) a0 l a w) {k : Nat} (hn : (ops[n]?).any (fun o => onB o.after k) = true) (hu : l.getD k true = false) : l.getD n false = false := by
  cases e : l.getD n false with
  | false => rfl
  | true =>
    exfalso
    cases ho : ops[n]? with
    | none => rw [ho] at hn; simp at hn
    | some o =>
      rw [ho] at hn
      have hd := onB_spec (by simpa using hn) (hp.down n o ho e)
      rw [notDoneB hu] at hd
      cases hd
theorem JE.step {l : Array Bool} {w' : World} {k : Nat} (hne : k ≠ n) (hu : l.getD k true = false) (hl : l.getD n false = false) (hb : Below w0.heap.size w0 w') : JE w0 n E (l.setIfInBounds k true) w' := by
  have e : (l.setIfInBounds k true).getD n false = false := by rw [set_ite (lt_of_undone hu), if_neg (fun e => hne e.symm), hl]
  exact ⟨fun _ => hb, fun h => by rw [e] at h; cases h⟩
theorem se_val {k : Nat} {o : Oper} (hne : k ≠ n) (hn : (ops[n]?).any (fun o => onB o.after k) = true) (hg : o.guard = none) (h : ∀ l a w, PA ops (GF F) (JE w0 n E) a0 l a w → Below w0.heap.size w0 w → (∀ e ∈ o.after, Region.binds .any e = true → l.getD e.on false = true) → ∃ x, (execOp a.eval o).run P w = .ok (.value x) w ∧ F k x) : Stp P ops (GF F) (JE w0 n E) a0 k o := by
  intro l a w hp hu ha
  have hl := JE.low hp hn hu
  have hb := hp.j.1 hl
  obtain ⟨x, hr, hf⟩ := h l a w hp hb ha
  unfold opW
  rw [if_pos (wanted_none hg)]
  exact .inl ⟨x, w, hr, x, rfl, JE.step hne hu hl hb, hf, fun _ _ _ _ h => h⟩
theorem se_valg {k : Nat} {o : Oper} {g : Nat} {want c : Bool} {d : Tmp} (hne : k ≠ n) (hn : (ops[n]?).any (fun o => onB o.after k) = true) (hg : o.guard = some (g, want)) (hd : (ops[g]?).bind (·.dst) = some d) (hnt : d < a0.tmps.size) (he : onB o.after g = true) (hc : ∀ v, F g v → v = .bool c) (hno : c ≠ want → F k undef)
    (h : ∀ l a w, PA ops (GF F) (JE w0 n E) a0 l a w → Below w0.heap.size w0 w → (∀ e ∈ o.after, Region.binds .any e = true → l.getD e.on false = true) → c = want → ∃ x, (execOp a.eval o).run P w = .ok (.value x) w ∧ F k x) : Stp P ops (GF F) (JE w0 n E) a0 k o := by
  intro l a w hp hu ha
  have hl := JE.low hp hn hu
  have hb := hp.j.1 hl
  have hv := hc _ (kn hp ha d g hd he)
  have hw := wanted_some (ops := ops) hg hd (by rw [hp.nt]; exact hnt) hv
  unfold opW
  by_cases e : c = want
  · obtain ⟨x, hr, hf⟩ := h l a w hp hb ha e
    rw [if_pos (by rw [hw, e]; simp)]
    exact .inl ⟨x, w, hr, x, rfl, JE.step hne hu hl hb, hf, fun _ _ _ _ h => h⟩
  · rw [if_neg (by rw [hw]; simpa using e)]
    exact ⟨undef, rfl, JE.step hne hu hl hb, hno e, fun _ _ _ _ h => h⟩
theorem se_call {k : Nat} {o : Oper} {f : FuncId} (hne : k ≠ n) (hn : (ops[n]?).any (fun o => onB o.after k) = true) (hg : o.guard = none) (h : ∀ l a w, PA ops (GF F) (JE w0 n E) a0 l a w → Below w0.heap.size w0 w → (∀ e ∈ o.after, Region.binds .any e = true → l.getD e.on false = true) → ∃ args, (execOp a.eval o).run P w = .ok (.enter f args) w ∧ Calls P f args w fun e w' => ∃ x, e = .returned x ∧ F k x ∧ Below w.heap.size w w') : Stp P ops (GF F) (JE w0 n E) a0 k o := by
  intro l a w hp hu ha
  have hl := JE.low hp hn hu
  have hb := hp.j.1 hl
  obtain ⟨args, hr, hc⟩ := h l a w hp hb ha
  unfold opW
  rw [if_pos (wanted_none hg)]
  refine .inr (.inr ⟨f, args, w, hr, Calls.mono hc ?_⟩)
  rintro e w' ⟨x, rfl, hf, hb'⟩
  exact ⟨x, rfl, x, rfl, JE.step hne hu hl (btr hb hb'), hf, fun _ _ _ _ h => h⟩
theorem se_callg {k : Nat} {o : Oper} {f : FuncId} {g : Nat} {want c : Bool} {d : Tmp} (hne : k ≠ n) (hn : (ops[n]?).any (fun o => onB o.after k) = true) (hg : o.guard = some (g, want)) (hd : (ops[g]?).bind (·.dst) = some d) (hnt : d < a0.tmps.size) (he : onB o.after g = true) (hc : ∀ v, F g v → v = .bool c) (hno : c ≠ want → F k undef)
    (h : ∀ l a w, PA ops (GF F) (JE w0 n E) a0 l a w → Below w0.heap.size w0 w → (∀ e ∈ o.after, Region.binds .any e = true → l.getD e.on false = true) → c = want → ∃ args, (execOp a.eval o).run P w = .ok (.enter f args) w ∧ Calls P f args w fun e w' => ∃ x, e = .returned x ∧ F k x ∧ Below w.heap.size w w') : Stp P ops (GF F) (JE w0 n E) a0 k o := by
  intro l a w hp hu ha
  have hl := JE.low hp hn hu
  have hb := hp.j.1 hl
  have hv := hc _ (kn hp ha d g hd he)
  have hw := wanted_some (ops := ops) hg hd (by rw [hp.nt]; exact hnt) hv
  unfold opW
  by_cases e : c = want
  · obtain ⟨args, hr, hcl⟩ := h l a w hp hb ha e
    rw [if_pos (by rw [hw, e]; simp)]
    refine .inr (.inr ⟨f, args, w, hr, Calls.mono hcl ?_⟩)
    rintro e w' ⟨x, rfl, hf, hb'⟩
    exact ⟨x, rfl, x, rfl, JE.step hne hu hl (btr hb hb'), hf, fun _ _ _ _ h => h⟩
  · rw [if_neg (by rw [hw]; simpa using e)]
    exact ⟨undef, rfl, JE.step hne hu hl hb, hno e, fun _ _ _ _ h => h⟩
theorem se_last {o : Oper} (hg : o.guard = none) (h : ∀ l a w, PA ops (GF F) (JE w0 n E) a0 l a w → Below w0.heap.size w0 w → (∀ e ∈ o.after, Region.binds .any e = true → l.getD e.on false = true) → ∃ w', (execOp a.eval o).run P w = .ok .skip w' ∧ E w') (hf : F n undef) : Stp P ops (GF F) (JE w0 n E) a0 n o := by
  intro l a w hp hu ha
  have hb := hp.j.1 (notDoneB hu)
  obtain ⟨w', hr, hE⟩ := h l a w hp hb ha
  unfold opW
  rw [if_pos (wanted_none hg)]
  have e : (l.setIfInBounds n true).getD n false = true := by rw [set_ite (lt_of_undone hu), if_pos rfl]
  exact .inr (.inl ⟨w', hr, undef, rfl, ⟨fun h => (by rw [e] at h; cases h), fun _ => hE⟩, hf, fun _ _ _ _ h => h⟩)
end
end Go.Proofs.YtlldfaniddbjaaaGreatDoor
namespace Go.Proofs.YtlldfaniddbjaaaGreatDoor
open Go Go.RowKit Gs
set_option linter.unusedVariables false
/-- A block that was made holds what was put into it, and may be written. -/
theorem new_cell {W V : World} {M : Array Value} {t : TypeId} (hb : Below (W.alloc (.cells M t)).heap.size (W.alloc (.cells M t)) V) {i : Nat} {x : Value} (hx : M[i]? = some x) : V.cell? ⟨W.heap.size, i, none⟩ = some x ∧ V.frozen? ⟨W.heap.size, i, none⟩ = false := by
  have h1 : (W.alloc (.cells M t)).cell? ⟨W.heap.size, i, none⟩ = some x := by rw [World.cell?_alloc_new]; exact hx
  have h2 : (W.alloc (.cells M t)).frozen? ⟨W.heap.size, i, none⟩ = false := by simp
  exact ⟨cell_later hb h1, frozen_later hb h1 h2⟩
/-- Two cells that are written. -/
theorem put_two {W0 V : World} {g : Nat} {x0 x1 a b : Value} (h0 : V.cell? ⟨g, 0, none⟩ = some x0) (h1 : V.cell? ⟨g, 1, none⟩ = some x1) : At (setK V g 0 [a, b]) g 0 [a, b] :=
  setK_at _ _ _ _ (fun i hi => by
    match i, hi with
    | 0, _ => exact ⟨_, h0⟩
    | 1, _ => exact ⟨_, h1⟩)
end Go.Proofs.YtlldfaniddbjaaaGreatDoor
namespace Go.Proofs.YtlldfaniddbjaaaGreatDoor
open Go Go.RowKit Gs
set_option linter.unusedVariables false
set_option linter.unusedSimpArgs false
set_option maxRecDepth 100000
set_option maxHeartbeats 6400000
def FFr (W H T P g b o N ct m n0 c0 : Nat) (a0 : Option Addr) (q s : Int) : Nat → Value → Prop
  | 0, v => v = .agg #[.int .i64 (W : Int), .int .i64 (H : Int), .int .i64 (T : Int), .int .i64 (P : Int)]
  | 1, v => v = .slice (some ⟨b, o, none⟩) N ct
  | 2, v => v = .int .i64 s
  | 3, v => v = .pointer (some ⟨g, 0, none⟩)
  | 4, v => v = .slice a0 n0 c0
  | 5, v => v = .int .i64 (n0 : Int)
  | 6, v => v = .int .i64 (m : Int)
  | 7, v => v = .pointer (some ⟨b, o + m, none⟩)
  | 8, v => v = .int .i64 q
  | 9, v => v = .agg #[.int .i64 (tileP W q).1, .int .i64 (tileP W q).2]
  | 10, v => True
  | _, _ => True

theorem wrap_m {n0 m : Nat} (h : m ≤ 64) : IntKind.i64.wrap ((n0 : Int) + (m : Int) - (n0 : Int)) = (m : Int) := by
  rw [show (n0 : Int) + (m : Int) - (n0 : Int) = (m : Int) by omega]
  simp [IntKind.wrap, IntKind.signed, IntKind.bits]; omega
theorem sFrom (a0 a1 a2 a3 a4 : Option Addr) (n0 n1 n2 n3 n4 c0 c1 c2 c3 c4 : Nat) (W H T P : Nat) (ts : List Int) (v : Value) (s : Nat) (w : World) (hW : W ≤ 8) (hW1 : 1 ≤ W) (hH1 : 1 ≤ H) (hH : H ≤ 8) (hs : s < n0 + ts.length) (hn : n0 ≤ 1048576) (hl : ts.length ≤ 64) (hr : RS 1 RInt w 0 ts v) (ht : ∀ t ∈ ts, 0 ≤ t ∧ t ≤ 64) :
    Calls Tryz.prog 21 #[.agg #[.slice a0 n0 c0, .slice a1 n1 c1, .slice a2 n2 c2, .slice a3 n3 c3, .slice a4 n4 c4], .agg #[.int .i64 (W : Int), .int .i64 (H : Int), .int .i64 (T : Int), .int .i64 (P : Int)], v, .int .i64 (s : Int)] w fun e w' => e = .returned (.agg #[.int .i64 (fromP n0 W H ts s).1, .int .i64 (fromP n0 W H ts s).2]) ∧ Below w.heap.size w w' := by
  by_cases h1 : s < n0
  · obtain ⟨a, ha⟩ : ∃ a, (s : Int) % (H : Int) = a := ⟨_, rfl⟩
    have e1 : Int.tmod (s : Int) (H : Int) = a := by rw [Int.tmod_eq_emod_of_nonneg (by omega), ha]
    have g0 : 0 ≤ a := by rw [← ha]; exact Int.emod_nonneg _ (by omega)
    have g1 : a < (H : Int) := by rw [← ha]; exact Int.emod_lt_of_pos _ (by omega)
    have HT : Hid (fromP n0 W H ts s = (-1, a)) := hide (by unfold fromP; rw [if_pos h1, ha])
    rw [unhide HT]
    obtain ⟨av, cv, rfl⟩ := hr.slice
    have hz : (H : Int) ≠ 0 := by omega
    have h1' : (s : Int) < (n0 : Int) := by omega
    clear ha ht hr h1
    show Calls Tryz.prog 21 _ w fun e w' => e = .returned (.agg #[.int .i64 (-1), .int .i64 a]) ∧ Below w.heap.size w w'
    go_enter Tryz.func21, Tryz.ntmps21
    go_wp2
    refine bodyPost_ret (v := .agg #[.int .i64 (-1), .int .i64 a]) (by simp [results, Tryz.results21, go_sem]) rfl ⟨rfl, ?_⟩
    repeat first | exact brf _ | refine bal ?_ _ | refine bst ?_ (by simp) _
  · obtain ⟨m, hm⟩ : ∃ m, s = n0 + m := ⟨s - n0, by omega⟩
    subst hm
    have hm2 : m < ts.length := by omega
    have hx : ts[m]? = some ts[m] := List.getElem?_eq_getElem hm2
    have HT : Hid (fromP n0 W H ts (n0 + m) = tileP W ts[m]) := hide (by
      unfold fromP
      rw [if_neg h1, show n0 + m - n0 = m by omega, List.getD_eq_getElem?_getD, hx]; rfl)
    have HQ1 := hide (ht ts[m] (List.getElem_mem hm2))
    rcases hr.open with ⟨rfl, _, _, _⟩ | ⟨b, o, ct, rfl, hc, hnn, _, hcs⟩
    · simp at hm2
    obtain ⟨u, hul, hat, hus⟩ := hcs m _ hx
    rw [unhide HT]
    generalize ts[m] = q at *
    subst hus
    have k0 := hat.get (j := 0) rfl
    simp only [Nat.add_zero, Nat.mul_one] at k0
    obtain ⟨N, hN⟩ : ∃ N, ts.length = N := ⟨_, rfl⟩
    rw [hN] at hm2 hl hs ⊢
    clear hN hr hcs hnn hc ht h1 hx hat hul
    obtain ⟨W0, hW0⟩ : ∃ W0, W0 = ((w.alloc (.cells #[.slice a0 n0 c0, .slice a1 n1 c1, .slice a2 n2 c2, .slice a3 n3 c3, .slice a4 n4 c4] 37)).alloc (.cells #[.int .i64 (W : Int), .int .i64 (H : Int), .int .i64 (T : Int), .int .i64 (P : Int)] 39)).alloc (.cells #[.int .i64 0, .int .i64 0] 57) := ⟨_, rfl⟩
    have HB : Hid (Below w.heap.size w W0) := hide (by rw [hW0]; exact bal (bal (bal (brf w) _) _) _)
    have HQ : Hid (W0.cell? ⟨b, o + m, none⟩ = some (.int .i64 q)) := hide (cell_later (unhide HB) k0)
    have HCP : Hid (∀ V, Below W0.heap.size W0 V → V.cell? ⟨w.heap.size, 0, none⟩ = some (.slice a0 n0 c0)) := hide (fun V hV => by
      rw [hW0] at hV
      exact (new_cell (btr (bal (bal (brf _) _) _) hV) rfl).1)
    have HCC : Hid (∀ V, Below W0.heap.size W0 V → V.cell? ⟨w.heap.size + 1, 0, none⟩ = some (.int .i64 (W : Int)) ∧ V.cell? ⟨w.heap.size + 1, 1, none⟩ = some (.int .i64 (H : Int)) ∧ V.cell? ⟨w.heap.size + 1, 2, none⟩ = some (.int .i64 (T : Int)) ∧ V.cell? ⟨w.heap.size + 1, 3, none⟩ = some (.int .i64 (P : Int))) := hide (fun V hV => by
      rw [hW0] at hV
      have K := fun (i : Nat) x hx => (new_cell (i := i) (x := x) (btr (bal (brf _) _) hV) hx).1
      simp only [World.size_alloc] at K
      exact ⟨K 0 _ rfl, K 1 _ rfl, K 2 _ rfl, K 3 _ rfl⟩)
    have HRR : Hid (∀ V, Below W0.heap.size W0 V → V.cell? ⟨w.heap.size + 1 + 1, 0, none⟩ = some (.int .i64 0) ∧ V.cell? ⟨w.heap.size + 1 + 1, 1, none⟩ = some (.int .i64 0) ∧ V.frozen? ⟨w.heap.size + 1 + 1, 0, none⟩ = false ∧ V.frozen? ⟨w.heap.size + 1 + 1, 1, none⟩ = false) := hide (fun V hV => by
      rw [hW0] at hV
      have K := fun (i : Nat) x hx => new_cell (i := i) (x := x) hV hx
      simp only [World.size_alloc] at K
      exact ⟨(K 0 _ rfl).1, (K 1 _ rfl).1, (K 0 _ rfl).2, (K 1 _ rfl).2⟩)
    have hm3 : m ≤ 64 := by omega
    have HM : Hid ((n0 : Int) + (m : Int) - (n0 : Int) = (m : Int)) := hide (by omega)
    have HW0 := hide hW0
    have g1 : ¬ ((n0 + m : Nat) : Int) < (n0 : Int) := by omega
    clear hW0 k0
    go_enter Tryz.func21, Tryz.ntmps21
    go_wp2_with fail
    rw [← unhide HW0]
    refine wp_plan (GF (FFr W H T P w.heap.size b o N ct m n0 c0 a0 q ((n0 : Int) + (m : Int)))) (JE W0 10 (fun V => Below w.heap.size w V ∧ At V (w.heap.size + 1 + 1) 0 [.int .i64 (tileP W q).1, .int .i64 (tileP W q).2])) (by kernel_rfl) 29 (by kernel_rfl) (by kernel_rfl) ?hj ?hs ?hf
    case hj => exact JE.start (bdr (brf W0))
    case hs =>
      refine ⟨?_, ?_, ?_, ?_, ?_, ?_, ?_, ?_, ?_, ?_, ?_, trivial⟩
      · exact se_val (by decide) (by kernel_rfl) rfl (fun l a V hp hB ha => ⟨.agg #[.int .i64 (W : Int), .int .i64 (H : Int), .int .i64 (T : Int), .int .i64 (P : Int)], by
          have x5 := (ev_form a 5).trans (old hp 5 (v := .pointer (some ⟨w.heap.size + 1, 0, none⟩)) (by kernel_rfl) (by kernel_rfl))
          obtain ⟨k0, k1, k2, k3⟩ := unhide HCC V hB
          go_simp, rfl⟩)
      · exact se_val (by decide) (by kernel_rfl) rfl (fun l a V hp hB ha => ⟨.slice (some ⟨b, o, none⟩) N ct, by
          have x2 := (ev_form a 2).trans (old hp 2 (v := .slice (some ⟨b, o, none⟩) N ct) (by kernel_rfl) (by kernel_rfl))
          go_simp, rfl⟩)
      · exact se_val (by decide) (by kernel_rfl) rfl (fun l a V hp hB ha => ⟨.int .i64 ((n0 : Int) + (m : Int)), by
          have x3 := (ev_form a 3).trans (old hp 3 (v := .int .i64 ((n0 : Int) + (m : Int))) (by kernel_rfl) (by kernel_rfl))
          go_simp, rfl⟩)
      · exact se_val (by decide) (by kernel_rfl) rfl (fun l a V hp hB ha => ⟨.pointer (some ⟨w.heap.size, 0, none⟩), by
          have x4 := (ev_form a 4).trans (old hp 4 (v := .pointer (some ⟨w.heap.size, 0, none⟩)) (by kernel_rfl) (by kernel_rfl))
          go_simp, rfl⟩)
      · exact se_val (by decide) (by kernel_rfl) rfl (fun l a V hp hB ha => ⟨.slice a0 n0 c0, by
          have x22 := (ev_form a 22).trans (show a.eval (.tmp 22) = .pointer (some ⟨w.heap.size, 0, none⟩) from kn hp ha 22 3 (by kernel_rfl) (by kernel_rfl))
          have k0 := unhide HCP V hB
          go_simp, rfl⟩)
      · exact se_val (by decide) (by kernel_rfl) rfl (fun l a V hp hB ha => ⟨.int .i64 (n0 : Int), by
          have x23 := (ev_form a 23).trans (show a.eval (.tmp 23) = .slice a0 n0 c0 from kn hp ha 23 4 (by kernel_rfl) (by kernel_rfl))
          go_simp, rfl⟩)
      · exact se_val (by decide) (by kernel_rfl) rfl (fun l a V hp hB ha => ⟨.int .i64 (m : Int), by
          have x21 := (ev_form a 21).trans (show a.eval (.tmp 21) = .int .i64 ((n0 : Int) + (m : Int)) from kn hp ha 21 2 (by kernel_rfl) (by kernel_rfl))
          have x24 := (ev_form a 24).trans (show a.eval (.tmp 24) = .int .i64 (n0 : Int) from kn hp ha 24 5 (by kernel_rfl) (by kernel_rfl))
          have hw := wrap_m (n0 := n0) hm3
          go_simp, rfl⟩)
      · exact se_val (by decide) (by kernel_rfl) rfl (fun l a V hp hB ha => ⟨.pointer (some ⟨b, o + m, none⟩), by
          have x20 := (ev_form a 20).trans (show a.eval (.tmp 20) = .slice (some ⟨b, o, none⟩) N ct from kn hp ha 20 1 (by kernel_rfl) (by kernel_rfl))
          have x25 := (ev_form a 25).trans (show a.eval (.tmp 25) = .int .i64 (m : Int) from kn hp ha 25 6 (by kernel_rfl) (by kernel_rfl))
          go_simp, rfl⟩)
      · exact se_val (by decide) (by kernel_rfl) rfl (fun l a V hp hB ha => ⟨.int .i64 q, by
          have x26 := (ev_form a 26).trans (show a.eval (.tmp 26) = .pointer (some ⟨b, o + m, none⟩) from kn hp ha 26 7 (by kernel_rfl) (by kernel_rfl))
          have k0 := cell_later hB (unhide HQ)
          go_simp, rfl⟩)
      · exact se_call (f := 47) (by decide) (by kernel_rfl) rfl (fun l a V hp hB ha => ⟨#[.agg #[.int .i64 (W : Int), .int .i64 (H : Int), .int .i64 (T : Int), .int .i64 (P : Int)], .int .i64 q], by
          have x19 := (ev_form a 19).trans (show a.eval (.tmp 19) = .agg #[.int .i64 (W : Int), .int .i64 (H : Int), .int .i64 (T : Int), .int .i64 (P : Int)] from kn hp ha 19 0 (by kernel_rfl) (by kernel_rfl))
          have x27 := (ev_form a 27).trans (show a.eval (.tmp 27) = .int .i64 q from kn hp ha 27 8 (by kernel_rfl) (by kernel_rfl))
          go_simp, (sTile W H T P q V hW hW1 (unhide HQ1)).mono (by rintro e V1 ⟨rfl, hb⟩; exact ⟨_, rfl, rfl, hb⟩)⟩)
      · refine se_last rfl (fun l a V hp hB ha => ?_) trivial
        have x8 := (ev_form a 8).trans (old hp 8 (v := .pointer (some ⟨w.heap.size + 1 + 1, 0, none⟩)) (by kernel_rfl) (by kernel_rfl))
        have x28 := (ev_form a 28).trans (show a.eval (.tmp 28) = .agg #[.int .i64 (tileP W q).1, .int .i64 (tileP W q).2] from kn hp ha 28 9 (by kernel_rfl) (by kernel_rfl))
        obtain ⟨r0, r1, f0, f1⟩ := unhide HRR V hB
        exact ⟨setK V (w.heap.size + 1 + 1) 0 [.int .i64 (tileP W q).1, .int .i64 (tileP W q).2], by simp only [setK]; go_simp, setK_below _ (btr (unhide HB) hB) (by omega), put_two (W0 := w) r0 r1⟩
    case hf =>
      intro l a W1 hp hall
      have hE := hp.j.2 (hall 10 (by decide))
      obtain ⟨us1, rfl, hus⟩ := putAll_of [19, 20, 21, 22, 23, 24, 25, 26, 27, 28] hp.nt hp.df (fun t ht => hp.keep t (dstIn (by kernel_rfl) ht))
      clear hp hall hus
      simp only [putAll, List.foldl, Act.put, List.setIfInBounds_toArray, List.set_cons_zero, List.set_cons_succ]
      obtain ⟨hb, hat⟩ := hE
      have r0 := hat 0 _ rfl
      have r1 := hat 1 _ rfl
      simp only [Nat.add_zero, Nat.zero_add] at r0 r1
      have HBB := hide hb
      clear hb hat
      go_wp2
      exact bodyPost_ret (v := .agg #[.int .i64 (tileP W q).1, .int .i64 (tileP W q).2]) (by simp [results, Tryz.results21, go_sem, r0, r1]) rfl ⟨rfl, unhide HBB⟩
end Go.Proofs.YtlldfaniddbjaaaGreatDoor
