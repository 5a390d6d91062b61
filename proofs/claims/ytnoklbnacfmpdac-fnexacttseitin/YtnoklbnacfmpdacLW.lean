/- Both answer the same; the law: and what was handed in reads as it did. -/
import Derived.Test.YtnoklbnacfmpdacAI
import Derived.Test.YtnoklbnacfmpdacSA
import Derived.Test.YtnoklbnacfmpdacDS
import Derived.Test.YtnoklbnacfmpdacDT
import Derived.Test.YtnoklbnacfmpdacDE
namespace Go.Proofs.Ytnoklbnacfmpdac
open Go Go.RowKit Gs
set_option linter.unusedVariables false
set_option linter.unusedSimpArgs false
set_option maxRecDepth 100000
theorem latS_all (VV n1 : Nat) (ls : List Latch) : ls.all (latS VV n1) = ((ls.map (fun l : Latch => l.next)).all (fun e => litB e VV) && ls.all (latchB n1)) := by
  induction ls with
  | nil => rfl
  | cons l r ih =>
    rw [List.all_cons, List.map_cons, List.all_cons, List.all_cons, ih]
    unfold latS
    cases litB l.next VV <;> cases latchB n1 l <;> simp
theorem pins_all (VV : Nat) (ps : List Pin) : (ps.map (fun p : Pin => p.lit)).all (fun e => litB e VV) = ps.all (fun p : Pin => litB p.lit VV) := by
  rw [List.all_map]; rfl
theorem aig_same (a : Aig) : aigI a = aigS a := by
  unfold aigI aigS litsB nameLs pinsB varsA
  rw [List.all_append, List.all_append, latS_all, pins_all, pins_all]
  simp only [List.all_cons, List.all_nil]
  generalize countsA a = c1
  generalize andsB _ a.ands = c2
  generalize a.outs.all _ = c3
  generalize a.checks.all _ = c4
  generalize List.all (List.map (fun l : Latch => l.next) a.latches) _ = c5
  generalize a.latches.all _ = c6
  generalize namesB (a.ins ++ a.clocks) = c7
  generalize namesB (a.latches.map _) = c8
  generalize namesB (a.outs.map _) = c9
  generalize namesB (a.checks.map _) = c10
  cases c1 <;> cases c2 <;> cases c3 <;> cases c4 <;> cases c5 <;> cases c6 <;> cases c7 <;> cases c8 <;> cases c9 <;> cases c10 <;> rfl
theorem RAig.later {n : Aig} {u : List Value} {w W : World} {B : Nat} (h : RAig w B n u) (hb : Below w.heap.size w W) : RAig W B n u := RAig.keeps _ _ _ _ _ (later_cells hb B) h
theorem RAig.any {n : Aig} {u : List Value} {w : World} {B : Nat} (h : RAig w B n u) : RAig w 0 n u := RAig.lowers _ _ _ _ _ (Nat.zero_le _) h
/-- A world behind one that boxed six cells. -/
def B6 (t : TypeId) (w : World) (y0 y1 y2 y3 y4 y5 : Value) (V : World) : Prop := Below (w.alloc (.cells #[y0, y1, y2, y3, y4, y5] t)).heap.size (w.alloc (.cells #[y0, y1, y2, y3, y4, y5] t)) V
theorem B6.get {t : TypeId} {w : World} {y0 y1 y2 y3 y4 y5 : Value} {V : World} (h : B6 t w y0 y1 y2 y3 y4 y5 V) : V.cell? ⟨w.heap.size, 0, none⟩ = some y0 ∧ V.cell? ⟨w.heap.size, 1, none⟩ = some y1 ∧ V.cell? ⟨w.heap.size, 2, none⟩ = some y2 ∧ V.cell? ⟨w.heap.size, 3, none⟩ = some y3 ∧ V.cell? ⟨w.heap.size, 4, none⟩ = some y4 ∧ V.cell? ⟨w.heap.size, 5, none⟩ = some y5 :=
  ⟨cell_later h (by rw [World.cell?_alloc_new]; rfl), cell_later h (by rw [World.cell?_alloc_new]; rfl), cell_later h (by rw [World.cell?_alloc_new]; rfl), cell_later h (by rw [World.cell?_alloc_new]; rfl), cell_later h (by rw [World.cell?_alloc_new]; rfl), cell_later h (by rw [World.cell?_alloc_new]; rfl)⟩
theorem B6.then {t : TypeId} {w : World} {y0 y1 y2 y3 y4 y5 : Value} {V U : World} (h : B6 t w y0 y1 y2 y3 y4 y5 V) (hb : Below V.heap.size V U) : B6 t w y0 y1 y2 y3 y4 y5 U := btr h hb
theorem B6.below {t : TypeId} {w : World} {y0 y1 y2 y3 y4 y5 : Value} {V : World} (h : B6 t w y0 y1 y2 y3 y4 y5 V) : Below w.heap.size w V := btr (bal (brf w) _) h
def FL10 (v24 : Aig) (e1 e2 : Value) : Nat → World → Value → Prop
  | 0, W, v => v = e1
  | 1, W, v => v = e2
  | 2, W, v => ∃ u, v = .agg u ∧ RAig W 0 v24 u.toList
  | 3, W, v => v = .bool true
  | 4, W, v => v = .bool false
  | _, _, _ => True
theorem FL10_lasts (v24 : Aig) (e1 e2 : Value) : Lasts (FL10 v24 e1 e2) := by
  intro k w w' v hb h
  match k, h with
  | 0, h => exact h
  | 1, h => exact h
  | 2, h => obtain ⟨u, e, hr⟩ := h; exact ⟨u, e, hr.later hb⟩
  | 3, h => exact h
  | 4, h => exact h
  | _ + 5, _ => trivial
end Go.Proofs.Ytnoklbnacfmpdac
