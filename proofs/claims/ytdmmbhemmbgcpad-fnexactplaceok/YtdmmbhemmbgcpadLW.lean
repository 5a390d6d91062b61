/- Both answer the same; the law: and what was handed in reads as it did. -/
import Derived.Test.YtdmmbhemmbgcpadSA
import Derived.Test.YtdmmbhemmbgcpadDS
import Derived.Test.YtdmmbhemmbgcpadDT
import Derived.Test.YtdmmbhemmbgcpadDE
namespace Go.Proofs.Ytdmmbhemmbgcpad
open Go Go.RowKit Gs
set_option linter.unusedVariables false
set_option linter.unusedSimpArgs false
set_option maxRecDepth 100000
theorem pack_same (a : Packed) : packI a = packS a := by
  unfold packI packS nms portsB blocksB
  rw [show upB (blkSAt a.ins.length a.blocks a.clocks.length (a.ins.length + a.blocks.length)) a.blocks.length = upB (blkAt a.ins.length a.blocks a.clocks.length) a.blocks.length from by
    congr 1
    funext k
    exact blkS_eq _ _ _ _ _]
  rw [List.all_append]
  generalize countsA a = c1
  generalize upB _ a.blocks.length = c2
  generalize a.outs.all _ = c3
  generalize a.checks.all _ = c4
  generalize namesB (a.ins ++ a.clocks) = c7
  generalize namesB ((a.blocks.filter (·.reg)).map _) = c8
  generalize namesB (a.outs.map _) = c9
  generalize namesB (a.checks.map _) = c10
  cases c1 <;> cases c2 <;> cases c3 <;> cases c4 <;> cases c7 <;> cases c8 <;> cases c9 <;> cases c10 <;> rfl
theorem RPacked.later {n : Packed} {u : List Value} {w W : World} {B : Nat} (h : RPacked w B n u) (hb : Below w.heap.size w W) : RPacked W B n u := RPacked.keeps _ _ _ _ _ (later_cells hb B) h
theorem RPacked.any {n : Packed} {u : List Value} {w : World} {B : Nat} (h : RPacked w B n u) : RPacked w 0 n u := RPacked.lowers _ _ _ _ _ (Nat.zero_le _) h
/-- A world behind one that boxed 5 cells. -/
def B5 (t : TypeId) (w : World) (y0 y1 y2 y3 y4 : Value) (V : World) : Prop := Below (w.alloc (.cells #[y0, y1, y2, y3, y4] t)).heap.size (w.alloc (.cells #[y0, y1, y2, y3, y4] t)) V
theorem B5.get {t : TypeId} {w : World} {y0 y1 y2 y3 y4 : Value} {V : World} (h : B5 t w y0 y1 y2 y3 y4 V) : V.cell? ⟨w.heap.size, 0, none⟩ = some y0 ∧ V.cell? ⟨w.heap.size, 1, none⟩ = some y1 ∧ V.cell? ⟨w.heap.size, 2, none⟩ = some y2 ∧ V.cell? ⟨w.heap.size, 3, none⟩ = some y3 ∧ V.cell? ⟨w.heap.size, 4, none⟩ = some y4 :=
  ⟨cell_later h (by rw [World.cell?_alloc_new]; rfl), cell_later h (by rw [World.cell?_alloc_new]; rfl), cell_later h (by rw [World.cell?_alloc_new]; rfl), cell_later h (by rw [World.cell?_alloc_new]; rfl), cell_later h (by rw [World.cell?_alloc_new]; rfl)⟩
theorem B5.then {t : TypeId} {w : World} {y0 y1 y2 y3 y4 : Value} {V U : World} (h : B5 t w y0 y1 y2 y3 y4 V) (hb : Below V.heap.size V U) : B5 t w y0 y1 y2 y3 y4 U := btr h hb
theorem B5.below {t : TypeId} {w : World} {y0 y1 y2 y3 y4 : Value} {V : World} (h : B5 t w y0 y1 y2 y3 y4 V) : Below w.heap.size w V := btr (bal (brf w) _) h
def FL10 (v24 : Packed) (e1 e2 : Value) : Nat → World → Value → Prop
  | 0, W, v => v = e1
  | 1, W, v => v = e2
  | 2, W, v => ∃ u, v = .agg u ∧ RPacked W 0 v24 u.toList
  | 3, W, v => v = .bool true
  | 4, W, v => v = .bool false
  | _, _, _ => True
theorem FL10_lasts (v24 : Packed) (e1 e2 : Value) : Lasts (FL10 v24 e1 e2) := by
  intro k w w' v hb h
  match k, h with
  | 0, h => exact h
  | 1, h => exact h
  | 2, h => obtain ⟨u, e, hr⟩ := h; exact ⟨u, e, hr.later hb⟩
  | 3, h => exact h
  | 4, h => exact h
  | _ + 5, _ => trivial
end Go.Proofs.Ytdmmbhemmbgcpad
