/- A slice of bytes of the call's own, to which letters are appended; and the string of it. -/
import Derived.Test.YtdgiidlaafbgcabGreatDoorBase
namespace Go.Proofs.YtdgiidlaafbgcabGreatDoor
open Go.RowKit
/-- A letter as a value. -/
def bv (c : UInt8) : Value := .int .u8 (c.toNat : Int)
theorem info5 : (Tryz.prog.info? 5).map (fun i => (i.zero, i.size, i.bytes)) = some (some (.int .u8 0), 1, 1) := by kernel_rfl
/-- The slice v, from block B on, holds the letters l. -/
def OB (B : Nat) (v : Value) (l : List UInt8) (W : World) : Prop := W.ownsRow B 5 1 v l.length (l.map bv)
theorem OB_start {w : World} {B : Nat} (h : B ≤ w.heap.size) : OB B (.slice (some ⟨w.heap.size, 0, none⟩) 0 0) [] (w.alloc (.cells #[] 5)) := World.ownsRow_made w #[] 0 h (by decide) rfl
theorem OB_step {B : Nat} {v : Value} {l : List UInt8} {c : UInt8} {W : World} (h : W.ownsRow B 5 1 v (l.length + 1) (l.map bv ++ [bv c])) : OB B v (l ++ [c]) W := by
  unfold OB; rw [List.length_append, List.map_append]; exact h
/-- Behind an append nothing below B has turned. -/
theorem OB_below {B : Nat} {v : Value} {l : List UInt8} {w W w1 : World} {o : Obj} (hb : Below B w W) (hB : B ≤ W.heap.size) (ho : OB B v l W) (hg : (W.alloc o).grownBy w1 v.ownBlock) : Below B w w1 :=
  (hb.alloc hB o).grown hg (by simp; omega) (fun k hk => (ho.lt k hk).1)
theorem OB_belowN {B n : Nat} {v : Value} {l : List UInt8} {w W w1 : World} {o : Obj} (hb : Below B w W) (hB : B ≤ W.heap.size) (ho : OB B v l W) (hg : ((W.drewN n).alloc o).grownBy w1 v.ownBlock) : Below B w w1 :=
  OB_below (W := W.drewN n) (below_drewN hb n) hB ho hg
theorem OB_string {B : Nat} {v : Value} {l : List UInt8} {W : World} (h : OB B v l W) : (convert 34 9 v).run Tryz.prog W = .ok (.string (S l)) W := by
  rcases h.2 with ⟨rfl, hn⟩ | ⟨g, cap, cur, rfl, _⟩
  · have hl : l = [] := List.eq_nil_of_length_eq_zero hn
    subst hl
    exact run_convert_bytes_nil W 34 5 (by kernel_rfl) (by kernel_rfl) 0 0 9 (by kernel_rfl)
  · refine run_convert_bytes_back (P := Tryz.prog) W 34 9 5 ⟨g, 0, none⟩ cap l (by kernel_rfl) (by kernel_rfl) (by kernel_rfl) ?_
    intro j hj
    rw [Addr.add_lit, Nat.zero_add, World.ownsRow.cellAt h j (by omega), List.getElem?_map, List.getElem?_eq_getElem hj]
    rfl
end Go.Proofs.YtdgiidlaafbgcabGreatDoor
