/- cellFits: kids that are made of the operands' widths. -/
import Derived.Test.YtkceiabgpcakkaaCF1
import Derived.Test.YtkceiabgpcakkaaGS2
namespace Go.Proofs.Ytkceiabgpcakkaa
open Go.RowKit Gs
set_option linter.unusedVariables false
set_option maxRecDepth 100000
theorem infoEx : (Try.prog.info? 79).map (fun i => (i.zero, i.size, i.bytes)) = some (some (.agg #[.int .i64 0, .int .i64 0, .int .i64 0, .bool false, .string ByteArray.empty, .slice none 0 0]), 6, 72) := by kernel_rfl
def zEx : Array Value := #[.int .i64 0, .int .i64 0, .int .i64 0, .bool false, .string ByteArray.empty, .slice none 0 0]
theorem made_at (n i j : Nat) (hi : i < n) (hj : j < 6) : (madeCells zEx (n * 6))[i * 6 + j]? = zEx[j]? := by
  have hlt : i * 6 + j < n * 6 := by omega
  unfold madeCells
  rw [Array.getElem?_map, Array.getElem?_range]
  rw [if_pos hlt]
  have hz : zEx.size = 6 := rfl
  rw [hz]
  simp only [Option.map_some]
  rw [show (i * 6 + j) % 6 = j by omega]
  rw [getElem!_pos zEx j (by rw [hz]; omega), Array.getElem?_eq_getElem (by rw [hz]; omega)]
theorem make_Ex (n : Nat) (hn : n ≤ 64) : ∃ M : Array Value, M.size = n * 6 ∧ (∀ i j, i < n → j < 6 → M[i * 6 + j]? = zEx[j]?) ∧ ∀ W : World, (Instr.makeSlice 77 (.int .i64 (n : Int)) (.int .i64 (n : Int))).run Try.prog W = .ok (.slice (some ⟨W.heap.size, 0, none⟩) n n) (W.alloc (.cells M 79)) := by
  obtain ⟨i0, hi, hz0, hz1, hz2⟩ := info_parts infoEx
  refine ⟨_, size_madeCells zEx (n * 6), fun i j h1 h2 => made_at n i j h1 h2, fun W => ?_⟩
  have hr := run_make (P := Try.prog) W 77 79 i0 _ (by kernel_rfl) hi hz0 .i64 .i64 n n (by omega) (Int.le_refl _) (by rw [hz2]; omega) (by omega)
  rw [hr, hz1]
  simp
  rfl
theorem kids_made (w : World) (M : Array Value) (n B : Nat) (hM : ∀ i j, i < n → j < 6 → M[i * 6 + j]? = zEx[j]?) : NR 6 RKid (w.alloc (.cells M 79)) B w.heap.size n (List.replicate n (0 : Int)) := by
  intro i x hi hx
  have hx0 : x = 0 := by
    have := List.mem_of_getElem? hx
    exact (List.mem_replicate.1 this).2
  subst hx0
  refine ⟨[.int .i64 0, .int .i64 0, .int .i64 0, .bool false, .string ByteArray.empty, .slice none 0 0], rfl, fun j y hj => ?_, rfl⟩
  have hj6 : j < 6 := (List.getElem?_eq_some_iff.1 hj).1
  rw [World.cell?_alloc_new, hM i j hi hj6]
  rw [← hj]
  match j, hj6 with
  | 0, _ => rfl
  | 1, _ => rfl
  | 2, _ => rfl
  | 3, _ => rfl
  | 4, _ => rfl
  | 5, _ => rfl
/-- A kid's width is set. -/
theorem kids_set {W : World} {B g n k : Nat} {xs : List Int} {x : Int} (h : NR 6 RKid W B g n xs) (hT : TP W g (n * 6)) (hk : k < n) (hl : xs.length = n) : NR 6 RKid (W.setCell ⟨g, k * 6 + 1, none⟩ (.int .i64 x)) B g n (xs.set k x) := by
  intro i y hi hy
  have hset : (W.setCell ⟨g, k * 6 + 1, none⟩ (.int .i64 x)).cell? ⟨g, k * 6 + 1, none⟩ = some (.int .i64 x) := by
    obtain ⟨⟨z, hz⟩, _⟩ := hT (k * 6 + 1) (by omega)
    exact World.cell?_setCell_same (w := W) (a := ⟨g, k * 6 + 1, none⟩) (v := .int .i64 x) hz
  have hoth : ∀ p, p ≠ k * 6 + 1 → (W.setCell ⟨g, k * 6 + 1, none⟩ (.int .i64 x)).cell? ⟨g, p, none⟩ = W.cell? ⟨g, p, none⟩ := fun p hp =>
    World.cell?_setCell_other (w := W) (a := ⟨g, k * 6 + 1, none⟩) (b := ⟨g, p, none⟩) (v := .int .i64 x) (ne_addr (.inr hp))
  by_cases e : i = k
  · subst e
    rw [List.getElem?_set_self (by omega)] at hy
    cases hy
    obtain ⟨u, hu, hat, hr⟩ := h i (xs[i]'(by omega)) hi (List.getElem?_eq_getElem _)
    unfold RKid at hr
    subst hr
    refine ⟨[.int .i64 0, .int .i64 x, .int .i64 0, .bool false, .string ByteArray.empty, .slice none 0 0], rfl, fun j z hj => ?_, rfl⟩
    by_cases e1 : j = 1
    · subst e1
      cases hj
      exact hset
    · rw [hoth _ (by omega)]
      refine hat j z ?_
      have hj6 : j < 6 := (List.getElem?_eq_some_iff.1 hj).1
      match j, hj6, hj, e1 with
      | 0, _, hj, _ => exact hj
      | 2, _, hj, _ => exact hj
      | 3, _, hj, _ => exact hj
      | 4, _, hj, _ => exact hj
      | 5, _, hj, _ => exact hj
  · rw [List.getElem?_set_ne (fun h => e h.symm)] at hy
    obtain ⟨u, hu, hat, hr⟩ := h i y hi hy
    refine ⟨u, hu, fun j z hj => ?_, hr⟩
    have hj6 : j < 6 := by rw [← hu]; exact (List.getElem?_eq_some_iff.1 hj).1
    rw [hoth _ (by omega)]
    exact hat j z hj
theorem TP.set1 {W : World} {g m o : Nat} {v : Value} (h : TP W g m) : TP (W.setCell ⟨g, o, none⟩ v) g m := h.set (vs := [v])
/-- The widths behind k operands. -/
def wsAt (f : Int → Int) (ins : List Int) (k : Nat) : List Int := (ins.take k).map f ++ List.replicate (ins.length - k) 0
theorem wsAt_len (f : Int → Int) (ins : List Int) (k : Nat) (hk : k ≤ ins.length) : (wsAt f ins k).length = ins.length := by
  unfold wsAt; simp; omega
theorem wsAt_step (f : Int → Int) (ins : List Int) (k : Nat) (x : Int) (hx : ins[k]? = some x) : (wsAt f ins k).set k (f x) = wsAt f ins (k + 1) := by
  have hk : k < ins.length := (List.getElem?_eq_some_iff.1 hx).1
  unfold wsAt
  have hl : ((ins.take k).map f).length = k := by simp; omega
  rw [List.set_append_right _ _ (by omega), hl, Nat.sub_self, show ins.length - k = (ins.length - (k + 1)) + 1 by omega, List.replicate_succ, List.set_cons_zero, List.take_add_one, hx, List.map_append]
  simp
theorem wsAt_zero (f : Int → Int) (ins : List Int) : wsAt f ins 0 = List.replicate ins.length 0 := by simp [wsAt]
theorem wsAt_all (f : Int → Int) (ins : List Int) : wsAt f ins ins.length = ins.map f := by simp [wsAt]
def wOf (n : Net) (x : Int) : Int := match n.cells[x.toNat]? with
  | some c => c.width
  | none => 0
def placeB (j : Nat) (x : Int) : Bool := decide (0 ≤ x) && decide (x < (j : Int))
def restB (n : Net) (j : Nat) (c : Cell) : Bool := if 64 < c.ins.length then false else if c.ins.all (placeB j) then likeB c.op c.width c.n c.signed c.bits (c.ins.map (wOf n)) else false
end Go.Proofs.Ytkceiabgpcakkaa
