/- The specification's l06Cell: kids that are appended. -/
import Derived.Test.YtkmpjoiefcjbnaaDoorSXA
import Derived.Test.YtkmpjoiefcjbnaaDoorCF
import Derived.OwnWalk
import Derived.Deep.RegionHeld3
namespace Go.Proofs.YtkmpjoiefcjbnaaDoor
open Go.RowKit Gs
set_option linter.unusedVariables false
set_option maxRecDepth 100000
def kzC (x : Int) : List Value := [.int .i64 29, .int .i64 x, .int .i64 0, .bool false, .string (S (List.replicate x.toNat 48)), .slice none 0 0]
/-- Kids in a row of one's own. -/
def OZ (B : Nat) (v : Value) (ws : List Int) (W : World) : Prop := W.ownsRow B 104 6 v ws.length (ws.flatMap kzC)
theorem OZ.later {B : Nat} {v : Value} {ws : List Int} {W W' : World} (h : OZ B v ws W) (hb : Below W.heap.size W W') : OZ B v ws W' := by
  rcases h with ⟨h1, h2 | ⟨g, cap, cur, hv, hg, hc, rest⟩⟩
  · exact ⟨h1, .inl h2⟩
  · exact ⟨h1, .inr ⟨g, cap, cur, hv, hg, (hb.block g (Array.getElem?_eq_some_iff.1 hc).1).trans hc, rest⟩⟩
theorem OZ.alloc {B : Nat} {v : Value} {ws : List Int} {W : World} (h : OZ B v ws W) (o : Obj) : OZ B v ws (W.alloc o) := World.ownsRow.alloc h o
theorem OZ.drew {B : Nat} {v : Value} {ws : List Int} {W : World} (h : OZ B v ws W) : OZ B v ws W.drew := World.ownsRow.drew h
theorem OZ.nil (B : Nat) (W : World) : OZ B (.slice none 0 0) [] W := ⟨rfl, .inl ⟨rfl, rfl⟩⟩
theorem OZ.shape {B : Nat} {v : Value} {ws : List Int} {W : World} (h : OZ B v ws W) : ∃ a l c, v = .slice a l c := by
  rcases h.2 with ⟨rfl, _⟩ | ⟨g, cap, cur, rfl, _⟩
  · exact ⟨_, _, _, rfl⟩
  · exact ⟨_, _, _, rfl⟩
theorem kzC_len (ws : List Int) : (ws.flatMap kzC).length = ws.length * 6 := by
  induction ws with
  | nil => rfl
  | cons x ws ih => rw [List.flatMap_cons, List.length_append, ih, List.length_cons]; simp [kzC]; omega
theorem kzC_get (ws : List Int) (i j : Nat) (x : Int) (hx : ws[i]? = some x) (hj : j < 6) : (ws.flatMap kzC)[i * 6 + j]? = (kzC x)[j]? := by
  induction ws generalizing i with
  | nil => simp at hx
  | cons y ws ih =>
    rw [List.flatMap_cons]
    cases i with
    | zero =>
      simp at hx; subst hx
      rw [List.getElem?_append_left (by simp [kzC]; omega), Nat.zero_mul, Nat.zero_add]
    | succ i =>
      have hl : (kzC y).length = 6 := rfl
      rw [List.getElem?_append_right (by rw [hl]; omega), hl, show (i + 1) * 6 + j - 6 = i * 6 + j by omega]
      exact ih i (by simpa using hx)
theorem OZ.read {B : Nat} {v : Value} {ws : List Int} {W : World} (h : OZ B v ws W) (hl : ws.length ≤ 64) : RS 6 RKz W 0 ws v ∧ ∀ b o l c, v = .slice (some ⟨b, o, none⟩) l c → B ≤ b ∧ b < W.heap.size := by
  have hc := fun g hg => World.ownsRow.cells h (g := g) hg
  have hlt := fun k hk => World.ownsRow.lt h k hk
  rcases h.2 with ⟨rfl, hn⟩ | ⟨g, cap, cur, rfl, hb, hg, hlc, hm, _⟩
  · have : ws = [] := List.length_eq_zero_iff.1 hn
    subst this
    exact ⟨RS.nil _ _ _ _ _ _, fun b o l c e => by cases e⟩
  · refine ⟨⟨_, _, rfl, hlc, by unfold maxLen; omega, fun _ => ⟨g, 0, rfl, Nat.zero_le _, fun i x hx => ⟨kzC x, rfl, fun j y hj => ?_, rfl⟩⟩⟩, fun b o l c e => ?_⟩
    · have hj6 : j < 6 := (List.getElem?_eq_some_iff.1 hj).1
      have := hc g rfl (i * 6 + j) y (by rw [kzC_get ws i j x hx hj6]; exact hj)
      rw [Addr.add_lit] at this
      simpa [Nat.add_assoc] using this
    · injection e with e1 e2 e3
      injection e1 with e1
      injection e1 with e1 e2
      subst e1
      exact hlt g rfl
/-- An append of one kid, as a step of a region that draws its order. -/
theorem stepZ {ops : Array Oper} {o : Oper} {a : Act} {w : World} {K : Act → World → Prop} {Q : Exit → Act → World → Prop} {E : Prop} (hgd : o.guard = none) (s x : Operand)
    (ho : o.op = .call { callee := .builtin .append, args := #[s, x], argTypes := #[102, 102] }) {Z : Nat} {v : Value} {ws : List Int} (hs : a.eval s = v) (hown : OZ Z v ws w) (M : Nat) (d : Int)
    (hx : a.eval x = .slice (some ⟨M, 0, none⟩) 1 1) (hc : ∀ j u, (kzC d)[j]? = some u → w.cell? ⟨M, j, none⟩ = some u) (h63 : ws.length ≤ 1000) (hZ : Z ≤ w.heap.size)
    (h : ∀ v' w', OZ Z v' (ws ++ [d]) w' → w.grownBy w' v.ownBlock → K (a.put o.dst v') w') :
    if Region.wanted o (yielded ops a.tmps) = true then Oper.wp Tryd.prog o a w K Q else E := by
  obtain ⟨i0, hi, hz0, hz1, hz2⟩ := info_parts infoEx
  have hw : Region.wanted o (yielded ops a.tmps) = true := by simp [Region.wanted, hgd]
  rw [if_pos hw]
  refine wp_append_own w s x 102 ho Z 104 i0 (.agg #[.int .i64 0, .int .i64 0, .int .i64 0, .bool false, .string ByteArray.empty, .slice none 0 0]) 6 72 Tryd.underlying102 hi hz0 hz1 hz2 rfl (by decide) v ws.length (ws.flatMap kzC) hs hown ⟨M, 0, none⟩ 1 1 (kzC d) hx rfl ?_ ?_ (by unfold maxLen; omega) (by omega) hZ ?_
  · intro j u hu
    rw [Addr.add_lit, Nat.zero_add]
    exact hc j u hu
  · intro u hu
    simp [kzC] at hu
    rcases hu with rfl | rfl | rfl | rfl | rfl | rfl <;> rfl
  · intro v' w' hown' hgrow _
    refine h v' w' ?_ hgrow
    unfold OZ
    rw [List.length_append, List.flatMap_append]
    simpa using hown'
theorem one_kid {X : World} {M : Nat} {d : Int} (hM : X.heap.size = M) : ∀ j u, (kzC d)[j]? = some u → (X.alloc (.cells #[.int .i64 29, .int .i64 d, .int .i64 0, .bool false, .string (S (List.replicate d.toNat 48)), .slice none 0 0] 104)).cell? ⟨M, j, none⟩ = some u := by
  subst hM
  intro j u h
  rw [World.cell?_alloc_new]
  rw [← h]
  simp [kzC]
theorem keepY {G : Nat} {W V V' : World} {b0 b1 b2 b3 o0 o1 o2 o3 : Nat} {x0 x1 x2 x3 : Value} (hs : V.cell? ⟨b0, o0, none⟩ = some x0 ∧ V.cell? ⟨b1, o1, none⟩ = some x1 ∧ V.cell? ⟨b2, o2, none⟩ = some x2 ∧ V.cell? ⟨b3, o3, none⟩ = some x3 ∧ Below G W V) (h : Below G V V') (l0 : b0 < G) (l1 : b1 < G) (l2 : b2 < G) (l3 : b3 < G) :
    V'.cell? ⟨b0, o0, none⟩ = some x0 ∧ V'.cell? ⟨b1, o1, none⟩ = some x1 ∧ V'.cell? ⟨b2, o2, none⟩ = some x2 ∧ V'.cell? ⟨b3, o3, none⟩ = some x3 ∧ Below G W V' := by
  obtain ⟨h0, h1, h2, h3, h6⟩ := hs
  exact ⟨(h.cell (p := ⟨b0, o0, none⟩) l0).trans h0, (h.cell (p := ⟨b1, o1, none⟩) l1).trans h1, (h.cell (p := ⟨b2, o2, none⟩) l2).trans h2, (h.cell (p := ⟨b3, o3, none⟩) l3).trans h3, h6.trans h⟩
/-- What the region keeps. -/
theorem keepZ {G : Nat} {W V V' : World} {b0 b1 b2 b3 b4 bf o0 o1 o2 o3 o4 of : Nat} {x0 x1 x2 x3 x4 : Value} (hs : V.cell? ⟨b0, o0, none⟩ = some x0 ∧ V.cell? ⟨b1, o1, none⟩ = some x1 ∧ V.cell? ⟨b2, o2, none⟩ = some x2 ∧ V.cell? ⟨b3, o3, none⟩ = some x3 ∧ V.cell? ⟨b4, o4, none⟩ = some x4 ∧ V.frozen? ⟨bf, of, none⟩ = false ∧ Below G W V) (h : Below G V V') (l0 : b0 < G) (l1 : b1 < G) (l2 : b2 < G) (l3 : b3 < G) (l4 : b4 < G) (lf : bf < G) :
    V'.cell? ⟨b0, o0, none⟩ = some x0 ∧ V'.cell? ⟨b1, o1, none⟩ = some x1 ∧ V'.cell? ⟨b2, o2, none⟩ = some x2 ∧ V'.cell? ⟨b3, o3, none⟩ = some x3 ∧ V'.cell? ⟨b4, o4, none⟩ = some x4 ∧ V'.frozen? ⟨bf, of, none⟩ = false ∧ Below G W V' := by
  obtain ⟨h0, h1, h2, h3, h4, h5, h6⟩ := hs
  exact ⟨(h.cell (p := ⟨b0, o0, none⟩) l0).trans h0, (h.cell (p := ⟨b1, o1, none⟩) l1).trans h1, (h.cell (p := ⟨b2, o2, none⟩) l2).trans h2, (h.cell (p := ⟨b3, o3, none⟩) l3).trans h3, (h.cell (p := ⟨b4, o4, none⟩) l4).trans h4, (h.frozen (p := ⟨bf, of, none⟩) lf).trans h5, h6.trans h⟩
end Go.Proofs.YtkmpjoiefcjbnaaDoor
