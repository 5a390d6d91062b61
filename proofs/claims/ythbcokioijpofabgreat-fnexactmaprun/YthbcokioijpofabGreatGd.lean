/- A region's plan whose facts speak of the world and last; slices that are built. -/
import Derived.Test.YthbcokioijpofabGreatGb
import Derived.Test.YthbcokioijpofabGreatGS2
import Derived.Test.YthbcokioijpofabGreatGc
namespace Go.Proofs.YthbcokioijpofabGreat
open Go Go.RowKit Gs
set_option linter.unusedVariables false
section
variable {P : Program} {ops : Array Oper} {a0 : Act} {F : Nat → World → Value → Prop} {w0 : World}
abbrev GW (F : Nat → World → Value → Prop) : Array Bool → Nat → World → Value → Prop := fun _ k w v => F k w v
def Lasts (F : Nat → World → Value → Prop) : Prop := ∀ k w w' v, Below w.heap.size w w' → F k w v → F k w' v
theorem sl_val {k : Nat} {o : Oper} (hg : o.guard = none) (h : ∀ l a w, PA ops (GW F) (JB w0) a0 l a w → (∀ e ∈ o.after, Region.binds .any e = true → l.getD e.on false = true) → ∃ x, (execOp a.eval o).run P w = .ok (.value x) w ∧ F k w x) : Stp P ops (GW F) (JB w0) a0 k o := by
  intro l a w hp hu ha
  obtain ⟨x, hr, hf⟩ := h l a w hp ha
  unfold opW
  rw [if_pos (wanted_none hg)]
  exact .inl ⟨x, w, hr, x, rfl, hp.j, hf, fun _ _ _ _ h => h⟩
theorem sl_new {k : Nat} {o : Oper} (hm : Lasts F) (hg : o.guard = none) (h : ∀ l a w, PA ops (GW F) (JB w0) a0 l a w → (∀ e ∈ o.after, Region.binds .any e = true → l.getD e.on false = true) → ∃ x ob, (execOp a.eval o).run P w = .ok (.value x) (w.alloc ob) ∧ F k (w.alloc ob) x) : Stp P ops (GW F) (JB w0) a0 k o := by
  intro l a w hp hu ha
  obtain ⟨x, ob, hr, hf⟩ := h l a w hp ha
  unfold opW
  rw [if_pos (wanted_none hg)]
  exact .inl ⟨x, _, hr, x, rfl, bal hp.j ob, hf, fun j _ _ _ h => hm j _ _ _ (bal (brf w) ob) h⟩
theorem sl_call {k : Nat} {o : Oper} {f : FuncId} (hm : Lasts F) (hg : o.guard = none) (h : ∀ l a w, PA ops (GW F) (JB w0) a0 l a w → (∀ e ∈ o.after, Region.binds .any e = true → l.getD e.on false = true) → ∃ args, (execOp a.eval o).run P w = .ok (.enter f args) w ∧ Calls P f args w fun e w' => ∃ x, e = .returned x ∧ F k w' x ∧ Below w.heap.size w w') : Stp P ops (GW F) (JB w0) a0 k o := by
  intro l a w hp hu ha
  obtain ⟨args, hr, hc⟩ := h l a w hp ha
  unfold opW
  rw [if_pos (wanted_none hg)]
  refine .inr (.inr ⟨f, args, w, hr, Calls.mono hc ?_⟩)
  rintro e w' ⟨x, rfl, hf, hb⟩
  exact ⟨x, rfl, x, rfl, btr hp.j hb, hf, fun j _ _ _ h => hm j _ _ _ hb h⟩
end
/-- A slice of slices that was built. -/
theorem RL_built {α : Type} {R : Rd α} (hR : Keeps R) (V : World) (t : TypeId) (xss : List (List α)) (vs : List Value) (hl : vs.length = xss.length) (hn : xss.length ≤ maxLen) (h : ∀ (i : Nat) x v, xss[i]? = some x → vs[i]? = some v → RS 1 R V 0 x v) :
    RS 1 (RL 1 R) (V.alloc (.cells vs.toArray t)) 0 xss (.slice (some ⟨V.heap.size, 0, none⟩) xss.length xss.length) := by
  refine ⟨_, _, rfl, Nat.le_refl _, hn, fun _ => ⟨V.heap.size, 0, rfl, Nat.zero_le _, fun i x hx => ?_⟩⟩
  have hi : i < vs.length := by rw [hl]; exact (List.getElem?_eq_some_iff.1 hx).1
  refine ⟨[vs[i]], rfl, fun j y hj => ?_, vs[i], rfl, (h i x vs[i] hx (List.getElem?_eq_getElem hi)).later hR (bal (brf V) _)⟩
  have hj0 : j = 0 := by
    cases j with
    | zero => rfl
    | succ j => simp at hj
  subst hj0
  simp at hj
  subst hj
  rw [World.cell?_alloc_new]
  simp [hi]
end Go.Proofs.YthbcokioijpofabGreat
namespace Go.Proofs.YthbcokioijpofabGreat
open Go Go.RowKit Gs
set_option linter.unusedVariables false
set_option linter.unusedSimpArgs false
set_option maxRecDepth 100000
/-- The counts of a mapped design. -/
def countsN (n0 n1 n2 n3 n4 n5 : Nat) : Bool := decide (n3 ≤ 1024) && decide (n1 ≤ 8) && (decide (n0 + n2 ≤ 2048) && decide (n4 ≤ 2048) && decide (n5 ≤ 2048))
def countsA (a : Mapped) : Bool := countsN a.ins.length a.clocks.length a.regs.length a.luts.length a.outs.length a.checks.length
set_option maxHeartbeats 1600000 in
theorem iFirst (a0 a2 : Option Addr) (n0 n2 c0 c2 : Nat) (v1 v3 v4 v5 : Value) (w : World) (h0 : n0 ≤ 1048576) (h2 : n2 ≤ 1048576) :
    Calls Tryz.prog 69 #[.agg #[.slice a0 n0 c0, v1, .slice a2 n2 c2, v3, v4, v5]] w fun e w' => e = .returned (.int .i64 ((n0 + n2 : Nat) : Int)) ∧ Below w.heap.size w w' := by
  obtain ⟨N, e1⟩ : ∃ N : Nat, n0 + n2 = N := ⟨_, rfl⟩
  rw [e1]
  have q : (n0 : Int) + (n2 : Int) = (N : Int) := by omega
  clear e1
  go_enter Tryz.func69, Tryz.ntmps69
  go_wp2
  exact bodyPost_ret (v := .int .i64 (N : Int)) (by simp [results, Tryz.results69, go_sem]) rfl ⟨rfl, bal (brf w) _⟩
end Go.Proofs.YthbcokioijpofabGreat
