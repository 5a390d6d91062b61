/- Both answer the same; the law: and what was handed in reads as it did. -/
import Derived.Test.YthbcokioijpofabGreatGh
import Derived.Test.YthbcokioijpofabGreatSA
import Derived.Test.YthbcokioijpofabGreatDS
import Derived.Test.YthbcokioijpofabGreatDT
import Derived.Test.YthbcokioijpofabGreatDE
import Derived.Test.YthbcokioijpofabGreatGd
namespace Go.Proofs.YthbcokioijpofabGreat
open Go Go.RowKit Gs
set_option linter.unusedVariables false
set_option linter.unusedSimpArgs false
set_option maxRecDepth 100000
theorem regS_all (VV n1 : Nat) (ls : List MapReg) : ls.all (regS VV n1) = ((ls.map (fun l : MapReg => l.src)).all (fun e => plB e VV) && ls.all (latchB n1)) := by
  induction ls with
  | nil => rfl
  | cons l r ih =>
    rw [List.all_cons, List.map_cons, List.all_cons, List.all_cons, ih]
    unfold regS
    cases plB l.src VV <;> cases latchB n1 l <;> simp
theorem ports_all (VV : Nat) (ps : List Port) : (ps.map (fun p : Port => p.src)).all (fun e => plB e VV) = ps.all (fun p : Port => plB p.src VV) := by
  rw [List.all_map]; rfl
theorem map_same (a : Mapped) : mapI a = mapS a := by
  unfold mapI mapS srcsB nameLs portsB
  rw [List.all_append, List.all_append, regS_all, ports_all, ports_all]
  simp only [List.all_cons, List.all_nil]
  generalize countsA a = c1
  generalize lutsB _ a.luts = c2
  generalize a.outs.all _ = c3
  generalize a.checks.all _ = c4
  generalize List.all (List.map (fun l : MapReg => l.src) a.regs) _ = c5
  generalize a.regs.all _ = c6
  generalize namesB (a.ins ++ a.clocks) = c7
  generalize namesB (a.regs.map _) = c8
  generalize namesB (a.outs.map _) = c9
  generalize namesB (a.checks.map _) = c10
  cases c1 <;> cases c2 <;> cases c3 <;> cases c4 <;> cases c5 <;> cases c6 <;> cases c7 <;> cases c8 <;> cases c9 <;> cases c10 <;> rfl
theorem RMapped.later {n : Mapped} {u : List Value} {w W : World} {B : Nat} (h : RMapped w B n u) (hb : Below w.heap.size w W) : RMapped W B n u := RMapped.keeps _ _ _ _ _ (later_cells hb B) h
theorem RMapped.any {n : Mapped} {u : List Value} {w : World} {B : Nat} (h : RMapped w B n u) : RMapped w 0 n u := RMapped.lowers _ _ _ _ _ (Nat.zero_le _) h
/-- A world behind one that boxed six cells. -/
def B6 (t : TypeId) (w : World) (y0 y1 y2 y3 y4 y5 : Value) (V : World) : Prop := Below (w.alloc (.cells #[y0, y1, y2, y3, y4, y5] t)).heap.size (w.alloc (.cells #[y0, y1, y2, y3, y4, y5] t)) V
theorem B6.get {t : TypeId} {w : World} {y0 y1 y2 y3 y4 y5 : Value} {V : World} (h : B6 t w y0 y1 y2 y3 y4 y5 V) : V.cell? ⟨w.heap.size, 0, none⟩ = some y0 ∧ V.cell? ⟨w.heap.size, 1, none⟩ = some y1 ∧ V.cell? ⟨w.heap.size, 2, none⟩ = some y2 ∧ V.cell? ⟨w.heap.size, 3, none⟩ = some y3 ∧ V.cell? ⟨w.heap.size, 4, none⟩ = some y4 ∧ V.cell? ⟨w.heap.size, 5, none⟩ = some y5 :=
  ⟨cell_later h (by rw [World.cell?_alloc_new]; rfl), cell_later h (by rw [World.cell?_alloc_new]; rfl), cell_later h (by rw [World.cell?_alloc_new]; rfl), cell_later h (by rw [World.cell?_alloc_new]; rfl), cell_later h (by rw [World.cell?_alloc_new]; rfl), cell_later h (by rw [World.cell?_alloc_new]; rfl)⟩
theorem B6.then {t : TypeId} {w : World} {y0 y1 y2 y3 y4 y5 : Value} {V U : World} (h : B6 t w y0 y1 y2 y3 y4 y5 V) (hb : Below V.heap.size V U) : B6 t w y0 y1 y2 y3 y4 y5 U := btr h hb
theorem B6.below {t : TypeId} {w : World} {y0 y1 y2 y3 y4 y5 : Value} {V : World} (h : B6 t w y0 y1 y2 y3 y4 y5 V) : Below w.heap.size w V := btr (bal (brf w) _) h
def FL10 (v24 : Mapped) (e1 e2 : Value) : Nat → World → Value → Prop
  | 0, W, v => v = e1
  | 1, W, v => v = e2
  | 2, W, v => ∃ u, v = .agg u ∧ RMapped W 0 v24 u.toList
  | 3, W, v => v = .bool true
  | 4, W, v => v = .bool false
  | _, _, _ => True
theorem FL10_lasts (v24 : Mapped) (e1 e2 : Value) : Lasts (FL10 v24 e1 e2) := by
  intro k w w' v hb h
  match k, h with
  | 0, h => exact h
  | 1, h => exact h
  | 2, h => obtain ⟨u, e, hr⟩ := h; exact ⟨u, e, hr.later hb⟩
  | 3, h => exact h
  | 4, h => exact h
  | _ + 5, _ => trivial
end Go.Proofs.YthbcokioijpofabGreat
namespace Go.Proofs.YthbcokioijpofabGreat
open Go Go.RowKit Gs
set_option linter.unusedVariables false
set_option maxRecDepth 100000
theorem lut_cells {xs : List Lut} {s : Option Addr} {l c : Nat} {w : World} (h : RS 2 RLut w 0 xs (.slice s l c)) : ∀ (i : Nat) x, xs[i]? = some x → ∃ b o a n, s = some ⟨b, o, none⟩ ∧ w.cell? ⟨b, o + i * 2, none⟩ = some (.slice a x.inp.length n) ∧ w.cell? ⟨b, o + i * 2 + 1, none⟩ = some (.int .i64 x.table) ∧ ∀ (j : Nat) y, x.inp[j]? = some y → ∃ b' o', a = some ⟨b', o', none⟩ ∧ w.cell? ⟨b', o' + j, none⟩ = some (.int .i64 y) := by
  intro i x hx
  rcases h.open with ⟨rfl, _⟩ | ⟨b, o, c', hv, _, _, _, he⟩
  · simp at hx
  · injection hv with e1 e2 e3
    obtain ⟨u, hu, hat, v0, hux, hrs⟩ := he i x hx
    subst hux
    obtain ⟨a, n, rfl⟩ := hrs.slice
    refine ⟨b, o, a, n, e1, by simpa using hat.get (j := 0) rfl, by simpa using hat.get (j := 1) rfl, fun j y hj => ?_⟩
    rcases hrs.open with ⟨e, _⟩ | ⟨b', o', c'', hv', _, _, _, he'⟩
    · rw [e] at hj; simp at hj
    · injection hv' with g1 g2 g3
      obtain ⟨u', hu', hat', hux'⟩ := he' j y hj
      subst hux'
      exact ⟨b', o', g1, by simpa using hat'.get (j := 0) rfl⟩
end Go.Proofs.YthbcokioijpofabGreat
