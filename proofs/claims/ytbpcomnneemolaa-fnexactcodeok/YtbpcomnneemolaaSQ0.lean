/- The specification's CodeOK: what it answers. -/
import Derived.Test.YtbpcomnneemolaaSX2
import Derived.Test.YtbpcomnneemolaaRG
import Derived.Test.YtbpcomnneemolaaCK14
import Derived.Test.YtbpcomnneemolaaCK5
namespace Go.Proofs.Ytbpcomnneemolaa
open Go.RowKit Gs
set_option linter.unusedVariables false
set_option linter.unusedSimpArgs false
set_option maxRecDepth 100000
/-- What is asked of an Init and its clock. -/
def initS (c : Code) (p : ByteArray × Nat) : Bool := Vb.okV (L p.1) && (L p.1).all Vb.knB && (match c.ticks[p.2]? with | some x => plOK c.clocks x | none => false)
def initsS (c : Code) : Bool := c.inits.zipIdx.all (initS c)
/-- What is asked of an instruction. -/
def instrS (c : Code) (ws : List Int) (x : Instr) : Bool :=
  if 0 ≤ argsOf x.op then (if 0 ≤ x.dst ∧ x.dst < (ws.length : Int) then (if readB ws (argsOf x.op).toNat [x.a, x.b, x.c] = true then (if x.op = 33 then inI c x else if x.op = 34 then regI c x else (exB x.op x.width x.n x.signed x.bits (kidW ws (argsOf x.op).toNat [x.a, x.b, x.c]) && !(decide (x.op = 29) && !(L x.bits).all Vb.knB))) else false) else false) else false
def runS (c : Code) : List Instr → List Int → Option (List Int)
  | [], ws => some ws
  | x :: xs, ws => if instrS c ws x = true then runS c xs (ws.set x.dst.toNat x.width) else none
theorem runS_app (c : Code) : ∀ (xs ys : List Instr) (ws : List Int), runS c (xs ++ ys) ws = (runS c xs ws).bind (runS c ys)
  | [], ys, ws => rfl
  | x :: xs, ys, ws => by
    show (if instrS c ws x = true then runS c (xs ++ ys) (ws.set x.dst.toNat x.width) else none) = _
    by_cases h : instrS c ws x = true
    · rw [if_pos h, runS_app c xs ys, runS, if_pos h]
    · rw [if_neg h, runS, if_neg h]; rfl
theorem runS_step {c : Code} {xs : List Instr} {k : Nat} {x : Instr} {ws0 ws : List Int} (hx : xs[k]? = some x) (h : runS c (xs.take k) ws0 = some ws) : runS c (xs.take (k + 1)) ws0 = if instrS c ws x = true then some (ws.set x.dst.toNat x.width) else none := by
  rw [List.take_add_one, hx, runS_app, h]; rfl
theorem runS_no {c : Code} {xs : List Instr} {k : Nat} {ws0 : List Int} (h : runS c (xs.take k) ws0 = none) : runS c xs ws0 = none := by
  have e : xs = xs.take k ++ xs.drop k := (List.take_append_drop k xs).symm
  rw [e, runS_app, h]; rfl
/-- What the specification's CodeOK answers. -/
def sCode (c : Code) : Bool := countsC c && (c.ins.all wOK && initsS c && (match runS c c.instrs (List.replicate c.slots.toNat 0) with | some ws => endsC c ws | none => false))
theorem inI_width {c : Code} {x : Instr} (hi : c.ins.all wOK = true) (h : inI c x = true) : 1 ≤ x.width ∧ x.width ≤ 64 := by
  unfold inI at h
  by_cases h0 : 0 ≤ x.n
  · rw [if_pos h0] at h
    cases hp : c.ins[x.n.toNat]? with
    | none => rw [hp] at h; cases h
    | some p =>
      rw [hp] at h
      have hw := List.all_eq_true.1 hi p (List.mem_of_getElem? hp)
      unfold wOK at hw
      unfold bareI at h
      simp only [Bool.and_eq_true, decide_eq_true_eq] at h hw
      omega
  · rw [if_neg h0] at h; cases h
theorem init_ok {c : Code} (hi : initsS c = true) {i : Nat} {t : ByteArray} (hp : c.inits[i]? = some t) : initS c (t, i) = true := by
  unfold initsS at hi
  exact List.all_eq_true.1 hi (t, i) (List.mem_of_getElem? (by rw [List.getElem?_zipIdx, hp]; simp))
theorem init_size {c : Code} (hi : initsS c = true) {i : Nat} {t : ByteArray} (hp : c.inits[i]? = some t) : 1 ≤ t.size ∧ t.size ≤ 64 := by
  have h := init_ok hi hp
  unfold initS at h
  simp only [Bool.and_eq_true] at h
  have := (okV_iff t).1 h.1.1
  exact ⟨this.1, this.2.1⟩
theorem regI_width {c : Code} {x : Instr} (hi : initsS c = true) (h : regI c x = true) : 1 ≤ x.width ∧ x.width ≤ 64 := by
  unfold regI at h
  by_cases h0 : 0 ≤ x.n
  · rw [if_pos h0] at h
    cases hp : c.inits[x.n.toNat]? with
    | none => rw [hp] at h; cases h
    | some p =>
      rw [hp] at h
      have hw := init_size hi hp
      unfold bareI at h
      simp only [Bool.and_eq_true, decide_eq_true_eq] at h
      omega
  · rw [if_neg h0] at h; cases h
theorem instrS_open {c : Code} {ws : List Int} {x : Instr} (h1 : c.ins.all wOK = true) (h2 : initsS c = true) (h : instrS c ws x = true) : (0 ≤ x.dst ∧ x.dst < (ws.length : Int)) ∧ 1 ≤ x.width ∧ x.width ≤ 64 := by
  unfold instrS at h
  by_cases g1 : 0 ≤ argsOf x.op
  · rw [if_pos g1] at h
    by_cases g2 : 0 ≤ x.dst ∧ x.dst < (ws.length : Int)
    · rw [if_pos g2] at h
      refine ⟨g2, ?_⟩
      by_cases g3 : readB ws (argsOf x.op).toNat [x.a, x.b, x.c] = true
      · rw [if_pos g3] at h
        by_cases g4 : x.op = 33
        · rw [if_pos g4] at h; exact inI_width h1 h
        · rw [if_neg g4] at h
          by_cases g5 : x.op = 34
          · rw [if_pos g5] at h; exact regI_width h2 h
          · rw [if_neg g5] at h
            unfold exB at h
            simp only [Bool.and_eq_true, decide_eq_true_eq] at h
            exact h.1.1.1
      · rw [if_neg g3] at h; cases h
    · rw [if_neg g2] at h; cases h
  · rw [if_neg g1] at h; cases h
/-- The widths as the walk holds them. -/
structure SW (w : World) (CV : Array Value) (wb n : Nat) (ws : List Int) (W : World) : Prop where
  box : Bt 31 w CV W
  at_ : ∀ j x, ws[j]? = some x → W.cell? ⟨wb, j, none⟩ = some (.int .i64 x)
  free : ∀ j, j < n → W.frozen? ⟨wb, j, none⟩ = false
  ge : w.heap.size < wb
  lt : wb < W.heap.size
  range : ∀ x ∈ ws, 0 ≤ x ∧ x ≤ 64
  len : ws.length = n
theorem SW.later {w W V : World} {CV : Array Value} {wb n : Nat} {ws : List Int} (h : SW w CV wb n ws W) (hb : Below W.heap.size W V) : SW w CV wb n ws V :=
  ⟨h.box.then hb, fun j x hx => cell_later hb (h.at_ j x hx), fun j hj => frozen_later hb (h.at_ j _ (List.getElem?_eq_getElem (by rw [h.len]; exact hj))) (h.free j hj), h.ge, Nat.lt_of_lt_of_le h.lt hb.size, h.range, h.len⟩
theorem SW.set {w W : World} {CV : Array Value} {wb n : Nat} {ws : List Int} (h : SW w CV wb n ws W) (i : Nat) (hi : i < n) (y : Int) (hy : 0 ≤ y ∧ y ≤ 64) : SW w CV wb n (ws.set i y) (W.setCell ⟨wb, i, none⟩ (.int .i64 y)) := by
  have e : (w.alloc (.cells CV 31)).heap.size = w.heap.size + 1 := by go_simp
  refine ⟨?_, fun j x hx => ?_, fun j hj => by simpa using h.free j hj, h.ge, by simpa using h.lt, fun x hx => ?_, by rw [List.length_set]; exact h.len⟩
  · have hb := h.box
    have hge := h.ge
    unfold Bt at hb ⊢
    exact hb.setCell (p := ⟨wb, i, none⟩) (by rw [e]; exact hge) _
  · rw [List.getElem?_set] at hx
    by_cases ee : i = j
    · subst ee
      rw [if_pos rfl, if_pos (by rw [h.len]; exact hi)] at hx
      cases hx
      exact World.cell?_setCell_same (w := W) (a := ⟨wb, i, none⟩) (v := .int .i64 y) (h.at_ i _ (List.getElem?_eq_getElem (by rw [h.len]; exact hi)))
    · rw [if_neg ee] at hx
      rw [World.cell?_setCell_other (w := W) (a := ⟨wb, i, none⟩) (b := ⟨wb, j, none⟩) (v := .int .i64 y) (ne_addr (.inr (fun h => ee h.symm)))]
      exact h.at_ j x hx
  · rcases List.mem_or_eq_of_mem_set hx with h' | h'
    · exact h.range x h'
    · subst h'; exact hy
/-- The Ex that the walk of one instruction makes. -/
structure ZL (w2 : World) (g : Nat) (z0 z1 z2 : Int) (z3 : Bool) (z4 : ByteArray) (ws : List Int) (kv : Value) (W : World) : Prop where
  below : Below g w2 W
  e0 : W.cell? ⟨g, 0, none⟩ = some (.int .i64 z0)
  e1 : W.cell? ⟨g, 1, none⟩ = some (.int .i64 z1)
  e2 : W.cell? ⟨g, 2, none⟩ = some (.int .i64 z2)
  e3 : W.cell? ⟨g, 3, none⟩ = some (.bool z3)
  e4 : W.cell? ⟨g, 4, none⟩ = some (.string z4)
  e5 : W.cell? ⟨g, 5, none⟩ = some kv
  free : W.frozen? ⟨g, 5, none⟩ = false
  own : OZ (g + 1) kv ws W
  size : g + 1 ≤ W.heap.size
theorem ZL.next {w2 W V : World} {g : Nat} {z0 z1 z2 : Int} {z3 : Bool} {z4 : ByteArray} {ws ws' : List Int} {kv v' : Value} (h : ZL w2 g z0 z1 z2 z3 z4 ws kv W) (hb : Below (g + 1) W V) (ho : OZ (g + 1) v' ws' V) : ZL w2 g z0 z1 z2 z3 z4 ws' v' (V.setCell ⟨g, 5, none⟩ v') := by
  have c : ∀ j, V.cell? ⟨g, j, none⟩ = W.cell? ⟨g, j, none⟩ := fun j => hb.cell (p := ⟨g, j, none⟩) (Nat.lt_succ_self g)
  have f : V.frozen? ⟨g, 5, none⟩ = false := (hb.frozen (p := ⟨g, 5, none⟩) (Nat.lt_succ_self g)).trans h.free
  have so : ∀ j, j ≠ 5 → (V.setCell ⟨g, 5, none⟩ v').cell? ⟨g, j, none⟩ = W.cell? ⟨g, j, none⟩ := fun j hj =>
    (World.cell?_setCell_other (w := V) (a := ⟨g, 5, none⟩) (b := ⟨g, j, none⟩) (v := v') (ne_addr (.inr hj))).trans (c j)
  refine ⟨(h.below.trans (hb.mono (Nat.le_succ g))).setCell (p := ⟨g, 5, none⟩) (Nat.le_refl g) v', (so 0 (by omega)).trans h.e0, (so 1 (by omega)).trans h.e1, (so 2 (by omega)).trans h.e2, (so 3 (by omega)).trans h.e3, (so 4 (by omega)).trans h.e4, World.cell?_setCell_same (w := V) (a := ⟨g, 5, none⟩) (v := v') ((c 5).trans h.e5), by simpa using f, ownsRow_setCell_below ho (a := ⟨g, 5, none⟩) (Nat.lt_succ_self g) v', ?_⟩
  have := hb.size
  have := h.size
  simp; omega
theorem ZL.start (w2 : World) (z0 z1 z2 : Int) (z3 : Bool) (z4 : ByteArray) : ZL w2 w2.heap.size z0 z1 z2 z3 z4 [] (.slice none 0 0) (w2.alloc (.cells #[.int .i64 z0, .int .i64 z1, .int .i64 z2, .bool z3, .string z4, .slice none 0 0] 44)) := by
  refine ⟨bal (brf w2) _, ?_, ?_, ?_, ?_, ?_, ?_, ?_, OZ.nil _ _, ?_⟩
  · rw [World.cell?_alloc_new]; rfl
  · rw [World.cell?_alloc_new]; rfl
  · rw [World.cell?_alloc_new]; rfl
  · rw [World.cell?_alloc_new]; rfl
  · rw [World.cell?_alloc_new]; rfl
  · rw [World.cell?_alloc_new]; rfl
  · simp
  · simp
theorem ZL.later {w2 W V : World} {g : Nat} {z0 z1 z2 : Int} {z3 : Bool} {z4 : ByteArray} {ws : List Int} {kv : Value} (h : ZL w2 g z0 z1 z2 z3 z4 ws kv W) (hb : Below W.heap.size W V) : ZL w2 g z0 z1 z2 z3 z4 ws kv V :=
  ⟨h.below.trans (hb.mono (by have := h.size; omega)), cell_later hb h.e0, cell_later hb h.e1, cell_later hb h.e2, cell_later hb h.e3, cell_later hb h.e4, cell_later hb h.e5, frozen_later hb h.e5 h.free, h.own.later hb, Nat.le_trans h.size hb.size⟩
theorem argsOf_range (op : Int) : argsOf op = -1 ∨ (0 ≤ argsOf op ∧ argsOf op ≤ 3) := by
  unfold argsOf
  repeat' split
  all_goals first
    | exact .inl rfl
    | exact .inr (by decide)
theorem all_take {α : Type} {p : α → Bool} {xs : List α} {k : Nat} {x : α} (hx : xs[k]? = some x) : (xs.take (k + 1)).all p = ((xs.take k).all p && p x) := by
  rw [List.take_add_one, hx, List.all_append]; simp
theorem all_zip' {α : Type} {p : α × Nat → Bool} {l : List α} {k : Nat} {s : α} (hs : l[k]? = some s) : (l.zipIdx.take (k + 1)).all p = ((l.zipIdx.take k).all p && p (s, k)) := by
  have hxz : l.zipIdx[k]? = some (s, k) := by rw [List.getElem?_zipIdx, hs]; simp
  rw [List.take_add_one, hxz, List.all_append]; simp
theorem not_zip' {α : Type} {p : α × Nat → Bool} {l : List α} {k : Nat} {s : α} (hs : l[k]? = some s) (h : p (s, k) = false) : l.zipIdx.all p = false := by
  have hxz : l.zipIdx[k]? = some (s, k) := by rw [List.getElem?_zipIdx, hs]; simp
  rw [← Bool.not_eq_true]
  intro e
  rw [List.all_eq_true.1 e _ (List.mem_of_getElem? hxz)] at h
  cases h
theorem SW.start {w W : World} {CV : Array Value} {n : Nat} {M : Array Value} (h : Bt 31 w CV W) (hM : ∀ i, i < n → M[i]? = some (.int .i64 0)) : SW w CV W.heap.size n (List.replicate n 0) (W.alloc (.cells M 3)) := by
  refine ⟨h.alloc _, fun j x hx => ?_, fun j hj => by simp, h.size, by simp, fun x hx => ?_, List.length_replicate⟩
  · have hj : j < n := by
      have := (List.getElem?_eq_some_iff.1 hx).1
      simpa using this
    rw [List.getElem?_replicate, if_pos hj] at hx
    cases hx
    rw [World.cell?_alloc_new]; exact hM j hj
  · have := List.eq_of_mem_replicate hx
    omega
/-- A slot that does not hold, as the specification tests it. -/
theorem holdsB_not {ws : List Int} {s : Int} (h : holdsB ws s = false) (hr : ∀ x ∈ ws, 0 ≤ x ∧ x ≤ 64) : s < 0 ∨ (0 ≤ s ∧ (ws.length : Int) ≤ s) ∨ ∃ i : Nat, s = (i : Int) ∧ i < ws.length ∧ ws[i]? = some 0 := by
  unfold holdsB at h
  by_cases h0 : 0 ≤ s
  · rw [if_pos h0] at h
    by_cases hi : s.toNat < ws.length
    · refine .inr (.inr ⟨s.toNat, by omega, hi, ?_⟩)
      have hx : ws[s.toNat]? = some ws[s.toNat] := List.getElem?_eq_getElem hi
      rw [hx] at h ⊢
      have := of_decide_eq_false h
      have := (hr _ (List.getElem_mem hi)).1
      congr 1; omega
    · exact .inr (.inl ⟨h0, by omega⟩)
  · exact .inl (by omega)
theorem kid_range {ws : List Int} {T : Nat} {l : List Int} (h : readB ws T l = true) (hr : ∀ x ∈ ws, 0 ≤ x ∧ x ≤ 64) : ∀ x ∈ kidW ws T l, 1 ≤ x ∧ x ≤ 64 := by
  intro x hx
  unfold kidW at hx
  obtain ⟨s, hs, rfl⟩ := List.mem_map.1 hx
  obtain ⟨k, hk⟩ := List.mem_iff_getElem?.1 hs
  have hkT : k < T := by
    have := (List.getElem?_eq_some_iff.1 hk).1
    rw [List.length_take] at this
    omega
  rw [List.getElem?_take_of_lt hkT] at hk
  have hsl : slotB ws T (s, k) = true := by
    cases hb : slotB ws T (s, k)
    · have := not_zip hk hb
      unfold readB at h
      rw [this] at h; cases h
    · rfl
  unfold slotB at hsl
  rw [if_neg (show ¬ T ≤ k by omega)] at hsl
  obtain ⟨i, y, rfl, _, hy, hy0, hgd⟩ := holdsB_open hsl
  rw [hgd]
  have := (hr y (List.mem_of_getElem? hy)).2
  omega
theorem hold_neg {ws : List Int} {s : Int} (h : s < 0) : holdsB ws s = false := by unfold holdsB; rw [if_neg (by omega)]
theorem hold_ge {ws : List Int} {s : Int} (h : (ws.length : Int) ≤ s) : holdsB ws s = false := by unfold holdsB; rw [if_pos (by omega), List.getElem?_eq_none (by omega)]
theorem hold_eq {ws : List Int} {j : Nat} {y : Int} (hy : ws[j]? = some y) : holdsB ws (j : Int) = decide (0 < y) := by unfold holdsB; rw [if_pos (by omega), Int.toNat_natCast, hy]
theorem holds_no {ws : List Int} {j : Nat} {y : Int} (hy : ws[j]? = some y) (hr : 0 ≤ y ∧ y ≤ 64) (h : holdsB ws (j : Int) = false) : (y == 0) = true := by
  rw [hold_eq hy] at h
  have := of_decide_eq_false h
  exact beq_iff_eq.2 (by omega)
theorem holds_yes {ws : List Int} {j : Nat} {y : Int} (hy : ws[j]? = some y) (h : holdsB ws (j : Int) = true) : (y == 0) = false := by
  rw [hold_eq hy] at h
  have := of_decide_eq_true h
  exact beq_eq_false_iff_ne.2 (by omega)
theorem next_neg {c : Code} {ws : List Int} {s : Int} {m : Nat} (h : s < 0) : nextC c ws (s, m) = false := by unfold nextC; simp only; rw [hold_neg h]; rfl
theorem next_ge {c : Code} {ws : List Int} {s : Int} {m : Nat} (h : (ws.length : Int) ≤ s) : nextC c ws (s, m) = false := by unfold nextC; simp only; rw [hold_ge h]; rfl
theorem next_eq {c : Code} {ws : List Int} {j m : Nat} {y : Int} {t : ByteArray} (hy : ws[j]? = some y) (ht : c.inits[m]? = some t) (h1 : 1 ≤ t.size) : nextC c ws ((j : Int), m) = decide (y = (t.size : Int)) := by
  unfold nextC
  simp only
  rw [hold_eq hy, ht, Int.toNat_natCast, List.getD_eq_getElem?_getD, hy]
  simp only [Option.getD_some]
  by_cases e : y = (t.size : Int)
  · rw [decide_eq_true e, decide_eq_true (by omega)]; rfl
  · rw [decide_eq_false e, Bool.and_false]
theorem check_neg {ws : List Int} {s : Int} (h : s < 0) : checkC ws s = false := by unfold checkC; rw [hold_neg h]; rfl
theorem check_ge {ws : List Int} {s : Int} (h : (ws.length : Int) ≤ s) : checkC ws s = false := by unfold checkC; rw [hold_ge h]; rfl
theorem check_eq {ws : List Int} {j : Nat} {y : Int} (hy : ws[j]? = some y) : checkC ws (j : Int) = decide (y = 1) := by
  unfold checkC
  rw [hold_eq hy, Int.toNat_natCast, List.getD_eq_getElem?_getD, hy]
  simp only [Option.getD_some]
  by_cases e : y = 1
  · rw [decide_eq_true e, decide_eq_true (by omega)]; rfl
  · rw [decide_eq_false e, Bool.and_false]
theorem args_op {z : Int} (h : 0 ≤ argsOf z) : z ≠ 7 ∧ z ≠ 8 ∧ (z < 30 ∨ 32 < z) := by
  unfold argsOf at h
  by_cases h1 : z = 7 ∨ z = 8 ∨ z = 11
  · rw [if_pos h1] at h; omega
  · rw [if_neg h1] at h
    refine ⟨by omega, by omega, ?_⟩
    by_cases h2 : z < 30 ∨ 32 < z
    · exact h2
    · rw [if_neg (by omega), if_neg (by omega), if_neg (by omega), if_neg (by omega)] at h; omega
theorem two_size' (w : World) (A B : Array Value) (s t : TypeId) : ((w.alloc (.cells A s)).alloc (.cells B t)).heap.size = w.heap.size + 1 + 1 := by simp
end Go.Proofs.Ytbpcomnneemolaa
