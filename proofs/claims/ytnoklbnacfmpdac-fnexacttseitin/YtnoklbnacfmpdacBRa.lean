/- A range over a method that is bound to its receiver: what the loop's body keeps, what it leaves. -/
import Derived.RangeFuncWrites
import Derived.RangeFuncBound
import Derived.RangeFuncCalls
import Derived.Shelf.Abstract
namespace Go.Proofs.Ytnoklbnacfmpdac
open Go Go.RowKit Go.Shelf
set_option linter.unusedVariables false
set_option linter.unusedSimpArgs false
/-- The later world has all that the earlier one has but for blocks from B on that are no cells. -/
structure Near (B : Nat) (W V : World) : Prop where
  os : V.os = W.os
  tape : V.tape = W.tape
  output : V.output = W.output
  size : W.heap.size ≤ V.heap.size
  block : ∀ (k : Nat) (o : Obj), W.heap[k]? = some o → (k < B ∨ o.isCells = true) → V.heap[k]? = some o
theorem Near.refl (B : Nat) (W : World) : Near B W W := ⟨rfl, rfl, rfl, Nat.le_refl _, fun _ _ h _ => h⟩
theorem Near.trans {B : Nat} {X Y Z : World} (h : Near B X Y) (k : Near B Y Z) : Near B X Z :=
  ⟨k.os.trans h.os, k.tape.trans h.tape, k.output.trans h.output, Nat.le_trans h.size k.size, fun i o hi ho => k.block i o (h.block i o hi ho) ho⟩
theorem Near.of_below {B : Nat} {W V : World} (h : Below W.heap.size W V) : Near B W V :=
  ⟨h.os, h.tape, h.output, h.size, fun k o hk _ => (h.block k (Array.getElem?_eq_some_iff.1 hk).1).trans hk⟩
theorem Near.turn {B : Nat} {W : World} {l : Nat} {o : Obj} (o' : Obj) (hB : B ≤ l) (hl : W.heap[l]? = some o) (ho : o.isCells = false) : Near B W (W.putObj l o') :=
  ⟨rfl, rfl, rfl, by simp, fun k o2 hk hc => by
    by_cases e : k = l
    · subst e
      rw [hl] at hk
      cases hk
      rcases hc with h | h
      · omega
      · rw [ho] at h; cases h
    · exact (World.putObj_heap_other e).trans hk⟩
theorem Near.below {B : Nat} {W V : World} (h : Near B W V) (hB : B ≤ W.heap.size) : Below B W V :=
  ⟨h.os, h.tape, h.output, h.size, fun k hk => by
    have hlt : k < W.heap.size := by omega
    have e : W.heap[k]? = some W.heap[k] := Array.getElem?_eq_getElem hlt
    rw [e]
    exact h.block k _ e (.inl hk)⟩
theorem Near.under {B n0 : Nat} {W V : World} (h : Near B W V) (h1 : n0 ≤ B) (h2 : n0 ≤ W.heap.size) : Below n0 W V :=
  ⟨h.os, h.tape, h.output, h.size, fun k hk => by
    have hlt : k < W.heap.size := by omega
    have e : W.heap[k]? = some W.heap[k] := Array.getElem?_eq_getElem hlt
    rw [e]
    exact h.block k _ e (.inl (by omega))⟩
theorem Near.cell {B : Nat} {W V : World} (h : Near B W V) {a : Addr} {v : Value} (hc : W.cell? a = some v) : V.cell? a = some v := by
  have e : V.heap[a.block]? = W.heap[a.block]? := by
    cases hk : W.heap[a.block]? with
    | none => simp [World.cell?, hk] at hc
    | some o =>
      refine h.block _ _ hk (.inr ?_)
      cases o <;> simp_all [World.cell?, Obj.isCells]
  rw [World.cell?_of_block e]
  exact hc
theorem Near.frozen {B : Nat} {W V : World} (h : Near B W V) {a : Addr} {v : Value} (hc : W.cell? a = some v) : V.frozen? a = W.frozen? a := by
  have e : V.heap[a.block]? = W.heap[a.block]? := by
    cases hk : W.heap[a.block]? with
    | none => simp [World.cell?, hk] at hc
    | some o =>
      refine h.block _ _ hk (.inr ?_)
      cases o <;> simp_all [World.cell?, Obj.isCells]
  exact World.frozen?_of_block e
variable {F : Fence} {n : Nat} {P : Program} {α : Type}
/-- What a bound method that gives things to a loop keeps to: Y says which thing may come behind which, T what it wants of the world between two of them. -/
def SeqB (F : Fence) (n : Nat) (P : Program) (g : Nat) (fs : Array Value) (enc : α → Value) (T : World → Prop) (Y : List α → α → Prop) (S Sp : List α → Prop) (w : World) : Prop :=
  ∀ (l : Nat) (J Jx : List α → World → Prop) (W : World), Below w.heap.size w W → (∀ s A, J s A → T A) → (∀ s A C, J s A → Below A.heap.size A C → J s C) →
    (∀ pre x W1, J pre W1 → Y pre x → YieldAt F (n - 1) P l #[enc x] W1 fun e V => (e = .returned (.bool true) ∧ J (pre ++ [x]) V) ∨ (e = .returned (.bool false) ∧ Jx (pre ++ [x]) V)) →
    J [] W →
    CallsIn F n P g (fs ++ #[.func (.yield l) #[] #[]]) W fun e V => (∃ v, e = .returned v) ∧ ((∃ xs, S xs ∧ J xs V) ∨ ∃ pre, Sp pre ∧ Jx pre V)
/-- How a round of the body ends: it goes on, or it returns. -/
def roundB (B : Nat) (I Ix : List α → World → Prop) (xs : List α) (W : World) : Exit → Act → World → Prop
  | .normal, _, V => KeepsFrom B W V ∧ I xs V
  | .ret, _, V => KeepsFrom B W V ∧ Ix xs V
  | _, _, _ => False
theorem wpIn_rangeB {g : Operand} {p : Tmp} {assign body : Code} {Q : Exit → Act → World → Prop} {a : Act} {w : World}
    (hro : F.round = none) (h1 : 1 ≤ n) {gf : Nat} {fs : Array Value} (hg : a.eval g = .func (.func gf) fs #[]) (hFg : F.fn gf) (eg : ∀ args w, (callFunc gf args).run P w = .ok (.enter gf args) w)
    {enc : α → Value} {T : World → Prop} {Y : List α → α → Prop} {S Sp : List α → Prop} (hseq : SeqB F (n - 1) P gf fs enc T Y S Sp w)
    (I Ix : List α → World → Prop) (hI : ∀ s W V, I s W → Near w.heap.size W V → I s V) (hIx : ∀ s W V, Ix s W → Near w.heap.size W V → Ix s V) (hT : ∀ s W, I s W → T W) (h0 : I [] w) (a1 : α → Act)
    (hassign : ∀ (l : Nat) (x : α) (W : World) (K : Act → World → Prop), K (a1 x) W →
      assign.wpIn (F.inRound l) (n - 1 - 1) P (Exit.then K (fun _ _ _ => False)) { tmps := a.tmps.setIfInBounds p (enc x), defers := [] } W)
    (hbody : ∀ (l : Nat) (pre : List α) (x : α) (W : World), I pre W → Y pre x → body.wpIn (F.inRound l) (n - 1 - 1) P (roundB w.heap.size I Ix (pre ++ [x]) W) (a1 x) W)
    (hdone : ∀ (D : Nat) (xs : List α) (W : World), w.heap.size ≤ D → S xs → I xs W → W.heap[D]? = some (.deferred (some [])) → Q .normal { a with defers := { target := .collected D, args := #[] } :: a.defers } W)
    (hstop : ∀ (D : Nat) (pre : List α) (W : World), w.heap.size ≤ D → Sp pre → Ix pre W → W.heap[D]? = some (.deferred (some [])) → Code.ret.wpIn F n P Q { a with defers := { target := .collected D, args := #[] } :: a.defers } W) :
    (Code.rangeFunc g #[p] assign body).wpIn F n P Q a w := by
  refine wpIn_rangeFunc fun fn hfn => ?_
  rw [hro]
  -- the loop's record, by its state and the jump that is pending
  obtain ⟨R, hR⟩ : ∃ R : LoopState → Option Code → Loop, R = fun st pe => { state := st, pending := pe, fn, tmps := a.tmps, params := #[p], assign, body, defers := w.heap.size } := ⟨_, rfl⟩
  have hst : ∀ st pe, (R st pe).state = st := fun st pe => by rw [hR]
  obtain ⟨V0, hV0⟩ : ∃ V0, (w.alloc (.deferred (some []))).alloc (.loop (R .ready none)) = V0 := ⟨_, rfl⟩
  have b0 : Below w.heap.size w V0 := by rw [← hV0]; exact ((Below.refl _ w).alloc (Nat.le_refl _) _).alloc (by simp) _
  have l0 : V0.heap[w.heap.size + 1]? = some (.loop (R .ready none)) := by
    have := World.alloc_heap_new (w.alloc (.deferred (some []))) (.loop (R .ready none))
    rw [World.size_alloc, hV0] at this
    exact this
  have d0 : V0.heap[w.heap.size]? = some (.deferred (some [])) := by
    rw [← hV0]
    exact (Below.heap_alloc _ _ _ (by simp)).trans (World.alloc_heap_new w _)
  refine ⟨w.heap.size + 1, [{ target := .collected w.heap.size, args := #[] }], V0, { target := .fn (.func gf) #[], args := fs ++ #[.func (.yield (w.heap.size + 1)) #[] #[]] }, V0, gf, fs ++ #[.func (.yield (w.heap.size + 1)) #[] #[]], V0, ?_, ?_, ?_, ?_, fun _ => h1, ?_⟩
  · rw [← hV0, hR]
    exact run_enterLoop_outer _ _ _ _ _
  · simp only [resolve, hg]
    simp [go_sem]
  · intro f hf
    simp [Target.leads] at hf
    subst hf
    exact hFg
  · simp [invoke, go_sem, eg]
  -- what is known between two rounds, and behind the one that returned
  refine (hseq (w.heap.size + 1)
    (fun pre W => I pre W ∧ W.heap[w.heap.size + 1]? = some (.loop (R .ready none)) ∧ W.heap[w.heap.size]? = some (.deferred (some [])))
    (fun pre W => Ix pre W ∧ W.heap[w.heap.size + 1]? = some (.loop (R .done (some .ret))) ∧ W.heap[w.heap.size]? = some (.deferred (some [])))
    V0 b0 (fun s A h => hT s A h.1) (fun s A C h k => ⟨hI s A C h.1 (.of_below k), (k.block _ (Array.getElem?_eq_some_iff.1 h.2.1).1).trans h.2.1, (k.block _ (Array.getElem?_eq_some_iff.1 h.2.2).1).trans h.2.2⟩)
    ?_ ⟨hI _ _ _ h0 (.of_below b0), l0, d0⟩).mono ?_
  · rintro pre x W ⟨hi, hl, hd⟩ hY
    have hlt : w.heap.size + 1 < W.heap.size := (Array.getElem?_eq_some_iff.1 hl).1
    have hy := run_yield (P := P) (args := #[enc x]) hl (by rw [hR]; rfl)
    rw [hR] at hy
    refine ⟨fn, _, assign, body, hy, roundIn_of_wpIn hfn ?_⟩
    simp only [List.zip_toArray, List.foldl_toArray', List.size_toArray, List.zip_cons_cons, List.zip_nil_right, List.foldl_cons, List.foldl_nil]
    refine hassign _ x W _ ?_
    refine ⟨_, run_beginRound hl (hst _ _), ?_⟩
    obtain ⟨W2, hW2⟩ : ∃ W2, W.putObj (w.heap.size + 1) (.loop { R .ready none with state := .busy }) = W2 := ⟨_, rfl⟩
    rw [hW2]
    have hi2 : I pre W2 := by rw [← hW2]; exact hI _ _ _ hi (.turn _ (by omega) hl rfl)
    have hl2 : W2.heap[w.heap.size + 1]? = some (.loop (R .busy none)) := by
      rw [← hW2, World.putObj_heap_same hlt, hR]
    have hd2 : W2.heap[w.heap.size]? = some (.deferred (some [])) := by
      rw [← hW2]
      exact (World.putObj_heap_other (by omega)).trans hd
    have fin : ∀ (jump : Option Code) (V : World), KeepsFrom w.heap.size W2 V → ∃ V2, V2 = V.putObj (w.heap.size + 1) (.loop (R (if jump.isNone then .ready else .done) jump)) ∧ (Instr.endRound (w.heap.size + 1) jump).run P V = .ok (.bool jump.isNone) V2 ∧ Near w.heap.size V V2 ∧ V2.heap[w.heap.size + 1]? = some (.loop (R (if jump.isNone then .ready else .done) jump)) ∧ V2.heap[w.heap.size]? = some (.deferred (some [])) := fun jump V hk => by
      have e1 := hk.same _ _ (by omega) hl2 rfl
      have e2 := hk.same _ _ (Nat.le_refl _) hd2 rfl
      have e3 := run_endRound (P := P) jump e1
      refine ⟨_, rfl, ?_, .turn _ (by omega) e1 rfl, World.putObj_heap_same (Array.getElem?_eq_some_iff.1 e1).1, (World.putObj_heap_other (by omega)).trans e2⟩
      rw [e3, hR]
    refine wpIn_mono (hbody _ pre x W2 hi2 hY) ?_
    intro e a3 V hp
    cases e with
    | normal =>
      obtain ⟨V2, e2, hr, hn, f1, f2⟩ := fin none V hp.1
      exact ⟨_, V2, hr, .inl ⟨rfl, hI _ _ _ hp.2 hn, f1, f2⟩⟩
    | ret =>
      obtain ⟨V2, e2, hr, hn, f1, f2⟩ := fin (some .ret) V hp.1
      exact ⟨_, V2, hr, .inr ⟨rfl, hIx _ _ _ hp.2 hn, f1, f2⟩⟩
    | exit id => exact hp.elim
    | goto t => exact hp.elim
    | panic ch => exact hp.elim
    | outgrown => exact hp.elim
  · rintro e V ⟨⟨v, rfl⟩, (⟨xs, hS, hi, hl, hd⟩ | ⟨pre, hSp, hi, hl, hd⟩)⟩
    · refine ⟨none, _, ?_, hdone w.heap.size xs _ (Nat.le_refl _) hS (hI _ _ _ hi (.turn (.loop { R .ready none with state := .exhausted }) (by omega) hl rfl)) ((World.putObj_heap_other (by omega)).trans hd)⟩
      have := run_endLoop (P := P) hl (by rw [hst]; simp)
      rw [this, hR]
    · refine ⟨some .ret, _, ?_, hstop w.heap.size pre _ (Nat.le_refl _) hSp (hIx _ _ _ hi (.turn (.loop { R .done (some .ret) with state := .exhausted }) (by omega) hl rfl)) ((World.putObj_heap_other (by omega)).trans hd)⟩
      have := run_endLoop (P := P) hl (by rw [hst]; simp)
      rw [this, hR]
end Go.Proofs.Ytnoklbnacfmpdac
namespace Go.Proofs.Ytnoklbnacfmpdac
open Go Go.RowKit Go.Shelf
set_option linter.unusedVariables false
set_option linter.unusedSimpArgs false
variable {F : Fence} {n : Nat} {P : Program} {α : Type}
/-- What a closure that gives pairs to a loop keeps to: Y says which thing may come behind which, T what it wants of the world between two of them. -/
def SeqC (F : Fence) (n : Nat) (P : Program) (g : Nat) (cs : Array Value) (enc enc2 : α → Value) (T : World → Prop) (Y : List α → α → Prop) (S Sp : List α → Prop) (w : World) : Prop :=
  ∀ (l : Nat) (J Jx : List α → World → Prop) (W : World), Below w.heap.size w W → (∀ s A, J s A → T A) → (∀ s A C, J s A → Below A.heap.size A C → J s C) →
    (∀ pre x W1, J pre W1 → Y pre x → YieldAt F (n - 1) P l #[enc x, enc2 x] W1 fun e V => (e = .returned (.bool true) ∧ J (pre ++ [x]) V) ∨ (e = .returned (.bool false) ∧ Jx (pre ++ [x]) V)) →
    J [] W →
    CallsIn F n P g (#[.func (.yield l) #[] #[]] ++ cs) W fun e V => (∃ v, e = .returned v) ∧ ((∃ xs, S xs ∧ J xs V) ∨ ∃ pre, Sp pre ∧ Jx pre V)
theorem wpIn_rangeC {g : Operand} {p p2 : Tmp} {assign body : Code} {Q : Exit → Act → World → Prop} {a : Act} {w : World}
    (hro : F.round = none) (h1 : 1 ≤ n) {gf : Nat} {cs : Array Value} (hg : a.eval g = .func (.func gf) #[] cs) (hFg : F.fn gf) (eg : ∀ args w, (callFunc gf args).run P w = .ok (.enter gf args) w)
    {enc enc2 : α → Value} {T : World → Prop} {Y : List α → α → Prop} {S Sp : List α → Prop} (hseq : SeqC F (n - 1) P gf cs enc enc2 T Y S Sp w)
    (I Ix : List α → World → Prop) (hI : ∀ s W V, I s W → Near w.heap.size W V → I s V) (hIx : ∀ s W V, Ix s W → Near w.heap.size W V → Ix s V) (hT : ∀ s W, I s W → T W) (h0 : I [] w) (a1 : α → Nat → Act) (I2 : List α → α → Nat → World → Prop) (hI2 : ∀ s x h W V, I2 s x h W → Near w.heap.size W V → I2 s x h V)
    (hassign : ∀ (l : Nat) (pre : List α) (x : α) (W : World) (K : Act → World → Prop), I pre W → Y pre x → (∀ (h : Nat) (W' : World), Below W.heap.size W W' → I2 pre x h W' → K (a1 x h) W') →
      assign.wpIn (F.inRound l) (n - 1 - 1) P (Exit.then K (fun _ _ _ => False)) { tmps := (a.tmps.setIfInBounds p (enc x)).setIfInBounds p2 (enc2 x), defers := [] } W)
    (hbody : ∀ (l : Nat) (pre : List α) (x : α) (h : Nat) (W : World), I2 pre x h W → Y pre x → body.wpIn (F.inRound l) (n - 1 - 1) P (roundB w.heap.size I Ix (pre ++ [x]) W) (a1 x h) W)
    (hdone : ∀ (D : Nat) (xs : List α) (W : World), w.heap.size ≤ D → S xs → I xs W → W.heap[D]? = some (.deferred (some [])) → Q .normal { a with defers := { target := .collected D, args := #[] } :: a.defers } W)
    (hstop : ∀ (D : Nat) (pre : List α) (W : World), w.heap.size ≤ D → Sp pre → Ix pre W → W.heap[D]? = some (.deferred (some [])) → Code.ret.wpIn F n P Q { a with defers := { target := .collected D, args := #[] } :: a.defers } W) :
    (Code.rangeFunc g #[p, p2] assign body).wpIn F n P Q a w := by
  refine wpIn_rangeFunc fun fn hfn => ?_
  rw [hro]
  -- the loop's record, by its state and the jump that is pending
  obtain ⟨R, hR⟩ : ∃ R : LoopState → Option Code → Loop, R = fun st pe => { state := st, pending := pe, fn, tmps := a.tmps, params := #[p, p2], assign, body, defers := w.heap.size } := ⟨_, rfl⟩
  have hst : ∀ st pe, (R st pe).state = st := fun st pe => by rw [hR]
  obtain ⟨V0, hV0⟩ : ∃ V0, (w.alloc (.deferred (some []))).alloc (.loop (R .ready none)) = V0 := ⟨_, rfl⟩
  have b0 : Below w.heap.size w V0 := by rw [← hV0]; exact ((Below.refl _ w).alloc (Nat.le_refl _) _).alloc (by simp) _
  have l0 : V0.heap[w.heap.size + 1]? = some (.loop (R .ready none)) := by
    have := World.alloc_heap_new (w.alloc (.deferred (some []))) (.loop (R .ready none))
    rw [World.size_alloc, hV0] at this
    exact this
  have d0 : V0.heap[w.heap.size]? = some (.deferred (some [])) := by
    rw [← hV0]
    exact (Below.heap_alloc _ _ _ (by simp)).trans (World.alloc_heap_new w _)
  refine ⟨w.heap.size + 1, [{ target := .collected w.heap.size, args := #[] }], V0, { target := .fn (.func gf) cs, args := #[.func (.yield (w.heap.size + 1)) #[] #[]] }, V0, gf, #[.func (.yield (w.heap.size + 1)) #[] #[]] ++ cs, V0, ?_, ?_, ?_, ?_, fun _ => h1, ?_⟩
  · rw [← hV0, hR]
    exact run_enterLoop_outer _ _ _ _ _
  · simp only [resolve, hg]
    simp [go_sem]
  · intro f hf
    simp [Target.leads] at hf
    subst hf
    exact hFg
  · simp [invoke, go_sem, eg]
  -- what is known between two rounds, and behind the one that returned
  refine (hseq (w.heap.size + 1)
    (fun pre W => I pre W ∧ W.heap[w.heap.size + 1]? = some (.loop (R .ready none)) ∧ W.heap[w.heap.size]? = some (.deferred (some [])))
    (fun pre W => Ix pre W ∧ W.heap[w.heap.size + 1]? = some (.loop (R .done (some .ret))) ∧ W.heap[w.heap.size]? = some (.deferred (some [])))
    V0 b0 (fun s A h => hT s A h.1) (fun s A C h k => ⟨hI s A C h.1 (.of_below k), (k.block _ (Array.getElem?_eq_some_iff.1 h.2.1).1).trans h.2.1, (k.block _ (Array.getElem?_eq_some_iff.1 h.2.2).1).trans h.2.2⟩)
    ?_ ⟨hI _ _ _ h0 (.of_below b0), l0, d0⟩).mono ?_
  · rintro pre x W ⟨hi, hl, hd⟩ hY
    have hlt : w.heap.size + 1 < W.heap.size := (Array.getElem?_eq_some_iff.1 hl).1
    have hy := run_yield (P := P) (args := #[enc x, enc2 x]) hl (by rw [hR]; rfl)
    rw [hR] at hy
    refine ⟨fn, _, assign, body, hy, roundIn_of_wpIn hfn ?_⟩
    simp only [List.zip_toArray, List.foldl_toArray', List.size_toArray, List.zip_cons_cons, List.zip_nil_right, List.foldl_cons, List.foldl_nil]
    refine hassign _ pre x W _ hi hY ?_
    intro hx W' hbW hi'
    have hl' := (hbW.block _ hlt).trans hl
    have hd' := (hbW.block _ (Array.getElem?_eq_some_iff.1 hd).1).trans hd
    have hlt' : w.heap.size + 1 < W'.heap.size := Nat.lt_of_lt_of_le hlt hbW.size
    refine ⟨_, run_beginRound hl' (hst _ _), ?_⟩
    obtain ⟨W2, hW2⟩ : ∃ W2, W'.putObj (w.heap.size + 1) (.loop { R .ready none with state := .busy }) = W2 := ⟨_, rfl⟩
    rw [hW2]
    have hi2 : I2 pre x hx W2 := by rw [← hW2]; exact hI2 _ _ _ _ _ hi' (.turn _ (by omega) hl' rfl)
    have hl2 : W2.heap[w.heap.size + 1]? = some (.loop (R .busy none)) := by
      rw [← hW2, World.putObj_heap_same hlt', hR]
    have hd2 : W2.heap[w.heap.size]? = some (.deferred (some [])) := by
      rw [← hW2]
      exact (World.putObj_heap_other (by omega)).trans hd'
    have fin : ∀ (jump : Option Code) (V : World), KeepsFrom w.heap.size W2 V → ∃ V2, V2 = V.putObj (w.heap.size + 1) (.loop (R (if jump.isNone then .ready else .done) jump)) ∧ (Instr.endRound (w.heap.size + 1) jump).run P V = .ok (.bool jump.isNone) V2 ∧ Near w.heap.size V V2 ∧ V2.heap[w.heap.size + 1]? = some (.loop (R (if jump.isNone then .ready else .done) jump)) ∧ V2.heap[w.heap.size]? = some (.deferred (some [])) := fun jump V hk => by
      have e1 := hk.same _ _ (by omega) hl2 rfl
      have e2 := hk.same _ _ (Nat.le_refl _) hd2 rfl
      have e3 := run_endRound (P := P) jump e1
      refine ⟨_, rfl, ?_, .turn _ (by omega) e1 rfl, World.putObj_heap_same (Array.getElem?_eq_some_iff.1 e1).1, (World.putObj_heap_other (by omega)).trans e2⟩
      rw [e3, hR]
    refine wpIn_mono (hbody _ pre x hx W2 hi2 hY) ?_
    intro e a3 V hp
    cases e with
    | normal =>
      obtain ⟨V2, e2, hr, hn, f1, f2⟩ := fin none V hp.1
      exact ⟨_, V2, hr, .inl ⟨rfl, hI _ _ _ hp.2 hn, f1, f2⟩⟩
    | ret =>
      obtain ⟨V2, e2, hr, hn, f1, f2⟩ := fin (some .ret) V hp.1
      exact ⟨_, V2, hr, .inr ⟨rfl, hIx _ _ _ hp.2 hn, f1, f2⟩⟩
    | exit id => exact hp.elim
    | goto t => exact hp.elim
    | panic ch => exact hp.elim
    | outgrown => exact hp.elim
  · rintro e V ⟨⟨v, rfl⟩, (⟨xs, hS, hi, hl, hd⟩ | ⟨pre, hSp, hi, hl, hd⟩)⟩
    · refine ⟨none, _, ?_, hdone w.heap.size xs _ (Nat.le_refl _) hS (hI _ _ _ hi (.turn (.loop { R .ready none with state := .exhausted }) (by omega) hl rfl)) ((World.putObj_heap_other (by omega)).trans hd)⟩
      have := run_endLoop (P := P) hl (by rw [hst]; simp)
      rw [this, hR]
    · refine ⟨some .ret, _, ?_, hstop w.heap.size pre _ (Nat.le_refl _) hSp (hIx _ _ _ hi (.turn (.loop { R .done (some .ret) with state := .exhausted }) (by omega) hl rfl)) ((World.putObj_heap_other (by omega)).trans hd)⟩
      have := run_endLoop (P := P) hl (by rw [hst]; simp)
      rw [this, hR]
end Go.Proofs.Ytnoklbnacfmpdac
