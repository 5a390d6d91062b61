/- The specification's AigOK: the names of inputs and clocks, appended in a region that draws. -/
import Derived.Test.YtlldfaniddbjaaaGreatDoorGSP
namespace Go.Proofs.YtlldfaniddbjaaaGreatDoor
open Go Go.RowKit Gs
set_option linter.unusedVariables false
set_option linter.unusedSimpArgs false
set_option maxRecDepth 100000
theorem OS.shape {B : Nat} {v : Value} {xs : List ByteArray} {W : World} (h : OS B W v xs) : ∃ a l c, v = .slice a l c := by
  rcases h.1.2 with ⟨rfl, _⟩ | ⟨g, cap, cur, rfl, _⟩
  · exact ⟨_, _, _, rfl⟩
  · exact ⟨_, _, _, rfl⟩
theorem runAppS {o : Oper} {a : Act} {w : World} (s x : Operand) (hop : o.op = Op.call { callee := Callee.builtin Builtin.append, args := #[s, x], argTypes := #[22, 22] })
    (B : Nat) (v : Value) (xs : List ByteArray) (hs : a.eval s = v) (hown : OS B w v xs) (xv : Value) (ys : List ByteArray) (hx : a.eval x = xv) (hr : RS 1 RStr w 0 ys xv) (hlen : xs.length + ys.length ≤ 4194304) (hB : B ≤ w.heap.size) :
    ∃ v' w', (execOp a.eval o).run Tryz.prog w = .ok (.value v') w' ∧ OS B w' v' (xs ++ ys) ∧ w.grownBy w' v.ownBlock := by
  obtain ⟨i0, hi, hz0, hz1, hz2⟩ := info_parts info9
  rcases hr.open with ⟨rfl, ad, c, rfl⟩ | ⟨b, off, c, rfl, hc, hn, _, hcs⟩
  · obtain ⟨sa, sl, sc, rfl, hle⟩ : ∃ sa sl sc, v = .slice sa sl sc ∧ sl ≤ sc := by
      rcases hown.1.2 with ⟨rfl, _⟩ | ⟨g, cap, cur, rfl, _, _, h, _⟩
      · exact ⟨_, _, _, rfl, Nat.le_refl _⟩
      · exact ⟨_, _, _, rfl, h⟩
    have hS : Src Tryz.prog i0.size 22 (.slice ad 0 c) 0 [] w := by
      cases ad with
      | none => exact Src.ofNil w Tryz.underlying22 c
      | some ad => exact Src.ofSlice w Tryz.underlying22 ad 0 c [] (by simp) (fun j u h => by simp at h) (fun _ h => by cases h)
    have hrun := run_append_nothing (P := Tryz.prog) w 22 22 o.type 9 i0 Tryz.underlying22 hi sa sl sc hle _ hS
    refine ⟨_, w, ?_, by simpa using hown, World.grownBy.refl _ _⟩
    simp [execOp, hop, resolve, invoke, builtin, hs, hx, hrun, Result.andThen]
  · obtain ⟨v', w', hrun, ho, hgr, _⟩ := run_append_own (P := Tryz.prog) w B 22 o.type 9 i0 (.string ByteArray.empty) 1 16 Tryz.underlying22 hi hz0 hz1 hz2 rfl (by decide) v xs.length (xs.map Value.string) hown.1 ⟨b, off, none⟩ ys.length c (ys.map Value.string) (by simp) (by
        intro j u hj
        rw [List.getElem?_map, Option.map_eq_some_iff] at hj
        obtain ⟨y, hy, rfl⟩ := hj
        obtain ⟨u, hul, hat, hu, _⟩ := hcs j y hy
        subst hu
        have := hat.get (j := 0) rfl
        rw [Addr.add_lit]
        simpa using this) (strs_one ys) (by unfold maxLen; omega) (by omega) hB
    refine ⟨v', w', ?_, ⟨?_, fun s hs => ?_⟩, hgr⟩
    · simp [execOp, hop, resolve, invoke, builtin, hs, hx, hrun, Result.andThen]
    · rw [List.length_append, List.map_append]; exact ho
    · rcases List.mem_append.1 hs with h | h
      · exact hown.2 s h
      · obtain ⟨j, hj⟩ := List.getElem?_of_mem h
        obtain ⟨_, _, _, _, hb⟩ := hcs j s hj
        exact hb
theorem opApp {ops : Array Oper} {o : Oper} {a : Act} {w : World} {K : Act → World → Prop} (hg : o.guard = none) (s x : Operand) (hop : o.op = Op.call { callee := Callee.builtin Builtin.append, args := #[s, x], argTypes := #[22, 22] })
    (B : Nat) (v : Value) (xs : List ByteArray) (hs : a.eval s = v) (hown : OS B w v xs) (xv : Value) (ys : List ByteArray) (hx : a.eval x = xv) (hr : RS 1 RStr w 0 ys xv) (hlen : xs.length + ys.length ≤ 4194304) (hB : B ≤ w.heap.size)
    (h : ∀ v' w', OS B w' v' (xs ++ ys) → w.grownBy w' v.ownBlock → K (a.put o.dst v') w') : opW Tryz.prog ops o K a w := by
  obtain ⟨v', w', hrun, ho, hgr⟩ := runAppS s x hop B v xs hs hown xv ys hx hr hlen hB
  unfold opW
  rw [if_pos (wanted_none hg)]
  exact .inl ⟨v', w', hrun, h v' w' ho hgr⟩
/-- What is known of each operation while the names are put together. -/
def GA (B N : Nat) (v0 v1 : Value) (xs0 xs1 : List ByteArray) (l : Array Bool) (k : Nat) (W : World) (v : Value) : Prop := match k with
  | 0 => l.getD 3 false = false → OS N W v []
  | 1 => v = .pointer (some ⟨B, 0, none⟩)
  | 2 => v = v0
  | 3 => l.getD 6 false = false → OS N W v xs0
  | 4 => v = .pointer (some ⟨B, 1, none⟩)
  | 5 => v = v1
  | 6 => OS N W v (xs0 ++ xs1)
  | 7 => OS N W v (xs0 ++ xs1)
  | _ => True
def JA (W0 : World) (l : Array Bool) (W : World) : Prop := Below W0.heap.size W0 W ∧ (l.getD 6 false = true → l.getD 3 false = true) ∧ (l.getD 7 false = true → l.getD 6 false = true)
theorem get_un {l : Array Bool} {i j : Nat} (h : (l.setIfInBounds i true).getD j false = false) : l.getD j false = false := by
  by_cases e : j = i
  · subst e
    by_cases hs : j < l.size
    · rw [set_ite hs] at h; simp at h
    · simp [Array.getD, hs]
  · rwa [getD_set_ne false (fun e' => e e'.symm)] at h
theorem get_ne {l : Array Bool} {i j : Nat} (e : j ≠ i) : (l.setIfInBounds i true).getD j false = l.getD j false := getD_set_ne false (fun e' => e e'.symm)
theorem get_mono {l : Array Bool} {i j : Nat} (h : l.getD j false = true) : (l.setIfInBounds i true).getD j false = true := by
  by_cases e : j = i
  · subst e
    have hs : j < l.size := by
      rcases Nat.lt_or_ge j l.size with h' | h'
      · exact h'
      · simp [Array.getD, Nat.not_lt.2 h'] at h
    rw [set_ite hs]; simp
  · rw [get_ne e]; exact h
theorem not_done {l : Array Bool} {k : Nat} (h : l.getD k true = false) : l.getD k false = false := by
  by_cases hs : k < l.size
  · simpa [Array.getD, hs] using h
  · simp [Array.getD, hs]
theorem now_done {l : Array Bool} {k : Nat} (h : l.getD k true = false) : (l.setIfInBounds k true).getD k false = true := by
  have hs : k < l.size := by
    rcases Nat.lt_or_ge k l.size with h' | h'
    · exact h'
    · simp [Array.getD, Nat.not_lt.2 h'] at h
  rw [set_ite hs]; simp
theorem GA.keep {B N : Nat} {v0 v1 : Value} {xs0 xs1 : List ByteArray} {l : Array Bool} {k i : Nat} {W W' : World} {v : Value} (h : GA B N v0 v1 xs0 xs1 l k W v) (hb : Below W.heap.size W W') : GA B N v0 v1 xs0 xs1 (l.setIfInBounds i true) k W' v := by
  unfold GA at *
  split at h
  · exact fun e => (h (get_un e)).later hb
  · exact h
  · exact h
  · exact fun e => (h (get_un e)).later hb
  · exact h
  · exact h
  · exact OS.later h hb
  · exact OS.later h hb
  · trivial
theorem JA.keep {W0 : World} {l : Array Bool} {i : Nat} {W W' : World} (h : JA W0 l W) (hi : i ≠ 6 ∧ i ≠ 7) (hb : Below W.heap.size W W') : JA W0 (l.setIfInBounds i true) W' := by
  obtain ⟨h1, h2, h3⟩ := h
  refine ⟨btr h1 hb, fun e => get_mono (h2 ?_), fun e => get_mono (h3 ?_)⟩
  · rwa [get_ne (fun e' => hi.1 e'.symm)] at e
  · rwa [get_ne (fun e' => hi.2 e'.symm)] at e
theorem sa_val {ops : Array Oper} {a0 : Act} {W0 : World} {B N : Nat} {v0 v1 : Value} {xs0 xs1 : List ByteArray} {k : Nat} {o : Oper} (hk : k ≠ 6 ∧ k ≠ 7) (hg : o.guard = none) (h : ∀ l a w, PA ops (GA B N v0 v1 xs0 xs1) (JA W0) a0 l a w → (∀ e ∈ o.after, Region.binds .any e = true → l.getD e.on false = true) → ∃ x, (execOp a.eval o).run Tryz.prog w = .ok (.value x) w ∧ ∀ l', GA B N v0 v1 xs0 xs1 l' k w x) : Stp Tryz.prog ops (GA B N v0 v1 xs0 xs1) (JA W0) a0 k o := by
  intro l a w hp hu ha
  obtain ⟨x, hr, hf⟩ := h l a w hp ha
  unfold opW
  rw [if_pos (wanted_none hg)]
  exact .inl ⟨x, w, hr, x, rfl, hp.j.keep hk (brf w), hf _, fun _ _ _ _ h => h.keep (brf w)⟩
end Go.Proofs.YtlldfaniddbjaaaGreatDoor
