/- Things of k cells each in a row of one's own. -/
import Derived.Test.YtdmmbhemmbgcpadAG
import Derived.Laws.AppendOwn
import Derived.Laws.OwnMore
namespace Go.Proofs.Ytdmmbhemmbgcpad
open Go Go.RowKit Gs
set_option linter.unusedVariables false
set_option maxRecDepth 100000
theorem fm_take {α β : Type} (f : α → List β) (xs : List α) (k : Nat) (x : α) (h : xs[k]? = some x) : (xs.take (k + 1)).flatMap f = (xs.take k).flatMap f ++ f x := by
  rw [List.take_add_one, h, List.flatMap_append]; simp
theorem fm_len {α β : Type} {f : α → List β} {k : Nat} (hf : ∀ x, (f x).length = k) (xs : List α) : (xs.flatMap f).length = xs.length * k := by
  induction xs with
  | nil => simp
  | cons x r ih => rw [List.flatMap_cons, List.length_append, ih, hf, List.length_cons, Nat.add_mul, Nat.one_mul, Nat.add_comm]
theorem fm_get {α β : Type} {f : α → List β} {k : Nat} (hf : ∀ x, (f x).length = k) : ∀ (xs : List α) (i j : Nat) (x : α) (y : β), xs[i]? = some x → (f x)[j]? = some y → (xs.flatMap f)[i * k + j]? = some y
  | [], i, j, x, y, h, _ => by simp at h
  | x0 :: r, 0, j, x, y, h, hj => by
    simp at h; subst h
    have hjl : j < (f x0).length := (List.getElem?_eq_some_iff.1 hj).1
    rw [List.flatMap_cons, Nat.zero_mul, Nat.zero_add, List.getElem?_append_left hjl]
    exact hj
  | x0 :: r, i + 1, j, x, y, h, hj => by
    simp at h
    have ih := fm_get hf r i j x y h hj
    rw [List.flatMap_cons, List.getElem?_append_right (by rw [hf, Nat.add_mul, Nat.one_mul]; omega), hf, show (i + 1) * k + j - k = i * k + j by rw [Nat.add_mul, Nat.one_mul]; omega]
    exact ih
/-- A row of one's own that holds things of k cells each. -/
def OW {α : Type} (t k : Nat) (f : α → List Value) (B : Nat) (W : World) (v : Value) (xs : List α) : Prop := W.ownsRow B t k v xs.length (xs.flatMap f)
section
variable {α : Type} {t k : Nat} {f : α → List Value} {B : Nat} {v : Value} {xs : List α} {W W' : World}
theorem OW.nil : OW t k f B W (.slice none 0 0) ([] : List α) := World.ownsRow_nil _ _ _ _
theorem OW.later (h : OW t k f B W v xs) (hb : Below W.heap.size W W') : OW t k f B W' v xs := by
  obtain ⟨h1, h2 | ⟨g, cap, cur, hv, hg, hc, rest⟩⟩ := h
  · exact ⟨h1, .inl h2⟩
  · exact ⟨h1, .inr ⟨g, cap, cur, hv, hg, (hb.block g (Array.getElem?_eq_some_iff.1 hc).1).trans hc, rest⟩⟩
theorem OW.row (h : OW t k f B W v xs) : ∀ j, v.ownBlock = some j → B ≤ j := fun j hj => (World.ownsRow.lt h j hj).1
theorem OW.slice (h : OW t k f B W v xs) : ∃ a c, v = .slice a xs.length c ∧ xs.length ≤ c := by
  rcases h.2 with ⟨rfl, h0⟩ | ⟨g, cap, cur, rfl, _, _, hc, _⟩
  · exact ⟨_, _, by rw [h0], by omega⟩
  · exact ⟨_, _, rfl, hc⟩
/-- What is read of it. -/
theorem OW.read (hf : ∀ x, (f x).length = k) {R : Rd α} (hR : ∀ x ∈ xs, R W B x (f x)) (h : OW t k f B W v xs) (hl : xs.length ≤ maxLen) : RS k R W B xs v := by
  have hc := fun g hg => World.ownsRow.cells h (g := g) hg
  rcases h.2 with ⟨rfl, hn⟩ | ⟨g, cap, cur, rfl, hb, hg, hlc, hm, _⟩
  · have : xs = [] := List.length_eq_zero_iff.1 hn
    subst this
    exact RS.nil _ _ _ _ _ _
  · refine ⟨_, _, rfl, hlc, hl, fun _ => ⟨g, 0, rfl, hb, fun i x hx => ⟨f x, hf x, fun j y hj => ?_, hR x (List.mem_of_getElem? hx)⟩⟩⟩
    have := hc g rfl (i * k + j) y (fm_get hf xs i j x y hx hj)
    rw [Addr.add_lit] at this
    simpa using this
end
/-- Things are appended, whatever slice they lie in. -/
theorem wpAppW {α : Type} {t ts k by_ : Nat} {f : α → List Value} (z : Value) (hu : Try.prog.underlying ts = some (.slice t)) (hinf : (Try.prog.info? t).map (fun i => (i.zero, i.size, i.bytes)) = some (some z, k, by_)) (hzs : z.cells.size = k) (hk : 0 < k) (hbl : by_ ≤ 256)
    (hf : ∀ x, (f x).length = k) (h1 : ∀ x, ∀ u ∈ f x, u.oneCell' = true)
    {ops : Array Oper} {rest : List Oper} {o : Oper} {a : Act} {Q : Exit → Act → World → Prop} {w : World} (hg : o.guard = none) (s x : Operand) (hop : o.op = Op.call { callee := Callee.builtin Builtin.append, args := #[s, x], argTypes := #[ts, ts] })
    (B : Nat) (v : Value) (xs : List α) (hs : a.eval s = v) (hown : OW t k f B w v xs) (xv : Value) (ys : List α) {R : Rd α} (hR : ∀ x u, R w 0 x u → u = f x) (hx : a.eval x = xv) (hr : RS k R w 0 ys xv) (hlen : xs.length + ys.length ≤ 4194304) (hB : B ≤ w.heap.size)
    (hK : ∀ v' w', OW t k f B w' v' (xs ++ ys) → w.grownBy w' v.ownBlock → wpList Try.prog ops Q rest (a.put o.dst v') w') : wpList Try.prog ops Q (o :: rest) a w := by
  obtain ⟨i0, hi, hz0, hz1, hz2⟩ := info_parts hinf
  rcases hr.open with ⟨rfl, ad, c, rfl⟩ | ⟨b, off, c, rfl, hc, hn, _, hcs⟩
  · obtain ⟨sa, sl, sc, rfl, hle⟩ : ∃ sa sl sc, v = .slice sa sl sc ∧ sl ≤ sc := by
      rcases hown.2 with ⟨rfl, _⟩ | ⟨g, cap, cur, rfl, _, _, h, _⟩
      · exact ⟨_, _, _, rfl, Nat.le_refl _⟩
      · exact ⟨_, _, _, rfl, h⟩
    have hS : Src Try.prog i0.size ts (.slice ad 0 c) 0 [] w := by
      cases ad with
      | none => exact Src.ofNil w hu c
      | some ad => exact Src.ofSlice w hu ad 0 c [] (by simp) (fun j u h => by simp at h) (fun _ h => by cases h)
    have hrun := run_append_nothing (P := Try.prog) w ts ts o.type t i0 hu hi sa sl sc hle _ hS
    refine wpList_plain hg fun K hK' => ?_
    unfold Oper.wp
    simp [execOp, hop, resolve, invoke, builtin, hs, hx, hrun, Result.andThen]
    exact hK' _ _ (hK _ w (by simpa using hown) (World.grownBy.refl _ _))
  · refine wpList_append_own _ hg s x ts hop B t i0 z k by_ hu hi hz0 hz1 hz2 hzs hk v xs.length (xs.flatMap f) hs hown ⟨b, off, none⟩ ys.length c (ys.flatMap f) hx (fm_len hf ys) ?_ ?_ (by unfold maxLen; omega) (by
        have : (xs.length + ys.length) * by_ ≤ 4194304 * 256 := Nat.mul_le_mul hlen hbl
        omega) hB ?_
    · intro j u hj
      have hjl : j < ys.length * k := by rw [← fm_len hf ys]; exact (List.getElem?_eq_some_iff.1 hj).1
      have hd : j / k * k + j % k = j := Nat.div_add_mod' j k
      have hq : j / k < ys.length := Nat.div_lt_of_lt_mul (by rw [Nat.mul_comm]; exact hjl)
      have hm : j % k < k := Nat.mod_lt _ hk
      have hy : ys[j / k]? = some ys[j / k] := List.getElem?_eq_getElem hq
      obtain ⟨c0, hul, hat, hr0⟩ := hcs (j / k) _ hy
      have hc0 := hR _ _ hr0
      subst hc0
      have hy2 : (f ys[j / k])[j % k]? = some (f ys[j / k])[j % k] := List.getElem?_eq_getElem (by rw [hf]; exact hm)
      have h3 := fm_get hf ys _ _ _ _ hy hy2
      rw [hd, hj] at h3
      have h4 := hat _ _ hy2
      rw [Addr.add_lit]
      cases h3
      rw [show off + j = off + j / k * k + j % k by omega]
      exact h4
    · intro u hu
      obtain ⟨y, _, hy⟩ := List.mem_flatMap.1 hu
      exact h1 y u hy
    · intro v' w' ho hgr _
      refine hK v' w' ?_ hgr
      unfold OW
      rw [List.length_append, List.flatMap_append]; exact ho
end Go.Proofs.Ytdmmbhemmbgcpad
