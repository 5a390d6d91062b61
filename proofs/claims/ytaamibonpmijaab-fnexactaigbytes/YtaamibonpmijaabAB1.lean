/- Bytes in a row of one's own; numbers as bytes. -/
import Derived.Test.YtaamibonpmijaabGS2
import Derived.Test.YtaamibonpmijaabPA0
import Derived.OwnWalk
namespace Go.Proofs.Ytaamibonpmijaab
open Go Go.RowKit Gs
set_option linter.unusedVariables false
set_option maxRecDepth 100000
def bv (b : UInt8) : Value := .int .u8 (b.toNat : Int)
def RByte : Rd UInt8 := fun _ _ x u => u = [bv x]
theorem RByte.keeps : Keeps RByte := fun _ _ _ _ _ _ h => h
theorem RByte.lowers : Lowers RByte := fun _ _ _ _ _ _ h => h
/-- Bytes in a row of one's own. -/
def OB (B : Nat) (W : World) (v : Value) (xs : List UInt8) : Prop := W.ownsRow B 5 1 v xs.length (xs.map bv)
theorem OB_nil (B : Nat) (W : World) : OB B W (.slice none 0 0) [] := World.ownsRow_nil _ _ _ _
theorem OB.later {B : Nat} {v : Value} {xs : List UInt8} {W W' : World} (h : OB B W v xs) (hb : Below W.heap.size W W') : OB B W' v xs := by
  obtain ⟨h1, h2 | ⟨g, cap, cur, hv, hg, hc, rest⟩⟩ := h
  · exact ⟨h1, .inl h2⟩
  · exact ⟨h1, .inr ⟨g, cap, cur, hv, hg, (hb.block g (Array.getElem?_eq_some_iff.1 hc).1).trans hc, rest⟩⟩
theorem OB.low {B B' : Nat} {v : Value} {xs : List UInt8} {W : World} (h : OB B W v xs) (hB : B' ≤ B) : OB B' W v xs := by
  obtain ⟨h1, h2 | ⟨g, cap, cur, hv, hg, rest⟩⟩ := h
  · exact ⟨h1, .inl h2⟩
  · exact ⟨h1, .inr ⟨g, cap, cur, hv, Nat.le_trans hB hg, rest⟩⟩
theorem OB.alloc {B : Nat} {v : Value} {xs : List UInt8} {W : World} (h : OB B W v xs) (o : Obj) : OB B (W.alloc o) v xs := World.ownsRow.alloc h o
theorem OB.row {B : Nat} {v : Value} {xs : List UInt8} {W : World} (h : OB B W v xs) : ∀ j, v.ownBlock = some j → B ≤ j := fun j hj => (World.ownsRow.lt h j hj).1
theorem OB.shape {B : Nat} {v : Value} {xs : List UInt8} {W : World} (h : OB B W v xs) : ∃ a c, v = .slice a xs.length c := by
  rcases h.2 with ⟨rfl, hn⟩ | ⟨g, cap, cur, rfl, _⟩
  · exact ⟨none, 0, by rw [hn]⟩
  · exact ⟨_, _, rfl⟩
theorem OB_start {W : World} {B M : Nat} (hM : W.heap.size = M) (h : B ≤ M) : OB B (W.alloc (.cells #[] 5)) (.slice (some ⟨M, 0, none⟩) 0 0) [] := by
  subst hM
  exact ⟨rfl, .inr ⟨W.heap.size, 0, #[], rfl, h, heap_alloc_new W _, Nat.le_refl _, Nat.zero_le _, rfl, rfl⟩⟩
theorem OB.read {B : Nat} {v : Value} {xs : List UInt8} {W : World} (h : OB B W v xs) (hl : xs.length ≤ maxLen) : RS 1 RByte W B xs v := by
  have hc := fun g hg => World.ownsRow.cells h (g := g) hg
  rcases h.2 with ⟨rfl, hn⟩ | ⟨g, cap, cur, rfl, hb, hg, hlc, hm, _⟩
  · have : xs = [] := List.length_eq_zero_iff.1 hn
    subst this
    exact RS.nil _ _ _ _ _ _
  · refine ⟨_, _, rfl, hlc, hl, fun _ => ⟨g, 0, rfl, hb, fun i x hx => ?_⟩⟩
    refine ⟨[bv x], rfl, fun j y hj => ?_, rfl⟩
    have hj0 : j = 0 := by
      cases j with
      | zero => rfl
      | succ j => simp at hj
    subst hj0
    simp at hj
    subst hj
    have := hc g rfl i (bv x) (by rw [List.getElem?_map, hx]; rfl)
    rw [Addr.add_lit] at this
    simpa using this
theorem info5 : (Try.prog.info? 5).map (fun i => (i.zero, i.size, i.bytes)) = some (some (.int .u8 0), 1, 1) := by kernel_rfl
/-- Bytes are appended, whatever yields them. -/
theorem runAppB {o : Oper} {a : Act} {w : World} (s x : Operand) (tx : TypeId) (hop : o.op = Op.call { callee := Callee.builtin Builtin.append, args := #[s, x], argTypes := #[29, tx] })
    (B : Nat) (v : Value) (xs : List UInt8) (hs : a.eval s = v) (hown : OB B w v xs) (y : Value) (ys : List UInt8) (hx : a.eval x = y) (hsrc : Src Try.prog 1 tx y ys.length (ys.map bv) w) (hlen : xs.length + ys.length ≤ 1099511627776) (hB : B ≤ w.heap.size) :
    ∃ v' w', (execOp a.eval o).run Try.prog w = .ok (.value v') w' ∧ OB B w' v' (xs ++ ys) ∧ w.grownBy w' v.ownBlock := by
  obtain ⟨i0, hi, hz0, hz1, hz2⟩ := info_parts info5
  obtain ⟨v', w', hrun, ho, hgr, _⟩ := own_src (P := Try.prog) w B 29 tx o.type 5 i0 (.int .u8 0) 1 1 Try.underlying29 hi hz0 hz1 hz2 rfl (by decide) v xs.length (xs.map bv) hown y ys.length (ys.map bv) hsrc (by unfold maxLen; omega) (by omega) hB
  refine ⟨v', w', ?_, ?_, hgr⟩
  · simp [execOp, hop, resolve, invoke, builtin, hs, hx, hrun, Result.andThen]
  · unfold OB
    rw [List.length_append, List.map_append]
    exact ho
theorem wpAppB {ops : Array Oper} {rest : List Oper} {o : Oper} {a : Act} {Q : Exit → Act → World → Prop} {w : World} (hg : o.guard = none) (s x : Operand) (tx : TypeId) (hop : o.op = Op.call { callee := Callee.builtin Builtin.append, args := #[s, x], argTypes := #[29, tx] })
    (B : Nat) (v : Value) (xs : List UInt8) (hs : a.eval s = v) (hown : OB B w v xs) (y : Value) (ys : List UInt8) (hx : a.eval x = y) (hsrc : Src Try.prog 1 tx y ys.length (ys.map bv) w) (hlen : xs.length + ys.length ≤ 1099511627776) (hB : B ≤ w.heap.size)
    (hK : ∀ v' w', OB B w' v' (xs ++ ys) → w.grownBy w' v.ownBlock → wpList Try.prog ops Q rest (a.put o.dst v') w') : wpList Try.prog ops Q (o :: rest) a w := by
  obtain ⟨v', w', hrun, ho, hgr⟩ := runAppB s x tx hop B v xs hs hown y ys hx hsrc hlen hB
  refine wpList_plain hg fun K hK' => ?_
  unfold Oper.wp
  rw [hrun]
  exact hK' _ _ (hK _ _ ho hgr)
theorem oneB (b : UInt8) : ∀ u ∈ [b].map bv, u.oneCell' = true := by
  intro u hu; simp at hu; subst hu; rfl
/-- One byte in a slice that was built. -/
theorem srcOne (W : World) (b : UInt8) (g : Nat) (hg : g = W.heap.size) (n : Int) (hn : n = (b.toNat : Int)) : Src Try.prog 1 29 (.slice (some ⟨g, 0, none⟩) 1 1) [b].length ([b].map bv) (W.alloc (.cells #[.int .u8 n] 5)) := by
  subst hg
  subst hn
  refine Src.ofSlice _ Try.underlying29 ⟨W.heap.size, 0, none⟩ 1 1 ([b].map bv) rfl (fun j u h => ?_) (oneB b)
  match j, h with
  | 0, h => simp at h; subst h; simp [Addr.add, bv]
  | j + 1, h => simp at h
theorem srcStr (W : World) (s : ByteArray) : Src Try.prog 1 9 (.string s) s.data.toList.length (s.data.toList.map bv) W := by
  have h := Src.ofString (P := Try.prog) W Try.underlying9 s
  have e : s.data.toList.length = s.size := by simp
  rw [e]
  exact h
/-- A number in groups of seven bits, the lowest first. -/
def encN (n : Nat) : List UInt8 := if h : n < 128 then [UInt8.ofNat n] else UInt8.ofNat (n % 128 + 128) :: encN (n / 128)
termination_by n
decreasing_by omega
theorem encN_small {n : Nat} (h : n < 128) : encN n = [UInt8.ofNat n] := by rw [encN, dif_pos h]
theorem encN_big {n : Nat} (h : ¬ n < 128) : encN n = UInt8.ofNat (n % 128 + 128) :: encN (n / 128) := by rw [encN, dif_neg h]
theorem encN_len : ∀ (k n : Nat), n < 128 ^ (k + 1) → (encN n).length ≤ k + 1
  | 0, n, h => by rw [encN_small (by simpa using h)]; simp
  | k + 1, n, h => by
    by_cases hn : n < 128
    · rw [encN_small hn]; simp
    · rw [encN_big hn, List.length_cons]
      have : n / 128 < 128 ^ (k + 1) := by
        rw [Nat.div_lt_iff_lt_mul (by decide)]
        rw [Nat.pow_succ] at h
        exact h
      have := encN_len k (n / 128) this
      omega
theorem encN_ten {n : Nat} (h : n ≤ 4611686018427387904) : (encN n).length ≤ 9 := encN_len 8 n (Nat.lt_of_le_of_lt h (by decide))
end Go.Proofs.Ytaamibonpmijaab
