/- Parts of slices of texts; texts in a row that begins empty. -/
import Derived.Test.YtdmmbhemmbgcpadNF2
import Derived.Test.YtdmmbhemmbgcpadSM
namespace Go.Proofs.Ytdmmbhemmbgcpad
open Go Go.RowKit Gs
set_option linter.unusedVariables false
set_option linter.unusedSimpArgs false
set_option maxRecDepth 100000
theorem rs_take {α : Type} {R : Rd α} {W : World} {B : Nat} {xs : List α} {a : Option Addr} {n c : Nat} (h : RS 1 R W B xs (.slice a n c)) (k : Nat) (hk : k ≤ xs.length) : RS 1 R W B (xs.take k) (.slice a k c) := by
  obtain ⟨a', c', hv, h1, h2, h3⟩ := h
  injection hv with e1 e2 e3
  subst e1; subst e3
  have hl : (xs.take k).length = k := by rw [List.length_take]; omega
  refine ⟨a, c, by rw [hl], by omega, by omega, fun hne => ?_⟩
  obtain ⟨b, o, ha, hb, hh⟩ := h3 (by intro e; apply hne; rw [e]; simp)
  refine ⟨b, o, ha, hb, fun i x hx => ?_⟩
  rw [List.getElem?_take] at hx
  split at hx
  · exact hh i x hx
  · cases hx
theorem rs_drop {α : Type} {R : Rd α} {W : World} {B : Nat} {xs : List α} {a : Option Addr} {n c : Nat} (h : RS 1 R W B xs (.slice a n c)) (k : Nat) (hk : k ≤ xs.length) : RS 1 R W B (xs.drop k) (.slice (if c = k then a else a.map (·.add (k * 1))) (n - k) (c - k)) := by
  obtain ⟨a', c', hv, h1, h2, h3⟩ := h
  injection hv with e1 e2 e3
  subst e1; subst e3
  have hl : (xs.drop k).length = n - k := by rw [List.length_drop]; omega
  refine ⟨_, _, by rw [hl], by omega, by omega, fun hne => ?_⟩
  have hlt : k < xs.length := by
    rcases Nat.lt_or_ge k xs.length with h | h
    · exact h
    · exact absurd (List.drop_eq_nil_of_le h) hne
  obtain ⟨b, o, ha, hb, hh⟩ := h3 (by intro e; rw [e] at hlt; simp at hlt)
  refine ⟨b, o + k, ?_, hb, fun i x hx => ?_⟩
  · rw [if_neg (by omega), ha]
    simp [Addr.add]
  · rw [List.getElem?_drop] at hx
    obtain ⟨u, h1, h2, h3⟩ := hh (k + i) x hx
    exact ⟨u, h1, by rw [show o + k + i * 1 = o + (k + i) * 1 by omega]; exact h2, h3⟩
theorem wpTailS {ops : Array Oper} {rest : List Oper} {o : Oper} {a : Act} {Q : Exit → Act → World → Prop} {w : World} (hg : o.guard = none) (s lo : Operand) (hop : o.op = Op.slice 22 s (some lo) none none) (k : Nat) (hlo : a.eval lo = .int .i64 (k : Int))
    (W : World) (B : Nat) (xs : List ByteArray) (v : Value) (hs : a.eval s = v) (hr : RS 1 RStr W B xs v) (hk : k ≤ xs.length)
    (hK : ∀ v', RS 1 RStr W B (xs.drop k) v' → wpList Try.prog ops Q rest (a.put o.dst v') w) : wpList Try.prog ops Q (o :: rest) a w := by
  obtain ⟨ad, c, rfl⟩ := hr.slice
  have hc : xs.length ≤ c := by
    obtain ⟨a', c', hv, h1, _⟩ := hr
    injection hv with e1 e2 e3
    omega
  have hd := rs_drop hr k hk
  have hrun : ∀ ty : Nat, (Instr.slice 22 (.slice ad xs.length c) (some (.int .i64 (k : Int))) none none).run Try.prog w = .ok (.slice (if c = k then ad else ad.map (·.add (k * 1))) (xs.length - k) (c - k)) w := fun _ => by
    have h1 : ((k : Int) ≤ (xs.length : Int)) := by omega
    have h2 : k ≤ xs.length := by omega
    simp [Instr.slice, run_underlying Try.underlying22, Instr.sliceBounds, Instr.sliceBound, asIntOf, h1, h2, show (Go.sizeOf 9).run Try.prog w = .ok 1 w from by simp [Go.sizeOf, typeInfo]; kernel_rfl]
  refine wpList_plain hg fun K hK' => ?_
  unfold Oper.wp
  simp [execOp, hop, hs, hlo, Instr.sliceAt, hrun 0, Result.andThen]
  exact hK' _ _ (hK _ (by simpa using hd))
theorem wpHeadS {ops : Array Oper} {rest : List Oper} {o : Oper} {a : Act} {Q : Exit → Act → World → Prop} {w : World} (hg : o.guard = none) (s hi : Operand) (hop : o.op = Op.slice 22 s none (some hi) none) (k : Nat) (hhi : a.eval hi = .int .i64 (k : Int))
    (W : World) (B : Nat) (xs : List ByteArray) (v : Value) (hs : a.eval s = v) (hr : RS 1 RStr W B xs v) (hk : k ≤ xs.length)
    (hK : ∀ v', RS 1 RStr W B (xs.take k) v' → wpList Try.prog ops Q rest (a.put o.dst v') w) : wpList Try.prog ops Q (o :: rest) a w := by
  obtain ⟨ad, c, rfl⟩ := hr.slice
  have hc : xs.length ≤ c := by
    obtain ⟨a', c', hv, h1, _⟩ := hr
    injection hv with e1 e2 e3
    omega
  have hd := rs_take hr k hk
  have hrun : (Instr.slice 22 (.slice ad xs.length c) none (some (.int .i64 (k : Int))) none).run Try.prog w = .ok (.slice ad k c) w := by
    have h1 : ((k : Int) ≤ (c : Int)) := by omega
    simp [Instr.slice, run_underlying Try.underlying22, Instr.sliceBounds, Instr.sliceBound, asIntOf, h1, show (Go.sizeOf 9).run Try.prog w = .ok 1 w from by simp [Go.sizeOf, typeInfo]; kernel_rfl]
    have h2 : k ≤ c := by omega
    rw [if_pos h2]
    cases ad <;> simp [Addr.add]
  refine wpList_plain hg fun K hK' => ?_
  unfold Oper.wp
  simp [execOp, hop, hs, hhi, Instr.sliceAt, hrun, Result.andThen]
  exact hK' _ _ (hK _ hd)
theorem OS_start {W : World} {B M : Nat} (hM : W.heap.size = M) (h : B ≤ M) : OS B (W.alloc (.cells #[] 9)) (.slice (some ⟨M, 0, none⟩) 0 0) [] := by
  subst hM
  exact ⟨⟨rfl, .inr ⟨W.heap.size, 0, #[], rfl, h, heap_alloc_new W _, Nat.le_refl _, Nat.zero_le _, rfl, rfl⟩⟩, fun _ h => by cases h⟩
end Go.Proofs.Ytdmmbhemmbgcpad
