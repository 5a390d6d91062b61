/- Texts in order: the order of bytes, merging, and lists that rise. -/
import Derived.Test.YtlldfaniddbjaaaGreatDoorGGS2
import Derived.Test.YtlldfaniddbjaaaGreatDoorGN2
namespace Go.Proofs.YtlldfaniddbjaaaGreatDoor
open Go Go.RowKit
set_option linter.unusedVariables false
theorem bl_irrefl : ∀ x : List UInt8, Op.bytesLess x x = false
  | [] => rfl
  | a :: x => by simp [Op.bytesLess, bl_irrefl x]
theorem bl_trans : ∀ x y z : List UInt8, Op.bytesLess x y = true → Op.bytesLess y z = true → Op.bytesLess x z = true
  | _, [], _, h, _ => by simp [Op.bytesLess] at h
  | _, _ :: _, [], _, h => by simp [Op.bytesLess] at h
  | [], _ :: _, _ :: _, _, _ => rfl
  | a :: x, b :: y, c :: z, h, k => by
    simp only [Op.bytesLess, Bool.or_eq_true, decide_eq_true_eq, Bool.and_eq_true, beq_iff_eq] at h k ⊢
    rcases h with h | ⟨rfl, h⟩
    · rcases k with k | ⟨rfl, k⟩
      · exact .inl (UInt8.lt_trans h k)
      · exact .inl h
    · rcases k with k | ⟨rfl, k⟩
      · exact .inl k
      · exact .inr ⟨rfl, bl_trans x y z h k⟩
theorem bl_total : ∀ x y : List UInt8, Op.bytesLess x y = true ∨ x = y ∨ Op.bytesLess y x = true
  | [], [] => .inr (.inl rfl)
  | [], _ :: _ => .inl rfl
  | _ :: _, [] => .inr (.inr rfl)
  | a :: x, b :: y => by
    simp only [Op.bytesLess, Bool.or_eq_true, decide_eq_true_eq, Bool.and_eq_true, beq_iff_eq, List.cons.injEq]
    rcases Nat.lt_trichotomy a.toNat b.toNat with h | h | h
    · exact .inl (.inl (UInt8.lt_iff_toNat_lt.2 h))
    · have e : a = b := UInt8.toNat_inj.1 h
      subst e
      rcases bl_total x y with h | h | h
      · exact .inl (.inr ⟨rfl, h⟩)
      · exact .inr (.inl ⟨rfl, h⟩)
      · exact .inr (.inr (.inr ⟨rfl, h⟩))
    · exact .inr (.inr (.inl (UInt8.lt_iff_toNat_lt.2 h)))
/-- One text is not behind another. -/
def leS (a b : ByteArray) : Bool := Op.bytesLess a.toList b.toList || a.toList == b.toList
theorem toL_inj {a b : ByteArray} (h : a.toList = b.toList) : a = b := by
  have e : ∀ s : ByteArray, s.toList = L s := fun s => by unfold L; exact ByteArray.toList_eq s
  rw [e, e] at h
  exact L_inj h
theorem leS_iff (a b : ByteArray) : leS a b = true ↔ Op.bytesLess a.toList b.toList = true ∨ a = b := by
  unfold leS
  rw [Bool.or_eq_true, beq_iff_eq]
  exact ⟨fun h => h.imp id toL_inj, fun h => h.imp id (fun e => by rw [e])⟩
theorem leS_trans (a b c : ByteArray) (h : leS a b = true) (k : leS b c = true) : leS a c = true := by
  rw [leS_iff] at *
  rcases h with h | rfl
  · rcases k with k | rfl
    · exact .inl (bl_trans _ _ _ h k)
    · exact .inl h
  · exact k
theorem leS_total (a b : ByteArray) : (leS a b || leS b a) = true := by
  rw [Bool.or_eq_true, leS_iff, leS_iff]
  rcases bl_total a.toList b.toList with h | h | h
  · exact .inl (.inl h)
  · exact .inl (.inr (toL_inj h))
  · exact .inr (.inl h)
theorem leS_anti (a b : ByteArray) (h : leS a b = true) (k : leS b a = true) : a = b := by
  rw [leS_iff] at *
  rcases h with h | rfl
  · rcases k with k | rfl
    · have := bl_trans _ _ _ h k
      rw [bl_irrefl] at this
      cases this
    · rfl
  · rfl
/-- A list that rises. -/
abbrev Up (xs : List ByteArray) : Prop := xs.Pairwise (fun a b => leS a b = true)
theorem up_merge (xs ys : List ByteArray) (h : Up xs) (k : Up ys) : Up (xs.merge ys leS) := List.pairwise_merge leS_trans leS_total xs ys h k
theorem perm_merge (xs ys : List ByteArray) : (xs.merge ys leS).Perm (xs ++ ys) := List.merge_perm_append leS
/-- No two neighbours alike. -/
def apart : List ByteArray → Bool
  | x :: y :: r => decide (x ≠ y) && apart (y :: r)
  | _ => true
theorem apart_nodup : ∀ xs : List ByteArray, Up xs → (apart xs = true ↔ xs.Nodup)
  | [], _ => by simp [apart]
  | [x], _ => by simp [apart]
  | x :: y :: r, h => by
    have h1 := List.pairwise_cons.1 h
    have h2 := List.pairwise_cons.1 h1.2
    rw [apart, Bool.and_eq_true, decide_eq_true_eq, apart_nodup (y :: r) h1.2, List.nodup_cons (a := x)]
    refine ⟨fun ⟨hn, hr⟩ => ⟨fun hm => ?_, hr⟩, fun ⟨hn, hr⟩ => ⟨fun e => hn (by rw [e]; exact List.mem_cons_self), hr⟩⟩
    rcases List.mem_cons.1 hm with e | hm
    · exact hn e
    · exact hn (leS_anti x y (h1.1 y List.mem_cons_self) (h2.1 x hm))
theorem apart_snoc (x y : ByteArray) : ∀ xs : List ByteArray, apart (xs ++ [x, y]) = (apart (xs ++ [x]) && decide (x ≠ y))
  | [] => by simp [apart]
  | [z] => by simp [apart]
  | z :: t :: r => by
    show apart (z :: t :: (r ++ [x, y])) = (apart (z :: t :: (r ++ [x])) && _)
    rw [apart, apart, show t :: (r ++ [x, y]) = (t :: r) ++ [x, y] from rfl, apart_snoc x y (t :: r), Bool.and_assoc]
    rfl
theorem apart_take (xs : List ByteArray) (k : Nat) (x y : ByteArray) (h : xs[k]? = some x) (h2 : xs[k + 1]? = some y) : apart (xs.take (k + 2)) = (apart (xs.take (k + 1)) && decide (x ≠ y)) := by
  rw [List.take_add_one, h2, List.take_add_one, h]
  simp only [Option.toList_some, List.append_assoc]
  exact apart_snoc x y _
theorem apart_app : ∀ (xs ys : List ByteArray), apart xs = false → apart (xs ++ ys) = false
  | [], ys, h => by simp [apart] at h
  | [x], ys, h => by simp [apart] at h
  | x :: y :: r, ys, h => by
    rw [apart] at h
    show apart (x :: y :: (r ++ ys)) = false
    rw [apart]
    cases hd : decide (x ≠ y)
    · rfl
    · rw [hd, Bool.true_and] at h
      have := apart_app (y :: r) ys h
      rw [Bool.true_and]
      exact this
theorem apart_mono (xs : List ByteArray) (k : Nat) (h : apart (xs.take k) = false) : apart xs = false := by
  have := apart_app (xs.take k) (xs.drop k) h
  rwa [List.take_append_drop] at this
end Go.Proofs.YtlldfaniddbjaaaGreatDoor
namespace Go.Proofs.YtlldfaniddbjaaaGreatDoor
open Go Go.RowKit Gs
set_option linter.unusedVariables false
set_option linter.unusedSimpArgs false
set_option maxRecDepth 100000
theorem rs_take {α : Type} {R : Rd α} {W : World} {B : Nat} {xs : List α} {a : Option Addr} {n c : Nat} (h : RS 1 R W B xs (.slice a n c)) (k : Nat) (hk : k ≤ xs.length) : RS 1 R W B (xs.take k) (.slice a k c) := by
  obtain ⟨a', c', hv, h1, h2, h3⟩ := h
  injection hv with e1 e2 e3
  subst e1; subst e3
  have hl : (xs.take k).length = k := by rw [List.length_take]; omega
  refine ⟨a, c, by rw [hl], by omega, by omega, fun hne => ?_⟩
  obtain ⟨b, o, ha, hb, hh⟩ := h3 (by intro e; apply hne; rw [e]; simp)
  refine ⟨b, o, ha, hb, fun i x hx => ?_⟩
  rw [List.getElem?_take] at hx
  split at hx
  · exact hh i x hx
  · cases hx
theorem rs_drop {α : Type} {R : Rd α} {W : World} {B : Nat} {xs : List α} {a : Option Addr} {n c : Nat} (h : RS 1 R W B xs (.slice a n c)) (k : Nat) (hk : k ≤ xs.length) : RS 1 R W B (xs.drop k) (.slice (if c = k then a else a.map (·.add (k * 1))) (n - k) (c - k)) := by
  obtain ⟨a', c', hv, h1, h2, h3⟩ := h
  injection hv with e1 e2 e3
  subst e1; subst e3
  have hl : (xs.drop k).length = n - k := by rw [List.length_drop]; omega
  refine ⟨_, _, by rw [hl], by omega, by omega, fun hne => ?_⟩
  have hlt : k < xs.length := by
    rcases Nat.lt_or_ge k xs.length with h | h
    · exact h
    · exact absurd (List.drop_eq_nil_of_le h) hne
  obtain ⟨b, o, ha, hb, hh⟩ := h3 (by intro e; rw [e] at hlt; simp at hlt)
  refine ⟨b, o + k, ?_, hb, fun i x hx => ?_⟩
  · rw [if_neg (by omega), ha]
    simp [Addr.add]
  · rw [List.getElem?_drop] at hx
    obtain ⟨u, h1, h2, h3⟩ := hh (k + i) x hx
    exact ⟨u, h1, by rw [show o + k + i * 1 = o + (k + i) * 1 by omega]; exact h2, h3⟩
theorem wpTailS {ops : Array Oper} {rest : List Oper} {o : Oper} {a : Act} {Q : Exit → Act → World → Prop} {w : World} (hg : o.guard = none) (s lo : Operand) (hop : o.op = Op.slice 22 s (some lo) none none) (k : Nat) (hlo : a.eval lo = .int .i64 (k : Int))
    (W : World) (B : Nat) (xs : List ByteArray) (v : Value) (hs : a.eval s = v) (hr : RS 1 RStr W B xs v) (hk : k ≤ xs.length)
    (hK : ∀ v', RS 1 RStr W B (xs.drop k) v' → wpList Tryz.prog ops Q rest (a.put o.dst v') w) : wpList Tryz.prog ops Q (o :: rest) a w := by
  obtain ⟨ad, c, rfl⟩ := hr.slice
  have hc : xs.length ≤ c := by
    obtain ⟨a', c', hv, h1, _⟩ := hr
    injection hv with e1 e2 e3
    omega
  have hd := rs_drop hr k hk
  have hrun : ∀ ty : Nat, (Instr.slice 22 (.slice ad xs.length c) (some (.int .i64 (k : Int))) none none).run Tryz.prog w = .ok (.slice (if c = k then ad else ad.map (·.add (k * 1))) (xs.length - k) (c - k)) w := fun _ => by
    have h1 : ((k : Int) ≤ (xs.length : Int)) := by omega
    have h2 : k ≤ xs.length := by omega
    simp [Instr.slice, run_underlying Tryz.underlying22, Instr.sliceBounds, Instr.sliceBound, asIntOf, h1, h2, show (Go.sizeOf 9).run Tryz.prog w = .ok 1 w from by simp [Go.sizeOf, typeInfo]; kernel_rfl]
  refine wpList_plain hg fun K hK' => ?_
  unfold Oper.wp
  simp [execOp, hop, hs, hlo, Instr.sliceAt, hrun 0, Result.andThen]
  exact hK' _ _ (hK _ (by simpa using hd))
theorem wpHeadS {ops : Array Oper} {rest : List Oper} {o : Oper} {a : Act} {Q : Exit → Act → World → Prop} {w : World} (hg : o.guard = none) (s hi : Operand) (hop : o.op = Op.slice 22 s none (some hi) none) (k : Nat) (hhi : a.eval hi = .int .i64 (k : Int))
    (W : World) (B : Nat) (xs : List ByteArray) (v : Value) (hs : a.eval s = v) (hr : RS 1 RStr W B xs v) (hk : k ≤ xs.length)
    (hK : ∀ v', RS 1 RStr W B (xs.take k) v' → wpList Tryz.prog ops Q rest (a.put o.dst v') w) : wpList Tryz.prog ops Q (o :: rest) a w := by
  obtain ⟨ad, c, rfl⟩ := hr.slice
  have hc : xs.length ≤ c := by
    obtain ⟨a', c', hv, h1, _⟩ := hr
    injection hv with e1 e2 e3
    omega
  have hd := rs_take hr k hk
  have hrun : (Instr.slice 22 (.slice ad xs.length c) none (some (.int .i64 (k : Int))) none).run Tryz.prog w = .ok (.slice ad k c) w := by
    have h1 : ((k : Int) ≤ (c : Int)) := by omega
    simp [Instr.slice, run_underlying Tryz.underlying22, Instr.sliceBounds, Instr.sliceBound, asIntOf, h1, show (Go.sizeOf 9).run Tryz.prog w = .ok 1 w from by simp [Go.sizeOf, typeInfo]; kernel_rfl]
    have h2 : k ≤ c := by omega
    rw [if_pos h2]
    cases ad <;> simp [Addr.add]
  refine wpList_plain hg fun K hK' => ?_
  unfold Oper.wp
  simp [execOp, hop, hs, hhi, Instr.sliceAt, hrun, Result.andThen]
  exact hK' _ _ (hK _ hd)
theorem OS_start {W : World} {B M : Nat} (hM : W.heap.size = M) (h : B ≤ M) : OS B (W.alloc (.cells #[] 9)) (.slice (some ⟨M, 0, none⟩) 0 0) [] := by
  subst hM
  exact ⟨⟨rfl, .inr ⟨W.heap.size, 0, #[], rfl, h, heap_alloc_new W _, Nat.le_refl _, Nat.zero_le _, rfl, rfl⟩⟩, fun _ h => by cases h⟩
end Go.Proofs.YtlldfaniddbjaaaGreatDoor
