/- Texts in order: the order of bytes, merging, and lists that rise. -/
import Derived.Test.YtdmmbhemmbgcpadBase
namespace Go.Proofs.Ytdmmbhemmbgcpad
open Go Go.RowKit
set_option linter.unusedVariables false
theorem bl_irrefl : ∀ x : List UInt8, Op.bytesLess x x = false
  | [] => rfl
  | a :: x => by simp [Op.bytesLess, bl_irrefl x]
theorem bl_trans : ∀ x y z : List UInt8, Op.bytesLess x y = true → Op.bytesLess y z = true → Op.bytesLess x z = true
  | _, [], _, h, _ => by simp [Op.bytesLess] at h
  | _, _ :: _, [], _, h => by simp [Op.bytesLess] at h
  | [], _ :: _, _ :: _, _, _ => rfl
  | a :: x, b :: y, c :: z, h, k => by
    simp only [Op.bytesLess, Bool.or_eq_true, decide_eq_true_eq, Bool.and_eq_true, beq_iff_eq] at h k ⊢
    rcases h with h | ⟨rfl, h⟩
    · rcases k with k | ⟨rfl, k⟩
      · exact .inl (UInt8.lt_trans h k)
      · exact .inl h
    · rcases k with k | ⟨rfl, k⟩
      · exact .inl k
      · exact .inr ⟨rfl, bl_trans x y z h k⟩
theorem bl_total : ∀ x y : List UInt8, Op.bytesLess x y = true ∨ x = y ∨ Op.bytesLess y x = true
  | [], [] => .inr (.inl rfl)
  | [], _ :: _ => .inl rfl
  | _ :: _, [] => .inr (.inr rfl)
  | a :: x, b :: y => by
    simp only [Op.bytesLess, Bool.or_eq_true, decide_eq_true_eq, Bool.and_eq_true, beq_iff_eq, List.cons.injEq]
    rcases Nat.lt_trichotomy a.toNat b.toNat with h | h | h
    · exact .inl (.inl (UInt8.lt_iff_toNat_lt.2 h))
    · have e : a = b := UInt8.toNat_inj.1 h
      subst e
      rcases bl_total x y with h | h | h
      · exact .inl (.inr ⟨rfl, h⟩)
      · exact .inr (.inl ⟨rfl, h⟩)
      · exact .inr (.inr (.inr ⟨rfl, h⟩))
    · exact .inr (.inr (.inl (UInt8.lt_iff_toNat_lt.2 h)))
/-- One text is not behind another. -/
def leS (a b : ByteArray) : Bool := Op.bytesLess a.toList b.toList || a.toList == b.toList
theorem toL_inj {a b : ByteArray} (h : a.toList = b.toList) : a = b := by
  have e : ∀ s : ByteArray, s.toList = L s := fun s => by unfold L; exact ByteArray.toList_eq s
  rw [e, e] at h
  exact L_inj h
theorem leS_iff (a b : ByteArray) : leS a b = true ↔ Op.bytesLess a.toList b.toList = true ∨ a = b := by
  unfold leS
  rw [Bool.or_eq_true, beq_iff_eq]
  exact ⟨fun h => h.imp id toL_inj, fun h => h.imp id (fun e => by rw [e])⟩
theorem leS_trans (a b c : ByteArray) (h : leS a b = true) (k : leS b c = true) : leS a c = true := by
  rw [leS_iff] at *
  rcases h with h | rfl
  · rcases k with k | rfl
    · exact .inl (bl_trans _ _ _ h k)
    · exact .inl h
  · exact k
theorem leS_total (a b : ByteArray) : (leS a b || leS b a) = true := by
  rw [Bool.or_eq_true, leS_iff, leS_iff]
  rcases bl_total a.toList b.toList with h | h | h
  · exact .inl (.inl h)
  · exact .inl (.inr (toL_inj h))
  · exact .inr (.inl h)
theorem leS_anti (a b : ByteArray) (h : leS a b = true) (k : leS b a = true) : a = b := by
  rw [leS_iff] at *
  rcases h with h | rfl
  · rcases k with k | rfl
    · have := bl_trans _ _ _ h k
      rw [bl_irrefl] at this
      cases this
    · rfl
  · rfl
/-- A list that rises. -/
abbrev Up (xs : List ByteArray) : Prop := xs.Pairwise (fun a b => leS a b = true)
theorem up_merge (xs ys : List ByteArray) (h : Up xs) (k : Up ys) : Up (xs.merge ys leS) := List.pairwise_merge leS_trans leS_total xs ys h k
theorem perm_merge (xs ys : List ByteArray) : (xs.merge ys leS).Perm (xs ++ ys) := List.merge_perm_append leS
/-- No two neighbours alike. -/
def apart : List ByteArray → Bool
  | x :: y :: r => decide (x ≠ y) && apart (y :: r)
  | _ => true
theorem apart_nodup : ∀ xs : List ByteArray, Up xs → (apart xs = true ↔ xs.Nodup)
  | [], _ => by simp [apart]
  | [x], _ => by simp [apart]
  | x :: y :: r, h => by
    have h1 := List.pairwise_cons.1 h
    have h2 := List.pairwise_cons.1 h1.2
    rw [apart, Bool.and_eq_true, decide_eq_true_eq, apart_nodup (y :: r) h1.2, List.nodup_cons (a := x)]
    refine ⟨fun ⟨hn, hr⟩ => ⟨fun hm => ?_, hr⟩, fun ⟨hn, hr⟩ => ⟨fun e => hn (by rw [e]; exact List.mem_cons_self), hr⟩⟩
    rcases List.mem_cons.1 hm with e | hm
    · exact hn e
    · exact hn (leS_anti x y (h1.1 y List.mem_cons_self) (h2.1 x hm))
theorem apart_snoc (x y : ByteArray) : ∀ xs : List ByteArray, apart (xs ++ [x, y]) = (apart (xs ++ [x]) && decide (x ≠ y))
  | [] => by simp [apart]
  | [z] => by simp [apart]
  | z :: t :: r => by
    show apart (z :: t :: (r ++ [x, y])) = (apart (z :: t :: (r ++ [x])) && _)
    rw [apart, apart, show t :: (r ++ [x, y]) = (t :: r) ++ [x, y] from rfl, apart_snoc x y (t :: r), Bool.and_assoc]
    rfl
theorem apart_take (xs : List ByteArray) (k : Nat) (x y : ByteArray) (h : xs[k]? = some x) (h2 : xs[k + 1]? = some y) : apart (xs.take (k + 2)) = (apart (xs.take (k + 1)) && decide (x ≠ y)) := by
  rw [List.take_add_one, h2, List.take_add_one, h]
  simp only [Option.toList_some, List.append_assoc]
  exact apart_snoc x y _
theorem apart_app : ∀ (xs ys : List ByteArray), apart xs = false → apart (xs ++ ys) = false
  | [], ys, h => by simp [apart] at h
  | [x], ys, h => by simp [apart] at h
  | x :: y :: r, ys, h => by
    rw [apart] at h
    show apart (x :: y :: (r ++ ys)) = false
    rw [apart]
    cases hd : decide (x ≠ y)
    · rfl
    · rw [hd, Bool.true_and] at h
      have := apart_app (y :: r) ys h
      rw [Bool.true_and]
      exact this
theorem apart_mono (xs : List ByteArray) (k : Nat) (h : apart (xs.take k) = false) : apart xs = false := by
  have := apart_app (xs.take k) (xs.drop k) h
  rwa [List.take_append_drop] at this
end Go.Proofs.Ytdmmbhemmbgcpad
