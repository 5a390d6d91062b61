/- Small facts for the walks: a string's bytes, letters, endings. -/
import Derived.Test.YtdmmbhemmbgcpadProg
import Derived.Test.YtdmmbhemmbgcpadBits
import Derived.Test.YtdmmbhemmbgcpadWords
import Derived.WalkKit
import Derived.WalkSpells
import Derived.WalkLawsBesides
namespace Go.Proofs.Ytdmmbhemmbgcpad
open Go.RowKit
theorem hide {p : Prop} (h : p) : Hid p := h
theorem unhide {p : Prop} (h : Hid p) : p := h
theorem bal {w w' : World} (h : Below w.heap.size w w') (o : Obj) : Below w.heap.size w (w'.alloc o) := h.alloc h.size o
theorem btr {a b c : World} (h : Below a.heap.size a b) (k : Below b.heap.size b c) : Below a.heap.size a c := h.trans (k.mono h.size)
theorem bst {w w' : World} (h : Below w.heap.size w w') {a : Addr} (ha : w.heap.size ≤ a.block) (v : Value) : Below w.heap.size w (w'.setCell a v) := h.setCell ha v
theorem brf (w : World) : Below w.heap.size w w := Below.refl _ _
theorem bcell {W w1 : World} (hb : Below W.heap.size W w1) : (∀ b o, b < W.heap.size → w1.cell? ⟨b, o, none⟩ = W.cell? ⟨b, o, none⟩) ∧ (∀ b o, b < W.heap.size → w1.frozen? ⟨b, o, none⟩ = W.frozen? ⟨b, o, none⟩) :=
  ⟨fun b o h => hb.cell (p := ⟨b, o, none⟩) h, fun b o h => hb.frozen (p := ⟨b, o, none⟩) h⟩
theorem frozen_later {W w1 : World} {b o : Nat} {v : Value} (hb : Below W.heap.size W w1) (hc : W.cell? ⟨b, o, none⟩ = some v) (hf : W.frozen? ⟨b, o, none⟩ = false) : w1.frozen? ⟨b, o, none⟩ = false := by
  rw [hb.frozen (p := ⟨b, o, none⟩) (World.block_lt_of_cell? _ _ hc)]; exact hf
theorem bdr {w w' : World} (h : Below w.heap.size w w') : Below w.heap.size w w'.drew := h.drew
theorem keep1 {X : World} {o : Obj} {a : Addr} {v : Value} (h : X.drew.cell? a = some v) : (X.alloc o).drew.cell? a = some v := cell_later (w := X) (wx := X.alloc o) (bal (brf X) o) h
/-- A string's bytes. -/
def L (s : ByteArray) : List UInt8 := s.data.toList
/-- The string of some bytes. -/
def S (l : List UInt8) : ByteArray := ⟨l.toArray⟩
theorem L_S (l : List UInt8) : L (S l) = l := by simp [L, S]
theorem S_L (s : ByteArray) : S (L s) = s := by cases s; simp [L, S]
theorem L_inj {a b : ByteArray} (h : L a = L b) : a = b := by rw [← S_L a, ← S_L b, h]
theorem L_len (s : ByteArray) : (L s).length = s.size := by simp [L]
theorem S_size (l : List UInt8) : (S l).size = l.length := by rw [← L_len, L_S]
theorem L_get (s : ByteArray) (k : Nat) (h : k < s.size) : s[k] = (L s)[k]'(by rw [L_len]; exact h) := rfl
theorem L_take (s : ByteArray) (k : Nat) (h : k < s.size) : (L s).take (k + 1) = (L s).take k ++ [s[k]] := by
  unfold L; rw [List.take_succ_eq_append_getElem (by simpa using h)]; rfl
theorem L_drop (s : ByteArray) (k : Nat) (h : k < s.size) : (L s).drop k = s[k] :: (L s).drop (k + 1) := by
  unfold L; rw [List.drop_eq_getElem_cons (by simpa using h)]; rfl
theorem L_take_all (s : ByteArray) (k : Nat) (h : s.size ≤ k) : (L s).take k = L s := by
  rw [List.take_of_length_le (by rw [L_len]; exact h)]
theorem L_mem (s : ByteArray) (k : Nat) (h : k < s.size) : s[k] ∈ L s := by
  rw [L_get]; exact List.getElem_mem _
theorem ret_bool {a b : Bool} (h : a = b) : Ending.returned (.bool a) = .returned (.bool b) := by rw [h]
theorem ret_str {a b : ByteArray} (h : a = b) : Ending.returned (.string a) = .returned (.string b) := by rw [h]
theorem u8_eq {c : UInt8} {n : Nat} (h : (c.toNat : Int) = n) (hn : n < 256) : c = UInt8.ofNat n := by
  apply UInt8.toNat_inj.1; rw [UInt8.toNat_ofNat']; omega
theorem u8_ne {c : UInt8} (n : Nat) (hn : n < 256) (h : c ≠ UInt8.ofNat n) : ((c.toNat : Int) != n) = true := by
  rw [bne_iff_ne]; intro e; exact h (u8_eq e hn)
theorem u8_nq {c : UInt8} (n : Nat) (hn : n < 256) (h : c ≠ UInt8.ofNat n) : ((c.toNat : Int) == n) = false := by
  rw [beq_eq_false_iff_ne]; intro e; exact h (u8_eq e hn)
theorem cls (c : UInt8) : c = 48 ∨ c = 49 ∨ c = 120 ∨ c = 122 ∨ (Vb.isV c = false ∧ ((c.toNat : Int) != 48) = true ∧ ((c.toNat : Int) != 49) = true ∧ ((c.toNat : Int) != 120) = true ∧ ((c.toNat : Int) != 122) = true) := by
  by_cases h1 : c = 48
  · exact .inl h1
  by_cases h2 : c = 49
  · exact .inr (.inl h2)
  by_cases h3 : c = 120
  · exact .inr (.inr (.inl h3))
  by_cases h4 : c = 122
  · exact .inr (.inr (.inr (.inl h4)))
  exact .inr (.inr (.inr (.inr ⟨by simp [Vb.isV, h1, h2, h3, h4], u8_ne 48 (by omega) h1, u8_ne 49 (by omega) h2, u8_ne 120 (by omega) h3, u8_ne 122 (by omega) h4⟩)))
theorem okV_iff (s : ByteArray) : Vb.okV (L s) = true ↔ 1 ≤ s.size ∧ s.size ≤ 64 ∧ (L s).all Vb.isV = true := by
  simp only [Vb.okV, L_len, Bool.and_eq_true, decide_eq_true_eq]
theorem all_of {p : UInt8 → Bool} {s : ByteArray} (h : (L s).all p = true) (k : Nat) (hk : k < s.size) : p s[k] = true :=
  List.all_eq_true.1 h _ (L_mem s k hk)
theorem not_all {p : UInt8 → Bool} {s : ByteArray} (k : Nat) (hk : k < s.size) (h : p s[k] = false) : (L s).all p = false := by
  rw [← Bool.not_eq_true]; intro e; rw [all_of e k hk] at h; cases h
theorem all_step {p : UInt8 → Bool} {s : ByteArray} (k : Nat) (hk : k < s.size) (h : p s[k] = true) (ha : ((L s).take k).all p = true) : ((L s).take (k + 1)).all p = true := by
  rw [L_take s k hk, List.all_append, ha]; simp [h]
end Go.Proofs.Ytdmmbhemmbgcpad
