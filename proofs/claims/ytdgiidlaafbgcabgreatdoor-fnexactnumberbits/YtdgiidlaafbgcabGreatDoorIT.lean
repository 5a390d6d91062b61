/- What the program's text answers: the letters of the vector, the highest bit first. -/
import Derived.Test.YtdgiidlaafbgcabGreatDoorI2
namespace Go.Proofs.YtdgiidlaafbgcabGreatDoor
open Go.RowKit
/-- The array that text fills: i letters stand, the rest is 0. -/
def row (l : List UInt8) (i : Nat) : Array Value := ((l.take i ++ List.replicate (64 - i) (0 : UInt8)).map fun (c : UInt8) => Value.int .u8 (c.toNat : Int)).toArray
theorem row_step (l : List UInt8) (i : Nat) (h : i < l.length) (h64 : i < 64) : (row l i).setIfInBounds i (.int .u8 (l[i].toNat : Int)) = row l (i + 1) := by
  unfold row
  rw [List.setIfInBounds_toArray]
  congr 1
  have e : 64 - i = (64 - (i + 1)) + 1 := by omega
  rw [e, List.replicate_succ, List.take_succ_eq_append_getElem h, List.map_append, List.set_append_right _ _ (by simp; omega)]
  have hz : i - (List.map (fun (c : UInt8) => Value.int .u8 (c.toNat : Int)) (List.take i l)).length = 0 := by simp; omega
  rw [hz]
  simp only [List.map_append, List.map_cons, List.append_assoc, List.cons_append, List.nil_append, List.set_cons_zero]
theorem and1 (k : BitVec 64) (m : Nat) : k >>> m &&& 1#64 = if k.getLsbD m then 1#64 else 0#64 := by
  apply BitVec.eq_of_getLsbD_eq
  intro i hi
  rw [BitVec.getLsbD_and, BitVec.getLsbD_ushiftRight, BitVec.getLsbD_one]
  by_cases h0 : i = 0
  · subst h0; cases k.getLsbD m <;> simp
  · cases k.getLsbD m <;> simp [h0, BitVec.getLsbD_one]
theorem idx_eq (k h : BitVec 64) (m : Nat) (hm : m < 64) : bits .or .u64 (IntKind.u64.wrap (bits .and .u64 (U k / 2 ^ m) 1 * 2)) (bits .and .u64 (U h / 2 ^ m) 1) = (if k.getLsbD m then 2 else 0) + (if h.getLsbD m then 1 else 0) := by
  have e1 := U_shr k m
  have e2 := U_shr h m
  rw [Nat.min_eq_left (by omega)] at e1 e2
  rw [e1, e2, U_and1, U_and1, U_shl1, U_or, and1, and1]
  cases k.getLsbD m <;> cases h.getLsbD m <;> rfl
theorem txt_get (n : Nat) (k h : BitVec 64) (j : Nat) (hj : j < n) : (Vb.txt n k h)[j]'(by rw [Vb.txt_len]; exact hj) = Vb.letter (k.getLsbD (n - 1 - j)) (h.getLsbD (n - 1 - j)) := by
  have := Vb.rat_txt n k h (n - 1 - j)
  rw [if_pos (by omega)] at this
  unfold Vb.rat at this
  rw [List.getElem?_reverse (by rw [Vb.txt_len]; omega), Vb.txt_len, show n - 1 - (n - 1 - j) = j by omega, List.getElem?_eq_getElem (by rw [Vb.txt_len]; exact hj)] at this
  exact Option.some.inj this
theorem row_alloc {X : World} {a b : Array Value} (h : a = b) : X.alloc (.cells a 82) = X.alloc (.cells b 82) := by rw [h]
theorem row_get (l : List UInt8) (i j : Nat) (h : j < i) (hl : j < l.length) : (row l i)[j]? = some (.int .u8 (l[j].toNat : Int)) := by
  unfold row
  rw [List.getElem?_toArray, List.getElem?_map, List.getElem?_append_left (by simp; omega), List.getElem?_take_of_lt h, List.getElem?_eq_getElem hl]; rfl
theorem text_back (n : Nat) (k h : BitVec 64) (X : World) (b : Nat) (hb : b = X.heap.size) :
    (convert 34 9 (.slice (some ⟨b, 0, none⟩) n 64)).run Tryz.prog (X.alloc (.cells (row (Vb.txt n k h) n) 82)) = .ok (.string (S (Vb.txt n k h))) (X.alloc (.cells (row (Vb.txt n k h) n) 82)) := by
  have := run_convert_bytes_back (P := Tryz.prog) (X.alloc (.cells (row (Vb.txt n k h) n) 82)) 34 9 5 ⟨b, 0, none⟩ 64 (Vb.txt n k h) (by kernel_rfl) (by kernel_rfl) (by kernel_rfl) (by
    intro j hj
    rw [Vb.txt_len] at hj
    subst hb
    rw [Addr.add_lit, World.cell?_alloc_new, Nat.zero_add]
    exact row_get _ _ _ hj (by rw [Vb.txt_len]; exact hj))
  rw [Vb.txt_len] at this
  exact this
set_option maxRecDepth 100000 in
set_option maxHeartbeats 400000 in
theorem iText (n : Nat) (k h : BitVec 64) (hn : n ≤ 64) (w : World) :
    Calls Tryz.prog 38 #[V n k h] w fun e w' => e = .returned (.string (S (Vb.txt n k h))) ∧ Below w.heap.size w w' := by
  unfold V
  go_enter Tryz.func38, Tryz.ntmps38
  go_wp2
  go_loopw [5] (fun i W => ∃ j : Nat, j ≤ n ∧ i = .int .i64 j ∧ W = ((w.alloc (.cells #[.int .i64 n, .int .u64 (U k), .int .u64 (U h)] 57)).alloc (.cells #[.int .u8 120, .int .u8 122, .int .u8 48, .int .u8 49] 81)).alloc (.cells (row (Vb.txt n k h) j) 82)) (fun i _ => n - (intOf i).toNat)
  case atStart => exact ⟨0, Nat.zero_le _, rfl, rfl⟩
  case round =>
    obtain ⟨j, hj, rfl, rfl⟩ := hrel
    by_cases hlt : j < n
    · have st := row_step (Vb.txt n k h) j (by rw [Vb.txt_len]; exact hlt) (by omega)
      rw [txt_get n k h j hlt] at st
      have hx := idx_eq k h (n - 1 - j) (by omega)
      have hsz : (row (Vb.txt n k h) j).size = 64 := by unfold row; simp [Vb.txt_len]; omega
      obtain ⟨x0, hx0⟩ : ∃ x, (row (Vb.txt n k h) j)[j]? = some x := ⟨_, Array.getElem?_eq_getElem (by omega)⟩
      generalize row (Vb.txt n k h) j = R at *
      have b1 : (j : Int) < 64 := by omega
      clear hsz
      cases hk : k.getLsbD (n - 1 - j) <;> cases hh : h.getLsbD (n - 1 - j) <;> rw [hk, hh] at st hx <;> simp only [Bool.false_eq_true, if_true, if_false] at hx <;> have ST := hide st <;> clear st hk hh <;> go_wp2
      all_goals exact ⟨⟨j + 1, by omega, by go_num, row_alloc (unhide ST)⟩, by simp [intOf]; omega⟩
    · have : j = n := by omega
      subst this
      have b2 : (j : Int) ≤ 64 := by omega
      have hcv := text_back j k h ((w.alloc (.cells #[.int .i64 j, .int .u64 (U k), .int .u64 (U h)] 57)).alloc (.cells #[.int .u8 120, .int .u8 122, .int .u8 48, .int .u8 49] 81)) (w.heap.size + 1 + 1) (by simp)
      generalize row (Vb.txt j k h) j = R at *
      go_wp2
      go_ret
      exact ⟨rfl, bal (bal (bal (brf _) _) _) _⟩
end Go.Proofs.YtdgiidlaafbgcabGreatDoor
