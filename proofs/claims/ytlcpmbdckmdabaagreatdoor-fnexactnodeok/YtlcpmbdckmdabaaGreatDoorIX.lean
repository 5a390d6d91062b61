/- What the program's vecOf answers. What the program's small vector functions answer. What the program's numberVec, truthVec, signedNumber answer. What the program's text answers: the letters of the vector, the highest bit first. The law FnExactBitsOf's walk: the program's BitsOf answers as the specification's. -/
import Derived.Test.YtlcpmbdckmdabaaGreatDoorBW
import Derived.Deep.RegionHeld3
import Derived.Test.YtlcpmbdckmdabaaGreatDoorSX
namespace Go.Proofs.YtlcpmbdckmdabaaGreatDoor
open Go.RowKit
set_option maxRecDepth 100000
/-- A vector as the walk holds it: its width and two words. -/
def V (n : Nat) (k h : BitVec 64) : Value := .agg #[.int .i64 n, .int .u64 (U k), .int .u64 (U h)]
theorem cells_eq {a b c d : Int} {n : Value} {W : World} (h1 : a = c) (h2 : b = d) : W.alloc (.cells #[n, .int .u64 a, .int .u64 b] 87) = W.alloc (.cells #[n, .int .u64 c, .int .u64 d] 87) := by rw [h1, h2]
theorem kn_step (s : ByteArray) (k : Nat) (h : k < s.size) (c : UInt8) (e : s[k] = c) : Vb.kn ((L s).take (k + 1)) = Vb.push Vb.knB (Vb.kn ((L s).take k)) c := by
  rw [L_take s k h, Vb.kn, Vb.word_snoc, e]; rfl
theorem wh_step (s : ByteArray) (k : Nat) (h : k < s.size) (c : UInt8) (e : s[k] = c) : Vb.wh ((L s).take (k + 1)) = Vb.push Vb.whB (Vb.wh ((L s).take k)) c := by
  rw [L_take s k h, Vb.wh, Vb.word_snoc, e]; rfl
theorem push_1 (p : UInt8 → Bool) (a : BitVec 64) (c : UInt8) (h : p c = true) : bits .or .u64 (IntKind.u64.wrap (U a * 2)) 1 = U (Vb.push p a c) := by
  rw [U_shl1, U_or1, Vb.push, if_pos h]
theorem push_0 (p : UInt8 → Bool) (a : BitVec 64) (c : UInt8) (h : p c = false) : IntKind.u64.wrap (U a * 2) = U (Vb.push p a c) := by
  rw [U_shl1, Vb.push, if_neg (by simp [h])]; simp
abbrev W0 (w : World) : World := w.alloc (.cells #[.int .i64 0, .int .u64 0, .int .u64 0] 87)

end Go.Proofs.YtlcpmbdckmdabaaGreatDoor
namespace Go.Proofs.YtlcpmbdckmdabaaGreatDoor
open Go.RowKit
set_option maxRecDepth 100000
attribute [local go_sem] U_and U_or U_xor U_andNot U_shl U_shr U_shl1 U_or1 U_and1 U_toNat U_nonneg U_low U_beq U_bne
set_option maxHeartbeats 400000 in
theorem iLow (c : Nat) (w : World) :
    Calls Tryz.prog 128 #[.int .u64 (c : Int)] w fun e w' => e = .returned (.int .u64 (U (Vb.ones c))) ∧ w' = w := by
  go_enter Tryz.func128, Tryz.ntmps128
  go_wp2
  go_ret
  exact ⟨rfl, rfl⟩
set_option maxHeartbeats 400000 in
theorem iMask (n : Nat) (k h : BitVec 64) (hn : n ≤ 64) (w : World) :
    Calls Tryz.prog 118 #[.agg #[.int .i64 n, .int .u64 (U (k)), .int .u64 (U (h))]] w fun e w' => e = .returned (.int .u64 (U (Vb.ones n))) ∧ w.alloc (.cells #[.int .i64 n, .int .u64 (U (k)), .int .u64 (U (h))] 87) = w' := by
  go_enter Tryz.func118, Tryz.ntmps118
  go_wp2_with (go_at_call 128; refine (iLow _ _).mono ?_; rintro e w' ⟨rfl, rfl⟩)
  go_ret
  exact ⟨rfl, rfl⟩
set_option maxHeartbeats 400000 in
theorem iCut (n : Nat) (k h : BitVec 64) (hn : n ≤ 64) (w : World) :
    Calls Tryz.prog 99 #[.agg #[.int .i64 n, .int .u64 (U (k)), .int .u64 (U (h))]] w fun e w' => e = .returned (V n (k &&& Vb.ones n) (h &&& Vb.ones n)) ∧ Below w.heap.size w w' := by
  go_enter Tryz.func99, Tryz.ntmps99
  go_wp2
  go_region_held3 (fun w' => w'.cell? ⟨w.heap.size, 0, none⟩ = some (.int .i64 n) ∧ w'.cell? ⟨w.heap.size, 1, none⟩ = some (.int .u64 (U k)) ∧ w'.cell? ⟨w.heap.size, 2, none⟩ = some (.int .u64 (U h))) (first | (go_simp; done) | (refine ⟨?_, ?_, ?_⟩ <;> (refine cell_later hb ?_; go_simp)) | go_keep) (first | (go_at_call 118; refine (iMask _ _ _ ?_ _).mono ?_; omega; rintro e w' ⟨rfl, rfl⟩))
  go_wp2
  exact bodyPost_ret (v := V n (k &&& Vb.ones n) (h &&& Vb.ones n)) (by simp [results, Tryz.results99, go_sem, V]) rfl ⟨rfl, bdr (bal (bal (bal (bal (brf _) _) _) _) _)⟩
end Go.Proofs.YtlcpmbdckmdabaaGreatDoor
namespace Go.Proofs.YtlcpmbdckmdabaaGreatDoor
open Go.RowKit
set_option maxRecDepth 100000
attribute [local go_sem] U_and U_or U_xor U_andNot U_shl U_shr U_shl1 U_or1 U_and1 U_toNat U_nonneg U_low U_beq U_bne
theorem U_all : (18446744073709551615 : Int) = U (BitVec.allOnes 64) := rfl
set_option maxHeartbeats 400000 in
theorem iNumber (n : Nat) (x : BitVec 64) (hn : n ≤ 64) (w : World) :
    Calls Tryz.prog 74 #[.int .u64 (U x), .int .i64 n] w fun e w' => e = .returned (V n (Vb.ones n) (x &&& Vb.ones n)) ∧ Below w.heap.size w w' := by
  go_enter Tryz.func74, Tryz.ntmps74
  go_wp2_with fail
  rw [U_all]
  refine (iCut n (BitVec.allOnes 64) x hn _).mono ?_
  rintro e w1 ⟨rfl, hb⟩
  obtain ⟨hc, hf⟩ := bcell hb
  rw [BitVec.allOnes_and]
  unfold V
  go_wp2
  refine bodyPost_ret (v := V n (Vb.ones n) (x &&& Vb.ones n)) (by simp [results, Tryz.results74, go_sem, V, hc]) rfl ⟨rfl, ?_⟩
  repeat first | exact brf _ | refine bdr ?_ | refine bst ?_ (by first | exact Nat.le_refl _ | (simp; done) | (simp; omega)) _ | refine btr ?_ hb | refine bal ?_ _
/-- The number with a sign that the program reads off a known vector. -/
def sgn (n : Nat) (h : BitVec 64) : Int := wrap64 (U (h <<< (64 - n))) / 2 ^ (64 - n)
theorem sgn_eq (n : Nat) (h : BitVec 64) : wrap64 (IntKind.u64.wrap (U h * 2 ^ (64 - n))) / 2 ^ (64 - n) = sgn n h := by
  have := U_shl h (64 - n)
  rw [Nat.min_eq_left (by omega)] at this
  rw [this]; rfl
theorem ret_i64 {a b : Int} (h : a = b) : Ending.returned (.int .i64 a) = .returned (.int .i64 b) := by rw [h]
end Go.Proofs.YtlcpmbdckmdabaaGreatDoor
namespace Go.Proofs.YtlcpmbdckmdabaaGreatDoor
open Go.RowKit
set_option maxRecDepth 100000
/-- The array that text fills: i letters stand, the rest is 0. -/
def row (l : List UInt8) (i : Nat) : Array Value := ((l.take i ++ List.replicate (64 - i) (0 : UInt8)).map fun (c : UInt8) => Value.int .u8 (c.toNat : Int)).toArray
theorem row_step (l : List UInt8) (i : Nat) (h : i < l.length) (h64 : i < 64) : (row l i).setIfInBounds i (.int .u8 (l[i].toNat : Int)) = row l (i + 1) := by
  unfold row
  rw [List.setIfInBounds_toArray]
  congr 1
  have e : 64 - i = (64 - (i + 1)) + 1 := by omega
  rw [e, List.replicate_succ, List.take_succ_eq_append_getElem h, List.map_append, List.set_append_right _ _ (by simp; omega)]
  have hz : i - (List.map (fun (c : UInt8) => Value.int .u8 (c.toNat : Int)) (List.take i l)).length = 0 := by simp; omega
  rw [hz]
  simp only [List.map_append, List.map_cons, List.append_assoc, List.cons_append, List.nil_append, List.set_cons_zero]
theorem and1 (k : BitVec 64) (m : Nat) : k >>> m &&& 1#64 = if k.getLsbD m then 1#64 else 0#64 := by
  apply BitVec.eq_of_getLsbD_eq
  intro i hi
  rw [BitVec.getLsbD_and, BitVec.getLsbD_ushiftRight, BitVec.getLsbD_one]
  by_cases h0 : i = 0
  · subst h0; cases k.getLsbD m <;> simp
  · cases k.getLsbD m <;> simp [h0, BitVec.getLsbD_one]
theorem idx_eq (k h : BitVec 64) (m : Nat) (hm : m < 64) : bits .or .u64 (IntKind.u64.wrap (bits .and .u64 (U k / 2 ^ m) 1 * 2)) (bits .and .u64 (U h / 2 ^ m) 1) = (if k.getLsbD m then 2 else 0) + (if h.getLsbD m then 1 else 0) := by
  have e1 := U_shr k m
  have e2 := U_shr h m
  rw [Nat.min_eq_left (by omega)] at e1 e2
  rw [e1, e2, U_and1, U_and1, U_shl1, U_or, and1, and1]
  cases k.getLsbD m <;> cases h.getLsbD m <;> rfl
theorem txt_get (n : Nat) (k h : BitVec 64) (j : Nat) (hj : j < n) : (Vb.txt n k h)[j]'(by rw [Vb.txt_len]; exact hj) = Vb.letter (k.getLsbD (n - 1 - j)) (h.getLsbD (n - 1 - j)) := by
  have := Vb.rat_txt n k h (n - 1 - j)
  rw [if_pos (by omega)] at this
  unfold Vb.rat at this
  rw [List.getElem?_reverse (by rw [Vb.txt_len]; omega), Vb.txt_len, show n - 1 - (n - 1 - j) = j by omega, List.getElem?_eq_getElem (by rw [Vb.txt_len]; exact hj)] at this
  exact Option.some.inj this
theorem row_alloc {X : World} {a b : Array Value} (h : a = b) : X.alloc (.cells a 113) = X.alloc (.cells b 113) := by rw [h]
theorem row_get (l : List UInt8) (i j : Nat) (h : j < i) (hl : j < l.length) : (row l i)[j]? = some (.int .u8 (l[j].toNat : Int)) := by
  unfold row
  rw [List.getElem?_toArray, List.getElem?_map, List.getElem?_append_left (by simp; omega), List.getElem?_take_of_lt h, List.getElem?_eq_getElem hl]; rfl
theorem text_back (n : Nat) (k h : BitVec 64) (X : World) (b : Nat) (hb : b = X.heap.size) :
    (convert 77 9 (.slice (some ⟨b, 0, none⟩) n 64)).run Tryz.prog (X.alloc (.cells (row (Vb.txt n k h) n) 113)) = .ok (.string (S (Vb.txt n k h))) (X.alloc (.cells (row (Vb.txt n k h) n) 113)) := by
  have := run_convert_bytes_back (P := Tryz.prog) (X.alloc (.cells (row (Vb.txt n k h) n) 113)) 77 9 5 ⟨b, 0, none⟩ 64 (Vb.txt n k h) (by kernel_rfl) (by kernel_rfl) (by kernel_rfl) (by
    intro j hj
    rw [Vb.txt_len] at hj
    subst hb
    rw [Addr.add_lit, World.cell?_alloc_new, Nat.zero_add]
    exact row_get _ _ _ hj (by rw [Vb.txt_len]; exact hj))
  rw [Vb.txt_len] at this
  exact this
set_option maxRecDepth 100000 in
set_option maxHeartbeats 400000 in
theorem iText (n : Nat) (k h : BitVec 64) (hn : n ≤ 64) (w : World) :
    Calls Tryz.prog 75 #[V n k h] w fun e w' => e = .returned (.string (S (Vb.txt n k h))) ∧ Below w.heap.size w w' := by
  unfold V
  go_enter Tryz.func75, Tryz.ntmps75
  go_wp2
  go_loopw [5] (fun i W => ∃ j : Nat, j ≤ n ∧ i = .int .i64 j ∧ W = ((w.alloc (.cells #[.int .i64 n, .int .u64 (U k), .int .u64 (U h)] 87)).alloc (.cells #[.int .u8 120, .int .u8 122, .int .u8 48, .int .u8 49] 112)).alloc (.cells (row (Vb.txt n k h) j) 113)) (fun i _ => n - (intOf i).toNat)
  case atStart => exact ⟨0, Nat.zero_le _, rfl, rfl⟩
  case round =>
    obtain ⟨j, hj, rfl, rfl⟩ := hrel
    by_cases hlt : j < n
    · have st := row_step (Vb.txt n k h) j (by rw [Vb.txt_len]; exact hlt) (by omega)
      rw [txt_get n k h j hlt] at st
      have hx := idx_eq k h (n - 1 - j) (by omega)
      have hsz : (row (Vb.txt n k h) j).size = 64 := by unfold row; simp [Vb.txt_len]; omega
      obtain ⟨x0, hx0⟩ : ∃ x, (row (Vb.txt n k h) j)[j]? = some x := ⟨_, Array.getElem?_eq_getElem (by omega)⟩
      generalize row (Vb.txt n k h) j = R at *
      have b1 : (j : Int) < 64 := by omega
      clear hsz
      cases hk : k.getLsbD (n - 1 - j) <;> cases hh : h.getLsbD (n - 1 - j) <;> rw [hk, hh] at st hx <;> simp only [Bool.false_eq_true, if_true, if_false] at hx <;> have ST := hide st <;> clear st hk hh <;> go_wp2
      all_goals exact ⟨⟨j + 1, by omega, by go_num, row_alloc (unhide ST)⟩, by simp [intOf]; omega⟩
    · have : j = n := by omega
      subst this
      have b2 : (j : Int) ≤ 64 := by omega
      have hcv := text_back j k h ((w.alloc (.cells #[.int .i64 j, .int .u64 (U k), .int .u64 (U h)] 87)).alloc (.cells #[.int .u8 120, .int .u8 122, .int .u8 48, .int .u8 49] 112)) (w.heap.size + 1 + 1) (by simp)
      generalize row (Vb.txt j k h) j = R at *
      go_wp2
      go_ret
      exact ⟨rfl, bal (bal (bal (brf _) _) _) _⟩
end Go.Proofs.YtlcpmbdckmdabaaGreatDoor
namespace Go.Proofs.YtlcpmbdckmdabaaGreatDoor
open Go.RowKit
set_option maxRecDepth 100000
set_option maxHeartbeats 400000 in
theorem iWidthOK (n : Int) (w : World) :
    Calls Tryz.prog 73 #[.int .i64 n] w fun e w' => e = .returned (.bool (decide (1 ≤ n ∧ n ≤ 64))) ∧ w' = w := by
  by_cases h1 : 1 ≤ n
  · by_cases h2 : n ≤ 64
    · go_enter Tryz.func73, Tryz.ntmps73
      go_wp2
      go_ret
      exact ⟨ret_bool (by simp [h1, h2]), rfl⟩
    · go_enter Tryz.func73, Tryz.ntmps73
      go_wp2
      go_ret
      exact ⟨ret_bool (by simp [h2]), rfl⟩
  · go_enter Tryz.func73, Tryz.ntmps73
    go_wp2
    go_ret
    exact ⟨ret_bool (by simp; omega), rfl⟩
set_option maxHeartbeats 400000 in
theorem iBitsOf_no (v n : Int) (w : World) (h : n < 1 ∨ 64 < n) :
    Calls Tryz.prog 59 #[.int .i64 v, .int .i64 n] w fun e w' => e = .returned (.string (S [])) ∧ w' = w := by
  have hd : decide (1 ≤ n ∧ n ≤ 64) = false := by simp; omega
  go_enter Tryz.func59, Tryz.ntmps59
  go_wp2_with fail
  refine (iWidthOK _ _).mono ?_
  rw [hd]
  rintro e w' ⟨rfl, rfl⟩
  go_wp2
  go_ret
  exact ⟨rfl, rfl⟩
set_option maxHeartbeats 400000 in
theorem iBitsOf (v : Int) (n : Nat) (w : World) (h1 : 1 ≤ n) (h2 : n ≤ 64) :
    Calls Tryz.prog 59 #[.int .i64 v, .int .i64 n] w fun e w' => e = .returned (.string (S (Vb.nTxt n (v % 18446744073709551616).toNat))) ∧ Below w.heap.size w w' := by
  have hd : decide ((1 : Int) ≤ n ∧ (n : Int) ≤ 64) = true := by simp; omega
  go_enter Tryz.func59, Tryz.ntmps59
  go_wp2_with fail
  refine (iWidthOK _ _).mono ?_
  rw [hd]
  rintro e w' ⟨rfl, rfl⟩
  go_wp2_with fail
  rw [U_wrap]
  refine (iNumber n _ h2 _).mono ?_
  rintro e w1 ⟨rfl, hb⟩
  unfold V
  go_wp2_with fail
  refine (iText n _ _ h2 _).mono ?_
  rintro e w2 ⟨rfl, hb2⟩
  rw [Vb.num_txt n _ h2, BitVec.toNat_ofInt]
  go_wp2
  go_ret
  exact ⟨rfl, btr hb hb2⟩
end Go.Proofs.YtlcpmbdckmdabaaGreatDoor
