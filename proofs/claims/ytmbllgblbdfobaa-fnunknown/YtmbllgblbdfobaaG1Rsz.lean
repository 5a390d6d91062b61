/- Plain facts: the resized vector's words tell the resized text. -/
/- What the specification's Part answers. -/
/- A slice of bytes of the call's own, to which letters are appended; and the string of it. -/
/- What the specification's one-bit functions, l01NotAll, l01Truth and l01Fill answer. -/
/- What the specification's l01Truth, l01Fill and Choose answer. -/
/- What the specification's Choose answers. -/
import Derived.Test.YtmbllgblbdfobaaG0Bits
import Derived.Deep.RegionWith
import Derived.Deep.QuietTactic
import Derived.BigQuiet
namespace Go.Proofs.Ytmbllgblbdfobaa
open Vb
theorem rat_append (a b : List UInt8) (i : Nat) : rat (a ++ b) i = if i < b.length then rat b i else rat a (i - b.length) := by
  unfold rat
  rw [List.reverse_append, List.getElem?_append]
  simp
theorem rat_replicate (n i : Nat) (c : UInt8) : rat (List.replicate n c) i = if i < n then some c else none := by
  unfold rat; rw [List.reverse_replicate, List.getElem?_replicate]
theorem rat_drop (l : List UInt8) (d i : Nat) : rat (l.drop d) i = if i < l.length - d then rat l i else none := by
  unfold rat
  rw [List.reverse_drop, List.getElem?_take]
theorem rat_take (l : List UInt8) (d i : Nat) : rat (l.take d) i = rat l (i + (l.length - d)) := by
  unfold rat
  rw [List.reverse_take, List.getElem?_drop, Nat.add_comm]
theorem rat_rsz (n : Nat) (b : Bool) (l : List UInt8) (i : Nat) : rat (rszL n b l) i = if i < n then (if i < l.length then rat l i else some (if b then l.headD 0 else 48)) else none := by
  unfold rszL
  rw [rat_drop, rat_append, rat_replicate, List.length_append, List.length_replicate]
  by_cases h : i < n
  · by_cases h2 : i < l.length
    · simp [h, h2]; omega
    · have h3 : i < n - l.length + l.length - (l.length - n) := by omega
      have h4 : i - l.length < n - l.length := by omega
      simp [h, h2, h3, h4]
  · have h3 : ¬ i < n - l.length + l.length - (l.length - n) := by omega
    simp [h, h3]
/-- Bit i of a text's words, where the text has it. -/
theorem letter_rat {l : List UInt8} (hv : l.all isV = true) {i : Nat} (hi : i < l.length) (h64 : i < 64) : some (letter ((kn l).getLsbD i) ((wh l).getLsbD i)) = rat l i := by
  obtain ⟨c, hc, hm⟩ := rat_some hi
  rw [kn, wh, getLsbD_word, getLsbD_word, hc]
  simp only [h64, decide_true, Bool.true_and, Option.map_some, Option.getD_some]
  rw [letter_of c (List.all_eq_true.1 hv c hm)]
theorem rat_head {l : List UInt8} (h : 1 ≤ l.length) : rat l (l.length - 1) = some (l.headD 0) := by
  unfold rat
  rw [List.getElem?_reverse (by omega), show l.length - 1 - (l.length - 1) = 0 by omega]
  cases l with
  | nil => simp at h
  | cons c t => rfl
theorem getLsbD_shr1 (k : BitVec 64) (m : Nat) : (k >>> m &&& ones 1).getLsbD 0 = k.getLsbD m := by
  rw [BitVec.getLsbD_and, BitVec.getLsbD_ushiftRight, getLsbD_ones]; simp
theorem high_bits (a b i : Nat) (hi : i < 64) : (ones a &&& ~~~ones b).getLsbD i = (decide (i < a) && !decide (i < b)) := by
  rw [BitVec.getLsbD_and, BitVec.getLsbD_not, getLsbD_ones, getLsbD_ones]; simp [hi]
theorem rsz_bit (k : BitVec 64) (m n i : Nat) (hi : i < m) (h64 : i < 64) : (k &&& ones m &&& ~~~(ones m &&& ~~~ones n)).getLsbD i = (k.getLsbD i && decide (i < n)) := by
  rw [BitVec.getLsbD_and, BitVec.getLsbD_and, BitVec.getLsbD_not, high_bits m n i h64, getLsbD_ones]
  simp only [h64, hi, decide_true, Bool.true_and, Bool.and_true, Bool.not_not]
theorem rsz_no {l : List UInt8} {m : Nat} (hv : l.all isV = true) (hm : m ≤ 64) :
    txt m (kn l &&& ones m &&& ~~~(ones m &&& ~~~ones l.length) ||| (ones m &&& ~~~ones l.length)) (wh l &&& ones m &&& ~~~(ones m &&& ~~~ones l.length)) = rszL m false l := by
  apply rat_ext
  intro i
  rw [rat_txt, rat_rsz]
  by_cases hi : i < m
  · have h64 : i < 64 := by omega
    rw [if_pos hi, if_pos hi]
    rw [BitVec.getLsbD_or, rsz_bit _ _ _ _ hi h64, rsz_bit _ _ _ _ hi h64, high_bits _ _ _ h64]
    by_cases hl : i < l.length
    · rw [if_pos hl, ← letter_rat hv hl h64]
      simp only [hi, hl, decide_true, Bool.and_true, Bool.not_true, Bool.and_false, Bool.or_false]
    · rw [if_neg hl]
      simp only [hi, hl, decide_true, decide_false, Bool.and_false, Bool.not_false, Bool.and_true, Bool.or_true, letter, Bool.false_eq_true, if_true, if_false]
  · rw [if_neg hi, if_neg hi]
theorem rsz_yes {l : List UInt8} {m : Nat} (hv : l.all isV = true) (h1 : 1 ≤ l.length) (h2 : l.length ≤ 64) (hm : m ≤ 64) :
    txt m (kn l &&& ones m &&& ~~~(ones m &&& ~~~ones l.length) ||| (if (kn l >>> (l.length - 1) &&& ones 1).getLsbD 0 then (ones m &&& ~~~ones l.length) else 0#64)) (wh l &&& ones m &&& ~~~(ones m &&& ~~~ones l.length) ||| (if (wh l >>> (l.length - 1) &&& ones 1).getLsbD 0 then (ones m &&& ~~~ones l.length) else 0#64)) = rszL m true l := by
  apply rat_ext
  intro i
  rw [rat_txt, rat_rsz, getLsbD_shr1, getLsbD_shr1]
  have hh := letter_rat hv (show l.length - 1 < l.length by omega) (by omega)
  rw [rat_head h1] at hh
  generalize hK : (kn l).getLsbD (l.length - 1) = A at *
  generalize hH : (wh l).getLsbD (l.length - 1) = B at *
  by_cases hi : i < m
  · have h64 : i < 64 := by omega
    rw [if_pos hi, if_pos hi]
    rw [BitVec.getLsbD_or, BitVec.getLsbD_or, rsz_bit _ _ _ _ hi h64, rsz_bit _ _ _ _ hi h64]
    have e : ∀ c : Bool, (if c then (ones m &&& ~~~ones l.length) else 0#64).getLsbD i = (c && !decide (i < l.length)) := by
      intro c
      cases c
      · simp
      · rw [if_pos rfl, high_bits _ _ _ h64]; simp [hi]
    rw [e, e]
    by_cases hl : i < l.length
    · rw [if_pos hl, ← letter_rat hv hl h64]
      simp only [hl, decide_true, Bool.and_true, Bool.not_true, Bool.and_false, Bool.or_false]
    · rw [if_neg hl, if_pos rfl, ← hh]
      simp only [hl, decide_false, Bool.and_false, Bool.not_false, Bool.and_true, Bool.false_or]
  · rw [if_neg hi, if_neg hi]
end Go.Proofs.Ytmbllgblbdfobaa
namespace Go.Proofs.Ytmbllgblbdfobaa
open Go.RowKit
/-- The letter at place i from the right, x where there is none. -/
def atI (l : List UInt8) (i : Int) : UInt8 := if 0 ≤ i then (Vb.rat l i.toNat).getD 120 else 120
/-- j letters from place lo on. -/
def partL (l : List UInt8) (lo : Int) : Nat → List UInt8
  | 0 => []
  | j + 1 => atI l (lo + j) :: partL l lo j
theorem partL_len (l : List UInt8) (lo : Int) (j : Nat) : (partL l lo j).length = j := by
  induction j with
  | zero => rfl
  | succ j ih => simp [partL, ih]
theorem atI_in (s : ByteArray) (i : Nat) (h : i < s.size) : S [atI (L s) i] = s.extract (s.size - 1 - i) (s.size - i) := by
  apply L_inj
  rw [L_extract, L_S]
  unfold atI Vb.rat
  rw [if_pos (by omega), Int.toNat_natCast, List.getElem?_reverse (by rw [L_len]; exact h), L_len, show s.size - i - (s.size - 1 - i) = 1 by omega]
  have h' : s.size - 1 - i < (L s).length := by rw [L_len]; omega
  rw [List.getElem?_eq_getElem h', List.drop_eq_getElem_cons h']
  rfl
theorem S_app (c : UInt8) (l : List UInt8) : S [c] ++ S l = S (c :: l) := S_cons c l
set_option maxHeartbeats 400000 in
theorem sPart (s : ByteArray) (hi lo : Int) (w : World) (hs : s.size ≤ maxLen) (hv : Vb.okV (L s) = true) (hn1 : lo ≤ hi) (b1 : -9223372036854775808 ≤ lo) (b2 : hi ≤ 9223372036854775807) :
    Calls Try.prog 39 #[.string s, .int .i64 hi, .int .i64 lo] w fun e w' => e = .returned (.string (S (if hi - lo < 64 then partL (L s) lo ((hi - lo).toNat + 1) else []))) ∧ w' = w := by
  obtain ⟨h1, h2, h3⟩ := (okV_iff s).1 hv
  have c1 : decide (hi < lo) = false := by simp; omega
  generalize hR : S (if hi - lo < 64 then partL (L s) lo ((hi - lo).toNat + 1) else []) = R
  have HR := hide hR
  clear hR
  go_enter Try.func39, Try.ntmps39
  have HV := hide hv
  clear hv h3
  go_wp2_with (first | (go_at_call 35; refine (sBitsOK s _ hs).mono ?_; rw [unhide HV]; rintro e w' ⟨rfl, rfl⟩))
  go_loop [7, 8] (fun o i => ∃ j : Nat, j ≤ 64 ∧ lo + j ≤ hi ∧ i = .int .i64 (lo + j) ∧ o = .string (S (partL (L s) lo j))) (fun _ i => 65 - (intOf i - lo).toNat)
  case atStart => exact ⟨0, by omega, by omega, by simp, rfl⟩
  case round =>
    obtain ⟨j, hj, hle, rfl, rfl⟩ := hrel
    have hz : (S (partL (L s) lo j)).size = j := by rw [S_size, partL_len]
    by_cases e64 : j = 64
    · subst e64
      have hr : S [] = R := by rw [← unhide HR, if_neg (by omega)]
      have HQ := hide hr
      clear hr
      generalize S (partL (L s) lo 64) = T at *
      go_wp2
      go_ret
      exact ⟨ret_str (unhide HQ), rfl⟩
    · have n64 : ((j : Int) == 64) = false := by simp; omega
      have st : S (partL (L s) lo (j + 1)) = S [atI (L s) (lo + j)] ++ S (partL (L s) lo j) := (S_app _ _).symm
      have hz2 : (S (partL (L s) lo (j + 1))).size = j + 1 := by rw [S_size, partL_len]
      have hx : S [atI (L s) (lo + j)] = if 0 ≤ lo + j ∧ lo + j < s.size then s.extract (s.size - 1 - (lo + j).toNat) (s.size - (lo + j).toNat) else ⟨#[120]⟩ := by
        by_cases hin : 0 ≤ lo + j ∧ lo + j < s.size
        · rw [if_pos hin]
          obtain ⟨m, hm⟩ := Int.eq_ofNat_of_zero_le hin.1
          rw [hm, Int.toNat_natCast]
          exact atI_in s m (by omega)
        · rw [if_neg hin]
          unfold atI
          by_cases h0 : 0 ≤ lo + j
          · rw [if_pos h0, Vb.rat_none (by rw [L_len]; omega)]; rfl
          · rw [if_neg h0]; rfl
      have hr : lo + j = hi → S (partL (L s) lo (j + 1)) = R := by
        intro e
        rw [← unhide HR, if_pos (by omega), show (hi - lo).toNat = j by omega]
      have HQ := hide hr
      have ST := hide st
      clear hr st
      have hI2 : (lo + j - lo).toNat = j := by omega
      have hI3 : (lo + j + 1 - lo).toNat = j + 1 := by omega
      generalize hT : S (partL (L s) lo j) = T at *
      generalize hA : S [atI (L s) (lo + j)] = A at *
      generalize hI : lo + (j : Int) = I at *
      have HI := hide hI
      have HA := hide hA
      have HT := hide hT
      clear hI hA hT hz2
      by_cases hin : 0 ≤ I ∧ I < s.size
      · rw [if_pos hin] at hx
        obtain ⟨g1, g2⟩ := hin
        obtain ⟨m, rfl⟩ := Int.eq_ofNat_of_zero_le g1
        rw [Int.toNat_natCast] at hx
        have HX := hide hx
        clear hx
        by_cases hlast : (m : Int) = hi
        · subst hlast
          go_wp2
          go_ret
          exact ⟨ret_str (by rw [← unhide HX, ← unhide ST]; exact unhide HQ (by first | rfl | trivial)), rfl⟩
        · have hne : ((m : Int) == hi) = false := by simpa using hlast
          go_wp2
          exact ⟨⟨j + 1, by omega, by have := unhide HI; omega, congrArg (Value.int .i64) (by have := unhide HI; omega), congrArg Value.string (by rw [unhide ST, unhide HX])⟩, by simp only [intOf]; omega⟩
      · rw [if_neg hin] at hx
        have HX := hide hx
        clear hx
        have hd : (decide (0 ≤ I) && decide (I < (s.size : Int))) = false := by simp; omega
        by_cases hlast : I = hi
        · subst hlast
          go_wp2
          all_goals
            go_ret
            exact ⟨ret_str (by rw [← unhide HX, ← unhide ST]; exact unhide HQ (by first | rfl | trivial)), rfl⟩
        · have hne : (I == hi) = false := by simpa using hlast
          go_wp2
          all_goals exact ⟨⟨j + 1, by omega, by have := unhide HI; omega, congrArg (Value.int .i64) (by have := unhide HI; omega), congrArg Value.string (by rw [unhide ST, unhide HX])⟩, by simp only [intOf]; omega⟩
set_option maxHeartbeats 400000 in
theorem sPart_no (s : ByteArray) (hi lo : Int) (w : World) (hs : s.size ≤ maxLen) (h : (Vb.okV (L s) && decide (lo ≤ hi)) = false) :
    Calls Try.prog 39 #[.string s, .int .i64 hi, .int .i64 lo] w fun e w' => e = .returned (.string (S [])) ∧ w' = w := by
  cases hv : Vb.okV (L s)
  · have HV := hide hv
    clear hv h
    go_enter Try.func39, Try.ntmps39
    go_wp2_with (first | (go_at_call 35; refine (sBitsOK s _ hs).mono ?_; rw [unhide HV]; rintro e w' ⟨rfl, rfl⟩))
    go_ret
    exact ⟨rfl, rfl⟩
  · rw [hv, Bool.true_and] at h
    have HV := hide hv
    clear hv
    have h' : hi < lo := by simpa using h
    clear h
    go_enter Try.func39, Try.ntmps39
    go_wp2_with (first | (go_at_call 35; refine (sBitsOK s _ hs).mono ?_; rw [unhide HV]; rintro e w' ⟨rfl, rfl⟩))
    go_ret
    exact ⟨rfl, rfl⟩
end Go.Proofs.Ytmbllgblbdfobaa
namespace Go.Proofs.Ytmbllgblbdfobaa
open Go.RowKit
/-- A letter as a value. -/
def bv (c : UInt8) : Value := .int .u8 (c.toNat : Int)
theorem info5 : (Try.prog.info? 5).map (fun i => (i.zero, i.size, i.bytes)) = some (some (.int .u8 0), 1, 1) := by kernel_rfl
/-- The slice v, from block B on, holds the letters l. -/
def OB (B : Nat) (v : Value) (l : List UInt8) (W : World) : Prop := W.ownsRow B 5 1 v l.length (l.map bv)
theorem OB_start {w : World} {B : Nat} (h : B ≤ w.heap.size) : OB B (.slice (some ⟨w.heap.size, 0, none⟩) 0 0) [] (w.alloc (.cells #[] 5)) := World.ownsRow_made w #[] 0 h (by decide) rfl
theorem OB_step {B : Nat} {v : Value} {l : List UInt8} {c : UInt8} {W : World} (h : W.ownsRow B 5 1 v (l.length + 1) (l.map bv ++ [bv c])) : OB B v (l ++ [c]) W := by
  unfold OB; rw [List.length_append, List.map_append]; exact h
/-- Behind an append nothing below B has turned. -/
theorem OB_below {B : Nat} {v : Value} {l : List UInt8} {w W w1 : World} {o : Obj} (hb : Below B w W) (hB : B ≤ W.heap.size) (ho : OB B v l W) (hg : (W.alloc o).grownBy w1 v.ownBlock) : Below B w w1 :=
  (hb.alloc hB o).grown hg (by simp; omega) (fun k hk => (ho.lt k hk).1)
theorem OB_belowN {B n : Nat} {v : Value} {l : List UInt8} {w W w1 : World} {o : Obj} (hb : Below B w W) (hB : B ≤ W.heap.size) (ho : OB B v l W) (hg : ((W.drewN n).alloc o).grownBy w1 v.ownBlock) : Below B w w1 :=
  OB_below (W := W.drewN n) (below_drewN hb n) hB ho hg
theorem OB_string {B : Nat} {v : Value} {l : List UInt8} {W : World} (h : OB B v l W) : (convert 22 9 v).run Try.prog W = .ok (.string (S l)) W := by
  rcases h.2 with ⟨rfl, hn⟩ | ⟨g, cap, cur, rfl, _⟩
  · have hl : l = [] := List.eq_nil_of_length_eq_zero hn
    subst hl
    exact run_convert_bytes_nil W 22 5 (by kernel_rfl) (by kernel_rfl) 0 0 9 (by kernel_rfl)
  · refine run_convert_bytes_back (P := Try.prog) W 22 9 5 ⟨g, 0, none⟩ cap l (by kernel_rfl) (by kernel_rfl) (by kernel_rfl) ?_
    intro j hj
    rw [Addr.add_lit, Nat.zero_add, World.ownsRow.cellAt h j (by omega), List.getElem?_map, List.getElem?_eq_getElem hj]
    rfl
end Go.Proofs.Ytmbllgblbdfobaa
namespace Go.Proofs.Ytmbllgblbdfobaa
open Go.RowKit
def notB (c : UInt8) : UInt8 := if c = 48 then 49 else if c = 49 then 48 else 120
def andB (a b : UInt8) : UInt8 := if a = 48 ∨ b = 48 then 48 else if a = 49 ∧ b = 49 then 49 else 120
def orB (a b : UInt8) : UInt8 := notB (andB (notB a) (notB b))
def xorB (a b : UInt8) : UInt8 := orB (andB a (notB b)) (andB (notB a) b)
/-- The truth of a vector: 1 if there is a 1, 0 if all is 0, else x. -/
def truthL (l : List UInt8) : UInt8 := if l.any Vb.oneB then 49 else if l.all (fun c => c == 48) then 48 else 120
theorem is8 (c : UInt8) (n : Nat) (hn : n < 256) : (c = UInt8.ofNat n ∧ (c.toNat : Int) = n) ∨ (¬ c = UInt8.ofNat n ∧ ((c.toNat : Int) == n) = false ∧ ((c.toNat : Int) != n) = true) := by
  by_cases h : c = UInt8.ofNat n
  · exact .inl ⟨h, by rw [h, UInt8.toNat_ofNat']; omega⟩
  · exact .inr ⟨h, u8_nq n hn h, u8_ne n hn h⟩
set_option maxHeartbeats 400000 in
theorem sNot (c : UInt8) (w : World) :
    Calls Try.prog 65 #[.int .u8 (c.toNat : Int)] w fun e w' => e = .returned (.int .u8 ((notB c).toNat : Int)) ∧ w' = w := by
  by_cases h0 : c = 48
  · subst h0
    go_enter Try.func65, Try.ntmps65
    go_wp2
    go_ret
    exact ⟨rfl, rfl⟩
  · by_cases h1 : c = 49
    · subst h1
      go_enter Try.func65, Try.ntmps65
      go_wp2
      go_ret
      exact ⟨rfl, rfl⟩
    · have n1 : ((c.toNat : Int) == 48) = false := u8_nq 48 (by omega) h0
      have n2 : ((c.toNat : Int) == 49) = false := u8_nq 49 (by omega) h1
      rw [show notB c = 120 by unfold notB; rw [if_neg h0, if_neg h1]]
      clear h0 h1
      go_enter Try.func65, Try.ntmps65
      go_wp2
      go_ret
      exact ⟨rfl, rfl⟩
set_option maxHeartbeats 400000 in
theorem sAnd (a b : UInt8) (w : World) :
    Calls Try.prog 61 #[.int .u8 (a.toNat : Int), .int .u8 (b.toNat : Int)] w fun e w' => e = .returned (.int .u8 ((andB a b).toNat : Int)) ∧ w' = w := by
  by_cases h0 : a = 48
  · subst h0
    rw [show andB 48 b = 48 by unfold andB; rw [if_pos (.inl rfl)]]
    go_enter Try.func61, Try.ntmps61
    go_wp2
    go_ret
    exact ⟨rfl, rfl⟩
  · have n1 : ((a.toNat : Int) == 48) = false := u8_nq 48 (by omega) h0
    by_cases h1 : b = 48
    · subst h1
      rw [show andB a 48 = 48 by unfold andB; rw [if_pos (.inr rfl)]]
      clear h0
      go_enter Try.func61, Try.ntmps61
      go_wp2
      go_ret
      exact ⟨rfl, rfl⟩
    · have n2 : ((b.toNat : Int) == 48) = false := u8_nq 48 (by omega) h1
      by_cases h2 : a = 49
      · by_cases h3 : b = 49
        · subst h2 h3
          clear h0 h1 n1 n2
          go_enter Try.func61, Try.ntmps61
          go_wp2
          go_ret
          exact ⟨rfl, rfl⟩
        · have n3 : ((b.toNat : Int) == 49) = false := u8_nq 49 (by omega) h3
          rw [show andB a b = 120 by unfold andB; rw [if_neg (by simp [h0, h1]), if_neg (by simp [h3])]]
          subst h2
          clear h0 h1 h3 n1
          go_enter Try.func61, Try.ntmps61
          go_wp2
          go_ret
          exact ⟨rfl, rfl⟩
      · have n3 : ((a.toNat : Int) == 49) = false := u8_nq 49 (by omega) h2
        rw [show andB a b = 120 by unfold andB; rw [if_neg (by simp [h0, h1]), if_neg (by simp [h2])]]
        clear h0 h1 h2
        go_enter Try.func61, Try.ntmps61
        go_wp2
        go_ret
        exact ⟨rfl, rfl⟩
set_option maxHeartbeats 400000 in
theorem sOr (a b : UInt8) (w : World) :
    Calls Try.prog 62 #[.int .u8 (a.toNat : Int), .int .u8 (b.toNat : Int)] w fun e w' => e = .returned (.int .u8 ((orB a b).toNat : Int)) ∧ w' = w := by
  go_enter Try.func62, Try.ntmps62
  go_wp2_with (first | (go_at_call 65; refine (sNot _ _).mono ?_; rintro e w' ⟨rfl, rfl⟩) | (go_at_call 61; refine (sAnd _ _ _).mono ?_; rintro e w' ⟨rfl, rfl⟩))
  go_ret
  exact ⟨rfl, rfl⟩
set_option maxHeartbeats 400000 in
theorem sXor (a b : UInt8) (w : World) :
    Calls Try.prog 63 #[.int .u8 (a.toNat : Int), .int .u8 (b.toNat : Int)] w fun e w' => e = .returned (.int .u8 ((xorB a b).toNat : Int)) ∧ w' = w := by
  go_enter Try.func63, Try.ntmps63
  go_wp2_with (first | (go_at_call 65; refine (sNot _ _).mono ?_; rintro e w' ⟨rfl, rfl⟩) | (go_at_call 61; refine (sAnd _ _ _).mono ?_; rintro e w' ⟨rfl, rfl⟩) | (go_at_call 62; refine (sOr _ _ _).mono ?_; rintro e w' ⟨rfl, rfl⟩))
  go_ret
  exact ⟨rfl, rfl⟩
set_option maxHeartbeats 400000 in
theorem sNotAll (s : ByteArray) (w : World) (hs : s.size ≤ 65) :
    Calls Try.prog 78 #[.string s] w fun e w' => e = .returned (.string (S ((L s).map notB))) ∧ Below w.heap.size w w' := by
  obtain ⟨i0, hi, hz0, hz1, hz2⟩ := info_parts info5
  go_enter Try.func78, Try.ntmps78
  go_wp2
  go_loopw [3, 4] (fun v i wr => ∃ k : Nat, k ≤ s.size ∧ i = .int .i64 k ∧ OB w.heap.size v (((L s).take k).map notB) wr ∧ Below w.heap.size w wr) (fun _ i _ => s.size - (intOf i).toNat)
  case atStart => exact ⟨0, Nat.zero_le _, rfl, OB_start (Nat.le_refl _), bal (brf _) _⟩
  case round =>
    obtain ⟨k, hk, rfl, hown, hbel⟩ := hrel
    have hsz := hbel.size
    by_cases hlt : k < s.size
    · have st : ((L s).take (k + 1)).map notB = ((L s).take k).map notB ++ [notB s[k]] := by rw [L_take s k hlt, List.map_append]; rfl
      have hlen : (((L s).take k).map notB).length = k := by simp [L_len]; omega
      have ST := hide st
      clear st
      go_wp2_with (first | (go_at_call 65; refine (sNot _ _).mono ?_; rintro e w' ⟨rfl, rfl⟩) | (at_builtin; refine wpList_append_own _ rfl (.tmp 12) (.tmp 17) 22 rfl w.heap.size 5 i0 (.int .u8 0) 1 1 Try.underlying22 hi hz0 hz1 hz2 rfl (by decide) _ _ _ rfl (World.ownsRow.alloc hown _) ⟨_, 0, none⟩ 1 1 [bv (notB s[k])] rfl rfl (cell_one_new _ _ _) (by intro u hu; simp at hu; subst hu; rfl) (by unfold maxLen; omega) (by omega) (by simp; omega) ?_; intro v' w1 hown' hgrow _))
      exact ⟨⟨k + 1, by omega, by go_num, by rw [unhide ST]; exact OB_step hown', OB_below hbel hsz hown hgrow⟩, by simp [intOf]; omega⟩
    · have hcv := OB_string hown
      rw [L_take_all s k (by omega)] at hcv
      go_wp2
      go_ret
      exact ⟨rfl, hbel⟩
end Go.Proofs.Ytmbllgblbdfobaa
namespace Go.Proofs.Ytmbllgblbdfobaa
open Go.RowKit
theorem any_step {p : UInt8 → Bool} {s : ByteArray} (k : Nat) (hk : k < s.size) : ((L s).take (k + 1)).any p = (((L s).take k).any p || p s[k]) := by
  rw [L_take s k hk, List.any_append]; simp
theorem all_stepB {p : UInt8 → Bool} {s : ByteArray} (k : Nat) (hk : k < s.size) : ((L s).take (k + 1)).all p = (((L s).take k).all p && p s[k]) := by
  rw [L_take s k hk, List.all_append]; simp
theorem any_of {p : UInt8 → Bool} {s : ByteArray} (k : Nat) (hk : k < s.size) (h : p s[k] = true) : (L s).any p = true :=
  List.any_eq_true.2 ⟨_, L_mem s k hk, h⟩
theorem ret_u8 {a b : UInt8} (h : a = b) : Ending.returned (.int .u8 (a.toNat : Int)) = .returned (.int .u8 (b.toNat : Int)) := by rw [h]
def zeroB (c : UInt8) : Bool := c == 48
set_option maxHeartbeats 400000 in
theorem sTruth (s : ByteArray) (w : World) (hs : s.size ≤ maxLen) :
    Calls Try.prog 66 #[.string s] w fun e w' => e = .returned (.int .u8 ((truthL (L s)).toNat : Int)) ∧ w' = w := by
  unfold maxLen at hs
  go_enter Try.func66, Try.ntmps66
  go_wp2
  go_loop [3, 4] (fun c i => ∃ k : Nat, k ≤ s.size ∧ i = .int .i64 k ∧ ((L s).take k).any Vb.oneB = false ∧ ∃ x : UInt8, c = .int .u8 (x.toNat : Int) ∧ x = (if ((L s).take k).all zeroB then 48 else 120)) (fun _ i => s.size - (intOf i).toNat)
  case atStart => exact ⟨0, Nat.zero_le _, rfl, by simp, 48, rfl, by simp⟩
  case round =>
    obtain ⟨k, hk, rfl, hno, x, rfl, hx⟩ := hrel
    have HN := hide hno
    have HX := hide hx
    clear hno hx
    by_cases hlt : k < s.size
    · by_cases e1 : s[k] = 49
      · have e' : (s[k].toNat : Int) = 49 := by rw [e1]; rfl
        have HA : Hid (truthL (L s) = 49) := by
          have : (L s).any Vb.oneB = true := any_of k hlt (by rw [e1]; rfl)
          show _ = _; unfold truthL; rw [this]; rfl
        clear e1
        go_wp2
        go_ret
        exact ⟨by rw [unhide HA]; rfl, rfl⟩
      · have n1 : ((s[k].toNat : Int) == 49) = false := u8_nq 49 (by omega) e1
        have HS : Hid (((L s).take (k + 1)).any Vb.oneB = false) := by
          show _ = false; rw [any_step k hlt, unhide HN]; simp [Vb.oneB, e1]
        by_cases e0 : s[k] = 48
        · have e' : (s[k].toNat : Int) = 48 := by rw [e0]; rfl
          have HT : Hid (x = (if ((L s).take (k + 1)).all zeroB then 48 else 120)) := by
            show _ = _; rw [all_stepB k hlt, e0, unhide HX]; simp [zeroB]
          clear e0 e1 n1
          go_wp2
          go_round
          case rel => exact ⟨k + 1, by omega, by go_num, unhide HS, x, rfl, unhide HT⟩
          case measure => simp [intOf]; omega
        · have n0 : ((s[k].toNat : Int) != 48) = true := u8_ne 48 (by omega) e0
          have HT : Hid ((120 : UInt8) = (if ((L s).take (k + 1)).all zeroB then 48 else 120)) := by
            show _ = _; rw [all_stepB k hlt]; simp [zeroB, e0]
          clear e0 e1
          go_wp2
          go_round
          case rel => exact ⟨k + 1, by omega, by go_num, unhide HS, 120, rfl, unhide HT⟩
          case measure => simp [intOf]; omega
    · go_wp2
      go_ret
      refine ⟨ret_u8 ?_, rfl⟩
      have h := unhide HN
      have h' := unhide HX
      rw [L_take_all s k (by omega)] at h h'
      rw [h']; unfold truthL; rw [h]; rfl
theorem one_string (c : Int) (x : UInt8) (h : c = (x.toNat : Int)) (W : World) : (convert 22 9 (.slice (some ⟨W.heap.size, 0, none⟩) 1 1)).run Try.prog (W.alloc (.cells #[.int .u8 c] 5)) = .ok (.string (S [x])) (W.alloc (.cells #[.int .u8 c] 5)) := by
  subst h
  refine run_convert_bytes_back (P := Try.prog) _ 22 9 5 ⟨W.heap.size, 0, none⟩ 1 [x] (by kernel_rfl) (by kernel_rfl) (by kernel_rfl) ?_
  intro j hj
  have : j = 0 := by simp at hj; omega
  subst this
  rw [Addr.add_lit, World.cell?_alloc_new]; rfl
theorem S_snoc (l : List UInt8) (c : UInt8) : S l ++ S [c] = S (l ++ [c]) := by
  apply L_inj; rw [L_append, L_S, L_S, L_S]
set_option maxHeartbeats 400000 in
theorem sFill (c : UInt8) (n : Nat) (w : World) (hn : n ≤ 65) :
    Calls Try.prog 67 #[.int .u8 (c.toNat : Int), .int .i64 n] w fun e w' => e = .returned (.string (S (List.replicate n c))) ∧ Below w.heap.size w w' := by
  have hcv := one_string (c.toNat : Int) c rfl
  go_enter Try.func67, Try.ntmps67
  go_wp2
  go_loopw [5, 6] (fun o i wr => ∃ k : Nat, k ≤ n ∧ i = .int .i64 k ∧ o = .string (S (List.replicate k c)) ∧ Below w.heap.size w wr) (fun _ i _ => n - (intOf i).toNat)
  case atStart => exact ⟨0, Nat.zero_le _, rfl, rfl, brf _⟩
  case round =>
    obtain ⟨k, hk, rfl, rfl, hbel⟩ := hrel
    have hz : (S (List.replicate k c)).size = k := by rw [S_size]; simp
    have st : S (List.replicate k c) ++ S [c] = S (List.replicate (k + 1) c) := by rw [S_snoc, List.replicate_succ']
    have hz1 : (S [c]).size = 1 := by rw [S_size]; rfl
    have ST := hide st
    clear st
    by_cases hlt : k < n
    · generalize S (List.replicate k c) = T at *
      generalize S [c] = C at *
      go_wp2
      exact ⟨⟨k + 1, by omega, by go_num, congrArg Value.string (unhide ST), bal hbel _⟩, by simp [intOf]; omega⟩
    · have : k = n := by omega
      subst this
      go_wp2
      go_ret
      exact ⟨rfl, hbel⟩
end Go.Proofs.Ytmbllgblbdfobaa
namespace Go.Proofs.Ytmbllgblbdfobaa
open Go.RowKit
theorem sOK1 (s : ByteArray) (w : World) (hs : s.size ≤ maxLen) (hv : Vb.okV (L s) = true) : Calls Try.prog 35 #[.string s] w fun e w' => e = .returned (.bool true) ∧ w = w' :=
  (sBitsOK s w hs).mono fun _ _ ⟨h, h'⟩ => ⟨by rw [h, hv], h'.symm⟩
theorem sOK0 (s : ByteArray) (w : World) (hs : s.size ≤ maxLen) (hv : Vb.okV (L s) = false) : Calls Try.prog 35 #[.string s] w fun e w' => e = .returned (.bool false) ∧ w = w' :=
  (sBitsOK s w hs).mono fun _ _ ⟨h, h'⟩ => ⟨by rw [h, hv], h'.symm⟩
theorem sTr (s : ByteArray) (w : World) (t : UInt8) (hs : s.size ≤ maxLen) (ht : truthL (L s) = t) : Calls Try.prog 66 #[.string s] w fun e w' => e = .returned (.int .u8 (t.toNat : Int)) ∧ w = w' :=
  (sTruth s w hs).mono fun _ _ ⟨h, h'⟩ => ⟨by rw [h, ht], h'.symm⟩
/-- What two letters have in common. -/
def mixB (a b : UInt8) : UInt8 := if a = b ∧ (a = 48 ∨ a = 49) then a else 120
theorem zip_step (f : UInt8 → UInt8 → UInt8) (a b : ByteArray) (k : Nat) (ha : k < a.size) (hb : k < b.size) : List.zipWith f ((L a).take (k + 1)) ((L b).take (k + 1)) = List.zipWith f ((L a).take k) ((L b).take k) ++ [f a[k] b[k]] := by
  rw [L_take a k ha, L_take b k hb, List.zipWith_append (by simp [L_len]; omega)]; rfl
theorem zip_len (f : UInt8 → UInt8 → UInt8) (a b : ByteArray) (k : Nat) (ha : k ≤ a.size) (hb : k ≤ b.size) : (List.zipWith f ((L a).take k) ((L b).take k)).length = k := by
  simp [L_len]; omega
/-- The choice between two texts. -/
def choL (c a b : List UInt8) : List UInt8 := if truthL c = 49 then a else if truthL c = 48 then b else List.zipWith mixB a b
theorem truthL_cases (l : List UInt8) : truthL l = 49 ∨ truthL l = 48 ∨ truthL l = 120 := by
  unfold truthL; split
  · exact .inl rfl
  · split
    · exact .inr (.inl rfl)
    · exact .inr (.inr rfl)
set_option maxHeartbeats 400000 in
theorem sChoose (c a b : ByteArray) (w : World) (hc : c.size ≤ maxLen) (ha : a.size ≤ maxLen) (hb : b.size ≤ maxLen) (vc : Vb.okV (L c) = true) (va : Vb.okV (L a) = true) (vb : Vb.okV (L b) = true) (hl : a.size = b.size) :
    Calls Try.prog 30 #[.string c, .string a, .string b] w fun e w' => e = .returned (.string (S (choL (L c) (L a) (L b)))) ∧ Below w.heap.size w w' := by
  obtain ⟨i0, hi, hz0, hz1, hz2⟩ := info_parts info5
  obtain ⟨a1, a2, _⟩ := (okV_iff a).1 va
  have VC := hide vc
  have VA := hide va
  have VB := hide vb
  have hne : ((a.size : Int) != (b.size : Int)) = false := by simp [hl]
  have HL := hide hl
  have b2 : b.size ≤ 64 := by omega
  clear vc va vb hl
  generalize hT : truthL (L c) = t
  have HT := hide hT
  have ht := truthL_cases (L c)
  rw [hT] at ht
  clear hT
  rcases ht with rfl | rfl | rfl
  · go_enter Try.func30, Try.ntmps30
    go_wp2_with (first | (go_at_call_of 35 (Value.string c); refine (sOK1 c _ hc (unhide VC)).mono ?_; rintro e w' ⟨rfl, rfl⟩) | (go_at_call_of 35 (Value.string a); refine (sOK1 a _ ha (unhide VA)).mono ?_; rintro e w' ⟨rfl, rfl⟩) | (go_at_call_of 35 (Value.string b); refine (sOK1 b _ hb (unhide VB)).mono ?_; rintro e w' ⟨rfl, rfl⟩) | (go_at_call 66; refine (sTr c _ _ hc (unhide HT)).mono ?_; rintro e w' ⟨rfl, rfl⟩))
    go_ret
    exact ⟨by rw [choL, unhide HT, if_pos rfl, S_L]; rfl, brf _⟩
  · go_enter Try.func30, Try.ntmps30
    go_wp2_with (first | (go_at_call_of 35 (Value.string c); refine (sOK1 c _ hc (unhide VC)).mono ?_; rintro e w' ⟨rfl, rfl⟩) | (go_at_call_of 35 (Value.string a); refine (sOK1 a _ ha (unhide VA)).mono ?_; rintro e w' ⟨rfl, rfl⟩) | (go_at_call_of 35 (Value.string b); refine (sOK1 b _ hb (unhide VB)).mono ?_; rintro e w' ⟨rfl, rfl⟩) | (go_at_call 66; refine (sTr c _ _ hc (unhide HT)).mono ?_; rintro e w' ⟨rfl, rfl⟩))
    go_ret
    exact ⟨by rw [choL, unhide HT, if_neg (by decide), if_pos rfl, S_L]; rfl, brf _⟩
  · have HF : Hid (choL (L c) (L a) (L b) = List.zipWith mixB (L a) (L b)) := by show _ = _; rw [choL, unhide HT, if_neg (by decide), if_neg (by decide)]
    go_enter Try.func30, Try.ntmps30
    go_wp2_with (first | (go_at_call_of 35 (Value.string c); refine (sOK1 c _ hc (unhide VC)).mono ?_; rintro e w' ⟨rfl, rfl⟩) | (go_at_call_of 35 (Value.string a); refine (sOK1 a _ ha (unhide VA)).mono ?_; rintro e w' ⟨rfl, rfl⟩) | (go_at_call_of 35 (Value.string b); refine (sOK1 b _ hb (unhide VB)).mono ?_; rintro e w' ⟨rfl, rfl⟩) | (go_at_call 66; refine (sTr c _ _ hc (unhide HT)).mono ?_; rintro e w' ⟨rfl, rfl⟩))
    go_loopw [7, 8] (fun v i wr => ∃ k : Nat, k ≤ a.size ∧ i = .int .i64 k ∧ OB w.heap.size v (List.zipWith mixB ((L a).take k) ((L b).take k)) wr ∧ Below w.heap.size w wr) (fun _ i _ => a.size - (intOf i).toNat)
    case atStart => exact ⟨0, Nat.zero_le _, rfl, OB_start (Nat.le_refl _), bal (brf _) _⟩
    case round =>
      obtain ⟨k, hk, rfl, hown, hbel⟩ := hrel
      have hsz := hbel.size
      by_cases hlt : k < a.size
      · have hltb : k < b.size := by have := unhide HL; omega
        have st := zip_step mixB a b k hlt hltb
        have hlen := zip_len mixB a b k (by omega) (by omega)
        by_cases e : a[k] = b[k]
        · have hq : ((a[k].toNat : Int) == (b[k].toNat : Int)) = true := by rw [e]; exact beq_self_eq_true _
          by_cases e0 : a[k] = 48
          · have hx : mixB a[k] b[k] = 48 := by unfold mixB; rw [if_pos ⟨e, .inl e0⟩, e0]
            rw [hx] at st
            have ST := hide st
            have h48 : (a[k].toNat : Int) = 48 := by rw [e0]; rfl
            have h48b : (b[k].toNat : Int) = 48 := by rw [← e, e0]; rfl
            clear st e e0 hx hq
            go_wp2
            go_quiet (fail)
            go_wp2_with (first | (at_builtin; refine wpList_append_own _ rfl _ _ 22 rfl w.heap.size 5 i0 (.int .u8 0) 1 1 Try.underlying22 hi hz0 hz1 hz2 rfl (by decide) _ _ _ rfl (World.ownsRow.alloc hown _) ⟨_, 0, none⟩ 1 1 [bv 48] rfl rfl (cell_one_new _ _ _) (by intro u hu; simp at hu; subst hu; rfl) (by unfold maxLen; omega) (by omega) (by simp; omega) ?_; intro v' w1 hown' hgrow _))
            exact ⟨⟨k + 1, by omega, by go_num, by rw [unhide ST]; exact OB_step hown', OB_belowN hbel hsz hown hgrow⟩, by simp [intOf]; omega⟩
          · by_cases e1 : a[k] = 49
            · have hx : mixB a[k] b[k] = 49 := by unfold mixB; rw [if_pos ⟨e, .inr e1⟩, e1]
              rw [hx] at st
              have ST := hide st
              have h48 : (a[k].toNat : Int) = 49 := by rw [e1]; rfl
              have h48b : (b[k].toNat : Int) = 49 := by rw [← e, e1]; rfl
              clear st e e0 e1 hx hq
              go_wp2
              go_quiet (fail)
              go_wp2_with (first | (at_builtin; refine wpList_append_own _ rfl _ _ 22 rfl w.heap.size 5 i0 (.int .u8 0) 1 1 Try.underlying22 hi hz0 hz1 hz2 rfl (by decide) _ _ _ rfl (World.ownsRow.alloc hown _) ⟨_, 0, none⟩ 1 1 [bv 49] rfl rfl (cell_one_new _ _ _) (by intro u hu; simp at hu; subst hu; rfl) (by unfold maxLen; omega) (by omega) (by simp; omega) ?_; intro v' w1 hown' hgrow _))
              exact ⟨⟨k + 1, by omega, by go_num, by rw [unhide ST]; exact OB_step hown', OB_belowN hbel hsz hown hgrow⟩, by simp [intOf]; omega⟩
            · have hx : mixB a[k] b[k] = 120 := by unfold mixB; rw [if_neg (by simp [e0, e1])]
              rw [hx] at st
              have ST := hide st
              have n0 : ((a[k].toNat : Int) == 48) = false := u8_nq 48 (by omega) e0
              have n1 : ((a[k].toNat : Int) == 49) = false := u8_nq 49 (by omega) e1
              clear st e e0 e1 hx
              go_wp2
              go_quiet (fail)
              go_wp2_with (first | (at_builtin; refine wpList_append_own _ rfl _ _ 22 rfl w.heap.size 5 i0 (.int .u8 0) 1 1 Try.underlying22 hi hz0 hz1 hz2 rfl (by decide) _ _ _ rfl (World.ownsRow.alloc hown _) ⟨_, 0, none⟩ 1 1 [bv 120] rfl rfl (cell_one_new _ _ _) (by intro u hu; simp at hu; subst hu; rfl) (by unfold maxLen; omega) (by omega) (by simp; omega) ?_; intro v' w1 hown' hgrow _))
              exact ⟨⟨k + 1, by omega, by go_num, by rw [unhide ST]; exact OB_step hown', OB_belowN hbel hsz hown hgrow⟩, by simp [intOf]; omega⟩
        · have hx : mixB a[k] b[k] = 120 := by unfold mixB; rw [if_neg (by simp [e])]
          rw [hx] at st
          have ST := hide st
          have hq : ((a[k].toNat : Int) == (b[k].toNat : Int)) = false := by rw [beq_eq_false_iff_ne]; intro h; exact e (UInt8.toNat_inj.1 (by omega))
          clear st e hx
          go_wp2
          go_quiet (fail)
          go_wp2_with (first | (at_builtin; refine wpList_append_own _ rfl _ _ 22 rfl w.heap.size 5 i0 (.int .u8 0) 1 1 Try.underlying22 hi hz0 hz1 hz2 rfl (by decide) _ _ _ rfl (World.ownsRow.alloc hown _) ⟨_, 0, none⟩ 1 1 [bv 120] rfl rfl (cell_one_new _ _ _) (by intro u hu; simp at hu; subst hu; rfl) (by unfold maxLen; omega) (by omega) (by simp; omega) ?_; intro v' w1 hown' hgrow _))
          exact ⟨⟨k + 1, by omega, by go_num, by rw [unhide ST]; exact OB_step hown', OB_belowN hbel hsz hown hgrow⟩, by simp [intOf]; omega⟩
      · have hcv := OB_string hown
        rw [L_take_all a k (by omega), L_take_all b k (by have := unhide HL; omega)] at hcv
        go_wp2
        go_ret
        exact ⟨by rw [unhide HF]; rfl, hbel⟩
set_option maxHeartbeats 400000 in
theorem sChoose_no (c a b : ByteArray) (w : World) (hc : c.size ≤ maxLen) (ha : a.size ≤ maxLen) (hb : b.size ≤ maxLen) (h : (Vb.okV (L c) && (Vb.okV (L a) && Vb.okV (L b) && decide (a.size = b.size))) = false) :
    Calls Try.prog 30 #[.string c, .string a, .string b] w fun e w' => e = .returned (.string (S [])) ∧ Below w.heap.size w w' := by
  cases vc : Vb.okV (L c)
  · have VC := hide vc
    clear h vc
    go_enter Try.func30, Try.ntmps30
    go_wp2_with (first | (go_at_call_of 35 (Value.string c); refine (sOK0 c _ hc (unhide VC)).mono ?_; rintro e w' ⟨rfl, rfl⟩))
    go_ret
    exact ⟨rfl, brf _⟩
  · rw [vc, Bool.true_and] at h
    have VC := hide vc
    clear vc
    cases va : Vb.okV (L a)
    · have VA := hide va
      clear h va
      go_enter Try.func30, Try.ntmps30
      go_wp2_with (first | (go_at_call_of 35 (Value.string c); refine (sOK1 c _ hc (unhide VC)).mono ?_; rintro e w' ⟨rfl, rfl⟩) | (go_at_call_of 35 (Value.string a); refine (sOK0 a _ ha (unhide VA)).mono ?_; rintro e w' ⟨rfl, rfl⟩))
      go_ret
      exact ⟨rfl, brf _⟩
    · rw [va, Bool.true_and] at h
      have VA := hide va
      clear va
      cases vb : Vb.okV (L b)
      · have VB := hide vb
        clear h vb
        go_enter Try.func30, Try.ntmps30
        go_wp2_with (first | (go_at_call_of 35 (Value.string c); refine (sOK1 c _ hc (unhide VC)).mono ?_; rintro e w' ⟨rfl, rfl⟩) | (go_at_call_of 35 (Value.string a); refine (sOK1 a _ ha (unhide VA)).mono ?_; rintro e w' ⟨rfl, rfl⟩) | (go_at_call_of 35 (Value.string b); refine (sOK0 b _ hb (unhide VB)).mono ?_; rintro e w' ⟨rfl, rfl⟩))
        go_ret
        exact ⟨rfl, brf _⟩
      · rw [vb, Bool.true_and] at h
        have VB := hide vb
        have hne : ((a.size : Int) != (b.size : Int)) = true := by simp at h; simp; omega
        clear h vb
        go_enter Try.func30, Try.ntmps30
        go_wp2_with (first | (go_at_call_of 35 (Value.string c); refine (sOK1 c _ hc (unhide VC)).mono ?_; rintro e w' ⟨rfl, rfl⟩) | (go_at_call_of 35 (Value.string a); refine (sOK1 a _ ha (unhide VA)).mono ?_; rintro e w' ⟨rfl, rfl⟩) | (go_at_call_of 35 (Value.string b); refine (sOK1 b _ hb (unhide VB)).mono ?_; rintro e w' ⟨rfl, rfl⟩))
        go_ret
        exact ⟨rfl, brf _⟩
end Go.Proofs.Ytmbllgblbdfobaa
