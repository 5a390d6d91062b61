/- What the specification's BitsOK, l01Known, l01Fill and BitsOf answer. What the specification's BitsOf answers: the text of the number's lowest bits. What the specification's IntOf answers. What the specification's Resize answers. Plain facts: the resized vector's words tell the resized text. What the specification's Part answers. A slice of bytes of the call's own, to which letters are appended; and the string of it. What the specification's one-bit functions, l01NotAll, l01Truth and l01Fill answer. What the specification's l01Truth, l01Fill and Choose answer. What the specification's Choose answers. What the specification's l01Add, l01Neg and l01Sub answer: sums modulo two to the width. -/
import Derived.Test.YtlcpmbdckmdabaaGreatDoorBW
import Derived.Deep.RegionWith
import Derived.Deep.QuietTactic
import Derived.BigQuiet
namespace Go.Proofs.YtlcpmbdckmdabaaGreatDoor
open Go.RowKit

end Go.Proofs.YtlcpmbdckmdabaaGreatDoor
namespace Go.Proofs.YtlcpmbdckmdabaaGreatDoor
open Go.RowKit
theorem S_cons (c : UInt8) (l : List UInt8) : (⟨#[c]⟩ : ByteArray) ++ S l = S (c :: l) := by
  apply L_inj
  rw [L_S]
  simp [L, S]
theorem and_one_i64 (x : Int) : bits .and .i64 x 1 = x % 2 := by
  show IntKind.i64.wrap ((BitVec.ofInt 64 x &&& BitVec.ofInt 64 1).toNat : Int) = _
  have e : (BitVec.ofInt 64 x &&& BitVec.ofInt 64 1).toNat = (x % 2).toNat := by
    rw [BitVec.toNat_and, show (BitVec.ofInt 64 1).toNat = 1 from rfl, Nat.and_one_is_mod, BitVec.toNat_ofInt]
    omega
  rw [e]
  have h : x % 2 = 0 ∨ x % 2 = 1 := by omega
  rcases h with h | h <;> rw [h] <;> rfl
theorem low_bit (v : Int) (j : Nat) (hj : j < 64) : (v / 2 ^ j % 2 == 1) = (v % 18446744073709551616).toNat.testBit j := by
  rw [Nat.testBit_eq_decide_div_mod_eq]
  have hr : 0 ≤ v % 18446744073709551616 := by omega
  obtain ⟨r, hr'⟩ := Int.eq_ofNat_of_zero_le hr
  have hv : v = r + 2 ^ j * (2 ^ (64 - j) * (v / 18446744073709551616)) := by
    have e : (2 : Int) ^ j * 2 ^ (64 - j) = 18446744073709551616 := by
      rw [← Int.pow_add, show j + (64 - j) = 64 by omega]; rfl
    rw [← Int.mul_assoc, e]; omega
  have hd : v / 2 ^ j = (r : Int) / 2 ^ j + 2 ^ (64 - j) * (v / 18446744073709551616) := by
    have h0 : (2 : Int) ^ j ≠ 0 := Int.pow_ne_zero (by omega)
    have := Int.add_mul_ediv_left (r : Int) (2 ^ (64 - j) * (v / 18446744073709551616)) h0
    rw [← hv] at this; exact this
  have h2 : (2 : Int) ^ (64 - j) = 2 * 2 ^ (63 - j) := by
    rw [show 64 - j = (63 - j) + 1 by omega, Int.pow_succ, Int.mul_comm]
  have hc : (r : Int) / 2 ^ j = ((r / 2 ^ j : Nat) : Int) := by rw [Int.natCast_ediv, Int.natCast_pow]; rfl
  rw [hr', Int.toNat_natCast, hd, h2, Int.mul_assoc, hc, Bool.eq_iff_iff]
  simp only [beq_iff_eq, decide_eq_true_eq]
  omega
set_option maxHeartbeats 400000 in
theorem sBitsOf (v : Int) (n : Nat) (w : World) (h1 : 1 ≤ n) (h2 : n ≤ 64) :
    Calls Tryz.prog 50 #[.int .i64 v, .int .i64 n] w fun e w' => e = .returned (.string (S (Vb.nTxt n (v % 18446744073709551616).toNat))) ∧ w' = w := by
  have c1 : decide ((n : Int) < 1) = false := by simp; omega
  have c2 : decide (64 < (n : Int)) = false := by simp; omega
  go_enter Tryz.func50, Tryz.ntmps50
  go_wp2
  go_loop [0, 5, 6] (fun x o i => ∃ j : Nat, j ≤ n ∧ i = .int .i64 j ∧ x = .int .i64 (v / 2 ^ j) ∧ o = .string (S (Vb.nTxt j (v % 18446744073709551616).toNat))) (fun _ _ i => n - (intOf i).toNat)
  case atStart => exact ⟨0, Nat.zero_le _, rfl, by simp, rfl⟩
  case round =>
    obtain ⟨j, hj, rfl, rfl, rfl⟩ := hrel
    by_cases hlt : j < n
    · have hs : ¬ 9223372036854775807 < 1 + (S (Vb.nTxt j (v % 18446744073709551616).toNat)).size := by rw [S_size, Vb.nTxt_len]; omega
      have hx : v / 2 ^ j / 2 = v / 2 ^ (j + 1) := by rw [Int.pow_succ, Int.ediv_ediv_of_nonneg (by exact Int.le_of_lt (Int.pow_pos (by omega)))]
      have hbit := low_bit v j (by omega)
      rw [← and_one_i64] at hbit
      have hn : Vb.nTxt (j + 1) (v % 18446744073709551616).toNat = (if (v % 18446744073709551616).toNat.testBit j then 49 else 48) :: Vb.nTxt j (v % 18446744073709551616).toNat := rfl
      have HX := hide hx
      have HN := hide hn
      clear hx hn
      generalize v / 2 ^ j = X at *
      generalize Vb.nTxt j (v % 18446744073709551616).toNat = T at *
      cases ht : (v % 18446744073709551616).toNat.testBit j
      · rw [ht] at hbit HN
        clear ht
        go_wp2
        go_round
        case rel => exact ⟨j + 1, by omega, by go_num, by rw [← unhide HX], by rw [unhide HN]; exact congrArg Value.string (S_cons _ _)⟩
        case measure => simp [intOf]; omega
      · rw [ht] at hbit HN
        clear ht
        go_wp2
        go_round
        case rel => exact ⟨j + 1, by omega, by go_num, by rw [← unhide HX], by rw [unhide HN]; exact congrArg Value.string (S_cons _ _)⟩
        case measure => simp [intOf]; omega
    · go_wp2
      go_ret
      have : j = n := by omega
      subst this
      exact ⟨rfl, rfl⟩
set_option maxHeartbeats 400000 in
theorem sBitsOf_no (v : Int) (n : Int) (w : World) (h : n < 1 ∨ 64 < n) :
    Calls Tryz.prog 50 #[.int .i64 v, .int .i64 n] w fun e w' => e = .returned (.string (S [])) ∧ w' = w := by
  rcases h with h | h
  · go_enter Tryz.func50, Tryz.ntmps50
    go_wp2
    go_ret
    exact ⟨rfl, rfl⟩
  · have h' : ¬ n < 1 := by omega
    go_enter Tryz.func50, Tryz.ntmps50
    go_wp2
    go_ret
    exact ⟨rfl, rfl⟩
end Go.Proofs.YtlcpmbdckmdabaaGreatDoor
namespace Go.Proofs.YtlcpmbdckmdabaaGreatDoor
open Go.RowKit
/-- The number that a known text tells, read with a sign if b says so, as an int. -/
def intL (b : Bool) (l : List UInt8) : Int := wrap64 ((Vb.num l : Int) - (if b && Vb.oneB (l.headD 0) then 2 ^ l.length else 0))
theorem intL_no {b : Bool} {l : List UInt8} (h : (b && Vb.oneB (l.headD 0)) = false) : intL b l = wrap64 (Vb.num l) := by
  unfold intL; rw [h]; simp
theorem intL_64 {b : Bool} {l : List UInt8} (h : l.length = 64) : intL b l = wrap64 (Vb.num l) := by
  unfold intL
  cases hb : (b && Vb.oneB (l.headD 0))
  · simp
  · rw [if_pos rfl, h]; unfold wrap64; omega
theorem intL_yes {l : List UInt8} (h : Vb.oneB (l.headD 0) = true) : intL true l = wrap64 ((Vb.num l : Int) - 2 ^ l.length) := by
  unfold intL; rw [h]; simp
theorem one_no {c : UInt8} (h : Vb.oneB c = false) : ((c.toNat : Int) == 49) = false := u8_nq 49 (by omega) (by intro e; rw [e] at h; cases h)
theorem one_yes {c : UInt8} (h : Vb.oneB c = true) : (c.toNat : Int) = 49 := by
  have : c = 49 := by simpa [Vb.oneB] using h
  rw [this]; rfl
theorem wrap_dbl {V : Int} {m : Nat} (h : V = wrap64 m) : wrap64 (V * 2) = wrap64 ((2 * m + 0 : Nat) : Int) := by
  subst h; unfold wrap64; omega
theorem wrap_dbl1 {V : Int} {m : Nat} (h : V = wrap64 m) : wrap64 (wrap64 (V * 2) + 1) = wrap64 ((2 * m + 1 : Nat) : Int) := by
  subst h; unfold wrap64; omega
theorem wrap_pow {P : Int} {k : Nat} (h : P = wrap64 (2 ^ k)) : wrap64 (P * 2) = wrap64 (2 ^ (k + 1)) := by
  subst h; rw [Int.pow_succ]; generalize (2 : Int) ^ k = Z; unfold wrap64; omega
theorem wrap_sub {V P a b : Int} (h : V = wrap64 a) (k : P = wrap64 b) : wrap64 (V - P) = wrap64 (a - b) := by
  subst h k; unfold wrap64; omega
theorem L_head (s : ByteArray) (h : 0 < s.size) : (L s).headD 0 = s[0] := by
  rw [L_get s 0 h, List.headD_eq_head?_getD, List.head?_eq_getElem?, List.getElem?_eq_getElem (by rw [L_len]; exact h)]; rfl
theorem ret_2 {a b : Int} {c : Bool} (h : a = b) : Ending.returned (.tuple #[.int .i64 a, .bool c]) = .returned (.tuple #[.int .i64 b, .bool c]) := by rw [h]
end Go.Proofs.YtlcpmbdckmdabaaGreatDoor
namespace Go.Proofs.YtlcpmbdckmdabaaGreatDoor
open Go.RowKit
/-- A vector made bigger at its high end, or cut there. -/
def rszL (n : Nat) (b : Bool) (l : List UInt8) : List UInt8 := (List.replicate (n - l.length) (if b then l.headD 0 else 48) ++ l).drop (l.length - n)
theorem L_extract (s : ByteArray) (a b : Nat) : L (s.extract a b) = ((L s).drop a).take (b - a) := by
  simp [L, ByteArray.data_extract, List.extract_eq_take_drop]
theorem L_append (a b : ByteArray) : L (a ++ b) = L a ++ L b := by simp [L]
/-- The text with k letters ahead of l. -/
def padS (k : Nat) (c : UInt8) (l : List UInt8) : ByteArray := S (List.replicate k c ++ l)
theorem padS_size (k : Nat) (c : UInt8) (s : ByteArray) : (padS k c (L s)).size = k + s.size := by unfold padS; rw [S_size]; simp [L_len]
theorem padS_zero (s : ByteArray) (c : UInt8) : s = padS 0 c (L s) := (S_L s).symm
theorem padS_step (k : Nat) (c : UInt8) (l : List UInt8) : (⟨#[c]⟩ : ByteArray) ++ padS k c l = padS (k + 1) c l := by
  unfold padS; rw [S_cons, List.replicate_succ]; rfl
theorem padS_head (k : Nat) (s : ByteArray) (h : 1 ≤ s.size) : (padS k ((L s).headD 0) (L s)).extract 0 1 ++ padS k ((L s).headD 0) (L s) = padS (k + 1) ((L s).headD 0) (L s) := by
  have e : (padS k ((L s).headD 0) (L s)).extract 0 1 = ⟨#[(L s).headD 0]⟩ := by
    apply L_inj
    rw [L_extract]
    unfold padS
    rw [L_S]
    cases k with
    | zero =>
      cases hl : L s with
      | nil => rw [← L_len, hl] at h; simp at h
      | cons c t => simp [L]
    | succ k => rw [List.replicate_succ]; simp [L]
  rw [e, padS_step]
end Go.Proofs.YtlcpmbdckmdabaaGreatDoor
namespace Go.Proofs.YtlcpmbdckmdabaaGreatDoor
open Vb
theorem rat_append (a b : List UInt8) (i : Nat) : rat (a ++ b) i = if i < b.length then rat b i else rat a (i - b.length) := by
  unfold rat
  rw [List.reverse_append, List.getElem?_append]
  simp
theorem rat_replicate (n i : Nat) (c : UInt8) : rat (List.replicate n c) i = if i < n then some c else none := by
  unfold rat; rw [List.reverse_replicate, List.getElem?_replicate]
theorem rat_drop (l : List UInt8) (d i : Nat) : rat (l.drop d) i = if i < l.length - d then rat l i else none := by
  unfold rat
  rw [List.reverse_drop, List.getElem?_take]
theorem rat_take (l : List UInt8) (d i : Nat) : rat (l.take d) i = rat l (i + (l.length - d)) := by
  unfold rat
  rw [List.reverse_take, List.getElem?_drop, Nat.add_comm]
theorem rat_rsz (n : Nat) (b : Bool) (l : List UInt8) (i : Nat) : rat (rszL n b l) i = if i < n then (if i < l.length then rat l i else some (if b then l.headD 0 else 48)) else none := by
  unfold rszL
  rw [rat_drop, rat_append, rat_replicate, List.length_append, List.length_replicate]
  by_cases h : i < n
  · by_cases h2 : i < l.length
    · simp [h, h2]; omega
    · have h3 : i < n - l.length + l.length - (l.length - n) := by omega
      have h4 : i - l.length < n - l.length := by omega
      simp [h, h2, h3, h4]
  · have h3 : ¬ i < n - l.length + l.length - (l.length - n) := by omega
    simp [h, h3]
/-- Bit i of a text's words, where the text has it. -/
theorem letter_rat {l : List UInt8} (hv : l.all isV = true) {i : Nat} (hi : i < l.length) (h64 : i < 64) : some (letter ((kn l).getLsbD i) ((wh l).getLsbD i)) = rat l i := by
  obtain ⟨c, hc, hm⟩ := rat_some hi
  rw [kn, wh, getLsbD_word, getLsbD_word, hc]
  simp only [h64, decide_true, Bool.true_and, Option.map_some, Option.getD_some]
  rw [letter_of c (List.all_eq_true.1 hv c hm)]
theorem rat_head {l : List UInt8} (h : 1 ≤ l.length) : rat l (l.length - 1) = some (l.headD 0) := by
  unfold rat
  rw [List.getElem?_reverse (by omega), show l.length - 1 - (l.length - 1) = 0 by omega]
  cases l with
  | nil => simp at h
  | cons c t => rfl
theorem getLsbD_shr1 (k : BitVec 64) (m : Nat) : (k >>> m &&& ones 1).getLsbD 0 = k.getLsbD m := by
  rw [BitVec.getLsbD_and, BitVec.getLsbD_ushiftRight, getLsbD_ones]; simp
theorem high_bits (a b i : Nat) (hi : i < 64) : (ones a &&& ~~~ones b).getLsbD i = (decide (i < a) && !decide (i < b)) := by
  rw [BitVec.getLsbD_and, BitVec.getLsbD_not, getLsbD_ones, getLsbD_ones]; simp [hi]
theorem rsz_bit (k : BitVec 64) (m n i : Nat) (hi : i < m) (h64 : i < 64) : (k &&& ones m &&& ~~~(ones m &&& ~~~ones n)).getLsbD i = (k.getLsbD i && decide (i < n)) := by
  rw [BitVec.getLsbD_and, BitVec.getLsbD_and, BitVec.getLsbD_not, high_bits m n i h64, getLsbD_ones]
  simp only [h64, hi, decide_true, Bool.true_and, Bool.and_true, Bool.not_not]
theorem rsz_no {l : List UInt8} {m : Nat} (hv : l.all isV = true) (hm : m ≤ 64) :
    txt m (kn l &&& ones m &&& ~~~(ones m &&& ~~~ones l.length) ||| (ones m &&& ~~~ones l.length)) (wh l &&& ones m &&& ~~~(ones m &&& ~~~ones l.length)) = rszL m false l := by
  apply rat_ext
  intro i
  rw [rat_txt, rat_rsz]
  by_cases hi : i < m
  · have h64 : i < 64 := by omega
    rw [if_pos hi, if_pos hi]
    rw [BitVec.getLsbD_or, rsz_bit _ _ _ _ hi h64, rsz_bit _ _ _ _ hi h64, high_bits _ _ _ h64]
    by_cases hl : i < l.length
    · rw [if_pos hl, ← letter_rat hv hl h64]
      simp only [hi, hl, decide_true, Bool.and_true, Bool.not_true, Bool.and_false, Bool.or_false]
    · rw [if_neg hl]
      simp only [hi, hl, decide_true, decide_false, Bool.and_false, Bool.not_false, Bool.and_true, Bool.or_true, letter, Bool.false_eq_true, if_true, if_false]
  · rw [if_neg hi, if_neg hi]
theorem rsz_yes {l : List UInt8} {m : Nat} (hv : l.all isV = true) (h1 : 1 ≤ l.length) (h2 : l.length ≤ 64) (hm : m ≤ 64) :
    txt m (kn l &&& ones m &&& ~~~(ones m &&& ~~~ones l.length) ||| (if (kn l >>> (l.length - 1) &&& ones 1).getLsbD 0 then (ones m &&& ~~~ones l.length) else 0#64)) (wh l &&& ones m &&& ~~~(ones m &&& ~~~ones l.length) ||| (if (wh l >>> (l.length - 1) &&& ones 1).getLsbD 0 then (ones m &&& ~~~ones l.length) else 0#64)) = rszL m true l := by
  apply rat_ext
  intro i
  rw [rat_txt, rat_rsz, getLsbD_shr1, getLsbD_shr1]
  have hh := letter_rat hv (show l.length - 1 < l.length by omega) (by omega)
  rw [rat_head h1] at hh
  generalize hK : (kn l).getLsbD (l.length - 1) = A at *
  generalize hH : (wh l).getLsbD (l.length - 1) = B at *
  by_cases hi : i < m
  · have h64 : i < 64 := by omega
    rw [if_pos hi, if_pos hi]
    rw [BitVec.getLsbD_or, BitVec.getLsbD_or, rsz_bit _ _ _ _ hi h64, rsz_bit _ _ _ _ hi h64]
    have e : ∀ c : Bool, (if c then (ones m &&& ~~~ones l.length) else 0#64).getLsbD i = (c && !decide (i < l.length)) := by
      intro c
      cases c
      · simp
      · rw [if_pos rfl, high_bits _ _ _ h64]; simp [hi]
    rw [e, e]
    by_cases hl : i < l.length
    · rw [if_pos hl, ← letter_rat hv hl h64]
      simp only [hl, decide_true, Bool.and_true, Bool.not_true, Bool.and_false, Bool.or_false]
    · rw [if_neg hl, if_pos rfl, ← hh]
      simp only [hl, decide_false, Bool.and_false, Bool.not_false, Bool.and_true, Bool.false_or]
  · rw [if_neg hi, if_neg hi]
end Go.Proofs.YtlcpmbdckmdabaaGreatDoor
namespace Go.Proofs.YtlcpmbdckmdabaaGreatDoor
open Go.RowKit
/-- The letter at place i from the right, x where there is none. -/
def atI (l : List UInt8) (i : Int) : UInt8 := if 0 ≤ i then (Vb.rat l i.toNat).getD 120 else 120
/-- j letters from place lo on. -/
def partL (l : List UInt8) (lo : Int) : Nat → List UInt8
  | 0 => []
  | j + 1 => atI l (lo + j) :: partL l lo j
theorem partL_len (l : List UInt8) (lo : Int) (j : Nat) : (partL l lo j).length = j := by
  induction j with
  | zero => rfl
  | succ j ih => simp [partL, ih]
theorem atI_in (s : ByteArray) (i : Nat) (h : i < s.size) : S [atI (L s) i] = s.extract (s.size - 1 - i) (s.size - i) := by
  apply L_inj
  rw [L_extract, L_S]
  unfold atI Vb.rat
  rw [if_pos (by omega), Int.toNat_natCast, List.getElem?_reverse (by rw [L_len]; exact h), L_len, show s.size - i - (s.size - 1 - i) = 1 by omega]
  have h' : s.size - 1 - i < (L s).length := by rw [L_len]; omega
  rw [List.getElem?_eq_getElem h', List.drop_eq_getElem_cons h']
  rfl
theorem S_app (c : UInt8) (l : List UInt8) : S [c] ++ S l = S (c :: l) := S_cons c l
end Go.Proofs.YtlcpmbdckmdabaaGreatDoor
namespace Go.Proofs.YtlcpmbdckmdabaaGreatDoor
open Go.RowKit
set_option maxRecDepth 100000
/-- A letter as a value. -/
def bv (c : UInt8) : Value := .int .u8 (c.toNat : Int)
theorem info5 : (Tryz.prog.info? 5).map (fun i => (i.zero, i.size, i.bytes)) = some (some (.int .u8 0), 1, 1) := by kernel_rfl
/-- The slice v, from block B on, holds the letters l. -/
def OB (B : Nat) (v : Value) (l : List UInt8) (W : World) : Prop := W.ownsRow B 5 1 v l.length (l.map bv)
theorem OB_start {w : World} {B : Nat} (h : B ≤ w.heap.size) : OB B (.slice (some ⟨w.heap.size, 0, none⟩) 0 0) [] (w.alloc (.cells #[] 5)) := World.ownsRow_made w #[] 0 h (by decide) rfl
theorem OB_step {B : Nat} {v : Value} {l : List UInt8} {c : UInt8} {W : World} (h : W.ownsRow B 5 1 v (l.length + 1) (l.map bv ++ [bv c])) : OB B v (l ++ [c]) W := by
  unfold OB; rw [List.length_append, List.map_append]; exact h
/-- Behind an append nothing below B has turned. -/
theorem OB_below {B : Nat} {v : Value} {l : List UInt8} {w W w1 : World} {o : Obj} (hb : Below B w W) (hB : B ≤ W.heap.size) (ho : OB B v l W) (hg : (W.alloc o).grownBy w1 v.ownBlock) : Below B w w1 :=
  (hb.alloc hB o).grown hg (by simp; omega) (fun k hk => (ho.lt k hk).1)
theorem OB_belowN {B n : Nat} {v : Value} {l : List UInt8} {w W w1 : World} {o : Obj} (hb : Below B w W) (hB : B ≤ W.heap.size) (ho : OB B v l W) (hg : ((W.drewN n).alloc o).grownBy w1 v.ownBlock) : Below B w w1 :=
  OB_below (W := W.drewN n) (below_drewN hb n) hB ho hg
theorem OB_string {B : Nat} {v : Value} {l : List UInt8} {W : World} (h : OB B v l W) : (convert 77 9 v).run Tryz.prog W = .ok (.string (S l)) W := by
  rcases h.2 with ⟨rfl, hn⟩ | ⟨g, cap, cur, rfl, _⟩
  · have hl : l = [] := List.eq_nil_of_length_eq_zero hn
    subst hl
    exact run_convert_bytes_nil W 77 5 (by kernel_rfl) (by kernel_rfl) 0 0 9 (by kernel_rfl)
  · refine run_convert_bytes_back (P := Tryz.prog) W 77 9 5 ⟨g, 0, none⟩ cap l (by kernel_rfl) (by kernel_rfl) (by kernel_rfl) ?_
    intro j hj
    rw [Addr.add_lit, Nat.zero_add, World.ownsRow.cellAt h j (by omega), List.getElem?_map, List.getElem?_eq_getElem hj]
    rfl
end Go.Proofs.YtlcpmbdckmdabaaGreatDoor
namespace Go.Proofs.YtlcpmbdckmdabaaGreatDoor
open Go.RowKit
set_option maxRecDepth 100000
def notB (c : UInt8) : UInt8 := if c = 48 then 49 else if c = 49 then 48 else 120
def andB (a b : UInt8) : UInt8 := if a = 48 ∨ b = 48 then 48 else if a = 49 ∧ b = 49 then 49 else 120
def orB (a b : UInt8) : UInt8 := notB (andB (notB a) (notB b))
def xorB (a b : UInt8) : UInt8 := orB (andB a (notB b)) (andB (notB a) b)
/-- The truth of a vector: 1 if there is a 1, 0 if all is 0, else x. -/
def truthL (l : List UInt8) : UInt8 := if l.any Vb.oneB then 49 else if l.all (fun c => c == 48) then 48 else 120
theorem is8 (c : UInt8) (n : Nat) (hn : n < 256) : (c = UInt8.ofNat n ∧ (c.toNat : Int) = n) ∨ (¬ c = UInt8.ofNat n ∧ ((c.toNat : Int) == n) = false ∧ ((c.toNat : Int) != n) = true) := by
  by_cases h : c = UInt8.ofNat n
  · exact .inl ⟨h, by rw [h, UInt8.toNat_ofNat']; omega⟩
  · exact .inr ⟨h, u8_nq n hn h, u8_ne n hn h⟩
set_option maxHeartbeats 400000 in
theorem sNot (c : UInt8) (w : World) :
    Calls Tryz.prog 112 #[.int .u8 (c.toNat : Int)] w fun e w' => e = .returned (.int .u8 ((notB c).toNat : Int)) ∧ w' = w := by
  by_cases h0 : c = 48
  · subst h0
    go_enter Tryz.func112, Tryz.ntmps112
    go_wp2
    go_ret
    exact ⟨rfl, rfl⟩
  · by_cases h1 : c = 49
    · subst h1
      go_enter Tryz.func112, Tryz.ntmps112
      go_wp2
      go_ret
      exact ⟨rfl, rfl⟩
    · have n1 : ((c.toNat : Int) == 48) = false := u8_nq 48 (by omega) h0
      have n2 : ((c.toNat : Int) == 49) = false := u8_nq 49 (by omega) h1
      rw [show notB c = 120 by unfold notB; rw [if_neg h0, if_neg h1]]
      clear h0 h1
      go_enter Tryz.func112, Tryz.ntmps112
      go_wp2
      go_ret
      exact ⟨rfl, rfl⟩
set_option maxHeartbeats 400000 in
theorem sAnd (a b : UInt8) (w : World) :
    Calls Tryz.prog 90 #[.int .u8 (a.toNat : Int), .int .u8 (b.toNat : Int)] w fun e w' => e = .returned (.int .u8 ((andB a b).toNat : Int)) ∧ w' = w := by
  by_cases h0 : a = 48
  · subst h0
    rw [show andB 48 b = 48 by unfold andB; rw [if_pos (.inl rfl)]]
    go_enter Tryz.func90, Tryz.ntmps90
    go_wp2
    go_ret
    exact ⟨rfl, rfl⟩
  · have n1 : ((a.toNat : Int) == 48) = false := u8_nq 48 (by omega) h0
    by_cases h1 : b = 48
    · subst h1
      rw [show andB a 48 = 48 by unfold andB; rw [if_pos (.inr rfl)]]
      clear h0
      go_enter Tryz.func90, Tryz.ntmps90
      go_wp2
      go_ret
      exact ⟨rfl, rfl⟩
    · have n2 : ((b.toNat : Int) == 48) = false := u8_nq 48 (by omega) h1
      by_cases h2 : a = 49
      · by_cases h3 : b = 49
        · subst h2 h3
          clear h0 h1 n1 n2
          go_enter Tryz.func90, Tryz.ntmps90
          go_wp2
          go_ret
          exact ⟨rfl, rfl⟩
        · have n3 : ((b.toNat : Int) == 49) = false := u8_nq 49 (by omega) h3
          rw [show andB a b = 120 by unfold andB; rw [if_neg (by simp [h0, h1]), if_neg (by simp [h3])]]
          subst h2
          clear h0 h1 h3 n1
          go_enter Tryz.func90, Tryz.ntmps90
          go_wp2
          go_ret
          exact ⟨rfl, rfl⟩
      · have n3 : ((a.toNat : Int) == 49) = false := u8_nq 49 (by omega) h2
        rw [show andB a b = 120 by unfold andB; rw [if_neg (by simp [h0, h1]), if_neg (by simp [h2])]]
        clear h0 h1 h2
        go_enter Tryz.func90, Tryz.ntmps90
        go_wp2
        go_ret
        exact ⟨rfl, rfl⟩
set_option maxHeartbeats 400000 in
theorem sOr (a b : UInt8) (w : World) :
    Calls Tryz.prog 89 #[.int .u8 (a.toNat : Int), .int .u8 (b.toNat : Int)] w fun e w' => e = .returned (.int .u8 ((orB a b).toNat : Int)) ∧ w' = w := by
  go_enter Tryz.func89, Tryz.ntmps89
  go_wp2_with (first | (go_at_call 112; refine (sNot _ _).mono ?_; rintro e w' ⟨rfl, rfl⟩) | (go_at_call 90; refine (sAnd _ _ _).mono ?_; rintro e w' ⟨rfl, rfl⟩))
  go_ret
  exact ⟨rfl, rfl⟩
set_option maxHeartbeats 400000 in
theorem sXor (a b : UInt8) (w : World) :
    Calls Tryz.prog 88 #[.int .u8 (a.toNat : Int), .int .u8 (b.toNat : Int)] w fun e w' => e = .returned (.int .u8 ((xorB a b).toNat : Int)) ∧ w' = w := by
  go_enter Tryz.func88, Tryz.ntmps88
  go_wp2_with (first | (go_at_call 112; refine (sNot _ _).mono ?_; rintro e w' ⟨rfl, rfl⟩) | (go_at_call 90; refine (sAnd _ _ _).mono ?_; rintro e w' ⟨rfl, rfl⟩) | (go_at_call 89; refine (sOr _ _ _).mono ?_; rintro e w' ⟨rfl, rfl⟩))
  go_ret
  exact ⟨rfl, rfl⟩
end Go.Proofs.YtlcpmbdckmdabaaGreatDoor
namespace Go.Proofs.YtlcpmbdckmdabaaGreatDoor
open Go.RowKit
set_option maxRecDepth 100000
theorem any_step {p : UInt8 → Bool} {s : ByteArray} (k : Nat) (hk : k < s.size) : ((L s).take (k + 1)).any p = (((L s).take k).any p || p s[k]) := by
  rw [L_take s k hk, List.any_append]; simp
theorem all_stepB {p : UInt8 → Bool} {s : ByteArray} (k : Nat) (hk : k < s.size) : ((L s).take (k + 1)).all p = (((L s).take k).all p && p s[k]) := by
  rw [L_take s k hk, List.all_append]; simp
theorem any_of {p : UInt8 → Bool} {s : ByteArray} (k : Nat) (hk : k < s.size) (h : p s[k] = true) : (L s).any p = true :=
  List.any_eq_true.2 ⟨_, L_mem s k hk, h⟩
theorem ret_u8 {a b : UInt8} (h : a = b) : Ending.returned (.int .u8 (a.toNat : Int)) = .returned (.int .u8 (b.toNat : Int)) := by rw [h]
def zeroB (c : UInt8) : Bool := c == 48
set_option maxHeartbeats 400000 in
theorem sTruth (s : ByteArray) (w : World) (hs : s.size ≤ maxLen) :
    Calls Tryz.prog 53 #[.string s] w fun e w' => e = .returned (.int .u8 ((truthL (L s)).toNat : Int)) ∧ w' = w := by
  unfold maxLen at hs
  go_enter Tryz.func53, Tryz.ntmps53
  go_wp2
  go_loop [3, 4] (fun c i => ∃ k : Nat, k ≤ s.size ∧ i = .int .i64 k ∧ ((L s).take k).any Vb.oneB = false ∧ ∃ x : UInt8, c = .int .u8 (x.toNat : Int) ∧ x = (if ((L s).take k).all zeroB then 48 else 120)) (fun _ i => s.size - (intOf i).toNat)
  case atStart => exact ⟨0, Nat.zero_le _, rfl, by simp, 48, rfl, by simp⟩
  case round =>
    obtain ⟨k, hk, rfl, hno, x, rfl, hx⟩ := hrel
    have HN := hide hno
    have HX := hide hx
    clear hno hx
    by_cases hlt : k < s.size
    · by_cases e1 : s[k] = 49
      · have e' : (s[k].toNat : Int) = 49 := by rw [e1]; rfl
        have HA : Hid (truthL (L s) = 49) := by
          have : (L s).any Vb.oneB = true := any_of k hlt (by rw [e1]; rfl)
          show _ = _; unfold truthL; rw [this]; rfl
        clear e1
        go_wp2
        go_ret
        exact ⟨by rw [unhide HA]; rfl, rfl⟩
      · have n1 : ((s[k].toNat : Int) == 49) = false := u8_nq 49 (by omega) e1
        have HS : Hid (((L s).take (k + 1)).any Vb.oneB = false) := by
          show _ = false; rw [any_step k hlt, unhide HN]; simp [Vb.oneB, e1]
        by_cases e0 : s[k] = 48
        · have e' : (s[k].toNat : Int) = 48 := by rw [e0]; rfl
          have HT : Hid (x = (if ((L s).take (k + 1)).all zeroB then 48 else 120)) := by
            show _ = _; rw [all_stepB k hlt, e0, unhide HX]; simp [zeroB]
          clear e0 e1 n1
          go_wp2
          go_round
          case rel => exact ⟨k + 1, by omega, by go_num, unhide HS, x, rfl, unhide HT⟩
          case measure => simp [intOf]; omega
        · have n0 : ((s[k].toNat : Int) != 48) = true := u8_ne 48 (by omega) e0
          have HT : Hid ((120 : UInt8) = (if ((L s).take (k + 1)).all zeroB then 48 else 120)) := by
            show _ = _; rw [all_stepB k hlt]; simp [zeroB, e0]
          clear e0 e1
          go_wp2
          go_round
          case rel => exact ⟨k + 1, by omega, by go_num, unhide HS, 120, rfl, unhide HT⟩
          case measure => simp [intOf]; omega
    · go_wp2
      go_ret
      refine ⟨ret_u8 ?_, rfl⟩
      have h := unhide HN
      have h' := unhide HX
      rw [L_take_all s k (by omega)] at h h'
      rw [h']; unfold truthL; rw [h]; rfl
theorem one_string (c : Int) (x : UInt8) (h : c = (x.toNat : Int)) (W : World) : (convert 77 9 (.slice (some ⟨W.heap.size, 0, none⟩) 1 1)).run Tryz.prog (W.alloc (.cells #[.int .u8 c] 5)) = .ok (.string (S [x])) (W.alloc (.cells #[.int .u8 c] 5)) := by
  subst h
  refine run_convert_bytes_back (P := Tryz.prog) _ 77 9 5 ⟨W.heap.size, 0, none⟩ 1 [x] (by kernel_rfl) (by kernel_rfl) (by kernel_rfl) ?_
  intro j hj
  have : j = 0 := by simp at hj; omega
  subst this
  rw [Addr.add_lit, World.cell?_alloc_new]; rfl
theorem S_snoc (l : List UInt8) (c : UInt8) : S l ++ S [c] = S (l ++ [c]) := by
  apply L_inj; rw [L_append, L_S, L_S, L_S]
set_option maxHeartbeats 400000 in
theorem sFill (c : UInt8) (n : Nat) (w : World) (hn : n ≤ 8192) :
    Calls Tryz.prog 51 #[.int .u8 (c.toNat : Int), .int .i64 n] w fun e w' => e = .returned (.string (S (List.replicate n c))) ∧ Below w.heap.size w w' := by
  have hcv := one_string (c.toNat : Int) c rfl
  go_enter Tryz.func51, Tryz.ntmps51
  go_wp2
  go_loopw [5, 6] (fun o i wr => ∃ k : Nat, k ≤ n ∧ i = .int .i64 k ∧ o = .string (S (List.replicate k c)) ∧ Below w.heap.size w wr) (fun _ i _ => n - (intOf i).toNat)
  case atStart => exact ⟨0, Nat.zero_le _, rfl, rfl, brf _⟩
  case round =>
    obtain ⟨k, hk, rfl, rfl, hbel⟩ := hrel
    have hz : (S (List.replicate k c)).size = k := by rw [S_size]; simp
    have st : S (List.replicate k c) ++ S [c] = S (List.replicate (k + 1) c) := by rw [S_snoc, List.replicate_succ']
    have hz1 : (S [c]).size = 1 := by rw [S_size]; rfl
    have ST := hide st
    clear st
    by_cases hlt : k < n
    · generalize S (List.replicate k c) = T at *
      generalize S [c] = C at *
      go_wp2
      exact ⟨⟨k + 1, by omega, by go_num, congrArg Value.string (unhide ST), bal hbel _⟩, by simp [intOf]; omega⟩
    · have : k = n := by omega
      subst this
      go_wp2
      go_ret
      exact ⟨rfl, hbel⟩
end Go.Proofs.YtlcpmbdckmdabaaGreatDoor
namespace Go.Proofs.YtlcpmbdckmdabaaGreatDoor
open Go.RowKit
set_option maxRecDepth 100000
theorem sTr (s : ByteArray) (w : World) (t : UInt8) (hs : s.size ≤ maxLen) (ht : truthL (L s) = t) : Calls Tryz.prog 53 #[.string s] w fun e w' => e = .returned (.int .u8 (t.toNat : Int)) ∧ w = w' :=
  (sTruth s w hs).mono fun _ _ ⟨h, h'⟩ => ⟨by rw [h, ht], h'.symm⟩
/-- What two letters have in common. -/
def mixB (a b : UInt8) : UInt8 := if a = b ∧ (a = 48 ∨ a = 49) then a else 120
theorem zip_step (f : UInt8 → UInt8 → UInt8) (a b : ByteArray) (k : Nat) (ha : k < a.size) (hb : k < b.size) : List.zipWith f ((L a).take (k + 1)) ((L b).take (k + 1)) = List.zipWith f ((L a).take k) ((L b).take k) ++ [f a[k] b[k]] := by
  rw [L_take a k ha, L_take b k hb, List.zipWith_append (by simp [L_len]; omega)]; rfl
theorem zip_len (f : UInt8 → UInt8 → UInt8) (a b : ByteArray) (k : Nat) (ha : k ≤ a.size) (hb : k ≤ b.size) : (List.zipWith f ((L a).take k) ((L b).take k)).length = k := by
  simp [L_len]; omega
/-- The choice between two texts. -/
def choL (c a b : List UInt8) : List UInt8 := if truthL c = 49 then a else if truthL c = 48 then b else List.zipWith mixB a b
theorem truthL_cases (l : List UInt8) : truthL l = 49 ∨ truthL l = 48 ∨ truthL l = 120 := by
  unfold truthL; split
  · exact .inl rfl
  · split
    · exact .inr (.inl rfl)
    · exact .inr (.inr rfl)
end Go.Proofs.YtlcpmbdckmdabaaGreatDoor
namespace Go.Proofs.YtlcpmbdckmdabaaGreatDoor
open Go.RowKit
set_option maxRecDepth 100000
/-- The letter of a bit. -/
def bl (b : Bool) : UInt8 := if b then 49 else 48
theorem bl_one (b : Bool) : Vb.oneB (bl b) = b := by cases b <;> rfl
theorem kn_bl {c : UInt8} (h : Vb.knB c = true) : c = bl (Vb.oneB c) := Vb.known_bit h
theorem add_sum (a b x : Bool) : xorB (xorB (bl a) (bl b)) (bl x) = bl (decide ((a.toNat + b.toNat + x.toNat) % 2 = 1)) := by cases a <;> cases b <;> cases x <;> rfl
theorem add_carry (a b x : Bool) : orB (andB (bl a) (bl b)) (andB (bl x) (orB (bl a) (bl b))) = bl (decide ((a.toNat + b.toNat + x.toNat) / 2 = 1)) := by cases a <;> cases b <;> cases x <;> rfl
theorem bit_le (a : Bool) : a.toNat ≤ 1 := by cases a <;> simp
theorem nTxt_step (j v d : Nat) (x : Bool) (hx : v / 2 ^ j = x.toNat) (a b : Bool) (hd : d = (a.toNat + b.toNat) * 2 ^ j + v) :
    Vb.nTxt (j + 1) d = bl (decide ((a.toNat + b.toNat + x.toNat) % 2 = 1)) :: Vb.nTxt j v ∧ d / 2 ^ (j + 1) = (decide ((a.toNat + b.toNat + x.toNat) / 2 = 1)).toNat := by
  have hp : 0 < 2 ^ j := Nat.two_pow_pos j
  have hq : d / 2 ^ j = a.toNat + b.toNat + x.toNat := by
    rw [hd, Nat.add_comm, Nat.add_mul_div_right _ _ hp, hx]; omega
  constructor
  · rw [Vb.nTxt, Nat.testBit_eq_decide_div_mod_eq, hq]
    have e : Vb.nTxt j d = Vb.nTxt j v := Vb.nTxt_congr (by rw [hd, Nat.add_comm, Nat.add_mul_mod_self_right])
    rw [e]; rfl
  · rw [Nat.pow_succ, ← Nat.div_div_eq_div_mul, hq]
    have := bit_le a; have := bit_le b; have := bit_le x
    have h : (a.toNat + b.toNat + x.toNat) / 2 = 0 ∨ (a.toNat + b.toNat + x.toNat) / 2 = 1 := by omega
    rcases h with h | h <;> simp [h]
set_option maxHeartbeats 400000 in
theorem sAdd (a b : ByteArray) (c : Bool) (w : World) (ha : a.size ≤ 70) (hl : a.size = b.size) (ka : (L a).all Vb.knB = true) (kb : (L b).all Vb.knB = true) :
    Calls Tryz.prog 67 #[.string a, .string b, .int .u8 ((bl c).toNat : Int)] w fun e w' => e = .returned (.string (S (Vb.nTxt a.size (Vb.num (L a) + Vb.num (L b) + c.toNat)))) ∧ Below w.heap.size w w' := by
  have HL := hide hl
  have hb : b.size ≤ 70 := by omega
  have KA := hide ka
  have KB := hide kb
  clear hl ka kb
  go_enter Tryz.func67, Tryz.ntmps67
  go_wp2
  go_loopw [2, 7, 8] (fun x o i wr => ∃ m : Nat, m ≤ a.size ∧ i = .int .i64 ((m : Int) - 1) ∧ (∃ X : Bool, x = .int .u8 ((bl X).toNat : Int) ∧ (Vb.num ((L a).drop m) + Vb.num ((L b).drop m) + c.toNat) / 2 ^ (a.size - m) = X.toNat) ∧ o = .string (S (Vb.nTxt (a.size - m) (Vb.num ((L a).drop m) + Vb.num ((L b).drop m) + c.toNat))) ∧ Below w.heap.size w wr) (fun _ _ i _ => (intOf i + 1).toNat)
  case atStart =>
    refine ⟨a.size, Nat.le_refl _, rfl, ⟨c, rfl, ?_⟩, ?_, brf _⟩
    · rw [List.drop_of_length_le (by rw [L_len]; exact Nat.le_refl _), List.drop_of_length_le (by rw [L_len, ← unhide HL]; exact Nat.le_refl _)]; simp [Vb.num]
    · rw [Nat.sub_self]; rfl
  case round =>
    obtain ⟨m, hm, rfl, ⟨X, rfl, hX⟩, rfl, hbel⟩ := hrel
    cases m with
    | zero =>
      have HX := hide hX
      clear hX
      rw [List.drop_zero, List.drop_zero, Nat.sub_zero]
      generalize hT : S (Vb.nTxt a.size (Vb.num (L a) + Vb.num (L b) + c.toNat)) = T
      have HT := hide hT
      clear hT
      go_wp2
      go_ret
      exact ⟨ret_str (unhide HT).symm, hbel⟩
    | succ m =>
      have hma : m < a.size := by omega
      have hmb : m < b.size := by have := unhide HL; omega
      have st := nTxt_step (a.size - (m + 1)) _ (Vb.num ((L a).drop m) + Vb.num ((L b).drop m) + c.toNat) X hX (Vb.oneB a[m]) (Vb.oneB b[m]) (by
        rw [L_drop a m hma, L_drop b m hmb, Vb.num_cons, Vb.num_cons, List.length_drop, List.length_drop, L_len, L_len, ← unhide HL, Nat.add_mul]; omega)
      rw [show a.size - (m + 1) + 1 = a.size - m by omega] at st
      have e1 := kn_bl (all_of (unhide KA) m hma)
      have e2 := kn_bl (all_of (unhide KB) m hmb)
      have hz : (S (Vb.nTxt (a.size - (m + 1)) (Vb.num ((L a).drop (m + 1)) + Vb.num ((L b).drop (m + 1)) + c.toNat))).size = a.size - (m + 1) := by rw [S_size, Vb.nTxt_len]
      have ST := hide st
      clear hX st
      generalize hA : Vb.oneB a[m] = A at *
      generalize hB : Vb.oneB b[m] = B at *
      clear hA hB
      generalize hT : S (Vb.nTxt (a.size - (m + 1)) (Vb.num ((L a).drop (m + 1)) + Vb.num ((L b).drop (m + 1)) + c.toNat)) = T at *
      have HT := hide hT
      clear hT
      rw [show (((m + 1 : Nat) : Int) - 1) = (m : Int) by omega]
      have hcv := one_string ((xorB (xorB (bl A) (bl B)) (bl X)).toNat : Int) (xorB (xorB (bl A) (bl B)) (bl X)) rfl
      have hz1 : (S [xorB (xorB (bl A) (bl B)) (bl X)]).size = 1 := by rw [S_size]; rfl
      go_wp2
      go_quiet ((go_at_call 88; exact Calls.quiet_of_same (sXor _ _ _)))
      have hbq := below_drewN hbel nq
      generalize wr.drewN nq = wq at *
      go_wp2_with fail
      go_quiet ((first | (go_at_call 90; exact Calls.quiet_of_same (sAnd _ _ _)) | (go_at_call 89; exact Calls.quiet_of_same (sOr _ _ _))))
      have hbr := below_drewN hbq nq
      generalize wq.drewN nq = wp at *
      go_wp2
      refine ⟨⟨m, by omega, rfl, ⟨_, by rw [add_carry], (unhide ST).2⟩, congrArg Value.string (by rw [(unhide ST).1, add_sum, ← unhide HT, S_app]), bal hbr _⟩, by simp [intOf]⟩
theorem num_fill0 (n : Nat) : Vb.num (List.replicate n 48) = 0 := by
  induction n with
  | zero => rfl
  | succ n ih => rw [List.replicate_succ, Vb.num_cons, ih]; simp [Vb.oneB]
theorem known_fill0 (n : Nat) : (List.replicate n (48 : UInt8)).all Vb.knB = true := by
  rw [List.all_eq_true]; intro c hc; rw [(List.mem_replicate.1 hc).2]; rfl
theorem known_not {l : List UInt8} (h : l.all Vb.knB = true) : (l.map notB).all Vb.knB = true := by
  rw [List.all_map, List.all_eq_true]
  intro c hc
  have := kn_bl (List.all_eq_true.1 h c hc)
  rw [this]; cases Vb.oneB c <;> rfl
theorem num_not {l : List UInt8} (h : l.all Vb.knB = true) : Vb.num (l.map notB) + Vb.num l + 1 = 2 ^ l.length := by
  induction l with
  | nil => rfl
  | cons c l ih =>
    rw [List.all_cons, Bool.and_eq_true] at h
    have hi := ih h.2
    rw [List.map_cons, Vb.num_cons, Vb.num_cons, List.length_map, List.length_cons, Nat.pow_succ]
    have hc := kn_bl h.1
    rw [hc]
    cases Vb.oneB c
    · have : Vb.oneB (notB (bl false)) = true := rfl
      rw [this, bl_one]; simp; omega
    · have : Vb.oneB (notB (bl true)) = false := rfl
      rw [this, bl_one]; simp; omega
theorem neg_num {l : List UInt8} (h : l.all Vb.knB = true) : Vb.nTxt l.length (0 + Vb.num (l.map notB) + 1) = Vb.nTxt l.length (2 ^ l.length - Vb.num l) := by
  have := num_not h
  rw [show 0 + Vb.num (l.map notB) + 1 = 2 ^ l.length - Vb.num l by omega]
theorem sub_num {a b : List UInt8} (h : b.all Vb.knB = true) (hl : a.length = b.length) : Vb.nTxt a.length (Vb.num a + Vb.num (b.map notB) + 1) = Vb.nTxt a.length (Vb.num a + (2 ^ a.length - Vb.num b)) := by
  have := num_not h
  rw [hl, show Vb.num a + Vb.num (b.map notB) + 1 = Vb.num a + (2 ^ b.length - Vb.num b) by omega]
end Go.Proofs.YtlcpmbdckmdabaaGreatDoor
