/- Parts of the proof: Bits to NB3. -/
import Derived.WalkKit
import Derived.Laws.BitsAllLaws
import Derived.Test.YtddlokkejglckaaGreatDoorProg
import Derived.WalkSpells
import Derived.WalkLawsBesides
namespace Vb

def isV (c : UInt8) : Bool := c == 48 || c == 49 || c == 120 || c == 122
def knB (c : UInt8) : Bool := c == 48 || c == 49
def whB (c : UInt8) : Bool := c == 49 || c == 122
def okV (l : List UInt8) : Bool := decide (1 ≤ l.length) && (decide (l.length ≤ 64) && l.all isV)
def letter (k h : Bool) : UInt8 := if k then (if h then 49 else 48) else (if h then 122 else 120)

theorem letter_of (c : UInt8) (h : isV c = true) : letter (knB c) (whB c) = c := by
 unfold isV at h
 simp only [Bool.or_eq_true, beq_iff_eq] at h
 rcases h with ((rfl | rfl) | rfl) | rfl <;> rfl

def push (p : UInt8 → Bool) (a : BitVec 64) (c : UInt8) : BitVec 64 := (a <<< 1) ||| (if p c then 1#64 else 0#64)
def word (p : UInt8 → Bool) (l : List UInt8) : BitVec 64 := l.foldl (push p) 0#64
theorem word_nil (p : UInt8 → Bool) : word p [] = 0#64 := rfl
theorem word_snoc (p : UInt8 → Bool) (l : List UInt8) (c : UInt8) : word p (l ++ [c]) = push p (word p l) c := by
 simp [word, List.foldl_append]

theorem getLsbD_push (p : UInt8 → Bool) (a : BitVec 64) (c : UInt8) (i : Nat) :
   (push p a c).getLsbD i = (decide (i < 64) && (if i = 0 then p c else a.getLsbD (i - 1))) := by
 unfold push
 rw [BitVec.getLsbD_or, BitVec.getLsbD_shiftLeft]
 rcases Nat.eq_zero_or_pos i with rfl | hi
 · cases p c <;> simp
 · have h0 : i ≠ 0 := by omega
   have h1 : ¬ i < 1 := by omega
   cases p c <;> simp [h0, h1, BitVec.getLsbD_one]

def rat (l : List UInt8) (i : Nat) : Option UInt8 := l.reverse[i]?

theorem rat_snoc (l : List UInt8) (c : UInt8) (i : Nat) : rat (l ++ [c]) i = if i = 0 then some c else rat l (i - 1) := by
 unfold rat
 rw [List.reverse_append]
 cases i <;> simp

theorem getLsbD_word (p : UInt8 → Bool) (l : List UInt8) (i : Nat) :
   (word p l).getLsbD i = (decide (i < 64) && ((rat l i).map p).getD false) := by
 have h : ∀ (r : List UInt8) (i : Nat), (word p r.reverse).getLsbD i = (decide (i < 64) && ((r[i]?).map p).getD false) := by
   intro r
   induction r with
   | nil => intro i; simp [word_nil]
   | cons c r ih =>
     intro i
     rw [List.reverse_cons, word_snoc, getLsbD_push]
     cases i with
     | zero => simp
     | succ i =>
       simp only [Nat.add_one_ne_zero, if_false, Nat.add_sub_cancel, ih, List.getElem?_cons_succ]
       by_cases h : i + 1 < 64
       · have : i < 64 := by omega
         simp [h, this]
       · simp [h]
 have := h l.reverse i
 rwa [List.reverse_reverse] at this

def txt : Nat → BitVec 64 → BitVec 64 → List UInt8
 | 0, _, _ => []
 | n + 1, k, h => letter (k.getLsbD n) (h.getLsbD n) :: txt n k h

theorem txt_len (n : Nat) (k h : BitVec 64) : (txt n k h).length = n := by
 induction n with
 | zero => rfl
 | succ n ih => simp [txt, ih]

theorem rat_cons (c : UInt8) (l : List UInt8) (i : Nat) : rat (c :: l) i = if i < l.length then rat l i else if i = l.length then some c else none := by
 unfold rat
 rw [List.reverse_cons, List.getElem?_append]
 simp only [List.length_reverse]
 by_cases h : i < l.length
 · simp [h]
 · by_cases e : i = l.length
   · subst e; simp
   · have : i - l.length ≠ 0 := by omega
     obtain ⟨m, hm⟩ := Nat.exists_eq_succ_of_ne_zero this
     simp [h, e, hm]

theorem rat_txt (n : Nat) (k h : BitVec 64) (i : Nat) : rat (txt n k h) i = if i < n then some (letter (k.getLsbD i) (h.getLsbD i)) else none := by
 induction n with
 | zero => simp [txt, rat]
 | succ n ih =>
   rw [txt, rat_cons, txt_len, ih]
   by_cases h1 : i < n
   · have : i < n + 1 := by omega
     simp [h1, this]
   · by_cases h2 : i = n
     · subst h2; simp
     · have : ¬ i < n + 1 := by omega
       simp [h1, h2, this]

theorem rat_ext {a b : List UInt8} (h : ∀ i, rat a i = rat b i) : a = b := by
 have : a.reverse = b.reverse := List.ext_getElem? h
 simpa using congrArg List.reverse this

theorem rat_none {l : List UInt8} {i : Nat} (h : l.length ≤ i) : rat l i = none := by
 unfold rat; simp [h]
theorem rat_some {l : List UInt8} {i : Nat} (h : i < l.length) : ∃ c, rat l i = some c ∧ c ∈ l := by
 unfold rat
 have h' : i < l.reverse.length := by simpa using h
 exact ⟨l.reverse[i], by rw [List.getElem?_eq_getElem h'], by simp⟩

def kn (l : List UInt8) : BitVec 64 := word knB l
def wh (l : List UInt8) : BitVec 64 := word whB l

theorem txt_of {l : List UInt8} (h : l.all isV = true) (hl : l.length ≤ 64) : txt l.length (kn l) (wh l) = l := by
 apply rat_ext
 intro i
 rw [rat_txt]
 by_cases hi : i < l.length
 · obtain ⟨c, hc, hm⟩ := rat_some hi
   have hv : isV c = true := by
     rw [List.all_eq_true] at h; exact h c hm
   have h64 : i < 64 := by omega
   simp only [hi, if_true, kn, wh, getLsbD_word, hc, h64, decide_true, Bool.true_and, Option.map_some, Option.getD_some]
   rw [letter_of c hv]
 · rw [if_neg hi, rat_none (by omega)]


def oneB (c : UInt8) : Bool := c == 49
def num (l : List UInt8) : Nat := l.foldl (fun a c => 2 * a + (oneB c).toNat) 0
theorem num_nil : num [] = 0 := rfl
theorem num_snoc (l : List UInt8) (c : UInt8) : num (l ++ [c]) = 2 * num l + (oneB c).toNat := by
 simp [num, List.foldl_append]
theorem num_append (a b : List UInt8) : num (a ++ b) = num a * 2 ^ b.length + num b := by
 have h : ∀ r : List UInt8, num (a ++ r.reverse) = num a * 2 ^ r.length + num r.reverse := by
   intro r
   induction r with
   | nil => simp [num_nil]
   | cons c r ih =>
     rw [List.reverse_cons, ← List.append_assoc, num_snoc, num_snoc, ih, List.length_cons, Nat.pow_succ, Nat.mul_add]
     have : 2 * (num a * 2 ^ r.length) = num a * (2 ^ r.length * 2) := by
       rw [Nat.mul_left_comm, Nat.mul_comm 2 (2 ^ r.length)]
     omega
 have := h b.reverse
 rwa [List.reverse_reverse, List.length_reverse] at this
theorem num_cons (c : UInt8) (l : List UInt8) : num (c :: l) = (oneB c).toNat * 2 ^ l.length + num l := by
 have := num_append [c] l
 simpa [num] using this
theorem num_lt (l : List UInt8) : num l < 2 ^ l.length := by
 induction l with
 | nil => simp [num_nil]
 | cons c l ih =>
   rw [num_cons, List.length_cons, Nat.pow_succ]
   cases oneB c <;> simp <;> omega
theorem testBit_num (l : List UInt8) (i : Nat) : (num l).testBit i = ((rat l i).map oneB).getD false := by
 have h : ∀ (r : List UInt8) (i : Nat), (num r.reverse).testBit i = ((r[i]?).map oneB).getD false := by
   intro r
   induction r with
   | nil => intro i; simp [num_nil]
   | cons c r ih =>
     intro i
     rw [List.reverse_cons, num_snoc]
     cases i with
     | zero => cases hc : oneB c <;> simp [Nat.testBit_zero, hc] <;> omega
     | succ i =>
       rw [Nat.testBit_succ]
       have e : (2 * num r.reverse + (oneB c).toNat) / 2 = num r.reverse := by cases oneB c <;> simp <;> omega
       rw [e, ih]; simp
 have := h l.reverse i
 rwa [List.reverse_reverse] at this
theorem known_bit {c : UInt8} (h : knB c = true) : c = if oneB c then 49 else 48 := by
 unfold knB at h
 simp only [Bool.or_eq_true, beq_iff_eq] at h
 rcases h with rfl | rfl <;> rfl
theorem known_ext {a b : List UInt8} (ha : a.all knB = true) (hb : b.all knB = true) (hl : a.length = b.length) (hn : num a = num b) : a = b := by
 apply rat_ext
 intro i
 by_cases hi : i < a.length
 · obtain ⟨c, hc, hm⟩ := rat_some hi
   obtain ⟨d, hd, hm'⟩ := rat_some (l := b) (i := i) (by omega)
   have h1 := testBit_num a i
   have h2 := testBit_num b i
   rw [hn, h2, hc, hd] at h1
   simp only [Option.map_some, Option.getD_some] at h1
   rw [hc, hd, known_bit (List.all_eq_true.1 ha c hm), known_bit (List.all_eq_true.1 hb d hm'), h1]
 · rw [rat_none (by omega), rat_none (by omega)]

def nTxt : Nat → Nat → List UInt8
 | 0, _ => []
 | n + 1, v => (if v.testBit n then 49 else 48) :: nTxt n v
theorem nTxt_len (n v : Nat) : (nTxt n v).length = n := by
 induction n with
 | zero => rfl
 | succ n ih => simp [nTxt, ih]
theorem nTxt_known (n v : Nat) : (nTxt n v).all knB = true := by
 induction n with
 | zero => rfl
 | succ n ih =>
   rw [nTxt, List.all_cons, ih]
   cases v.testBit n <;> rfl
theorem num_nTxt (n v : Nat) : num (nTxt n v) = v % 2 ^ n := by
 induction n with
 | zero => simp [nTxt, num_nil, Nat.mod_one]
 | succ n ih =>
   rw [nTxt, num_cons, nTxt_len, ih]
   have h : v % 2 ^ (n + 1) = 2 ^ n * (v / 2 ^ n % 2) + v % 2 ^ n := by
     rw [Nat.pow_succ, Nat.mod_mul]; omega
   rw [h, Nat.testBit_eq_decide_div_mod_eq]
   have : v / 2 ^ n % 2 = 0 ∨ v / 2 ^ n % 2 = 1 := by omega
   rcases this with e | e <;> simp [e, oneB, Nat.mul_comm]
theorem eq_nTxt {l : List UInt8} {v : Nat} (h : l.all knB = true) (hn : num l = v % 2 ^ l.length) : l = nTxt l.length v :=
 known_ext h (nTxt_known _ _) (nTxt_len _ _).symm (by rw [num_nTxt, hn])
theorem nTxt_congr {n u v : Nat} (h : u % 2 ^ n = v % 2 ^ n) : nTxt n u = nTxt n v :=
 known_ext (nTxt_known _ _) (nTxt_known _ _) (by simp [nTxt_len]) (by rw [num_nTxt, num_nTxt, h])
theorem nTxt_num {l : List UInt8} (h : l.all knB = true) : nTxt l.length (num l) = l :=
 (eq_nTxt h (Nat.mod_eq_of_lt (num_lt l)).symm).symm
theorem rat_nTxt (n v i : Nat) : rat (nTxt n v) i = if i < n then some (if v.testBit i then 49 else 48) else none := by
 induction n with
 | zero => simp [nTxt, rat]
 | succ n ih =>
   rw [nTxt, rat_cons, nTxt_len, ih]
   by_cases h1 : i < n
   · have : i < n + 1 := by omega
     simp [h1, this]
   · by_cases h2 : i = n
     · subst h2; simp
     · have : ¬ i < n + 1 := by omega
       simp [h1, h2, this]

def ones (n : Nat) : BitVec 64 := BitVec.ofNat 64 (2 ^ n - 1)
theorem getLsbD_ones (n i : Nat) : (ones n).getLsbD i = (decide (i < 64) && decide (i < n)) := by
 unfold ones
 rw [BitVec.getLsbD_ofNat, Nat.testBit_two_pow_sub_one]
theorem txt_known (n : Nat) (k h : BitVec 64) (hk : ∀ i, i < n → k.getLsbD i = true) : txt n k h = nTxt n h.toNat := by
 apply rat_ext
 intro i
 rw [rat_txt, rat_nTxt]
 by_cases hi : i < n
 · rw [if_pos hi, if_pos hi, hk i hi]
   simp [letter, BitVec.testBit_toNat]
 · rw [if_neg hi, if_neg hi]
theorem txt_congr {n : Nat} {k h k' h' : BitVec 64} (e : ∀ i, i < n → k.getLsbD i = k'.getLsbD i ∧ h.getLsbD i = h'.getLsbD i) : txt n k h = txt n k' h' := by
 apply rat_ext
 intro i
 rw [rat_txt, rat_txt]
 by_cases hi : i < n
 · rw [if_pos hi, if_pos hi, (e i hi).1, (e i hi).2]
 · rw [if_neg hi, if_neg hi]
theorem kn_ones {l : List UInt8} (hl : l.length ≤ 64) : (kn l = ones l.length) ↔ l.all knB = true := by
 constructor
 · intro h
   rw [List.all_eq_true]
   intro c hc
   obtain ⟨j, hj, rfl⟩ := List.getElem_of_mem hc
   have h1 : (kn l).getLsbD (l.length - 1 - j) = (ones l.length).getLsbD (l.length - 1 - j) := by rw [h]
   have h64 : l.length - 1 - j < 64 := by omega
   have hlt : l.length - 1 - j < l.length := by omega
   rw [kn, getLsbD_word, getLsbD_ones] at h1
   have e : rat l (l.length - 1 - j) = some l[j] := by
     unfold rat
     rw [List.getElem?_reverse hlt, show l.length - 1 - (l.length - 1 - j) = j by omega, List.getElem?_eq_getElem hj]
   simpa [h64, hlt, e] using h1
 · intro h
   apply BitVec.eq_of_getLsbD_eq
   intro i hi
   rw [kn, getLsbD_word, getLsbD_ones]
   by_cases hl : i < l.length
   · obtain ⟨c, hc, hm⟩ := rat_some hl
     simp [hc, hl, hi, List.all_eq_true.1 h c hm]
   · rw [rat_none (by omega)]; simp [hl]
theorem wh_num {l : List UInt8} (h : l.all knB = true) : wh l = BitVec.ofNat 64 (num l) := by
 apply BitVec.eq_of_getLsbD_eq
 intro i hi
 rw [wh, getLsbD_word, BitVec.getLsbD_ofNat, testBit_num]
 by_cases hl : i < l.length
 · obtain ⟨c, hc, hm⟩ := rat_some hl
   have := List.all_eq_true.1 h c hm
   have e : whB c = oneB c := by
     rw [known_bit this]; cases oneB c <;> rfl
   simp [hc, e]
 · rw [rat_none (by omega)]; simp
theorem wh_toNat {l : List UInt8} (h : l.all knB = true) (hl : l.length ≤ 64) : (wh l).toNat = num l := by
 rw [wh_num h, BitVec.toNat_ofNat]
 apply Nat.mod_eq_of_lt
 exact Nat.lt_of_lt_of_le (num_lt l) (Nat.pow_le_pow_right (by omega) hl)
theorem ones_toNat (n : Nat) (hn : n ≤ 64) : (ones n).toNat = 2 ^ n - 1 := by
 unfold ones
 rw [BitVec.toNat_ofNat]
 apply Nat.mod_eq_of_lt
 have : 2 ^ n ≤ 2 ^ 64 := Nat.pow_le_pow_right (by omega) hn
 have : 0 < 2 ^ n := Nat.two_pow_pos n
 omega
theorem and_ones_toNat (x : BitVec 64) (n : Nat) (hn : n ≤ 64) : (x &&& ones n).toNat = x.toNat % 2 ^ n := by
 rw [BitVec.toNat_and, ones_toNat n hn, Nat.and_two_pow_sub_one_eq_mod]
theorem num_txt (n : Nat) (x : BitVec 64) (hn : n ≤ 64) : txt n (ones n) (x &&& ones n) = nTxt n x.toNat := by
 rw [txt_known n _ _ (fun i hi => by rw [getLsbD_ones]; simp [hi]; omega)]
 apply nTxt_congr
 rw [and_ones_toNat x n hn, Nat.mod_mod]
end Vb
namespace Go.Proofs.YtddlokkejglckaaGreatDoor
open Go
def U (x : BitVec 64) : Int := (x.toNat : Int)
theorem U_nonneg (x : BitVec 64) : 0 ≤ U x := by unfold U; omega
theorem U_lt (x : BitVec 64) : U x < 18446744073709551616 := by unfold U; have := x.isLt; omega
theorem U_toNat (x : BitVec 64) : (U x).toNat = x.toNat := by unfold U; omega
theorem U_inj {x y : BitVec 64} : (U x = U y) ↔ x = y := by
 unfold U; constructor
 · intro h; exact BitVec.eq_of_toNat_eq (by omega)
 · intro h; rw [h]
theorem U_beq (x y : BitVec 64) : (U x == U y) = (x == y) := by
 rw [Bool.eq_iff_iff]; simp [U_inj]
theorem U_bne (x y : BitVec 64) : (U x != U y) = (x != y) := by
 simp [bne, U_beq]
theorem U_ofNat (n : Nat) : U (BitVec.ofNat 64 n) = ((n % 18446744073709551616 : Nat) : Int) := by
 unfold U; rw [BitVec.toNat_ofNat]
theorem U_and (x y : BitVec 64) : bits .and .u64 (U x) (U y) = U (x &&& y) := by
 unfold U; rw [u64_and_nat _ _ (by have := x.isLt; omega) (by have := y.isLt; omega), BitVec.toNat_and]
theorem U_or (x y : BitVec 64) : bits .or .u64 (U x) (U y) = U (x ||| y) := by
 unfold U; rw [u64_or_nat _ _ (by have := x.isLt; omega) (by have := y.isLt; omega), BitVec.toNat_or]
theorem U_xor (x y : BitVec 64) : bits .xor .u64 (U x) (U y) = U (x ^^^ y) := by
 unfold U; rw [u64_xor_nat _ _ (by have := x.isLt; omega) (by have := y.isLt; omega), BitVec.toNat_xor]
theorem U_andNot (x y : BitVec 64) : bits .andNot .u64 (U x) (U y) = U (x &&& ~~~y) := by
 unfold U; rw [u64_andNot_nat _ _ (by have := x.isLt; omega) (by have := y.isLt; omega), BitVec.toNat_and, BitVec.toNat_not]
theorem U_wrap (n : Int) : IntKind.u64.wrap n = U (BitVec.ofInt 64 n) := by
 unfold U; rw [IntKind.wrap_u64, BitVec.toNat_ofInt]; omega
theorem U_shl (x : BitVec 64) (n : Nat) : IntKind.u64.wrap (U x * 2 ^ min n 64) = U (x <<< n) := by
 rw [IntKind.wrap_u64]; unfold U
 rw [BitVec.toNat_shiftLeft, Nat.shiftLeft_eq]
 by_cases h : n ≤ 64
 · rw [Nat.min_eq_left h, show (2 ^ 64 : Nat) = 18446744073709551616 from rfl, Int.natCast_emod, Int.natCast_mul, Int.natCast_pow]; rfl
 · rw [Nat.min_eq_right (by omega)]
   have e : x.toNat * 2 ^ n % 2 ^ 64 = 0 := by
     have : 2 ^ n = 2 ^ 64 * 2 ^ (n - 64) := by rw [← Nat.pow_add]; congr 1; omega
     rw [this, ← Nat.mul_assoc, Nat.mul_right_comm]; exact Nat.mul_mod_left _ _
   rw [e]; omega
theorem U_shr (x : BitVec 64) (n : Nat) : U x / 2 ^ min n 64 = U (x >>> n) := by
 unfold U
 rw [BitVec.toNat_ushiftRight, Nat.shiftRight_eq_div_pow]
 by_cases h : n ≤ 64
 · rw [Nat.min_eq_left h, Int.natCast_ediv, Int.natCast_pow]; rfl
 · rw [Nat.min_eq_right (by omega)]
   have e : x.toNat / 2 ^ n = 0 := by
     apply Nat.div_eq_of_lt
     exact Nat.lt_of_lt_of_le x.isLt (Nat.pow_le_pow_right (by omega) (by omega))
   rw [e]; have := x.isLt; omega
theorem U_shl1 (x : BitVec 64) : IntKind.u64.wrap (U x * 2) = U (x <<< 1) := U_shl x 1
theorem U_or1 (x : BitVec 64) : bits .or .u64 (U x) 1 = U (x ||| 1#64) := U_or x 1#64
theorem U_and1 (x : BitVec 64) : bits .and .u64 (U x) 1 = U (x &&& 1#64) := U_and x 1#64
theorem U_0 : (0 : Int) = U 0#64 := rfl
theorem U_1 : (1 : Int) = U 1#64 := rfl
theorem U_low (c : Nat) : IntKind.u64.wrap (IntKind.u64.wrap (2 ^ min c 64) - 1) = U (BitVec.ofNat 64 (2 ^ c - 1)) := by
 rw [IntKind.wrap_u64, IntKind.wrap_u64]; unfold U
 rw [BitVec.toNat_ofNat]
 by_cases h : c < 64
 · rw [Nat.min_eq_left (by omega)]
   have h1 : 2 ^ c < 2 ^ 64 := Nat.pow_lt_pow_right (by omega) h
   have h2 : 0 < 2 ^ c := Nat.two_pow_pos c
   have e : ((2 : Int) ^ c) = ((2 ^ c : Nat) : Int) := by rw [Int.natCast_pow]; rfl
   rw [e]; omega
 · rw [Nat.min_eq_right (by omega)]
   have e : 2 ^ c = 2 ^ 64 * 2 ^ (c - 64) := by rw [← Nat.pow_add]; congr 1; omega
   have h2 : 0 < 2 ^ (c - 64) := Nat.two_pow_pos _
   rw [e]; omega
end Go.Proofs.YtddlokkejglckaaGreatDoor
namespace Go.Proofs.YtddlokkejglckaaGreatDoor
open Go.RowKit
theorem h_ {p : Prop} (h : p) : Hid p := h
theorem u_ {p : Prop} (h : Hid p) : p := h
theorem bal {w w' : World} (h : Below w.heap.size w w') (o : Obj) : Below w.heap.size w (w'.alloc o) := h.alloc h.size o
theorem btr {a b c : World} (h : Below a.heap.size a b) (k : Below b.heap.size b c) : Below a.heap.size a c := h.trans (k.mono h.size)
theorem bst {w w' : World} (h : Below w.heap.size w w') {a : Addr} (ha : w.heap.size ≤ a.block) (v : Value) : Below w.heap.size w (w'.setCell a v) := h.setCell ha v
theorem brf (w : World) : Below w.heap.size w w := Below.refl _ _
theorem bcell {W w1 : World} (hb : Below W.heap.size W w1) : (∀ b o, b < W.heap.size → w1.cell? ⟨b, o, none⟩ = W.cell? ⟨b, o, none⟩) ∧ (∀ b o, b < W.heap.size → w1.frozen? ⟨b, o, none⟩ = W.frozen? ⟨b, o, none⟩) :=
 ⟨fun b o h => hb.cell (p := ⟨b, o, none⟩) h, fun b o h => hb.frozen (p := ⟨b, o, none⟩) h⟩
theorem frozen_later {W w1 : World} {b o : Nat} {v : Value} (hb : Below W.heap.size W w1) (hc : W.cell? ⟨b, o, none⟩ = some v) (hf : W.frozen? ⟨b, o, none⟩ = false) : w1.frozen? ⟨b, o, none⟩ = false := by
 rw [hb.frozen (p := ⟨b, o, none⟩) (World.block_lt_of_cell? _ _ hc)]; exact hf
theorem bdr {w w' : World} (h : Below w.heap.size w w') : Below w.heap.size w w'.drew := h.drew
theorem keep1 {X : World} {o : Obj} {a : Addr} {v : Value} (h : X.drew.cell? a = some v) : (X.alloc o).drew.cell? a = some v := cell_later (w := X) (wx := X.alloc o) (bal (brf X) o) h
def L (s : ByteArray) : List UInt8 := s.data.toList
def S (l : List UInt8) : ByteArray := ⟨l.toArray⟩
theorem L_S (l : List UInt8) : L (S l) = l := by simp [L, S]
theorem S_L (s : ByteArray) : S (L s) = s := by cases s; simp [L, S]
theorem L_inj {a b : ByteArray} (h : L a = L b) : a = b := by rw [← S_L a, ← S_L b, h]
theorem L_len (s : ByteArray) : (L s).length = s.size := by simp [L]
theorem S_size (l : List UInt8) : (S l).size = l.length := by rw [← L_len, L_S]
theorem L_get (s : ByteArray) (k : Nat) (h : k < s.size) : s[k] = (L s)[k]'(by rw [L_len]; exact h) := rfl
theorem L_take (s : ByteArray) (k : Nat) (h : k < s.size) : (L s).take (k + 1) = (L s).take k ++ [s[k]] := by
 unfold L; rw [List.take_succ_eq_append_getElem (by simpa using h)]; rfl
theorem L_drop (s : ByteArray) (k : Nat) (h : k < s.size) : (L s).drop k = s[k] :: (L s).drop (k + 1) := by
 unfold L; rw [List.drop_eq_getElem_cons (by simpa using h)]; rfl
theorem L_take_all (s : ByteArray) (k : Nat) (h : s.size ≤ k) : (L s).take k = L s := by
 rw [List.take_of_length_le (by rw [L_len]; exact h)]
theorem L_mem (s : ByteArray) (k : Nat) (h : k < s.size) : s[k] ∈ L s := by
 rw [L_get]; exact List.getElem_mem _
theorem ret_bool {a b : Bool} (h : a = b) : Ending.returned (.bool a) = .returned (.bool b) := by rw [h]
theorem ret_str {a b : ByteArray} (h : a = b) : Ending.returned (.string a) = .returned (.string b) := by rw [h]
theorem u8_eq {c : UInt8} {n : Nat} (h : (c.toNat : Int) = n) (hn : n < 256) : c = UInt8.ofNat n := by
 apply UInt8.toNat_inj.1; rw [UInt8.toNat_ofNat']; omega
theorem u8_ne {c : UInt8} (n : Nat) (hn : n < 256) (h : c ≠ UInt8.ofNat n) : ((c.toNat : Int) != n) = true := by
 rw [bne_iff_ne]; intro e; exact h (u8_eq e hn)
theorem u8_nq {c : UInt8} (n : Nat) (hn : n < 256) (h : c ≠ UInt8.ofNat n) : ((c.toNat : Int) == n) = false := by
 rw [beq_eq_false_iff_ne]; intro e; exact h (u8_eq e hn)
theorem cls (c : UInt8) : c = 48 ∨ c = 49 ∨ c = 120 ∨ c = 122 ∨ (Vb.isV c = false ∧ ((c.toNat : Int) != 48) = true ∧ ((c.toNat : Int) != 49) = true ∧ ((c.toNat : Int) != 120) = true ∧ ((c.toNat : Int) != 122) = true) := by
 by_cases h1 : c = 48
 · exact .inl h1
 by_cases h2 : c = 49
 · exact .inr (.inl h2)
 by_cases h3 : c = 120
 · exact .inr (.inr (.inl h3))
 by_cases h4 : c = 122
 · exact .inr (.inr (.inr (.inl h4)))
 exact .inr (.inr (.inr (.inr ⟨by simp [Vb.isV, h1, h2, h3, h4], u8_ne 48 (by omega) h1, u8_ne 49 (by omega) h2, u8_ne 120 (by omega) h3, u8_ne 122 (by omega) h4⟩)))
theorem okV_iff (s : ByteArray) : Vb.okV (L s) = true ↔ 1 ≤ s.size ∧ s.size ≤ 64 ∧ (L s).all Vb.isV = true := by
 simp only [Vb.okV, L_len, Bool.and_eq_true, decide_eq_true_eq]
theorem all_of {p : UInt8 → Bool} {s : ByteArray} (h : (L s).all p = true) (k : Nat) (hk : k < s.size) : p s[k] = true :=
 List.all_eq_true.1 h _ (L_mem s k hk)
theorem not_all {p : UInt8 → Bool} {s : ByteArray} (k : Nat) (hk : k < s.size) (h : p s[k] = false) : (L s).all p = false := by
 rw [← Bool.not_eq_true]; intro e; rw [all_of e k hk] at h; cases h
theorem all_step {p : UInt8 → Bool} {s : ByteArray} (k : Nat) (hk : k < s.size) (h : p s[k] = true) (ha : ((L s).take k).all p = true) : ((L s).take (k + 1)).all p = true := by
 rw [L_take s k hk, List.all_append, ha]; simp [h]
theorem e11 {R : Ending → World → Prop} {a : Act} {w : World} (hd : a.defers = []) (hR : R (.returned (.tuple #[])) w) : bodyPost Tryz.prog Tryz.f11 R .normal a w := bodyPost_end (v := .tuple #[]) (by simp [results, Tryz.results11, go_sem]) hd hR
theorem e21 {R : Ending → World → Prop} {a : Act} {w : World} (hd : a.defers = []) (hR : R (.returned (.tuple #[])) w) : bodyPost Tryz.prog Tryz.f21 R .normal a w := bodyPost_end (v := .tuple #[]) (by simp [results, Tryz.results21, go_sem]) hd hR
theorem e26 {R : Ending → World → Prop} {a : Act} {w : World} (hd : a.defers = []) (hR : R (.returned (.tuple #[])) w) : bodyPost Tryz.prog Tryz.f26 R .normal a w := bodyPost_end (v := .tuple #[]) (by simp [results, Tryz.results26, go_sem]) hd hR
theorem e27 {R : Ending → World → Prop} {a : Act} {w : World} (hd : a.defers = []) (hR : R (.returned (.tuple #[])) w) : bodyPost Tryz.prog Tryz.f27 R .normal a w := bodyPost_end (v := .tuple #[]) (by simp [results, Tryz.results27, go_sem]) hd hR
theorem e28 {R : Ending → World → Prop} {a : Act} {w : World} (hd : a.defers = []) (hR : R (.returned (.tuple #[])) w) : bodyPost Tryz.prog Tryz.f28 R .normal a w := bodyPost_end (v := .tuple #[]) (by simp [results, Tryz.results28, go_sem]) hd hR
theorem e29 {R : Ending → World → Prop} {a : Act} {w : World} (hd : a.defers = []) (hR : R (.returned (.tuple #[])) w) : bodyPost Tryz.prog Tryz.f29 R .normal a w := bodyPost_end (v := .tuple #[]) (by simp [results, Tryz.results29, go_sem]) hd hR
theorem e34 {R : Ending → World → Prop} {a : Act} {w : World} (hd : a.defers = []) (hR : R (.returned (.tuple #[])) w) : bodyPost Tryz.prog Tryz.f34 R .normal a w := bodyPost_end (v := .tuple #[]) (by simp [results, Tryz.results34, go_sem]) hd hR
theorem e35 {R : Ending → World → Prop} {a : Act} {w : World} (hd : a.defers = []) (hR : R (.returned (.tuple #[])) w) : bodyPost Tryz.prog Tryz.f35 R .normal a w := bodyPost_end (v := .tuple #[]) (by simp [results, Tryz.results35, go_sem]) hd hR
theorem e36 {R : Ending → World → Prop} {a : Act} {w : World} (hd : a.defers = []) (hR : R (.returned (.tuple #[])) w) : bodyPost Tryz.prog Tryz.f36 R .normal a w := bodyPost_end (v := .tuple #[]) (by simp [results, Tryz.results36, go_sem]) hd hR
theorem e44 {R : Ending → World → Prop} {a : Act} {w : World} (hd : a.defers = []) (hR : R (.returned (.tuple #[])) w) : bodyPost Tryz.prog Tryz.f44 R .normal a w := bodyPost_end (v := .tuple #[]) (by simp [results, Tryz.results44, go_sem]) hd hR
abbrev CB (f : FuncId) (args : Array Value) (w : World) (v : Value) : Prop := Calls Tryz.prog f args w fun e w' => e = .returned v ∧ Below w.heap.size w w'
theorem c_ {w wx : World} {a : Addr} {v : Value} (hb : Below w.heap.size w wx) (h : w.cell? a = some v) : wx.cell? a = some v := cell_later hb h
set_option maxRecDepth 100000
def bv (c : UInt8) : Value := .int .u8 (c.toNat : Int)
theorem info5 : (Tryz.prog.info? 5).map (fun i => (i.zero, i.size, i.bytes)) = some (some (.int .u8 0), 1, 1) := by kernel_rfl
def OB (B : Nat) (v : Value) (l : List UInt8) (W : World) : Prop := W.ownsRow B 5 1 v l.length (l.map bv)
theorem OB_start {w : World} {B : Nat} (h : B ≤ w.heap.size) : OB B (.slice (some ⟨w.heap.size, 0, none⟩) 0 0) [] (w.alloc (.cells #[] 5)) := World.ownsRow_made w #[] 0 h (by decide) rfl
theorem OB_step {B : Nat} {v : Value} {l : List UInt8} {c : UInt8} {W : World} (h : W.ownsRow B 5 1 v (l.length + 1) (l.map bv ++ [bv c])) : OB B v (l ++ [c]) W := by
 unfold OB; rw [List.length_append, List.map_append]; exact h
theorem OB_below {B : Nat} {v : Value} {l : List UInt8} {w W w1 : World} {o : Obj} (hb : Below B w W) (hB : B ≤ W.heap.size) (ho : OB B v l W) (hg : (W.alloc o).grownBy w1 v.ownBlock) : Below B w w1 :=
 (hb.alloc hB o).grown hg (by simp; omega) (fun k hk => (ho.lt k hk).1)
theorem OB_belowN {B n : Nat} {v : Value} {l : List UInt8} {w W w1 : World} {o : Obj} (hb : Below B w W) (hB : B ≤ W.heap.size) (ho : OB B v l W) (hg : ((W.drewN n).alloc o).grownBy w1 v.ownBlock) : Below B w w1 :=
 OB_below (W := W.drewN n) (below_drewN hb n) hB ho hg
theorem OB_string {B : Nat} {v : Value} {l : List UInt8} {W : World} (h : OB B v l W) : (convert 37 9 v).run Tryz.prog W = .ok (.string (S l)) W := by
 rcases h.2 with ⟨rfl, hn⟩ | ⟨g, cap, cur, rfl, _⟩
 · have hl : l = [] := List.eq_nil_of_length_eq_zero hn
   subst hl
   exact run_convert_bytes_nil W 37 5 (by kernel_rfl) (by kernel_rfl) 0 0 9 (by kernel_rfl)
 · refine run_convert_bytes_back (P := Tryz.prog) W 37 9 5 ⟨g, 0, none⟩ cap l (by kernel_rfl) (by kernel_rfl) (by kernel_rfl) ?_
   intro j hj
   rw [Addr.add_lit, Nat.zero_add, World.ownsRow.cellAt h j (by omega), List.getElem?_map, List.getElem?_eq_getElem hj]
   rfl
end Go.Proofs.YtddlokkejglckaaGreatDoor
namespace Nb
def digB (c : UInt8) : Bool := decide (48 ≤ c) && decide (c ≤ 57)
def valB (c : UInt8) : Bool := digB c || (decide (97 ≤ c) && decide (c ≤ 102)) || c == 120 || c == 122
def baseB (c : UInt8) : Bool := c == 98 || c == 111 || c == 104 || c == 100
def runE (p : UInt8 → Bool) (l : List UInt8) (i : Nat) : Nat := i + ((l.drop i).takeWhile p).length
theorem runE_step {p : UInt8 → Bool} {l : List UInt8} {i : Nat} (h : i < l.length) (hp : p l[i] = true) : runE p l i = runE p l (i + 1) := by
 unfold runE
 rw [List.drop_eq_getElem_cons h, List.takeWhile_cons, if_pos hp, List.length_cons]; omega
theorem runE_stop {p : UInt8 → Bool} {l : List UInt8} {i : Nat} (h : i < l.length) (hp : p l[i] = false) : runE p l i = i := by
 unfold runE
 rw [List.drop_eq_getElem_cons h, List.takeWhile_cons, if_neg (by rw [hp]; decide)]; rfl
theorem runE_end {p : UInt8 → Bool} {l : List UInt8} {i : Nat} (h : l.length ≤ i) : runE p l i = i := by
 unfold runE
 rw [List.drop_of_length_le h]; rfl
theorem takeWhile_le (p : UInt8 → Bool) (l : List UInt8) : (l.takeWhile p).length ≤ l.length := by
 induction l with
 | nil => exact Nat.le_refl _
 | cons c t ih => rw [List.takeWhile_cons]; split <;> simp <;> omega
theorem runE_le {p : UInt8 → Bool} {l : List UInt8} {i : Nat} (h : i ≤ l.length) : runE p l i ≤ l.length := by
 unfold runE
 have := takeWhile_le p (l.drop i)
 rw [List.length_drop] at this; omega
theorem le_runE (p : UInt8 → Bool) (l : List UInt8) (i : Nat) : i ≤ runE p l i := by unfold runE; omega
theorem runE_all {p : UInt8 → Bool} {l : List UInt8} : ∀ {i j : Nat}, i ≤ j → j < runE p l i → p (l.getD j 0) = true := by
 intro i j hij hj
 unfold runE at hj
 have key : ∀ (m : List UInt8) (k : Nat), k < (m.takeWhile p).length → p (m.getD k 0) = true := by
   intro m
   induction m with
   | nil => intro k h; simp at h
   | cons c t ih =>
     intro k h
     rw [List.takeWhile_cons] at h
     by_cases hc : p c = true
     · rw [if_pos hc] at h
       cases k with
       | zero => exact hc
       | succ k => exact ih k (by simpa using h)
     · rw [if_neg hc] at h; simp at h
 have := key (l.drop i) (j - i) (by omega)
 rwa [List.getD_eq_getElem?_getD, List.getElem?_drop, show i + (j - i) = j by omega, ← List.getD_eq_getElem?_getD] at this
theorem runE_drop (p : UInt8 → Bool) (l : List UInt8) (a i : Nat) : runE p (l.drop a) i + a = runE p l (a + i) := by
 unfold runE
 rw [List.drop_drop]; omega
theorem getD_drop (l : List UInt8) (a i : Nat) : (l.drop a).getD i 0 = l.getD (a + i) 0 := by
 rw [List.getD_eq_getElem?_getD, List.getElem?_drop, ← List.getD_eq_getElem?_getD]
def numE (l : List UInt8) (a : Nat) : Nat × Bool :=
 if runE digB l a = a ∨ runE digB l a = l.length ∨ l.getD (runE digB l a) 0 ≠ 39 then (runE digB l a, decide (a < runE digB l a))
 else if l.getD (runE digB l a + 1) 0 = 115 then
   (if runE digB l a + 2 = l.length ∨ baseB (l.getD (runE digB l a + 2) 0) = false then (runE digB l a + 2, false)
    else (runE valB l (runE digB l a + 3), decide (runE digB l a + 3 < runE valB l (runE digB l a + 3))))
 else
   (if runE digB l a + 1 = l.length ∨ baseB (l.getD (runE digB l a + 1) 0) = false then (runE digB l a + 1, false)
    else (runE valB l (runE digB l a + 2), decide (runE digB l a + 2 < runE valB l (runE digB l a + 2))))
theorem getD_lt {l : List UInt8} {i : Nat} (h : l.getD i 0 ≠ 0) : i < l.length := by
 by_cases hi : i < l.length
 · exact hi
 · rw [List.getD_eq_getElem?_getD, List.getElem?_eq_none (by omega)] at h; simp at h
def numZ (l : List UInt8) : Nat := if (numE l 0).2 = true then (numE l 0).1 else 0
theorem numE_drop (l : List UInt8) (a : Nat) (ha : a ≤ l.length) : (numE l a).1 = (numE (l.drop a) 0).1 + a ∧ (numE l a).2 = (numE (l.drop a) 0).2 := by
 have r1 := runE_drop digB l a 0
 have g := fun i => getD_drop l a i
 have r2 := fun i => runE_drop valB l a i
 have hl : (l.drop a).length = l.length - a := List.length_drop
 rw [Nat.add_zero] at r1
 have hle := runE_le (p := digB) ha
 have hge := le_runE digB l a
 unfold numE
 generalize hD : runE digB (l.drop a) 0 = D at *
 rw [← r1] at hle hge ⊢
 have e1 : l.getD (D + a) 0 = (l.drop a).getD D 0 := by rw [g, Nat.add_comm]
 have e2 : l.getD (D + a + 1) 0 = (l.drop a).getD (D + 1) 0 := by rw [g]; congr 1; omega
 have e3 : l.getD (D + a + 2) 0 = (l.drop a).getD (D + 2) 0 := by rw [g]; congr 1; omega
 have f2 : runE valB l (D + a + 2) = runE valB (l.drop a) (D + 2) + a := by rw [r2]; congr 1; omega
 have f3 : runE valB l (D + a + 3) = runE valB (l.drop a) (D + 3) + a := by rw [r2]; congr 1; omega
 rw [e1, e2, e3, f2, f3, hl]
 by_cases h1 : D = 0 ∨ D = l.length - a ∨ (l.drop a).getD D 0 ≠ 39
 · rw [if_pos h1, if_pos (by rcases h1 with h | h | h; exact .inl (by omega); exact .inr (.inl (by omega)); exact .inr (.inr h))]
   exact ⟨rfl, by show decide (a < D + a) = decide (0 < D); rw [decide_eq_decide]; omega⟩
 · rw [if_neg h1, if_neg (by intro h; apply h1; rcases h with h | h | h; exact .inl (by omega); exact .inr (.inl (by omega)); exact .inr (.inr h))]
   by_cases h2 : (l.drop a).getD (D + 1) 0 = 115
   · rw [if_pos h2, if_pos h2]
     by_cases h3 : D + 2 = l.length - a ∨ baseB ((l.drop a).getD (D + 2) 0) = false
     · rw [if_pos h3, if_pos (by rcases h3 with h | h; exact .inl (by omega); exact .inr h)]
       exact ⟨by show D + a + 2 = D + 2 + a; omega, rfl⟩
     · rw [if_neg h3, if_neg (by intro h; apply h3; rcases h with h | h; exact .inl (by omega); exact .inr h)]
       exact ⟨rfl, by show decide _ = decide _; rw [decide_eq_decide]; omega⟩
   · rw [if_neg h2, if_neg h2]
     by_cases h3 : D + 1 = l.length - a ∨ baseB ((l.drop a).getD (D + 1) 0) = false
     · rw [if_pos h3, if_pos (by rcases h3 with h | h; exact .inl (by omega); exact .inr h)]
       exact ⟨by show D + a + 1 = D + 1 + a; omega, rfl⟩
     · rw [if_neg h3, if_neg (by intro h; apply h3; rcases h with h | h; exact .inl (by omega); exact .inr h)]
       exact ⟨rfl, by show decide _ = decide _; rw [decide_eq_decide]; omega⟩
theorem all_of_getD {p : UInt8 → Bool} : ∀ {l : List UInt8}, (∀ j, j < l.length → p (l.getD j 0) = true) → l.all p = true
 | [], _ => rfl
 | c :: t, h => by
   rw [List.all_cons, show p c = true from h 0 (by simp), all_of_getD (l := t) fun j hj => h (j + 1) (by simpa using hj)]; rfl
theorem split_at {l : List UInt8} {i : Nat} {c : UInt8} (h : l.getD i 0 = c) (hc : c ≠ 0) : l = l.take i ++ c :: l.drop (i + 1) := by
 have hi := getD_lt (l := l) (i := i) (by rw [h]; exact hc)
 have e : l[i] = c := by rw [← h, List.getD_eq_getElem?_getD, List.getElem?_eq_getElem hi]; rfl
 conv => lhs; rw [← List.take_append_drop i l, List.drop_eq_getElem_cons hi, e]
theorem num_form {l : List UInt8} (h1 : (numE l 0).2 = true) (h2 : (numE l 0).1 = l.length) : (l ≠ [] ∧ l.all digB = true) ∨ ∃ (d : List UInt8) (sg : Bool) (b : UInt8) (v : List UInt8), d ≠ [] ∧ d.all digB = true ∧ baseB b = true ∧ v ≠ [] ∧ v.all valB = true ∧ l = d ++ 39 :: ((if sg = true then [115] else []) ++ b :: v) := by
 have hD : ∀ j, j < runE digB l 0 → digB (l.getD j 0) = true := fun j hj => runE_all (Nat.zero_le _) hj
 have hle := runE_le (p := digB) (l := l) (Nat.zero_le _)
 have hV : ∀ i j, i ≤ j → j < runE valB l i → valB (l.getD j 0) = true := fun i j a b => runE_all a b
 unfold numE at h1 h2
 generalize runE digB l 0 = D at *
 by_cases c1 : D = 0 ∨ D = l.length ∨ l.getD D 0 ≠ 39
 · rw [if_pos c1] at h1 h2
   have h1 : 0 < D := by simpa using h1
   have h2 : D = l.length := h2
   exact .inl ⟨by intro e; subst e; simp at h2; omega, all_of_getD fun j hj => hD j (by omega)⟩
 · rw [if_neg c1] at h1 h2
   have n1 : D ≠ 0 := fun e => c1 (.inl e)
   have n2 : l.getD D 0 = 39 := by
     by_cases e : l.getD D 0 = 39
     · exact e
     · exact absurd (.inr (.inr e)) c1
   have hd : (l.take D).all digB = true := all_of_getD fun j hj => by
     rw [List.length_take] at hj
     have := hD j (by omega)
     rwa [List.getD_eq_getElem?_getD, List.getElem?_take_of_lt (by omega), ← List.getD_eq_getElem?_getD]
   have hDl : D < l.length := getD_lt (by rw [n2]; decide)
   have hdn : l.take D ≠ [] := by
     intro e
     have := congrArg List.length e
     rw [List.length_take, List.length_nil] at this
     omega
   have tail : ∀ k, runE valB l k = l.length → k < l.length → l.drop k ≠ [] ∧ (l.drop k).all valB = true := fun k e hk => by
     refine ⟨by intro e2; have := congrArg List.length e2; rw [List.length_drop] at this; simp at this; omega, all_of_getD fun j hj => ?_⟩
     rw [List.length_drop] at hj
     rw [getD_drop]; exact hV k (k + j) (by omega) (by omega)
   refine .inr ⟨l.take D, ?_⟩
   by_cases c2 : l.getD (D + 1) 0 = 115
   · rw [if_pos c2] at h1 h2
     by_cases c3 : D + 2 = l.length ∨ baseB (l.getD (D + 2) 0) = false
     · rw [if_pos c3] at h1; simp at h1
     · rw [if_neg c3] at h1 h2
       have h2 : runE valB l (D + 3) = l.length := h2
       have h1 : D + 3 < runE valB l (D + 3) := by simpa using h1
       have hb : baseB (l.getD (D + 2) 0) = true := by
         cases e : baseB (l.getD (D + 2) 0)
         · exact absurd (.inr e) c3
         · rfl
       have t := tail (D + 3) h2 (by omega)
       refine ⟨true, l.getD (D + 2) 0, l.drop (D + 3), hdn, hd, hb, t.1, t.2, ?_⟩
       have b0 : l.getD (D + 2) 0 ≠ 0 := by intro e; rw [e] at hb; exact absurd hb (by decide)
       have s1 := split_at n2 (by decide)
       have s2 := split_at (l := l.drop (D + 1)) (i := 0) (c := 115) (by rw [getD_drop]; exact c2) (by decide)
       have s3 := split_at (l := l.drop (D + 2)) (i := 0) (c := l.getD (D + 2) 0) (by rw [getD_drop]) b0
       rw [List.take_zero, List.nil_append, List.drop_drop] at s2 s3
       rw [if_pos rfl]
       conv => lhs; rw [s1, s2, s3]
       rfl
   · rw [if_neg c2] at h1 h2
     by_cases c3 : D + 1 = l.length ∨ baseB (l.getD (D + 1) 0) = false
     · rw [if_pos c3] at h1; simp at h1
     · rw [if_neg c3] at h1 h2
       have h2 : runE valB l (D + 2) = l.length := h2
       have h1 : D + 2 < runE valB l (D + 2) := by simpa using h1
       have hb : baseB (l.getD (D + 1) 0) = true := by
         cases e : baseB (l.getD (D + 1) 0)
         · exact absurd (.inr e) c3
         · rfl
       have t := tail (D + 2) h2 (by omega)
       refine ⟨false, l.getD (D + 1) 0, l.drop (D + 2), hdn, hd, hb, t.1, t.2, ?_⟩
       have b0 : l.getD (D + 1) 0 ≠ 0 := by intro e; rw [e] at hb; exact absurd hb (by decide)
       have s1 := split_at n2 (by decide)
       have s2 := split_at (l := l.drop (D + 1)) (i := 0) (c := l.getD (D + 1) 0) (by rw [getD_drop]) b0
       rw [List.take_zero, List.nil_append, List.drop_drop] at s2
       rw [if_neg (by decide), List.nil_append]
       conv => lhs; rw [s1, s2]
def valD (l : List UInt8) : Nat := l.foldl (fun a c => 10 * a + (c.toNat - 48)) 0
theorem valD_snoc (l : List UInt8) (c : UInt8) : valD (l ++ [c]) = 10 * valD l + (c.toNat - 48) := by unfold valD; rw [List.foldl_append]; rfl
def lidD (l : List UInt8) : Nat := l.foldl (fun a c => min (a * 10 + (c.toNat - 48)) 1099511627776) 0
theorem lidD_snoc (l : List UInt8) (c : UInt8) : lidD (l ++ [c]) = min (lidD l * 10 + (c.toNat - 48)) 1099511627776 := by unfold lidD; rw [List.foldl_append]; rfl
theorem lidD_is (l : List UInt8) : lidD l = min (valD l) 1099511627776 := by
 have key : ∀ (l : List UInt8) (a : Nat), l.foldl (fun a c => min (a * 10 + (c.toNat - 48)) 1099511627776) (min a 1099511627776) = min (l.foldl (fun a c => 10 * a + (c.toNat - 48)) a) 1099511627776 := by
   intro l
   induction l with
   | nil => intro a; rfl
   | cons c t ih =>
     intro a
     rw [List.foldl_cons, List.foldl_cons, ← ih]
     congr 1; omega
 exact key l 0
end Nb
namespace Nb
def hexV (c : UInt8) : Nat := if digB c = true then c.toNat - 48 else c.toNat - 87
def digT (size : Nat) (c : UInt8) : Option (List UInt8) :=
 if c = 120 ∨ c = 122 then some (List.replicate size c) else if 2 ^ size ≤ hexV c then none else some (Vb.nTxt size (hexV c))
def digsA (size : Nat) : List UInt8 → List UInt8 → Option (List UInt8)
 | acc, [] => some acc
 | acc, c :: t => match digT size c with
   | none => none
   | some x => digsA size (acc ++ x) t
def padC (v : List UInt8) : UInt8 := if v.headD 0 = 120 ∨ v.headD 0 = 122 then v.headD 0 else 48
def fitT (n : Nat) (pad : UInt8) (all : List UInt8) : Option (List UInt8) :=
 if n < all.length then (if (all.take (all.length - n)).all (fun c => c == 48) = true then some (all.drop (all.length - n)) else none)
 else some (List.replicate (n - all.length) pad ++ all)
def baseN (b : UInt8) : Nat := if b = 111 then 3 else if b = 104 then 4 else 1
def based (n : Nat) (sg : Bool) (b : UInt8) (v : List UInt8) : List UInt8 × Bool × Nat :=
 if b = 100 then (if v.all digB = true then (if 2 ^ n ≤ valD v then ([], false, 11) else (Vb.nTxt n (valD v), sg, 0)) else ([], false, 3))
 else match digsA (baseN b) [] v with
   | none => ([], false, 3)
   | some all => match fitT n (padC v) all with
     | none => ([], false, 11)
     | some r => (r, sg, 0)
def plain (d : List UInt8) : List UInt8 × Bool × Nat := if 2147483647 < valD d then ([], false, 11) else (Vb.nTxt 32 (valD d), true, 0)
def widthed (d : List UInt8) (sg : Bool) (b : UInt8) (v : List UInt8) : List UInt8 × Bool × Nat := if valD d < 1 ∨ 64 < valD d then ([], false, 7) else based (valD d) sg b v
theorem digsA_app (size : Nat) : ∀ (v acc u : List UInt8), digsA size acc (v ++ u) = (match digsA size acc v with | none => none | some x => digsA size x u)
 | [], acc, u => rfl
 | c :: t, acc, u => by
   rw [List.cons_append, digsA, digsA]
   cases digT size c with
   | none => rfl
   | some x => exact digsA_app size t _ u
theorem digsA_snoc (size : Nat) (v acc : List UInt8) (c : UInt8) {x : List UInt8} (h : digsA size acc v = some x) : digsA size acc (v ++ [c]) = (match digT size c with | none => none | some y => some (x ++ y)) := by
 rw [digsA_app, h]
 show (match digT size c with | none => none | some y => digsA size (x ++ y) []) = _
 cases digT size c <;> rfl
theorem digsA_bad (size : Nat) (v acc u : List UInt8) (h : digsA size acc v = none) : digsA size acc (v ++ u) = none := by
 rw [digsA_app, h]
theorem digT_len {size : Nat} {c : UInt8} {x : List UInt8} (h : digT size c = some x) : x.length = size := by
 unfold digT at h
 by_cases h1 : c = 120 ∨ c = 122
 · rw [if_pos h1] at h; cases h; simp
 · rw [if_neg h1] at h
   by_cases h2 : 2 ^ size ≤ hexV c
   · rw [if_pos h2] at h; cases h
   · rw [if_neg h2] at h; cases h; exact Vb.nTxt_len _ _
theorem digsA_len (size : Nat) : ∀ (v acc : List UInt8) {x : List UInt8}, digsA size acc v = some x → x.length = acc.length + size * v.length
 | [], acc, x, h => by cases h; simp
 | c :: t, acc, x, h => by
   rw [digsA] at h
   cases hd : digT size c with
   | none => rw [hd] at h; cases h
   | some y =>
     rw [hd] at h
     have := digsA_len size t _ h
     rw [List.length_append, digT_len hd] at this
     rw [this, List.length_cons, Nat.mul_add]; omega
theorem digT_head {size : Nat} (hs : 1 ≤ size) {c : UInt8} {x : List UInt8} (h : digT size c = some x) : x.headD 0 = (if c = 120 ∨ c = 122 then c else x.headD 0) ∧ ((c = 120 ∨ c = 122) ∨ x.headD 0 = 48 ∨ x.headD 0 = 49) := by
 unfold digT at h
 by_cases h1 : c = 120 ∨ c = 122
 · rw [if_pos h1] at h; cases h
   rw [if_pos h1]
   refine ⟨?_, .inl h1⟩
   cases size with
   | zero => omega
   | succ k => rfl
 · rw [if_neg h1] at h
   rw [if_neg h1]
   refine ⟨rfl, .inr ?_⟩
   by_cases h2 : 2 ^ size ≤ hexV c
   · rw [if_pos h2] at h; cases h
   · rw [if_neg h2] at h; cases h
     have hk := Vb.nTxt_known size (hexV c)
     have hl := Vb.nTxt_len size (hexV c)
     cases hx : Vb.nTxt size (hexV c) with
     | nil => rw [hx] at hl; simp at hl; omega
     | cons e t =>
       rw [hx] at hk; simp [Vb.knB] at hk
       exact hk.1
theorem pad_is {size : Nat} (hs : 1 ≤ size) {v all : List UInt8} (hv : v ≠ []) (h : digsA size [] v = some all) : (if all.headD 0 = 49 then 48 else all.headD 0) = padC v := by
 cases v with
 | nil => exact absurd rfl hv
 | cons c t =>
   rw [digsA] at h
   cases hd : digT size c with
   | none => rw [hd] at h; cases h
   | some y =>
     rw [hd] at h
     have hy := digT_len hd
     have hh := digT_head hs hd
     have key : ∀ (t acc x : List UInt8), acc ≠ [] → digsA size acc t = some x → x.headD 0 = acc.headD 0 := by
       intro t
       induction t with
       | nil => intro acc x _ h; cases h; rfl
       | cons e t ih =>
         intro acc x ha h
         rw [digsA] at h
         cases he : digT size e with
         | none => rw [he] at h; cases h
         | some z =>
           rw [he] at h
           have := ih (acc ++ z) x (by simp [ha]) h
           rw [this]
           cases acc with
           | nil => exact absurd rfl ha
           | cons _ _ => rfl
     have hyn : y ≠ [] := by intro e; rw [e] at hy; simp at hy; omega
     have e := key t ([] ++ y) all (by simpa using hyn) h
     rw [List.nil_append] at e
     rw [e]
     unfold padC
     show _ = if c = 120 ∨ c = 122 then c else 48
     by_cases h1 : c = 120 ∨ c = 122
     · rw [if_pos h1]
       have h2 := hh.1
       rw [if_pos h1] at h2
       rw [h2, if_neg (by rcases h1 with rfl | rfl <;> decide)]
     · rw [if_neg h1]
       rcases hh.2 with h3 | h3 | h3
       · exact absurd h3 h1
       · rw [h3]; rfl
       · rw [h3]; rfl
theorem ten_step (v d P : Nat) (hP : 0 < P) (hd : d ≤ 9) : (10 * (v % P) + d) % P = (10 * v + d) % P ∧ ((P ≤ v ∨ P ≤ 10 * (v % P) + d) ↔ P ≤ 10 * v + d) ∧ 10 * (v % P) + d < 16 * P := by
 have hlt := Nat.mod_lt v hP
 have e := Nat.div_add_mod v P
 refine ⟨?_, ?_, by omega⟩
 · conv => rhs; rw [← e]
   rw [Nat.mul_add, Nat.add_assoc, show 10 * (P * (v / P)) = P * (10 * (v / P)) by rw [← Nat.mul_assoc, Nat.mul_comm 10 P, Nat.mul_assoc], Nat.mul_add_mod]
 · constructor
   · rintro (h | h)
     · omega
     · have := Nat.mod_le v P; omega
   · intro h
     by_cases hv : P ≤ v
     · exact .inl hv
     · right; rw [Nat.mod_eq_of_lt (by omega)]; exact h
end Nb
namespace Nb
theorem num_rep48 (k : Nat) : Vb.num (List.replicate k 48) = 0 := by
 induction k with
 | zero => rfl
 | succ k ih => rw [List.replicate_succ, Vb.num_cons, ih, show (Vb.oneB 48).toNat = 0 from rfl, Nat.zero_mul]
theorem kn_rep48 (k : Nat) : (List.replicate k (48 : UInt8)).all Vb.knB = true := by
 rw [List.all_replicate]; simp; right; rfl
theorem split_nTxt (k n X : Nat) : Vb.nTxt (k + n) X = Vb.nTxt k (X / 2 ^ n) ++ Vb.nTxt n X := by
 refine Vb.known_ext (Vb.nTxt_known _ _) (by rw [List.all_append, Vb.nTxt_known, Vb.nTxt_known]; rfl) (by rw [List.length_append, Vb.nTxt_len, Vb.nTxt_len, Vb.nTxt_len]) ?_
 rw [Vb.num_append, Vb.num_nTxt, Vb.num_nTxt, Vb.num_nTxt, Vb.nTxt_len, Nat.add_comm k n, Nat.pow_add]
 rw [Nat.mod_mul, Nat.mul_comm (X / 2 ^ n % 2 ^ k)]; omega
theorem pad_nTxt (k n X : Nat) (h : X < 2 ^ n) : List.replicate k 48 ++ Vb.nTxt n X = Vb.nTxt (k + n) X := by
 rw [split_nTxt, Nat.div_eq_of_lt h]
 congr 1
 exact Vb.known_ext (kn_rep48 k) (Vb.nTxt_known _ _) (by rw [List.length_replicate, Vb.nTxt_len]) (by rw [num_rep48, Vb.num_nTxt, Nat.zero_mod])
end Nb
namespace Nb
def nbL (l : List UInt8) : List UInt8 × Bool × Nat :=
 if 1000 < l.length then ([], false, 2)
 else if ¬ ((numE l 0).2 = true ∧ (numE l 0).1 = l.length) then ([], false, 3)
 else if l.all digB = true then plain l
 else if l.getD (runE digB l 0 + 1) 0 = 115 then widthed (l.take (runE digB l 0)) true (l.getD (runE digB l 0 + 2) 0) (l.drop (runE digB l 0 + 3))
 else widthed (l.take (runE digB l 0)) false (l.getD (runE digB l 0 + 1) 0) (l.drop (runE digB l 0 + 2))
theorem num_parts {l : List UInt8} (h1 : (numE l 0).2 = true) (h2 : (numE l 0).1 = l.length) (hn : l.all digB = false) :
   1 ≤ runE digB l 0 ∧ runE digB l 0 + 1 < l.length ∧ (l.take (runE digB l 0)).all digB = true ∧ l.getD (runE digB l 0) 0 = 39 ∧
   ((l.getD (runE digB l 0 + 1) 0 = 115 ∧ runE digB l 0 + 2 < l.length ∧ baseB (l.getD (runE digB l 0 + 2) 0) = true ∧ l.drop (runE digB l 0 + 3) ≠ [] ∧ (l.drop (runE digB l 0 + 3)).all valB = true) ∨
    (l.getD (runE digB l 0 + 1) 0 ≠ 115 ∧ baseB (l.getD (runE digB l 0 + 1) 0) = true ∧ l.drop (runE digB l 0 + 2) ≠ [] ∧ (l.drop (runE digB l 0 + 2)).all valB = true)) := by
 have hD : ∀ j, j < runE digB l 0 → digB (l.getD j 0) = true := fun j hj => runE_all (Nat.zero_le _) hj
 have hle := runE_le (p := digB) (l := l) (Nat.zero_le _)
 have hV : ∀ i j, i ≤ j → j < runE valB l i → valB (l.getD j 0) = true := fun i j a b => runE_all a b
 unfold numE at h1 h2
 generalize runE digB l 0 = D at *
 by_cases c1 : D = 0 ∨ D = l.length ∨ l.getD D 0 ≠ 39
 · rw [if_pos c1] at h1 h2
   have h2 : D = l.length := h2
   rw [all_of_getD fun j hj => hD j (by omega)] at hn
   exact absurd hn (by decide)
 · rw [if_neg c1] at h1 h2
   have n1 : D ≠ 0 := fun e => c1 (.inl e)
   have n2 : l.getD D 0 = 39 := by
     by_cases e : l.getD D 0 = 39
     · exact e
     · exact absurd (.inr (.inr e)) c1
   have hd : (l.take D).all digB = true := all_of_getD fun j hj => by
     rw [List.length_take] at hj
     have := hD j (by omega)
     rwa [List.getD_eq_getElem?_getD, List.getElem?_take_of_lt (by omega), ← List.getD_eq_getElem?_getD]
   have tail : ∀ k, runE valB l k = l.length → k < l.length → l.drop k ≠ [] ∧ (l.drop k).all valB = true := fun k e hk => by
     refine ⟨by intro e2; have := congrArg List.length e2; rw [List.length_drop] at this; simp at this; omega, all_of_getD fun j hj => ?_⟩
     rw [List.length_drop] at hj
     rw [getD_drop]; exact hV k (k + j) (by omega) (by omega)
   by_cases c2 : l.getD (D + 1) 0 = 115
   · rw [if_pos c2] at h1 h2
     by_cases c3 : D + 2 = l.length ∨ baseB (l.getD (D + 2) 0) = false
     · rw [if_pos c3] at h1; simp at h1
     · rw [if_neg c3] at h1 h2
       have h2 : runE valB l (D + 3) = l.length := h2
       have h1 : D + 3 < runE valB l (D + 3) := by simpa using h1
       have hb : baseB (l.getD (D + 2) 0) = true := by
         cases e : baseB (l.getD (D + 2) 0)
         · exact absurd (.inr e) c3
         · rfl
       have t := tail (D + 3) h2 (by omega)
       exact ⟨by omega, by omega, hd, n2, .inl ⟨c2, by omega, hb, t.1, t.2⟩⟩
   · rw [if_neg c2] at h1 h2
     by_cases c3 : D + 1 = l.length ∨ baseB (l.getD (D + 1) 0) = false
     · rw [if_pos c3] at h1; simp at h1
     · rw [if_neg c3] at h1 h2
       have h2 : runE valB l (D + 2) = l.length := h2
       have h1 : D + 2 < runE valB l (D + 2) := by simpa using h1
       have hb : baseB (l.getD (D + 1) 0) = true := by
         cases e : baseB (l.getD (D + 1) 0)
         · exact absurd (.inr e) c3
         · rfl
       have t := tail (D + 2) h2 (by omega)
       exact ⟨by omega, by omega, hd, n2, .inr ⟨c2, hb, t.1, t.2⟩⟩
theorem base_cases {b : UInt8} (h : baseB b = true) : b = 98 ∨ b = 111 ∨ b = 104 ∨ b = 100 := by
 unfold baseB at h; simp at h; rcases h with ((h | h) | h) | h <;> simp [h]
end Nb
