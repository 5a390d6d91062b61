/- Plain facts: what the words of the unary operations tell is what the specification says of the letters. -/
/- What OnesCount64 answers: a number whose lowest bit tells whether the ones are odd. -/
import Derived.Test.YtmbllgblbdfobaaS10
import Derived.Test.YtmbllgblbdfobaaG3IT
import Derived.Test.YtmbllgblbdfobaaPop
import Derived.Test.YtmbllgblbdfobaaG2I1
namespace Go.Proofs.Ytmbllgblbdfobaa
open Vb
theorem rat_map (f : UInt8 → UInt8) (l : List UInt8) (i : Nat) : rat (l.map f) i = (rat l i).map f := by
  unfold rat; rw [← List.map_reverse, List.getElem?_map]
theorem not_valid {l : List UInt8} (hv : l.all isV = true) : (l.map notB).all isV = true := by
  rw [List.all_map, List.all_eq_true]
  intro c hc
  rcases four (List.all_eq_true.1 hv c hc) with rfl | rfl | rfl | rfl <;> rfl
/-- The words of the opposite text. -/
theorem kn_not {l : List UInt8} (hv : l.all isV = true) : kn (l.map notB) = kn l &&& wh l ||| kn l &&& ~~~wh l := by
  apply BitVec.eq_of_getLsbD_eq
  intro i hi
  rw [BitVec.getLsbD_or, BitVec.getLsbD_and, BitVec.getLsbD_and, BitVec.getLsbD_not]
  simp only [kn, wh, getLsbD_word, rat_map, hi, decide_true, Bool.true_and]
  by_cases hl : i < l.length
  · obtain ⟨c, hc, hm⟩ := rat_some hl
    rw [hc]
    rcases four (List.all_eq_true.1 hv c hm) with rfl | rfl | rfl | rfl <;> rfl
  · rw [rat_none (by omega)]; rfl
theorem wh_not {l : List UInt8} (hv : l.all isV = true) : wh (l.map notB) = kn l &&& ~~~wh l := by
  apply BitVec.eq_of_getLsbD_eq
  intro i hi
  rw [BitVec.getLsbD_and, BitVec.getLsbD_not]
  simp only [kn, wh, getLsbD_word, rat_map, hi, decide_true, Bool.true_and]
  by_cases hl : i < l.length
  · obtain ⟨c, hc, hm⟩ := rat_some hl
    rw [hc]
    rcases four (List.all_eq_true.1 hv c hm) with rfl | rfl | rfl | rfl <;> rfl
  · rw [rat_none (by omega)]; rfl
theorem not_txt {l : List UInt8} (hv : l.all isV = true) (h2 : l.length ≤ 64) : txt l.length (kn l &&& wh l ||| kn l &&& ~~~wh l) (kn l &&& ~~~wh l) = l.map notB := by
  have := txt_of (l := l.map notB) (not_valid hv) (by rw [List.length_map]; exact h2)
  rw [List.length_map, kn_not hv, wh_not hv] at this
  exact this
/-- One bit and its opposite. -/
theorem not_one (t : UInt8) (ht : isV t = true) : txt 1 (kn [t] &&& wh [t] ||| kn [t] &&& ~~~wh [t]) (kn [t] &&& ~~~wh [t]) = [notB t] := not_txt (l := [t]) (by simpa using ht) (by simp)
theorem txt_one (t : UInt8) (ht : isV t = true) : txt 1 (kn [t]) (wh [t]) = [t] := txt_of (l := [t]) (by simpa using ht) (by simp)
theorem truth_valid (l : List UInt8) : isV (truthL l) = true := by
  rcases truthL_cases l with h | h | h <;> rw [h] <;> rfl
/-- The truth as a fold of or. -/
def orF (l : List UInt8) (c : UInt8) : UInt8 := l.foldl orB c
theorem orB_tab (c d : UInt8) (hc : c = 48 ∨ c = 49 ∨ c = 120) (hd : isV d = true) : orB c d = if c = 49 ∨ d = 49 then 49 else if c = 48 ∧ d = 48 then 48 else 120 := by
  rcases hc with rfl | rfl | rfl <;> rcases four hd with rfl | rfl | rfl | rfl <;> rfl
theorem andB_tab (c d : UInt8) (hc : c = 48 ∨ c = 49 ∨ c = 120) (hd : isV d = true) : andB c d = notB (orB (notB c) (notB d)) := by
  rcases hc with rfl | rfl | rfl <;> rcases four hd with rfl | rfl | rfl | rfl <;> rfl
theorem or_fold (l : List UInt8) (hv : l.all isV = true) (c : UInt8) (hc : c = 48 ∨ c = 49 ∨ c = 120) : l.foldl orB c = (if c = 49 ∨ l.any oneB = true then 49 else if c = 48 ∧ l.all (fun x => x == 48) = true then 48 else 120) := by
  induction l generalizing c with
  | nil => rcases hc with rfl | rfl | rfl <;> simp
  | cons d t ih =>
    rw [List.all_cons, Bool.and_eq_true] at hv
    rw [List.foldl_cons, ih hv.2 _ (by rw [orB_tab c d hc hv.1]; split; · exact .inr (.inl rfl)
                                       split; · exact .inl rfl
                                       exact .inr (.inr rfl)), orB_tab c d hc hv.1]
    rcases hc with rfl | rfl | rfl <;> rcases four hv.1 with rfl | rfl | rfl | rfl <;> simp [oneB]
theorem or_truth {l : List UInt8} (hv : l.all isV = true) (h1 : 1 ≤ l.length) : foldB orB l = truthL l := by
  cases l with
  | nil => simp at h1
  | cons d t =>
    rw [List.all_cons, Bool.and_eq_true] at hv
    unfold foldB c0L truthL
    rw [List.tail_cons, List.headD_cons]
    rcases four hv.1 with rfl | rfl | rfl | rfl
    · rw [if_neg (by decide), or_fold t hv.2 48 (.inl rfl)]; simp [oneB]
    · rw [if_neg (by decide), or_fold t hv.2 49 (.inr (.inl rfl))]; simp [oneB]
    · rw [if_neg (by decide), or_fold t hv.2 120 (.inr (.inr rfl))]; simp [oneB]
    · rw [if_pos rfl, or_fold t hv.2 120 (.inr (.inr rfl))]; simp [oneB]
theorem and_fold (l : List UInt8) (hv : l.all isV = true) (c : UInt8) (hc : c = 48 ∨ c = 49 ∨ c = 120) : l.foldl andB c = notB ((l.map notB).foldl orB (notB c)) := by
  induction l generalizing c with
  | nil => rcases hc with rfl | rfl | rfl <;> rfl
  | cons d t ih =>
    rw [List.all_cons, Bool.and_eq_true] at hv
    rw [List.foldl_cons, List.map_cons, List.foldl_cons]
    have e : notB (andB c d) = orB (notB c) (notB d) := by
      rcases hc with rfl | rfl | rfl <;> rcases four hv.1 with rfl | rfl | rfl | rfl <;> rfl
    rw [ih hv.2 _ (by rcases hc with rfl | rfl | rfl <;> rcases four hv.1 with rfl | rfl | rfl | rfl <;> simp [andB]), e]
theorem and_all {l : List UInt8} (hv : l.all isV = true) (h1 : 1 ≤ l.length) : foldB andB l = notB (truthL (l.map notB)) := by
  rw [← or_truth (not_valid hv) (by rw [List.length_map]; exact h1)]
  cases l with
  | nil => simp at h1
  | cons d t =>
    rw [List.all_cons, Bool.and_eq_true] at hv
    unfold foldB c0L
    rw [List.tail_cons, List.headD_cons, List.map_cons, List.tail_cons, List.headD_cons]
    rcases four hv.1 with rfl | rfl | rfl | rfl
    · rw [if_neg (by decide), and_fold t hv.2 48 (.inl rfl)]; rfl
    · rw [if_neg (by decide), and_fold t hv.2 49 (.inr (.inl rfl))]; rfl
    · rw [if_neg (by decide), and_fold t hv.2 120 (.inr (.inr rfl))]; rfl
    · rw [if_pos rfl, and_fold t hv.2 120 (.inr (.inr rfl))]; rfl
theorem xor_fold (l : List UInt8) (hv : l.all isV = true) (c : UInt8) (hc : c = 48 ∨ c = 49 ∨ c = 120) : l.foldl xorB c = if (knB c && l.all knB) = true then bl (l.foldl (fun a x => a ^^ oneB x) (oneB c)) else 120 := by
  induction l generalizing c with
  | nil => rcases hc with rfl | rfl | rfl <;> rfl
  | cons d t ih =>
    rw [List.all_cons, Bool.and_eq_true] at hv
    rw [List.foldl_cons, List.foldl_cons, List.all_cons]
    rw [ih hv.2 _ (by rcases hc with rfl | rfl | rfl <;> rcases four hv.1 with rfl | rfl | rfl | rfl <;> simp [xorB, orB, andB, notB])]
    rcases hc with rfl | rfl | rfl <;> rcases four hv.1 with rfl | rfl | rfl | rfl <;> simp [xorB, orB, andB, notB, knB, oneB]
theorem xor_odd {l : List UInt8} (hv : l.all isV = true) (h1 : 1 ≤ l.length) : foldB xorB l = if l.all knB = true then bl (l.foldl (fun a x => a ^^ oneB x) false) else 120 := by
  cases l with
  | nil => simp at h1
  | cons d t =>
    rw [List.all_cons, Bool.and_eq_true] at hv
    unfold foldB c0L
    rw [List.tail_cons, List.headD_cons, List.all_cons, List.foldl_cons]
    rcases four hv.1 with rfl | rfl | rfl | rfl
    · rw [if_neg (by decide), xor_fold t hv.2 48 (.inl rfl)]; simp [knB, oneB]
    · rw [if_neg (by decide), xor_fold t hv.2 49 (.inr (.inl rfl))]; simp [knB, oneB]
    · rw [if_neg (by decide), xor_fold t hv.2 120 (.inr (.inr rfl))]; simp [knB]
    · rw [if_pos rfl, xor_fold t hv.2 120 (.inr (.inr rfl))]; simp [knB]
end Go.Proofs.Ytmbllgblbdfobaa
namespace Go.Proofs.Ytmbllgblbdfobaa
open Go.RowKit
theorem U_add (x y : BitVec 64) : IntKind.u64.wrap (U x + U y) = U (x + y) := by
  rw [IntKind.wrap_u64]; unfold U; rw [BitVec.toNat_add]; omega
theorem U_sh1 (x : BitVec 64) : U x / (2 : Int) = U (x >>> 1) := U_shr x 1
theorem U_sh2 (x : BitVec 64) : U x / (4 : Int) = U (x >>> 2) := U_shr x 2
theorem U_sh4 (x : BitVec 64) : U x / (16 : Int) = U (x >>> 4) := U_shr x 4
theorem U_sh8 (x : BitVec 64) : U x / (256 : Int) = U (x >>> 8) := U_shr x 8
theorem U_sh16 (x : BitVec 64) : U x / (65536 : Int) = U (x >>> 16) := U_shr x 16
theorem U_sh32 (x : BitVec 64) : U x / (4294967296 : Int) = U (x >>> 32) := U_shr x 32
theorem U_m1 (x : BitVec 64) : bits .and .u64 (U x) 6148914691236517205 = U (x &&& Vb.m1) := U_and x Vb.m1
theorem U_m2 (x : BitVec 64) : bits .and .u64 (U x) 3689348814741910323 = U (x &&& Vb.m2) := U_and x Vb.m2
theorem U_m4 (x : BitVec 64) : bits .and .u64 (U x) 1085102592571150095 = U (x &&& Vb.m4) := U_and x Vb.m4
def popc (x : BitVec 64) : BitVec 64 := Vb.p6 (Vb.p5 (Vb.p4 (Vb.p3 (Vb.p2 (Vb.p1 x)))))
set_option maxHeartbeats 400000 in
theorem iCount (x : BitVec 64) (w : World) :
    Calls Try.prog 124 #[.int .u64 (U x)] w fun e w' => e = .returned (.int .i64 (bits .and .i64 (wrap64 (U (popc x))) 127)) ∧ w' = w := by
  go_enter Try.func124, Try.ntmps124
  go_wp2
  go_ret
  refine ⟨ret_i64 ?_, rfl⟩
  simp only [U_add, U_sh1, U_sh2, U_sh4, U_sh8, U_sh16, U_sh32, U_m1, U_m2, U_m4]
  rfl
theorem and_127 (x : BitVec 64) : bits .and .i64 (wrap64 (U x)) 127 = ((x.toNat % 128 : Nat) : Int) := by
  show IntKind.i64.wrap ((BitVec.ofInt 64 (wrap64 (U x)) &&& BitVec.ofInt 64 127).toNat : Int) = _
  have e : BitVec.ofInt 64 (wrap64 (U x)) = x := by
    apply BitVec.eq_of_toNat_eq
    rw [BitVec.toNat_ofInt]
    have := x.isLt
    unfold wrap64 U
    omega
  rw [e, BitVec.toNat_and, show (BitVec.ofInt 64 127).toNat = 2 ^ 7 - 1 from rfl, Nat.and_two_pow_sub_one_eq_mod]
  have h : x.toNat % 2 ^ 7 < 128 := Nat.mod_lt _ (by omega)
  rw [show (2 : Nat) ^ 7 = 128 from rfl] at h ⊢
  have hw : ∀ n : Nat, n < 128 → IntKind.i64.wrap (n : Int) = n := by
    intro n hn
    simp [IntKind.wrap, IntKind.bits, IntKind.signed]
    omega
  exact hw _ h
end Go.Proofs.Ytmbllgblbdfobaa
