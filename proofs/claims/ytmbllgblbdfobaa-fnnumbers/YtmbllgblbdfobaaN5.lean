/- The law FnNumbers's walk. -/
import Derived.Test.YtmbllgblbdfobaaG27N6
import Derived.Test.YtmbllgblbdfobaaG25Src
import Derived.Test.YtmbllgblbdfobaaG26N2
namespace Go.Proofs.Ytmbllgblbdfobaa
open Go.RowKit
set_option linter.unusedVariables false
/-- A call that answers a text. -/
def Tx (f : FuncId) (args : Array Value) (T : List UInt8) : Prop := ∀ v, Calls Try.prog f args v fun e w' => e = .returned (.string (S T)) ∧ Below v.heap.size v w'
theorem Tx_bits (v : Int) (n : Nat) (h1 : 1 ≤ n) (h2 : n ≤ 64) : Tx 20 #[.int .i64 v, .int .i64 n] (Vb.nTxt n (v % 18446744073709551616).toNat) :=
  fun w => (sBitsOf v n w h1 h2).mono fun e w' ⟨h, h'⟩ => ⟨h, by rw [h']; exact brf _⟩
theorem Tx_bin {op : Int} {sg : Bool} {a b R : List UInt8} {n : Nat} (la : a.length = n) (lb : b.length = n) (h2 : n ≤ 64)
    (h : ∀ w, Calls Try.prog 28 #[.int .i64 op, .bool sg, .string (S a), .string (S b)] w fun e w' => e = .returned (.string (S R)) ∧ Below w.heap.size w w') : Tx 19 #[.int .i64 op, .bool sg, .string (S a), .string (S b)] R :=
  iBinIs (small la h2) (small lb h2) h
theorem tdiv_le (p q : Int) (h : -1073741824 ≤ p ∧ p ≤ 1073741824) : -1073741824 ≤ p.tdiv q ∧ p.tdiv q ≤ 1073741824 := by
  have := Int.natAbs_tdiv_le_natAbs p q
  omega
theorem one_text (b : Bool) : ((S [bl b]).toList == [49]) = b := by rw [ByteArray.toList_eq]; cases b <;> rfl
theorem two_SL (v : World) (a b : ByteArray) : SL (some ⟨v.heap.size, 0, none⟩) 2 [a, b] (v.alloc (.cells #[.string a, .string b] 9)) := by
  refine ⟨rfl, .inr ⟨v.heap.size, 0, rfl, fun i hi => ?_⟩⟩
  have : i = 0 ∨ i = 1 := by simp at hi; omega
  rcases this with rfl | rfl <;> (rw [World.cell?_alloc_new]; rfl)
theorem tmod_le (p q : Int) (h : -1073741824 ≤ p ∧ p ≤ 1073741824) : -1073741824 ≤ p.tmod q ∧ p.tmod q ≤ 1073741824 := by
  have := Int.natAbs_tmod p q
  have h2 := Nat.mod_le p.natAbs q.natAbs
  omega
set_option maxRecDepth 100000 in
set_option maxHeartbeats 1000000 in
theorem lNumbers (a : Option Addr) (n cap : Nat) (w : World) (hB : BL w.heap.size a n w) :
    Calls Try.prog 3 #[.slice a n cap] w fun e w' => e = .returned (.bool true) ∧ Below w.heap.size w w' := by
  by_cases hn : 1048576 < n
  · have j1 : (1048576 : Int) < n := by omega
    go_enter Try.func3, Try.ntmps3
    go_wp2
    go_ret
    exact ⟨rfl, brf _⟩
  have j1 : ¬ (1048576 : Int) < n := by omega
  have HB := hide hB
  clear hB
  go_enter Try.func3, Try.ntmps3
  go_wp2_with fail
  refine (dKnown a n cap _ (by omega) (unhide HB)).mono ?_
  rintro e w1 ⟨⟨k, hk1, hk2, x0, y0, rfl⟩, hb1⟩
  have lA := Vb.nTxt_len k x0
  have lB := Vb.nTxt_len k y0
  have kA := Vb.nTxt_known k x0
  have kB := Vb.nTxt_known k y0
  generalize Vb.nTxt k x0 = A at *
  generalize Vb.nTxt k y0 = B at *
  have vA := ok_S (knV kA) (by omega) (by omega)
  have vB := ok_S (knV kB) (by omega) (by omega)
  have k2 : k ≤ 64 := by omega
  have kA' : (L (S A)).all Vb.knB = true := by rw [L_S]; exact kA
  have kB' : (L (S B)).all Vb.knB = true := by rw [L_S]; exact kB
  have c4 : Hid (Tx 19 #[.int .i64 4, .bool false, .string (S A), .string (S B)] _) := Tx_bin lA lB k2 (fun w => sBin4 false (S A) (S B) k w (small lA k2) (small lB k2) vA vB (sizeS lA) (sizeS lB) kA' kB')
  have c5 : Hid (Tx 19 #[.int .i64 5, .bool false, .string (S A), .string (S B)] _) := Tx_bin lA lB k2 (fun w => sBin5 false (S A) (S B) k w (small lA k2) (small lB k2) vA vB (sizeS lA) (sizeS lB) kA' kB')
  have c6 : Hid (Tx 19 #[.int .i64 6, .bool true, .string (S A), .string (S B)] _) := Tx_bin lA lB k2 (fun w => sBin6 true (S A) (S B) k w (small lA k2) (small lB k2) vA vB (sizeS lA) (sizeS lB) kA' kB')
  have c12 : Hid (Tx 19 #[.int .i64 12, .bool false, .string (S A), .string (S B)] _) := Tx_bin lA lB k2 (fun w => sBin12 false (S A) (S B) k w (small lA k2) (small lB k2) vA vB (sizeS lA) (sizeS lB) kA' kB')
  have c13 : Hid (Tx 19 #[.int .i64 13, .bool true, .string (S A), .string (S B)] _) := Tx_bin lA lB k2 (fun w => sBin13 true (S A) (S B) k w (small lA k2) (small lB k2) vA vB (sizeS lA) (sizeS lB) kA' kB')
  have c9 : Hid (Tx 19 #[.int .i64 9, .bool false, .string (S A), .string (S B)] _) := Tx_bin lA lB k2 (fun w => sBin9 false (S A) (S B) k w (small lA k2) (small lB k2) vA vB (sizeS lA) (sizeS lB))
  have cn : Hid (Tx 21 #[.int .i64 20, .string (S A)] (unL 20 A)) := iUn 20 (knV kA) (by omega) (by omega)
  have eun : unL 20 A = Vb.nTxt k (2 ^ k - Vb.num A) := by unfold unL; rw [if_neg (by decide), if_pos rfl, if_pos kA, lA]
  have i1 : Hid (∀ w, Calls Try.prog 17 #[.string (S A), .bool false] w fun e w' => e = .returned (.tuple #[.int .i64 (Vb.num A), .bool true]) ∧ w' = w) := fun w => by
    have := sIntOf (S A) false w (small lA k2) vA kA'
    rwa [L_S, intF (by omega)] at this
  have i2 : Hid (∀ w, Calls Try.prog 17 #[.string (S B), .bool false] w fun e w' => e = .returned (.tuple #[.int .i64 (Vb.num B), .bool true]) ∧ w' = w) := fun w => by
    have := sIntOf (S B) false w (small lB k2) vB kB'
    rwa [L_S, intF (by omega)] at this
  have i3 : Hid (∀ w, Calls Try.prog 17 #[.string (S A), .bool true] w fun e w' => e = .returned (.tuple #[.int .i64 (sI A), .bool true]) ∧ w' = w) := fun w => by
    have := sIntOf (S A) true w (small lA k2) vA kA'
    rwa [L_S, intT (by omega) (by omega)] at this
  have i4 : Hid (∀ w, Calls Try.prog 17 #[.string (S B), .bool true] w fun e w' => e = .returned (.tuple #[.int .i64 (sI B), .bool true]) ∧ w' = w) := fun w => by
    have := sIntOf (S B) true w (small lB k2) vB kB'
    rwa [L_S, intT (by omega) (by omega)] at this
  have i5 : Hid (∀ w, Calls Try.prog 18 #[.string (S A), .bool false] w fun e w' => e = .returned (.tuple #[.int .i64 (Vb.num A), .bool true]) ∧ Below w.heap.size w w') := fun w => by
    have := iIntOf (S A) false w (small lA k2) vA kA'
    rwa [L_S, intF (by omega)] at this
  have i6 : Hid (∀ w, Calls Try.prog 18 #[.string (S B), .bool true] w fun e w' => e = .returned (.tuple #[.int .i64 (sI B), .bool true]) ∧ Below w.heap.size w w') := fun w => by
    have := iIntOf (S B) true w (small lB k2) vB kB'
    rwa [L_S, intT (by omega) (by omega)] at this
  have kBig := big_ok kA lA hk1 hk2
  have r1 : Hid (Tx 22 #[.string (S A), .int .i64 64, .bool true] (rszL 64 true A)) := fun w => by
    have := iResize (S A) 64 true w (small lA k2) vA (by omega) (by omega)
    rwa [L_S] at this
  have r2 : Hid (∀ w, Calls Try.prog 18 #[.string (S (rszL 64 true A)), .bool true] w fun e w' => e = .returned (.tuple #[.int .i64 (sI A), .bool true]) ∧ Below w.heap.size w w') := fun w => by
    have := iIntOf (S (rszL 64 true A)) true w (small kBig.1 (by omega)) (ok_S (knV kBig.2) (by omega) (by omega)) (by rw [L_S]; exact kBig.2)
    rwa [L_S, int_big kA lA hk1 hk2] at this
  have r3 : Hid (Tx 22 #[.string (S (rszL 64 true A)), .int .i64 k, .bool false] A) := fun w => by
    have := iResize (S (rszL 64 true A)) k false w (small kBig.1 (by omega)) (ok_S (knV kBig.2) (by omega) (by omega)) hk1 k2
    rwa [L_S, rsz_back lA hk1 hk2] at this
  have dv : Hid (¬ (Vb.num B : Int) = 0 → (Tx 19 #[.int .i64 7, .bool false, .string (S A), .string (S B)] (Vb.nTxt k (((Vb.num A : Int).tdiv (Vb.num B : Int)) % 18446744073709551616).toNat)) ∧ (Tx 19 #[.int .i64 8, .bool false, .string (S A), .string (S B)] (Vb.nTxt k (((Vb.num A : Int).tmod (Vb.num B : Int)) % 18446744073709551616).toNat)) ∧
      (Tx 19 #[.int .i64 7, .bool true, .string (S A), .string (S B)] (Vb.nTxt k (((sI A).tdiv (sI B)) % 18446744073709551616).toNat)) ∧ (Tx 19 #[.int .i64 8, .bool true, .string (S A), .string (S B)] (Vb.nTxt k (((sI A).tmod (sI B)) % 18446744073709551616).toNat)) ∧ ¬ sI B = 0) := fun hz0 => by
    have hz : 0 < Vb.num B := by omega
    have hz' : 0 < Vb.num (L (S B)) := by rw [L_S]; exact hz
    have a1 := fun w => sBin7 false (S A) (S B) k w (small lA k2) (small lB k2) vA vB (sizeS lA) (sizeS lB) kA' kB' hz'
    have a2 := fun w => sBin8 false (S A) (S B) k w (small lA k2) (small lB k2) vA vB (sizeS lA) (sizeS lB) kA' kB' hz'
    have a3 := fun w => sBin7 true (S A) (S B) k w (small lA k2) (small lB k2) vA vB (sizeS lA) (sizeS lB) kA' kB' hz'
    have a4 := fun w => sBin8 true (S A) (S B) k w (small lA k2) (small lB k2) vA vB (sizeS lA) (sizeS lB) kA' kB' hz'
    rw [L_S, L_S, nDivU k2] at a1
    rw [L_S, L_S, nRemU k2] at a2
    rw [L_S, L_S, nDivS kA kB lA lB hk1 k2] at a3
    rw [L_S, L_S, nRemS kA kB lA lB hk1 k2 hz] at a4
    exact ⟨Tx_bin lA lB k2 a1, Tx_bin lA lB k2 a2, Tx_bin lA lB k2 a3, Tx_bin lA lB k2 a4, sI_ne0 kB (by omega) hz⟩
  rw [L_S, L_S, nAdd k2] at c4
  rw [L_S, L_S, nSub k2 lB] at c5
  rw [L_S, L_S, nMul k2] at c6
  rw [eun, nNeg k2 lA] at cn
  rw [L_S, L_S, nLt] at c12
  rw [L_S, L_S, nLe kA kB (by omega) (by omega) (by omega)] at c13
  rw [L_S, L_S, nEq kA kB (by omega)] at c9
  have jn : Hid (∀ q : Nat, 1 ≤ q → q < k → joinL [] [S (partL A q (k - q)), S (partL A (0 : Nat) q)] = A) := fun q h1 h2 => join_two lA (knV kA) h1 h2 k2
  have rA := Vb.num_lt A
  have rB := Vb.num_lt B
  have rp : 2 ^ k ≤ 2 ^ 30 := Nat.pow_le_pow_right (by decide) hk2
  rw [lA] at rA
  rw [lB] at rB
  have sA : -1073741824 ≤ sI A ∧ sI A ≤ 1073741824 := by unfold sI; split <;> (rw [lA] at *; omega)
  have sB : -1073741824 ≤ sI B ∧ sI B ≤ 1073741824 := by unfold sI; split <;> (rw [lB] at *; omega)
  have pt1 : Hid (∀ c : Nat, 1 ≤ c → c < k → ∀ w, Calls Try.prog 24 #[.string (S A), .int .i64 ((k : Int) - 1), .int .i64 c] w fun e w' => e = .returned (.string (S (partL A c (k - c)))) ∧ Below w.heap.size w w') := fun c h1 h2 w => by
    have := iPart (S A) ((k : Int) - 1) c w (small lA k2) vA (by omega) (by omega) (by omega) (k - 1 - c) (by omega) (by omega)
    rwa [L_S, show k - 1 - c + 1 = k - c by omega] at this
  have pt2 : Hid (∀ c : Nat, 1 ≤ c → c < k → ∀ w, Calls Try.prog 24 #[.string (S A), .int .i64 ((c : Int) - 1), .int .i64 0] w fun e w' => e = .returned (.string (S (partL A (0 : Nat) c))) ∧ Below w.heap.size w w') := fun c h1 h2 w => by
    have := iPart (S A) ((c : Int) - 1) ((0 : Nat) : Int) w (small lA k2) vA (by omega) (by omega) (by omega) (c - 1) (by omega) (by omega)
    rwa [L_S, show c - 1 + 1 = c by omega] at this
  have xA : (0 : Int) ≤ Vb.num A ∧ (Vb.num A : Int) < 1073741824 := by omega
  have xB : (0 : Int) ≤ Vb.num B ∧ (Vb.num B : Int) < 1073741824 := by omega
  have HB1 := hide hb1
  have KA := hide kA
  clear hb1 HB kA kB kA' kB' vA vB eun kBig rA rB rp
  generalize (Vb.num A : Int) = x at *
  generalize (Vb.num B : Int) = y at *
  generalize sI A = p at *
  generalize sI B = q at *
  have zA := S_size A
  have xy1 : 0 ≤ x * y := Int.mul_nonneg xA.1 xB.1
  have xy2 : x * y ≤ 1152921504606846976 := Int.le_trans (Int.mul_le_mul (Int.le_of_lt xA.2) (Int.le_of_lt xB.2) xB.1 (by decide)) (by decide)
  obtain ⟨xA1, xA2⟩ := xA
  obtain ⟨xB1, xB2⟩ := xB
  obtain ⟨pA1, pA2⟩ := sA
  obtain ⟨pB1, pB2⟩ := sB
  have d4 : Hid (Tx 20 #[.int .i64 (x + y), .int .i64 k] _) := Tx_bits (x + y) k hk1 k2
  have d5 : Hid (Tx 20 #[.int .i64 (x - y), .int .i64 k] _) := Tx_bits (x - y) k hk1 k2
  have d6 : Hid (Tx 20 #[.int .i64 (x * y), .int .i64 k] _) := Tx_bits (x * y) k hk1 k2
  have dn : Hid (Tx 20 #[.int .i64 (-x), .int .i64 k] _) := Tx_bits (-x) k hk1 k2
  generalize Vb.nTxt k ((x + y) % 18446744073709551616).toNat = T4 at c4 d4
  generalize Vb.nTxt k ((x - y) % 18446744073709551616).toNat = T5 at c5 d5
  generalize Vb.nTxt k ((x * y) % 18446744073709551616).toNat = T6 at c6 d6
  generalize Vb.nTxt k ((-x) % 18446744073709551616).toNat = Tn at cn dn
  generalize rszL 64 true A = Bg at *
  have q12 := one_text (decide (x < y))
  have q13 := one_text (decide (p ≤ q))
  have q9 : ((S [bl (decide (x = y))]).toList == [49]) = (x == y) := by rw [one_text]; by_cases h : x = y <;> simp [h]
  generalize [bl (decide (x < y))] = T12 at c12 q12
  generalize [bl (decide (p ≤ q))] = T13 at c13 q13
  generalize [bl (decide (x = y))] = T9 at c9 q9
  go_wp2_with fail
  refine (unhide i1 _).mono ?_
  rintro e v ⟨rfl, rfl⟩
  go_wp2_with fail
  refine (unhide i2 _).mono ?_
  rintro e v ⟨rfl, rfl⟩
  go_wp2_with fail
  refine (unhide i3 _).mono ?_
  rintro e v ⟨rfl, rfl⟩
  go_wp2_with fail
  refine (unhide i4 _).mono ?_
  rintro e v ⟨rfl, rfl⟩
  go_wp2_with fail
  refine (unhide i5 _).mono ?_
  rintro e v1 ⟨rfl, hb⟩
  have HB2 := hide (below_step (unhide HB1) hb)
  clear hb HB1
  go_wp2_with fail
  refine (unhide i6 _).mono ?_
  rintro e v2 ⟨rfl, hb⟩
  have HB3 := hide (below_step (unhide HB2) hb)
  clear hb HB2
  go_wp2_with fail
  refine (unhide c4 _).mono ?_
  rintro e v3 ⟨rfl, hb⟩
  have HB4 := hide (below_step (unhide HB3) hb)
  clear hb HB3
  go_wp2_with fail
  refine (unhide d4 _).mono ?_
  rintro e v4 ⟨rfl, hb⟩
  have HB5 := hide (below_step (unhide HB4) hb)
  clear hb HB4
  go_wp2_with fail
  refine (unhide c5 _).mono ?_
  rintro e v5 ⟨rfl, hb⟩
  have HB6 := hide (below_step (unhide HB5) hb)
  clear hb HB5
  go_wp2_with fail
  refine (unhide d5 _).mono ?_
  rintro e v6 ⟨rfl, hb⟩
  have HB7 := hide (below_step (unhide HB6) hb)
  clear hb HB6
  go_wp2_with fail
  refine (unhide c6 _).mono ?_
  rintro e v7 ⟨rfl, hb⟩
  have HB8 := hide (below_step (unhide HB7) hb)
  clear hb HB7
  go_wp2_with fail
  refine (unhide d6 _).mono ?_
  rintro e v8 ⟨rfl, hb⟩
  have HB9 := hide (below_step (unhide HB8) hb)
  clear hb HB8
  go_wp2_with fail
  refine (unhide cn _).mono ?_
  rintro e v9 ⟨rfl, hb⟩
  have HB10 := hide (below_step (unhide HB9) hb)
  clear hb HB9
  go_wp2_with fail
  refine (unhide dn _).mono ?_
  rintro e v10 ⟨rfl, hb⟩
  have HB11 := hide (below_step (unhide HB10) hb)
  clear hb HB10
  by_cases hy : y = 0
  · subst hy
    clear dv
    go_wp2_with fail
    refine (unhide c12 _).mono ?_
    rintro e v11 ⟨rfl, hb⟩
    have HB12 := hide (below_step (unhide HB11) hb)
    clear hb HB11
    go_wp2_with fail
    refine (unhide c13 _).mono ?_
    rintro e v12 ⟨rfl, hb⟩
    have HB13 := hide (below_step (unhide HB12) hb)
    clear hb HB12
    go_wp2_with fail
    refine (unhide c9 _).mono ?_
    rintro e v13 ⟨rfl, hb⟩
    have HB14 := hide (below_step (unhide HB13) hb)
    clear hb HB13
    go_wp2_with fail
    refine (unhide r1 _).mono ?_
    rintro e v14 ⟨rfl, hb⟩
    have HB15 := hide (below_step (unhide HB14) hb)
    clear hb HB14
    go_wp2_with fail
    refine (unhide r2 _).mono ?_
    rintro e v15 ⟨rfl, hb⟩
    have HB16 := hide (below_step (unhide HB15) hb)
    clear hb HB15
    go_wp2_with fail
    refine (unhide r3 _).mono ?_
    rintro e v16 ⟨rfl, hb⟩
    have HB17 := hide (below_step (unhide HB16) hb)
    clear hb HB16
    by_cases hc : k = 1
    · subst hc
      go_wp2
      go_ret
      exact ⟨rfl, unhide HB17⟩
    · have e2 : (k : Int) / 2 = ((k / 2 : Nat) : Int) := rfl
      have hc1 : 1 ≤ k / 2 := by omega
      have hc2 : k / 2 < k := by omega
      generalize k / 2 = c at *
      have hc0 : ((c : Int) == 0) = false := by rw [beq_eq_false_iff_ne]; omega
      have P1 := hide (unhide pt1 c hc1 hc2)
      have P2 := hide (unhide pt2 c hc1 hc2)
      have hj := unhide jn c hc1 hc2
      have z1 : (S (partL A c (k - c))).size ≤ 1048576 := by rw [S_size, partL_len]; omega
      have z2 : (S (partL A (0 : Nat) c)).size ≤ 1048576 := by rw [S_size, partL_len]; omega
      generalize S (partL A c (k - c)) = Q1 at *
      generalize S (partL A (0 : Nat) c) = Q2 at *
      have HJ := hide hj
      clear hj
      go_wp2_with fail
      refine (unhide P1 _).mono ?_
      rintro e v17 ⟨rfl, hb⟩
      have HB18 := hide (below_step (unhide HB17) hb)
      clear hb HB17
      go_wp2_with fail
      refine (unhide P2 _).mono ?_
      rintro e v18 ⟨rfl, hb⟩
      have HB19 := hide (below_step (unhide HB18) hb)
      clear hb HB18
      go_wp2_with fail
      refine (iJoin (some ⟨v18.heap.size, 0, none⟩) 2 2 [Q1, Q2] _ (two_SL v18 Q1 Q2) (by omega) (by intro s hs; simp at hs; rcases hs with rfl | rfl <;> assumption)).mono ?_
      rintro e v19 ⟨rfl, hb⟩
      rw [unhide HJ]
      have HB20 := hide (below_step (bal (unhide HB19) _) hb)
      clear hb HB19
      go_wp2
      go_ret
      exact ⟨rfl, unhide HB20⟩
  · obtain ⟨c7, c8, s7, s8, hq0⟩ := unhide dv hy
    have dB : ∀ v : Int, Tx 20 #[.int .i64 v, .int .i64 k] (Vb.nTxt k (v % 18446744073709551616).toNat) := fun v => Tx_bits v k hk1 k2
    obtain ⟨BB, hBB⟩ : ∃ BB : Int → List UInt8, ∀ v, Vb.nTxt k (v % 18446744073709551616).toNat = BB v := ⟨_, fun _ => rfl⟩
    rw [hBB] at c7 c8 s7 s8
    simp only [hBB] at dB
    obtain ⟨t1, t2⟩ := tdiv_le p q ⟨pA1, pA2⟩
    obtain ⟨t3, t4⟩ := tmod_le p q ⟨pA1, pA2⟩
    have wr : ∀ n : Int, -1073741824 ≤ n ∧ n ≤ 1073741824 → IntKind.i64.wrap n = n := fun n h => by rw [IntKind.wrap_i64]; omega
    have g1 : BB (IntKind.i64.wrap (x.tdiv y)) = BB (x.tdiv y) := by rw [wr _ (tdiv_le x y (by omega))]
    have g2 : BB (IntKind.i64.wrap (x.tmod y)) = BB (x.tmod y) := by rw [wr _ (tmod_le x y (by omega))]
    have g3 : BB (IntKind.i64.wrap (p.tdiv q)) = BB (p.tdiv q) := by rw [wr _ (tdiv_le p q (by omega))]
    have g4 : BB (IntKind.i64.wrap (p.tmod q)) = BB (p.tmod q) := by rw [wr _ (tmod_le p q (by omega))]
    obtain ⟨DD, hD, e1, e2, e3, e4⟩ : ∃ DD : Int → Bool → List UInt8, (∀ (op : Int) (sg : Bool), (op = 7 ∨ op = 8) → Tx 19 #[.int .i64 op, .bool sg, .string (S A), .string (S B)] (DD op sg)) ∧ DD 7 false = BB (x.tdiv y) ∧ DD 7 true = BB (p.tdiv q) ∧ DD 8 false = BB (x.tmod y) ∧ DD 8 true = BB (p.tmod q) := by
      refine ⟨fun op sg => BB (if op = 7 then (if sg = true then p.tdiv q else x.tdiv y) else (if sg = true then p.tmod q else x.tmod y)), ?_, rfl, rfl, rfl, rfl⟩
      intro op sg h
      rcases h with rfl | rfl <;> cases sg
      · exact c7
      · exact s7
      · exact c8
      · exact s8
    have HD := hide hD
    have DB := hide dB
    have g5 : BB (x.tdiv y) = BB (x.tdiv y) := rfl
    have g6 : BB (x.tmod y) = BB (x.tmod y) := rfl
    have g7 : BB (p.tdiv q) = BB (p.tdiv q) := rfl
    have g8 : BB (p.tmod q) = BB (p.tmod q) := rfl
    generalize hD1 : BB (x.tdiv y) = D1 at e1 g1
    generalize hD2 : BB (p.tdiv q) = D2 at e2 g3
    generalize hD3 : BB (x.tmod y) = D3 at e3 g2
    generalize hD4 : BB (p.tmod q) = D4 at e4 g4
    have G3 := hide g3
    have G4 := hide g4
    have G5 := hide hD1
    have G6 := hide hD2
    have G7 := hide hD3
    have G8 := hide hD4
    clear hD1 hD2 hD3 hD4 wr t1 t2 t3 t4
    have G1 := hide g1
    have G2 := hide g2
    have E1 := hide e1
    have E2 := hide e2
    have E3 := hide e3
    have E4 := hide e4
    have hy0 : (y == 0) = false := by rw [beq_eq_false_iff_ne]; exact hy
    have hqb : (q == 0) = false := by rw [beq_eq_false_iff_ne]; exact hq0
    clear c7 c8 s7 s8 dB hD hBB dv e1 e2 e3 e4 g1 g2 g3 g4 g5 g6
    go_wp2_with fail
    go_region_held3 (fun w' => Below w.heap.size w w')
      (first | exact unhide HB11 | exact below_step (by assumption) hb | assumption | exact below_drewN (by assumption) _)
      (first
        | (go_at_call 19; refine (unhide HD _ _ (by decide) _).mono ?_; rintro e v ⟨rfl, hb⟩; first | rw [unhide E1] | rw [unhide E2] | rw [unhide E3] | rw [unhide E4])
        | (go_at_call 20; refine (unhide DB _ _).mono ?_; rintro e v ⟨rfl, hb⟩; first | rw [unhide G1] | rw [unhide G2] | rw [unhide G3] | rw [unhide G4] | rw [unhide G5] | rw [unhide G6] | rw [unhide G7] | rw [unhide G8]))
    have hS : Below w.heap.size w v := by assumption
    have HB11' := hide hS
    clear HB11 hS HD DB E1 E2 E3 E4 G1 G2 G3 G4 G5 G6 G7 G8
    have HB11 := HB11'
    clear HB11'
    go_wp2_with fail
    refine (unhide c12 _).mono ?_
    rintro e v11 ⟨rfl, hb⟩
    have HB12 := hide (below_step (unhide HB11) hb)
    clear hb HB11
    go_wp2_with fail
    refine (unhide c13 _).mono ?_
    rintro e v12 ⟨rfl, hb⟩
    have HB13 := hide (below_step (unhide HB12) hb)
    clear hb HB12
    go_wp2_with fail
    refine (unhide c9 _).mono ?_
    rintro e v13 ⟨rfl, hb⟩
    have HB14 := hide (below_step (unhide HB13) hb)
    clear hb HB13
    go_wp2_with fail
    refine (unhide r1 _).mono ?_
    rintro e v14 ⟨rfl, hb⟩
    have HB15 := hide (below_step (unhide HB14) hb)
    clear hb HB14
    go_wp2_with fail
    refine (unhide r2 _).mono ?_
    rintro e v15 ⟨rfl, hb⟩
    have HB16 := hide (below_step (unhide HB15) hb)
    clear hb HB15
    go_wp2_with fail
    refine (unhide r3 _).mono ?_
    rintro e v16 ⟨rfl, hb⟩
    have HB17 := hide (below_step (unhide HB16) hb)
    clear hb HB16
    by_cases hc : k = 1
    · subst hc
      go_wp2
      go_ret
      exact ⟨rfl, unhide HB17⟩
    · have e2 : (k : Int) / 2 = ((k / 2 : Nat) : Int) := rfl
      have hc1 : 1 ≤ k / 2 := by omega
      have hc2 : k / 2 < k := by omega
      generalize k / 2 = c at *
      have hc0 : ((c : Int) == 0) = false := by rw [beq_eq_false_iff_ne]; omega
      have P1 := hide (unhide pt1 c hc1 hc2)
      have P2 := hide (unhide pt2 c hc1 hc2)
      have hj := unhide jn c hc1 hc2
      have z1 : (S (partL A c (k - c))).size ≤ 1048576 := by rw [S_size, partL_len]; omega
      have z2 : (S (partL A (0 : Nat) c)).size ≤ 1048576 := by rw [S_size, partL_len]; omega
      generalize S (partL A c (k - c)) = Q1 at *
      generalize S (partL A (0 : Nat) c) = Q2 at *
      have HJ := hide hj
      clear hj
      go_wp2_with fail
      refine (unhide P1 _).mono ?_
      rintro e v17 ⟨rfl, hb⟩
      have HB18 := hide (below_step (unhide HB17) hb)
      clear hb HB17
      go_wp2_with fail
      refine (unhide P2 _).mono ?_
      rintro e v18 ⟨rfl, hb⟩
      have HB19 := hide (below_step (unhide HB18) hb)
      clear hb HB18
      go_wp2_with fail
      refine (iJoin (some ⟨v18.heap.size, 0, none⟩) 2 2 [Q1, Q2] _ (two_SL v18 Q1 Q2) (by omega) (by intro s hs; simp at hs; rcases hs with rfl | rfl <;> assumption)).mono ?_
      rintro e v19 ⟨rfl, hb⟩
      rw [unhide HJ]
      have HB20 := hide (below_step (bal (unhide HB19) _) hb)
      clear hb HB19
      go_wp2
      go_ret
      exact ⟨rfl, unhide HB20⟩
theorem lNumbersP (a : Option Addr) (n cap : Nat) (w : World) (hB : BL w.heap.size a n w) :
    Calls Try.prog 3 #[.slice a n cap] w fun e w' => e = .returned (.bool true) ∧ Below w.heap.size w w' := lNumbers a n cap w hB
end Go.Proofs.Ytmbllgblbdfobaa
