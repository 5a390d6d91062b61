/- Parts of the proof: NS3 to NS6. -/
import Derived.Test.YtddlokkejglckaaGreatDoorMNS2
import Derived.Test.YtddlokkejglckaaGreatDoorMBits
namespace Go.Proofs.YtddlokkejglckaaGreatDoor
open Go.RowKit
set_option maxHeartbeats 400000
set_option maxRecDepth 100000
set_option linter.unusedVariables false
theorem below_nst {w W W' : World} (h : Below w.heap.size w W) (h2 : Below W.heap.size W W') : Below w.heap.size w W' := h.trans (h2.mono h.size)
theorem sAddN (n X Y : Nat) (W : World) (hn : n ≤ 70) :
   CB 93 #[.string (S (Vb.nTxt n X)), .string (S (Vb.nTxt n Y)), .int .u8 48] W (.string (S (Vb.nTxt n (X + Y)))) := by
 have := sAdd (S (Vb.nTxt n X)) (S (Vb.nTxt n Y)) false W (by rw [S_size, Vb.nTxt_len]; omega) (by rw [S_size, S_size, Vb.nTxt_len, Vb.nTxt_len]) (by rw [L_S]; exact Vb.nTxt_known _ _) (by rw [L_S]; exact Vb.nTxt_known _ _)
 rw [S_size, Vb.nTxt_len, L_S, L_S, Vb.num_nTxt, Vb.num_nTxt] at this
 rw [show Vb.nTxt n (X + Y) = Vb.nTxt n (X % 2 ^ n + Y % 2 ^ n + Bool.toNat false) from Vb.nTxt_congr (by rw [show Bool.toNat false = 0 from rfl, Nat.add_zero, ← Nat.add_mod])]
 exact this
theorem S_app' (a b : List UInt8) : S a ++ S b = S (a ++ b) := by
 apply L_inj; rw [L_S]; unfold L S; simp [ByteArray.data_append]
set_option maxRecDepth 100000 in
theorem sTen (n V d : Nat) (w : World) (h1 : 1 ≤ n) (h2 : n ≤ 64) (hV : V < 2 ^ n) (hd : d ≤ 9) :
   CB 78 #[.string (S (Vb.nTxt n V)), .int .i64 d] w (.string (S (Vb.nTxt (4 + n) (10 * V + d)))) := by
 have e0 : (⟨#[48, 48, 48, 48]⟩ : ByteArray) ++ S (Vb.nTxt n V) = S (Vb.nTxt (4 + n) V) := by
   rw [← Nb.pad_nTxt 4 n V hV, ← S_app']; rfl
 have z0 : (S (Vb.nTxt (4 + n) V)).size = 4 + n := by rw [S_size, Vb.nTxt_len]
 have zV : (S (Vb.nTxt n V)).size = n := by rw [S_size, Vb.nTxt_len]
 have e1 : S (List.replicate n 48) ++ S (Vb.nTxt 4 d) = S (Vb.nTxt (4 + n) d) := by
   rw [S_app', Nb.pad_nTxt n 4 d (by omega), Nat.add_comm]
 have z1 : (S (List.replicate n 48)).size = n := by rw [S_size, List.length_replicate]
 have z2 : (S (Vb.nTxt 4 d)).size = 4 := by rw [S_size, Vb.nTxt_len]
 have c1 := h_ (fun v => sAddN (4 + n) V V v (by omega))
 have c2 := h_ (fun v => sAddN (4 + n) (V + V) (V + V) v (by omega))
 have c3 := h_ (fun v => sAddN (4 + n) (V + V + (V + V)) (V + V + (V + V)) v (by omega))
 have c4 := h_ (fun v => sAddN (4 + n) (V + V + (V + V) + (V + V + (V + V))) (V + V) v (by omega))
 have c5 := h_ (fun v => sAddN (4 + n) (V + V + (V + V) + (V + V + (V + V)) + (V + V)) d v (by omega))
 have b1 := h_ (fun v => sBitsOf (d : Int) 4 v (by omega) (by omega))
 rw [show ((d : Int) % 18446744073709551616).toNat = d by omega] at b1
 have f1 := h_ (fun v => sFill 48 n v (by omega))
 rw [show V + V + (V + V) + (V + V + (V + V)) + (V + V) + d = 10 * V + d by omega] at c5
 generalize S (Vb.nTxt (4 + n) (10 * V + d)) = T5 at *
 generalize S (Vb.nTxt (4 + n) (V + V + (V + V) + (V + V + (V + V)) + (V + V))) = T4 at *
 generalize S (Vb.nTxt (4 + n) (V + V + (V + V) + (V + V + (V + V)))) = T3 at *
 generalize S (Vb.nTxt (4 + n) (V + V + (V + V))) = T2 at *
 generalize S (Vb.nTxt (4 + n) (V + V)) = T1 at *
 generalize S (Vb.nTxt (4 + n) V) = T0 at *
 generalize S (Vb.nTxt (4 + n) d) = Td at *
 generalize S (Vb.nTxt 4 d) = T6 at *
 generalize S (List.replicate n 48) = T7 at *
 go_enter Tryz.func78, Tryz.ntmps78
 go_wp2_with fail
 refine (u_ c1 _).mono ?_
 rintro e v1 ⟨rfl, hb⟩
 have HB1 := h_ hb
 clear hb
 go_wp2_with fail
 refine (u_ c2 _).mono ?_
 rintro e v2 ⟨rfl, hb⟩
 have HB2 := h_ (below_nst (u_ HB1) hb)
 clear hb
 go_wp2_with fail
 refine (u_ c3 _).mono ?_
 rintro e v3 ⟨rfl, hb⟩
 have HB3 := h_ (below_nst (u_ HB2) hb)
 clear hb
 go_wp2_with fail
 refine (u_ c4 _).mono ?_
 rintro e v4 ⟨rfl, hb⟩
 have HB4 := h_ (below_nst (u_ HB3) hb)
 clear hb
 go_wp2_with fail
 refine (u_ b1 _).mono ?_
 rintro e v5 ⟨rfl, rfl⟩
 go_wp2_with fail
 rw [show (4 : Int) + (n : Int) - 4 = (n : Int) by omega]
 refine (u_ f1 _).mono ?_
 rintro e v6 ⟨rfl, hb⟩
 have HB6 := h_ (below_nst (u_ HB4) hb)
 clear hb
 go_wp2_with fail
 refine (u_ c5 _).mono ?_
 rintro e v7 ⟨rfl, hb⟩
 have HB7 := h_ (below_nst (u_ HB6) hb)
 clear hb
 go_wp2
 go_ret
 exact ⟨rfl, u_ HB7⟩
set_option maxRecDepth 100000 in
theorem sDigitsX (c : UInt8) (n : Nat) (w : World) (h1 : c = 120 ∨ c = 122) (hn : n ≤ 4) :
   CB 80 #[.int .u8 (c.toNat : Int), .int .i64 n] w (.tuple #[.string (S (List.replicate n c)), .bool true]) := by
 rcases h1 with rfl | rfl
 · have F : Hid (∀ v, CB 77 #[.int .u8 120, .int .i64 n] v (.string (S (List.replicate n 120)))) := fun v => sFill 120 n v (by omega)
   show Calls Tryz.prog 80 #[.int .u8 120, .int .i64 n] w _
   generalize S (List.replicate n 120) = T at *
   go_enter Tryz.func80, Tryz.ntmps80
   go_wp2_with (first | (go_at_call 77; refine (u_ F _).mono ?_; rintro e w' ⟨rfl, hb⟩))
   exact bodyPost_ret (v := .tuple #[.string T, .bool true]) (by simp [results, Tryz.results80, go_sem]) rfl ⟨rfl, hb⟩
 · have F : Hid (∀ v, CB 77 #[.int .u8 122, .int .i64 n] v (.string (S (List.replicate n 122)))) := fun v => sFill 122 n v (by omega)
   show Calls Tryz.prog 80 #[.int .u8 122, .int .i64 n] w _
   generalize S (List.replicate n 122) = T at *
   go_enter Tryz.func80, Tryz.ntmps80
   go_wp2_with (first | (go_at_call 77; refine (u_ F _).mono ?_; rintro e w' ⟨rfl, hb⟩))
   exact bodyPost_ret (v := .tuple #[.string T, .bool true]) (by simp [results, Tryz.results80, go_sem]) rfl ⟨rfl, hb⟩
set_option maxRecDepth 100000 in
theorem sDigD1ok (x : Nat) (w : World) (h1 : 48 ≤ x) (h2 : x ≤ 57) (hg : x - 48 < 2) (D : ∀ v, Calls Tryz.prog 75 #[.int .u8 x] v fun e w' => e = .returned (.bool true) ∧ w' = v) :
   Calls Tryz.prog 80 #[.int .u8 x, .int .i64 1] w fun e w' => e = .returned (.tuple #[.string (S (Vb.nTxt 1 (x - 48))), .bool true]) ∧ w' = w := by
 have D := h_ D
 have q1 : ((x : Int) == 120) = false := by rw [beq_eq_false_iff_ne]; omega
 have q2 : ((x : Int) == 122) = false := by rw [beq_eq_false_iff_ne]; omega
 have q0 : ¬ (2 : Int) ≤ (x : Int) - 48 := by omega
 have BT : Hid (∀ v, Calls Tryz.prog 76 #[.int .i64 ((x : Int) - 48), .int .i64 1] v fun e w' => e = .returned (.string (S (Vb.nTxt 1 (x - 48)))) ∧ w' = v) := fun v => by
   have := sBitsOf ((x : Int) - 48) 1 v (by omega) (by omega)
   rwa [show (((x : Int) - 48) % 18446744073709551616).toNat = x - 48 by omega] at this
 generalize S (Vb.nTxt 1 (x - 48)) = T at *
 go_enter Tryz.func80, Tryz.ntmps80
 go_wp2_with (first | (go_at_call 75; refine (u_ D _).mono ?_; rintro e w' ⟨rfl, rfl⟩) | (go_at_call 76; refine (u_ BT _).mono ?_; rintro e w' ⟨rfl, rfl⟩))
 exact bodyPost_ret (v := .tuple #[.string T, .bool true]) (by simp [results, Tryz.results80, go_sem]) rfl ⟨rfl, rfl⟩
set_option maxRecDepth 100000 in
theorem sDigD1no (x : Nat) (w : World) (h1 : 48 ≤ x) (h2 : x ≤ 57) (hg : 2 ≤ x - 48) (D : ∀ v, Calls Tryz.prog 75 #[.int .u8 x] v fun e w' => e = .returned (.bool true) ∧ w' = v) :
   Calls Tryz.prog 80 #[.int .u8 x, .int .i64 1] w fun e w' => e = .returned (.tuple #[.string (S []), .bool false]) ∧ w' = w := by
 have D := h_ D
 have q1 : ((x : Int) == 120) = false := by rw [beq_eq_false_iff_ne]; omega
 have q2 : ((x : Int) == 122) = false := by rw [beq_eq_false_iff_ne]; omega
 have q0 : (2 : Int) ≤ (x : Int) - 48 := by omega
 go_enter Tryz.func80, Tryz.ntmps80
 go_wp2_with (first | (go_at_call 75; refine (u_ D _).mono ?_; rintro e w' ⟨rfl, rfl⟩))
 exact bodyPost_ret (v := .tuple #[.string (S []), .bool false]) (by simp [results, Tryz.results80, go_sem, S]) rfl ⟨rfl, rfl⟩
set_option maxRecDepth 100000 in
theorem sDigD3ok (x : Nat) (w : World) (h1 : 48 ≤ x) (h2 : x ≤ 57) (hg : x - 48 < 8) (D : ∀ v, Calls Tryz.prog 75 #[.int .u8 x] v fun e w' => e = .returned (.bool true) ∧ w' = v) :
   Calls Tryz.prog 80 #[.int .u8 x, .int .i64 3] w fun e w' => e = .returned (.tuple #[.string (S (Vb.nTxt 3 (x - 48))), .bool true]) ∧ w' = w := by
 have D := h_ D
 have q1 : ((x : Int) == 120) = false := by rw [beq_eq_false_iff_ne]; omega
 have q2 : ((x : Int) == 122) = false := by rw [beq_eq_false_iff_ne]; omega
 have q0 : ¬ (8 : Int) ≤ (x : Int) - 48 := by omega
 have BT : Hid (∀ v, Calls Tryz.prog 76 #[.int .i64 ((x : Int) - 48), .int .i64 3] v fun e w' => e = .returned (.string (S (Vb.nTxt 3 (x - 48)))) ∧ w' = v) := fun v => by
   have := sBitsOf ((x : Int) - 48) 3 v (by omega) (by omega)
   rwa [show (((x : Int) - 48) % 18446744073709551616).toNat = x - 48 by omega] at this
 generalize S (Vb.nTxt 3 (x - 48)) = T at *
 go_enter Tryz.func80, Tryz.ntmps80
 go_wp2_with (first | (go_at_call 75; refine (u_ D _).mono ?_; rintro e w' ⟨rfl, rfl⟩) | (go_at_call 76; refine (u_ BT _).mono ?_; rintro e w' ⟨rfl, rfl⟩))
 exact bodyPost_ret (v := .tuple #[.string T, .bool true]) (by simp [results, Tryz.results80, go_sem]) rfl ⟨rfl, rfl⟩
set_option maxRecDepth 100000 in
theorem sDigD3no (x : Nat) (w : World) (h1 : 48 ≤ x) (h2 : x ≤ 57) (hg : 8 ≤ x - 48) (D : ∀ v, Calls Tryz.prog 75 #[.int .u8 x] v fun e w' => e = .returned (.bool true) ∧ w' = v) :
   Calls Tryz.prog 80 #[.int .u8 x, .int .i64 3] w fun e w' => e = .returned (.tuple #[.string (S []), .bool false]) ∧ w' = w := by
 have D := h_ D
 have q1 : ((x : Int) == 120) = false := by rw [beq_eq_false_iff_ne]; omega
 have q2 : ((x : Int) == 122) = false := by rw [beq_eq_false_iff_ne]; omega
 have q0 : (8 : Int) ≤ (x : Int) - 48 := by omega
 go_enter Tryz.func80, Tryz.ntmps80
 go_wp2_with (first | (go_at_call 75; refine (u_ D _).mono ?_; rintro e w' ⟨rfl, rfl⟩))
 exact bodyPost_ret (v := .tuple #[.string (S []), .bool false]) (by simp [results, Tryz.results80, go_sem, S]) rfl ⟨rfl, rfl⟩
set_option maxRecDepth 100000 in
theorem sDigD4ok (x : Nat) (w : World) (h1 : 48 ≤ x) (h2 : x ≤ 57) (hg : x - 48 < 16) (D : ∀ v, Calls Tryz.prog 75 #[.int .u8 x] v fun e w' => e = .returned (.bool true) ∧ w' = v) :
   Calls Tryz.prog 80 #[.int .u8 x, .int .i64 4] w fun e w' => e = .returned (.tuple #[.string (S (Vb.nTxt 4 (x - 48))), .bool true]) ∧ w' = w := by
 have D := h_ D
 have q1 : ((x : Int) == 120) = false := by rw [beq_eq_false_iff_ne]; omega
 have q2 : ((x : Int) == 122) = false := by rw [beq_eq_false_iff_ne]; omega
 have q0 : ¬ (16 : Int) ≤ (x : Int) - 48 := by omega
 have BT : Hid (∀ v, Calls Tryz.prog 76 #[.int .i64 ((x : Int) - 48), .int .i64 4] v fun e w' => e = .returned (.string (S (Vb.nTxt 4 (x - 48)))) ∧ w' = v) := fun v => by
   have := sBitsOf ((x : Int) - 48) 4 v (by omega) (by omega)
   rwa [show (((x : Int) - 48) % 18446744073709551616).toNat = x - 48 by omega] at this
 generalize S (Vb.nTxt 4 (x - 48)) = T at *
 go_enter Tryz.func80, Tryz.ntmps80
 go_wp2_with (first | (go_at_call 75; refine (u_ D _).mono ?_; rintro e w' ⟨rfl, rfl⟩) | (go_at_call 76; refine (u_ BT _).mono ?_; rintro e w' ⟨rfl, rfl⟩))
 exact bodyPost_ret (v := .tuple #[.string T, .bool true]) (by simp [results, Tryz.results80, go_sem]) rfl ⟨rfl, rfl⟩
set_option maxRecDepth 100000 in
theorem sDigD4no (x : Nat) (w : World) (h1 : 48 ≤ x) (h2 : x ≤ 57) (hg : 16 ≤ x - 48) (D : ∀ v, Calls Tryz.prog 75 #[.int .u8 x] v fun e w' => e = .returned (.bool true) ∧ w' = v) :
   Calls Tryz.prog 80 #[.int .u8 x, .int .i64 4] w fun e w' => e = .returned (.tuple #[.string (S []), .bool false]) ∧ w' = w := by
 have D := h_ D
 have q1 : ((x : Int) == 120) = false := by rw [beq_eq_false_iff_ne]; omega
 have q2 : ((x : Int) == 122) = false := by rw [beq_eq_false_iff_ne]; omega
 have q0 : (16 : Int) ≤ (x : Int) - 48 := by omega
 go_enter Tryz.func80, Tryz.ntmps80
 go_wp2_with (first | (go_at_call 75; refine (u_ D _).mono ?_; rintro e w' ⟨rfl, rfl⟩))
 exact bodyPost_ret (v := .tuple #[.string (S []), .bool false]) (by simp [results, Tryz.results80, go_sem, S]) rfl ⟨rfl, rfl⟩
set_option maxRecDepth 100000 in
theorem sDigH1no (x : Nat) (w : World) (h1 : 97 ≤ x) (h2 : x ≤ 102) (hg : 2 ≤ x - 87) (D : ∀ v, Calls Tryz.prog 75 #[.int .u8 x] v fun e w' => e = .returned (.bool false) ∧ w' = v) :
   Calls Tryz.prog 80 #[.int .u8 x, .int .i64 1] w fun e w' => e = .returned (.tuple #[.string (S []), .bool false]) ∧ w' = w := by
 have D := h_ D
 have q1 : ((x : Int) == 120) = false := by rw [beq_eq_false_iff_ne]; omega
 have q2 : ((x : Int) == 122) = false := by rw [beq_eq_false_iff_ne]; omega
 have q0 : (2 : Int) ≤ (x : Int) - 97 + 10 := by omega
 go_enter Tryz.func80, Tryz.ntmps80
 go_wp2_with (first | (go_at_call 75; refine (u_ D _).mono ?_; rintro e w' ⟨rfl, rfl⟩))
 exact bodyPost_ret (v := .tuple #[.string (S []), .bool false]) (by simp [results, Tryz.results80, go_sem, S]) rfl ⟨rfl, rfl⟩
set_option maxRecDepth 100000 in
theorem sDigH3no (x : Nat) (w : World) (h1 : 97 ≤ x) (h2 : x ≤ 102) (hg : 8 ≤ x - 87) (D : ∀ v, Calls Tryz.prog 75 #[.int .u8 x] v fun e w' => e = .returned (.bool false) ∧ w' = v) :
   Calls Tryz.prog 80 #[.int .u8 x, .int .i64 3] w fun e w' => e = .returned (.tuple #[.string (S []), .bool false]) ∧ w' = w := by
 have D := h_ D
 have q1 : ((x : Int) == 120) = false := by rw [beq_eq_false_iff_ne]; omega
 have q2 : ((x : Int) == 122) = false := by rw [beq_eq_false_iff_ne]; omega
 have q0 : (8 : Int) ≤ (x : Int) - 97 + 10 := by omega
 go_enter Tryz.func80, Tryz.ntmps80
 go_wp2_with (first | (go_at_call 75; refine (u_ D _).mono ?_; rintro e w' ⟨rfl, rfl⟩))
 exact bodyPost_ret (v := .tuple #[.string (S []), .bool false]) (by simp [results, Tryz.results80, go_sem, S]) rfl ⟨rfl, rfl⟩
set_option maxRecDepth 100000 in
theorem sDigH4ok (x : Nat) (w : World) (h1 : 97 ≤ x) (h2 : x ≤ 102) (hg : x - 87 < 16) (D : ∀ v, Calls Tryz.prog 75 #[.int .u8 x] v fun e w' => e = .returned (.bool false) ∧ w' = v) :
   Calls Tryz.prog 80 #[.int .u8 x, .int .i64 4] w fun e w' => e = .returned (.tuple #[.string (S (Vb.nTxt 4 (x - 87))), .bool true]) ∧ w' = w := by
 have D := h_ D
 have q1 : ((x : Int) == 120) = false := by rw [beq_eq_false_iff_ne]; omega
 have q2 : ((x : Int) == 122) = false := by rw [beq_eq_false_iff_ne]; omega
 have q0 : ¬ (16 : Int) ≤ (x : Int) - 97 + 10 := by omega
 have BT : Hid (∀ v, Calls Tryz.prog 76 #[.int .i64 ((x : Int) - 97 + 10), .int .i64 4] v fun e w' => e = .returned (.string (S (Vb.nTxt 4 (x - 87)))) ∧ w' = v) := fun v => by
   have := sBitsOf ((x : Int) - 97 + 10) 4 v (by omega) (by omega)
   rwa [show (((x : Int) - 97 + 10) % 18446744073709551616).toNat = x - 87 by omega] at this
 generalize S (Vb.nTxt 4 (x - 87)) = T at *
 go_enter Tryz.func80, Tryz.ntmps80
 go_wp2_with (first | (go_at_call 75; refine (u_ D _).mono ?_; rintro e w' ⟨rfl, rfl⟩) | (go_at_call 76; refine (u_ BT _).mono ?_; rintro e w' ⟨rfl, rfl⟩))
 exact bodyPost_ret (v := .tuple #[.string T, .bool true]) (by simp [results, Tryz.results80, go_sem]) rfl ⟨rfl, rfl⟩
set_option maxRecDepth 100000 in
theorem sDigH4no (x : Nat) (w : World) (h1 : 97 ≤ x) (h2 : x ≤ 102) (hg : 16 ≤ x - 87) (D : ∀ v, Calls Tryz.prog 75 #[.int .u8 x] v fun e w' => e = .returned (.bool false) ∧ w' = v) :
   Calls Tryz.prog 80 #[.int .u8 x, .int .i64 4] w fun e w' => e = .returned (.tuple #[.string (S []), .bool false]) ∧ w' = w := by
 have D := h_ D
 have q1 : ((x : Int) == 120) = false := by rw [beq_eq_false_iff_ne]; omega
 have q2 : ((x : Int) == 122) = false := by rw [beq_eq_false_iff_ne]; omega
 have q0 : (16 : Int) ≤ (x : Int) - 97 + 10 := by omega
 go_enter Tryz.func80, Tryz.ntmps80
 go_wp2_with (first | (go_at_call 75; refine (u_ D _).mono ?_; rintro e w' ⟨rfl, rfl⟩))
 exact bodyPost_ret (v := .tuple #[.string (S []), .bool false]) (by simp [results, Tryz.results80, go_sem, S]) rfl ⟨rfl, rfl⟩
theorem dig_range {c : UInt8} (h : Nb.digB c = true) : 48 ≤ c.toNat ∧ c.toNat ≤ 57 := by
 unfold Nb.digB at h; simp [UInt8.le_iff_toNat_le] at h; exact h
theorem hex_range {c : UInt8} (h : Nb.valB c = true) (hd : Nb.digB c = false) (hx : ¬ (c = 120 ∨ c = 122)) : 97 ≤ c.toNat ∧ c.toNat ≤ 102 := by
 unfold Nb.valB at h
 rw [hd] at h
 simp [UInt8.le_iff_toNat_le] at h
 rcases h with (h | h) | h
 · exact h
 · exact absurd (.inl h) hx
 · exact absurd (.inr h) hx
def digV (o : Option (List UInt8)) : Value := match o with | none => .tuple #[.string (S []), .bool false] | some x => .tuple #[.string (S x), .bool true]
theorem sDigits (c : UInt8) (n : Nat) (w : World) (hv : Nb.valB c = true) (hn : n = 1 ∨ n = 3 ∨ n = 4) :
   CB 80 #[.int .u8 (c.toNat : Int), .int .i64 n] w (digV (Nb.digT n c)) := by
 have up : ∀ {v : Value}, (Calls Tryz.prog 80 #[.int .u8 (c.toNat : Int), .int .i64 n] w fun e w' => e = .returned v ∧ w' = w) → CB 80 #[.int .u8 (c.toNat : Int), .int .i64 n] w v := fun h => h.mono fun e w' ⟨a, b⟩ => ⟨a, by rw [b]; exact brf _⟩
 by_cases h1 : c = 120 ∨ c = 122
 · rw [show Nb.digT n c = some (List.replicate n c) by unfold Nb.digT; rw [if_pos h1]]
   exact sDigitsX c n w h1 (by omega)
 · have e : Nb.digT n c = if 2 ^ n ≤ Nb.hexV c then none else some (Vb.nTxt n (Nb.hexV c)) := by unfold Nb.digT; rw [if_neg h1]
   rw [e]
   have D := fun v => sDigit c v
   cases hd : Nb.digB c
   · rw [hd] at D
     obtain ⟨r1, r2⟩ := hex_range hv hd h1
     rw [show Nb.hexV c = c.toNat - 87 by unfold Nb.hexV; rw [if_neg (by rw [hd]; decide)]]
     rcases hn with rfl | rfl | rfl
     · rw [if_pos (by omega)]; exact up (sDigH1no _ w r1 r2 (by omega) D)
     · rw [if_pos (by omega)]; exact up (sDigH3no _ w r1 r2 (by omega) D)
     · by_cases hg : 2 ^ 4 ≤ c.toNat - 87
       · omega
       · rw [if_neg hg]; exact up (sDigH4ok _ w r1 r2 (by omega) D)
   · rw [hd] at D
     obtain ⟨r1, r2⟩ := dig_range hd
     rw [show Nb.hexV c = c.toNat - 48 by unfold Nb.hexV; rw [if_pos hd]]
     rcases hn with rfl | rfl | rfl
     · by_cases hg : 2 ^ 1 ≤ c.toNat - 48
       · rw [if_pos hg]; exact up (sDigD1no _ w r1 r2 hg D)
       · rw [if_neg hg]; exact up (sDigD1ok _ w r1 r2 (by omega) D)
     · by_cases hg : 2 ^ 3 ≤ c.toNat - 48
       · rw [if_pos hg]; exact up (sDigD3no _ w r1 r2 hg D)
       · rw [if_neg hg]; exact up (sDigD3ok _ w r1 r2 (by omega) D)
     · rw [if_neg (by omega)]; exact up (sDigD4ok _ w r1 r2 (by omega) D)
def nbV (r : List UInt8 × Bool × Nat) : Value := .tuple #[.string (S r.1), .bool r.2.1, .int .i64 (r.2.2 : Nat)]
set_option maxRecDepth 100000 in
theorem sNB_long (s : ByteArray) (w : World) (hs : s.size ≤ maxLen) (h : 1000 < s.size) :
   Calls Tryz.prog 61 #[.string s] w fun e w' => e = .returned (nbV ([], false, 2)) ∧ w' = w := by
 have q : (1000 : Int) < s.size := by omega
 unfold maxLen at hs
 go_enter Tryz.func61, Tryz.ntmps61
 go_wp2
 exact bodyPost_ret (v := nbV ([], false, 2)) (by simp [results, Tryz.results61, go_sem, nbV, S]) rfl ⟨rfl, rfl⟩
set_option maxRecDepth 100000 in
theorem sNB_form (s : ByteArray) (w : World) (h : s.size ≤ 1000) (hf : ¬ ((Nb.numE (L s) 0).2 = true ∧ (Nb.numE (L s) 0).1 = s.size)) :
   Calls Tryz.prog 61 #[.string s] w fun e w' => e = .returned (nbV ([], false, 3)) ∧ w' = w := by
 have N := h_ (fun v => sNumber s 0 v (by omega) (by omega))
 generalize (Nb.numE (L s) 0).1 = E at *
 cases hok : (Nb.numE (L s) 0).2
 · rw [hok] at N
   clear hok hf
   go_enter Tryz.func61, Tryz.ntmps61
   go_wp2_with (go_at_call 74; refine (u_ N _).mono ?_; rintro e w' ⟨rfl, rfl⟩)
   exact bodyPost_ret (v := nbV ([], false, 3)) (by simp [results, Tryz.results61, go_sem, nbV, S]) rfl ⟨rfl, rfl⟩
 · rw [hok] at N
   have q : ((E : Int) != (s.size : Int)) = true := by rw [bne_iff_ne]; intro e; apply hf; exact ⟨hok, by omega⟩
   clear hok hf
   go_enter Tryz.func61, Tryz.ntmps61
   go_wp2_with (go_at_call 74; refine (u_ N _).mono ?_; rintro e w' ⟨rfl, rfl⟩)
   exact bodyPost_ret (v := nbV ([], false, 3)) (by simp [results, Tryz.results61, go_sem, nbV, S]) rfl ⟨rfl, rfl⟩
theorem dig_num {c : UInt8} (h : Nb.digB c = true) : (c.toNat : Int) - 48 = ((c.toNat - 48 : Nat) : Int) ∧ 48 ≤ (c.toNat : Int) ∧ (c.toNat : Int) ≤ 57 := by
 have := dig_range h; omega
set_option maxRecDepth 100000 in
theorem sNB_plain (s : ByteArray) (w : World) (h : s.size ≤ 1000) (hok : (Nb.numE (L s) 0).2 = true) (he : (Nb.numE (L s) 0).1 = s.size) (hd : (L s).all Nb.digB = true) (h0 : 1 ≤ s.size) (R : List UInt8 × Bool × Nat) (hR : Nb.plain (L s) = R) :
   CB 61 #[.string s] w (nbV R) := by
 have N := h_ (fun v => sNumber s 0 v (by omega) (by omega))
 rw [hok, he] at N
 have HD := h_ hd
 have HR := h_ hR
 clear hok he hd hR
 go_enter Tryz.func61, Tryz.ntmps61
 go_wp2_with (go_at_call 74; refine (u_ N _).mono ?_; rintro e w' ⟨rfl, rfl⟩)
 go_loop [7, 8] (fun i n => ∃ k : Nat, k ≤ s.size ∧ i = .int .i64 k ∧ ∃ m : Nat, m ≤ 1099511627776 ∧ m = Nb.lidD ((L s).take k) ∧ n = .int .i64 m) (fun i _ => s.size - (intOf i).toNat)
 case atStart => exact ⟨0, by omega, rfl, 0, by omega, rfl, rfl⟩
 case round =>
   obtain ⟨k, hk, rfl, m, hm, hml, rfl⟩ := hrel
   have HM := h_ hml
   clear hml
   by_cases hks : k < s.size
   · have hdk : Nb.digB s[k] = true := List.all_eq_true.1 (u_ HD) _ (L_mem s k hks)
     have DG := h_ (fun v => sDigit s[k] v)
     rw [hdk] at DG
     obtain ⟨e1, e2, e3⟩ := dig_num hdk
     clear hdk
     go_wp2_with (go_at_call 75; refine (u_ DG _).mono ?_; rintro e w' ⟨rfl, rfl⟩)
     refine ⟨⟨k + 1, by omega, by go_num, min (m * 10 + (s[k].toNat - 48)) 1099511627776, by omega, ?_, ?_⟩, by simp [intOf]; omega⟩
     · rw [L_take s k hks, Nb.lidD_snoc, ← u_ HM]
     · congr 1; split <;> omega
   · have hm2 : m = min (Nb.valD (L s)) 1099511627776 := by rw [u_ HM, L_take_all s k (by omega), Nb.lidD_is]
     have hq : ((k : Int) == (s.size : Int)) = true := by rw [beq_iff_eq]; omega
     by_cases hg : 2147483647 < Nb.valD (L s)
     · have HR2 : Hid (([], false, 11) = R) := h_ (by rw [← u_ HR]; unfold Nb.plain; rw [if_pos hg])
       have hgm : (2147483647 : Int) < m := by omega
       clear hm2 HM
       go_wp2
       exact bodyPost_ret (v := nbV ([], false, 11)) (by simp [results, Tryz.results61, go_sem, nbV, S]) rfl ⟨by rw [u_ HR2], brf _⟩
     · have hgm : ¬ (2147483647 : Int) < m := by omega
       have hmv : Nb.valD (L s) = m := by omega
       have HR2 : Hid ((Vb.nTxt 32 m, true, 0) = R) := h_ (by rw [← u_ HR]; unfold Nb.plain; rw [if_neg hg, hmv])
       have B := h_ (fun v => sBitsOf (m : Int) 32 v (by omega) (by omega))
       rw [show ((m : Int) % 18446744073709551616).toNat = m by omega] at B
       clear hm2 HM hmv hg
       go_wp2_with (go_at_call 76; refine (u_ B _).mono ?_; rintro e w' ⟨rfl, rfl⟩)
       exact bodyPost_ret (v := nbV (Vb.nTxt 32 m, true, 0)) (by simp [results, Tryz.results61, go_sem, nbV]) rfl ⟨by rw [u_ HR2], brf _⟩
set_option maxHeartbeats 1000000
theorem truth_known {l : List UInt8} (h : l.all Vb.knB = true) : truthL l = if Vb.num l = 0 then 48 else 49 := by
 unfold truthL
 by_cases h1 : l.any Vb.oneB = true
 · rw [if_pos h1]
   obtain ⟨c, hc, ho⟩ := List.any_eq_true.1 h1
   obtain ⟨a, b, rfl⟩ := List.append_of_mem hc
   rw [if_neg]
   rw [Vb.num_append, Vb.num_cons, ho]
   have := Nat.two_pow_pos b.length
   show ¬ _ + (1 * _ + _) = 0
   omega
 · rw [if_neg h1]
   have hz : l.all (fun c => c == 48) = true := by
     rw [List.all_eq_true] at h ⊢
     intro c hc
     have := h c hc
     unfold Vb.knB at this
     simp at this
     rcases this with e | e
     · simp [e]
     · exact absurd (List.any_eq_true.2 ⟨c, hc, by rw [e]; rfl⟩) h1
   rw [if_pos hz, if_pos]
   have : l = List.replicate l.length 48 := List.eq_replicate_iff.2 ⟨rfl, fun c hc => by have := List.all_eq_true.1 hz c hc; simpa using this⟩
   rw [this, Nb.num_rep48]
theorem ten_truth (n X : Nat) (hX : X < 16 * 2 ^ n) : 2 ^ n ≤ X ↔ truthL (Vb.nTxt 4 (X / 2 ^ n)) = 49 := by
 have hp := Nat.two_pow_pos n
 rw [truth_known (Vb.nTxt_known _ _), Vb.num_nTxt, Nat.mod_eq_of_lt (by rw [Nat.div_lt_iff_lt_mul hp]; omega)]
 by_cases h : 2 ^ n ≤ X
 · rw [if_neg (by have := Nat.div_pos h hp; omega)]; simp [h]
 · rw [if_pos (Nat.div_eq_of_lt (by omega))]; simp [h]
theorem mem_S {v : List UInt8} {k : Nat} (h : k < (S v).size) : (S v)[k] ∈ v := by
 have := L_mem (S v) k h
 rwa [L_S] at this
theorem fl {f : FuncId} {args : Array Value} {w : World} {x : Value} (h : Calls Tryz.prog f args w fun e w' => e = .returned x ∧ w' = w) : Calls Tryz.prog f args w fun e w' => e = .returned x ∧ w = w' := h.mono fun e w' ⟨a, b⟩ => ⟨a, b.symm⟩
set_option maxRecDepth 100000 in
theorem sNB_width (s : ByteArray) (D n : Nat) (w : World) (h : s.size ≤ 1000) (hok : (Nb.numE (L s) 0).2 = true) (he : (Nb.numE (L s) 0).1 = s.size) (h0 : D + 1 < s.size) (hd : ((L s).take D).all Nb.digB = true) (h39 : s[D]'(Nat.lt_of_succ_lt h0) = 39) (hn : Nb.valD ((L s).take D) = n) (hw : n < 1 ∨ 64 < n) :
   Calls Tryz.prog 61 #[.string s] w fun e w' => e = .returned (nbV ([], false, 7)) ∧ w' = w := by
 have N := h_ (fun v => fl (sNumber s 0 v (by omega) (by omega)))
 rw [hok, he] at N
 have HD := h_ hd
 have HN := h_ hn
 have DG39 : Hid (∀ v, Calls Tryz.prog 75 #[.int .u8 39] v fun e w' => e = .returned (.bool false) ∧ v = w') := fun v => fl (sDigit 39 v)
 clear hok he hd hn

 go_enter Tryz.func61, Tryz.ntmps61
 go_wp2_with (go_at_call 74; refine (u_ N _).mono ?_; rintro e w' ⟨rfl, rfl⟩)
 go_loop [7, 8] (fun i n => ∃ k : Nat, k ≤ D ∧ i = .int .i64 k ∧ ∃ m : Nat, m ≤ 1099511627776 ∧ m = Nb.lidD ((L s).take k) ∧ n = .int .i64 m) (fun i _ => D - (intOf i).toNat)
 case atStart => exact ⟨0, by omega, rfl, 0, by omega, rfl, rfl⟩
 case round =>
   obtain ⟨k, hk, rfl, m, hm, hml, rfl⟩ := hrel
   have HM := h_ hml
   clear hml
   by_cases hks : k < D
   · have hdk : Nb.digB (s[k]'(by omega)) = true := by
       refine List.all_eq_true.1 (u_ HD) _ ?_
       rw [List.mem_take_iff_getElem]
       exact ⟨k, by rw [L_len]; omega, rfl⟩
     have hks' : k < s.size := by omega
     have DG := h_ (fun v => fl (sDigit (s[k]'hks') v))
     rw [hdk] at DG
     obtain ⟨e1, e2, e3⟩ := dig_num hdk
     clear hdk h39
     go_wp2_with (go_at_call 75; refine (u_ DG _).mono ?_; rintro e w' ⟨rfl, rfl⟩)
     refine ⟨⟨k + 1, by omega, by go_num, min (m * 10 + (s[k].toNat - 48)) 1099511627776, by omega, ?_, ?_⟩, by simp [intOf]; omega⟩
     · rw [L_take s k hks', Nb.lidD_snoc, ← u_ HM]
     · congr 1; split <;> omega
   · obtain rfl : D = k := by omega
     have hm2 : m = min n 1099511627776 := by rw [u_ HM, Nb.lidD_is, u_ HN]
     have hq : ((D : Int) == (s.size : Int)) = false := by rw [beq_eq_false_iff_ne]; omega
     have hw' : (m : Int) < 1 ∨ (64 : Int) < m := by omega
     clear hm2 HM
     rcases hw' with hw' | hw'
     · go_wp2_with (go_at_call 75; refine (u_ DG39 _).mono ?_; rintro e w' ⟨rfl, rfl⟩)
       exact bodyPost_ret (v := nbV ([], false, 7)) (by simp [results, Tryz.results61, go_sem, nbV, S]) rfl ⟨rfl, rfl⟩
     · have hw2 : ¬ (m : Int) < 1 := by omega
       go_wp2_with (go_at_call 75; refine (u_ DG39 _).mono ?_; rintro e w' ⟨rfl, rfl⟩)
       exact bodyPost_ret (v := nbV ([], false, 7)) (by simp [results, Tryz.results61, go_sem, nbV, S]) rfl ⟨rfl, rfl⟩
set_option maxRecDepth 100000 in
theorem sNB_d0 (s : ByteArray) (D n : Nat) (w : World) (h : s.size ≤ 1000) (hok : (Nb.numE (L s) 0).2 = true) (he : (Nb.numE (L s) 0).1 = s.size) (h0 : D + 1 < s.size) (hd : ((L s).take D).all Nb.digB = true) (h39 : s[D]'(Nat.lt_of_succ_lt h0) = 39) (hn : Nb.valD ((L s).take D) = n) (hw : 1 ≤ n) (hw2 : n ≤ 64) (h115 : s[D + 1] = 100) (v : List UInt8) (hv : (L s).drop (D + 1 + 1) = v) (hvv : v.all Nb.valB = true) (R : List UInt8 × Bool × Nat) (hR : Nb.based n false 100 v = R) :
   CB 61 #[.string s] w (nbV R) := by
 have N := h_ (fun v => fl (sNumber s 0 v (by omega) (by omega)))
 rw [hok, he] at N
 have HD := h_ hd
 have HN := h_ hn
 have DG39 : Hid (∀ v, Calls Tryz.prog 75 #[.int .u8 39] v fun e w' => e = .returned (.bool false) ∧ v = w') := fun v => fl (sDigit 39 v)
 clear hok he hd hn
 have hx : s.extract (D + 1 + 1) s.size = S v := by
   apply L_inj; rw [L_extract, L_S, ← hv]
   rw [List.take_of_length_le (by rw [List.length_drop, L_len]; exact Nat.le_refl _)]
 have hvl : v.length = s.size - (D + 1 + 1) := by rw [← hv, List.length_drop, L_len]
 have HV := h_ hv
 have HR := h_ hR
 clear hv hR
 have F : Hid (∀ v, CB 77 #[.int .u8 48, .int .i64 n] v (.string (S (Vb.nTxt n 0)))) := fun v => by
   have := sFill 48 n v (by omega)
   have e := Nb.pad_nTxt n 0 0 (by decide)
   rw [show Vb.nTxt 0 0 = [] from rfl, List.append_nil, Nat.add_zero] at e
   rwa [e] at this
 have zv : (S v).size = v.length := S_size v
 go_enter Tryz.func61, Tryz.ntmps61
 go_wp2_with (go_at_call 74; refine (u_ N _).mono ?_; rintro e w' ⟨rfl, rfl⟩)
 go_loop [7, 8] (fun i n => ∃ k : Nat, k ≤ D ∧ i = .int .i64 k ∧ ∃ m : Nat, m ≤ 1099511627776 ∧ m = Nb.lidD ((L s).take k) ∧ n = .int .i64 m) (fun i _ => D - (intOf i).toNat)
 case atStart => exact ⟨0, by omega, rfl, 0, by omega, rfl, rfl⟩
 case round =>
   obtain ⟨k, hk, rfl, m, hm, hml, rfl⟩ := hrel
   have HM := h_ hml
   clear hml
   by_cases hks : k < D
   · have hdk : Nb.digB (s[k]'(by omega)) = true := by
       refine List.all_eq_true.1 (u_ HD) _ ?_
       rw [List.mem_take_iff_getElem]
       exact ⟨k, by rw [L_len]; omega, rfl⟩
     have hks' : k < s.size := by omega
     have DG := h_ (fun v => fl (sDigit (s[k]'hks') v))
     rw [hdk] at DG
     obtain ⟨e1, e2, e3⟩ := dig_num hdk
     clear hdk h39
     go_wp2_with (go_at_call 75; refine (u_ DG _).mono ?_; rintro e w' ⟨rfl, rfl⟩)
     refine ⟨⟨k + 1, by omega, by go_num, min (m * 10 + (s[k].toNat - 48)) 1099511627776, by omega, ?_, ?_⟩, by simp [intOf]; omega⟩
     · rw [L_take s k hks', Nb.lidD_snoc, ← u_ HM]
     · congr 1; split <;> omega
   · obtain rfl : D = k := by omega
     have hm2 : m = min n 1099511627776 := by rw [u_ HM, Nb.lidD_is, u_ HN]
     have hq : ((D : Int) == (s.size : Int)) = false := by rw [beq_eq_false_iff_ne]; omega
     obtain rfl : n = m := by omega
     have hw1 : ¬ (n : Int) < 1 := by omega
     have hw2 : ¬ (64 : Int) < n := by omega
     clear hm2 HM
     go_wp2_with (first | (go_at_call 75; refine (u_ DG39 _).mono ?_; rintro e w' ⟨rfl, rfl⟩) | (go_at_call 77; refine (u_ F _).mono ?_; rintro e v1 ⟨rfl, hb1⟩))
     have hv1000 : v.length ≤ 1000 := by omega
     clear hx hvl
     have HB1 := h_ hb1
     clear hb1
     go_loopw [12, 13, 14] (fun b o i W => ∃ k : Nat, k ≤ v.length ∧ i = .int .i64 k ∧ (v.take k).all Nb.digB = true ∧ ∃ V : Nat, V = Nb.valD (v.take k) ∧ b = .string (S (Vb.nTxt n V)) ∧ o = .bool (decide (2 ^ n ≤ V)) ∧ Below w.heap.size w W) (fun _ _ i _ => v.length - (intOf i).toNat)
     case atStart => exact ⟨0, by omega, rfl, by simp, 0, rfl, rfl, by have := Nat.two_pow_pos n; rw [decide_eq_false (by omega)], u_ HB1⟩
     case round =>
       clear HB1
       obtain ⟨k, hk, rfl, hall, V, hV, rfl, rfl, hB⟩ := hrel
       have HA := h_ hall
       have HV2 := h_ hV
       have HB := h_ hB
       clear hall hV hB
       by_cases hkv : k < v.length
       · have hkz : k < (S v).size := by rw [zv]; exact hkv
         have DG := h_ (fun u => fl (sDigit ((S v)[k]'hkz) u))
         cases hdg : Nb.digB ((S v)[k]'hkz)
         · rw [hdg] at DG
           have HR2 : Hid (([], false, 3) = R) := h_ (by
             rw [← u_ HR]; unfold Nb.based
             have : v.all Nb.digB = false := by
               rw [List.all_eq_false]; exact ⟨_, mem_S hkz, by rw [hdg]; decide⟩
             rw [if_pos rfl, this, if_neg (by decide)])
           clear hdg
           go_wp2_with (go_at_call 75; refine (u_ DG _).mono ?_; rintro e w' ⟨rfl, rfl⟩)
           exact bodyPost_ret (v := nbV ([], false, 3)) (by simp [results, Tryz.results61, go_sem, nbV, S]) rfl ⟨by rw [u_ HR2], u_ HB⟩
         · rw [hdg] at DG
           obtain ⟨e1, e2, e3⟩ := dig_num hdg
           have hd9 : (S v)[k].toNat - 48 ≤ 9 := by have := dig_range hdg; omega
           have hVn : Nb.valD (v.take (k + 1)) = 10 * V + ((S v)[k].toNat - 48) := by
             have := L_take (S v) k hkz
             rw [L_S] at this
             rw [this, Nb.valD_snoc, ← u_ HV2]
           have hAn : (v.take (k + 1)).all Nb.digB = true := by
             have := L_take (S v) k hkz
             rw [L_S] at this
             rw [this, List.all_append, u_ HA]; simp [hdg]
           have HVN := h_ hVn
           have HAN := h_ hAn
           clear hVn hAn hdg HA HV2
           generalize (S v)[k].toNat - 48 = d at *
           obtain ⟨s1, s2, s3⟩ := Nb.ten_step V d (2 ^ n) (Nat.two_pow_pos n) hd9
           have hM := Nat.mod_lt V (Nat.two_pow_pos n)
           have eM : S (Vb.nTxt n V) = S (Vb.nTxt n (V % 2 ^ n)) := by rw [Vb.nTxt_congr (u := V) (v := V % 2 ^ n) (by rw [Nat.mod_mod])]
           generalize hMM : V % 2 ^ n = M at *
           have TN := h_ (fun u => sTen n M d u (by omega) (by omega) hM hd9)
           rw [← eM] at TN
           have zT : (S (Vb.nTxt (4 + n) (10 * M + d))).size = 4 + n := by rw [S_size, Vb.nTxt_len]
           have x1 : (S (Vb.nTxt (4 + n) (10 * M + d))).extract 0 4 = S (Vb.nTxt 4 ((10 * M + d) / 2 ^ n)) := by
             apply L_inj; rw [L_extract, L_S, L_S, Nb.split_nTxt, List.drop_zero, List.take_left' (by rw [Vb.nTxt_len])]
           have x2 : (S (Vb.nTxt (4 + n) (10 * M + d))).extract 4 (4 + n) = S (Vb.nTxt n (10 * V + d)) := by
             apply L_inj; rw [L_extract, L_S, L_S, Nb.split_nTxt, List.drop_left' (by rw [Vb.nTxt_len]), List.take_of_length_le (by rw [Vb.nTxt_len]; omega)]
             exact Vb.nTxt_congr s1
           have TR := h_ (fun u => fl (sTruth (S (Vb.nTxt 4 ((10 * M + d) / 2 ^ n))) u (by rw [S_size, Vb.nTxt_len]; decide)))
           rw [L_S] at TR
           have hPow : 2 ^ n ≤ 10 * M + d ↔ truthL (Vb.nTxt 4 ((10 * M + d) / 2 ^ n)) = 49 := ten_truth n (10 * M + d) s3
           clear eM s1
           generalize S (Vb.nTxt (4 + n) (10 * M + d)) = T at *
           generalize S (Vb.nTxt 4 ((10 * M + d) / 2 ^ n)) = T4 at *
           generalize truthL (Vb.nTxt 4 ((10 * M + d) / 2 ^ n)) = t at *
           have S2 := h_ s2
           have HP := h_ hPow
           clear s2 s3 hPow hMM
           by_cases ho : 2 ^ n ≤ V
           · have hdo : decide (2 ^ n ≤ V) = true := decide_eq_true ho
             go_wp2_with (first | (go_at_call 75; refine (u_ DG _).mono ?_; rintro e w' ⟨rfl, rfl⟩) | (go_at_call 78; refine (u_ TN _).mono ?_; rintro e v2 ⟨rfl, hb2⟩) | (go_at_call 79; refine (u_ TR _).mono ?_; rintro e w' ⟨rfl, rfl⟩))
             exact ⟨⟨k + 1, by omega, by go_num, u_ HAN, 10 * V + d, (u_ HVN).symm, rfl, by rw [decide_eq_true ((u_ S2).1 (.inl ho))], below_nst (u_ HB) hb2⟩, by simp [intOf]; omega⟩
           · have hdo : decide (2 ^ n ≤ V) = false := decide_eq_false ho
             by_cases ht : t = 49
             · have ht' : ((t.toNat : Int) == 49) = true := by rw [ht]; rfl
               go_wp2_with (first | (go_at_call 75; refine (u_ DG _).mono ?_; rintro e w' ⟨rfl, rfl⟩) | (go_at_call 78; refine (u_ TN _).mono ?_; rintro e v2 ⟨rfl, hb2⟩) | (go_at_call 79; refine (u_ TR _).mono ?_; rintro e w' ⟨rfl, rfl⟩))
               exact ⟨⟨k + 1, by omega, by go_num, u_ HAN, 10 * V + d, (u_ HVN).symm, rfl, by rw [decide_eq_true ((u_ S2).1 (.inr ((u_ HP).2 ht)))], below_nst (u_ HB) hb2⟩, by simp [intOf]; omega⟩
             · have ht' : ((t.toNat : Int) == 49) = false := by rw [beq_eq_false_iff_ne]; intro e; apply ht; rw [← UInt8.toNat_inj]; exact Int.ofNat.inj e
               go_wp2_with (first | (go_at_call 75; refine (u_ DG _).mono ?_; rintro e w' ⟨rfl, rfl⟩) | (go_at_call 78; refine (u_ TN _).mono ?_; rintro e v2 ⟨rfl, hb2⟩) | (go_at_call 79; refine (u_ TR _).mono ?_; rintro e w' ⟨rfl, rfl⟩))
               exact ⟨⟨k + 1, by omega, by go_num, u_ HAN, 10 * V + d, (u_ HVN).symm, rfl, by rw [decide_eq_false (fun hc => by rcases (u_ S2).2 hc with h | h; exact ho h; exact ht ((u_ HP).1 h))], below_nst (u_ HB) hb2⟩, by simp [intOf]; omega⟩
       · have hke : v.take k = v := List.take_of_length_le (by omega)
         have hVe : Nb.valD v = V := by rw [u_ HV2, hke]
         have hAe : v.all Nb.digB = true := by have := u_ HA; rwa [hke] at this
         have hsz : ¬ (k : Int) < v.length := by omega
         by_cases ho : 2 ^ n ≤ V
         · have hdo : decide (2 ^ n ≤ V) = true := decide_eq_true ho
           have HR2 : Hid (([], false, 11) = R) := h_ (by
             rw [← u_ HR]; unfold Nb.based; rw [if_pos rfl, if_pos hAe, hVe, if_pos ho])
           clear hke hVe hAe HA HV2
           go_wp2
           exact bodyPost_ret (v := nbV ([], false, 11)) (by simp [results, Tryz.results61, go_sem, nbV, S]) rfl ⟨by rw [u_ HR2], u_ HB⟩
         · have hdo : decide (2 ^ n ≤ V) = false := decide_eq_false ho
           have HR2 : Hid ((Vb.nTxt n V, false, 0) = R) := h_ (by
             rw [← u_ HR]; unfold Nb.based; rw [if_pos rfl, if_pos hAe, hVe, if_neg ho])
           clear hke hVe hAe HA HV2
           go_wp2
           exact bodyPost_ret (v := nbV (Vb.nTxt n V, false, 0)) (by simp [results, Tryz.results61, go_sem, nbV]) rfl ⟨by rw [u_ HR2], u_ HB⟩
set_option maxRecDepth 100000 in
theorem sNB_d1 (s : ByteArray) (D n : Nat) (w : World) (h : s.size ≤ 1000) (hok : (Nb.numE (L s) 0).2 = true) (he : (Nb.numE (L s) 0).1 = s.size) (h0 : D + 1 < s.size) (hd : ((L s).take D).all Nb.digB = true) (h39 : s[D]'(Nat.lt_of_succ_lt h0) = 39) (hn : Nb.valD ((L s).take D) = n) (hw : 1 ≤ n) (hw2 : n ≤ 64) (h115 : s[D + 1] = 115) (h02 : D + 1 + 1 < s.size) (hb0 : s[D + 1 + 1] = 100) (v : List UInt8) (hv : (L s).drop (D + 1 + 1 + 1) = v) (hvv : v.all Nb.valB = true) (R : List UInt8 × Bool × Nat) (hR : Nb.based n true 100 v = R) :
   CB 61 #[.string s] w (nbV R) := by
 have N := h_ (fun v => fl (sNumber s 0 v (by omega) (by omega)))
 rw [hok, he] at N
 have HD := h_ hd
 have HN := h_ hn
 have DG39 : Hid (∀ v, Calls Tryz.prog 75 #[.int .u8 39] v fun e w' => e = .returned (.bool false) ∧ v = w') := fun v => fl (sDigit 39 v)
 clear hok he hd hn
 have hx : s.extract (D + 1 + 1 + 1) s.size = S v := by
   apply L_inj; rw [L_extract, L_S, ← hv]
   rw [List.take_of_length_le (by rw [List.length_drop, L_len]; exact Nat.le_refl _)]
 have hvl : v.length = s.size - (D + 1 + 1 + 1) := by rw [← hv, List.length_drop, L_len]
 have HV := h_ hv
 have HR := h_ hR
 clear hv hR
 have F : Hid (∀ v, CB 77 #[.int .u8 48, .int .i64 n] v (.string (S (Vb.nTxt n 0)))) := fun v => by
   have := sFill 48 n v (by omega)
   have e := Nb.pad_nTxt n 0 0 (by decide)
   rw [show Vb.nTxt 0 0 = [] from rfl, List.append_nil, Nat.add_zero] at e
   rwa [e] at this
 have zv : (S v).size = v.length := S_size v
 go_enter Tryz.func61, Tryz.ntmps61
 go_wp2_with (go_at_call 74; refine (u_ N _).mono ?_; rintro e w' ⟨rfl, rfl⟩)
 go_loop [7, 8] (fun i n => ∃ k : Nat, k ≤ D ∧ i = .int .i64 k ∧ ∃ m : Nat, m ≤ 1099511627776 ∧ m = Nb.lidD ((L s).take k) ∧ n = .int .i64 m) (fun i _ => D - (intOf i).toNat)
 case atStart => exact ⟨0, by omega, rfl, 0, by omega, rfl, rfl⟩
 case round =>
   obtain ⟨k, hk, rfl, m, hm, hml, rfl⟩ := hrel
   have HM := h_ hml
   clear hml
   by_cases hks : k < D
   · have hdk : Nb.digB (s[k]'(by omega)) = true := by
       refine List.all_eq_true.1 (u_ HD) _ ?_
       rw [List.mem_take_iff_getElem]
       exact ⟨k, by rw [L_len]; omega, rfl⟩
     have hks' : k < s.size := by omega
     have DG := h_ (fun v => fl (sDigit (s[k]'hks') v))
     rw [hdk] at DG
     obtain ⟨e1, e2, e3⟩ := dig_num hdk
     clear hdk h39
     go_wp2_with (go_at_call 75; refine (u_ DG _).mono ?_; rintro e w' ⟨rfl, rfl⟩)
     refine ⟨⟨k + 1, by omega, by go_num, min (m * 10 + (s[k].toNat - 48)) 1099511627776, by omega, ?_, ?_⟩, by simp [intOf]; omega⟩
     · rw [L_take s k hks', Nb.lidD_snoc, ← u_ HM]
     · congr 1; split <;> omega
   · obtain rfl : D = k := by omega
     have hm2 : m = min n 1099511627776 := by rw [u_ HM, Nb.lidD_is, u_ HN]
     have hq : ((D : Int) == (s.size : Int)) = false := by rw [beq_eq_false_iff_ne]; omega
     obtain rfl : n = m := by omega
     have hw1 : ¬ (n : Int) < 1 := by omega
     have hw2 : ¬ (64 : Int) < n := by omega
     clear hm2 HM
     go_wp2_with (first | (go_at_call 75; refine (u_ DG39 _).mono ?_; rintro e w' ⟨rfl, rfl⟩) | (go_at_call 77; refine (u_ F _).mono ?_; rintro e v1 ⟨rfl, hb1⟩))
     have hv1000 : v.length ≤ 1000 := by omega
     clear hx hvl
     have HB1 := h_ hb1
     clear hb1
     go_loopw [12, 13, 14] (fun b o i W => ∃ k : Nat, k ≤ v.length ∧ i = .int .i64 k ∧ (v.take k).all Nb.digB = true ∧ ∃ V : Nat, V = Nb.valD (v.take k) ∧ b = .string (S (Vb.nTxt n V)) ∧ o = .bool (decide (2 ^ n ≤ V)) ∧ Below w.heap.size w W) (fun _ _ i _ => v.length - (intOf i).toNat)
     case atStart => exact ⟨0, by omega, rfl, by simp, 0, rfl, rfl, by have := Nat.two_pow_pos n; rw [decide_eq_false (by omega)], u_ HB1⟩
     case round =>
       clear HB1
       obtain ⟨k, hk, rfl, hall, V, hV, rfl, rfl, hB⟩ := hrel
       have HA := h_ hall
       have HV2 := h_ hV
       have HB := h_ hB
       clear hall hV hB
       by_cases hkv : k < v.length
       · have hkz : k < (S v).size := by rw [zv]; exact hkv
         have DG := h_ (fun u => fl (sDigit ((S v)[k]'hkz) u))
         cases hdg : Nb.digB ((S v)[k]'hkz)
         · rw [hdg] at DG
           have HR2 : Hid (([], false, 3) = R) := h_ (by
             rw [← u_ HR]; unfold Nb.based
             have : v.all Nb.digB = false := by
               rw [List.all_eq_false]; exact ⟨_, mem_S hkz, by rw [hdg]; decide⟩
             rw [if_pos rfl, this, if_neg (by decide)])
           clear hdg
           go_wp2_with (go_at_call 75; refine (u_ DG _).mono ?_; rintro e w' ⟨rfl, rfl⟩)
           exact bodyPost_ret (v := nbV ([], false, 3)) (by simp [results, Tryz.results61, go_sem, nbV, S]) rfl ⟨by rw [u_ HR2], u_ HB⟩
         · rw [hdg] at DG
           obtain ⟨e1, e2, e3⟩ := dig_num hdg
           have hd9 : (S v)[k].toNat - 48 ≤ 9 := by have := dig_range hdg; omega
           have hVn : Nb.valD (v.take (k + 1)) = 10 * V + ((S v)[k].toNat - 48) := by
             have := L_take (S v) k hkz
             rw [L_S] at this
             rw [this, Nb.valD_snoc, ← u_ HV2]
           have hAn : (v.take (k + 1)).all Nb.digB = true := by
             have := L_take (S v) k hkz
             rw [L_S] at this
             rw [this, List.all_append, u_ HA]; simp [hdg]
           have HVN := h_ hVn
           have HAN := h_ hAn
           clear hVn hAn hdg HA HV2
           generalize (S v)[k].toNat - 48 = d at *
           obtain ⟨s1, s2, s3⟩ := Nb.ten_step V d (2 ^ n) (Nat.two_pow_pos n) hd9
           have hM := Nat.mod_lt V (Nat.two_pow_pos n)
           have eM : S (Vb.nTxt n V) = S (Vb.nTxt n (V % 2 ^ n)) := by rw [Vb.nTxt_congr (u := V) (v := V % 2 ^ n) (by rw [Nat.mod_mod])]
           generalize hMM : V % 2 ^ n = M at *
           have TN := h_ (fun u => sTen n M d u (by omega) (by omega) hM hd9)
           rw [← eM] at TN
           have zT : (S (Vb.nTxt (4 + n) (10 * M + d))).size = 4 + n := by rw [S_size, Vb.nTxt_len]
           have x1 : (S (Vb.nTxt (4 + n) (10 * M + d))).extract 0 4 = S (Vb.nTxt 4 ((10 * M + d) / 2 ^ n)) := by
             apply L_inj; rw [L_extract, L_S, L_S, Nb.split_nTxt, List.drop_zero, List.take_left' (by rw [Vb.nTxt_len])]
           have x2 : (S (Vb.nTxt (4 + n) (10 * M + d))).extract 4 (4 + n) = S (Vb.nTxt n (10 * V + d)) := by
             apply L_inj; rw [L_extract, L_S, L_S, Nb.split_nTxt, List.drop_left' (by rw [Vb.nTxt_len]), List.take_of_length_le (by rw [Vb.nTxt_len]; omega)]
             exact Vb.nTxt_congr s1
           have TR := h_ (fun u => fl (sTruth (S (Vb.nTxt 4 ((10 * M + d) / 2 ^ n))) u (by rw [S_size, Vb.nTxt_len]; decide)))
           rw [L_S] at TR
           have hPow : 2 ^ n ≤ 10 * M + d ↔ truthL (Vb.nTxt 4 ((10 * M + d) / 2 ^ n)) = 49 := ten_truth n (10 * M + d) s3
           clear eM s1
           generalize S (Vb.nTxt (4 + n) (10 * M + d)) = T at *
           generalize S (Vb.nTxt 4 ((10 * M + d) / 2 ^ n)) = T4 at *
           generalize truthL (Vb.nTxt 4 ((10 * M + d) / 2 ^ n)) = t at *
           have S2 := h_ s2
           have HP := h_ hPow
           clear s2 s3 hPow hMM
           by_cases ho : 2 ^ n ≤ V
           · have hdo : decide (2 ^ n ≤ V) = true := decide_eq_true ho
             go_wp2_with (first | (go_at_call 75; refine (u_ DG _).mono ?_; rintro e w' ⟨rfl, rfl⟩) | (go_at_call 78; refine (u_ TN _).mono ?_; rintro e v2 ⟨rfl, hb2⟩) | (go_at_call 79; refine (u_ TR _).mono ?_; rintro e w' ⟨rfl, rfl⟩))
             exact ⟨⟨k + 1, by omega, by go_num, u_ HAN, 10 * V + d, (u_ HVN).symm, rfl, by rw [decide_eq_true ((u_ S2).1 (.inl ho))], below_nst (u_ HB) hb2⟩, by simp [intOf]; omega⟩
           · have hdo : decide (2 ^ n ≤ V) = false := decide_eq_false ho
             by_cases ht : t = 49
             · have ht' : ((t.toNat : Int) == 49) = true := by rw [ht]; rfl
               go_wp2_with (first | (go_at_call 75; refine (u_ DG _).mono ?_; rintro e w' ⟨rfl, rfl⟩) | (go_at_call 78; refine (u_ TN _).mono ?_; rintro e v2 ⟨rfl, hb2⟩) | (go_at_call 79; refine (u_ TR _).mono ?_; rintro e w' ⟨rfl, rfl⟩))
               exact ⟨⟨k + 1, by omega, by go_num, u_ HAN, 10 * V + d, (u_ HVN).symm, rfl, by rw [decide_eq_true ((u_ S2).1 (.inr ((u_ HP).2 ht)))], below_nst (u_ HB) hb2⟩, by simp [intOf]; omega⟩
             · have ht' : ((t.toNat : Int) == 49) = false := by rw [beq_eq_false_iff_ne]; intro e; apply ht; rw [← UInt8.toNat_inj]; exact Int.ofNat.inj e
               go_wp2_with (first | (go_at_call 75; refine (u_ DG _).mono ?_; rintro e w' ⟨rfl, rfl⟩) | (go_at_call 78; refine (u_ TN _).mono ?_; rintro e v2 ⟨rfl, hb2⟩) | (go_at_call 79; refine (u_ TR _).mono ?_; rintro e w' ⟨rfl, rfl⟩))
               exact ⟨⟨k + 1, by omega, by go_num, u_ HAN, 10 * V + d, (u_ HVN).symm, rfl, by rw [decide_eq_false (fun hc => by rcases (u_ S2).2 hc with h | h; exact ho h; exact ht ((u_ HP).1 h))], below_nst (u_ HB) hb2⟩, by simp [intOf]; omega⟩
       · have hke : v.take k = v := List.take_of_length_le (by omega)
         have hVe : Nb.valD v = V := by rw [u_ HV2, hke]
         have hAe : v.all Nb.digB = true := by have := u_ HA; rwa [hke] at this
         have hsz : ¬ (k : Int) < v.length := by omega
         by_cases ho : 2 ^ n ≤ V
         · have hdo : decide (2 ^ n ≤ V) = true := decide_eq_true ho
           have HR2 : Hid (([], false, 11) = R) := h_ (by
             rw [← u_ HR]; unfold Nb.based; rw [if_pos rfl, if_pos hAe, hVe, if_pos ho])
           clear hke hVe hAe HA HV2
           go_wp2
           exact bodyPost_ret (v := nbV ([], false, 11)) (by simp [results, Tryz.results61, go_sem, nbV, S]) rfl ⟨by rw [u_ HR2], u_ HB⟩
         · have hdo : decide (2 ^ n ≤ V) = false := decide_eq_false ho
           have HR2 : Hid ((Vb.nTxt n V, true, 0) = R) := h_ (by
             rw [← u_ HR]; unfold Nb.based; rw [if_pos rfl, if_pos hAe, hVe, if_neg ho])
           clear hke hVe hAe HA HV2
           go_wp2
           exact bodyPost_ret (v := nbV (Vb.nTxt n V, true, 0)) (by simp [results, Tryz.results61, go_sem, nbV]) rfl ⟨by rw [u_ HR2], u_ HB⟩
end Go.Proofs.YtddlokkejglckaaGreatDoor
