/- What the specification's l02Ten and l02Digits answer. What the specification's NumberBits answers. -/
import Derived.Test.YtlcpmbdckmdabaaGreatDoorNS2
import Derived.Test.YtlcpmbdckmdabaaGreatDoorNBX
namespace Go.Proofs.YtlcpmbdckmdabaaGreatDoor
open Go.RowKit
set_option maxRecDepth 100000
set_option linter.unusedVariables false
theorem below_nst {w W W' : World} (h : Below w.heap.size w W) (h2 : Below W.heap.size W W') : Below w.heap.size w W' := h.trans (h2.mono h.size)
theorem sAddN (n X Y : Nat) (W : World) (hn : n ≤ 70) :
    Calls Tryz.prog 67 #[.string (S (Vb.nTxt n X)), .string (S (Vb.nTxt n Y)), .int .u8 48] W fun e w' => e = .returned (.string (S (Vb.nTxt n (X + Y)))) ∧ Below W.heap.size W w' := by
  have := sAdd (S (Vb.nTxt n X)) (S (Vb.nTxt n Y)) false W (by rw [S_size, Vb.nTxt_len]; omega) (by rw [S_size, S_size, Vb.nTxt_len, Vb.nTxt_len]) (by rw [L_S]; exact Vb.nTxt_known _ _) (by rw [L_S]; exact Vb.nTxt_known _ _)
  rw [S_size, Vb.nTxt_len, L_S, L_S, Vb.num_nTxt, Vb.num_nTxt] at this
  rw [show Vb.nTxt n (X + Y) = Vb.nTxt n (X % 2 ^ n + Y % 2 ^ n + Bool.toNat false) from Vb.nTxt_congr (by rw [show Bool.toNat false = 0 from rfl, Nat.add_zero, ← Nat.add_mod])]
  exact this
theorem S_app' (a b : List UInt8) : S a ++ S b = S (a ++ b) := by
  apply L_inj; rw [L_S]; unfold L S; simp [ByteArray.data_append]
set_option maxRecDepth 100000 in
set_option maxHeartbeats 400000 in
theorem sTen (n V d : Nat) (w : World) (h1 : 1 ≤ n) (h2 : n ≤ 64) (hV : V < 2 ^ n) (hd : d ≤ 9) :
    Calls Tryz.prog 52 #[.string (S (Vb.nTxt n V)), .int .i64 d] w fun e w' => e = .returned (.string (S (Vb.nTxt (4 + n) (10 * V + d)))) ∧ Below w.heap.size w w' := by
  have e0 : (⟨#[48, 48, 48, 48]⟩ : ByteArray) ++ S (Vb.nTxt n V) = S (Vb.nTxt (4 + n) V) := by
    rw [← Nb.pad_nTxt 4 n V hV, ← S_app']; rfl
  have z0 : (S (Vb.nTxt (4 + n) V)).size = 4 + n := by rw [S_size, Vb.nTxt_len]
  have zV : (S (Vb.nTxt n V)).size = n := by rw [S_size, Vb.nTxt_len]
  have e1 : S (List.replicate n 48) ++ S (Vb.nTxt 4 d) = S (Vb.nTxt (4 + n) d) := by
    rw [S_app', Nb.pad_nTxt n 4 d (by omega), Nat.add_comm]
  have z1 : (S (List.replicate n 48)).size = n := by rw [S_size, List.length_replicate]
  have z2 : (S (Vb.nTxt 4 d)).size = 4 := by rw [S_size, Vb.nTxt_len]
  have c1 := hide (fun v => sAddN (4 + n) V V v (by omega))
  have c2 := hide (fun v => sAddN (4 + n) (V + V) (V + V) v (by omega))
  have c3 := hide (fun v => sAddN (4 + n) (V + V + (V + V)) (V + V + (V + V)) v (by omega))
  have c4 := hide (fun v => sAddN (4 + n) (V + V + (V + V) + (V + V + (V + V))) (V + V) v (by omega))
  have c5 := hide (fun v => sAddN (4 + n) (V + V + (V + V) + (V + V + (V + V)) + (V + V)) d v (by omega))
  have b1 := hide (fun v => sBitsOf (d : Int) 4 v (by omega) (by omega))
  rw [show ((d : Int) % 18446744073709551616).toNat = d by omega] at b1
  have f1 := hide (fun v => sFill 48 n v (by omega))
  rw [show V + V + (V + V) + (V + V + (V + V)) + (V + V) + d = 10 * V + d by omega] at c5
  generalize S (Vb.nTxt (4 + n) (10 * V + d)) = T5 at *
  generalize S (Vb.nTxt (4 + n) (V + V + (V + V) + (V + V + (V + V)) + (V + V))) = T4 at *
  generalize S (Vb.nTxt (4 + n) (V + V + (V + V) + (V + V + (V + V)))) = T3 at *
  generalize S (Vb.nTxt (4 + n) (V + V + (V + V))) = T2 at *
  generalize S (Vb.nTxt (4 + n) (V + V)) = T1 at *
  generalize S (Vb.nTxt (4 + n) V) = T0 at *
  generalize S (Vb.nTxt (4 + n) d) = Td at *
  generalize S (Vb.nTxt 4 d) = T6 at *
  generalize S (List.replicate n 48) = T7 at *
  go_enter Tryz.func52, Tryz.ntmps52
  go_wp2_with fail
  refine (unhide c1 _).mono ?_
  rintro e v1 ⟨rfl, hb⟩
  have HB1 := hide hb
  clear hb
  go_wp2_with fail
  refine (unhide c2 _).mono ?_
  rintro e v2 ⟨rfl, hb⟩
  have HB2 := hide (below_nst (unhide HB1) hb)
  clear hb
  go_wp2_with fail
  refine (unhide c3 _).mono ?_
  rintro e v3 ⟨rfl, hb⟩
  have HB3 := hide (below_nst (unhide HB2) hb)
  clear hb
  go_wp2_with fail
  refine (unhide c4 _).mono ?_
  rintro e v4 ⟨rfl, hb⟩
  have HB4 := hide (below_nst (unhide HB3) hb)
  clear hb
  go_wp2_with fail
  refine (unhide b1 _).mono ?_
  rintro e v5 ⟨rfl, rfl⟩
  go_wp2_with fail
  rw [show (4 : Int) + (n : Int) - 4 = (n : Int) by omega]
  refine (unhide f1 _).mono ?_
  rintro e v6 ⟨rfl, hb⟩
  have HB6 := hide (below_nst (unhide HB4) hb)
  clear hb
  go_wp2_with fail
  refine (unhide c5 _).mono ?_
  rintro e v7 ⟨rfl, hb⟩
  have HB7 := hide (below_nst (unhide HB6) hb)
  clear hb
  go_wp2
  go_ret
  exact ⟨rfl, unhide HB7⟩
set_option maxRecDepth 100000 in
set_option maxHeartbeats 400000 in
theorem sDigitsX (c : UInt8) (n : Nat) (w : World) (h1 : c = 120 ∨ c = 122) (hn : n ≤ 4) :
    Calls Tryz.prog 54 #[.int .u8 (c.toNat : Int), .int .i64 n] w fun e w' => e = .returned (.tuple #[.string (S (List.replicate n c)), .bool true]) ∧ Below w.heap.size w w' := by
  rcases h1 with rfl | rfl
  · have F : Hid (∀ v, Calls Tryz.prog 51 #[.int .u8 120, .int .i64 n] v fun e w' => e = .returned (.string (S (List.replicate n 120))) ∧ Below v.heap.size v w') := fun v => sFill 120 n v (by omega)
    show Calls Tryz.prog 54 #[.int .u8 120, .int .i64 n] w _
    generalize S (List.replicate n 120) = T at *
    go_enter Tryz.func54, Tryz.ntmps54
    go_wp2_with (first | (go_at_call 51; refine (unhide F _).mono ?_; rintro e w' ⟨rfl, hb⟩))
    exact bodyPost_ret (v := .tuple #[.string T, .bool true]) (by simp [results, Tryz.results54, go_sem]) rfl ⟨rfl, hb⟩
  · have F : Hid (∀ v, Calls Tryz.prog 51 #[.int .u8 122, .int .i64 n] v fun e w' => e = .returned (.string (S (List.replicate n 122))) ∧ Below v.heap.size v w') := fun v => sFill 122 n v (by omega)
    show Calls Tryz.prog 54 #[.int .u8 122, .int .i64 n] w _
    generalize S (List.replicate n 122) = T at *
    go_enter Tryz.func54, Tryz.ntmps54
    go_wp2_with (first | (go_at_call 51; refine (unhide F _).mono ?_; rintro e w' ⟨rfl, hb⟩))
    exact bodyPost_ret (v := .tuple #[.string T, .bool true]) (by simp [results, Tryz.results54, go_sem]) rfl ⟨rfl, hb⟩
set_option maxRecDepth 100000 in
set_option maxHeartbeats 400000 in
theorem sDigD1ok (x : Nat) (w : World) (h1 : 48 ≤ x) (h2 : x ≤ 57) (hg : x - 48 < 2) (D : ∀ v, Calls Tryz.prog 49 #[.int .u8 x] v fun e w' => e = .returned (.bool true) ∧ w' = v) :
    Calls Tryz.prog 54 #[.int .u8 x, .int .i64 1] w fun e w' => e = .returned (.tuple #[.string (S (Vb.nTxt 1 (x - 48))), .bool true]) ∧ w' = w := by
  have D := hide D
  have q1 : ((x : Int) == 120) = false := by rw [beq_eq_false_iff_ne]; omega
  have q2 : ((x : Int) == 122) = false := by rw [beq_eq_false_iff_ne]; omega
  have q0 : ¬ (2 : Int) ≤ (x : Int) - 48 := by omega
  have BT : Hid (∀ v, Calls Tryz.prog 50 #[.int .i64 ((x : Int) - 48), .int .i64 1] v fun e w' => e = .returned (.string (S (Vb.nTxt 1 (x - 48)))) ∧ w' = v) := fun v => by
    have := sBitsOf ((x : Int) - 48) 1 v (by omega) (by omega)
    rwa [show (((x : Int) - 48) % 18446744073709551616).toNat = x - 48 by omega] at this
  generalize S (Vb.nTxt 1 (x - 48)) = T at *
  go_enter Tryz.func54, Tryz.ntmps54
  go_wp2_with (first | (go_at_call 49; refine (unhide D _).mono ?_; rintro e w' ⟨rfl, rfl⟩) | (go_at_call 50; refine (unhide BT _).mono ?_; rintro e w' ⟨rfl, rfl⟩))
  exact bodyPost_ret (v := .tuple #[.string T, .bool true]) (by simp [results, Tryz.results54, go_sem]) rfl ⟨rfl, rfl⟩
set_option maxRecDepth 100000 in
set_option maxHeartbeats 400000 in
theorem sDigD1no (x : Nat) (w : World) (h1 : 48 ≤ x) (h2 : x ≤ 57) (hg : 2 ≤ x - 48) (D : ∀ v, Calls Tryz.prog 49 #[.int .u8 x] v fun e w' => e = .returned (.bool true) ∧ w' = v) :
    Calls Tryz.prog 54 #[.int .u8 x, .int .i64 1] w fun e w' => e = .returned (.tuple #[.string (S []), .bool false]) ∧ w' = w := by
  have D := hide D
  have q1 : ((x : Int) == 120) = false := by rw [beq_eq_false_iff_ne]; omega
  have q2 : ((x : Int) == 122) = false := by rw [beq_eq_false_iff_ne]; omega
  have q0 : (2 : Int) ≤ (x : Int) - 48 := by omega
  go_enter Tryz.func54, Tryz.ntmps54
  go_wp2_with (first | (go_at_call 49; refine (unhide D _).mono ?_; rintro e w' ⟨rfl, rfl⟩))
  exact bodyPost_ret (v := .tuple #[.string (S []), .bool false]) (by simp [results, Tryz.results54, go_sem, S]) rfl ⟨rfl, rfl⟩
set_option maxRecDepth 100000 in
set_option maxHeartbeats 400000 in
theorem sDigD3ok (x : Nat) (w : World) (h1 : 48 ≤ x) (h2 : x ≤ 57) (hg : x - 48 < 8) (D : ∀ v, Calls Tryz.prog 49 #[.int .u8 x] v fun e w' => e = .returned (.bool true) ∧ w' = v) :
    Calls Tryz.prog 54 #[.int .u8 x, .int .i64 3] w fun e w' => e = .returned (.tuple #[.string (S (Vb.nTxt 3 (x - 48))), .bool true]) ∧ w' = w := by
  have D := hide D
  have q1 : ((x : Int) == 120) = false := by rw [beq_eq_false_iff_ne]; omega
  have q2 : ((x : Int) == 122) = false := by rw [beq_eq_false_iff_ne]; omega
  have q0 : ¬ (8 : Int) ≤ (x : Int) - 48 := by omega
  have BT : Hid (∀ v, Calls Tryz.prog 50 #[.int .i64 ((x : Int) - 48), .int .i64 3] v fun e w' => e = .returned (.string (S (Vb.nTxt 3 (x - 48)))) ∧ w' = v) := fun v => by
    have := sBitsOf ((x : Int) - 48) 3 v (by omega) (by omega)
    rwa [show (((x : Int) - 48) % 18446744073709551616).toNat = x - 48 by omega] at this
  generalize S (Vb.nTxt 3 (x - 48)) = T at *
  go_enter Tryz.func54, Tryz.ntmps54
  go_wp2_with (first | (go_at_call 49; refine (unhide D _).mono ?_; rintro e w' ⟨rfl, rfl⟩) | (go_at_call 50; refine (unhide BT _).mono ?_; rintro e w' ⟨rfl, rfl⟩))
  exact bodyPost_ret (v := .tuple #[.string T, .bool true]) (by simp [results, Tryz.results54, go_sem]) rfl ⟨rfl, rfl⟩
set_option maxRecDepth 100000 in
set_option maxHeartbeats 400000 in
theorem sDigD3no (x : Nat) (w : World) (h1 : 48 ≤ x) (h2 : x ≤ 57) (hg : 8 ≤ x - 48) (D : ∀ v, Calls Tryz.prog 49 #[.int .u8 x] v fun e w' => e = .returned (.bool true) ∧ w' = v) :
    Calls Tryz.prog 54 #[.int .u8 x, .int .i64 3] w fun e w' => e = .returned (.tuple #[.string (S []), .bool false]) ∧ w' = w := by
  have D := hide D
  have q1 : ((x : Int) == 120) = false := by rw [beq_eq_false_iff_ne]; omega
  have q2 : ((x : Int) == 122) = false := by rw [beq_eq_false_iff_ne]; omega
  have q0 : (8 : Int) ≤ (x : Int) - 48 := by omega
  go_enter Tryz.func54, Tryz.ntmps54
  go_wp2_with (first | (go_at_call 49; refine (unhide D _).mono ?_; rintro e w' ⟨rfl, rfl⟩))
  exact bodyPost_ret (v := .tuple #[.string (S []), .bool false]) (by simp [results, Tryz.results54, go_sem, S]) rfl ⟨rfl, rfl⟩
set_option maxRecDepth 100000 in
set_option maxHeartbeats 400000 in
theorem sDigD4ok (x : Nat) (w : World) (h1 : 48 ≤ x) (h2 : x ≤ 57) (hg : x - 48 < 16) (D : ∀ v, Calls Tryz.prog 49 #[.int .u8 x] v fun e w' => e = .returned (.bool true) ∧ w' = v) :
    Calls Tryz.prog 54 #[.int .u8 x, .int .i64 4] w fun e w' => e = .returned (.tuple #[.string (S (Vb.nTxt 4 (x - 48))), .bool true]) ∧ w' = w := by
  have D := hide D
  have q1 : ((x : Int) == 120) = false := by rw [beq_eq_false_iff_ne]; omega
  have q2 : ((x : Int) == 122) = false := by rw [beq_eq_false_iff_ne]; omega
  have q0 : ¬ (16 : Int) ≤ (x : Int) - 48 := by omega
  have BT : Hid (∀ v, Calls Tryz.prog 50 #[.int .i64 ((x : Int) - 48), .int .i64 4] v fun e w' => e = .returned (.string (S (Vb.nTxt 4 (x - 48)))) ∧ w' = v) := fun v => by
    have := sBitsOf ((x : Int) - 48) 4 v (by omega) (by omega)
    rwa [show (((x : Int) - 48) % 18446744073709551616).toNat = x - 48 by omega] at this
  generalize S (Vb.nTxt 4 (x - 48)) = T at *
  go_enter Tryz.func54, Tryz.ntmps54
  go_wp2_with (first | (go_at_call 49; refine (unhide D _).mono ?_; rintro e w' ⟨rfl, rfl⟩) | (go_at_call 50; refine (unhide BT _).mono ?_; rintro e w' ⟨rfl, rfl⟩))
  exact bodyPost_ret (v := .tuple #[.string T, .bool true]) (by simp [results, Tryz.results54, go_sem]) rfl ⟨rfl, rfl⟩
set_option maxRecDepth 100000 in
set_option maxHeartbeats 400000 in
theorem sDigD4no (x : Nat) (w : World) (h1 : 48 ≤ x) (h2 : x ≤ 57) (hg : 16 ≤ x - 48) (D : ∀ v, Calls Tryz.prog 49 #[.int .u8 x] v fun e w' => e = .returned (.bool true) ∧ w' = v) :
    Calls Tryz.prog 54 #[.int .u8 x, .int .i64 4] w fun e w' => e = .returned (.tuple #[.string (S []), .bool false]) ∧ w' = w := by
  have D := hide D
  have q1 : ((x : Int) == 120) = false := by rw [beq_eq_false_iff_ne]; omega
  have q2 : ((x : Int) == 122) = false := by rw [beq_eq_false_iff_ne]; omega
  have q0 : (16 : Int) ≤ (x : Int) - 48 := by omega
  go_enter Tryz.func54, Tryz.ntmps54
  go_wp2_with (first | (go_at_call 49; refine (unhide D _).mono ?_; rintro e w' ⟨rfl, rfl⟩))
  exact bodyPost_ret (v := .tuple #[.string (S []), .bool false]) (by simp [results, Tryz.results54, go_sem, S]) rfl ⟨rfl, rfl⟩
set_option maxRecDepth 100000 in
set_option maxHeartbeats 400000 in
theorem sDigH1no (x : Nat) (w : World) (h1 : 97 ≤ x) (h2 : x ≤ 102) (hg : 2 ≤ x - 87) (D : ∀ v, Calls Tryz.prog 49 #[.int .u8 x] v fun e w' => e = .returned (.bool false) ∧ w' = v) :
    Calls Tryz.prog 54 #[.int .u8 x, .int .i64 1] w fun e w' => e = .returned (.tuple #[.string (S []), .bool false]) ∧ w' = w := by
  have D := hide D
  have q1 : ((x : Int) == 120) = false := by rw [beq_eq_false_iff_ne]; omega
  have q2 : ((x : Int) == 122) = false := by rw [beq_eq_false_iff_ne]; omega
  have q0 : (2 : Int) ≤ (x : Int) - 97 + 10 := by omega
  go_enter Tryz.func54, Tryz.ntmps54
  go_wp2_with (first | (go_at_call 49; refine (unhide D _).mono ?_; rintro e w' ⟨rfl, rfl⟩))
  exact bodyPost_ret (v := .tuple #[.string (S []), .bool false]) (by simp [results, Tryz.results54, go_sem, S]) rfl ⟨rfl, rfl⟩
set_option maxRecDepth 100000 in
set_option maxHeartbeats 400000 in
theorem sDigH3no (x : Nat) (w : World) (h1 : 97 ≤ x) (h2 : x ≤ 102) (hg : 8 ≤ x - 87) (D : ∀ v, Calls Tryz.prog 49 #[.int .u8 x] v fun e w' => e = .returned (.bool false) ∧ w' = v) :
    Calls Tryz.prog 54 #[.int .u8 x, .int .i64 3] w fun e w' => e = .returned (.tuple #[.string (S []), .bool false]) ∧ w' = w := by
  have D := hide D
  have q1 : ((x : Int) == 120) = false := by rw [beq_eq_false_iff_ne]; omega
  have q2 : ((x : Int) == 122) = false := by rw [beq_eq_false_iff_ne]; omega
  have q0 : (8 : Int) ≤ (x : Int) - 97 + 10 := by omega
  go_enter Tryz.func54, Tryz.ntmps54
  go_wp2_with (first | (go_at_call 49; refine (unhide D _).mono ?_; rintro e w' ⟨rfl, rfl⟩))
  exact bodyPost_ret (v := .tuple #[.string (S []), .bool false]) (by simp [results, Tryz.results54, go_sem, S]) rfl ⟨rfl, rfl⟩
set_option maxRecDepth 100000 in
set_option maxHeartbeats 400000 in
theorem sDigH4ok (x : Nat) (w : World) (h1 : 97 ≤ x) (h2 : x ≤ 102) (hg : x - 87 < 16) (D : ∀ v, Calls Tryz.prog 49 #[.int .u8 x] v fun e w' => e = .returned (.bool false) ∧ w' = v) :
    Calls Tryz.prog 54 #[.int .u8 x, .int .i64 4] w fun e w' => e = .returned (.tuple #[.string (S (Vb.nTxt 4 (x - 87))), .bool true]) ∧ w' = w := by
  have D := hide D
  have q1 : ((x : Int) == 120) = false := by rw [beq_eq_false_iff_ne]; omega
  have q2 : ((x : Int) == 122) = false := by rw [beq_eq_false_iff_ne]; omega
  have q0 : ¬ (16 : Int) ≤ (x : Int) - 97 + 10 := by omega
  have BT : Hid (∀ v, Calls Tryz.prog 50 #[.int .i64 ((x : Int) - 97 + 10), .int .i64 4] v fun e w' => e = .returned (.string (S (Vb.nTxt 4 (x - 87)))) ∧ w' = v) := fun v => by
    have := sBitsOf ((x : Int) - 97 + 10) 4 v (by omega) (by omega)
    rwa [show (((x : Int) - 97 + 10) % 18446744073709551616).toNat = x - 87 by omega] at this
  generalize S (Vb.nTxt 4 (x - 87)) = T at *
  go_enter Tryz.func54, Tryz.ntmps54
  go_wp2_with (first | (go_at_call 49; refine (unhide D _).mono ?_; rintro e w' ⟨rfl, rfl⟩) | (go_at_call 50; refine (unhide BT _).mono ?_; rintro e w' ⟨rfl, rfl⟩))
  exact bodyPost_ret (v := .tuple #[.string T, .bool true]) (by simp [results, Tryz.results54, go_sem]) rfl ⟨rfl, rfl⟩
set_option maxRecDepth 100000 in
set_option maxHeartbeats 400000 in
theorem sDigH4no (x : Nat) (w : World) (h1 : 97 ≤ x) (h2 : x ≤ 102) (hg : 16 ≤ x - 87) (D : ∀ v, Calls Tryz.prog 49 #[.int .u8 x] v fun e w' => e = .returned (.bool false) ∧ w' = v) :
    Calls Tryz.prog 54 #[.int .u8 x, .int .i64 4] w fun e w' => e = .returned (.tuple #[.string (S []), .bool false]) ∧ w' = w := by
  have D := hide D
  have q1 : ((x : Int) == 120) = false := by rw [beq_eq_false_iff_ne]; omega
  have q2 : ((x : Int) == 122) = false := by rw [beq_eq_false_iff_ne]; omega
  have q0 : (16 : Int) ≤ (x : Int) - 97 + 10 := by omega
  go_enter Tryz.func54, Tryz.ntmps54
  go_wp2_with (first | (go_at_call 49; refine (unhide D _).mono ?_; rintro e w' ⟨rfl, rfl⟩))
  exact bodyPost_ret (v := .tuple #[.string (S []), .bool false]) (by simp [results, Tryz.results54, go_sem, S]) rfl ⟨rfl, rfl⟩
theorem dig_range {c : UInt8} (h : Nb.digB c = true) : 48 ≤ c.toNat ∧ c.toNat ≤ 57 := by
  unfold Nb.digB at h; simp [UInt8.le_iff_toNat_le] at h; exact h
theorem hex_range {c : UInt8} (h : Nb.valB c = true) (hd : Nb.digB c = false) (hx : ¬ (c = 120 ∨ c = 122)) : 97 ≤ c.toNat ∧ c.toNat ≤ 102 := by
  unfold Nb.valB at h
  rw [hd] at h
  simp [UInt8.le_iff_toNat_le] at h
  rcases h with (h | h) | h
  · exact h
  · exact absurd (.inl h) hx
  · exact absurd (.inr h) hx
/-- The two answers of l02Digits. -/
def digV (o : Option (List UInt8)) : Value := match o with | none => .tuple #[.string (S []), .bool false] | some x => .tuple #[.string (S x), .bool true]
theorem sDigits (c : UInt8) (n : Nat) (w : World) (hv : Nb.valB c = true) (hn : n = 1 ∨ n = 3 ∨ n = 4) :
    Calls Tryz.prog 54 #[.int .u8 (c.toNat : Int), .int .i64 n] w fun e w' => e = .returned (digV (Nb.digT n c)) ∧ Below w.heap.size w w' := by
  have up : ∀ {v : Value}, (Calls Tryz.prog 54 #[.int .u8 (c.toNat : Int), .int .i64 n] w fun e w' => e = .returned v ∧ w' = w) → Calls Tryz.prog 54 #[.int .u8 (c.toNat : Int), .int .i64 n] w fun e w' => e = .returned v ∧ Below w.heap.size w w' := fun h => h.mono fun e w' ⟨a, b⟩ => ⟨a, by rw [b]; exact brf _⟩
  by_cases h1 : c = 120 ∨ c = 122
  · rw [show Nb.digT n c = some (List.replicate n c) by unfold Nb.digT; rw [if_pos h1]]
    exact sDigitsX c n w h1 (by omega)
  · have e : Nb.digT n c = if 2 ^ n ≤ Nb.hexV c then none else some (Vb.nTxt n (Nb.hexV c)) := by unfold Nb.digT; rw [if_neg h1]
    rw [e]
    have D := fun v => sDigit c v
    cases hd : Nb.digB c
    · rw [hd] at D
      obtain ⟨r1, r2⟩ := hex_range hv hd h1
      rw [show Nb.hexV c = c.toNat - 87 by unfold Nb.hexV; rw [if_neg (by rw [hd]; decide)]]
      rcases hn with rfl | rfl | rfl
      · rw [if_pos (by omega)]; exact up (sDigH1no _ w r1 r2 (by omega) D)
      · rw [if_pos (by omega)]; exact up (sDigH3no _ w r1 r2 (by omega) D)
      · by_cases hg : 2 ^ 4 ≤ c.toNat - 87
        · omega
        · rw [if_neg hg]; exact up (sDigH4ok _ w r1 r2 (by omega) D)
    · rw [hd] at D
      obtain ⟨r1, r2⟩ := dig_range hd
      rw [show Nb.hexV c = c.toNat - 48 by unfold Nb.hexV; rw [if_pos hd]]
      rcases hn with rfl | rfl | rfl
      · by_cases hg : 2 ^ 1 ≤ c.toNat - 48
        · rw [if_pos hg]; exact up (sDigD1no _ w r1 r2 hg D)
        · rw [if_neg hg]; exact up (sDigD1ok _ w r1 r2 (by omega) D)
      · by_cases hg : 2 ^ 3 ≤ c.toNat - 48
        · rw [if_pos hg]; exact up (sDigD3no _ w r1 r2 hg D)
        · rw [if_neg hg]; exact up (sDigD3ok _ w r1 r2 (by omega) D)
      · rw [if_neg (by omega)]; exact up (sDigD4ok _ w r1 r2 (by omega) D)
end Go.Proofs.YtlcpmbdckmdabaaGreatDoor
namespace Go.Proofs.YtlcpmbdckmdabaaGreatDoor
open Go.RowKit
set_option maxRecDepth 100000
set_option linter.unusedVariables false
/-- What NumberBits answers, as a value. -/
def nbV (r : List UInt8 × Bool × Nat) : Value := .tuple #[.string (S r.1), .bool r.2.1, .int .i64 (r.2.2 : Nat)]
set_option maxRecDepth 100000 in
theorem sNB_long (s : ByteArray) (w : World) (hs : s.size ≤ maxLen) (h : 1000 < s.size) :
    Calls Tryz.prog 34 #[.string s] w fun e w' => e = .returned (nbV ([], false, 2)) ∧ w' = w := by
  have q : (1000 : Int) < s.size := by omega
  unfold maxLen at hs
  go_enter Tryz.func34, Tryz.ntmps34
  go_wp2
  exact bodyPost_ret (v := nbV ([], false, 2)) (by simp [results, Tryz.results34, go_sem, nbV, S]) rfl ⟨rfl, rfl⟩
set_option maxRecDepth 100000 in
set_option maxHeartbeats 400000 in
theorem sNB_form (s : ByteArray) (w : World) (h : s.size ≤ 1000) (hf : ¬ ((Nb.numE (L s) 0).2 = true ∧ (Nb.numE (L s) 0).1 = s.size)) :
    Calls Tryz.prog 34 #[.string s] w fun e w' => e = .returned (nbV ([], false, 3)) ∧ w' = w := by
  have N := hide (fun v => sNumber s 0 v (by omega) (by omega))
  generalize (Nb.numE (L s) 0).1 = E at *
  cases hok : (Nb.numE (L s) 0).2
  · rw [hok] at N
    clear hok hf
    go_enter Tryz.func34, Tryz.ntmps34
    go_wp2_with (go_at_call 48; refine (unhide N _).mono ?_; rintro e w' ⟨rfl, rfl⟩)
    exact bodyPost_ret (v := nbV ([], false, 3)) (by simp [results, Tryz.results34, go_sem, nbV, S]) rfl ⟨rfl, rfl⟩
  · rw [hok] at N
    have q : ((E : Int) != (s.size : Int)) = true := by rw [bne_iff_ne]; intro e; apply hf; exact ⟨hok, by omega⟩
    clear hok hf
    go_enter Tryz.func34, Tryz.ntmps34
    go_wp2_with (go_at_call 48; refine (unhide N _).mono ?_; rintro e w' ⟨rfl, rfl⟩)
    exact bodyPost_ret (v := nbV ([], false, 3)) (by simp [results, Tryz.results34, go_sem, nbV, S]) rfl ⟨rfl, rfl⟩
theorem dig_num {c : UInt8} (h : Nb.digB c = true) : (c.toNat : Int) - 48 = ((c.toNat - 48 : Nat) : Int) ∧ 48 ≤ (c.toNat : Int) ∧ (c.toNat : Int) ≤ 57 := by
  have := dig_range h; omega
set_option maxRecDepth 100000 in
set_option maxHeartbeats 400000 in
theorem sNB_plain (s : ByteArray) (w : World) (h : s.size ≤ 1000) (hok : (Nb.numE (L s) 0).2 = true) (he : (Nb.numE (L s) 0).1 = s.size) (hd : (L s).all Nb.digB = true) (h0 : 1 ≤ s.size) (R : List UInt8 × Bool × Nat) (hR : Nb.plain (L s) = R) :
    Calls Tryz.prog 34 #[.string s] w fun e w' => e = .returned (nbV R) ∧ Below w.heap.size w w' := by
  have N := hide (fun v => sNumber s 0 v (by omega) (by omega))
  rw [hok, he] at N
  have HD := hide hd
  have HR := hide hR
  clear hok he hd hR
  go_enter Tryz.func34, Tryz.ntmps34
  go_wp2_with (go_at_call 48; refine (unhide N _).mono ?_; rintro e w' ⟨rfl, rfl⟩)
  go_loop [7, 8] (fun i n => ∃ k : Nat, k ≤ s.size ∧ i = .int .i64 k ∧ ∃ m : Nat, m ≤ 1099511627776 ∧ m = Nb.lidD ((L s).take k) ∧ n = .int .i64 m) (fun i _ => s.size - (intOf i).toNat)
  case atStart => exact ⟨0, by omega, rfl, 0, by omega, rfl, rfl⟩
  case round =>
    obtain ⟨k, hk, rfl, m, hm, hml, rfl⟩ := hrel
    have HM := hide hml
    clear hml
    by_cases hks : k < s.size
    · have hdk : Nb.digB s[k] = true := List.all_eq_true.1 (unhide HD) _ (L_mem s k hks)
      have DG := hide (fun v => sDigit s[k] v)
      rw [hdk] at DG
      obtain ⟨e1, e2, e3⟩ := dig_num hdk
      clear hdk
      go_wp2_with (go_at_call 49; refine (unhide DG _).mono ?_; rintro e w' ⟨rfl, rfl⟩)
      refine ⟨⟨k + 1, by omega, by go_num, min (m * 10 + (s[k].toNat - 48)) 1099511627776, by omega, ?_, ?_⟩, by simp [intOf]; omega⟩
      · rw [L_take s k hks, Nb.lidD_snoc, ← unhide HM]
      · congr 1; split <;> omega
    · have hm2 : m = min (Nb.valD (L s)) 1099511627776 := by rw [unhide HM, L_take_all s k (by omega), Nb.lidD_is]
      have hq : ((k : Int) == (s.size : Int)) = true := by rw [beq_iff_eq]; omega
      by_cases hg : 2147483647 < Nb.valD (L s)
      · have HR2 : Hid (([], false, 11) = R) := hide (by rw [← unhide HR]; unfold Nb.plain; rw [if_pos hg])
        have hgm : (2147483647 : Int) < m := by omega
        clear hm2 HM
        go_wp2
        exact bodyPost_ret (v := nbV ([], false, 11)) (by simp [results, Tryz.results34, go_sem, nbV, S]) rfl ⟨by rw [unhide HR2], brf _⟩
      · have hgm : ¬ (2147483647 : Int) < m := by omega
        have hmv : Nb.valD (L s) = m := by omega
        have HR2 : Hid ((Vb.nTxt 32 m, true, 0) = R) := hide (by rw [← unhide HR]; unfold Nb.plain; rw [if_neg hg, hmv])
        have B := hide (fun v => sBitsOf (m : Int) 32 v (by omega) (by omega))
        rw [show ((m : Int) % 18446744073709551616).toNat = m by omega] at B
        clear hm2 HM hmv hg
        go_wp2_with (go_at_call 50; refine (unhide B _).mono ?_; rintro e w' ⟨rfl, rfl⟩)
        exact bodyPost_ret (v := nbV (Vb.nTxt 32 m, true, 0)) (by simp [results, Tryz.results34, go_sem, nbV]) rfl ⟨by rw [unhide HR2], brf _⟩
end Go.Proofs.YtlcpmbdckmdabaaGreatDoor
