/- What the program's digitBits answers. -/
import Derived.Test.YtdgiidlaafbgcabGreatDoorNI3
namespace Go.Proofs.YtdgiidlaafbgcabGreatDoor
open Go.RowKit
set_option linter.unusedVariables false
theorem hex_index (c : UInt8) (hv : Nb.valB c = true) (hx : ¬ (c = 120 ∨ c = 122)) : Lib.indexByte ([48, 49, 50, 51, 52, 53, 54, 55, 56, 57, 97, 98, 99, 100, 101, 102] : List UInt8) c = (Nb.hexV c : Nat) := by
  have h : ∀ n : Fin 256, Nb.valB (UInt8.ofFin n) = true → ¬ (UInt8.ofFin n = 120 ∨ UInt8.ofFin n = 122) → Lib.indexByte ([48, 49, 50, 51, 52, 53, 54, 55, 56, 57, 97, 98, 99, 100, 101, 102] : List UInt8) (UInt8.ofFin n) = (Nb.hexV (UInt8.ofFin n) : Nat) := by decide +kernel
  exact h c.toFin hv hx
theorem val_ascii {c : UInt8} (hv : Nb.valB c = true) : c.toNat < 128 := by
  have h : ∀ n : Fin 256, Nb.valB (UInt8.ofFin n) = true → (UInt8.ofFin n).toNat < 128 := by decide +kernel
  exact h c.toFin hv
theorem rep_one (c : UInt8) (n : Nat) : Lib.repeatL [c] n = List.replicate n c := by
  induction n with
  | zero => rfl
  | succ n ih => rw [Lib.repeatL, ih]; rfl
theorem iRep (s : ByteArray) (n : Nat) (w : World) (hn : s.size * n ≤ 1000000) (hn2 : n ≤ 1000000) :
    Calls Tryz.prog 50 #[.string s, .int .i64 n] w fun e w' => e = .returned (.string (S (Lib.repeatL (L s) n))) ∧ Below w.heap.size w w' :=
  Tryz.strings_Repeat s n w (by omega) (by omega)
theorem iIdx (c : UInt8) (w : World) (hv : Nb.valB c = true) (hx : ¬ (c = 120 ∨ c = 122)) :
    Calls Tryz.prog 64 #[.string ⟨#[48, 49, 50, 51, 52, 53, 54, 55, 56, 57, 97, 98, 99, 100, 101, 102]⟩, .int .i32 (c.toNat : Int)] w fun e w' => e = .returned (.int .i64 (Nb.hexV c : Nat)) ∧ w = w' := by
  have h := Tryz.strings_IndexRune_ascii ⟨#[48, 49, 50, 51, 52, 53, 54, 55, 56, 57, 97, 98, 99, 100, 101, 102]⟩ (c.toNat : Int) w (by omega) (by have := val_ascii hv; omega)
  have e : ((c.toNat : Int)).toNat.toUInt8 = c := by rw [Int.toNat_natCast]; exact UInt8.ofNat_toNat
  rw [e] at h
  have h2 := hex_index c hv hx
  exact h.mono fun a w' ⟨p, q⟩ => ⟨by rw [p]; congr 2, q.symm⟩
set_option maxRecDepth 100000 in
set_option maxHeartbeats 400000 in
theorem iDigX (c : UInt8) (n : Nat) (w : World) (hx : c = 120 ∨ c = 122) (hn : n ≤ 4) :
    Calls Tryz.prog 46 #[.int .i32 (c.toNat : Int), .int .i64 n] w fun e w' => e = .returned (.string (S (List.replicate n c))) ∧ Below w.heap.size w w' := by
  have R := hide (fun v => iRep (S [c]) n v (by rw [S_size]; simp; omega) (by omega))
  rw [L_S, rep_one] at R
  generalize S (List.replicate n c) = T at *
  rcases hx with rfl | rfl
  · show Calls Tryz.prog 46 #[.int .i32 120, .int .i64 n] w _
    go_enter Tryz.func46, Tryz.ntmps46
    go_wp2_with fail
    rw [show Utf8.encode 120 = S [120] by kernel_rfl]
    refine (unhide R _).mono ?_
    rintro e v1 ⟨rfl, hb1⟩
    go_wp2
    go_ret
    exact ⟨rfl, hb1⟩
  · show Calls Tryz.prog 46 #[.int .i32 122, .int .i64 n] w _
    go_enter Tryz.func46, Tryz.ntmps46
    go_wp2_with fail
    rw [show Utf8.encode 122 = S [122] by kernel_rfl]
    refine (unhide R _).mono ?_
    rintro e v1 ⟨rfl, hb1⟩
    go_wp2
    go_ret
    exact ⟨rfl, hb1⟩
set_option maxRecDepth 100000 in
set_option maxHeartbeats 400000 in
theorem iDig1ok (k x : Nat) (w : World) (h1 : k ≠ 120) (h2 : k ≠ 122) (hx : x < 16) (hg : x < 2) (I : ∀ v, Calls Tryz.prog 64 #[.string ⟨#[48, 49, 50, 51, 52, 53, 54, 55, 56, 57, 97, 98, 99, 100, 101, 102]⟩, .int .i32 k] v fun e w' => e = .returned (.int .i64 (x : Nat)) ∧ v = w') :
    Calls Tryz.prog 46 #[.int .i32 k, .int .i64 1] w fun e w' => e = .returned (.string (S (Vb.nTxt 1 x))) ∧ Below w.heap.size w w' := by
  have I := hide I
  have q1 : ((k : Int) == 120) = false := by rw [beq_eq_false_iff_ne]; omega
  have q2 : ((k : Int) == 122) = false := by rw [beq_eq_false_iff_ne]; omega
  have q : ¬ (2 : Int) ≤ x := by omega
  have B := hide (fun v => iBitsOf (x : Int) 1 v (by omega) (by omega))
  rw [show ((x : Int) % 18446744073709551616).toNat = x by omega] at B
  generalize S (Vb.nTxt 1 x) = T at *
  go_enter Tryz.func46, Tryz.ntmps46
  go_wp2_with (first | (go_at_call 64; refine (unhide I _).mono ?_; rintro e w' ⟨rfl, rfl⟩) | (go_at_call 25; refine (unhide B _).mono ?_; rintro e v1 ⟨rfl, hb1⟩))
  go_ret
  exact ⟨rfl, hb1⟩
set_option maxRecDepth 100000 in
set_option maxHeartbeats 400000 in
theorem iDig1no (k x : Nat) (w : World) (h1 : k ≠ 120) (h2 : k ≠ 122) (hx : x < 16) (hg : 2 ≤ x) (I : ∀ v, Calls Tryz.prog 64 #[.string ⟨#[48, 49, 50, 51, 52, 53, 54, 55, 56, 57, 97, 98, 99, 100, 101, 102]⟩, .int .i32 k] v fun e w' => e = .returned (.int .i64 (x : Nat)) ∧ v = w') :
    Calls Tryz.prog 46 #[.int .i32 k, .int .i64 1] w fun e w' => e = .returned (.string (S [])) ∧ Below w.heap.size w w' := by
  have I := hide I
  have q1 : ((k : Int) == 120) = false := by rw [beq_eq_false_iff_ne]; omega
  have q2 : ((k : Int) == 122) = false := by rw [beq_eq_false_iff_ne]; omega
  have q : (2 : Int) ≤ x := by omega
  go_enter Tryz.func46, Tryz.ntmps46
  go_wp2_with (first | (go_at_call 64; refine (unhide I _).mono ?_; rintro e w' ⟨rfl, rfl⟩))
  go_ret
  exact ⟨rfl, brf _⟩
set_option maxRecDepth 100000 in
set_option maxHeartbeats 400000 in
theorem iDig3ok (k x : Nat) (w : World) (h1 : k ≠ 120) (h2 : k ≠ 122) (hx : x < 16) (hg : x < 8) (I : ∀ v, Calls Tryz.prog 64 #[.string ⟨#[48, 49, 50, 51, 52, 53, 54, 55, 56, 57, 97, 98, 99, 100, 101, 102]⟩, .int .i32 k] v fun e w' => e = .returned (.int .i64 (x : Nat)) ∧ v = w') :
    Calls Tryz.prog 46 #[.int .i32 k, .int .i64 3] w fun e w' => e = .returned (.string (S (Vb.nTxt 3 x))) ∧ Below w.heap.size w w' := by
  have I := hide I
  have q1 : ((k : Int) == 120) = false := by rw [beq_eq_false_iff_ne]; omega
  have q2 : ((k : Int) == 122) = false := by rw [beq_eq_false_iff_ne]; omega
  have q : ¬ (8 : Int) ≤ x := by omega
  have B := hide (fun v => iBitsOf (x : Int) 3 v (by omega) (by omega))
  rw [show ((x : Int) % 18446744073709551616).toNat = x by omega] at B
  generalize S (Vb.nTxt 3 x) = T at *
  go_enter Tryz.func46, Tryz.ntmps46
  go_wp2_with (first | (go_at_call 64; refine (unhide I _).mono ?_; rintro e w' ⟨rfl, rfl⟩) | (go_at_call 25; refine (unhide B _).mono ?_; rintro e v1 ⟨rfl, hb1⟩))
  go_ret
  exact ⟨rfl, hb1⟩
set_option maxRecDepth 100000 in
set_option maxHeartbeats 400000 in
theorem iDig3no (k x : Nat) (w : World) (h1 : k ≠ 120) (h2 : k ≠ 122) (hx : x < 16) (hg : 8 ≤ x) (I : ∀ v, Calls Tryz.prog 64 #[.string ⟨#[48, 49, 50, 51, 52, 53, 54, 55, 56, 57, 97, 98, 99, 100, 101, 102]⟩, .int .i32 k] v fun e w' => e = .returned (.int .i64 (x : Nat)) ∧ v = w') :
    Calls Tryz.prog 46 #[.int .i32 k, .int .i64 3] w fun e w' => e = .returned (.string (S [])) ∧ Below w.heap.size w w' := by
  have I := hide I
  have q1 : ((k : Int) == 120) = false := by rw [beq_eq_false_iff_ne]; omega
  have q2 : ((k : Int) == 122) = false := by rw [beq_eq_false_iff_ne]; omega
  have q : (8 : Int) ≤ x := by omega
  go_enter Tryz.func46, Tryz.ntmps46
  go_wp2_with (first | (go_at_call 64; refine (unhide I _).mono ?_; rintro e w' ⟨rfl, rfl⟩))
  go_ret
  exact ⟨rfl, brf _⟩
set_option maxRecDepth 100000 in
set_option maxHeartbeats 400000 in
theorem iDig4ok (k x : Nat) (w : World) (h1 : k ≠ 120) (h2 : k ≠ 122) (hx : x < 16) (hg : x < 16) (I : ∀ v, Calls Tryz.prog 64 #[.string ⟨#[48, 49, 50, 51, 52, 53, 54, 55, 56, 57, 97, 98, 99, 100, 101, 102]⟩, .int .i32 k] v fun e w' => e = .returned (.int .i64 (x : Nat)) ∧ v = w') :
    Calls Tryz.prog 46 #[.int .i32 k, .int .i64 4] w fun e w' => e = .returned (.string (S (Vb.nTxt 4 x))) ∧ Below w.heap.size w w' := by
  have I := hide I
  have q1 : ((k : Int) == 120) = false := by rw [beq_eq_false_iff_ne]; omega
  have q2 : ((k : Int) == 122) = false := by rw [beq_eq_false_iff_ne]; omega
  have q : ¬ (16 : Int) ≤ x := by omega
  have B := hide (fun v => iBitsOf (x : Int) 4 v (by omega) (by omega))
  rw [show ((x : Int) % 18446744073709551616).toNat = x by omega] at B
  generalize S (Vb.nTxt 4 x) = T at *
  go_enter Tryz.func46, Tryz.ntmps46
  go_wp2_with (first | (go_at_call 64; refine (unhide I _).mono ?_; rintro e w' ⟨rfl, rfl⟩) | (go_at_call 25; refine (unhide B _).mono ?_; rintro e v1 ⟨rfl, hb1⟩))
  go_ret
  exact ⟨rfl, hb1⟩
set_option maxRecDepth 100000 in
set_option maxHeartbeats 400000 in
theorem iDig4no (k x : Nat) (w : World) (h1 : k ≠ 120) (h2 : k ≠ 122) (hx : x < 16) (hg : 16 ≤ x) (I : ∀ v, Calls Tryz.prog 64 #[.string ⟨#[48, 49, 50, 51, 52, 53, 54, 55, 56, 57, 97, 98, 99, 100, 101, 102]⟩, .int .i32 k] v fun e w' => e = .returned (.int .i64 (x : Nat)) ∧ v = w') :
    Calls Tryz.prog 46 #[.int .i32 k, .int .i64 4] w fun e w' => e = .returned (.string (S [])) ∧ Below w.heap.size w w' := by
  have I := hide I
  have q1 : ((k : Int) == 120) = false := by rw [beq_eq_false_iff_ne]; omega
  have q2 : ((k : Int) == 122) = false := by rw [beq_eq_false_iff_ne]; omega
  have q : (16 : Int) ≤ x := by omega
  go_enter Tryz.func46, Tryz.ntmps46
  go_wp2_with (first | (go_at_call 64; refine (unhide I _).mono ?_; rintro e w' ⟨rfl, rfl⟩))
  go_ret
  exact ⟨rfl, brf _⟩
theorem hexV_lt {c : UInt8} (hv : Nb.valB c = true) (hx : ¬ (c = 120 ∨ c = 122)) : Nb.hexV c < 16 := by
  have h : ∀ n : Fin 256, Nb.valB (UInt8.ofFin n) = true → ¬ (UInt8.ofFin n = 120 ∨ UInt8.ofFin n = 122) → Nb.hexV (UInt8.ofFin n) < 16 := by decide +kernel
  exact h c.toFin hv hx
theorem iDigit (c : UInt8) (n : Nat) (w : World) (hv : Nb.valB c = true) (hn : n = 1 ∨ n = 3 ∨ n = 4) :
    Calls Tryz.prog 46 #[.int .i32 (c.toNat : Int), .int .i64 n] w fun e w' => e = .returned (.string (S ((Nb.digT n c).getD []))) ∧ Below w.heap.size w w' := by
  by_cases hx : c = 120 ∨ c = 122
  · rw [show Nb.digT n c = some (List.replicate n c) by unfold Nb.digT; rw [if_pos hx]]
    exact iDigX c n w hx (by omega)
  · rw [show Nb.digT n c = if 2 ^ n ≤ Nb.hexV c then none else some (Vb.nTxt n (Nb.hexV c)) by unfold Nb.digT; rw [if_neg hx]]
    have I := fun v => iIdx c v hv hx
    have k1 : c.toNat ≠ 120 := fun e => hx (.inl (UInt8.toNat_inj.1 e))
    have k2 : c.toNat ≠ 122 := fun e => hx (.inr (UInt8.toNat_inj.1 e))
    have hl := hexV_lt hv hx
    rcases hn with rfl | rfl | rfl
    · by_cases hg : 2 ^ 1 ≤ Nb.hexV c
      · rw [if_pos hg]; exact iDig1no _ _ w k1 k2 hl hg I
      · rw [if_neg hg]; exact iDig1ok _ _ w k1 k2 hl (by omega) I
    · by_cases hg : 2 ^ 3 ≤ Nb.hexV c
      · rw [if_pos hg]; exact iDig3no _ _ w k1 k2 hl hg I
      · rw [if_neg hg]; exact iDig3ok _ _ w k1 k2 hl (by omega) I
    · rw [if_neg (by omega)]; exact iDig4ok _ _ w k1 k2 hl (by omega) I
end Go.Proofs.YtdgiidlaafbgcabGreatDoor
