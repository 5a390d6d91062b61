/- What the specification's l01Truth, l01Fill and Choose answer. -/
import Derived.Test.YtdgiidlaafbgcabGreatDoorS6
namespace Go.Proofs.YtdgiidlaafbgcabGreatDoor
open Go.RowKit
theorem any_step {p : UInt8 → Bool} {s : ByteArray} (k : Nat) (hk : k < s.size) : ((L s).take (k + 1)).any p = (((L s).take k).any p || p s[k]) := by
  rw [L_take s k hk, List.any_append]; simp
theorem all_stepB {p : UInt8 → Bool} {s : ByteArray} (k : Nat) (hk : k < s.size) : ((L s).take (k + 1)).all p = (((L s).take k).all p && p s[k]) := by
  rw [L_take s k hk, List.all_append]; simp
theorem any_of {p : UInt8 → Bool} {s : ByteArray} (k : Nat) (hk : k < s.size) (h : p s[k] = true) : (L s).any p = true :=
  List.any_eq_true.2 ⟨_, L_mem s k hk, h⟩
theorem ret_u8 {a b : UInt8} (h : a = b) : Ending.returned (.int .u8 (a.toNat : Int)) = .returned (.int .u8 (b.toNat : Int)) := by rw [h]
def zeroB (c : UInt8) : Bool := c == 48
set_option maxHeartbeats 400000 in
theorem sTruth (s : ByteArray) (w : World) (hs : s.size ≤ maxLen) :
    Calls Tryz.prog 11 #[.string s] w fun e w' => e = .returned (.int .u8 ((truthL (L s)).toNat : Int)) ∧ w' = w := by
  unfold maxLen at hs
  go_enter Tryz.func11, Tryz.ntmps11
  go_wp2
  go_loop [3, 4] (fun c i => ∃ k : Nat, k ≤ s.size ∧ i = .int .i64 k ∧ ((L s).take k).any Vb.oneB = false ∧ ∃ x : UInt8, c = .int .u8 (x.toNat : Int) ∧ x = (if ((L s).take k).all zeroB then 48 else 120)) (fun _ i => s.size - (intOf i).toNat)
  case atStart => exact ⟨0, Nat.zero_le _, rfl, by simp, 48, rfl, by simp⟩
  case round =>
    obtain ⟨k, hk, rfl, hno, x, rfl, hx⟩ := hrel
    have HN := hide hno
    have HX := hide hx
    clear hno hx
    by_cases hlt : k < s.size
    · by_cases e1 : s[k] = 49
      · have e' : (s[k].toNat : Int) = 49 := by rw [e1]; rfl
        have HA : Hid (truthL (L s) = 49) := by
          have : (L s).any Vb.oneB = true := any_of k hlt (by rw [e1]; rfl)
          show _ = _; unfold truthL; rw [this]; rfl
        clear e1
        go_wp2
        go_ret
        exact ⟨by rw [unhide HA]; rfl, rfl⟩
      · have n1 : ((s[k].toNat : Int) == 49) = false := u8_nq 49 (by omega) e1
        have HS : Hid (((L s).take (k + 1)).any Vb.oneB = false) := by
          show _ = false; rw [any_step k hlt, unhide HN]; simp [Vb.oneB, e1]
        by_cases e0 : s[k] = 48
        · have e' : (s[k].toNat : Int) = 48 := by rw [e0]; rfl
          have HT : Hid (x = (if ((L s).take (k + 1)).all zeroB then 48 else 120)) := by
            show _ = _; rw [all_stepB k hlt, e0, unhide HX]; simp [zeroB]
          clear e0 e1 n1
          go_wp2
          go_round
          case rel => exact ⟨k + 1, by omega, by go_num, unhide HS, x, rfl, unhide HT⟩
          case measure => simp [intOf]; omega
        · have n0 : ((s[k].toNat : Int) != 48) = true := u8_ne 48 (by omega) e0
          have HT : Hid ((120 : UInt8) = (if ((L s).take (k + 1)).all zeroB then 48 else 120)) := by
            show _ = _; rw [all_stepB k hlt]; simp [zeroB, e0]
          clear e0 e1
          go_wp2
          go_round
          case rel => exact ⟨k + 1, by omega, by go_num, unhide HS, 120, rfl, unhide HT⟩
          case measure => simp [intOf]; omega
    · go_wp2
      go_ret
      refine ⟨ret_u8 ?_, rfl⟩
      have h := unhide HN
      have h' := unhide HX
      rw [L_take_all s k (by omega)] at h h'
      rw [h']; unfold truthL; rw [h]; rfl
theorem one_string (c : Int) (x : UInt8) (h : c = (x.toNat : Int)) (W : World) : (convert 34 9 (.slice (some ⟨W.heap.size, 0, none⟩) 1 1)).run Tryz.prog (W.alloc (.cells #[.int .u8 c] 5)) = .ok (.string (S [x])) (W.alloc (.cells #[.int .u8 c] 5)) := by
  subst h
  refine run_convert_bytes_back (P := Tryz.prog) _ 34 9 5 ⟨W.heap.size, 0, none⟩ 1 [x] (by kernel_rfl) (by kernel_rfl) (by kernel_rfl) ?_
  intro j hj
  have : j = 0 := by simp at hj; omega
  subst this
  rw [Addr.add_lit, World.cell?_alloc_new]; rfl
theorem S_snoc (l : List UInt8) (c : UInt8) : S l ++ S [c] = S (l ++ [c]) := by
  apply L_inj; rw [L_append, L_S, L_S, L_S]
set_option maxHeartbeats 400000 in
theorem sFill (c : UInt8) (n : Nat) (w : World) (hn : n ≤ 8192) :
    Calls Tryz.prog 9 #[.int .u8 (c.toNat : Int), .int .i64 n] w fun e w' => e = .returned (.string (S (List.replicate n c))) ∧ Below w.heap.size w w' := by
  have hcv := one_string (c.toNat : Int) c rfl
  go_enter Tryz.func9, Tryz.ntmps9
  go_wp2
  go_loopw [5, 6] (fun o i wr => ∃ k : Nat, k ≤ n ∧ i = .int .i64 k ∧ o = .string (S (List.replicate k c)) ∧ Below w.heap.size w wr) (fun _ i _ => n - (intOf i).toNat)
  case atStart => exact ⟨0, Nat.zero_le _, rfl, rfl, brf _⟩
  case round =>
    obtain ⟨k, hk, rfl, rfl, hbel⟩ := hrel
    have hz : (S (List.replicate k c)).size = k := by rw [S_size]; simp
    have st : S (List.replicate k c) ++ S [c] = S (List.replicate (k + 1) c) := by rw [S_snoc, List.replicate_succ']
    have hz1 : (S [c]).size = 1 := by rw [S_size]; rfl
    have ST := hide st
    clear st
    by_cases hlt : k < n
    · generalize S (List.replicate k c) = T at *
      generalize S [c] = C at *
      go_wp2
      exact ⟨⟨k + 1, by omega, by go_num, congrArg Value.string (unhide ST), bal hbel _⟩, by simp [intOf]; omega⟩
    · have : k = n := by omega
      subst this
      go_wp2
      go_ret
      exact ⟨rfl, hbel⟩
end Go.Proofs.YtdgiidlaafbgcabGreatDoor
