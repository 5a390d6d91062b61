/- What the specification's NumberBits answers. -/
import Derived.Test.YtdgiidlaafbgcabGreatDoorNS3
namespace Go.Proofs.YtdgiidlaafbgcabGreatDoor
open Go.RowKit
set_option linter.unusedVariables false
/-- What NumberBits answers, as a value. -/
def nbV (r : List UInt8 × Bool × Nat) : Value := .tuple #[.string (S r.1), .bool r.2.1, .int .i64 (r.2.2 : Nat)]
set_option maxRecDepth 100000 in
theorem sNB_long (s : ByteArray) (w : World) (hs : s.size ≤ maxLen) (h : 1000 < s.size) :
    Calls Tryz.prog 4 #[.string s] w fun e w' => e = .returned (nbV ([], false, 2)) ∧ w' = w := by
  have q : (1000 : Int) < s.size := by omega
  unfold maxLen at hs
  go_enter Tryz.func4, Tryz.ntmps4
  go_wp2
  exact bodyPost_ret (v := nbV ([], false, 2)) (by simp [results, Tryz.results4, go_sem, nbV, S]) rfl ⟨rfl, rfl⟩
set_option maxRecDepth 100000 in
set_option maxHeartbeats 400000 in
theorem sNB_form (s : ByteArray) (w : World) (h : s.size ≤ 1000) (hf : ¬ ((Nb.numE (L s) 0).2 = true ∧ (Nb.numE (L s) 0).1 = s.size)) :
    Calls Tryz.prog 4 #[.string s] w fun e w' => e = .returned (nbV ([], false, 3)) ∧ w' = w := by
  have N := hide (fun v => sNumber s 0 v (by omega) (by omega))
  generalize (Nb.numE (L s) 0).1 = E at *
  cases hok : (Nb.numE (L s) 0).2
  · rw [hok] at N
    clear hok hf
    go_enter Tryz.func4, Tryz.ntmps4
    go_wp2_with (go_at_call 6; refine (unhide N _).mono ?_; rintro e w' ⟨rfl, rfl⟩)
    exact bodyPost_ret (v := nbV ([], false, 3)) (by simp [results, Tryz.results4, go_sem, nbV, S]) rfl ⟨rfl, rfl⟩
  · rw [hok] at N
    have q : ((E : Int) != (s.size : Int)) = true := by rw [bne_iff_ne]; intro e; apply hf; exact ⟨hok, by omega⟩
    clear hok hf
    go_enter Tryz.func4, Tryz.ntmps4
    go_wp2_with (go_at_call 6; refine (unhide N _).mono ?_; rintro e w' ⟨rfl, rfl⟩)
    exact bodyPost_ret (v := nbV ([], false, 3)) (by simp [results, Tryz.results4, go_sem, nbV, S]) rfl ⟨rfl, rfl⟩
theorem dig_num {c : UInt8} (h : Nb.digB c = true) : (c.toNat : Int) - 48 = ((c.toNat - 48 : Nat) : Int) ∧ 48 ≤ (c.toNat : Int) ∧ (c.toNat : Int) ≤ 57 := by
  have := dig_range h; omega
set_option maxRecDepth 100000 in
set_option maxHeartbeats 400000 in
theorem sNB_plain (s : ByteArray) (w : World) (h : s.size ≤ 1000) (hok : (Nb.numE (L s) 0).2 = true) (he : (Nb.numE (L s) 0).1 = s.size) (hd : (L s).all Nb.digB = true) (h0 : 1 ≤ s.size) (R : List UInt8 × Bool × Nat) (hR : Nb.plain (L s) = R) :
    Calls Tryz.prog 4 #[.string s] w fun e w' => e = .returned (nbV R) ∧ Below w.heap.size w w' := by
  have N := hide (fun v => sNumber s 0 v (by omega) (by omega))
  rw [hok, he] at N
  have HD := hide hd
  have HR := hide hR
  clear hok he hd hR
  go_enter Tryz.func4, Tryz.ntmps4
  go_wp2_with (go_at_call 6; refine (unhide N _).mono ?_; rintro e w' ⟨rfl, rfl⟩)
  go_loop [7, 8] (fun i n => ∃ k : Nat, k ≤ s.size ∧ i = .int .i64 k ∧ ∃ m : Nat, m ≤ 1099511627776 ∧ m = Nb.lidD ((L s).take k) ∧ n = .int .i64 m) (fun i _ => s.size - (intOf i).toNat)
  case atStart => exact ⟨0, by omega, rfl, 0, by omega, rfl, rfl⟩
  case round =>
    obtain ⟨k, hk, rfl, m, hm, hml, rfl⟩ := hrel
    have HM := hide hml
    clear hml
    by_cases hks : k < s.size
    · have hdk : Nb.digB s[k] = true := List.all_eq_true.1 (unhide HD) _ (L_mem s k hks)
      have DG := hide (fun v => sDigit s[k] v)
      rw [hdk] at DG
      obtain ⟨e1, e2, e3⟩ := dig_num hdk
      clear hdk
      go_wp2_with (go_at_call 7; refine (unhide DG _).mono ?_; rintro e w' ⟨rfl, rfl⟩)
      refine ⟨⟨k + 1, by omega, by go_num, min (m * 10 + (s[k].toNat - 48)) 1099511627776, by omega, ?_, ?_⟩, by simp [intOf]; omega⟩
      · rw [L_take s k hks, Nb.lidD_snoc, ← unhide HM]
      · congr 1; split <;> omega
    · have hm2 : m = min (Nb.valD (L s)) 1099511627776 := by rw [unhide HM, L_take_all s k (by omega), Nb.lidD_is]
      have hq : ((k : Int) == (s.size : Int)) = true := by rw [beq_iff_eq]; omega
      by_cases hg : 2147483647 < Nb.valD (L s)
      · have HR2 : Hid (([], false, 11) = R) := hide (by rw [← unhide HR]; unfold Nb.plain; rw [if_pos hg])
        have hgm : (2147483647 : Int) < m := by omega
        clear hm2 HM
        go_wp2
        exact bodyPost_ret (v := nbV ([], false, 11)) (by simp [results, Tryz.results4, go_sem, nbV, S]) rfl ⟨by rw [unhide HR2], brf _⟩
      · have hgm : ¬ (2147483647 : Int) < m := by omega
        have hmv : Nb.valD (L s) = m := by omega
        have HR2 : Hid ((Vb.nTxt 32 m, true, 0) = R) := hide (by rw [← unhide HR]; unfold Nb.plain; rw [if_neg hg, hmv])
        have B := hide (fun v => sBitsOf (m : Int) 32 v (by omega) (by omega))
        rw [show ((m : Int) % 18446744073709551616).toNat = m by omega] at B
        clear hm2 HM hmv hg
        go_wp2_with (go_at_call 8; refine (unhide B _).mono ?_; rintro e w' ⟨rfl, rfl⟩)
        exact bodyPost_ret (v := nbV (Vb.nTxt 32 m, true, 0)) (by simp [results, Tryz.results4, go_sem, nbV]) rfl ⟨by rw [unhide HR2], brf _⟩
end Go.Proofs.YtdgiidlaafbgcabGreatDoor
