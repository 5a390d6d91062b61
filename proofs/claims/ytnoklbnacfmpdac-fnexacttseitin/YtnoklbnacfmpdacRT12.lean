/- The law's markText: the text of a mark; it writes nothing. -/
import Derived.Test.YtnoklbnacfmpdacBase
import Derived.Test.YtnoklbnacfmpdacGS2
import Derived.Test.YtnoklbnacfmpdacSF
namespace Go.Proofs.Ytnoklbnacfmpdac
open Go.RowKit Gs
set_option linter.unusedVariables false
set_option linter.unusedSimpArgs false
set_option maxRecDepth 100000
/-- The digits of a number, ahead of a text. -/
def digs : Nat → Nat → ByteArray → ByteArray
  | 0, _, acc => acc
  | f + 1, k, acc => if k = 0 then acc else digs f (k / 10) (S [UInt8.ofNat (48 + k % 10)] ++ acc)
/-- The text of a mark. -/
def mtx (k : Nat) : ByteArray := if k = 0 then ⟨#[109, 48]⟩ else ⟨#[109]⟩ ++ digs 19 k ByteArray.empty

set_option maxHeartbeats 8000000 in
theorem markTx (k : Nat) (w : World) (hk : k < 10 ^ 18) :
    Calls Try.prog 61 #[.int .i64 (k : Int)] w fun e w' => (e = .returned (.string (mtx k)) ∧ (mtx k).size ≤ 64) ∧ Below w.heap.size w w' := by
  by_cases h0 : k = 0
  · subst h0
    go_enter Try.func61, Try.ntmps61
    go_wp2
    exact bodyPost_ret (v := .string ⟨#[109, 48]⟩) (by simp [results, Try.results61, go_sem]) rfl ⟨⟨rfl, by decide⟩, brf w⟩
  · have d0 : decide ((k : Int) ≤ 0) = false := decide_eq_false (by omega)
    have HMX : Hid (mtx k = ⟨#[109]⟩ ++ digs 19 k ByteArray.empty) := hide (by unfold mtx; rw [if_neg h0])
    go_enter Try.func61, Try.ntmps61
    go_wp2
    go_loopw [0, 3] (fun kv o wr => ∃ (m : Nat) (s : ByteArray) (j : Nat), kv = .int .i64 (m : Int) ∧ o = .string s ∧ s.size ≤ j ∧ j ≤ 18 ∧ m < 10 ^ (18 - j) ∧ digs (19 - j) m s = digs 19 k ByteArray.empty ∧ Below w.heap.size w wr) (fun kv _ _ => (intOf kv).toNat)
    case atStart => exact ⟨k, ByteArray.empty, 0, rfl, rfl, by decide, by omega, by simpa using hk, rfl, brf _⟩
    case round =>
      obtain ⟨m, s, j, rfl, rfl, hs, hj, hm, hdd, hb⟩ := hrel
      by_cases hp : m = 0
      · subst hp
        have HB := hide hb
        have hd2 : digs (19 - j) 0 s = s := by
          rw [show 19 - j = (18 - j) + 1 by omega, digs, if_pos rfl]
        have HX := hide (show mtx k = ⟨#[109]⟩ ++ s by rw [unhide HMX, ← hdd, hd2])
        clear hb hdd hd2
        have hsz : s.size ≤ 18 := by omega
        go_wp2
        refine bodyPost_ret (v := .string (⟨#[109]⟩ ++ s)) (by simp [results, Try.results61, go_sem]) rfl ⟨⟨by rw [unhide HX], ?_⟩, unhide HB⟩
        rw [unhide HX, ByteArray.size_append]
        have : (⟨#[109]⟩ : ByteArray).size = 1 := rfl
        omega
      · have hm0 : 0 < m := by omega
        have dm : (0 : Int) < (m : Int) := by omega
        have hmb : m < 10 ^ 18 := Nat.lt_of_lt_of_le hm (Nat.pow_le_pow_right (by omega) (by omega))
        have hj18 : j < 18 := by
          rcases Nat.lt_or_ge j 18 with h | h
          · exact h
          · have e : 18 - j = 0 := by omega
            rw [e] at hm; omega
        have hdg : 48 + m % 10 < 256 := by omega
        have hcv := one_string (48 + (m : Int) % 10) (UInt8.ofNat (48 + m % 10)) (by rw [UInt8.toNat_ofNat']; omega)
        have hlt : m / 10 < 10 ^ (18 - (j + 1)) := by
          have e : 18 - j = (18 - (j + 1)) + 1 := by omega
          rw [e, Nat.pow_succ] at hm
          omega
        have HDD := hide (show digs (19 - (j + 1)) (m / 10) (S [UInt8.ofNat (48 + m % 10)] ++ s) = digs 19 k ByteArray.empty by
          rw [← hdd, show 19 - j = (18 - j) + 1 by omega, digs, if_neg hp, show 19 - (j + 1) = 18 - j by omega])
        have HB := hide hb
        have HL := hide hlt
        have HM := hide hm
        have hsz : s.size ≤ 18 := by omega
        clear hb hlt hm hdd
        generalize hd : S [UInt8.ofNat (48 + m % 10)] = D at hcv HDD
        have hD : D.size = 1 := by rw [← hd, S_size]; rfl
        clear hd
        go_wp2
        refine ⟨⟨m / 10, D ++ s, j + 1, by first | rfl | go_num, rfl, ?_, by omega, unhide HL, unhide HDD, bal (unhide HB) _⟩, ?_⟩
        · rw [ByteArray.size_append]; omega
        · simp [intOf]; omega
theorem markT (k : Nat) (w : World) (hk : k < 10 ^ 18) :
    Calls Try.prog 61 #[.int .i64 (k : Int)] w fun e w' => (∃ s : ByteArray, e = .returned (.string s) ∧ s.size ≤ 64) ∧ Below w.heap.size w w' := by
  refine (markTx k w hk).mono ?_
  rintro e w' ⟨⟨rfl, h⟩, hb⟩
  exact ⟨⟨_, rfl, h⟩, hb⟩
end Go.Proofs.Ytnoklbnacfmpdac
