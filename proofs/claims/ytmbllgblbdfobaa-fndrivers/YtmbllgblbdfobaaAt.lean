/- What the laws' at answers: a number below n. -/
import Derived.Test.YtmbllgblbdfobaaSrc3
namespace Go.Proofs.Ytmbllgblbdfobaa
open Go.RowKit
set_option maxRecDepth 100000 in
set_option maxHeartbeats 800000 in
theorem lAt (B : Nat) (a : Option Addr) (n cap i m : Nat) (w : World) (hB : BL B a n w) (hi : i ≤ 100) (hn : n ≤ 1048576) (hm : 1 ≤ m) (hm2 : m ≤ 100) :
    Calls Try.prog 34 #[.slice a n cap, .int .i64 i, .int .i64 m] w fun e w' => (∃ r : Nat, r < m ∧ e = .returned (.int .i64 r)) ∧ ∃ q, w' = w.drewN q := by
  by_cases h1 : m ≤ 1
  · have j1 : (m : Int) ≤ 1 := by omega
    go_enter Try.func34, Try.ntmps34
    go_wp2
    go_ret
    exact ⟨⟨0, by omega, rfl⟩, 0, rfl⟩
  have j1 : ¬ (m : Int) ≤ 1 := by omega
  by_cases h0 : n = 0
  · subst h0
    go_enter Try.func34, Try.ntmps34
    go_wp2
    go_ret
    refine ⟨⟨i * 7 % m, Nat.mod_lt _ (by omega), ?_⟩, 0, rfl⟩
    exact rfl
  obtain hB | ⟨cb, off, rfl, hcb, hc⟩ := hB
  · exact absurd hB h0
  have k1 := Nat.mod_lt i (show 0 < n by omega)
  have k2 := Nat.mod_lt (i + 1) (show 0 < n by omega)
  obtain ⟨x, hx⟩ := hc (i % n) k1
  obtain ⟨y, hy⟩ := hc ((i + 1) % n) k2
  have hx2 : x.toNat < 256 := x.toNat_lt
  have hy2 : y.toNat < 256 := y.toNat_lt
  have j0 : ((n : Int) == 0) = false := by rw [beq_eq_false_iff_ne]; omega
  have e1 : (i : Int) % (n : Int) = ((i % n : Nat) : Int) := rfl
  have e2 : ((i : Int) + 1) % (n : Int) = (((i + 1) % n : Nat) : Int) := rfl
  have e3 : (i : Int) / (n : Int) = ((i / n : Nat) : Int) := rfl
  have d3 : i / n ≤ 100 := Nat.le_trans (Nat.div_le_self _ _) hi
  have d1 : ((i % n : Nat) : Int) < n := by omega
  have d2 : (((i + 1) % n : Nat) : Int) < n := by omega
  clear hc
  generalize i % n = u at *
  generalize (i + 1) % n = v at *
  generalize i / n = d at *
  go_enter Try.func34, Try.ntmps34
  go_wp2
  go_quiet (fail)
  go_wp2
  go_ret
  refine ⟨⟨(x.toNat * 31 + y.toNat + d) % m, Nat.mod_lt _ (by omega), ?_⟩, _, rfl⟩
  exact rfl
end Go.Proofs.Ytmbllgblbdfobaa
