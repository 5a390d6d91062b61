/- The states and the inputs that the program gives to loops. -/
import Derived.Test.YtjbbjgoofenkpaaF2
namespace Go.Proofs.Ytjbbjgoofenkpaa
open Go.RowKit Gs
set_option linter.unusedVariables false
set_option linter.unusedSimpArgs false
set_option maxRecDepth 100000
attribute [local go_sem] Oper.semAt_some
open Go.Shelf in
set_option maxHeartbeats 8000000 in
theorem iStates (n N c : Nat) (a : Option Addr) (v0 v1 v3 v4 : Value) (hN : N ≤ 64) (hn : 3 ≤ n) (w : World) :
    SeqB Fence.wide n Try.prog 35 #[.agg #[v0, v1, .slice a N c, v3, v4]] (fun z : Nat => .int .i64 (z : Int)) (fun _ => True) (fun pre x => x = pre.length ∧ x < N) (fun xs => xs.length = N) (fun _ => True) w := by
  intro l J Jx W hW hT hJ hY h0
  have h1 : 1 ≤ n := by omega
  refine callsIn_of_wp Try.func35 rfl trivial ?_ rfl
  simp only [Try.ntmps35, List.size_toArray, List.length_cons, List.length_nil, Nat.reduceAdd, Nat.reduceSub, Array.replicate_succ, Array.replicate_zero, List.push_toArray, List.append_toArray, List.nil_append, List.cons_append]
  gi_wp2
  gi_loopw [8] (fun i wr => ∃ (pre : List Nat), pre.length ≤ N ∧ i = .int .i64 (pre.length : Nat) ∧ J pre wr) (fun i _ => N - (intOf i).toNat)
  case atStart => exact ⟨[], Nat.zero_le _, rfl, hJ _ _ _ h0 (bal (brf _) _)⟩
  case round =>
    obtain ⟨pre, hk, rfl, hj⟩ := hrel
    by_cases hlt : pre.length < N
    · obtain ⟨fn, tmps, assign, body, hy, hR⟩ := hY pre pre.length wr hj ⟨rfl, hlt⟩
      have i1 : (pre.length : Int) < (N : Int) := by omega
      clear hY
      gi_wp2
      refine hR.mono ?_
      rintro e W3 (⟨rfl, hJ3⟩ | ⟨rfl, hJx3⟩)
      · gi_wp2
        exact ⟨⟨pre ++ [pre.length], by simp; omega, by simp, hJ3⟩, by simp [intOf]; omega⟩
      · gi_wp2
        refine bodyPost_ret (results_none rfl _ _ _) rfl ?_
        exact ⟨⟨_, rfl⟩, .inr ⟨_, trivial, hJx3⟩⟩
    · have hl : pre.length = N := by omega
      gi_wp2
      go_end0
      exact ⟨⟨_, rfl⟩, .inl ⟨_, hl, hj⟩⟩
open Go.Shelf in
set_option maxHeartbeats 8000000 in
theorem iInputs (n : Nat) (ins ob : Int) (v2 v3 v4 : Value) (h0 : 0 ≤ ins) (h5 : ins ≤ 5) (hn : 3 ≤ n) (w : World) :
    SeqB Fence.wide n Try.prog 40 #[.agg #[.int .i64 ins, .int .i64 ob, v2, v3, v4]] (fun z : Nat => .int .i64 (z : Int)) (fun _ => True) (fun pre x => x = pre.length ∧ x < cntI ins) (fun xs => xs.length = cntI ins) (fun _ => True) w := by
  intro l J Jx W hW hT hJ hY hj0
  have h1 : 1 ≤ n := by omega
  have CN := hide (fun V => iCount ins ob v2 v3 v4 V h0 h5)
  have hN := cntI_small h5
  generalize cntI ins = N at *
  refine callsIn_of_wp Try.func40 rfl trivial ?_ rfl
  simp only [Try.ntmps40, List.size_toArray, List.length_cons, List.length_nil, Nat.reduceAdd, Nat.reduceSub, Array.replicate_succ, Array.replicate_zero, List.push_toArray, List.append_toArray, List.nil_append, List.cons_append]
  gi_wp2
  refine ⟨trivial, ?_⟩
  refine (callsIn_wide.2 (unhide CN _)).mono ?_
  rintro e V1 ⟨rfl, hb1⟩
  have HJ1 := hide (hJ _ _ _ hj0 (btr (bal (brf _) _) hb1))
  clear hb1
  gi_wp2
  gi_loopw [7] (fun i wr => ∃ (pre : List Nat), pre.length ≤ N ∧ i = .int .i64 (pre.length : Nat) ∧ J pre wr) (fun i _ => N - (intOf i).toNat)
  case atStart => exact ⟨[], Nat.zero_le _, rfl, unhide HJ1⟩
  case round =>
    obtain ⟨pre, hk, rfl, hj⟩ := hrel
    by_cases hlt : pre.length < N
    · obtain ⟨fn, tmps, assign, body, hy, hR⟩ := hY pre pre.length wr hj ⟨rfl, hlt⟩
      have i1 : (pre.length : Int) < (N : Int) := by omega
      clear hY
      gi_wp2
      refine hR.mono ?_
      rintro e W3 (⟨rfl, hJ3⟩ | ⟨rfl, hJx3⟩)
      · gi_wp2
        exact ⟨⟨pre ++ [pre.length], by simp; omega, by simp, hJ3⟩, by simp [intOf]; omega⟩
      · gi_wp2
        refine bodyPost_ret (results_none rfl _ _ _) rfl ?_
        exact ⟨⟨_, rfl⟩, .inr ⟨_, trivial, hJx3⟩⟩
    · have hl : pre.length = N := by omega
      gi_wp2
      go_end0
      exact ⟨⟨_, rfl⟩, .inl ⟨_, hl, hj⟩⟩
end Go.Proofs.Ytjbbjgoofenkpaa
