/- The program's iterators over the ands of a graph. -/
import Derived.Test.YtnoklbnacfmpdacT2
import Derived.Test.YtnoklbnacfmpdacBRa
import Derived.RangeFuncNested
import Derived.Shelf.RegionOpen
import Derived.WalkKit
import Derived.OwnWalkIn
import Derived.TacticsInMore
import Derived.LoopNIn
import Derived.LoopIn
namespace Go.Proofs.Ytnoklbnacfmpdac
open Go Go.RowKit Gs
set_option linter.unusedVariables false
set_option linter.unusedSimpArgs false
set_option maxRecDepth 100000
attribute [local go_sem] Oper.semAt_some
def enI (k : Nat) : Value := .int .i64 (k : Int)
def enA (xs : List AndG) (k : Nat) : Value :=
  match xs[k]? with
  | some x => .agg #[.int .i64 x.a, .int .i64 x.b]
  | none => undef
theorem enA_some {xs : List AndG} {k : Nat} {x : AndG} (h : xs[k]? = some x) : enA xs k = .agg #[.int .i64 x.a, .int .i64 x.b] := by unfold enA; rw [h]
open Go.Shelf in
set_option maxHeartbeats 8000000 in
theorem iBack (n p c : Nat) (s : Option Addr) (xs : List AndG) (hN : xs.length ≤ 8192) (hn : 3 ≤ n) (w : World) :
    SeqC Fence.wide n Try.prog 71 #[.pointer (some ⟨p, 0, none⟩)] enI (enA xs) (fun W => W.cell? ⟨p, 0, none⟩ = some (.slice s xs.length c) ∧ AndAt xs s W) (fun pre x => x + 1 + pre.length = xs.length) (fun ys => ys.length = xs.length) (fun _ => True) w := by
  intro l J Jx W hW hT hJ hY h0
  have h1 : 1 ≤ n := by omega
  have t0 := (hT _ _ h0).1
  refine callsIn_of_wp Try.func71 rfl trivial ?_ rfl
  simp only [Try.ntmps71, List.size_toArray, List.length_cons, List.length_nil, Nat.reduceAdd, Nat.reduceSub, Array.replicate_succ, Array.replicate_zero, List.push_toArray, List.append_toArray, List.nil_append, List.cons_append]
  gi_wp2
  clear t0
  gi_loopw [3] (fun i wr => ∃ (pre : List Nat) (k : Nat), k + pre.length = xs.length ∧ i = .int .i64 ((k : Int) - 1) ∧ J pre wr) (fun i _ => (intOf i + 1).toNat)
  case atStart => exact ⟨[], xs.length, by simp, rfl, h0⟩
  case round =>
    obtain ⟨pre, k, hk, rfl, hj⟩ := hrel
    cases k with
    | zero =>
      have hm1 : ((0 : Nat) : Int) - 1 = -1 := by decide
      rw [hm1]
      gi_wp2
      go_end0
      exact ⟨⟨_, rfl⟩, .inl ⟨_, by omega, hj⟩⟩
    | succ k =>
      have hkk : ((k + 1 : Nat) : Int) - 1 = (k : Int) := by omega
      rw [hkk]
      have hlt : k < xs.length := by omega
      have hx : xs[k]? = some xs[k] := List.getElem?_eq_getElem hlt
      generalize xs[k] = x at hx
      obtain ⟨t1, t2⟩ := hT _ _ hj
      obtain ⟨bb, oo, rfl, z0, z1⟩ := t2 k x hx
      obtain ⟨fn, tmps, assign, body, hy, hR⟩ := hY pre k wr hj (by omega)
      rw [enA_some hx] at hy
      unfold enI at hy
      have i1 : (k : Int) < (xs.length : Int) := by omega
      have i2 : (0 : Int) ≤ (k : Int) := by omega
      clear hY t2 hx
      generalize x.a = za at *
      generalize x.b = zb at *
      gi_wp2
      refine hR.mono ?_
      rintro e W3 (⟨rfl, hJ3⟩ | ⟨rfl, hJx3⟩)
      · gi_wp2
        exact ⟨⟨pre ++ [k], k, by simp; omega, by go_num, hJ3⟩, by simp [intOf]⟩
      · gi_wp2
        refine bodyPost_ret (results_none rfl _ _ _) rfl ?_
        exact ⟨⟨_, rfl⟩, .inr ⟨_, trivial, hJx3⟩⟩
/-- The next and that is needed. -/
def NextN (FA : Nat) (ns : List Bool) (n : Nat) (pre : List Nat) (x : Nat) : Prop := x < n ∧ ns[FA + x]? = some true ∧ pre = needL FA ns x
open Go.Shelf in
set_option maxHeartbeats 8000000 in
theorem iConeSeq (n b b2 b3 g c FA N : Nat) (s : Option Addr) (xs : List AndG) (ns : List Bool) (hN : xs.length ≤ 8192) (hFA : FA ≤ 4096) (hns : ns.length = N) (hNN : N = FA + xs.length) (hn : 3 ≤ n) (w : World) :
    SeqC Fence.wide n Try.prog 57 #[.pointer (some ⟨b, 0, none⟩), .pointer (some ⟨b2, 0, none⟩), .pointer (some ⟨b3, 0, none⟩)] enI (enA xs) (fun W => W.cell? ⟨b, 3, none⟩ = some (.slice s xs.length c) ∧ W.cell? ⟨b2, 0, none⟩ = some (.slice (some ⟨g, 0, none⟩) N N) ∧ W.cell? ⟨b3, 0, none⟩ = some (.int .i64 (FA : Int)) ∧ NB g W ns ∧ AndAt xs s W) (NextN FA ns xs.length) (fun ys => ys = needL FA ns xs.length) (fun _ => True) w := by
  intro l J Jx W hW hT hJ hY h0
  have h1 : 1 ≤ n := by omega
  obtain ⟨t0, _⟩ := hT _ _ h0
  refine callsIn_of_wp Try.func57 rfl trivial ?_ rfl
  simp only [Try.ntmps57, List.size_toArray, List.length_cons, List.length_nil, Nat.reduceAdd, Nat.reduceSub, Array.replicate_succ, Array.replicate_zero, List.push_toArray, List.append_toArray, List.nil_append, List.cons_append]
  gi_wp2
  clear t0
  gi_loopw [10] (fun i wr => ∃ (k : Nat), k ≤ xs.length ∧ i = .int .i64 (k : Int) ∧ J (needL FA ns k) wr) (fun i _ => xs.length - (intOf i).toNat)
  case atStart => exact ⟨0, Nat.zero_le _, rfl, h0⟩
  case round =>
    obtain ⟨k, hk, rfl, hj⟩ := hrel
    by_cases hlt : k < xs.length
    · have hx : xs[k]? = some xs[k] := List.getElem?_eq_getElem hlt
      generalize xs[k] = x at hx
      obtain ⟨t1, t2, t3, t4, t5⟩ := hT _ _ hj
      obtain ⟨bb, oo, rfl, z0, z1⟩ := t5 k x hx
      have hbl := bal (brf wr) (.cells #[.int .i64 x.a, .int .i64 x.b] 54)
      have r2 := cell_later hbl t2
      have r3 := cell_later hbl t3
      obtain ⟨yn, hnk⟩ : ∃ yn, ns[FA + k]? = some yn := ⟨_, List.getElem?_eq_getElem (by omega)⟩
      obtain ⟨n0, n1⟩ := (t4.later hbl) (FA + k) _ hnk
      obtain ⟨m, hm⟩ : ∃ m : Nat, m = FA + k := ⟨_, rfl⟩
      have hsumk : (FA : Int) + (k : Int) = (m : Int) := by omega
      have j1 : (0 : Int) ≤ (m : Int) := by omega
      have j2 : (m : Int) < (N : Int) := by omega
      rw [← hm] at n0 n1
      have i1 : (k : Int) < (xs.length : Int) := by omega
      have i2 : (0 : Int) ≤ (k : Int) := by omega
      have hj1 := hJ _ _ _ hj hbl
      cases yn with
      | false =>
        have HJ := hide (show J (needL FA ns (k + 1)) _ by rw [needL_no hnk]; exact hj1)
        clear hY t5 t4 hx hj hj1 hnk hm hbl hns hNN
        generalize x.a = za at *
        generalize x.b = zb at *
        gi_wp2
        refine ⟨fun f h => (by cases h), ?_⟩
        gi_wp2
        exact ⟨⟨k + 1, by omega, by go_num, unhide HJ⟩, by simp [intOf]; omega⟩
      | true =>
        obtain ⟨fn, tmps, assign, body, hy, hR⟩ := hY _ k _ hj1 ⟨hlt, hnk, rfl⟩
        rw [enA_some hx] at hy
        unfold enI at hy
        have HE := hide (needL_yes hnk)
        clear hY t5 t4 hx hj hj1 hnk hm hbl hns hNN
        generalize x.a = za at *
        generalize x.b = zb at *
        gi_wp2
        refine hR.mono ?_
        rintro e W3 (⟨rfl, hJ3⟩ | ⟨rfl, hJx3⟩)
        · rw [← unhide HE] at hJ3
          gi_wp2
          exact ⟨⟨k + 1, by omega, by go_num, hJ3⟩, by simp [intOf]; omega⟩
        · gi_wp2
          refine bodyPost_ret (results_none rfl _ _ _) rfl ?_
          exact ⟨⟨_, rfl⟩, .inr ⟨_, trivial, hJx3⟩⟩
    · obtain rfl : k = xs.length := by omega
      gi_wp2
      go_end0
      exact ⟨⟨_, rfl⟩, .inl ⟨_, rfl, hj⟩⟩
end Go.Proofs.Ytnoklbnacfmpdac
