/- What makes a placement right: the mathematics; tiles, hasPads, l15Pads. -/
import Derived.Test.YtdmmbhemmbgcpadPJ
import Derived.Test.YtdmmbhemmbgcpadC
namespace Go.Proofs.Ytdmmbhemmbgcpad
open Go Go.RowKit Gs
set_option linter.unusedVariables false
set_option linter.unusedSimpArgs false
set_option maxRecDepth 100000
def padsB (H n0 n3 n4 : Nat) : Bool := decide (n0 ≤ H) && decide (n3 + n4 ≤ H)
/-- What PlaceOK answers, where the design's own answer is given. -/
def placeB (pk : Bool) (x0 x1 x2 x3 : Int) (n0 n2 n3 n4 : Nat) (xs : List Int) : Bool := pk && (chipB x0 x1 x2 x3 && (padsB (x1 * x3).toNat n0 n3 n4 && (decide (xs.length = n2) && insB (x0 * x1).toNat xs)))
theorem chip_parts {x0 x1 x2 x3 : Int} (h : chipB x0 x1 x2 x3 = true) : (1 ≤ x0 ∧ x0 ≤ 8) ∧ (1 ≤ x1 ∧ x1 ≤ 8) ∧ (1 ≤ x2 ∧ x2 ≤ 8) ∧ (1 ≤ x3 ∧ x3 ≤ 4) := by
  simp only [chipB, upTo, Bool.and_eq_true, decide_eq_true_eq] at h
  exact h
theorem mul_small {x y : Int} {m n : Nat} (hx : 1 ≤ x ∧ x ≤ m) (hy : 1 ≤ y ∧ y ≤ n) : ∃ T : Nat, x * y = (T : Int) ∧ T ≤ m * n ∧ 1 ≤ T := by
  obtain ⟨a, rfl⟩ : ∃ a : Nat, x = a := ⟨x.toNat, by omega⟩
  obtain ⟨b, rfl⟩ : ∃ b : Nat, y = b := ⟨y.toNat, by omega⟩
  refine ⟨a * b, by simp, Nat.mul_le_mul (by omega) (by omega), ?_⟩
  have : 1 * 1 ≤ a * b := Nat.mul_le_mul (by omega) (by omega)
  omega
theorem nodup_len : ∀ (n : Nat) (l : List Nat), l.Nodup → (∀ x ∈ l, x < n) → l.length ≤ n
  | 0, l, _, h => by
    cases l with
    | nil => simp
    | cons a l => exact absurd (h a (by simp)) (Nat.not_lt_zero _)
  | n + 1, l, hn, h => by
    have h1 := nodup_len n (l.erase n) (hn.erase n) (fun x hx => by
      have hm := (hn.mem_erase_iff).1 hx
      have := h x hm.2
      omega)
    by_cases hm : n ∈ l
    · rw [List.length_erase_of_mem hm] at h1; omega
    · rw [List.erase_of_not_mem hm] at h1; omega
theorem hasB_iff {xs : List Int} {x : Int} : hasB xs x = true ↔ x ∈ xs := by
  unfold hasB
  rw [List.any_eq_true]
  constructor
  · rintro ⟨y, hy, h⟩
    rw [decide_eq_true_eq] at h
    rw [h]; exact hy
  · intro h
    exact ⟨x, h, by simp⟩
theorem insB_nodup {n : Nat} {xs : List Int} (h : insB n xs = true) : (xs.map Int.toNat).Nodup := by
  have key : ∀ k, k ≤ xs.length → ((xs.take k).map Int.toNat).Nodup := by
    intro k
    induction k with
    | zero => intro _; simp
    | succ k ih =>
      intro hk
      have hx : xs[k]? = some xs[k] := List.getElem?_eq_getElem (by omega)
      have h1 := upB_at h (show k < xs.length by omega)
      rw [inAt_at hx] at h1
      rw [List.take_add_one, hx, List.map_append]
      simp only [Bool.and_eq_true, Bool.not_eq_true'] at h1
      refine List.nodup_append.2 ⟨ih (by omega), by simp, ?_⟩
      intro a ha b hb
      simp only [Option.toList_some, List.map_cons, List.map_nil, List.mem_singleton] at hb
      subst hb
      rintro rfl
      obtain ⟨y, hy, he⟩ := List.mem_map.1 ha
      have h2 := insB_mem h y (List.mem_of_mem_take hy)
      have h3 := insB_mem h xs[k] (List.getElem_mem _)
      have : y = xs[k] := by omega
      subst this
      rw [hasB_iff.2 hy] at h1
      cases h1.2
  have := key xs.length (Nat.le_refl _)
  rwa [List.take_of_length_le (Nat.le_refl _)] at this
/-- So many different places are no more than there are. -/
theorem insB_len {n : Nat} {xs : List Int} (h : insB n xs = true) : xs.length ≤ n := by
  have := nodup_len n (xs.map Int.toNat) (insB_nodup h) (fun x hx => by
    obtain ⟨y, hy, rfl⟩ := List.mem_map.1 hx
    have := insB_mem h y hy
    omega)
  rwa [List.length_map] at this
theorem iTiles (x0 x1 x2 x3 : Int) (T : Nat) (hT : T ≤ 64) (q : x0 * x1 = (T : Int)) (w : World) : Calls Try.prog 25 #[.agg #[.int .i64 x0, .int .i64 x1, .int .i64 x2, .int .i64 x3]] w fun e w' => e = .returned (.int .i64 (T : Int)) ∧ Below w.heap.size w w' := by
  go_enter Try.func25, Try.ntmps25
  go_wp2
  exact bodyPost_ret (v := .int .i64 (T : Int)) (by simp [results, Try.results25, go_sem]) rfl ⟨rfl, bal (brf w) _⟩
set_option maxHeartbeats 1600000 in
theorem iPads (s0 s1 s2 s3 s4 : Option Addr) (l0 l1 l2 l3 l4 c0 c1 c2 c3 c4 : Nat) (x0 x1 x2 x3 : Int) (H : Nat) (hH : H ≤ 32) (q : x1 * x3 = (H : Int)) (w : World) (h0 : l0 ≤ 1048576) (h3 : l3 ≤ 1048576) (h4 : l4 ≤ 1048576) :
    Calls Try.prog 23 #[.agg #[.slice s0 l0 c0, .slice s1 l1 c1, .slice s2 l2 c2, .slice s3 l3 c3, .slice s4 l4 c4, .int .i64 x0, .int .i64 x1, .int .i64 x2, .int .i64 x3]] w fun e w' => e = .returned (.bool (padsB H l0 l3 l4)) ∧ Below w.heap.size w w' := by
  obtain ⟨M, hM⟩ : ∃ M : Nat, l3 + l4 = M := ⟨_, rfl⟩
  have q2 : (l3 : Int) + (l4 : Int) = (M : Int) := by omega
  have HR : Hid (padsB H l0 l3 l4 = (decide (l0 ≤ H) && decide (M ≤ H))) := hide (by unfold padsB; rw [hM])
  have hMb : M ≤ 4194304 := by omega
  generalize padsB H l0 l3 l4 = RR at *
  clear hM
  by_cases g0 : (l0 : Int) ≤ (H : Int)
  · go_enter Try.func23, Try.ntmps23
    go_wp2
    exact bodyPost_ret (v := .bool (decide ((M : Int) ≤ (H : Int)))) (by simp [results, Try.results23, go_sem]) rfl ⟨by rw [unhide HR, decide_eq_true (p := l0 ≤ H) (by omega), show decide ((M : Int) ≤ (H : Int)) = decide (M ≤ H) from decide_eq_decide.2 (by omega)]; rfl, bal (brf w) _⟩
  · go_enter Try.func23, Try.ntmps23
    go_wp2
    exact bodyPost_ret (v := .bool false) (by simp [results, Try.results23, go_sem]) rfl ⟨by rw [unhide HR, decide_eq_false (p := l0 ≤ H) (by omega)]; rfl, bal (brf w) _⟩
set_option maxHeartbeats 1600000 in
theorem sPads (s0 s1 s2 s3 s4 : Option Addr) (l0 l1 l2 l3 l4 c0 c1 c2 c3 c4 : Nat) (x0 x1 x2 x3 : Int) (H : Nat) (hH : H ≤ 32) (q : x1 * x3 = (H : Int)) (w : World) (h0 : l0 ≤ 1048576) (h3 : l3 ≤ 1048576) (h4 : l4 ≤ 1048576) :
    Calls Try.prog 17 #[.agg #[.slice s0 l0 c0, .slice s1 l1 c1, .slice s2 l2 c2, .slice s3 l3 c3, .slice s4 l4 c4], .agg #[.int .i64 x0, .int .i64 x1, .int .i64 x2, .int .i64 x3]] w fun e w' => e = .returned (.bool (padsB H l0 l3 l4)) ∧ Below w.heap.size w w' := by
  obtain ⟨M, hM⟩ : ∃ M : Nat, l3 + l4 = M := ⟨_, rfl⟩
  have q2 : (l3 : Int) + (l4 : Int) = (M : Int) := by omega
  have HR : Hid (padsB H l0 l3 l4 = (decide (l0 ≤ H) && decide (M ≤ H))) := hide (by unfold padsB; rw [hM])
  have hMb : M ≤ 4194304 := by omega
  generalize padsB H l0 l3 l4 = RR at *
  clear hM
  by_cases g0 : (l0 : Int) ≤ (H : Int)
  · go_enter Try.func17, Try.ntmps17
    go_wp2
    exact bodyPost_ret (v := .bool (decide ((M : Int) ≤ (H : Int)))) (by simp [results, Try.results17, go_sem]) rfl ⟨by rw [unhide HR, decide_eq_true (p := l0 ≤ H) (by omega), show decide ((M : Int) ≤ (H : Int)) = decide (M ≤ H) from decide_eq_decide.2 (by omega)]; rfl, bal (bal (brf w) _) _⟩
  · go_enter Try.func17, Try.ntmps17
    go_wp2
    exact bodyPost_ret (v := .bool false) (by simp [results, Try.results17, go_sem]) rfl ⟨by rw [unhide HR, decide_eq_false (p := l0 ≤ H) (by omega)]; rfl, bal (bal (brf w) _) _⟩
end Go.Proofs.Ytdmmbhemmbgcpad
