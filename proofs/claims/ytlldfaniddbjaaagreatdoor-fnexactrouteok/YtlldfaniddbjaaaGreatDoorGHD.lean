/- What makes a placement right: the mathematics; tiles, hasPads, l15Pads. -/
import Derived.Test.YtlldfaniddbjaaaGreatDoorGC
import Derived.Test.YtlldfaniddbjaaaGreatDoorGGS2
import Derived.Test.YtlldfaniddbjaaaGreatDoorGBits
namespace Go.Proofs.YtlldfaniddbjaaaGreatDoor
open Go Go.RowKit Gs
set_option linter.unusedVariables false
set_option linter.unusedSimpArgs false
set_option maxRecDepth 100000
def padsB (H n0 n3 n4 : Nat) : Bool := decide (n0 ≤ H) && decide (n3 + n4 ≤ H)
/-- What PlaceOK answers, where the design's own answer is given. -/
def placeB (pk : Bool) (x0 x1 x2 x3 : Int) (n0 n2 n3 n4 : Nat) (xs : List Int) : Bool := pk && (chipB x0 x1 x2 x3 && (padsB (x1 * x3).toNat n0 n3 n4 && (decide (xs.length = n2) && insB (x0 * x1).toNat xs)))
theorem chip_parts {x0 x1 x2 x3 : Int} (h : chipB x0 x1 x2 x3 = true) : (1 ≤ x0 ∧ x0 ≤ 8) ∧ (1 ≤ x1 ∧ x1 ≤ 8) ∧ (1 ≤ x2 ∧ x2 ≤ 8) ∧ (1 ≤ x3 ∧ x3 ≤ 4) := by
  simp only [chipB, upTo, Bool.and_eq_true, decide_eq_true_eq] at h
  exact h
theorem mul_small {x y : Int} {m n : Nat} (hx : 1 ≤ x ∧ x ≤ m) (hy : 1 ≤ y ∧ y ≤ n) : ∃ T : Nat, x * y = (T : Int) ∧ T ≤ m * n ∧ 1 ≤ T := by
  obtain ⟨a, rfl⟩ : ∃ a : Nat, x = a := ⟨x.toNat, by omega⟩
  obtain ⟨b, rfl⟩ : ∃ b : Nat, y = b := ⟨y.toNat, by omega⟩
  refine ⟨a * b, by simp, Nat.mul_le_mul (by omega) (by omega), ?_⟩
  have : 1 * 1 ≤ a * b := Nat.mul_le_mul (by omega) (by omega)
  omega
theorem nodup_len : ∀ (n : Nat) (l : List Nat), l.Nodup → (∀ x ∈ l, x < n) → l.length ≤ n
  | 0, l, _, h => by
    cases l with
    | nil => simp
    | cons a l => exact absurd (h a (by simp)) (Nat.not_lt_zero _)
  | n + 1, l, hn, h => by
    have h1 := nodup_len n (l.erase n) (hn.erase n) (fun x hx => by
      have hm := (hn.mem_erase_iff).1 hx
      have := h x hm.2
      omega)
    by_cases hm : n ∈ l
    · rw [List.length_erase_of_mem hm] at h1; omega
    · rw [List.erase_of_not_mem hm] at h1; omega
theorem hasB_iff {xs : List Int} {x : Int} : hasB xs x = true ↔ x ∈ xs := by
  unfold hasB
  rw [List.any_eq_true]
  constructor
  · rintro ⟨y, hy, h⟩
    rw [decide_eq_true_eq] at h
    rw [h]; exact hy
  · intro h
    exact ⟨x, h, by simp⟩
theorem insB_nodup {n : Nat} {xs : List Int} (h : insB n xs = true) : (xs.map Int.toNat).Nodup := by
  have key : ∀ k, k ≤ xs.length → ((xs.take k).map Int.toNat).Nodup := by
    intro k
    induction k with
    | zero => intro _; simp
    | succ k ih =>
      intro hk
      have hx : xs[k]? = some xs[k] := List.getElem?_eq_getElem (by omega)
      have h1 := upB_at h (show k < xs.length by omega)
      rw [inAt_at hx] at h1
      rw [List.take_add_one, hx, List.map_append]
      simp only [Bool.and_eq_true, Bool.not_eq_true'] at h1
      refine List.nodup_append.2 ⟨ih (by omega), by simp, ?_⟩
      intro a ha b hb
      simp only [Option.toList_some, List.map_cons, List.map_nil, List.mem_singleton] at hb
      subst hb
      rintro rfl
      obtain ⟨y, hy, he⟩ := List.mem_map.1 ha
      have h2 := insB_mem h y (List.mem_of_mem_take hy)
      have h3 := insB_mem h xs[k] (List.getElem_mem _)
      have : y = xs[k] := by omega
      subst this
      rw [hasB_iff.2 hy] at h1
      cases h1.2
  have := key xs.length (Nat.le_refl _)
  rwa [List.take_of_length_le (Nat.le_refl _)] at this
/-- So many different places are no more than there are. -/
theorem insB_len {n : Nat} {xs : List Int} (h : insB n xs = true) : xs.length ≤ n := by
  have := nodup_len n (xs.map Int.toNat) (insB_nodup h) (fun x hx => by
    obtain ⟨y, hy, rfl⟩ := List.mem_map.1 hx
    have := insB_mem h y hy
    omega)
  rwa [List.length_map] at this
theorem iTiles (x0 x1 x2 x3 : Int) (T : Nat) (hT : T ≤ 64) (q : x0 * x1 = (T : Int)) (w : World) : Calls Tryz.prog 57 #[.agg #[.int .i64 x0, .int .i64 x1, .int .i64 x2, .int .i64 x3]] w fun e w' => e = .returned (.int .i64 (T : Int)) ∧ Below w.heap.size w w' := by
  go_enter Tryz.func57, Tryz.ntmps57
  go_wp2
  exact bodyPost_ret (v := .int .i64 (T : Int)) (by simp [results, Tryz.results57, go_sem]) rfl ⟨rfl, bal (brf w) _⟩
set_option maxHeartbeats 1600000 in
theorem iPads (s0 s1 s2 s3 s4 : Option Addr) (l0 l1 l2 l3 l4 c0 c1 c2 c3 c4 : Nat) (x0 x1 x2 x3 : Int) (H : Nat) (hH : H ≤ 32) (q : x1 * x3 = (H : Int)) (w : World) (h0 : l0 ≤ 1048576) (h3 : l3 ≤ 1048576) (h4 : l4 ≤ 1048576) :
    Calls Tryz.prog 55 #[.agg #[.slice s0 l0 c0, .slice s1 l1 c1, .slice s2 l2 c2, .slice s3 l3 c3, .slice s4 l4 c4, .int .i64 x0, .int .i64 x1, .int .i64 x2, .int .i64 x3]] w fun e w' => e = .returned (.bool (padsB H l0 l3 l4)) ∧ Below w.heap.size w w' := by
  obtain ⟨M, hM⟩ : ∃ M : Nat, l3 + l4 = M := ⟨_, rfl⟩
  have q2 : (l3 : Int) + (l4 : Int) = (M : Int) := by omega
  have HR : Hid (padsB H l0 l3 l4 = (decide (l0 ≤ H) && decide (M ≤ H))) := hide (by unfold padsB; rw [hM])
  have hMb : M ≤ 4194304 := by omega
  generalize padsB H l0 l3 l4 = RR at *
  clear hM
  by_cases g0 : (l0 : Int) ≤ (H : Int)
  · go_enter Tryz.func55, Tryz.ntmps55
    go_wp2
    exact bodyPost_ret (v := .bool (decide ((M : Int) ≤ (H : Int)))) (by simp [results, Tryz.results55, go_sem]) rfl ⟨by rw [unhide HR, decide_eq_true (p := l0 ≤ H) (by omega), show decide ((M : Int) ≤ (H : Int)) = decide (M ≤ H) from decide_eq_decide.2 (by omega)]; rfl, bal (brf w) _⟩
  · go_enter Tryz.func55, Tryz.ntmps55
    go_wp2
    exact bodyPost_ret (v := .bool false) (by simp [results, Tryz.results55, go_sem]) rfl ⟨by rw [unhide HR, decide_eq_false (p := l0 ≤ H) (by omega)]; rfl, bal (brf w) _⟩
set_option maxHeartbeats 1600000 in
theorem sPads (s0 s1 s2 s3 s4 : Option Addr) (l0 l1 l2 l3 l4 c0 c1 c2 c3 c4 : Nat) (x0 x1 x2 x3 : Int) (H : Nat) (hH : H ≤ 32) (q : x1 * x3 = (H : Int)) (w : World) (h0 : l0 ≤ 1048576) (h3 : l3 ≤ 1048576) (h4 : l4 ≤ 1048576) :
    Calls Tryz.prog 46 #[.agg #[.slice s0 l0 c0, .slice s1 l1 c1, .slice s2 l2 c2, .slice s3 l3 c3, .slice s4 l4 c4], .agg #[.int .i64 x0, .int .i64 x1, .int .i64 x2, .int .i64 x3]] w fun e w' => e = .returned (.bool (padsB H l0 l3 l4)) ∧ Below w.heap.size w w' := by
  obtain ⟨M, hM⟩ : ∃ M : Nat, l3 + l4 = M := ⟨_, rfl⟩
  have q2 : (l3 : Int) + (l4 : Int) = (M : Int) := by omega
  have HR : Hid (padsB H l0 l3 l4 = (decide (l0 ≤ H) && decide (M ≤ H))) := hide (by unfold padsB; rw [hM])
  have hMb : M ≤ 4194304 := by omega
  generalize padsB H l0 l3 l4 = RR at *
  clear hM
  by_cases g0 : (l0 : Int) ≤ (H : Int)
  · go_enter Tryz.func46, Tryz.ntmps46
    go_wp2
    exact bodyPost_ret (v := .bool (decide ((M : Int) ≤ (H : Int)))) (by simp [results, Tryz.results46, go_sem]) rfl ⟨by rw [unhide HR, decide_eq_true (p := l0 ≤ H) (by omega), show decide ((M : Int) ≤ (H : Int)) = decide (M ≤ H) from decide_eq_decide.2 (by omega)]; rfl, bal (bal (brf w) _) _⟩
  · go_enter Tryz.func46, Tryz.ntmps46
    go_wp2
    exact bodyPost_ret (v := .bool false) (by simp [results, Tryz.results46, go_sem]) rfl ⟨by rw [unhide HR, decide_eq_false (p := l0 ≤ H) (by omega)]; rfl, bal (bal (brf w) _) _⟩
end Go.Proofs.YtlldfaniddbjaaaGreatDoor
namespace Go.Proofs.YtlldfaniddbjaaaGreatDoor
open Go Go.RowKit Gs
set_option linter.unusedVariables false
set_option linter.unusedSimpArgs false
set_option maxRecDepth 100000
/-- Whether there is such a wire. -/
def thereB (W H T : Nat) (x y d t : Int) : Bool :=
  if y < 0 then false else if (H : Int) ≤ y then false else if t < 0 then false else if (T : Int) ≤ t then false else if (W : Int) ≤ x then false else
  if d = 0 then decide (-1 ≤ x) else if d = 1 then decide (0 ≤ x) && decide (y < (H : Int) - 1) else if d = 2 then decide (1 ≤ x) else if d = 3 then decide (0 ≤ x) && decide (1 ≤ y) else false
def endX (x d : Int) : Int := if d = 0 then x + 1 else if d = 1 then x else if d = 2 then x - 1 else x
def endY (y d : Int) : Int := if d = 0 then y else if d = 1 then y + 1 else if d = 2 then y else y - 1
def numW (W T : Nat) (x y d t : Int) : Int := ((y * ((W : Int) + 1) + x + 1) * 4 + d) * (T : Int) + t
theorem there_parts {W H T : Nat} {x y d t : Int} (h : thereB W H T x y d t = true) : (0 ≤ y ∧ y < H) ∧ (0 ≤ t ∧ t < T) ∧ (-1 ≤ x ∧ x < W) ∧ (0 ≤ d ∧ d ≤ 3) ∧ (d ≠ 0 → 0 ≤ x) ∧ (d = 1 → y + 1 < H) ∧ (d = 2 → 1 ≤ x) ∧ (d = 3 → 1 ≤ y) := by
  unfold thereB at h
  split at h
  · cases h
  split at h
  · cases h
  split at h
  · cases h
  split at h
  · cases h
  split at h
  · cases h
  split at h
  · rw [decide_eq_true_eq] at h; omega
  split at h
  · rw [Bool.and_eq_true, decide_eq_true_eq, decide_eq_true_eq] at h; omega
  split at h
  · rw [decide_eq_true_eq] at h; omega
  split at h
  · rw [Bool.and_eq_true, decide_eq_true_eq, decide_eq_true_eq] at h; omega
  · cases h
/-- Digits tell a number. -/
theorem dig {T a b c d : Int} (hb : 0 ≤ b ∧ b < T) (hd : 0 ≤ d ∧ d < T) (h : a * T + b = c * T + d) : a = c ∧ b = d := by
  have h1 : (a * T + b) / T = a := by rw [Int.add_comm, Int.add_mul_ediv_right _ _ (by omega), Int.ediv_eq_zero_of_lt hb.1 hb.2, Int.zero_add]
  have h2 : (c * T + d) / T = c := by rw [Int.add_comm, Int.add_mul_ediv_right _ _ (by omega), Int.ediv_eq_zero_of_lt hd.1 hd.2, Int.zero_add]
  have : a = c := by rw [← h1, h, h2]
  subst this
  exact ⟨rfl, by omega⟩
theorem numW_inj {W H T : Nat} {x y d t x' y' d' t' : Int} (h : thereB W H T x y d t = true) (h' : thereB W H T x' y' d' t' = true) (e : numW W T x y d t = numW W T x' y' d' t') : x = x' ∧ y = y' ∧ d = d' ∧ t = t' := by
  obtain ⟨hy, ht, hx, hd, _⟩ := there_parts h
  obtain ⟨hy', ht', hx', hd', _⟩ := there_parts h'
  unfold numW at e
  obtain ⟨e1, e2⟩ := dig ht ht' e
  obtain ⟨e3, e4⟩ := dig (T := 4) (by omega) (by omega) e1
  obtain ⟨e5, e6⟩ := dig (T := (W : Int) + 1) (a := y) (b := x + 1) (c := y') (d := x' + 1) (by omega) (by omega) (by omega)
  exact ⟨by omega, e5, e4, e2⟩
theorem numW_lt {W H T : Nat} {x y d t : Int} (h : thereB W H T x y d t = true) : 0 ≤ numW W T x y d t ∧ numW W T x y d t < ((H * (W + 1) * 4 * T : Nat) : Int) := by
  obtain ⟨hy, ht, hx, hd, _⟩ := there_parts h
  obtain ⟨yy, rfl⟩ : ∃ k : Nat, y = k := ⟨y.toNat, by omega⟩
  obtain ⟨tt, rfl⟩ : ∃ k : Nat, t = k := ⟨t.toNat, by omega⟩
  obtain ⟨xx, hxx⟩ : ∃ k : Nat, x + 1 = k := ⟨(x + 1).toNat, by omega⟩
  obtain ⟨dd, rfl⟩ : ∃ k : Nat, d = k := ⟨d.toNat, by omega⟩
  have e : numW W T x yy dd tt = ((((yy * (W + 1) + xx) * 4 + dd) * T + tt : Nat) : Int) := by
    unfold numW
    rw [Int.add_assoc, hxx]
    simp
  rw [e]
  refine ⟨by omega, Int.ofNat_lt.2 ?_⟩
  have h1 : (yy + 1) * (W + 1) ≤ H * (W + 1) := Nat.mul_le_mul_right _ (by omega)
  rw [Nat.add_mul, Nat.one_mul] at h1
  have h2 : (yy * (W + 1) + xx + 1) * 4 ≤ H * (W + 1) * 4 := Nat.mul_le_mul_right _ (by omega)
  have h3 : ((yy * (W + 1) + xx) * 4 + dd + 1) * T ≤ H * (W + 1) * 4 * T := Nat.mul_le_mul_right _ (by omega)
  rw [Nat.add_mul, Nat.one_mul] at h3
  omega
/-- Where a tile lies. -/
def tileP (W : Nat) (n : Int) : Int × Int := (n % (W : Int), n / (W : Int))
/-- Where a source stands. -/
def fromP (nI W H : Nat) (ts : List Int) (s : Nat) : Int × Int := if s < nI then (-1, (s : Int) % (H : Int)) else tileP W (ts.getD (s - nI) 0)
end Go.Proofs.YtlldfaniddbjaaaGreatDoor
namespace Go.Proofs.YtlldfaniddbjaaaGreatDoor
open Go Go.RowKit Gs
set_option linter.unusedVariables false
set_option linter.unusedSimpArgs false
set_option maxRecDepth 100000
set_option maxHeartbeats 3200000
theorem sHop (x y d t f : Int) (w : World) : Calls Tryz.prog 22 #[.agg #[.int .i64 x, .int .i64 y, .int .i64 d, .int .i64 t, .int .i64 f]] w fun e w' => e = .returned (.agg #[.int .i64 x, .int .i64 y, .int .i64 d, .int .i64 t]) ∧ Below w.heap.size w w' := by
  go_enter Tryz.func22, Tryz.ntmps22
  go_wp2
  refine bodyPost_ret (v := .agg #[.int .i64 x, .int .i64 y, .int .i64 d, .int .i64 t]) (by simp [results, Tryz.results22, go_sem]) rfl ⟨rfl, ?_⟩
  repeat first | exact brf _ | refine bal ?_ _ | refine bst ?_ (by simp) _
theorem sEnd0 (x y d t : Int) (w : World) (hd : d = 0) (hb : -9 ≤ x ∧ x ≤ 9) : Calls Tryz.prog 25 #[.agg #[.int .i64 x, .int .i64 y, .int .i64 d, .int .i64 t]] w fun e w' => e = .returned (.agg #[.int .i64 (x + 1), .int .i64 y]) ∧ Below w.heap.size w w' := by
  subst hd
  go_enter Tryz.func25, Tryz.ntmps25
  go_wp2
  refine bodyPost_ret (v := .agg #[.int .i64 (x + 1), .int .i64 y]) (by simp [results, Tryz.results25, go_sem]) rfl ⟨rfl, ?_⟩
  repeat first | exact brf _ | refine bal ?_ _ | refine bst ?_ (by simp) _
theorem sNumber (W H T P : Nat) (x y d t : Int) (w : World) (h : thereB W H T x y d t = true) (hW : W ≤ 8) (hH : H ≤ 8) (hT : T ≤ 8) : Calls Tryz.prog 24 #[.agg #[.int .i64 (W : Int), .int .i64 (H : Int), .int .i64 (T : Int), .int .i64 (P : Int)], .agg #[.int .i64 x, .int .i64 y, .int .i64 d, .int .i64 t]] w fun e w' => e = .returned (.int .i64 (numW W T x y d t)) ∧ Below w.heap.size w w' := by
  obtain ⟨hy, ht, hx, hd, _⟩ := there_parts h
  obtain ⟨A, hA⟩ : ∃ A, y * ((W : Int) + 1) = A := ⟨_, rfl⟩
  have hA0 : 0 ≤ A := by rw [← hA]; exact Int.mul_nonneg hy.1 (by omega)
  have hA1 : A ≤ 8 * 9 := by rw [← hA]; exact Int.mul_le_mul (by omega) (by omega) (by omega) (by omega)
  obtain ⟨B, hB⟩ : ∃ B, ((A + x + 1) * 4 + d) * (T : Int) = B := ⟨_, rfl⟩
  have hB0 : 0 ≤ B := by rw [← hB]; exact Int.mul_nonneg (by omega) (by omega)
  have hB1 : B ≤ 400 * 8 := by rw [← hB]; exact Int.mul_le_mul (by omega) (by omega) (by omega) (by omega)
  have HR : Hid (numW W T x y d t = B + t) := hide (by unfold numW; rw [hA, hB])
  generalize numW W T x y d t = R at *
  clear h
  go_enter Tryz.func24, Tryz.ntmps24
  go_wp2
  exact bodyPost_ret (v := .int .i64 (B + t)) (by simp [results, Tryz.results24, go_sem]) rfl ⟨by rw [unhide HR], bal (bal (brf w) _) _⟩
end Go.Proofs.YtlldfaniddbjaaaGreatDoor
namespace Go.Proofs.YtlldfaniddbjaaaGreatDoor
open Go Go.RowKit Gs
set_option linter.unusedVariables false
set_option linter.unusedSimpArgs false
set_option maxRecDepth 100000
set_option maxHeartbeats 3200000
theorem sThere (W H T P : Nat) (x y d t : Int) (w : World) (hW : W ≤ 8) (hH : H ≤ 8) (hT : T ≤ 8) : Calls Tryz.prog 23 #[.agg #[.int .i64 (W : Int), .int .i64 (H : Int), .int .i64 (T : Int), .int .i64 (P : Int)], .agg #[.int .i64 x, .int .i64 y, .int .i64 d, .int .i64 t]] w fun e w' => e = .returned (.bool (thereB W H T x y d t)) ∧ Below w.heap.size w w' := by
  have HR : Hid (thereB W H T x y d t = if y < 0 then false else if (H : Int) ≤ y then false else if t < 0 then false else if (T : Int) ≤ t then false else if (W : Int) ≤ x then false else
  if d = 0 then decide (-1 ≤ x) else if d = 1 then decide (0 ≤ x) && decide (y < (H : Int) - 1) else if d = 2 then decide (1 ≤ x) else if d = 3 then decide (0 ≤ x) && decide (1 ≤ y) else false) := hide rfl
  generalize thereB W H T x y d t = RR at *
  by_cases g0 : y < 0
  · have HV : Hid (RR = (false)) := hide (by rw [unhide HR, if_pos g0])
    clear HR
    go_enter Tryz.func23, Tryz.ntmps23
    go_wp2
    exact bodyPost_ret (v := .bool (false)) (by simp [results, Tryz.results23, go_sem]) rfl ⟨by rw [unhide HV], bal (bal (brf w) _) _⟩
  ·
    by_cases g1 : (H : Int) ≤ y
    · have HV : Hid (RR = (false)) := hide (by rw [unhide HR, if_neg g0, if_pos g1])
      clear HR
      go_enter Tryz.func23, Tryz.ntmps23
      go_wp2
      exact bodyPost_ret (v := .bool (false)) (by simp [results, Tryz.results23, go_sem]) rfl ⟨by rw [unhide HV], bal (bal (brf w) _) _⟩
    ·
      by_cases g2 : t < 0
      · have HV : Hid (RR = (false)) := hide (by rw [unhide HR, if_neg g0, if_neg g1, if_pos g2])
        clear HR
        go_enter Tryz.func23, Tryz.ntmps23
        go_wp2
        exact bodyPost_ret (v := .bool (false)) (by simp [results, Tryz.results23, go_sem]) rfl ⟨by rw [unhide HV], bal (bal (brf w) _) _⟩
      ·
        by_cases g3 : (T : Int) ≤ t
        · have HV : Hid (RR = (false)) := hide (by rw [unhide HR, if_neg g0, if_neg g1, if_neg g2, if_pos g3])
          clear HR
          go_enter Tryz.func23, Tryz.ntmps23
          go_wp2
          exact bodyPost_ret (v := .bool (false)) (by simp [results, Tryz.results23, go_sem]) rfl ⟨by rw [unhide HV], bal (bal (brf w) _) _⟩
        ·
          by_cases g4 : (W : Int) ≤ x
          · have HV : Hid (RR = (false)) := hide (by rw [unhide HR, if_neg g0, if_neg g1, if_neg g2, if_neg g3, if_pos g4])
            clear HR
            go_enter Tryz.func23, Tryz.ntmps23
            go_wp2
            exact bodyPost_ret (v := .bool (false)) (by simp [results, Tryz.results23, go_sem]) rfl ⟨by rw [unhide HV], bal (bal (brf w) _) _⟩
          ·
            by_cases k0 : d = 0
            · have HV : Hid (RR = (decide (-1 ≤ x))) := hide (by rw [unhide HR, if_neg g0, if_neg g1, if_neg g2, if_neg g3, if_neg g4, if_pos k0])
              clear HR
              go_enter Tryz.func23, Tryz.ntmps23
              go_wp2
              exact bodyPost_ret (v := .bool (decide (-1 ≤ x))) (by simp [results, Tryz.results23, go_sem]) rfl ⟨by rw [unhide HV], bal (bal (brf w) _) _⟩
            ·
              by_cases k1 : d = 1
              · by_cases m : (0 : Int) ≤ x
                · have HV : Hid (RR = (decide (y < (H : Int) - 1))) := hide (by rw [unhide HR, if_neg g0, if_neg g1, if_neg g2, if_neg g3, if_neg g4, if_neg k0, if_pos k1, decide_eq_true m, Bool.true_and])
                  clear HR
                  go_enter Tryz.func23, Tryz.ntmps23
                  go_wp2
                  exact bodyPost_ret (v := .bool (decide (y < (H : Int) - 1))) (by simp [results, Tryz.results23, go_sem]) rfl ⟨by rw [unhide HV], bal (bal (brf w) _) _⟩
                · have HV : Hid (RR = (false)) := hide (by rw [unhide HR, if_neg g0, if_neg g1, if_neg g2, if_neg g3, if_neg g4, if_neg k0, if_pos k1, decide_eq_false m, Bool.false_and])
                  clear HR
                  go_enter Tryz.func23, Tryz.ntmps23
                  go_wp2
                  exact bodyPost_ret (v := .bool (false)) (by simp [results, Tryz.results23, go_sem]) rfl ⟨by rw [unhide HV], bal (bal (brf w) _) _⟩
              ·
                by_cases k2 : d = 2
                · have HV : Hid (RR = (decide (1 ≤ x))) := hide (by rw [unhide HR, if_neg g0, if_neg g1, if_neg g2, if_neg g3, if_neg g4, if_neg k0, if_neg k1, if_pos k2])
                  clear HR
                  go_enter Tryz.func23, Tryz.ntmps23
                  go_wp2
                  exact bodyPost_ret (v := .bool (decide (1 ≤ x))) (by simp [results, Tryz.results23, go_sem]) rfl ⟨by rw [unhide HV], bal (bal (brf w) _) _⟩
                ·
                  by_cases k3 : d = 3
                  · by_cases m : (0 : Int) ≤ x
                    · have HV : Hid (RR = (decide (1 ≤ y))) := hide (by rw [unhide HR, if_neg g0, if_neg g1, if_neg g2, if_neg g3, if_neg g4, if_neg k0, if_neg k1, if_neg k2, if_pos k3, decide_eq_true m, Bool.true_and])
                      clear HR
                      go_enter Tryz.func23, Tryz.ntmps23
                      go_wp2
                      exact bodyPost_ret (v := .bool (decide (1 ≤ y))) (by simp [results, Tryz.results23, go_sem]) rfl ⟨by rw [unhide HV], bal (bal (brf w) _) _⟩
                    · have HV : Hid (RR = (false)) := hide (by rw [unhide HR, if_neg g0, if_neg g1, if_neg g2, if_neg g3, if_neg g4, if_neg k0, if_neg k1, if_neg k2, if_pos k3, decide_eq_false m, Bool.false_and])
                      clear HR
                      go_enter Tryz.func23, Tryz.ntmps23
                      go_wp2
                      exact bodyPost_ret (v := .bool (false)) (by simp [results, Tryz.results23, go_sem]) rfl ⟨by rw [unhide HV], bal (bal (brf w) _) _⟩
                  ·
                    have HV : Hid (RR = (false)) := hide (by rw [unhide HR, if_neg g0, if_neg g1, if_neg g2, if_neg g3, if_neg g4, if_neg k0, if_neg k1, if_neg k2, if_neg k3])
                    clear HR
                    go_enter Tryz.func23, Tryz.ntmps23
                    go_wp2
                    exact bodyPost_ret (v := .bool (false)) (by simp [results, Tryz.results23, go_sem]) rfl ⟨by rw [unhide HV], bal (bal (brf w) _) _⟩
theorem sEnd (x y d t : Int) (w : World) (hb : -9 ≤ x ∧ x ≤ 9) (hy : -9 ≤ y ∧ y ≤ 9) : Calls Tryz.prog 25 #[.agg #[.int .i64 x, .int .i64 y, .int .i64 d, .int .i64 t]] w fun e w' => e = .returned (.agg #[.int .i64 (endX x d), .int .i64 (endY y d)]) ∧ Below w.heap.size w w' := by
  have HX : Hid (endX x d = if d = 0 then x + 1 else if d = 1 then x else if d = 2 then x - 1 else x) := hide rfl
  have HY : Hid (endY y d = if d = 0 then y else if d = 1 then y + 1 else if d = 2 then y else y - 1) := hide rfl
  generalize endX x d = X at *
  generalize endY y d = Y at *
  by_cases k0 : d = 0
  · have HV : Hid (X = x + 1 ∧ Y = y) := hide ⟨by rw [unhide HX, if_pos k0], by rw [unhide HY, if_pos k0]⟩
    clear HX HY
    go_enter Tryz.func25, Tryz.ntmps25
    go_wp2
    refine bodyPost_ret (v := .agg #[.int .i64 (x + 1), .int .i64 (y)]) (by simp [results, Tryz.results25, go_sem]) rfl ⟨by rw [(unhide HV).1, (unhide HV).2], ?_⟩
    repeat first | exact brf _ | refine bal ?_ _ | refine bst ?_ (by simp) _
  ·
    by_cases k1 : d = 1
    · have HV : Hid (X = x ∧ Y = y + 1) := hide ⟨by rw [unhide HX, if_neg k0, if_pos k1], by rw [unhide HY, if_neg k0, if_pos k1]⟩
      clear HX HY
      go_enter Tryz.func25, Tryz.ntmps25
      go_wp2
      refine bodyPost_ret (v := .agg #[.int .i64 (x), .int .i64 (y + 1)]) (by simp [results, Tryz.results25, go_sem]) rfl ⟨by rw [(unhide HV).1, (unhide HV).2], ?_⟩
      repeat first | exact brf _ | refine bal ?_ _ | refine bst ?_ (by simp) _
    ·
      by_cases k2 : d = 2
      · have HV : Hid (X = x - 1 ∧ Y = y) := hide ⟨by rw [unhide HX, if_neg k0, if_neg k1, if_pos k2], by rw [unhide HY, if_neg k0, if_neg k1, if_pos k2]⟩
        clear HX HY
        go_enter Tryz.func25, Tryz.ntmps25
        go_wp2
        refine bodyPost_ret (v := .agg #[.int .i64 (x - 1), .int .i64 (y)]) (by simp [results, Tryz.results25, go_sem]) rfl ⟨by rw [(unhide HV).1, (unhide HV).2], ?_⟩
        repeat first | exact brf _ | refine bal ?_ _ | refine bst ?_ (by simp) _
      ·
        have HV : Hid (X = x ∧ Y = y - 1) := hide ⟨by rw [unhide HX, if_neg k0, if_neg k1, if_neg k2], by rw [unhide HY, if_neg k0, if_neg k1, if_neg k2]⟩
        clear HX HY
        go_enter Tryz.func25, Tryz.ntmps25
        go_wp2
        refine bodyPost_ret (v := .agg #[.int .i64 (x), .int .i64 (y - 1)]) (by simp [results, Tryz.results25, go_sem]) rfl ⟨by rw [(unhide HV).1, (unhide HV).2], ?_⟩
        repeat first | exact brf _ | refine bal ?_ _ | refine bst ?_ (by simp) _
theorem sCount (W H T P : Nat) (w : World) (hW : W ≤ 8) (hH : H ≤ 8) (hT : T ≤ 8) : ∃ n : Nat, n = H * (W + 1) * 4 * T ∧ n ≤ 2304 ∧ Calls Tryz.prog 20 #[.agg #[.int .i64 (W : Int), .int .i64 (H : Int), .int .i64 (T : Int), .int .i64 (P : Int)]] w fun e w' => e = .returned (.int .i64 (n : Int)) ∧ Below w.heap.size w w' := by
  obtain ⟨A, hA⟩ : ∃ A : Nat, H * (W + 1) = A := ⟨_, rfl⟩
  have hA1 : A ≤ 8 * 9 := by rw [← hA]; exact Nat.mul_le_mul (by omega) (by omega)
  obtain ⟨B, hB⟩ : ∃ B : Nat, A * 4 * T = B := ⟨_, rfl⟩
  have hB1 : B ≤ 288 * 8 := by rw [← hB]; exact Nat.mul_le_mul (by omega) (by omega)
  have qA : (H : Int) * ((W : Int) + 1) = (A : Int) := by rw [← hA]; simp
  have qB : (A : Int) * 4 * (T : Int) = (B : Int) := by rw [← hB]; simp
  refine ⟨B, by rw [hA, hB], by omega, ?_⟩
  clear hA hB
  go_enter Tryz.func20, Tryz.ntmps20
  go_wp2
  exact bodyPost_ret (v := .int .i64 (B : Int)) (by simp [results, Tryz.results20, go_sem]) rfl ⟨rfl, bal (brf w) _⟩
theorem sTile (W H T P : Nat) (n : Int) (w : World) (hW : W ≤ 8) (hW1 : 1 ≤ W) (hn : 0 ≤ n ∧ n ≤ 64) : Calls Tryz.prog 47 #[.agg #[.int .i64 (W : Int), .int .i64 (H : Int), .int .i64 (T : Int), .int .i64 (P : Int)], .int .i64 n] w fun e w' => e = .returned (.agg #[.int .i64 (tileP W n).1, .int .i64 (tileP W n).2]) ∧ Below w.heap.size w w' := by
  obtain ⟨a, ha⟩ : ∃ a, n % (W : Int) = a := ⟨_, rfl⟩
  obtain ⟨b, hb⟩ : ∃ b, n / (W : Int) = b := ⟨_, rfl⟩
  have e1 : Int.tmod n (W : Int) = a := by rw [Int.tmod_eq_emod_of_nonneg hn.1, ha]
  have e2 : Int.tdiv n (W : Int) = b := by rw [Int.tdiv_eq_ediv_of_nonneg hn.1, hb]
  have a0 : 0 ≤ a := by rw [← ha]; exact Int.emod_nonneg _ (by omega)
  have a1 : a < (W : Int) := by rw [← ha]; exact Int.emod_lt_of_pos _ (by omega)
  have b0 : 0 ≤ b := by rw [← hb]; exact Int.ediv_nonneg hn.1 (by omega)
  have b1 : b ≤ 64 := by rw [← hb]; exact Int.le_trans (Int.ediv_le_self _ hn.1) hn.2
  have HT : Hid (tileP W n = (a, b)) := hide (by unfold tileP; rw [ha, hb])
  rw [unhide HT]
  clear ha hb
  have hz : (W : Int) ≠ 0 := by omega
  show Calls Tryz.prog 47 #[.agg #[.int .i64 (W : Int), .int .i64 (H : Int), .int .i64 (T : Int), .int .i64 (P : Int)], .int .i64 n] w fun e w' => e = .returned (.agg #[.int .i64 a, .int .i64 b]) ∧ Below w.heap.size w w'
  go_enter Tryz.func47, Tryz.ntmps47
  go_wp2
  go_region
  all_goals (go_wp2; refine bodyPost_ret (v := .agg #[.int .i64 a, .int .i64 b]) (by simp [results, Tryz.results47, go_sem]) rfl ⟨rfl, ?_⟩; repeat first | exact brf _ | exact bdr (brf _) | refine bal ?_ _ | refine bst ?_ (by simp) _ | refine bdr ?_)
end Go.Proofs.YtlldfaniddbjaaaGreatDoor
namespace Go.Proofs.YtlldfaniddbjaaaGreatDoor
open Go.RowKit Gs
set_option linter.unusedVariables false
set_option maxRecDepth 100000
structure Hop where
  x : Int
  y : Int
  d : Int
  t : Int
  f : Int
def RHop : Rd Hop := fun W B x u => u = [.int .i64 x.x, .int .i64 x.y, .int .i64 x.d, .int .i64 x.t, .int .i64 x.f]
theorem RHop.keeps : Keeps RHop := by
  rintro W W' B x u h hu
  exact hu
theorem RHop.lowers : Lowers RHop := by
  rintro W B B' x u h hu
  exact hu
def szHop (x : Hop) : Nat := 0
def RHopS : Rd (List Hop) := RL 5 RHop
theorem RHopS.keeps : Keeps RHopS := RL.keeps RHop.keeps
theorem RHopS.lowers : Lowers RHopS := RL.lowers RHop.lowers
def szHopS (x : List Hop) : Nat := szL szHop x
end Go.Proofs.YtlldfaniddbjaaaGreatDoor
