/- Marks of lists of lists of numbers. -/
import Derived.Test.YtonfbnbkhpabbaaV12
namespace Go.Proofs.Ytonfbnbkhpabbaa
open Go Go.RowKit Gs
set_option linter.unusedVariables false
set_option linter.unusedSimpArgs false
set_option maxRecDepth 100000
def Small (xs : List (List Int)) : Prop := ∀ x ∈ xs, x.length ≤ 4001
theorem iC_read {W : World} {b B : Nat} {x : List Int} (h : W.heap[b]? = some (.cells (iC x) 3)) (hB : B ≤ b) (hl : x.length ≤ maxLen) : RS 1 RInt W B x (.slice (some ⟨b, 0, none⟩) x.length x.length) := by
  refine ⟨_, _, rfl, Nat.le_refl _, hl, fun _ => ⟨b, 0, rfl, hB, fun i z hz => ⟨[.int .i64 z], rfl, fun j y hj => ?_, rfl⟩⟩⟩
  have hj0 : j = 0 := by
    cases j with
    | zero => rfl
    | succ j => simp at hj
  subst hj0
  simp at hj
  subst hj
  simpa using iC_cell h hz
/-- A list of lists in a row of one's own. -/
def CP (B E : Nat) (W : World) (v : Value) (xs : List (List Int)) : Prop := E ≤ W.heap.size ∧ ∃ vs, W.ownsRow B 24 1 v xs.length vs ∧ RI W B E xs vs
theorem CP.later {B E : Nat} {v : Value} {xs : List (List Int)} {W W' : World} (h : CP B E W v xs) (hb : Below W.heap.size W W') : CP B E W' v xs := by
  obtain ⟨h0, vs, h1, h2⟩ := h
  refine ⟨Nat.le_trans h0 hb.size, vs, ownsRow_keep h1 (fun g o _ hc => (hb.block g (Array.getElem?_eq_some_iff.1 hc).1).trans hc), RI.keep xs vs (fun b o _ _ hc => (hb.block b (Array.getElem?_eq_some_iff.1 hc).1).trans hc) h2⟩
theorem CP.shape {B E : Nat} {v : Value} {xs : List (List Int)} {W : World} (h : CP B E W v xs) : ∃ a c, v = .slice a xs.length c := by
  obtain ⟨_, vs, ⟨_, ⟨hv, hn⟩ | ⟨g, cap, cur, hv, _⟩⟩, _⟩ := h
  · exact ⟨none, 0, by rw [hv, hn]⟩
  · exact ⟨_, _, hv⟩
theorem CP.row {B E : Nat} {v : Value} {xs : List (List Int)} {W : World} (h : CP B E W v xs) : ∀ j, v.ownBlock = some j → B ≤ j := by
  obtain ⟨_, vs, h1, _⟩ := h
  exact fun j hj => (World.ownsRow.lt h1 j hj).1
theorem CP.read {B E : Nat} {v : Value} {xs : List (List Int)} {W : World} (h : CP B E W v xs) (hl : xs.length ≤ maxLen) (hs : Small xs) : RS 1 RIntS W B xs v := by
  obtain ⟨h0, vs, h1, h2⟩ := h
  have hc := fun g hg => World.ownsRow.cells h1 (g := g) hg
  rcases h1.2 with ⟨rfl, hn⟩ | ⟨g, cap, cur, rfl, hb, hg, hlc, hm, _⟩
  · have : xs = [] := List.length_eq_zero_iff.1 hn
    subst this
    exact RS.nil _ _ _ _ _ _
  · refine ⟨_, _, rfl, hlc, hl, fun _ => ⟨g, 0, rfl, hb, fun i x hx => ?_⟩⟩
    obtain ⟨b, q1, q2, q3, q4⟩ := RI.at xs vs h2 i x hx
    have hxl := hs x (List.mem_of_getElem? hx)
    refine ⟨[.slice (some ⟨b, 0, none⟩) x.length x.length], rfl, fun j y hj => ?_, _, rfl, iC_read q4 q2 (by unfold maxLen; omega)⟩
    have hj0 : j = 0 := by
      cases j with
      | zero => rfl
      | succ j => simp at hj
    subst hj0
    simp at hj
    subst hj
    have := hc g rfl i _ q1
    rw [Addr.add_lit] at this
    simpa using this
/-- So many numbers from k on. -/
def mkI (k : Nat) : Nat → List Int
  | 0 => []
  | n + 1 => (k : Int) :: mkI (k + 1) n
theorem mkI_len : ∀ (n k : Nat), (mkI k n).length = n
  | 0, _ => rfl
  | n + 1, k => by simp [mkI, mkI_len n]
theorem mkI_get : ∀ (n k i : Nat), i < n → (mkI k n)[i]? = some ((k + i : Nat) : Int)
  | 0, _, _, h => absurd h (Nat.not_lt_zero _)
  | n + 1, k, 0, _ => by simp [mkI]
  | n + 1, k, i + 1, h => by
    have := mkI_get n (k + 1) i (by omega)
    simp only [mkI, List.getElem?_cons_succ, this]
    congr 2; omega
theorem mkI_snoc : ∀ (n k : Nat), mkI k (n + 1) = mkI k n ++ [((k + n : Nat) : Int)]
  | 0, k => by simp [mkI]
  | n + 1, k => by
    rw [mkI, mkI_snoc n (k + 1), mkI]
    simp; omega
/-- Only one block was written. -/
structure Only (b : Nat) (W V : World) : Prop where
  os : V.os = W.os
  tape : V.tape = W.tape
  output : V.output = W.output
  size : V.heap.size = W.heap.size
  block : ∀ k, k ≠ b → V.heap[k]? = W.heap[k]?
theorem Only.refl (b : Nat) (W : World) : Only b W W := ⟨rfl, rfl, rfl, rfl, fun _ _ => rfl⟩
theorem Only.set {b : Nat} {W V : World} (h : Only b W V) (i : Nat) (v : Value) : Only b W (V.setCell ⟨b, i, none⟩ v) :=
  ⟨h.os, h.tape, h.output, by simpa using h.size, fun k hk => (Below.heap_setCell V ⟨b, i, none⟩ v k hk).trans (h.block k hk)⟩
theorem Only.below {b B : Nat} {w W V : World} (h : Below B w W) (k : Only b W V) (hb : B ≤ b) : Below B w V :=
  ⟨k.os.trans h.os, k.tape.trans h.tape, k.output.trans h.output, by rw [k.size]; exact h.size, fun i hi => (k.block i (by omega)).trans (h.block i hi)⟩
set_option maxHeartbeats 3200000 in
theorem markRow (x : List Int) (b k : Nat) (W : World) (hl : x.length ≤ 4001) (hk : k ≤ 40000000) (h : W.heap[b]? = some (.cells (iC x) 3)) :
    Calls Try.prog 23 #[.slice (some ⟨b, 0, none⟩) x.length x.length, .int .i64 (k : Int)] W fun e V => e = .returned (.int .i64 ((k + x.length : Nat) : Int)) ∧ V.heap[b]? = some (.cells (iC (mkI k x.length)) 3) ∧ Only b W V := by
  obtain ⟨n, hn⟩ : ∃ n, n = x.length := ⟨_, rfl⟩
  rw [← hn] at hl ⊢
  have H := hide h
  clear h
  go_enter Try.func23, Try.ntmps23
  go_wp2
  go_loopw [1, 5] (fun z i wr => ∃ j : Nat, j ≤ n ∧ i = .int .i64 (j : Int) ∧ z = .int .i64 ((k + j : Nat) : Int) ∧ wr.heap[b]? = some (.cells (iC (mkI k j ++ x.drop j)) 3) ∧ Only b W wr) (fun z i wr => n - (intOf i).toNat)
  case atStart => exact ⟨0, Nat.zero_le _, rfl, by simp, by simpa [mkI] using unhide H, Only.refl _ _⟩
  case round =>
    obtain ⟨j, hj, rfl, rfl, hh, ho⟩ := hrel
    by_cases hlt : j < n
    · have hget : (mkI k j ++ x.drop j)[j]? = some x[j] := by
        rw [List.getElem?_append_right (by rw [mkI_len]; omega), mkI_len, Nat.sub_self, List.getElem?_drop, Nat.add_zero, List.getElem?_eq_getElem (by omega)]
      have hset : (mkI k j ++ x.drop j).set j ((k + j : Nat) : Int) = mkI k (j + 1) ++ x.drop (j + 1) := by
        rw [List.set_append_right _ _ (by rw [mkI_len]; omega), mkI_len, Nat.sub_self, List.drop_eq_getElem_cons (by omega : j < x.length), List.set_cons_zero, mkI_snoc, List.append_assoc]
        rfl
      have c0 := iC_cell hh hget
      have c1 := iC_frz (i := j) hh
      have HS := hide (iC_set (i := j) (z := ((k + j : Nat) : Int)) hh)
      rw [hset] at HS
      have HO := hide (ho.set j (.int .i64 ((k + j : Nat) : Int)))
      obtain ⟨m, hm⟩ : ∃ m : Nat, m = k + j := ⟨_, rfl⟩
      have hmb : m ≤ 50000000 := by omega
      have HM := hide hm
      rw [← hm] at HS HO ⊢
      have i1 : (j : Int) < (n : Int) := by omega
      have i2 : (0 : Int) ≤ (j : Int) := by omega
      clear hh ho hget hset hm
      go_wp2
      exact ⟨⟨j + 1, by omega, by go_num, by rw [unhide HM]; congr 1, unhide HS, unhide HO⟩, by simp [intOf]; omega⟩
    · obtain rfl : j = n := by omega
      have HE := hide (show wr.heap[b]? = some (.cells (iC (mkI k j)) 3) by
        rw [hh, List.drop_of_length_le (by omega), List.append_nil])
      have HO := hide ho
      clear hh ho
      obtain ⟨m, hm⟩ : ∃ m : Nat, m = k + j := ⟨_, rfl⟩
      rw [← hm]
      go_wp2
      exact bodyPost_ret (v := .int .i64 (m : Int)) (by simp [results, Try.results23, go_sem]) rfl ⟨by rw [hm], unhide HE, unhide HO⟩
set_option maxHeartbeats 3200000 in
theorem heldRow (n b k : Nat) (W : World) (hl : n ≤ 4001) (hk : k ≤ 40000000) (h : W.heap[b]? = some (.cells (iC (mkI k n)) 3)) :
    Calls Try.prog 24 #[.slice (some ⟨b, 0, none⟩) n n, .int .i64 (k : Int)] W fun e V => e = .returned (.int .i64 ((k + n : Nat) : Int)) ∧ Below W.heap.size W V := by
  have H := hide h
  clear h
  go_enter Try.func24, Try.ntmps24
  go_wp2
  go_loopw [1, 5] (fun z i wr => ∃ j : Nat, j ≤ n ∧ i = .int .i64 (j : Int) ∧ z = .int .i64 ((k + j : Nat) : Int) ∧ wr = W) (fun z i wr => n - (intOf i).toNat)
  case atStart => exact ⟨0, Nat.zero_le _, rfl, by simp, rfl⟩
  case round =>
    obtain ⟨j, hj, rfl, rfl, rfl⟩ := hrel
    by_cases hlt : j < n
    · have c0 := iC_cell (unhide H) (mkI_get n k j hlt)
      obtain ⟨m, hm⟩ : ∃ m : Nat, m = k + j := ⟨_, rfl⟩
      have hmb : m ≤ 50000000 := by omega
      have HM := hide hm
      rw [← hm] at c0 ⊢
      have i1 : (j : Int) < (n : Int) := by omega
      have i2 : (0 : Int) ≤ (j : Int) := by omega
      have hne : ((m : Int) != (m : Int)) = false := by simp
      clear hm
      go_wp2
      exact ⟨⟨j + 1, by omega, by go_num, by rw [unhide HM]; congr 1, trivial⟩, by simp [intOf]; omega⟩
    · obtain rfl : j = n := by omega
      obtain ⟨m, hm⟩ : ∃ m : Nat, m = k + j := ⟨_, rfl⟩
      rw [← hm]
      go_wp2
      exact bodyPost_ret (v := .int .i64 (m : Int)) (by simp [results, Try.results24, go_sem]) rfl ⟨by rw [hm], brf _⟩
/-- One row of them is another. -/
theorem RI.setAt {W : World} : ∀ {B E : Nat} (xs : List (List Int)) (us : List Value), RI W B E xs us → ∀ (i : Nat) (x y : List Int), xs[i]? = some x → y.length = x.length →
    ∃ b, us[i]? = some (.slice (some ⟨b, 0, none⟩) x.length x.length) ∧ B ≤ b ∧ b < E ∧ W.heap[b]? = some (.cells (iC x) 3) ∧ ∀ W' : World, W'.heap[b]? = some (.cells (iC y) 3) → (∀ j, j ≠ b → W'.heap[j]? = W.heap[j]?) → RI W' B E (xs.set i y) us
  | _, _, [], [], _, i, x, y, hx, _ => by simp at hx
  | B, E, z :: xs, u :: us, h, i, x, y, hx, hy => by
    obtain ⟨c, h1, hb, h2, hr⟩ := h
    have hle := RI.le xs us hr
    cases i with
    | zero =>
      simp at hx; subst hx
      refine ⟨c, by simp [h1], hb, by omega, h2, fun W' k1 k2 => ?_⟩
      rw [List.set_cons_zero]
      exact ⟨c, by rw [h1, hy], hb, k1, RI.keep xs us (fun q o hq _ ho => (k2 q (by omega)).trans ho) hr⟩
    | succ i =>
      obtain ⟨b, q1, q2, q3, q4, q5⟩ := RI.setAt xs us hr i x y (by simpa using hx) hy
      refine ⟨b, by simpa using q1, by omega, q3, q4, fun W' k1 k2 => ?_⟩
      rw [List.set_cons_succ]
      exact ⟨c, h1, hb, (k2 c (by omega)).trans h2, q5 W' k1 k2⟩
  | _, _, [], _ :: _, h, _, _, _, _, _ => h.elim
  | _, _, _ :: _, [], h, _, _, _, _, _ => h.elim
theorem CP.setAt {B E : Nat} {v : Value} {xs : List (List Int)} {W : World} (h : CP B E W v xs) (i : Nat) (x y : List Int) (hx : xs[i]? = some x) (hy : y.length = x.length) :
    ∃ g c b, v = .slice (some ⟨g, 0, none⟩) xs.length c ∧ W.cell? ⟨g, i, none⟩ = some (.slice (some ⟨b, 0, none⟩) x.length x.length) ∧ B ≤ b ∧ W.heap[b]? = some (.cells (iC x) 3) ∧ ∀ W' : World, W'.heap[b]? = some (.cells (iC y) 3) → Only b W W' → CP B E W' v (xs.set i y) := by
  obtain ⟨h0, vs, h1, h2⟩ := h
  obtain ⟨b, q1, q2, q3, q4, q5⟩ := RI.setAt xs vs h2 i x y hx hy
  have hc := fun g hg => World.ownsRow.cells h1 (g := g) hg
  rcases id h1.2 with ⟨hv, hn⟩ | ⟨g, cap, cur, hv, hb, hg, rest⟩
  · rw [List.length_eq_zero_iff.1 hn] at hx
    simp at hx
  · refine ⟨g, cap, b, hv, ?_, q2, q4, fun W' k1 k2 => ?_⟩
    · have := hc g (by rw [hv]; rfl) i _ q1
      rw [Addr.add_lit] at this
      simpa using this
    · refine ⟨by rw [k2.size]; exact h0, vs, ?_, q5 W' k1 k2.block⟩
      rw [List.length_set]
      refine ownsRow_keep h1 (fun r o hr ho => (k2.block r ?_).trans ho)
      intro e
      subst e
      rw [q4] at ho
      injection ho with e1
      injection e1 with _ e3 _
      cases e3
/-- The rows with their marks. -/
def mrows : Nat → List (List Int) → List (List Int)
  | _, [] => []
  | k, x :: xs => mkI k x.length :: mrows (k + x.length) xs
def tot (xs : List (List Int)) : Nat := (xs.map List.length).sum
theorem mrows_len : ∀ (xs : List (List Int)) (k : Nat), (mrows k xs).length = xs.length
  | [], _ => rfl
  | x :: xs, k => by simp [mrows, mrows_len xs]
theorem mrows_snoc : ∀ (xs : List (List Int)) (k : Nat) (y : List Int), mrows k (xs ++ [y]) = mrows k xs ++ [mkI (k + tot xs) y.length]
  | [], k, y => by simp [mrows, tot]
  | x :: xs, k, y => by
    rw [List.cons_append, mrows, mrows_snoc xs, mrows]
    simp [tot, Nat.add_assoc]
theorem tot_snoc (xs : List (List Int)) (y : List Int) : tot (xs ++ [y]) = tot xs + y.length := by simp [tot]
theorem tot_le (xs : List (List Int)) (hs : Small xs) : tot xs ≤ 4001 * xs.length := by
  induction xs with
  | nil => simp [tot]
  | cons x xs ih =>
    have h1 := ih (fun y hy => hs y (List.mem_cons_of_mem _ hy))
    have h2 := hs x List.mem_cons_self
    simp [tot] at *
    omega
theorem tot_take (xs : List (List Int)) (i : Nat) : tot (xs.take i) ≤ tot xs := by
  have : tot xs = tot (xs.take i) + tot (xs.drop i) := by
    unfold tot
    rw [← List.sum_append, ← List.map_append, List.take_append_drop]
  omega
theorem mrows_get : ∀ (xs : List (List Int)) (i k : Nat) (x : List Int), xs[i]? = some x → (mrows k xs)[i]? = some (mkI (k + tot (xs.take i)) x.length)
  | [], i, _, _, h => by simp at h
  | y :: xs, 0, k, x, h => by
    simp at h; subst h
    simp [mrows, tot]
  | y :: xs, i + 1, k, x, h => by
    rw [mrows, List.getElem?_cons_succ, mrows_get xs i (k + y.length) x (by simpa using h)]
    simp [tot, Nat.add_assoc]
/-- The first rows are marked. -/
def mpart (xs : List (List Int)) (i : Nat) : List (List Int) := mrows 1 (xs.take i) ++ xs.drop i
theorem mpart_get {xs : List (List Int)} {i : Nat} {x : List Int} (h : xs[i]? = some x) : (mpart xs i)[i]? = some x := by
  have hi := (List.getElem?_eq_some_iff.1 h).1
  have hl : (mrows 1 (xs.take i)).length = i := by rw [mrows_len, List.length_take]; omega
  unfold mpart
  rw [List.getElem?_append_right (by omega), hl, Nat.sub_self, List.getElem?_drop, Nat.add_zero]
  exact h
theorem mpart_set {xs : List (List Int)} {i : Nat} {x : List Int} (h : xs[i]? = some x) : (mpart xs i).set i (mkI (1 + tot (xs.take i)) x.length) = mpart xs (i + 1) := by
  have hi := (List.getElem?_eq_some_iff.1 h).1
  have hl : (mrows 1 (xs.take i)).length = i := by rw [mrows_len, List.length_take]; omega
  unfold mpart
  rw [List.set_append_right _ _ (by omega), hl, Nat.sub_self, List.drop_eq_getElem_cons hi, List.set_cons_zero, List.take_add_one, h, Option.toList_some, mrows_snoc, List.append_assoc]
  rfl
theorem mpart_len (xs : List (List Int)) (i : Nat) (h : i ≤ xs.length) : (mpart xs i).length = xs.length := by
  unfold mpart; rw [List.length_append, mrows_len, List.length_take, List.length_drop]; omega
theorem mpart_end (xs : List (List Int)) : mpart xs xs.length = mrows 1 xs := by
  unfold mpart; rw [List.take_of_length_le (Nat.le_refl _), List.drop_of_length_le (Nat.le_refl _), List.append_nil]
/-- All but rows of numbers stay. -/
def KT (W V : World) : Prop := ∀ (g : Nat) (o : Array Value) (t : TypeId), t ≠ 3 → W.heap[g]? = some (.cells o t) → V.heap[g]? = some (.cells o t)
theorem KT.refl (W : World) : KT W W := fun _ _ _ _ h => h
set_option maxHeartbeats 6400000 in
theorem markRows {B E : Nat} (xs : List (List Int)) (v : Value) (W : World) (hl : xs.length ≤ 8192) (hs : Small xs) (h : CP B E W v xs) :
    Calls Try.prog 10 #[v, .int .i64 1] W fun e V => e = .returned (.int .i64 ((1 + tot xs : Nat) : Int)) ∧ CP B E V v (mrows 1 xs) ∧ Below B W V ∧ KT W V := by
  obtain ⟨a, c, rfl⟩ := h.shape
  have hB0 : Hid (Below B W W) := hide (Below.refl _ _)
  have H := hide h
  have HS := hide hs
  have htl := tot_le xs hs
  clear h hs
  go_enter Try.func10, Try.ntmps10
  go_wp2
  go_loopw [1, 5] (fun z i wr => ∃ j : Nat, j ≤ xs.length ∧ i = .int .i64 (j : Int) ∧ z = .int .i64 ((1 + tot (xs.take j) : Nat) : Int) ∧ CP B E wr (.slice a xs.length c) (mpart xs j) ∧ Below B W wr ∧ KT W wr) (fun z i wr => xs.length - (intOf i).toNat)
  case atStart => exact ⟨0, Nat.zero_le _, rfl, by simp [tot], by simpa [mpart, mrows] using unhide H, unhide hB0, KT.refl _⟩
  case round =>
    obtain ⟨j, hj, rfl, rfl, hcp, hb, hkt⟩ := hrel
    by_cases hlt : j < xs.length
    · have hx : xs[j]? = some xs[j] := List.getElem?_eq_getElem hlt
      generalize xs[j] = x at hx
      have hxs := unhide HS x (List.mem_of_getElem? hx)
      obtain ⟨g, c', b, hv, hc, hBb, hh, hst⟩ := hcp.setAt j x (mkI (1 + tot (xs.take j)) x.length) (mpart_get hx) (mkI_len _ _)
      rw [mpart_len xs j (by omega)] at hv
      injection hv with e1 e2 e3
      subst e1
      clear e2 e3
      have ht := tot_take xs j
      have HR := hide (markRow x b (1 + tot (xs.take j)) wr hxs (by omega) hh)
      have HST := hide hst
      have HSET := hide (mpart_set hx)
      have HTOT : Hid (tot (xs.take (j + 1)) = tot (xs.take j) + x.length) := hide (by rw [List.take_add_one, hx, Option.toList_some, tot_snoc])
      have HB := hide hb
      have HBb := hide hBb
      have HKT : Hid (∀ V : World, Only b wr V → KT W V) := hide (fun V hO g o t hne hc => (hO.block g (ty_ne (hkt g o t hne hc) hh hne)).trans (hkt g o t hne hc))
      have i1 : (j : Int) < (xs.length : Int) := by omega
      have i2 : (0 : Int) ≤ (j : Int) := by omega
      obtain ⟨m, hm⟩ : ∃ m : Nat, m = 1 + tot (xs.take j) := ⟨_, rfl⟩
      rw [← hm] at HR HST HSET ⊢
      have HM := hide hm
      clear hst hcp hb hx hh hBb hm ht H hkt
      go_wp2_with fail
      refine (unhide HR).mono ?_
      rintro e V ⟨rfl, hV, hO⟩
      have HN := hide (unhide HST V hV hO)
      rw [unhide HSET] at HN
      have HBV := hide (hO.below (unhide HB) (unhide HBb))
      have HKV := hide (unhide HKT V hO)
      clear hV hO HST HKT
      go_wp2
      exact ⟨⟨j + 1, by omega, by go_num, by rw [unhide HTOT, unhide HM]; congr 2; omega, unhide HN, unhide HBV, unhide HKV⟩, by simp [intOf]; omega⟩
    · obtain rfl : j = xs.length := by omega
      rw [mpart_end] at hcp
      have HC := hide hcp
      have HB := hide hb
      have HK := hide hkt
      clear hcp hb H hkt
      rw [List.take_of_length_le (Nat.le_refl _)]
      obtain ⟨m, hm⟩ : ∃ m : Nat, m = 1 + tot xs := ⟨_, rfl⟩
      rw [← hm]
      go_wp2
      exact bodyPost_ret (v := .int .i64 (m : Int)) (by simp [results, Try.results10, go_sem]) rfl ⟨by rw [hm], unhide HC, unhide HB, unhide HK⟩
set_option maxHeartbeats 6400000 in
theorem heldRows {B E : Nat} (xs : List (List Int)) (v : Value) (W : World) (hl : xs.length ≤ 8192) (hs : Small xs) (h : CP B E W v (mrows 1 xs)) :
    Calls Try.prog 25 #[v, .int .i64 1] W fun e V => e = .returned (.int .i64 ((1 + tot xs : Nat) : Int)) ∧ Below W.heap.size W V := by
  obtain ⟨a, c, hv⟩ := h.shape
  rw [mrows_len] at hv
  subst hv
  have H := hide h
  have HS := hide hs
  have htl := tot_le xs hs
  clear h hs
  go_enter Try.func25, Try.ntmps25
  go_wp2
  go_loopw [1, 5] (fun z i wr => ∃ j : Nat, j ≤ xs.length ∧ i = .int .i64 (j : Int) ∧ z = .int .i64 ((1 + tot (xs.take j) : Nat) : Int) ∧ Below W.heap.size W wr) (fun z i wr => xs.length - (intOf i).toNat)
  case atStart => exact ⟨0, Nat.zero_le _, rfl, by simp [tot], brf W⟩
  case round =>
    obtain ⟨j, hj, rfl, rfl, hb⟩ := hrel
    by_cases hlt : j < xs.length
    · have hx : xs[j]? = some xs[j] := List.getElem?_eq_getElem hlt
      generalize xs[j] = x at hx
      have hxs := unhide HS x (List.mem_of_getElem? hx)
      have hcp := (unhide H).later hb
      obtain ⟨g, c', b, hv, hc, hBb, hh, _⟩ := hcp.setAt j _ (mkI 0 x.length) (mrows_get xs j 1 x hx) (by rw [mkI_len, mkI_len])
      rw [mrows_len] at hv
      injection hv with e1 e2 e3
      subst e1
      clear e2 e3
      have ht := tot_take xs j
      rw [mkI_len] at hc
      have HR := hide (heldRow x.length b (1 + tot (xs.take j)) wr hxs (by omega) hh)
      have HTOT : Hid (tot (xs.take (j + 1)) = tot (xs.take j) + x.length) := hide (by rw [List.take_add_one, hx, Option.toList_some, tot_snoc])
      have HB := hide hb
      have i1 : (j : Int) < (xs.length : Int) := by omega
      have i2 : (0 : Int) ≤ (j : Int) := by omega
      obtain ⟨m, hm⟩ : ∃ m : Nat, m = 1 + tot (xs.take j) := ⟨_, rfl⟩
      have hm3 : m ≤ 50000000 := by omega
      rw [← hm] at HR ⊢
      have HM := hide hm
      clear hcp hb hx hh hBb hm ht H
      go_wp2_with fail
      refine (unhide HR).mono ?_
      rintro e V ⟨rfl, hb2⟩
      have HBV := hide (btr (unhide HB) hb2)
      clear hb2
      have hnn : decide (((m + x.length : Nat) : Int) < 0) = false := decide_eq_false (by omega)
      obtain ⟨q, hq⟩ : ∃ q : Nat, q = m + x.length := ⟨_, rfl⟩
      have HQ := hide hq
      rw [← hq] at hnn ⊢
      go_wp2
      exact ⟨⟨j + 1, by omega, by go_num, by rw [unhide HTOT]; have h := unhide HM; congr 1; omega, unhide HBV⟩, by simp [intOf]; omega⟩
    · obtain rfl : j = xs.length := by omega
      have HB := hide hb
      clear hb H
      rw [List.take_of_length_le (Nat.le_refl _)]
      obtain ⟨m, hm⟩ : ∃ m : Nat, m = 1 + tot xs := ⟨_, rfl⟩
      rw [← hm]
      go_wp2
      exact bodyPost_ret (v := .int .i64 (m : Int)) (by simp [results, Try.results25, go_sem]) rfl ⟨by rw [hm], unhide HB⟩
end Go.Proofs.Ytonfbnbkhpabbaa
