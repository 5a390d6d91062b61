/- The texts of one's own are marked, and read back. -/
import Derived.Test.YtjbbjgoofenkpaaDM
import Derived.Test.YtjbbjgoofenkpaaR2
import Derived.Deep.RegionHeld3
namespace Go.Proofs.Ytjbbjgoofenkpaa
open Go.RowKit Gs
set_option linter.unusedVariables false
set_option linter.unusedSimpArgs false
set_option maxRecDepth 100000
theorem heap_setI {w : World} {b i : Nat} {cur : Array Value} {v : Value} {t : TypeId} {f : Nat × Nat} (h : w.heap[b]? = some (.cells cur t f)) : (w.setCell ⟨b, i, none⟩ v).heap[b]? = some (.cells (cur.setIfInBounds i v) t f) := by
  simp [World.setCell, Array.getElem?_modify, h]
/-- The texts of the marks. -/
def mtxs (n : Nat) : List ByteArray := (List.range n).map fun i => mtx (1 + i)
theorem mtxs_len (n : Nat) : (mtxs n).length = n := by simp [mtxs]
theorem mtxs_succ (n : Nat) : mtxs (n + 1) = mtxs n ++ [mtx (1 + n)] := by simp [mtxs, List.range_succ]
theorem mtxs_get {n i : Nat} (h : i < n) : (mtxs n)[i]? = some (mtx (1 + i)) := by simp [mtxs, h]
theorem OT.cell {B : Nat} {W : World} {v : Value} {xs : List ByteArray} (h : OT B W v xs) {j : Nat} (hj : j < xs.length) : ∃ g cap, v = .slice (some ⟨g, 0, none⟩) xs.length cap ∧ B ≤ g ∧ W.cell? ⟨g, j, none⟩ = some (.string (xs.getD j ByteArray.empty)) ∧ W.frozen? ⟨g, j, none⟩ = false := by
  have hc := fun g hg => World.ownsRow.cells h.1 (g := g) hg
  rcases h.1.2 with ⟨rfl, hn⟩ | ⟨g, cap, cur, rfl, hb, hg, hlc, hm, hcs, _⟩
  · omega
  · refine ⟨g, cap, rfl, hb, ?_, ?_⟩
    · have := hc g rfl j (.string xs[j]) (by rw [List.getElem?_map, List.getElem?_eq_getElem hj]; rfl)
      rw [Addr.add_lit] at this
      rw [List.getD_eq_getElem?_getD, List.getElem?_eq_getElem hj]
      simpa using this
    · simp [World.frozen?, hg]
theorem OT.set {B : Nat} {W : World} {g l c : Nat} {xs : List ByteArray} (h : OT B W (.slice (some ⟨g, 0, none⟩) l c) xs) (j : Nat) {y : ByteArray} (hy : y.size ≤ maxLen) : OT B (W.setCell ⟨g, j, none⟩ (.string y)) (.slice (some ⟨g, 0, none⟩) l c) (xs.set j y) := by
  obtain ⟨⟨h1, h2⟩, h3⟩ := h
  refine ⟨⟨by simp, ?_⟩, fun x hx => ?_⟩
  · rcases h2 with ⟨e, hn⟩ | ⟨g', cap, cur, e, hb, hg, hlc, hm, hcs, ht⟩
    · cases e
    · injection e with e1 e2 e3
      injection e1 with e1
      injection e1 with e1
      subst e1 e2 e3
      refine .inr ⟨g, _, _, by rw [List.length_set], hb, heap_setI hg, by rw [List.length_set]; exact hlc, hm, by simpa using hcs, ?_⟩
      rw [Array.toList_setIfInBounds, List.length_set, List.take_set, ht, List.map_set]
  · rcases List.mem_or_eq_of_mem_set hx with h | h
    · exact h3 x h
    · subst h; exact hy
theorem set_at {α : Type} (ms xs : List α) (y : α) {j : Nat} (ha : ms.length = j) (hj : j < xs.length) : (ms ++ xs.drop j).set j y = (ms ++ [y]) ++ xs.drop (j + 1) := by
  subst ha
  rw [List.set_append_right _ _ (Nat.le_refl _), Nat.sub_self, List.drop_eq_getElem_cons hj, List.set_cons_zero, List.append_assoc, List.singleton_append]
set_option maxHeartbeats 8000000 in
theorem OT.marked {B : Nat} {W : World} {v : Value} {xs : List ByteArray} (h : OT B W v xs) (hl : xs.length ≤ 4096) (hB : B ≤ W.heap.size) :
    Calls Try.prog 14 #[v, .int .i64 1] W fun e w' => e = .returned (.int .i64 (1 + (xs.length : Int))) ∧ OT B w' v (mtxs xs.length) ∧ Below B W w' := by
  obtain ⟨l, hll⟩ : ∃ l, xs.length = l := ⟨_, rfl⟩
  obtain ⟨a, c, rfl⟩ : ∃ a c, v = .slice a l c := by
    rcases h.1.2 with ⟨rfl, hn⟩ | ⟨g, cap, cur, rfl, _⟩
    · exact ⟨none, 0, by rw [← hll, hn]⟩
    · exact ⟨_, _, by rw [← hll]⟩
  rw [hll] at hl ⊢
  have HO := hide h
  have HLL := hide hll
  clear h hll
  go_enter Try.func14, Try.ntmps14
  go_wp2
  go_loopw [1, 5] (fun kv i wr => ∃ (j : Nat), j ≤ l ∧ i = .int .i64 j ∧ kv = .int .i64 (1 + j : Nat) ∧ OT B wr (.slice a l c) (mtxs j ++ xs.drop j) ∧ Below B W wr) (fun _ i _ => l - (intOf i).toNat)
  case atStart => exact ⟨0, Nat.zero_le _, rfl, rfl, unhide HO, Below.refl _ _⟩
  case round =>
    obtain ⟨j, hj, rfl, rfl, ho, hb⟩ := hrel
    by_cases hjl : j < l
    · have hjx : j < xs.length := by rw [unhide HLL]; exact hjl
      obtain ⟨g, cap, e, hg, hc, hf⟩ := ho.cell (j := j) (by simp [mtxs_len]; omega)
      injection e with e1 e2 e3
      subst e1
      have HO1 := hide ho
      have HB1 := hide hb
      have hsz := hb.size
      have i1 : (j : Int) < (l : Int) := by omega
      have MT := hide (fun V => markTx (1 + j) V (by omega))
      generalize (mtxs j ++ xs.drop j).getD j ByteArray.empty = old at hc
      clear ho hb e2 e3
      go_wp2_with (first
        | (go_at_call 30; refine (unhide MT _).mono ?_; rintro e V1 ⟨⟨rfl, hm1⟩, hb1⟩; have HB2 := hide ((unhide HB1).trans (hb1.mono (by omega))); have HO2 := hide ((unhide HO1).later hb1); have HM1 := hide hm1; have d1 := cell_later hb1 hc; have g1 := frozen_later hb1 hc (by simpa using hf); clear hb1 hm1))
      have R1 := (unhide HO2).set j (y := mtx (1 + j)) (by have := unhide HM1; unfold maxLen; omega)
      rw [set_at _ _ _ (mtxs_len j) hjx, ← mtxs_succ] at R1
      exact ⟨⟨j + 1, by omega, by go_num, by first | rfl | go_num, R1, (unhide HB2).setCell hg _⟩, by simp [intOf]; omega⟩
    · obtain rfl : j = l := by omega
      have HO1 := hide ho
      have HB1 := hide hb
      clear ho hb HO
      go_wp2
      go_ret
      have R1 := unhide HO1
      rw [← unhide HLL, List.drop_length, List.append_nil, unhide HLL] at R1
      exact ⟨by first | rfl | (congr 3; omega), R1, unhide HB1⟩
set_option maxHeartbeats 8000000 in
theorem heldT (l : Nat) (v : Value) (w : World) (hl : l ≤ 4096) (h : RS 1 RStr w 0 (mtxs l) v) :
    Calls Try.prog 15 #[v, .int .i64 1] w fun e w' => e = .returned (.int .i64 (1 + (l : Int))) ∧ Below w.heap.size w w' := by
  obtain ⟨a, c, rfl⟩ := h.slice
  rw [mtxs_len] at h ⊢
  have HS := hide h
  clear h
  go_enter Try.func15, Try.ntmps15
  go_wp2
  go_loopw [1, 5] (fun kv i wr => ∃ (j : Nat), j ≤ l ∧ i = .int .i64 j ∧ kv = .int .i64 (1 + j : Nat) ∧ Below w.heap.size w wr) (fun _ i _ => l - (intOf i).toNat)
  case atStart => exact ⟨0, Nat.zero_le _, rfl, rfl, Below.refl _ _⟩
  case round =>
    obtain ⟨j, hj, rfl, rfl, hb⟩ := hrel
    by_cases hjl : j < l
    · obtain ⟨b, o, rfl, hc, _⟩ := strAt (unhide HS) (i := j) (by rw [mtxs_len]; exact hjl)
      rw [List.getD_eq_getElem?_getD, mtxs_get hjl] at hc
      have m0 := cell_later hb hc
      have HB1 := hide hb
      have i1 : (j : Int) < (l : Int) := by omega
      have MT := hide (fun V => markTx (1 + j) V (by omega))
      simp only [Option.getD_some] at m0
      generalize mtx (1 + j) = y at *
      clear hb hc HS
      go_wp2
      go_region_held3 (fun V => V.cell? ⟨b, o + j, none⟩ = some (.string y) ∧ Below w.heap.size w V)
        (first | (exact ⟨m0, bdr (unhide HB1)⟩) | (exact ⟨cell_later hb1 (by assumption : _ ∧ _).1, btr (by assumption : _ ∧ _).2 hb1⟩))
        (first | (go_at_call 30; refine (unhide MT _).mono ?_; rintro e V1 ⟨⟨rfl, hm1⟩, hb1⟩))
      rename_i hH
      have HB2 := hide hH.2
      clear hH
      go_wp2
      exact ⟨⟨j + 1, by omega, by go_num, by first | rfl | go_num, unhide HB2⟩, by simp [intOf]; omega⟩
    · obtain rfl : j = l := by omega
      have HB1 := hide hb
      clear hb HS
      go_wp2
      go_ret
      exact ⟨by first | rfl | (congr 3; omega), unhide HB1⟩
end Go.Proofs.Ytjbbjgoofenkpaa
