/- The law's functions on bytes: equal, marked, held. -/
import Derived.Test.YtaamibonpmijaabAK0
import Derived.BigQuiet
namespace Go.Proofs.Ytaamibonpmijaab
open Go Go.RowKit Gs
set_option linter.unusedVariables false
set_option linter.unusedSimpArgs false
set_option maxRecDepth 100000
theorem eqByteS0 (a1 a2 : Option Addr) (c1 c2 : Nat) (w : World) : Calls Try.prog 8 #[.slice a1 0 c1, .slice a2 0 c2] w fun e w' => e = .returned (.bool true) ∧ Below w.heap.size w w' := by
  go_enter Try.func8, Try.ntmps8
  go_wp2
  go_loopw [5] (fun i wr => i = .int .i64 0 ∧ Below w.heap.size w wr) (fun i wr => 0)
  case atStart => exact ⟨rfl, brf _⟩
  case round =>
    obtain ⟨rfl, hb⟩ := hrel
    have HB := hide hb
    clear hb
    go_wp2
    exact bodyPost_ret (v := .bool true) (by simp [results, Try.results8, go_sem]) rfl ⟨rfl, unhide HB⟩
set_option maxHeartbeats 1600000 in
theorem eqByteS_of (xs : List UInt8) (v1 v2 : Value) (w : World) (h1 : RS 1 RByte w 0 xs v1) (h2 : RS 1 RByte w 0 xs v2) :
    Calls Try.prog 8 #[v1, v2] w fun e w' => e = .returned (.bool true) ∧ Below w.heap.size w w' := by
  rcases h1.open with ⟨rfl, a1, c1, rfl⟩ | ⟨b1, o1, c1, rfl, _, hn, _, hc1⟩
  · obtain ⟨a2, c2, rfl⟩ := h2.slice
    exact eqByteS0 _ _ _ _ w
  · rcases h2.open with ⟨rfl, a2, c2, rfl⟩ | ⟨b2, o2, c2, rfl, _, _, _, hc2⟩
    · exact eqByteS0 _ _ _ _ w
    · unfold maxLen at hn
      have HC1 := hide hc1
      have HC2 := hide hc2
      clear hc1 hc2 h1 h2
      go_enter Try.func8, Try.ntmps8
      go_wp2
      go_loopw [5] (fun i wr => ∃ j : Nat, j ≤ xs.length ∧ i = .int .i64 j ∧ Below w.heap.size w wr) (fun i wr => xs.length - (intOf i).toNat)
      case atStart => exact ⟨0, Nat.zero_le _, rfl, brf _⟩
      case round =>
        obtain ⟨j, hj, rfl, hb⟩ := hrel
        by_cases hjn : j < xs.length
        · have hx : xs[j]? = some xs[j] := List.getElem?_eq_getElem hjn
          generalize xs[j] = x at hx
          obtain ⟨u1, _, at1, r1⟩ := unhide HC1 j x hx
          obtain ⟨u2, _, at2, r2⟩ := unhide HC2 j x hx
          have i1 : (0 : Int) ≤ (j : Int) := by omega
          have i2 : (j : Int) < (xs.length : Int) := by omega
          unfold RByte bv at r1 r2
          subst r1
          subst r2
          have k0 := cell_later hb (at1.get (j := 0) rfl)
          have m0 := cell_later hb (at2.get (j := 0) rfl)
          simp only [Nat.add_zero, Nat.mul_one] at k0 m0
          have HB := hide hb
          clear hb at1 at2 HC1 HC2
          go_wp2
          go_quiet (fail)
          go_wp2
          exact ⟨⟨j + 1, by omega, by go_num, bdn' (unhide HB)⟩, by simp [intOf]; omega⟩
        · obtain rfl : j = xs.length := by omega
          have HB := hide hb
          clear hb HC1 HC2
          go_wp2
          exact bodyPost_ret (v := .bool true) (by simp [results, Try.results8, go_sem]) rfl ⟨rfl, unhide HB⟩
theorem heap_setI {w : World} {b i : Nat} {cur : Array Value} {v : Value} {t : TypeId} {f : Nat × Nat} (h : w.heap[b]? = some (.cells cur t f)) : (w.setCell ⟨b, i, none⟩ v).heap[b]? = some (.cells (cur.setIfInBounds i v) t f) := by
  simp [World.setCell, Array.getElem?_modify, h]
/-- The bytes of the marks. -/
def mbs (n : Nat) : List UInt8 := (List.range n).map fun i => UInt8.ofNat (1 + i)
theorem mbs_len (n : Nat) : (mbs n).length = n := by simp [mbs]
theorem mbs_succ (n : Nat) : mbs (n + 1) = mbs n ++ [UInt8.ofNat (1 + n)] := by simp [mbs, List.range_succ]
theorem mbs_get {n i : Nat} (h : i < n) : (mbs n)[i]? = some (UInt8.ofNat (1 + i)) := by simp [mbs, h]
theorem OB.cell {B : Nat} {W : World} {v : Value} {xs : List UInt8} (h : OB B W v xs) {j : Nat} {x : UInt8} (hj : xs[j]? = some x) : ∃ g cap, v = .slice (some ⟨g, 0, none⟩) xs.length cap ∧ B ≤ g ∧ W.cell? ⟨g, j, none⟩ = some (bv x) ∧ W.frozen? ⟨g, j, none⟩ = false := by
  have hc := fun g hg => World.ownsRow.cells h (g := g) hg
  have hlt : j < xs.length := (List.getElem?_eq_some_iff.1 hj).1
  rcases h.2 with ⟨rfl, hn⟩ | ⟨g, cap, cur, rfl, hb, hg, hlc, hm, hcs, _⟩
  · omega
  · refine ⟨g, cap, rfl, hb, ?_, ?_⟩
    · have := hc g rfl j (bv x) (by rw [List.getElem?_map, hj]; rfl)
      rw [Addr.add_lit] at this
      simpa using this
    · simp [World.frozen?, hg]
theorem OB.set {B : Nat} {W : World} {g l c : Nat} {xs : List UInt8} (h : OB B W (.slice (some ⟨g, 0, none⟩) l c) xs) (j : Nat) {y : UInt8} : OB B (W.setCell ⟨g, j, none⟩ (bv y)) (.slice (some ⟨g, 0, none⟩) l c) (xs.set j y) := by
  obtain ⟨h1, h2⟩ := h
  refine ⟨by simp, ?_⟩
  rcases h2 with ⟨e, hn⟩ | ⟨g', cap, cur, e, hb, hg, hlc, hm, hcs, ht⟩
  · cases e
  · injection e with e1 e2 e3
    injection e1 with e1
    injection e1 with e1
    subst e1 e2 e3
    refine .inr ⟨g, _, _, by rw [List.length_set], hb, heap_setI hg, by rw [List.length_set]; exact hlc, hm, by simpa using hcs, ?_⟩
    rw [Array.toList_setIfInBounds, List.length_set, List.take_set, ht, List.map_set]
theorem set_at {α : Type} (ms xs : List α) (y : α) {j : Nat} (ha : ms.length = j) (hj : j < xs.length) : (ms ++ xs.drop j).set j y = (ms ++ [y]) ++ xs.drop (j + 1) := by
  subst ha
  rw [List.set_append_right _ _ (Nat.le_refl _), Nat.sub_self, List.drop_eq_getElem_cons hj, List.set_cons_zero, List.append_assoc, List.singleton_append]
theorem u8_wrap (j : Nat) : (1 + (j : Int)) % 256 = ((UInt8.ofNat (1 + j)).toNat : Int) := by
  rw [UInt8.toNat_ofNat']; omega
set_option maxHeartbeats 8000000 in
theorem OB.marked {B : Nat} {W : World} {v : Value} {xs : List UInt8} (h : OB B W v xs) (hl : xs.length ≤ 65536) (hB : B ≤ W.heap.size) :
    Calls Try.prog 11 #[v, .int .i64 1] W fun e w' => e = .returned (.int .i64 (1 + (xs.length : Int))) ∧ OB B w' v (mbs xs.length) ∧ Below B W w' := by
  obtain ⟨l, hll⟩ : ∃ l, xs.length = l := ⟨_, rfl⟩
  obtain ⟨a, c, rfl⟩ : ∃ a c, v = .slice a l c := by
    obtain ⟨a, c, e⟩ := h.shape
    exact ⟨a, c, by rw [← hll, e]⟩
  rw [hll] at hl ⊢
  have HO := hide h
  have HLL := hide hll
  clear h hll
  go_enter Try.func11, Try.ntmps11
  go_wp2
  go_loopw [1, 5] (fun kv i wr => ∃ (j : Nat), j ≤ l ∧ i = .int .i64 j ∧ kv = .int .i64 (1 + j : Nat) ∧ OB B wr (.slice a l c) (mbs j ++ xs.drop j) ∧ Below B W wr) (fun _ i _ => l - (intOf i).toNat)
  case atStart => exact ⟨0, Nat.zero_le _, rfl, rfl, unhide HO, Below.refl _ _⟩
  case round =>
    obtain ⟨j, hj, rfl, rfl, ho, hb⟩ := hrel
    by_cases hjl : j < l
    · have hjx : j < xs.length := by rw [unhide HLL]; exact hjl
      have hlt : j < (mbs j ++ xs.drop j).length := by simp [mbs_len]; omega
      obtain ⟨g, cap, e, hg, hc, hf⟩ := ho.cell (j := j) (List.getElem?_eq_getElem hlt)
      generalize (mbs j ++ xs.drop j)[j] = old at hc
      injection e with e1 e2 e3
      subst e1
      have HR1 : Hid (OB B (wr.setCell ⟨g, j, none⟩ (.int .u8 ((1 + (j : Int)) % 256))) (.slice (some ⟨g, 0, none⟩) l c) (mbs (j + 1) ++ xs.drop (j + 1))) := hide (by
        have R1 := ho.set j (y := UInt8.ofNat (1 + j))
        rw [set_at _ _ _ (mbs_len j) hjx, ← mbs_succ] at R1
        unfold bv at R1
        rw [← u8_wrap] at R1
        exact R1)
      have HB1 := hide (hb.setCell (p := ⟨g, j, none⟩) hg (.int .u8 ((1 + (j : Int)) % 256)))
      have i1 : (j : Int) < (l : Int) := by omega
      unfold bv at hc
      clear ho hb e2 e3 hlt
      go_wp2
      exact ⟨⟨j + 1, by omega, by go_num, by first | rfl | go_num, unhide HR1, unhide HB1⟩, by simp [intOf]; omega⟩
    · obtain rfl : j = l := by omega
      have HO1 := hide ho
      have HB1 := hide hb
      clear ho hb HO
      go_wp2
      go_ret
      have R1 := unhide HO1
      rw [← unhide HLL, List.drop_length, List.append_nil, unhide HLL] at R1
      exact ⟨by first | rfl | (congr 3; omega), R1, unhide HB1⟩
set_option maxHeartbeats 8000000 in
theorem heldB (l : Nat) (v : Value) (w : World) (hl : l ≤ 65536) (h : RS 1 RByte w 0 (mbs l) v) :
    Calls Try.prog 12 #[v, .int .i64 1] w fun e w' => e = .returned (.int .i64 (1 + (l : Int))) ∧ Below w.heap.size w w' := by
  have HRD : Hid (∀ j, j < l → ∃ b o c, v = .slice (some ⟨b, o, none⟩) l c ∧ w.cell? ⟨b, o + j, none⟩ = some (.int .u8 ((1 + (j : Int)) % 256))) := hide (fun j hj => by
    rcases h.open with ⟨hn, _⟩ | ⟨b, o, c, hv, _, _, _, he⟩
    · have := congrArg List.length hn
      rw [mbs_len] at this
      simp at this
      omega
    · obtain ⟨u, _, hat, hu⟩ := he j _ (mbs_get hj)
      subst hu
      rw [mbs_len] at hv
      refine ⟨b, o, c, hv, ?_⟩
      rw [u8_wrap]
      simpa [bv] using hat.get (j := 0) rfl)
  obtain ⟨a, c, rfl⟩ := h.slice
  rw [mbs_len] at HRD ⊢
  clear h
  go_enter Try.func12, Try.ntmps12
  go_wp2
  go_loopw [1, 5] (fun kv i wr => ∃ (j : Nat), j ≤ l ∧ i = .int .i64 j ∧ kv = .int .i64 (1 + j : Nat) ∧ Below w.heap.size w wr) (fun _ i _ => l - (intOf i).toNat)
  case atStart => exact ⟨0, Nat.zero_le _, rfl, rfl, Below.refl _ _⟩
  case round =>
    obtain ⟨j, hj, rfl, rfl, hb⟩ := hrel
    by_cases hjl : j < l
    · obtain ⟨b, o, c', hv, hc⟩ := unhide HRD j hjl
      injection hv with e1 e2 e3
      subst e1
      have m0 := cell_later hb hc
      have HB1 := hide hb
      have i1 : (j : Int) < (l : Int) := by omega
      clear hb hc HRD e2 e3
      go_wp2
      exact ⟨⟨j + 1, by omega, by go_num, by first | rfl | go_num, unhide HB1⟩, by simp [intOf]; omega⟩
    · obtain rfl : j = l := by omega
      have HB1 := hide hb
      clear hb HRD
      go_wp2
      go_ret
      exact ⟨by first | rfl | (congr 3; omega), unhide HB1⟩
end Go.Proofs.Ytaamibonpmijaab
