/- The closures that put latches, pins and ands. -/
import Derived.Test.YtaamibonpmijaabAW3
import Derived.Test.YtaamibonpmijaabRW3
namespace Go.Proofs.Ytaamibonpmijaab
open Go Go.RowKit Gs
set_option linter.unusedVariables false
set_option linter.unusedSimpArgs false
set_option maxRecDepth 100000
theorem builtS (ss : List ByteArray) (S : List Nat) (W : World) (hs : ∀ s ∈ ss, s.size ≤ maxLen) (hn : ss.length ≤ maxLen) (hS : W.heap.size ∉ S) (V : World) (h : KP S (W.alloc (.cells (ss.map Value.string).toArray 9)) V) :
    RS 1 RStr V 0 ss (.slice (some ⟨W.heap.size, 0, none⟩) ss.length ss.length) := by
  have hb := h.keep W.heap.size _ (heap_alloc_new W _) (notB_cells (by decide)) hS
  refine ⟨_, _, rfl, Nat.le_refl _, hn, fun _ => ⟨W.heap.size, 0, rfl, Nat.zero_le _, fun i x hx => ⟨[.string x], rfl, fun j y hj => ?_, rfl, hs x (List.mem_of_getElem? hx)⟩⟩⟩
  have hj0 : j = 0 := by
    cases j with
    | zero => rfl
    | succ j => simp at hj
  subst hj0
  simp at hj
  subst hj
  refine cell_of hb ?_
  simp [hx]
/-- A pin as bytes. -/
def encP (nm : ByteArray) (z : Nat) : List UInt8 := encT nm ++ encN z
/-- A latch as bytes. -/
def encLt (nm : ByteArray) (z1 z2 z3 : Nat) : List UInt8 := encT nm ++ [z1, z2, z3].flatMap encN
theorem len_left {α : Type} {xs ys : List α} {n : Nat} (h : (xs ++ ys).length ≤ n) : xs.length ≤ n := by rw [List.length_append] at h; omega
set_option maxHeartbeats 16000000 in
theorem iPut1Pin (w0 : World) (bw b2 : Nat) (nm : ByteArray) (z : Nat) (xs : List UInt8) (W : World) (hst : ST w0 bw W xs) (h2 : W.heap[b2]? = some (.cells #[.pointer (some ⟨bw, 0, none⟩)] 60 (0, 0))) (hs : nm.size ≤ 1048576) (hz : z ≤ 4611686018427387904) (hl : (xs ++ encP nm z).length ≤ 549755813888) :
    Calls Try.prog 47 #[.agg #[.string nm, .int .i64 (z : Int)], .pointer (some ⟨b2, 0, none⟩)] W fun e W' => e = .returned (.tuple #[]) ∧ ST w0 bw W' (xs ++ encP nm z) ∧ KP [bw] W W' := by
  have hb2 : b2 ≠ bw := by
    intro e
    subst e
    obtain ⟨_, _, v, h3, _⟩ := hst
    rw [h2] at h3
    injection h3 with h3
    injection h3 with _ h3 _
    cases h3
  have hl1 : (xs ++ [nm].flatMap encT ++ encN z).length ≤ 549755813888 := by
    unfold encP at hl
    simpa [List.append_assoc] using hl
  have hbs : b2 < W.heap.size := (Array.getElem?_eq_some_iff.1 h2).1
  obtain ⟨X, hX⟩ : ∃ X, X = W.alloc (.cells #[.string nm, .int .i64 (z : Int)] 55) := ⟨_, rfl⟩
  have hXs : X.heap.size = W.heap.size + 1 := by rw [hX]; simp
  have hX2 : X.heap[b2]? = some (.cells #[.pointer (some ⟨bw, 0, none⟩)] 60 (0, 0)) := by rw [hX, Below.heap_alloc _ _ _ hbs]; exact h2
  have hXb : X.heap[W.heap.size]? = some (.cells #[.string nm, .int .i64 (z : Int)] 55 (0, 0)) := by rw [hX]; exact heap_alloc_new W _
  have hXst : ST w0 bw X xs := by rw [hX]; exact hst.alloc _
  have hXk : KP [bw] W X := by rw [hX]; exact (KP.refl _ _).alloc _
  have hWn := not_in_new hst
  have HNM := hide (show Calls Try.prog 48 #[.pointer (some ⟨bw, 0, none⟩), .slice (some ⟨X.heap.size, 0, none⟩) 1 1] (X.alloc (.cells #[.string nm] 9)) _ from iNames w0 bw [nm] _ xs _ (hXst.alloc _) (fun V _ hV => builtS [nm] [bw] X (by intro s hs'; simp at hs'; subst hs'; unfold maxLen; omega) (by simp [maxLen]) (not_in_new hXst) V hV) (by intro s hs'; simp at hs'; subst hs'; exact hs) (by simp) (len_left hl1))
  have HNU := hide (fun (V : World) (h : ST w0 bw V (xs ++ [nm].flatMap encT)) => (show Calls Try.prog 49 #[.pointer (some ⟨bw, 0, none⟩), .slice (some ⟨V.heap.size, 0, none⟩) 1 1] (V.alloc (.cells #[.int .i64 (z : Int)] 3)) _ from iNumbers w0 bw [z] _ (xs ++ [nm].flatMap encT) _ (h.alloc _) (fun U _ hU => builtI [z] [bw] V (by simp) (not_in_new h) U hU) (by intro n hn; simp at hn; subst hn; exact hz) (by simp) (by simpa using hl1)))
  have HKX : Hid (∀ V, KP [bw] X V → V.cell? ⟨b2, 0, none⟩ = some (.pointer (some ⟨bw, 0, none⟩)) ∧ V.cell? ⟨W.heap.size, 0, none⟩ = some (.string nm) ∧ V.cell? ⟨W.heap.size, 1, none⟩ = some (.int .i64 (z : Int))) := hide (fun V hV => by
    have e1 := hV.keep b2 _ hX2 (notB_cells (by decide)) (by simpa using hb2)
    have e2 := hV.keep W.heap.size _ hXb (notB_cells (by decide)) hWn
    exact ⟨cell_of e1 rfl, cell_of e2 rfl, cell_of e2 rfl⟩)
  have HX := hide hX
  have HXS := hide hXst
  have HXK := hide hXk
  clear hX hXs hX2 hXb hXst hXk hst hWn hl hl1 hb2
  obtain ⟨p0, p1, p2⟩ := unhide HKX X (KP.refl _ _)
  have k2 : (W.alloc (.cells #[.string nm, .int .i64 (z : Int)] 55)).cell? ⟨b2, 0, none⟩ = some (.pointer (some ⟨bw, 0, none⟩)) := cell_later (bal (brf W) _) (cell_of h2 rfl)
  clear h2 hbs
  go_enter Try.func47, Try.ntmps47
  go_wp2_with fail
  rw [← unhide HX]
  refine (by have h := unhide HNM; rw [show X.heap.size = W.heap.size + 1 by rw [unhide HX]; simp] at h; exact h : Calls Try.prog 48 #[.pointer (some ⟨bw, 0, none⟩), .slice (some ⟨W.heap.size + 1, 0, none⟩) 1 1] (X.alloc (.cells #[.string nm] 9)) _).mono ?_
  rintro e W1 ⟨rfl, hst1, hkp1⟩
  have HS1 := hide hst1
  have HK1 := hide (((KP.refl [bw] X).alloc (.cells #[.string nm] 9)).trans hkp1)
  clear hst1 hkp1 p0 p1 p2 k2
  obtain ⟨p0, p1, p2⟩ := unhide HKX W1 (unhide HK1)
  go_wp2_with fail
  refine (unhide HNU W1 (unhide HS1)).mono ?_
  rintro e W2 ⟨rfl, hst2, hkp2⟩
  have HS2 := hide hst2
  have HK2 := hide ((unhide HXK).trans (((unhide HK1).alloc (.cells #[.int .i64 (z : Int)] 3)).trans hkp2))
  clear hst2 hkp2
  go_wp2_with fail
  refine bodyPost_end (v := .tuple #[]) (by simp [results, Try.results47, go_sem]) rfl ⟨rfl, ?_, unhide HK2⟩
  have h := unhide HS2
  unfold encP
  simpa [List.append_assoc] using h
set_option maxHeartbeats 16000000 in
theorem iPut1Latch (w0 : World) (bw b2 : Nat) (nm : ByteArray) (z1 z2 z3 : Nat) (xs : List UInt8) (W : World) (hst : ST w0 bw W xs) (h2 : W.heap[b2]? = some (.cells #[.pointer (some ⟨bw, 0, none⟩)] 60 (0, 0))) (hs : nm.size ≤ 1048576) (hz1 : z1 ≤ 4611686018427387904) (hz2 : z2 ≤ 4611686018427387904) (hz3 : z3 ≤ 4611686018427387904) (hl : (xs ++ encLt nm z1 z2 z3).length ≤ 549755813888) :
    Calls Try.prog 52 #[.agg #[.string nm, .int .i64 (z1 : Int), .int .i64 (z2 : Int), .int .i64 (z3 : Int)], .pointer (some ⟨b2, 0, none⟩)] W fun e W' => e = .returned (.tuple #[]) ∧ ST w0 bw W' (xs ++ encLt nm z1 z2 z3) ∧ KP [bw] W W' := by
  have hb2 : b2 ≠ bw := by
    intro e
    subst e
    obtain ⟨_, _, v, h3, _⟩ := hst
    rw [h2] at h3
    injection h3 with h3
    injection h3 with _ h3 _
    cases h3
  have hl1 : (xs ++ [nm].flatMap encT ++ [z1, z2, z3].flatMap encN).length ≤ 549755813888 := by
    unfold encLt at hl
    simpa [List.append_assoc] using hl
  have hbs : b2 < W.heap.size := (Array.getElem?_eq_some_iff.1 h2).1
  obtain ⟨X, hX⟩ : ∃ X, X = W.alloc (.cells #[.string nm, .int .i64 (z1 : Int), .int .i64 (z2 : Int), .int .i64 (z3 : Int)] 51) := ⟨_, rfl⟩
  have hXs : X.heap.size = W.heap.size + 1 := by rw [hX]; simp
  have hX2 : X.heap[b2]? = some (.cells #[.pointer (some ⟨bw, 0, none⟩)] 60 (0, 0)) := by rw [hX, Below.heap_alloc _ _ _ hbs]; exact h2
  have hXb : X.heap[W.heap.size]? = some (.cells #[.string nm, .int .i64 (z1 : Int), .int .i64 (z2 : Int), .int .i64 (z3 : Int)] 51 (0, 0)) := by rw [hX]; exact heap_alloc_new W _
  have hXst : ST w0 bw X xs := by rw [hX]; exact hst.alloc _
  have hXk : KP [bw] W X := by rw [hX]; exact (KP.refl _ _).alloc _
  have hWn := not_in_new hst
  have HNM := hide (show Calls Try.prog 48 #[.pointer (some ⟨bw, 0, none⟩), .slice (some ⟨X.heap.size, 0, none⟩) 1 1] (X.alloc (.cells #[.string nm] 9)) _ from iNames w0 bw [nm] _ xs _ (hXst.alloc _) (fun V _ hV => builtS [nm] [bw] X (by intro s hs'; simp at hs'; subst hs'; unfold maxLen; omega) (by simp [maxLen]) (not_in_new hXst) V hV) (by intro s hs'; simp at hs'; subst hs'; exact hs) (by simp) (len_left hl1))
  have HNU := hide (fun (V : World) (h : ST w0 bw V (xs ++ [nm].flatMap encT)) => (show Calls Try.prog 49 #[.pointer (some ⟨bw, 0, none⟩), .slice (some ⟨V.heap.size, 0, none⟩) 3 3] (V.alloc (.cells #[.int .i64 (z1 : Int), .int .i64 (z2 : Int), .int .i64 (z3 : Int)] 3)) _ from iNumbers w0 bw [z1, z2, z3] _ (xs ++ [nm].flatMap encT) _ (h.alloc _) (fun U _ hU => builtI [z1, z2, z3] [bw] V (by simp) (not_in_new h) U hU) (by intro n hn; simp at hn; rcases hn with rfl | rfl | rfl <;> assumption) (by simp) (by simpa using hl1)))
  have HKX : Hid (∀ V, KP [bw] X V → V.cell? ⟨b2, 0, none⟩ = some (.pointer (some ⟨bw, 0, none⟩)) ∧ V.cell? ⟨W.heap.size, 0, none⟩ = some (.string nm) ∧ V.cell? ⟨W.heap.size, 1, none⟩ = some (.int .i64 (z1 : Int)) ∧ V.cell? ⟨W.heap.size, 2, none⟩ = some (.int .i64 (z2 : Int)) ∧ V.cell? ⟨W.heap.size, 3, none⟩ = some (.int .i64 (z3 : Int))) := hide (fun V hV => by
    have e1 := hV.keep b2 _ hX2 (notB_cells (by decide)) (by simpa using hb2)
    have e2 := hV.keep W.heap.size _ hXb (notB_cells (by decide)) hWn
    exact ⟨cell_of e1 rfl, cell_of e2 rfl, cell_of e2 rfl, cell_of e2 rfl, cell_of e2 rfl⟩)
  have HX := hide hX
  have HXS := hide hXst
  have HXK := hide hXk
  clear hX hXs hX2 hXb hXst hXk hst hWn hl hl1 hb2
  obtain ⟨p0, p1, p2, p3, p4⟩ := unhide HKX X (KP.refl _ _)
  have k2 : (W.alloc (.cells #[.string nm, .int .i64 (z1 : Int), .int .i64 (z2 : Int), .int .i64 (z3 : Int)] 51)).cell? ⟨b2, 0, none⟩ = some (.pointer (some ⟨bw, 0, none⟩)) := cell_later (bal (brf W) _) (cell_of h2 rfl)
  clear h2 hbs
  go_enter Try.func52, Try.ntmps52
  go_wp2_with fail
  rw [← unhide HX]
  refine (by have h := unhide HNM; rw [show X.heap.size = W.heap.size + 1 by rw [unhide HX]; simp] at h; exact h : Calls Try.prog 48 #[.pointer (some ⟨bw, 0, none⟩), .slice (some ⟨W.heap.size + 1, 0, none⟩) 1 1] (X.alloc (.cells #[.string nm] 9)) _).mono ?_
  rintro e W1 ⟨rfl, hst1, hkp1⟩
  have HS1 := hide hst1
  have HK1 := hide (((KP.refl [bw] X).alloc (.cells #[.string nm] 9)).trans hkp1)
  clear hst1 hkp1 p0 p1 p2 p3 p4 k2
  obtain ⟨p0, p1, p2, p3, p4⟩ := unhide HKX W1 (unhide HK1)
  go_wp2_with fail
  refine (unhide HNU W1 (unhide HS1)).mono ?_
  rintro e W2 ⟨rfl, hst2, hkp2⟩
  have HS2 := hide hst2
  have HK2 := hide ((unhide HXK).trans (((unhide HK1).alloc (.cells #[.int .i64 (z1 : Int), .int .i64 (z2 : Int), .int .i64 (z3 : Int)] 3)).trans hkp2))
  clear hst2 hkp2
  go_wp2_with fail
  refine bodyPost_end (v := .tuple #[]) (by simp [results, Try.results52, go_sem]) rfl ⟨rfl, ?_, unhide HK2⟩
  have h := unhide HS2
  unfold encLt
  simpa [List.append_assoc] using h
end Go.Proofs.Ytaamibonpmijaab
