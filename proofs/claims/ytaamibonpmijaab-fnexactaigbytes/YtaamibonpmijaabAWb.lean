/- The closures that put latches, pins and ands. -/
import Derived.Test.YtaamibonpmijaabAWa
import Derived.Test.YtaamibonpmijaabRW3
import Derived.Test.YtaamibonpmijaabDD
namespace Go.Proofs.Ytaamibonpmijaab
open Go Go.RowKit Gs
set_option linter.unusedVariables false
set_option linter.unusedSimpArgs false
set_option maxRecDepth 100000
theorem builtS (ss : List ByteArray) (S : List Nat) (W : World) (hs : ∀ s ∈ ss, s.size ≤ maxLen) (hn : ss.length ≤ maxLen) (hS : W.heap.size ∉ S) (V : World) (h : KP S (W.alloc (.cells (ss.map Value.string).toArray 9)) V) :
    RS 1 RStr V 0 ss (.slice (some ⟨W.heap.size, 0, none⟩) ss.length ss.length) := by
  have hb := h.keep W.heap.size _ (heap_alloc_new W _) (notB_cells (by decide)) hS
  refine ⟨_, _, rfl, Nat.le_refl _, hn, fun _ => ⟨W.heap.size, 0, rfl, Nat.zero_le _, fun i x hx => ⟨[.string x], rfl, fun j y hj => ?_, rfl, hs x (List.mem_of_getElem? hx)⟩⟩⟩
  have hj0 : j = 0 := by
    cases j with
    | zero => rfl
    | succ j => simp at hj
  subst hj0
  simp at hj
  subst hj
  refine cell_of hb ?_
  simp [hx]
/-- A pin as bytes. -/
def encP (nm : ByteArray) (z : Nat) : List UInt8 := encT nm ++ encN z
/-- A latch as bytes. -/
def encLt (nm : ByteArray) (z1 z2 z3 : Nat) : List UInt8 := encT nm ++ [z1, z2, z3].flatMap encN
theorem len_left {α : Type} {xs ys : List α} {n : Nat} (h : (xs ++ ys).length ≤ n) : xs.length ≤ n := by rw [List.length_append] at h; omega
set_option maxHeartbeats 16000000 in
theorem iPut1Pin (w0 : World) (bw b2 : Nat) (nm : ByteArray) (z : Nat) (xs : List UInt8) (W : World) (hst : ST w0 bw W xs) (h2 : W.heap[b2]? = some (.cells #[.pointer (some ⟨bw, 0, none⟩)] 60 (0, 0))) (hs : nm.size ≤ 1048576) (hz : z ≤ 4611686018427387904) (hl : (xs ++ encP nm z).length ≤ 549755813888) :
    Calls Try.prog 47 #[.agg #[.string nm, .int .i64 (z : Int)], .pointer (some ⟨b2, 0, none⟩)] W fun e W' => e = .returned (.tuple #[]) ∧ ST w0 bw W' (xs ++ encP nm z) ∧ KP [bw] W W' := by
  have hb2 : b2 ≠ bw := by
    intro e
    subst e
    obtain ⟨_, _, v, h3, _⟩ := hst
    rw [h2] at h3
    injection h3 with h3
    injection h3 with _ h3 _
    cases h3
  have hl1 : (xs ++ [nm].flatMap encT ++ encN z).length ≤ 549755813888 := by
    unfold encP at hl
    simpa [List.append_assoc] using hl
  have hbs : b2 < W.heap.size := (Array.getElem?_eq_some_iff.1 h2).1
  obtain ⟨X, hX⟩ : ∃ X, X = W.alloc (.cells #[.string nm, .int .i64 (z : Int)] 55) := ⟨_, rfl⟩
  have hXs : X.heap.size = W.heap.size + 1 := by rw [hX]; simp
  have hX2 : X.heap[b2]? = some (.cells #[.pointer (some ⟨bw, 0, none⟩)] 60 (0, 0)) := by rw [hX, Below.heap_alloc _ _ _ hbs]; exact h2
  have hXb : X.heap[W.heap.size]? = some (.cells #[.string nm, .int .i64 (z : Int)] 55 (0, 0)) := by rw [hX]; exact heap_alloc_new W _
  have hXst : ST w0 bw X xs := by rw [hX]; exact hst.alloc _
  have hXk : KP [bw] W X := by rw [hX]; exact (KP.refl _ _).alloc _
  have hWn := not_in_new hst
  have HNM := hide (show Calls Try.prog 48 #[.pointer (some ⟨bw, 0, none⟩), .slice (some ⟨X.heap.size, 0, none⟩) 1 1] (X.alloc (.cells #[.string nm] 9)) _ from iNames w0 bw [nm] _ xs _ (hXst.alloc _) (fun V _ hV => builtS [nm] [bw] X (by intro s hs'; simp at hs'; subst hs'; unfold maxLen; omega) (by simp [maxLen]) (not_in_new hXst) V hV) (by intro s hs'; simp at hs'; subst hs'; exact hs) (by simp) (len_left hl1))
  have HNU := hide (fun (V : World) (h : ST w0 bw V (xs ++ [nm].flatMap encT)) => (show Calls Try.prog 49 #[.pointer (some ⟨bw, 0, none⟩), .slice (some ⟨V.heap.size, 0, none⟩) 1 1] (V.alloc (.cells #[.int .i64 (z : Int)] 3)) _ from iNumbers w0 bw [z] _ (xs ++ [nm].flatMap encT) _ (h.alloc _) (fun U _ hU => builtI [z] [bw] V (by simp) (not_in_new h) U hU) (by intro n hn; simp at hn; subst hn; exact hz) (by simp) (by simpa using hl1)))
  have HKX : Hid (∀ V, KP [bw] X V → V.cell? ⟨b2, 0, none⟩ = some (.pointer (some ⟨bw, 0, none⟩)) ∧ V.cell? ⟨W.heap.size, 0, none⟩ = some (.string nm) ∧ V.cell? ⟨W.heap.size, 1, none⟩ = some (.int .i64 (z : Int))) := hide (fun V hV => by
    have e1 := hV.keep b2 _ hX2 (notB_cells (by decide)) (by simpa using hb2)
    have e2 := hV.keep W.heap.size _ hXb (notB_cells (by decide)) hWn
    exact ⟨cell_of e1 rfl, cell_of e2 rfl, cell_of e2 rfl⟩)
  have HX := hide hX
  have HXS := hide hXst
  have HXK := hide hXk
  clear hX hXs hX2 hXb hXst hXk hst hWn hl hl1 hb2
  obtain ⟨p0, p1, p2⟩ := unhide HKX X (KP.refl _ _)
  have k2 : (W.alloc (.cells #[.string nm, .int .i64 (z : Int)] 55)).cell? ⟨b2, 0, none⟩ = some (.pointer (some ⟨bw, 0, none⟩)) := cell_later (bal (brf W) _) (cell_of h2 rfl)
  clear h2 hbs
  go_enter Try.func47, Try.ntmps47
  go_wp2_with fail
  rw [← unhide HX]
  refine (by have h := unhide HNM; rw [show X.heap.size = W.heap.size + 1 by rw [unhide HX]; simp] at h; exact h : Calls Try.prog 48 #[.pointer (some ⟨bw, 0, none⟩), .slice (some ⟨W.heap.size + 1, 0, none⟩) 1 1] (X.alloc (.cells #[.string nm] 9)) _).mono ?_
  rintro e W1 ⟨rfl, hst1, hkp1⟩
  have HS1 := hide hst1
  have HK1 := hide (((KP.refl [bw] X).alloc (.cells #[.string nm] 9)).trans hkp1)
  clear hst1 hkp1 p0 p1 p2 k2
  obtain ⟨p0, p1, p2⟩ := unhide HKX W1 (unhide HK1)
  go_wp2_with fail
  refine (unhide HNU W1 (unhide HS1)).mono ?_
  rintro e W2 ⟨rfl, hst2, hkp2⟩
  have HS2 := hide hst2
  have HK2 := hide ((unhide HXK).trans (((unhide HK1).alloc (.cells #[.int .i64 (z : Int)] 3)).trans hkp2))
  clear hst2 hkp2
  go_wp2_with fail
  refine bodyPost_end (v := .tuple #[]) (by simp [results, Try.results47, go_sem]) rfl ⟨rfl, ?_, unhide HK2⟩
  have h := unhide HS2
  unfold encP
  simpa [List.append_assoc] using h
set_option maxHeartbeats 16000000 in
theorem iPut1Latch (w0 : World) (bw b2 : Nat) (nm : ByteArray) (z1 z2 z3 : Nat) (xs : List UInt8) (W : World) (hst : ST w0 bw W xs) (h2 : W.heap[b2]? = some (.cells #[.pointer (some ⟨bw, 0, none⟩)] 60 (0, 0))) (hs : nm.size ≤ 1048576) (hz1 : z1 ≤ 4611686018427387904) (hz2 : z2 ≤ 4611686018427387904) (hz3 : z3 ≤ 4611686018427387904) (hl : (xs ++ encLt nm z1 z2 z3).length ≤ 549755813888) :
    Calls Try.prog 52 #[.agg #[.string nm, .int .i64 (z1 : Int), .int .i64 (z2 : Int), .int .i64 (z3 : Int)], .pointer (some ⟨b2, 0, none⟩)] W fun e W' => e = .returned (.tuple #[]) ∧ ST w0 bw W' (xs ++ encLt nm z1 z2 z3) ∧ KP [bw] W W' := by
  have hb2 : b2 ≠ bw := by
    intro e
    subst e
    obtain ⟨_, _, v, h3, _⟩ := hst
    rw [h2] at h3
    injection h3 with h3
    injection h3 with _ h3 _
    cases h3
  have hl1 : (xs ++ [nm].flatMap encT ++ [z1, z2, z3].flatMap encN).length ≤ 549755813888 := by
    unfold encLt at hl
    simpa [List.append_assoc] using hl
  have hbs : b2 < W.heap.size := (Array.getElem?_eq_some_iff.1 h2).1
  obtain ⟨X, hX⟩ : ∃ X, X = W.alloc (.cells #[.string nm, .int .i64 (z1 : Int), .int .i64 (z2 : Int), .int .i64 (z3 : Int)] 51) := ⟨_, rfl⟩
  have hXs : X.heap.size = W.heap.size + 1 := by rw [hX]; simp
  have hX2 : X.heap[b2]? = some (.cells #[.pointer (some ⟨bw, 0, none⟩)] 60 (0, 0)) := by rw [hX, Below.heap_alloc _ _ _ hbs]; exact h2
  have hXb : X.heap[W.heap.size]? = some (.cells #[.string nm, .int .i64 (z1 : Int), .int .i64 (z2 : Int), .int .i64 (z3 : Int)] 51 (0, 0)) := by rw [hX]; exact heap_alloc_new W _
  have hXst : ST w0 bw X xs := by rw [hX]; exact hst.alloc _
  have hXk : KP [bw] W X := by rw [hX]; exact (KP.refl _ _).alloc _
  have hWn := not_in_new hst
  have HNM := hide (show Calls Try.prog 48 #[.pointer (some ⟨bw, 0, none⟩), .slice (some ⟨X.heap.size, 0, none⟩) 1 1] (X.alloc (.cells #[.string nm] 9)) _ from iNames w0 bw [nm] _ xs _ (hXst.alloc _) (fun V _ hV => builtS [nm] [bw] X (by intro s hs'; simp at hs'; subst hs'; unfold maxLen; omega) (by simp [maxLen]) (not_in_new hXst) V hV) (by intro s hs'; simp at hs'; subst hs'; exact hs) (by simp) (len_left hl1))
  have HNU := hide (fun (V : World) (h : ST w0 bw V (xs ++ [nm].flatMap encT)) => (show Calls Try.prog 49 #[.pointer (some ⟨bw, 0, none⟩), .slice (some ⟨V.heap.size, 0, none⟩) 3 3] (V.alloc (.cells #[.int .i64 (z1 : Int), .int .i64 (z2 : Int), .int .i64 (z3 : Int)] 3)) _ from iNumbers w0 bw [z1, z2, z3] _ (xs ++ [nm].flatMap encT) _ (h.alloc _) (fun U _ hU => builtI [z1, z2, z3] [bw] V (by simp) (not_in_new h) U hU) (by intro n hn; simp at hn; rcases hn with rfl | rfl | rfl <;> assumption) (by simp) (by simpa using hl1)))
  have HKX : Hid (∀ V, KP [bw] X V → V.cell? ⟨b2, 0, none⟩ = some (.pointer (some ⟨bw, 0, none⟩)) ∧ V.cell? ⟨W.heap.size, 0, none⟩ = some (.string nm) ∧ V.cell? ⟨W.heap.size, 1, none⟩ = some (.int .i64 (z1 : Int)) ∧ V.cell? ⟨W.heap.size, 2, none⟩ = some (.int .i64 (z2 : Int)) ∧ V.cell? ⟨W.heap.size, 3, none⟩ = some (.int .i64 (z3 : Int))) := hide (fun V hV => by
    have e1 := hV.keep b2 _ hX2 (notB_cells (by decide)) (by simpa using hb2)
    have e2 := hV.keep W.heap.size _ hXb (notB_cells (by decide)) hWn
    exact ⟨cell_of e1 rfl, cell_of e2 rfl, cell_of e2 rfl, cell_of e2 rfl, cell_of e2 rfl⟩)
  have HX := hide hX
  have HXS := hide hXst
  have HXK := hide hXk
  clear hX hXs hX2 hXb hXst hXk hst hWn hl hl1 hb2
  obtain ⟨p0, p1, p2, p3, p4⟩ := unhide HKX X (KP.refl _ _)
  have k2 : (W.alloc (.cells #[.string nm, .int .i64 (z1 : Int), .int .i64 (z2 : Int), .int .i64 (z3 : Int)] 51)).cell? ⟨b2, 0, none⟩ = some (.pointer (some ⟨bw, 0, none⟩)) := cell_later (bal (brf W) _) (cell_of h2 rfl)
  clear h2 hbs
  go_enter Try.func52, Try.ntmps52
  go_wp2_with fail
  rw [← unhide HX]
  refine (by have h := unhide HNM; rw [show X.heap.size = W.heap.size + 1 by rw [unhide HX]; simp] at h; exact h : Calls Try.prog 48 #[.pointer (some ⟨bw, 0, none⟩), .slice (some ⟨W.heap.size + 1, 0, none⟩) 1 1] (X.alloc (.cells #[.string nm] 9)) _).mono ?_
  rintro e W1 ⟨rfl, hst1, hkp1⟩
  have HS1 := hide hst1
  have HK1 := hide (((KP.refl [bw] X).alloc (.cells #[.string nm] 9)).trans hkp1)
  clear hst1 hkp1 p0 p1 p2 p3 p4 k2
  obtain ⟨p0, p1, p2, p3, p4⟩ := unhide HKX W1 (unhide HK1)
  go_wp2_with fail
  refine (unhide HNU W1 (unhide HS1)).mono ?_
  rintro e W2 ⟨rfl, hst2, hkp2⟩
  have HS2 := hide hst2
  have HK2 := hide ((unhide HXK).trans (((unhide HK1).alloc (.cells #[.int .i64 (z1 : Int), .int .i64 (z2 : Int), .int .i64 (z3 : Int)] 3)).trans hkp2))
  clear hst2 hkp2
  go_wp2_with fail
  refine bodyPost_end (v := .tuple #[]) (by simp [results, Try.results52, go_sem]) rfl ⟨rfl, ?_, unhide HK2⟩
  have h := unhide HS2
  unfold encLt
  simpa [List.append_assoc] using h
end Go.Proofs.Ytaamibonpmijaab
namespace Go.Proofs.Ytaamibonpmijaab
open Go Go.RowKit Gs
set_option linter.unusedVariables false
set_option linter.unusedSimpArgs false
set_option maxRecDepth 100000
theorem ST.setOther {w0 : World} {bw : Nat} {W : World} {xs : List UInt8} (h : ST w0 bw W xs) {b : Nat} {o : Obj} (hb : W.heap[b]? = some o) (hn : notB o) (hne : b ≠ bw) (hw : w0.heap.size ≤ b) (k : Nat) (y : Value) : ST w0 bw (W.setCell ⟨b, k, none⟩ y) xs := by
  obtain ⟨h1, h2, v, h3, h4⟩ := h
  refine ⟨h1.setCell hw y, h2, v, ?_, ?_⟩
  · rw [Below.heap_setCell W ⟨b, k, none⟩ y bw (fun e => hne (Eq.symm e))]
    exact h3
  · have hx := own_not h4 hb hn
    obtain ⟨e1, e2 | ⟨g, cap, cur, hv, hg', hcc, rest⟩⟩ := h4
    · exact ⟨e1, .inl e2⟩
    · refine ⟨e1, .inr ⟨g, cap, cur, hv, hg', ?_, rest⟩⟩
      rw [Below.heap_setCell W ⟨b, k, none⟩ y g (fun e => hx (by rw [hv]; simp [Value.ownBlock]; exact Eq.symm e))]
      exact hcc
/-- An and as bytes. -/
def encA (vn a b : Nat) : List UInt8 := encN (2 * vn - max a b) ++ encN (max a b - min a b)
def FA3 (B a b hi lo : Nat) : Nat → Value → Prop
  | 0, v => v = .pointer (some ⟨B, 0, none⟩)
  | 1, v => v = .int .i64 (a : Int)
  | 2, v => v = .pointer (some ⟨B, 1, none⟩)
  | 3, v => v = .int .i64 (b : Int)
  | 4, v => v = .int .i64 (hi : Int)
  | 5, v => v = .pointer (some ⟨B, 0, none⟩)
  | 6, v => v = .int .i64 (a : Int)
  | 7, v => v = .pointer (some ⟨B, 1, none⟩)
  | 8, v => v = .int .i64 (b : Int)
  | 9, v => v = .int .i64 (lo : Int)
  | 10, v => v = .int .i64 (hi : Int)
  | 11, v => v = .int .i64 (lo : Int)
  | _, _ => True
set_option maxHeartbeats 16000000 in
theorem iPut1And (w0 : World) (bw b2 bvr a b vn : Nat) (xs : List UInt8) (W : World) (hst : ST w0 bw W xs) (h2 : W.heap[b2]? = some (.cells #[.pointer (some ⟨bw, 0, none⟩)] 60 (0, 0))) (hv : W.heap[bvr]? = some (.cells #[.int .i64 (vn : Int)] 3 (0, 0))) (hvb : w0.heap.size ≤ bvr) (ha : a < 2 * vn) (hb : b < 2 * vn) (hvn : vn ≤ 4194304) (hl : (xs ++ encA vn a b).length ≤ 549755813888) :
    Calls Try.prog 55 #[.agg #[.int .i64 (a : Int), .int .i64 (b : Int)], .pointer (some ⟨b2, 0, none⟩), .pointer (some ⟨bvr, 0, none⟩)] W fun e W' => e = .returned (.tuple #[]) ∧ ST w0 bw W' (xs ++ encA vn a b) ∧ KP [bw, bvr] W W' ∧ W'.heap[bvr]? = some (.cells #[.int .i64 ((vn + 1 : Nat) : Int)] 3 (0, 0)) := by
  have ty : ∀ {c : Nat} {cs : Array Value} {t : TypeId}, t ≠ 62 → W.heap[c]? = some (.cells cs t (0, 0)) → c ≠ bw := by
    intro c cs t ht hc e
    subst e
    obtain ⟨_, _, v, h3, _⟩ := hst
    rw [hc] at h3
    injection h3 with h3
    injection h3 with _ h3 _
    exact ht h3
  have hb2 : b2 ≠ bw := ty (by decide) h2
  have hbv : bvr ≠ bw := ty (by decide) hv
  obtain ⟨hi, hhi⟩ : ∃ hi, hi = max a b := ⟨_, rfl⟩
  obtain ⟨lo, hlo⟩ : ∃ lo, lo = min a b := ⟨_, rfl⟩
  have hcase : (((a : Int) < (b : Int)) ∧ (¬ ((b : Int) < (a : Int))) ∧ hi = b ∧ lo = a) ∨ (a = b ∧ hi = b ∧ lo = b) ∨ ((¬ ((a : Int) < (b : Int))) ∧ ((b : Int) < (a : Int)) ∧ hi = a ∧ lo = b) := by omega
  obtain ⟨d1, hd1⟩ : ∃ d1, d1 = 2 * vn - hi := ⟨_, rfl⟩
  obtain ⟨d2, hd2⟩ : ∃ d2, d2 = hi - lo := ⟨_, rfl⟩
  have r1 : 2 * (vn : Int) - (hi : Int) = (d1 : Int) := by omega
  have r2 : (hi : Int) - (lo : Int) = (d2 : Int) := by omega
  have HEN : Hid (encA vn a b = [d1, d2].flatMap encN) := hide (by unfold encA; rw [← hhi, ← hlo, ← hd1, ← hd2]; simp)
  have hd1b : d1 ≤ 8388608 := by omega
  have hd2b : d2 ≤ 8388608 := by omega
  rw [unhide HEN] at hl
  clear hhi hlo hd1 hd2
  have hbs : b2 < W.heap.size := (Array.getElem?_eq_some_iff.1 h2).1
  have hvs : bvr < W.heap.size := (Array.getElem?_eq_some_iff.1 hv).1
  obtain ⟨X, hX⟩ : ∃ X, X = W.alloc (.cells #[.int .i64 (a : Int), .int .i64 (b : Int)] 53) := ⟨_, rfl⟩
  have hX2 : X.heap[b2]? = some (.cells #[.pointer (some ⟨bw, 0, none⟩)] 60 (0, 0)) := by rw [hX, Below.heap_alloc _ _ _ hbs]; exact h2
  have hXv : X.heap[bvr]? = some (.cells #[.int .i64 (vn : Int)] 3 (0, 0)) := by rw [hX, Below.heap_alloc _ _ _ hvs]; exact hv
  have hXb : X.heap[W.heap.size]? = some (.cells #[.int .i64 (a : Int), .int .i64 (b : Int)] 53 (0, 0)) := by rw [hX]; exact heap_alloc_new W _
  have HXS : Hid (ST w0 bw X xs) := hide (by rw [hX]; exact hst.alloc _)
  have HXK : Hid (KP [bw, bvr] W X) := hide (by rw [hX]; exact (KP.refl _ _).alloc _)
  have HQ : Hid (∀ V, Below X.heap.size X V → V.cell? ⟨W.heap.size, 0, none⟩ = some (.int .i64 (a : Int)) ∧ V.cell? ⟨W.heap.size, 1, none⟩ = some (.int .i64 (b : Int))) := hide (fun V h => ⟨cell_later h (cell_of hXb rfl), cell_later h (cell_of hXb rfl)⟩)
  have HKX : Hid (∀ V, KP [bw] X V → V.cell? ⟨b2, 0, none⟩ = some (.pointer (some ⟨bw, 0, none⟩)) ∧ V.cell? ⟨bvr, 0, none⟩ = some (.int .i64 (vn : Int)) ∧ V.frozen? ⟨bvr, 0, none⟩ = false ∧ V.heap[bvr]? = some (.cells #[.int .i64 (vn : Int)] 3 (0, 0))) := hide (fun V hV => by
    have e1 := hV.keep b2 _ hX2 (notB_cells (by decide)) (by simpa using hb2)
    have e2 := hV.keep bvr _ hXv (notB_cells (by decide)) (by simpa using hbv)
    exact ⟨cell_of e1 rfl, cell_of e2 rfl, froz_of e2, e2⟩)
  have HX := hide hX
  have HL := hide hl
  have HSO := hide (fun (V : World) (h : ST w0 bw V (xs ++ [d1, d2].flatMap encN)) (hh : V.heap[bvr]? = some (.cells #[.int .i64 (vn : Int)] 3 (0, 0))) (y : Value) => h.setOther hh (notB_cells (by decide)) hbv hvb 0 y)
  clear hX hX2 hXv hXb hst h2 hv hbs hvs ty hl hb2
  go_enter Try.func55, Try.ntmps55
  go_wp2
  rw [← unhide HX]
  refine wp_plan (GF (FA3 W.heap.size a b hi lo)) (JB X) (by kernel_rfl) 28 (by kernel_rfl) (by kernel_rfl) ?hj ?hs ?hf
  case hj => exact bdr (brf X)
  case hs =>
    refine ⟨?_, ?_, ?_, ?_, ?_, ?_, ?_, ?_, ?_, ?_, ?_, ?_, trivial⟩
    · exact st_val rfl (fun l a' V hp ha => ⟨.pointer (some ⟨W.heap.size, 0, none⟩), by
        have x3 := (ev_form a' 3).trans (old hp 3 (v := .pointer (some ⟨W.heap.size, 0, none⟩)) (by kernel_rfl) (by kernel_rfl))
        go_simp, rfl⟩)
    · exact st_val rfl (fun l a' V hp ha => ⟨.int .i64 (a : Int), by
        have x6 := (ev_form a' 6).trans (show a'.eval (.tmp 6) = .pointer (some ⟨W.heap.size, 0, none⟩) from kn hp ha 6 0 (by kernel_rfl) (by kernel_rfl))
        obtain ⟨q0, q1⟩ := unhide HQ V hp.j
        go_simp, rfl⟩)
    · exact st_val rfl (fun l a' V hp ha => ⟨.pointer (some ⟨W.heap.size, 1, none⟩), by
        have x3 := (ev_form a' 3).trans (old hp 3 (v := .pointer (some ⟨W.heap.size, 0, none⟩)) (by kernel_rfl) (by kernel_rfl))
        go_simp, rfl⟩)
    · exact st_val rfl (fun l a' V hp ha => ⟨.int .i64 (b : Int), by
        have x8 := (ev_form a' 8).trans (show a'.eval (.tmp 8) = .pointer (some ⟨W.heap.size, 1, none⟩) from kn hp ha 8 2 (by kernel_rfl) (by kernel_rfl))
        obtain ⟨q0, q1⟩ := unhide HQ V hp.j
        go_simp, rfl⟩)
    · exact st_val rfl (fun l a' V hp ha => ⟨.int .i64 (hi : Int), by
        have x7 := (ev_form a' 7).trans (show a'.eval (.tmp 7) = .int .i64 (a : Int) from kn hp ha 7 1 (by kernel_rfl) (by kernel_rfl))
        have x9 := (ev_form a' 9).trans (show a'.eval (.tmp 9) = .int .i64 (b : Int) from kn hp ha 9 3 (by kernel_rfl) (by kernel_rfl))
        rcases hcase with ⟨h1, h2, rfl, rfl⟩ | ⟨h1, rfl, rfl⟩ | ⟨h1, h2, rfl, rfl⟩
        · (go_simp) <;> (intro _; omega)
        · subst h1; go_simp
        · (go_simp) <;> (intro _; omega), rfl⟩)
    · exact st_val rfl (fun l a' V hp ha => ⟨.pointer (some ⟨W.heap.size, 0, none⟩), by
        have x3 := (ev_form a' 3).trans (old hp 3 (v := .pointer (some ⟨W.heap.size, 0, none⟩)) (by kernel_rfl) (by kernel_rfl))
        go_simp, rfl⟩)
    · exact st_val rfl (fun l a' V hp ha => ⟨.int .i64 (a : Int), by
        have x11 := (ev_form a' 11).trans (show a'.eval (.tmp 11) = .pointer (some ⟨W.heap.size, 0, none⟩) from kn hp ha 11 5 (by kernel_rfl) (by kernel_rfl))
        obtain ⟨q0, q1⟩ := unhide HQ V hp.j
        go_simp, rfl⟩)
    · exact st_val rfl (fun l a' V hp ha => ⟨.pointer (some ⟨W.heap.size, 1, none⟩), by
        have x3 := (ev_form a' 3).trans (old hp 3 (v := .pointer (some ⟨W.heap.size, 0, none⟩)) (by kernel_rfl) (by kernel_rfl))
        go_simp, rfl⟩)
    · exact st_val rfl (fun l a' V hp ha => ⟨.int .i64 (b : Int), by
        have x13 := (ev_form a' 13).trans (show a'.eval (.tmp 13) = .pointer (some ⟨W.heap.size, 1, none⟩) from kn hp ha 13 7 (by kernel_rfl) (by kernel_rfl))
        obtain ⟨q0, q1⟩ := unhide HQ V hp.j
        go_simp, rfl⟩)
    · exact st_val rfl (fun l a' V hp ha => ⟨.int .i64 (lo : Int), by
        have x12 := (ev_form a' 12).trans (show a'.eval (.tmp 12) = .int .i64 (a : Int) from kn hp ha 12 6 (by kernel_rfl) (by kernel_rfl))
        have x14 := (ev_form a' 14).trans (show a'.eval (.tmp 14) = .int .i64 (b : Int) from kn hp ha 14 8 (by kernel_rfl) (by kernel_rfl))
        rcases hcase with ⟨h1, h2, rfl, rfl⟩ | ⟨h1, rfl, rfl⟩ | ⟨h1, h2, rfl, rfl⟩
        · (go_simp) <;> (intro _; omega)
        · subst h1; go_simp
        · (go_simp) <;> (intro _; omega), rfl⟩)
    · exact st_val rfl (fun l a' V hp ha => ⟨.int .i64 (hi : Int), by
        have x10 := (ev_form a' 10).trans (show a'.eval (.tmp 10) = .int .i64 (hi : Int) from kn hp ha 10 4 (by kernel_rfl) (by kernel_rfl))
        go_simp, rfl⟩)
    · exact st_val rfl (fun l a' V hp ha => ⟨.int .i64 (lo : Int), by
        have x15 := (ev_form a' 15).trans (show a'.eval (.tmp 15) = .int .i64 (lo : Int) from kn hp ha 15 9 (by kernel_rfl) (by kernel_rfl))
        go_simp, rfl⟩)
  case hf =>
    intro l a' V hp hall
    have hv4 := hp.good 10 _ 4 rfl rfl (hall 10 (by decide))
    have hv5 := hp.good 11 _ 5 rfl rfl (hall 11 (by decide))
    have HBV := hide hp.j
    obtain ⟨us, rfl, hus⟩ := putAll_of [6, 7, 8, 9, 10, 11, 12, 13, 14, 15, 4, 5] hp.nt hp.df (fun t ht => hp.keep t (dstIn (by kernel_rfl) ht))
    have hu4 : us 4 = .int .i64 (hi : Int) := (hus 4).trans hv4
    have hu5 : us 5 = .int .i64 (lo : Int) := (hus 5).trans hv5
    clear hp hall hv4 hv5 hus hcase
    simp only [putAll, List.foldl, Act.put, List.setIfInBounds_toArray, List.set_cons_zero, List.set_cons_succ, hu4, hu5]
    clear hu4 hu5
    generalize us 6 = y6 at *
    generalize us 7 = y7 at *
    generalize us 8 = y8 at *
    generalize us 9 = y9 at *
    generalize us 10 = y10 at *
    generalize us 11 = y11 at *
    generalize us 12 = y12 at *
    generalize us 13 = y13 at *
    generalize us 14 = y14 at *
    generalize us 15 = y15 at *
    have HSV := hide ((unhide HXS).later (unhide HBV))
    have HKV := hide (KP.of_below (S := [bw]) (unhide HBV))
    have HNU := hide (show Calls Try.prog 49 #[.pointer (some ⟨bw, 0, none⟩), .slice (some ⟨V.heap.size, 0, none⟩) 2 2] (V.alloc (.cells #[.int .i64 (d1 : Int), .int .i64 (d2 : Int)] 3)) _ from iNumbers w0 bw [d1, d2] _ xs _ ((unhide HSV).alloc _) (fun U _ hU => builtI [d1, d2] [bw] V (by simp) (not_in_new (unhide HSV)) U hU) (by intro n hn; simp at hn; rcases hn with rfl | rfl <;> omega) (by simp) (unhide HL))
    obtain ⟨p0, p1, p2, p3⟩ := unhide HKX V (unhide HKV)
    clear p2 p3
    go_wp2_with fail
    refine (unhide HNU).mono ?_
    rintro e W1 ⟨rfl, hst1, hkp1⟩
    have HS1 := hide hst1
    have HK1 := hide (((unhide HKV).alloc (.cells #[.int .i64 (d1 : Int), .int .i64 (d2 : Int)] 3)).trans hkp1)
    clear hst1 hkp1 p0 p1
    obtain ⟨p0, p1, p2, p3⟩ := unhide HKX W1 (unhide HK1)
    have HP3 := hide p3
    clear p3
    go_wp2_with fail
    refine bodyPost_end (v := .tuple #[]) (by simp [results, Try.results55, go_sem]) rfl ⟨rfl, ?_, ?_, ?_⟩
    · rw [unhide HEN]; exact unhide HSO _ (unhide HS1) (unhide HP3) _
    · exact ((unhide HXK).trans ((unhide HK1).wide (by simp))).set (by simp) 0 _
    · have h := heap_setCell_same W1 bvr 0 #[.int .i64 (vn : Int)] 3 (.int .i64 ((vn : Int) + 1)) (unhide HP3)
      simpa using h
end Go.Proofs.Ytaamibonpmijaab
namespace Go.Proofs.Ytaamibonpmijaab
open Go Go.RowKit Gs
set_option linter.unusedVariables false
set_option linter.unusedSimpArgs false
set_option maxRecDepth 100000
set_option maxHeartbeats 16000000 in
theorem iPutListLatch (w0 : World) (bw c0 : Nat) (ts : List Latch) (v : Value) (xs : List UInt8) (W : World) (I : Nat → World → Prop) (hst : ST w0 bw W xs) (hr : RS 4 RLatch w0 0 ts v) (hk : ts.length ≤ 1048576) (hl : (xs ++ encN ts.length).length ≤ 549755813888)
    (hI0 : ∀ V, ST w0 bw V (xs ++ encN ts.length) → KP [bw] W V → I 0 V) (hIb : ∀ j V, I j V → Below w0.heap.size w0 V)
    (hIs : ∀ (j : Nat) x V, ts[j]? = some x → I j V → Calls Try.prog 52 #[.agg #[.string x.name, .int .i64 x.next, .int .i64 x.init, .int .i64 x.clock], .pointer (some ⟨c0, 0, none⟩)] (V.alloc (.cells #[.string x.name, .int .i64 x.next, .int .i64 x.init, .int .i64 x.clock] 51)) fun e V' => e = .returned (.tuple #[]) ∧ I (j + 1) V') :
    Calls Try.prog 51 #[.pointer (some ⟨bw, 0, none⟩), v, .func (.func 52) #[] #[.pointer (some ⟨c0, 0, none⟩)]] W fun e W' => e = .returned (.tuple #[]) ∧ I ts.length W' := by
  have HNUM := hide (show Calls Try.prog 49 #[.pointer (some ⟨bw, 0, none⟩), .slice (some ⟨W.heap.size, 0, none⟩) 1 1] (W.alloc (.cells #[.int .i64 (ts.length : Int)] 3)) _ from iNumbers w0 bw [ts.length] _ xs _ (hst.alloc _) (fun V _ hV => builtI [ts.length] [bw] W (by simp) (not_in_new hst) V hV) (by intro n hn; simp at hn; subst hn; omega) (by simp) (by simpa using hl))
  have HI0 := hide hI0
  have HIB := hide hIb
  have HIS := hide hIs
  have HRD : Hid (∀ (i : Nat) x, ts[i]? = some x → ∃ b o c, v = .slice (some ⟨b, o, none⟩) ts.length c ∧ w0.cell? ⟨b, o + i * 4, none⟩ = some (.string x.name) ∧ w0.cell? ⟨b, o + i * 4 + 1, none⟩ = some (.int .i64 x.next) ∧ w0.cell? ⟨b, o + i * 4 + 2, none⟩ = some (.int .i64 x.init) ∧ w0.cell? ⟨b, o + i * 4 + 3, none⟩ = some (.int .i64 x.clock)) := hide (by
    intro i x hi
    rcases hr.open with ⟨h, _⟩ | ⟨b, o, c, hv, _, _, _, he⟩
    · rw [h] at hi; simp at hi
    · obtain ⟨u, _, hat, hux⟩ := he i x hi
      unfold RLatch at hux
      obtain ⟨rfl, _⟩ := hux
      exact ⟨b, o, c, hv, by simpa using hat.get (j := 0) rfl, by simpa using hat.get (j := 1) rfl, by simpa using hat.get (j := 2) rfl, by simpa using hat.get (j := 3) rfl⟩)
  obtain ⟨a, c, rfl⟩ := hr.slice
  clear hr hst hl hI0 hIb hIs
  go_enter Try.func51, Try.ntmps51
  go_wp2_with fail
  refine (unhide HNUM).mono ?_
  rintro e W1 ⟨rfl, hst1, hkp1⟩
  have HI := hide (unhide HI0 W1 (by simpa using hst1) (((KP.refl [bw] W).alloc (.cells #[.int .i64 (ts.length : Int)] 3)).trans hkp1))
  clear hst1 hkp1
  go_wp2
  go_loopw [15] (fun i wr => ∃ k : Nat, k ≤ ts.length ∧ i = .int .i64 k ∧ I k wr) (fun i wr => ts.length - (intOf i).toNat)
  case atStart => exact ⟨0, Nat.zero_le _, rfl, unhide HI⟩
  case round =>
    clear HI
    obtain ⟨k, hkk, rfl, hI⟩ := hrel
    by_cases hlt : k < ts.length
    · have hx : ts[k]? = some ts[k] := List.getElem?_eq_getElem hlt
      generalize ts[k] = x at hx
      obtain ⟨b, o, c', hv, k0, k1, k2, k3⟩ := unhide HRD k x hx
      have hbb := unhide HIB k wr hI
      injection hv with e1 e2 e3
      subst e1
      have m0 := cell_later hbb k0
      have m1 := cell_later hbb k1
      have m2 := cell_later hbb k2
      have m3 := cell_later hbb k3
      have HC := hide (unhide HIS k x wr hx hI)
      clear hbb hI hx e2 e3 HRD k0 k1 k2 k3
      generalize x.name = f0 at *
      generalize x.next = f1 at *
      generalize x.init = f2 at *
      generalize x.clock = f3 at *
      go_wp2_with fail
      refine (unhide HC).mono ?_
      rintro e W2 ⟨rfl, hI2⟩
      have HI2 := hide hI2
      clear hI2
      go_wp2_with fail
      go_roundw
      case rel => exact ⟨k + 1, by omega, by go_num, unhide HI2⟩
      case measure => simp [intOf]; omega
    · obtain rfl : k = ts.length := by omega
      have HI := hide hI
      clear hI HRD
      go_wp2
      exact bodyPost_end (v := .tuple #[]) (by simp [results, Try.results51, go_sem]) rfl ⟨rfl, unhide HI⟩
set_option maxHeartbeats 16000000 in
theorem iPutListPin (w0 : World) (bw c0 : Nat) (ts : List Pin) (v : Value) (xs : List UInt8) (W : World) (I : Nat → World → Prop) (hst : ST w0 bw W xs) (hr : RS 2 RPin w0 0 ts v) (hk : ts.length ≤ 1048576) (hl : (xs ++ encN ts.length).length ≤ 549755813888)
    (hI0 : ∀ V, ST w0 bw V (xs ++ encN ts.length) → KP [bw] W V → I 0 V) (hIb : ∀ j V, I j V → Below w0.heap.size w0 V)
    (hIs : ∀ (j : Nat) x V, ts[j]? = some x → I j V → Calls Try.prog 47 #[.agg #[.string x.name, .int .i64 x.lit], .pointer (some ⟨c0, 0, none⟩)] (V.alloc (.cells #[.string x.name, .int .i64 x.lit] 55)) fun e V' => e = .returned (.tuple #[]) ∧ I (j + 1) V') :
    Calls Try.prog 56 #[.pointer (some ⟨bw, 0, none⟩), v, .func (.func 47) #[] #[.pointer (some ⟨c0, 0, none⟩)]] W fun e W' => e = .returned (.tuple #[]) ∧ I ts.length W' := by
  have HNUM := hide (show Calls Try.prog 49 #[.pointer (some ⟨bw, 0, none⟩), .slice (some ⟨W.heap.size, 0, none⟩) 1 1] (W.alloc (.cells #[.int .i64 (ts.length : Int)] 3)) _ from iNumbers w0 bw [ts.length] _ xs _ (hst.alloc _) (fun V _ hV => builtI [ts.length] [bw] W (by simp) (not_in_new hst) V hV) (by intro n hn; simp at hn; subst hn; omega) (by simp) (by simpa using hl))
  have HI0 := hide hI0
  have HIB := hide hIb
  have HIS := hide hIs
  have HRD : Hid (∀ (i : Nat) x, ts[i]? = some x → ∃ b o c, v = .slice (some ⟨b, o, none⟩) ts.length c ∧ w0.cell? ⟨b, o + i * 2, none⟩ = some (.string x.name) ∧ w0.cell? ⟨b, o + i * 2 + 1, none⟩ = some (.int .i64 x.lit)) := hide (by
    intro i x hi
    rcases hr.open with ⟨h, _⟩ | ⟨b, o, c, hv, _, _, _, he⟩
    · rw [h] at hi; simp at hi
    · obtain ⟨u, _, hat, hux⟩ := he i x hi
      unfold RPin at hux
      obtain ⟨rfl, _⟩ := hux
      exact ⟨b, o, c, hv, by simpa using hat.get (j := 0) rfl, by simpa using hat.get (j := 1) rfl⟩)
  obtain ⟨a, c, rfl⟩ := hr.slice
  clear hr hst hl hI0 hIb hIs
  go_enter Try.func56, Try.ntmps56
  go_wp2_with fail
  refine (unhide HNUM).mono ?_
  rintro e W1 ⟨rfl, hst1, hkp1⟩
  have HI := hide (unhide HI0 W1 (by simpa using hst1) (((KP.refl [bw] W).alloc (.cells #[.int .i64 (ts.length : Int)] 3)).trans hkp1))
  clear hst1 hkp1
  go_wp2
  go_loopw [15] (fun i wr => ∃ k : Nat, k ≤ ts.length ∧ i = .int .i64 k ∧ I k wr) (fun i wr => ts.length - (intOf i).toNat)
  case atStart => exact ⟨0, Nat.zero_le _, rfl, unhide HI⟩
  case round =>
    clear HI
    obtain ⟨k, hkk, rfl, hI⟩ := hrel
    by_cases hlt : k < ts.length
    · have hx : ts[k]? = some ts[k] := List.getElem?_eq_getElem hlt
      generalize ts[k] = x at hx
      obtain ⟨b, o, c', hv, k0, k1⟩ := unhide HRD k x hx
      have hbb := unhide HIB k wr hI
      injection hv with e1 e2 e3
      subst e1
      have m0 := cell_later hbb k0
      have m1 := cell_later hbb k1
      have HC := hide (unhide HIS k x wr hx hI)
      clear hbb hI hx e2 e3 HRD k0 k1
      generalize x.name = f0 at *
      generalize x.lit = f1 at *
      go_wp2_with fail
      refine (unhide HC).mono ?_
      rintro e W2 ⟨rfl, hI2⟩
      have HI2 := hide hI2
      clear hI2
      go_wp2_with fail
      go_roundw
      case rel => exact ⟨k + 1, by omega, by go_num, unhide HI2⟩
      case measure => simp [intOf]; omega
    · obtain rfl : k = ts.length := by omega
      have HI := hide hI
      clear hI HRD
      go_wp2
      exact bodyPost_end (v := .tuple #[]) (by simp [results, Try.results56, go_sem]) rfl ⟨rfl, unhide HI⟩
set_option maxHeartbeats 16000000 in
theorem iPutListAndG (w0 : World) (bw c0 c1 : Nat) (ts : List AndG) (v : Value) (xs : List UInt8) (W : World) (I : Nat → World → Prop) (hst : ST w0 bw W xs) (hr : RS 2 RAndG w0 0 ts v) (hk : ts.length ≤ 1048576) (hl : (xs ++ encN ts.length).length ≤ 549755813888)
    (hI0 : ∀ V, ST w0 bw V (xs ++ encN ts.length) → KP [bw] W V → I 0 V) (hIb : ∀ j V, I j V → Below w0.heap.size w0 V)
    (hIs : ∀ (j : Nat) x V, ts[j]? = some x → I j V → Calls Try.prog 55 #[.agg #[.int .i64 x.a, .int .i64 x.b], .pointer (some ⟨c0, 0, none⟩), .pointer (some ⟨c1, 0, none⟩)] (V.alloc (.cells #[.int .i64 x.a, .int .i64 x.b] 53)) fun e V' => e = .returned (.tuple #[]) ∧ I (j + 1) V') :
    Calls Try.prog 54 #[.pointer (some ⟨bw, 0, none⟩), v, .func (.func 55) #[] #[.pointer (some ⟨c0, 0, none⟩), .pointer (some ⟨c1, 0, none⟩)]] W fun e W' => e = .returned (.tuple #[]) ∧ I ts.length W' := by
  have HNUM := hide (show Calls Try.prog 49 #[.pointer (some ⟨bw, 0, none⟩), .slice (some ⟨W.heap.size, 0, none⟩) 1 1] (W.alloc (.cells #[.int .i64 (ts.length : Int)] 3)) _ from iNumbers w0 bw [ts.length] _ xs _ (hst.alloc _) (fun V _ hV => builtI [ts.length] [bw] W (by simp) (not_in_new hst) V hV) (by intro n hn; simp at hn; subst hn; omega) (by simp) (by simpa using hl))
  have HI0 := hide hI0
  have HIB := hide hIb
  have HIS := hide hIs
  have HRD : Hid (∀ (i : Nat) x, ts[i]? = some x → ∃ b o c, v = .slice (some ⟨b, o, none⟩) ts.length c ∧ w0.cell? ⟨b, o + i * 2, none⟩ = some (.int .i64 x.a) ∧ w0.cell? ⟨b, o + i * 2 + 1, none⟩ = some (.int .i64 x.b)) := hide (by
    intro i x hi
    rcases hr.open with ⟨h, _⟩ | ⟨b, o, c, hv, _, _, _, he⟩
    · rw [h] at hi; simp at hi
    · obtain ⟨u, _, hat, hux⟩ := he i x hi
      unfold RAndG at hux
      obtain rfl := hux
      exact ⟨b, o, c, hv, by simpa using hat.get (j := 0) rfl, by simpa using hat.get (j := 1) rfl⟩)
  obtain ⟨a, c, rfl⟩ := hr.slice
  clear hr hst hl hI0 hIb hIs
  go_enter Try.func54, Try.ntmps54
  go_wp2_with fail
  refine (unhide HNUM).mono ?_
  rintro e W1 ⟨rfl, hst1, hkp1⟩
  have HI := hide (unhide HI0 W1 (by simpa using hst1) (((KP.refl [bw] W).alloc (.cells #[.int .i64 (ts.length : Int)] 3)).trans hkp1))
  clear hst1 hkp1
  go_wp2
  go_loopw [15] (fun i wr => ∃ k : Nat, k ≤ ts.length ∧ i = .int .i64 k ∧ I k wr) (fun i wr => ts.length - (intOf i).toNat)
  case atStart => exact ⟨0, Nat.zero_le _, rfl, unhide HI⟩
  case round =>
    clear HI
    obtain ⟨k, hkk, rfl, hI⟩ := hrel
    by_cases hlt : k < ts.length
    · have hx : ts[k]? = some ts[k] := List.getElem?_eq_getElem hlt
      generalize ts[k] = x at hx
      obtain ⟨b, o, c', hv, k0, k1⟩ := unhide HRD k x hx
      have hbb := unhide HIB k wr hI
      injection hv with e1 e2 e3
      subst e1
      have m0 := cell_later hbb k0
      have m1 := cell_later hbb k1
      have HC := hide (unhide HIS k x wr hx hI)
      clear hbb hI hx e2 e3 HRD k0 k1
      generalize x.a = f0 at *
      generalize x.b = f1 at *
      go_wp2_with fail
      refine (unhide HC).mono ?_
      rintro e W2 ⟨rfl, hI2⟩
      have HI2 := hide hI2
      clear hI2
      go_wp2_with fail
      go_roundw
      case rel => exact ⟨k + 1, by omega, by go_num, unhide HI2⟩
      case measure => simp [intOf]; omega
    · obtain rfl : k = ts.length := by omega
      have HI := hide hI
      clear hI HRD
      go_wp2
      exact bodyPost_end (v := .tuple #[]) (by simp [results, Try.results54, go_sem]) rfl ⟨rfl, unhide HI⟩
end Go.Proofs.Ytaamibonpmijaab
