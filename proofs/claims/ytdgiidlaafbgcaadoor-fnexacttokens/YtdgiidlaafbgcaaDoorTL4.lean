/- What the laws' markTokenS does: it writes marks into the row. -/
import Derived.Test.YtdgiidlaafbgcaaDoorTL3
namespace Go.Proofs.YtdgiidlaafbgcaaDoor
open Go.RowKit
set_option linter.unusedVariables false
/-- A row of n tokens may be written. -/
def TP (W : World) (g n : Nat) : Prop := ∀ i, i < n → (∃ x, W.cell? ⟨g, i * 3, none⟩ = some x) ∧ (∃ x, W.cell? ⟨g, i * 3 + 1, none⟩ = some x) ∧ (∃ x, W.cell? ⟨g, i * 3 + 2, none⟩ = some x) ∧ W.frozen? ⟨g, i * 3, none⟩ = false ∧ W.frozen? ⟨g, i * 3 + 1, none⟩ = false ∧ W.frozen? ⟨g, i * 3 + 2, none⟩ = false
theorem ne_off {g o o' : Nat} (h : o ≠ o') : (⟨g, o, none⟩ : Addr) ≠ ⟨g, o', none⟩ := fun e => h (by injection e)
theorem set_same {w : World} {a : Addr} {v u : Value} (h : w.cell? a = some u) : (w.setCell a v).cell? a = some v := World.cell?_setCell_same (w := w) (a := a) (v := v) h
theorem set_other {w : World} {a b : Addr} {v : Value} (h : a ≠ b) : (w.setCell a v).cell? b = w.cell? b := World.cell?_setCell_other (w := w) (a := a) (b := b) (v := v) h
theorem set_frozen {w : World} {a b : Addr} {v : Value} : (w.setCell a v).frozen? b = w.frozen? b := by simp
theorem set_some {w : World} {g o o' : Nat} {v : Value} (h : ∃ x, w.cell? ⟨g, o', none⟩ = some x) : ∃ x, (w.setCell ⟨g, o, none⟩ v).cell? ⟨g, o', none⟩ = some x := by
  obtain ⟨x, hx⟩ := h
  by_cases e : o = o'
  · subst e; exact ⟨v, set_same hx⟩
  · exact ⟨x, by rw [set_other (ne_off e)]; exact hx⟩
theorem TP_set {w : World} {g n o : Nat} {v : Value} (h : TP w g n) : TP (w.setCell ⟨g, o, none⟩ v) g n := fun i hi => by
  obtain ⟨a, b, c, d, e, f⟩ := h i hi
  exact ⟨set_some a, set_some b, set_some c, by rw [set_frozen]; exact d, by rw [set_frozen]; exact e, by rw [set_frozen]; exact f⟩
theorem TP_later {w v : World} {g n : Nat} (h : TP w g n) (hb : Below w.heap.size w v) : TP v g n := fun i hi => by
  obtain ⟨⟨x, a⟩, ⟨y, b⟩, ⟨z, c⟩, d, e, f⟩ := h i hi
  exact ⟨⟨x, cell_later hb a⟩, ⟨y, cell_later hb b⟩, ⟨z, cell_later hb c⟩, frozen_later hb a d, frozen_later hb b e, frozen_later hb c f⟩
theorem TR_set {w : World} {g n o : Nat} {v : Value} {K A : Nat → Int} {T : Nat → ByteArray} (h : TR w g n K A T) (ho : n * 3 ≤ o) : TR (w.setCell ⟨g, o, none⟩ v) g n K A T := fun i hi => by
  obtain ⟨a, b, c⟩ := h i hi
  exact ⟨by rw [set_other (ne_off (by omega))]; exact a, by rw [set_other (ne_off (by omega))]; exact b, by rw [set_other (ne_off (by omega))]; exact c⟩
set_option maxRecDepth 100000 in
set_option maxHeartbeats 400000 in
theorem lMark (g n c B : Nat) (w : World) (hn : n ≤ 20000) (hB : B ≤ g) (hBw : B ≤ w.heap.size) (h : TP w g n) :
    Calls Tryd.prog 7 #[.slice (some ⟨g, 0, none⟩) n c, .int .i64 1] w fun e w' => e = .returned (.int .i64 ((1 + 3 * n : Nat) : Int)) ∧ Below B w w' ∧ TR w' g n (fun i => ((1 + 3 * i : Nat) : Int)) (fun i => ((3 + 3 * i : Nat) : Int)) (fun i => S (mtL (2 + 3 * i))) := by
  have HP := hide h
  clear h
  go_enter Tryd.func7, Tryd.ntmps7
  go_wp2
  go_loopw [1, 5] (fun k i wr => ∃ j : Nat, j ≤ n ∧ i = .int .i64 j ∧ k = .int .i64 ((1 + 3 * j : Nat) : Int) ∧ Below B w wr ∧ TP wr g n ∧ TR wr g j (fun i => ((1 + 3 * i : Nat) : Int)) (fun i => ((3 + 3 * i : Nat) : Int)) (fun i => S (mtL (2 + 3 * i)))) (fun k i wr => n - (intOf i).toNat)
  case atStart => exact ⟨0, Nat.zero_le _, rfl, rfl, Below.refl _ _, unhide HP, fun i hi => absurd hi (Nat.not_lt_zero _)⟩
  case round =>
    obtain ⟨j, hj, rfl, rfl, hb, hp, ht⟩ := hrel
    have HB := hide hb
    have HQ := hide hp
    have HT := hide ht
    by_cases hjn : j < n
    · obtain ⟨⟨x1, b1⟩, ⟨x2, b2⟩, ⟨x3, b3⟩, f1, f2, f3⟩ := hp j hjn
      have MT : Hid (∀ v, Calls Tryd.prog 17 #[.int .i64 (1 + 3 * (j : Int) + 1)] v fun e w' => e = .returned (.string (S (mtL (2 + 3 * j)))) ∧ Below v.heap.size v w') := hide (fun v => by
        have := lText (2 + 3 * j) v (by omega) (by omega)
        rw [show ((2 + 3 * j : Nat) : Int) = 1 + 3 * (j : Int) + 1 by omega] at this
        exact this)
      clear hb hp ht HP
      generalize hT : S (mtL (2 + 3 * j)) = T at MT
      have hg : g < wr.heap.size := World.block_lt_of_cell? wr _ b1
      go_wp2_with (go_at_call 17; refine (unhide MT _).mono ?_; rintro e v1 ⟨rfl, hb1⟩; obtain ⟨hc1, hf1⟩ := bcell hb1)
      have hP1 : TP (wr.setCell ⟨g, j * 3, none⟩ (.int .i64 (1 + 3 * (j : Int)))) g n := TP_set (unhide HQ)
      have hP2 := TP_later hP1 hb1
      have hR1 := TR_later (TR_set (o := j * 3) (v := .int .i64 (1 + 3 * (j : Int))) (unhide HT) (Nat.le_refl _)) hb1
      have k1 : v1.cell? ⟨g, j * 3, none⟩ = some (.int .i64 (1 + 3 * (j : Int))) := cell_later hb1 (set_same b1)
      have hB1 : Below B w v1 := ((unhide HB).setCell (p := ⟨g, j * 3, none⟩) hB _).trans (hb1.mono (by have := (unhide HB).size; simp; omega))
      refine ⟨⟨j + 1, by omega, by go_num, by simp; omega, (hB1.setCell (p := ⟨g, j * 3 + 1, none⟩) hB _).setCell (p := ⟨g, j * 3 + 2, none⟩) hB _, TP_set (TP_set hP2), ?_⟩, by simp [intOf]; omega⟩
      intro i hi
      by_cases e : i = j
      · subst e
        obtain ⟨_, ⟨y2, p2⟩, ⟨y3, p3⟩, _⟩ := hP2 i hjn
        refine ⟨?_, ?_, ?_⟩
        · rw [set_other (ne_off (by omega)), set_other (ne_off (by omega)), k1]; simp
        · rw [set_other (ne_off (by omega)), set_same p2, ← hT]
        · rw [set_same (u := y3) (by rw [set_other (ne_off (by omega))]; exact p3)]; simp; omega
      · exact TR_set (TR_set hR1 (by omega)) (by omega) i (by omega)
    · obtain rfl : j = n := by omega
      clear hb hp ht HP
      go_wp2
      exact bodyPost_ret (v := .int .i64 ((1 + 3 * j : Nat) : Int)) (by simp [results, Tryd.results7, go_sem]) rfl ⟨rfl, unhide HB, unhide HT⟩
end Go.Proofs.YtdgiidlaafbgcaaDoor
