/- The specification's ex, of a constant. -/
import Derived.Test.YtbpcomnneemolaaSX0
namespace Go.Proofs.Ytbpcomnneemolaa
open Go.RowKit Gs
set_option linter.unusedVariables false
set_option maxRecDepth 100000
theorem grown_trans {w w1 w2 : World} {r : Option Nat} (h1 : w.grownBy w1 r) (h2 : w1.grownBy w2 r) : w.grownBy w2 r :=
  ⟨h2.os.trans h1.os, h2.tape.trans h1.tape, h2.output.trans h1.output, Nat.le_trans h1.size h2.size, fun k hk hne => (h2.block k (Nat.lt_of_lt_of_le hk h1.size) hne).trans (h1.block k hk hne)⟩
theorem grown_set {w w1 : World} {b : Nat} (h : w.grownBy w1 (some b)) (i : Nat) (v : Value) : w.grownBy (w1.setCell ⟨b, i, none⟩ v) (some b) :=
  ⟨h.os, h.tape, h.output, by simpa using h.size, fun k hk hne => (Below.heap_setCell _ _ _ _ (fun e => hne (by simpa using e))).trans (h.block k hk hne)⟩
theorem grown_of_below {w w1 : World} {r : Option Nat} (h : Below w.heap.size w w1) : w.grownBy w1 r := ⟨h.os, h.tape, h.output, h.size, fun k hk _ => h.block k hk⟩
theorem below_of_grown {B b : Nat} {w w1 : World} (h : w.grownBy w1 (some b)) (hb : B ≤ b) (hB : B ≤ w.heap.size) : Below B w w1 :=
  ⟨h.os, h.tape, h.output, h.size, fun k hk => h.block k (by omega) (fun e => by simp at e; omega)⟩
theorem grown_alloc {w W : World} {r : Option Nat} (h : w.grownBy W r) (o : Obj) : w.grownBy (W.alloc o) r := grown_trans h (grown_of_below (bal (brf W) o))
/-- What is told of the count of those that are left. -/
structure Lf (W0 : World) (pb : Nat) (k : Int) (W : World) : Prop where
  cell : W.cell? ⟨pb, 2, none⟩ = some (.int .i64 k)
  free : W.frozen? ⟨pb, 2, none⟩ = false
  grown : W0.grownBy W (some pb)
theorem Lf.of {w W : World} {pb : Nat} {k k' : Int} {o : Obj} (hc : w.cell? ⟨pb, 2, none⟩ = some (.int .i64 k)) (hf : w.frozen? ⟨pb, 2, none⟩ = false) (hb : Below ((w.setCell ⟨pb, 2, none⟩ (.int .i64 k')).alloc o).heap.size ((w.setCell ⟨pb, 2, none⟩ (.int .i64 k')).alloc o) W) : Lf w pb k' W := by
  have c1 : (w.setCell ⟨pb, 2, none⟩ (.int .i64 k')).cell? ⟨pb, 2, none⟩ = some (.int .i64 k') := World.cell?_setCell_same (w := w) (a := ⟨pb, 2, none⟩) (v := .int .i64 k') hc
  have f1 : (w.setCell ⟨pb, 2, none⟩ (.int .i64 k')).frozen? ⟨pb, 2, none⟩ = false := by simpa using hf
  have c2 := cell_later (bal (brf (w.setCell ⟨pb, 2, none⟩ (.int .i64 k'))) o) c1
  have f2 := frozen_later (bal (brf (w.setCell ⟨pb, 2, none⟩ (.int .i64 k'))) o) c1 f1
  exact ⟨cell_later hb c2, frozen_later hb c2 f2, grown_trans (grown_alloc (grown_set (World.grownBy.refl _ _) 2 _) o) (grown_of_below hb)⟩
theorem Lf.then {w W V : World} {pb : Nat} {k k' : Int} (h : Lf w pb k W) (h2 : Lf W pb k' V) : Lf w pb k' V := ⟨h2.cell, h2.free, grown_trans h.grown h2.grown⟩
theorem Lf.later {w W V : World} {pb : Nat} {k : Int} (h : Lf w pb k W) (hb : Below W.heap.size W V) : Lf w pb k V :=
  ⟨cell_later hb h.cell, frozen_later hb h.cell h.free, grown_trans h.grown (grown_of_below hb)⟩
theorem zeros_ok (x : Int) (h1 : 1 ≤ x) (h2 : x ≤ 64) : Vb.okV (L (S (List.replicate x.toNat 48))) = true ∧ (((S (List.replicate x.toNat 48)).size : Int) == x) = true := by
  refine ⟨(okV_iff _).2 ⟨?_, ?_, ?_⟩, ?_⟩
  · rw [S_size, List.length_replicate]; omega
  · rw [S_size, List.length_replicate]; omega
  · rw [L_S, List.all_eq_true]
    intro c hc
    rw [(List.mem_replicate.1 hc).2]; rfl
  · rw [S_size, List.length_replicate]
    exact decide_eq_true (by omega)
set_option maxHeartbeats 8000000 in
theorem sExLeaf (x deep k : Int) (pb : Nat) (w : World) (h1 : 1 ≤ x) (h2 : x ≤ 64) (hk1 : 1 ≤ k) (hk2 : k ≤ 16384) (hd1 : 1 ≤ deep) (hd : deep ≤ 400) (hc : w.cell? ⟨pb, 2, none⟩ = some (.int .i64 k)) (hf : w.frozen? ⟨pb, 2, none⟩ = false) :
    Calls Try.prog 16 #[.pointer (some ⟨pb, 0, none⟩), .agg #[.int .i64 29, .int .i64 x, .int .i64 0, .bool false, .string (S (List.replicate x.toNat 48)), .slice none 0 0], .int .i64 deep] w fun e w' => e = .returned (.bool true) ∧ Lf w pb (k - 1) w' := by
  have hs : (S (List.replicate x.toNat 48)).size ≤ maxLen := by rw [S_size, List.length_replicate]; unfold maxLen; omega
  have hne : (S (List.replicate x.toNat 48)).toList.isEmpty = false := by
    rw [ByteArray.toList_eq]
    show (L (S (List.replicate x.toNat 48))).isEmpty = false
    rw [L_S]
    obtain ⟨m, hm⟩ : ∃ m, x.toNat = m + 1 := ⟨x.toNat - 1, by omega⟩
    rw [hm]; rfl
  obtain ⟨hz1, hz2⟩ := zeros_ok x h1 h2
  have SH := hide (fun W => (sSh29 x 0 false (S (List.replicate x.toNat 48)) none 0 0 (.pointer (some ⟨pb, 0, none⟩)) W (Nat.zero_le _) hs).mono (R' := fun e w' => e = .returned (.bool true) ∧ Below W.heap.size W w') (by rintro e w' ⟨rfl, hb⟩; exact ⟨by rw [hz1, hz2]; rfl, hb⟩))
  clear hz1 hz2 hs
  have hpb : pb < w.heap.size := World.block_lt_of_cell? w _ hc
  have hwr : IntKind.i64.wrap (k - 1) = k - 1 := by rw [IntKind.wrap_i64]; omega
  generalize S (List.replicate x.toNat 48) = Z at *
  have hk0 : decide (k - 1 < 0) = false := decide_eq_false (by omega)
  have LF := hide (fun W o hb => Lf.of (W := W) (o := o) (k' := k - 1) hc hf hb)
  go_enter Try.func16, Try.ntmps16
  go_wp2
  refine wp_loop_rounds 1 ?_
  rw [rounds_succ]
  go_wp2_with (first | (go_at_call 29; refine (unhide SH _).mono ?_; rintro e W1 ⟨rfl, hb1⟩; have HB := hide hb1; clear hb1))
  go_ret
  exact ⟨rfl, unhide LF _ _ (unhide HB)⟩
end Go.Proofs.Ytbpcomnneemolaa
