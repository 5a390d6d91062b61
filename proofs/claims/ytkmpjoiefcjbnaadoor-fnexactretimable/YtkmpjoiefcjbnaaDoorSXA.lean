/- The specification's shape, of all operations that a cell may have. -/
import Derived.Test.YtkmpjoiefcjbnaaDoorSHX
namespace Go.Proofs.YtkmpjoiefcjbnaaDoor
open Go.RowKit Gs
set_option linter.unusedVariables false
def sh2 (f : Int → Int → Bool) : List Int → Bool
  | [x, y] => f x y
  | _ => false
def sh1 (f : Int → Bool) : List Int → Bool
  | [x] => f x
  | _ => false
def sh3 (f : Int → Int → Int → Bool) : List Int → Bool
  | [x, y, z] => f x y z
  | _ => false
def shapeB (op width n : Int) (sg : Bool) (s : ByteArray) (xs : List Int) : Bool :=
  if op < 1 then false
  else if op ≤ 8 then sh2 (fun x y => (x == width) && (y == width)) xs
  else if op ≤ 13 then sh2 (fun x y => (x == y) && (width == 1)) xs
  else if op ≤ 16 then sh2 (fun x _ => x == width) xs
  else if op ≤ 18 then sh2 (fun _ _ => width == 1) xs
  else if op ≤ 20 then sh1 (fun x => x == width) xs
  else if op ≤ 24 then sh1 (fun _ => width == 1) xs
  else if op = 25 then sh3 (fun _ y z => (y == width) && (z == width)) xs
  else if op = 26 then sumI xs == width
  else if op = 27 then sh1 (fun x => decide (0 ≤ n) && decide (n ≤ 64) && decide (n + width ≤ x)) xs
  else if op = 28 then sh1 (fun x => (x != width) && (!sg || decide (x < width))) xs
  else if op = 29 then decide (xs.length = 0) && Vb.okV (L s) && ((s.size : Int) == width)
  else false
theorem sh2_no {f : Int → Int → Bool} {xs : List Int} (h : xs.length ≠ 2) : sh2 f xs = false := by
  unfold sh2; split
  · simp at h
  · rfl
theorem sh1_no {f : Int → Bool} {xs : List Int} (h : xs.length ≠ 1) : sh1 f xs = false := by
  unfold sh1; split
  · simp at h
  · rfl
theorem sh3_no {f : Int → Int → Int → Bool} {xs : List Int} (h : xs.length ≠ 3) : sh3 f xs = false := by
  unfold sh3; split
  · simp at h
  · rfl
theorem len2 {xs : List Int} (h : xs.length = 2) : ∃ x y, xs = [x, y] := by
  match xs, h with
  | [x, y], _ => exact ⟨x, y, rfl⟩
theorem len3 {xs : List Int} (h : xs.length = 3) : ∃ x y z, xs = [x, y, z] := by
  match xs, h with
  | [x, y, z], _ => exact ⟨x, y, z, rfl⟩
abbrev ShC (op width n : Int) (sg : Bool) (s : ByteArray) (v p : Value) (w : World) (r : Bool) : Prop :=
  Calls Tryd.prog 81 #[p, .agg #[.int .i64 op, .int .i64 width, .int .i64 n, .bool sg, .string s, v]] w fun e w' => e = .returned (.bool r) ∧ Below w.heap.size w w'
theorem by2 {op width n : Int} {sg : Bool} {s : ByteArray} {xs : List Int} {v p : Value} {w : World} {f : Int → Int → Bool} (hno : xs.length ≠ 2 → ShC op width n sg s v p w false) (hyes : ∀ x y, xs = [x, y] → ShC op width n sg s v p w (f x y)) : ShC op width n sg s v p w (sh2 f xs) := by
  by_cases h : xs.length = 2
  · obtain ⟨x, y, rfl⟩ := len2 h
    exact hyes x y rfl
  · rw [sh2_no h]; exact hno h
theorem by1 {op width n : Int} {sg : Bool} {s : ByteArray} {xs : List Int} {v p : Value} {w : World} {f : Int → Bool} (hno : xs.length ≠ 1 → ShC op width n sg s v p w false) (hyes : ∀ x, xs = [x] → ShC op width n sg s v p w (f x)) : ShC op width n sg s v p w (sh1 f xs) := by
  by_cases h : xs.length = 1
  · obtain ⟨x, rfl⟩ := List.length_eq_one_iff.1 h
    exact hyes x rfl
  · rw [sh1_no h]; exact hno h
theorem by3 {op width n : Int} {sg : Bool} {s : ByteArray} {xs : List Int} {v p : Value} {w : World} {f : Int → Int → Int → Bool} (hno : xs.length ≠ 3 → ShC op width n sg s v p w false) (hyes : ∀ x y z, xs = [x, y, z] → ShC op width n sg s v p w (f x y z)) : ShC op width n sg s v p w (sh3 f xs) := by
  by_cases h : xs.length = 3
  · obtain ⟨x, y, z, rfl⟩ := len3 h
    exact hyes x y z rfl
  · rw [sh3_no h]; exact hno h
theorem sShape (op width n : Int) (sg : Bool) (s : ByteArray) (xs : List Int) (v p : Value) (w : World) (ho : op < 30 ∨ 32 < op) (hw1 : 1 ≤ width) (hw2 : width ≤ 64) (hs : s.size ≤ maxLen) (hx : ∀ x ∈ xs, 0 ≤ x ∧ x ≤ 64) (hl : xs.length ≤ 64) (hr : RS 6 RKz w 0 xs v) :
    Calls Tryd.prog 81 #[p, .agg #[.int .i64 op, .int .i64 width, .int .i64 n, .bool sg, .string s, v]] w fun e w' => e = .returned (.bool (shapeB op width n sg s xs)) ∧ Below w.heap.size w w' := by
  show ShC op width n sg s v p w _
  unfold shapeB
  by_cases g0 : op < 1
  · rw [if_pos g0]; obtain ⟨a, c, rfl⟩ := hr.slice; exact sShLow op width n sg s a xs.length c p w g0
  rw [if_neg g0]
  by_cases g1 : op ≤ 8
  · rw [if_pos g1]; exact by2 (fun h => sShA_no op width n sg s xs v p w (by omega) g1 h hr) (fun x y e => by subst e; exact sShA op width n sg s x y v p w (by omega) g1 hr)
  rw [if_neg g1]
  by_cases g2 : op ≤ 13
  · rw [if_pos g2]; exact by2 (fun h => sShB_no op width n sg s xs v p w (by omega) g2 h hr) (fun x y e => by subst e; exact sShB op width n sg s x y v p w (by omega) g2 hr)
  rw [if_neg g2]
  by_cases g3 : op ≤ 16
  · rw [if_pos g3]; exact by2 (fun h => sShC_no op width n sg s xs v p w (by omega) g3 h hr) (fun x y e => by subst e; exact sShC op width n sg s x y v p w (by omega) g3 hr)
  rw [if_neg g3]
  by_cases g4 : op ≤ 18
  · rw [if_pos g4]
    obtain rfl | rfl : op = 17 ∨ op = 18 := by omega
    · exact by2 (fun h => sSh17_no width n sg s xs v p w h hr) (fun x y e => by subst e; exact sSh17 width n sg s x y v p w hr)
    · exact by2 (fun h => sSh18_no width n sg s xs v p w h hr) (fun x y e => by subst e; exact sSh18 width n sg s x y v p w hr)
  rw [if_neg g4]
  by_cases g5 : op ≤ 20
  · rw [if_pos g5]
    obtain rfl | rfl : op = 19 ∨ op = 20 := by omega
    · exact by1 (fun h => sSh19_no width n sg s xs v p w h hr) (fun x e => by subst e; exact sSh19 width n sg s x v p w hr)
    · exact by1 (fun h => sSh20_no width n sg s xs v p w h hr) (fun x e => by subst e; exact sSh20 width n sg s x v p w hr)
  rw [if_neg g5]
  by_cases g6 : op ≤ 24
  · rw [if_pos g6]
    obtain rfl | rfl | rfl | rfl : op = 21 ∨ op = 22 ∨ op = 23 ∨ op = 24 := by omega
    · exact by1 (fun h => sSh21_no width n sg s xs v p w h hr) (fun x e => by subst e; exact sSh21 width n sg s x v p w hr)
    · exact by1 (fun h => sSh22_no width n sg s xs v p w h hr) (fun x e => by subst e; exact sSh22 width n sg s x v p w hr)
    · exact by1 (fun h => sSh23_no width n sg s xs v p w h hr) (fun x e => by subst e; exact sSh23 width n sg s x v p w hr)
    · exact by1 (fun h => sSh24_no width n sg s xs v p w h hr) (fun x e => by subst e; exact sSh24 width n sg s x v p w hr)
  rw [if_neg g6]
  by_cases g7 : op = 25
  · rw [if_pos g7]; subst g7; exact by3 (fun h => sSh25_no width n sg s xs v p w h hr) (fun x y z e => by subst e; exact sSh25 width n sg s x y z v p w hr)
  rw [if_neg g7]
  by_cases g8 : op = 26
  · rw [if_pos g8]; subst g8; exact sSh26 width n sg s xs v p w hx hl hr
  rw [if_neg g8]
  by_cases g9 : op = 27
  · rw [if_pos g9]; subst g9; exact by1 (fun h => sSh27_no width n sg s xs v p w h hr) (fun x e => by subst e; exact sSh27 width n sg s x v p w hw1 hw2 hr)
  rw [if_neg g9]
  by_cases g10 : op = 28
  · rw [if_pos g10]; subst g10; exact by1 (fun h => sSh28_no width n sg s xs v p w h hr) (fun x e => by subst e; exact sSh28 width n sg s x v p w hr)
  rw [if_neg g10]
  by_cases g11 : op = 29
  · rw [if_pos g11]; subst g11
    obtain ⟨a, c, rfl⟩ := hr.slice
    exact sSh29 width n sg s a xs.length c p w hr.len hs
  rw [if_neg g11]
  obtain ⟨a, c, rfl⟩ := hr.slice
  exact sShHigh op width n sg s a xs.length c p w (by omega)
end Go.Proofs.YtkmpjoiefcjbnaaDoor
namespace Go.Proofs.YtkmpjoiefcjbnaaDoor
open Go.RowKit Gs
set_option linter.unusedVariables false
set_option maxRecDepth 100000
theorem grown_trans {w w1 w2 : World} {r : Option Nat} (h1 : w.grownBy w1 r) (h2 : w1.grownBy w2 r) : w.grownBy w2 r :=
  ⟨h2.os.trans h1.os, h2.tape.trans h1.tape, h2.output.trans h1.output, Nat.le_trans h1.size h2.size, fun k hk hne => (h2.block k (Nat.lt_of_lt_of_le hk h1.size) hne).trans (h1.block k hk hne)⟩
theorem grown_set {w w1 : World} {b : Nat} (h : w.grownBy w1 (some b)) (i : Nat) (v : Value) : w.grownBy (w1.setCell ⟨b, i, none⟩ v) (some b) :=
  ⟨h.os, h.tape, h.output, by simpa using h.size, fun k hk hne => (Below.heap_setCell _ _ _ _ (fun e => hne (by simpa using e))).trans (h.block k hk hne)⟩
theorem grown_of_below {w w1 : World} {r : Option Nat} (h : Below w.heap.size w w1) : w.grownBy w1 r := ⟨h.os, h.tape, h.output, h.size, fun k hk _ => h.block k hk⟩
theorem below_of_grown {B b : Nat} {w w1 : World} (h : w.grownBy w1 (some b)) (hb : B ≤ b) (hB : B ≤ w.heap.size) : Below B w w1 :=
  ⟨h.os, h.tape, h.output, h.size, fun k hk => h.block k (by omega) (fun e => by simp at e; omega)⟩
theorem grown_alloc {w W : World} {r : Option Nat} (h : w.grownBy W r) (o : Obj) : w.grownBy (W.alloc o) r := grown_trans h (grown_of_below (bal (brf W) o))
/-- What is told of the count of those that are left. -/
structure Lf (W0 : World) (pb : Nat) (k : Int) (W : World) : Prop where
  cell : W.cell? ⟨pb, 2, none⟩ = some (.int .i64 k)
  free : W.frozen? ⟨pb, 2, none⟩ = false
  grown : W0.grownBy W (some pb)
theorem Lf.of {w W : World} {pb : Nat} {k k' : Int} {o : Obj} (hc : w.cell? ⟨pb, 2, none⟩ = some (.int .i64 k)) (hf : w.frozen? ⟨pb, 2, none⟩ = false) (hb : Below ((w.setCell ⟨pb, 2, none⟩ (.int .i64 k')).alloc o).heap.size ((w.setCell ⟨pb, 2, none⟩ (.int .i64 k')).alloc o) W) : Lf w pb k' W := by
  have c1 : (w.setCell ⟨pb, 2, none⟩ (.int .i64 k')).cell? ⟨pb, 2, none⟩ = some (.int .i64 k') := World.cell?_setCell_same (w := w) (a := ⟨pb, 2, none⟩) (v := .int .i64 k') hc
  have f1 : (w.setCell ⟨pb, 2, none⟩ (.int .i64 k')).frozen? ⟨pb, 2, none⟩ = false := by simpa using hf
  have c2 := cell_later (bal (brf (w.setCell ⟨pb, 2, none⟩ (.int .i64 k'))) o) c1
  have f2 := frozen_later (bal (brf (w.setCell ⟨pb, 2, none⟩ (.int .i64 k'))) o) c1 f1
  exact ⟨cell_later hb c2, frozen_later hb c2 f2, grown_trans (grown_alloc (grown_set (World.grownBy.refl _ _) 2 _) o) (grown_of_below hb)⟩
theorem Lf.then {w W V : World} {pb : Nat} {k k' : Int} (h : Lf w pb k W) (h2 : Lf W pb k' V) : Lf w pb k' V := ⟨h2.cell, h2.free, grown_trans h.grown h2.grown⟩
theorem Lf.later {w W V : World} {pb : Nat} {k : Int} (h : Lf w pb k W) (hb : Below W.heap.size W V) : Lf w pb k V :=
  ⟨cell_later hb h.cell, frozen_later hb h.cell h.free, grown_trans h.grown (grown_of_below hb)⟩
theorem zeros_ok (x : Int) (h1 : 1 ≤ x) (h2 : x ≤ 64) : Vb.okV (L (S (List.replicate x.toNat 48))) = true ∧ (((S (List.replicate x.toNat 48)).size : Int) == x) = true := by
  refine ⟨(okV_iff _).2 ⟨?_, ?_, ?_⟩, ?_⟩
  · rw [S_size, List.length_replicate]; omega
  · rw [S_size, List.length_replicate]; omega
  · rw [L_S, List.all_eq_true]
    intro c hc
    rw [(List.mem_replicate.1 hc).2]; rfl
  · rw [S_size, List.length_replicate]
    exact decide_eq_true (by omega)
set_option maxHeartbeats 8000000 in
theorem sExLeaf (x deep k : Int) (pb : Nat) (w : World) (h1 : 1 ≤ x) (h2 : x ≤ 64) (hk1 : 1 ≤ k) (hk2 : k ≤ 16384) (hd1 : 1 ≤ deep) (hd : deep ≤ 400) (hc : w.cell? ⟨pb, 2, none⟩ = some (.int .i64 k)) (hf : w.frozen? ⟨pb, 2, none⟩ = false) :
    Calls Tryd.prog 62 #[.pointer (some ⟨pb, 0, none⟩), .agg #[.int .i64 29, .int .i64 x, .int .i64 0, .bool false, .string (S (List.replicate x.toNat 48)), .slice none 0 0], .int .i64 deep] w fun e w' => e = .returned (.bool true) ∧ Lf w pb (k - 1) w' := by
  have hs : (S (List.replicate x.toNat 48)).size ≤ maxLen := by rw [S_size, List.length_replicate]; unfold maxLen; omega
  have hne : (S (List.replicate x.toNat 48)).toList.isEmpty = false := by
    rw [ByteArray.toList_eq]
    show (L (S (List.replicate x.toNat 48))).isEmpty = false
    rw [L_S]
    obtain ⟨m, hm⟩ : ∃ m, x.toNat = m + 1 := ⟨x.toNat - 1, by omega⟩
    rw [hm]; rfl
  obtain ⟨hz1, hz2⟩ := zeros_ok x h1 h2
  have SH := hide (fun W => (sSh29 x 0 false (S (List.replicate x.toNat 48)) none 0 0 (.pointer (some ⟨pb, 0, none⟩)) W (Nat.zero_le _) hs).mono (R' := fun e w' => e = .returned (.bool true) ∧ Below W.heap.size W w') (by rintro e w' ⟨rfl, hb⟩; exact ⟨by rw [hz1, hz2]; rfl, hb⟩))
  clear hz1 hz2 hs
  have hpb : pb < w.heap.size := World.block_lt_of_cell? w _ hc
  have hwr : IntKind.i64.wrap (k - 1) = k - 1 := by rw [IntKind.wrap_i64]; omega
  generalize S (List.replicate x.toNat 48) = Z at *
  have hk0 : decide (k - 1 < 0) = false := decide_eq_false (by omega)
  have LF := hide (fun W o hb => Lf.of (W := W) (o := o) (k' := k - 1) hc hf hb)
  go_enter Tryd.func62, Tryd.ntmps62
  go_wp2
  refine wp_loop_rounds 1 ?_
  rw [rounds_succ]
  go_wp2_with (first | (go_at_call 81; refine (unhide SH _).mono ?_; rintro e W1 ⟨rfl, hb1⟩; have HB := hide hb1; clear hb1))
  go_ret
  exact ⟨rfl, unhide LF _ _ (unhide HB)⟩
end Go.Proofs.YtkmpjoiefcjbnaaDoor
