/- A mapped design as it runs: what its sources are, and how they lie in memory. -/
import Derived.Test.YthbcokioijpofabGreatDD
import Derived.Test.YthbcokioijpofabGreatGS2
import Derived.BigQuiet
namespace Go.Proofs.YthbcokioijpofabGreat
open Go Go.RowKit Gs
set_option linter.unusedVariables false
set_option maxRecDepth 100000
def b2i (b : Bool) : Int := if b then 1 else 0
/-- What a source is. -/
def srcV (vs : List Bool) (z : Int) : Bool := vs.getD z.toNat false
def txt1 (b : Bool) : ByteArray := if b then ⟨#[49]⟩ else ⟨#[48]⟩
def bit1 (s : ByteArray) : Bool := s.toList == [49]
/-- Which bit of a table is told. -/
def rowN (vs : List Bool) : List Int → Nat → Nat
  | _, 0 => 0
  | xs, k + 1 => rowN vs xs k + (if srcV vs (xs.getD k 0) then 2 ^ k else 0)
theorem rowN_lt (vs : List Bool) (xs : List Int) : ∀ k, rowN vs xs k < 2 ^ k
  | 0 => by simp [rowN]
  | k + 1 => by
    have := rowN_lt vs xs k
    rw [rowN, Nat.pow_succ]
    split <;> omega
def lutV (vs : List Bool) (l : Lut) : Bool := l.table.toNat.testBit (rowN vs l.inp l.inp.length)
/-- Each table, one behind another. -/
def lutsV : List Bool → List Lut → List Bool
  | vs, [] => vs
  | vs, a :: r => lutsV (vs ++ [lutV vs a]) r
theorem lutsV_len : ∀ (xs : List Lut) (vs : List Bool), (lutsV vs xs).length = vs.length + xs.length
  | [], vs => rfl
  | a :: r, vs => by rw [lutsV, lutsV_len r]; simp; omega
theorem lutsV_append : ∀ (xs ys : List Lut) (vs : List Bool), lutsV vs (xs ++ ys) = lutsV (lutsV vs xs) ys
  | [], _, _ => rfl
  | a :: r, ys, vs => by rw [List.cons_append, lutsV, lutsV, lutsV_append r]
theorem lutsV_step {xs : List Lut} {k : Nat} {x : Lut} (vs : List Bool) (h : xs[k]? = some x) : lutsV vs (xs.take (k + 1)) = lutsV vs (xs.take k) ++ [lutV (lutsV vs (xs.take k)) x] := by
  rw [List.take_add_one, h, Option.toList_some, lutsV_append]; rfl
theorem lutsV_pre : ∀ (xs : List Lut) (vs : List Bool), ∃ r, lutsV vs xs = vs ++ r
  | [], vs => ⟨[], by rw [List.append_nil]; rfl⟩
  | a :: r, vs => by
    obtain ⟨t, ht⟩ := lutsV_pre r (vs ++ [lutV vs a])
    exact ⟨[lutV vs a] ++ t, by rw [lutsV, ht, List.append_assoc]⟩
/-- The registers behind a tick. -/
def nextV (ticks vs : List Bool) (ls : List MapReg) (st : List Bool) : List Bool :=
  List.zipWith (fun (l : MapReg) s => if ticks.getD l.clock.toNat false then srcV vs l.src else s) ls st
def rowV (x : Mapped) (vs st : List Bool) : Row := ⟨x.outs.map (fun p => txt1 (srcV vs p.src)), x.checks.map (fun p => txt1 (srcV vs p.src)), st.map txt1⟩
def baseV (ins st : List Bool) : List Bool := ins ++ st
def stepV (x : Mapped) (st : List Bool) (s : Step) : List Bool := nextV s.ticks (lutsV (baseV (s.ins.map bit1) st) x.luts) x.regs st
/-- The rows of a run. -/
def rowsV (x : Mapped) : List Bool → List Step → List Row
  | _, [] => []
  | st, s :: r => rowV x (lutsV (baseV (s.ins.map bit1) (stepV x st s)) x.luts) (stepV x st s) :: rowsV x (stepV x st s) r
def statesV (x : Mapped) : List Bool → List Step → List Bool
  | st, [] => st
  | st, s :: r => statesV x (stepV x st s) r
theorem rowsV_append (x : Mapped) : ∀ (xs ys : List Step) (st : List Bool), rowsV x st (xs ++ ys) = rowsV x st xs ++ rowsV x (statesV x st xs) ys
  | [], _, _ => rfl
  | s :: r, ys, st => by rw [List.cons_append, rowsV, rowsV, rowsV_append x r, statesV, List.cons_append]
theorem statesV_append (x : Mapped) : ∀ (xs ys : List Step) (st : List Bool), statesV x st (xs ++ ys) = statesV x (statesV x st xs) ys
  | [], _, _ => rfl
  | s :: r, ys, st => by rw [List.cons_append, statesV, statesV, statesV_append x r]
theorem nextV_len (t vs : List Bool) (ls : List MapReg) (st : List Bool) (h : st.length = ls.length) : (nextV t vs ls st).length = ls.length := by
  unfold nextV; rw [List.length_zipWith]; omega
theorem stepV_len (x : Mapped) (st : List Bool) (s : Step) (h : st.length = x.regs.length) : (stepV x st s).length = x.regs.length := nextV_len _ _ _ _ h
theorem statesV_len (x : Mapped) : ∀ (xs : List Step) (st : List Bool), st.length = x.regs.length → (statesV x st xs).length = x.regs.length
  | [], _, h => h
  | s :: r, st, h => statesV_len x r _ (stepV_len x st s h)
theorem srcV_pre {vs r : List Bool} {z : Int} (h : z < (vs.length : Int)) (h0 : 0 ≤ z) : srcV (vs ++ r) z = srcV vs z := by
  unfold srcV
  rw [List.getD_eq_getElem?_getD, List.getD_eq_getElem?_getD, List.getElem?_append_left (by omega)]
theorem srcV_at {vs : List Bool} {p : Nat} (h : p < vs.length) : vs[p]? = some (srcV vs (p : Int)) := by
  unfold srcV
  rw [Int.toNat_natCast, List.getD_eq_getElem?_getD, List.getElem?_eq_getElem h]; rfl
/-- All but one block are as they were. -/
structure Fx (g : Nat) (W W' : World) : Prop where
  os : W'.os = W.os
  tape : W'.tape = W.tape
  output : W'.output = W.output
  size : W.heap.size ≤ W'.heap.size
  block : ∀ k, k < W.heap.size → k ≠ g → W'.heap[k]? = W.heap[k]?
theorem Fx.refl (g : Nat) (W : World) : Fx g W W := ⟨rfl, rfl, rfl, Nat.le_refl _, fun _ _ _ => rfl⟩
theorem Fx.trans {g : Nat} {a b c : World} (h : Fx g a b) (k : Fx g b c) : Fx g a c :=
  ⟨k.os.trans h.os, k.tape.trans h.tape, k.output.trans h.output, Nat.le_trans h.size k.size, fun i hi hn => (k.block i (Nat.lt_of_lt_of_le hi h.size) hn).trans (h.block i hi hn)⟩
theorem Fx.of {g : Nat} {W W' : World} (h : Below W.heap.size W W') : Fx g W W' := ⟨h.os, h.tape, h.output, h.size, fun k hk _ => h.block k hk⟩
theorem Fx.below {g B : Nat} {w W W' : World} (h : Below B w W) (k : Fx g W W') (hg : B ≤ g) (hB : B ≤ W.heap.size) : Below B w W' :=
  ⟨k.os.trans h.os, k.tape.trans h.tape, k.output.trans h.output, Nat.le_trans h.size k.size, fun i hi => (k.block i (by omega) (by omega)).trans (h.block i hi)⟩
theorem Fx.set (g i : Nat) (W : World) (v : Value) : Fx g W (W.setCell ⟨g, i, none⟩ v) := by
  have h : Below g W (W.setCell ⟨g, i, none⟩ v) := (Below.refl g W).setCell (Nat.le_refl g) v
  exact ⟨h.os, h.tape, h.output, h.size, fun k hk hn => by
    exact Below.heap_setCell W ⟨g, i, none⟩ v k hn⟩
/-- A mapped design that runs: its block b, and its values in the block g. -/
structure Ob (B : Nat) (W : World) (b g : Nat) (u : List Value) (vs : List Bool) : Prop where
  hb : B ≤ b
  hg : B ≤ g
  ne : b ≠ g
  lt : g < W.heap.size
  at_ : At W b 0 (u ++ [.slice (some ⟨g, 0, none⟩) vs.length vs.length])
  vals : ∀ i x, vs[i]? = some x → W.cell? ⟨g, i, none⟩ = some (.int .i64 (b2i x)) ∧ W.frozen? ⟨g, i, none⟩ = false
theorem Ob.later {B b g : Nat} {W W' : World} {u : List Value} {vs : List Bool} (h : Ob B W b g u vs) (hb : Below W.heap.size W W') : Ob B W' b g u vs :=
  ⟨h.hb, h.hg, h.ne, Nat.lt_of_lt_of_le h.lt hb.size, fun j y hj => cell_later hb (h.at_ j y hj), fun i x hx => ⟨cell_later hb (h.vals i x hx).1, frozen_later hb (h.vals i x hx).1 (h.vals i x hx).2⟩⟩
theorem Ob.set {B b g : Nat} {W : World} {u : List Value} {vs : List Bool} (h : Ob B W b g u vs) (i : Nat) (y : Bool) : Ob B (W.setCell ⟨g, i, none⟩ (.int .i64 (b2i y))) b g u (vs.set i y) := by
  refine ⟨h.hb, h.hg, h.ne, by have := h.lt; simpa using this, fun j z hj => ?_, fun k x hx => ?_⟩
  · rw [List.length_set] at hj
    have := setK_other [.int .i64 (b2i y)] W g i b (0 + j) (.inl h.ne)
    exact this.trans (h.at_ j z hj)
  · have hf : (W.setCell ⟨g, i, none⟩ (.int .i64 (b2i y))).frozen? ⟨g, k, none⟩ = W.frozen? ⟨g, k, none⟩ := setK_frozen [.int .i64 (b2i y)] W g i ⟨g, k, none⟩
    by_cases hk : k = i
    · subst hk
      have hlt : k < vs.length := by
        have := (List.getElem?_eq_some_iff.1 hx).1
        rwa [List.length_set] at this
      have hv : vs[k]? = some vs[k] := List.getElem?_eq_getElem hlt
      rw [List.getElem?_set_self hlt] at hx
      injection hx with hx
      subst hx
      refine ⟨?_, hf.trans (h.vals k _ hv).2⟩
      have := setK_at [.int .i64 (b2i y)] W g k (fun q hq => ⟨_, by
        have : q = 0 := by simpa using hq
        subst this
        exact (h.vals k _ hv).1⟩)
      exact this.get0
    · rw [List.getElem?_set_ne (fun e => hk e.symm)] at hx
      refine ⟨?_, hf.trans (h.vals k x hx).2⟩
      have := setK_other [.int .i64 (b2i y)] W g i g k (.inr (by simp; omega))
      exact this.trans (h.vals k x hx).1
end Go.Proofs.YthbcokioijpofabGreat
namespace Go.Proofs.YthbcokioijpofabGreat
open Go Go.RowKit Gs
set_option linter.unusedVariables false
set_option linter.unusedSimpArgs false
set_option maxRecDepth 100000
/-- The cells of a mapped design that runs. -/
theorem Ob.cells {B b g : Nat} {W : World} {u0 u1 u2 u3 u4 u5 : Value} {vs : List Bool} (h : Ob B W b g [u0, u1, u2, u3, u4, u5] vs) :
    W.cell? ⟨b, 0, none⟩ = some u0 ∧ W.cell? ⟨b, 1, none⟩ = some u1 ∧ W.cell? ⟨b, 2, none⟩ = some u2 ∧ W.cell? ⟨b, 3, none⟩ = some u3 ∧ W.cell? ⟨b, 4, none⟩ = some u4 ∧ W.cell? ⟨b, 5, none⟩ = some u5 ∧ W.cell? ⟨b, 6, none⟩ = some (.slice (some ⟨g, 0, none⟩) vs.length vs.length) := by
  have a := h.at_
  exact ⟨by simpa using a 0 _ rfl, by simpa using a 1 _ rfl, by simpa using a 2 _ rfl, by simpa using a 3 _ rfl, by simpa using a 4 _ rfl, by simpa using a 5 _ rfl, by simpa using a 6 _ rfl⟩
theorem Ob.src {B b g : Nat} {W : World} {u : List Value} {vs : List Bool} (h : Ob B W b g u vs) (z : Int) (h0 : 0 ≤ z) (hz : z < (vs.length : Int)) : ∃ p : Nat, z = (p : Int) ∧ p < vs.length ∧ W.cell? ⟨g, p, none⟩ = some (.int .i64 (b2i (srcV vs z))) := by
  obtain ⟨p, rfl⟩ : ∃ p : Nat, z = (p : Int) := ⟨z.toNat, by omega⟩
  have hp : p < vs.length := by omega
  exact ⟨p, rfl, hp, (h.vals p _ (srcV_at hp)).1⟩
set_option maxHeartbeats 1600000 in
theorem iReg {B b g : Nat} {W : World} {s0 : Option Addr} {l0 c0 : Nat} {u1 u2 u3 u4 u5 : Value} {vs : List Bool} (h : Ob B W b g [.slice s0 l0 c0, u1, u2, u3, u4, u5] vs) (k : Nat) (h0 : l0 ≤ 1048576) (hk : k ≤ 1048576) :
    Calls Tryz.prog 70 #[.pointer (some ⟨b, 0, none⟩), .int .i64 k] W fun e w' => e = .returned (.int .i64 ((l0 + k : Nat) : Int)) ∧ w' = W := by
  obtain ⟨q0, _⟩ := h.cells
  clear h
  go_enter Tryz.func70, Tryz.ntmps70
  go_wp2
  exact bodyPost_ret (v := .int .i64 ((l0 + k : Nat) : Int)) (by simp [results, Tryz.results70, go_sem]) rfl ⟨rfl, rfl⟩
set_option maxHeartbeats 1600000 in
theorem iSmall (y : Bool) (W : World) : Calls Tryz.prog 133 #[.int .i64 (b2i y)] W fun e w' => e = .returned (.string (txt1 y)) ∧ w' = W := by
  cases y
  · show Calls Tryz.prog 133 #[.int .i64 0] W _
    go_enter Tryz.func133, Tryz.ntmps133
    go_wp2
    exact bodyPost_ret (v := .string ⟨#[48]⟩) (by simp [results, Tryz.results133, go_sem]; try rfl) rfl ⟨rfl, rfl⟩
  · show Calls Tryz.prog 133 #[.int .i64 1] W _
    go_enter Tryz.func133, Tryz.ntmps133
    go_wp2
    exact bodyPost_ret (v := .string ⟨#[49]⟩) (by simp [results, Tryz.results133, go_sem]; try rfl) rfl ⟨rfl, rfl⟩
theorem b2i_bd (y : Bool) : 0 ≤ b2i y ∧ b2i y ≤ 1 := by cases y <;> decide
set_option maxHeartbeats 1600000 in
theorem iFormat (y : Bool) (W : World) : Calls Tryz.prog 132 #[.int .i64 (b2i y), .int .i64 10] W fun e w' => e = .returned (.string (txt1 y)) ∧ w' = W := by
  have H := hide (iSmall y W)
  obtain ⟨h0, h1⟩ := b2i_bd y
  generalize b2i y = z at *
  go_enter Tryz.func132, Tryz.ntmps132
  go_wp2_with fail
  refine (unhide H).mono ?_
  rintro e W1 ⟨rfl, h⟩
  subst h
  go_wp2_with fail
  exact bodyPost_ret (v := .string (txt1 y)) (by simp [results, Tryz.results132, go_sem]) rfl ⟨rfl, rfl⟩
set_option maxHeartbeats 1600000 in
theorem iItoa1 (y : Bool) (W : World) : Calls Tryz.prog 131 #[.int .i64 (b2i y)] W fun e w' => e = .returned (.string (txt1 y)) ∧ w' = W := by
  have H := hide (iFormat y W)
  generalize b2i y = z at *
  go_enter Tryz.func131, Tryz.ntmps131
  go_wp2_with fail
  refine (unhide H).mono ?_
  rintro e W1 ⟨rfl, h⟩
  subst h
  go_wp2_with fail
  exact bodyPost_ret (v := .string (txt1 y)) (by simp [results, Tryz.results131, go_sem]) rfl ⟨rfl, rfl⟩
set_option maxHeartbeats 1600000 in
theorem iItoa (y : Bool) (W : World) : Calls Tryz.prog 130 #[.int .i64 (b2i y)] W fun e w' => e = .returned (.string (txt1 y)) ∧ w' = W := by
  have H := hide (iItoa1 y W)
  generalize b2i y = z at *
  go_enter Tryz.func130, Tryz.ntmps130
  go_wp2_with fail
  refine (unhide H).mono ?_
  rintro e W1 ⟨rfl, h⟩
  subst h
  go_wp2_with fail
  exact bodyPost_ret (v := .string (txt1 y)) (by simp [results, Tryz.results130, go_sem]) rfl ⟨rfl, rfl⟩
set_option maxHeartbeats 1600000 in
theorem iTold {B b g : Nat} {W : World} {u0 u1 u2 u3 u4 u5 : Value} {vs : List Bool} (h : Ob B W b g [u0, u1, u2, u3, u4, u5] vs) (z : Int) (h0 : 0 ≤ z) (hz : z < (vs.length : Int)) (hl : vs.length ≤ 1048576 * 8) :
    Calls Tryz.prog 128 #[.pointer (some ⟨b, 0, none⟩), .int .i64 z] W fun e w' => e = .returned (.string (txt1 (srcV vs z))) ∧ w' = W := by
  obtain ⟨p, rfl, hp, hc⟩ := h.src z h0 hz
  obtain ⟨_, _, _, _, _, _, q6⟩ := h.cells
  have H := hide (iItoa (srcV vs (p : Int)) W)
  clear h
  generalize srcV vs (p : Int) = y at *
  generalize b2i y = i at *
  go_enter Tryz.func128, Tryz.ntmps128
  go_wp2_with fail
  refine (unhide H).mono ?_
  rintro e W1 ⟨rfl, h⟩
  subst h
  go_wp2_with fail
  exact bodyPost_ret (v := .string (txt1 y)) (by simp [results, Tryz.results128, go_sem]) rfl ⟨rfl, rfl⟩
set_option maxHeartbeats 1600000 in
theorem iToldPort {B b g p : Nat} {W : World} {u0 u1 u2 u3 u4 u5 : Value} {vs : List Bool} (h : Ob B W b g [u0, u1, u2, u3, u4, u5] vs) (hp : W.cell? ⟨p, 0, none⟩ = some (.pointer (some ⟨b, 0, none⟩))) (nm : ByteArray) (z : Int) (h0 : 0 ≤ z) (hz : z < (vs.length : Int)) (hl : vs.length ≤ 1048576 * 8) :
    Calls Tryz.prog 127 #[.agg #[.string nm, .int .i64 z], .pointer (some ⟨p, 0, none⟩)] W fun e w' => e = .returned (.string (txt1 (srcV vs z))) ∧ Below W.heap.size W w' := by
  have H := hide (iTold (h.later (bal (brf W) (.cells #[.string nm, .int .i64 z] 77))) z h0 hz hl)
  have q := cell_later (bal (brf W) (.cells #[.string nm, .int .i64 z] 77)) hp
  have HB := hide (bal (brf W) (.cells #[.string nm, .int .i64 z] 77))
  clear h
  go_enter Tryz.func127, Tryz.ntmps127
  go_wp2_with fail
  refine (unhide H).mono ?_
  rintro e W1 ⟨rfl, h⟩
  subst h
  go_wp2_with fail
  exact bodyPost_ret (v := .string (txt1 (srcV vs z))) (by simp [results, Tryz.results127, go_sem]) rfl ⟨rfl, unhide HB⟩
set_option maxHeartbeats 1600000 in
theorem iNextOf {B b g p : Nat} {W : World} {u0 u1 u2 u3 u4 u5 : Value} {vs : List Bool} (h : Ob B W b g [u0, u1, u2, u3, u4, u5] vs) (hp : W.cell? ⟨p, 0, none⟩ = some (.pointer (some ⟨b, 0, none⟩))) (nm : ByteArray) (z z2 z3 : Int) (h0 : 0 ≤ z) (hz : z < (vs.length : Int)) (hl : vs.length ≤ 1048576 * 8) :
    Calls Tryz.prog 129 #[.agg #[.string nm, .int .i64 z, .int .i64 z2, .int .i64 z3], .pointer (some ⟨p, 0, none⟩)] W fun e w' => e = .returned (.int .i64 (b2i (srcV vs z))) ∧ Below W.heap.size W w' := by
  have h' := h.later (bal (brf W) (.cells #[.string nm, .int .i64 z, .int .i64 z2, .int .i64 z3] 69))
  obtain ⟨k, rfl, hk, hc⟩ := h'.src z h0 hz
  obtain ⟨_, _, _, _, _, _, q6⟩ := h'.cells
  have q := cell_later (bal (brf W) (.cells #[.string nm, .int .i64 (k : Int), .int .i64 z2, .int .i64 z3] 69)) hp
  have HB := hide (bal (brf W) (.cells #[.string nm, .int .i64 (k : Int), .int .i64 z2, .int .i64 z3] 69))
  clear h h'
  generalize b2i (srcV vs (k : Int)) = i at *
  go_enter Tryz.func129, Tryz.ntmps129
  go_wp2
  go_quiet (fail)
  go_wp2
  exact bodyPost_ret (v := .int .i64 i) (by simp [results, Tryz.results129, go_sem]) rfl ⟨rfl, below_drewN (unhide HB) _⟩
end Go.Proofs.YthbcokioijpofabGreat
