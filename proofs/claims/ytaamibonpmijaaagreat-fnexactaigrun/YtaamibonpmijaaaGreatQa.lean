/- A graph as it runs: what its variables are, and how they lie in memory. -/
import Derived.Test.YtaamibonpmijaaaGreatDD
import Derived.Test.YtaamibonpmijaaaGreatGS2
import Derived.BigQuiet
namespace Go.Proofs.YtaamibonpmijaaaGreat
open Go Go.RowKit Gs
set_option linter.unusedVariables false
set_option maxRecDepth 100000
/-- What a literal is. -/
def litV (vs : List Bool) (l : Int) : Bool := vs.getD (l / 2).toNat false != (l % 2 == 1)
def txt1 (b : Bool) : ByteArray := if b then ⟨#[49]⟩ else ⟨#[48]⟩
def bit1 (s : ByteArray) : Bool := s.toList == [49]
/-- Each and, one behind another. -/
def andsV : List Bool → List AndG → List Bool
  | vs, [] => vs
  | vs, a :: r => andsV (vs ++ [litV vs a.a && litV vs a.b]) r
theorem andsV_len : ∀ (xs : List AndG) (vs : List Bool), (andsV vs xs).length = vs.length + xs.length
  | [], vs => rfl
  | a :: r, vs => by rw [andsV, andsV_len r]; simp; omega
theorem andsV_append : ∀ (xs ys : List AndG) (vs : List Bool), andsV vs (xs ++ ys) = andsV (andsV vs xs) ys
  | [], _, _ => rfl
  | a :: r, ys, vs => by rw [List.cons_append, andsV, andsV, andsV_append r]
theorem andsV_step {xs : List AndG} {k : Nat} {x : AndG} (vs : List Bool) (h : xs[k]? = some x) : andsV vs (xs.take (k + 1)) = andsV vs (xs.take k) ++ [litV (andsV vs (xs.take k)) x.a && litV (andsV vs (xs.take k)) x.b] := by
  rw [List.take_add_one, h, Option.toList_some, andsV_append]; rfl
theorem andsV_pre : ∀ (xs : List AndG) (vs : List Bool), ∃ r, andsV vs xs = vs ++ r
  | [], vs => ⟨[], by rw [List.append_nil]; rfl⟩
  | a :: r, vs => by
    obtain ⟨t, ht⟩ := andsV_pre r (vs ++ [litV vs a.a && litV vs a.b])
    exact ⟨[litV vs a.a && litV vs a.b] ++ t, by rw [andsV, ht, List.append_assoc]⟩
/-- The latches behind a tick. -/
def nextV (ticks vs : List Bool) (ls : List Latch) (st : List Bool) : List Bool :=
  List.zipWith (fun (l : Latch) s => if ticks.getD l.clock.toNat false then litV vs l.next else s) ls st
def rowV (x : Aig) (vs st : List Bool) : Row := ⟨x.outs.map (fun p => txt1 (litV vs p.lit)), x.checks.map (fun p => txt1 (litV vs p.lit)), st.map txt1⟩
def baseV (ins st : List Bool) : List Bool := false :: (ins ++ st)
def stepV (x : Aig) (st : List Bool) (s : Step) : List Bool := nextV s.ticks (andsV (baseV (s.ins.map bit1) st) x.ands) x.latches st
/-- The rows of a run. -/
def rowsV (x : Aig) : List Bool → List Step → List Row
  | _, [] => []
  | st, s :: r => rowV x (andsV (baseV (s.ins.map bit1) (stepV x st s)) x.ands) (stepV x st s) :: rowsV x (stepV x st s) r
def statesV (x : Aig) : List Bool → List Step → List Bool
  | st, [] => st
  | st, s :: r => statesV x (stepV x st s) r
theorem rowsV_append (x : Aig) : ∀ (xs ys : List Step) (st : List Bool), rowsV x st (xs ++ ys) = rowsV x st xs ++ rowsV x (statesV x st xs) ys
  | [], _, _ => rfl
  | s :: r, ys, st => by rw [List.cons_append, rowsV, rowsV, rowsV_append x r, statesV, List.cons_append]
theorem statesV_append (x : Aig) : ∀ (xs ys : List Step) (st : List Bool), statesV x st (xs ++ ys) = statesV x (statesV x st xs) ys
  | [], _, _ => rfl
  | s :: r, ys, st => by rw [List.cons_append, statesV, statesV, statesV_append x r]
theorem nextV_len (t vs : List Bool) (ls : List Latch) (st : List Bool) (h : st.length = ls.length) : (nextV t vs ls st).length = ls.length := by
  unfold nextV; rw [List.length_zipWith]; omega
theorem stepV_len (x : Aig) (st : List Bool) (s : Step) (h : st.length = x.latches.length) : (stepV x st s).length = x.latches.length := nextV_len _ _ _ _ h
theorem statesV_len (x : Aig) : ∀ (xs : List Step) (st : List Bool), st.length = x.latches.length → (statesV x st xs).length = x.latches.length
  | [], _, h => h
  | s :: r, st, h => statesV_len x r _ (stepV_len x st s h)
theorem litV_pre {vs r : List Bool} {l : Int} (h : l < 2 * (vs.length : Int)) (h0 : 0 ≤ l) : litV (vs ++ r) l = litV vs l := by
  unfold litV
  rw [List.getD_eq_getElem?_getD, List.getD_eq_getElem?_getD, List.getElem?_append_left (by omega)]
/-- All but one block are as they were. -/
structure Fx (g : Nat) (W W' : World) : Prop where
  os : W'.os = W.os
  tape : W'.tape = W.tape
  output : W'.output = W.output
  size : W.heap.size ≤ W'.heap.size
  block : ∀ k, k < W.heap.size → k ≠ g → W'.heap[k]? = W.heap[k]?
theorem Fx.refl (g : Nat) (W : World) : Fx g W W := ⟨rfl, rfl, rfl, Nat.le_refl _, fun _ _ _ => rfl⟩
theorem Fx.trans {g : Nat} {a b c : World} (h : Fx g a b) (k : Fx g b c) : Fx g a c :=
  ⟨k.os.trans h.os, k.tape.trans h.tape, k.output.trans h.output, Nat.le_trans h.size k.size, fun i hi hn => (k.block i (Nat.lt_of_lt_of_le hi h.size) hn).trans (h.block i hi hn)⟩
theorem Fx.of {g : Nat} {W W' : World} (h : Below W.heap.size W W') : Fx g W W' := ⟨h.os, h.tape, h.output, h.size, fun k hk _ => h.block k hk⟩
theorem Fx.below {g B : Nat} {w W W' : World} (h : Below B w W) (k : Fx g W W') (hg : B ≤ g) (hB : B ≤ W.heap.size) : Below B w W' :=
  ⟨k.os.trans h.os, k.tape.trans h.tape, k.output.trans h.output, Nat.le_trans h.size k.size, fun i hi => (k.block i (by omega) (by omega)).trans (h.block i hi)⟩
theorem Fx.set (g i : Nat) (W : World) (v : Value) : Fx g W (W.setCell ⟨g, i, none⟩ v) := by
  have h : Below g W (W.setCell ⟨g, i, none⟩ v) := (Below.refl g W).setCell (Nat.le_refl g) v
  exact ⟨h.os, h.tape, h.output, h.size, fun k hk hn => by
    exact Below.heap_setCell W ⟨g, i, none⟩ v k hn⟩
/-- A graph that runs: its block b, and its values in the block g. -/
structure Ob (B : Nat) (W : World) (b g : Nat) (u : List Value) (vs : List Bool) : Prop where
  hb : B ≤ b
  hg : B ≤ g
  ne : b ≠ g
  at_ : At W b 0 (u ++ [.slice (some ⟨g, 0, none⟩) vs.length vs.length])
  vals : ∀ i x, vs[i]? = some x → W.cell? ⟨g, i, none⟩ = some (.bool x) ∧ W.frozen? ⟨g, i, none⟩ = false
theorem Ob.later {B b g : Nat} {W W' : World} {u : List Value} {vs : List Bool} (h : Ob B W b g u vs) (hb : Below W.heap.size W W') : Ob B W' b g u vs :=
  ⟨h.hb, h.hg, h.ne, fun j y hj => cell_later hb (h.at_ j y hj), fun i x hx => ⟨cell_later hb (h.vals i x hx).1, frozen_later hb (h.vals i x hx).1 (h.vals i x hx).2⟩⟩
theorem Ob.set {B b g : Nat} {W : World} {u : List Value} {vs : List Bool} (h : Ob B W b g u vs) (i : Nat) (y : Bool) : Ob B (W.setCell ⟨g, i, none⟩ (.bool y)) b g u (vs.set i y) := by
  refine ⟨h.hb, h.hg, h.ne, fun j z hj => ?_, fun k x hx => ?_⟩
  · rw [List.length_set] at hj
    have := setK_other [.bool y] W g i b (0 + j) (.inl h.ne)
    exact this.trans (h.at_ j z hj)
  · have hf : (W.setCell ⟨g, i, none⟩ (.bool y)).frozen? ⟨g, k, none⟩ = W.frozen? ⟨g, k, none⟩ := setK_frozen [.bool y] W g i ⟨g, k, none⟩
    by_cases hk : k = i
    · subst hk
      have hlt : k < vs.length := by
        have := (List.getElem?_eq_some_iff.1 hx).1
        rwa [List.length_set] at this
      have hv : vs[k]? = some vs[k] := List.getElem?_eq_getElem hlt
      rw [List.getElem?_set_self hlt] at hx
      injection hx with hx
      subst hx
      refine ⟨?_, hf.trans (h.vals k _ hv).2⟩
      have := setK_at [.bool y] W g k (fun q hq => ⟨_, by
        have : q = 0 := by simpa using hq
        subst this
        exact (h.vals k _ hv).1⟩)
      exact this.get0
    · rw [List.getElem?_set_ne (fun e => hk e.symm)] at hx
      refine ⟨?_, hf.trans (h.vals k x hx).2⟩
      have := setK_other [.bool y] W g i g k (.inr (by simp; omega))
      exact this.trans (h.vals k x hx).1
end Go.Proofs.YtaamibonpmijaaaGreat
namespace Go.Proofs.YtaamibonpmijaaaGreat
open Go Go.RowKit Gs
set_option linter.unusedVariables false
set_option linter.unusedSimpArgs false
set_option maxRecDepth 100000
/-- The cells of a graph that runs. -/
theorem Ob.cells {B b g : Nat} {W : World} {u0 u1 u2 u3 u4 u5 : Value} {vs : List Bool} (h : Ob B W b g [u0, u1, u2, u3, u4, u5] vs) :
    W.cell? ⟨b, 0, none⟩ = some u0 ∧ W.cell? ⟨b, 1, none⟩ = some u1 ∧ W.cell? ⟨b, 2, none⟩ = some u2 ∧ W.cell? ⟨b, 3, none⟩ = some u3 ∧ W.cell? ⟨b, 4, none⟩ = some u4 ∧ W.cell? ⟨b, 5, none⟩ = some u5 ∧ W.cell? ⟨b, 6, none⟩ = some (.slice (some ⟨g, 0, none⟩) vs.length vs.length) := by
  have a := h.at_
  exact ⟨by simpa using a 0 _ rfl, by simpa using a 1 _ rfl, by simpa using a 2 _ rfl, by simpa using a 3 _ rfl, by simpa using a 4 _ rfl, by simpa using a 5 _ rfl, by simpa using a 6 _ rfl⟩
set_option maxHeartbeats 1600000 in
theorem iLatch {B b g : Nat} {W : World} {s0 : Option Addr} {l0 c0 : Nat} {u1 u2 u3 u4 u5 : Value} {vs : List Bool} (h : Ob B W b g [.slice s0 l0 c0, u1, u2, u3, u4, u5] vs) (k : Nat) (h0 : l0 ≤ 1048576) (hk : k ≤ 1048576) :
    Calls Tryz.prog 70 #[.pointer (some ⟨b, 0, none⟩), .int .i64 k] W fun e w' => e = .returned (.int .i64 ((1 + l0 + k : Nat) : Int)) ∧ w' = W := by
  obtain ⟨q0, _⟩ := h.cells
  clear h
  go_enter Tryz.func70, Tryz.ntmps70
  go_wp2
  exact bodyPost_ret (v := .int .i64 ((1 + l0 + k : Nat) : Int)) (by simp [results, Tryz.results70, go_sem]) rfl ⟨rfl, rfl⟩
set_option maxHeartbeats 1600000 in
theorem iHolds {B b g : Nat} {W : World} {u0 u1 u2 u3 u4 u5 : Value} {vs : List Bool} (h : Ob B W b g [u0, u1, u2, u3, u4, u5] vs) (z : Int) (h0 : 0 ≤ z) (hz : z < 2 * (vs.length : Int)) (hl : vs.length ≤ 1048576 * 8) :
    Calls Tryz.prog 124 #[.pointer (some ⟨b, 0, none⟩), .int .i64 z] W fun e w' => e = .returned (.bool (litV vs z)) ∧ w' = W := by
  obtain ⟨_, _, _, _, _, _, q6⟩ := h.cells
  obtain ⟨m, rfl⟩ : ∃ m : Nat, z = m := ⟨z.toNat, by omega⟩
  have hlt : m / 2 < vs.length := by omega
  have hx : vs[m / 2]? = some vs[m / 2] := List.getElem?_eq_getElem hlt
  have hc := (h.vals _ _ hx).1
  have hv : litV vs m = (vs[m / 2] != ((m : Int) % 2 == 1)) := by
    unfold litV
    rw [show ((m : Int) / 2).toNat = m / 2 by omega, List.getD_eq_getElem?_getD, hx]; rfl
  rw [hv]
  generalize vs[m / 2] = y at *
  have i1 : (0 : Int) ≤ (m : Int) / 2 := by omega
  have i2 : (m : Int) / 2 < (vs.length : Int) := by omega
  clear h hx hv
  go_enter Tryz.func124, Tryz.ntmps124
  go_wp2
  exact bodyPost_ret (v := .bool (y != ((m : Int) % 2 == 1))) (by simp [results, Tryz.results124, go_sem]; cases y <;> cases ((m : Int) % 2 == 1) <;> rfl) rfl ⟨rfl, rfl⟩
set_option maxHeartbeats 1600000 in
theorem iTold {B b g : Nat} {W : World} {u0 u1 u2 u3 u4 u5 : Value} {vs : List Bool} (h : Ob B W b g [u0, u1, u2, u3, u4, u5] vs) (z : Int) (h0 : 0 ≤ z) (hz : z < 2 * (vs.length : Int)) (hl : vs.length ≤ 1048576 * 8) :
    Calls Tryz.prog 123 #[.pointer (some ⟨b, 0, none⟩), .int .i64 z] W fun e w' => e = .returned (.string (txt1 (litV vs z))) ∧ w' = W := by
  have H := hide (iHolds h z h0 hz hl)
  clear h
  generalize litV vs z = y at *
  go_enter Tryz.func123, Tryz.ntmps123
  cases y
  · go_wp2_with fail
    refine (unhide H).mono ?_
    rintro e W1 ⟨rfl, h⟩
    subst h
    go_wp2_with fail
    exact bodyPost_ret (v := .string ⟨#[48]⟩) (by simp [results, Tryz.results123, go_sem]) rfl ⟨rfl, rfl⟩
  · go_wp2_with fail
    refine (unhide H).mono ?_
    rintro e W1 ⟨rfl, h⟩
    subst h
    go_wp2_with fail
    exact bodyPost_ret (v := .string ⟨#[49]⟩) (by simp [results, Tryz.results123, go_sem]) rfl ⟨rfl, rfl⟩
set_option maxHeartbeats 1600000 in
theorem iToldPin {B b g p : Nat} {W : World} {u0 u1 u2 u3 u4 u5 : Value} {vs : List Bool} (h : Ob B W b g [u0, u1, u2, u3, u4, u5] vs) (hp : W.cell? ⟨p, 0, none⟩ = some (.pointer (some ⟨b, 0, none⟩))) (nm : ByteArray) (z : Int) (h0 : 0 ≤ z) (hz : z < 2 * (vs.length : Int)) (hl : vs.length ≤ 1048576 * 8) :
    Calls Tryz.prog 122 #[.agg #[.string nm, .int .i64 z], .pointer (some ⟨p, 0, none⟩)] W fun e w' => e = .returned (.string (txt1 (litV vs z))) ∧ Below W.heap.size W w' := by
  have H := hide (iTold (h.later (bal (brf W) (.cells #[.string nm, .int .i64 z] 78))) z h0 hz hl)
  have q := cell_later (bal (brf W) (.cells #[.string nm, .int .i64 z] 78)) hp
  have HB := hide (bal (brf W) (.cells #[.string nm, .int .i64 z] 78))
  clear h
  go_enter Tryz.func122, Tryz.ntmps122
  go_wp2_with fail
  refine (unhide H).mono ?_
  rintro e W1 ⟨rfl, h⟩
  subst h
  go_wp2_with fail
  exact bodyPost_ret (v := .string (txt1 (litV vs z))) (by simp [results, Tryz.results122, go_sem]) rfl ⟨rfl, unhide HB⟩
set_option maxHeartbeats 1600000 in
theorem iNextOf {B b g p : Nat} {W : World} {u0 u1 u2 u3 u4 u5 : Value} {vs : List Bool} (h : Ob B W b g [u0, u1, u2, u3, u4, u5] vs) (hp : W.cell? ⟨p, 0, none⟩ = some (.pointer (some ⟨b, 0, none⟩))) (nm : ByteArray) (z z2 z3 : Int) (h0 : 0 ≤ z) (hz : z < 2 * (vs.length : Int)) (hl : vs.length ≤ 1048576 * 8) :
    Calls Tryz.prog 126 #[.agg #[.string nm, .int .i64 z, .int .i64 z2, .int .i64 z3], .pointer (some ⟨p, 0, none⟩)] W fun e w' => e = .returned (.bool (litV vs z)) ∧ Below W.heap.size W w' := by
  have H := hide (iHolds (h.later (bal (brf W) (.cells #[.string nm, .int .i64 z, .int .i64 z2, .int .i64 z3] 69))) z h0 hz hl)
  have q := cell_later (bal (brf W) (.cells #[.string nm, .int .i64 z, .int .i64 z2, .int .i64 z3] 69)) hp
  have HB := hide (bal (brf W) (.cells #[.string nm, .int .i64 z, .int .i64 z2, .int .i64 z3] 69))
  clear h
  go_enter Tryz.func126, Tryz.ntmps126
  go_wp2_with fail
  refine (unhide H).mono ?_
  rintro e W1 ⟨rfl, h⟩
  subst h
  go_wp2_with fail
  exact bodyPost_ret (v := .bool (litV vs z)) (by simp [results, Tryz.results126, go_sem]) rfl ⟨rfl, unhide HB⟩
end Go.Proofs.YtaamibonpmijaaaGreat
namespace Go.Proofs.YtaamibonpmijaaaGreat
open Go Go.RowKit Gs
set_option linter.unusedVariables false
set_option linter.unusedSimpArgs false
set_option maxRecDepth 100000
set_option maxHeartbeats 1600000 in
theorem iTake {B b g : Nat} {W0 W : World} {p0 p1 p2 p3 p4 p5 : Value} {r : List Bool} (h : Ob B W b g [p0, p1, p2, p3, p4, p5] (false :: r)) (ins : List ByteArray) (v : Value) (hr : RS 1 RStr W0 0 ins v) (hB : Below B W0 W) (hBe : B = W0.heap.size) (hl : r.length ≤ 1048576 * 4) (hn : ins.length ≤ r.length) :
    Calls Tryz.prog 120 #[.pointer (some ⟨b, 0, none⟩), v] W fun e w' => e = .returned (.tuple #[]) ∧ Ob B w' b g [p0, p1, p2, p3, p4, p5] (false :: (ins.map bit1 ++ r.drop ins.length)) ∧ Fx g W w' := by
  subst hBe
  obtain ⟨a, c, rfl⟩ := hr.slice
  have HCS : Hid (∀ (i : Nat) x, ins[i]? = some x → ∃ b o, a = some ⟨b, o, none⟩ ∧ W0.cell? ⟨b, o + i, none⟩ = some (.string x)) := hide (by
    intro i x hx
    rcases hr.open with ⟨rfl, _⟩ | ⟨b, o, c', hv, _, _, _, he⟩
    · simp at hx
    · injection hv with e1 e2 e3
      obtain ⟨u, hu, hat, hux, hs⟩ := he i x hx
      subst hux
      exact ⟨b, o, e1, by simpa using hat.get (j := 0) rfl⟩)
  clear hr
  go_enter Tryz.func120, Tryz.ntmps120
  go_wp2
  go_loopw [8] (fun i wr => ∃ k : Nat, k ≤ ins.length ∧ i = .int .i64 k ∧ Ob W0.heap.size wr b g [p0, p1, p2, p3, p4, p5] (false :: ((ins.take k).map bit1 ++ r.drop k)) ∧ Fx g W wr) (fun i wr => ins.length - (intOf i).toNat)
  case atStart => exact ⟨0, Nat.zero_le _, rfl, by simpa using h, Fx.refl _ _⟩
  case round =>
    obtain ⟨k, hk, rfl, ho, hf⟩ := hrel
    by_cases hlt : k < ins.length
    · have hx : ins[k]? = some ins[k] := List.getElem?_eq_getElem hlt
      generalize ins[k] = x at hx
      obtain ⟨bb, oo, rfl, hc⟩ := unhide HCS k x hx
      have hbw : Below W0.heap.size W0 wr := hf.below hB h.hg (by have := hB.size; omega)
      have k0 := cell_later hbw hc
      obtain ⟨_, _, _, _, _, _, q6⟩ := ho.cells
      have hlen : (false :: ((ins.take k).map bit1 ++ r.drop k)).length = r.length + 1 := by simp; omega
      rw [hlen] at q6
      have HO := hide (ho.set (1 + k) (bit1 x))
      have HF := hide (hf.trans (Fx.set g (1 + k) wr (.bool (bit1 x))))
      have HST : Hid ((false :: ((ins.take k).map bit1 ++ r.drop k)).set (1 + k) (bit1 x) = false :: ((ins.take (k + 1)).map bit1 ++ r.drop (k + 1))) := hide (by
        rw [show 1 + k = k + 1 by omega, List.set_cons_succ, List.take_add_one, hx, List.map_append, Option.toList_some]
        have hl2 : ((ins.take k).map bit1).length = k := by rw [List.length_map, List.length_take]; omega
        rw [List.set_append_right _ _ (by omega), hl2, Nat.sub_self, List.drop_eq_getElem_cons (by omega : k < r.length), List.set_cons_zero, List.append_assoc]
        rfl)
      have hcl : ∃ y, wr.cell? ⟨g, 1 + k, none⟩ = some (.bool y) ∧ wr.frozen? ⟨g, 1 + k, none⟩ = false := by
        have hl3 : 1 + k < (false :: ((ins.take k).map bit1 ++ r.drop k)).length := by rw [hlen]; omega
        exact ⟨_, ho.vals (1 + k) _ (List.getElem?_eq_getElem hl3)⟩
      obtain ⟨y, hy, hfz⟩ := hcl
      have i1 : (1 : Int) + (k : Int) < ((r.length + 1 : Nat) : Int) := by omega
      have i0 : (0 : Int) ≤ 1 + (k : Int) := by omega
      clear ho hf h hB hbw hc HCS hx hlen
      go_wp2
      go_roundw
      case rel => exact ⟨k + 1, by omega, by go_num, by rw [← unhide HST]; exact unhide HO, unhide HF⟩
      case measure => simp [intOf]; omega
    · obtain rfl : k = ins.length := by omega
      rw [List.take_of_length_le (Nat.le_refl _)] at ho
      have HO := hide ho
      have HF := hide hf
      clear ho hf HCS h hB
      go_wp2
      exact bodyPost_end (v := .tuple #[]) (by simp [results, Tryz.results120, go_sem]) rfl ⟨rfl, unhide HO, unhide HF⟩
end Go.Proofs.YtaamibonpmijaaaGreat
namespace Go.Proofs.YtaamibonpmijaaaGreat
open Go Go.RowKit Gs
set_option linter.unusedVariables false
set_option linter.unusedSimpArgs false
set_option maxRecDepth 100000
def b2i (b : Bool) : Int := if b then 1 else 0
set_option maxHeartbeats 1600000 in
theorem sBit (s : ByteArray) (w : World) : Calls Tryz.prog 24 #[.string s] w fun e w' => e = .returned (.int .i64 (b2i (bit1 s))) ∧ w' = w := by
  unfold bit1
  generalize hq : (s.toList == [49]) = q
  go_enter Tryz.func24, Tryz.ntmps24
  cases q
  · go_wp2
    exact bodyPost_ret (v := .int .i64 0) (by simp [results, Tryz.results24, go_sem]) rfl ⟨rfl, rfl⟩
  · go_wp2
    exact bodyPost_ret (v := .int .i64 1) (by simp [results, Tryz.results24, go_sem]) rfl ⟨rfl, rfl⟩
set_option maxHeartbeats 1600000 in
theorem sText (q : Bool) (w : World) : Calls Tryz.prog 27 #[.int .i64 (b2i q)] w fun e w' => e = .returned (.string (txt1 q)) ∧ w' = w := by
  go_enter Tryz.func27, Tryz.ntmps27
  cases q
  · unfold b2i
    go_wp2
    exact bodyPost_ret (v := .string ⟨#[48]⟩) (by simp [results, Tryz.results27, go_sem]) rfl ⟨rfl, rfl⟩
  · unfold b2i
    go_wp2
    exact bodyPost_ret (v := .string ⟨#[49]⟩) (by simp [results, Tryz.results27, go_sem]) rfl ⟨rfl, rfl⟩
/-- A slice of bits as ints. -/
theorem bits_at {W : World} {B : Nat} {vs : List Bool} {v : Value} (h : RS 1 RInt W B (vs.map b2i) v) {i : Nat} {y : Bool} (hy : vs[i]? = some y) : ∃ b o c, v = .slice (some ⟨b, o, none⟩) vs.length c ∧ W.cell? ⟨b, o + i, none⟩ = some (.int .i64 (b2i y)) := by
  rcases h.open with ⟨h0, _⟩ | ⟨b, o, c', hv, _, _, _, he⟩
  · have : vs = [] := by simpa using h0
    rw [this] at hy; simp at hy
  · obtain ⟨u, hu, hat, hux⟩ := he i (b2i y) (by rw [List.getElem?_map, hy]; rfl)
    subst hux
    exact ⟨b, o, c', by rw [hv, List.length_map], by simpa using hat.get (j := 0) rfl⟩
set_option maxHeartbeats 1600000 in
theorem sOf {B : Nat} (vs : List Bool) (v : Value) (z : Int) (w : World) (hr : RS 1 RInt w B (vs.map b2i) v) (h0 : 0 ≤ z) (hz : z < 2 * (vs.length : Int)) (hl : vs.length ≤ 1048576 * 8) :
    Calls Tryz.prog 26 #[v, .int .i64 z] w fun e w' => e = .returned (.int .i64 (b2i (litV vs z))) ∧ w' = w := by
  obtain ⟨m, rfl⟩ : ∃ m : Nat, z = m := ⟨z.toNat, by omega⟩
  have hlt : m / 2 < vs.length := by omega
  have hx : vs[m / 2]? = some vs[m / 2] := List.getElem?_eq_getElem hlt
  obtain ⟨b, o, c, rfl, hc⟩ := bits_at hr hx
  have hv : litV vs m = (vs[m / 2] != ((m : Int) % 2 == 1)) := by
    unfold litV
    rw [show ((m : Int) / 2).toNat = m / 2 by omega, List.getD_eq_getElem?_getD, hx]; rfl
  rw [hv]
  generalize vs[m / 2] = y at *
  have i1 : (0 : Int) ≤ (m : Int) / 2 := by omega
  have i2 : (m : Int) / 2 < (vs.length : Int) := by omega
  clear hx hv hr
  rcases Nat.mod_two_eq_zero_or_one m with h | h
  · have e : (m : Int) % 2 = 0 := by omega
    cases y
    · unfold b2i at hc
      go_enter Tryz.func26, Tryz.ntmps26
      go_wp2
      exact bodyPost_ret (v := .int .i64 0) (by simp [results, Tryz.results26, go_sem, e]; try decide) rfl ⟨by first | rfl | (rw [e]; rfl), rfl⟩
    · unfold b2i at hc
      go_enter Tryz.func26, Tryz.ntmps26
      go_wp2
      exact bodyPost_ret (v := .int .i64 1) (by simp [results, Tryz.results26, go_sem, e]; try decide) rfl ⟨by first | rfl | (rw [e]; rfl), rfl⟩
  · have e : (m : Int) % 2 = 1 := by omega
    cases y
    · unfold b2i at hc
      go_enter Tryz.func26, Tryz.ntmps26
      go_wp2
      exact bodyPost_ret (v := .int .i64 1) (by simp [results, Tryz.results26, go_sem, e]; try decide) rfl ⟨by first | rfl | (rw [e]; rfl), rfl⟩
    · unfold b2i at hc
      go_enter Tryz.func26, Tryz.ntmps26
      go_wp2
      exact bodyPost_ret (v := .int .i64 0) (by simp [results, Tryz.results26, go_sem, e]; try decide) rfl ⟨by first | rfl | (rw [e]; rfl), rfl⟩
end Go.Proofs.YtaamibonpmijaaaGreat
namespace Go.Proofs.YtaamibonpmijaaaGreat
open Go Go.RowKit Gs
set_option linter.unusedVariables false
set_option linter.unusedSimpArgs false
set_option maxRecDepth 100000
theorem and_low (n : Nat) (hn : n ≤ 1048576) : bits .and .u64 (n : Int) 4294967295 = (n : Int) := by
  have hU : U (BitVec.ofNat 64 n) = (n : Int) := by unfold U; simp; omega
  have h := U_and (BitVec.ofNat 64 n) 4294967295#64
  rw [hU, show U 4294967295#64 = 4294967295 from rfl] at h
  rw [h, ← hU]
  congr 1
  apply BitVec.eq_of_toNat_eq
  rw [BitVec.toNat_and, BitVec.toNat_ofNat, Nat.mod_eq_of_lt (by omega), show (4294967295#64).toNat = 2 ^ 32 - 1 from rfl, Nat.and_two_pow_sub_one_eq_mod, Nat.mod_eq_of_lt (by omega)]
set_option maxHeartbeats 1600000 in
theorem iMul64 (n : Nat) (hn : n ≤ 1048576) (w : World) : Calls Tryz.prog 89 #[.int .u64 1, .int .u64 (n : Int)] w fun e w' => e = .returned (.tuple #[.int .u64 0, .int .u64 (n : Int)]) ∧ w' = w := by
  have h1 := and_low n hn
  have a1 : bits .and .u64 1 4294967295 = 1 := and_low 1 (by decide)
  have a0 : bits .and .u64 0 4294967295 = 0 := and_low 0 (by decide)
  have e1 : (n : Int) / 4294967296 = 0 := by omega
  have w1 : IntKind.u64.wrap (n : Int) = (n : Int) := by rw [IntKind.wrap_u64]; omega
  have w0 : IntKind.u64.wrap 0 = 0 := by rw [IntKind.wrap_u64]; rfl
  go_enter Tryz.func89, Tryz.ntmps89
  go_wp2
  exact bodyPost_ret (v := .tuple #[.int .u64 0, .int .u64 (n : Int)]) (by simp [results, Tryz.results89, go_sem, a1, a0, e1, w1, w0]) rfl ⟨rfl, rfl⟩
set_option maxHeartbeats 1600000 in
theorem iMul (n : Nat) (hn : n ≤ 1048576) (w : World) : Calls Tryz.prog 67 #[.int .u64 1, .int .u64 (n : Int)] w fun e w' => e = .returned (.tuple #[.int .u64 0, .int .u64 (n : Int)]) ∧ w' = w := by
  go_enter Tryz.func67, Tryz.ntmps67
  go_wp2_with fail
  refine (iMul64 n hn w).mono ?_
  rintro e W1 ⟨rfl, h⟩
  subst h
  go_wp2_with fail
  exact bodyPost_ret (v := .tuple #[.int .u64 0, .int .u64 (n : Int)]) (by simp [results, Tryz.results67, go_sem]) rfl ⟨rfl, rfl⟩
end Go.Proofs.YtaamibonpmijaaaGreat
