/- A mapped design as it runs: what its sources are, and how they lie in memory. -/
import Derived.Test.YtdmmbhemmbgcpabGreatGDD
import Derived.Test.YtdmmbhemmbgcpabGreatGRW5
namespace Go.Proofs.YtdmmbhemmbgcpabGreat
open Go Go.RowKit Gs
set_option linter.unusedVariables false
set_option maxRecDepth 100000
def b2i (b : Bool) : Int := if b then 1 else 0
/-- What a source is. -/
def srcV (vs : List Bool) (z : Int) : Bool := vs.getD z.toNat false
def txt1 (b : Bool) : ByteArray := if b then ⟨#[49]⟩ else ⟨#[48]⟩
def bit1 (s : ByteArray) : Bool := s.toList == [49]
/-- Which bit of a table is told. -/
def rowN (vs : List Bool) : List Int → Nat → Nat
  | _, 0 => 0
  | xs, k + 1 => rowN vs xs k + (if srcV vs (xs.getD k 0) then 2 ^ k else 0)
theorem rowN_lt (vs : List Bool) (xs : List Int) : ∀ k, rowN vs xs k < 2 ^ k
  | 0 => by simp [rowN]
  | k + 1 => by
    have := rowN_lt vs xs k
    rw [rowN, Nat.pow_succ]
    split <;> omega
def lutV (vs : List Bool) (l : Lut) : Bool := l.table.toNat.testBit (rowN vs l.inp l.inp.length)
/-- Each table, one behind another. -/
def lutsV : List Bool → List Lut → List Bool
  | vs, [] => vs
  | vs, a :: r => lutsV (vs ++ [lutV vs a]) r
theorem lutsV_len : ∀ (xs : List Lut) (vs : List Bool), (lutsV vs xs).length = vs.length + xs.length
  | [], vs => rfl
  | a :: r, vs => by rw [lutsV, lutsV_len r]; simp; omega
theorem lutsV_append : ∀ (xs ys : List Lut) (vs : List Bool), lutsV vs (xs ++ ys) = lutsV (lutsV vs xs) ys
  | [], _, _ => rfl
  | a :: r, ys, vs => by rw [List.cons_append, lutsV, lutsV, lutsV_append r]
theorem lutsV_step {xs : List Lut} {k : Nat} {x : Lut} (vs : List Bool) (h : xs[k]? = some x) : lutsV vs (xs.take (k + 1)) = lutsV vs (xs.take k) ++ [lutV (lutsV vs (xs.take k)) x] := by
  rw [List.take_add_one, h, Option.toList_some, lutsV_append]; rfl
theorem lutsV_pre : ∀ (xs : List Lut) (vs : List Bool), ∃ r, lutsV vs xs = vs ++ r
  | [], vs => ⟨[], by rw [List.append_nil]; rfl⟩
  | a :: r, vs => by
    obtain ⟨t, ht⟩ := lutsV_pre r (vs ++ [lutV vs a])
    exact ⟨[lutV vs a] ++ t, by rw [lutsV, ht, List.append_assoc]⟩
/-- The registers behind a tick. -/
def nextV (ticks vs : List Bool) (ls : List MapReg) (st : List Bool) : List Bool :=
  List.zipWith (fun (l : MapReg) s => if ticks.getD l.clock.toNat false then srcV vs l.src else s) ls st
def rowV (x : Mapped) (vs st : List Bool) : Row := ⟨x.outs.map (fun p => txt1 (srcV vs p.src)), x.checks.map (fun p => txt1 (srcV vs p.src)), st.map txt1⟩
def baseV (ins st : List Bool) : List Bool := ins ++ st
def stepV (x : Mapped) (st : List Bool) (s : Step) : List Bool := nextV s.ticks (lutsV (baseV (s.ins.map bit1) st) x.luts) x.regs st
/-- The rows of a run. -/
def rowsV (x : Mapped) : List Bool → List Step → List Row
  | _, [] => []
  | st, s :: r => rowV x (lutsV (baseV (s.ins.map bit1) (stepV x st s)) x.luts) (stepV x st s) :: rowsV x (stepV x st s) r
def statesV (x : Mapped) : List Bool → List Step → List Bool
  | st, [] => st
  | st, s :: r => statesV x (stepV x st s) r
theorem rowsV_append (x : Mapped) : ∀ (xs ys : List Step) (st : List Bool), rowsV x st (xs ++ ys) = rowsV x st xs ++ rowsV x (statesV x st xs) ys
  | [], _, _ => rfl
  | s :: r, ys, st => by rw [List.cons_append, rowsV, rowsV, rowsV_append x r, statesV, List.cons_append]
theorem statesV_append (x : Mapped) : ∀ (xs ys : List Step) (st : List Bool), statesV x st (xs ++ ys) = statesV x (statesV x st xs) ys
  | [], _, _ => rfl
  | s :: r, ys, st => by rw [List.cons_append, statesV, statesV, statesV_append x r]
theorem nextV_len (t vs : List Bool) (ls : List MapReg) (st : List Bool) (h : st.length = ls.length) : (nextV t vs ls st).length = ls.length := by
  unfold nextV; rw [List.length_zipWith]; omega
theorem stepV_len (x : Mapped) (st : List Bool) (s : Step) (h : st.length = x.regs.length) : (stepV x st s).length = x.regs.length := nextV_len _ _ _ _ h
theorem statesV_len (x : Mapped) : ∀ (xs : List Step) (st : List Bool), st.length = x.regs.length → (statesV x st xs).length = x.regs.length
  | [], _, h => h
  | s :: r, st, h => statesV_len x r _ (stepV_len x st s h)
theorem srcV_pre {vs r : List Bool} {z : Int} (h : z < (vs.length : Int)) (h0 : 0 ≤ z) : srcV (vs ++ r) z = srcV vs z := by
  unfold srcV
  rw [List.getD_eq_getElem?_getD, List.getD_eq_getElem?_getD, List.getElem?_append_left (by omega)]
theorem srcV_at {vs : List Bool} {p : Nat} (h : p < vs.length) : vs[p]? = some (srcV vs (p : Int)) := by
  unfold srcV
  rw [Int.toNat_natCast, List.getD_eq_getElem?_getD, List.getElem?_eq_getElem h]; rfl
/-- All but one block are as they were. -/
structure Fx (g : Nat) (W W' : World) : Prop where
  os : W'.os = W.os
  tape : W'.tape = W.tape
  output : W'.output = W.output
  size : W.heap.size ≤ W'.heap.size
  block : ∀ k, k < W.heap.size → k ≠ g → W'.heap[k]? = W.heap[k]?
theorem Fx.refl (g : Nat) (W : World) : Fx g W W := ⟨rfl, rfl, rfl, Nat.le_refl _, fun _ _ _ => rfl⟩
theorem Fx.trans {g : Nat} {a b c : World} (h : Fx g a b) (k : Fx g b c) : Fx g a c :=
  ⟨k.os.trans h.os, k.tape.trans h.tape, k.output.trans h.output, Nat.le_trans h.size k.size, fun i hi hn => (k.block i (Nat.lt_of_lt_of_le hi h.size) hn).trans (h.block i hi hn)⟩
theorem Fx.of {g : Nat} {W W' : World} (h : Below W.heap.size W W') : Fx g W W' := ⟨h.os, h.tape, h.output, h.size, fun k hk _ => h.block k hk⟩
theorem Fx.below {g B : Nat} {w W W' : World} (h : Below B w W) (k : Fx g W W') (hg : B ≤ g) (hB : B ≤ W.heap.size) : Below B w W' :=
  ⟨k.os.trans h.os, k.tape.trans h.tape, k.output.trans h.output, Nat.le_trans h.size k.size, fun i hi => (k.block i (by omega) (by omega)).trans (h.block i hi)⟩
theorem Fx.set (g i : Nat) (W : World) (v : Value) : Fx g W (W.setCell ⟨g, i, none⟩ v) := by
  have h : Below g W (W.setCell ⟨g, i, none⟩ v) := (Below.refl g W).setCell (Nat.le_refl g) v
  exact ⟨h.os, h.tape, h.output, h.size, fun k hk hn => by
    exact Below.heap_setCell W ⟨g, i, none⟩ v k hn⟩
/-- A mapped design that runs: its block b, and its values in the block g. -/
structure Ob (B : Nat) (W : World) (b g : Nat) (u : List Value) (vs : List Bool) : Prop where
  hb : B ≤ b
  hg : B ≤ g
  ne : b ≠ g
  lt : g < W.heap.size
  at_ : At W b 0 (u ++ [.slice (some ⟨g, 0, none⟩) vs.length vs.length])
  vals : ∀ i x, vs[i]? = some x → W.cell? ⟨g, i, none⟩ = some (.int .i64 (b2i x)) ∧ W.frozen? ⟨g, i, none⟩ = false
theorem Ob.later {B b g : Nat} {W W' : World} {u : List Value} {vs : List Bool} (h : Ob B W b g u vs) (hb : Below W.heap.size W W') : Ob B W' b g u vs :=
  ⟨h.hb, h.hg, h.ne, Nat.lt_of_lt_of_le h.lt hb.size, fun j y hj => cell_later hb (h.at_ j y hj), fun i x hx => ⟨cell_later hb (h.vals i x hx).1, frozen_later hb (h.vals i x hx).1 (h.vals i x hx).2⟩⟩
theorem Ob.set {B b g : Nat} {W : World} {u : List Value} {vs : List Bool} (h : Ob B W b g u vs) (i : Nat) (y : Bool) : Ob B (W.setCell ⟨g, i, none⟩ (.int .i64 (b2i y))) b g u (vs.set i y) := by
  refine ⟨h.hb, h.hg, h.ne, by have := h.lt; simpa using this, fun j z hj => ?_, fun k x hx => ?_⟩
  · rw [List.length_set] at hj
    have := setK_other [.int .i64 (b2i y)] W g i b (0 + j) (.inl h.ne)
    exact this.trans (h.at_ j z hj)
  · have hf : (W.setCell ⟨g, i, none⟩ (.int .i64 (b2i y))).frozen? ⟨g, k, none⟩ = W.frozen? ⟨g, k, none⟩ := setK_frozen [.int .i64 (b2i y)] W g i ⟨g, k, none⟩
    by_cases hk : k = i
    · subst hk
      have hlt : k < vs.length := by
        have := (List.getElem?_eq_some_iff.1 hx).1
        rwa [List.length_set] at this
      have hv : vs[k]? = some vs[k] := List.getElem?_eq_getElem hlt
      rw [List.getElem?_set_self hlt] at hx
      injection hx with hx
      subst hx
      refine ⟨?_, hf.trans (h.vals k _ hv).2⟩
      have := setK_at [.int .i64 (b2i y)] W g k (fun q hq => ⟨_, by
        have : q = 0 := by simpa using hq
        subst this
        exact (h.vals k _ hv).1⟩)
      exact this.get0
    · rw [List.getElem?_set_ne (fun e => hk e.symm)] at hx
      refine ⟨?_, hf.trans (h.vals k x hx).2⟩
      have := setK_other [.int .i64 (b2i y)] W g i g k (.inr (by simp; omega))
      exact this.trans (h.vals k x hx).1
end Go.Proofs.YtdmmbhemmbgcpabGreat
namespace Go.Proofs.YtdmmbhemmbgcpabGreat
open Go Go.RowKit Gs
set_option linter.unusedVariables false
set_option maxRecDepth 100000
/-- All blocks stay but one, and those from B on whose cells are of one type. -/
structure KT (B bm t : Nat) (W W' : World) : Prop where
  os : W'.os = W.os
  tape : W'.tape = W.tape
  output : W'.output = W.output
  size : W.heap.size ≤ W'.heap.size
  block : ∀ k, k < W.heap.size → k ≠ bm → (B ≤ k → ∀ cur f, W.heap[k]? ≠ some (.cells cur t f)) → W'.heap[k]? = W.heap[k]?
theorem KT.refl (B bm t : Nat) (W : World) : KT B bm t W W := ⟨rfl, rfl, rfl, Nat.le_refl _, fun _ _ _ _ => rfl⟩
theorem KT.trans {B bm t : Nat} {a b c : World} (h : KT B bm t a b) (k : KT B bm t b c) : KT B bm t a c :=
  ⟨k.os.trans h.os, k.tape.trans h.tape, k.output.trans h.output, Nat.le_trans h.size k.size, fun i hi hn ht => by
    have e := h.block i hi hn ht
    exact (k.block i (Nat.lt_of_lt_of_le hi h.size) hn (fun hB cur f => by rw [e]; exact ht hB cur f)).trans e⟩
theorem KT.of {B bm t : Nat} {W W' : World} (h : Below W.heap.size W W') : KT B bm t W W' := ⟨h.os, h.tape, h.output, h.size, fun k hk _ _ => h.block k hk⟩
theorem KT.grown {B bm t : Nat} {W W' : World} {v : Value} (hg : W.grownBy W' v.ownBlock) (hv : ∀ q, v.ownBlock = some q → B ≤ q ∧ ∃ cur f, W.heap[q]? = some (.cells cur t f)) : KT B bm t W W' :=
  ⟨hg.os, hg.tape, hg.output, hg.size, fun k hk _ ht => hg.block k hk (fun e => by
    obtain ⟨h1, cur, f, h2⟩ := hv k e.symm
    exact ht h1 cur f h2)⟩
theorem KT.set {B bm t : Nat} (i : Nat) (W : World) (v : Value) : KT B bm t W (W.setCell ⟨bm, i, none⟩ v) := by
  have h : Fx bm W (W.setCell ⟨bm, i, none⟩ v) := Fx.set bm i W v
  exact ⟨h.os, h.tape, h.output, h.size, fun k hk hn _ => h.block k hk hn⟩
theorem KT.below {B bm t B0 : Nat} {w W W' : World} (h : Below B0 w W) (k : KT B bm t W W') (h1 : B0 ≤ B) (h2 : B0 ≤ bm) (h3 : B0 ≤ W.heap.size) : Below B0 w W' :=
  ⟨k.os.trans h.os, k.tape.trans h.tape, k.output.trans h.output, Nat.le_trans h.size k.size, fun i hi => (k.block i (by omega) (by omega) (fun hB => by omega)).trans (h.block i hi)⟩
theorem heap_cell {W W' : World} {b o : Nat} (h : W'.heap[b]? = W.heap[b]?) : W'.cell? ⟨b, o, none⟩ = W.cell? ⟨b, o, none⟩ ∧ W'.frozen? ⟨b, o, none⟩ = W.frozen? ⟨b, o, none⟩ := by
  refine ⟨?_, ?_⟩
  · unfold World.cell?; simp only [h]
  · unfold World.frozen?; simp only [h]
/-- A block whose cells are of another type. -/
def TB (W : World) (b t : Nat) : Prop := ∃ cur f, W.heap[b]? = some (.cells cur t f)
theorem KT.tb {B bm t b t' : Nat} {W W' : World} (k : KT B bm t W W') (h : TB W b t') (hb : b ≠ bm) (ht : t' ≠ t) : W'.heap[b]? = W.heap[b]? := by
  obtain ⟨cur, f, hc⟩ := h
  refine k.block b (Array.getElem?_eq_some_iff.1 hc).1 hb (fun _ cur' f' e => ?_)
  rw [hc] at e
  injection e with e
  injection e with e1 e2 e3
  exact ht e2
theorem TB.keep {B bm t b t' : Nat} {W W' : World} (h : TB W b t') (k : KT B bm t W W') (hb : b ≠ bm) (ht : t' ≠ t) : TB W' b t' := by
  have e := k.tb h hb ht
  obtain ⟨cur, f, hc⟩ := h
  exact ⟨cur, f, by rw [e]; exact hc⟩
theorem TB.later {b t : Nat} {W W' : World} (h : TB W b t) (hb : Below W.heap.size W W') : TB W' b t := by
  obtain ⟨cur, f, hc⟩ := h
  exact ⟨cur, f, (hb.block b (Array.getElem?_eq_some_iff.1 hc).1).trans hc⟩
theorem TB.new (W : World) (M : Array Value) (t : Nat) : TB (W.alloc (.cells M t)) W.heap.size t := ⟨M, _, heap_alloc_new W _⟩
/-- The block of a row is of its elements' type. -/
theorem row_tb {W : World} {B t k n : Nat} {v : Value} {xs : List Value} (h : W.ownsRow B t k v n xs) : ∀ q, v.ownBlock = some q → B ≤ q ∧ TB W q t := by
  rcases h.2 with ⟨rfl, _⟩ | ⟨g, cap, cur, rfl, hb, hg, _⟩
  · intro q e; cases e
  · intro q e
    injection e with e
    subst e
    exact ⟨hb, cur, _, hg⟩
/-- A row of another type stays. -/
theorem row_keep {B bm t B' t' k n : Nat} {W W' : World} {v : Value} {xs : List Value} (h : W.ownsRow B' t' k v n xs) (hk : KT B bm t W W') (hv : v.ownBlock ≠ some bm) (ht : t' ≠ t) : W'.ownsRow B' t' k v n xs := by
  obtain ⟨h1, h2 | ⟨g, cap, cur, e, hb, hg, rest⟩⟩ := h
  · exact ⟨h1, .inl h2⟩
  · refine ⟨h1, .inr ⟨g, cap, cur, e, hb, ?_, rest⟩⟩
    rw [hk.tb (b := g) (t' := t') ⟨cur, _, hg⟩ (fun e2 => hv (by rw [e, ← e2]; rfl)) ht]
    exact hg
theorem row_ne {W : World} {B t k n bm tm : Nat} {v : Value} {xs : List Value} (h : W.ownsRow B t k v n xs) (hb : TB W bm tm) (ht : t ≠ tm) : v.ownBlock ≠ some bm := fun e => by
  obtain ⟨_, cur, f, hc⟩ := row_tb h bm e
  obtain ⟨cur', f', hc'⟩ := hb
  rw [hc] at hc'
  injection hc' with e1
  injection e1 with e2 e3 e4
  exact ht e3
theorem row_later {W W' : World} {B t k n : Nat} {v : Value} {xs : List Value} (h : W.ownsRow B t k v n xs) (hb : Below W.heap.size W W') : W'.ownsRow B t k v n xs := by
  obtain ⟨h1, h2 | ⟨g, cap, cur, hv, hg, hc, rest⟩⟩ := h
  · exact ⟨h1, .inl h2⟩
  · exact ⟨h1, .inr ⟨g, cap, cur, hv, hg, (hb.block g (Array.getElem?_eq_some_iff.1 hc).1).trans hc, rest⟩⟩
theorem BE.keep {B bm t g : Nat} {W W' : World} {bl : List Int} (h : BE W g bl) (hk : KT B bm t W W') (hg : TB W g 3) (hb : g ≠ bm) (ht : 3 ≠ t) : BE W' g bl := fun i x hx => by
  rw [(heap_cell (hk.tb hg hb ht)).1]; exact h i x hx
def lutC (q : Value × Int) : List Value := [q.1, .int .i64 q.2]
theorem lutC_len (q : Value × Int) : (lutC q).length = 2 := rfl
def lutZ : Value := .agg #[.slice none 0 0, .int .i64 0]
theorem infoLut : (Tryz.prog.info? 134).map (fun i => (i.zero, i.size, i.bytes)) = some (some lutZ, 2, 32) := by kernel_rfl
def regC (r : MapReg) : List Value := [.string r.name, .int .i64 r.src, .int .i64 r.init, .int .i64 r.clock]
theorem regC_len (r : MapReg) : (regC r).length = 4 := rfl
def regZ : Value := .agg #[.string ByteArray.empty, .int .i64 0, .int .i64 0, .int .i64 0]
theorem infoReg : (Tryz.prog.info? 127).map (fun i => (i.zero, i.size, i.bytes)) = some (some regZ, 4, 40) := by kernel_rfl
/-- Tables in a row of one's own, their sources in rows of their own. -/
structure LU (B : Nat) (W : World) (v : Value) (us : List (Value × Int)) (ls : List Lut) : Prop where
  row : OW 134 2 lutC B W v us
  len : us.length = ls.length
  ins : ∀ (i : Nat) q l, us[i]? = some q → ls[i]? = some l → q.2 = l.table ∧ OI B W q.1 l.inp
theorem LU.later {B : Nat} {W W' : World} {v : Value} {us : List (Value × Int)} {ls : List Lut} (h : LU B W v us ls) (hb : Below W.heap.size W W') : LU B W' v us ls :=
  ⟨row_later h.row hb, h.len, fun i q l h1 h2 => ⟨(h.ins i q l h1 h2).1, (h.ins i q l h1 h2).2.later hb⟩⟩
theorem LU.read {B : Nat} {W : World} {v : Value} {us : List (Value × Int)} {ls : List Lut} (h : LU B W v us ls) (hl : ls.length ≤ 4194304) (hi : ∀ l ∈ ls, l.inp.length ≤ 4194304) : RS 2 RLut W 0 ls v := by
  have hc := fun g hg => World.ownsRow.cells h.row (g := g) hg
  rcases h.row.2 with ⟨rfl, hn⟩ | ⟨g, cap, cur, rfl, hb, hg, hlc, hm, _⟩
  · have h0 : ls.length = 0 := by rw [← h.len]; exact hn
    have : ls = [] := List.length_eq_zero_iff.1 h0
    subst this
    exact RS.nil _ _ _ _ _ _
  · have hlen := h.len
    refine ⟨_, _, by rw [hlen], by omega, by unfold maxLen; omega, fun _ => ⟨g, 0, rfl, Nat.zero_le _, fun i l hx => ?_⟩⟩
    obtain ⟨q, hq⟩ : ∃ q, us[i]? = some q := ⟨_, List.getElem?_eq_getElem (by rw [hlen]; exact (List.getElem?_eq_some_iff.1 hx).1)⟩
    obtain ⟨h1, h2⟩ := h.ins i _ l hq hx
    refine ⟨lutC q, rfl, fun j y hj => ?_, q.1, by rw [lutC, h1], h2.any (hi l (List.mem_of_getElem? hx))⟩
    have := hc g rfl (i * 2 + j) y (fm_get lutC_len us i j q y hq hj)
    rw [Addr.add_lit] at this
    simpa using this
end Go.Proofs.YtdmmbhemmbgcpabGreat
