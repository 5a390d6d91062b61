/- A packed design as it runs, and the mapped design that tells the same: the mathematics. -/
import Derived.Test.YtdmmbhemmbgcpabGreatGQ8
import Derived.Test.YtdmmbhemmbgcpabGreatGPC
import Derived.Test.YtdmmbhemmbgcpabGreatGPR2
import Derived.Test.YtdmmbhemmbgcpabGreatSN1
namespace Go.Proofs.YtdmmbhemmbgcpabGreat
open Go Go.RowKit Gs
set_option linter.unusedVariables false
set_option maxRecDepth 100000
/-- Which bit of a table is told, where its sources are told by a function. -/
def rowF (f : Int → Bool) (xs : List Int) : Nat → Nat
  | 0 => 0
  | k + 1 => rowF f xs k + (if f (xs.getD k 0) then 2 ^ k else 0)
def lookF (f : Int → Bool) (b : Block) : Bool := b.table.toNat.testBit (rowF f b.inp b.inp.length)
theorem rowF_congr {f g : Int → Bool} {xs : List Int} (h : ∀ x ∈ xs, f x = g x) : ∀ k, k ≤ xs.length → rowF f xs k = rowF g xs k
  | 0, _ => rfl
  | k + 1, hk => by
    have hx : xs[k]? = some xs[k] := List.getElem?_eq_getElem (by omega)
    rw [rowF, rowF, rowF_congr h k (by omega), show xs.getD k 0 = xs[k] by rw [List.getD_eq_getElem?_getD, hx]; rfl, h _ (List.getElem_mem _)]
theorem lookF_congr {f g : Int → Bool} {b : Block} (h : ∀ x ∈ b.inp, f x = g x) : lookF f b = lookF g b := by
  unfold lookF; rw [rowF_congr h _ (Nat.le_refl _)]
/-- What a source is, where so many blocks' values are known. -/
def srcP (bs : List Block) (ins st bv : List Bool) (s : Int) : Bool :=
  if s < (ins.length : Int) then ins.getD s.toNat false else
    if (bs.getD (s - (ins.length : Int)).toNat blk0).reg then st.getD (s - (ins.length : Int)).toNat false else bv.getD (s - (ins.length : Int)).toNat false
/-- The blocks' tables, one behind another. -/
def blkV (bs : List Block) (ins st : List Bool) : Nat → List Bool
  | 0 => []
  | k + 1 => blkV bs ins st k ++ [lookF (srcP bs ins st (blkV bs ins st k)) (bs.getD k blk0)]
def valP (bs : List Block) (ins st : List Bool) : Int → Bool := srcP bs ins st (blkV bs ins st bs.length)
theorem blkV_len (bs : List Block) (ins st : List Bool) : ∀ k, (blkV bs ins st k).length = k
  | 0 => rfl
  | k + 1 => by rw [blkV, List.length_append, blkV_len bs ins st k]; rfl
theorem blkV_pre (bs : List Block) (ins st : List Bool) (k : Nat) : ∀ m, k ≤ m → ∃ r, blkV bs ins st m = blkV bs ins st k ++ r
  | 0, h => ⟨[], by rw [show k = 0 by omega]; rfl⟩
  | m + 1, h => by
    by_cases e : k = m + 1
    · exact ⟨[], by rw [e, List.append_nil]⟩
    · obtain ⟨r, hr⟩ := blkV_pre bs ins st k m (by omega)
      exact ⟨r ++ [_], by rw [blkV, hr, List.append_assoc]⟩
theorem blkV_at (bs : List Block) (ins st : List Bool) {j k m : Nat} (hj : j < k) (hk : k ≤ m) : (blkV bs ins st m).getD j false = (blkV bs ins st k).getD j false := by
  obtain ⟨r, hr⟩ := blkV_pre bs ins st k m hk
  rw [hr, List.getD_eq_getElem?_getD, List.getD_eq_getElem?_getD, List.getElem?_append_left (by rw [blkV_len]; exact hj)]
/-- All sources are there, and a block without a register reads of such only those ahead of it. -/
structure PFit (first : Nat) (bs : List Block) : Prop where
  src : ∀ (k : Nat) b, bs[k]? = some b → ∀ x ∈ b.inp, 0 ≤ x ∧ x < ((first + bs.length : Nat) : Int)
  ahead : ∀ (k : Nat) b, bs[k]? = some b → b.reg = false → ∀ x ∈ b.inp, (first : Int) + k ≤ x → (bs.getD (x - (first : Int)).toNat blk0).reg = true
/-- What a block without a register is: what its table tells of all values. -/
theorem valP_tab {bs : List Block} {ins st : List Bool} (h : PFit ins.length bs) {k : Nat} {b : Block} (hk : bs[k]? = some b) (hr : b.reg = false) : (blkV bs ins st bs.length).getD k false = lookF (valP bs ins st) b := by
  have hlt : k < bs.length := (List.getElem?_eq_some_iff.1 hk).1
  have hb : bs.getD k blk0 = b := by rw [List.getD_eq_getElem?_getD, hk]; rfl
  rw [blkV_at bs ins st (Nat.lt_succ_self k) hlt, blkV, List.getD_eq_getElem?_getD, List.getElem?_append_right (by rw [blkV_len]; exact Nat.le_refl _), blkV_len, Nat.sub_self, hb]
  show lookF _ b = _
  refine lookF_congr (fun x hx => ?_)
  unfold valP srcP
  by_cases h1 : x < (ins.length : Int)
  · rw [if_pos h1, if_pos h1]
  · rw [if_neg h1, if_neg h1]
    by_cases h2 : (bs.getD (x - (ins.length : Int)).toNat blk0).reg = true
    · rw [if_pos h2, if_pos h2]
    · rw [if_neg h2, if_neg h2]
      have h3 : ¬ ((ins.length : Int) + k ≤ x) := fun h3 => h2 (h.ahead k b hk hr x hx h3)
      exact (blkV_at bs ins st (by omega) (by omega)).symm
/-- One step: the registers' next values. -/
def stepP (bs : List Block) (st : List Bool) (s : Step) : List Bool :=
  (List.range bs.length).map (fun k => if (bs.getD k blk0).reg && s.ticks.getD (bs.getD k blk0).clock.toNat false then lookF (valP bs (s.ins.map bit1) st) (bs.getD k blk0) else st.getD k false)
def rowP (p : Packed) (ins st : List Bool) : Row :=
  ⟨p.outs.map (fun q => txt1 (valP p.blocks ins st q.src)), p.checks.map (fun q => txt1 (valP p.blocks ins st q.src)), (numsB p.blocks true p.blocks.length).map (fun j => txt1 (st.getD j.toNat false))⟩
def rowsP (p : Packed) : List Bool → List Step → List Row
  | _, [] => []
  | st, s :: r => rowP p (s.ins.map bit1) (stepP p.blocks st s) :: rowsP p (stepP p.blocks st s) r
theorem stepP_len (bs : List Block) (st : List Bool) (s : Step) : (stepP bs st s).length = bs.length := by simp [stepP]
theorem stepP_at {bs : List Block} {st : List Bool} {s : Step} {k : Nat} {b : Block} (hk : bs[k]? = some b) : (stepP bs st s).getD k false = if b.reg && s.ticks.getD b.clock.toNat false then lookF (valP bs (s.ins.map bit1) st) b else st.getD k false := by
  have hlt : k < bs.length := (List.getElem?_eq_some_iff.1 hk).1
  have hb : bs.getD k blk0 = b := by rw [List.getD_eq_getElem?_getD, hk]; rfl
  unfold stepP
  rw [List.getD_eq_getElem?_getD, List.getElem?_map, List.getElem?_range hlt]
  simp only [Option.map_some, Option.getD_some]
  rw [hb]
/-- Where each source is in the mapped design: what the numbers have become. -/
structure Bec (first : Nat) (bs : List Block) (R T : List Int) (f : Int → Int) : Prop where
  inp : ∀ i : Nat, i < first → f (i : Int) = (i : Int)
  at_ : ∀ (q : Nat) (j : Int), (R ++ T)[q]? = some j → f ((first : Int) + j) = ((first + q : Nat) : Int)
theorem numsB_at (bs : List Block) (r : Bool) : ∀ (n k : Nat), k < n → (bs.getD k blk0).reg = r → (numsB bs r n)[(numsB bs r k).length]? = some (k : Int)
  | 0, k, h, _ => by omega
  | n + 1, k, h, hr => by
    by_cases e : k = n
    · subst e
      rw [numsB, hr, List.getElem?_append_right (Nat.le_refl _), Nat.sub_self]
      simp
    · have h1 := numsB_at bs r n k (by omega) hr
      rw [numsB, List.getElem?_append_left (List.getElem?_eq_some_iff.1 h1).1]
      exact h1
/-- The numbers rise. -/
theorem numsB_lt (bs : List Block) (r : Bool) : ∀ (n i : Nat) (x : Int), (numsB bs r n)[i]? = some x → ∃ k : Nat, x = (k : Int) ∧ k < n ∧ (bs.getD k blk0).reg = r ∧ i = (numsB bs r k).length
  | 0, i, x, h => by simp [numsB] at h
  | n + 1, i, x, h => by
    rw [numsB] at h
    by_cases hi : i < (numsB bs r n).length
    · rw [List.getElem?_append_left hi] at h
      obtain ⟨k, h1, h2, h3, h4⟩ := numsB_lt bs r n i x h
      exact ⟨k, h1, by omega, h3, h4⟩
    · rw [List.getElem?_append_right (by omega)] at h
      split at h
      · rename_i hr
        have hi0 : i - (numsB bs r n).length = 0 := by
          have := (List.getElem?_eq_some_iff.1 h).1
          simp at this
          omega
        rw [hi0] at h
        simp at h
        exact ⟨n, h.symm, by omega, by simpa using hr, by omega⟩
      · simp at h
theorem numsB_mono (bs : List Block) (r : Bool) (j : Nat) : ∀ k, j ≤ k → (numsB bs r j).length ≤ (numsB bs r k).length
  | 0, h => by rw [show j = 0 by omega]; exact Nat.le_refl _
  | k + 1, h => by
    by_cases e : j = k + 1
    · rw [e]; exact Nat.le_refl _
    · have := numsB_mono bs r j k (by omega)
      rw [numsB, List.length_append]; omega
theorem numsB_more (bs : List Block) (r : Bool) {j k : Nat} (h : j < k) (hr : (bs.getD j blk0).reg = r) : (numsB bs r j).length < (numsB bs r k).length := by
  have h1 : (numsB bs r (j + 1)).length = (numsB bs r j).length + 1 := by
    rw [numsB, hr, List.length_append]; simp
  have := numsB_mono bs r (j + 1) k h
  omega
/-- The mapped design. -/
def lutOf (bs : List Block) (f : Int → Int) (j : Int) : Lut := ⟨(bs.getD j.toNat blk0).inp.map f, (bs.getD j.toNat blk0).table⟩
def unpackM (p : Packed) (f : Int → Int) : Mapped :=
  { ins := p.ins, clocks := p.clocks
    regs := (numsB p.blocks true p.blocks.length).zipIdx.map (fun q => ⟨(p.blocks.getD q.1.toNat blk0).name, ((p.ins.length + p.blocks.length + q.2 : Nat) : Int), (p.blocks.getD q.1.toNat blk0).init, (p.blocks.getD q.1.toNat blk0).clock⟩)
    luts := (numsB p.blocks false p.blocks.length ++ numsB p.blocks true p.blocks.length).map (lutOf p.blocks f)
    outs := p.outs.map (fun q => ⟨q.name, f q.src⟩), checks := p.checks.map (fun q => ⟨q.name, f q.src⟩) }
theorem numsB_two (bs : List Block) : ∀ n, (numsB bs true n).length + (numsB bs false n).length = n
  | 0 => rfl
  | n + 1 => by
    have := numsB_two bs n
    rw [numsB, numsB, List.length_append, List.length_append]
    cases (bs.getD n blk0).reg <;> simp <;> omega
theorem rowN_rowF {vs : List Bool} {g : Int → Bool} {f : Int → Int} {xs : List Int} (h : ∀ x ∈ xs, srcV vs (f x) = g x) : ∀ k, k ≤ xs.length → rowN vs (xs.map f) k = rowF g xs k
  | 0, _ => rfl
  | k + 1, hk => by
    have hx : xs[k]? = some xs[k] := List.getElem?_eq_getElem (by omega)
    rw [rowN, rowF, rowN_rowF h k (by omega), show (xs.map f).getD k 0 = f xs[k] by rw [List.getD_eq_getElem?_getD, List.getElem?_map, hx]; rfl, show xs.getD k 0 = xs[k] by rw [List.getD_eq_getElem?_getD, hx]; rfl, h _ (List.getElem_mem _)]
theorem lutV_lookF {vs : List Bool} {g : Int → Bool} {f : Int → Int} {bs : List Block} {j : Int} (h : ∀ x ∈ (bs.getD j.toNat blk0).inp, srcV vs (f x) = g x) : lutV vs (lutOf bs f j) = lookF g (bs.getD j.toNat blk0) := by
  unfold lutV lutOf lookF
  simp only [List.length_map]
  rw [rowN_rowF h _ (Nat.le_refl _)]
end Go.Proofs.YtdmmbhemmbgcpabGreat
namespace Go.Proofs.YtdmmbhemmbgcpabGreat
open Go Go.RowKit Gs
set_option linter.unusedVariables false
set_option linter.unusedSimpArgs false
set_option maxRecDepth 100000
/-- Numbers in a block of one's own that is written. -/
theorem TB.setCell {W : World} {b t : Nat} (h : TB W b t) (a : Addr) (v : Value) : TB (W.setCell a v) b t := by
  obtain ⟨cur, f, hc⟩ := h
  by_cases e : b = a.block
  · subst e
    exact ⟨_, f, by
      simp only [World.setCell, Array.getElem?_modify]
      rw [if_pos trivial, hc]; rfl⟩
  · exact ⟨cur, f, by rw [Below.heap_setCell W a v b e]; exact hc⟩
structure BW (W : World) (g : Nat) (bl : List Int) : Prop where
  lt : g < W.heap.size
  tb : TB W g 3
  at_ : ∀ i x, bl[i]? = some x → W.cell? ⟨g, i, none⟩ = some (.int .i64 x) ∧ W.frozen? ⟨g, i, none⟩ = false
theorem BW.be {W : World} {g : Nat} {bl : List Int} (h : BW W g bl) : BE W g bl := fun i x hx => (h.at_ i x hx).1
theorem BW.later {W W' : World} {g : Nat} {bl : List Int} (h : BW W g bl) (hb : Below W.heap.size W W') : BW W' g bl :=
  ⟨Nat.lt_of_lt_of_le h.lt hb.size, h.tb.later hb, fun i x hx => ⟨cell_later hb (h.at_ i x hx).1, frozen_later hb (h.at_ i x hx).1 (h.at_ i x hx).2⟩⟩
theorem BW.set {W : World} {g : Nat} {bl : List Int} (h : BW W g bl) (i : Nat) (y : Int) : BW (W.setCell ⟨g, i, none⟩ (.int .i64 y)) g (bl.set i y) := by
  refine ⟨by have := h.lt; simpa using this, h.tb.setCell _ _, fun k x hx => ?_⟩
  have hf : (W.setCell ⟨g, i, none⟩ (.int .i64 y)).frozen? ⟨g, k, none⟩ = W.frozen? ⟨g, k, none⟩ := setK_frozen [.int .i64 y] W g i ⟨g, k, none⟩
  by_cases hk : k = i
  · subst hk
    have hlt : k < bl.length := by
      have := (List.getElem?_eq_some_iff.1 hx).1
      rwa [List.length_set] at this
    have hv : bl[k]? = some bl[k] := List.getElem?_eq_getElem hlt
    rw [List.getElem?_set_self hlt] at hx
    injection hx with hx
    subst hx
    refine ⟨?_, hf.trans (h.at_ k _ hv).2⟩
    have := setK_at [.int .i64 y] W g k (fun q hq => ⟨_, by
      have : q = 0 := by simpa using hq
      subst this
      exact (h.at_ k _ hv).1⟩)
    exact this.get0
  · rw [List.getElem?_set_ne (fun e => hk e.symm)] at hx
    refine ⟨?_, hf.trans (h.at_ k x hx).2⟩
    have := setK_other [.int .i64 y] W g i g k (.inr (by simp; omega))
    exact this.trans (h.at_ k x hx).1
theorem Fx.cell {g : Nat} {W W' : World} (h : Fx g W W') {b o : Nat} {v : Value} (hc : W.cell? ⟨b, o, none⟩ = some v) (hb : b ≠ g) : W'.cell? ⟨b, o, none⟩ = some v := by
  rw [(heap_cell (h.block b (World.block_lt_of_cell? _ _ hc) hb)).1]; exact hc
theorem Fx.row {g : Nat} {W W' : World} {B t k n : Nat} {v : Value} {xs : List Value} (h : W.ownsRow B t k v n xs) (hf : Fx g W W') (hv : v.ownBlock ≠ some g) : W'.ownsRow B t k v n xs := by
  obtain ⟨h1, h2 | ⟨q, cap, cur, e, hb, hg, rest⟩⟩ := h
  · exact ⟨h1, .inl h2⟩
  · refine ⟨h1, .inr ⟨q, cap, cur, e, hb, ?_, rest⟩⟩
    rw [hf.block q (Array.getElem?_eq_some_iff.1 hg).1 (fun e2 => hv (by rw [e, ← e2]; rfl))]
    exact hg
set_option maxHeartbeats 16000000 in
theorem unLoop0 {u0 u1 u2 u3 u4 u6 u7 u8 u9 u10 u11 u12 u13 u14 u15 u16 u17 u18 u19 u20 u21 u22 u23 u24 u27 u28 u29 u30 u31 u32 u33 u34 u35 u36 u37 u38 u39 u40 u41 u42 u43 u44 u45 u46 u47 u48 u49 u50 u51 u52 u53 u54 u55 u56 u57 u58 u59 u60 u61 u62 u63 u64 u65 u66 u67 u68 u69 u70 u71 u72 u73 u74 u75 u76 u77 u78 u79 u80 u81 u82 u83 u84 u85 u86 u87 u88 u89 u90 u91 u92 u93 u94 u95 u96 u97 u98 u99 u100 u101 u102 u103 u104 u105 u106 u107 u108 u109 u110 u111 u112 u113 u114 u115 u116 u117 u118 u119 u120 u121 u122 u123 u124 u125 u126 : Value} {g N n : Nat} {bl0 : List Int} {W : World} {Q : Exit → Act → World → Prop} (hn : n ≤ N) (hN : N ≤ 2097152) (hl : bl0.length = N) (HBW : Hid (BW W g bl0))
    (hT : ∀ (z6 z26 z27 z28 z29 z30 z31 z32 z33 : Value) bl V, bl.length = N → BW V g bl → (∀ x : Nat, x < n → bl[x]? = some (x : Int)) → Fx g W V → Q (.exit 0) { tmps := (u0 :: u1 :: u2 :: u3 :: u4 :: .slice (some ⟨g, 0, none⟩) N N :: z6 :: u7 :: u8 :: u9 :: u10 :: u11 :: u12 :: u13 :: u14 :: u15 :: u16 :: u17 :: u18 :: u19 :: u20 :: u21 :: u22 :: u23 :: u24 :: .int .i64 (n : Int) :: z26 :: z27 :: z28 :: z29 :: z30 :: z31 :: z32 :: z33 :: u34 :: u35 :: u36 :: u37 :: u38 :: u39 :: u40 :: u41 :: u42 :: u43 :: u44 :: u45 :: u46 :: u47 :: u48 :: u49 :: u50 :: u51 :: u52 :: u53 :: u54 :: u55 :: u56 :: u57 :: u58 :: u59 :: u60 :: u61 :: u62 :: u63 :: u64 :: u65 :: u66 :: u67 :: u68 :: u69 :: u70 :: u71 :: u72 :: u73 :: u74 :: u75 :: u76 :: u77 :: u78 :: u79 :: u80 :: u81 :: u82 :: u83 :: u84 :: u85 :: u86 :: u87 :: u88 :: u89 :: u90 :: u91 :: u92 :: u93 :: u94 :: u95 :: u96 :: u97 :: u98 :: u99 :: u100 :: u101 :: u102 :: u103 :: u104 :: u105 :: u106 :: u107 :: u108 :: u109 :: u110 :: u111 :: u112 :: u113 :: u114 :: u115 :: u116 :: u117 :: u118 :: u119 :: u120 :: u121 :: u122 :: u123 :: u124 :: u125 :: u126 :: []).toArray, defers := [] } V) :
    Code.wp Tryz.prog (atB 0 (bodyOf Tryz.f36)) Q { tmps := (u0 :: u1 :: u2 :: u3 :: u4 :: .slice (some ⟨g, 0, none⟩) N N :: u6 :: u7 :: u8 :: u9 :: u10 :: u11 :: u12 :: u13 :: u14 :: u15 :: u16 :: u17 :: u18 :: u19 :: u20 :: u21 :: u22 :: u23 :: u24 :: .int .i64 (n : Int) :: .int .i64 0 :: u27 :: u28 :: u29 :: u30 :: u31 :: u32 :: u33 :: u34 :: u35 :: u36 :: u37 :: u38 :: u39 :: u40 :: u41 :: u42 :: u43 :: u44 :: u45 :: u46 :: u47 :: u48 :: u49 :: u50 :: u51 :: u52 :: u53 :: u54 :: u55 :: u56 :: u57 :: u58 :: u59 :: u60 :: u61 :: u62 :: u63 :: u64 :: u65 :: u66 :: u67 :: u68 :: u69 :: u70 :: u71 :: u72 :: u73 :: u74 :: u75 :: u76 :: u77 :: u78 :: u79 :: u80 :: u81 :: u82 :: u83 :: u84 :: u85 :: u86 :: u87 :: u88 :: u89 :: u90 :: u91 :: u92 :: u93 :: u94 :: u95 :: u96 :: u97 :: u98 :: u99 :: u100 :: u101 :: u102 :: u103 :: u104 :: u105 :: u106 :: u107 :: u108 :: u109 :: u110 :: u111 :: u112 :: u113 :: u114 :: u115 :: u116 :: u117 :: u118 :: u119 :: u120 :: u121 :: u122 :: u123 :: u124 :: u125 :: u126 :: []).toArray, defers := [] } W := by
  have HT := hide hT
  clear hT
  conv => arg 2; whnf
  go_loopw [26] (fun i wr => ∃ (k : Nat) (bl : List Int), k ≤ n ∧ i = .int .i64 k ∧ bl.length = N ∧ BW wr g bl ∧ (∀ x : Nat, x < k → bl[x]? = some (x : Int)) ∧ Fx g W wr) (fun i wr => n - (intOf i).toNat)
  case atStart => exact ⟨0, bl0, Nat.zero_le _, rfl, hl, unhide HBW, fun x h => absurd h (Nat.not_lt_zero _), Fx.refl _ _⟩
  case round =>
    obtain ⟨k, bl, hk, rfl, hll, hbw, hall, hf⟩ := hrel
    by_cases hlt : k < n
    · obtain ⟨c1, c2⟩ := hbw.at_ k _ (List.getElem?_eq_getElem (by omega))
      generalize bl[k]'(by omega) = y0 at c1 c2
      have H1 := hide (hbw.set k (k : Int))
      have H2 := hide (hf.trans (Fx.set g k wr (.int .i64 (k : Int))))
      have H3 : Hid (∀ x : Nat, x < k + 1 → (bl.set k (k : Int))[x]? = some (x : Int)) := hide (fun x hx => by
        by_cases e : x = k
        · subst e; rw [List.getElem?_set_self (by omega)]
        · rw [List.getElem?_set_ne (fun e2 => e e2.symm)]; exact hall x (by omega))
      have H4 : Hid ((bl.set k (k : Int)).length = N) := hide (by rw [List.length_set]; exact hll)
      have i0 : (0 : Int) ≤ (k : Int) := by omega
      have i1 : (k : Int) < (N : Int) := by omega
      have i2 : (k : Int) < (n : Int) := by omega
      clear hbw hall hf hll HT hl HBW
      go_wp2
      go_roundw
      case rel => exact ⟨k + 1, _, by omega, by go_num, unhide H4, unhide H1, unhide H3, unhide H2⟩
      case measure => simp [intOf]; omega
    · obtain rfl : k = n := by omega
      have HX := hide (unhide HT)
      have H1 := hide hbw
      have H2 := hide hf
      have H3 := hide hall
      have H4 := hide hll
      clear HT hbw hf hall hll hl HBW
      go_wp2
      exact unhide HX _ _ _ _ _ _ _ _ _ _ _ (unhide H4) (unhide H1) (unhide H3) (unhide H2)
set_option maxHeartbeats 16000000 in
theorem unLoop2 {u0 u2 u3 u4 u6 u7 u8 u9 u10 u11 u12 u13 u14 u15 u16 u17 u18 u19 u20 u21 u22 u23 u24 u25 u26 u27 u28 u29 u30 u31 u32 u33 u34 u35 u36 u40 u41 u42 u43 u44 u45 u46 u47 u48 u49 u50 u51 u52 u53 u54 u55 u56 u57 u58 u59 u60 u61 u62 u63 u64 u65 u66 u67 u68 u69 u70 u71 u72 u73 u74 u75 u76 u77 u78 u79 u80 u81 u82 u83 u84 u85 u86 u87 u88 u89 u90 u91 u92 u93 u94 u95 u96 u97 u98 u99 u100 u101 u102 u103 u104 u105 u106 u107 u108 u109 u110 u111 u112 u113 u114 u115 u116 u117 u118 u119 u120 u121 u122 u123 u124 u125 u126 : Value} {g N n pb ML cL c0 : Nat} {aL s0 : Option Addr} {bl0 L : List Int} {W : World} {Q : Exit → Act → World → Prop} (hn : n ≤ N) (hN : N ≤ 2097152) (hl : bl0.length = N) (HBW : Hid (BW W g bl0)) (hML : L.length = ML) (hM1 : ML ≤ 1048576)
    (HIN : Hid (∀ x : Nat, x < n → bl0[x]? = some (x : Int))) (HP : Hid (W.cell? ⟨pb, 0, none⟩ = some (.slice s0 n c0) ∧ pb ≠ g))
    (HL : Hid (∀ (q : Nat) (j : Int), L[q]? = some j → ∃ k : Nat, j = (k : Int) ∧ n + k < N)) (HND : Hid (∀ (q q' : Nat) (j : Int), L[q]? = some j → L[q']? = some j → q = q'))
    (HC : Hid (∀ (q : Nat) (j : Int), L[q]? = some j → ∃ b o, aL = some ⟨b, o, none⟩ ∧ ML ≤ cL ∧ b ≠ g ∧ W.cell? ⟨b, o + q, none⟩ = some (.int .i64 j)))
    (hT : ∀ (z7 z8 z39 z40 z41 z42 z43 z44 z45 z46 z47 z48 z49 z50 z51 z52 z53 z54 z55 z56 : Value) bl V, bl.length = N → BW V g bl → (∀ x : Nat, x < n → bl[x]? = some (x : Int)) → (∀ (q k : Nat), L[q]? = some (k : Int) → bl[n + k]? = some ((n + q : Nat) : Int)) → Fx g W V → Q (.exit 2) { tmps := (u0 :: .pointer (some ⟨pb, 0, none⟩) :: u2 :: u3 :: u4 :: .slice (some ⟨g, 0, none⟩) N N :: u6 :: z7 :: z8 :: u9 :: u10 :: u11 :: u12 :: u13 :: u14 :: u15 :: u16 :: u17 :: u18 :: u19 :: u20 :: u21 :: u22 :: u23 :: u24 :: u25 :: u26 :: u27 :: u28 :: u29 :: u30 :: u31 :: u32 :: u33 :: u34 :: u35 :: u36 :: .slice aL ML cL :: .int .i64 (ML : Int) :: z39 :: z40 :: z41 :: z42 :: z43 :: z44 :: z45 :: z46 :: z47 :: z48 :: z49 :: z50 :: z51 :: z52 :: z53 :: z54 :: z55 :: z56 :: u57 :: u58 :: u59 :: u60 :: u61 :: u62 :: u63 :: u64 :: u65 :: u66 :: u67 :: u68 :: u69 :: u70 :: u71 :: u72 :: u73 :: u74 :: u75 :: u76 :: u77 :: u78 :: u79 :: u80 :: u81 :: u82 :: u83 :: u84 :: u85 :: u86 :: u87 :: u88 :: u89 :: u90 :: u91 :: u92 :: u93 :: u94 :: u95 :: u96 :: u97 :: u98 :: u99 :: u100 :: u101 :: u102 :: u103 :: u104 :: u105 :: u106 :: u107 :: u108 :: u109 :: u110 :: u111 :: u112 :: u113 :: u114 :: u115 :: u116 :: u117 :: u118 :: u119 :: u120 :: u121 :: u122 :: u123 :: u124 :: u125 :: u126 :: []).toArray, defers := [] } V) :
    Code.wp Tryz.prog (atB 2 (bodyOf Tryz.f36)) Q { tmps := (u0 :: .pointer (some ⟨pb, 0, none⟩) :: u2 :: u3 :: u4 :: .slice (some ⟨g, 0, none⟩) N N :: u6 :: u7 :: u8 :: u9 :: u10 :: u11 :: u12 :: u13 :: u14 :: u15 :: u16 :: u17 :: u18 :: u19 :: u20 :: u21 :: u22 :: u23 :: u24 :: u25 :: u26 :: u27 :: u28 :: u29 :: u30 :: u31 :: u32 :: u33 :: u34 :: u35 :: u36 :: .slice aL ML cL :: .int .i64 (ML : Int) :: .int .i64 0 :: u40 :: u41 :: u42 :: u43 :: u44 :: u45 :: u46 :: u47 :: u48 :: u49 :: u50 :: u51 :: u52 :: u53 :: u54 :: u55 :: u56 :: u57 :: u58 :: u59 :: u60 :: u61 :: u62 :: u63 :: u64 :: u65 :: u66 :: u67 :: u68 :: u69 :: u70 :: u71 :: u72 :: u73 :: u74 :: u75 :: u76 :: u77 :: u78 :: u79 :: u80 :: u81 :: u82 :: u83 :: u84 :: u85 :: u86 :: u87 :: u88 :: u89 :: u90 :: u91 :: u92 :: u93 :: u94 :: u95 :: u96 :: u97 :: u98 :: u99 :: u100 :: u101 :: u102 :: u103 :: u104 :: u105 :: u106 :: u107 :: u108 :: u109 :: u110 :: u111 :: u112 :: u113 :: u114 :: u115 :: u116 :: u117 :: u118 :: u119 :: u120 :: u121 :: u122 :: u123 :: u124 :: u125 :: u126 :: []).toArray, defers := [] } W := by
  have HT := hide hT
  have HML := hide hML
  clear hT
  conv => arg 2; whnf
  go_loopw [39] (fun i wr => ∃ (q : Nat) (bl : List Int), q ≤ ML ∧ i = .int .i64 q ∧ bl.length = N ∧ BW wr g bl ∧ (∀ x : Nat, x < n → bl[x]? = some (x : Int)) ∧ (∀ (q' k : Nat), q' < q → L[q']? = some (k : Int) → bl[n + k]? = some ((n + q' : Nat) : Int)) ∧ Fx g W wr) (fun i wr => ML - (intOf i).toNat)
  case atStart => exact ⟨0, bl0, Nat.zero_le _, rfl, hl, unhide HBW, unhide HIN, fun q' k h => absurd h (Nat.not_lt_zero _), Fx.refl _ _⟩
  case round =>
    obtain ⟨q, bl, hk, rfl, hll, hbw, hin, hall, hf⟩ := hrel
    by_cases hlt : q < ML
    · have hx : L[q]? = some (L[q]'(by omega)) := List.getElem?_eq_getElem (by omega)
      generalize L[q]'(by omega) = j at hx
      obtain ⟨k, rfl, hkN⟩ := unhide HL q j hx
      obtain ⟨b, o, rfl, hcap, hbg, hcell⟩ := unhide HC q _ hx
      have k0 := hf.cell hcell hbg
      have k1 := hf.cell (unhide HP).1 (unhide HP).2
      obtain ⟨m, hm⟩ : ∃ m : Nat, m = n + k := ⟨_, rfl⟩
      obtain ⟨c1, c2⟩ := hbw.at_ m _ (List.getElem?_eq_getElem (by omega))
      generalize bl[m]'(by omega) = y0 at c1 c2
      obtain ⟨r, hr⟩ : ∃ r : Nat, r = n + q := ⟨_, rfl⟩
      have e1 : (n : Int) + (k : Int) = (m : Int) := by omega
      have e2 : (n : Int) + (q : Int) = (r : Int) := by omega
      have H1 := hide (hbw.set m (r : Int))
      have H2 := hide (hf.trans (Fx.set g m wr (.int .i64 (r : Int))))
      have H3 : Hid (∀ x : Nat, x < n → (bl.set m (r : Int))[x]? = some (x : Int)) := hide (fun x hx => by
        rw [List.getElem?_set_ne (by omega)]; exact hin x hx)
      have H5 : Hid (∀ (q' k' : Nat), q' < q + 1 → L[q']? = some (k' : Int) → (bl.set m (r : Int))[n + k']? = some ((n + q' : Nat) : Int)) := hide (fun q' k' h1 h2 => by
        by_cases e : q' = q
        · subst e
          rw [hx] at h2
          injection h2 with h2
          rw [show n + k' = m by omega, List.getElem?_set_self (by omega), hr]
        · have : k' ≠ k := fun e3 => by
            subst e3
            exact e (unhide HND _ _ _ h2 hx)
          rw [List.getElem?_set_ne (by omega)]; exact hall q' k' (by omega) h2)
      have H4 : Hid ((bl.set m (r : Int)).length = N) := hide (by rw [List.length_set]; exact hll)
      have i0 : (0 : Int) ≤ (q : Int) := by omega
      have i2 : (q : Int) < (ML : Int) := by omega
      have i3 : (0 : Int) ≤ (m : Int) := by omega
      have i4 : (m : Int) < (N : Int) := by omega
      have HQ := hide hlt
      clear hbw hall hf hll HT hl HBW hin hx HC hcell hkN HL HND HIN hm hr hML hlt hk
      go_wp2
      go_roundw
      case rel => exact ⟨q + 1, _, by have := unhide HQ; omega, by go_num, unhide H4, unhide H1, unhide H3, unhide H5, unhide H2⟩
      case measure => have := unhide HQ; simp [intOf]; omega
    · obtain rfl : q = ML := by omega
      have HX := hide (unhide HT)
      have H1 := hide hbw
      have H2 := hide hf
      have H3 := hide hin
      have H5 := hide hall
      have H4 := hide hll
      clear HT hbw hf hall hll hl HBW hin HC
      go_wp2
      exact unhide HX _ _ _ _ _ _ _ _ _ _ _ _ _ _ _ _ _ _ _ _ _ _ (unhide H4) (unhide H1) (unhide H3) (fun q k h => unhide H5 q k (by have := (List.getElem?_eq_some_iff.1 h).1; rw [unhide HML] at this; exact this) h) (unhide H2)
end Go.Proofs.YtdmmbhemmbgcpabGreat
