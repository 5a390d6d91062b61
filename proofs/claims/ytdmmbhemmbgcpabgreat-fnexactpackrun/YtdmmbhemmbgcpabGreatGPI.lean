/- The mapped design tells what the packed one does. -/
import Derived.Test.YtdmmbhemmbgcpabGreatGPU1
import Derived.Test.YtdmmbhemmbgcpabGreatGPC
import Derived.Test.YtdmmbhemmbgcpabGreatGRW4
namespace Go.Proofs.YtdmmbhemmbgcpabGreat
open Go Go.RowKit Gs
set_option linter.unusedVariables false
set_option maxRecDepth 100000
theorem getD_left {α : Type} {xs ys : List α} {d : α} {i : Nat} (h : i < xs.length) : (xs ++ ys).getD i d = xs.getD i d := by
  rw [List.getD_eq_getElem?_getD, List.getD_eq_getElem?_getD, List.getElem?_append_left h]
theorem getD_right {α : Type} {xs ys : List α} {d : α} {i n : Nat} (h : xs.length = n) : (xs ++ ys).getD (n + i) d = ys.getD i d := by
  rw [List.getD_eq_getElem?_getD, List.getD_eq_getElem?_getD, List.getElem?_append_right (by omega), show n + i - xs.length = i by omega]
theorem lutsV_split (A : List Bool) (l : List Lut) (k : Nat) : lutsV A l = lutsV (lutsV A (l.take k)) (l.drop k) := by
  conv => lhs; rw [← List.take_append_drop k l]
  rw [lutsV_append]
section
variable {bs : List Block} {f : Int → Int} {ins st : List Bool}
/-- The values that the registers have. -/
def regV (bs : List Block) (st : List Bool) : List Bool := (numsB bs true bs.length).map (fun j => st.getD j.toNat false)
theorem regV_len : (regV bs st).length = (numsB bs true bs.length).length := by simp [regV]
theorem regV_at {q : Nat} {j : Int} (h : (numsB bs true bs.length)[q]? = some j) : (regV bs st).getD q false = st.getD j.toNat false := by
  unfold regV
  rw [List.getD_eq_getElem?_getD, List.getElem?_map, h]; rfl
/-- What a list of values holds of the tables ahead of one. -/
def Ent (bs : List Block) (ins st : List Bool) (t : Nat) (X : List Bool) : Prop :=
  (∃ r, X = (ins ++ regV bs st) ++ r) ∧ ∀ (t' : Nat) (j : Int), t' < t → (numsB bs false bs.length)[t']? = some j → X.getD (ins.length + (numsB bs true bs.length).length + t') false = (blkV bs ins st bs.length).getD j.toNat false
theorem Ent.app {t : Nat} {X : List Bool} (h : Ent bs ins st t X) (hl : ins.length + (numsB bs true bs.length).length + t ≤ X.length) (r : List Bool) : Ent bs ins st t (X ++ r) := by
  obtain ⟨⟨r0, h0⟩, h1⟩ := h
  refine ⟨⟨r0 ++ r, by rw [h0, List.append_assoc]⟩, fun t' j ht hj => ?_⟩
  rw [getD_left (by omega)]
  exact h1 t' j ht hj
theorem srcX (hB : Bec ins.length bs (numsB bs true bs.length) (numsB bs false bs.length) f) {t : Nat} {X : List Bool} (hX : Ent bs ins st t X) {x : Int} (h0 : 0 ≤ x) (h1 : x < ((ins.length + bs.length : Nat) : Int))
    (h2 : (ins.length : Int) ≤ x → (bs.getD (x - (ins.length : Int)).toNat blk0).reg = false → (numsB bs false (x - (ins.length : Int)).toNat).length < t) : srcV X (f x) = valP bs ins st x := by
  obtain ⟨⟨r, hr⟩, hE⟩ := hX
  unfold valP srcP
  by_cases hi : x < (ins.length : Int)
  · rw [if_pos hi]
    have hf := hB.inp x.toNat (by omega)
    rw [show ((x.toNat : Nat) : Int) = x by omega] at hf
    rw [hf]
    unfold srcV
    rw [hr, List.append_assoc, getD_left (by omega)]
  · rw [if_neg hi]
    obtain ⟨j, hj⟩ : ∃ j : Nat, x = (ins.length : Int) + (j : Int) := ⟨(x - (ins.length : Int)).toNat, by omega⟩
    have hjn : (x - (ins.length : Int)).toNat = j := by omega
    have hjl : j < bs.length := by omega
    have h2' := h2 (by omega)
    rw [hjn] at h2' ⊢
    cases hreg : (bs.getD j blk0).reg
    · rw [if_neg (by simp)]
      have hq := numsB_at bs false bs.length j hjl hreg
      have hf := hB.at_ ((numsB bs true bs.length).length + (numsB bs false j).length) (j : Int) (by rw [List.getElem?_append_right (by omega), Nat.add_sub_cancel_left]; exact hq)
      rw [← hj] at hf
      rw [hf]
      unfold srcV
      rw [Int.toNat_natCast, ← Nat.add_assoc, hE _ _ (h2' hreg) hq]
      rfl
    · rw [if_pos rfl]
      have hq := numsB_at bs true bs.length j hjl hreg
      have hf := hB.at_ (numsB bs true j).length (j : Int) (by rw [List.getElem?_append_left (List.getElem?_eq_some_iff.1 hq).1]; exact hq)
      rw [← hj] at hf
      rw [hf]
      unfold srcV
      rw [Int.toNat_natCast, hr, List.append_assoc, getD_right rfl, getD_left (by rw [regV_len]; exact (List.getElem?_eq_some_iff.1 hq).1), regV_at hq]
      rfl
/-- The tables of blocks without a register. -/
theorem ent_tabs (hF : PFit ins.length bs) (hB : Bec ins.length bs (numsB bs true bs.length) (numsB bs false bs.length) f) : ∀ t, t ≤ (numsB bs false bs.length).length → Ent bs ins st t (lutsV (ins ++ regV bs st) (((numsB bs false bs.length).map (lutOf bs f)).take t))
  | 0, _ => ⟨⟨[], by simp [lutsV]⟩, fun t' j h => absurd h (Nat.not_lt_zero _)⟩
  | t + 1, h => by
    have ih := ent_tabs hF hB t (by omega)
    have hj : (numsB bs false bs.length)[t]? = some (numsB bs false bs.length)[t] := List.getElem?_eq_getElem (by omega)
    generalize (numsB bs false bs.length)[t] = j at hj
    obtain ⟨k, hk, hkl, hreg, htk⟩ := numsB_lt bs false bs.length t j hj
    subst hk
    have hx : ((numsB bs false bs.length).map (lutOf bs f))[t]? = some (lutOf bs f (k : Int)) := by rw [List.getElem?_map, hj]; rfl
    have hb : bs[k]? = some (bs.getD k blk0) := by rw [List.getD_eq_getElem?_getD, List.getElem?_eq_getElem hkl]; rfl
    have hlen : (lutsV (ins ++ regV bs st) (((numsB bs false bs.length).map (lutOf bs f)).take t)).length = ins.length + (numsB bs true bs.length).length + t := by
      rw [lutsV_len, List.length_append, regV_len, List.length_take, List.length_map]; omega
    rw [lutsV_step _ hx, lutV_lookF (g := valP bs ins st) (fun x hx => ?_)]
    · refine ⟨(ih.app (by omega) _).1, fun t' j ht hj' => ?_⟩
      by_cases e : t' = t
      · subst e
        rw [hj] at hj'
        injection hj' with hj'
        subst hj'
        rw [show ins.length + (numsB bs true bs.length).length + t' = ins.length + (numsB bs true bs.length).length + t' + 0 from rfl, getD_right hlen]
        rw [Int.toNat_natCast, valP_tab hF hb hreg]
        rfl
      · exact (ih.app (by omega) _).2 t' j (by omega) hj'
    · rw [Int.toNat_natCast] at hx
      have h1 := hF.src k _ hb x hx
      refine srcX hB ih h1.1 h1.2 (fun h2 h3 => ?_)
      have h4 : ¬ ((ins.length : Int) + k ≤ x) := fun h4 => by
        have := hF.ahead k _ hb hreg x hx h4
        rw [h3] at this; cases this
      rw [htk]
      exact numsB_more bs false (by omega) h3
theorem ent_all (hF : PFit ins.length bs) (hB : Bec ins.length bs (numsB bs true bs.length) (numsB bs false bs.length) f) (q : Nat) (hq : q ≤ (numsB bs true bs.length).length) :
    Ent bs ins st (numsB bs false bs.length).length (lutsV (ins ++ regV bs st) ((numsB bs false bs.length).map (lutOf bs f) ++ ((numsB bs true bs.length).map (lutOf bs f)).take q)) ∧ (lutsV (ins ++ regV bs st) ((numsB bs false bs.length).map (lutOf bs f) ++ ((numsB bs true bs.length).map (lutOf bs f)).take q)).length = ins.length + bs.length + q := by
  have h0 := ent_tabs (st := st) hF hB _ (Nat.le_refl _)
  rw [List.take_of_length_le (by simp)] at h0
  have h2 := numsB_two bs bs.length
  have hl : (lutsV (ins ++ regV bs st) ((numsB bs false bs.length).map (lutOf bs f))).length = ins.length + bs.length := by
    rw [lutsV_len, List.length_append, regV_len, List.length_map]; omega
  rw [lutsV_append]
  obtain ⟨r, hr⟩ := lutsV_pre (((numsB bs true bs.length).map (lutOf bs f)).take q) (lutsV (ins ++ regV bs st) ((numsB bs false bs.length).map (lutOf bs f)))
  refine ⟨by rw [hr]; exact h0.app (by omega) r, ?_⟩
  rw [lutsV_len, hl, List.length_take, List.length_map]; omega
/-- All sources, in the mapped design. -/
theorem src_all (hF : PFit ins.length bs) (hB : Bec ins.length bs (numsB bs true bs.length) (numsB bs false bs.length) f) (q : Nat) (hq : q ≤ (numsB bs true bs.length).length) {x : Int} (h0 : 0 ≤ x) (h1 : x < ((ins.length + bs.length : Nat) : Int)) :
    srcV (lutsV (ins ++ regV bs st) ((numsB bs false bs.length).map (lutOf bs f) ++ ((numsB bs true bs.length).map (lutOf bs f)).take q)) (f x) = valP bs ins st x :=
  srcX hB (ent_all hF hB q hq).1 h0 h1 (fun h2 h3 => numsB_more bs false (by omega) h3)
theorem src_whole (hF : PFit ins.length bs) (hB : Bec ins.length bs (numsB bs true bs.length) (numsB bs false bs.length) f) {x : Int} (h0 : 0 ≤ x) (h1 : x < ((ins.length + bs.length : Nat) : Int)) :
    srcV (lutsV (ins ++ regV bs st) ((numsB bs false bs.length ++ numsB bs true bs.length).map (lutOf bs f))) (f x) = valP bs ins st x := by
  have := src_all (st := st) hF hB _ (Nat.le_refl _) h0 h1
  rw [List.take_of_length_le (by simp), ← List.map_append] at this
  exact this
/-- A register's own table. -/
theorem src_reg (hF : PFit ins.length bs) (hB : Bec ins.length bs (numsB bs true bs.length) (numsB bs false bs.length) f) {q : Nat} {j : Int} (hj : (numsB bs true bs.length)[q]? = some j) :
    srcV (lutsV (ins ++ regV bs st) ((numsB bs false bs.length ++ numsB bs true bs.length).map (lutOf bs f))) ((ins.length + bs.length + q : Nat) : Int) = lookF (valP bs ins st) (bs.getD j.toNat blk0) := by
  have hq := (List.getElem?_eq_some_iff.1 hj).1
  obtain ⟨k, hk, hkl, hreg, htk⟩ := numsB_lt bs true bs.length q j hj
  have hb : bs[k]? = some (bs.getD k blk0) := by rw [List.getD_eq_getElem?_getD, List.getElem?_eq_getElem hkl]; rfl
  have hx : ((numsB bs true bs.length).map (lutOf bs f))[q]? = some (lutOf bs f j) := by rw [List.getElem?_map, hj]; rfl
  have hlen := (ent_all (st := st) hF hB q (by omega)).2
  rw [List.map_append, lutsV_append]
  rw [lutsV_split _ _ (q + 1)]
  rw [lutsV_append] at hlen
  obtain ⟨r, hr⟩ := lutsV_pre (((numsB bs true bs.length).map (lutOf bs f)).drop (q + 1)) (lutsV (lutsV (ins ++ regV bs st) ((numsB bs false bs.length).map (lutOf bs f))) (((numsB bs true bs.length).map (lutOf bs f)).take (q + 1)))
  rw [hr, lutsV_step _ hx, List.append_assoc]
  unfold srcV
  rw [Int.toNat_natCast, show ins.length + bs.length + q = ins.length + bs.length + q + 0 from rfl, getD_right hlen]
  show lutV _ _ = _
  refine lutV_lookF (fun x hx => ?_)
  rw [hk, Int.toNat_natCast] at hx
  have h1 := hF.src k _ hb x hx
  have := src_all (st := st) hF hB q (by omega) h1.1 h1.2
  rw [lutsV_append] at this
  exact this
end
theorem step_same {p : Packed} {f : Int → Int} (hF : PFit p.ins.length p.blocks) (hB : Bec p.ins.length p.blocks (numsB p.blocks true p.blocks.length) (numsB p.blocks false p.blocks.length) f) (st : List Bool) (s : Step) (hs : s.ins.length = p.ins.length) : stepV (unpackM p f) (regV p.blocks st) s = regV p.blocks (stepP p.blocks st s) := by
  have hil : (s.ins.map bit1).length = p.ins.length := by simp [hs]
  unfold stepV nextV
  apply List.ext_getElem?
  intro q
  rw [List.getElem?_zipWith]
  unfold unpackM regV
  simp only [List.getElem?_map, List.getElem?_zipIdx]
  cases hj : (numsB p.blocks true p.blocks.length)[q]? with
  | none => rfl
  | some j =>
    obtain ⟨k, hk, hkl, hreg, htk⟩ := numsB_lt p.blocks true p.blocks.length q j hj
    have hb : p.blocks[k]? = some (p.blocks.getD k blk0) := by rw [List.getD_eq_getElem?_getD, List.getElem?_eq_getElem hkl]; rfl
    simp only [Option.map_some, Nat.zero_add]
    congr 1
    subst hk
    rw [Int.toNat_natCast, stepP_at hb, hreg, Bool.true_and]
    by_cases ht : s.ticks.getD (p.blocks.getD k blk0).clock.toNat false = true
    · rw [if_pos ht, if_pos ht]
      have h1 := src_reg (ins := s.ins.map bit1) (st := st) (f := f) (by rw [hil]; exact hF) (by rw [hil]; exact hB) hj
      rw [hil, Int.toNat_natCast] at h1
      exact h1
    · rw [if_neg ht, if_neg ht]
theorem rows_same {p : Packed} {f : Int → Int} (hF : PFit p.ins.length p.blocks) (hB : Bec p.ins.length p.blocks (numsB p.blocks true p.blocks.length) (numsB p.blocks false p.blocks.length) f) (ho : ∀ q ∈ p.outs, 0 ≤ q.src ∧ q.src < ((p.ins.length + p.blocks.length : Nat) : Int)) (hc : ∀ q ∈ p.checks, 0 ≤ q.src ∧ q.src < ((p.ins.length + p.blocks.length : Nat) : Int)) :
    ∀ (steps : List Step) (st : List Bool), (∀ s ∈ steps, s.ins.length = p.ins.length) → rowsV (unpackM p f) (regV p.blocks st) steps = rowsP p st steps
  | [], _, _ => rfl
  | s :: r, st, hs => by
    have hsl := hs s List.mem_cons_self
    have hil : (s.ins.map bit1).length = p.ins.length := by simp [hsl]
    rw [rowsV, rowsP, step_same hF hB st s hsl, rows_same hF hB ho hc r _ (fun s' h => hs s' (List.mem_cons_of_mem _ h))]
    congr 1
    have key : ∀ x : Int, 0 ≤ x → x < ((p.ins.length + p.blocks.length : Nat) : Int) → srcV (lutsV (baseV (s.ins.map bit1) (regV p.blocks (stepP p.blocks st s))) (unpackM p f).luts) (f x) = valP p.blocks (s.ins.map bit1) (stepP p.blocks st s) x := fun x h0 h1 =>
      src_whole (ins := s.ins.map bit1) (by rw [hil]; exact hF) (by rw [hil]; exact hB) h0 (by rw [hil]; exact h1)
    unfold rowV rowP
    congr 1
    · show List.map _ (List.map _ p.outs) = _
      rw [List.map_map]
      exact List.map_congr_left (fun q hq => by
        show txt1 (srcV _ (f q.src)) = _
        rw [key q.src (ho q hq).1 (ho q hq).2])
    · show List.map _ (List.map _ p.checks) = _
      rw [List.map_map]
      exact List.map_congr_left (fun q hq => by
        show txt1 (srcV _ (f q.src)) = _
        rw [key q.src (hc q hq).1 (hc q hq).2])
    · unfold regV
      rw [List.map_map]; rfl
end Go.Proofs.YtdmmbhemmbgcpabGreat
namespace Go.Proofs.YtdmmbhemmbgcpabGreat
open Go Go.RowKit Gs
set_option linter.unusedVariables false
set_option linter.unusedSimpArgs false
set_option maxRecDepth 100000
/-- What namesFit answers. -/
def nms (p : Packed) : Bool := namesB (p.ins ++ p.clocks) && (namesB ((p.blocks.filter (·.reg)).map (·.name)) && (namesB (p.outs.map (·.name)) && namesB (p.checks.map (·.name))))
theorem strs_two {W : World} {xs ys : List ByteArray} {v u : Value} (b : Nat) (hx : RS 1 RStr W 0 xs v) (hy : RS 1 RStr W 0 ys u) (h0 : W.cell? ⟨b, 0, none⟩ = some v) (h1 : W.cell? ⟨b, 1, none⟩ = some u) : RS 1 (RL 1 RStr) W 0 [xs, ys] (.slice (some ⟨b, 0, none⟩) 2 2) := by
  refine ⟨some ⟨b, 0, none⟩, 2, rfl, by simp, by unfold maxLen; simp, fun _ => ⟨b, 0, rfl, Nat.zero_le _, fun i x hx' => ?_⟩⟩
  match i, hx' with
  | 0, h => simp at h; subst h; exact ⟨[v], rfl, fun j y hj => by cases j with | zero => (simp at hj; subst hj; simpa using h0) | succ j => simp at hj, v, rfl, hx⟩
  | 1, h => simp at h; subst h; exact ⟨[u], rfl, fun j y hj => by cases j with | zero => (simp at hj; subst hj; simpa using h1) | succ j => simp at hj, u, rfl, hy⟩
  | i + 2, h => simp at h
set_option maxHeartbeats 8000000 in
theorem iNames (s0 s1 s2 s3 s4 : Option Addr) (l0 l1 l2 l3 l4 c0 c1 c2 c3 c4 : Nat) (p : Packed) (w : World) (b0 : p.ins.length ≤ 1048576) (b1 : p.clocks.length ≤ 1048576) (b2 : p.blocks.length ≤ 1048576) (b3 : p.outs.length ≤ 1048576) (b4 : p.checks.length ≤ 1048576)
    (h0 : RS 1 RStr w 0 p.ins (.slice s0 l0 c0)) (h1 : RS 1 RStr w 0 p.clocks (.slice s1 l1 c1)) (h2 : RS 6 RBlock w 0 p.blocks (.slice s2 l2 c2)) (h3 : RS 2 RPort w 0 p.outs (.slice s3 l3 c3)) (h4 : RS 2 RPort w 0 p.checks (.slice s4 l4 c4)) :
    Calls Tryz.prog 61 #[.agg #[.slice s0 l0 c0, .slice s1 l1 c1, .slice s2 l2 c2, .slice s3 l3 c3, .slice s4 l4 c4]] w fun e w' => e = .returned (.bool (nms p)) ∧ Below w.heap.size w w' := by
  have HC1 : Hid (∀ V, Below (w.alloc (.cells #[.slice s0 l0 c0, .slice s1 l1 c1, .slice s2 l2 c2, .slice s3 l3 c3, .slice s4 l4 c4] 36)).heap.size (w.alloc (.cells #[.slice s0 l0 c0, .slice s1 l1 c1, .slice s2 l2 c2, .slice s3 l3 c3, .slice s4 l4 c4] 36)) V → V.cell? ⟨w.heap.size, 0, none⟩ = some (.slice s0 l0 c0) ∧ V.cell? ⟨w.heap.size, 1, none⟩ = some (.slice s1 l1 c1) ∧ V.cell? ⟨w.heap.size, 2, none⟩ = some (.slice s2 l2 c2) ∧ V.cell? ⟨w.heap.size, 3, none⟩ = some (.slice s3 l3 c3) ∧ V.cell? ⟨w.heap.size, 4, none⟩ = some (.slice s4 l4 c4)) := hide (fun V hb => ⟨cell_later hb (by rw [World.cell?_alloc_new]; rfl), cell_later hb (by rw [World.cell?_alloc_new]; rfl), cell_later hb (by rw [World.cell?_alloc_new]; rfl), cell_later hb (by rw [World.cell?_alloc_new]; rfl), cell_later hb (by rw [World.cell?_alloc_new]; rfl)⟩)
  obtain ⟨W, hW⟩ : ∃ W, W = w.alloc (.cells #[.slice s0 l0 c0, .slice s1 l1 c1, .slice s2 l2 c2, .slice s3 l3 c3, .slice s4 l4 c4] 36) := ⟨_, rfl⟩
  have HW : Hid (Below w.heap.size w W) := hide (by rw [hW]; exact bal (brf w) _)
  rw [← hW] at HC1
  have HZ : Hid (W.heap.size = w.heap.size + 1) := hide (by rw [hW]; simp)
  have hln : l2 = p.blocks.length := by
    obtain ⟨a, c, hv, _⟩ := h2
    injection hv with e1 e2 e3
  -- the first list
  have HCC : Hid (∀ V b, Below w.heap.size w V → V.cell? ⟨b, 0, none⟩ = some (.slice s0 l0 c0) → V.cell? ⟨b, 1, none⟩ = some (.slice s1 l1 c1) → Calls Tryz.prog 88 #[.slice (some ⟨b, 0, none⟩) 2 2] V fun e w' => (∃ v', e = .returned v' ∧ RS 1 RStr w' 0 (p.ins ++ p.clocks) v') ∧ Below V.heap.size V w') := hide (fun V b hV k0 k1 => by
    refine (iConcatS [p.ins, p.clocks] _ V (by simp) (by simp; omega) (strs_two b (h0.later RStr.keeps hV) (h1.later RStr.keeps hV) k0 k1)).mono ?_
    rintro e W ⟨⟨v', rfl, ho⟩, hb⟩
    simp at ho
    exact ⟨⟨v', rfl, ho.any (by simp; omega)⟩, hb⟩)
  have HBW : Hid (∀ V, Below w.heap.size w V → Calls Tryz.prog 66 #[.agg #[.slice s0 l0 c0, .slice s1 l1 c1, .slice s2 l2 c2, .slice s3 l3 c3, .slice s4 l4 c4], .bool true] V fun e w' => (∃ v', e = .returned v' ∧ RS 1 RInt w' 0 (numsB p.blocks true p.blocks.length) v') ∧ Below V.heap.size V w') := hide (fun V hV => by
    refine (iBlocksWith s0 s1 s2 s3 s4 l0 l1 l2 l3 l4 c0 c1 c2 c3 c4 p.blocks true V b2 (h2.later RBlock.keeps hV)).mono ?_
    rintro e W ⟨⟨v', rfl, ho⟩, hb⟩
    exact ⟨⟨v', rfl, ho.any (by have := numsB_len p.blocks true p.blocks.length; omega)⟩, hb⟩)
  have HLN : Hid (∀ V v, Below W.heap.size W V → RS 1 RInt V 0 (numsB p.blocks true p.blocks.length) v → Calls Tryz.prog 89 #[v, .func (.func 86) #[] #[.pointer (some ⟨w.heap.size, 0, none⟩)]] V fun e w' => (∃ v', e = .returned v' ∧ RS 1 RStr w' 0 ((p.blocks.filter (·.reg)).map (·.name)) v') ∧ Below V.heap.size V w') := hide (fun V v hV hv => by
    have hnl := numsB_len p.blocks true p.blocks.length
    refine (iListNames w.heap.size (nameN p.blocks) _ v V (by omega) hv (hide fun x hx => ?_)).mono ?_
    · obtain ⟨i, rfl, hi, _⟩ := numsB_mem p.blocks true _ x hx
      have hb : p.blocks[i]? = some p.blocks[i] := List.getElem?_eq_getElem hi
      rw [nameN_at hb]
      rcases h2.open with ⟨e, _⟩ | ⟨bb, oo, cc, hv2, hcc, _, _, hcs⟩
      · rw [e] at hi; simp at hi
      injection hv2 with e1 e2 e3
      obtain ⟨u, hul, hat, v1, hus, hsz, hrs⟩ := hcs i _ hb
      subst hus
      refine ⟨hsz, fun U hU => ?_⟩
      have hq := (unhide HC1 U (btr hV hU)).2.2.1
      rw [e1] at hq
      exact iToldName w.heap.size bb oo l2 c2 i _ U (by omega) (by omega) hq (cell_later (btr (btr (unhide HW) hV) hU) (hat.get (j := 0) rfl)) (by omega)
    · rintro e W1 ⟨⟨v', rfl, ho⟩, hb⟩
      rw [numsB_names p.blocks (nameN p.blocks) (fun i b h => nameN_at h) _ (Nat.le_refl _), List.take_of_length_le (Nat.le_refl _)] at ho
      have hfl : ((p.blocks.filter (·.reg)).map (·.name)).length ≤ p.blocks.length := by rw [List.length_map]; exact List.length_filter_le _ _
      exact ⟨⟨v', rfl, ho.any (by omega)⟩, hb⟩)
  have HLP : Hid (∀ V (xs : List Port) v, xs.length ≤ 1048576 → RS 2 RPort V 0 xs v → Calls Tryz.prog 90 #[v, .func (.func 85) #[] #[]] V fun e w' => (∃ v', e = .returned v' ∧ RS 1 RStr w' 0 (xs.map (·.name)) v') ∧ Below V.heap.size V w') := hide (fun V xs v hl hv => by
    refine (iListPortS xs v V hl hv).mono ?_
    rintro e W ⟨⟨v', rfl, ho⟩, hb⟩
    exact ⟨⟨v', rfl, ho.any (by simp; omega)⟩, hb⟩)
  have H3 := hide (fun (V : World) (hV : Below w.heap.size w V) => unhide HLP V p.outs _ b3 (h3.later RPort.keeps hV))
  have H4 := hide (fun (V : World) (hV : Below w.heap.size w V) => unhide HLP V p.checks _ b4 (h4.later RPort.keeps hV))
  have HNF : Hid (∀ (q : Bool) (ss : List ByteArray) V v, namesB ss = q → ss.length ≤ 2097152 → RS 1 RStr V 0 ss v → Calls Tryz.prog 87 #[v] V fun e w' => e = .returned (.bool q) ∧ Below V.heap.size V w') := hide (fun q ss V v hq hl hv => by rw [← hq]; exact iNamesFit ss v V hl hv)
  have L0 := hide (show (p.ins ++ p.clocks).length ≤ 2097152 by simp; omega)
  have L1 := hide (show ((p.blocks.filter (·.reg)).map (·.name)).length ≤ 2097152 by
    have : ((p.blocks.filter (·.reg)).map (·.name)).length ≤ p.blocks.length := by rw [List.length_map]; exact List.length_filter_le _ _
    omega)
  have L2 := hide (show (p.outs.map (·.name)).length ≤ 2097152 by simp; omega)
  have L3 := hide (show (p.checks.map (·.name)).length ≤ 2097152 by simp; omega)
  have HR : Hid (nms p = (namesB (p.ins ++ p.clocks) && (namesB ((p.blocks.filter (·.reg)).map (·.name)) && (namesB (p.outs.map (·.name)) && namesB (p.checks.map (·.name)))))) := hide rfl
  clear HLP h0 h1 h2 h3 h4 b0 b1 b2 b3 b4 hln
  generalize numsB p.blocks true p.blocks.length = nb at *
  generalize p.ins ++ p.clocks = n0 at *
  generalize (p.blocks.filter (·.reg)).map (·.name) = n1 at *
  generalize p.outs.map (·.name) = n2 at *
  generalize p.checks.map (·.name) = n3 at *
  generalize nms p = RR at *
  obtain ⟨q0, e0⟩ : ∃ q, namesB n0 = q := ⟨_, rfl⟩
  obtain ⟨q1, e1⟩ : ∃ q, namesB n1 = q := ⟨_, rfl⟩
  obtain ⟨q2, e2⟩ : ∃ q, namesB n2 = q := ⟨_, rfl⟩
  obtain ⟨q3, e3⟩ : ∃ q, namesB n3 = q := ⟨_, rfl⟩
  have HQ : Hid (RR = (q0 && (q1 && (q2 && q3)))) := hide (by rw [unhide HR, e0, e1, e2, e3])
  have E0 := hide e0
  have E1 := hide e1
  have E2 := hide e2
  have E3 := hide e3
  have HW' := hide hW
  clear e0 e1 e2 e3 HR hW
  cases q0
  · go_enter Tryz.func61, Tryz.ntmps61
    go_wp2_with fail
    rw [← unhide HW']
    have B0 : Hid (Below W.heap.size W (W.alloc (.cells #[.slice s0 l0 c0, .slice s1 l1 c1] 22))) := hide (bal (brf W) _)
    refine (unhide HCC _ _ (btr (unhide HW) (unhide B0)) (by rw [← unhide HZ, World.cell?_alloc_new]; rfl) (by rw [← unhide HZ, World.cell?_alloc_new]; rfl)).mono ?_
    rintro e W1 ⟨⟨v1, rfl, hr⟩, hb⟩
    have B1 : Hid (Below W.heap.size W W1) := hide (btr (unhide B0) hb)
    have R1 := hide hr
    clear hb hr
    obtain ⟨m0, m1, m2, m3, m4⟩ := unhide HC1 _ (unhide B1)
    go_wp2_with fail
    refine (unhide HNF _ _ _ _ (unhide E0) (unhide L0) (unhide R1)).mono ?_
    rintro e W2 ⟨rfl, hb⟩
    have B2 : Hid (Below W.heap.size W W2) := hide (btr (unhide B1) hb)
    clear hb
    clear m0 m1 m2 m3 m4
    obtain ⟨m0, m1, m2, m3, m4⟩ := unhide HC1 _ (unhide B2)
    go_wp2_with fail
    exact bodyPost_ret (v := .bool false) (by simp [results, Tryz.results61, go_sem]) rfl ⟨by rw [unhide HQ]; rfl, btr (unhide HW) (unhide B2)⟩
  · cases q1
    · go_enter Tryz.func61, Tryz.ntmps61
      go_wp2_with fail
      rw [← unhide HW']
      have B0 : Hid (Below W.heap.size W (W.alloc (.cells #[.slice s0 l0 c0, .slice s1 l1 c1] 22))) := hide (bal (brf W) _)
      refine (unhide HCC _ _ (btr (unhide HW) (unhide B0)) (by rw [← unhide HZ, World.cell?_alloc_new]; rfl) (by rw [← unhide HZ, World.cell?_alloc_new]; rfl)).mono ?_
      rintro e W1 ⟨⟨v1, rfl, hr⟩, hb⟩
      have B1 : Hid (Below W.heap.size W W1) := hide (btr (unhide B0) hb)
      have R1 := hide hr
      clear hb hr
      obtain ⟨m0, m1, m2, m3, m4⟩ := unhide HC1 _ (unhide B1)
      go_wp2_with fail
      refine (unhide HNF _ _ _ _ (unhide E0) (unhide L0) (unhide R1)).mono ?_
      rintro e W2 ⟨rfl, hb⟩
      have B2 : Hid (Below W.heap.size W W2) := hide (btr (unhide B1) hb)
      clear hb
      clear m0 m1 m2 m3 m4
      obtain ⟨m0, m1, m2, m3, m4⟩ := unhide HC1 _ (unhide B2)
      go_wp2_with fail
      refine (unhide HBW _ (btr (unhide HW) (unhide B2))).mono ?_
      rintro e W3 ⟨⟨v3, rfl, hr⟩, hb⟩
      have B3 : Hid (Below W.heap.size W W3) := hide (btr (unhide B2) hb)
      have R3 := hide hr
      clear hb hr m0 m1 m2 m3 m4
      obtain ⟨m0, m1, m2, m3, m4⟩ := unhide HC1 _ (unhide B3)
      go_wp2_with fail
      refine (unhide HLN _ _ (unhide B3) (unhide R3)).mono ?_
      rintro e W4 ⟨⟨v4, rfl, hr⟩, hb⟩
      have B4 : Hid (Below W.heap.size W W4) := hide (btr (unhide B3) hb)
      have R4 := hide hr
      clear hb hr m0 m1 m2 m3 m4
      obtain ⟨m0, m1, m2, m3, m4⟩ := unhide HC1 _ (unhide B4)
      go_wp2_with fail
      refine (unhide HNF _ _ _ _ (unhide E1) (unhide L1) (unhide R4)).mono ?_
      rintro e W5 ⟨rfl, hb⟩
      have B5 : Hid (Below W.heap.size W W5) := hide (btr (unhide B4) hb)
      clear hb
      clear m0 m1 m2 m3 m4
      obtain ⟨m0, m1, m2, m3, m4⟩ := unhide HC1 _ (unhide B5)
      go_wp2_with fail
      exact bodyPost_ret (v := .bool false) (by simp [results, Tryz.results61, go_sem]) rfl ⟨by rw [unhide HQ]; rfl, btr (unhide HW) (unhide B5)⟩
    · cases q2
      · go_enter Tryz.func61, Tryz.ntmps61
        go_wp2_with fail
        rw [← unhide HW']
        have B0 : Hid (Below W.heap.size W (W.alloc (.cells #[.slice s0 l0 c0, .slice s1 l1 c1] 22))) := hide (bal (brf W) _)
        refine (unhide HCC _ _ (btr (unhide HW) (unhide B0)) (by rw [← unhide HZ, World.cell?_alloc_new]; rfl) (by rw [← unhide HZ, World.cell?_alloc_new]; rfl)).mono ?_
        rintro e W1 ⟨⟨v1, rfl, hr⟩, hb⟩
        have B1 : Hid (Below W.heap.size W W1) := hide (btr (unhide B0) hb)
        have R1 := hide hr
        clear hb hr
        obtain ⟨m0, m1, m2, m3, m4⟩ := unhide HC1 _ (unhide B1)
        go_wp2_with fail
        refine (unhide HNF _ _ _ _ (unhide E0) (unhide L0) (unhide R1)).mono ?_
        rintro e W2 ⟨rfl, hb⟩
        have B2 : Hid (Below W.heap.size W W2) := hide (btr (unhide B1) hb)
        clear hb
        clear m0 m1 m2 m3 m4
        obtain ⟨m0, m1, m2, m3, m4⟩ := unhide HC1 _ (unhide B2)
        go_wp2_with fail
        refine (unhide HBW _ (btr (unhide HW) (unhide B2))).mono ?_
        rintro e W3 ⟨⟨v3, rfl, hr⟩, hb⟩
        have B3 : Hid (Below W.heap.size W W3) := hide (btr (unhide B2) hb)
        have R3 := hide hr
        clear hb hr m0 m1 m2 m3 m4
        obtain ⟨m0, m1, m2, m3, m4⟩ := unhide HC1 _ (unhide B3)
        go_wp2_with fail
        refine (unhide HLN _ _ (unhide B3) (unhide R3)).mono ?_
        rintro e W4 ⟨⟨v4, rfl, hr⟩, hb⟩
        have B4 : Hid (Below W.heap.size W W4) := hide (btr (unhide B3) hb)
        have R4 := hide hr
        clear hb hr m0 m1 m2 m3 m4
        obtain ⟨m0, m1, m2, m3, m4⟩ := unhide HC1 _ (unhide B4)
        go_wp2_with fail
        refine (unhide HNF _ _ _ _ (unhide E1) (unhide L1) (unhide R4)).mono ?_
        rintro e W5 ⟨rfl, hb⟩
        have B5 : Hid (Below W.heap.size W W5) := hide (btr (unhide B4) hb)
        clear hb
        clear m0 m1 m2 m3 m4
        obtain ⟨m0, m1, m2, m3, m4⟩ := unhide HC1 _ (unhide B5)
        go_wp2_with fail
        refine (unhide H3 _ (btr (unhide HW) (unhide B5))).mono ?_
        rintro e W6 ⟨⟨v6, rfl, hr⟩, hb⟩
        have B6 : Hid (Below W.heap.size W W6) := hide (btr (unhide B5) hb)
        have R6 := hide hr
        clear hb hr m0 m1 m2 m3 m4
        obtain ⟨m0, m1, m2, m3, m4⟩ := unhide HC1 _ (unhide B6)
        go_wp2_with fail
        refine (unhide HNF _ _ _ _ (unhide E2) (unhide L2) (unhide R6)).mono ?_
        rintro e W7 ⟨rfl, hb⟩
        have B7 : Hid (Below W.heap.size W W7) := hide (btr (unhide B6) hb)
        clear hb
        clear m0 m1 m2 m3 m4
        obtain ⟨m0, m1, m2, m3, m4⟩ := unhide HC1 _ (unhide B7)
        go_wp2_with fail
        exact bodyPost_ret (v := .bool false) (by simp [results, Tryz.results61, go_sem]) rfl ⟨by rw [unhide HQ]; rfl, btr (unhide HW) (unhide B7)⟩
      · cases q3
        · go_enter Tryz.func61, Tryz.ntmps61
          go_wp2_with fail
          rw [← unhide HW']
          have B0 : Hid (Below W.heap.size W (W.alloc (.cells #[.slice s0 l0 c0, .slice s1 l1 c1] 22))) := hide (bal (brf W) _)
          refine (unhide HCC _ _ (btr (unhide HW) (unhide B0)) (by rw [← unhide HZ, World.cell?_alloc_new]; rfl) (by rw [← unhide HZ, World.cell?_alloc_new]; rfl)).mono ?_
          rintro e W1 ⟨⟨v1, rfl, hr⟩, hb⟩
          have B1 : Hid (Below W.heap.size W W1) := hide (btr (unhide B0) hb)
          have R1 := hide hr
          clear hb hr
          obtain ⟨m0, m1, m2, m3, m4⟩ := unhide HC1 _ (unhide B1)
          go_wp2_with fail
          refine (unhide HNF _ _ _ _ (unhide E0) (unhide L0) (unhide R1)).mono ?_
          rintro e W2 ⟨rfl, hb⟩
          have B2 : Hid (Below W.heap.size W W2) := hide (btr (unhide B1) hb)
          clear hb
          clear m0 m1 m2 m3 m4
          obtain ⟨m0, m1, m2, m3, m4⟩ := unhide HC1 _ (unhide B2)
          go_wp2_with fail
          refine (unhide HBW _ (btr (unhide HW) (unhide B2))).mono ?_
          rintro e W3 ⟨⟨v3, rfl, hr⟩, hb⟩
          have B3 : Hid (Below W.heap.size W W3) := hide (btr (unhide B2) hb)
          have R3 := hide hr
          clear hb hr m0 m1 m2 m3 m4
          obtain ⟨m0, m1, m2, m3, m4⟩ := unhide HC1 _ (unhide B3)
          go_wp2_with fail
          refine (unhide HLN _ _ (unhide B3) (unhide R3)).mono ?_
          rintro e W4 ⟨⟨v4, rfl, hr⟩, hb⟩
          have B4 : Hid (Below W.heap.size W W4) := hide (btr (unhide B3) hb)
          have R4 := hide hr
          clear hb hr m0 m1 m2 m3 m4
          obtain ⟨m0, m1, m2, m3, m4⟩ := unhide HC1 _ (unhide B4)
          go_wp2_with fail
          refine (unhide HNF _ _ _ _ (unhide E1) (unhide L1) (unhide R4)).mono ?_
          rintro e W5 ⟨rfl, hb⟩
          have B5 : Hid (Below W.heap.size W W5) := hide (btr (unhide B4) hb)
          clear hb
          clear m0 m1 m2 m3 m4
          obtain ⟨m0, m1, m2, m3, m4⟩ := unhide HC1 _ (unhide B5)
          go_wp2_with fail
          refine (unhide H3 _ (btr (unhide HW) (unhide B5))).mono ?_
          rintro e W6 ⟨⟨v6, rfl, hr⟩, hb⟩
          have B6 : Hid (Below W.heap.size W W6) := hide (btr (unhide B5) hb)
          have R6 := hide hr
          clear hb hr m0 m1 m2 m3 m4
          obtain ⟨m0, m1, m2, m3, m4⟩ := unhide HC1 _ (unhide B6)
          go_wp2_with fail
          refine (unhide HNF _ _ _ _ (unhide E2) (unhide L2) (unhide R6)).mono ?_
          rintro e W7 ⟨rfl, hb⟩
          have B7 : Hid (Below W.heap.size W W7) := hide (btr (unhide B6) hb)
          clear hb
          clear m0 m1 m2 m3 m4
          obtain ⟨m0, m1, m2, m3, m4⟩ := unhide HC1 _ (unhide B7)
          go_wp2_with fail
          refine (unhide H4 _ (btr (unhide HW) (unhide B7))).mono ?_
          rintro e W8 ⟨⟨v8, rfl, hr⟩, hb⟩
          have B8 : Hid (Below W.heap.size W W8) := hide (btr (unhide B7) hb)
          have R8 := hide hr
          clear hb hr m0 m1 m2 m3 m4
          obtain ⟨m0, m1, m2, m3, m4⟩ := unhide HC1 _ (unhide B8)
          go_wp2_with fail
          refine (unhide HNF _ _ _ _ (unhide E3) (unhide L3) (unhide R8)).mono ?_
          rintro e W9 ⟨rfl, hb⟩
          have B9 : Hid (Below W.heap.size W W9) := hide (btr (unhide B8) hb)
          clear hb
          clear m0 m1 m2 m3 m4
          go_wp2_with fail
          exact bodyPost_ret (v := .bool false) (by simp [results, Tryz.results61, go_sem]) rfl ⟨by rw [unhide HQ]; rfl, btr (unhide HW) (unhide B9)⟩
        · go_enter Tryz.func61, Tryz.ntmps61
          go_wp2_with fail
          rw [← unhide HW']
          have B0 : Hid (Below W.heap.size W (W.alloc (.cells #[.slice s0 l0 c0, .slice s1 l1 c1] 22))) := hide (bal (brf W) _)
          refine (unhide HCC _ _ (btr (unhide HW) (unhide B0)) (by rw [← unhide HZ, World.cell?_alloc_new]; rfl) (by rw [← unhide HZ, World.cell?_alloc_new]; rfl)).mono ?_
          rintro e W1 ⟨⟨v1, rfl, hr⟩, hb⟩
          have B1 : Hid (Below W.heap.size W W1) := hide (btr (unhide B0) hb)
          have R1 := hide hr
          clear hb hr
          obtain ⟨m0, m1, m2, m3, m4⟩ := unhide HC1 _ (unhide B1)
          go_wp2_with fail
          refine (unhide HNF _ _ _ _ (unhide E0) (unhide L0) (unhide R1)).mono ?_
          rintro e W2 ⟨rfl, hb⟩
          have B2 : Hid (Below W.heap.size W W2) := hide (btr (unhide B1) hb)
          clear hb
          clear m0 m1 m2 m3 m4
          obtain ⟨m0, m1, m2, m3, m4⟩ := unhide HC1 _ (unhide B2)
          go_wp2_with fail
          refine (unhide HBW _ (btr (unhide HW) (unhide B2))).mono ?_
          rintro e W3 ⟨⟨v3, rfl, hr⟩, hb⟩
          have B3 : Hid (Below W.heap.size W W3) := hide (btr (unhide B2) hb)
          have R3 := hide hr
          clear hb hr m0 m1 m2 m3 m4
          obtain ⟨m0, m1, m2, m3, m4⟩ := unhide HC1 _ (unhide B3)
          go_wp2_with fail
          refine (unhide HLN _ _ (unhide B3) (unhide R3)).mono ?_
          rintro e W4 ⟨⟨v4, rfl, hr⟩, hb⟩
          have B4 : Hid (Below W.heap.size W W4) := hide (btr (unhide B3) hb)
          have R4 := hide hr
          clear hb hr m0 m1 m2 m3 m4
          obtain ⟨m0, m1, m2, m3, m4⟩ := unhide HC1 _ (unhide B4)
          go_wp2_with fail
          refine (unhide HNF _ _ _ _ (unhide E1) (unhide L1) (unhide R4)).mono ?_
          rintro e W5 ⟨rfl, hb⟩
          have B5 : Hid (Below W.heap.size W W5) := hide (btr (unhide B4) hb)
          clear hb
          clear m0 m1 m2 m3 m4
          obtain ⟨m0, m1, m2, m3, m4⟩ := unhide HC1 _ (unhide B5)
          go_wp2_with fail
          refine (unhide H3 _ (btr (unhide HW) (unhide B5))).mono ?_
          rintro e W6 ⟨⟨v6, rfl, hr⟩, hb⟩
          have B6 : Hid (Below W.heap.size W W6) := hide (btr (unhide B5) hb)
          have R6 := hide hr
          clear hb hr m0 m1 m2 m3 m4
          obtain ⟨m0, m1, m2, m3, m4⟩ := unhide HC1 _ (unhide B6)
          go_wp2_with fail
          refine (unhide HNF _ _ _ _ (unhide E2) (unhide L2) (unhide R6)).mono ?_
          rintro e W7 ⟨rfl, hb⟩
          have B7 : Hid (Below W.heap.size W W7) := hide (btr (unhide B6) hb)
          clear hb
          clear m0 m1 m2 m3 m4
          obtain ⟨m0, m1, m2, m3, m4⟩ := unhide HC1 _ (unhide B7)
          go_wp2_with fail
          refine (unhide H4 _ (btr (unhide HW) (unhide B7))).mono ?_
          rintro e W8 ⟨⟨v8, rfl, hr⟩, hb⟩
          have B8 : Hid (Below W.heap.size W W8) := hide (btr (unhide B7) hb)
          have R8 := hide hr
          clear hb hr m0 m1 m2 m3 m4
          obtain ⟨m0, m1, m2, m3, m4⟩ := unhide HC1 _ (unhide B8)
          go_wp2_with fail
          refine (unhide HNF _ _ _ _ (unhide E3) (unhide L3) (unhide R8)).mono ?_
          rintro e W9 ⟨rfl, hb⟩
          have B9 : Hid (Below W.heap.size W W9) := hide (btr (unhide B8) hb)
          clear hb
          clear m0 m1 m2 m3 m4
          go_wp2_with fail
          exact bodyPost_ret (v := .bool true) (by simp [results, Tryz.results61, go_sem]) rfl ⟨by rw [unhide HQ]; rfl, btr (unhide HW) (unhide B9)⟩
end Go.Proofs.YtdmmbhemmbgcpabGreat
