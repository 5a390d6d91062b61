/- Rows in memory of one's own. -/
import Derived.Test.YthbcokioijpofabGreatGp
import Derived.Test.YthbcokioijpofabGreatQ6
import Derived.Test.YthbcokioijpofabGreatQ3
import Derived.Test.YthbcokioijpofabGreatAG
import Derived.Test.YthbcokioijpofabGreatAE
namespace Go.Proofs.YthbcokioijpofabGreat
open Go Go.RowKit Gs
set_option linter.unusedVariables false
set_option maxRecDepth 100000
def Bnd (v : Value) (E : Nat) : Prop := ∀ j, v.ownBlock = some j → j < E
/-- Rows whose strings lie in blocks from B up to E, each list's behind the one ahead of it. -/
inductive RowsO (W : World) : Nat → Nat → List (Value × Value × Value) → List Row → Prop where
  | nil (B : Nat) : RowsO W B B [] []
  | snoc {B E E1 E2 E3 : Nat} {us : List (Value × Value × Value)} {rs : List Row} {vo vc vr : Value} {r : Row} : RowsO W B E us rs → E ≤ E1 → E1 ≤ E2 → E2 ≤ E3 → OT E W vo r.outs → Bnd vo E1 → OT E1 W vc r.checks → Bnd vc E2 → OT E2 W vr r.regs → Bnd vr E3 → RowsO W B E3 (us ++ [(vo, vc, vr)]) (rs ++ [r])
theorem RowsO.le {W : World} {B E : Nat} {us : List (Value × Value × Value)} {rs : List Row} (h : RowsO W B E us rs) : B ≤ E := by
  induction h with
  | nil => exact Nat.le_refl _
  | snoc h h1 h2 h3 _ _ _ _ _ _ ih => omega
theorem RowsO.later {W W' : World} {B E : Nat} {us : List (Value × Value × Value)} {rs : List Row} (h : RowsO W B E us rs) (hb : Below W.heap.size W W') : RowsO W' B E us rs := by
  induction h with
  | nil => exact .nil _
  | snoc h h1 h2 h3 o1 b1 o2 b2 o3 b3 ih => exact .snoc ih h1 h2 h3 (o1.later hb) b1 (o2.later hb) b2 (o3.later hb) b3
theorem RowsO.fx {W W' : World} {B E q : Nat} {us : List (Value × Value × Value)} {rs : List Row} (h : RowsO W B E us rs) (hf : Fx q W W') (hq : q < B) : RowsO W' B E us rs := by
  induction h with
  | nil => exact .nil _
  | snoc h h1 h2 h3 o1 b1 o2 b2 o3 b3 ih =>
    have := h.le
    exact .snoc ih h1 h2 h3 (o1.fx hf (fun e => by have := o1.row _ e; omega)) b1 (o2.fx hf (fun e => by have := o2.row _ e; omega)) b2 (o3.fx hf (fun e => by have := o3.row _ e; omega)) b3
/-- A row's block is of the rows' type, not of strings. -/
theorem OT.ne_type {W : World} {B q : Nat} {v : Value} {xs : List ByteArray} (h : OT B W v xs) {cur : Array Value} {f : Nat × Nat} (hq : W.heap[q]? = some (.cells cur 74 f)) : v.ownBlock ≠ some q := by
  rcases h.1.2 with ⟨rfl, _⟩ | ⟨g, cap, cur', rfl, _, hg, _⟩
  · intro e; cases e
  · intro e
    injection e with e
    subst e
    rw [hq] at hg
    injection hg with hg
    injection hg with _ h2 _
    cases h2
theorem OT.grown {W W' : World} {B : Nat} {v : Value} {xs : List ByteArray} (h : OT B W v xs) {o : Option Nat} (hg : W.grownBy W' o) (hne : ∀ q, o = some q → v.ownBlock ≠ some q) : OT B W' v xs := by
  obtain ⟨⟨h1, h2 | ⟨g, cap, cur, hv, hb, hc, rest⟩⟩, h3⟩ := h
  · exact ⟨⟨h1, .inl h2⟩, h3⟩
  · refine ⟨⟨h1, .inr ⟨g, cap, cur, hv, hb, (hg.block g (Array.getElem?_eq_some_iff.1 hc).1 (fun e => hne g e.symm ?_)).trans hc, rest⟩⟩, h3⟩
    rw [hv]; rfl
theorem RowsO.grown {W W' : World} {B E : Nat} {us : List (Value × Value × Value)} {rs : List Row} (h : RowsO W B E us rs) {o : Option Nat} (hg : W.grownBy W' o) (ho : ∀ q, o = some q → ∃ cur f, W.heap[q]? = some (.cells cur 74 f)) : RowsO W' B E us rs := by
  induction h with
  | nil => exact .nil _
  | snoc h h1 h2 h3 o1 b1 o2 b2 o3 b3 ih =>
    have k : ∀ {B : Nat} {v : Value} {xs : List ByteArray}, OT B W v xs → OT B W' v xs := fun h => h.grown hg (fun q e => by
      obtain ⟨cur, f, hc⟩ := ho q e
      exact h.ne_type hc)
    exact .snoc ih h1 h2 h3 (k o1) b1 (k o2) b2 (k o3) b3
/-- The cells of rows. -/
def rcs (us : List (Value × Value × Value)) : List Value := us.flatMap (fun u => [u.1, u.2.1, u.2.2])
theorem rcs_append (us : List (Value × Value × Value)) (vo vc vr : Value) : rcs (us ++ [(vo, vc, vr)]) = rcs us ++ [vo, vc, vr] := by simp [rcs]
theorem info75 : (Tryz.prog.info? 74).map (fun i => (i.zero, i.size, i.bytes)) = some (some (.agg #[.slice none 0 0, .slice none 0 0, .slice none 0 0]), 3, 72) := by kernel_rfl
theorem own_type {W : World} {B n : Nat} {v : Value} {xs : List Value} (h : W.ownsRow B 74 3 v n xs) : ∀ q, v.ownBlock = some q → ∃ cur f, W.heap[q]? = some (.cells cur 74 f) := by
  rcases h.2 with ⟨rfl, _⟩ | ⟨g, cap, cur, rfl, _, hg, _⟩
  · intro q e; cases e
  · intro q e
    injection e with e
    subst e
    exact ⟨_, _, hg⟩
theorem own_fx {W W' : World} {B n q : Nat} {v : Value} {xs : List Value} (h : W.ownsRow B 74 3 v n xs) (hf : Fx q W W') (hq : q < B) : W'.ownsRow B 74 3 v n xs := by
  obtain ⟨h1, h2 | ⟨g, cap, cur, hv, hb, hc, rest⟩⟩ := h
  · exact ⟨h1, .inl h2⟩
  · exact ⟨h1, .inr ⟨g, cap, cur, hv, hb, (hf.block g (Array.getElem?_eq_some_iff.1 hc).1 (by omega)).trans hc, rest⟩⟩
theorem own_later {W W' : World} {B n : Nat} {v : Value} {xs : List Value} (h : W.ownsRow B 74 3 v n xs) (hb : Below W.heap.size W W') : W'.ownsRow B 74 3 v n xs := by
  obtain ⟨h1, h2 | ⟨g, cap, cur, hv, hg, hc, rest⟩⟩ := h
  · exact ⟨h1, .inl h2⟩
  · exact ⟨h1, .inr ⟨g, cap, cur, hv, hg, (hb.block g (Array.getElem?_eq_some_iff.1 hc).1).trans hc, rest⟩⟩
theorem newR (W : World) (x y z : Value) (g : Nat) (hg : g = W.heap.size) : ∀ j u, [x, y, z][j]? = some u → (W.alloc (.cells #[x, y, z] 74)).cell? ((⟨g, 0, none⟩ : Addr).add j) = some u := by
  intro j u h
  subst hg
  match j, h with
  | 0, h => simp at h; subst h; simp [Addr.add]
  | 1, h => simp at h; subst h; simp [Addr.add]
  | 2, h => simp at h; subst h; simp [Addr.add]
  | j + 3, h => simp at h
end Go.Proofs.YthbcokioijpofabGreat
namespace Go.Proofs.YthbcokioijpofabGreat
open Go Go.RowKit Gs
set_option linter.unusedVariables false
set_option linter.unusedSimpArgs false
set_option maxRecDepth 100000
theorem OI.atC {B : Nat} {v : Value} {xs : List Int} {W : World} (h : OI B W v xs) (hne : 0 < xs.length) : ∃ g c, v = .slice (some ⟨g, 0, none⟩) xs.length c ∧ ∀ (i : Nat) y, xs[i]? = some y → W.cell? ⟨g, i, none⟩ = some (.int .i64 y) := by
  have hc := fun g hg => World.ownsRow.cells h (g := g) hg
  rcases h.2 with ⟨rfl, hn⟩ | ⟨g, cap, cur, rfl, hb, hg, hlc, hm, _⟩
  · omega
  · refine ⟨g, cap, rfl, fun i y hy => ?_⟩
    have := hc g rfl i (.int .i64 y) (by rw [List.getElem?_map, hy]; rfl)
    rw [Addr.add_lit] at this
    simpa using this
theorem add_all : ∀ m : Fin 4, ∀ r : Fin 8, r.val < 2 ^ m.val → ∀ y : Bool, wrap64 ((r.val : Int) + wrap64 (b2i y * 2 ^ m.val)) = ((r.val + (if y then 2 ^ m.val else 0) : Nat) : Int) := by decide +kernel
theorem add_step {m r : Nat} {y : Bool} (hm : m < 4) (hr : r < 2 ^ m) : wrap64 ((r : Int) + wrap64 (b2i y * 2 ^ m)) = ((r + (if y then 2 ^ m else 0) : Nat) : Int) := by
  have h8 : r < 8 := by
    have : (2 : Nat) ^ m ≤ 2 ^ 3 := Nat.pow_le_pow_right (by decide) (by omega)
    omega
  exact add_all ⟨m, hm⟩ ⟨r, h8⟩ hr y
set_option maxHeartbeats 16000000 in
theorem sValues (s0 s1 s2 s3 s4 s5 : Option Addr) (l0 l1 l2 l3 l4 l5 c0 c1 c2 c3 c4 c5 : Nat) (xs : List Lut) (ins st : List Bool) (vi vt : Value) (w : World) (hr : RS 2 RLut w 0 xs (.slice s3 l3 c3)) (hi : RS 1 RInt w 0 (ins.map b2i) vi) (ht : RS 1 RInt w 0 (st.map b2i) vt) (hil : ins.length ≤ 1048576) (htl : st.length ≤ 1048576) (hl3 : xs.length ≤ 1048576) (hao : LO4 (baseV ins st).length xs) :
    Calls Tryz.prog 25 #[.agg #[.slice s0 l0 c0, .slice s1 l1 c1, .slice s2 l2 c2, .slice s3 l3 c3, .slice s4 l4 c4, .slice s5 l5 c5], vi, vt] w fun e w' => (∃ v, e = .returned v ∧ OI w.heap.size w' v ((lutsV (baseV ins st) xs).map b2i)) ∧ Below w.heap.size w w' := by
  obtain ⟨hlen, HCS⟩ : l3 = xs.length ∧ Hid (∀ (V : World), Below w.heap.size w V → ∀ (i : Nat) x, xs[i]? = some x → ∃ b o a n, s3 = some ⟨b, o, none⟩ ∧ V.cell? ⟨b, o + i * 2, none⟩ = some (.slice a x.inp.length n) ∧ V.cell? ⟨b, o + i * 2 + 1, none⟩ = some (.int .i64 x.table) ∧ ∀ (j : Nat) y, x.inp[j]? = some y → ∃ b' o', a = some ⟨b', o', none⟩ ∧ V.cell? ⟨b', o' + j, none⟩ = some (.int .i64 y)) := by
    refine ⟨?_, hide (fun V hV => lut_cells (hr.later RLut.keeps hV))⟩
    obtain ⟨a, c, hv⟩ := hr.slice
    injection hv
  subst hlen
  clear hr
  obtain ⟨Wb, hWb⟩ : ∃ Wb, Wb = w.alloc (.cells #[.slice s0 l0 c0, .slice s1 l1 c1, .slice s2 l2 c2, .slice s3 xs.length c3, .slice s4 l4 c4, .slice s5 l5 c5] 38) := ⟨_, rfl⟩
  have hbB : Below w.heap.size w Wb := by rw [hWb]; exact bal (brf w) _
  have hsb : Wb.heap.size = w.heap.size + 1 := by rw [hWb]; simp
  have HC3 : Hid (∀ V, Below Wb.heap.size Wb V → V.cell? ⟨w.heap.size, 3, none⟩ = some (.slice s3 xs.length c3)) := hide (fun V hb => cell_later hb (by rw [hWb, World.cell?_alloc_new]; rfl))
  have HO := hide (show OI (w.heap.size + 1) ((w.alloc (.cells #[.slice s0 l0 c0, .slice s1 l1 c1, .slice s2 l2 c2, .slice s3 xs.length c3, .slice s4 l4 c4, .slice s5 l5 c5] 38)).alloc (.cells #[] 3)) (.slice (some ⟨w.heap.size + 1, 0, none⟩) 0 0) [] by rw [← hWb]; exact OI_start hsb (Nat.le_refl _))
  have hbA : Below Wb.heap.size Wb (Wb.alloc (.cells #[] 3)) := bal (brf Wb) _
  have HVI := hide (hi.later RInt.keeps (btr hbB hbA))
  have HT0 := hide (fun (V : World) (hV : Below w.heap.size w V) => ht.later RInt.keeps hV)
  have HBB := hide hbB
  have HAO := hide hao
  have HSB := hide hsb
  have HL1 := hide (show ([] : List Int).length + (ins.map b2i).length ≤ 4194304 by simp; omega)
  have HL2 := hide (show ([] ++ ins.map b2i : List Int).length + (st.map b2i).length ≤ 4194304 by simp; omega)
  have HWb := hide hWb
  obtain ⟨ia, ic, hvi⟩ := hi.slice
  obtain ⟨ka, kc, hvt⟩ := ht.slice
  rw [List.length_map] at hvi hvt
  subst hvi hvt
  rw [hWb] at HVI
  have HBA2 := hide (show Below Wb.heap.size Wb ((w.alloc (.cells #[.slice s0 l0 c0, .slice s1 l1 c1, .slice s2 l2 c2, .slice s3 xs.length c3, .slice s4 l4 c4, .slice s5 l5 c5] 38)).alloc (.cells #[] 3)) by rw [← hWb]; exact hbA)
  have HN1 : Hid (w.heap.size + 1 ≤ ((w.alloc (.cells #[.slice s0 l0 c0, .slice s1 l1 c1, .slice s2 l2 c2, .slice s3 xs.length c3, .slice s4 l4 c4, .slice s5 l5 c5] 38)).alloc (.cells #[] 3)).heap.size) := hide (by simp)
  clear hWb hbB hi ht hao hsb hbA
  go_enter Tryz.func25, Tryz.ntmps25
  go_wp2_with (first
    | (at_builtin; refine wpAppI rfl _ _ rfl (w.heap.size + 1) _ ([] ++ ins.map b2i) rfl (unhide HO2) _ (st.map b2i) rfl (unhide HVT) (unhide HL2) (unhide HSZ2) ?_; intro v3 w3 ho3 hg3)
    | (at_builtin; refine wpAppI rfl _ _ rfl (w.heap.size + 1) _ [] rfl (unhide HO) _ (ins.map b2i) rfl (unhide HVI) (unhide HL1) (unhide HN1) ?_; intro v2 w2 ho2 hg2; have hb2 := below_grown ((unhide HBA2).mono (Nat.le_of_eq (unhide HSB).symm)) hg2 (unhide HN1) (unhide HO).row; have HB2 := hide hb2; have HO2 := hide ho2; have HVT := hide (unhide HT0 w2 (btr (unhide HBB) (by rw [unhide HSB]; exact hb2))); have HSZ2 := hide (show w.heap.size + 1 ≤ w2.heap.size by have := hg2.size; have := unhide HN1; omega); clear ho2 hg2 hb2)
    | go_in)
  have hb3 := below_grown (unhide HB2) hg3 (unhide HSZ2) (unhide HO2).row
  have ho3' : OI (w.heap.size + 1) w3 v3 ((baseV ins st).map b2i) := by
    have e : (baseV ins st).map b2i = ([] ++ ins.map b2i) ++ st.map b2i := by unfold baseV; simp
    rw [e]; exact ho3
  have HO3 := hide ho3'
  have HB3 := hide hb3
  obtain ⟨i0, hi1, hz0, hz1, hz2⟩ := info_parts info3
  have HIF := hide (And.intro hi1 (And.intro hz0 (And.intro hz1 hz2)))
  clear ho3 ho3' hg3 hb3 HO HO2 HVI HVT HT0 HL1 HL2 HN1 HBA2 HB2 hi1 hz0 hz1 hz2
  go_loopw [7, 8] (fun v i wr => ∃ k : Nat, k ≤ xs.length ∧ i = .int .i64 k ∧ OI (w.heap.size + 1) wr v ((lutsV (baseV ins st) (xs.take k)).map b2i) ∧ Below (w.heap.size + 1) Wb wr) (fun _ i wr => xs.length - (intOf i).toNat)
  case atStart => exact ⟨0, Nat.zero_le _, rfl, unhide HO3, unhide HB3⟩
  case round =>
    obtain ⟨k, hk, rfl, hot, hb⟩ := hrel
    have hsb := unhide HSB
    have hbW : Below Wb.heap.size Wb wr := by rw [hsb]; exact hb
    have q3 := unhide HC3 wr hbW
    by_cases hlt : k < xs.length
    · have hx : xs[k]? = some xs[k] := List.getElem?_eq_getElem hlt
      generalize xs[k] = x at hx
      have hbw := btr (unhide HBB) hbW
      obtain ⟨bb, oo, ya, yn, rfl, hc0, hc1, hcy⟩ := unhide HCS wr hbw k x hx
      obtain ⟨hi4, ht0, ht1, hin⟩ := unhide HAO k x hx
      have hal : (lutsV (baseV ins st) (xs.take k)).length = (baseV ins st).length + k := by rw [lutsV_len, List.length_take]; omega
      have hbl : (baseV ins st).length ≤ 2097153 := by unfold baseV; simp; omega
      have hml : ((lutsV (baseV ins st) (xs.take k)).map b2i).length ≤ 4194304 := by rw [List.length_map, hal]; omega
      obtain ⟨t, ht⟩ : ∃ t : Nat, x.table = (t : Int) := ⟨x.table.toNat, by omega⟩
      rw [ht] at hc1 ht1
      have HST : Hid ((lutsV (baseV ins st) (xs.take (k + 1))).map b2i = (lutsV (baseV ins st) (xs.take k)).map b2i ++ [b2i (t.testBit (rowN (lutsV (baseV ins st) (xs.take k)) x.inp x.inp.length))]) := hide (by
        rw [lutsV_step _ hx, List.map_append]
        unfold lutV
        rw [ht]; rfl)
      have HYC : Hid (∀ (j : Nat) y, x.inp[j]? = some y → ∃ (p : Nat) (b' o' : Nat), y = (p : Int) ∧ p < (lutsV (baseV ins st) (xs.take k)).length ∧ ya = some ⟨b', o', none⟩ ∧ wr.cell? ⟨b', o' + j, none⟩ = some (.int .i64 y)) := hide (by
        intro j y hj
        obtain ⟨y0, y1⟩ := hin j y hj
        obtain ⟨b', o', e1, hcj⟩ := hcy j y hj
        exact ⟨y.toNat, b', o', by omega, by rw [hal]; omega, e1, hcj⟩)
      have HOT := hide hot
      have HML := hide hml
      have HBw := hide hb
      have HSZ := hide (show w.heap.size + 1 ≤ wr.heap.size by have := hbW.size; omega)
      clear hot hb hbW hbw HCS hx hal hbl hml hcy hin hsb ht ht0 HAO
      generalize lutsV (baseV ins st) (xs.take k) = vs at *
      generalize x.inp = ys at *
      have j1 : (0 : Int) ≤ (k : Int) := by omega
      have j2 : (k : Int) < (xs.length : Int) := by omega
      go_wp2_with fail
      go_loop [9, 10] (fun r i => ∃ m : Nat, m ≤ ys.length ∧ i = .int .i64 m ∧ r = .int .i64 ((rowN vs ys m : Nat) : Int)) (fun _ i => ys.length - (intOf i).toNat)
      case atStart => exact ⟨0, Nat.zero_le _, rfl, rfl⟩
      case round =>
        obtain ⟨m, hm, rfl, rfl⟩ := hrel
        by_cases hlm : m < ys.length
        · have hy : ys[m]? = some ys[m] := List.getElem?_eq_getElem hlm
          have hgd : ys.getD m 0 = ys[m] := by rw [List.getD_eq_getElem?_getD, hy]; rfl
          have HSM : Hid (rowN vs ys (m + 1) = rowN vs ys m + (if srcV vs ys[m] then 2 ^ m else 0)) := hide (by rw [rowN, hgd])
          have hrl := rowN_lt vs ys m
          have hrb := rowN_le (vs := vs) (xs := ys) (k := m) (by omega)
          generalize ys[m] = z at hy HSM
          obtain ⟨p, b', o', rfl, hp, rfl, hz⟩ := unhide HYC m _ hy
          obtain ⟨g, gc, rfl, hcl⟩ := (unhide HOT).atC (by rw [List.length_map]; omega)
          have hv := hcl p (b2i (srcV vs (p : Int))) (by rw [List.getElem?_map, srcV_at hp]; rfl)
          have r1 : (m : Int) < (ys.length : Int) := by omega
          have r2 : (p : Int) < ((vs.map b2i).length : Int) := by rw [List.length_map]; omega
          have r3 : (0 : Int) ≤ (m : Int) := by omega
          have m4 : m < 4 := by omega
          clear hy hgd HYC hcl
          generalize srcV vs (p : Int) = y at *
          generalize rowN vs ys m = r at *
          generalize (vs.map b2i).length = n at *
          go_wp2_with fail
          go_round
          case rel => exact ⟨m + 1, by omega, by go_num, by rw [unhide HSM, ← add_step m4 hrl]⟩
          case measure => simp [intOf]; omega
        · obtain rfl : m = ys.length := by omega
          have hrb := rowN_le (vs := vs) (xs := ys) hi4
          clear HYC
          generalize rowN vs ys ys.length = r at *
          have han := and_one (t := t) (by omega) r
          have hml := unhide HML
          generalize vs.map b2i = acc at *
          go_wp2_with (first
            | (at_builtin; refine wpList_append_own _ rfl _ _ 67 rfl (w.heap.size + 1) 3 i0 (.int .i64 0) 1 8 Tryz.underlying67 (unhide HIF).1 (unhide HIF).2.1 (unhide HIF).2.2.1 (unhide HIF).2.2.2 rfl (by decide) _ _ _ rfl ((unhide HOT).alloc _) ⟨wr.heap.size, 0, none⟩ 1 1 [.int .i64 (b2i (t.testBit r))] rfl rfl (newI _ _ _ (by simp)) (oneI _) (by unfold maxLen; omega) (by omega) (by have := unhide HSZ; simp; omega) ?_; intro v' w2 hown' hgrow _)
            | fail)
          have HR1 := hide (OI.step hown')
          have HR2 := hide (below_grown ((unhide HBw).trans ((bal (brf wr) (.cells #[.int .i64 (b2i (t.testBit r))] 3)).mono (unhide HSZ))) hgrow (by have := unhide HSZ; simp; omega) (unhide HOT).row)
          clear hown' hgrow
          go_roundw
          case rel => exact ⟨k + 1, by omega, by go_num, by rw [unhide HST]; exact unhide HR1, unhide HR2⟩
          case measure => simp [intOf]; omega
    · obtain rfl : k = xs.length := by omega
      rw [List.take_of_length_le (Nat.le_refl _)] at hot
      have HO := hide (hot.low (B' := w.heap.size) (by omega))
      have HB := hide (btr (unhide HBB) hbW)
      clear hot hb hbW HCS hsb
      go_wp2_with fail
      exact bodyPost_ret (v := u7) (by simp [results, Tryz.results25, go_sem]) rfl ⟨⟨_, rfl, unhide HO⟩, unhide HB⟩
end Go.Proofs.YthbcokioijpofabGreat
namespace Go.Proofs.YthbcokioijpofabGreat
open Go Go.RowKit Gs
set_option linter.unusedVariables false
set_option linter.unusedSimpArgs false
set_option maxRecDepth 100000
/-- A cell of a row that is made. -/
def RC (W : World) (q i : Nat) (y : Value) : Prop := W.cell? ⟨q, i, none⟩ = some y ∧ W.frozen? ⟨q, i, none⟩ = false
theorem row_step {q N j : Nat} {W wr V V' : World} {tv v : Value} {acc : List ByteArray} (hN : N = W.heap.size) (hq : q < N) (hfx : Fx q W wr) (hcj : RC wr q j tv) (hoth : ∀ i y, i ≠ j → RC W q i y → RC wr q i y) (hOT : OT N V' v acc) (hlow : Below N wr V') (hV : V = V'.setCell ⟨q, j, none⟩ v) :
    OT N V v acc ∧ Fx q W V ∧ RC V q j v ∧ (∀ i y, i ≠ j → RC W q i y → RC V q i y) := by
  have h1 : Fx q W V' := ⟨hlow.os.trans hfx.os, hlow.tape.trans hfx.tape, hlow.output.trans hfx.output, Nat.le_trans hfx.size hlow.size, fun i hi hne => (hlow.block i (by omega)).trans (hfx.block i hi hne)⟩
  have ec := fun i => hlow.cell (p := ⟨q, i, none⟩) (by show q < _; omega)
  have ef := fun i => hlow.frozen (p := ⟨q, i, none⟩) (by show q < _; omega)
  subst hV
  refine ⟨hOT.fx (Fx.set _ _ _ _) (fun e => by have := hOT.row _ e; omega), h1.trans (Fx.set _ _ _ _), ⟨sameCell _ _ _ _ ((ec j).trans hcj.1), by rw [frozSet]; exact (ef j).trans hcj.2⟩, fun i y hne hy => ?_⟩
  have := hoth i y hne hy
  exact ⟨otherCell _ _ _ _ ((ec i).trans this.1) (.inr hne), by rw [frozSet]; exact (ef i).trans this.2⟩
end Go.Proofs.YthbcokioijpofabGreat
