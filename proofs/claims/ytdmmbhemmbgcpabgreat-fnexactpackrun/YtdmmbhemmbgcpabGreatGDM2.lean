/- Rows of one's own are marked, and read back. -/
import Derived.Test.YtdmmbhemmbgcpabGreatGMT
namespace Go.Proofs.YtdmmbhemmbgcpabGreat
open Go.RowKit Gs
set_option linter.unusedVariables false
set_option linter.unusedSimpArgs false
set_option maxRecDepth 100000
/-- The texts of rows, list by list. -/
def rts (rs : List Row) : List (List ByteArray) := rs.flatMap (fun r => [r.outs, r.checks, r.regs])
theorem rts_append (rs : List Row) (r : Row) : rts (rs ++ [r]) = rts rs ++ [r.outs, r.checks, r.regs] := by simp [rts]
def befV (v w : Value) : Prop := ∀ q p, v.ownBlock = some q → w.ownBlock = some p → q < p
/-- Texts in rows of one's own, no two of them in one block. -/
structure FO (W : World) (B : Nat) (vs : List Value) (xss : List (List ByteArray)) : Prop where
  len : vs.length = xss.length
  own : ∀ (i : Nat) v xs, vs[i]? = some v → xss[i]? = some xs → OT B W v xs
  apart : ∀ (i j : Nat) v w, vs[i]? = some v → vs[j]? = some w → i ≠ j → ∀ q, v.ownBlock = some q → w.ownBlock ≠ some q
theorem apart_of {vs : List Value} (h : vs.Pairwise befV) : ∀ (i j : Nat) v w, vs[i]? = some v → vs[j]? = some w → i ≠ j → ∀ q, v.ownBlock = some q → w.ownBlock ≠ some q := by
  intro i j v w hv hw hij q hq hq2
  obtain ⟨hi, rfl⟩ := List.getElem?_eq_some_iff.1 hv
  obtain ⟨hj, rfl⟩ := List.getElem?_eq_some_iff.1 hw
  rw [List.pairwise_iff_getElem] at h
  rcases Nat.lt_or_gt_of_ne hij with e | e
  · have := h i j hi hj e q q hq hq2
    omega
  · have := h j i hj hi e q q hq2 hq
    omega
theorem own_append {P : Value → List ByteArray → Prop} {l1 l2 : List Value} {m1 m2 : List (List ByteArray)} (hl : l1.length = m1.length) (h1 : ∀ (i : Nat) v xs, l1[i]? = some v → m1[i]? = some xs → P v xs) (h2 : ∀ (i : Nat) v xs, l2[i]? = some v → m2[i]? = some xs → P v xs) : ∀ (i : Nat) v xs, (l1 ++ l2)[i]? = some v → (m1 ++ m2)[i]? = some xs → P v xs := by
  intro i v xs hv hx
  by_cases hi : i < l1.length
  · rw [List.getElem?_append_left hi] at hv
    rw [List.getElem?_append_left (by omega)] at hx
    exact h1 i v xs hv hx
  · rw [List.getElem?_append_right (by omega)] at hv
    rw [List.getElem?_append_right (by omega), ← hl] at hx
    exact h2 _ v xs hv hx
theorem RowsO.all {W : World} {B E : Nat} {us : List (Value × Value × Value)} {rs : List Row} (h : RowsO W B E us rs) : (rcs us).length = (rts rs).length ∧ (∀ (i : Nat) v xs, (rcs us)[i]? = some v → (rts rs)[i]? = some xs → OT B W v xs) ∧ (rcs us).Pairwise befV ∧ (∀ v ∈ rcs us, Bnd v E) ∧ us.length = rs.length := by
  induction h with
  | nil => exact ⟨rfl, fun i v xs h => by simp [rcs] at h, List.Pairwise.nil, fun v hv => by simp [rcs] at hv, rfl⟩
  | @snoc E0 E1 E2 E3 us rs vo vc vr r h h1 h2 h3 o1 b1 o2 b2 o3 b3 ih =>
    obtain ⟨k1, k2, k3, k4, k5⟩ := ih
    have hB := h.le
    rw [rcs_append, rts_append]
    refine ⟨by rw [List.length_append, List.length_append, k1]; rfl, own_append k1 k2 ?_, ?_, ?_, by simp [k5]⟩
    · intro i v xs hv hx
      match i, hv, hx with
      | 0, hv, hx => simp at hv hx; subst hv; subst hx; exact o1.low hB
      | 1, hv, hx => simp at hv hx; subst hv; subst hx; exact o2.low (by omega)
      | 2, hv, hx => simp at hv hx; subst hv; subst hx; exact o3.low (by omega)
      | i + 3, hv, hx => simp at hv
    · rw [List.pairwise_append]
      refine ⟨k3, ?_, ?_⟩
      · simp only [List.pairwise_cons, List.mem_cons, List.not_mem_nil, or_false, List.Pairwise.nil, and_true]
        refine ⟨fun b hb => ?_, fun b hb => ?_, fun b hb => by cases hb⟩
        · rcases hb with rfl | rfl
          · intro q p hq hp
            have := b1 q hq; have := o2.row p hp; omega
          · intro q p hq hp
            have := b1 q hq; have := o3.row p hp; omega
        · subst hb
          intro q p hq hp
          have := b2 q hq; have := o3.row p hp; omega
      · intro a ha b hb q p hq hp
        have hqE := k4 a ha q hq
        simp only [List.mem_cons, List.not_mem_nil, or_false] at hb
        rcases hb with rfl | rfl | rfl
        · have := o1.row p hp; omega
        · have := o2.row p hp; omega
        · have := o3.row p hp; omega
    · intro v hv q hq
      rw [List.mem_append] at hv
      rcases hv with hv | hv
      · have := k4 v hv q hq; omega
      · simp only [List.mem_cons, List.not_mem_nil, or_false] at hv
        rcases hv with rfl | rfl | rfl
        · have := b1 q hq; omega
        · have := b2 q hq; omega
        · exact b3 q hq
theorem RowsO.fo {W : World} {B E : Nat} {us : List (Value × Value × Value)} {rs : List Row} (h : RowsO W B E us rs) : FO W B (rcs us) (rts rs) := by
  obtain ⟨k1, k2, k3, _⟩ := h.all
  exact ⟨k1, k2, apart_of k3⟩
theorem FO.later {W W' : World} {B : Nat} {vs : List Value} {xss : List (List ByteArray)} (h : FO W B vs xss) (hb : Below W.heap.size W W') : FO W' B vs xss := ⟨h.len, fun i v xs hv hx => (h.own i v xs hv hx).later hb, h.apart⟩
theorem FO.mark {W W' : World} {B j : Nat} {vs : List Value} {xss : List (List ByteArray)} {v : Value} {new : List ByteArray} (h : FO W B vs xss) (hj : vs[j]? = some v) (hg : W.grownBy W' v.ownBlock) (ho : OT B W' v new) : FO W' B vs (xss.set j new) := by
  refine ⟨by rw [List.length_set]; exact h.len, fun i u xs hu hx => ?_, h.apart⟩
  by_cases e : i = j
  · subst e
    rw [hj] at hu
    injection hu with hu
    subst hu
    have hlt : i < xss.length := by rw [← h.len]; exact (List.getElem?_eq_some_iff.1 hj).1
    rw [List.getElem?_set_self hlt] at hx
    injection hx with hx
    subst hx
    exact ho
  · rw [List.getElem?_set_ne (fun e2 => e e2.symm)] at hx
    exact (h.own i u xs hu hx).grown hg (fun q hq hq2 => h.apart i j u v hu hj e q hq2 hq)
theorem OT.type9 {W : World} {B : Nat} {v : Value} {xs : List ByteArray} (h : OT B W v xs) : ∀ q, v.ownBlock = some q → ∃ cur f, W.heap[q]? = some (.cells cur 9 f) := by
  rcases h.1.2 with ⟨rfl, _⟩ | ⟨g, cap, cur, rfl, _, hg, _⟩
  · intro q e; cases e
  · intro q e
    injection e with e
    subst e
    exact ⟨_, _, hg⟩
theorem own75_grown {W W' : World} {B n : Nat} {v : Value} {xs : List Value} (h : W.ownsRow B 71 3 v n xs) {o : Option Nat} (hg : W.grownBy W' o) (ho : ∀ q, o = some q → ∃ cur f, W.heap[q]? = some (.cells cur 9 f)) : W'.ownsRow B 71 3 v n xs := by
  obtain ⟨h1, h2 | ⟨g, cap, cur, hv, hb, hc, rest⟩⟩ := h
  · exact ⟨h1, .inl h2⟩
  · refine ⟨h1, .inr ⟨g, cap, cur, hv, hb, (hg.block g (Array.getElem?_eq_some_iff.1 hc).1 (fun e => ?_)).trans hc, rest⟩⟩
    obtain ⟨cur', f, hq⟩ := ho g e.symm
    rw [hq] at hc
    injection hc with hc
    injection hc with _ h2 _
    cases h2
/-- The marks of lists of texts. -/
def mks : Nat → List (List ByteArray) → List (List ByteArray)
  | _, [] => []
  | m, xs :: t => mtxs m xs.length :: mks (m + xs.length) t
def cntL (xss : List (List ByteArray)) : Nat := (xss.map List.length).sum
theorem mks_len : ∀ (xss : List (List ByteArray)) (m : Nat), (mks m xss).length = xss.length
  | [], _ => rfl
  | x :: t, m => by rw [mks, List.length_cons, mks_len t, List.length_cons]
theorem mks_snoc (x : List ByteArray) : ∀ (xss : List (List ByteArray)) (m : Nat), mks m (xss ++ [x]) = mks m xss ++ [mtxs (m + cntL xss) x.length]
  | [], m => by simp [mks, cntL]
  | y :: t, m => by rw [List.cons_append, mks, mks, mks_snoc x t, List.cons_append]; simp [cntL, Nat.add_assoc]
theorem cntL_take {xss : List (List ByteArray)} {i : Nat} {x : List ByteArray} (h : xss[i]? = some x) : cntL (xss.take (i + 1)) = cntL (xss.take i) + x.length := by
  unfold cntL; rw [List.take_add_one, h, Option.toList_some, List.map_append, List.sum_append]; simp
theorem mks_step {xss : List (List ByteArray)} {i m : Nat} {x : List ByteArray} (h : xss[i]? = some x) : (mks m (xss.take i) ++ xss.drop i).set i (mtxs (m + cntL (xss.take i)) x.length) = mks m (xss.take (i + 1)) ++ xss.drop (i + 1) := by
  have hlt := (List.getElem?_eq_some_iff.1 h).1
  rw [set_at _ _ _ (by rw [mks_len, List.length_take]; omega) hlt, List.take_add_one, h, Option.toList_some, mks_snoc]
theorem mks_get : ∀ {xss : List (List ByteArray)} {i : Nat} {x : List ByteArray} (m : Nat), xss[i]? = some x → (mks m xss)[i]? = some (mtxs (m + cntL (xss.take i)) x.length)
  | [], i, x, m, h => by simp at h
  | y :: t, 0, x, m, h => by simp at h; subst h; simp [mks, cntL]
  | y :: t, i + 1, x, m, h => by
    have := mks_get (m + y.length) (show t[i]? = some x by simpa using h)
    rw [mks, List.getElem?_cons_succ, this]
    simp [cntL, Nat.add_assoc]
theorem cntL_le {xss : List (List ByteArray)} (h : ∀ xs ∈ xss, xs.length ≤ 1048576) : ∀ i, cntL (xss.take i) ≤ i * 1048576
  | 0 => by simp [cntL]
  | i + 1 => by
    cases e : xss[i]? with
    | none =>
      have hl : xss.length ≤ i := by
        rcases Nat.lt_or_ge i xss.length with h1 | h1
        · rw [List.getElem?_eq_getElem h1] at e; cases e
        · exact h1
      have := cntL_le h i
      rw [List.take_of_length_le (by omega)] at this ⊢
      exact Nat.le_trans this (Nat.mul_le_mul_right _ (Nat.le_succ i))
    | some x =>
      rw [cntL_take e]
      have := cntL_le h i
      have := h x (List.mem_of_getElem? e)
      omega
theorem rts_at {rs : List Row} {k : Nat} (h : k < rs.length) : ∃ r : Row, rs[k]? = some r ∧ (rts rs)[3 * k]? = some r.outs ∧ (rts rs)[3 * k + 1]? = some r.checks ∧ (rts rs)[3 * k + 2]? = some r.regs := by
  induction rs generalizing k with
  | nil => simp at h
  | cons r t ih =>
    have e : rts (r :: t) = r.outs :: r.checks :: r.regs :: rts t := rfl
    cases k with
    | zero => exact ⟨r, rfl, rfl, rfl, rfl⟩
    | succ k =>
      obtain ⟨r', h0, h1, h2, h3⟩ := ih (k := k) (by simpa using h)
      refine ⟨r', by simpa using h0, ?_, ?_, ?_⟩
      · rw [e, show 3 * (k + 1) = 3 * k + 3 by omega]; simpa using h1
      · rw [e, show 3 * (k + 1) + 1 = 3 * k + 1 + 3 by omega]; simpa using h2
      · rw [e, show 3 * (k + 1) + 2 = 3 * k + 2 + 3 by omega]; simpa using h3
theorem rts_len (rs : List Row) : (rts rs).length = 3 * rs.length := by
  induction rs with
  | nil => rfl
  | cons r t ih =>
    have e : rts (r :: t) = r.outs :: r.checks :: r.regs :: rts t := rfl
    rw [e]; simp [ih]; omega
theorem own75_at {W : World} {B n i : Nat} {v y : Value} {xs : List Value} (h : W.ownsRow B 71 3 v n xs) (hy : xs[i]? = some y) : ∃ g c, v = .slice (some ⟨g, 0, none⟩) n c ∧ W.cell? ⟨g, i, none⟩ = some y := by
  have hc := fun g hg => World.ownsRow.cells h (g := g) hg
  rcases h.2 with ⟨rfl, hn⟩ | ⟨g, cap, cur, rfl, hb, hg, _⟩
  · have := h.1
    rw [hn] at this
    simp at this
    subst this
    simp at hy
  · refine ⟨g, cap, rfl, ?_⟩
    have := hc g rfl i y hy
    rw [Addr.add_lit] at this
    simpa using this
set_option maxHeartbeats 16000000 in
theorem markRowS_of {W : World} {B : Nat} {v : Value} {vs : List Value} {rs : List Row} (ho : W.ownsRow B 71 3 v rs.length vs) (hf : FO W B vs (rts rs)) (hn : rs.length ≤ 4096) (hc : ∀ xs ∈ rts rs, xs.length ≤ 1048576) (hB : B ≤ W.heap.size) :
    Calls Tryz.prog 15 #[v, .int .i64 1] W fun e w' => e = .returned (.int .i64 ((1 + cntL (rts rs) : Nat) : Int)) ∧ w'.ownsRow B 71 3 v rs.length vs ∧ FO w' B vs (mks 1 (rts rs)) ∧ Below B W w' := by
  obtain ⟨a, c, rfl⟩ : ∃ a c, v = .slice a rs.length c := by
    rcases ho.2 with ⟨rfl, h0⟩ | ⟨g, cap, cur, rfl, _⟩
    · exact ⟨none, 0, by rw [h0]⟩
    · exact ⟨_, _, rfl⟩
  have HO := hide ho
  have HF := hide hf
  have HC := hide hc
  have HCL := hide (cntL_le hc)
  clear ho hf hc
  go_enter Tryz.func15, Tryz.ntmps15
  go_wp2
  go_loopw [1, 5] (fun kv i wr => ∃ k : Nat, k ≤ rs.length ∧ i = .int .i64 k ∧ kv = .int .i64 ((1 + cntL ((rts rs).take (3 * k)) : Nat) : Int) ∧ wr.ownsRow B 71 3 (.slice a rs.length c) rs.length vs ∧ FO wr B vs (mks 1 ((rts rs).take (3 * k)) ++ (rts rs).drop (3 * k)) ∧ Below B W wr) (fun _ i _ => rs.length - (intOf i).toNat)
  case atStart => exact ⟨0, Nat.zero_le _, rfl, rfl, unhide HO, unhide HF, Below.refl _ _⟩
  case round =>
    obtain ⟨k, hk, rfl, rfl, ho, hf, hb⟩ := hrel
    by_cases hlt : k < rs.length
    · obtain ⟨r, _, e0, e1, e2⟩ := rts_at hlt
      have hvl : vs.length = 3 * rs.length := by rw [(unhide HF).len, rts_len]
      have g0 : vs[3 * k]? = some vs[3 * k] := List.getElem?_eq_getElem (by omega)
      have g1 : vs[3 * k + 1]? = some vs[3 * k + 1] := List.getElem?_eq_getElem (by omega)
      have g2 : vs[3 * k + 2]? = some vs[3 * k + 2] := List.getElem?_eq_getElem (by omega)
      generalize vs[3 * k] = w0 at g0
      generalize vs[3 * k + 1] = w1 at g1
      generalize vs[3 * k + 2] = w2 at g2
      have hm0 : (mks 1 ((rts rs).take (3 * k)) ++ (rts rs).drop (3 * k))[3 * k]? = some r.outs := by
        rw [List.getElem?_append_right (by rw [mks_len, List.length_take]; omega), mks_len, List.length_take, Nat.min_eq_left (by rw [rts_len]; omega), Nat.sub_self, List.getElem?_drop, Nat.add_zero]; exact e0
      have o0 := hf.own _ _ _ g0 hm0
      have c0 := unhide HCL (3 * k)
      have c1 := unhide HCL (3 * k + 1)
      have c2 := unhide HCL (3 * k + 2)
      have l0 := unhide HC _ (List.mem_of_getElem? e0)
      have l1 := unhide HC _ (List.mem_of_getElem? e1)
      have l2 := unhide HC _ (List.mem_of_getElem? e2)
      have t0 := cntL_take e0
      have t1 := cntL_take e1
      have t2 := cntL_take e2
      rw [show 3 * k + 1 + 1 = 3 * k + 2 by omega] at t1
      have s0 := mks_step (m := 1) e0
      have s1 := mks_step (m := 1) e1
      have s2 := mks_step (m := 1) e2
      rw [show 3 * k + 1 + 1 = 3 * k + 2 by omega] at s1
      have HM := hide (o0.marked l0 (1 + cntL ((rts rs).take (3 * k))) (by omega))
      obtain ⟨gr, cr, hv, q0⟩ := own75_at ho g0
      obtain rfl : a = some ⟨gr, 0, none⟩ := by injection hv
      clear hv
      rw [show 3 * k = k * 3 by omega] at q0
      have HOW := hide ho
      have HFO := hide hf
      have HB := hide hb
      have HO0 := hide o0
      obtain ⟨a0, n0, d0, hw0⟩ := o0.shape
      subst hw0
      have HS := hide (And.intro s0 (And.intro s1 s2))
      have HG := hide (And.intro g0 (And.intro g1 g2))
      have HT := hide (And.intro t0 (And.intro t1 t2))
      have HL := hide (And.intro l0 (And.intro l1 l2))
      have HCC := hide (And.intro c0 (And.intro c1 c2))
      have HE := hide (And.intro e1 e2)
      have hsz := hb.size
      clear ho hf hb o0 s0 s1 s2 g0 g1 g2 t0 t1 t2 l0 l1 l2 c0 c1 c2 hm0 e0 e1 e2 hvl
      have i1 : (k : Int) < (rs.length : Int) := by omega
      go_wp2_with fail
      refine (unhide HM).mono ?_
      rintro e V1 ⟨rfl, hm1, hg1⟩
      have hfo1 := (unhide HFO).mark (unhide HG).1 hg1 hm1
      rw [(unhide HS).1] at hfo1
      have how1 := own75_grown (unhide HOW) hg1 (unhide HO0).type9
      have hb1 := below_grown (unhide HB) hg1 (by omega) (unhide HO0).row
      have hmm1 : (mks 1 ((rts rs).take (3 * k + 1)) ++ (rts rs).drop (3 * k + 1))[3 * k + 1]? = some r.checks := by
        rw [List.getElem?_append_right (by rw [mks_len, List.length_take]; omega), mks_len, List.length_take, Nat.min_eq_left (by rw [rts_len]; omega), Nat.sub_self, List.getElem?_drop, Nat.add_zero]; exact (unhide HE).1
      have o1 := hfo1.own _ _ _ (unhide HG).2.1 hmm1
      obtain ⟨gr1, cr1, hv1, q1⟩ := own75_at how1 (unhide HG).2.1
      obtain rfl : gr = gr1 := by injection hv1 with h1; injection h1 with h1; injection h1
      rw [show 3 * k + 1 = k * 3 + 1 by omega] at q1
      have HM1 := hide (o1.marked (unhide HL).2.1 (1 + cntL ((rts rs).take (3 * k + 1))) (by have := (unhide HCC).2.1; omega))
      have hkv : ((1 + cntL ((rts rs).take (3 * k)) + r.outs.length : Nat) : Int) = ((1 + cntL ((rts rs).take (3 * k + 1)) : Nat) : Int) := by have := (unhide HT).1; omega
      rw [hkv]
      obtain ⟨a1, n1, d1, hw1⟩ := o1.shape
      subst hw1
      have HO1 := hide o1
      have HF1 := hide hfo1
      have HW1 := hide how1
      have HB1 := hide hb1
      have hsz1 := hb1.size
      clear hfo1 how1 hb1 hmm1 o1 hm1 hg1 hkv q0 hv1 HM HOW HFO HB HO0
      go_wp2_with fail
      refine (unhide HM1).mono ?_
      rintro e V2 ⟨rfl, hm2, hg2⟩
      have hfo2 := (unhide HF1).mark (unhide HG).2.1 hg2 hm2
      rw [(unhide HS).2.1] at hfo2
      have how2 := own75_grown (unhide HW1) hg2 (unhide HO1).type9
      have hb2 := below_grown (unhide HB1) hg2 (by omega) (unhide HO1).row
      have hmm2 : (mks 1 ((rts rs).take (3 * k + 2)) ++ (rts rs).drop (3 * k + 2))[3 * k + 2]? = some r.regs := by
        rw [List.getElem?_append_right (by rw [mks_len, List.length_take]; omega), mks_len, List.length_take, Nat.min_eq_left (by rw [rts_len]; omega), Nat.sub_self, List.getElem?_drop, Nat.add_zero]; exact (unhide HE).2
      have o2 := hfo2.own _ _ _ (unhide HG).2.2 hmm2
      obtain ⟨gr2, cr2, hv2, q2⟩ := own75_at how2 (unhide HG).2.2
      obtain rfl : gr = gr2 := by injection hv2 with h1; injection h1 with h1; injection h1
      rw [show 3 * k + 2 = k * 3 + 2 by omega] at q2
      have HM2 := hide (o2.marked (unhide HL).2.2 (1 + cntL ((rts rs).take (3 * k + 2))) (by have := (unhide HCC).2.2; omega))
      have hkv : ((1 + cntL ((rts rs).take (3 * k + 1)) + r.checks.length : Nat) : Int) = ((1 + cntL ((rts rs).take (3 * k + 2)) : Nat) : Int) := by have := (unhide HT).2.1; omega
      rw [hkv]
      obtain ⟨a2, n2, d2, hw2⟩ := o2.shape
      subst hw2
      have HO2 := hide o2
      have HF2 := hide hfo2
      have HW2 := hide how2
      have HB2 := hide hb2
      have hsz2 := hb2.size
      clear hfo2 how2 hb2 hmm2 o2 hm2 hg2 hkv q1 hv2 HM1 HW1 HF1 HB1 HO1
      go_wp2_with fail
      refine (unhide HM2).mono ?_
      rintro e V3 ⟨rfl, hm3, hg3⟩
      have hfo3 := (unhide HF2).mark (unhide HG).2.2 hg3 hm3
      rw [(unhide HS).2.2, show 3 * k + 2 + 1 = 3 * (k + 1) by omega] at hfo3
      have how3 := own75_grown (unhide HW2) hg3 (unhide HO2).type9
      have hb3 := below_grown (unhide HB2) hg3 (by omega) (unhide HO2).row
      have hkv : ((1 + cntL ((rts rs).take (3 * k + 2)) + r.regs.length : Nat) : Int) = ((1 + cntL ((rts rs).take (3 * (k + 1))) : Nat) : Int) := by have := (unhide HT).2.2; rw [show 3 * k + 2 + 1 = 3 * (k + 1) by omega] at this; omega
      rw [hkv]
      have HR := hide (And.intro how3 (And.intro hfo3 hb3))
      clear how3 hfo3 hb3 hm3 hg3 hkv q2 HM2 HW2 HF2 HB2 HO2
      go_wp2_with fail
      go_roundw
      case rel => exact ⟨k + 1, by omega, by go_num, rfl, (unhide HR).1, (unhide HR).2.1, (unhide HR).2.2⟩
      case measure => simp [intOf]; omega
    · obtain rfl : k = rs.length := by omega
      rw [List.take_of_length_le (by rw [rts_len]; omega), List.drop_of_length_le (by rw [rts_len]; omega), List.append_nil] at hf
      rw [List.take_of_length_le (by rw [rts_len]; omega)]
      have HR := hide (And.intro ho (And.intro hf hb))
      clear ho hf hb HO HF HC HCL
      go_wp2
      exact bodyPost_ret (v := .int .i64 ((1 + cntL (rts rs) : Nat) : Int)) (by simp [results, Tryz.results15, go_sem]) rfl ⟨rfl, (unhide HR).1, (unhide HR).2.1, (unhide HR).2.2⟩
set_option maxHeartbeats 16000000 in
theorem heldRowS_of {W : World} {B : Nat} {v : Value} {vs : List Value} {rs : List Row} (ho : W.ownsRow B 71 3 v rs.length vs) (hf : FO W B vs (mks 1 (rts rs))) (hn : rs.length ≤ 4096) (hc : ∀ xs ∈ rts rs, xs.length ≤ 1048576) :
    Calls Tryz.prog 16 #[v, .int .i64 1] W fun e w' => e = .returned (.int .i64 ((1 + cntL (rts rs) : Nat) : Int)) ∧ Below W.heap.size W w' := by
  obtain ⟨a, c, rfl⟩ : ∃ a c, v = .slice a rs.length c := by
    rcases ho.2 with ⟨rfl, h0⟩ | ⟨g, cap, cur, rfl, _⟩
    · exact ⟨none, 0, by rw [h0]⟩
    · exact ⟨_, _, rfl⟩
  have HO := hide ho
  have HF := hide hf
  have HC := hide hc
  have HCL := hide (cntL_le hc)
  clear ho hf hc
  go_enter Tryz.func16, Tryz.ntmps16
  go_wp2
  go_loopw [1, 5] (fun kv i wr => ∃ k : Nat, k ≤ rs.length ∧ i = .int .i64 k ∧ kv = .int .i64 ((1 + cntL ((rts rs).take (3 * k)) : Nat) : Int) ∧ Below W.heap.size W wr) (fun _ i _ => rs.length - (intOf i).toNat)
  case atStart => exact ⟨0, Nat.zero_le _, rfl, rfl, Below.refl _ _⟩
  case round =>
    obtain ⟨k, hk, rfl, rfl, hb⟩ := hrel
    by_cases hlt : k < rs.length
    · obtain ⟨r, _, e0, e1, e2⟩ := rts_at hlt
      have hvl : vs.length = 3 * rs.length := by rw [(unhide HF).len, mks_len, rts_len]
      have g0 : vs[3 * k]? = some vs[3 * k] := List.getElem?_eq_getElem (by omega)
      have g1 : vs[3 * k + 1]? = some vs[3 * k + 1] := List.getElem?_eq_getElem (by omega)
      have g2 : vs[3 * k + 2]? = some vs[3 * k + 2] := List.getElem?_eq_getElem (by omega)
      generalize vs[3 * k] = w0 at g0
      generalize vs[3 * k + 1] = w1 at g1
      generalize vs[3 * k + 2] = w2 at g2
      have c0 := unhide HCL (3 * k)
      have c1 := unhide HCL (3 * k + 1)
      have c2 := unhide HCL (3 * k + 2)
      have l0 := unhide HC _ (List.mem_of_getElem? e0)
      have l1 := unhide HC _ (List.mem_of_getElem? e1)
      have l2 := unhide HC _ (List.mem_of_getElem? e2)
      have t0 := cntL_take e0
      have t1 := cntL_take e1
      have t2 := cntL_take e2
      rw [show 3 * k + 1 + 1 = 3 * k + 2 by omega] at t1
      rw [show 3 * k + 2 + 1 = 3 * (k + 1) by omega] at t2
      have o0 := (unhide HF).own _ _ _ g0 (mks_get 1 e0)
      have o1 := (unhide HF).own _ _ _ g1 (mks_get 1 e1)
      have o2 := (unhide HF).own _ _ _ g2 (mks_get 1 e2)
      have H0 := hide (fun (V : World) (hV : Below W.heap.size W V) => heldT (1 + cntL ((rts rs).take (3 * k))) r.outs.length w0 V l0 (by omega) (RS.low RStr.lowers (Nat.zero_le _) ((o0.later hV).read (by rw [mtxs_len]; unfold maxLen; omega))))
      have H1 := hide (fun (V : World) (hV : Below W.heap.size W V) => heldT (1 + cntL ((rts rs).take (3 * k + 1))) r.checks.length w1 V l1 (by omega) (RS.low RStr.lowers (Nat.zero_le _) ((o1.later hV).read (by rw [mtxs_len]; unfold maxLen; omega))))
      have H2 := hide (fun (V : World) (hV : Below W.heap.size W V) => heldT (1 + cntL ((rts rs).take (3 * k + 2))) r.regs.length w2 V l2 (by omega) (RS.low RStr.lowers (Nat.zero_le _) ((o2.later hV).read (by rw [mtxs_len]; unfold maxLen; omega))))
      have hk0 : 1 + cntL ((rts rs).take (3 * k)) + r.outs.length = 1 + cntL ((rts rs).take (3 * k + 1)) := by omega
      have hk1 : 1 + cntL ((rts rs).take (3 * k + 1)) + r.checks.length = 1 + cntL ((rts rs).take (3 * k + 2)) := by omega
      have hk2 : 1 + cntL ((rts rs).take (3 * k + 2)) + r.regs.length = 1 + cntL ((rts rs).take (3 * (k + 1))) := by omega
      rw [hk0] at H0
      rw [hk1] at H1
      rw [hk2] at H2
      obtain ⟨gr, cr, hv, q0⟩ := own75_at (unhide HO) g0
      obtain rfl : a = some ⟨gr, 0, none⟩ := by injection hv
      obtain ⟨gr1, cr1, hv1, q1⟩ := own75_at (unhide HO) g1
      obtain rfl : gr = gr1 := by injection hv1 with h1; injection h1 with h1; injection h1
      obtain ⟨gr2, cr2, hv2, q2⟩ := own75_at (unhide HO) g2
      obtain rfl : gr = gr2 := by injection hv2 with h1; injection h1 with h1; injection h1
      rw [show 3 * k = k * 3 by omega] at q0
      rw [show 3 * k + 1 = k * 3 + 1 by omega] at q1
      rw [show 3 * k + 2 = k * 3 + 2 by omega] at q2
      have HQ := hide (And.intro q0 (And.intro q1 q2))
      obtain ⟨a0, n0, d0, hw0⟩ := o0.shape
      obtain ⟨a1, n1, d1, hw1⟩ := o1.shape
      obtain ⟨a2, n2, d2, hw2⟩ := o2.shape
      subst hw0 hw1 hw2
      have HB := hide hb
      clear o0 o1 o2 g0 g1 g2 e0 e1 e2 t0 t1 t2 l0 l1 l2 hk0 hk1 hk2 hv hv1 hv2 q0 q1 q2 hvl hb
      have c3 := unhide HCL (3 * (k + 1))
      generalize 1 + cntL ((rts rs).take (3 * k)) = y0 at *
      generalize 1 + cntL ((rts rs).take (3 * k + 1)) = y1 at *
      generalize 1 + cntL ((rts rs).take (3 * k + 2)) = y2 at *
      have hy3 : ∃ y3, y3 = 1 + cntL ((rts rs).take (3 * (k + 1))) := ⟨_, rfl⟩
      obtain ⟨y3, hy3⟩ := hy3
      rw [← hy3] at H2
      have HY3 := hide hy3
      clear hy3 c0 c1 c2 c3
      have d1' : decide ((y1 : Int) < 0) = false := decide_eq_false (by omega)
      have d2' : decide ((y2 : Int) < 0) = false := decide_eq_false (by omega)
      have d3' : decide ((y3 : Int) < 0) = false := decide_eq_false (by omega)
      have i1 : (k : Int) < (rs.length : Int) := by omega
      have p0 := cell_later (unhide HB) (unhide HQ).1
      go_wp2_with fail
      refine (unhide H0 _ (unhide HB)).mono ?_
      rintro e V1 ⟨rfl, hb1⟩
      have HB1 := hide (btr (unhide HB) hb1)
      have p1 := cell_later (unhide HB1) (unhide HQ).2.1
      clear hb1 p0
      go_wp2_with fail
      refine (unhide H1 _ (unhide HB1)).mono ?_
      rintro e V2 ⟨rfl, hb2⟩
      have HB2 := hide (btr (unhide HB1) hb2)
      have p2 := cell_later (unhide HB2) (unhide HQ).2.2
      clear hb2 p1
      go_wp2_with fail
      refine (unhide H2 _ (unhide HB2)).mono ?_
      rintro e V3 ⟨rfl, hb3⟩
      have HB3 := hide (btr (unhide HB2) hb3)
      clear hb3 p2
      go_wp2_with fail
      go_roundw
      case rel => exact ⟨k + 1, by omega, by go_num, by rw [unhide HY3], unhide HB3⟩
      case measure => simp [intOf]; omega
    · obtain rfl : k = rs.length := by omega
      rw [List.take_of_length_le (by rw [rts_len]; omega)]
      have HR := hide hb
      clear hb HO HF HC HCL
      go_wp2
      exact bodyPost_ret (v := .int .i64 ((1 + cntL (rts rs) : Nat) : Int)) (by simp [results, Tryz.results16, go_sem]) rfl ⟨rfl, unhide HR⟩
/-- Rows of one's own are read. -/
theorem rows_read {W : World} {B E : Nat} {v : Value} {us : List (Value × Value × Value)} {rs : List Row} (ho : W.ownsRow B 71 3 v rs.length (rcs us)) (hr : RowsO W B E us rs) (hn : rs.length ≤ 4096) (hc : ∀ xs ∈ rts rs, xs.length ≤ 1048576) : RS 3 RRow W 0 rs v := by
  have hf := hr.fo
  rcases ho.2 with ⟨rfl, h0⟩ | ⟨g, cap, cur, rfl, hb, hg, hlc, hm, _⟩
  · have : rs = [] := List.length_eq_zero_iff.1 h0
    subst this
    exact RS.nil _ _ _ _ _ _
  · refine ⟨_, _, rfl, hlc, by unfold maxLen; omega, fun _ => ⟨g, 0, rfl, Nat.zero_le _, fun i r hi => ?_⟩⟩
    have hlt := (List.getElem?_eq_some_iff.1 hi).1
    obtain ⟨r', hr', e0, e1, e2⟩ := rts_at hlt
    rw [hi] at hr'
    injection hr' with hr'
    subst hr'
    have hvl : (rcs us).length = 3 * rs.length := by rw [hf.len, rts_len]
    have g0 : (rcs us)[3 * i]? = some (rcs us)[3 * i] := List.getElem?_eq_getElem (by omega)
    have g1 : (rcs us)[3 * i + 1]? = some (rcs us)[3 * i + 1] := List.getElem?_eq_getElem (by omega)
    have g2 : (rcs us)[3 * i + 2]? = some (rcs us)[3 * i + 2] := List.getElem?_eq_getElem (by omega)
    have rd : ∀ {u : Value} {xs : List ByteArray}, OT B W u xs → xs.length ≤ 1048576 → RS 1 RStr W 0 xs u := fun h hl => RS.low RStr.lowers (Nat.zero_le _) (h.read (by unfold maxLen; omega))
    refine ⟨[_, _, _], rfl, fun j y hj => ?_, _, _, _, rfl, rd (hf.own _ _ _ g0 e0) (hc _ (List.mem_of_getElem? e0)), rd (hf.own _ _ _ g1 e1) (hc _ (List.mem_of_getElem? e1)), rd (hf.own _ _ _ g2 e2) (hc _ (List.mem_of_getElem? e2))⟩
    have at75 : ∀ (t : Nat) y, (rcs us)[t]? = some y → W.cell? ⟨g, t, none⟩ = some y := fun t y ht => by
      obtain ⟨g', c', hv, hc'⟩ := own75_at ho ht
      injection hv with h1
      injection h1 with h1
      injection h1 with h1
      subst h1
      exact hc'
    match j, hj with
    | 0, hj => simp at hj; subst hj; rw [show 0 + i * 3 + 0 = 3 * i by omega]; exact at75 _ _ g0
    | 1, hj => simp at hj; subst hj; rw [show 0 + i * 3 + 1 = 3 * i + 1 by omega]; exact at75 _ _ g1
    | 2, hj => simp at hj; subst hj; rw [show 0 + i * 3 + 2 = 3 * i + 2 by omega]; exact at75 _ _ g2
    | j + 3, hj => simp at hj
end Go.Proofs.YtdmmbhemmbgcpabGreat
namespace Go.Proofs.YtdmmbhemmbgcpabGreat
open Go.RowKit Gs
set_option linter.unusedVariables false
set_option linter.unusedSimpArgs false
set_option maxRecDepth 100000
def KBool : World → Nat → Nat → List Value → Prop := fun W B E u => ∃ x, u = [.bool x]
theorem KBool.of {W : World} {B : Nat} {x : Bool} {u : List Value} (h : RBool W B x u) : KBool W B W.heap.size u := ⟨_, h⟩
set_option maxHeartbeats 8000000 in
theorem markBoolS_of (l : Nat) (v : Value) (w : World) (B E : Nat) (hl : l ≤ 1048576) (hK : KS 1 KBool w B E l v) (hN : NF B w) (V : World) (z : Int) (h0 : 0 ≤ z) (h1 : z ≤ 20000000000000000) (hM : MK B E w V) :
    Calls Tryz.prog 45 #[v, .int .i64 z] V fun e w' => (∃ z' : Int, e = .returned (.int .i64 z') ∧ 0 ≤ z' ∧ z' ≤ z + (l : Int) * 1) ∧ MK B E V w' := by
  obtain ⟨a, c, rfl, hw⟩ := hK
  have HM := hide hM
  have HW := hide hw
  clear hM hw
  go_enter Tryz.func45, Tryz.ntmps45
  go_wp2
  go_loopw [1, 5] (fun kv i wr => ∃ (j : Nat) (y : Int), j ≤ l ∧ i = .int .i64 j ∧ kv = .int .i64 y ∧ 0 ≤ y ∧ y ≤ z + (j : Int) * 1 ∧ MK B E V wr) (fun _ i _ => l - (intOf i).toNat)
  case atStart => exact ⟨0, z, Nat.zero_le _, rfl, rfl, h0, by omega, .refl _ _ _⟩
  case round =>
    obtain ⟨j, y, hj, rfl, rfl, y0, y1, hM⟩ := hrel
    by_cases hjl : j < l
    · obtain ⟨b, o, rfl, hB, hE, he⟩ := unhide HW (by omega)
      obtain ⟨u, hul, hat, x0, rfl⟩ := he j hjl
      obtain ⟨q0, c0, s0, f0⟩ := ((unhide HM).trans hM).cell hN (hat.get (j := 0) rfl) hB
      obtain ⟨t0, rfl⟩ := s0.bool
      simp only [Nat.add_zero, Nat.mul_one] at c0 f0
      have HM0 := hide hM
      have i1 : (j : Int) < (l : Int) := by omega
      clear he hat hul HW hM s0
      go_wp2
      exact ⟨⟨j + 1, _, by omega, by go_num, rfl, by omega, by omega, (MK.set (unhide HM0) c0 _ (SK.bools _ _) hB hE)⟩, by simp [intOf]; omega⟩
    · obtain rfl : j = l := by omega
      have HM0 := hide hM
      clear hM HW
      go_wp2
      go_ret
      exact ⟨⟨y, rfl, y0, by omega⟩, unhide HM0⟩
def KStep : World → Nat → Nat → List Value → Prop := fun W B E u => ∃ (x0 x1 : Value) (l0 l1 : Nat), u = [x0, x1] ∧ l0 ≤ 1048576 ∧ KS 1 KStr W B E l0 x0 ∧ l1 ≤ 1048576 ∧ KS 1 KBool W B E l1 x1
theorem KStep.of {W : World} {B : Nat} {x : Step} {u : List Value} (h : RStep W B x u) (hz : szStep x ≤ 1048576) : KStep W B W.heap.size u := by
  obtain ⟨v0, v1, rfl, r0, r1⟩ := h
  have hsz : szStep x = szL (fun (s : ByteArray) => s.size) x.ins + szL (fun (_ : Bool) => 0) x.ticks := rfl
  have h0 := szL_sm (fun (s : ByteArray) => s.size) x.ins
  have h1 := szL_sm (fun (_ : Bool) => 0) x.ticks
  exact ⟨_, _, _, _, rfl, by omega, KS.of (by decide) r0 (fun i x u hx h => KStr.of h), by omega, KS.of (by decide) r1 (fun i x u hx h => KBool.of h)⟩
set_option maxHeartbeats 8000000 in
theorem markStepS_of (l : Nat) (v : Value) (w : World) (B E : Nat) (hl : l ≤ 1048576) (hK : KS 2 KStep w B E l v) (hN : NF B w) (V : World) (z : Int) (h0 : 0 ≤ z) (h1 : z ≤ 10000000000000000) (hM : MK B E w V) :
    Calls Tryz.prog 14 #[v, .int .i64 z] V fun e w' => (∃ z' : Int, e = .returned (.int .i64 z') ∧ 0 ≤ z' ∧ z' ≤ z + (l : Int) * 2097152) ∧ MK B E V w' := by
  obtain ⟨a, c, rfl, hw⟩ := hK
  have HM := hide hM
  have HW := hide hw
  clear hM hw
  go_enter Tryz.func14, Tryz.ntmps14
  go_wp2
  go_loopw [1, 5] (fun kv i wr => ∃ (j : Nat) (y : Int), j ≤ l ∧ i = .int .i64 j ∧ kv = .int .i64 y ∧ 0 ≤ y ∧ y ≤ z + (j : Int) * 2097152 ∧ MK B E V wr) (fun _ i _ => l - (intOf i).toNat)
  case atStart => exact ⟨0, z, Nat.zero_le _, rfl, rfl, h0, by omega, .refl _ _ _⟩
  case round =>
    obtain ⟨j, y, hj, rfl, rfl, y0, y1, hM⟩ := hrel
    by_cases hjl : j < l
    · obtain ⟨b, o, rfl, hB, hE, he⟩ := unhide HW (by omega)
      obtain ⟨u, hul, hat, x0, x1, l0, l1, rfl, hl0, hk0, hl1, hk1⟩ := he j hjl
      obtain ⟨a0, cc0, rfl, hw0⟩ := hk0
      obtain ⟨a1, cc1, rfl, hw1⟩ := hk1
      have HK0 := hide (show KS 1 KStr w B E l0 (.slice a0 l0 cc0) from ⟨a0, cc0, rfl, hw0⟩)
      have HK1 := hide (show KS 1 KBool w B E l1 (.slice a1 l1 cc1) from ⟨a1, cc1, rfl, hw1⟩)
      clear hw0 hw1
      obtain ⟨q0, c0, s0, f0⟩ := ((unhide HM).trans hM).cell hN (hat.get (j := 0) rfl) hB
      obtain rfl := s0.slice
      have HC1 : Hid (∀ V1, MK B E V V1 → V1.cell? ⟨b, o + j * 2 + 1, none⟩ = some (.slice a1 l1 cc1)) := hide (fun V1 h1 => by
        obtain ⟨q1, c1, s1, f1⟩ := ((unhide HM).trans h1).cell hN (hat.get (j := 1) rfl) hB
        obtain rfl := s1.slice
        exact c1)
      simp only [Nat.add_zero] at c0 f0
      have HM0 := hide hM
      have i1 : (j : Int) < (l : Int) := by omega
      clear he hat hul HW hM s0
      go_wp2_with fail
      refine (markStringS_of l0 _ w B E hl0 (unhide HK0) hN _ _ (by omega) (by omega) (MK.trans (unhide HM) (unhide HM0))).mono ?_
      rintro e V1 ⟨⟨z0, rfl, z00, z01⟩, hM1⟩
      have HM1 := hide (MK.trans (unhide HM0) hM1)
      have c1 := unhide HC1 V1 (unhide HM1)
      clear hM1 c0 f0
      go_wp2_with fail
      refine (markBoolS_of l1 _ w B E hl1 (unhide HK1) hN _ _ (by omega) (by omega) (MK.trans (unhide HM) (unhide HM1))).mono ?_
      rintro e V2 ⟨⟨z1, rfl, z10, z11⟩, hM2⟩
      have HM2 := hide (MK.trans (unhide HM1) hM2)
      clear hM2 c1
      go_wp2_with fail
      exact ⟨⟨j + 1, _, by omega, by go_num, rfl, by omega, by omega, unhide HM2⟩, by simp [intOf]; omega⟩
    · obtain rfl : j = l := by omega
      have HM0 := hide hM
      clear hM HW
      go_wp2
      go_ret
      exact ⟨⟨y, rfl, y0, by omega⟩, unhide HM0⟩
end Go.Proofs.YtdmmbhemmbgcpabGreat
