/- Rows in memory of one's own. -/
import Derived.Test.YtdmmbhemmbgcpabGreatGQ7b
import Derived.Test.YtdmmbhemmbgcpabGreatQ6
namespace Go.Proofs.YtdmmbhemmbgcpabGreat
open Go Go.RowKit Gs
set_option linter.unusedVariables false
set_option maxRecDepth 100000
def Bnd (v : Value) (E : Nat) : Prop := ∀ j, v.ownBlock = some j → j < E
/-- Rows whose strings lie in blocks from B up to E, each list's behind the one ahead of it. -/
inductive RowsO (W : World) : Nat → Nat → List (Value × Value × Value) → List Row → Prop where
  | nil (B : Nat) : RowsO W B B [] []
  | snoc {B E E1 E2 E3 : Nat} {us : List (Value × Value × Value)} {rs : List Row} {vo vc vr : Value} {r : Row} : RowsO W B E us rs → E ≤ E1 → E1 ≤ E2 → E2 ≤ E3 → OT E W vo r.outs → Bnd vo E1 → OT E1 W vc r.checks → Bnd vc E2 → OT E2 W vr r.regs → Bnd vr E3 → RowsO W B E3 (us ++ [(vo, vc, vr)]) (rs ++ [r])
theorem RowsO.le {W : World} {B E : Nat} {us : List (Value × Value × Value)} {rs : List Row} (h : RowsO W B E us rs) : B ≤ E := by
  induction h with
  | nil => exact Nat.le_refl _
  | snoc h h1 h2 h3 _ _ _ _ _ _ ih => omega
theorem RowsO.later {W W' : World} {B E : Nat} {us : List (Value × Value × Value)} {rs : List Row} (h : RowsO W B E us rs) (hb : Below W.heap.size W W') : RowsO W' B E us rs := by
  induction h with
  | nil => exact .nil _
  | snoc h h1 h2 h3 o1 b1 o2 b2 o3 b3 ih => exact .snoc ih h1 h2 h3 (o1.later hb) b1 (o2.later hb) b2 (o3.later hb) b3
theorem RowsO.fx {W W' : World} {B E q : Nat} {us : List (Value × Value × Value)} {rs : List Row} (h : RowsO W B E us rs) (hf : Fx q W W') (hq : q < B) : RowsO W' B E us rs := by
  induction h with
  | nil => exact .nil _
  | snoc h h1 h2 h3 o1 b1 o2 b2 o3 b3 ih =>
    have := h.le
    exact .snoc ih h1 h2 h3 (o1.fx hf (fun e => by have := o1.row _ e; omega)) b1 (o2.fx hf (fun e => by have := o2.row _ e; omega)) b2 (o3.fx hf (fun e => by have := o3.row _ e; omega)) b3
/-- A row's block is of the rows' type, not of strings. -/
theorem OT.ne_type {W : World} {B q : Nat} {v : Value} {xs : List ByteArray} (h : OT B W v xs) {cur : Array Value} {f : Nat × Nat} (hq : W.heap[q]? = some (.cells cur 71 f)) : v.ownBlock ≠ some q := by
  rcases h.1.2 with ⟨rfl, _⟩ | ⟨g, cap, cur', rfl, _, hg, _⟩
  · intro e; cases e
  · intro e
    injection e with e
    subst e
    rw [hq] at hg
    injection hg with hg
    injection hg with _ h2 _
    cases h2
theorem OT.grown {W W' : World} {B : Nat} {v : Value} {xs : List ByteArray} (h : OT B W v xs) {o : Option Nat} (hg : W.grownBy W' o) (hne : ∀ q, o = some q → v.ownBlock ≠ some q) : OT B W' v xs := by
  obtain ⟨⟨h1, h2 | ⟨g, cap, cur, hv, hb, hc, rest⟩⟩, h3⟩ := h
  · exact ⟨⟨h1, .inl h2⟩, h3⟩
  · refine ⟨⟨h1, .inr ⟨g, cap, cur, hv, hb, (hg.block g (Array.getElem?_eq_some_iff.1 hc).1 (fun e => hne g e.symm ?_)).trans hc, rest⟩⟩, h3⟩
    rw [hv]; rfl
theorem RowsO.grown {W W' : World} {B E : Nat} {us : List (Value × Value × Value)} {rs : List Row} (h : RowsO W B E us rs) {o : Option Nat} (hg : W.grownBy W' o) (ho : ∀ q, o = some q → ∃ cur f, W.heap[q]? = some (.cells cur 71 f)) : RowsO W' B E us rs := by
  induction h with
  | nil => exact .nil _
  | snoc h h1 h2 h3 o1 b1 o2 b2 o3 b3 ih =>
    have k : ∀ {B : Nat} {v : Value} {xs : List ByteArray}, OT B W v xs → OT B W' v xs := fun h => h.grown hg (fun q e => by
      obtain ⟨cur, f, hc⟩ := ho q e
      exact h.ne_type hc)
    exact .snoc ih h1 h2 h3 (k o1) b1 (k o2) b2 (k o3) b3
/-- The cells of rows. -/
def rcs (us : List (Value × Value × Value)) : List Value := us.flatMap (fun u => [u.1, u.2.1, u.2.2])
theorem rcs_append (us : List (Value × Value × Value)) (vo vc vr : Value) : rcs (us ++ [(vo, vc, vr)]) = rcs us ++ [vo, vc, vr] := by simp [rcs]
theorem info75 : (Tryz.prog.info? 71).map (fun i => (i.zero, i.size, i.bytes)) = some (some (.agg #[.slice none 0 0, .slice none 0 0, .slice none 0 0]), 3, 72) := by kernel_rfl
theorem own_type {W : World} {B n : Nat} {v : Value} {xs : List Value} (h : W.ownsRow B 71 3 v n xs) : ∀ q, v.ownBlock = some q → ∃ cur f, W.heap[q]? = some (.cells cur 71 f) := by
  rcases h.2 with ⟨rfl, _⟩ | ⟨g, cap, cur, rfl, _, hg, _⟩
  · intro q e; cases e
  · intro q e
    injection e with e
    subst e
    exact ⟨_, _, hg⟩
theorem own_fx {W W' : World} {B n q : Nat} {v : Value} {xs : List Value} (h : W.ownsRow B 71 3 v n xs) (hf : Fx q W W') (hq : q < B) : W'.ownsRow B 71 3 v n xs := by
  obtain ⟨h1, h2 | ⟨g, cap, cur, hv, hb, hc, rest⟩⟩ := h
  · exact ⟨h1, .inl h2⟩
  · exact ⟨h1, .inr ⟨g, cap, cur, hv, hb, (hf.block g (Array.getElem?_eq_some_iff.1 hc).1 (by omega)).trans hc, rest⟩⟩
theorem own_later {W W' : World} {B n : Nat} {v : Value} {xs : List Value} (h : W.ownsRow B 71 3 v n xs) (hb : Below W.heap.size W W') : W'.ownsRow B 71 3 v n xs := by
  obtain ⟨h1, h2 | ⟨g, cap, cur, hv, hg, hc, rest⟩⟩ := h
  · exact ⟨h1, .inl h2⟩
  · exact ⟨h1, .inr ⟨g, cap, cur, hv, hg, (hb.block g (Array.getElem?_eq_some_iff.1 hc).1).trans hc, rest⟩⟩
theorem newR (W : World) (x y z : Value) (g : Nat) (hg : g = W.heap.size) : ∀ j u, [x, y, z][j]? = some u → (W.alloc (.cells #[x, y, z] 71)).cell? ((⟨g, 0, none⟩ : Addr).add j) = some u := by
  intro j u h
  subst hg
  match j, h with
  | 0, h => simp at h; subst h; simp [Addr.add]
  | 1, h => simp at h; subst h; simp [Addr.add]
  | 2, h => simp at h; subst h; simp [Addr.add]
  | j + 3, h => simp at h
end Go.Proofs.YtdmmbhemmbgcpabGreat
namespace Go.Proofs.YtdmmbhemmbgcpabGreat
open Go Go.RowKit Gs
set_option linter.unusedVariables false
set_option linter.unusedSimpArgs false
set_option maxRecDepth 100000
theorem Ob.below {B b g Bq : Nat} {W W' : World} {u : List Value} {vs : List Bool} (h : Ob B W b g u vs) (hb : Below Bq W W') (h1 : b < Bq) (h2 : g < Bq) : Ob B W' b g u vs :=
  ⟨h.hb, h.hg, h.ne, Nat.lt_of_lt_of_le h.lt hb.size, fun j y hj => (hb.cell (p := ⟨b, 0 + j, none⟩) h1).trans (h.at_ j y hj), fun i x hx => ⟨(hb.cell (p := ⟨g, i, none⟩) h2).trans (h.vals i x hx).1, (hb.frozen (p := ⟨g, i, none⟩) h2).trans (h.vals i x hx).2⟩⟩
theorem Fx.grow {g : Nat} {W V V' : World} (h : Fx g W V) (hb : Below W.heap.size V V') : Fx g W V' :=
  ⟨hb.os.trans h.os, hb.tape.trans h.tape, hb.output.trans h.output, Nat.le_trans h.size hb.size, fun i hi hne => (hb.block i hi).trans (h.block i hi hne)⟩
theorem oneR (a b c : Option Addr) (l1 l2 l3 c1 c2 c3 : Nat) : ∀ u ∈ [Value.slice a l1 c1, .slice b l2 c2, .slice c l3 c3], u.oneCell' = true := by
  intro u hu; simp at hu; rcases hu with rfl | rfl | rfl <;> rfl
/-- What MapOK tells of a design. -/
structure MapFit (x : Mapped) : Prop where
  n0 : x.ins.length ≤ 2048
  n2 : x.regs.length ≤ 2048
  n3 : x.luts.length ≤ 1048576
  n4 : x.outs.length ≤ 1048576
  n5 : x.checks.length ≤ 1048576
  next : ∀ l ∈ x.regs, 0 ≤ l.src ∧ l.src < ((x.ins.length + x.regs.length + x.luts.length : Nat) : Int)
  init : ∀ l ∈ x.regs, l.init = 0 ∨ l.init = 1
  clock : ∀ l ∈ x.regs, 0 ≤ l.clock ∧ l.clock < (x.clocks.length : Int)
  luts : LO4 (x.ins.length + x.regs.length) x.luts
  outs : ∀ p ∈ x.outs, 0 ≤ p.src ∧ p.src < ((x.ins.length + x.regs.length + x.luts.length : Nat) : Int)
  checks : ∀ p ∈ x.checks, 0 ≤ p.src ∧ p.src < ((x.ins.length + x.regs.length + x.luts.length : Nat) : Int)
def StepFit (x : Mapped) (s : Step) : Prop := s.ins.length = x.ins.length ∧ s.ticks.length = x.clocks.length ∧ ∀ y ∈ s.ins, y = txt1 (bit1 y)
theorem regs_eq (pre st an : List Bool) (n : Nat) (hp : pre.length = n) : (List.range st.length).map (fun i => txt1 ((pre ++ (st ++ an)).getD (n + i) false)) = st.map txt1 := by
  apply List.ext_getElem?
  intro i
  by_cases hi : i < st.length
  · rw [List.getElem?_map, List.getElem?_map, List.getElem?_range hi, List.getElem?_eq_getElem hi]
    simp only [Option.map_some, List.getD_eq_getElem?_getD]
    rw [List.getElem?_append_right (by omega), hp, show n + i - n = i by omega, List.getElem?_append_left hi, List.getElem?_eq_getElem hi]
    rfl
  · rw [List.getElem?_eq_none (by simp; omega), List.getElem?_eq_none (by simp; omega)]
/-- One step: what the four functions make of the values, and the row. -/
theorem step_row (x : Mapped) (st : List Bool) (s : Step) (hst : st.length = x.regs.length) (hs : s.ins.length = x.ins.length) :
    (⟨x.outs.map (fun p => txt1 (srcV (lutsV (baseV (s.ins.map bit1) (stepV x st s)) x.luts) p.src)), x.checks.map (fun p => txt1 (srcV (lutsV (baseV (s.ins.map bit1) (stepV x st s)) x.luts) p.src)), (List.range x.regs.length).map (fun i => txt1 ((lutsV (baseV (s.ins.map bit1) (stepV x st s)) x.luts).getD (x.ins.length + i) false))⟩ : Row) = rowV x (lutsV (baseV (s.ins.map bit1) (stepV x st s)) x.luts) (stepV x st s) := by
  have hl := stepV_len x st s hst
  obtain ⟨r, hr⟩ := lutsV_pre x.luts (baseV (s.ins.map bit1) (stepV x st s))
  have := regs_eq (s.ins.map bit1) (stepV x st s) r (x.ins.length) (by simp [hs])
  unfold rowV
  rw [hl] at this
  have e : lutsV (baseV (s.ins.map bit1) (stepV x st s)) x.luts = s.ins.map bit1 ++ (stepV x st s ++ r) := by rw [hr]; unfold baseV; simp
  rw [e, this]
set_option maxHeartbeats 16000000 in
theorem iRunSteps {b g c0 c1 c2 c3 c4 c5 : Nat} {s0 s1 s2 s3 s4 s5 : Option Addr} {W0 W : World} (x : Mapped) (hx : MapFit x) (hr : RMapped W0 0 x [.slice s0 x.ins.length c0, .slice s1 x.clocks.length c1, .slice s2 x.regs.length c2, .slice s3 x.luts.length c3, .slice s4 x.outs.length c4, .slice s5 x.checks.length c5])
    (steps : List Step) (sv : Value) (hs : RS 2 RStep W0 0 steps sv) (hsl : steps.length ≤ 4096) (hfit : ∀ s ∈ steps, StepFit x s) (hB : Below W0.heap.size W0 W) (ins0 st0 an0 : List Bool) (hi0 : ins0.length = x.ins.length) (hst0 : st0.length = x.regs.length) (ha0 : an0.length = x.luts.length)
    (h : Ob W0.heap.size W b g [.slice s0 x.ins.length c0, .slice s1 x.clocks.length c1, .slice s2 x.regs.length c2, .slice s3 x.luts.length c3, .slice s4 x.outs.length c4, .slice s5 x.checks.length c5] (ins0 ++ (st0 ++ an0))) :
    Calls Tryz.prog 34 #[.iface 83 (.pointer (some ⟨b, 0, none⟩)), sv] W fun e w' => (∃ v us E, e = .returned v ∧ w'.ownsRow W.heap.size 71 3 v steps.length (rcs us) ∧ RowsO w' W.heap.size E us (rowsV x st0 steps) ∧ E ≤ w'.heap.size) ∧ Below W0.heap.size W0 w' ∧ Fx g W w' := by
  have hm1 : ∀ w, (method 286 83 (.pointer (some ⟨b, 0, none⟩)) "loop.example/g00031/impl.take").run Tryz.prog w = .ok (129, .pointer (some ⟨b, 0, none⟩)) w := fun _ => by kernel_rfl
  have hm2 : ∀ w, (method 286 83 (.pointer (some ⟨b, 0, none⟩)) "loop.example/g00031/impl.settle").run Tryz.prog w = .ok (128, .pointer (some ⟨b, 0, none⟩)) w := fun _ => by kernel_rfl
  have hm3 : ∀ w, (method 286 83 (.pointer (some ⟨b, 0, none⟩)) "loop.example/g00031/impl.tick").run Tryz.prog w = .ok (130, .pointer (some ⟨b, 0, none⟩)) w := fun _ => by kernel_rfl
  have hm4 : ∀ w, (method 286 83 (.pointer (some ⟨b, 0, none⟩)) "loop.example/g00031/impl.row").run Tryz.prog w = .ok (127, .pointer (some ⟨b, 0, none⟩)) w := fun _ => by kernel_rfl
  obtain ⟨w0, w1, w2, w3, w4, w5, hu, r0, r1, r2, r3, r4, r5⟩ := hr
  obtain ⟨rfl, rfl, rfl, rfl, rfl, rfl⟩ : w0 = _ ∧ w1 = _ ∧ w2 = _ ∧ w3 = _ ∧ w4 = _ ∧ w5 = _ := by simpa [eq_comm] using hu
  have hgs : g < W.heap.size := h.lt
  have hbs : b < W.heap.size := World.block_lt_of_cell? _ _ h.cells.1
  have hBs := hB.size
  obtain ⟨n0, n2, n3, n4, n5, hnext, hinit, hclock, hands, houts, hchecks⟩ := hx
  obtain ⟨a, c, rfl⟩ := hs.slice
  have HCS : Hid (∀ (i : Nat) s, steps[i]? = some s → ∃ b o vi vt, a = some ⟨b, o, none⟩ ∧ W0.cell? ⟨b, o + i * 2, none⟩ = some vi ∧ W0.cell? ⟨b, o + i * 2 + 1, none⟩ = some vt ∧ RS 1 RStr W0 0 s.ins vi ∧ RS 1 RBool W0 0 s.ticks vt) := hide (by
    intro i s hi
    rcases hs.open with ⟨rfl, _⟩ | ⟨b, o, c', hv, _, _, _, he⟩
    · simp at hi
    · injection hv with e1 e2 e3
      obtain ⟨u, hu, hat, vi, vt, hux, h1, h2⟩ := he i s hi
      subst hux
      exact ⟨b, o, vi, vt, e1, by simpa using hat.get (j := 0) rfl, by simpa using hat.get (j := 1) rfl, h1, h2⟩)
  clear hs hu
  obtain ⟨i0, hi, hz0, hz1, hz2⟩ := info_parts info75
  have HI := hide (And.intro hi (And.intro hz0 (And.intro hz1 hz2)))
  have HFT := hide hfit
  have HH := hide h
  have HB := hide hB
  have HR2 := hide r2
  have HR3 := hide r3
  have HR4 := hide r4
  have HR5 := hide r5
  clear hi hz0 hz1 hz2 hfit h hB r0 r1 r2 r3 r4 r5
  go_enter Tryz.func34, Tryz.ntmps34
  go_wp2_with fail
  go_loopw [5, 10] (fun v i wr => ∃ (k : Nat) (us : List (Value × Value × Value)) (E : Nat) (ins an : List Bool), k ≤ steps.length ∧ i = .int .i64 k ∧ wr.ownsRow W.heap.size 71 3 v k (rcs us) ∧ RowsO wr W.heap.size E us (rowsV x st0 (steps.take k)) ∧ E ≤ wr.heap.size ∧ ins.length = x.ins.length ∧ an.length = x.luts.length ∧ Ob W0.heap.size wr b g [.slice s0 x.ins.length c0, .slice s1 x.clocks.length c1, .slice s2 x.regs.length c2, .slice s3 x.luts.length c3, .slice s4 x.outs.length c4, .slice s5 x.checks.length c5] (ins ++ (statesV x st0 (steps.take k) ++ an)) ∧ Fx g W wr) (fun _ i wr => steps.length - (intOf i).toNat)
  case atStart => exact ⟨0, [], W.heap.size, ins0, an0, Nat.zero_le _, rfl, World.ownsRow_nil _ _ _ _, .nil _, Nat.le_refl _, hi0, ha0, unhide HH, Fx.refl _ _⟩
  case round =>
    obtain ⟨k, us, E, ins, an, hk, rfl, hown, hrows, hE, hil, hal, ho, hfx⟩ := hrel
    by_cases hlt : k < steps.length
    · have hsk : steps[k]? = some steps[k] := List.getElem?_eq_getElem hlt
      have hft := unhide HFT _ (List.getElem_mem hlt)
      generalize steps[k] = s at hsk hft
      obtain ⟨hf1, hf2, hf3⟩ := hft
      obtain ⟨bb, oo, vi, vt, rfl, hc0, hc1, hsi, hst⟩ := unhide HCS k s hsk
      obtain ⟨ai, ci, hvi⟩ := hsi.slice
      obtain ⟨ak, ct, hvt⟩ := hst.slice
      rw [hf1] at hvi
      rw [hf2] at hvt
      subst hvi hvt
      have hbw : Below W0.heap.size W0 wr := hfx.below (unhide HB) (unhide HH).hg (by omega)
      have k0 := cell_later hbw hc0
      have k1 := cell_later hbw hc1
      have hstl := statesV_len x (steps.take k) st0 hst0
      have hStep : rowsV x st0 (steps.take (k + 1)) = rowsV x st0 (steps.take k) ++ [rowV x (lutsV (baseV (s.ins.map bit1) (stepV x (statesV x st0 (steps.take k)) s)) x.luts) (stepV x (statesV x st0 (steps.take k)) s)] := by
        rw [List.take_add_one, hsk, Option.toList_some, rowsV_append]; rfl
      have hStates : statesV x st0 (steps.take (k + 1)) = stepV x (statesV x st0 (steps.take k)) s := by
        rw [List.take_add_one, hsk, Option.toList_some, statesV_append]; rfl
      have HSR := hide (step_row x (statesV x st0 (steps.take k)) s hstl hf1)
      rw [← hStates] at HSR hStep
      have hNext : stepV x (statesV x st0 (steps.take k)) s = nextV s.ticks (lutsV (baseV (s.ins.map bit1) (statesV x st0 (steps.take k))) x.luts) x.regs (statesV x st0 (steps.take k)) := rfl
      rw [← hStates] at hNext
      have hstl' := statesV_len x (steps.take (k + 1)) st0 hst0
      have HSTEP := hide hStep
      clear hStep hStates
      generalize statesV x st0 (steps.take k) = st at *
      generalize hste : statesV x st0 (steps.take (k + 1)) = st' at *
      have HSTE := hide hste
      clear hste
      obtain ⟨B1, hW1⟩ : ∃ B1, B1 = wr.alloc (.cells #[.slice ai x.ins.length ci, .slice ak x.clocks.length ct] 68) := ⟨_, rfl⟩
      have hbB : Below wr.heap.size wr B1 := by rw [hW1]; exact bal (brf wr) _
      have hgw := hfx.size
      have hbox1 : B1.cell? ⟨wr.heap.size, 1, none⟩ = some (.slice ak x.clocks.length ct) := by rw [hW1, World.cell?_alloc_new]; rfl
      have HTK := hide (iTake (ho.later hbB) s.ins _ hsi (hbw.trans (hbB.mono hbw.size)) rfl (by simp only [List.length_append]; omega) (by simp only [List.length_append]; omega) hf3)
      have HFX1 := hide (Fx.of (g := g) hbB)
      have HOWN := hide hown
      have HROWS := hide hrows
      have HFX := hide hfx
      have HBX := hide hbox1
      have HBW := hide hbw
      have HW1 := hide hW1
      have HST := hide hst
      clear hown hrows ho hfx hbw hc0 hc1 hsi hst HCS hsk hbB hW1
      go_wp2_with fail
      rw [← unhide HW1]
      refine (unhide HTK).mono ?_
      rintro e V1 ⟨rfl, ho1, hfx1⟩
      have hf01 := (unhide HFX1).trans hfx1
      have hdr : (ins ++ (st ++ an)).drop s.ins.length = st ++ an := by rw [hf1, ← hil, List.drop_left]
      rw [hdr] at ho1
      have ho1' : Ob W0.heap.size V1 b g [.slice s0 x.ins.length c0, .slice s1 x.clocks.length c1, .slice s2 x.regs.length c2, .slice s3 x.luts.length c3, .slice s4 x.outs.length c4, .slice s5 x.checks.length c5] (baseV (s.ins.map bit1) st ++ an) := by
        have e : baseV (s.ins.map bit1) st ++ an = s.ins.map bit1 ++ (st ++ an) := by unfold baseV; simp
        rw [e]; exact ho1
      have hbw1 : Below W0.heap.size W0 V1 := hf01.below (unhide HBW) (unhide HH).hg (by have := (unhide HBW).size; omega)
      have hbl1 : (baseV (s.ins.map bit1) st).length = x.ins.length + x.regs.length := by unfold baseV; simp [hf1]; try omega
      have HSE := hide (iSettle ho1' x.luts (unhide HR3) hbw1 (by omega) (by omega) n3 hbl1 hal (by rw [hbl1]; exact hands))
      have HBX1 := hide (hfx1.cell1 (b := wr.heap.size) (by omega) (unhide HBX))
      have HF01 := hide hf01
      have HBW1 := hide hbw1
      clear ho1 ho1' hfx1 hf01 hbw1 hdr HTK HFX1
      go_wp2_with fail
      refine (unhide HSE).mono ?_
      rintro e V2 ⟨rfl, ho2, hfx2⟩
      obtain ⟨rr, hrr⟩ := lutsV_pre x.luts (baseV (s.ins.map bit1) st)
      have hrl : rr.length = x.luts.length := by
        have := congrArg List.length hrr
        rw [lutsV_len, List.length_append] at this
        omega
      have hve : lutsV (baseV (s.ins.map bit1) st) x.luts = s.ins.map bit1 ++ (st ++ rr) := by rw [hrr]; unfold baseV; simp
      have hvl : (s.ins.map bit1 ++ (st ++ rr)).length = x.ins.length + x.regs.length + x.luts.length := by simp [hf1]; try omega
      have hf02 := (unhide HF01).trans hfx2
      have hbw2 : Below W0.heap.size W0 V2 := hf02.below (unhide HBW) (unhide HH).hg (by have := (unhide HBW).size; omega)
      rw [hve] at ho2
      have HTI := hide (iTick ho2 x.regs (unhide HR2) s.ticks _ (unhide HST) hbw2 (by omega) (by omega) (by simp [hf1]; try omega) hstl (by omega) (by rw [hvl]; exact hnext) (by rw [hf2]; exact hclock))
      rw [← hve, ← hNext] at HTI
      have kb := hfx2.cell1 (b := wr.heap.size) (by omega) (unhide HBX1)
      have HF02 := hide hf02
      clear ho2 hfx2 hf02 hbw2 HSE HF01 hve
      go_wp2_with fail
      refine (unhide HTI).mono ?_
      rintro e V3 ⟨rfl, ho3, hfx3⟩
      have hf03 := (unhide HF02).trans hfx3
      have hbw3 : Below W0.heap.size W0 V3 := hf03.below (unhide HBW) (unhide HH).hg (by have := (unhide HBW).size; omega)
      have ho3' : Ob W0.heap.size V3 b g [.slice s0 x.ins.length c0, .slice s1 x.clocks.length c1, .slice s2 x.regs.length c2, .slice s3 x.luts.length c3, .slice s4 x.outs.length c4, .slice s5 x.checks.length c5] (baseV (s.ins.map bit1) st' ++ rr) := by
        have e : baseV (s.ins.map bit1) st' ++ rr = s.ins.map bit1 ++ (st' ++ rr) := by unfold baseV; simp
        rw [e]; exact ho3
      have hbl3 : (baseV (s.ins.map bit1) st').length = x.ins.length + x.regs.length := by unfold baseV; simp [hf1]; try omega
      have HSE := hide (iSettle ho3' x.luts (unhide HR3) hbw3 (by omega) (by omega) n3 hbl3 hrl (by rw [hbl3]; exact hands))
      have HF03 := hide hf03
      clear ho3 ho3' hfx3 hf03 hbw3 HTI HF02 kb
      go_wp2_with fail
      refine (unhide HSE).mono ?_
      rintro e V4 ⟨rfl, ho4, hfx4⟩
      have hf04 := (unhide HF03).trans hfx4
      have hbw4 : Below W0.heap.size W0 V4 := hf04.below (unhide HBW) (unhide HH).hg (by have := (unhide HBW).size; omega)
      have hvl4 : (lutsV (baseV (s.ins.map bit1) st') x.luts).length = x.ins.length + x.regs.length + x.luts.length := by rw [lutsV_len, hbl3]
      have HRO := hide (iRow ho4 x.outs x.checks (unhide HR4) (unhide HR5) hbw4 (by omega) (by omega) n4 n5 (by omega) (by omega) (by rw [hvl4]; exact houts) (by rw [hvl4]; exact hchecks))
      obtain ⟨rr4, hrr4⟩ := lutsV_pre x.luts (baseV (s.ins.map bit1) st')
      have hrl4 : rr4.length = x.luts.length := by
        have := congrArg List.length hrr4
        rw [lutsV_len, List.length_append] at this
        omega
      have hve4 : lutsV (baseV (s.ins.map bit1) st') x.luts = s.ins.map bit1 ++ (st' ++ rr4) := by rw [hrr4]; unfold baseV; simp
      have HO4 := hide ho4
      have HF04 := hide hf04
      clear ho4 hfx4 hf04 hbw4 HSE HF03
      go_wp2_with fail
      refine (unhide HRO).mono ?_
      rintro e V5 ⟨⟨vo, vc, vr, E1, E2, rfl, hE1, hE2, o1, b1, o2, b2, o3, hE3⟩, hb5⟩
      have hf05 := (unhide HF04).trans (Fx.of (g := g) hb5)
      have hgz : W.heap.size ≤ wr.heap.size := hgw
      have hz04 := (unhide HF04).size
      have hz5 := hb5.size
      have hown5 := own_fx (unhide HOWN) hf05 hgs
      have hrows5 := (unhide HROWS).fx hf05 hgs
      have hbnd3 : Bnd vr V5.heap.size := fun j hj => (World.ownsRow.lt o3.1 j hj).2
      have hrow := RowsO.snoc (r := ⟨x.outs.map (fun p => txt1 (srcV (lutsV (baseV (s.ins.map bit1) st') x.luts) p.src)), x.checks.map (fun p => txt1 (srcV (lutsV (baseV (s.ins.map bit1) st') x.luts) p.src)), (List.range x.regs.length).map (fun i => txt1 ((lutsV (baseV (s.ins.map bit1) st') x.luts).getD (x.ins.length + i) false))⟩) hrows5 (by omega : E ≤ E1) hE2 hE3 (o1.low (by omega)) b1 o2 b2 o3 hbnd3
      rw [unhide HSR, ← unhide HSTEP] at hrow
      obtain ⟨a1, m1, d1, rfl⟩ := o1.shape
      obtain ⟨a2, m2, d2, rfl⟩ := o2.shape
      obtain ⟨a3, m3, d3, rfl⟩ := o3.shape
      have HROW := hide (hrow.later (bal (brf V5) (.cells #[.slice a1 m1 d1, .slice a2 m2 d2, .slice a3 m3 d3] 71)))
      have HOWN5 := hide (own_later hown5 (bal (brf V5) (.cells #[.slice a1 m1 d1, .slice a2 m2 d2, .slice a3 m3 d3] 71)))
      have HOB5 := hide (((unhide HO4).later hb5).later (bal (brf V5) (.cells #[.slice a1 m1 d1, .slice a2 m2 d2, .slice a3 m3 d3] 71)))
      have HF5 := hide (((unhide HFX).trans hf05).trans (Fx.of (g := g) (bal (brf V5) (.cells #[.slice a1 m1 d1, .slice a2 m2 d2, .slice a3 m3 d3] 71))))
      have HSZ5 := hide (show W.heap.size ≤ V5.heap.size by have := hf05.size; omega)
      clear hrow hown5 hrows5 o1 o2 o3 b1 b2 hbnd3 hf05 hb5 HRO HO4 hE1 hE2 hE3 hz5 HF04 HROWS HOWN
      go_wp2_with (first
        | (at_builtin; refine wpList_append_own _ rfl _ _ 30 rfl W.heap.size 71 i0 (.agg #[.slice none 0 0, .slice none 0 0, .slice none 0 0]) 3 72 Tryz.underlying30 (unhide HI).1 (unhide HI).2.1 (unhide HI).2.2.1 (unhide HI).2.2.2 rfl (by decide) _ _ _ rfl (unhide HOWN5) ⟨V5.heap.size, 0, none⟩ 1 1 [.slice a1 m1 d1, .slice a2 m2 d2, .slice a3 m3 d3] rfl rfl (newR _ _ _ _ _ rfl) (oneR _ _ _ _ _ _ _ _ _) (by unfold maxLen; omega) (by omega) (by have := unhide HSZ5; simp; omega) ?_; intro v' w2 hown' hgrow _)
        | go_in)
      have hlow := below_grown (Below.refl W.heap.size (V5.alloc (.cells #[.slice a1 m1 d1, .slice a2 m2 d2, .slice a3 m3 d3] 71))) hgrow (by have := unhide HSZ5; simp; omega) (fun j hj => (World.ownsRow.lt (unhide HOWN5) j hj).1)
      have HR : Hid (w2.ownsRow W.heap.size 71 3 v' (k + 1) (rcs (us ++ [(.slice a1 m1 d1, .slice a2 m2 d2, .slice a3 m3 d3)])) ∧ RowsO w2 W.heap.size V5.heap.size (us ++ [(.slice a1 m1 d1, .slice a2 m2 d2, .slice a3 m3 d3)]) (rowsV x st0 (steps.take (k + 1))) ∧ V5.heap.size ≤ w2.heap.size ∧ Ob W0.heap.size w2 b g [.slice s0 x.ins.length c0, .slice s1 x.clocks.length c1, .slice s2 x.regs.length c2, .slice s3 x.luts.length c3, .slice s4 x.outs.length c4, .slice s5 x.checks.length c5] (s.ins.map bit1 ++ (st' ++ rr4)) ∧ Fx g W w2) := hide (by
        refine ⟨by rw [rcs_append]; exact hown', (unhide HROW).grown hgrow (own_type (unhide HOWN5)), ?_, ?_, (unhide HF5).grow hlow⟩
        · have := hgrow.size; simp at this; omega
        · rw [← hve4]; exact (unhide HOB5).below hlow hbs hgs)
      clear hown' hgrow hlow
      go_roundw
      case rel => exact ⟨k + 1, _, _, s.ins.map bit1, rr4, by omega, by go_num, (unhide HR).1, (unhide HR).2.1, (unhide HR).2.2.1, by rw [List.length_map]; exact hf1, hrl4, by rw [unhide HSTE]; exact (unhide HR).2.2.2.1, (unhide HR).2.2.2.2⟩
      case measure => simp [intOf]; omega
    · obtain rfl : k = steps.length := by omega
      rw [List.take_of_length_le (Nat.le_refl _)] at hrows
      have HOWN := hide hown
      have HROWS := hide hrows
      have HFX := hide hfx
      have HBW := hide (hfx.below (unhide HB) (unhide HH).hg (by omega))
      clear hown hrows ho hfx HCS
      go_wp2
      exact bodyPost_ret (v := u5) (by simp [results, Tryz.results34, go_sem]) rfl ⟨⟨_, us, E, rfl, unhide HOWN, unhide HROWS, hE⟩, unhide HBW, unhide HFX⟩
end Go.Proofs.YtdmmbhemmbgcpabGreat
