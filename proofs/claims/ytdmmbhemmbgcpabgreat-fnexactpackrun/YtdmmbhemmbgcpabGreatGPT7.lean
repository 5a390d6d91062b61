/- The specification's PackRun: the loop of the outs. -/
import Derived.Test.YtdmmbhemmbgcpabGreatPT3b
namespace Go.Proofs.YtdmmbhemmbgcpabGreat
open Go Go.RowKit Gs
set_option linter.unusedVariables false
set_option linter.unusedSimpArgs false
set_option maxRecDepth 100000
/-- All blocks but two are as they were. -/
structure F2x (g q : Nat) (W V : World) : Prop where
  os : V.os = W.os
  tape : V.tape = W.tape
  output : V.output = W.output
  size : W.heap.size ≤ V.heap.size
  block : ∀ k, k < W.heap.size → k ≠ g → k ≠ q → V.heap[k]? = W.heap[k]?
theorem F2x.refl (g q : Nat) (W : World) : F2x g q W W := ⟨rfl, rfl, rfl, Nat.le_refl _, fun _ _ _ _ => rfl⟩
theorem F2x.trans {g q : Nat} {a b c : World} (h : F2x g q a b) (k : F2x g q b c) : F2x g q a c :=
  ⟨k.os.trans h.os, k.tape.trans h.tape, k.output.trans h.output, Nat.le_trans h.size k.size, fun i hi h1 h2 => (k.block i (Nat.lt_of_lt_of_le hi h.size) h1 h2).trans (h.block i hi h1 h2)⟩
theorem F2x.of {g q : Nat} {W V : World} (h : Below W.heap.size W V) : F2x g q W V := ⟨h.os, h.tape, h.output, h.size, fun k hk _ _ => h.block k hk⟩
theorem F2x.below {g q B : Nat} {W V : World} (h : F2x g q W V) (hg : B ≤ g) (hq : B ≤ q) (hB : B ≤ W.heap.size) : Below B W V :=
  ⟨h.os, h.tape, h.output, h.size, fun k hk => h.block k (by omega) (by omega) (by omega)⟩
theorem F2x.step {g q j : Nat} {W wr V0 V' V : World} {tv v : Value} (h : F2x g q W wr) (h0 : Fx g wr V0) (hg : V0.grownBy V' tv.ownBlock) (ht : ∀ b, tv.ownBlock = some b → W.heap.size ≤ b) (hV : V = V'.setCell ⟨q, j, none⟩ v) : F2x g q W V := by
  have hs := Fx.set q j V' v
  subst hV
  have s1 := h.size; have s2 := h0.size; have s3 := hg.size
  exact ⟨hs.os.trans (hg.os.trans (h0.os.trans h.os)), hs.tape.trans (hg.tape.trans (h0.tape.trans h.tape)), hs.output.trans (hg.output.trans (h0.output.trans h.output)), by have := hs.size; omega, fun k hk h1 h2 =>
    (hs.block k (by omega) h2).trans ((hg.block k (by omega) (fun e => by have := ht k e.symm; omega)).trans ((h0.block k (by omega) h1).trans (h.block k hk h1 h2)))⟩
theorem SE.row {w W wr V0 V' V : World} {g q N j : Nat} {x : Packed} {ins st : List Bool} {vi vs tv v : Value} (h : SE w g N x ins st vi vs V0) (hg : V0.grownBy V' tv.ownBlock) (ht : ∀ b, tv.ownBlock = some b → W.heap.size ≤ b) (hq : g < q ∧ q < W.heap.size) (hi : ∀ j, vi.ownBlock = some j → j < g) (hs : ∀ j, vs.ownBlock = some j → j < g) (hV : V = V'.setCell ⟨q, j, none⟩ v) (hsz : q < V0.heap.size) : SE w g N x ins st vi vs V := by
  have hb : Below q V0 V := by
    subst hV
    have hb0 : Below q V0 V' := ⟨hg.os, hg.tape, hg.output, hg.size, fun k hk => hg.block k (by omega) (fun e => by have := ht k e.symm; omega)⟩
    exact hb0.setCell (Nat.le_refl q) v
  exact h.under hb hq.1 (fun j hj => by have := hi j hj; omega) (fun j hj => by have := hs j hj; omega)
theorem RC.row {W wr V0 V' V : World} {g q j : Nat} {tv v tv0 : Value} (hc : RC wr q j tv0) (hoth : ∀ i y, i ≠ j → RC W q i y → RC wr q i y) (h0 : Fx g wr V0) (hg : V0.grownBy V' tv.ownBlock) (ht : ∀ b, tv.ownBlock = some b → W.heap.size ≤ b) (hq : g < q ∧ q < W.heap.size) (hV : V = V'.setCell ⟨q, j, none⟩ v) : RC V q j v ∧ (∀ i y, i ≠ j → RC W q i y → RC V q i y) := by
  have hlt := World.block_lt_of_cell? _ _ hc.1
  have e : V'.heap[q]? = wr.heap[q]? := (hg.block q (by have := h0.size; show q < _; have : q < wr.heap.size := hlt; omega) (fun e => by have := ht q e.symm; omega)).trans (h0.block q hlt (by omega))
  have ec := fun i => (heap_cell (o := i) e)
  subst hV
  refine ⟨⟨sameCell _ _ _ _ ((ec j).1.trans hc.1), by rw [frozSet]; exact (ec j).2.trans hc.2⟩, fun i y hne hy => ?_⟩
  have := hoth i y hne hy
  exact ⟨otherCell _ _ _ _ ((ec i).1.trans this.1) (.inr hne), by rw [frozSet]; exact (ec i).2.trans this.2⟩
theorem port_cell {w : World} {ps : List Port} {s : Option Addr} {l c : Nat} (h : RS 2 RPort w 0 ps (.slice s l c)) {k : Nat} {p : Port} (hk : ps[k]? = some p) : ∃ b o, s = some ⟨b, o, none⟩ ∧ w.cell? ⟨b, o + k * 2 + 1, none⟩ = some (.int .i64 p.src) := by
  rcases h.open with ⟨rfl, _⟩ | ⟨b, o, c', hv, hcc, hnm, _, hcs⟩
  · simp at hk
  injection hv with e1 e2 e3
  obtain ⟨u, hul, hat, hu, _⟩ := hcs k p hk
  subst hu
  exact ⟨b, o, e1, hat.get (j := 1) rfl⟩
theorem rs_cap {α : Type} {R : Rd α} {k B : Nat} {W : World} {xs : List α} {s : Option Addr} {l c : Nat} (h : RS k R W B xs (.slice s l c)) : l ≤ c := by
  obtain ⟨a, c', hv, h1, _⟩ := h
  injection hv with e1 e2 e3
  omega
set_option maxHeartbeats 32000000 in
theorem prL6 {u0 u1 u3 u4 u5 u6 u7 u9 u10 u11 u12 u14 u16 u17 u20 u21 u22 u23 u24 u25 u26 u27 u28 u29 u30 u31 u32 u33 u34 u35 u36 u37 u38 u39 u40 u41 u42 u43 u44 u45 u46 u47 u48 u49 u50 u51 u52 u53 u54 u55 u56 u57 u58 u59 u60 u61 u62 u63 u64 u65 u66 u67 u68 u69 u70 u71 u72 u73 u74 u75 u76 u77 u78 u79 u80 u81 u82 u83 u84 u85 u86 u87 u88 u89 u90 u91 u92 u93 u94 u95 u96 u97 u98 u99 u100 u101 u102 u103 u104 u105 u106 u107 u108 u109 u110 u111 u112 u113 u114 u115 u116 u117 u118 u119 u120 u121 u122 u123 u124 u125 u126 u127 u128 u129 u130 u131 u132 u133 u134 u135 u136 u137 u138 u139 u140 u141 u142 u143 u144 u145 u146 u147 u148 u149 u150 u151 u152 u153 u154 u155 u156 u157 u158 u159 u160 u161 u162 u163 u164 u165 u166 u167 u168 u169 u170 u171 u172 u173 u174 u175 u176 u177 u178 u179 u180 u181 u182 u183 u184 u185 u186 u187 u188 u189 u190 u191 u192 u193 u194 u195 u196 u197 u198 u199 u200 u201 u202 u203 u204 u205 u206 u207 u208 u209 u210 u211 u212 u213 u214 u215 u216 u217 u218 u219 u220 u221 u222 u223 u224 u225 u226 u227 : Value} {s0 s1 s2 s3 s4 : Option Addr} {l0 c0 l1 c1 l2 c2 l3 c3 l4 c4 : Nat} {q pb g N li ci ls cs : Nat} {ai az : Option Addr} {x : Packed} {ins st : List Bool} {ps : List Port} {w W : World} {Q : Exit → Act → World → Prop} (hnb : ps.length ≤ 1048576) (HRP : Hid (RS 2 RPort w 0 ps (.slice s3 l3 c3))) (HPS : Hid (∀ p ∈ ps, 0 ≤ p.src ∧ p.src < (N : Int))) (HSE : Hid (SE w g N x ins st (.slice ai li ci) (.slice az ls cs) W)) (HCON : Hid (∀ y : Int, 0 ≤ y → y < (N : Int) → ∀ V, SE w g N x ins st (.slice ai li ci) (.slice az ls cs) V → Calls Tryz.prog 26 #[.agg #[.slice s0 l0 c0, .slice s1 l1 c1, .slice s2 l2 c2, .slice s3 l3 c3, .slice s4 l4 c4], .int .i64 y, .slice ai li ci, .slice az ls cs, .slice (some ⟨g, 0, none⟩) N N] V fun e w' => e = .returned (.int .i64 (b2i (valP x.blocks ins st y))) ∧ SE w g N x ins st (.slice ai li ci) (.slice az ls cs) w' ∧ Fx g V w'))
    (HBX : Hid (∀ V, Below g W V → V.cell? ⟨pb, 0, none⟩ = some (.slice s0 l0 c0) ∧ V.cell? ⟨pb, 1, none⟩ = some (.slice s1 l1 c1) ∧ V.cell? ⟨pb, 2, none⟩ = some (.slice s2 l2 c2) ∧ V.cell? ⟨pb, 3, none⟩ = some (.slice s3 l3 c3) ∧ V.cell? ⟨pb, 4, none⟩ = some (.slice s4 l4 c4))) (hgq : g < q ∧ q < W.heap.size) (HOI : Hid (∀ j, (.slice ai li ci : Value).ownBlock = some j → j < g)) (HOS : Hid (∀ j, (.slice az ls cs : Value).ownBlock = some j → j < g)) (HC : Hid (RC W q 0 (.slice none 0 0)))
    (hQ : ∀ (z19 z152 z153 z154 z155 z156 z157 z158 z159 z160 z161 z162 z163 z164 z165 z166 z167 z168 z169 z170 z171 z172 z173 z174 z175 : Value) V v, OT W.heap.size V v (ps.map (fun p : Port => txt1 (valP x.blocks ins st p.src))) → SE w g N x ins st (.slice ai li ci) (.slice az ls cs) V → F2x g q W V → RC V q 0 v → (∀ i y, i ≠ 0 → RC W q i y → RC V q i y) → Q (.exit 10) { tmps := (u0 :: u1 :: .pointer (some ⟨pb, 0, none⟩) :: u3 :: u4 :: u5 :: u6 :: u7 :: .slice az ls cs :: u9 :: u10 :: u11 :: u12 :: .slice ai li ci :: u14 :: .slice (some ⟨g, 0, none⟩) N N :: u16 :: u17 :: .pointer (some ⟨q, 0, none⟩) :: z19 :: u20 :: u21 :: u22 :: u23 :: u24 :: u25 :: u26 :: u27 :: u28 :: u29 :: u30 :: u31 :: u32 :: u33 :: u34 :: u35 :: u36 :: u37 :: u38 :: u39 :: u40 :: u41 :: u42 :: u43 :: u44 :: u45 :: u46 :: u47 :: u48 :: u49 :: u50 :: u51 :: u52 :: u53 :: u54 :: u55 :: u56 :: u57 :: u58 :: u59 :: u60 :: u61 :: u62 :: u63 :: u64 :: u65 :: u66 :: u67 :: u68 :: u69 :: u70 :: u71 :: u72 :: u73 :: u74 :: u75 :: u76 :: u77 :: u78 :: u79 :: u80 :: u81 :: u82 :: u83 :: u84 :: u85 :: u86 :: u87 :: u88 :: u89 :: u90 :: u91 :: u92 :: u93 :: u94 :: u95 :: u96 :: u97 :: u98 :: u99 :: u100 :: u101 :: u102 :: u103 :: u104 :: u105 :: u106 :: u107 :: u108 :: u109 :: u110 :: u111 :: u112 :: u113 :: u114 :: u115 :: u116 :: u117 :: u118 :: u119 :: u120 :: u121 :: u122 :: u123 :: u124 :: u125 :: u126 :: u127 :: u128 :: u129 :: u130 :: u131 :: u132 :: u133 :: u134 :: u135 :: u136 :: u137 :: u138 :: u139 :: u140 :: u141 :: u142 :: u143 :: u144 :: u145 :: u146 :: u147 :: u148 :: u149 :: u150 :: u151 :: z152 :: z153 :: z154 :: z155 :: z156 :: z157 :: z158 :: z159 :: z160 :: z161 :: z162 :: z163 :: z164 :: z165 :: z166 :: z167 :: z168 :: z169 :: z170 :: z171 :: z172 :: z173 :: z174 :: z175 :: u176 :: u177 :: u178 :: u179 :: u180 :: u181 :: u182 :: u183 :: u184 :: u185 :: u186 :: u187 :: u188 :: u189 :: u190 :: u191 :: u192 :: u193 :: u194 :: u195 :: u196 :: u197 :: u198 :: u199 :: u200 :: u201 :: u202 :: u203 :: u204 :: u205 :: u206 :: u207 :: u208 :: u209 :: u210 :: u211 :: u212 :: u213 :: u214 :: u215 :: u216 :: u217 :: u218 :: u219 :: u220 :: u221 :: u222 :: u223 :: u224 :: u225 :: u226 :: u227 :: []).toArray, defers := [] } V) :
    Code.wp Tryz.prog (atB 10 (bodyOf Tryz.f6)) Q { tmps := (u0 :: u1 :: .pointer (some ⟨pb, 0, none⟩) :: u3 :: u4 :: u5 :: u6 :: u7 :: .slice az ls cs :: u9 :: u10 :: u11 :: u12 :: .slice ai li ci :: u14 :: .slice (some ⟨g, 0, none⟩) N N :: u16 :: u17 :: .pointer (some ⟨q, 0, none⟩) :: .int .i64 0 :: u20 :: u21 :: u22 :: u23 :: u24 :: u25 :: u26 :: u27 :: u28 :: u29 :: u30 :: u31 :: u32 :: u33 :: u34 :: u35 :: u36 :: u37 :: u38 :: u39 :: u40 :: u41 :: u42 :: u43 :: u44 :: u45 :: u46 :: u47 :: u48 :: u49 :: u50 :: u51 :: u52 :: u53 :: u54 :: u55 :: u56 :: u57 :: u58 :: u59 :: u60 :: u61 :: u62 :: u63 :: u64 :: u65 :: u66 :: u67 :: u68 :: u69 :: u70 :: u71 :: u72 :: u73 :: u74 :: u75 :: u76 :: u77 :: u78 :: u79 :: u80 :: u81 :: u82 :: u83 :: u84 :: u85 :: u86 :: u87 :: u88 :: u89 :: u90 :: u91 :: u92 :: u93 :: u94 :: u95 :: u96 :: u97 :: u98 :: u99 :: u100 :: u101 :: u102 :: u103 :: u104 :: u105 :: u106 :: u107 :: u108 :: u109 :: u110 :: u111 :: u112 :: u113 :: u114 :: u115 :: u116 :: u117 :: u118 :: u119 :: u120 :: u121 :: u122 :: u123 :: u124 :: u125 :: u126 :: u127 :: u128 :: u129 :: u130 :: u131 :: u132 :: u133 :: u134 :: u135 :: u136 :: u137 :: u138 :: u139 :: u140 :: u141 :: u142 :: u143 :: u144 :: u145 :: u146 :: u147 :: u148 :: u149 :: u150 :: u151 :: u152 :: u153 :: u154 :: u155 :: u156 :: u157 :: u158 :: u159 :: u160 :: u161 :: u162 :: u163 :: u164 :: u165 :: u166 :: u167 :: u168 :: u169 :: u170 :: u171 :: u172 :: u173 :: u174 :: u175 :: u176 :: u177 :: u178 :: u179 :: u180 :: u181 :: u182 :: u183 :: u184 :: u185 :: u186 :: u187 :: u188 :: u189 :: u190 :: u191 :: u192 :: u193 :: u194 :: u195 :: u196 :: u197 :: u198 :: u199 :: u200 :: u201 :: u202 :: u203 :: u204 :: u205 :: u206 :: u207 :: u208 :: u209 :: u210 :: u211 :: u212 :: u213 :: u214 :: u215 :: u216 :: u217 :: u218 :: u219 :: u220 :: u221 :: u222 :: u223 :: u224 :: u225 :: u226 :: u227 :: []).toArray, defers := [] } W := by
  have hlp : l3 = ps.length := by
    obtain ⟨a, c, hv, _⟩ := unhide HRP
    injection hv with e1 e2 e3
  have HLP := hide hlp
  have HQ := hide hQ
  clear hQ hlp
  conv => arg 2; whnf
  go_loopw [19] (fun i wr => ∃ (k : Nat) (tv : Value), k ≤ l3 ∧ i = .int .i64 k ∧ OT W.heap.size wr tv ((ps.take k).map (fun p : Port => txt1 (valP x.blocks ins st p.src))) ∧ SE w g N x ins st (.slice ai li ci) (.slice az ls cs) wr ∧ F2x g q W wr ∧ RC wr q 0 tv ∧ (∀ i y, i ≠ 0 → RC W q i y → RC wr q i y)) (fun i wr => l3 - (intOf i).toNat)
  case atStart => exact ⟨0, _, Nat.zero_le _, rfl, OT_nil _ _, unhide HSE, F2x.refl _ _ _, unhide HC, fun _ _ _ h => h⟩
  case round =>
    obtain ⟨k, tv, hk, rfl, hot, hse, hfx, hcj, hoth⟩ := hrel
    have hbg : Below g W wr := hfx.below (Nat.le_refl _) (by omega) (by omega)
    obtain ⟨q0, q1, q2, q3, q4⟩ := unhide HBX wr hbg
    by_cases hlt : k < l3
    · have hx : ps[k]? = some (ps[k]'(by have := unhide HLP; omega)) := List.getElem?_eq_getElem _
      have hmem := List.getElem_mem (by have := unhide HLP; omega : k < ps.length)
      generalize ps[k]'(by have := unhide HLP; omega) = p at hx hmem
      obtain ⟨ab, ao, hs, hc⟩ := port_cell (unhide HRP) hx
      have hcs : l3 ≤ c3 := rs_cap (unhide HRP)
      obtain ⟨hl1, hl2⟩ := unhide HPS p hmem
      have HVY := hide (unhide HCON p.src hl1 hl2)
      have HPC : Hid (∀ U, Fx g wr U → U.cell? ⟨pb, 0, none⟩ = some (.slice s0 l0 c0) ∧ U.cell? ⟨pb, 1, none⟩ = some (.slice s1 l1 c1) ∧ U.cell? ⟨pb, 2, none⟩ = some (.slice s2 l2 c2) ∧ U.cell? ⟨pb, 3, none⟩ = some (.slice s3 l3 c3) ∧ U.cell? ⟨pb, 4, none⟩ = some (.slice s4 l4 c4) ∧ U.cell? ⟨ab, ao + k * 2 + 1, none⟩ = some (.int .i64 p.src)) := hide (fun U hU => by
        have hb : Below g wr U := hU.belowg (by have := hse.lt; omega)
        obtain ⟨y0, y1, y2, y3, y4⟩ := unhide HBX U (hbg.trans hb)
        exact ⟨y0, y1, y2, y3, y4, cell_later (hse.below.trans (hb.mono hse.hg)) hc⟩)
      have HST := hide (show (ps.take (k + 1)).map (fun p : Port => txt1 (valP x.blocks ins st p.src)) = (ps.take k).map (fun p : Port => txt1 (valP x.blocks ins st p.src)) ++ [txt1 (valP x.blocks ins st p.src)] by rw [List.take_add_one, hx, List.map_append]; rfl)
      have HAL := hide (show ((ps.take k).map (fun p : Port => txt1 (valP x.blocks ins st p.src))).length ≤ 1048576 by rw [List.length_map, List.length_take]; omega)
      have HOT := hide hot
      have HFX := hide hfx
      have HCJ := hide hcj
      have HOTH := hide hoth
      have HSR := hide hse
      have HWS := hide hfx.size
      have HL1 : Hid (l3 ≤ 1048576) := hide (by have := unhide HLP; omega)
      have HTR : Hid (∀ b, tv.ownBlock = some b → W.heap.size ≤ b) := hide (fun b hb => hot.row b hb)
      have hL1 : l3 ≤ 1048576 := unhide HL1
      have i1 : (k : Int) < (l3 : Int) := by omega
      clear hot hfx hcj hoth hse hbg hc hx hmem hl1 hl2 HCON HRP HPS HSE
      subst hs
      generalize p.src = z at *
      generalize (ps.take k).map (fun p : Port => txt1 (valP x.blocks ins st p.src)) = acc at *
      generalize valP x.blocks ins st z = A at *
      go_wp2_with fail
      refine prOuts (x := x) (ins := ins) (st := st) (w := w) (B := W.heap.size) (ab := ab) (ao := ao) (al := l3) (ac := c3) (acc := acc) (tv := tv) (A := A) (y := z) (pb := pb) (q := q) (g := g) (N := N) (k := k) HOT HAL HWS (hide hgq) (hide (unhide HCJ).1) (hide (unhide HCJ).2) hlt (unhide HL1) HPC ⟨rfl, rfl, rfl⟩ HSR HVY _ rfl rfl rfl rfl rfl rfl rfl ?_
      intro a V V' v hnt hdf hkeep hA hV
      obtain ⟨hot', V0, ⟨hse0, hfx0⟩, hgr⟩ := hA
      obtain ⟨us, rfl, hus⟩ := putAll_of [159, 160, 161, 162, 163, 164, 165, 166, 167, 168, 169, 170, 171, 172, 173, 174, 175] hnt hdf hkeep
      have hsz0 : q < V0.heap.size := by have := (unhide HWS); have := hfx0.size; omega
      have HS2 := hide (hse0.row (W := W) (wr := wr) hgr (unhide HTR) hgq (unhide HOI) (unhide HOS) hV hsz0)
      have HF2 := hide ((unhide HFX).step hfx0 hgr (unhide HTR) hV)
      have HR2 := hide (RC.row (W := W) (unhide HCJ) (unhide HOTH) hfx0 hgr (unhide HTR) hgq hV)
      have HO2 : Hid (OT W.heap.size V v (acc ++ [txt1 A])) := hide (by
        rw [hV]
        exact hot'.fx (Fx.set q 0 V' v) (fun e => by have := hot'.row _ e; omega))
      clear hnt hdf hkeep hus hot' hse0 hfx0 hgr hV q0 q1 q2 q3 q4 HOT HFX HCJ HOTH HSR HVY HPC
      simp only [putAll, List.foldl, Act.put, List.setIfInBounds_toArray, List.set_cons_zero, List.set_cons_succ]
      generalize us 159 = z159 at *
      generalize us 160 = z160 at *
      generalize us 161 = z161 at *
      generalize us 162 = z162 at *
      generalize us 163 = z163 at *
      generalize us 164 = z164 at *
      generalize us 165 = z165 at *
      generalize us 166 = z166 at *
      generalize us 167 = z167 at *
      generalize us 168 = z168 at *
      generalize us 169 = z169 at *
      generalize us 170 = z170 at *
      generalize us 171 = z171 at *
      generalize us 172 = z172 at *
      generalize us 173 = z173 at *
      generalize us 174 = z174 at *
      generalize us 175 = z175 at *
      go_wp2_with fail
      go_roundw
      case rel => exact ⟨k + 1, v, by omega, by go_num, by rw [unhide HST]; exact unhide HO2, unhide HS2, unhide HF2, (unhide HR2).1, (unhide HR2).2⟩
      case measure => simp [intOf]; omega
    · obtain rfl : k = l3 := by omega
      rw [List.take_of_length_le (by have := unhide HLP; omega)] at hot
      have HOT := hide hot
      have HFX := hide hfx
      have HCJ := hide hcj
      have HOTH := hide hoth
      have HSR := hide hse
      clear hot hfx hcj hoth hbg hse
      go_wp2_with fail
      exact unhide HQ _ _ _ _ _ _ _ _ _ _ _ _ _ _ _ _ _ _ _ _ _ _ _ _ _ wr tv (unhide HOT) (unhide HSR) (unhide HFX) (unhide HCJ) (unhide HOTH)
end Go.Proofs.YtdmmbhemmbgcpabGreat
namespace Go.Proofs.YtdmmbhemmbgcpabGreat
open Go Go.RowKit Gs
set_option linter.unusedVariables false
set_option linter.unusedSimpArgs false
set_option maxRecDepth 100000
set_option maxHeartbeats 32000000 in
theorem prL7 {u0 u1 u3 u4 u5 u6 u7 u9 u10 u11 u12 u14 u16 u17 u19 u21 u22 u23 u24 u25 u26 u27 u28 u29 u30 u31 u32 u33 u34 u35 u36 u37 u38 u39 u40 u41 u42 u43 u44 u45 u46 u47 u48 u49 u50 u51 u52 u53 u54 u55 u56 u57 u58 u59 u60 u61 u62 u63 u64 u65 u66 u67 u68 u69 u70 u71 u72 u73 u74 u75 u76 u77 u78 u79 u80 u81 u82 u83 u84 u85 u86 u87 u88 u89 u90 u91 u92 u93 u94 u95 u96 u97 u98 u99 u100 u101 u102 u103 u104 u105 u106 u107 u108 u109 u110 u111 u112 u113 u114 u115 u116 u117 u118 u119 u120 u121 u122 u123 u124 u125 u126 u127 u128 u129 u130 u131 u132 u133 u134 u135 u136 u137 u138 u139 u140 u141 u142 u143 u144 u145 u146 u147 u148 u149 u150 u151 u152 u153 u154 u155 u156 u157 u158 u159 u160 u161 u162 u163 u164 u165 u166 u167 u168 u169 u170 u171 u172 u173 u174 u175 u176 u177 u178 u179 u180 u181 u182 u183 u184 u185 u186 u187 u188 u189 u190 u191 u192 u193 u194 u195 u196 u197 u198 u199 u200 u201 u202 u203 u204 u205 u206 u207 u208 u209 u210 u211 u212 u213 u214 u215 u216 u217 u218 u219 u220 u221 u222 u223 u224 u225 u226 u227 : Value} {s0 s1 s2 s3 s4 : Option Addr} {l0 c0 l1 c1 l2 c2 l3 c3 l4 c4 : Nat} {q pb g N li ci ls cs : Nat} {ai az : Option Addr} {x : Packed} {ins st : List Bool} {ps : List Port} {w W : World} {Q : Exit → Act → World → Prop} (hnb : ps.length ≤ 1048576) (HRP : Hid (RS 2 RPort w 0 ps (.slice s4 l4 c4))) (HPS : Hid (∀ p ∈ ps, 0 ≤ p.src ∧ p.src < (N : Int))) (HSE : Hid (SE w g N x ins st (.slice ai li ci) (.slice az ls cs) W)) (HCON : Hid (∀ y : Int, 0 ≤ y → y < (N : Int) → ∀ V, SE w g N x ins st (.slice ai li ci) (.slice az ls cs) V → Calls Tryz.prog 26 #[.agg #[.slice s0 l0 c0, .slice s1 l1 c1, .slice s2 l2 c2, .slice s3 l3 c3, .slice s4 l4 c4], .int .i64 y, .slice ai li ci, .slice az ls cs, .slice (some ⟨g, 0, none⟩) N N] V fun e w' => e = .returned (.int .i64 (b2i (valP x.blocks ins st y))) ∧ SE w g N x ins st (.slice ai li ci) (.slice az ls cs) w' ∧ Fx g V w'))
    (HBX : Hid (∀ V, Below g W V → V.cell? ⟨pb, 0, none⟩ = some (.slice s0 l0 c0) ∧ V.cell? ⟨pb, 1, none⟩ = some (.slice s1 l1 c1) ∧ V.cell? ⟨pb, 2, none⟩ = some (.slice s2 l2 c2) ∧ V.cell? ⟨pb, 3, none⟩ = some (.slice s3 l3 c3) ∧ V.cell? ⟨pb, 4, none⟩ = some (.slice s4 l4 c4))) (hgq : g < q ∧ q < W.heap.size) (HOI : Hid (∀ j, (.slice ai li ci : Value).ownBlock = some j → j < g)) (HOS : Hid (∀ j, (.slice az ls cs : Value).ownBlock = some j → j < g)) (HC : Hid (RC W q 1 (.slice none 0 0)))
    (hQ : ∀ (z20 z176 z177 z178 z179 z180 z181 z182 z183 z184 z185 z186 z187 z188 z189 z190 z191 z192 z193 z194 z195 z196 z197 z198 z199 : Value) V v, OT W.heap.size V v (ps.map (fun p : Port => txt1 (valP x.blocks ins st p.src))) → SE w g N x ins st (.slice ai li ci) (.slice az ls cs) V → F2x g q W V → RC V q 1 v → (∀ i y, i ≠ 1 → RC W q i y → RC V q i y) → Q (.exit 12) { tmps := (u0 :: u1 :: .pointer (some ⟨pb, 0, none⟩) :: u3 :: u4 :: u5 :: u6 :: u7 :: .slice az ls cs :: u9 :: u10 :: u11 :: u12 :: .slice ai li ci :: u14 :: .slice (some ⟨g, 0, none⟩) N N :: u16 :: u17 :: .pointer (some ⟨q, 0, none⟩) :: u19 :: z20 :: u21 :: u22 :: u23 :: u24 :: u25 :: u26 :: u27 :: u28 :: u29 :: u30 :: u31 :: u32 :: u33 :: u34 :: u35 :: u36 :: u37 :: u38 :: u39 :: u40 :: u41 :: u42 :: u43 :: u44 :: u45 :: u46 :: u47 :: u48 :: u49 :: u50 :: u51 :: u52 :: u53 :: u54 :: u55 :: u56 :: u57 :: u58 :: u59 :: u60 :: u61 :: u62 :: u63 :: u64 :: u65 :: u66 :: u67 :: u68 :: u69 :: u70 :: u71 :: u72 :: u73 :: u74 :: u75 :: u76 :: u77 :: u78 :: u79 :: u80 :: u81 :: u82 :: u83 :: u84 :: u85 :: u86 :: u87 :: u88 :: u89 :: u90 :: u91 :: u92 :: u93 :: u94 :: u95 :: u96 :: u97 :: u98 :: u99 :: u100 :: u101 :: u102 :: u103 :: u104 :: u105 :: u106 :: u107 :: u108 :: u109 :: u110 :: u111 :: u112 :: u113 :: u114 :: u115 :: u116 :: u117 :: u118 :: u119 :: u120 :: u121 :: u122 :: u123 :: u124 :: u125 :: u126 :: u127 :: u128 :: u129 :: u130 :: u131 :: u132 :: u133 :: u134 :: u135 :: u136 :: u137 :: u138 :: u139 :: u140 :: u141 :: u142 :: u143 :: u144 :: u145 :: u146 :: u147 :: u148 :: u149 :: u150 :: u151 :: u152 :: u153 :: u154 :: u155 :: u156 :: u157 :: u158 :: u159 :: u160 :: u161 :: u162 :: u163 :: u164 :: u165 :: u166 :: u167 :: u168 :: u169 :: u170 :: u171 :: u172 :: u173 :: u174 :: u175 :: z176 :: z177 :: z178 :: z179 :: z180 :: z181 :: z182 :: z183 :: z184 :: z185 :: z186 :: z187 :: z188 :: z189 :: z190 :: z191 :: z192 :: z193 :: z194 :: z195 :: z196 :: z197 :: z198 :: z199 :: u200 :: u201 :: u202 :: u203 :: u204 :: u205 :: u206 :: u207 :: u208 :: u209 :: u210 :: u211 :: u212 :: u213 :: u214 :: u215 :: u216 :: u217 :: u218 :: u219 :: u220 :: u221 :: u222 :: u223 :: u224 :: u225 :: u226 :: u227 :: []).toArray, defers := [] } V) :
    Code.wp Tryz.prog (atB 12 (bodyOf Tryz.f6)) Q { tmps := (u0 :: u1 :: .pointer (some ⟨pb, 0, none⟩) :: u3 :: u4 :: u5 :: u6 :: u7 :: .slice az ls cs :: u9 :: u10 :: u11 :: u12 :: .slice ai li ci :: u14 :: .slice (some ⟨g, 0, none⟩) N N :: u16 :: u17 :: .pointer (some ⟨q, 0, none⟩) :: u19 :: .int .i64 0 :: u21 :: u22 :: u23 :: u24 :: u25 :: u26 :: u27 :: u28 :: u29 :: u30 :: u31 :: u32 :: u33 :: u34 :: u35 :: u36 :: u37 :: u38 :: u39 :: u40 :: u41 :: u42 :: u43 :: u44 :: u45 :: u46 :: u47 :: u48 :: u49 :: u50 :: u51 :: u52 :: u53 :: u54 :: u55 :: u56 :: u57 :: u58 :: u59 :: u60 :: u61 :: u62 :: u63 :: u64 :: u65 :: u66 :: u67 :: u68 :: u69 :: u70 :: u71 :: u72 :: u73 :: u74 :: u75 :: u76 :: u77 :: u78 :: u79 :: u80 :: u81 :: u82 :: u83 :: u84 :: u85 :: u86 :: u87 :: u88 :: u89 :: u90 :: u91 :: u92 :: u93 :: u94 :: u95 :: u96 :: u97 :: u98 :: u99 :: u100 :: u101 :: u102 :: u103 :: u104 :: u105 :: u106 :: u107 :: u108 :: u109 :: u110 :: u111 :: u112 :: u113 :: u114 :: u115 :: u116 :: u117 :: u118 :: u119 :: u120 :: u121 :: u122 :: u123 :: u124 :: u125 :: u126 :: u127 :: u128 :: u129 :: u130 :: u131 :: u132 :: u133 :: u134 :: u135 :: u136 :: u137 :: u138 :: u139 :: u140 :: u141 :: u142 :: u143 :: u144 :: u145 :: u146 :: u147 :: u148 :: u149 :: u150 :: u151 :: u152 :: u153 :: u154 :: u155 :: u156 :: u157 :: u158 :: u159 :: u160 :: u161 :: u162 :: u163 :: u164 :: u165 :: u166 :: u167 :: u168 :: u169 :: u170 :: u171 :: u172 :: u173 :: u174 :: u175 :: u176 :: u177 :: u178 :: u179 :: u180 :: u181 :: u182 :: u183 :: u184 :: u185 :: u186 :: u187 :: u188 :: u189 :: u190 :: u191 :: u192 :: u193 :: u194 :: u195 :: u196 :: u197 :: u198 :: u199 :: u200 :: u201 :: u202 :: u203 :: u204 :: u205 :: u206 :: u207 :: u208 :: u209 :: u210 :: u211 :: u212 :: u213 :: u214 :: u215 :: u216 :: u217 :: u218 :: u219 :: u220 :: u221 :: u222 :: u223 :: u224 :: u225 :: u226 :: u227 :: []).toArray, defers := [] } W := by
  have hlp : l4 = ps.length := by
    obtain ⟨a, c, hv, _⟩ := unhide HRP
    injection hv with e1 e2 e3
  have HLP := hide hlp
  have HQ := hide hQ
  clear hQ hlp
  conv => arg 2; whnf
  go_loopw [20] (fun i wr => ∃ (k : Nat) (tv : Value), k ≤ l4 ∧ i = .int .i64 k ∧ OT W.heap.size wr tv ((ps.take k).map (fun p : Port => txt1 (valP x.blocks ins st p.src))) ∧ SE w g N x ins st (.slice ai li ci) (.slice az ls cs) wr ∧ F2x g q W wr ∧ RC wr q 1 tv ∧ (∀ i y, i ≠ 1 → RC W q i y → RC wr q i y)) (fun i wr => l4 - (intOf i).toNat)
  case atStart => exact ⟨0, _, Nat.zero_le _, rfl, OT_nil _ _, unhide HSE, F2x.refl _ _ _, unhide HC, fun _ _ _ h => h⟩
  case round =>
    obtain ⟨k, tv, hk, rfl, hot, hse, hfx, hcj, hoth⟩ := hrel
    have hbg : Below g W wr := hfx.below (Nat.le_refl _) (by omega) (by omega)
    obtain ⟨q0, q1, q2, q3, q4⟩ := unhide HBX wr hbg
    by_cases hlt : k < l4
    · have hx : ps[k]? = some (ps[k]'(by have := unhide HLP; omega)) := List.getElem?_eq_getElem _
      have hmem := List.getElem_mem (by have := unhide HLP; omega : k < ps.length)
      generalize ps[k]'(by have := unhide HLP; omega) = p at hx hmem
      obtain ⟨ab, ao, hs, hc⟩ := port_cell (unhide HRP) hx
      have hcs : l4 ≤ c4 := rs_cap (unhide HRP)
      obtain ⟨hl1, hl2⟩ := unhide HPS p hmem
      have HVY := hide (unhide HCON p.src hl1 hl2)
      have HPC : Hid (∀ U, Fx g wr U → U.cell? ⟨pb, 0, none⟩ = some (.slice s0 l0 c0) ∧ U.cell? ⟨pb, 1, none⟩ = some (.slice s1 l1 c1) ∧ U.cell? ⟨pb, 2, none⟩ = some (.slice s2 l2 c2) ∧ U.cell? ⟨pb, 3, none⟩ = some (.slice s3 l3 c3) ∧ U.cell? ⟨pb, 4, none⟩ = some (.slice s4 l4 c4) ∧ U.cell? ⟨ab, ao + k * 2 + 1, none⟩ = some (.int .i64 p.src)) := hide (fun U hU => by
        have hb : Below g wr U := hU.belowg (by have := hse.lt; omega)
        obtain ⟨y0, y1, y2, y3, y4⟩ := unhide HBX U (hbg.trans hb)
        exact ⟨y0, y1, y2, y3, y4, cell_later (hse.below.trans (hb.mono hse.hg)) hc⟩)
      have HST := hide (show (ps.take (k + 1)).map (fun p : Port => txt1 (valP x.blocks ins st p.src)) = (ps.take k).map (fun p : Port => txt1 (valP x.blocks ins st p.src)) ++ [txt1 (valP x.blocks ins st p.src)] by rw [List.take_add_one, hx, List.map_append]; rfl)
      have HAL := hide (show ((ps.take k).map (fun p : Port => txt1 (valP x.blocks ins st p.src))).length ≤ 1048576 by rw [List.length_map, List.length_take]; omega)
      have HOT := hide hot
      have HFX := hide hfx
      have HCJ := hide hcj
      have HOTH := hide hoth
      have HSR := hide hse
      have HWS := hide hfx.size
      have HL1 : Hid (l4 ≤ 1048576) := hide (by have := unhide HLP; omega)
      have HTR : Hid (∀ b, tv.ownBlock = some b → W.heap.size ≤ b) := hide (fun b hb => hot.row b hb)
      have hL1 : l4 ≤ 1048576 := unhide HL1
      have i1 : (k : Int) < (l4 : Int) := by omega
      clear hot hfx hcj hoth hse hbg hc hx hmem hl1 hl2 HCON HRP HPS HSE
      subst hs
      generalize p.src = z at *
      generalize (ps.take k).map (fun p : Port => txt1 (valP x.blocks ins st p.src)) = acc at *
      generalize valP x.blocks ins st z = A at *
      go_wp2_with fail
      refine prChecks (x := x) (ins := ins) (st := st) (w := w) (B := W.heap.size) (ab := ab) (ao := ao) (al := l4) (ac := c4) (acc := acc) (tv := tv) (A := A) (y := z) (pb := pb) (q := q) (g := g) (N := N) (k := k) HOT HAL HWS (hide hgq) (hide (unhide HCJ).1) (hide (unhide HCJ).2) hlt (unhide HL1) HPC ⟨rfl, rfl, rfl⟩ HSR HVY _ rfl rfl rfl rfl rfl rfl rfl ?_
      intro a V V' v hnt hdf hkeep hA hV
      obtain ⟨hot', V0, ⟨hse0, hfx0⟩, hgr⟩ := hA
      obtain ⟨us, rfl, hus⟩ := putAll_of [183, 184, 185, 186, 187, 188, 189, 190, 191, 192, 193, 194, 195, 196, 197, 198, 199] hnt hdf hkeep
      have hsz0 : q < V0.heap.size := by have := (unhide HWS); have := hfx0.size; omega
      have HS2 := hide (hse0.row (W := W) (wr := wr) hgr (unhide HTR) hgq (unhide HOI) (unhide HOS) hV hsz0)
      have HF2 := hide ((unhide HFX).step hfx0 hgr (unhide HTR) hV)
      have HR2 := hide (RC.row (W := W) (unhide HCJ) (unhide HOTH) hfx0 hgr (unhide HTR) hgq hV)
      have HO2 : Hid (OT W.heap.size V v (acc ++ [txt1 A])) := hide (by
        rw [hV]
        exact hot'.fx (Fx.set q 1 V' v) (fun e => by have := hot'.row _ e; omega))
      clear hnt hdf hkeep hus hot' hse0 hfx0 hgr hV q0 q1 q2 q3 q4 HOT HFX HCJ HOTH HSR HVY HPC
      simp only [putAll, List.foldl, Act.put, List.setIfInBounds_toArray, List.set_cons_zero, List.set_cons_succ]
      generalize us 183 = z183 at *
      generalize us 184 = z184 at *
      generalize us 185 = z185 at *
      generalize us 186 = z186 at *
      generalize us 187 = z187 at *
      generalize us 188 = z188 at *
      generalize us 189 = z189 at *
      generalize us 190 = z190 at *
      generalize us 191 = z191 at *
      generalize us 192 = z192 at *
      generalize us 193 = z193 at *
      generalize us 194 = z194 at *
      generalize us 195 = z195 at *
      generalize us 196 = z196 at *
      generalize us 197 = z197 at *
      generalize us 198 = z198 at *
      generalize us 199 = z199 at *
      go_wp2_with fail
      go_roundw
      case rel => exact ⟨k + 1, v, by omega, by go_num, by rw [unhide HST]; exact unhide HO2, unhide HS2, unhide HF2, (unhide HR2).1, (unhide HR2).2⟩
      case measure => simp [intOf]; omega
    · obtain rfl : k = l4 := by omega
      rw [List.take_of_length_le (by have := unhide HLP; omega)] at hot
      have HOT := hide hot
      have HFX := hide hfx
      have HCJ := hide hcj
      have HOTH := hide hoth
      have HSR := hide hse
      clear hot hfx hcj hoth hbg hse
      go_wp2_with fail
      exact unhide HQ _ _ _ _ _ _ _ _ _ _ _ _ _ _ _ _ _ _ _ _ _ _ _ _ _ wr tv (unhide HOT) (unhide HSR) (unhide HFX) (unhide HCJ) (unhide HOTH)
end Go.Proofs.YtdmmbhemmbgcpabGreat
