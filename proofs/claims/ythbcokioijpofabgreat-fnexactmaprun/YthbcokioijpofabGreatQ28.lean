/- The specification's MapRun: one step. -/
import Derived.Test.YthbcokioijpofabGreatGr
import Derived.Test.YthbcokioijpofabGreatGt
import Derived.Test.YthbcokioijpofabGreatGq
import Derived.Test.YthbcokioijpofabGreatQ17
namespace Go.Proofs.YthbcokioijpofabGreat
open Go Go.RowKit Gs
set_option linter.unusedVariables false
set_option linter.unusedSimpArgs false
set_option maxRecDepth 100000
/-- The box of a graph. -/
def BX (pb : Nat) (x : Mapped) (s0 s1 s2 s3 s4 s5 : Option Addr) (c0 c1 c2 c3 c4 c5 : Nat) (V : World) : Prop := V.cell? ⟨pb, 0, none⟩ = some (.slice s0 x.ins.length c0) ∧ V.cell? ⟨pb, 1, none⟩ = some (.slice s1 x.clocks.length c1) ∧ V.cell? ⟨pb, 2, none⟩ = some (.slice s2 x.regs.length c2) ∧ V.cell? ⟨pb, 3, none⟩ = some (.slice s3 x.luts.length c3) ∧ V.cell? ⟨pb, 4, none⟩ = some (.slice s4 x.outs.length c4) ∧ V.cell? ⟨pb, 5, none⟩ = some (.slice s5 x.checks.length c5)
theorem BX.later {pb : Nat} {x : Mapped} {s0 s1 s2 s3 s4 s5 : Option Addr} {c0 c1 c2 c3 c4 c5 : Nat} {V U : World} (h : BX pb x s0 s1 s2 s3 s4 s5 c0 c1 c2 c3 c4 c5 V) (hb : Below V.heap.size V U) : BX pb x s0 s1 s2 s3 s4 s5 c0 c1 c2 c3 c4 c5 U :=
  ⟨cell_later hb h.1, cell_later hb h.2.1, cell_later hb h.2.2.1, cell_later hb h.2.2.2.1, cell_later hb h.2.2.2.2.1, cell_later hb h.2.2.2.2.2⟩
theorem pins_lit {w : World} {ps : List Port} {s : Option Addr} {n c : Nat} (h : RS 2 RPort w 0 ps (.slice s n c)) : ∀ (i : Nat) p, ps[i]? = some p → ∃ b o, s = some ⟨b, o, none⟩ ∧ w.cell? ⟨b, o + i * 2 + 1, none⟩ = some (.int .i64 p.src) := by
  intro i x hx
  rcases h.open with ⟨rfl, _⟩ | ⟨b, o, c', hv, _, _, _, he⟩
  · simp at hx
  · injection hv with e1 e2 e3
    obtain ⟨u, hu, hat, hux⟩ := he i x hx
    unfold RPort at hux
    obtain ⟨rfl, _⟩ := hux
    exact ⟨b, o, e1, by simpa using hat.get (j := 1) rfl⟩
theorem latch_at {w : World} {ps : List MapReg} {s : Option Addr} {n c : Nat} (h : RS 4 RMapReg w 0 ps (.slice s n c)) : ∀ (i : Nat) p, ps[i]? = some p → ∃ b o, s = some ⟨b, o, none⟩ ∧ w.cell? ⟨b, o + i * 4 + 1, none⟩ = some (.int .i64 p.src) ∧ w.cell? ⟨b, o + i * 4 + 2, none⟩ = some (.int .i64 p.init) ∧ w.cell? ⟨b, o + i * 4 + 3, none⟩ = some (.int .i64 p.clock) := by
  intro i x hx
  rcases h.open with ⟨rfl, _⟩ | ⟨b, o, c', hv, _, _, _, he⟩
  · simp at hx
  · injection hv with e1 e2 e3
    obtain ⟨u, hu, hat, hux⟩ := he i x hx
    unfold RMapReg at hux
    obtain ⟨rfl, _⟩ := hux
    exact ⟨b, o, e1, by simpa using hat.get (j := 1) rfl, by simpa using hat.get (j := 2) rfl, by simpa using hat.get (j := 3) rfl⟩
theorem strs_at {w : World} {B : Nat} {ps : List ByteArray} {s : Option Addr} {n c : Nat} (h : RS 1 RStr w B ps (.slice s n c)) : ∀ (i : Nat) p, ps[i]? = some p → ∃ b o, s = some ⟨b, o, none⟩ ∧ w.cell? ⟨b, o + i, none⟩ = some (.string p) := by
  intro i x hx
  rcases h.open with ⟨rfl, _⟩ | ⟨b, o, c', hv, _, _, _, he⟩
  · simp at hx
  · injection hv with e1 e2 e3
    obtain ⟨u, hu, hat, hux⟩ := he i x hx
    unfold RStr at hux
    obtain ⟨rfl, _⟩ := hux
    exact ⟨b, o, e1, by simpa using hat.get (j := 0) rfl⟩
theorem bools_at {w : World} {B : Nat} {ps : List Bool} {s : Option Addr} {n c : Nat} (h : RS 1 RBool w B ps (.slice s n c)) : ∀ (i : Nat) p, ps[i]? = some p → ∃ b o, s = some ⟨b, o, none⟩ ∧ w.cell? ⟨b, o + i, none⟩ = some (.bool p) := by
  intro i x hx
  rcases h.open with ⟨rfl, _⟩ | ⟨b, o, c', hv, _, _, _, he⟩
  · simp at hx
  · injection hv with e1 e2 e3
    obtain ⟨u, hu, hat, hux⟩ := he i x hx
    unfold RBool at hux
    subst hux
    exact ⟨b, o, e1, by simpa using hat.get (j := 0) rfl⟩
theorem ints_at2 {w : World} {B : Nat} {ps : List Bool} {s : Option Addr} {n c : Nat} (h : RS 1 RInt w B (ps.map b2i) (.slice s n c)) : ∀ (i : Nat) p, ps[i]? = some p → ∃ b o, s = some ⟨b, o, none⟩ ∧ w.cell? ⟨b, o + i, none⟩ = some (.int .i64 (b2i p)) := by
  intro i p hp
  obtain ⟨b, o, c', hv, hc⟩ := bits_at h hp
  injection hv with e1 e2 e3
  exact ⟨b, o, e1, hc⟩
theorem OI.grown {W W' : World} {B : Nat} {v : Value} {xs : List Int} (h : OI B W v xs) {o : Option Nat} (hg : W.grownBy W' o) (ho : ∀ q, o = some q → ∃ cur f, W.heap[q]? = some (.cells cur 74 f)) : OI B W' v xs := by
  obtain ⟨h1, h2 | ⟨g, cap, cur, hv, hb, hc, rest⟩⟩ := h
  · exact ⟨h1, .inl h2⟩
  · refine ⟨h1, .inr ⟨g, cap, cur, hv, hb, (hg.block g (Array.getElem?_eq_some_iff.1 hc).1 (fun e => ?_)).trans hc, rest⟩⟩
    obtain ⟨cur', f, hq⟩ := ho g e.symm
    rw [hq] at hc
    injection hc with hc
    injection hc with _ h2 _
    cases h2
theorem below_fx {N q : Nat} {W V : World} (h : Fx q W V) (hN : N ≤ W.heap.size) (hq : N ≤ q) : Below N W V := h.below (Below.refl N W) hq hN
set_option maxHeartbeats 64000000 in
theorem sRound {u0 u3 u4 u5 u6 u7 u9 u12 u13 u14 u15 u16 u17 u18 u19 u20 u21 u22 u23 u24 u25 u26 u27 u28 u29 u30 u31 u32 u33 u34 u35 u36 u37 u38 u39 u40 u41 u42 u43 u44 u45 u46 u47 u48 u49 u50 u51 u52 u53 u54 u55 u56 u57 u58 u59 u60 u61 u62 u63 u64 u65 u66 u67 u68 u69 u70 u71 u72 u73 u74 u75 u76 u77 u78 u79 u80 u81 u82 u83 u84 u85 u86 u87 u88 u89 u90 u91 u92 u93 u94 u95 u96 u97 u98 u99 u100 u101 u102 u103 u104 u105 u106 u107 u108 u109 u110 u111 u112 u113 u114 u115 u116 u117 u118 u119 u120 u121 u122 u123 u124 u125 u126 u127 u128 u129 u130 u131 u132 u133 u134 u135 u136 u137 u138 u139 u140 u141 u142 u143 u144 u145 u146 u147 u148 u149 u150 u151 u152 u153 u154 u155 u156 u157 u158 u159 u160 u161 u162 u163 u164 u165 u166 u167 u168 u169 u170 u171 u172 u173 u174 u175 u176 u177 u178 u179 u180 u181 u182 u183 u184 u185 u186 u187 u188 u189 u190 u191 u192 u193 u194 u195 u196 u197 u198 u199 u200 u201 u202 u203 : Value} {pb sb so sl sc K n8 c8 N k E c0 c1 c2 c3 c4 c5 ci ct : Nat} {s0 s1 s2 s3 s4 s5 sa si stk : Option Addr} {v10 : Value} {us : List (Value × Value × Value)} {rs : List Row} {x : Mapped} {s : Step} {st : List Bool} {wr : World} {Q : Exit → Act → World → Prop}
    (hx : MapFit x) (hs : StepFit x s) (hst : st.length = x.regs.length) (hc1 : x.clocks.length ≤ 1048576) (hK : K < sl) (hsl : sl ≤ 4096) (hk4 : k ≤ 4096)
    (HBX : Hid (BX pb x s0 s1 s2 s3 s4 s5 c0 c1 c2 c3 c4 c5 wr)) (HR2 : Hid (RS 4 RMapReg wr 0 x.regs (.slice s2 x.regs.length c2))) (HR3 : Hid (RS 2 RLut wr 0 x.luts (.slice s3 x.luts.length c3))) (HR4 : Hid (RS 2 RPort wr 0 x.outs (.slice s4 x.outs.length c4))) (HR5 : Hid (RS 2 RPort wr 0 x.checks (.slice s5 x.checks.length c5)))
    (HC0 : Hid (wr.cell? ⟨sb, so + K * 2, none⟩ = some (.slice si x.ins.length ci))) (HC1 : Hid (wr.cell? ⟨sb, so + K * 2 + 1, none⟩ = some (.slice stk x.clocks.length ct))) (HSI : Hid (RS 1 RStr wr 0 s.ins (.slice si x.ins.length ci))) (HTK : Hid (RS 1 RBool wr 0 s.ticks (.slice stk x.clocks.length ct)))
    (HST : Hid (OI 0 wr (.slice sa n8 c8) (st.map b2i))) (HOW : Hid (wr.ownsRow N 74 3 v10 k (rcs us))) (HRW : Hid (RowsO wr N E us rs)) (hE : E ≤ wr.heap.size) (hN : N ≤ wr.heap.size)
    (hQ : ∀ (z8 z10 z12 z13 z14 z15 z16 z17 z18 z19 z20 z74 z75 z76 z77 z78 z79 z80 z81 z82 z83 z84 z85 z86 z87 z88 z89 z90 z91 z92 z93 z94 z95 z96 z97 z98 z99 z100 z101 z102 z103 z104 z105 z106 z107 z108 z109 z110 z111 z112 z113 z114 z115 z116 z117 z118 z119 z120 z121 z122 z123 z124 z125 z126 z127 z128 z129 z130 z131 z132 z133 z134 z135 z136 z137 z138 z139 z140 z141 z142 z143 z144 z145 z146 z147 z148 z149 z150 z151 z152 z153 z154 z155 z156 z157 z158 z159 z160 z161 z162 z163 z164 z165 z166 z167 z168 z169 z170 z171 z172 z173 z174 z175 z176 z177 z178 z179 z180 z181 z182 z183 z184 z185 z186 z187 z188 z189 z190 z191 z192 z193 z194 z195 z196 z197 z198 z199 z200 z201 z202 : Value) V us', OI 0 V z8 ((stepV x st s).map b2i) → (∃ a l c, z8 = .slice a l c) → V.ownsRow N 74 3 z10 (k + 1) (rcs us') → (∃ E', RowsO V N E' us' (rs ++ [rowV x (lutsV (baseV (s.ins.map bit1) (stepV x st s)) x.luts) (stepV x st s)]) ∧ E' ≤ V.heap.size) → Below N wr V → Q .normal { tmps := (u0 :: .slice (some ⟨sb, so, none⟩) sl sc :: .pointer (some ⟨pb, 0, none⟩) :: u3 :: u4 :: u5 :: u6 :: u7 :: z8 :: u9 :: z10 :: .int .i64 (K : Int) :: z12 :: z13 :: z14 :: z15 :: z16 :: z17 :: z18 :: z19 :: z20 :: u21 :: u22 :: u23 :: u24 :: u25 :: u26 :: u27 :: u28 :: u29 :: u30 :: u31 :: u32 :: u33 :: u34 :: u35 :: u36 :: u37 :: u38 :: u39 :: u40 :: u41 :: u42 :: u43 :: u44 :: u45 :: u46 :: u47 :: u48 :: u49 :: u50 :: u51 :: u52 :: u53 :: u54 :: u55 :: u56 :: u57 :: u58 :: u59 :: u60 :: u61 :: u62 :: u63 :: u64 :: u65 :: u66 :: u67 :: u68 :: u69 :: u70 :: u71 :: u72 :: u73 :: z74 :: z75 :: z76 :: z77 :: z78 :: z79 :: z80 :: z81 :: z82 :: z83 :: z84 :: z85 :: z86 :: z87 :: z88 :: z89 :: z90 :: z91 :: z92 :: z93 :: z94 :: z95 :: z96 :: z97 :: z98 :: z99 :: z100 :: z101 :: z102 :: z103 :: z104 :: z105 :: z106 :: z107 :: z108 :: z109 :: z110 :: z111 :: z112 :: z113 :: z114 :: z115 :: z116 :: z117 :: z118 :: z119 :: z120 :: z121 :: z122 :: z123 :: z124 :: z125 :: z126 :: z127 :: z128 :: z129 :: z130 :: z131 :: z132 :: z133 :: z134 :: z135 :: z136 :: z137 :: z138 :: z139 :: z140 :: z141 :: z142 :: z143 :: z144 :: z145 :: z146 :: z147 :: z148 :: z149 :: z150 :: z151 :: z152 :: z153 :: z154 :: z155 :: z156 :: z157 :: z158 :: z159 :: z160 :: z161 :: z162 :: z163 :: z164 :: z165 :: z166 :: z167 :: z168 :: z169 :: z170 :: z171 :: z172 :: z173 :: z174 :: z175 :: z176 :: z177 :: z178 :: z179 :: z180 :: z181 :: z182 :: z183 :: z184 :: z185 :: z186 :: z187 :: z188 :: z189 :: z190 :: z191 :: z192 :: z193 :: z194 :: z195 :: z196 :: z197 :: z198 :: z199 :: z200 :: z201 :: z202 :: u203 :: []).toArray, defers := [] } V) :
    Code.wp Tryz.prog (atB 5 (bodyOf Tryz.f6)) Q { tmps := (u0 :: .slice (some ⟨sb, so, none⟩) sl sc :: .pointer (some ⟨pb, 0, none⟩) :: u3 :: u4 :: u5 :: u6 :: u7 :: .slice sa n8 c8 :: u9 :: v10 :: .int .i64 (K : Int) :: u12 :: u13 :: u14 :: u15 :: u16 :: u17 :: u18 :: u19 :: u20 :: u21 :: u22 :: u23 :: u24 :: u25 :: u26 :: u27 :: u28 :: u29 :: u30 :: u31 :: u32 :: u33 :: u34 :: u35 :: u36 :: u37 :: u38 :: u39 :: u40 :: u41 :: u42 :: u43 :: u44 :: u45 :: u46 :: u47 :: u48 :: u49 :: u50 :: u51 :: u52 :: u53 :: u54 :: u55 :: u56 :: u57 :: u58 :: u59 :: u60 :: u61 :: u62 :: u63 :: u64 :: u65 :: u66 :: u67 :: u68 :: u69 :: u70 :: u71 :: u72 :: u73 :: u74 :: u75 :: u76 :: u77 :: u78 :: u79 :: u80 :: u81 :: u82 :: u83 :: u84 :: u85 :: u86 :: u87 :: u88 :: u89 :: u90 :: u91 :: u92 :: u93 :: u94 :: u95 :: u96 :: u97 :: u98 :: u99 :: u100 :: u101 :: u102 :: u103 :: u104 :: u105 :: u106 :: u107 :: u108 :: u109 :: u110 :: u111 :: u112 :: u113 :: u114 :: u115 :: u116 :: u117 :: u118 :: u119 :: u120 :: u121 :: u122 :: u123 :: u124 :: u125 :: u126 :: u127 :: u128 :: u129 :: u130 :: u131 :: u132 :: u133 :: u134 :: u135 :: u136 :: u137 :: u138 :: u139 :: u140 :: u141 :: u142 :: u143 :: u144 :: u145 :: u146 :: u147 :: u148 :: u149 :: u150 :: u151 :: u152 :: u153 :: u154 :: u155 :: u156 :: u157 :: u158 :: u159 :: u160 :: u161 :: u162 :: u163 :: u164 :: u165 :: u166 :: u167 :: u168 :: u169 :: u170 :: u171 :: u172 :: u173 :: u174 :: u175 :: u176 :: u177 :: u178 :: u179 :: u180 :: u181 :: u182 :: u183 :: u184 :: u185 :: u186 :: u187 :: u188 :: u189 :: u190 :: u191 :: u192 :: u193 :: u194 :: u195 :: u196 :: u197 :: u198 :: u199 :: u200 :: u201 :: u202 :: u203 :: []).toArray, defers := [] } wr := by
  have HQ := hide hQ
  clear hQ
  obtain ⟨n0, n2, n3, n4, n5, hnext, hinit, hclock, hands, houts, hchecks⟩ := hx
  obtain ⟨hf1, hf2, hf3⟩ := hs
  obtain ⟨i75, hi, hz0, hz1, hz2⟩ := info_parts info75
  have HI := hide (And.intro hi (And.intro hz0 (And.intro hz1 hz2)))
  clear hi hz0 hz1 hz2
  have hbl : (baseV (s.ins.map bit1) st).length = x.ins.length + x.regs.length := by unfold baseV; simp [hf1]; try omega
  have hstl := stepV_len x st s hst
  have hbl2 : (baseV (s.ins.map bit1) (stepV x st s)).length = x.ins.length + x.regs.length := by unfold baseV; simp [hf1]; try omega
  have hvl : (lutsV (baseV (s.ins.map bit1) st) x.luts).length = x.ins.length + x.regs.length + x.luts.length := by rw [lutsV_len, hbl]
  have hvl2 : (lutsV (baseV (s.ins.map bit1) (stepV x st s)) x.luts).length = x.ins.length + x.regs.length + x.luts.length := by rw [lutsV_len, hbl2]
  have HHH := hide (And.intro hbl (And.intro hbl2 (And.intro hvl (And.intro hvl2 hstl))))
  have HFF := hide (And.intro hf1 hf2)
  have HSS := hide hst
  clear hbl hbl2 hvl hvl2 hstl hf1 hf2 hst
  conv => arg 2; whnf
  go_wp2_with fail
  have hbA : Below wr.heap.size wr (wr.alloc (.cells #[] 3)) := bal (brf wr) _
  refine sL4 (W0 := wr) hK hsl (unhide HFF).1.symm (unhide HFF).1.symm (by have := (unhide HFF).1; omega) (hide (fun V hV => ((unhide HBX).later hV).1)) HC0 (hide (strs_at (unhide HSI))) (hide (OI_start rfl (Nat.le_refl _))) (hide hbA) ?_
  intro y13 y75 y76 y77 y78 y79 y80 y81 y82 y83 y84 y85 y86 y87 y88 y89 y90 y91 y92 y93 V4 v12 hins hb4
  have HINS := hide hins
  have HB4 := hide hb4
  obtain ⟨q0, q1, q2, q3, q4, q5⟩ := (unhide HBX).later hb4
  have HV1 := hide (sValues s0 s1 s2 s3 s4 s5 x.ins.length x.clocks.length x.regs.length x.luts.length x.outs.length x.checks.length c0 c1 c2 c3 c4 c5 x.luts (s.ins.map bit1) st v12 (.slice sa n8 c8) V4 ((unhide HR3).later RLut.keeps hb4) (hins.any (by simp; have := (unhide HFF).1; omega)) (((unhide HST).later hb4).any (by rw [List.length_map, unhide HSS]; omega)) (by simp; have := (unhide HFF).1; omega) (by have := unhide HSS; omega) n3 (by rw [(unhide HHH).1]; exact hands))
  clear hins hb4 hbA
  go_wp2_with fail
  refine (unhide HV1).mono ?_
  rintro e V5 ⟨⟨v14, rfl, ho14⟩, hb5⟩
  have hbw5 := btr (unhide HB4) hb5
  have HO14 := hide ho14
  have HB5 := hide hb5
  have HBW5 := hide hbw5
  have hb5a : Below V5.heap.size V5 (V5.alloc (.cells #[] 3)) := bal (brf V5) _
  have HS5 := hide (((unhide HST).later (btr hbw5 hb5a)).any (by rw [List.length_map, unhide HSS]; omega))
  have HN5 : Hid (V5.heap.size ≤ (V5.alloc (.cells #[] 3)).heap.size) := hide (by simp)
  have HL5 : Hid (([] : List Int).length + (st.map b2i).length ≤ 4194304) := hide (by simp; have := unhide HSS; omega)
  have HE5 : Hid (OI V5.heap.size (V5.alloc (.cells #[] 3)) (.slice (some ⟨V5.heap.size, 0, none⟩) 0 0) []) := hide (OI_start rfl (Nat.le_refl _))
  clear q0 q1 q2 q3 q4 q5 ho14 hb5 hb5a hbw5 HV1
  go_wp2_with (first
    | (at_builtin; refine wpAppI rfl _ _ rfl V5.heap.size _ [] rfl (unhide HE5) _ (st.map b2i) rfl (unhide HS5) (unhide HL5) (unhide HN5) ?_; intro v15 V6 ho6 hg6)
    | go_in)
  have hb6 : Below V5.heap.size V5 V6 := below_grown (bal (brf V5) (.cells #[] 3)) hg6 (by simp) (unhide HE5).row
  rw [List.nil_append] at ho6
  obtain ⟨sa6, n6, c6, rfl⟩ := ho6.shape
  have HO6 := hide ho6
  have HB6 := hide hb6
  clear ho6 hg6 hb6 HE5 HL5 HN5 HS5
  refine sL5 (W0 := V5) (vs := lutsV (baseV (s.ins.map bit1) st) x.luts) (ticks := s.ticks) (st := st) (ls := x.regs) hK hsl rfl (unhide HFF).2.symm (by omega) (unhide HSS) (by have := (unhide HHH).2.2.1; omega) (by rw [(unhide HFF).2]; exact hc1) (hide (fun V hV => ((unhide HBX).later (btr (unhide HBW5) hV)).2.2.1)) (hide (cell_later (unhide HBW5) (unhide HC1))) (hide (bools_at ((unhide HTK).later RBool.keeps (unhide HBW5)))) (hide (fun i p hp => by obtain ⟨b, o, e, h1, _, h3⟩ := latch_at ((unhide HR2).later RMapReg.keeps (unhide HBW5)) i p hp; exact ⟨b, o, e, h1, h3⟩)) (hide (fun l hl => by rw [(unhide HHH).2.2.1]; exact hnext l hl)) (hide (fun l hl => by rw [(unhide HFF).2]; exact hclock l hl)) HO14 HO6 HB6 ?_
  intro y16 y101 y102 y103 y104 y105 y106 y107 y108 y109 y110 y111 y112 y113 y114 y115 y116 y117 y118 y119 y120 y121 y122 y123 y124 y125 y126 y127 y128 y129 y130 y131 y132 V7 ho7 hb7
  have hbw7 := btr (unhide HBW5) hb7
  have hb47 := btr (unhide HB5) hb7
  have HB7 := hide hb7
  have HBW7 := hide hbw7
  have hnx : nextV s.ticks (lutsV (baseV (s.ins.map bit1) st) x.luts) x.regs st = stepV x st s := rfl
  rw [hnx] at ho7
  have hst7 := ho7.any (by rw [List.length_map, (unhide HHH).2.2.2.2]; omega)
  have HO7 := hide ho7
  obtain ⟨q0, q1, q2, q3, q4, q5⟩ := (unhide HBX).later hbw7
  have HV2 := hide (sValues s0 s1 s2 s3 s4 s5 x.ins.length x.clocks.length x.regs.length x.luts.length x.outs.length x.checks.length c0 c1 c2 c3 c4 c5 x.luts (s.ins.map bit1) (stepV x st s) v12 (.slice sa6 n6 c6) V7 ((unhide HR3).later RLut.keeps hbw7) (((unhide HINS).later hb47).any (by simp; have := (unhide HFF).1; omega)) hst7 (by simp; have := (unhide HFF).1; omega) (by have := (unhide HHH).2.2.2.2; omega) n3 (by rw [(unhide HHH).2.1]; exact hands))
  clear ho7 hb7 hbw7 hb47 hst7 hnx
  go_wp2_with fail
  refine (unhide HV2).mono ?_
  rintro e V8 ⟨⟨v14b, rfl, ho8⟩, hb8⟩
  have hbw8 := btr (unhide HBW7) hb8
  have HB8 := hide hb8
  have HBW8 := hide hbw8
  have HIV := hide ho8
  have HS8 : Hid (RS 1 RInt V8 0 ((stepV x st s).map b2i) (.slice sa6 n6 c6)) := hide (((unhide HO7).later hb8).any (by rw [List.length_map, (unhide HHH).2.2.2.2]; omega))
  have HO8 := hide (((unhide HO7).later hb8).low (B' := 0) (Nat.zero_le _))
  have hn6 : n6 = (stepV x st s).length := by
    obtain ⟨a, c, hv⟩ := (unhide HS8).slice
    injection hv with e1 e2 e3
    rw [e2, List.length_map]
  have HN6 := hide hn6
  clear hn6
  clear q0 q1 q2 q3 q4 q5 ho8 hb8 hbw8 HV2
  obtain ⟨V9, hV9⟩ : ∃ V9, V9 = V8.alloc (.cells #[.slice none 0 0, .slice none 0 0, .slice none 0 0] 74) := ⟨_, rfl⟩
  have hb9 : Below V8.heap.size V8 V9 := by rw [hV9]; exact bal (brf V8) _
  have hrc : ∀ i, i < 3 → RC V9 V8.heap.size i (.slice none 0 0) := by
    intro i hi
    have t := TP_made V8 #[.slice none 0 0, .slice none 0 0, .slice none 0 0] 74 3 rfl i hi
    rw [hV9]
    refine ⟨?_, t.2⟩
    rw [World.cell?_alloc_new]
    match i, hi with
    | 0, _ => rfl
    | 1, _ => rfl
    | 2, _ => rfl
  have hq9 : V8.heap.size < V9.heap.size := by rw [hV9]; simp
  have HV9 := hide hV9
  have HB9 := hide hb9
  have HRC := hide hrc
  have HQ9 := hide hq9
  clear hV9 hb9 hrc hq9
  go_wp2_with fail
  rw [← unhide HV9]
  refine sL6 (W3 := V8) (W := V9) (q := V8.heap.size) (vs := lutsV (baseV (s.ins.map bit1) (stepV x st s)) x.luts) (ps := x.outs) rfl n4 (by rw [(unhide HHH).2.2.2.1]; omega) (hide (fun V hV => ((unhide HBX).later (btr (unhide HBW8) hV)).2.2.2.2.1)) (hide (pins_lit ((unhide HR4).later RPort.keeps (unhide HBW8)))) (hide (fun p hp => by rw [(unhide HHH).2.2.2.1]; exact houts p hp)) HIV HB9 (Nat.le_refl _) (unhide HQ9) (hide (unhide HRC 0 (by decide))) ?_
  intro y18 y139 y140 y141 y142 y143 y144 y145 y146 y147 y148 y149 y150 y151 y152 y153 y154 y155 y156 y157 y158 y159 y160 Va vo hvo hfa hra hoa
  have hqa : V8.heap.size < Va.heap.size := Nat.lt_of_lt_of_le (unhide HQ9) hfa.size
  have hba : Below V8.heap.size V8 Va := hfa.below (unhide HB9) (Nat.le_refl _) (Nat.le_of_lt (unhide HQ9))
  have HVO := hide hvo
  have HFA := hide hfa
  have HRA := hide hra
  have HBA := hide hba
  have HQA := hide hqa
  have HOA := hide (And.intro (hoa 1 _ (by decide) (unhide HRC 1 (by decide))) (hoa 2 _ (by decide) (unhide HRC 2 (by decide))))
  clear hvo hfa hra hoa hqa hba
  go_wp2_with fail
  refine sL7 (W3 := V8) (W := Va) (q := V8.heap.size) (vs := lutsV (baseV (s.ins.map bit1) (stepV x st s)) x.luts) (ps := x.checks) rfl n5 (by rw [(unhide HHH).2.2.2.1]; omega) (hide (fun V hV => ((unhide HBX).later (btr (unhide HBW8) hV)).2.2.2.2.2)) (hide (pins_lit ((unhide HR5).later RPort.keeps (unhide HBW8)))) (hide (fun p hp => by rw [(unhide HHH).2.2.2.1]; exact hchecks p hp)) HIV HBA (Nat.le_refl _) (unhide HQA) (hide (unhide HOA).1) ?_
  intro y19 y161 y162 y163 y164 y165 y166 y167 y168 y169 y170 y171 y172 y173 y174 y175 y176 y177 y178 y179 y180 y181 y182 Vb vc hvc hfb hrb hob
  have hqb : V8.heap.size < Vb.heap.size := Nat.lt_of_lt_of_le (unhide HQA) hfb.size
  have hbb : Below V8.heap.size V8 Vb := hfb.below (unhide HBA) (Nat.le_refl _) (Nat.le_of_lt (unhide HQA))
  have HVC := hide hvc
  have HFB := hide hfb
  have HRB := hide hrb
  have HBB := hide hbb
  have HQB := hide hqb
  have HOB := hide (And.intro (hob 0 _ (by decide) (unhide HRA)) (hob 2 _ (by decide) (unhide HOA).2))
  clear hvc hfb hrb hob hqb hbb
  go_wp2_with fail
  refine sL8 (W3 := V8) (W := Vb) (q := V8.heap.size) (st := stepV x st s) (unhide HN6) (by rw [(unhide HHH).2.2.2.2]; omega) (hide (ints_at2 (unhide HS8))) HBB (Nat.le_refl _) (unhide HQB) (hide (unhide HOB).2) ?_
  intro y20 y183 y184 y185 y186 y187 y188 y189 y190 y191 y192 y193 y194 y195 y196 y197 y198 Vc vr hvr hfc hrc hoc
  have hra := hoc 0 _ (by decide) (unhide HOB).1
  have hrb := hoc 1 _ (by decide) (unhide HRB)
  have hsa := (unhide HFA).size
  have hsb := (unhide HFB).size
  have hsc := hfc.size
  have hq9 := unhide HQ9
  have hbc : Below V8.heap.size V8 Vc := hfc.below (unhide HBB) (Nat.le_refl _) (Nat.le_of_lt (unhide HQB))
  have hbwc := btr (unhide HBW8) hbc
  -- the row's strings in the last world
  have o1 : OT V9.heap.size Vc vo (x.outs.map (fun p : Port => txt1 (srcV (lutsV (baseV (s.ins.map bit1) (stepV x st s)) x.luts) p.src))) := by
    have a1 := (unhide HVO).fx (unhide HFB) (fun e => by have := (unhide HVO).row _ e; omega)
    exact a1.fx hfc (fun e => by have := a1.row _ e; omega)
  have b1 : Bnd vo Va.heap.size := fun j hj => (World.ownsRow.lt (unhide HVO).1 j hj).2
  have o2 : OT Va.heap.size Vc vc (x.checks.map (fun p : Port => txt1 (srcV (lutsV (baseV (s.ins.map bit1) (stepV x st s)) x.luts) p.src))) := (unhide HVC).fx hfc (fun e => by have := (unhide HVC).row _ e; omega)
  have b2 : Bnd vc Vb.heap.size := fun j hj => (World.ownsRow.lt (unhide HVC).1 j hj).2
  have b3 : Bnd vr Vc.heap.size := fun j hj => (World.ownsRow.lt hvr.1 j hj).2
  have hs89 := (unhide HBW8).size
  have hrows := RowsO.snoc (r := rowV x (lutsV (baseV (s.ins.map bit1) (stepV x st s)) x.luts) (stepV x st s)) ((unhide HRW).later hbwc) (show E ≤ Va.heap.size by omega) (show Va.heap.size ≤ Vb.heap.size by omega) (show Vb.heap.size ≤ Vc.heap.size by omega) (o1.low (by omega)) b1 o2 b2 hvr b3
  have hown := own_later (unhide HOW) hbwc
  obtain ⟨a1, m1, d1, rfl⟩ := o1.shape
  obtain ⟨a2, m2, d2, rfl⟩ := o2.shape
  obtain ⟨a3, m3, d3, rfl⟩ := hvr.shape
  have k0 := hra.1
  have k1 := hrb.1
  have k2 := hrc.1
  have hbD : Below Vc.heap.size Vc (Vc.alloc (.cells #[.slice a1 m1 d1, .slice a2 m2 d2, .slice a3 m3 d3] 74)) := bal (brf Vc) _
  have HROW := hide (hrows.later hbD)
  have HOWN := hide (own_later hown hbD)
  have HSC := hide (((unhide HO8).later hbc).later hbD)
  have HNC := hide (show N ≤ (Vc.alloc (.cells #[.slice a1 m1 d1, .slice a2 m2 d2, .slice a3 m3 d3] 74)).heap.size by simp; omega)
  have HBD := hide ((btr hbwc hbD).mono hN)
  clear hrows hown o1 o2 b1 b2 b3 hvr hfc hrc hoc hra hrb hbc hbwc hbD
  go_wp2_with (first
    | (at_builtin; refine wpList_append_own _ rfl _ _ 31 rfl N 74 i75 (.agg #[.slice none 0 0, .slice none 0 0, .slice none 0 0]) 3 72 Tryz.underlying31 (unhide HI).1 (unhide HI).2.1 (unhide HI).2.2.1 (unhide HI).2.2.2 rfl (by decide) _ _ _ rfl (unhide HOWN) ⟨Vc.heap.size, 0, none⟩ 1 1 [.slice a1 m1 d1, .slice a2 m2 d2, .slice a3 m3 d3] rfl rfl (newR _ _ _ _ _ rfl) (oneR _ _ _ _ _ _ _ _ _) (by unfold maxLen; omega) (by omega) (unhide HNC) ?_; intro v' w2 hown' hgrow _)
    | go_in)
  have hlow := below_grown (Below.refl N (Vc.alloc (.cells #[.slice a1 m1 d1, .slice a2 m2 d2, .slice a3 m3 d3] 74))) hgrow (unhide HNC) (fun j hj => (World.ownsRow.lt (unhide HOWN) j hj).1)
  have hroww := (unhide HROW).grown hgrow (own_type (unhide HOWN))
  have hgs := hgrow.size
  rw [← rcs_append] at hown'
  have hst2 := (unhide HSC).grown hgrow (own_type (unhide HOWN))
  exact unhide HQ _ _ _ _ _ _ _ _ _ _ _ _ _ _ _ _ _ _ _ _ _ _ _ _ _ _ _ _ _ _ _ _ _ _ _ _ _ _ _ _ _ _ _ _ _ _ _ _ _ _ _ _ _ _ _ _ _ _ _ _ _ _ _ _ _ _ _ _ _ _ _ _ _ _ _ _ _ _ _ _ _ _ _ _ _ _ _ _ _ _ _ _ _ _ _ _ _ _ _ _ _ _ _ _ _ _ _ _ _ _ _ _ _ _ _ _ _ _ _ _ _ _ _ _ _ _ _ _ _ _ _ _ _ _ _ _ _ _ _ _ w2 _ hst2 ⟨_, _, _, rfl⟩ hown' ⟨Vc.heap.size, hroww, by simp at hgs; omega⟩ ((unhide HBD).trans hlow)
end Go.Proofs.YthbcokioijpofabGreat
