/- The specification's PackRun: the loop of the next states. -/
import Derived.Test.YtdmmbhemmbgcpabGreatPT5a
import Derived.Test.YtdmmbhemmbgcpabGreatGQ9
namespace Go.Proofs.YtdmmbhemmbgcpabGreat
open Go Go.RowKit Gs
set_option linter.unusedVariables false
set_option linter.unusedSimpArgs false
set_option maxRecDepth 100000
theorem F2x.fx {g q : Nat} {W V : World} (h : Fx g W V) : F2x g q W V := ⟨h.os, h.tape, h.output, h.size, fun k hk h1 _ => h.block k hk h1⟩
theorem F2x.set {g q : Nat} (i : Nat) (W : World) (v : Value) : F2x g q W (W.setCell ⟨q, i, none⟩ v) :=
  have h := Fx.set q i W v
  ⟨h.os, h.tape, h.output, h.size, fun k hk _ h2 => h.block k hk h2⟩
theorem getD_set_self {xs : List Bool} {k : Nat} {y : Bool} (h : k < xs.length) : (xs.set k y).getD k false = y := by
  rw [List.getD_eq_getElem?_getD, List.getElem?_set_self h]; rfl
theorem getD_set_other {xs : List Bool} {k i : Nat} {y : Bool} (h : i ≠ k) : (xs.set k y).getD i false = xs.getD i false := by
  rw [List.getD_eq_getElem?_getD, List.getElem?_set_ne (fun e => h e.symm), List.getD_eq_getElem?_getD]
set_option maxHeartbeats 64000000 in
theorem prL5 {u0 u3 u4 u5 u6 u7 u9 u10 u11 u14 u18 u19 u20 u21 u22 u23 u24 u25 u26 u27 u28 u29 u30 u31 u32 u33 u34 u35 u36 u37 u38 u39 u40 u41 u42 u43 u44 u45 u46 u47 u48 u49 u50 u51 u52 u53 u54 u55 u56 u57 u58 u59 u60 u61 u62 u63 u64 u65 u66 u67 u68 u69 u70 u71 u72 u73 u74 u75 u76 u77 u78 u79 u80 u81 u82 u83 u84 u85 u86 u87 u88 u89 u90 u91 u92 u93 u94 u95 u96 u97 u98 u99 u100 u101 u102 u103 u104 u105 u106 u107 u108 u109 u110 u111 u112 u113 u114 u115 u116 u117 u118 u119 u120 u121 u122 u123 u124 u125 u126 u127 u128 u129 u130 u131 u132 u133 u134 u135 u136 u137 u138 u139 u140 u141 u142 u143 u144 u145 u146 u147 u148 u149 u150 u151 u152 u153 u154 u155 u156 u157 u158 u159 u160 u161 u162 u163 u164 u165 u166 u167 u168 u169 u170 u171 u172 u173 u174 u175 u176 u177 u178 u179 u180 u181 u182 u183 u184 u185 u186 u187 u188 u189 u190 u191 u192 u193 u194 u195 u196 u197 u198 u199 u200 u201 u202 u203 u204 u205 u206 u207 u208 u209 u210 u211 u212 u213 u214 u215 u216 u217 u218 u219 u220 u221 u222 u223 u224 u225 u226 u227 : Value} {s0 s1 s2 s3 s4 : Option Addr} {l0 c0 l1 c1 l2 c2 l3 c3 l4 c4 : Nat} {pb sb so sl sc K lt ct g nb N li ci ls cs : Nat} {stk ai az : Option Addr} {nv : Value} {x : Packed} {st : List Bool} {s : Step} {w W : World} {Q : Exit → Act → World → Prop} (hx : PkFit x) (hN : N = x.ins.length + x.blocks.length) (hst : st.length = x.blocks.length) (hK : K < sl) (hsl : sl ≤ 4096) (hlt' : lt = x.clocks.length) (htk : s.ticks.length = x.clocks.length) (HRB : Hid (RS 6 RBlock w 0 x.blocks (.slice s2 l2 c2)))
    (HSC : Hid (w.cell? ⟨sb, so + K * 2 + 1, none⟩ = some (.slice stk lt ct) ∧ sl ≤ sc)) (HTK : Hid (∀ (i : Nat) y, s.ticks[i]? = some y → ∃ b o, stk = some ⟨b, o, none⟩ ∧ lt ≤ ct ∧ w.cell? ⟨b, o + i, none⟩ = some (.bool y)))
    (HSE : Hid (SE w g N x (s.ins.map bit1) st (.slice ai li ci) (.slice az ls cs) W)) (HCON : Hid (∀ y : Int, 0 ≤ y → y < (N : Int) → ∀ V, SE w g N x (s.ins.map bit1) st (.slice ai li ci) (.slice az ls cs) V → Calls Tryz.prog 26 #[.agg #[.slice s0 l0 c0, .slice s1 l1 c1, .slice s2 l2 c2, .slice s3 l3 c3, .slice s4 l4 c4], .int .i64 y, .slice ai li ci, .slice az ls cs, .slice (some ⟨g, 0, none⟩) N N] V fun e w' => e = .returned (.int .i64 (b2i (valP x.blocks (s.ins.map bit1) st y))) ∧ SE w g N x (s.ins.map bit1) st (.slice ai li ci) (.slice az ls cs) w' ∧ Fx g V w')) (HBX : Hid (∀ V, Below g W V → V.cell? ⟨pb, 0, none⟩ = some (.slice s0 l0 c0) ∧ V.cell? ⟨pb, 1, none⟩ = some (.slice s1 l1 c1) ∧ V.cell? ⟨pb, 2, none⟩ = some (.slice s2 l2 c2) ∧ V.cell? ⟨pb, 3, none⟩ = some (.slice s3 l3 c3) ∧ V.cell? ⟨pb, 4, none⟩ = some (.slice s4 l4 c4))) (hgn : g < nb ∧ nb < W.heap.size) (HOI : Hid (∀ j, (.slice ai li ci : Value).ownBlock = some j → j < g)) (HOS : Hid (∀ j, (.slice az ls cs : Value).ownBlock = some j → j < g))
    (HNV : Hid (0 < x.blocks.length → ∃ c, nv = .slice (some ⟨nb, 0, none⟩) x.blocks.length c)) (HO : Hid (OI w.heap.size W nv (st.map b2i)))
    (hQ : ∀ (z17 z107 z108 z109 z110 z111 z112 z113 z114 z115 z116 z117 z118 z119 z120 z121 z122 z123 z124 z125 z126 z127 z128 z129 z130 z131 z132 z133 z134 z135 z136 z137 z138 z139 z140 z141 z142 z143 z144 z145 z146 z147 : Value) V, OI w.heap.size V nv ((stepP x.blocks st s).map b2i) → SE w g N x (s.ins.map bit1) st (.slice ai li ci) (.slice az ls cs) V → F2x g nb W V → Q (.exit 8) { tmps := (u0 :: .slice (some ⟨sb, so, none⟩) sl sc :: .pointer (some ⟨pb, 0, none⟩) :: u3 :: u4 :: u5 :: u6 :: u7 :: .slice az ls cs :: u9 :: u10 :: u11 :: .int .i64 (K : Int) :: .slice ai li ci :: u14 :: .slice (some ⟨g, 0, none⟩) N N :: nv :: z17 :: u18 :: u19 :: u20 :: u21 :: u22 :: u23 :: u24 :: u25 :: u26 :: u27 :: u28 :: u29 :: u30 :: u31 :: u32 :: u33 :: u34 :: u35 :: u36 :: u37 :: u38 :: u39 :: u40 :: u41 :: u42 :: u43 :: u44 :: u45 :: u46 :: u47 :: u48 :: u49 :: u50 :: u51 :: u52 :: u53 :: u54 :: u55 :: u56 :: u57 :: u58 :: u59 :: u60 :: u61 :: u62 :: u63 :: u64 :: u65 :: u66 :: u67 :: u68 :: u69 :: u70 :: u71 :: u72 :: u73 :: u74 :: u75 :: u76 :: u77 :: u78 :: u79 :: u80 :: u81 :: u82 :: u83 :: u84 :: u85 :: u86 :: u87 :: u88 :: u89 :: u90 :: u91 :: u92 :: u93 :: u94 :: u95 :: u96 :: u97 :: u98 :: u99 :: u100 :: u101 :: u102 :: u103 :: u104 :: u105 :: u106 :: z107 :: z108 :: z109 :: z110 :: z111 :: z112 :: z113 :: z114 :: z115 :: z116 :: z117 :: z118 :: z119 :: z120 :: z121 :: z122 :: z123 :: z124 :: z125 :: z126 :: z127 :: z128 :: z129 :: z130 :: z131 :: z132 :: z133 :: z134 :: z135 :: z136 :: z137 :: z138 :: z139 :: z140 :: z141 :: z142 :: z143 :: z144 :: z145 :: z146 :: z147 :: u148 :: u149 :: u150 :: u151 :: u152 :: u153 :: u154 :: u155 :: u156 :: u157 :: u158 :: u159 :: u160 :: u161 :: u162 :: u163 :: u164 :: u165 :: u166 :: u167 :: u168 :: u169 :: u170 :: u171 :: u172 :: u173 :: u174 :: u175 :: u176 :: u177 :: u178 :: u179 :: u180 :: u181 :: u182 :: u183 :: u184 :: u185 :: u186 :: u187 :: u188 :: u189 :: u190 :: u191 :: u192 :: u193 :: u194 :: u195 :: u196 :: u197 :: u198 :: u199 :: u200 :: u201 :: u202 :: u203 :: u204 :: u205 :: u206 :: u207 :: u208 :: u209 :: u210 :: u211 :: u212 :: u213 :: u214 :: u215 :: u216 :: u217 :: u218 :: u219 :: u220 :: u221 :: u222 :: u223 :: u224 :: u225 :: u226 :: u227 :: []).toArray, defers := [] } V) :
    Code.wp Tryz.prog (atB 8 (bodyOf Tryz.f6)) Q { tmps := (u0 :: .slice (some ⟨sb, so, none⟩) sl sc :: .pointer (some ⟨pb, 0, none⟩) :: u3 :: u4 :: u5 :: u6 :: u7 :: .slice az ls cs :: u9 :: u10 :: u11 :: .int .i64 (K : Int) :: .slice ai li ci :: u14 :: .slice (some ⟨g, 0, none⟩) N N :: nv :: .int .i64 0 :: u18 :: u19 :: u20 :: u21 :: u22 :: u23 :: u24 :: u25 :: u26 :: u27 :: u28 :: u29 :: u30 :: u31 :: u32 :: u33 :: u34 :: u35 :: u36 :: u37 :: u38 :: u39 :: u40 :: u41 :: u42 :: u43 :: u44 :: u45 :: u46 :: u47 :: u48 :: u49 :: u50 :: u51 :: u52 :: u53 :: u54 :: u55 :: u56 :: u57 :: u58 :: u59 :: u60 :: u61 :: u62 :: u63 :: u64 :: u65 :: u66 :: u67 :: u68 :: u69 :: u70 :: u71 :: u72 :: u73 :: u74 :: u75 :: u76 :: u77 :: u78 :: u79 :: u80 :: u81 :: u82 :: u83 :: u84 :: u85 :: u86 :: u87 :: u88 :: u89 :: u90 :: u91 :: u92 :: u93 :: u94 :: u95 :: u96 :: u97 :: u98 :: u99 :: u100 :: u101 :: u102 :: u103 :: u104 :: u105 :: u106 :: u107 :: u108 :: u109 :: u110 :: u111 :: u112 :: u113 :: u114 :: u115 :: u116 :: u117 :: u118 :: u119 :: u120 :: u121 :: u122 :: u123 :: u124 :: u125 :: u126 :: u127 :: u128 :: u129 :: u130 :: u131 :: u132 :: u133 :: u134 :: u135 :: u136 :: u137 :: u138 :: u139 :: u140 :: u141 :: u142 :: u143 :: u144 :: u145 :: u146 :: u147 :: u148 :: u149 :: u150 :: u151 :: u152 :: u153 :: u154 :: u155 :: u156 :: u157 :: u158 :: u159 :: u160 :: u161 :: u162 :: u163 :: u164 :: u165 :: u166 :: u167 :: u168 :: u169 :: u170 :: u171 :: u172 :: u173 :: u174 :: u175 :: u176 :: u177 :: u178 :: u179 :: u180 :: u181 :: u182 :: u183 :: u184 :: u185 :: u186 :: u187 :: u188 :: u189 :: u190 :: u191 :: u192 :: u193 :: u194 :: u195 :: u196 :: u197 :: u198 :: u199 :: u200 :: u201 :: u202 :: u203 :: u204 :: u205 :: u206 :: u207 :: u208 :: u209 :: u210 :: u211 :: u212 :: u213 :: u214 :: u215 :: u216 :: u217 :: u218 :: u219 :: u220 :: u221 :: u222 :: u223 :: u224 :: u225 :: u226 :: u227 :: []).toArray, defers := [] } W := by
  have hl2 : l2 = x.blocks.length := by
    obtain ⟨a, c, hv, _⟩ := unhide HRB
    injection hv with e1 e2 e3
  have HL2 := hide hl2
  have HX := hide hx
  have HN := hide hN
  have HST0 := hide hst
  have HTL := hide htk
  have HLT := hide hlt'
  have hn2 := hx.n2
  have hL1 : l2 ≤ 512 := by omega
  have HQ := hide hQ
  clear hQ hl2 hx hN hst htk hlt' hn2
  conv => arg 2; whnf
  go_loopw [17] (fun i wr => ∃ (k : Nat) (nw : List Bool), k ≤ l2 ∧ i = .int .i64 k ∧ nw.length = x.blocks.length ∧ OI w.heap.size wr nv (nw.map b2i) ∧ (∀ i, i < x.blocks.length → nw.getD i false = if i < k then (stepP x.blocks st s).getD i false else st.getD i false) ∧ SE w g N x (s.ins.map bit1) st (.slice ai li ci) (.slice az ls cs) wr ∧ F2x g nb W wr) (fun i wr => l2 - (intOf i).toNat)
  case atStart => exact ⟨0, st, Nat.zero_le _, rfl, unhide HST0, unhide HO, fun i hi => by rw [if_neg (Nat.not_lt_zero _)], unhide HSE, F2x.refl _ _ _⟩
  case round =>
    obtain ⟨k, nw, hk, rfl, hnl, hot, hnw, hse, hfx⟩ := hrel
    have hbg : Below g W wr := hfx.below (Nat.le_refl _) (by omega) (by omega)
    obtain ⟨q0, q1, q2, q3, q4⟩ := unhide HBX wr hbg
    by_cases hlt : k < l2
    · have hkb : k < x.blocks.length := by have := unhide HL2; omega
      have hxb := getD_some hkb
      have hmem := getD_mem hkb
      obtain ⟨nc, rfl⟩ := unhide HNV (by omega)
      have hblk := (unhide HX).blk _ hmem
      have hreg := (unhide HX).reg _ hmem
      have hstp := stepP_at (st := st) (s := s) hxb
      have hsrc : ∀ z ∈ (x.blocks.getD k blk0).inp, 0 ≤ z ∧ z < (N : Int) := fun z hz => by rw [unhide HN]; exact (unhide HX).fit.src k _ hxb z hz
      generalize x.blocks.getD k blk0 = b at *
      obtain ⟨b2, o2, a1, d1, hs2, hcap, _, hcell, hrin, _⟩ := block_cells (unhide HRB) hxb
      have hbw := hse.below
      have z0 := cell_later hbw (hcell 0 _ rfl)
      have z1 := cell_later hbw (hcell 1 _ rfl)
      have z2 := cell_later hbw (hcell 2 _ rfl)
      have z3 := cell_later hbw (hcell 3 _ rfl)
      have z4 := cell_later hbw (hcell 4 _ rfl)
      have z5 := cell_later hbw (hcell 5 _ rfl)
      simp only [Nat.add_zero] at z0
      have ks := cell_later hbw (unhide HSC).1
      have hslc := (unhide HSC).2
      have i0 : (0 : Int) ≤ (k : Int) := by omega
      have i1 : (k : Int) < (l2 : Int) := by omega
      have i2 : (K : Int) < (sl : Int) := by omega
      have i3 : (0 : Int) ≤ (K : Int) := by omega
      have HSR := hide hse
      have HFX := hide hfx
      have HOT := hide hot
      have HNW := hide hnw
      have HNL := hide hnl
      have HSTP := hide hstp
      have SKIP : Hid ((b.reg && s.ticks.getD b.clock.toNat false) = false → ∀ i, i < x.blocks.length → nw.getD i false = if i < k + 1 then (stepP x.blocks st s).getD i false else st.getD i false) := hide (fun h i hi => by
        by_cases e : i = k
        · subst e
          rw [if_pos (by omega), unhide HSTP, h, unhide HNW i hi, if_neg (by omega)]; simp
        · rw [unhide HNW i hi]
          by_cases c : i < k
          · rw [if_pos c, if_pos (by omega)]
          · rw [if_neg c, if_neg (by omega)])
      have HBG := hide hbg
      cases hrg : b.reg
      · rw [hrg] at z3 SKIP
        have HSK := hide (unhide SKIP rfl)
        subst hs2
        clear hse hfx hot hnw hnl hstp hbg hbw hcell hrin hxb hmem hblk hreg hsrc SKIP ks hslc hrg z0 z1 z2 z4 z5 HCON
        go_wp2
        go_quiet (fail)
        go_wp2
        go_roundw
        case rel => exact ⟨k + 1, nw, by omega, by go_num, unhide HNL, OI.later (unhide HOT) (bdq (brf wr)), unhide HSK, (unhide HSR).later (bdq (brf wr)), (unhide HFX).trans (F2x.of (bdq (brf wr)))⟩
        case measure => simp [intOf]; omega
      · obtain ⟨hini, hc0, hc1⟩ := hreg hrg
        obtain ⟨ck, hck⟩ : ∃ ck : Nat, b.clock = (ck : Int) := ⟨b.clock.toNat, by omega⟩
        have hckl : ck < s.ticks.length := by have := unhide HTL; omega
        have htx : s.ticks[ck]? = some (s.ticks.getD ck false) := by rw [List.getD_eq_getElem?_getD, List.getElem?_eq_getElem hckl]; rfl
        rw [hck, Int.toNat_natCast] at HSTP SKIP
        obtain ⟨tb, to, hstk, hltc, hct⟩ := unhide HTK ck _ htx
        generalize s.ticks.getD ck false = tk at *
        have kt := cell_later hbw hct
        have i4 : (0 : Int) ≤ (ck : Int) := by omega
        have i5 : (ck : Int) < (lt : Int) := by have := unhide HLT; have := unhide HTL; omega
        rw [hrg] at SKIP HSTP
        have HLK : Hid (∀ V, SE w g N x (s.ins.map bit1) st (.slice ai li ci) (.slice az ls cs) V → Calls Tryz.prog 24 #[.agg #[.slice s0 l0 c0, .slice s1 l1 c1, .slice (some ⟨b2, o2, none⟩) l2 c2, .slice s3 l3 c3, .slice s4 l4 c4], .agg #[.string b.name, .slice a1 b.inp.length d1, .int .i64 b.table, .bool b.reg, .int .i64 b.init, .int .i64 b.clock], .slice ai li ci, .slice az ls cs, .slice (some ⟨g, 0, none⟩) N N] V fun e w' => e = .returned (.int .i64 (b2i (lookF (valP x.blocks (s.ins.map bit1) st) b))) ∧ SE w g N x (s.ins.map bit1) st (.slice ai li ci) (.slice az ls cs) w' ∧ Fx g V w') := hide (fun V hV => sLook x (s.ins.map bit1) st w b rfl hrin hblk.1 hblk.2.1 hblk.2.2 (hide (fun z hz U hU => by
          obtain ⟨z0', z1'⟩ := hsrc z hz
          have := unhide HCON z z0' z1' U hU
          rw [hs2] at this
          exact this)) V hV)
        have hob : Hid (∀ U, Below w.heap.size w U → U.cell? ⟨b2, o2 + k * 6, none⟩ = some (.string b.name) ∧ U.cell? ⟨b2, o2 + k * 6 + 1, none⟩ = some (.slice a1 b.inp.length d1) ∧ U.cell? ⟨b2, o2 + k * 6 + 2, none⟩ = some (.int .i64 b.table) ∧ U.cell? ⟨b2, o2 + k * 6 + 3, none⟩ = some (.bool b.reg) ∧ U.cell? ⟨b2, o2 + k * 6 + 4, none⟩ = some (.int .i64 b.init) ∧ U.cell? ⟨b2, o2 + k * 6 + 5, none⟩ = some (.int .i64 b.clock)) := hide (fun U hU => ⟨cell_later hU (hcell 0 _ rfl), cell_later hU (hcell 1 _ rfl), cell_later hU (hcell 2 _ rfl), cell_later hU (hcell 3 _ rfl), cell_later hU (hcell 4 _ rfl), cell_later hU (hcell 5 _ rfl)⟩)
        obtain ⟨cc, hcc, hcf⟩ : ∃ ov, wr.cell? ⟨nb, k, none⟩ = some ov ∧ wr.frozen? ⟨nb, k, none⟩ = false := by
          obtain ⟨g', c', hv, _, hcl⟩ := hot.atS (by rw [List.length_map]; omega)
          injection hv with e1 e2 e3
          injection e1 with e1
          injection e1 with e1
          subst e1
          obtain ⟨h1, h2⟩ := hcl k (b2i (nw[k]'(by omega))) (by rw [List.getElem?_map, List.getElem?_eq_getElem (by omega)]; rfl)
          exact ⟨_, h1, h2⟩
        have HCC := hide hcc
        have HCF := hide hcf
        subst hs2
        subst hstk
        rw [hrg] at z3
        rw [hck] at z5
        have hl21 : l2 = x.blocks.length := unhide HL2
        have HL21 := hide hl21
        cases tk
        · have HSK := hide (unhide SKIP rfl)
          clear hse hfx hot hnw hnl hstp hbg hbw hcell hrin hxb hmem hblk hreg hsrc SKIP hrg z0 z1 z2 z4 HCON HLK hob hcc hcf hct htx hckl hck hini hc0 hc1 hl21
          go_wp2
          go_quiet (fail)
          go_wp2
          go_roundw
          case rel => exact ⟨k + 1, nw, by omega, by go_num, unhide HNL, OI.later (unhide HOT) (bdq (brf wr)), unhide HSK, (unhide HSR).later (bdq (brf wr)), (unhide HFX).trans (F2x.of (bdq (brf wr)))⟩
          case measure => simp [intOf]; omega
        · have hA : (stepP x.blocks st s).getD k false = lookF (valP x.blocks (s.ins.map bit1) st) b := by rw [unhide HSTP]; simp
          have HA := hide hA
          clear hse hfx hot hnw hnl hstp hbg hbw hcell hrin hxb hmem hblk hreg hsrc SKIP z0 z1 z2 z4 HCON hcc hcf hct htx hckl hini hc0 hc1 hl21 hA
          go_wp2
          go_quiet (fail)
          go_wp2
          obtain ⟨X, hX⟩ : ∃ X, X = wr.drewN nq := ⟨_, rfl⟩
          rw [← hX]
          have hWX : Below wr.heap.size wr X := by rw [hX]; exact bdq (brf wr)
          have HSX := hide ((unhide HSR).later hWX)
          have HOX := hide (OI.later (unhide HOT) hWX)
          have HFXX := hide ((unhide HFX).trans (F2x.of (g := g) (q := nb) hWX))
          have HNC := hide (cell_later hWX (unhide HCC))
          have HNF := hide (frozen_later hWX (unhide HCC) (unhide HCF))
          have HPX : Hid (∀ U, Fx g X U → (U.cell? ⟨pb, 0, none⟩ = some (.slice s0 l0 c0) ∧ U.cell? ⟨pb, 1, none⟩ = some (.slice s1 l1 c1) ∧ U.cell? ⟨pb, 2, none⟩ = some (.slice (some ⟨b2, o2, none⟩) l2 c2) ∧ U.cell? ⟨pb, 3, none⟩ = some (.slice s3 l3 c3) ∧ U.cell? ⟨pb, 4, none⟩ = some (.slice s4 l4 c4)) ∧ (U.cell? ⟨b2, o2 + k * 6, none⟩ = some (.string b.name) ∧ U.cell? ⟨b2, o2 + k * 6 + 1, none⟩ = some (.slice a1 b.inp.length d1) ∧ U.cell? ⟨b2, o2 + k * 6 + 2, none⟩ = some (.int .i64 b.table) ∧ U.cell? ⟨b2, o2 + k * 6 + 3, none⟩ = some (.bool b.reg) ∧ U.cell? ⟨b2, o2 + k * 6 + 4, none⟩ = some (.int .i64 b.init) ∧ U.cell? ⟨b2, o2 + k * 6 + 5, none⟩ = some (.int .i64 b.clock))) := hide (fun U hU => by
            have hb : Below g X U := hU.belowg (by have := (unhide HSX).lt; omega)
            refine ⟨unhide HBX U (((unhide HBG).trans (hWX.mono (by have := (unhide HSR).lt; omega))).trans hb), unhide hob U ((unhide HSX).below.trans (hb.mono (unhide HSX).hg))⟩)
          have hnl2 : x.blocks.length ≤ 1000 := by have := unhide HL21; omega
          have hkl2 : k < x.blocks.length := by have := unhide HL21; omega
          clear hX hWX HSR HOT HFX HCC HCF hob HBG ks kt hslc z3 z5 hltc
          refine prNext (x := x) (ins := s.ins.map bit1) (st := st) (w := w) (b := b) (A := lookF (valP x.blocks (s.ins.map bit1) st) b) (g := g) (nb := nb) (nl := x.blocks.length) (nc := nc) (N := N) (k := k) (pb := pb) (b2 := b2) (o2 := o2) (l2 := l2) (c2 := c2) HSX hgn.1 hkl2 hlt hcap hnl2 (by omega) HNC HNF HPX HLK _ rfl rfl rfl rfl rfl rfl rfl ?_
          intro a V V' hnt hdf hkeep hse' hfx' hV
          obtain ⟨us, rfl, hus⟩ := putAll_of [135, 136, 137, 138, 139, 140, 141, 142, 143, 144, 145, 146, 147] hnt hdf hkeep
          have ho0 : OI w.heap.size V' (.slice (some ⟨nb, 0, none⟩) x.blocks.length nc) (nw.map b2i) := Fx.row (unhide HOX) hfx' (fun e => by
            have e2 : nb = g := Option.some.inj e
            omega)
          have ho' := OI.set ho0 k (b2i (lookF (valP x.blocks (s.ins.map bit1) st) b))
          rw [← List.map_set, ← hV] at ho'
          have hbn : Below nb V' V := by rw [hV]; exact (Below.refl nb V').setCell (Nat.le_refl nb) _
          have RO := hide ho'
          have RS2 := hide (hse'.under hbn hgn.1 (fun j hj => by have := unhide HOI j hj; omega) (fun j hj => by have := unhide HOS j hj; omega))
          have RF : Hid (F2x g nb W V) := hide ((unhide HFXX).trans ((F2x.fx (g := g) (q := nb) hfx').trans (show F2x g nb V' V by rw [hV]; exact F2x.set k V' _)))
          have RN : Hid (∀ i, i < x.blocks.length → (nw.set k (lookF (valP x.blocks (s.ins.map bit1) st) b)).getD i false = if i < k + 1 then (stepP x.blocks st s).getD i false else st.getD i false) := hide (fun i hi => by
            by_cases e : i = k
            · subst e
              rw [getD_set_self (by rw [unhide HNL]; exact hi), if_pos (by omega), unhide HA]
            · rw [getD_set_other e, unhide HNW i hi]
              by_cases c : i < k
              · rw [if_pos c, if_pos (by omega)]
              · rw [if_neg c, if_neg (by omega)])
          have RL : Hid ((nw.set k (lookF (valP x.blocks (s.ins.map bit1) st) b)).length = x.blocks.length) := hide (by rw [List.length_set]; exact unhide HNL)
          clear hnt hdf hkeep hus ho0 ho' hbn hse' hfx' hV HSX HOX HFXX HNC HNF HPX HLK
          simp only [putAll, List.foldl, Act.put, List.setIfInBounds_toArray, List.set_cons_zero, List.set_cons_succ]
          generalize us 135 = z135x at *
          generalize us 136 = z136x at *
          generalize us 137 = z137x at *
          generalize us 138 = z138x at *
          generalize us 139 = z139x at *
          generalize us 140 = z140x at *
          generalize us 141 = z141x at *
          generalize us 142 = z142x at *
          generalize us 143 = z143x at *
          generalize us 144 = z144x at *
          generalize us 145 = z145x at *
          generalize us 146 = z146x at *
          generalize us 147 = z147x at *
          go_wp2_with fail
          go_roundw
          case rel => exact ⟨k + 1, _, by omega, by go_num, unhide RL, unhide RO, unhide RN, unhide RS2, unhide RF⟩
          case measure => simp [intOf]; omega
    · obtain rfl : k = l2 := by omega
      have hfin : nw = stepP x.blocks st s := by
        have hl := stepP_len x.blocks st s
        apply List.ext_getElem?
        intro i
        by_cases hi : i < x.blocks.length
        · have h := hnw i hi
          rw [if_pos (by have := unhide HL2; omega)] at h
          rw [List.getElem?_eq_getElem (by omega), List.getElem?_eq_getElem (by omega)]
          rw [List.getD_eq_getElem?_getD, List.getElem?_eq_getElem (by omega), List.getD_eq_getElem?_getD, List.getElem?_eq_getElem (by omega)] at h
          simpa using h
        · rw [List.getElem?_eq_none (by omega), List.getElem?_eq_none (by omega)]
      rw [hfin] at hot
      have HOT := hide hot
      have HFX := hide hfx
      have HSR := hide hse
      clear hot hfx hse hbg hnw hfin
      go_wp2_with fail
      exact unhide HQ _ _ _ _ _ _ _ _ _ _ _ _ _ _ _ _ _ _ _ _ _ _ _ _ _ _ _ _ _ _ _ _ _ _ _ _ _ _ _ _ _ _ wr (unhide HOT) (unhide HSR) (unhide HFX)
end Go.Proofs.YtdmmbhemmbgcpabGreat
namespace Go.Proofs.YtdmmbhemmbgcpabGreat
open Go Go.RowKit Gs
set_option linter.unusedVariables false
set_option linter.unusedSimpArgs false
set_option maxRecDepth 100000
theorem regs_any {B : Nat} {W : World} {v : Value} {x : Packed} {f : Int → Int} (h : OW 127 4 regC B W v (unpackM x f).regs) (hn : ∀ b ∈ x.blocks, b.name.size ≤ maxLen) (hl : x.blocks.length ≤ 1000000) : RS 4 RMapReg W 0 (unpackM x f).regs v := by
  have h2 := numsB_two x.blocks x.blocks.length
  have hlen := (unpack_len x f).1
  refine (OW.read regC_len (fun l hm => ?_) h (by unfold maxLen; omega)).low RMapReg.lowers (Nat.zero_le _)
  obtain ⟨q, k, hk, hr, hq, rfl⟩ := unpack_reg hm
  exact ⟨rfl, hn _ (getD_mem hk)⟩
theorem blk_names {w : World} {bs : List Block} {v : Value} (h : RS 6 RBlock w 0 bs v) : ∀ b ∈ bs, b.name.size ≤ maxLen := by
  intro b hb
  obtain ⟨a, c, rfl⟩ := h.slice
  obtain ⟨k, hk⟩ := List.getElem?_of_mem hb
  obtain ⟨_, _, _, _, _, _, _, _, _, hs⟩ := block_cells h hk
  exact hs
set_option maxHeartbeats 16000000 in
theorem iPackRun (x : Packed) (u : List Value) (steps : List Step) (sv : Value) (w : World) (hl : szPacked x ≤ 1048576) (hr : RPacked w 0 x u) (hs : RS 2 RStep w 0 steps sv) (hsl : steps.length ≤ 1048576) :
    Calls Tryz.prog 9 #[.agg u.toArray, sv] w fun e w' => (∃ v us E, e = .returned (.tuple #[v, .int .i64 (runP x steps).2]) ∧ w'.ownsRow w.heap.size 71 3 v (runP x steps).1.length (rcs us) ∧ RowsO w' w.heap.size E us (runP x steps).1 ∧ E ≤ w'.heap.size) ∧ Below w.heap.size w w' := by
  have HOK := hide (fun (V : World) (hb : Below w.heap.size w V) => iPackOK x u V hl (RPacked.keeps _ _ _ _ _ (fun b o y _ hc => cell_later hb hc) hr))
  have hz : szPacked x = szL (fun (s : ByteArray) => s.size) x.ins + szL (fun (s : ByteArray) => s.size) x.clocks + szL szBlock x.blocks + szL szPort x.outs + szL szPort x.checks := rfl
  have z0 := szL_sm (fun (s : ByteArray) => s.size) x.ins
  have z1 := szL_sm (fun (s : ByteArray) => s.size) x.clocks
  have z2 := szL_sm szBlock x.blocks
  have z3 := szL_sm szPort x.outs
  have z4 := szL_sm szPort x.checks
  have HIL := hide (blk_in hl)
  have b0 : x.ins.length ≤ 1048576 := by omega
  have b1 : x.clocks.length ≤ 1048576 := by omega
  have b2 : x.blocks.length ≤ 1048576 := by omega
  have b3 : x.outs.length ≤ 1048576 := by omega
  have b4 : x.checks.length ≤ 1048576 := by omega
  clear hz z0 z1 z2 z3 z4 hl
  obtain ⟨v0, v1, v2, v3, v4, rfl, h0, h1, h2, h3, h4⟩ := hr
  obtain ⟨s0, c0, e0⟩ := h0.slice
  obtain ⟨s1, c1, e1⟩ := h1.slice
  obtain ⟨s2, c2, e2⟩ := h2.slice
  obtain ⟨s3, c3, e3⟩ := h3.slice
  obtain ⟨s4, c4, e4⟩ := h4.slice
  subst e0 e1 e2 e3 e4
  have HS := hide hs
  have H0 := hide h0
  have H1 := hide h1
  have H2 := hide h2
  have H3 := hide h3
  have H4 := hide h4
  obtain ⟨sa, sc, rfl⟩ := hs.slice
  clear hs h0 h1 h2 h3 h4
  show Calls Tryz.prog 9 #[.agg #[.slice s0 x.ins.length c0, .slice s1 x.clocks.length c1, .slice s2 x.blocks.length c2, .slice s3 x.outs.length c3, .slice s4 x.checks.length c4], .slice sa steps.length sc] w _
  change Hid (∀ (V : World), Below w.heap.size w V → Calls Tryz.prog 31 #[.agg #[.slice s0 x.ins.length c0, .slice s1 x.clocks.length c1, .slice s2 x.blocks.length c2, .slice s3 x.outs.length c3, .slice s4 x.checks.length c4]] V _) at HOK
  by_cases hlong : steps.length ≤ 4096
  · have hd : decide ((4096 : Int) < (steps.length : Int)) = false := decide_eq_false (by omega)
    have HPC : Hid (∀ V, Below (w.alloc (.cells #[.slice s0 x.ins.length c0, .slice s1 x.clocks.length c1, .slice s2 x.blocks.length c2, .slice s3 x.outs.length c3, .slice s4 x.checks.length c4] 36)).heap.size (w.alloc (.cells #[.slice s0 x.ins.length c0, .slice s1 x.clocks.length c1, .slice s2 x.blocks.length c2, .slice s3 x.outs.length c3, .slice s4 x.checks.length c4] 36)) V → V.cell? ⟨w.heap.size, 0, none⟩ = some (.slice s0 x.ins.length c0) ∧ V.cell? ⟨w.heap.size, 1, none⟩ = some (.slice s1 x.clocks.length c1) ∧ V.cell? ⟨w.heap.size, 2, none⟩ = some (.slice s2 x.blocks.length c2) ∧ V.cell? ⟨w.heap.size, 3, none⟩ = some (.slice s3 x.outs.length c3) ∧ V.cell? ⟨w.heap.size, 4, none⟩ = some (.slice s4 x.checks.length c4) ∧ Below w.heap.size w V) := hide (fun V hV => by
      have hc : ∀ i v, (#[.slice s0 x.ins.length c0, .slice s1 x.clocks.length c1, .slice s2 x.blocks.length c2, .slice s3 x.outs.length c3, .slice s4 x.checks.length c4] : Array Value)[i]? = some v → (w.alloc (.cells #[.slice s0 x.ins.length c0, .slice s1 x.clocks.length c1, .slice s2 x.blocks.length c2, .slice s3 x.outs.length c3, .slice s4 x.checks.length c4] 36)).cell? ⟨w.heap.size, i, none⟩ = some v := fun i v h => by
        rw [World.cell?_alloc_new]; exact h
      exact ⟨cell_later hV (hc 0 _ rfl), cell_later hV (hc 1 _ rfl), cell_later hV (hc 2 _ rfl), cell_later hV (hc 3 _ rfl), cell_later hV (hc 4 _ rfl), btr (bal (brf w) _) hV⟩)
    cases hok : packI x
    · have HR : Hid (runP x steps = ([], 1)) := hide (by unfold runP; rw [if_pos hlong, hok]; rfl)
      rw [hok] at HOK
      clear hok HS H2
      go_enter Tryz.func9, Tryz.ntmps9
      go_wp2_with fail
      refine (unhide HOK _ (bal (brf w) _)).mono ?_
      rintro e W1 ⟨rfl, hb1⟩
      have HB := hide (btr (bal (brf w) _) hb1)
      clear hb1
      go_wp2_with fail
      exact bodyPost_ret (v := .tuple #[.slice none 0 0, .int .i64 1]) (by simp [results, Tryz.results9, go_sem]) rfl ⟨⟨_, [], w.heap.size, by rw [unhide HR], by rw [unhide HR]; exact World.ownsRow_nil _ _ _ _, by rw [unhide HR]; exact .nil _, (unhide HB).size⟩, unhide HB⟩
    · have HFIT := hide (PkFit.of hok)
      rw [hok] at HOK
      go_enter Tryz.func9, Tryz.ntmps9
      go_wp2_with fail
      refine (unhide HOK _ (bal (brf w) _)).mono ?_
      rintro e W1 ⟨rfl, hb1⟩
      have HX1 := hide hb1
      obtain ⟨q0, q1, q2, q3, q4, _⟩ := unhide HPC W1 hb1
      clear hb1
      have HRP := hide (iRepeat W1.heap.size x.ins.length (W1.alloc (.cells #[.int .i64 1] 3)) b0 (by rw [World.cell?_alloc_new]; rfl))
      have kq : (W1.alloc (.cells #[.int .i64 1] 3)).cell? ⟨w.heap.size, 0, none⟩ = some (.slice s0 x.ins.length c0) := cell_later (bal (brf W1) _) q0
      go_wp2_with fail
      refine (unhide HRP).mono ?_
      rintro e W2 ⟨⟨wv, rfl, hwv⟩, hb2⟩
      have HX2 := hide (btr (unhide HX1) (btr (bal (brf W1) _) hb2))
      have HSF := hide (iStepsFit (n1 := x.clocks.length) steps (.slice sa steps.length sc) wv ((unhide HS).later RStep.keeps (unhide HPC _ (unhide HX2)).2.2.2.2.2) hlong hwv b0 b1)
      clear hb2 hwv q0 q1 q2 q3 q4 kq HRP
      obtain ⟨q0, q1, q2, q3, q4, _⟩ := unhide HPC W2 (unhide HX2)
      cases hall : steps.all (stepB x.ins.length x.clocks.length)
      · have HR : Hid (runP x steps = ([], 1)) := hide (by unfold runP; rw [if_pos hlong, hok, hall]; rfl)
        rw [hall] at HSF
        clear hok hall
        go_wp2_with fail
        refine (unhide HSF).mono ?_
        rintro e W3 ⟨rfl, hb3⟩
        have HB := hide (unhide HPC W3 (btr (unhide HX2) hb3)).2.2.2.2.2
        clear hb3
        go_wp2_with fail
        exact bodyPost_ret (v := .tuple #[.slice none 0 0, .int .i64 1]) (by simp [results, Tryz.results9, go_sem]) rfl ⟨⟨_, [], w.heap.size, by rw [unhide HR], by rw [unhide HR]; exact World.ownsRow_nil _ _ _ _, by rw [unhide HR]; exact .nil _, (unhide HB).size⟩, unhide HB⟩
      · have HR : Hid (runP x steps = (rowsP x (st0P x) steps, 0)) := hide (by unfold runP; rw [if_pos hlong, hok, hall]; rfl)
        have HFS : Hid (∀ s ∈ steps, s.ins.length = x.ins.length ∧ ∀ f, StepFit (unpackM x f) s) := hide (fun s hs => by
          have h := List.all_eq_true.1 hall s hs
          exact ⟨(stepB_fit (x := unpackM x id) h).1, fun f => stepB_fit (x := unpackM x f) h⟩)
        rw [hall] at HSF
        clear hok hall
        go_wp2_with fail
        refine (unhide HSF).mono ?_
        rintro e W3 ⟨rfl, hb3⟩
        have HX3 := hide (btr (unhide HX2) hb3)
        clear hb3 q0 q1 q2 q3 q4
        obtain ⟨q0, q1, q2, q3, q4, hbw3⟩ := unhide HPC W3 (unhide HX3)
        have HUN := hide (iUnpacked (s0 := s0) (s1 := s1) (s2 := s2) (s3 := s3) (s4 := s4) (l0 := x.ins.length) (l1 := x.clocks.length) (l2 := x.blocks.length) (l3 := x.outs.length) (l4 := x.checks.length) (c0 := c0) (c1 := c1) (c2 := c2) (c3 := c3) (c4 := c4) x W3 (by have := (unhide HFIT).n0; omega) (by have := (unhide HFIT).n2; omega) b3 b4 rfl ((unhide H2).later RBlock.keeps hbw3) ((unhide H3).later RPort.keeps hbw3) ((unhide H4).later RPort.keeps hbw3) (fun b hb => ⟨unhide HIL b hb, fun y hy => by
          obtain ⟨k, hk⟩ := List.getElem?_of_mem hb
          exact (unhide HFIT).fit.src k b hk y hy⟩) (unhide HFIT).outs (unhide HFIT).checks)
        have HBW3 := hide hbw3
        clear hbw3
        go_wp2_with fail
        refine (unhide HUN).mono ?_
        rintro e W4 ⟨⟨f, v2, v3, v4, v5, us, rfl, hbec, hrg, hlu, hou, hch⟩, hb4⟩
        have hbw4 := btr (unhide HBW3) hb4
        have hfit := MapFit.unpack (unhide HFIT) hbec
        have hlen := unpack_len x f
        have r0 : RS 1 RStr W4 0 (unpackM x f).ins (.slice s0 x.ins.length c0) := (unhide H0).later RStr.keeps hbw4
        have r1 : RS 1 RStr W4 0 (unpackM x f).clocks (.slice s1 x.clocks.length c1) := (unhide H1).later RStr.keeps hbw4
        have r2 := regs_any hrg (blk_names (unhide H2)) (by have := (unhide HFIT).n2; omega)
        have r3 : RS 2 RLut W4 0 (unpackM x f).luts v3 := hlu.read (by rw [hlen.2]; omega) (fun l hl => by
          obtain ⟨i, hi⟩ := List.getElem?_of_mem hl
          have := (hfit.luts i l hi).1
          omega)
        have r4 := hou.any (by simp [unpackM]; omega)
        have r5 := hch.any (by simp [unpackM]; omega)
        obtain ⟨t2, d2, rfl⟩ := r2.slice
        obtain ⟨t3, d3, rfl⟩ := r3.slice
        obtain ⟨t4, d4, rfl⟩ := r4.slice
        obtain ⟨t5, d5, rfl⟩ := r5.slice
        have HRM : Hid (RMapped W4 0 (unpackM x f) [.slice s0 (unpackM x f).ins.length c0, .slice s1 (unpackM x f).clocks.length c1, .slice t2 (unpackM x f).regs.length d2, .slice t3 (unpackM x f).luts.length d3, .slice t4 (unpackM x f).outs.length d4, .slice t5 (unpackM x f).checks.length d5]) := hide ⟨_, _, _, _, _, _, rfl, r0, r1, r2, r3, r4, r5⟩
        have HNR := hide (iNewRun s0 s1 t2 t3 t4 t5 (unpackM x f).ins.length (unpackM x f).clocks.length (unpackM x f).regs.length (unpackM x f).luts.length (unpackM x f).outs.length (unpackM x f).checks.length c0 c1 d2 d3 d4 d5 (unpackM x f).regs W4 r2 b0 (by have := hfit.n2; omega) (by rw [hlen.2]; omega) hfit.init)
        have HROW := hide (rows_unpack (unhide HFIT) hbec steps (fun s hs => (unhide HFS s hs).1))
        have HMF := hide hfit
        have HFS2 := hide (fun s hs => (unhide HFS s hs).2 f)
        have HBW4 := hide hbw4
        have HST4 := hide ((unhide HS).later RStep.keeps hbw4)
        clear hbw4 hfit hlen r0 r1 r2 r3 r4 r5 hbec hrg hlu hou hch hb4 q0 q1 q2 q3 q4 HUN HFS HSF
        have hi0 : (unpackM x f).ins.length = x.ins.length := rfl
        have hi1 : (unpackM x f).clocks.length = x.clocks.length := rfl
        rw [← hi0, ← hi1]
        clear hi0 hi1
        generalize unpackM x f = y at *
        go_wp2_with fail
        refine (unhide HNR).mono ?_
        rintro e W5 ⟨bb, gg, rfl, hob, hb5⟩
        have HRS := hide (iRunSteps (W0 := W4) (W := W5) y (unhide HMF) (unhide HRM) steps (.slice sa steps.length sc) (unhide HST4) hlong (unhide HFS2) hb5 (List.replicate y.ins.length false) (st0M y) (List.replicate y.luts.length false) (by simp) (by unfold st0M; simp) (by simp) hob)
        have HSZ := hide (btr (unhide HBW4) hb5).size
        clear hob hb5
        go_wp2_with fail
        refine (unhide HRS).mono ?_
        rintro e W6 ⟨⟨v, us, E, rfl, ho, hro, hE⟩, hb6, hfx⟩
        have hsz := unhide HSZ
        have hB6 : Below w.heap.size w W6 := btr (unhide HBW4) hb6
        have hrl : (rowsV y (st0M y) steps).length = steps.length := rowsV_len y steps _
        have HF : Hid (W6.ownsRow w.heap.size 71 3 v (rowsP x (st0P x) steps).length (rcs us) ∧ (∃ E, RowsO W6 w.heap.size E us (rowsP x (st0P x) steps) ∧ E ≤ W6.heap.size)) := hide ⟨by
          rw [← unhide HROW, hrl]
          obtain ⟨k1, k2 | ⟨g, cap, cur, hv, hg, rest⟩⟩ := ho
          · exact ⟨k1, .inl k2⟩
          · exact ⟨k1, .inr ⟨g, cap, cur, hv, by omega, rest⟩⟩, by
          rw [← unhide HROW]
          exact RowsO.low hro hE hsz⟩
        have HB6 := hide hB6
        clear ho hro hE hb6 hfx hsz hB6 hrl
        go_wp2_with fail
        exact bodyPost_ret (v := .tuple #[v, .int .i64 0]) (by simp [results, Tryz.results9, go_sem]) rfl ⟨by
          obtain ⟨k1, E', k2, k3⟩ := unhide HF
          exact ⟨_, us, E', by rw [unhide HR], by rw [unhide HR]; exact k1, by rw [unhide HR]; exact k2, k3⟩, unhide HB6⟩
  · have hd : decide ((4096 : Int) < (steps.length : Int)) = true := decide_eq_true (by omega)
    have HR : Hid (runP x steps = ([], 2)) := hide (by unfold runP; rw [if_neg hlong])
    clear HS H2 HOK
    go_enter Tryz.func9, Tryz.ntmps9
    go_wp2_with fail
    exact bodyPost_ret (v := .tuple #[.slice none 0 0, .int .i64 2]) (by simp [results, Tryz.results9, go_sem]) rfl ⟨⟨_, [], w.heap.size, by rw [unhide HR], by rw [unhide HR]; exact World.ownsRow_nil _ _ _ _, by rw [unhide HR]; exact .nil _, (bal (brf w) _).size⟩, bal (brf w) _⟩
end Go.Proofs.YtdmmbhemmbgcpabGreat
