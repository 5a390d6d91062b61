/- The specification's PackRun: one step. -/
import Derived.Test.YtdmmbhemmbgcpabGreatGPT1
import Derived.Test.YtdmmbhemmbgcpabGreatGPT4
import Derived.Test.YtdmmbhemmbgcpabGreatGPU7
import Derived.Test.YtdmmbhemmbgcpabGreatGPT8
namespace Go.Proofs.YtdmmbhemmbgcpabGreat
open Go Go.RowKit Gs
set_option linter.unusedVariables false
set_option linter.unusedSimpArgs false
set_option maxRecDepth 100000
theorem strs_at {w : World} {B : Nat} {ps : List ByteArray} {s : Option Addr} {n c : Nat} (h : RS 1 RStr w B ps (.slice s n c)) : ∀ (i : Nat) p, ps[i]? = some p → ∃ b o, s = some ⟨b, o, none⟩ ∧ w.cell? ⟨b, o + i, none⟩ = some (.string p) := by
  intro i x hx
  rcases h.open with ⟨rfl, _⟩ | ⟨b, o, c', hv, _, _, _, he⟩
  · simp at hx
  · injection hv with e1 e2 e3
    obtain ⟨u, hu, hat, hux⟩ := he i x hx
    unfold RStr at hux
    obtain ⟨rfl, _⟩ := hux
    exact ⟨b, o, e1, by simpa using hat.get (j := 0) rfl⟩
theorem bools_at {w : World} {B : Nat} {ps : List Bool} {s : Option Addr} {n c : Nat} (h : RS 1 RBool w B ps (.slice s n c)) : ∀ (i : Nat) p, ps[i]? = some p → ∃ b o, s = some ⟨b, o, none⟩ ∧ w.cell? ⟨b, o + i, none⟩ = some (.bool p) := by
  intro i x hx
  rcases h.open with ⟨rfl, _⟩ | ⟨b, o, c', hv, _, _, _, he⟩
  · simp at hx
  · injection hv with e1 e2 e3
    obtain ⟨u, hu, hat, hux⟩ := he i x hx
    unfold RBool at hux
    subst hux
    exact ⟨b, o, e1, by simpa using hat.get (j := 0) rfl⟩
theorem OI.grown71 {W W' : World} {B : Nat} {v : Value} {xs : List Int} (h : OI B W v xs) {o : Option Nat} (hg : W.grownBy W' o) (ho : ∀ q, o = some q → ∃ cur f, W.heap[q]? = some (.cells cur 71 f)) : OI B W' v xs := by
  obtain ⟨h1, h2 | ⟨g, cap, cur, hv, hb, hc, rest⟩⟩ := h
  · exact ⟨h1, .inl h2⟩
  · refine ⟨h1, .inr ⟨g, cap, cur, hv, hb, (hg.block g (Array.getElem?_eq_some_iff.1 hc).1 (fun e => ?_)).trans hc, rest⟩⟩
    obtain ⟨cur', f, hq⟩ := ho g e.symm
    rw [hq] at hc
    injection hc with hc
    injection hc with _ h2 _
    cases h2
theorem con_all {s0 s1 s2 s3 s4 : Option Addr} {c0 c1 c2 c3 c4 l1 l2 l3 l4 g N li ci ls cs : Nat} {ai az : Option Addr} {x : Packed} {ins st : List Bool} {w : World} (hx : PkFit x) (hli : ins.length = x.ins.length) (hls : st.length = x.blocks.length) (hN : N = x.ins.length + x.blocks.length) (h2 : RS 6 RBlock w 0 x.blocks (.slice s2 l2 c2)) :
    ∀ y : Int, 0 ≤ y → y < (N : Int) → ∀ V, SE w g N x ins st (.slice ai li ci) (.slice az ls cs) V → Calls Tryz.prog 26 #[.agg #[.slice s0 x.ins.length c0, .slice s1 l1 c1, .slice s2 l2 c2, .slice s3 l3 c3, .slice s4 l4 c4], .int .i64 y, .slice ai li ci, .slice az ls cs, .slice (some ⟨g, 0, none⟩) N N] V fun e w' => e = .returned (.int .i64 (b2i (valP x.blocks ins st y))) ∧ SE w g N x ins st (.slice ai li ci) (.slice az ls cs) w' ∧ Fx g V w' :=
  fun y h0 h1 => sValueR x ins st w hx rfl hli hls hN h2 (x.blocks.length + 1) y h0 h1 (fun k hk _ => by omega)
theorem SE.start {w V : World} {N B1 B2 : Nat} {M : Array Value} {x : Packed} {ins st : List Bool} {vi vs : Value} (hM : M.toList = List.replicate N (.int .i64 0)) (hb : Below w.heap.size w V) (hi : OI w.heap.size V vi (ins.map b2i)) (hs : OI w.heap.size V vs (st.map b2i)) : SE w V.heap.size N x ins st vi vs (V.alloc (.cells M 3)) :=
  ⟨bal hb _, hi.alloc _, hs.alloc _, fun e => by have := (World.ownsRow.lt hi _ e).2; omega, fun e => by have := (World.ownsRow.lt hs _ e).2; omega, hb.size, _, by simp, BW.zeros hM, fun s y hy => by
    rw [List.getElem?_replicate] at hy
    split at hy
    · injection hy with hy; exact .inl hy.symm
    · cases hy⟩
theorem OT.f2x {g q B : Nat} {W V : World} {v : Value} {xs : List ByteArray} (h : OT B W v xs) (hf : F2x g q W V) (h1 : v.ownBlock ≠ some g) (h2 : v.ownBlock ≠ some q) : OT B V v xs := by
  obtain ⟨⟨k1, k2 | ⟨b, cap, cur, e, hb, hc, rest⟩⟩, h3⟩ := h
  · exact ⟨⟨k1, .inl k2⟩, h3⟩
  · exact ⟨⟨k1, .inr ⟨b, cap, cur, e, hb, (hf.block b (Array.getElem?_eq_some_iff.1 hc).1 (fun e2 => h1 (by rw [e, ← e2]; rfl)) (fun e2 => h2 (by rw [e, ← e2]; rfl))).trans hc, rest⟩⟩, h3⟩
set_option maxHeartbeats 64000000 in
theorem prRound {u0 u3 u4 u5 u6 u7 u9 u13 u14 u15 u16 u17 u18 u19 u20 u21 u22 u23 u24 u25 u26 u27 u28 u29 u30 u31 u32 u33 u34 u35 u36 u37 u38 u39 u40 u41 u42 u43 u44 u45 u46 u47 u48 u49 u50 u51 u52 u53 u54 u55 u56 u57 u58 u59 u60 u61 u62 u63 u64 u65 u66 u67 u68 u69 u70 u71 u72 u73 u74 u75 u76 u77 u78 u79 u80 u81 u82 u83 u84 u85 u86 u87 u88 u89 u90 u91 u92 u93 u94 u95 u96 u97 u98 u99 u100 u101 u102 u103 u104 u105 u106 u107 u108 u109 u110 u111 u112 u113 u114 u115 u116 u117 u118 u119 u120 u121 u122 u123 u124 u125 u126 u127 u128 u129 u130 u131 u132 u133 u134 u135 u136 u137 u138 u139 u140 u141 u142 u143 u144 u145 u146 u147 u148 u149 u150 u151 u152 u153 u154 u155 u156 u157 u158 u159 u160 u161 u162 u163 u164 u165 u166 u167 u168 u169 u170 u171 u172 u173 u174 u175 u176 u177 u178 u179 u180 u181 u182 u183 u184 u185 u186 u187 u188 u189 u190 u191 u192 u193 u194 u195 u196 u197 u198 u199 u200 u201 u202 u203 u204 u205 u206 u207 u208 u209 u210 u211 u212 u213 u214 u215 u216 u217 u218 u219 u220 u221 u222 u223 u224 u225 u226 u227 : Value} {pb sb so sl sc K n8 c8 N B k E c0 c1 c2 c3 c4 ci ct : Nat} {s0 s1 s2 s3 s4 sa si stk : Option Addr} {v11 : Value} {us : List (Value × Value × Value)} {rs : List Row} {x : Packed} {s : Step} {st : List Bool} {w wr : World} {Q : Exit → Act → World → Prop}
    (hx : PkFit x) (hs1 : s.ins.length = x.ins.length) (hs2 : s.ticks.length = x.clocks.length) (hst : st.length = x.blocks.length) (hN : N = x.ins.length + x.blocks.length) (hK : K < sl) (hsl : sl ≤ 4096) (hlc : sl ≤ sc) (hk4 : k ≤ 4096) (HB0 : Hid (Below w.heap.size w wr))
    (HRB : Hid (RS 6 RBlock w 0 x.blocks (.slice s2 x.blocks.length c2))) (HR3 : Hid (RS 2 RPort w 0 x.outs (.slice s3 x.outs.length c3))) (HR4 : Hid (RS 2 RPort w 0 x.checks (.slice s4 x.checks.length c4))) (HBX : Hid (∀ V, Below wr.heap.size wr V → V.cell? ⟨pb, 0, none⟩ = some (.slice s0 x.ins.length c0) ∧ V.cell? ⟨pb, 1, none⟩ = some (.slice s1 x.clocks.length c1) ∧ V.cell? ⟨pb, 2, none⟩ = some (.slice s2 x.blocks.length c2) ∧ V.cell? ⟨pb, 3, none⟩ = some (.slice s3 x.outs.length c3) ∧ V.cell? ⟨pb, 4, none⟩ = some (.slice s4 x.checks.length c4)))
    (HC0 : Hid (w.cell? ⟨sb, so + K * 2, none⟩ = some (.slice si x.ins.length ci))) (HC1 : Hid (w.cell? ⟨sb, so + K * 2 + 1, none⟩ = some (.slice stk x.clocks.length ct))) (HSI : Hid (RS 1 RStr w 0 s.ins (.slice si x.ins.length ci))) (HTK : Hid (RS 1 RBool w 0 s.ticks (.slice stk x.clocks.length ct)))
    (HST : Hid (OI w.heap.size wr (.slice sa n8 c8) (st.map b2i))) (HOW : Hid (wr.ownsRow B 71 3 v11 k (rcs us))) (HRW : Hid (RowsO wr B E us rs)) (hE : E ≤ wr.heap.size) (hB : B ≤ wr.heap.size) (hwB : w.heap.size ≤ B)
    (hQ : ∀ (z8 z11 z13 z14 z15 z16 z17 z18 z19 z20 z21 z82 z83 z84 z85 z86 z87 z88 z89 z90 z91 z92 z93 z94 z95 z96 z97 z98 z99 z100 z101 z102 z103 z104 z105 z106 z107 z108 z109 z110 z111 z112 z113 z114 z115 z116 z117 z118 z119 z120 z121 z122 z123 z124 z125 z126 z127 z128 z129 z130 z131 z132 z133 z134 z135 z136 z137 z138 z139 z140 z141 z142 z143 z144 z145 z146 z147 z148 z149 z150 z151 z152 z153 z154 z155 z156 z157 z158 z159 z160 z161 z162 z163 z164 z165 z166 z167 z168 z169 z170 z171 z172 z173 z174 z175 z176 z177 z178 z179 z180 z181 z182 z183 z184 z185 z186 z187 z188 z189 z190 z191 z192 z193 z194 z195 z196 z197 z198 z199 z200 z201 z202 z203 z204 z205 z206 z207 z208 z209 z210 z211 z212 z213 z214 z215 z216 z217 z218 z219 z220 z221 z222 z223 z224 z225 z226 : Value) V us', OI w.heap.size V z8 ((stepP x.blocks st s).map b2i) → (∃ a l c, z8 = .slice a l c) → V.ownsRow B 71 3 z11 (k + 1) (rcs us') → (∃ E', RowsO V B E' us' (rs ++ [rowP x (s.ins.map bit1) (stepP x.blocks st s)]) ∧ E' ≤ V.heap.size) → Below B wr V → Below w.heap.size w V → Q .normal { tmps := (u0 :: .slice (some ⟨sb, so, none⟩) sl sc :: .pointer (some ⟨pb, 0, none⟩) :: u3 :: u4 :: u5 :: u6 :: u7 :: z8 :: u9 :: .int .i64 (N : Int) :: z11 :: .int .i64 (K : Int) :: z13 :: z14 :: z15 :: z16 :: z17 :: z18 :: z19 :: z20 :: z21 :: u22 :: u23 :: u24 :: u25 :: u26 :: u27 :: u28 :: u29 :: u30 :: u31 :: u32 :: u33 :: u34 :: u35 :: u36 :: u37 :: u38 :: u39 :: u40 :: u41 :: u42 :: u43 :: u44 :: u45 :: u46 :: u47 :: u48 :: u49 :: u50 :: u51 :: u52 :: u53 :: u54 :: u55 :: u56 :: u57 :: u58 :: u59 :: u60 :: u61 :: u62 :: u63 :: u64 :: u65 :: u66 :: u67 :: u68 :: u69 :: u70 :: u71 :: u72 :: u73 :: u74 :: u75 :: u76 :: u77 :: u78 :: u79 :: u80 :: u81 :: z82 :: z83 :: z84 :: z85 :: z86 :: z87 :: z88 :: z89 :: z90 :: z91 :: z92 :: z93 :: z94 :: z95 :: z96 :: z97 :: z98 :: z99 :: z100 :: z101 :: z102 :: z103 :: z104 :: z105 :: z106 :: z107 :: z108 :: z109 :: z110 :: z111 :: z112 :: z113 :: z114 :: z115 :: z116 :: z117 :: z118 :: z119 :: z120 :: z121 :: z122 :: z123 :: z124 :: z125 :: z126 :: z127 :: z128 :: z129 :: z130 :: z131 :: z132 :: z133 :: z134 :: z135 :: z136 :: z137 :: z138 :: z139 :: z140 :: z141 :: z142 :: z143 :: z144 :: z145 :: z146 :: z147 :: z148 :: z149 :: z150 :: z151 :: z152 :: z153 :: z154 :: z155 :: z156 :: z157 :: z158 :: z159 :: z160 :: z161 :: z162 :: z163 :: z164 :: z165 :: z166 :: z167 :: z168 :: z169 :: z170 :: z171 :: z172 :: z173 :: z174 :: z175 :: z176 :: z177 :: z178 :: z179 :: z180 :: z181 :: z182 :: z183 :: z184 :: z185 :: z186 :: z187 :: z188 :: z189 :: z190 :: z191 :: z192 :: z193 :: z194 :: z195 :: z196 :: z197 :: z198 :: z199 :: z200 :: z201 :: z202 :: z203 :: z204 :: z205 :: z206 :: z207 :: z208 :: z209 :: z210 :: z211 :: z212 :: z213 :: z214 :: z215 :: z216 :: z217 :: z218 :: z219 :: z220 :: z221 :: z222 :: z223 :: z224 :: z225 :: z226 :: u227 :: []).toArray, defers := [] } V) :
    Code.wp Tryz.prog (atB 5 (bodyOf Tryz.f6)) Q { tmps := (u0 :: .slice (some ⟨sb, so, none⟩) sl sc :: .pointer (some ⟨pb, 0, none⟩) :: u3 :: u4 :: u5 :: u6 :: u7 :: .slice sa n8 c8 :: u9 :: .int .i64 (N : Int) :: v11 :: .int .i64 (K : Int) :: u13 :: u14 :: u15 :: u16 :: u17 :: u18 :: u19 :: u20 :: u21 :: u22 :: u23 :: u24 :: u25 :: u26 :: u27 :: u28 :: u29 :: u30 :: u31 :: u32 :: u33 :: u34 :: u35 :: u36 :: u37 :: u38 :: u39 :: u40 :: u41 :: u42 :: u43 :: u44 :: u45 :: u46 :: u47 :: u48 :: u49 :: u50 :: u51 :: u52 :: u53 :: u54 :: u55 :: u56 :: u57 :: u58 :: u59 :: u60 :: u61 :: u62 :: u63 :: u64 :: u65 :: u66 :: u67 :: u68 :: u69 :: u70 :: u71 :: u72 :: u73 :: u74 :: u75 :: u76 :: u77 :: u78 :: u79 :: u80 :: u81 :: u82 :: u83 :: u84 :: u85 :: u86 :: u87 :: u88 :: u89 :: u90 :: u91 :: u92 :: u93 :: u94 :: u95 :: u96 :: u97 :: u98 :: u99 :: u100 :: u101 :: u102 :: u103 :: u104 :: u105 :: u106 :: u107 :: u108 :: u109 :: u110 :: u111 :: u112 :: u113 :: u114 :: u115 :: u116 :: u117 :: u118 :: u119 :: u120 :: u121 :: u122 :: u123 :: u124 :: u125 :: u126 :: u127 :: u128 :: u129 :: u130 :: u131 :: u132 :: u133 :: u134 :: u135 :: u136 :: u137 :: u138 :: u139 :: u140 :: u141 :: u142 :: u143 :: u144 :: u145 :: u146 :: u147 :: u148 :: u149 :: u150 :: u151 :: u152 :: u153 :: u154 :: u155 :: u156 :: u157 :: u158 :: u159 :: u160 :: u161 :: u162 :: u163 :: u164 :: u165 :: u166 :: u167 :: u168 :: u169 :: u170 :: u171 :: u172 :: u173 :: u174 :: u175 :: u176 :: u177 :: u178 :: u179 :: u180 :: u181 :: u182 :: u183 :: u184 :: u185 :: u186 :: u187 :: u188 :: u189 :: u190 :: u191 :: u192 :: u193 :: u194 :: u195 :: u196 :: u197 :: u198 :: u199 :: u200 :: u201 :: u202 :: u203 :: u204 :: u205 :: u206 :: u207 :: u208 :: u209 :: u210 :: u211 :: u212 :: u213 :: u214 :: u215 :: u216 :: u217 :: u218 :: u219 :: u220 :: u221 :: u222 :: u223 :: u224 :: u225 :: u226 :: u227 :: []).toArray, defers := [] } wr := by
  have HQ := hide hQ
  clear hQ
  obtain ⟨i75, hi, hz0, hz1, hz2⟩ := info_parts info75
  have HI := hide (And.intro hi (And.intro hz0 (And.intro hz1 hz2)))
  clear hi hz0 hz1 hz2
  have hn0 := hx.n0
  have hn2 := hx.n2
  have HX := hide hx
  have HS1 := hide hs1
  have HS2 := hide hs2
  have HSS := hide hst
  have HNN := hide hN
  have hN4 : N ≤ 4096 := by omega
  obtain ⟨Mk, hMk, hmk⟩ := make_int67 N (by omega)
  have HMK := hide hMk
  have HMK2 := hide hmk
  have hstl := stepP_len x.blocks st s
  have HSL := hide hstl
  clear hs1 hs2 hst hN hx hMk hmk hstl
  conv => arg 2; whnf
  go_wp2_with fail
  refine sL4 (W0 := wr) (ins := s.ins) hK hsl (unhide HS1).symm (unhide HS1).symm (by have := unhide HS1; omega) (hide (fun V hV => (unhide HBX V hV).1)) (hide (cell_later (unhide HB0) (unhide HC0))) (hide (fun i y hy => by
    obtain ⟨b, o, e, h⟩ := strs_at (unhide HSI) i y hy
    exact ⟨b, o, e, cell_later (unhide HB0) h⟩)) (hide (OI_start rfl (Nat.le_refl _))) (hide (bal (brf wr) _)) ?_
  intro y14 y83 y84 y85 y86 y87 y88 y89 y90 y91 y92 y93 y94 y95 y96 y97 y98 y99 y100 y101 V4 v13 hins hb4
  obtain ⟨ai, ci2, hv13⟩ := hins.shapeN
  subst hv13
  have hw4 : w.heap.size ≤ wr.heap.size := (unhide HB0).size
  have HINS := hide (hins.low2 hw4)
  have HB4 := hide hb4
  have hst4 := (unhide HST).later hb4
  have HSE := hide (SE.start (B1 := 0) (B2 := 0) (x := x) (ins := s.ins.map bit1) (st := st) (unhide HMK) (btr (unhide HB0) hb4) (hins.low2 hw4) hst4)
  have HI4 : Hid (∀ j, (.slice ai ((s.ins.map bit1).map b2i).length ci2 : Value).ownBlock = some j → j < V4.heap.size) := hide (fun j hj => (World.ownsRow.lt hins j hj).2)
  have HS4 : Hid (∀ j, (.slice sa n8 c8 : Value).ownBlock = some j → j < V4.heap.size) := hide (fun j hj => (World.ownsRow.lt hst4 j hj).2)
  obtain ⟨li, hli⟩ : ∃ n, ((s.ins.map bit1).map b2i).length = n := ⟨_, rfl⟩
  rw [hli] at HINS HSE HI4 ⊢
  have hbX : Below V4.heap.size V4 ((V4.alloc (.cells Mk 3)).alloc (.cells #[] 3)) := bal (bal (brf V4) _) _
  have HSX : Hid (RS 1 RInt ((V4.alloc (.cells Mk 3)).alloc (.cells #[] 3)) 0 (st.map b2i) (.slice sa n8 c8)) := hide ((hst4.later hbX).any (by rw [List.length_map, unhide HSS]; omega))
  have HEX : Hid (OI V4.heap.size ((V4.alloc (.cells Mk 3)).alloc (.cells #[] 3)) (.slice (some ⟨V4.heap.size + 1, 0, none⟩) 0 0) []) := hide (OI_start (by simp) (by omega))
  have HLX : Hid (([] : List Int).length + (st.map b2i).length ≤ 4194304) := hide (by simp; have := unhide HSS; omega)
  have HNX : Hid (V4.heap.size + 1 ≤ ((V4.alloc (.cells Mk 3)).alloc (.cells #[] 3)).heap.size) := hide (by simp)
  have HEX1 : Hid (OI (V4.heap.size + 1) ((V4.alloc (.cells Mk 3)).alloc (.cells #[] 3)) (.slice (some ⟨V4.heap.size + 1, 0, none⟩) 0 0) []) := hide (OI_start (by simp) (Nat.le_refl _))
  have hmk := unhide HMK2
  clear hins hb4 hst4 hbX
  go_wp2_with (first
    | (at_builtin; refine wpAppI rfl _ _ rfl (V4.heap.size + 1) _ [] rfl (unhide HEX1) _ (st.map b2i) rfl (unhide HSX) (unhide HLX) (unhide HNX) ?_; intro v16 V6 ho6 hg6)
    | go_in)
  clear hmk
  rw [List.nil_append] at ho6
  have hsz41 : (V4.alloc (.cells Mk 3)).heap.size = V4.heap.size + 1 := by simp
  have hb6 : Below (V4.heap.size + 1) (V4.alloc (.cells Mk 3)) V6 := by
    have h := below_grown (B := V4.heap.size + 1) (by rw [← hsz41]; exact bal (brf (V4.alloc (.cells Mk 3))) (.cells #[] 3)) hg6 (unhide HNX) (fun j hj => (World.ownsRow.lt (unhide HEX1) j hj).1)
    exact h
  have hb6' : Below (V4.alloc (.cells Mk 3)).heap.size (V4.alloc (.cells Mk 3)) V6 := by rw [hsz41]; exact hb6
  have HSE6 := hide ((unhide HSE).later hb6')
  have hb46 : Below V4.heap.size V4 V6 := btr (bal (brf V4) (.cells Mk 3)) hb6'
  have HBW6 := hide (btr (unhide HB4) hb46)
  have hsz46 : V4.heap.size + 2 ≤ V6.heap.size := by have := hg6.size; simp at this; omega
  obtain ⟨nb, hnb1, hnb2, hnb3⟩ : ∃ nb, V4.heap.size < nb ∧ nb < V6.heap.size ∧ (0 < x.blocks.length → ∃ c, v16 = .slice (some ⟨nb, 0, none⟩) x.blocks.length c) := by
    by_cases hz : 0 < x.blocks.length
    · obtain ⟨g', c', hv, hge, _⟩ := ho6.atS (by rw [List.length_map, unhide HSS]; exact hz)
      refine ⟨g', by omega, (World.ownsRow.lt ho6 g' (by rw [hv]; rfl)).2, fun _ => ⟨c', by rw [hv, List.length_map, unhide HSS]⟩⟩
    · exact ⟨V4.heap.size + 1, by omega, by omega, fun h => absurd h hz⟩
  have HNB := hide hnb3
  have HO6 := hide (ho6.low2 (B := w.heap.size) (by have := (unhide HB4).size; omega))
  have HU6 : Hid (∀ j, v16.ownBlock = some j → V4.heap.size < j ∧ j < V6.heap.size) := hide (fun j hj => ⟨(World.ownsRow.lt ho6 j hj).1, (World.ownsRow.lt ho6 j hj).2⟩)
  obtain ⟨a16, c16, rfl⟩ := ho6.shapeN
  obtain ⟨l16, hl16⟩ : ∃ n, (st.map b2i).length = n := ⟨_, rfl⟩
  rw [hl16] at HNB HO6 HU6 ⊢
  have hs44 : wr.heap.size ≤ V4.heap.size := (unhide HB4).size
  clear ho6 hg6 hb6 hb6' hb46 hnb3 hsz41 HEX HEX1 HLX HNX HSX HSE
  refine prL5 (g := V4.heap.size) (nb := nb) (N := N) (lt := x.clocks.length) (ct := ct) (stk := stk) (x := x) (s := s) (st := st) (w := w) (unhide HX) (unhide HNN) (unhide HSS) hK hsl rfl (unhide HS2) HRB (hide ⟨unhide HC1, hlc⟩) (hide (fun i y hy => by
    obtain ⟨b, o, e, h⟩ := bools_at (unhide HTK) i y hy
    exact ⟨b, o, e, rs_cap (unhide HTK), h⟩)) HSE6 (hide (con_all (unhide HX) (by rw [List.length_map]; exact unhide HS1) (unhide HSS) (unhide HNN) (unhide HRB))) (hide (fun V hV => unhide HBX V ((unhide HBW6).trans (hV.mono hs44)))) ⟨hnb1, hnb2⟩ HI4 HS4 HNB HO6 ?_
  intro y17 y107 y108 y109 y110 y111 y112 y113 y114 y115 y116 y117 y118 y119 y120 y121 y122 y123 y124 y125 y126 y127 y128 y129 y130 y131 y132 y133 y134 y135 y136 y137 y138 y139 y140 y141 y142 y143 y144 y145 y146 y147 V7 ho7 hse7 hf7
  have hb7 : Below V4.heap.size V6 V7 := hf7.below (Nat.le_refl _) (by omega) (by omega)
  have HBW7 := hide ((unhide HBW6).trans (hb7.mono hs44))
  have hw7 : Below w.heap.size w V7 := hse7.below
  have HW7 := hide hw7
  have HO7 := hide ho7
  have hs67 := hf7.size
  have HI7 : Hid (∀ j, (.slice ai li ci2 : Value).ownBlock = some j → j < V7.heap.size) := hide (fun j hj => by have := unhide HI4 j hj; omega)
  have HU7 : Hid (∀ j, (.slice a16 l16 c16 : Value).ownBlock = some j → j < V7.heap.size) := hide (fun j hj => by have := (unhide HU6 j hj).2; omega)
  have HSE7 := hide (SE.start (B1 := 0) (B2 := 0) (x := x) (ins := s.ins.map bit1) (st := stepP x.blocks st s) (unhide HMK) hw7 hse7.gi ho7)
  have hmk := unhide HMK2
  obtain ⟨V9, hV9⟩ : ∃ V9, V9 = (V7.alloc (.cells Mk 3)).alloc (.cells #[.slice none 0 0, .slice none 0 0, .slice none 0 0] 71) := ⟨_, rfl⟩
  have HV9 := hide hV9
  have hb9 : Below V7.heap.size V7 V9 := by rw [hV9]; exact bal (bal (brf V7) _) _
  have hsz71 : (V7.alloc (.cells Mk 3)).heap.size = V7.heap.size + 1 := by simp
  have HSE9 : Hid (SE w V7.heap.size N x (s.ins.map bit1) (stepP x.blocks st s) (.slice ai li ci2) (.slice a16 l16 c16) V9) := hide (by rw [hV9]; exact (unhide HSE7).later (bal (brf _) _))
  have hrc : ∀ i, i < 3 → RC V9 (V7.heap.size + 1) i (.slice none 0 0) := by
    intro i hi
    have t := TP_made (V7.alloc (.cells Mk 3)) #[.slice none 0 0, .slice none 0 0, .slice none 0 0] 71 3 rfl i hi
    rw [hV9]
    rw [hsz71] at t
    refine ⟨?_, t.2⟩
    rw [← hsz71, World.cell?_alloc_new]
    match i, hi with
    | 0, _ => rfl
    | 1, _ => rfl
    | 2, _ => rfl
  have hq9 : V7.heap.size + 1 < V9.heap.size := by rw [hV9]; simp
  have HRC := hide hrc
  have HB9 := hide hb9
  clear hse7 hf7 hb7 hw7 ho7 hV9 hb9 hrc hnb1 hnb2 HSE6 HI4 HS4 HNB HO6 HU6 HBW6 HSE7
  go_wp2_with fail
  rw [← unhide HV9]
  have HX0 := hide (fun V (hV : Below V7.heap.size V9 V) => unhide HBX V ((unhide HBW7).trans (((unhide HB9).trans hV).mono (by have := (unhide HBW7).size; exact this))))
  refine prL6 (g := V7.heap.size) (q := V7.heap.size + 1) (N := N) (ps := x.outs) (x := x) (ins := s.ins.map bit1) (st := stepP x.blocks st s) (w := w) (W := V9) (by have := (unhide HX).n3; omega) HR3 (hide (fun p hp => by rw [unhide HNN]; exact (unhide HX).outs p hp)) HSE9 (hide (con_all (unhide HX) (by rw [List.length_map]; exact unhide HS1) (unhide HSL) (unhide HNN) (unhide HRB))) HX0 ⟨Nat.lt_succ_self _, hq9⟩ HI7 HU7 (hide (unhide HRC 0 (by decide))) ?_
  intro y19 y152 y153 y154 y155 y156 y157 y158 y159 y160 y161 y162 y163 y164 y165 y166 y167 y168 y169 y170 y171 y172 y173 y174 y175 Va vo hvo hsea hfa hra hoa
  have hsa := hfa.size
  have hba : Below V7.heap.size V9 Va := hfa.below (Nat.le_refl _) (Nat.le_succ _) (by omega)
  have HVO := hide hvo
  have HSEA := hide hsea
  have HRA := hide hra
  have HBA := hide hba
  have HOA := hide (And.intro (hoa 1 _ (by decide) (unhide HRC 1 (by decide))) (hoa 2 _ (by decide) (unhide HRC 2 (by decide))))
  have hqa : V7.heap.size + 1 < Va.heap.size := by omega
  have HSA := hide hsa
  clear hvo hsea hfa hra hoa hba hsa
  go_wp2_with fail
  refine prL7 (g := V7.heap.size) (q := V7.heap.size + 1) (N := N) (ps := x.checks) (x := x) (ins := s.ins.map bit1) (st := stepP x.blocks st s) (w := w) (W := Va) (by have := (unhide HX).n4; omega) HR4 (hide (fun p hp => by rw [unhide HNN]; exact (unhide HX).checks p hp)) HSEA (hide (con_all (unhide HX) (by rw [List.length_map]; exact unhide HS1) (unhide HSL) (unhide HNN) (unhide HRB))) (hide (fun V hV => unhide HX0 V ((unhide HBA).trans hV))) ⟨Nat.lt_succ_self _, hqa⟩ HI7 HU7 (hide (unhide HOA).1) ?_
  intro y20 y176 y177 y178 y179 y180 y181 y182 y183 y184 y185 y186 y187 y188 y189 y190 y191 y192 y193 y194 y195 y196 y197 y198 y199 Vb vc hvc hseb hfb hrb hob
  have hsb := hfb.size
  have hbb : Below V7.heap.size V9 Vb := (unhide HBA).trans (hfb.below (Nat.le_refl _) (Nat.le_succ _) (by omega))
  have HVC := hide hvc
  have HFB := hide hfb
  have HSEB := hide hseb
  have HRB2 := hide hrb
  have HBB := hide hbb
  have HOB := hide (And.intro (hob 0 _ (by decide) (unhide HRA)) (hob 2 _ (by decide) (unhide HOA).2))
  have hqb : V7.heap.size + 1 < Vb.heap.size := by omega
  have HSB := hide hsb
  have hw7q : w.heap.size ≤ V7.heap.size := (unhide HW7).size
  have hu7q : (.slice a16 l16 c16 : Value).ownBlock ≠ some (V7.heap.size + 1) := fun e => by have := unhide HU7 _ e; omega
  have HUQ := hide hu7q
  have HL16 : Hid (l16 = x.blocks.length) := hide (by rw [← hl16, List.length_map]; exact unhide HSS)
  clear hvc hseb hfb hrb hob hbb hsb
  go_wp2_with fail
  refine prL8 (q := V7.heap.size + 1) (pb := pb) (st := stepP x.blocks st s) (bs := x.blocks) (w := w) (W := Vb) (by omega) (unhide HL16) (unhide HSL) HRB (hide (fun V hV => hV.below (unhide HSEB).below (by omega) (by omega))) (hide (fun V hV => (unhide HX0 V ((unhide HBB).trans (hV.below (Below.refl _ Vb) (Nat.le_succ _) (by omega)))).2.2.1)) (hide (fun V hV i hi => by
    have ho : OI w.heap.size V (.slice a16 l16 c16) ((stepP x.blocks st s).map b2i) := Fx.row (unhide HSEB).gs hV (unhide HUQ)
    refine ho.cells (by rw [List.length_map, unhide HSL]; omega) (q := i) (j := b2i ((stepP x.blocks st s).getD i false)) ?_
    rw [List.getElem?_map, List.getElem?_eq_getElem hi, List.getD_eq_getElem?_getD, List.getElem?_eq_getElem hi]; rfl)) hqb (hide (unhide HOB).2) ?_
  intro y21 y200 y201 y202 y203 y204 y205 y206 y207 y208 y209 y210 y211 y212 y213 y214 y215 y216 y217 y218 y219 y220 y221 y222 Vc vr hvr hfc hrc hoc
  have hra := hoc 0 _ (by decide) (unhide HOB).1
  have hrb := hoc 1 _ (by decide) (unhide HRB2)
  have hsa := unhide HSA
  have hsb := unhide HSB
  have hsc := hfc.size
  have hbc : Below V7.heap.size V7 Vc := ((unhide HB9).trans (unhide HBB)).trans (hfc.below (Below.refl _ Vb) (Nat.le_succ _) (by omega))
  have hbwc : Below wr.heap.size wr Vc := (unhide HBW7).trans (hbc.mono (unhide HBW7).size)
  have o1 : OT V9.heap.size Vc vo (x.outs.map (fun p : Port => txt1 (valP x.blocks (s.ins.map bit1) (stepP x.blocks st s) p.src))) := by
    have a1 := (unhide HVO).f2x (unhide HFB) (fun e => by have := (unhide HVO).row _ e; omega) (fun e => by have := (unhide HVO).row _ e; omega)
    exact a1.fx hfc (fun e => by have := a1.row _ e; omega)
  have b1 : Bnd vo Va.heap.size := fun j hj => (World.ownsRow.lt (unhide HVO).1 j hj).2
  have o2 : OT Va.heap.size Vc vc (x.checks.map (fun p : Port => txt1 (valP x.blocks (s.ins.map bit1) (stepP x.blocks st s) p.src))) := (unhide HVC).fx hfc (fun e => by have := (unhide HVC).row _ e; omega)
  have b2 : Bnd vc Vb.heap.size := fun j hj => (World.ownsRow.lt (unhide HVC).1 j hj).2
  have b3 : Bnd vr Vc.heap.size := fun j hj => (World.ownsRow.lt hvr.1 j hj).2
  have hs17 := (unhide HBW7).size
  have hs79 := (unhide HB9).size
  have hrows := RowsO.snoc (r := rowP x (s.ins.map bit1) (stepP x.blocks st s)) ((unhide HRW).later hbwc) (show E ≤ Va.heap.size by omega) (show Va.heap.size ≤ Vb.heap.size by omega) (show Vb.heap.size ≤ Vc.heap.size by omega) (o1.low (by omega)) b1 o2 b2 hvr b3
  have hown := own_later (unhide HOW) hbwc
  have hst8 : OI w.heap.size Vc (.slice a16 l16 c16) ((stepP x.blocks st s).map b2i) := Fx.row (unhide HSEB).gs hfc (unhide HUQ)
  have hwc : Below w.heap.size w Vc := hfc.below (unhide HSEB).below (by omega) (by omega)
  obtain ⟨a1, m1, d1, rfl⟩ := o1.shape
  obtain ⟨a2, m2, d2, rfl⟩ := o2.shape
  obtain ⟨a3, m3, d3, rfl⟩ := hvr.shape
  have k0 := hra.1
  have k1 := hrb.1
  have k2 := hrc.1
  have hbD : Below Vc.heap.size Vc (Vc.alloc (.cells #[.slice a1 m1 d1, .slice a2 m2 d2, .slice a3 m3 d3] 71)) := bal (brf Vc) _
  have HROW := hide (hrows.later hbD)
  have HOWN := hide (own_later hown hbD)
  have HSC := hide (hst8.later hbD)
  have HWD := hide (btr hwc hbD)
  have HNC := hide (show B ≤ (Vc.alloc (.cells #[.slice a1 m1 d1, .slice a2 m2 d2, .slice a3 m3 d3] 71)).heap.size by simp; omega)
  have HBD := hide (btr hbwc hbD)
  clear hrows hown o1 o2 b1 b2 b3 hvr hfc hrc hoc hra hrb hbc hbwc hbD hst8 hwc
  go_wp2_with (first
    | (at_builtin; refine wpList_append_own _ rfl _ _ 30 rfl B 71 i75 (.agg #[.slice none 0 0, .slice none 0 0, .slice none 0 0]) 3 72 Tryz.underlying30 (unhide HI).1 (unhide HI).2.1 (unhide HI).2.2.1 (unhide HI).2.2.2 rfl (by decide) _ _ _ rfl (unhide HOWN) ⟨Vc.heap.size, 0, none⟩ 1 1 [.slice a1 m1 d1, .slice a2 m2 d2, .slice a3 m3 d3] rfl rfl (newR _ _ _ _ _ rfl) (oneR _ _ _ _ _ _ _ _ _) (by unfold maxLen; omega) (by omega) (unhide HNC) ?_; intro v' w2 hown' hgrow _)
    | go_in)
  have hroww := (unhide HROW).grown hgrow (own_type (unhide HOWN))
  have hgs := hgrow.size
  rw [← rcs_append] at hown'
  have hst2 := (unhide HSC).grown71 hgrow (own_type (unhide HOWN))
  have hlow := below_grown (Below.refl B (Vc.alloc (.cells #[.slice a1 m1 d1, .slice a2 m2 d2, .slice a3 m3 d3] 71))) hgrow (unhide HNC) (fun j hj => (World.ownsRow.lt (unhide HOWN) j hj).1)
  exact unhide HQ _ _ _ _ _ _ _ _ _ _ _ _ _ _ _ _ _ _ _ _ _ _ _ _ _ _ _ _ _ _ _ _ _ _ _ _ _ _ _ _ _ _ _ _ _ _ _ _ _ _ _ _ _ _ _ _ _ _ _ _ _ _ _ _ _ _ _ _ _ _ _ _ _ _ _ _ _ _ _ _ _ _ _ _ _ _ _ _ _ _ _ _ _ _ _ _ _ _ _ _ _ _ _ _ _ _ _ _ _ _ _ _ _ _ _ _ _ _ _ _ _ _ _ _ _ _ _ _ _ _ _ _ _ _ _ _ _ _ _ _ _ _ _ _ _ _ _ _ _ _ _ _ _ _ _ _ w2 _ hst2 ⟨_, _, _, rfl⟩ hown' ⟨Vc.heap.size, hroww, by simp at hgs; omega⟩ (((unhide HBD).mono hB).trans hlow) ((unhide HWD).trans (hlow.mono hwB))
end Go.Proofs.YtdmmbhemmbgcpabGreat
