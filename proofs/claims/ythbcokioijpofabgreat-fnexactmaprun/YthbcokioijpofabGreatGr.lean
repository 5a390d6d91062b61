/- The specification's MapRun: the loop of the outs. -/
import Derived.Test.YthbcokioijpofabGreatGq
import Derived.Test.YthbcokioijpofabGreatAE
namespace Go.Proofs.YthbcokioijpofabGreat
open Go Go.RowKit Gs
set_option linter.unusedVariables false
set_option linter.unusedSimpArgs false
set_option maxRecDepth 100000
set_option maxHeartbeats 16000000 in
theorem sL6 {u0 u1 u3 u4 u5 u6 u7 u8 u9 u10 u11 u12 u13 u15 u16 u19 u20 u21 u22 u23 u24 u25 u26 u27 u28 u29 u30 u31 u32 u33 u34 u35 u36 u37 u38 u39 u40 u41 u42 u43 u44 u45 u46 u47 u48 u49 u50 u51 u52 u53 u54 u55 u56 u57 u58 u59 u60 u61 u62 u63 u64 u65 u66 u67 u68 u69 u70 u71 u72 u73 u74 u75 u76 u77 u78 u79 u80 u81 u82 u83 u84 u85 u86 u87 u88 u89 u90 u91 u92 u93 u94 u95 u96 u97 u98 u99 u100 u101 u102 u103 u104 u105 u106 u107 u108 u109 u110 u111 u112 u113 u114 u115 u116 u117 u118 u119 u120 u121 u122 u123 u124 u125 u126 u127 u128 u129 u130 u131 u132 u133 u134 u135 u136 u137 u138 u139 u140 u141 u142 u143 u144 u145 u146 u147 u148 u149 u150 u151 u152 u153 u154 u155 u156 u157 u158 u159 u160 u161 u162 u163 u164 u165 u166 u167 u168 u169 u170 u171 u172 u173 u174 u175 u176 u177 u178 u179 u180 u181 u182 u183 u184 u185 u186 u187 u188 u189 u190 u191 u192 u193 u194 u195 u196 u197 u198 u199 u200 u201 u202 u203 : Value} {q pb l4 c4 BB : Nat} {s4 : Option Addr} {iv : Value} {vs : List Bool} {ps : List Port} {W3 W : World} {Q : Exit → Act → World → Prop} (hn : l4 = ps.length) (hnb : ps.length ≤ 1048576) (hvl : vs.length ≤ 1048576 * 8) (HBX : Hid (∀ V, Below W3.heap.size W3 V → V.cell? ⟨pb, 4, none⟩ = some (.slice s4 l4 c4))) (HPN : Hid (∀ (i : Nat) p, ps[i]? = some p → ∃ b o, s4 = some ⟨b, o, none⟩ ∧ W3.cell? ⟨b, o + i * 2 + 1, none⟩ = some (.int .i64 p.src)))
    (HLT : Hid (∀ p ∈ ps, 0 ≤ p.src ∧ p.src < (vs.length : Int))) (HIV : Hid (OI BB W3 iv (vs.map b2i))) (HB3 : Hid (Below W3.heap.size W3 W)) (hq3 : W3.heap.size ≤ q) (hqW : q < W.heap.size) (HC : Hid (RC W q 0 (.slice none 0 0)))
    (hQ : ∀ (z18 z139 z140 z141 z142 z143 z144 z145 z146 z147 z148 z149 z150 z151 z152 z153 z154 z155 z156 z157 z158 z159 z160 : Value) V v, OT W.heap.size V v (ps.map (fun p : Port => txt1 (srcV vs p.src))) → Fx q W V → RC V q 0 v → (∀ i y, i ≠ 0 → RC W q i y → RC V q i y) → Q (.exit 10) { tmps := (u0 :: u1 :: .pointer (some ⟨pb, 0, none⟩) :: u3 :: u4 :: u5 :: u6 :: u7 :: u8 :: u9 :: u10 :: u11 :: u12 :: u13 :: iv :: u15 :: u16 :: .pointer (some ⟨q, 0, none⟩) :: z18 :: u19 :: u20 :: u21 :: u22 :: u23 :: u24 :: u25 :: u26 :: u27 :: u28 :: u29 :: u30 :: u31 :: u32 :: u33 :: u34 :: u35 :: u36 :: u37 :: u38 :: u39 :: u40 :: u41 :: u42 :: u43 :: u44 :: u45 :: u46 :: u47 :: u48 :: u49 :: u50 :: u51 :: u52 :: u53 :: u54 :: u55 :: u56 :: u57 :: u58 :: u59 :: u60 :: u61 :: u62 :: u63 :: u64 :: u65 :: u66 :: u67 :: u68 :: u69 :: u70 :: u71 :: u72 :: u73 :: u74 :: u75 :: u76 :: u77 :: u78 :: u79 :: u80 :: u81 :: u82 :: u83 :: u84 :: u85 :: u86 :: u87 :: u88 :: u89 :: u90 :: u91 :: u92 :: u93 :: u94 :: u95 :: u96 :: u97 :: u98 :: u99 :: u100 :: u101 :: u102 :: u103 :: u104 :: u105 :: u106 :: u107 :: u108 :: u109 :: u110 :: u111 :: u112 :: u113 :: u114 :: u115 :: u116 :: u117 :: u118 :: u119 :: u120 :: u121 :: u122 :: u123 :: u124 :: u125 :: u126 :: u127 :: u128 :: u129 :: u130 :: u131 :: u132 :: u133 :: u134 :: u135 :: u136 :: u137 :: u138 :: z139 :: z140 :: z141 :: z142 :: z143 :: z144 :: z145 :: z146 :: z147 :: z148 :: z149 :: z150 :: z151 :: z152 :: z153 :: z154 :: z155 :: z156 :: z157 :: z158 :: z159 :: z160 :: u161 :: u162 :: u163 :: u164 :: u165 :: u166 :: u167 :: u168 :: u169 :: u170 :: u171 :: u172 :: u173 :: u174 :: u175 :: u176 :: u177 :: u178 :: u179 :: u180 :: u181 :: u182 :: u183 :: u184 :: u185 :: u186 :: u187 :: u188 :: u189 :: u190 :: u191 :: u192 :: u193 :: u194 :: u195 :: u196 :: u197 :: u198 :: u199 :: u200 :: u201 :: u202 :: u203 :: []).toArray, defers := [] } V) :
    Code.wp Tryz.prog (atB 10 (bodyOf Tryz.f6)) Q { tmps := (u0 :: u1 :: .pointer (some ⟨pb, 0, none⟩) :: u3 :: u4 :: u5 :: u6 :: u7 :: u8 :: u9 :: u10 :: u11 :: u12 :: u13 :: iv :: u15 :: u16 :: .pointer (some ⟨q, 0, none⟩) :: .int .i64 0 :: u19 :: u20 :: u21 :: u22 :: u23 :: u24 :: u25 :: u26 :: u27 :: u28 :: u29 :: u30 :: u31 :: u32 :: u33 :: u34 :: u35 :: u36 :: u37 :: u38 :: u39 :: u40 :: u41 :: u42 :: u43 :: u44 :: u45 :: u46 :: u47 :: u48 :: u49 :: u50 :: u51 :: u52 :: u53 :: u54 :: u55 :: u56 :: u57 :: u58 :: u59 :: u60 :: u61 :: u62 :: u63 :: u64 :: u65 :: u66 :: u67 :: u68 :: u69 :: u70 :: u71 :: u72 :: u73 :: u74 :: u75 :: u76 :: u77 :: u78 :: u79 :: u80 :: u81 :: u82 :: u83 :: u84 :: u85 :: u86 :: u87 :: u88 :: u89 :: u90 :: u91 :: u92 :: u93 :: u94 :: u95 :: u96 :: u97 :: u98 :: u99 :: u100 :: u101 :: u102 :: u103 :: u104 :: u105 :: u106 :: u107 :: u108 :: u109 :: u110 :: u111 :: u112 :: u113 :: u114 :: u115 :: u116 :: u117 :: u118 :: u119 :: u120 :: u121 :: u122 :: u123 :: u124 :: u125 :: u126 :: u127 :: u128 :: u129 :: u130 :: u131 :: u132 :: u133 :: u134 :: u135 :: u136 :: u137 :: u138 :: u139 :: u140 :: u141 :: u142 :: u143 :: u144 :: u145 :: u146 :: u147 :: u148 :: u149 :: u150 :: u151 :: u152 :: u153 :: u154 :: u155 :: u156 :: u157 :: u158 :: u159 :: u160 :: u161 :: u162 :: u163 :: u164 :: u165 :: u166 :: u167 :: u168 :: u169 :: u170 :: u171 :: u172 :: u173 :: u174 :: u175 :: u176 :: u177 :: u178 :: u179 :: u180 :: u181 :: u182 :: u183 :: u184 :: u185 :: u186 :: u187 :: u188 :: u189 :: u190 :: u191 :: u192 :: u193 :: u194 :: u195 :: u196 :: u197 :: u198 :: u199 :: u200 :: u201 :: u202 :: u203 :: []).toArray, defers := [] } W := by
  subst hn
  have HQ := hide hQ
  clear hQ
  conv => arg 2; whnf
  go_loopw [18] (fun i wr => ∃ (k : Nat) (tv : Value), k ≤ ps.length ∧ i = .int .i64 k ∧ OT W.heap.size wr tv ((ps.take k).map (fun p : Port => txt1 (srcV vs p.src))) ∧ Fx q W wr ∧ RC wr q 0 tv ∧ (∀ i y, i ≠ 0 → RC W q i y → RC wr q i y)) (fun i wr => ps.length - (intOf i).toNat)
  case atStart => exact ⟨0, _, Nat.zero_le _, rfl, OT_nil _ _, Fx.refl _ _, unhide HC, fun _ _ _ h => h⟩
  case round =>
    obtain ⟨k, tv, hk, rfl, hot, hfx, hcj, hoth⟩ := hrel
    have hb := hfx.below (unhide HB3) hq3 (unhide HB3).size
    have q4 := unhide HBX wr hb
    by_cases hlt : k < ps.length
    · have hx : ps[k]? = some ps[k] := List.getElem?_eq_getElem hlt
      have hmem : ps[k] ∈ ps := List.getElem_mem hlt
      generalize ps[k] = p at hx hmem
      obtain ⟨b, o, rfl, hc⟩ := unhide HPN k p hx
      obtain ⟨hl1, hl2⟩ := unhide HLT p hmem
      have HZ := hide (cell_later hb hc)
      obtain ⟨pn, hpn⟩ : ∃ pn : Nat, p.src = (pn : Int) := ⟨p.src.toNat, by omega⟩
      obtain ⟨gb, gc, rfl, hcl⟩ := (unhide HIV).atC (by rw [List.length_map]; omega)
      have HVL := hide (cell_later hb (hcl pn (b2i (srcV vs p.src)) (by rw [hpn, List.getElem?_map, srcV_at (by omega)]; rfl)))
      have HPL : Hid (pn < (vs.map b2i).length) := hide (by rw [List.length_map]; omega)
      have HGL : Hid ((vs.map b2i).length ≤ 1048576 * 8) := hide (by rw [List.length_map]; exact hvl)
      rw [hpn] at HZ
      have HST := hide (show (ps.take (k + 1)).map (fun p : Port => txt1 (srcV vs p.src)) = (ps.take k).map (fun p : Port => txt1 (srcV vs p.src)) ++ [txt1 (srcV vs p.src)] by rw [List.take_add_one, hx, List.map_append]; rfl)
      have HAL := hide (show ((ps.take k).map (fun p : Port => txt1 (srcV vs p.src))).length ≤ 1048576 by rw [List.length_map, List.length_take]; omega)
      have HOT := hide hot
      have HFX := hide hfx
      have HCJ := hide hcj
      have HOTH := hide hoth
      clear hot hfx hcj hoth hb hc hx hmem hl1 hl2 hpn hcl
      generalize p.src = z at *
      generalize (ps.take k).map (fun p : Port => txt1 (srcV vs p.src)) = acc at *
      generalize srcV vs z = A at *
      go_wp2_with fail
      refine runOuts HOT (unhide HOT).shape HAL (hide (unhide HFX).size) (hide hqW) (hide (unhide HCJ).1) (hide (unhide HCJ).2) hlt hnb (hide q4) HZ (unhide HPL) (unhide HGL) HVL _ rfl rfl rfl rfl rfl ?_
      intro a V V' v hnt hdf hkeep hOT' hlow hV
      obtain ⟨us, rfl, hus⟩ := putAll_of [146, 147, 148, 149, 150, 151, 152, 153, 154, 155, 156, 157, 158, 159, 160] hnt hdf hkeep
      clear hnt hdf hkeep hus
      simp only [putAll, List.foldl, Act.put, List.setIfInBounds_toArray, List.set_cons_zero, List.set_cons_succ]
      generalize us 146 = z146 at *
      generalize us 147 = z147 at *
      generalize us 148 = z148 at *
      generalize us 149 = z149 at *
      generalize us 150 = z150 at *
      generalize us 151 = z151 at *
      generalize us 152 = z152 at *
      generalize us 153 = z153 at *
      generalize us 154 = z154 at *
      generalize us 155 = z155 at *
      generalize us 156 = z156 at *
      generalize us 157 = z157 at *
      generalize us 158 = z158 at *
      generalize us 159 = z159 at *
      generalize us 160 = z160 at *
      have HR := hide (row_step rfl hqW (unhide HFX) (unhide HCJ) (unhide HOTH) hOT' hlow hV)
      clear hV hOT' hlow q4
      go_wp2_with fail
      go_roundw
      case rel => exact ⟨k + 1, v, by omega, by go_num, by rw [unhide HST]; exact (unhide HR).1, (unhide HR).2⟩
      case measure => simp [intOf]; omega
    · obtain rfl : k = ps.length := by omega
      rw [List.take_of_length_le (Nat.le_refl _)] at hot
      have HOT := hide hot
      have HFX := hide hfx
      have HCJ := hide hcj
      have HOTH := hide hoth
      clear hot hfx hcj hoth hb
      go_wp2_with fail
      exact unhide HQ _ _ _ _ _ _ _ _ _ _ _ _ _ _ _ _ _ _ _ _ _ _ _ wr tv (unhide HOT) (unhide HFX) (unhide HCJ) (unhide HOTH)
end Go.Proofs.YthbcokioijpofabGreat
namespace Go.Proofs.YthbcokioijpofabGreat
open Go Go.RowKit Gs
set_option linter.unusedVariables false
set_option linter.unusedSimpArgs false
set_option maxRecDepth 100000
set_option maxHeartbeats 16000000 in
theorem sL7 {u0 u1 u3 u4 u5 u6 u7 u8 u9 u10 u11 u12 u13 u15 u16 u18 u20 u21 u22 u23 u24 u25 u26 u27 u28 u29 u30 u31 u32 u33 u34 u35 u36 u37 u38 u39 u40 u41 u42 u43 u44 u45 u46 u47 u48 u49 u50 u51 u52 u53 u54 u55 u56 u57 u58 u59 u60 u61 u62 u63 u64 u65 u66 u67 u68 u69 u70 u71 u72 u73 u74 u75 u76 u77 u78 u79 u80 u81 u82 u83 u84 u85 u86 u87 u88 u89 u90 u91 u92 u93 u94 u95 u96 u97 u98 u99 u100 u101 u102 u103 u104 u105 u106 u107 u108 u109 u110 u111 u112 u113 u114 u115 u116 u117 u118 u119 u120 u121 u122 u123 u124 u125 u126 u127 u128 u129 u130 u131 u132 u133 u134 u135 u136 u137 u138 u139 u140 u141 u142 u143 u144 u145 u146 u147 u148 u149 u150 u151 u152 u153 u154 u155 u156 u157 u158 u159 u160 u161 u162 u163 u164 u165 u166 u167 u168 u169 u170 u171 u172 u173 u174 u175 u176 u177 u178 u179 u180 u181 u182 u183 u184 u185 u186 u187 u188 u189 u190 u191 u192 u193 u194 u195 u196 u197 u198 u199 u200 u201 u202 u203 : Value} {q pb l4 c4 BB : Nat} {s4 : Option Addr} {iv : Value} {vs : List Bool} {ps : List Port} {W3 W : World} {Q : Exit → Act → World → Prop} (hn : l4 = ps.length) (hnb : ps.length ≤ 1048576) (hvl : vs.length ≤ 1048576 * 8) (HBX : Hid (∀ V, Below W3.heap.size W3 V → V.cell? ⟨pb, 5, none⟩ = some (.slice s4 l4 c4))) (HPN : Hid (∀ (i : Nat) p, ps[i]? = some p → ∃ b o, s4 = some ⟨b, o, none⟩ ∧ W3.cell? ⟨b, o + i * 2 + 1, none⟩ = some (.int .i64 p.src)))
    (HLT : Hid (∀ p ∈ ps, 0 ≤ p.src ∧ p.src < (vs.length : Int))) (HIV : Hid (OI BB W3 iv (vs.map b2i))) (HB3 : Hid (Below W3.heap.size W3 W)) (hq3 : W3.heap.size ≤ q) (hqW : q < W.heap.size) (HC : Hid (RC W q 1 (.slice none 0 0)))
    (hQ : ∀ (z19 z161 z162 z163 z164 z165 z166 z167 z168 z169 z170 z171 z172 z173 z174 z175 z176 z177 z178 z179 z180 z181 z182 : Value) V v, OT W.heap.size V v (ps.map (fun p : Port => txt1 (srcV vs p.src))) → Fx q W V → RC V q 1 v → (∀ i y, i ≠ 1 → RC W q i y → RC V q i y) → Q (.exit 12) { tmps := (u0 :: u1 :: .pointer (some ⟨pb, 0, none⟩) :: u3 :: u4 :: u5 :: u6 :: u7 :: u8 :: u9 :: u10 :: u11 :: u12 :: u13 :: iv :: u15 :: u16 :: .pointer (some ⟨q, 0, none⟩) :: u18 :: z19 :: u20 :: u21 :: u22 :: u23 :: u24 :: u25 :: u26 :: u27 :: u28 :: u29 :: u30 :: u31 :: u32 :: u33 :: u34 :: u35 :: u36 :: u37 :: u38 :: u39 :: u40 :: u41 :: u42 :: u43 :: u44 :: u45 :: u46 :: u47 :: u48 :: u49 :: u50 :: u51 :: u52 :: u53 :: u54 :: u55 :: u56 :: u57 :: u58 :: u59 :: u60 :: u61 :: u62 :: u63 :: u64 :: u65 :: u66 :: u67 :: u68 :: u69 :: u70 :: u71 :: u72 :: u73 :: u74 :: u75 :: u76 :: u77 :: u78 :: u79 :: u80 :: u81 :: u82 :: u83 :: u84 :: u85 :: u86 :: u87 :: u88 :: u89 :: u90 :: u91 :: u92 :: u93 :: u94 :: u95 :: u96 :: u97 :: u98 :: u99 :: u100 :: u101 :: u102 :: u103 :: u104 :: u105 :: u106 :: u107 :: u108 :: u109 :: u110 :: u111 :: u112 :: u113 :: u114 :: u115 :: u116 :: u117 :: u118 :: u119 :: u120 :: u121 :: u122 :: u123 :: u124 :: u125 :: u126 :: u127 :: u128 :: u129 :: u130 :: u131 :: u132 :: u133 :: u134 :: u135 :: u136 :: u137 :: u138 :: u139 :: u140 :: u141 :: u142 :: u143 :: u144 :: u145 :: u146 :: u147 :: u148 :: u149 :: u150 :: u151 :: u152 :: u153 :: u154 :: u155 :: u156 :: u157 :: u158 :: u159 :: u160 :: z161 :: z162 :: z163 :: z164 :: z165 :: z166 :: z167 :: z168 :: z169 :: z170 :: z171 :: z172 :: z173 :: z174 :: z175 :: z176 :: z177 :: z178 :: z179 :: z180 :: z181 :: z182 :: u183 :: u184 :: u185 :: u186 :: u187 :: u188 :: u189 :: u190 :: u191 :: u192 :: u193 :: u194 :: u195 :: u196 :: u197 :: u198 :: u199 :: u200 :: u201 :: u202 :: u203 :: []).toArray, defers := [] } V) :
    Code.wp Tryz.prog (atB 12 (bodyOf Tryz.f6)) Q { tmps := (u0 :: u1 :: .pointer (some ⟨pb, 0, none⟩) :: u3 :: u4 :: u5 :: u6 :: u7 :: u8 :: u9 :: u10 :: u11 :: u12 :: u13 :: iv :: u15 :: u16 :: .pointer (some ⟨q, 0, none⟩) :: u18 :: .int .i64 0 :: u20 :: u21 :: u22 :: u23 :: u24 :: u25 :: u26 :: u27 :: u28 :: u29 :: u30 :: u31 :: u32 :: u33 :: u34 :: u35 :: u36 :: u37 :: u38 :: u39 :: u40 :: u41 :: u42 :: u43 :: u44 :: u45 :: u46 :: u47 :: u48 :: u49 :: u50 :: u51 :: u52 :: u53 :: u54 :: u55 :: u56 :: u57 :: u58 :: u59 :: u60 :: u61 :: u62 :: u63 :: u64 :: u65 :: u66 :: u67 :: u68 :: u69 :: u70 :: u71 :: u72 :: u73 :: u74 :: u75 :: u76 :: u77 :: u78 :: u79 :: u80 :: u81 :: u82 :: u83 :: u84 :: u85 :: u86 :: u87 :: u88 :: u89 :: u90 :: u91 :: u92 :: u93 :: u94 :: u95 :: u96 :: u97 :: u98 :: u99 :: u100 :: u101 :: u102 :: u103 :: u104 :: u105 :: u106 :: u107 :: u108 :: u109 :: u110 :: u111 :: u112 :: u113 :: u114 :: u115 :: u116 :: u117 :: u118 :: u119 :: u120 :: u121 :: u122 :: u123 :: u124 :: u125 :: u126 :: u127 :: u128 :: u129 :: u130 :: u131 :: u132 :: u133 :: u134 :: u135 :: u136 :: u137 :: u138 :: u139 :: u140 :: u141 :: u142 :: u143 :: u144 :: u145 :: u146 :: u147 :: u148 :: u149 :: u150 :: u151 :: u152 :: u153 :: u154 :: u155 :: u156 :: u157 :: u158 :: u159 :: u160 :: u161 :: u162 :: u163 :: u164 :: u165 :: u166 :: u167 :: u168 :: u169 :: u170 :: u171 :: u172 :: u173 :: u174 :: u175 :: u176 :: u177 :: u178 :: u179 :: u180 :: u181 :: u182 :: u183 :: u184 :: u185 :: u186 :: u187 :: u188 :: u189 :: u190 :: u191 :: u192 :: u193 :: u194 :: u195 :: u196 :: u197 :: u198 :: u199 :: u200 :: u201 :: u202 :: u203 :: []).toArray, defers := [] } W := by
  subst hn
  have HQ := hide hQ
  clear hQ
  conv => arg 2; whnf
  go_loopw [19] (fun i wr => ∃ (k : Nat) (tv : Value), k ≤ ps.length ∧ i = .int .i64 k ∧ OT W.heap.size wr tv ((ps.take k).map (fun p : Port => txt1 (srcV vs p.src))) ∧ Fx q W wr ∧ RC wr q 1 tv ∧ (∀ i y, i ≠ 1 → RC W q i y → RC wr q i y)) (fun i wr => ps.length - (intOf i).toNat)
  case atStart => exact ⟨0, _, Nat.zero_le _, rfl, OT_nil _ _, Fx.refl _ _, unhide HC, fun _ _ _ h => h⟩
  case round =>
    obtain ⟨k, tv, hk, rfl, hot, hfx, hcj, hoth⟩ := hrel
    have hb := hfx.below (unhide HB3) hq3 (unhide HB3).size
    have q4 := unhide HBX wr hb
    by_cases hlt : k < ps.length
    · have hx : ps[k]? = some ps[k] := List.getElem?_eq_getElem hlt
      have hmem : ps[k] ∈ ps := List.getElem_mem hlt
      generalize ps[k] = p at hx hmem
      obtain ⟨b, o, rfl, hc⟩ := unhide HPN k p hx
      obtain ⟨hl1, hl2⟩ := unhide HLT p hmem
      have HZ := hide (cell_later hb hc)
      obtain ⟨pn, hpn⟩ : ∃ pn : Nat, p.src = (pn : Int) := ⟨p.src.toNat, by omega⟩
      obtain ⟨gb, gc, rfl, hcl⟩ := (unhide HIV).atC (by rw [List.length_map]; omega)
      have HVL := hide (cell_later hb (hcl pn (b2i (srcV vs p.src)) (by rw [hpn, List.getElem?_map, srcV_at (by omega)]; rfl)))
      have HPL : Hid (pn < (vs.map b2i).length) := hide (by rw [List.length_map]; omega)
      have HGL : Hid ((vs.map b2i).length ≤ 1048576 * 8) := hide (by rw [List.length_map]; exact hvl)
      rw [hpn] at HZ
      have HST := hide (show (ps.take (k + 1)).map (fun p : Port => txt1 (srcV vs p.src)) = (ps.take k).map (fun p : Port => txt1 (srcV vs p.src)) ++ [txt1 (srcV vs p.src)] by rw [List.take_add_one, hx, List.map_append]; rfl)
      have HAL := hide (show ((ps.take k).map (fun p : Port => txt1 (srcV vs p.src))).length ≤ 1048576 by rw [List.length_map, List.length_take]; omega)
      have HOT := hide hot
      have HFX := hide hfx
      have HCJ := hide hcj
      have HOTH := hide hoth
      clear hot hfx hcj hoth hb hc hx hmem hl1 hl2 hpn hcl
      generalize p.src = z at *
      generalize (ps.take k).map (fun p : Port => txt1 (srcV vs p.src)) = acc at *
      generalize srcV vs z = A at *
      go_wp2_with fail
      refine runChecks HOT (unhide HOT).shape HAL (hide (unhide HFX).size) (hide hqW) (hide (unhide HCJ).1) (hide (unhide HCJ).2) hlt hnb (hide q4) HZ (unhide HPL) (unhide HGL) HVL _ rfl rfl rfl rfl rfl ?_
      intro a V V' v hnt hdf hkeep hOT' hlow hV
      obtain ⟨us, rfl, hus⟩ := putAll_of [168, 169, 170, 171, 172, 173, 174, 175, 176, 177, 178, 179, 180, 181, 182] hnt hdf hkeep
      clear hnt hdf hkeep hus
      simp only [putAll, List.foldl, Act.put, List.setIfInBounds_toArray, List.set_cons_zero, List.set_cons_succ]
      generalize us 168 = z168 at *
      generalize us 169 = z169 at *
      generalize us 170 = z170 at *
      generalize us 171 = z171 at *
      generalize us 172 = z172 at *
      generalize us 173 = z173 at *
      generalize us 174 = z174 at *
      generalize us 175 = z175 at *
      generalize us 176 = z176 at *
      generalize us 177 = z177 at *
      generalize us 178 = z178 at *
      generalize us 179 = z179 at *
      generalize us 180 = z180 at *
      generalize us 181 = z181 at *
      generalize us 182 = z182 at *
      have HR := hide (row_step rfl hqW (unhide HFX) (unhide HCJ) (unhide HOTH) hOT' hlow hV)
      clear hV hOT' hlow q4
      go_wp2_with fail
      go_roundw
      case rel => exact ⟨k + 1, v, by omega, by go_num, by rw [unhide HST]; exact (unhide HR).1, (unhide HR).2⟩
      case measure => simp [intOf]; omega
    · obtain rfl : k = ps.length := by omega
      rw [List.take_of_length_le (Nat.le_refl _)] at hot
      have HOT := hide hot
      have HFX := hide hfx
      have HCJ := hide hcj
      have HOTH := hide hoth
      clear hot hfx hcj hoth hb
      go_wp2_with fail
      exact unhide HQ _ _ _ _ _ _ _ _ _ _ _ _ _ _ _ _ _ _ _ _ _ _ _ wr tv (unhide HOT) (unhide HFX) (unhide HCJ) (unhide HOTH)
end Go.Proofs.YthbcokioijpofabGreat
namespace Go.Proofs.YthbcokioijpofabGreat
open Go Go.RowKit Gs
set_option linter.unusedVariables false
set_option linter.unusedSimpArgs false
set_option maxRecDepth 100000
set_option maxHeartbeats 16000000 in
theorem sL8 {u0 u1 u2 u3 u4 u5 u6 u7 u9 u10 u11 u12 u13 u14 u15 u16 u18 u19 u21 u22 u23 u24 u25 u26 u27 u28 u29 u30 u31 u32 u33 u34 u35 u36 u37 u38 u39 u40 u41 u42 u43 u44 u45 u46 u47 u48 u49 u50 u51 u52 u53 u54 u55 u56 u57 u58 u59 u60 u61 u62 u63 u64 u65 u66 u67 u68 u69 u70 u71 u72 u73 u74 u75 u76 u77 u78 u79 u80 u81 u82 u83 u84 u85 u86 u87 u88 u89 u90 u91 u92 u93 u94 u95 u96 u97 u98 u99 u100 u101 u102 u103 u104 u105 u106 u107 u108 u109 u110 u111 u112 u113 u114 u115 u116 u117 u118 u119 u120 u121 u122 u123 u124 u125 u126 u127 u128 u129 u130 u131 u132 u133 u134 u135 u136 u137 u138 u139 u140 u141 u142 u143 u144 u145 u146 u147 u148 u149 u150 u151 u152 u153 u154 u155 u156 u157 u158 u159 u160 u161 u162 u163 u164 u165 u166 u167 u168 u169 u170 u171 u172 u173 u174 u175 u176 u177 u178 u179 u180 u181 u182 u183 u184 u185 u186 u187 u188 u189 u190 u191 u192 u193 u194 u195 u196 u197 u198 u199 u200 u201 u202 u203 : Value} {q n8 c8 : Nat} {sa : Option Addr} {st : List Bool} {W3 W : World} {Q : Exit → Act → World → Prop} (hn : n8 = st.length) (hnb : st.length ≤ 1048576) (HS : Hid (∀ (i : Nat) y, st[i]? = some y → ∃ b o, sa = some ⟨b, o, none⟩ ∧ W3.cell? ⟨b, o + i, none⟩ = some (.int .i64 (b2i y)))) (HB3 : Hid (Below W3.heap.size W3 W)) (hq3 : W3.heap.size ≤ q) (hqW : q < W.heap.size) (HC : Hid (RC W q 2 (.slice none 0 0)))
    (hQ : ∀ (z20 z183 z184 z185 z186 z187 z188 z189 z190 z191 z192 z193 z194 z195 z196 z197 z198 : Value) V v, OT W.heap.size V v (st.map txt1) → Fx q W V → RC V q 2 v → (∀ i y, i ≠ 2 → RC W q i y → RC V q i y) → Q (.exit 14) { tmps := (u0 :: u1 :: u2 :: u3 :: u4 :: u5 :: u6 :: u7 :: .slice sa n8 c8 :: u9 :: u10 :: u11 :: u12 :: u13 :: u14 :: u15 :: u16 :: .pointer (some ⟨q, 0, none⟩) :: u18 :: u19 :: z20 :: u21 :: u22 :: u23 :: u24 :: u25 :: u26 :: u27 :: u28 :: u29 :: u30 :: u31 :: u32 :: u33 :: u34 :: u35 :: u36 :: u37 :: u38 :: u39 :: u40 :: u41 :: u42 :: u43 :: u44 :: u45 :: u46 :: u47 :: u48 :: u49 :: u50 :: u51 :: u52 :: u53 :: u54 :: u55 :: u56 :: u57 :: u58 :: u59 :: u60 :: u61 :: u62 :: u63 :: u64 :: u65 :: u66 :: u67 :: u68 :: u69 :: u70 :: u71 :: u72 :: u73 :: u74 :: u75 :: u76 :: u77 :: u78 :: u79 :: u80 :: u81 :: u82 :: u83 :: u84 :: u85 :: u86 :: u87 :: u88 :: u89 :: u90 :: u91 :: u92 :: u93 :: u94 :: u95 :: u96 :: u97 :: u98 :: u99 :: u100 :: u101 :: u102 :: u103 :: u104 :: u105 :: u106 :: u107 :: u108 :: u109 :: u110 :: u111 :: u112 :: u113 :: u114 :: u115 :: u116 :: u117 :: u118 :: u119 :: u120 :: u121 :: u122 :: u123 :: u124 :: u125 :: u126 :: u127 :: u128 :: u129 :: u130 :: u131 :: u132 :: u133 :: u134 :: u135 :: u136 :: u137 :: u138 :: u139 :: u140 :: u141 :: u142 :: u143 :: u144 :: u145 :: u146 :: u147 :: u148 :: u149 :: u150 :: u151 :: u152 :: u153 :: u154 :: u155 :: u156 :: u157 :: u158 :: u159 :: u160 :: u161 :: u162 :: u163 :: u164 :: u165 :: u166 :: u167 :: u168 :: u169 :: u170 :: u171 :: u172 :: u173 :: u174 :: u175 :: u176 :: u177 :: u178 :: u179 :: u180 :: u181 :: u182 :: z183 :: z184 :: z185 :: z186 :: z187 :: z188 :: z189 :: z190 :: z191 :: z192 :: z193 :: z194 :: z195 :: z196 :: z197 :: z198 :: u199 :: u200 :: u201 :: u202 :: u203 :: []).toArray, defers := [] } V) :
    Code.wp Tryz.prog (atB 14 (bodyOf Tryz.f6)) Q { tmps := (u0 :: u1 :: u2 :: u3 :: u4 :: u5 :: u6 :: u7 :: .slice sa n8 c8 :: u9 :: u10 :: u11 :: u12 :: u13 :: u14 :: u15 :: u16 :: .pointer (some ⟨q, 0, none⟩) :: u18 :: u19 :: .int .i64 0 :: u21 :: u22 :: u23 :: u24 :: u25 :: u26 :: u27 :: u28 :: u29 :: u30 :: u31 :: u32 :: u33 :: u34 :: u35 :: u36 :: u37 :: u38 :: u39 :: u40 :: u41 :: u42 :: u43 :: u44 :: u45 :: u46 :: u47 :: u48 :: u49 :: u50 :: u51 :: u52 :: u53 :: u54 :: u55 :: u56 :: u57 :: u58 :: u59 :: u60 :: u61 :: u62 :: u63 :: u64 :: u65 :: u66 :: u67 :: u68 :: u69 :: u70 :: u71 :: u72 :: u73 :: u74 :: u75 :: u76 :: u77 :: u78 :: u79 :: u80 :: u81 :: u82 :: u83 :: u84 :: u85 :: u86 :: u87 :: u88 :: u89 :: u90 :: u91 :: u92 :: u93 :: u94 :: u95 :: u96 :: u97 :: u98 :: u99 :: u100 :: u101 :: u102 :: u103 :: u104 :: u105 :: u106 :: u107 :: u108 :: u109 :: u110 :: u111 :: u112 :: u113 :: u114 :: u115 :: u116 :: u117 :: u118 :: u119 :: u120 :: u121 :: u122 :: u123 :: u124 :: u125 :: u126 :: u127 :: u128 :: u129 :: u130 :: u131 :: u132 :: u133 :: u134 :: u135 :: u136 :: u137 :: u138 :: u139 :: u140 :: u141 :: u142 :: u143 :: u144 :: u145 :: u146 :: u147 :: u148 :: u149 :: u150 :: u151 :: u152 :: u153 :: u154 :: u155 :: u156 :: u157 :: u158 :: u159 :: u160 :: u161 :: u162 :: u163 :: u164 :: u165 :: u166 :: u167 :: u168 :: u169 :: u170 :: u171 :: u172 :: u173 :: u174 :: u175 :: u176 :: u177 :: u178 :: u179 :: u180 :: u181 :: u182 :: u183 :: u184 :: u185 :: u186 :: u187 :: u188 :: u189 :: u190 :: u191 :: u192 :: u193 :: u194 :: u195 :: u196 :: u197 :: u198 :: u199 :: u200 :: u201 :: u202 :: u203 :: []).toArray, defers := [] } W := by
  subst hn
  have HQ := hide hQ
  clear hQ
  conv => arg 2; whnf
  go_loopw [20] (fun i wr => ∃ (k : Nat) (tv : Value), k ≤ st.length ∧ i = .int .i64 k ∧ OT W.heap.size wr tv ((st.take k).map txt1) ∧ Fx q W wr ∧ RC wr q 2 tv ∧ (∀ i y, i ≠ 2 → RC W q i y → RC wr q i y)) (fun i wr => st.length - (intOf i).toNat)
  case atStart => exact ⟨0, _, Nat.zero_le _, rfl, OT_nil _ _, Fx.refl _ _, unhide HC, fun _ _ _ h => h⟩
  case round =>
    obtain ⟨k, tv, hk, rfl, hot, hfx, hcj, hoth⟩ := hrel
    have hb := hfx.below (unhide HB3) hq3 (unhide HB3).size
    by_cases hlt : k < st.length
    · have hx : st[k]? = some st[k] := List.getElem?_eq_getElem hlt
      generalize st[k] = A at hx
      obtain ⟨b, o, rfl, hc⟩ := unhide HS k A hx
      have HZ := hide (cell_later hb hc)
      have HST := hide (show (st.take (k + 1)).map txt1 = (st.take k).map txt1 ++ [txt1 A] by rw [List.take_add_one, hx, List.map_append]; rfl)
      have HAL := hide (show ((st.take k).map txt1).length ≤ 1048576 by rw [List.length_map, List.length_take]; omega)
      have HOT := hide hot
      have HFX := hide hfx
      have HCJ := hide hcj
      have HOTH := hide hoth
      clear hot hfx hcj hoth hb hc hx
      generalize (st.take k).map txt1 = acc at *
      go_wp2_with fail
      refine runRegs HOT (unhide HOT).shape HAL (hide (unhide HFX).size) (hide hqW) (hide (unhide HCJ).1) (hide (unhide HCJ).2) hlt hnb HZ _ rfl rfl rfl rfl ?_
      intro a V V' v hnt hdf hkeep hOT' hlow hV
      obtain ⟨us, rfl, hus⟩ := putAll_of [189, 190, 191, 192, 193, 194, 195, 196, 197, 198] hnt hdf hkeep
      clear hnt hdf hkeep hus
      simp only [putAll, List.foldl, Act.put, List.setIfInBounds_toArray, List.set_cons_zero, List.set_cons_succ]
      generalize us 189 = z189 at *
      generalize us 190 = z190 at *
      generalize us 191 = z191 at *
      generalize us 192 = z192 at *
      generalize us 193 = z193 at *
      generalize us 194 = z194 at *
      generalize us 195 = z195 at *
      generalize us 196 = z196 at *
      generalize us 197 = z197 at *
      generalize us 198 = z198 at *
      have HR := hide (row_step rfl hqW (unhide HFX) (unhide HCJ) (unhide HOTH) hOT' hlow hV)
      clear hV hOT' hlow
      go_wp2_with fail
      go_roundw
      case rel => exact ⟨k + 1, v, by omega, by go_num, by rw [unhide HST]; exact (unhide HR).1, (unhide HR).2⟩
      case measure => simp [intOf]; omega
    · obtain rfl : k = st.length := by omega
      rw [List.take_of_length_le (Nat.le_refl _)] at hot
      have HOT := hide hot
      have HFX := hide hfx
      have HCJ := hide hcj
      have HOTH := hide hoth
      clear hot hfx hcj hoth hb
      go_wp2_with fail
      exact unhide HQ _ _ _ _ _ _ _ _ _ _ _ _ _ _ _ _ _ wr tv (unhide HOT) (unhide HFX) (unhide HCJ) (unhide HOTH)
end Go.Proofs.YthbcokioijpofabGreat
namespace Go.Proofs.YthbcokioijpofabGreat
open Go Go.RowKit Gs
set_option linter.unusedVariables false
set_option linter.unusedSimpArgs false
set_option maxRecDepth 100000
set_option maxHeartbeats 16000000 in
theorem sL4 {u0 u3 u4 u5 u6 u7 u8 u9 u10 u14 u15 u16 u17 u18 u19 u20 u21 u22 u23 u24 u25 u26 u27 u28 u29 u30 u31 u32 u33 u34 u35 u36 u37 u38 u39 u40 u41 u42 u43 u44 u45 u46 u47 u48 u49 u50 u51 u52 u53 u54 u55 u56 u57 u58 u59 u60 u61 u62 u63 u64 u65 u66 u67 u68 u69 u70 u71 u72 u73 u74 u75 u76 u77 u78 u79 u80 u81 u82 u83 u84 u85 u86 u87 u88 u89 u90 u91 u92 u93 u94 u95 u96 u97 u98 u99 u100 u101 u102 u103 u104 u105 u106 u107 u108 u109 u110 u111 u112 u113 u114 u115 u116 u117 u118 u119 u120 u121 u122 u123 u124 u125 u126 u127 u128 u129 u130 u131 u132 u133 u134 u135 u136 u137 u138 u139 u140 u141 u142 u143 u144 u145 u146 u147 u148 u149 u150 u151 u152 u153 u154 u155 u156 u157 u158 u159 u160 u161 u162 u163 u164 u165 u166 u167 u168 u169 u170 u171 u172 u173 u174 u175 u176 u177 u178 u179 u180 u181 u182 u183 u184 u185 u186 u187 u188 u189 u190 u191 u192 u193 u194 u195 u196 u197 u198 u199 u200 u201 u202 u203 : Value} {pb sb so sl sc K l0 c0 li ci : Nat} {s0 si : Option Addr} {v0 : Value} {ins : List ByteArray} {W0 W : World} {Q : Exit → Act → World → Prop} (hK : K < sl) (hsl : sl ≤ 4096) (hl0 : l0 = ins.length) (hli : li = ins.length) (hnb : ins.length ≤ 1048576) (HBX : Hid (∀ V, Below W0.heap.size W0 V → V.cell? ⟨pb, 0, none⟩ = some (.slice s0 l0 c0))) (HSC : Hid (W0.cell? ⟨sb, so + K * 2, none⟩ = some (.slice si li ci))) (HSI : Hid (∀ (i : Nat) x, ins[i]? = some x → ∃ b o, si = some ⟨b, o, none⟩ ∧ W0.cell? ⟨b, o + i, none⟩ = some (.string x)))
    (HO : Hid (OI W0.heap.size W v0 [])) (HB0 : Hid (Below W0.heap.size W0 W))
    (hQ : ∀ (z13 z75 z76 z77 z78 z79 z80 z81 z82 z83 z84 z85 z86 z87 z88 z89 z90 z91 z92 z93 : Value) V v, OI W0.heap.size V v ((ins.map bit1).map b2i) → Below W0.heap.size W0 V → Q (.exit 6) { tmps := (u0 :: .slice (some ⟨sb, so, none⟩) sl sc :: .pointer (some ⟨pb, 0, none⟩) :: u3 :: u4 :: u5 :: u6 :: u7 :: u8 :: u9 :: u10 :: .int .i64 (K : Int) :: v :: z13 :: u14 :: u15 :: u16 :: u17 :: u18 :: u19 :: u20 :: u21 :: u22 :: u23 :: u24 :: u25 :: u26 :: u27 :: u28 :: u29 :: u30 :: u31 :: u32 :: u33 :: u34 :: u35 :: u36 :: u37 :: u38 :: u39 :: u40 :: u41 :: u42 :: u43 :: u44 :: u45 :: u46 :: u47 :: u48 :: u49 :: u50 :: u51 :: u52 :: u53 :: u54 :: u55 :: u56 :: u57 :: u58 :: u59 :: u60 :: u61 :: u62 :: u63 :: u64 :: u65 :: u66 :: u67 :: u68 :: u69 :: u70 :: u71 :: u72 :: u73 :: u74 :: z75 :: z76 :: z77 :: z78 :: z79 :: z80 :: z81 :: z82 :: z83 :: z84 :: z85 :: z86 :: z87 :: z88 :: z89 :: z90 :: z91 :: z92 :: z93 :: u94 :: u95 :: u96 :: u97 :: u98 :: u99 :: u100 :: u101 :: u102 :: u103 :: u104 :: u105 :: u106 :: u107 :: u108 :: u109 :: u110 :: u111 :: u112 :: u113 :: u114 :: u115 :: u116 :: u117 :: u118 :: u119 :: u120 :: u121 :: u122 :: u123 :: u124 :: u125 :: u126 :: u127 :: u128 :: u129 :: u130 :: u131 :: u132 :: u133 :: u134 :: u135 :: u136 :: u137 :: u138 :: u139 :: u140 :: u141 :: u142 :: u143 :: u144 :: u145 :: u146 :: u147 :: u148 :: u149 :: u150 :: u151 :: u152 :: u153 :: u154 :: u155 :: u156 :: u157 :: u158 :: u159 :: u160 :: u161 :: u162 :: u163 :: u164 :: u165 :: u166 :: u167 :: u168 :: u169 :: u170 :: u171 :: u172 :: u173 :: u174 :: u175 :: u176 :: u177 :: u178 :: u179 :: u180 :: u181 :: u182 :: u183 :: u184 :: u185 :: u186 :: u187 :: u188 :: u189 :: u190 :: u191 :: u192 :: u193 :: u194 :: u195 :: u196 :: u197 :: u198 :: u199 :: u200 :: u201 :: u202 :: u203 :: []).toArray, defers := [] } V) :
    Code.wp Tryz.prog (atB 6 (bodyOf Tryz.f6)) Q { tmps := (u0 :: .slice (some ⟨sb, so, none⟩) sl sc :: .pointer (some ⟨pb, 0, none⟩) :: u3 :: u4 :: u5 :: u6 :: u7 :: u8 :: u9 :: u10 :: .int .i64 (K : Int) :: v0 :: .int .i64 0 :: u14 :: u15 :: u16 :: u17 :: u18 :: u19 :: u20 :: u21 :: u22 :: u23 :: u24 :: u25 :: u26 :: u27 :: u28 :: u29 :: u30 :: u31 :: u32 :: u33 :: u34 :: u35 :: u36 :: u37 :: u38 :: u39 :: u40 :: u41 :: u42 :: u43 :: u44 :: u45 :: u46 :: u47 :: u48 :: u49 :: u50 :: u51 :: u52 :: u53 :: u54 :: u55 :: u56 :: u57 :: u58 :: u59 :: u60 :: u61 :: u62 :: u63 :: u64 :: u65 :: u66 :: u67 :: u68 :: u69 :: u70 :: u71 :: u72 :: u73 :: u74 :: u75 :: u76 :: u77 :: u78 :: u79 :: u80 :: u81 :: u82 :: u83 :: u84 :: u85 :: u86 :: u87 :: u88 :: u89 :: u90 :: u91 :: u92 :: u93 :: u94 :: u95 :: u96 :: u97 :: u98 :: u99 :: u100 :: u101 :: u102 :: u103 :: u104 :: u105 :: u106 :: u107 :: u108 :: u109 :: u110 :: u111 :: u112 :: u113 :: u114 :: u115 :: u116 :: u117 :: u118 :: u119 :: u120 :: u121 :: u122 :: u123 :: u124 :: u125 :: u126 :: u127 :: u128 :: u129 :: u130 :: u131 :: u132 :: u133 :: u134 :: u135 :: u136 :: u137 :: u138 :: u139 :: u140 :: u141 :: u142 :: u143 :: u144 :: u145 :: u146 :: u147 :: u148 :: u149 :: u150 :: u151 :: u152 :: u153 :: u154 :: u155 :: u156 :: u157 :: u158 :: u159 :: u160 :: u161 :: u162 :: u163 :: u164 :: u165 :: u166 :: u167 :: u168 :: u169 :: u170 :: u171 :: u172 :: u173 :: u174 :: u175 :: u176 :: u177 :: u178 :: u179 :: u180 :: u181 :: u182 :: u183 :: u184 :: u185 :: u186 :: u187 :: u188 :: u189 :: u190 :: u191 :: u192 :: u193 :: u194 :: u195 :: u196 :: u197 :: u198 :: u199 :: u200 :: u201 :: u202 :: u203 :: []).toArray, defers := [] } W := by
  subst hl0 hli
  have HQ := hide hQ
  clear hQ
  obtain ⟨i0, hi, hz0, hz1, hz2⟩ := info_parts info3
  have HI := hide (And.intro hi (And.intro hz0 (And.intro hz1 hz2)))
  clear hi hz0 hz1 hz2
  conv => arg 2; whnf
  go_loopw [12, 13] (fun v i wr => ∃ (k : Nat), k ≤ ins.length ∧ i = .int .i64 k ∧ OI W0.heap.size wr v (((ins.take k).map bit1).map b2i) ∧ Below W0.heap.size W0 wr) (fun _ i wr => ins.length - (intOf i).toNat)
  case atStart => exact ⟨0, Nat.zero_le _, rfl, unhide HO, unhide HB0⟩
  case round =>
    obtain ⟨k, hk, rfl, hot, hb⟩ := hrel
    have q0 := unhide HBX wr hb
    by_cases hlt : k < ins.length
    · have hx : ins[k]? = some ins[k] := List.getElem?_eq_getElem hlt
      generalize ins[k] = x at hx
      obtain ⟨b, o, rfl, hc⟩ := unhide HSI k x hx
      have k0 := cell_later hb (unhide HSC)
      have k1 := cell_later hb hc
      have HST := hide (show ((ins.take (k + 1)).map bit1).map b2i = ((ins.take k).map bit1).map b2i ++ [b2i (bit1 x)] by rw [List.take_add_one, hx, List.map_append, List.map_append]; rfl)
      have HAL := hide (show (((ins.take k).map bit1).map b2i).length = k by rw [List.length_map, List.length_map, List.length_take]; omega)
      have HOT := hide hot
      have HB := hide hb
      have HSZ := hide hb.size
      have HCB := hide (fun V => sBit x V)
      have i1 : (K : Int) < (sl : Int) := by omega
      have i2 : (k : Int) < (ins.length : Int) := by omega
      clear hot hb hc hx
      generalize ((ins.take k).map bit1).map b2i = acc at *
      generalize b2i (bit1 x) = y at *
      go_wp2_with (first
        | (go_at_call 24; refine (unhide HCB _).mono ?_; rintro e W1 ⟨rfl, hW1⟩; have hW2 := hW1.symm; clear hW1; subst hW2)
        | (at_builtin; refine wpList_append_own _ rfl _ _ 67 rfl W0.heap.size 3 i0 (.int .i64 0) 1 8 Tryz.underlying67 (unhide HI).1 (unhide HI).2.1 (unhide HI).2.2.1 (unhide HI).2.2.2 rfl (by decide) _ _ _ rfl ((unhide HOT).alloc _) ⟨wr.heap.size, 0, none⟩ 1 1 [.int .i64 y] rfl rfl (newI _ _ _ (by simp)) (oneI _) (by have := unhide HAL; unfold maxLen; omega) (by have := unhide HAL; omega) (by have := unhide HSZ; simp; omega) ?_; intro v' w2 hown' hgrow _)
        | go_in)
      have HR1 := hide (OI.step hown')
      have HR2 := hide (below_grown (bal (unhide HB) (.cells #[.int .i64 y] 3)) hgrow (by have := unhide HSZ; simp; omega) (unhide HOT).row)
      clear hown' hgrow
      go_roundw
      case rel => exact ⟨k + 1, by omega, by go_num, by rw [unhide HST]; exact unhide HR1, unhide HR2⟩
      case measure => simp [intOf]; omega
    · obtain rfl : k = ins.length := by omega
      rw [List.take_of_length_le (Nat.le_refl _)] at hot
      have HOT := hide hot
      have HB := hide hb
      clear hot hb
      go_wp2_with fail
      exact unhide HQ _ _ _ _ _ _ _ _ _ _ _ _ _ _ _ _ _ _ _ _ wr u12 (unhide HOT) (unhide HB)
end Go.Proofs.YthbcokioijpofabGreat
