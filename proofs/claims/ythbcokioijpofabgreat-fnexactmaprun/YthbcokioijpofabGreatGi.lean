/- The specification's MapOK: the loops over a table's sources. -/
import Derived.Test.YthbcokioijpofabGreatGc
import Derived.Test.YthbcokioijpofabGreatGg
import Derived.BigQuiet
namespace Go.Proofs.YthbcokioijpofabGreat
open Go Go.RowKit Gs
set_option linter.unusedVariables false
set_option linter.unusedSimpArgs false
set_option maxRecDepth 100000
def findB (n : Nat) : Go.Code → Option Go.Code
  | .seq a b => match findB n a with | some c => some c | none => findB n b
  | .block k c => if k = n then some c else findB n c
  | .loop c => findB n c
  | .cond _ a b => match findB n a with | some c => some c | none => findB n b
  | _ => none
def atB (n : Nat) (c : Go.Code) : Go.Code := match findB n c with | some c => c | none => .skip
def bodyOf (f : Func) : Go.Code := match f.body with | some c => c | none => .skip
set_option maxHeartbeats 16000000 in
theorem sIns {u0 u1 u2 u4 u5 u6 u7 u11 u12 u13 u14 u15 u16 u17 u18 u19 u20 u21 u22 u23 u24 u25 u26 u27 u28 u29 u30 u31 u32 u33 u34 u35 u36 u37 u38 u39 u40 u41 u42 u43 u44 u45 u46 u47 u48 u49 u50 u51 u52 u53 u54 u55 u56 u57 u58 u59 u60 u61 u62 u63 u64 u65 u66 u67 u68 u69 u70 u71 u72 u73 u74 u75 u76 u77 u78 u79 u80 u81 u82 u83 u84 u85 u86 u87 u88 u89 u90 u91 u92 u93 u94 u95 u96 u97 u98 u99 u100 u101 u102 u103 u104 u105 u106 u107 u108 u109 u110 u111 u112 u113 u114 u115 u116 u117 u118 u119 u120 u121 u122 u123 u124 u125 u126 u127 u128 u129 u130 u131 u132 u133 u134 u135 u136 u137 u138 u139 u140 u141 u142 u143 u144 u145 u146 u147 u148 u149 u150 u151 u152 u153 u154 u155 u156 u157 u158 u159 u160 u161 u162 u163 u164 u165 u166 u167 u168 u169 u170 u171 u172 u173 u174 u175 u176 u177 u178 u179 u180 u181 u182 u183 u184 u185 u186 u187 u188 u189 u190 u191 u192 u193 u194 u195 : Value} {q n c FA I : Nat} {a : Option Addr} {xs : List Int} {W : World} {Q : Exit → Act → World → Prop} (hn : n = xs.length) (h4 : xs.length ≤ 4) (hFI : FA + I ≤ 1000000) (HBX : Hid (∀ V, Below W.heap.size W V → V.cell? ⟨q, 0, none⟩ = some (.slice a n c))) (HCS : Hid (∀ (i : Nat) x, xs[i]? = some x → ∃ b o, a = some ⟨b, o, none⟩ ∧ W.cell? ⟨b, o + i, none⟩ = some (.int .i64 x)))
    (hT : insB (FA + I) xs = true → ∀ (z2 z10 z11 z131 z132 z133 z134 z135 z136 z137 z138 z139 z140 z141 z142 z143 z144 z145 z146 z147 z148 z149 z150 z151 z152 z153 z154 z155 z156 z157 z158 z159 z160 z161 z162 z163 z164 z165 z166 z167 z168 z169 z170 : Value) V, Below W.heap.size W V → Q (.exit 4) { tmps := (u0 :: u1 :: z2 :: .int .i64 (FA : Int) :: u4 :: u5 :: u6 :: u7 :: .int .i64 (I : Int) :: .pointer (some ⟨q, 0, none⟩) :: z10 :: z11 :: u12 :: u13 :: u14 :: u15 :: u16 :: u17 :: u18 :: u19 :: u20 :: u21 :: u22 :: u23 :: u24 :: u25 :: u26 :: u27 :: u28 :: u29 :: u30 :: u31 :: u32 :: u33 :: u34 :: u35 :: u36 :: u37 :: u38 :: u39 :: u40 :: u41 :: u42 :: u43 :: u44 :: u45 :: u46 :: u47 :: u48 :: u49 :: u50 :: u51 :: u52 :: u53 :: u54 :: u55 :: u56 :: u57 :: u58 :: u59 :: u60 :: u61 :: u62 :: u63 :: u64 :: u65 :: u66 :: u67 :: u68 :: u69 :: u70 :: u71 :: u72 :: u73 :: u74 :: u75 :: u76 :: u77 :: u78 :: u79 :: u80 :: u81 :: u82 :: u83 :: u84 :: u85 :: u86 :: u87 :: u88 :: u89 :: u90 :: u91 :: u92 :: u93 :: u94 :: u95 :: u96 :: u97 :: u98 :: u99 :: u100 :: u101 :: u102 :: u103 :: u104 :: u105 :: u106 :: u107 :: u108 :: u109 :: u110 :: u111 :: u112 :: u113 :: u114 :: u115 :: u116 :: u117 :: u118 :: u119 :: u120 :: u121 :: u122 :: u123 :: u124 :: u125 :: u126 :: u127 :: u128 :: u129 :: u130 :: z131 :: z132 :: z133 :: z134 :: z135 :: z136 :: z137 :: z138 :: z139 :: z140 :: z141 :: z142 :: z143 :: z144 :: z145 :: z146 :: z147 :: z148 :: z149 :: z150 :: z151 :: z152 :: z153 :: z154 :: z155 :: z156 :: z157 :: z158 :: z159 :: z160 :: z161 :: z162 :: z163 :: z164 :: z165 :: z166 :: z167 :: z168 :: z169 :: z170 :: u171 :: u172 :: u173 :: u174 :: u175 :: u176 :: u177 :: u178 :: u179 :: u180 :: u181 :: u182 :: u183 :: u184 :: u185 :: u186 :: u187 :: u188 :: u189 :: u190 :: u191 :: u192 :: u193 :: u194 :: u195 :: []).toArray, defers := [] } V)
    (hF : insB (FA + I) xs = false → ∀ (z10 z11 z131 z132 z133 z134 z135 z136 z137 z138 z139 z140 z141 z142 z143 z144 z145 z146 z147 z148 z149 z150 z151 z152 z153 z154 z155 z156 z157 z158 z159 z160 z161 z162 z163 z164 z165 z166 z167 z168 z169 z170 : Value) V, Below W.heap.size W V → Q .ret { tmps := (u0 :: u1 :: .bool false :: .int .i64 (FA : Int) :: u4 :: u5 :: u6 :: u7 :: .int .i64 (I : Int) :: .pointer (some ⟨q, 0, none⟩) :: z10 :: z11 :: u12 :: u13 :: u14 :: u15 :: u16 :: u17 :: u18 :: u19 :: u20 :: u21 :: u22 :: u23 :: u24 :: u25 :: u26 :: u27 :: u28 :: u29 :: u30 :: u31 :: u32 :: u33 :: u34 :: u35 :: u36 :: u37 :: u38 :: u39 :: u40 :: u41 :: u42 :: u43 :: u44 :: u45 :: u46 :: u47 :: u48 :: u49 :: u50 :: u51 :: u52 :: u53 :: u54 :: u55 :: u56 :: u57 :: u58 :: u59 :: u60 :: u61 :: u62 :: u63 :: u64 :: u65 :: u66 :: u67 :: u68 :: u69 :: u70 :: u71 :: u72 :: u73 :: u74 :: u75 :: u76 :: u77 :: u78 :: u79 :: u80 :: u81 :: u82 :: u83 :: u84 :: u85 :: u86 :: u87 :: u88 :: u89 :: u90 :: u91 :: u92 :: u93 :: u94 :: u95 :: u96 :: u97 :: u98 :: u99 :: u100 :: u101 :: u102 :: u103 :: u104 :: u105 :: u106 :: u107 :: u108 :: u109 :: u110 :: u111 :: u112 :: u113 :: u114 :: u115 :: u116 :: u117 :: u118 :: u119 :: u120 :: u121 :: u122 :: u123 :: u124 :: u125 :: u126 :: u127 :: u128 :: u129 :: u130 :: z131 :: z132 :: z133 :: z134 :: z135 :: z136 :: z137 :: z138 :: z139 :: z140 :: z141 :: z142 :: z143 :: z144 :: z145 :: z146 :: z147 :: z148 :: z149 :: z150 :: z151 :: z152 :: z153 :: z154 :: z155 :: z156 :: z157 :: z158 :: z159 :: z160 :: z161 :: z162 :: z163 :: z164 :: z165 :: z166 :: z167 :: z168 :: z169 :: z170 :: u171 :: u172 :: u173 :: u174 :: u175 :: u176 :: u177 :: u178 :: u179 :: u180 :: u181 :: u182 :: u183 :: u184 :: u185 :: u186 :: u187 :: u188 :: u189 :: u190 :: u191 :: u192 :: u193 :: u194 :: u195 :: []).toArray, defers := [] } V) :
    Code.wp Tryz.prog (atB 4 (bodyOf Tryz.f22)) Q { tmps := (u0 :: u1 :: u2 :: .int .i64 (FA : Int) :: u4 :: u5 :: u6 :: u7 :: .int .i64 (I : Int) :: .pointer (some ⟨q, 0, none⟩) :: .int .i64 0 :: u11 :: u12 :: u13 :: u14 :: u15 :: u16 :: u17 :: u18 :: u19 :: u20 :: u21 :: u22 :: u23 :: u24 :: u25 :: u26 :: u27 :: u28 :: u29 :: u30 :: u31 :: u32 :: u33 :: u34 :: u35 :: u36 :: u37 :: u38 :: u39 :: u40 :: u41 :: u42 :: u43 :: u44 :: u45 :: u46 :: u47 :: u48 :: u49 :: u50 :: u51 :: u52 :: u53 :: u54 :: u55 :: u56 :: u57 :: u58 :: u59 :: u60 :: u61 :: u62 :: u63 :: u64 :: u65 :: u66 :: u67 :: u68 :: u69 :: u70 :: u71 :: u72 :: u73 :: u74 :: u75 :: u76 :: u77 :: u78 :: u79 :: u80 :: u81 :: u82 :: u83 :: u84 :: u85 :: u86 :: u87 :: u88 :: u89 :: u90 :: u91 :: u92 :: u93 :: u94 :: u95 :: u96 :: u97 :: u98 :: u99 :: u100 :: u101 :: u102 :: u103 :: u104 :: u105 :: u106 :: u107 :: u108 :: u109 :: u110 :: u111 :: u112 :: u113 :: u114 :: u115 :: u116 :: u117 :: u118 :: u119 :: u120 :: u121 :: u122 :: u123 :: u124 :: u125 :: u126 :: u127 :: u128 :: u129 :: u130 :: u131 :: u132 :: u133 :: u134 :: u135 :: u136 :: u137 :: u138 :: u139 :: u140 :: u141 :: u142 :: u143 :: u144 :: u145 :: u146 :: u147 :: u148 :: u149 :: u150 :: u151 :: u152 :: u153 :: u154 :: u155 :: u156 :: u157 :: u158 :: u159 :: u160 :: u161 :: u162 :: u163 :: u164 :: u165 :: u166 :: u167 :: u168 :: u169 :: u170 :: u171 :: u172 :: u173 :: u174 :: u175 :: u176 :: u177 :: u178 :: u179 :: u180 :: u181 :: u182 :: u183 :: u184 :: u185 :: u186 :: u187 :: u188 :: u189 :: u190 :: u191 :: u192 :: u193 :: u194 :: u195 :: []).toArray, defers := [] } W := by
  subst hn
  have HT := hide hT
  have HF := hide hF
  clear hT hF
  obtain ⟨N, hN⟩ : ∃ N, FA + I = N := ⟨_, rfl⟩
  have qN : (FA : Int) + (I : Int) = (N : Int) := by omega
  rw [hN] at HT HF
  have hNb : N ≤ 1000000 := by omega
  clear hN hFI
  conv => arg 2; whnf
  go_loopw [10] (fun i wr => ∃ k : Nat, k ≤ xs.length ∧ i = .int .i64 k ∧ upB (inAt N xs) k = true ∧ Below W.heap.size W wr) (fun i wr => xs.length - (intOf i).toNat)
  case atStart => exact ⟨0, Nat.zero_le _, rfl, rfl, brf W⟩
  case round =>
    obtain ⟨k, hk, rfl, hall, hb⟩ := hrel
    have HA := hide hall
    have HB := hide hb
    have q0 := unhide HBX wr hb
    clear hall
    by_cases hlt : k < xs.length
    · have hx : xs[k]? = some xs[k] := List.getElem?_eq_getElem hlt
      generalize xs[k] = x at hx
      have HAT := hide (inAt_at (n := N) hx)
      have HST := hide (upB_succ (inAt N xs) k)
      have HFF : Hid (inAt N xs k = false → insB N xs = false) := hide (fun h => upB_false hlt h)
      obtain ⟨b, o, rfl, hc⟩ := unhide HCS k x hx
      have k0 := cell_later hb hc
      have i1 : (0 : Int) ≤ (k : Int) := by omega
      have i2 : (k : Int) < (xs.length : Int) := by omega
      have HPL : Hid (plB x N = (decide (0 ≤ x) && decide (x < (N : Int)))) := hide rfl
      have HCK := hide hc
      clear hb hx hc
      by_cases g1 : x < 0
      · have HX := hide (unhide HF (unhide HFF (by rw [unhide HAT, unhide HPL, decide_eq_false (p := 0 ≤ x) (by omega)]; rfl)))
        clear HT HF HFF HAT HPL HST HA HCS HBX
        go_wp2
        exact unhide HX _ _ _ _ _ _ _ _ _ _ _ _ _ _ _ _ _ _ _ _ _ _ _ _ _ _ _ _ _ _ _ _ _ _ _ _ _ _ _ _ _ _ wr (unhide HB)
      have a1 : decide (x < 0) = false := decide_eq_false g1
      by_cases g2 : (N : Int) ≤ x
      · have HX := hide (unhide HF (unhide HFF (by rw [unhide HAT, unhide HPL, decide_eq_false (p := x < (N : Int)) (by omega)]; simp)))
        clear HT HF HFF HAT HPL HST HA HCS HBX
        go_wp2
        exact unhide HX _ _ _ _ _ _ _ _ _ _ _ _ _ _ _ _ _ _ _ _ _ _ _ _ _ _ _ _ _ _ _ _ _ _ _ _ _ _ _ _ _ _ wr (unhide HB)
      have a2 : decide ((N : Int) ≤ x) = false := decide_eq_false g2
      have HP : Hid (inAt N xs k = !hasB (xs.take k) x) := hide (by rw [unhide HAT, unhide HPL, decide_eq_true (p := 0 ≤ x) (by omega), decide_eq_true (p := x < (N : Int)) (by omega)]; rfl)
      obtain ⟨wr1, rfl⟩ : ∃ V : World, V = wr := ⟨wr, rfl⟩
      clear HAT HPL
      go_wp2
      clear a1 a2 g1 g2
      go_loopw [11] (fun j wr => ∃ m : Nat, m ≤ k ∧ j = .int .i64 m ∧ hasB (xs.take m) x = false ∧ Below W.heap.size W wr) (fun j wr => k - (intOf j).toNat)
      case atStart => exact ⟨0, Nat.zero_le _, rfl, rfl, unhide HB⟩
      case round =>
        obtain ⟨m, hm, rfl, hno, hb2⟩ := hrel
        have HNO := hide hno
        have HB2 := hide hb2
        have q1 := unhide HBX wr hb2
        clear hno
        by_cases hlm : m < k
        · have hy : xs[m]? = some xs[m] := List.getElem?_eq_getElem (by omega)
          generalize xs[m] = y at hy
          obtain ⟨b', o', e', hc'⟩ := unhide HCS m y hy
          injection e' with e'
          injection e' with e1 e2 _
          subst e1 e2
          have HSM := hide (hasB_take hy x)
          have HIN : Hid (y = x → inAt N xs k = false) := hide (fun e => by
            rw [unhide HP]
            have : hasB (xs.take k) x = true := hasB_mem (k := m) (by rw [List.getElem?_take, if_pos hlm, hy, e])
            rw [this]; rfl)
          have k1 := cell_later hb2 hc'
          have k2 := cell_later hb2 (unhide HCK)
          have j1 : (0 : Int) ≤ (m : Int) := by omega
          have j2 : (m : Int) < (xs.length : Int) := by omega
          clear hb2 hy hc'
          by_cases e : y = x
          · have HX := hide (unhide HF (unhide HFF (unhide HIN e)))
            clear HT HF HFF HP HST HA HCS HBX HIN HSM
            subst e
            go_wp2
            go_quiet (fail)
            go_wp2
            exact unhide HX _ _ _ _ _ _ _ _ _ _ _ _ _ _ _ _ _ _ _ _ _ _ _ _ _ _ _ _ _ _ _ _ _ _ _ _ _ _ _ _ _ _ _ (bdq (unhide HB2))
          · have q2 : decide (y = x) = false := decide_eq_false e
            have HN2 : Hid (hasB (xs.take (m + 1)) x = false) := hide (by rw [unhide HSM, unhide HNO, decide_eq_false (fun h => e h.symm)]; rfl)
            clear HT HF HFF HP HST HA HCS HBX HIN HSM
            go_wp2
            go_quiet (fail)
            go_wp2
            go_roundw
            case rel => exact ⟨m + 1, by omega, by go_num, unhide HN2, bdq (unhide HB2)⟩
            case measure => simp [intOf]; omega
        · obtain rfl : m = k := by omega
          have HAA : Hid (upB (inAt N xs) (m + 1) = true) := hide (by rw [unhide HST, unhide HA, unhide HP, unhide HNO]; rfl)
          clear hb2 HT HF HFF HP HST HA HCS HBX
          go_wp2
          go_roundw
          case rel => exact ⟨m + 1, by omega, by go_num, unhide HAA, unhide HB2⟩
          case measure => simp [intOf]; omega
    · obtain rfl : k = xs.length := by omega
      have HX := hide (unhide HT (unhide HA))
      clear hb HT HF HCS HBX
      go_wp2
      exact unhide HX _ _ _ _ _ _ _ _ _ _ _ _ _ _ _ _ _ _ _ _ _ _ _ _ _ _ _ _ _ _ _ _ _ _ _ _ _ _ _ _ _ _ _ wr (unhide HB)
end Go.Proofs.YthbcokioijpofabGreat
namespace Go.Proofs.YthbcokioijpofabGreat
open Go Go.RowKit Gs
set_option linter.unusedVariables false
set_option linter.unusedSimpArgs false
set_option maxRecDepth 100000
set_option maxHeartbeats 16000000 in
theorem sLuts {u0 u2 u4 u5 u6 u7 u9 u10 u11 u12 u13 u14 u15 u16 u17 u18 u19 u20 u21 u22 u23 u24 u25 u26 u27 u28 u29 u30 u31 u32 u33 u34 u35 u36 u37 u38 u39 u40 u41 u42 u43 u44 u45 u46 u47 u48 u49 u50 u51 u52 u53 u54 u55 u56 u57 u58 u59 u60 u61 u62 u63 u64 u65 u66 u67 u68 u69 u70 u71 u72 u73 u74 u75 u76 u77 u78 u79 u80 u81 u82 u83 u84 u85 u86 u87 u88 u89 u90 u91 u92 u93 u94 u95 u96 u97 u98 u99 u100 u101 u102 u103 u104 u105 u106 u107 u108 u109 u110 u111 u112 u113 u114 u115 u116 u117 u118 u119 u120 u121 u122 u123 u124 u125 u126 u127 u128 u129 u130 u131 u132 u133 u134 u135 u136 u137 u138 u139 u140 u141 u142 u143 u144 u145 u146 u147 u148 u149 u150 u151 u152 u153 u154 u155 u156 u157 u158 u159 u160 u161 u162 u163 u164 u165 u166 u167 u168 u169 u170 u171 u172 u173 u174 u175 u176 u177 u178 u179 u180 u181 u182 u183 u184 u185 u186 u187 u188 u189 u190 u191 u192 u193 u194 u195 : Value} {pb l3 c3 FA : Nat} {s3 : Option Addr} {xs : List Lut} {W : World} {Q : Exit → Act → World → Prop} (hn : l3 = xs.length) (h3 : xs.length ≤ 1024) (hFA : FA ≤ 4096) (HIL : Hid (∀ x ∈ xs, x.inp.length ≤ 1048576)) (HBX : Hid (∀ V, Below W.heap.size W V → V.cell? ⟨pb, 3, none⟩ = some (.slice s3 l3 c3))) (HCS : Hid (∀ (i : Nat) x, xs[i]? = some x → ∃ b o v0, s3 = some ⟨b, o, none⟩ ∧ W.cell? ⟨b, o + i * 2, none⟩ = some v0 ∧ W.cell? ⟨b, o + i * 2 + 1, none⟩ = some (.int .i64 x.table) ∧ RS 1 RInt W 0 x.inp v0))
    (hT : lutsB FA xs = true → ∀ (z2 z8 z9 z10 z11 z101 z102 z103 z104 z105 z106 z107 z108 z109 z110 z111 z112 z113 z114 z115 z116 z117 z118 z119 z120 z121 z122 z123 z124 z125 z126 z127 z128 z129 z130 z131 z132 z133 z134 z135 z136 z137 z138 z139 z140 z141 z142 z143 z144 z145 z146 z147 z148 z149 z150 z151 z152 z153 z154 z155 z156 z157 z158 z159 z160 z161 z162 z163 z164 z165 z166 z167 z168 z169 z170 : Value) V, Below W.heap.size W V → Q (.exit 2) { tmps := (u0 :: .pointer (some ⟨pb, 0, none⟩) :: z2 :: .int .i64 (FA : Int) :: u4 :: u5 :: u6 :: u7 :: z8 :: z9 :: z10 :: z11 :: u12 :: u13 :: u14 :: u15 :: u16 :: u17 :: u18 :: u19 :: u20 :: u21 :: u22 :: u23 :: u24 :: u25 :: u26 :: u27 :: u28 :: u29 :: u30 :: u31 :: u32 :: u33 :: u34 :: u35 :: u36 :: u37 :: u38 :: u39 :: u40 :: u41 :: u42 :: u43 :: u44 :: u45 :: u46 :: u47 :: u48 :: u49 :: u50 :: u51 :: u52 :: u53 :: u54 :: u55 :: u56 :: u57 :: u58 :: u59 :: u60 :: u61 :: u62 :: u63 :: u64 :: u65 :: u66 :: u67 :: u68 :: u69 :: u70 :: u71 :: u72 :: u73 :: u74 :: u75 :: u76 :: u77 :: u78 :: u79 :: u80 :: u81 :: u82 :: u83 :: u84 :: u85 :: u86 :: u87 :: u88 :: u89 :: u90 :: u91 :: u92 :: u93 :: u94 :: u95 :: u96 :: u97 :: u98 :: u99 :: u100 :: z101 :: z102 :: z103 :: z104 :: z105 :: z106 :: z107 :: z108 :: z109 :: z110 :: z111 :: z112 :: z113 :: z114 :: z115 :: z116 :: z117 :: z118 :: z119 :: z120 :: z121 :: z122 :: z123 :: z124 :: z125 :: z126 :: z127 :: z128 :: z129 :: z130 :: z131 :: z132 :: z133 :: z134 :: z135 :: z136 :: z137 :: z138 :: z139 :: z140 :: z141 :: z142 :: z143 :: z144 :: z145 :: z146 :: z147 :: z148 :: z149 :: z150 :: z151 :: z152 :: z153 :: z154 :: z155 :: z156 :: z157 :: z158 :: z159 :: z160 :: z161 :: z162 :: z163 :: z164 :: z165 :: z166 :: z167 :: z168 :: z169 :: z170 :: u171 :: u172 :: u173 :: u174 :: u175 :: u176 :: u177 :: u178 :: u179 :: u180 :: u181 :: u182 :: u183 :: u184 :: u185 :: u186 :: u187 :: u188 :: u189 :: u190 :: u191 :: u192 :: u193 :: u194 :: u195 :: []).toArray, defers := [] } V)
    (hF : lutsB FA xs = false → ∀ (z8 z9 z10 z11 z101 z102 z103 z104 z105 z106 z107 z108 z109 z110 z111 z112 z113 z114 z115 z116 z117 z118 z119 z120 z121 z122 z123 z124 z125 z126 z127 z128 z129 z130 z131 z132 z133 z134 z135 z136 z137 z138 z139 z140 z141 z142 z143 z144 z145 z146 z147 z148 z149 z150 z151 z152 z153 z154 z155 z156 z157 z158 z159 z160 z161 z162 z163 z164 z165 z166 z167 z168 z169 z170 : Value) V, Below W.heap.size W V → Q .ret { tmps := (u0 :: .pointer (some ⟨pb, 0, none⟩) :: .bool false :: .int .i64 (FA : Int) :: u4 :: u5 :: u6 :: u7 :: z8 :: z9 :: z10 :: z11 :: u12 :: u13 :: u14 :: u15 :: u16 :: u17 :: u18 :: u19 :: u20 :: u21 :: u22 :: u23 :: u24 :: u25 :: u26 :: u27 :: u28 :: u29 :: u30 :: u31 :: u32 :: u33 :: u34 :: u35 :: u36 :: u37 :: u38 :: u39 :: u40 :: u41 :: u42 :: u43 :: u44 :: u45 :: u46 :: u47 :: u48 :: u49 :: u50 :: u51 :: u52 :: u53 :: u54 :: u55 :: u56 :: u57 :: u58 :: u59 :: u60 :: u61 :: u62 :: u63 :: u64 :: u65 :: u66 :: u67 :: u68 :: u69 :: u70 :: u71 :: u72 :: u73 :: u74 :: u75 :: u76 :: u77 :: u78 :: u79 :: u80 :: u81 :: u82 :: u83 :: u84 :: u85 :: u86 :: u87 :: u88 :: u89 :: u90 :: u91 :: u92 :: u93 :: u94 :: u95 :: u96 :: u97 :: u98 :: u99 :: u100 :: z101 :: z102 :: z103 :: z104 :: z105 :: z106 :: z107 :: z108 :: z109 :: z110 :: z111 :: z112 :: z113 :: z114 :: z115 :: z116 :: z117 :: z118 :: z119 :: z120 :: z121 :: z122 :: z123 :: z124 :: z125 :: z126 :: z127 :: z128 :: z129 :: z130 :: z131 :: z132 :: z133 :: z134 :: z135 :: z136 :: z137 :: z138 :: z139 :: z140 :: z141 :: z142 :: z143 :: z144 :: z145 :: z146 :: z147 :: z148 :: z149 :: z150 :: z151 :: z152 :: z153 :: z154 :: z155 :: z156 :: z157 :: z158 :: z159 :: z160 :: z161 :: z162 :: z163 :: z164 :: z165 :: z166 :: z167 :: z168 :: z169 :: z170 :: u171 :: u172 :: u173 :: u174 :: u175 :: u176 :: u177 :: u178 :: u179 :: u180 :: u181 :: u182 :: u183 :: u184 :: u185 :: u186 :: u187 :: u188 :: u189 :: u190 :: u191 :: u192 :: u193 :: u194 :: u195 :: []).toArray, defers := [] } V) :
    Code.wp Tryz.prog (atB 2 (bodyOf Tryz.f22)) Q { tmps := (u0 :: .pointer (some ⟨pb, 0, none⟩) :: u2 :: .int .i64 (FA : Int) :: u4 :: u5 :: u6 :: u7 :: .int .i64 0 :: u9 :: u10 :: u11 :: u12 :: u13 :: u14 :: u15 :: u16 :: u17 :: u18 :: u19 :: u20 :: u21 :: u22 :: u23 :: u24 :: u25 :: u26 :: u27 :: u28 :: u29 :: u30 :: u31 :: u32 :: u33 :: u34 :: u35 :: u36 :: u37 :: u38 :: u39 :: u40 :: u41 :: u42 :: u43 :: u44 :: u45 :: u46 :: u47 :: u48 :: u49 :: u50 :: u51 :: u52 :: u53 :: u54 :: u55 :: u56 :: u57 :: u58 :: u59 :: u60 :: u61 :: u62 :: u63 :: u64 :: u65 :: u66 :: u67 :: u68 :: u69 :: u70 :: u71 :: u72 :: u73 :: u74 :: u75 :: u76 :: u77 :: u78 :: u79 :: u80 :: u81 :: u82 :: u83 :: u84 :: u85 :: u86 :: u87 :: u88 :: u89 :: u90 :: u91 :: u92 :: u93 :: u94 :: u95 :: u96 :: u97 :: u98 :: u99 :: u100 :: u101 :: u102 :: u103 :: u104 :: u105 :: u106 :: u107 :: u108 :: u109 :: u110 :: u111 :: u112 :: u113 :: u114 :: u115 :: u116 :: u117 :: u118 :: u119 :: u120 :: u121 :: u122 :: u123 :: u124 :: u125 :: u126 :: u127 :: u128 :: u129 :: u130 :: u131 :: u132 :: u133 :: u134 :: u135 :: u136 :: u137 :: u138 :: u139 :: u140 :: u141 :: u142 :: u143 :: u144 :: u145 :: u146 :: u147 :: u148 :: u149 :: u150 :: u151 :: u152 :: u153 :: u154 :: u155 :: u156 :: u157 :: u158 :: u159 :: u160 :: u161 :: u162 :: u163 :: u164 :: u165 :: u166 :: u167 :: u168 :: u169 :: u170 :: u171 :: u172 :: u173 :: u174 :: u175 :: u176 :: u177 :: u178 :: u179 :: u180 :: u181 :: u182 :: u183 :: u184 :: u185 :: u186 :: u187 :: u188 :: u189 :: u190 :: u191 :: u192 :: u193 :: u194 :: u195 :: []).toArray, defers := [] } W := by
  subst hn
  have HT := hide hT
  have HF := hide hF
  clear hT hF
  conv => arg 2; whnf
  go_loopw [8] (fun i wr => ∃ k : Nat, k ≤ xs.length ∧ i = .int .i64 k ∧ upB (lutAt FA xs) k = true ∧ Below W.heap.size W wr) (fun i wr => xs.length - (intOf i).toNat)
  case atStart => exact ⟨0, Nat.zero_le _, rfl, rfl, brf W⟩
  case round =>
    obtain ⟨k, hk, rfl, hall, hb⟩ := hrel
    have HA := hide hall
    have HB := hide hb
    have q3 := unhide HBX wr hb
    clear hall
    by_cases hlt : k < xs.length
    · have hx : xs[k]? = some xs[k] := List.getElem?_eq_getElem hlt
      have hmem : xs[k] ∈ xs := List.getElem_mem hlt
      generalize xs[k] = x at hx hmem
      have HST : Hid (upB (lutAt FA xs) (k + 1) = (upB (lutAt FA xs) k && lutB (FA + k) x)) := hide (by rw [upB_succ, lutAt_at hx])
      have HFF : Hid (lutB (FA + k) x = false → lutsB FA xs = false) := hide (fun h => upB_false hlt (by rw [lutAt_at hx, h]))
      obtain ⟨b, o, v0, rfl, hc0, hc1, hrs⟩ := unhide HCS k x hx
      have k0 := cell_later hb hc0
      have k1 := cell_later hb hc1
      have HLB : Hid (lutB (FA + k) x = (decide (x.inp.length ≤ 4) && (decide (0 ≤ x.table) && (decide (x.table ≤ ((tmask x.inp.length : Nat) : Int)) && insB (FA + k) x.inp)))) := hide rfl
      have HRS := hide (hrs.later RInt.keeps hb)
      obtain ⟨a, c, rfl⟩ := hrs.slice
      obtain ⟨ys, hys⟩ : ∃ ys, x.inp = ys := ⟨_, rfl⟩
      rw [hys] at HRS HLB k0
      have hyl : ys.length ≤ 1048576 := by rw [← hys]; exact unhide HIL x hmem
      generalize x.table = t at *
      have i1 : (0 : Int) ≤ (k : Int) := by omega
      have i2 : (k : Int) < (xs.length : Int) := by omega
      obtain ⟨L, hL⟩ : ∃ L, ys.length = L := ⟨_, rfl⟩
      clear hb hx hc0 hc1 hrs hmem hys
      rw [hL] at k0
      by_cases k4 : (4 : Int) < (L : Int)
      · have HX := hide (unhide HF (unhide HFF (by rw [unhide HLB, decide_eq_false (p := ys.length ≤ 4) (by omega)]; rfl)))
        clear HT HF HFF HST HA HCS HBX HRS HLB
        have p4 : decide ((4 : Int) < (L : Int)) = true := decide_eq_true k4
        clear hL k4
        go_wp2
        go_quiet (fail)
        go_wp2
        exact unhide HX _ _ _ _ _ _ _ _ _ _ _ _ _ _ _ _ _ _ _ _ _ _ _ _ _ _ _ _ _ _ _ _ _ _ _ _ _ _ _ _ _ _ _ _ _ _ _ _ _ _ _ _ _ _ _ _ _ _ _ _ _ _ _ _ _ _ _ _ _ _ _ _ _ _ _ (bdq (bal (unhide HB) _))
      have p4 : decide ((4 : Int) < (L : Int)) = false := decide_eq_false k4
      by_cases kt : t < 0
      · have HX := hide (unhide HF (unhide HFF (by rw [unhide HLB, decide_eq_false (p := 0 ≤ t) (by omega)]; simp)))
        clear HT HF HFF HST HA HCS HBX HRS HLB
        have pt : decide (t < 0) = true := decide_eq_true kt
        clear hL k4 kt
        go_wp2
        go_quiet (fail)
        go_wp2
        exact unhide HX _ _ _ _ _ _ _ _ _ _ _ _ _ _ _ _ _ _ _ _ _ _ _ _ _ _ _ _ _ _ _ _ _ _ _ _ _ _ _ _ _ _ _ _ _ _ _ _ _ _ _ _ _ _ _ _ _ _ _ _ _ _ _ _ _ _ _ _ _ _ _ _ _ _ _ (bdq (bal (unhide HB) _))
      have pt : decide (t < 0) = false := decide_eq_false kt
      obtain ⟨M, hM⟩ : ∃ M, tmask ys.length = M := ⟨_, rfl⟩
      have HMK := hide (fun V => by have h := sTMask ys.length (by omega) V; rw [hM, hL] at h; exact h)
      have HTR := hide (tmask_lt (k := ys.length) (by omega))
      rw [hM] at HTR HLB
      by_cases km : (M : Int) < t
      · have HX := hide (unhide HF (unhide HFF (by rw [unhide HLB, decide_eq_false (p := t ≤ (M : Int)) (by omega)]; simp)))
        clear HT HF HFF HST HA HCS HBX HRS HLB
        have pm : decide ((M : Int) < t) = true := decide_eq_true km
        clear hL k4 kt hM HTR km
        go_wp2
        go_quiet ((go_at_call 53; exact Calls.quiet_of_same (unhide HMK _)))
        go_wp2
        exact unhide HX _ _ _ _ _ _ _ _ _ _ _ _ _ _ _ _ _ _ _ _ _ _ _ _ _ _ _ _ _ _ _ _ _ _ _ _ _ _ _ _ _ _ _ _ _ _ _ _ _ _ _ _ _ _ _ _ _ _ _ _ _ _ _ _ _ _ _ _ _ _ _ _ _ _ _ (bdq (bal (unhide HB) _))
      have pm : decide ((M : Int) < t) = false := decide_eq_false km
      have HIB : Hid (lutB (FA + k) x = insB (FA + k) ys) := hide (by rw [unhide HLB, decide_eq_true (p := ys.length ≤ 4) (by omega), decide_eq_true (p := 0 ≤ t) (by omega), decide_eq_true (p := t ≤ (M : Int)) (by omega)]; rfl)
      have HL := hide hL
      have HY4 : Hid (ys.length ≤ 4) := hide (by omega)
      obtain ⟨wr1, rfl⟩ : ∃ V : World, V = wr := ⟨wr, rfl⟩
      clear hL k4 kt hM HTR km HLB
      go_wp2
      go_quiet ((go_at_call 53; exact Calls.quiet_of_same (unhide HMK _)))
      go_wp2
      clear p4 pt pm q3 k0 k1
      obtain ⟨X, hX⟩ : ∃ X, X = (wr1.alloc (.cells #[.slice a L c, .int .i64 t] 105)).drewN nq := ⟨_, rfl⟩
      rw [← hX]
      have hBX : Below wr1.heap.size wr1 X := by rw [hX]; exact bdq (bal (brf wr1) _)
      have HBX2 := hide hBX
      have HM0 : Hid (X.cell? ⟨wr1.heap.size, 0, none⟩ = some (.slice a L c)) := hide (by rw [hX]; exact (cell_later (bdq (brf (wr1.alloc _)) : Below (wr1.alloc (.cells #[.slice a L c, .int .i64 t] 105)).heap.size _ _) (by rw [World.cell?_alloc_new]; rfl)))
      clear hX hBX
      refine sIns (W := X) (xs := ys) (FA := FA) (I := k) (a := a) (c := c) (n := L) (q := wr1.heap.size) (unhide HL).symm (unhide HY4) (by omega) (hide (fun V hV => cell_later hV (unhide HM0))) (hide ?_) ?_ ?_
      · intro i y hy
        rcases ((unhide HRS).later RInt.keeps (unhide HBX2)).open with ⟨e, _⟩ | ⟨b', o', c', hv, _, _, _, hcs⟩
        · rw [e] at hy; simp at hy
        · injection hv with e1 e2 e3
          obtain ⟨u, hul, hat, hus⟩ := hcs i y hy
          subst hus
          refine ⟨b', o', e1, ?_⟩
          have := hat.get (j := 0) rfl
          simpa using this
      · intro hins y2 y10 y11 y131 y132 y133 y134 y135 y136 y137 y138 y139 y140 y141 y142 y143 y144 y145 y146 y147 y148 y149 y150 y151 y152 y153 y154 y155 y156 y157 y158 y159 y160 y161 y162 y163 y164 y165 y166 y167 y168 y169 y170 V hV
        have HAA : Hid (upB (lutAt FA xs) (k + 1) = true) := hide (by rw [unhide HST, unhide HA, unhide HIB, hins]; rfl)
        have HBV := hide (btr (unhide HB) (btr (unhide HBX2) hV))
        clear hins hV HT HF HFF HST HA HCS HBX HRS HIB HM0 HBX2
        go_wp2_with fail
        go_roundw
        case rel => exact ⟨k + 1, by omega, by go_num, unhide HAA, unhide HBV⟩
        case measure => simp [intOf]; omega
      · intro hins y10 y11 y131 y132 y133 y134 y135 y136 y137 y138 y139 y140 y141 y142 y143 y144 y145 y146 y147 y148 y149 y150 y151 y152 y153 y154 y155 y156 y157 y158 y159 y160 y161 y162 y163 y164 y165 y166 y167 y168 y169 y170 V hV
        have HX := hide (unhide HF (unhide HFF (by rw [unhide HIB, hins])))
        have HBV := hide (btr (unhide HB) (btr (unhide HBX2) hV))
        clear hins hV HT HF HFF HST HA HCS HBX HRS HIB HM0 HBX2
        go_wp2_with fail
        exact unhide HX _ _ _ _ _ _ _ _ _ _ _ _ _ _ _ _ _ _ _ _ _ _ _ _ _ _ _ _ _ _ _ _ _ _ _ _ _ _ _ _ _ _ _ _ _ _ _ _ _ _ _ _ _ _ _ _ _ _ _ _ _ _ _ _ _ _ _ _ _ _ _ _ _ _ V (unhide HBV)
    · obtain rfl : k = xs.length := by omega
      have HX := hide (unhide HT (unhide HA))
      clear hb HT HF HCS HBX
      go_wp2
      exact unhide HX _ _ _ _ _ _ _ _ _ _ _ _ _ _ _ _ _ _ _ _ _ _ _ _ _ _ _ _ _ _ _ _ _ _ _ _ _ _ _ _ _ _ _ _ _ _ _ _ _ _ _ _ _ _ _ _ _ _ _ _ _ _ _ _ _ _ _ _ _ _ _ _ _ _ _ wr (unhide HB)
end Go.Proofs.YthbcokioijpofabGreat
