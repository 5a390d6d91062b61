/- The specification's PackOK: the loops over a block's sources. -/
import Derived.Test.YtlldfaniddbjaaaGreatDoorGPE
import Derived.BigQuiet
namespace Go.Proofs.YtlldfaniddbjaaaGreatDoor
open Go Go.RowKit Gs
set_option linter.unusedVariables false
set_option linter.unusedSimpArgs false
set_option maxRecDepth 100000
def findB (n : Nat) : Go.Code → Option Go.Code
  | .seq a b => match findB n a with | some c => some c | none => findB n b
  | .block k c => if k = n then some c else findB n c
  | .loop c => findB n c
  | .cond _ a b => match findB n a with | some c => some c | none => findB n b
  | _ => none
def atB (n : Nat) (c : Go.Code) : Go.Code := match findB n c with | some c => c | none => .skip
def bodyOf (f : Func) : Go.Code := match f.body with | some c => c | none => .skip
/-- A source of a table of a block, at a place. -/
def srcAt (FA : Nat) (bs : List Block) (i : Nat) (rg : Bool) (N : Nat) (xs : List Int) (k : Nat) : Bool := inAt N xs k && (rg || ahB FA bs i (xs.getD k 0))
def srcsB (FA : Nat) (bs : List Block) (i : Nat) (rg : Bool) (N : Nat) (xs : List Int) : Bool := upB (srcAt FA bs i rg N xs) xs.length
theorem upB_and (p q : Nat → Bool) : ∀ n, upB (fun k => p k && q k) n = (upB p n && upB q n)
  | 0 => rfl
  | n + 1 => by
    rw [upB_succ, upB_succ, upB_succ, upB_and p q n]
    cases upB p n <;> cases upB q n <;> cases p n <;> cases q n <;> rfl
theorem upB_all {f : Int → Bool} (xs : List Int) : ∀ n, n ≤ xs.length → upB (fun k => f (xs.getD k 0)) n = (xs.take n).all f
  | 0, _ => rfl
  | n + 1, h => by
    have hx : xs[n]? = some xs[n] := List.getElem?_eq_getElem (by omega)
    rw [upB_succ, upB_all xs n (by omega), List.take_add_one, hx, List.all_append, show xs.getD n 0 = xs[n] by rw [List.getD_eq_getElem?_getD, hx]; rfl]
    simp
theorem upB_true (n : Nat) : upB (fun _ => true) n = true := by
  unfold upB
  rw [List.all_eq_true]
  intro _ _
  rfl
theorem srcs_eq (FA : Nat) (bs : List Block) (i : Nat) (rg : Bool) (N : Nat) (xs : List Int) : srcsB FA bs i rg N xs = (insB N xs && (rg || aheadB FA bs i xs)) := by
  unfold srcsB
  rw [show srcAt FA bs i rg N xs = (fun k => inAt N xs k && (rg || ahB FA bs i (xs.getD k 0))) from rfl, upB_and]
  congr 1
  cases rg
  · rw [show (fun k => (false || ahB FA bs i (xs.getD k 0))) = (fun k => ahB FA bs i (xs.getD k 0)) from by funext k; rfl, upB_all xs _ (Nat.le_refl _), List.take_of_length_le (Nat.le_refl _)]
    rfl
  · exact upB_true _
theorem srcAt_at {FA : Nat} {bs : List Block} {i : Nat} {rg : Bool} {N : Nat} {xs : List Int} {k : Nat} {x : Int} (h : xs[k]? = some x) : srcAt FA bs i rg N xs k = ((plB x N && !hasB (xs.take k) x) && (rg || ahB FA bs i x)) := by
  unfold srcAt
  rw [inAt_at h, show xs.getD k 0 = x by rw [List.getD_eq_getElem?_getD, h]; rfl]
set_option maxHeartbeats 16000000 in
theorem sDup {u0 u1 u2 u3 u4 u5 u6 u11 u12 u13 u14 u15 u16 u17 u18 u19 u20 u21 u22 u23 u24 u25 u26 u27 u28 u29 u30 u31 u32 u33 u34 u35 u36 u37 u38 u39 u40 u41 u42 u43 u44 u45 u46 u47 u48 u49 u50 u51 u52 u53 u54 u55 u56 u57 u58 u59 u60 u61 u62 u63 u64 u65 u66 u67 u68 u69 u70 u71 u72 u73 u74 u75 u76 u77 u78 u79 u80 u81 u82 u83 u84 u85 u86 u87 u88 u89 u90 u91 u92 u93 u94 u95 u96 u97 u98 u99 u100 u101 u102 u103 u104 u105 u106 u107 u108 u109 u110 u111 u112 u113 u114 u115 u116 u117 u118 u119 u120 u121 u122 u123 u124 u125 u126 u127 u128 u129 u130 u131 u132 u133 u134 u135 u136 u137 u138 u139 u140 u141 u142 u143 u144 u145 u146 u147 u148 u149 u150 u151 u152 u153 u154 u155 u156 u157 u158 u159 u160 u161 u162 u163 u164 u165 u166 u167 u168 u169 u170 u171 u172 u173 u174 u175 u176 u177 u178 u179 u180 u181 u182 u183 u184 u185 u186 u187 u188 u189 u190 u191 u192 u193 u194 u195 u196 : Value} {q n c k : Nat} {x : Int} {a : Option Addr} {xs : List Int} {W : World} {Q : Exit → Act → World → Prop} (hn : n = xs.length) (hk : k ≤ xs.length) (h4 : xs.length ≤ 4) (hq : W.cell? ⟨q, 1, none⟩ = some (.slice a n c)) (hc : n ≤ c) (HCS : Hid (∀ (i : Nat) x, xs[i]? = some x → ∃ b o, a = some ⟨b, o, none⟩ ∧ W.cell? ⟨b, o + i, none⟩ = some (.int .i64 x)))
    (hT : hasB (xs.take k) x = false → ∀ (z2 z10 z160 z161 z162 z163 z164 z165 z166 z167 z168 z169 z170 z171 : Value), Q (.exit 4) { tmps := (u0 :: u1 :: z2 :: u3 :: u4 :: u5 :: u6 :: .pointer (some ⟨q, 0, none⟩) :: .int .i64 (k : Int) :: .int .i64 x :: z10 :: u11 :: u12 :: u13 :: u14 :: u15 :: u16 :: u17 :: u18 :: u19 :: u20 :: u21 :: u22 :: u23 :: u24 :: u25 :: u26 :: u27 :: u28 :: u29 :: u30 :: u31 :: u32 :: u33 :: u34 :: u35 :: u36 :: u37 :: u38 :: u39 :: u40 :: u41 :: u42 :: u43 :: u44 :: u45 :: u46 :: u47 :: u48 :: u49 :: u50 :: u51 :: u52 :: u53 :: u54 :: u55 :: u56 :: u57 :: u58 :: u59 :: u60 :: u61 :: u62 :: u63 :: u64 :: u65 :: u66 :: u67 :: u68 :: u69 :: u70 :: u71 :: u72 :: u73 :: u74 :: u75 :: u76 :: u77 :: u78 :: u79 :: u80 :: u81 :: u82 :: u83 :: u84 :: u85 :: u86 :: u87 :: u88 :: u89 :: u90 :: u91 :: u92 :: u93 :: u94 :: u95 :: u96 :: u97 :: u98 :: u99 :: u100 :: u101 :: u102 :: u103 :: u104 :: u105 :: u106 :: u107 :: u108 :: u109 :: u110 :: u111 :: u112 :: u113 :: u114 :: u115 :: u116 :: u117 :: u118 :: u119 :: u120 :: u121 :: u122 :: u123 :: u124 :: u125 :: u126 :: u127 :: u128 :: u129 :: u130 :: u131 :: u132 :: u133 :: u134 :: u135 :: u136 :: u137 :: u138 :: u139 :: u140 :: u141 :: u142 :: u143 :: u144 :: u145 :: u146 :: u147 :: u148 :: u149 :: u150 :: u151 :: u152 :: u153 :: u154 :: u155 :: u156 :: u157 :: u158 :: u159 :: z160 :: z161 :: z162 :: z163 :: z164 :: z165 :: z166 :: z167 :: z168 :: z169 :: z170 :: z171 :: u172 :: u173 :: u174 :: u175 :: u176 :: u177 :: u178 :: u179 :: u180 :: u181 :: u182 :: u183 :: u184 :: u185 :: u186 :: u187 :: u188 :: u189 :: u190 :: u191 :: u192 :: u193 :: u194 :: u195 :: u196 :: []).toArray, defers := [] } W)
    (hF : hasB (xs.take k) x = true → ∀ (z10 z160 z161 z162 z163 z164 z165 z166 z167 z168 z169 z170 z171 : Value), Q .ret { tmps := (u0 :: u1 :: .bool false :: u3 :: u4 :: u5 :: u6 :: .pointer (some ⟨q, 0, none⟩) :: .int .i64 (k : Int) :: .int .i64 x :: z10 :: u11 :: u12 :: u13 :: u14 :: u15 :: u16 :: u17 :: u18 :: u19 :: u20 :: u21 :: u22 :: u23 :: u24 :: u25 :: u26 :: u27 :: u28 :: u29 :: u30 :: u31 :: u32 :: u33 :: u34 :: u35 :: u36 :: u37 :: u38 :: u39 :: u40 :: u41 :: u42 :: u43 :: u44 :: u45 :: u46 :: u47 :: u48 :: u49 :: u50 :: u51 :: u52 :: u53 :: u54 :: u55 :: u56 :: u57 :: u58 :: u59 :: u60 :: u61 :: u62 :: u63 :: u64 :: u65 :: u66 :: u67 :: u68 :: u69 :: u70 :: u71 :: u72 :: u73 :: u74 :: u75 :: u76 :: u77 :: u78 :: u79 :: u80 :: u81 :: u82 :: u83 :: u84 :: u85 :: u86 :: u87 :: u88 :: u89 :: u90 :: u91 :: u92 :: u93 :: u94 :: u95 :: u96 :: u97 :: u98 :: u99 :: u100 :: u101 :: u102 :: u103 :: u104 :: u105 :: u106 :: u107 :: u108 :: u109 :: u110 :: u111 :: u112 :: u113 :: u114 :: u115 :: u116 :: u117 :: u118 :: u119 :: u120 :: u121 :: u122 :: u123 :: u124 :: u125 :: u126 :: u127 :: u128 :: u129 :: u130 :: u131 :: u132 :: u133 :: u134 :: u135 :: u136 :: u137 :: u138 :: u139 :: u140 :: u141 :: u142 :: u143 :: u144 :: u145 :: u146 :: u147 :: u148 :: u149 :: u150 :: u151 :: u152 :: u153 :: u154 :: u155 :: u156 :: u157 :: u158 :: u159 :: z160 :: z161 :: z162 :: z163 :: z164 :: z165 :: z166 :: z167 :: z168 :: z169 :: z170 :: z171 :: u172 :: u173 :: u174 :: u175 :: u176 :: u177 :: u178 :: u179 :: u180 :: u181 :: u182 :: u183 :: u184 :: u185 :: u186 :: u187 :: u188 :: u189 :: u190 :: u191 :: u192 :: u193 :: u194 :: u195 :: u196 :: []).toArray, defers := [] } W) :
    Code.wp Tryz.prog (atB 4 (bodyOf Tryz.f44)) Q { tmps := (u0 :: u1 :: u2 :: u3 :: u4 :: u5 :: u6 :: .pointer (some ⟨q, 0, none⟩) :: .int .i64 (k : Int) :: .int .i64 x :: .int .i64 0 :: u11 :: u12 :: u13 :: u14 :: u15 :: u16 :: u17 :: u18 :: u19 :: u20 :: u21 :: u22 :: u23 :: u24 :: u25 :: u26 :: u27 :: u28 :: u29 :: u30 :: u31 :: u32 :: u33 :: u34 :: u35 :: u36 :: u37 :: u38 :: u39 :: u40 :: u41 :: u42 :: u43 :: u44 :: u45 :: u46 :: u47 :: u48 :: u49 :: u50 :: u51 :: u52 :: u53 :: u54 :: u55 :: u56 :: u57 :: u58 :: u59 :: u60 :: u61 :: u62 :: u63 :: u64 :: u65 :: u66 :: u67 :: u68 :: u69 :: u70 :: u71 :: u72 :: u73 :: u74 :: u75 :: u76 :: u77 :: u78 :: u79 :: u80 :: u81 :: u82 :: u83 :: u84 :: u85 :: u86 :: u87 :: u88 :: u89 :: u90 :: u91 :: u92 :: u93 :: u94 :: u95 :: u96 :: u97 :: u98 :: u99 :: u100 :: u101 :: u102 :: u103 :: u104 :: u105 :: u106 :: u107 :: u108 :: u109 :: u110 :: u111 :: u112 :: u113 :: u114 :: u115 :: u116 :: u117 :: u118 :: u119 :: u120 :: u121 :: u122 :: u123 :: u124 :: u125 :: u126 :: u127 :: u128 :: u129 :: u130 :: u131 :: u132 :: u133 :: u134 :: u135 :: u136 :: u137 :: u138 :: u139 :: u140 :: u141 :: u142 :: u143 :: u144 :: u145 :: u146 :: u147 :: u148 :: u149 :: u150 :: u151 :: u152 :: u153 :: u154 :: u155 :: u156 :: u157 :: u158 :: u159 :: u160 :: u161 :: u162 :: u163 :: u164 :: u165 :: u166 :: u167 :: u168 :: u169 :: u170 :: u171 :: u172 :: u173 :: u174 :: u175 :: u176 :: u177 :: u178 :: u179 :: u180 :: u181 :: u182 :: u183 :: u184 :: u185 :: u186 :: u187 :: u188 :: u189 :: u190 :: u191 :: u192 :: u193 :: u194 :: u195 :: u196 :: []).toArray, defers := [] } W := by
  subst hn
  have HT := hide hT
  have HF := hide hF
  clear hT hF
  conv => arg 2; whnf
  go_loop [10] (fun j => ∃ m : Nat, m ≤ k ∧ j = .int .i64 m ∧ hasB (xs.take m) x = false) (fun j => k - (intOf j).toNat)
  case atStart => exact ⟨0, Nat.zero_le _, rfl, rfl⟩
  case round =>
    obtain ⟨m, hm, rfl, hno⟩ := hrel
    have HNO := hide hno
    clear hno
    by_cases hlm : m < k
    · have hy : xs[m]? = some xs[m] := List.getElem?_eq_getElem (by omega)
      generalize xs[m] = y at hy
      obtain ⟨b', o', rfl, k1⟩ := unhide HCS m y hy
      have HSM := hide (hasB_take hy x)
      have HIN : Hid (y = x → hasB (xs.take k) x = true) := hide (fun e => hasB_mem (k := m) (by rw [List.getElem?_take, if_pos hlm, hy, e]))
      have j1 : (0 : Int) ≤ (m : Int) := by omega
      have j2 : (m : Int) < (xs.length : Int) := by omega
      clear hy HCS
      by_cases e : y = x
      · have HX := hide (unhide HF (unhide HIN e))
        clear HT HF HIN HSM HNO
        subst e
        go_wp2
        exact unhide HX _ _ _ _ _ _ _ _ _ _ _ _ _
      · have HN2 : Hid (hasB (xs.take (m + 1)) x = false) := hide (by rw [unhide HSM, unhide HNO, decide_eq_false (fun h => e h.symm)]; rfl)
        clear HT HF HIN HSM HNO
        go_wp2
        go_round
        case rel => exact ⟨m + 1, by omega, by go_num, unhide HN2⟩
        case measure => simp [intOf]; omega
    · obtain rfl : m = k := by omega
      have HX := hide (unhide HT (unhide HNO))
      clear HT HF HCS
      go_wp2
      exact unhide HX _ _ _ _ _ _ _ _ _ _ _ _ _ _
set_option maxHeartbeats 32000000 in
theorem sSrc {u0 u2 u5 u9 u10 u11 u12 u13 u14 u15 u16 u17 u18 u19 u20 u21 u22 u23 u24 u25 u26 u27 u28 u29 u30 u31 u32 u33 u34 u35 u36 u37 u38 u39 u40 u41 u42 u43 u44 u45 u46 u47 u48 u49 u50 u51 u52 u53 u54 u55 u56 u57 u58 u59 u60 u61 u62 u63 u64 u65 u66 u67 u68 u69 u70 u71 u72 u73 u74 u75 u76 u77 u78 u79 u80 u81 u82 u83 u84 u85 u86 u87 u88 u89 u90 u91 u92 u93 u94 u95 u96 u97 u98 u99 u100 u101 u102 u103 u104 u105 u106 u107 u108 u109 u110 u111 u112 u113 u114 u115 u116 u117 u118 u119 u120 u121 u122 u123 u124 u125 u126 u127 u128 u129 u130 u131 u132 u133 u134 u135 u136 u137 u138 u139 u140 u141 u142 u143 u144 u145 u146 u147 u148 u149 u150 u151 u152 u153 u154 u155 u156 u157 u158 u159 u160 u161 u162 u163 u164 u165 u166 u167 u168 u169 u170 u171 u172 u173 u174 u175 u176 u177 u178 u179 u180 u181 u182 u183 u184 u185 u186 u187 u188 u189 u190 u191 u192 u193 u194 u195 u196 : Value} {pb q n c FA N I l2 c2 : Nat} {rg : Bool} {a s2 : Option Addr} {xs : List Int} {bs : List Block} {W : World} {Q : Exit → Act → World → Prop} (hn : n = xs.length) (h4 : xs.length ≤ 4) (hN : N = FA + l2) (hFN : FA + l2 ≤ 1000000) (hI : I < l2) (q1 : W.cell? ⟨q, 1, none⟩ = some (.slice a n c)) (q3 : W.cell? ⟨q, 3, none⟩ = some (.bool rg)) (hc : n ≤ c) (p2 : W.cell? ⟨pb, 2, none⟩ = some (.slice s2 l2 c2)) (hlb : l2 = bs.length) (hcb : l2 ≤ c2) (HCS : Hid (∀ (i : Nat) x, xs[i]? = some x → ∃ b o, a = some ⟨b, o, none⟩ ∧ W.cell? ⟨b, o + i, none⟩ = some (.int .i64 x))) (HREG : Hid (∀ (i : Nat) x, bs[i]? = some x → ∃ b o, s2 = some ⟨b, o, none⟩ ∧ W.cell? ⟨b, o + i * 6 + 3, none⟩ = some (.bool x.reg)))
    (hT : srcsB FA bs I rg N xs = true → ∀ (z2 z8 z9 z10 z118 z119 z120 z121 z122 z123 z124 z125 z126 z127 z128 z129 z130 z131 z132 z133 z134 z135 z136 z137 z138 z139 z140 z141 z142 z143 z144 z145 z146 z147 z148 z149 z150 z151 z152 z153 z154 z155 z156 z157 z158 z159 z160 z161 z162 z163 z164 z165 z166 z167 z168 z169 z170 z171 : Value), Q (.exit 2) { tmps := (u0 :: .pointer (some ⟨pb, 0, none⟩) :: z2 :: .int .i64 (FA : Int) :: .int .i64 (N : Int) :: u5 :: .int .i64 (I : Int) :: .pointer (some ⟨q, 0, none⟩) :: z8 :: z9 :: z10 :: u11 :: u12 :: u13 :: u14 :: u15 :: u16 :: u17 :: u18 :: u19 :: u20 :: u21 :: u22 :: u23 :: u24 :: u25 :: u26 :: u27 :: u28 :: u29 :: u30 :: u31 :: u32 :: u33 :: u34 :: u35 :: u36 :: u37 :: u38 :: u39 :: u40 :: u41 :: u42 :: u43 :: u44 :: u45 :: u46 :: u47 :: u48 :: u49 :: u50 :: u51 :: u52 :: u53 :: u54 :: u55 :: u56 :: u57 :: u58 :: u59 :: u60 :: u61 :: u62 :: u63 :: u64 :: u65 :: u66 :: u67 :: u68 :: u69 :: u70 :: u71 :: u72 :: u73 :: u74 :: u75 :: u76 :: u77 :: u78 :: u79 :: u80 :: u81 :: u82 :: u83 :: u84 :: u85 :: u86 :: u87 :: u88 :: u89 :: u90 :: u91 :: u92 :: u93 :: u94 :: u95 :: u96 :: u97 :: u98 :: u99 :: u100 :: u101 :: u102 :: u103 :: u104 :: u105 :: u106 :: u107 :: u108 :: u109 :: u110 :: u111 :: u112 :: u113 :: u114 :: u115 :: u116 :: u117 :: z118 :: z119 :: z120 :: z121 :: z122 :: z123 :: z124 :: z125 :: z126 :: z127 :: z128 :: z129 :: z130 :: z131 :: z132 :: z133 :: z134 :: z135 :: z136 :: z137 :: z138 :: z139 :: z140 :: z141 :: z142 :: z143 :: z144 :: z145 :: z146 :: z147 :: z148 :: z149 :: z150 :: z151 :: z152 :: z153 :: z154 :: z155 :: z156 :: z157 :: z158 :: z159 :: z160 :: z161 :: z162 :: z163 :: z164 :: z165 :: z166 :: z167 :: z168 :: z169 :: z170 :: z171 :: u172 :: u173 :: u174 :: u175 :: u176 :: u177 :: u178 :: u179 :: u180 :: u181 :: u182 :: u183 :: u184 :: u185 :: u186 :: u187 :: u188 :: u189 :: u190 :: u191 :: u192 :: u193 :: u194 :: u195 :: u196 :: []).toArray, defers := [] } W)
    (hF : srcsB FA bs I rg N xs = false → ∀ (z8 z9 z10 z118 z119 z120 z121 z122 z123 z124 z125 z126 z127 z128 z129 z130 z131 z132 z133 z134 z135 z136 z137 z138 z139 z140 z141 z142 z143 z144 z145 z146 z147 z148 z149 z150 z151 z152 z153 z154 z155 z156 z157 z158 z159 z160 z161 z162 z163 z164 z165 z166 z167 z168 z169 z170 z171 : Value), Q .ret { tmps := (u0 :: .pointer (some ⟨pb, 0, none⟩) :: .bool false :: .int .i64 (FA : Int) :: .int .i64 (N : Int) :: u5 :: .int .i64 (I : Int) :: .pointer (some ⟨q, 0, none⟩) :: z8 :: z9 :: z10 :: u11 :: u12 :: u13 :: u14 :: u15 :: u16 :: u17 :: u18 :: u19 :: u20 :: u21 :: u22 :: u23 :: u24 :: u25 :: u26 :: u27 :: u28 :: u29 :: u30 :: u31 :: u32 :: u33 :: u34 :: u35 :: u36 :: u37 :: u38 :: u39 :: u40 :: u41 :: u42 :: u43 :: u44 :: u45 :: u46 :: u47 :: u48 :: u49 :: u50 :: u51 :: u52 :: u53 :: u54 :: u55 :: u56 :: u57 :: u58 :: u59 :: u60 :: u61 :: u62 :: u63 :: u64 :: u65 :: u66 :: u67 :: u68 :: u69 :: u70 :: u71 :: u72 :: u73 :: u74 :: u75 :: u76 :: u77 :: u78 :: u79 :: u80 :: u81 :: u82 :: u83 :: u84 :: u85 :: u86 :: u87 :: u88 :: u89 :: u90 :: u91 :: u92 :: u93 :: u94 :: u95 :: u96 :: u97 :: u98 :: u99 :: u100 :: u101 :: u102 :: u103 :: u104 :: u105 :: u106 :: u107 :: u108 :: u109 :: u110 :: u111 :: u112 :: u113 :: u114 :: u115 :: u116 :: u117 :: z118 :: z119 :: z120 :: z121 :: z122 :: z123 :: z124 :: z125 :: z126 :: z127 :: z128 :: z129 :: z130 :: z131 :: z132 :: z133 :: z134 :: z135 :: z136 :: z137 :: z138 :: z139 :: z140 :: z141 :: z142 :: z143 :: z144 :: z145 :: z146 :: z147 :: z148 :: z149 :: z150 :: z151 :: z152 :: z153 :: z154 :: z155 :: z156 :: z157 :: z158 :: z159 :: z160 :: z161 :: z162 :: z163 :: z164 :: z165 :: z166 :: z167 :: z168 :: z169 :: z170 :: z171 :: u172 :: u173 :: u174 :: u175 :: u176 :: u177 :: u178 :: u179 :: u180 :: u181 :: u182 :: u183 :: u184 :: u185 :: u186 :: u187 :: u188 :: u189 :: u190 :: u191 :: u192 :: u193 :: u194 :: u195 :: u196 :: []).toArray, defers := [] } W) :
    Code.wp Tryz.prog (atB 2 (bodyOf Tryz.f44)) Q { tmps := (u0 :: .pointer (some ⟨pb, 0, none⟩) :: u2 :: .int .i64 (FA : Int) :: .int .i64 (N : Int) :: u5 :: .int .i64 (I : Int) :: .pointer (some ⟨q, 0, none⟩) :: .int .i64 0 :: u9 :: u10 :: u11 :: u12 :: u13 :: u14 :: u15 :: u16 :: u17 :: u18 :: u19 :: u20 :: u21 :: u22 :: u23 :: u24 :: u25 :: u26 :: u27 :: u28 :: u29 :: u30 :: u31 :: u32 :: u33 :: u34 :: u35 :: u36 :: u37 :: u38 :: u39 :: u40 :: u41 :: u42 :: u43 :: u44 :: u45 :: u46 :: u47 :: u48 :: u49 :: u50 :: u51 :: u52 :: u53 :: u54 :: u55 :: u56 :: u57 :: u58 :: u59 :: u60 :: u61 :: u62 :: u63 :: u64 :: u65 :: u66 :: u67 :: u68 :: u69 :: u70 :: u71 :: u72 :: u73 :: u74 :: u75 :: u76 :: u77 :: u78 :: u79 :: u80 :: u81 :: u82 :: u83 :: u84 :: u85 :: u86 :: u87 :: u88 :: u89 :: u90 :: u91 :: u92 :: u93 :: u94 :: u95 :: u96 :: u97 :: u98 :: u99 :: u100 :: u101 :: u102 :: u103 :: u104 :: u105 :: u106 :: u107 :: u108 :: u109 :: u110 :: u111 :: u112 :: u113 :: u114 :: u115 :: u116 :: u117 :: u118 :: u119 :: u120 :: u121 :: u122 :: u123 :: u124 :: u125 :: u126 :: u127 :: u128 :: u129 :: u130 :: u131 :: u132 :: u133 :: u134 :: u135 :: u136 :: u137 :: u138 :: u139 :: u140 :: u141 :: u142 :: u143 :: u144 :: u145 :: u146 :: u147 :: u148 :: u149 :: u150 :: u151 :: u152 :: u153 :: u154 :: u155 :: u156 :: u157 :: u158 :: u159 :: u160 :: u161 :: u162 :: u163 :: u164 :: u165 :: u166 :: u167 :: u168 :: u169 :: u170 :: u171 :: u172 :: u173 :: u174 :: u175 :: u176 :: u177 :: u178 :: u179 :: u180 :: u181 :: u182 :: u183 :: u184 :: u185 :: u186 :: u187 :: u188 :: u189 :: u190 :: u191 :: u192 :: u193 :: u194 :: u195 :: u196 :: []).toArray, defers := [] } W := by
  subst hn
  have HT := hide hT
  have HF := hide hF
  clear hT hF
  have HLB := hide hlb
  have HNN := hide hN
  have hNb : N ≤ 1000000 := by omega
  obtain ⟨FI, hFI⟩ : ∃ FI : Nat, FA + I = FI := ⟨_, rfl⟩
  have qFI : (FA : Int) + (I : Int) = (FI : Int) := by omega
  have HFI := hide hFI
  clear hlb hN hFI
  conv => arg 2; whnf
  go_loop [8] (fun i => ∃ k : Nat, k ≤ xs.length ∧ i = .int .i64 k ∧ upB (srcAt FA bs I rg N xs) k = true) (fun i => xs.length - (intOf i).toNat)
  case atStart => exact ⟨0, Nat.zero_le _, rfl, rfl⟩
  case round =>
    obtain ⟨k, hk, rfl, hall⟩ := hrel
    have HA := hide hall
    clear hall
    by_cases hlt : k < xs.length
    · have hx : xs[k]? = some xs[k] := List.getElem?_eq_getElem hlt
      generalize xs[k] = x at hx
      have HAT := hide (srcAt_at (FA := FA) (bs := bs) (i := I) (rg := rg) (N := N) hx)
      have HST := hide (upB_succ (srcAt FA bs I rg N xs) k)
      have HFF : Hid (srcAt FA bs I rg N xs k = false → srcsB FA bs I rg N xs = false) := hide (fun h => upB_false hlt h)
      obtain ⟨b, o, rfl, k0⟩ := unhide HCS k x hx
      have i1 : (0 : Int) ≤ (k : Int) := by omega
      have i2 : (k : Int) < (xs.length : Int) := by omega
      have HPL : Hid (plB x N = (decide (0 ≤ x) && decide (x < (N : Int)))) := hide rfl
      clear hx
      by_cases g1 : x < 0
      · have HX := hide (unhide HF (unhide HFF (by rw [unhide HAT, unhide HPL, decide_eq_false (p := 0 ≤ x) (by omega)]; rfl)))
        clear HT HF HFF HAT HPL HST HA HCS HREG
        go_wp2
        exact unhide HX _ _ _ _ _ _ _ _ _ _ _ _ _ _ _ _ _ _ _ _ _ _ _ _ _ _ _ _ _ _ _ _ _ _ _ _ _ _ _ _ _ _ _ _ _ _ _ _ _ _ _ _ _ _ _ _ _
      have a1 : decide (x < 0) = false := decide_eq_false g1
      by_cases g2 : (N : Int) ≤ x
      · have HX := hide (unhide HF (unhide HFF (by rw [unhide HAT, unhide HPL, decide_eq_false (p := x < (N : Int)) (by omega)]; simp)))
        clear HT HF HFF HAT HPL HST HA HCS HREG
        go_wp2
        exact unhide HX _ _ _ _ _ _ _ _ _ _ _ _ _ _ _ _ _ _ _ _ _ _ _ _ _ _ _ _ _ _ _ _ _ _ _ _ _ _ _ _ _ _ _ _ _ _ _ _ _ _ _ _ _ _ _ _ _
      have a2 : decide ((N : Int) ≤ x) = false := decide_eq_false g2
      cases rg
      · by_cases g3 : (FI : Int) ≤ x
        · obtain ⟨r, hr⟩ : ∃ r : Nat, x - (FA : Int) = (r : Int) := ⟨(x - (FA : Int)).toNat, by have := unhide HFI; omega⟩
          have hrN : r < bs.length := by have := unhide HLB; have := unhide HNN; omega
          have hbr : bs[r]? = some bs[r] := List.getElem?_eq_getElem hrN
          have HAB : Hid (ahB FA bs I x = bs[r].reg) := hide (by
            unfold ahB
            rw [hr, decide_eq_true (by have := unhide HFI; omega), Int.toNat_natCast, show bs.getD r blk0 = bs[r] by rw [List.getD_eq_getElem?_getD, hbr]; rfl]
            rfl)
          obtain ⟨b2, o2, rfl, k3⟩ := unhide HREG r _ hbr
          generalize bs[r] = br at hbr HAB k3
          have r1 : (0 : Int) ≤ (r : Int) := by omega
          have r2 : (r : Int) < (l2 : Int) := by have := unhide HLB; omega
          clear hbr hrN
          generalize br.reg = q' at *
          cases q'
          · have HX := hide (unhide HF (unhide HFF (by rw [unhide HAT, unhide HAB]; simp)))
            clear HT HF HFF HAT HPL HST HA HCS HREG
            go_wp2
            exact unhide HX _ _ _ _ _ _ _ _ _ _ _ _ _ _ _ _ _ _ _ _ _ _ _ _ _ _ _ _ _ _ _ _ _ _ _ _ _ _ _ _ _ _ _ _ _ _ _ _ _ _ _ _ _ _ _ _ _
          · have HAH : Hid ((false || ahB FA bs I x) = true) := hide (by rw [unhide HAB]; rfl)
            have HP2 : Hid (srcAt FA bs I false N xs k = !hasB (xs.take k) x) := hide (by rw [unhide HAT, unhide HPL, decide_eq_true (p := 0 ≤ x) (by omega), decide_eq_true (p := x < (N : Int)) (by omega), unhide HAH]; simp)
            have HCS2 := HCS
            clear HAT HPL HREG HAH HCS
            go_wp2_with fail
            refine sDup (xs := xs) (k := k) (x := x) (a := some ⟨b, o, none⟩) (c := c) (n := xs.length) (q := q) rfl (by omega) h4 q1 hc HCS2 ?_ ?_
            · intro hno y2 y10 y160 y161 y162 y163 y164 y165 y166 y167 y168 y169 y170 y171
              have HAA : Hid (upB (srcAt FA bs I false N xs) (k + 1) = true) := hide (by rw [unhide HST, unhide HA, unhide HP2, hno]; rfl)
              clear hno HT HF HFF HST HA HCS2 HP2
              go_wp2
              go_round
              case rel => exact ⟨k + 1, by omega, by go_num, unhide HAA⟩
              case measure => simp [intOf]; omega
            · intro hno y10 y160 y161 y162 y163 y164 y165 y166 y167 y168 y169 y170 y171
              have HX := hide (unhide HF (unhide HFF (by rw [unhide HP2, hno]; rfl)))
              clear hno HT HF HFF HST HA HCS2 HP2
              go_wp2
              exact unhide HX _ _ _ _ _ _ _ _ _ _ _ _ _ _ _ _ _ _ _ _ _ _ _ _ _ _ _ _ _ _ _ _ _ _ _ _ _ _ _ _ _ _ _ _ _ _ _ _ _ _ _ _ _ _ _ _ _
        · have g3' : decide ((FI : Int) ≤ x) = false := decide_eq_false g3
          have HAH : Hid ((false || ahB FA bs I x) = true) := hide (by rw [Bool.false_or]; unfold ahB; rw [decide_eq_false (by have := unhide HFI; omega)]; rfl)
          have HP2 : Hid (srcAt FA bs I false N xs k = !hasB (xs.take k) x) := hide (by rw [unhide HAT, unhide HPL, decide_eq_true (p := 0 ≤ x) (by omega), decide_eq_true (p := x < (N : Int)) (by omega), unhide HAH]; simp)
          have HCS2 := HCS
          clear HAT HPL HREG HAH HCS
          go_wp2_with fail
          refine sDup (xs := xs) (k := k) (x := x) (a := some ⟨b, o, none⟩) (c := c) (n := xs.length) (q := q) rfl (by omega) h4 q1 hc HCS2 ?_ ?_
          · intro hno y2 y10 y160 y161 y162 y163 y164 y165 y166 y167 y168 y169 y170 y171
            have HAA : Hid (upB (srcAt FA bs I false N xs) (k + 1) = true) := hide (by rw [unhide HST, unhide HA, unhide HP2, hno]; rfl)
            clear hno HT HF HFF HST HA HCS2 HP2
            go_wp2
            go_round
            case rel => exact ⟨k + 1, by omega, by go_num, unhide HAA⟩
            case measure => simp [intOf]; omega
          · intro hno y10 y160 y161 y162 y163 y164 y165 y166 y167 y168 y169 y170 y171
            have HX := hide (unhide HF (unhide HFF (by rw [unhide HP2, hno]; rfl)))
            clear hno HT HF HFF HST HA HCS2 HP2
            go_wp2
            exact unhide HX _ _ _ _ _ _ _ _ _ _ _ _ _ _ _ _ _ _ _ _ _ _ _ _ _ _ _ _ _ _ _ _ _ _ _ _ _ _ _ _ _ _ _ _ _ _ _ _ _ _ _ _ _ _ _ _ _
      · have HAH : Hid ((true || ahB FA bs I x) = true) := hide (by rfl)
        have HP2 : Hid (srcAt FA bs I true N xs k = !hasB (xs.take k) x) := hide (by rw [unhide HAT, unhide HPL, decide_eq_true (p := 0 ≤ x) (by omega), decide_eq_true (p := x < (N : Int)) (by omega), unhide HAH]; simp)
        have HCS2 := HCS
        clear HAT HPL HREG HAH HCS
        go_wp2_with fail
        refine sDup (xs := xs) (k := k) (x := x) (a := some ⟨b, o, none⟩) (c := c) (n := xs.length) (q := q) rfl (by omega) h4 q1 hc HCS2 ?_ ?_
        · intro hno y2 y10 y160 y161 y162 y163 y164 y165 y166 y167 y168 y169 y170 y171
          have HAA : Hid (upB (srcAt FA bs I true N xs) (k + 1) = true) := hide (by rw [unhide HST, unhide HA, unhide HP2, hno]; rfl)
          clear hno HT HF HFF HST HA HCS2 HP2
          go_wp2
          go_round
          case rel => exact ⟨k + 1, by omega, by go_num, unhide HAA⟩
          case measure => simp [intOf]; omega
        · intro hno y10 y160 y161 y162 y163 y164 y165 y166 y167 y168 y169 y170 y171
          have HX := hide (unhide HF (unhide HFF (by rw [unhide HP2, hno]; rfl)))
          clear hno HT HF HFF HST HA HCS2 HP2
          go_wp2
          exact unhide HX _ _ _ _ _ _ _ _ _ _ _ _ _ _ _ _ _ _ _ _ _ _ _ _ _ _ _ _ _ _ _ _ _ _ _ _ _ _ _ _ _ _ _ _ _ _ _ _ _ _ _ _ _ _ _ _ _
    · obtain rfl : k = xs.length := by omega
      have HX := hide (unhide HT (unhide HA))
      clear HT HF HCS HREG
      go_wp2
      exact unhide HX _ _ _ _ _ _ _ _ _ _ _ _ _ _ _ _ _ _ _ _ _ _ _ _ _ _ _ _ _ _ _ _ _ _ _ _ _ _ _ _ _ _ _ _ _ _ _ _ _ _ _ _ _ _ _ _ _ _
end Go.Proofs.YtlldfaniddbjaaaGreatDoor
