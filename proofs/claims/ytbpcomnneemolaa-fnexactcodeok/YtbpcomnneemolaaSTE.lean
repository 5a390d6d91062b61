/- What follows the specification's loop over outs: the loop over checks. -/
import Derived.Test.YtbpcomnneemolaaST
import Derived.BigQuiet
namespace Go.Proofs.Ytbpcomnneemolaa
open Go.RowKit Gs
set_option linter.unusedVariables false
set_option linter.unusedSimpArgs false
set_option maxRecDepth 100000
set_option maxHeartbeats 64000000 in
theorem sT8 (c : Code) (n wb : Nat) (hn2 : n ≤ 16384) (ws : List Int) (a1 a2 a4 a5 a6 a7 a8 : Option Addr) (c1 c2 c4 c5 c6 c7 c8 : Nat) (kc : Int) (w W : World) (SB : Bool) (l4 : c.inits.length ≤ 256) (l7 : c.outs.length ≤ 256) (l8 : c.checks.length ≤ 256) (hsw : SW w #[.int .i64 n, .slice a1 c.instrs.length c1, .slice a2 c.ins.length c2, .int .i64 kc, .slice a4 c.inits.length c4, .slice a5 c.inits.length c5, .slice a6 c.inits.length c6, .slice a7 c.outs.length c7, .slice a8 c.checks.length c8] wb n ws W) (h8 : RS 1 RInt w 0 c.checks (.slice a8 c.checks.length c8)) (hSB : c.checks.all (checkC ws) = SB) (u2 u3 u4 u6 u7 u8 u9 u10 u11 u12 u13 u14 u15 u16 u17 u18 u19 u20 u21 u22 u23 u24 u25 u26 u27 u28 u29 u30 u31 u32 u33 u34 u35 u36 u37 u38 u39 u40 u41 u42 u43 u44 u45 u46 u47 u48 u49 u50 u51 u52 u53 u54 u55 u56 u57 u58 u59 u60 u61 u62 u63 u64 u65 u66 u67 u68 u69 u70 u71 u72 u73 u74 u75 u76 u77 u78 u79 u80 u81 u82 u83 u84 u85 u86 u87 u88 u89 u90 u91 u92 u93 u94 u95 u96 u97 u98 u99 u100 u101 u102 u103 u104 u105 u106 u107 u108 u109 u110 u111 u112 u113 u114 u115 u116 u117 u118 u119 u120 u121 u122 u123 u124 u125 u126 u127 u128 u129 u130 u131 u132 u133 u134 u135 u136 u137 u138 u139 u140 u141 u142 u143 u144 u145 u146 u147 u148 u149 u150 u151 u152 u153 u154 u155 u156 u157 u158 u159 u160 u161 u162 u163 u164 u165 u166 u167 u168 u169 u170 u171 u172 u173 u174 u175 u176 u177 u178 u179 u180 u181 u182 u183 u184 u185 u186 u187 u188 u189 u190 u191 u192 u193 u194 u195 u196 u197 u198 u199 u200 u201 u202 u203 u204 u205 u206 u207 u208 u209 u210 u211 u212 u213 u214 u215 u216 u217 u218 u219 u220 u221 u222 u223 u224 u225 u226 u227 u228 u229 u230 u231 u232 u233 u234 u235 u236 u237 u238 u239 u240 u241 u242 u243 u244 u245 u246 u247 u248 u249 u250 u251 u252 u253 u254 u255 u256 u257 u258 u259 u260 u261 u262 u263 u264 u265 u266 u267 u268 u269 u270 u271 u272 u273 u274 u275 u276 u277 u278 u279 u280 u281 u282 u283 u284 u285 u286 u287 u288 u289 u290 u291 u292 u293 u294 u295 u296 u297 u298 u299 u300 u301 u302 u303 u304 u305 u306 u307 u308 u309 u310 u311 u312 u313 u314 u315 u316 u317 u318 u319 u320 u321 u322 u323 u324 u325 u326 u327 u328 u329 u330 u331 u332 u333 u334 u335 u336 u337 u338 u339 u340 u341 u342 u343 u344 u345 u346 u347 u348 u349 u350 u351 u352 u353 u354 u355 u356 u357 u358 u359 u360 u361 u362 u363 u364 u365 u366 u367 u368 u369 u370 u371 u372 u373 u374 u375 u376 u377 u378 u379 u380 u381 u382 u383 u384 u385 u386 u387 u388 u389 u390 u391 u392 u393 u394 u395 u396 u397 u398 u399 u400 u401 u402 u403 u404 u405 u406 u407 u408 u409 u410 u411 u412 u413 u414 u415 u416 u417 u418 u419 u420 u421 u422 u423 u424 u425 u426 u427 u428 u429 u430 u431 u432 : Value) :
    Go.Code.wp Try.prog (tl 8 (bodyOf Try.f5)) (bodyPost Try.prog Try.f5 fun e w' => e = .returned (.bool SB) ∧ Below w.heap.size w w') { tmps := #[.agg #[.int .i64 n, .slice a1 c.instrs.length c1, .slice a2 c.ins.length c2, .int .i64 kc, .slice a4 c.inits.length c4, .slice a5 c.inits.length c5, .slice a6 c.inits.length c6, .slice a7 c.outs.length c7, .slice a8 c.checks.length c8], .pointer (some ⟨w.heap.size, 0, none⟩), u2, u3, u4, .slice (some ⟨wb, 0, none⟩) n n, u6, u7, u8, u9, u10, u11, u12, u13, u14, u15, u16, u17, u18, u19, u20, u21, u22, u23, u24, u25, u26, u27, u28, u29, u30, u31, u32, u33, u34, u35, u36, u37, u38, u39, u40, u41, u42, u43, u44, u45, u46, u47, u48, u49, u50, u51, u52, u53, u54, u55, u56, u57, u58, u59, u60, u61, u62, u63, u64, u65, u66, u67, u68, u69, u70, u71, u72, u73, u74, u75, u76, u77, u78, u79, u80, u81, u82, u83, u84, u85, u86, u87, u88, u89, u90, u91, u92, u93, u94, u95, u96, u97, u98, u99, u100, u101, u102, u103, u104, u105, u106, u107, u108, u109, u110, u111, u112, u113, u114, u115, u116, u117, u118, u119, u120, u121, u122, u123, u124, u125, u126, u127, u128, u129, u130, u131, u132, u133, u134, u135, u136, u137, u138, u139, u140, u141, u142, u143, u144, u145, u146, u147, u148, u149, u150, u151, u152, u153, u154, u155, u156, u157, u158, u159, u160, u161, u162, u163, u164, u165, u166, u167, u168, u169, u170, u171, u172, u173, u174, u175, u176, u177, u178, u179, u180, u181, u182, u183, u184, u185, u186, u187, u188, u189, u190, u191, u192, u193, u194, u195, u196, u197, u198, u199, u200, u201, u202, u203, u204, u205, u206, u207, u208, u209, u210, u211, u212, u213, u214, u215, u216, u217, u218, u219, u220, u221, u222, u223, u224, u225, u226, u227, u228, u229, u230, u231, u232, u233, u234, u235, u236, u237, u238, u239, u240, u241, u242, u243, u244, u245, u246, u247, u248, u249, u250, u251, u252, u253, u254, u255, u256, u257, u258, u259, u260, u261, u262, u263, u264, u265, u266, u267, u268, u269, u270, u271, u272, u273, u274, u275, u276, u277, u278, u279, u280, u281, u282, u283, u284, u285, u286, u287, u288, u289, u290, u291, u292, u293, u294, u295, u296, u297, u298, u299, u300, u301, u302, u303, u304, u305, u306, u307, u308, u309, u310, u311, u312, u313, u314, u315, u316, u317, u318, u319, u320, u321, u322, u323, u324, u325, u326, u327, u328, u329, u330, u331, u332, u333, u334, u335, u336, u337, u338, u339, u340, u341, u342, u343, u344, u345, u346, u347, u348, u349, u350, u351, u352, u353, u354, u355, u356, u357, u358, u359, u360, u361, u362, u363, u364, u365, u366, u367, u368, u369, u370, u371, u372, u373, u374, u375, u376, u377, u378, u379, u380, u381, u382, u383, u384, u385, u386, u387, u388, u389, u390, u391, u392, u393, u394, u395, u396, u397, u398, u399, u400, u401, u402, u403, u404, u405, u406, u407, u408, u409, u410, u411, u412, u413, u414, u415, u416, u417, u418, u419, u420, u421, u422, u423, u424, u425, u426, u427, u428, u429, u430, u431, u432], defers := [] } W := by
  have HSW := hide hsw
  have H8 := hide h8
  have P6 := hide (show c.checks.all (checkC ws) = false → false = SB from fun h => by rw [← hSB, h])
  have P5 := hide (show c.checks.all (checkC ws) = true → true = SB from fun h => by rw [← hSB, h])
  obtain ⟨q0, q1, q2, q3, q4, q5, q6, q7, q8⟩ := hsw.box.get9
  clear hsw h8 hSB
  conv => arg 2; whnf
  go_wp2
  go_loopw [17] (fun i wr5 => ∃ m : Nat, m ≤ c.checks.length ∧ i = .int .i64 m ∧ (c.checks.take m).all (checkC ws) = true ∧ Below W.heap.size W wr5) (fun i _ => c.checks.length - (intOf i).toNat)
  case atStart => exact ⟨0, Nat.zero_le _, rfl, rfl, brf _⟩
  case round =>
    clear q0 q1 q2 q3 q4 q5 q6 q7 q8
    obtain ⟨wr5, rfl⟩ : ∃ V : World, V = wr := ⟨wr, rfl⟩
    obtain ⟨m, hm, rfl, hall, hb35⟩ := hrel
    have HB35 := hide hb35
    have HA := hide hall
    have hsw5 := (unhide HSW).later hb35
    have hb5 := hsw5.box.below
    obtain ⟨q0, q1, q2, q3, q4, q5, q6, q7, q8⟩ := hsw5.box.get9
    clear hall hb35
    by_cases hlt : m < c.checks.length
    · have hml : m < c.checks.length := by exact hlt
      have hx : c.checks[m]? = some c.checks[m] := List.getElem?_eq_getElem hml
      have hmem : c.checks[m] ∈ c.checks := List.getElem_mem hml
      generalize c.checks[m] = s at hx hmem
      rcases (unhide H8).open with ⟨hnil, _⟩ | ⟨b, o, cc, ee, _, _, _, hcs⟩
      · rw [hnil] at hml; simp at hml
      obtain ⟨rfl, rfl⟩ : a8 = some ⟨b, o, none⟩ ∧ c8 = cc := by
        injection ee with e1 e2 e3
        exact ⟨e1, e3⟩
      obtain ⟨u, _, hat, hux⟩ := hcs m s hx
      obtain rfl : u = [.int .i64 s] := hux
      have k0 := cell_later hb5 (hat.get (j := 0) rfl)
      simp only [Nat.add_zero, Nat.mul_one] at k0
      have HST := hide (all_take (p := checkC ws) hx)
      have HNO := hide (show checkC ws s = false → false = SB from fun h => unhide P6 (no_all (p := checkC ws) hmem h))
      have hrg := hsw5.range
      have hln5 := hsw5.len
      have AT := hide hsw5.at_
      have HBW := hide hb5
      have hlt9 : (m : Int) < (c.checks.length : Int) := by omega
      clear hat hcs hx hmem ee hsw5 hb5 H8 P5 P6 HSW
      by_cases s0 : s < 0
      · have HE := hide (unhide HNO (check_neg s0))
        have f1 : decide (s < 0) = true := decide_eq_true s0
        clear HNO HST HA s0
        go_wp2
        go_ret
        exact ⟨ret_bool (unhide HE), unhide HBW⟩
      · by_cases sn : (n : Int) ≤ s
        · have HE := hide (unhide HNO (check_ge (by rw [hln5]; exact sn)))
          have f1 : decide (s < 0) = false := decide_eq_false s0
          have f2 : decide ((n : Int) ≤ s) = true := decide_eq_true sn
          clear HNO HST HA s0 sn
          go_wp2
          go_ret
          exact ⟨ret_bool (unhide HE), unhide HBW⟩
        · obtain ⟨j, rfl⟩ : ∃ j : Nat, s = (j : Int) := ⟨s.toNat, by omega⟩
          have hjn : j < n := by omega
          have hy : ws[j]? = some ws[j] := List.getElem?_eq_getElem (by omega)
          have hyr := hrg ws[j] (List.getElem_mem (by omega))
          generalize ws[j]'(by omega) = y at hy hyr
          have m1 := unhide AT j y hy
          have f1 : decide ((j : Int) < 0) = false := decide_eq_false (by omega)
          have f2 : decide ((n : Int) ≤ (j : Int)) = false := decide_eq_false (by omega)
          have f3 : (j : Int) < (n : Int) := by omega
          have f4 : (0 : Int) ≤ (j : Int) := by omega
          have f5 : decide (n ≤ j) = false := decide_eq_false (by omega)
          have hE := check_eq hy
          clear s0 sn hrg AT
          cases hq : decide (y = 1)
          · have HE := hide (unhide HNO (by rw [hE, hq]))
            have f6 : (y != 1) = true := by rw [bne_iff_ne]; exact of_decide_eq_false hq
            clear HNO HST HA hE hq hy hyr
            go_wp2
            go_ret
            exact ⟨ret_bool (unhide HE), unhide HBW⟩
          · have HS := hide (show (c.checks.take (m + 1)).all (checkC ws) = true from by rw [unhide HST, unhide HA, hE, hq]; rfl)
            have f6 : (y != 1) = false := by rw [bne_eq_false_iff_eq]; exact of_decide_eq_true hq
            clear HNO HST HA hE hq hy hyr
            go_wp2
            exact ⟨⟨m + 1, by omega, by go_num, unhide HS, unhide HB35⟩, by simp [intOf]; omega⟩
    · obtain rfl : m = c.checks.length := by omega
      rw [List.take_of_length_le (Nat.le_refl _)] at HA
      have HE := hide (show true = SB from (unhide P5) (unhide HA))
      have HBW := hide hb5
      clear HA P5 hsw5 hb5
      go_wp2
      go_ret
      exact ⟨ret_bool (unhide HE), unhide HBW⟩
end Go.Proofs.Ytbpcomnneemolaa
namespace Go.Proofs.Ytbpcomnneemolaa
open Go.RowKit Gs
set_option linter.unusedVariables false
set_option linter.unusedSimpArgs false
set_option maxRecDepth 100000
set_option maxHeartbeats 64000000 in
theorem sT7 (c : Code) (n wb : Nat) (hn2 : n ≤ 16384) (ws : List Int) (a1 a2 a4 a5 a6 a7 a8 : Option Addr) (c1 c2 c4 c5 c6 c7 c8 : Nat) (kc : Int) (w W : World) (SB : Bool) (l4 : c.inits.length ≤ 256) (l7 : c.outs.length ≤ 256) (l8 : c.checks.length ≤ 256) (hsw : SW w #[.int .i64 n, .slice a1 c.instrs.length c1, .slice a2 c.ins.length c2, .int .i64 kc, .slice a4 c.inits.length c4, .slice a5 c.inits.length c5, .slice a6 c.inits.length c6, .slice a7 c.outs.length c7, .slice a8 c.checks.length c8] wb n ws W) (h7 : RS 1 RInt w 0 c.outs (.slice a7 c.outs.length c7)) (h8 : RS 1 RInt w 0 c.checks (.slice a8 c.checks.length c8)) (hSB : (c.outs.all (holdsB ws) && c.checks.all (checkC ws)) = SB) (u2 u3 u4 u6 u7 u8 u9 u10 u11 u12 u13 u14 u15 u16 u17 u18 u19 u20 u21 u22 u23 u24 u25 u26 u27 u28 u29 u30 u31 u32 u33 u34 u35 u36 u37 u38 u39 u40 u41 u42 u43 u44 u45 u46 u47 u48 u49 u50 u51 u52 u53 u54 u55 u56 u57 u58 u59 u60 u61 u62 u63 u64 u65 u66 u67 u68 u69 u70 u71 u72 u73 u74 u75 u76 u77 u78 u79 u80 u81 u82 u83 u84 u85 u86 u87 u88 u89 u90 u91 u92 u93 u94 u95 u96 u97 u98 u99 u100 u101 u102 u103 u104 u105 u106 u107 u108 u109 u110 u111 u112 u113 u114 u115 u116 u117 u118 u119 u120 u121 u122 u123 u124 u125 u126 u127 u128 u129 u130 u131 u132 u133 u134 u135 u136 u137 u138 u139 u140 u141 u142 u143 u144 u145 u146 u147 u148 u149 u150 u151 u152 u153 u154 u155 u156 u157 u158 u159 u160 u161 u162 u163 u164 u165 u166 u167 u168 u169 u170 u171 u172 u173 u174 u175 u176 u177 u178 u179 u180 u181 u182 u183 u184 u185 u186 u187 u188 u189 u190 u191 u192 u193 u194 u195 u196 u197 u198 u199 u200 u201 u202 u203 u204 u205 u206 u207 u208 u209 u210 u211 u212 u213 u214 u215 u216 u217 u218 u219 u220 u221 u222 u223 u224 u225 u226 u227 u228 u229 u230 u231 u232 u233 u234 u235 u236 u237 u238 u239 u240 u241 u242 u243 u244 u245 u246 u247 u248 u249 u250 u251 u252 u253 u254 u255 u256 u257 u258 u259 u260 u261 u262 u263 u264 u265 u266 u267 u268 u269 u270 u271 u272 u273 u274 u275 u276 u277 u278 u279 u280 u281 u282 u283 u284 u285 u286 u287 u288 u289 u290 u291 u292 u293 u294 u295 u296 u297 u298 u299 u300 u301 u302 u303 u304 u305 u306 u307 u308 u309 u310 u311 u312 u313 u314 u315 u316 u317 u318 u319 u320 u321 u322 u323 u324 u325 u326 u327 u328 u329 u330 u331 u332 u333 u334 u335 u336 u337 u338 u339 u340 u341 u342 u343 u344 u345 u346 u347 u348 u349 u350 u351 u352 u353 u354 u355 u356 u357 u358 u359 u360 u361 u362 u363 u364 u365 u366 u367 u368 u369 u370 u371 u372 u373 u374 u375 u376 u377 u378 u379 u380 u381 u382 u383 u384 u385 u386 u387 u388 u389 u390 u391 u392 u393 u394 u395 u396 u397 u398 u399 u400 u401 u402 u403 u404 u405 u406 u407 u408 u409 u410 u411 u412 u413 u414 u415 u416 u417 u418 u419 u420 u421 u422 u423 u424 u425 u426 u427 u428 u429 u430 u431 u432 : Value) :
    Go.Code.wp Try.prog (tl 7 (bodyOf Try.f5)) (bodyPost Try.prog Try.f5 fun e w' => e = .returned (.bool SB) ∧ Below w.heap.size w w') { tmps := #[.agg #[.int .i64 n, .slice a1 c.instrs.length c1, .slice a2 c.ins.length c2, .int .i64 kc, .slice a4 c.inits.length c4, .slice a5 c.inits.length c5, .slice a6 c.inits.length c6, .slice a7 c.outs.length c7, .slice a8 c.checks.length c8], .pointer (some ⟨w.heap.size, 0, none⟩), u2, u3, u4, .slice (some ⟨wb, 0, none⟩) n n, u6, u7, u8, u9, u10, u11, u12, u13, u14, u15, u16, u17, u18, u19, u20, u21, u22, u23, u24, u25, u26, u27, u28, u29, u30, u31, u32, u33, u34, u35, u36, u37, u38, u39, u40, u41, u42, u43, u44, u45, u46, u47, u48, u49, u50, u51, u52, u53, u54, u55, u56, u57, u58, u59, u60, u61, u62, u63, u64, u65, u66, u67, u68, u69, u70, u71, u72, u73, u74, u75, u76, u77, u78, u79, u80, u81, u82, u83, u84, u85, u86, u87, u88, u89, u90, u91, u92, u93, u94, u95, u96, u97, u98, u99, u100, u101, u102, u103, u104, u105, u106, u107, u108, u109, u110, u111, u112, u113, u114, u115, u116, u117, u118, u119, u120, u121, u122, u123, u124, u125, u126, u127, u128, u129, u130, u131, u132, u133, u134, u135, u136, u137, u138, u139, u140, u141, u142, u143, u144, u145, u146, u147, u148, u149, u150, u151, u152, u153, u154, u155, u156, u157, u158, u159, u160, u161, u162, u163, u164, u165, u166, u167, u168, u169, u170, u171, u172, u173, u174, u175, u176, u177, u178, u179, u180, u181, u182, u183, u184, u185, u186, u187, u188, u189, u190, u191, u192, u193, u194, u195, u196, u197, u198, u199, u200, u201, u202, u203, u204, u205, u206, u207, u208, u209, u210, u211, u212, u213, u214, u215, u216, u217, u218, u219, u220, u221, u222, u223, u224, u225, u226, u227, u228, u229, u230, u231, u232, u233, u234, u235, u236, u237, u238, u239, u240, u241, u242, u243, u244, u245, u246, u247, u248, u249, u250, u251, u252, u253, u254, u255, u256, u257, u258, u259, u260, u261, u262, u263, u264, u265, u266, u267, u268, u269, u270, u271, u272, u273, u274, u275, u276, u277, u278, u279, u280, u281, u282, u283, u284, u285, u286, u287, u288, u289, u290, u291, u292, u293, u294, u295, u296, u297, u298, u299, u300, u301, u302, u303, u304, u305, u306, u307, u308, u309, u310, u311, u312, u313, u314, u315, u316, u317, u318, u319, u320, u321, u322, u323, u324, u325, u326, u327, u328, u329, u330, u331, u332, u333, u334, u335, u336, u337, u338, u339, u340, u341, u342, u343, u344, u345, u346, u347, u348, u349, u350, u351, u352, u353, u354, u355, u356, u357, u358, u359, u360, u361, u362, u363, u364, u365, u366, u367, u368, u369, u370, u371, u372, u373, u374, u375, u376, u377, u378, u379, u380, u381, u382, u383, u384, u385, u386, u387, u388, u389, u390, u391, u392, u393, u394, u395, u396, u397, u398, u399, u400, u401, u402, u403, u404, u405, u406, u407, u408, u409, u410, u411, u412, u413, u414, u415, u416, u417, u418, u419, u420, u421, u422, u423, u424, u425, u426, u427, u428, u429, u430, u431, u432], defers := [] } W := by
  have HSW := hide hsw
  have H7 := hide h7
  have H8 := hide h8
  have P3 := hide (show c.outs.all (holdsB ws) = false → false = SB from fun h => by rw [← hSB, h]; rfl)
  have P5 := hide (show c.outs.all (holdsB ws) = true → c.checks.all (checkC ws) = SB from fun h => by rw [← hSB, h]; rfl)
  obtain ⟨q0, q1, q2, q3, q4, q5, q6, q7, q8⟩ := hsw.box.get9
  clear hsw h7 h8 hSB
  conv => arg 2; whnf
  go_wp2
  go_loopw [15] (fun i wr5 => ∃ m : Nat, m ≤ c.outs.length ∧ i = .int .i64 m ∧ (c.outs.take m).all (holdsB ws) = true ∧ Below W.heap.size W wr5) (fun i _ => c.outs.length - (intOf i).toNat)
  case atStart => exact ⟨0, Nat.zero_le _, rfl, rfl, brf _⟩
  case round =>
    clear q0 q1 q2 q3 q4 q5 q6 q7 q8
    obtain ⟨wr5, rfl⟩ : ∃ V : World, V = wr := ⟨wr, rfl⟩
    obtain ⟨m, hm, rfl, hall, hb35⟩ := hrel
    have HB35 := hide hb35
    have HA := hide hall
    have hsw5 := (unhide HSW).later hb35
    have hb5 := hsw5.box.below
    obtain ⟨q0, q1, q2, q3, q4, q5, q6, q7, q8⟩ := hsw5.box.get9
    clear hall hb35
    by_cases hlt : m < c.outs.length
    · have hml : m < c.outs.length := by exact hlt
      have hx : c.outs[m]? = some c.outs[m] := List.getElem?_eq_getElem hml
      have hmem : c.outs[m] ∈ c.outs := List.getElem_mem hml
      generalize c.outs[m] = s at hx hmem
      rcases (unhide H7).open with ⟨hnil, _⟩ | ⟨b, o, cc, ee, _, _, _, hcs⟩
      · rw [hnil] at hml; simp at hml
      obtain ⟨rfl, rfl⟩ : a7 = some ⟨b, o, none⟩ ∧ c7 = cc := by
        injection ee with e1 e2 e3
        exact ⟨e1, e3⟩
      obtain ⟨u, _, hat, hux⟩ := hcs m s hx
      obtain rfl : u = [.int .i64 s] := hux
      have k0 := cell_later hb5 (hat.get (j := 0) rfl)
      simp only [Nat.add_zero, Nat.mul_one] at k0
      have HST := hide (all_take (p := holdsB ws) hx)
      have HNO := hide (show holdsB ws s = false → false = SB from fun h => unhide P3 (no_all (p := holdsB ws) hmem h))
      have hrg := hsw5.range
      have hln5 := hsw5.len
      have AT := hide hsw5.at_
      have HBW := hide hb5
      have hlt9 : (m : Int) < (c.outs.length : Int) := by omega
      clear hat hcs hx hmem ee hsw5 hb5 H7 H8 P3 P5 HSW
      by_cases s0 : s < 0
      · have HE := hide (unhide HNO (hold_neg s0))
        have f1 : decide (s < 0) = true := decide_eq_true s0
        clear HNO HST HA s0
        go_wp2
        go_ret
        exact ⟨ret_bool (unhide HE), unhide HBW⟩
      · by_cases sn : (n : Int) ≤ s
        · have HE := hide (unhide HNO (hold_ge (by rw [hln5]; exact sn)))
          have f1 : decide (s < 0) = false := decide_eq_false s0
          have f2 : decide ((n : Int) ≤ s) = true := decide_eq_true sn
          clear HNO HST HA s0 sn
          go_wp2
          go_ret
          exact ⟨ret_bool (unhide HE), unhide HBW⟩
        · obtain ⟨j, rfl⟩ : ∃ j : Nat, s = (j : Int) := ⟨s.toNat, by omega⟩
          have hjn : j < n := by omega
          have hy : ws[j]? = some ws[j] := List.getElem?_eq_getElem (by omega)
          have hyr := hrg ws[j] (List.getElem_mem (by omega))
          generalize ws[j]'(by omega) = y at hy hyr
          have m1 := unhide AT j y hy
          have f1 : decide ((j : Int) < 0) = false := decide_eq_false (by omega)
          have f2 : decide ((n : Int) ≤ (j : Int)) = false := decide_eq_false (by omega)
          have f3 : (j : Int) < (n : Int) := by omega
          have f4 : (0 : Int) ≤ (j : Int) := by omega
          have f5 : decide (n ≤ j) = false := decide_eq_false (by omega)
          have hE := (rfl : holdsB ws (j : Int) = holdsB ws (j : Int))
          clear s0 sn hrg AT
          cases hq : holdsB ws (j : Int)
          · have HE := hide (unhide HNO (by rw [hE, hq]))
            have f6 : (y == 0) = true := holds_no hy hyr hq
            clear HNO HST HA hE hq hy hyr
            go_wp2
            go_ret
            exact ⟨ret_bool (unhide HE), unhide HBW⟩
          · have HS := hide (show (c.outs.take (m + 1)).all (holdsB ws) = true from by rw [unhide HST, unhide HA, hE, hq]; rfl)
            have f6 : (y == 0) = false := holds_yes hy hq
            clear HNO HST HA hE hq hy hyr
            go_wp2
            exact ⟨⟨m + 1, by omega, by go_num, unhide HS, unhide HB35⟩, by simp [intOf]; omega⟩
    · obtain rfl : m = c.outs.length := by omega
      rw [List.take_of_length_le (Nat.le_refl _)] at HA
      have HS9 := hide hsw5
      rename (∀ (a : Act) (w : World), Go.Code.wp Try.prog _ _ a w → _) => hK
      have HKK := hide hK
      clear hK
      clear hsw5 hb5
      go_wp2
      refine unhide HKK _ _ ?_
      exact sT8 c n wb hn2 ws a1 a2 a4 a5 a6 a7 a8 c1 c2 c4 c5 c6 c7 c8 kc w _ SB l4 l7 l8 (unhide HS9) (unhide H8) (unhide P5 (unhide HA)) _ _ _ _ _ _ _ _ _ _ _ _ _ _ _ _ _ _ _ _ _ _ _ _ _ _ _ _ _ _ _ _ _ _ _ _ _ _ _ _ _ _ _ _ _ _ _ _ _ _ _ _ _ _ _ _ _ _ _ _ _ _ _ _ _ _ _ _ _ _ _ _ _ _ _ _ _ _ _ _ _ _ _ _ _ _ _ _ _ _ _ _ _ _ _ _ _ _ _ _ _ _ _ _ _ _ _ _ _ _ _ _ _ _ _ _ _ _ _ _ _ _ _ _ _ _ _ _ _ _ _ _ _ _ _ _ _ _ _ _ _ _ _ _ _ _ _ _ _ _ _ _ _ _ _ _ _ _ _ _ _ _ _ _ _ _ _ _ _ _ _ _ _ _ _ _ _ _ _ _ _ _ _ _ _ _ _ _ _ _ _ _ _ _ _ _ _ _ _ _ _ _ _ _ _ _ _ _ _ _ _ _ _ _ _ _ _ _ _ _ _ _ _ _ _ _ _ _ _ _ _ _ _ _ _ _ _ _ _ _ _ _ _ _ _ _ _ _ _ _ _ _ _ _ _ _ _ _ _ _ _ _ _ _ _ _ _ _ _ _ _ _ _ _ _ _ _ _ _ _ _ _ _ _ _ _ _ _ _ _ _ _ _ _ _ _ _ _ _ _ _ _ _ _ _ _ _ _ _ _ _ _ _ _ _ _ _ _ _ _ _ _ _ _ _ _ _ _ _ _ _ _ _ _ _ _ _ _ _ _ _ _ _ _ _ _ _ _ _ _ _ _ _ _ _ _ _ _ _ _ _ _ _ _ _ _ _ _ _ _ _ _ _ _ _ _ _ _ _ _ _ _ _ _ _ _ _ _ _ _ _ _ _ _ _ _ _ _ _ _ _ _ _ _ _ _ _ _ _ _ _ _ _ _ _ _ _ _ _ _ _ _ _ _ _ _ _ _ _ _
end Go.Proofs.Ytbpcomnneemolaa
namespace Go.Proofs.Ytbpcomnneemolaa
open Go.RowKit Gs
set_option linter.unusedVariables false
set_option linter.unusedSimpArgs false
set_option maxRecDepth 100000
set_option maxHeartbeats 64000000 in
theorem sT6 (c : Code) (n wb : Nat) (hn2 : n ≤ 16384) (ws : List Int) (a1 a2 a4 a5 a6 a7 a8 : Option Addr) (c1 c2 c4 c5 c6 c7 c8 : Nat) (kc : Int) (w W : World) (SB : Bool) (l4 : c.inits.length ≤ 256) (l7 : c.outs.length ≤ 256) (l8 : c.checks.length ≤ 256) (hsw : SW w #[.int .i64 n, .slice a1 c.instrs.length c1, .slice a2 c.ins.length c2, .int .i64 kc, .slice a4 c.inits.length c4, .slice a5 c.inits.length c5, .slice a6 c.inits.length c6, .slice a7 c.outs.length c7, .slice a8 c.checks.length c8] wb n ws W) (P1h : initsS c = true) (e6 : c.nexts.length = c.inits.length) (h4 : RS 1 RStr w 0 c.inits (.slice a4 c.inits.length c4)) (h6 : RS 1 RInt w 0 c.nexts (.slice a6 c.inits.length c6)) (h7 : RS 1 RInt w 0 c.outs (.slice a7 c.outs.length c7)) (h8 : RS 1 RInt w 0 c.checks (.slice a8 c.checks.length c8)) (hSB : endsC c ws = SB) (u2 u3 u4 u6 u7 u8 u9 u10 u11 u12 u13 u14 u15 u16 u17 u18 u19 u20 u21 u22 u23 u24 u25 u26 u27 u28 u29 u30 u31 u32 u33 u34 u35 u36 u37 u38 u39 u40 u41 u42 u43 u44 u45 u46 u47 u48 u49 u50 u51 u52 u53 u54 u55 u56 u57 u58 u59 u60 u61 u62 u63 u64 u65 u66 u67 u68 u69 u70 u71 u72 u73 u74 u75 u76 u77 u78 u79 u80 u81 u82 u83 u84 u85 u86 u87 u88 u89 u90 u91 u92 u93 u94 u95 u96 u97 u98 u99 u100 u101 u102 u103 u104 u105 u106 u107 u108 u109 u110 u111 u112 u113 u114 u115 u116 u117 u118 u119 u120 u121 u122 u123 u124 u125 u126 u127 u128 u129 u130 u131 u132 u133 u134 u135 u136 u137 u138 u139 u140 u141 u142 u143 u144 u145 u146 u147 u148 u149 u150 u151 u152 u153 u154 u155 u156 u157 u158 u159 u160 u161 u162 u163 u164 u165 u166 u167 u168 u169 u170 u171 u172 u173 u174 u175 u176 u177 u178 u179 u180 u181 u182 u183 u184 u185 u186 u187 u188 u189 u190 u191 u192 u193 u194 u195 u196 u197 u198 u199 u200 u201 u202 u203 u204 u205 u206 u207 u208 u209 u210 u211 u212 u213 u214 u215 u216 u217 u218 u219 u220 u221 u222 u223 u224 u225 u226 u227 u228 u229 u230 u231 u232 u233 u234 u235 u236 u237 u238 u239 u240 u241 u242 u243 u244 u245 u246 u247 u248 u249 u250 u251 u252 u253 u254 u255 u256 u257 u258 u259 u260 u261 u262 u263 u264 u265 u266 u267 u268 u269 u270 u271 u272 u273 u274 u275 u276 u277 u278 u279 u280 u281 u282 u283 u284 u285 u286 u287 u288 u289 u290 u291 u292 u293 u294 u295 u296 u297 u298 u299 u300 u301 u302 u303 u304 u305 u306 u307 u308 u309 u310 u311 u312 u313 u314 u315 u316 u317 u318 u319 u320 u321 u322 u323 u324 u325 u326 u327 u328 u329 u330 u331 u332 u333 u334 u335 u336 u337 u338 u339 u340 u341 u342 u343 u344 u345 u346 u347 u348 u349 u350 u351 u352 u353 u354 u355 u356 u357 u358 u359 u360 u361 u362 u363 u364 u365 u366 u367 u368 u369 u370 u371 u372 u373 u374 u375 u376 u377 u378 u379 u380 u381 u382 u383 u384 u385 u386 u387 u388 u389 u390 u391 u392 u393 u394 u395 u396 u397 u398 u399 u400 u401 u402 u403 u404 u405 u406 u407 u408 u409 u410 u411 u412 u413 u414 u415 u416 u417 u418 u419 u420 u421 u422 u423 u424 u425 u426 u427 u428 u429 u430 u431 u432 : Value) :
    Go.Code.wp Try.prog (tl 6 (bodyOf Try.f5)) (bodyPost Try.prog Try.f5 fun e w' => e = .returned (.bool SB) ∧ Below w.heap.size w w') { tmps := #[.agg #[.int .i64 n, .slice a1 c.instrs.length c1, .slice a2 c.ins.length c2, .int .i64 kc, .slice a4 c.inits.length c4, .slice a5 c.inits.length c5, .slice a6 c.inits.length c6, .slice a7 c.outs.length c7, .slice a8 c.checks.length c8], .pointer (some ⟨w.heap.size, 0, none⟩), u2, u3, u4, .slice (some ⟨wb, 0, none⟩) n n, u6, u7, u8, u9, u10, u11, u12, u13, u14, u15, u16, u17, u18, u19, u20, u21, u22, u23, u24, u25, u26, u27, u28, u29, u30, u31, u32, u33, u34, u35, u36, u37, u38, u39, u40, u41, u42, u43, u44, u45, u46, u47, u48, u49, u50, u51, u52, u53, u54, u55, u56, u57, u58, u59, u60, u61, u62, u63, u64, u65, u66, u67, u68, u69, u70, u71, u72, u73, u74, u75, u76, u77, u78, u79, u80, u81, u82, u83, u84, u85, u86, u87, u88, u89, u90, u91, u92, u93, u94, u95, u96, u97, u98, u99, u100, u101, u102, u103, u104, u105, u106, u107, u108, u109, u110, u111, u112, u113, u114, u115, u116, u117, u118, u119, u120, u121, u122, u123, u124, u125, u126, u127, u128, u129, u130, u131, u132, u133, u134, u135, u136, u137, u138, u139, u140, u141, u142, u143, u144, u145, u146, u147, u148, u149, u150, u151, u152, u153, u154, u155, u156, u157, u158, u159, u160, u161, u162, u163, u164, u165, u166, u167, u168, u169, u170, u171, u172, u173, u174, u175, u176, u177, u178, u179, u180, u181, u182, u183, u184, u185, u186, u187, u188, u189, u190, u191, u192, u193, u194, u195, u196, u197, u198, u199, u200, u201, u202, u203, u204, u205, u206, u207, u208, u209, u210, u211, u212, u213, u214, u215, u216, u217, u218, u219, u220, u221, u222, u223, u224, u225, u226, u227, u228, u229, u230, u231, u232, u233, u234, u235, u236, u237, u238, u239, u240, u241, u242, u243, u244, u245, u246, u247, u248, u249, u250, u251, u252, u253, u254, u255, u256, u257, u258, u259, u260, u261, u262, u263, u264, u265, u266, u267, u268, u269, u270, u271, u272, u273, u274, u275, u276, u277, u278, u279, u280, u281, u282, u283, u284, u285, u286, u287, u288, u289, u290, u291, u292, u293, u294, u295, u296, u297, u298, u299, u300, u301, u302, u303, u304, u305, u306, u307, u308, u309, u310, u311, u312, u313, u314, u315, u316, u317, u318, u319, u320, u321, u322, u323, u324, u325, u326, u327, u328, u329, u330, u331, u332, u333, u334, u335, u336, u337, u338, u339, u340, u341, u342, u343, u344, u345, u346, u347, u348, u349, u350, u351, u352, u353, u354, u355, u356, u357, u358, u359, u360, u361, u362, u363, u364, u365, u366, u367, u368, u369, u370, u371, u372, u373, u374, u375, u376, u377, u378, u379, u380, u381, u382, u383, u384, u385, u386, u387, u388, u389, u390, u391, u392, u393, u394, u395, u396, u397, u398, u399, u400, u401, u402, u403, u404, u405, u406, u407, u408, u409, u410, u411, u412, u413, u414, u415, u416, u417, u418, u419, u420, u421, u422, u423, u424, u425, u426, u427, u428, u429, u430, u431, u432], defers := [] } W := by
  have HSW := hide hsw
  have H4 := hide h4
  have H6 := hide h6
  have H7 := hide h7
  have H8 := hide h8
  have P1 := hide P1h
  have E6 := hide e6
  have P3 := hide (show c.nexts.zipIdx.all (nextC c ws) = false → false = SB from fun h => by rw [← hSB]; unfold endsC; rw [h]; rfl)
  have P5 := hide (show c.nexts.zipIdx.all (nextC c ws) = true → (c.outs.all (holdsB ws) && c.checks.all (checkC ws)) = SB from fun h => by rw [← hSB]; unfold endsC; rw [h, Bool.true_and])
  obtain ⟨q0, q1, q2, q3, q4, q5, q6, q7, q8⟩ := hsw.box.get9
  clear hsw h4 h6 h7 h8 P1h e6 hSB
  conv => arg 2; whnf
  go_wp2
  go_loopw [13] (fun i wr5 => ∃ m : Nat, m ≤ c.inits.length ∧ i = .int .i64 m ∧ (c.nexts.zipIdx.take m).all (nextC c ws) = true ∧ Below W.heap.size W wr5) (fun i _ => c.inits.length - (intOf i).toNat)
  case atStart => exact ⟨0, Nat.zero_le _, rfl, rfl, brf _⟩
  case round =>
    clear q0 q1 q2 q3 q4 q5 q6 q7 q8
    obtain ⟨wr5, rfl⟩ : ∃ V : World, V = wr := ⟨wr, rfl⟩
    obtain ⟨m, hm, rfl, hall, hb35⟩ := hrel
    have HB35 := hide hb35
    have HA := hide hall
    have hsw5 := (unhide HSW).later hb35
    have hb5 := hsw5.box.below
    obtain ⟨q0, q1, q2, q3, q4, q5, q6, q7, q8⟩ := hsw5.box.get9
    clear hall hb35
    by_cases hlt : m < c.inits.length
    · have hml : m < c.nexts.length := by rw [unhide E6]; exact hlt
      have hx : c.nexts[m]? = some c.nexts[m] := List.getElem?_eq_getElem hml
      have hmem : c.nexts[m] ∈ c.nexts := List.getElem_mem hml
      generalize c.nexts[m] = s at hx hmem
      rcases (unhide H6).open with ⟨hnil, _⟩ | ⟨b, o, cc, ee, _, _, _, hcs⟩
      · rw [hnil] at hml; simp at hml
      obtain ⟨rfl, rfl⟩ : a6 = some ⟨b, o, none⟩ ∧ c6 = cc := by
        injection ee with e1 e2 e3
        exact ⟨e1, e3⟩
      obtain ⟨u, _, hat, hux⟩ := hcs m s hx
      obtain rfl : u = [.int .i64 s] := hux
      have k0 := cell_later hb5 (hat.get (j := 0) rfl)
      simp only [Nat.add_zero, Nat.mul_one] at k0
      have HST := hide (all_zip (p := nextC c ws) hx)
      have HNO := hide (show nextC c ws (s, m) = false → false = SB from fun h => unhide P3 (not_zip hx h))
      have hil : m < c.inits.length := by omega
      have ht : c.inits[m]? = some c.inits[m] := List.getElem?_eq_getElem hil
      generalize c.inits[m] = t at ht
      have hts := init_size (unhide P1) ht
      rcases (unhide H4).open with ⟨hnil, _⟩ | ⟨b4, o4, cc4, ee4, _, _, _, hcs4⟩
      · rw [hnil] at hil; simp at hil
      obtain ⟨rfl, rfl⟩ : a4 = some ⟨b4, o4, none⟩ ∧ c4 = cc4 := by
        injection ee4 with e1 e2 e3
        exact ⟨e1, e3⟩
      obtain ⟨u4, _, hat4, hux4, _⟩ := hcs4 m t ht
      subst hux4
      have k4 := cell_later hb5 (hat4.get (j := 0) rfl)
      simp only [Nat.add_zero, Nat.mul_one] at k4
      clear hat4 hcs4 ee4
      have hrg := hsw5.range
      have hln5 := hsw5.len
      have AT := hide hsw5.at_
      have HBW := hide hb5
      have hlt9 : (m : Int) < (c.inits.length : Int) := by omega
      clear hat hcs hx hmem ee hsw5 hb5 H4 H6 H7 H8 P1 P3 P5 E6 HSW
      by_cases s0 : s < 0
      · have HE := hide (unhide HNO (next_neg s0))
        have f1 : decide (s < 0) = true := decide_eq_true s0
        clear HNO HST HA s0
        go_wp2
        go_quiet (fail)
        go_wp2
        go_ret
        exact ⟨ret_bool (unhide HE), bdn (unhide HBW)⟩
      · by_cases sn : (n : Int) ≤ s
        · have HE := hide (unhide HNO (next_ge (by rw [hln5]; exact sn)))
          have f1 : decide (s < 0) = false := decide_eq_false s0
          have f2 : decide ((n : Int) ≤ s) = true := decide_eq_true sn
          clear HNO HST HA s0 sn
          go_wp2
          go_quiet (fail)
          go_wp2
          go_ret
          exact ⟨ret_bool (unhide HE), bdn (unhide HBW)⟩
        · obtain ⟨j, rfl⟩ : ∃ j : Nat, s = (j : Int) := ⟨s.toNat, by omega⟩
          have hjn : j < n := by omega
          have hy : ws[j]? = some ws[j] := List.getElem?_eq_getElem (by omega)
          have hyr := hrg ws[j] (List.getElem_mem (by omega))
          generalize ws[j]'(by omega) = y at hy hyr
          have m1 := unhide AT j y hy
          have f1 : decide ((j : Int) < 0) = false := decide_eq_false (by omega)
          have f2 : decide ((n : Int) ≤ (j : Int)) = false := decide_eq_false (by omega)
          have f3 : (j : Int) < (n : Int) := by omega
          have f4 : (0 : Int) ≤ (j : Int) := by omega
          have f5 : decide (n ≤ j) = false := decide_eq_false (by omega)
          have hE := next_eq hy ht hts.1
          clear s0 sn hrg AT
          cases hq : decide (y = (t.size : Int))
          · have HE := hide (unhide HNO (by rw [hE, hq]))
            have f6 : (y != (t.size : Int)) = true := by rw [bne_iff_ne]; exact of_decide_eq_false hq
            clear HNO HST HA hE hq hy hyr
            go_wp2
            go_quiet (fail)
            go_wp2
            go_ret
            exact ⟨ret_bool (unhide HE), bdn (unhide HBW)⟩
          · have HS := hide (show (c.nexts.zipIdx.take (m + 1)).all (nextC c ws) = true from by rw [unhide HST, unhide HA, hE, hq]; rfl)
            have f6 : (y != (t.size : Int)) = false := by rw [bne_eq_false_iff_eq]; exact of_decide_eq_true hq
            clear HNO HST HA hE hq hy hyr
            go_wp2
            go_quiet (fail)
            go_wp2
            exact ⟨⟨m + 1, by omega, by go_num, unhide HS, bdn (unhide HB35)⟩, by simp [intOf]; omega⟩
    · obtain rfl : m = c.inits.length := by omega
      rw [List.take_of_length_le (by rw [List.length_zipIdx, unhide E6]; exact Nat.le_refl _)] at HA
      have HS9 := hide hsw5
      rename (∀ (a : Act) (w : World), Go.Code.wp Try.prog _ _ a w → _) => hK
      have HKK := hide hK
      clear hK
      clear hsw5 hb5
      go_wp2
      refine unhide HKK _ _ ?_
      exact sT7 c n wb hn2 ws a1 a2 a4 a5 a6 a7 a8 c1 c2 c4 c5 c6 c7 c8 kc w _ SB l4 l7 l8 (unhide HS9) (unhide H7) (unhide H8) (unhide P5 (unhide HA)) _ _ _ _ _ _ _ _ _ _ _ _ _ _ _ _ _ _ _ _ _ _ _ _ _ _ _ _ _ _ _ _ _ _ _ _ _ _ _ _ _ _ _ _ _ _ _ _ _ _ _ _ _ _ _ _ _ _ _ _ _ _ _ _ _ _ _ _ _ _ _ _ _ _ _ _ _ _ _ _ _ _ _ _ _ _ _ _ _ _ _ _ _ _ _ _ _ _ _ _ _ _ _ _ _ _ _ _ _ _ _ _ _ _ _ _ _ _ _ _ _ _ _ _ _ _ _ _ _ _ _ _ _ _ _ _ _ _ _ _ _ _ _ _ _ _ _ _ _ _ _ _ _ _ _ _ _ _ _ _ _ _ _ _ _ _ _ _ _ _ _ _ _ _ _ _ _ _ _ _ _ _ _ _ _ _ _ _ _ _ _ _ _ _ _ _ _ _ _ _ _ _ _ _ _ _ _ _ _ _ _ _ _ _ _ _ _ _ _ _ _ _ _ _ _ _ _ _ _ _ _ _ _ _ _ _ _ _ _ _ _ _ _ _ _ _ _ _ _ _ _ _ _ _ _ _ _ _ _ _ _ _ _ _ _ _ _ _ _ _ _ _ _ _ _ _ _ _ _ _ _ _ _ _ _ _ _ _ _ _ _ _ _ _ _ _ _ _ _ _ _ _ _ _ _ _ _ _ _ _ _ _ _ _ _ _ _ _ _ _ _ _ _ _ _ _ _ _ _ _ _ _ _ _ _ _ _ _ _ _ _ _ _ _ _ _ _ _ _ _ _ _ _ _ _ _ _ _ _ _ _ _ _ _ _ _ _ _ _ _ _ _ _ _ _ _ _ _ _ _ _ _ _ _ _ _ _ _ _ _ _ _ _ _ _ _ _ _ _ _ _ _ _ _ _ _ _ _ _ _ _ _ _ _ _ _ _ _ _ _ _ _ _ _ _ _ _ _ _ _
end Go.Proofs.Ytbpcomnneemolaa
