/- The specification's round of one instruction behind its kids. -/
import Derived.Test.YtbpcomnneemolaaST
import Derived.BigQuiet
namespace Go.Proofs.Ytbpcomnneemolaa
open Go.RowKit Gs
set_option linter.unusedVariables false
set_option linter.unusedSimpArgs false
set_option maxRecDepth 100000
set_option maxHeartbeats 64000000 in
theorem sX34 (c : Code) (n wb : Nat) (hn2 : n ≤ 16384) (ws : List Int) (a1 a2 a4 a5 a6 a7 a8 : Option Addr) (c1 c2 c4 c5 c6 c7 c8 : Nat) (kc : Int) (w wr3 wr4 : World) (SB IS : Bool) (l2 : c.ins.length ≤ 256) (l4 : c.inits.length ≤ 256) (T i : Nat) (hi : i < n) (za zb zc zn zw : Int) (zs : Bool) (zt : ByteArray) (kv : Value) (HSW : Hid (SW w #[.int .i64 n, .slice a1 c.instrs.length c1, .slice a2 c.ins.length c2, .int .i64 kc, .slice a4 c.inits.length c4, .slice a5 c.inits.length c5, .slice a6 c.inits.length c6, .slice a7 c.outs.length c7, .slice a8 c.checks.length c8] wb n ws wr3)) (hz : ZL ((wr3.alloc (.cells #[.int .i64 34, .int .i64 i, .int .i64 za, .int .i64 zb, .int .i64 zc, .int .i64 zn, .int .i64 zw, .bool zs, .string zt] 40)).alloc (.cells #[.int .i64 za, .int .i64 zb, .int .i64 zc] 3)) (wr3.heap.size + 1 + 1) 34 zw zn zs zt (kidW ws T [za, zb, zc]) kv wr4) (hNO : IS = false → false = SB) (hY : IS = true → 1 ≤ zw ∧ zw ≤ 64)  (hrg : ∀ (i : Nat) (p : ByteArray), c.inits[i]? = some p → ∃ b o cc, Value.slice a4 c.inits.length c4 = .slice (some ⟨b, o, none⟩) c.inits.length cc ∧ w.cell? ⟨b, o + i, none⟩ = some (.string p) ∧ p.size ≤ 64) (hIS : (if 0 ≤ zn then (match c.inits[zn.toNat]? with | some t => decide (zw = (t.size : Int)) && !zs && zt.toList.isEmpty | none => false) else false) = IS) (u2 u3 u4 u6 u8 u9 u11 u12 u13 u14 u15 u16 u17 u18 u19 u20 u21 u22 u23 u24 u25 u26 u27 u28 u29 u30 u31 u32 u33 u34 u35 u36 u37 u38 u39 u40 u41 u42 u43 u44 u45 u46 u47 u48 u49 u50 u51 u52 u53 u54 u55 u56 u57 u58 u59 u60 u61 u62 u63 u64 u65 u66 u67 u68 u69 u70 u71 u72 u73 u74 u75 u76 u77 u78 u79 u80 u81 u82 u83 u84 u85 u86 u87 u88 u89 u90 u91 u92 u93 u94 u95 u96 u97 u98 u99 u100 u101 u102 u103 u104 u105 u106 u107 u108 u109 u110 u111 u112 u113 u114 u115 u116 u117 u118 u119 u120 u121 u122 u123 u124 u125 u126 u127 u128 u129 u130 u131 u132 u133 u134 u135 u136 u137 u138 u139 u140 u141 u142 u143 u144 u145 u146 u147 u148 u149 u150 u151 u152 u153 u154 u155 u156 u157 u158 u159 u160 u161 u162 u163 u164 u165 u166 u167 u168 u169 u170 u171 u172 u173 u174 u175 u176 u177 u178 u179 u180 u181 u182 u183 u184 u185 u186 u187 u188 u189 u190 u191 u192 u193 u194 u195 u196 u197 u198 u199 u200 u201 u202 u203 u204 u205 u206 u207 u208 u209 u210 u211 u212 u213 u214 u215 u216 u217 u218 u219 u220 u221 u222 u223 u224 u225 u226 u227 u228 u229 u230 u231 u232 u233 u234 u235 u236 u237 u238 u239 u240 u241 u242 u243 u244 u245 u246 u247 u248 u249 u250 u251 u252 u253 u254 u255 u256 u257 u258 u259 u260 u261 u262 u263 u264 u265 u266 u267 u268 u269 u270 u271 u272 u273 u274 u275 u276 u277 u278 u279 u280 u281 u282 u283 u284 u285 u286 u287 u288 u289 u290 u291 u292 u293 u294 u295 u296 u297 u298 u299 u300 u301 u302 u303 u304 u305 u306 u307 u308 u309 u310 u311 u312 u313 u314 u315 u316 u317 u318 u319 u320 u321 u322 u323 u324 u325 u326 u327 u328 u329 u330 u331 u332 u333 u334 u335 u336 u337 u338 u339 u340 u341 u342 u343 u344 u345 u346 u347 u348 u349 u350 u351 u352 u353 u354 u355 u356 u357 u358 u359 u360 u361 u362 u363 u364 u365 u366 u367 u368 u369 u370 u371 u372 u373 u374 u375 u376 u377 u378 u379 u380 u381 u382 u383 u384 u385 u386 u387 u388 u389 u390 u391 u392 u393 u394 u395 u396 u397 u398 u399 u400 u401 u402 u403 u404 u405 u406 u407 u408 u409 u410 u411 u412 u413 u414 u415 u416 u417 u418 u419 u420 u421 u422 u423 u424 u425 u426 u427 u428 u429 u430 u431 u432 : Value) (Q : Exit → Act → World → Prop) (hN : ∀ (V : World), IS = true → SW w #[.int .i64 n, .slice a1 c.instrs.length c1, .slice a2 c.ins.length c2, .int .i64 kc, .slice a4 c.inits.length c4, .slice a5 c.inits.length c5, .slice a6 c.inits.length c6, .slice a7 c.outs.length c7, .slice a8 c.checks.length c8] wb n (ws.set i zw) V → ∀ (v12 v254 v255 v256 v257 v258 v259 v260 v261 v262 v263 v264 v265 v266 v267 v268 v269 v270 v271 v272 v273 v274 v275 v276 v277 v278 v279 v280 v281 v282 v283 v284 v285 v286 v287 v288 v289 v290 v291 v292 v293 v294 v295 v296 v297 v298 v299 v300 v301 v302 v303 v304 v305 v306 v307 v308 v309 v310 v311 v312 v313 v314 v315 v316 v317 v318 v319 v320 v321 v322 v323 v324 v325 v326 v327 v328 v329 v330 v331 v332 v333 v334 v335 v336 v337 v338 v339 v340 v341 v342 v343 v344 v345 : Value), Q .normal { tmps := #[.agg #[.int .i64 n, .slice a1 c.instrs.length c1, .slice a2 c.ins.length c2, .int .i64 kc, .slice a4 c.inits.length c4, .slice a5 c.inits.length c5, .slice a6 c.inits.length c6, .slice a7 c.outs.length c7, .slice a8 c.checks.length c8], .pointer (some ⟨w.heap.size, 0, none⟩), u2, u3, u4, .slice (some ⟨wb, 0, none⟩) n n, u6, .pointer (some ⟨wr3.heap.size, 0, none⟩), u8, u9, .pointer (some ⟨(wr3.heap.size + 1 + 1), 0, none⟩), u11, v12, u13, u14, u15, u16, u17, u18, u19, u20, u21, u22, u23, u24, u25, u26, u27, u28, u29, u30, u31, u32, u33, u34, u35, u36, u37, u38, u39, u40, u41, u42, u43, u44, u45, u46, u47, u48, u49, u50, u51, u52, u53, u54, u55, u56, u57, u58, u59, u60, u61, u62, u63, u64, u65, u66, u67, u68, u69, u70, u71, u72, u73, u74, u75, u76, u77, u78, u79, u80, u81, u82, u83, u84, u85, u86, u87, u88, u89, u90, u91, u92, u93, u94, u95, u96, u97, u98, u99, u100, u101, u102, u103, u104, u105, u106, u107, u108, u109, u110, u111, u112, u113, u114, u115, u116, u117, u118, u119, u120, u121, u122, u123, u124, u125, u126, u127, u128, u129, u130, u131, u132, u133, u134, u135, u136, u137, u138, u139, u140, u141, u142, u143, u144, u145, u146, u147, u148, u149, u150, u151, u152, u153, u154, u155, u156, u157, u158, u159, u160, u161, u162, u163, u164, u165, u166, u167, u168, u169, u170, u171, u172, u173, u174, u175, u176, u177, u178, u179, u180, u181, u182, u183, u184, u185, u186, u187, u188, u189, u190, u191, u192, u193, u194, u195, u196, u197, u198, u199, u200, u201, u202, u203, u204, u205, u206, u207, u208, u209, u210, u211, u212, u213, u214, u215, u216, u217, u218, u219, u220, u221, u222, u223, u224, u225, u226, u227, u228, u229, u230, u231, u232, u233, u234, u235, u236, u237, u238, u239, u240, u241, u242, u243, u244, u245, u246, u247, u248, u249, u250, u251, u252, u253, v254, v255, v256, v257, v258, v259, v260, v261, v262, v263, v264, v265, v266, v267, v268, v269, v270, v271, v272, v273, v274, v275, v276, v277, v278, v279, v280, v281, v282, v283, v284, v285, v286, v287, v288, v289, v290, v291, v292, v293, v294, v295, v296, v297, v298, v299, v300, v301, v302, v303, v304, v305, v306, v307, v308, v309, v310, v311, v312, v313, v314, v315, v316, v317, v318, v319, v320, v321, v322, v323, v324, v325, v326, v327, v328, v329, v330, v331, v332, v333, v334, v335, v336, v337, v338, v339, v340, v341, v342, v343, v344, v345, u346, u347, u348, u349, u350, u351, u352, u353, u354, u355, u356, u357, u358, u359, u360, u361, u362, u363, u364, u365, u366, u367, u368, u369, u370, u371, u372, u373, u374, u375, u376, u377, u378, u379, u380, u381, u382, u383, u384, u385, u386, u387, u388, u389, u390, u391, u392, u393, u394, u395, u396, u397, u398, u399, u400, u401, u402, u403, u404, u405, u406, u407, u408, u409, u410, u411, u412, u413, u414, u415, u416, u417, u418, u419, u420, u421, u422, u423, u424, u425, u426, u427, u428, u429, u430, u431, u432], defers := [] } V) (hR : ∀ (V : World), false = SB → Below w.heap.size w V → ∀ (v12 v254 v255 v256 v257 v258 v259 v260 v261 v262 v263 v264 v265 v266 v267 v268 v269 v270 v271 v272 v273 v274 v275 v276 v277 v278 v279 v280 v281 v282 v283 v284 v285 v286 v287 v288 v289 v290 v291 v292 v293 v294 v295 v296 v297 v298 v299 v300 v301 v302 v303 v304 v305 v306 v307 v308 v309 v310 v311 v312 v313 v314 v315 v316 v317 v318 v319 v320 v321 v322 v323 v324 v325 v326 v327 v328 v329 v330 v331 v332 v333 v334 v335 v336 v337 v338 v339 v340 v341 v342 v343 v344 v345 : Value), Q .ret { tmps := #[.agg #[.int .i64 n, .slice a1 c.instrs.length c1, .slice a2 c.ins.length c2, .int .i64 kc, .slice a4 c.inits.length c4, .slice a5 c.inits.length c5, .slice a6 c.inits.length c6, .slice a7 c.outs.length c7, .slice a8 c.checks.length c8], .pointer (some ⟨w.heap.size, 0, none⟩), .bool false, u3, u4, .slice (some ⟨wb, 0, none⟩) n n, u6, .pointer (some ⟨wr3.heap.size, 0, none⟩), u8, u9, .pointer (some ⟨(wr3.heap.size + 1 + 1), 0, none⟩), u11, v12, u13, u14, u15, u16, u17, u18, u19, u20, u21, u22, u23, u24, u25, u26, u27, u28, u29, u30, u31, u32, u33, u34, u35, u36, u37, u38, u39, u40, u41, u42, u43, u44, u45, u46, u47, u48, u49, u50, u51, u52, u53, u54, u55, u56, u57, u58, u59, u60, u61, u62, u63, u64, u65, u66, u67, u68, u69, u70, u71, u72, u73, u74, u75, u76, u77, u78, u79, u80, u81, u82, u83, u84, u85, u86, u87, u88, u89, u90, u91, u92, u93, u94, u95, u96, u97, u98, u99, u100, u101, u102, u103, u104, u105, u106, u107, u108, u109, u110, u111, u112, u113, u114, u115, u116, u117, u118, u119, u120, u121, u122, u123, u124, u125, u126, u127, u128, u129, u130, u131, u132, u133, u134, u135, u136, u137, u138, u139, u140, u141, u142, u143, u144, u145, u146, u147, u148, u149, u150, u151, u152, u153, u154, u155, u156, u157, u158, u159, u160, u161, u162, u163, u164, u165, u166, u167, u168, u169, u170, u171, u172, u173, u174, u175, u176, u177, u178, u179, u180, u181, u182, u183, u184, u185, u186, u187, u188, u189, u190, u191, u192, u193, u194, u195, u196, u197, u198, u199, u200, u201, u202, u203, u204, u205, u206, u207, u208, u209, u210, u211, u212, u213, u214, u215, u216, u217, u218, u219, u220, u221, u222, u223, u224, u225, u226, u227, u228, u229, u230, u231, u232, u233, u234, u235, u236, u237, u238, u239, u240, u241, u242, u243, u244, u245, u246, u247, u248, u249, u250, u251, u252, u253, v254, v255, v256, v257, v258, v259, v260, v261, v262, v263, v264, v265, v266, v267, v268, v269, v270, v271, v272, v273, v274, v275, v276, v277, v278, v279, v280, v281, v282, v283, v284, v285, v286, v287, v288, v289, v290, v291, v292, v293, v294, v295, v296, v297, v298, v299, v300, v301, v302, v303, v304, v305, v306, v307, v308, v309, v310, v311, v312, v313, v314, v315, v316, v317, v318, v319, v320, v321, v322, v323, v324, v325, v326, v327, v328, v329, v330, v331, v332, v333, v334, v335, v336, v337, v338, v339, v340, v341, v342, v343, v344, v345, u346, u347, u348, u349, u350, u351, u352, u353, u354, u355, u356, u357, u358, u359, u360, u361, u362, u363, u364, u365, u366, u367, u368, u369, u370, u371, u372, u373, u374, u375, u376, u377, u378, u379, u380, u381, u382, u383, u384, u385, u386, u387, u388, u389, u390, u391, u392, u393, u394, u395, u396, u397, u398, u399, u400, u401, u402, u403, u404, u405, u406, u407, u408, u409, u410, u411, u412, u413, u414, u415, u416, u417, u418, u419, u420, u421, u422, u423, u424, u425, u426, u427, u428, u429, u430, u431, u432], defers := [] } V) :
    Go.Code.wp Try.prog (tl 6 (roundOf (bodyOf Try.f5))) Q { tmps := #[.agg #[.int .i64 n, .slice a1 c.instrs.length c1, .slice a2 c.ins.length c2, .int .i64 kc, .slice a4 c.inits.length c4, .slice a5 c.inits.length c5, .slice a6 c.inits.length c6, .slice a7 c.outs.length c7, .slice a8 c.checks.length c8], .pointer (some ⟨w.heap.size, 0, none⟩), u2, u3, u4, .slice (some ⟨wb, 0, none⟩) n n, u6, .pointer (some ⟨wr3.heap.size, 0, none⟩), u8, u9, .pointer (some ⟨(wr3.heap.size + 1 + 1), 0, none⟩), u11, u12, u13, u14, u15, u16, u17, u18, u19, u20, u21, u22, u23, u24, u25, u26, u27, u28, u29, u30, u31, u32, u33, u34, u35, u36, u37, u38, u39, u40, u41, u42, u43, u44, u45, u46, u47, u48, u49, u50, u51, u52, u53, u54, u55, u56, u57, u58, u59, u60, u61, u62, u63, u64, u65, u66, u67, u68, u69, u70, u71, u72, u73, u74, u75, u76, u77, u78, u79, u80, u81, u82, u83, u84, u85, u86, u87, u88, u89, u90, u91, u92, u93, u94, u95, u96, u97, u98, u99, u100, u101, u102, u103, u104, u105, u106, u107, u108, u109, u110, u111, u112, u113, u114, u115, u116, u117, u118, u119, u120, u121, u122, u123, u124, u125, u126, u127, u128, u129, u130, u131, u132, u133, u134, u135, u136, u137, u138, u139, u140, u141, u142, u143, u144, u145, u146, u147, u148, u149, u150, u151, u152, u153, u154, u155, u156, u157, u158, u159, u160, u161, u162, u163, u164, u165, u166, u167, u168, u169, u170, u171, u172, u173, u174, u175, u176, u177, u178, u179, u180, u181, u182, u183, u184, u185, u186, u187, u188, u189, u190, u191, u192, u193, u194, u195, u196, u197, u198, u199, u200, u201, u202, u203, u204, u205, u206, u207, u208, u209, u210, u211, u212, u213, u214, u215, u216, u217, u218, u219, u220, u221, u222, u223, u224, u225, u226, u227, u228, u229, u230, u231, u232, u233, u234, u235, u236, u237, u238, u239, u240, u241, u242, u243, u244, u245, u246, u247, u248, u249, u250, u251, u252, u253, u254, u255, u256, u257, u258, u259, u260, u261, u262, u263, u264, u265, u266, u267, u268, u269, u270, u271, u272, u273, u274, u275, u276, u277, u278, u279, u280, u281, u282, u283, u284, u285, u286, u287, u288, u289, u290, u291, u292, u293, u294, u295, u296, u297, u298, u299, u300, u301, u302, u303, u304, u305, u306, u307, u308, u309, u310, u311, u312, u313, u314, u315, u316, u317, u318, u319, u320, u321, u322, u323, u324, u325, u326, u327, u328, u329, u330, u331, u332, u333, u334, u335, u336, u337, u338, u339, u340, u341, u342, u343, u344, u345, u346, u347, u348, u349, u350, u351, u352, u353, u354, u355, u356, u357, u358, u359, u360, u361, u362, u363, u364, u365, u366, u367, u368, u369, u370, u371, u372, u373, u374, u375, u376, u377, u378, u379, u380, u381, u382, u383, u384, u385, u386, u387, u388, u389, u390, u391, u392, u393, u394, u395, u396, u397, u398, u399, u400, u401, u402, u403, u404, u405, u406, u407, u408, u409, u410, u411, u412, u413, u414, u415, u416, u417, u418, u419, u420, u421, u422, u423, u424, u425, u426, u427, u428, u429, u430, u431, u432], defers := [] } wr4 := by
  have HLW := hide (unhide HSW).len
  have HSW2 := hide (fun V (hb : Below wr3.heap.size wr3 V) => (unhide HSW).later hb)
  have hb := (unhide HSW).box.below
  have hb34 : Below wr3.heap.size wr3 wr4 := btr (bal (bal (brf wr3) _) _) (by rw [two_size']; exact hz.below)
  have hsw4 := unhide HSW2 wr4 hb34
  obtain ⟨q0, q1, q2, q3, q4, q5, q6, q7, q8⟩ := hsw4.box.get9
  have hbw4 := hsw4.box.below
  have X := fun (j : Nat) (y : Value) (hj : (#[.int .i64 34, .int .i64 i, .int .i64 za, .int .i64 zb, .int .i64 zc, .int .i64 zn, .int .i64 zw, .bool zs, .string zt] : Array Value)[j]? = some y) => (show wr4.cell? ⟨wr3.heap.size, j, none⟩ = some y from (hz.below.cell (p := ⟨wr3.heap.size, j, none⟩) (by show wr3.heap.size < wr3.heap.size + 1 + 1; omega)).trans (cell_later (bal (brf _) _) (by rw [World.cell?_alloc_new]; exact hj)))
  have hlt3 : wr3.heap.size < wr4.heap.size := by have := hz.size; omega
  have HNO := hide hNO
  have HYES := hide hY
  have HHN := hide hN
  have HHR := hide hR
  have x0 := X 0 _ rfl
  have x1 := X 1 _ rfl
  have x5 := X 5 _ rfl
  have x6 := X 6 _ rfl
  have x7 := X 7 _ rfl
  have x8 := X 8 _ rfl
  clear X hNO hY hN hR
  have HIS := hide hIS
  clear hIS
  have HRG := hide hrg
  clear hrg hz
  conv => arg 2; whnf
  obtain ⟨bS, cS, hvs⟩ : ∃ bS cS, (Value.slice a4 c.inits.length c4) = .slice bS c.inits.length cS := ⟨_, _, rfl⟩
  clear hvs
  by_cases hn0 : 0 ≤ zn
  · by_cases hn1 : zn < (c.inits.length : Int)
    · obtain ⟨p, rfl⟩ : ∃ p : Nat, zn = (p : Int) := ⟨zn.toNat, by omega⟩
      have hil : p < c.inits.length := by omega
      have hxp : c.inits[p]? = some c.inits[p] := List.getElem?_eq_getElem hil
      generalize c.inits[p] = t at hxp
      rw [if_pos hn0, Int.toNat_natCast, hxp] at HIS
      have hIS2 : (decide (zw = (t.size : Int)) && !zs && zt.toList.isEmpty) = IS := unhide HIS
      obtain ⟨bb, oo, cc, ee, hcell, ht64⟩ := unhide HRG p t hxp
      obtain ⟨rfl, rfl⟩ : a4 = some ⟨bb, oo, none⟩ ∧ c4 = cc := by
        injection ee with e1 e2 e3
        exact ⟨e1, e3⟩
      have mp := cell_later hbw4 hcell
      have hbb : bb < w.heap.size := World.block_lt_of_cell? w _ hcell
      have g1 : decide ((p : Int) < 0) = false := decide_eq_false (by omega)
      have g2 : decide ((c.inits.length : Int) ≤ (p : Int)) = false := decide_eq_false (by omega)
      have g3 : (p : Int) < (c.inits.length : Int) := by omega
      have g4 : (0 : Int) ≤ (p : Int) := by omega
      have g5 : decide (c.inits.length ≤ p) = false := decide_eq_false (by omega)
      clear HIS ee hxp hcell HRG hn0 hn1
      cases w1 : (zw == (t.size : Int))
      · have HE := hide (show false = SB from unhide HNO (by rw [← hIS2, show decide (zw = (t.size : Int)) = false from w1]; rfl))
        have w2 : (zw != (t.size : Int)) = true := by rw [bne, w1]; rfl
        clear hIS2 HNO HYES hsw4 hb34 w1
        go_wp2
        go_quiet (fail)
        go_wp2
        exact unhide HHR _ (unhide HE) (bdn hbw4) _ _ _ _ _ _ _ _ _ _ _ _ _ _ _ _ _ _ _ _ _ _ _ _ _ _ _ _ _ _ _ _ _ _ _ _ _ _ _ _ _ _ _ _ _ _ _ _ _ _ _ _ _ _ _ _ _ _ _ _ _ _ _ _ _ _ _ _ _ _ _ _ _ _ _ _ _ _ _ _ _ _ _ _ _ _ _ _ _ _ _ _ _
      · have w2 : (zw != (t.size : Int)) = false := by rw [bne, w1]; rfl
        rw [show decide (zw = (t.size : Int)) = true from w1] at hIS2
        clear w1
        cases zs
        · cases he : zt.toList.isEmpty
          · have HE := hide (show false = SB from unhide HNO (by rw [← hIS2, he]; rfl))
            clear hIS2 HNO HYES hsw4 hb34
            go_wp2
            go_quiet (fail)
            go_wp2
            exact unhide HHR _ (unhide HE) (bdn hbw4) _ _ _ _ _ _ _ _ _ _ _ _ _ _ _ _ _ _ _ _ _ _ _ _ _ _ _ _ _ _ _ _ _ _ _ _ _ _ _ _ _ _ _ _ _ _ _ _ _ _ _ _ _ _ _ _ _ _ _ _ _ _ _ _ _ _ _ _ _ _ _ _ _ _ _ _ _ _ _ _ _ _ _ _ _ _ _ _ _ _ _ _ _
          · have HIT := hide (show IS = true from (by rw [← hIS2, he]; rfl))
            obtain ⟨w1, w64⟩ := unhide HYES (unhide HIT)
            have HSV := hide (fun q => unhide HSW2 (wr4.drewN q) (bdn hb34))
            clear hIS2 HNO HYES hsw4 hb34 HSW2 HSW
            go_wp2
            go_quiet (fail)
            have x1d := cell_later (bdn (n := nq) (brf wr4)) x1
            have x6d := cell_later (bdn (n := nq) (brf wr4)) x6
            have HS5 := hide (unhide HSV nq)
            have s5 := (unhide HS5).at_ i _ (List.getElem?_eq_getElem (by have := unhide HLW; omega))
            have s6 := (unhide HS5).free i hi
            clear q0 q1 q2 q3 q4 q5 q6 q7 q8 x0 x1 x5 x6 x7 x8 mp HSV
            generalize wr4.drewN nq = V5 at *
            go_wp2
            exact unhide HHN _ (unhide HIT) ((unhide HS5).set i hi zw ⟨by omega, by omega⟩) _ _ _ _ _ _ _ _ _ _ _ _ _ _ _ _ _ _ _ _ _ _ _ _ _ _ _ _ _ _ _ _ _ _ _ _ _ _ _ _ _ _ _ _ _ _ _ _ _ _ _ _ _ _ _ _ _ _ _ _ _ _ _ _ _ _ _ _ _ _ _ _ _ _ _ _ _ _ _ _ _ _ _ _ _ _ _ _ _ _ _ _ _
        · have HE := hide (show false = SB from unhide HNO (by rw [← hIS2]; rfl))
          clear hIS2 HNO HYES hsw4 hb34
          go_wp2
          go_quiet (fail)
          go_wp2
          exact unhide HHR _ (unhide HE) (bdn hbw4) _ _ _ _ _ _ _ _ _ _ _ _ _ _ _ _ _ _ _ _ _ _ _ _ _ _ _ _ _ _ _ _ _ _ _ _ _ _ _ _ _ _ _ _ _ _ _ _ _ _ _ _ _ _ _ _ _ _ _ _ _ _ _ _ _ _ _ _ _ _ _ _ _ _ _ _ _ _ _ _ _ _ _ _ _ _ _ _ _ _ _ _ _
    · have HE := hide (show false = SB from unhide HNO (by rw [← unhide HIS, if_pos hn0, List.getElem?_eq_none (by omega)]))
      have g1 : decide (zn < 0) = false := decide_eq_false (by omega)
      have g2 : decide ((c.inits.length : Int) ≤ zn) = true := decide_eq_true (by omega)
      clear HIS HNO HYES hsw4 hb34 hn0 hn1 HRG
      go_wp2
      go_quiet (fail)
      go_wp2
      exact unhide HHR _ (unhide HE) (bdn hbw4) _ _ _ _ _ _ _ _ _ _ _ _ _ _ _ _ _ _ _ _ _ _ _ _ _ _ _ _ _ _ _ _ _ _ _ _ _ _ _ _ _ _ _ _ _ _ _ _ _ _ _ _ _ _ _ _ _ _ _ _ _ _ _ _ _ _ _ _ _ _ _ _ _ _ _ _ _ _ _ _ _ _ _ _ _ _ _ _ _ _ _ _ _
  · have HE := hide (show false = SB from unhide HNO (by rw [← unhide HIS, if_neg hn0]))
    have g1 : decide (zn < 0) = true := decide_eq_true (by omega)
    clear HIS HNO HYES hsw4 hb34 hn0 HRG
    go_wp2
    go_quiet (fail)
    go_wp2
    exact unhide HHR _ (unhide HE) (bdn hbw4) _ _ _ _ _ _ _ _ _ _ _ _ _ _ _ _ _ _ _ _ _ _ _ _ _ _ _ _ _ _ _ _ _ _ _ _ _ _ _ _ _ _ _ _ _ _ _ _ _ _ _ _ _ _ _ _ _ _ _ _ _ _ _ _ _ _ _ _ _ _ _ _ _ _ _ _ _ _ _ _ _ _ _ _ _ _ _ _ _ _ _ _ _
end Go.Proofs.Ytbpcomnneemolaa
