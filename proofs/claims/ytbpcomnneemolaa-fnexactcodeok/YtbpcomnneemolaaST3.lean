/- The specification's loop over Inits, and what follows it. -/
import Derived.Test.YtbpcomnneemolaaST4
import Derived.BigQuiet
namespace Go.Proofs.Ytbpcomnneemolaa
open Go.RowKit Gs
set_option linter.unusedVariables false
set_option linter.unusedSimpArgs false
set_option maxRecDepth 100000
set_option maxHeartbeats 64000000 in
theorem sT3 (c : Code) (n : Nat) (hn2 : n ≤ 16384) (a1 a2 a4 a5 a6 a7 a8 : Option Addr) (c1 c2 c4 c5 c6 c7 c8 : Nat) (kc : Int) (hkc : c.clocks = kc) (w W : World) (SB : Bool) (l1 : c.instrs.length ≤ 16384) (l2 : c.ins.length ≤ 256) (l4 : c.inits.length ≤ 256) (l7 : c.outs.length ≤ 256) (l8 : c.checks.length ≤ 256) (hbx0 : Bt 31 w #[.int .i64 n, .slice a1 c.instrs.length c1, .slice a2 c.ins.length c2, .int .i64 kc, .slice a4 c.inits.length c4, .slice a5 c.inits.length c5, .slice a6 c.inits.length c6, .slice a7 c.outs.length c7, .slice a8 c.checks.length c8] W) (P0h : c.ins.all wOK = true) (e5 : c.ticks.length = c.inits.length) (e6 : c.nexts.length = c.inits.length) (h1 : RS 9 RInstr w 0 c.instrs (.slice a1 c.instrs.length c1)) (h2 : RS 1 RInt w 0 c.ins (.slice a2 c.ins.length c2)) (h4 : RS 1 RStr w 0 c.inits (.slice a4 c.inits.length c4)) (h5 : RS 1 RInt w 0 c.ticks (.slice a5 c.inits.length c5)) (h6 : RS 1 RInt w 0 c.nexts (.slice a6 c.inits.length c6)) (h7 : RS 1 RInt w 0 c.outs (.slice a7 c.outs.length c7)) (h8 : RS 1 RInt w 0 c.checks (.slice a8 c.checks.length c8)) (hSB : (initsS c && (match runS c c.instrs (List.replicate n 0) with | some ws => endsC c ws | none => false)) = SB) (u2 u3 u4 u5 u6 u7 u8 u9 u10 u11 u12 u13 u14 u15 u16 u17 u18 u19 u20 u21 u22 u23 u24 u25 u26 u27 u28 u29 u30 u31 u32 u33 u34 u35 u36 u37 u38 u39 u40 u41 u42 u43 u44 u45 u46 u47 u48 u49 u50 u51 u52 u53 u54 u55 u56 u57 u58 u59 u60 u61 u62 u63 u64 u65 u66 u67 u68 u69 u70 u71 u72 u73 u74 u75 u76 u77 u78 u79 u80 u81 u82 u83 u84 u85 u86 u87 u88 u89 u90 u91 u92 u93 u94 u95 u96 u97 u98 u99 u100 u101 u102 u103 u104 u105 u106 u107 u108 u109 u110 u111 u112 u113 u114 u115 u116 u117 u118 u119 u120 u121 u122 u123 u124 u125 u126 u127 u128 u129 u130 u131 u132 u133 u134 u135 u136 u137 u138 u139 u140 u141 u142 u143 u144 u145 u146 u147 u148 u149 u150 u151 u152 u153 u154 u155 u156 u157 u158 u159 u160 u161 u162 u163 u164 u165 u166 u167 u168 u169 u170 u171 u172 u173 u174 u175 u176 u177 u178 u179 u180 u181 u182 u183 u184 u185 u186 u187 u188 u189 u190 u191 u192 u193 u194 u195 u196 u197 u198 u199 u200 u201 u202 u203 u204 u205 u206 u207 u208 u209 u210 u211 u212 u213 u214 u215 u216 u217 u218 u219 u220 u221 u222 u223 u224 u225 u226 u227 u228 u229 u230 u231 u232 u233 u234 u235 u236 u237 u238 u239 u240 u241 u242 u243 u244 u245 u246 u247 u248 u249 u250 u251 u252 u253 u254 u255 u256 u257 u258 u259 u260 u261 u262 u263 u264 u265 u266 u267 u268 u269 u270 u271 u272 u273 u274 u275 u276 u277 u278 u279 u280 u281 u282 u283 u284 u285 u286 u287 u288 u289 u290 u291 u292 u293 u294 u295 u296 u297 u298 u299 u300 u301 u302 u303 u304 u305 u306 u307 u308 u309 u310 u311 u312 u313 u314 u315 u316 u317 u318 u319 u320 u321 u322 u323 u324 u325 u326 u327 u328 u329 u330 u331 u332 u333 u334 u335 u336 u337 u338 u339 u340 u341 u342 u343 u344 u345 u346 u347 u348 u349 u350 u351 u352 u353 u354 u355 u356 u357 u358 u359 u360 u361 u362 u363 u364 u365 u366 u367 u368 u369 u370 u371 u372 u373 u374 u375 u376 u377 u378 u379 u380 u381 u382 u383 u384 u385 u386 u387 u388 u389 u390 u391 u392 u393 u394 u395 u396 u397 u398 u399 u400 u401 u402 u403 u404 u405 u406 u407 u408 u409 u410 u411 u412 u413 u414 u415 u416 u417 u418 u419 u420 u421 u422 u423 u424 u425 u426 u427 u428 u429 u430 u431 u432 : Value) :
    Go.Code.wp Try.prog (tl 3 (bodyOf Try.f5)) (bodyPost Try.prog Try.f5 fun e w' => e = .returned (.bool SB) ∧ Below w.heap.size w w') { tmps := #[.agg #[.int .i64 n, .slice a1 c.instrs.length c1, .slice a2 c.ins.length c2, .int .i64 kc, .slice a4 c.inits.length c4, .slice a5 c.inits.length c5, .slice a6 c.inits.length c6, .slice a7 c.outs.length c7, .slice a8 c.checks.length c8], .pointer (some ⟨w.heap.size, 0, none⟩), u2, u3, u4, u5, u6, u7, u8, u9, u10, u11, u12, u13, u14, u15, u16, u17, u18, u19, u20, u21, u22, u23, u24, u25, u26, u27, u28, u29, u30, u31, u32, u33, u34, u35, u36, u37, u38, u39, u40, u41, u42, u43, u44, u45, u46, u47, u48, u49, u50, u51, u52, u53, u54, u55, u56, u57, u58, u59, u60, u61, u62, u63, u64, u65, u66, u67, u68, u69, u70, u71, u72, u73, u74, u75, u76, u77, u78, u79, u80, u81, u82, u83, u84, u85, u86, u87, u88, u89, u90, u91, u92, u93, u94, u95, u96, u97, u98, u99, u100, u101, u102, u103, u104, u105, u106, u107, u108, u109, u110, u111, u112, u113, u114, u115, u116, u117, u118, u119, u120, u121, u122, u123, u124, u125, u126, u127, u128, u129, u130, u131, u132, u133, u134, u135, u136, u137, u138, u139, u140, u141, u142, u143, u144, u145, u146, u147, u148, u149, u150, u151, u152, u153, u154, u155, u156, u157, u158, u159, u160, u161, u162, u163, u164, u165, u166, u167, u168, u169, u170, u171, u172, u173, u174, u175, u176, u177, u178, u179, u180, u181, u182, u183, u184, u185, u186, u187, u188, u189, u190, u191, u192, u193, u194, u195, u196, u197, u198, u199, u200, u201, u202, u203, u204, u205, u206, u207, u208, u209, u210, u211, u212, u213, u214, u215, u216, u217, u218, u219, u220, u221, u222, u223, u224, u225, u226, u227, u228, u229, u230, u231, u232, u233, u234, u235, u236, u237, u238, u239, u240, u241, u242, u243, u244, u245, u246, u247, u248, u249, u250, u251, u252, u253, u254, u255, u256, u257, u258, u259, u260, u261, u262, u263, u264, u265, u266, u267, u268, u269, u270, u271, u272, u273, u274, u275, u276, u277, u278, u279, u280, u281, u282, u283, u284, u285, u286, u287, u288, u289, u290, u291, u292, u293, u294, u295, u296, u297, u298, u299, u300, u301, u302, u303, u304, u305, u306, u307, u308, u309, u310, u311, u312, u313, u314, u315, u316, u317, u318, u319, u320, u321, u322, u323, u324, u325, u326, u327, u328, u329, u330, u331, u332, u333, u334, u335, u336, u337, u338, u339, u340, u341, u342, u343, u344, u345, u346, u347, u348, u349, u350, u351, u352, u353, u354, u355, u356, u357, u358, u359, u360, u361, u362, u363, u364, u365, u366, u367, u368, u369, u370, u371, u372, u373, u374, u375, u376, u377, u378, u379, u380, u381, u382, u383, u384, u385, u386, u387, u388, u389, u390, u391, u392, u393, u394, u395, u396, u397, u398, u399, u400, u401, u402, u403, u404, u405, u406, u407, u408, u409, u410, u411, u412, u413, u414, u415, u416, u417, u418, u419, u420, u421, u422, u423, u424, u425, u426, u427, u428, u429, u430, u431, u432], defers := [] } W := by
  have HH := hide (show ∀ (V : World), Bt 31 w #[.int .i64 n, .slice a1 c.instrs.length c1, .slice a2 c.ins.length c2, .int .i64 kc, .slice a4 c.inits.length c4, .slice a5 c.inits.length c5, .slice a6 c.inits.length c6, .slice a7 c.outs.length c7, .slice a8 c.checks.length c8] V → initsS c = true → ∀ (u2 u3 u4 u5 u6 u7 u8 u9 u10 u11 u12 u13 u14 u15 u16 u17 u18 u19 u20 u21 u22 u23 u24 u25 u26 u27 u28 u29 u30 u31 u32 u33 u34 u35 u36 u37 u38 u39 u40 u41 u42 u43 u44 u45 u46 u47 u48 u49 u50 u51 u52 u53 u54 u55 u56 u57 u58 u59 u60 u61 u62 u63 u64 u65 u66 u67 u68 u69 u70 u71 u72 u73 u74 u75 u76 u77 u78 u79 u80 u81 u82 u83 u84 u85 u86 u87 u88 u89 u90 u91 u92 u93 u94 u95 u96 u97 u98 u99 u100 u101 u102 u103 u104 u105 u106 u107 u108 u109 u110 u111 u112 u113 u114 u115 u116 u117 u118 u119 u120 u121 u122 u123 u124 u125 u126 u127 u128 u129 u130 u131 u132 u133 u134 u135 u136 u137 u138 u139 u140 u141 u142 u143 u144 u145 u146 u147 u148 u149 u150 u151 u152 u153 u154 u155 u156 u157 u158 u159 u160 u161 u162 u163 u164 u165 u166 u167 u168 u169 u170 u171 u172 u173 u174 u175 u176 u177 u178 u179 u180 u181 u182 u183 u184 u185 u186 u187 u188 u189 u190 u191 u192 u193 u194 u195 u196 u197 u198 u199 u200 u201 u202 u203 u204 u205 u206 u207 u208 u209 u210 u211 u212 u213 u214 u215 u216 u217 u218 u219 u220 u221 u222 u223 u224 u225 u226 u227 u228 u229 u230 u231 u232 u233 u234 u235 u236 u237 u238 u239 u240 u241 u242 u243 u244 u245 u246 u247 u248 u249 u250 u251 u252 u253 u254 u255 u256 u257 u258 u259 u260 u261 u262 u263 u264 u265 u266 u267 u268 u269 u270 u271 u272 u273 u274 u275 u276 u277 u278 u279 u280 u281 u282 u283 u284 u285 u286 u287 u288 u289 u290 u291 u292 u293 u294 u295 u296 u297 u298 u299 u300 u301 u302 u303 u304 u305 u306 u307 u308 u309 u310 u311 u312 u313 u314 u315 u316 u317 u318 u319 u320 u321 u322 u323 u324 u325 u326 u327 u328 u329 u330 u331 u332 u333 u334 u335 u336 u337 u338 u339 u340 u341 u342 u343 u344 u345 u346 u347 u348 u349 u350 u351 u352 u353 u354 u355 u356 u357 u358 u359 u360 u361 u362 u363 u364 u365 u366 u367 u368 u369 u370 u371 u372 u373 u374 u375 u376 u377 u378 u379 u380 u381 u382 u383 u384 u385 u386 u387 u388 u389 u390 u391 u392 u393 u394 u395 u396 u397 u398 u399 u400 u401 u402 u403 u404 u405 u406 u407 u408 u409 u410 u411 u412 u413 u414 u415 u416 u417 u418 u419 u420 u421 u422 u423 u424 u425 u426 u427 u428 u429 u430 u431 u432 : Value), Go.Code.wp Try.prog (tl 4 (bodyOf Try.f5)) (bodyPost Try.prog Try.f5 fun e w' => e = .returned (.bool SB) ∧ Below w.heap.size w w') { tmps := #[.agg #[.int .i64 n, .slice a1 c.instrs.length c1, .slice a2 c.ins.length c2, .int .i64 kc, .slice a4 c.inits.length c4, .slice a5 c.inits.length c5, .slice a6 c.inits.length c6, .slice a7 c.outs.length c7, .slice a8 c.checks.length c8], .pointer (some ⟨w.heap.size, 0, none⟩), u2, u3, u4, u5, u6, u7, u8, u9, u10, u11, u12, u13, u14, u15, u16, u17, u18, u19, u20, u21, u22, u23, u24, u25, u26, u27, u28, u29, u30, u31, u32, u33, u34, u35, u36, u37, u38, u39, u40, u41, u42, u43, u44, u45, u46, u47, u48, u49, u50, u51, u52, u53, u54, u55, u56, u57, u58, u59, u60, u61, u62, u63, u64, u65, u66, u67, u68, u69, u70, u71, u72, u73, u74, u75, u76, u77, u78, u79, u80, u81, u82, u83, u84, u85, u86, u87, u88, u89, u90, u91, u92, u93, u94, u95, u96, u97, u98, u99, u100, u101, u102, u103, u104, u105, u106, u107, u108, u109, u110, u111, u112, u113, u114, u115, u116, u117, u118, u119, u120, u121, u122, u123, u124, u125, u126, u127, u128, u129, u130, u131, u132, u133, u134, u135, u136, u137, u138, u139, u140, u141, u142, u143, u144, u145, u146, u147, u148, u149, u150, u151, u152, u153, u154, u155, u156, u157, u158, u159, u160, u161, u162, u163, u164, u165, u166, u167, u168, u169, u170, u171, u172, u173, u174, u175, u176, u177, u178, u179, u180, u181, u182, u183, u184, u185, u186, u187, u188, u189, u190, u191, u192, u193, u194, u195, u196, u197, u198, u199, u200, u201, u202, u203, u204, u205, u206, u207, u208, u209, u210, u211, u212, u213, u214, u215, u216, u217, u218, u219, u220, u221, u222, u223, u224, u225, u226, u227, u228, u229, u230, u231, u232, u233, u234, u235, u236, u237, u238, u239, u240, u241, u242, u243, u244, u245, u246, u247, u248, u249, u250, u251, u252, u253, u254, u255, u256, u257, u258, u259, u260, u261, u262, u263, u264, u265, u266, u267, u268, u269, u270, u271, u272, u273, u274, u275, u276, u277, u278, u279, u280, u281, u282, u283, u284, u285, u286, u287, u288, u289, u290, u291, u292, u293, u294, u295, u296, u297, u298, u299, u300, u301, u302, u303, u304, u305, u306, u307, u308, u309, u310, u311, u312, u313, u314, u315, u316, u317, u318, u319, u320, u321, u322, u323, u324, u325, u326, u327, u328, u329, u330, u331, u332, u333, u334, u335, u336, u337, u338, u339, u340, u341, u342, u343, u344, u345, u346, u347, u348, u349, u350, u351, u352, u353, u354, u355, u356, u357, u358, u359, u360, u361, u362, u363, u364, u365, u366, u367, u368, u369, u370, u371, u372, u373, u374, u375, u376, u377, u378, u379, u380, u381, u382, u383, u384, u385, u386, u387, u388, u389, u390, u391, u392, u393, u394, u395, u396, u397, u398, u399, u400, u401, u402, u403, u404, u405, u406, u407, u408, u409, u410, u411, u412, u413, u414, u415, u416, u417, u418, u419, u420, u421, u422, u423, u424, u425, u426, u427, u428, u429, u430, u431, u432], defers := [] } V from fun V hb hP1 u2 u3 u4 u5 u6 u7 u8 u9 u10 u11 u12 u13 u14 u15 u16 u17 u18 u19 u20 u21 u22 u23 u24 u25 u26 u27 u28 u29 u30 u31 u32 u33 u34 u35 u36 u37 u38 u39 u40 u41 u42 u43 u44 u45 u46 u47 u48 u49 u50 u51 u52 u53 u54 u55 u56 u57 u58 u59 u60 u61 u62 u63 u64 u65 u66 u67 u68 u69 u70 u71 u72 u73 u74 u75 u76 u77 u78 u79 u80 u81 u82 u83 u84 u85 u86 u87 u88 u89 u90 u91 u92 u93 u94 u95 u96 u97 u98 u99 u100 u101 u102 u103 u104 u105 u106 u107 u108 u109 u110 u111 u112 u113 u114 u115 u116 u117 u118 u119 u120 u121 u122 u123 u124 u125 u126 u127 u128 u129 u130 u131 u132 u133 u134 u135 u136 u137 u138 u139 u140 u141 u142 u143 u144 u145 u146 u147 u148 u149 u150 u151 u152 u153 u154 u155 u156 u157 u158 u159 u160 u161 u162 u163 u164 u165 u166 u167 u168 u169 u170 u171 u172 u173 u174 u175 u176 u177 u178 u179 u180 u181 u182 u183 u184 u185 u186 u187 u188 u189 u190 u191 u192 u193 u194 u195 u196 u197 u198 u199 u200 u201 u202 u203 u204 u205 u206 u207 u208 u209 u210 u211 u212 u213 u214 u215 u216 u217 u218 u219 u220 u221 u222 u223 u224 u225 u226 u227 u228 u229 u230 u231 u232 u233 u234 u235 u236 u237 u238 u239 u240 u241 u242 u243 u244 u245 u246 u247 u248 u249 u250 u251 u252 u253 u254 u255 u256 u257 u258 u259 u260 u261 u262 u263 u264 u265 u266 u267 u268 u269 u270 u271 u272 u273 u274 u275 u276 u277 u278 u279 u280 u281 u282 u283 u284 u285 u286 u287 u288 u289 u290 u291 u292 u293 u294 u295 u296 u297 u298 u299 u300 u301 u302 u303 u304 u305 u306 u307 u308 u309 u310 u311 u312 u313 u314 u315 u316 u317 u318 u319 u320 u321 u322 u323 u324 u325 u326 u327 u328 u329 u330 u331 u332 u333 u334 u335 u336 u337 u338 u339 u340 u341 u342 u343 u344 u345 u346 u347 u348 u349 u350 u351 u352 u353 u354 u355 u356 u357 u358 u359 u360 u361 u362 u363 u364 u365 u366 u367 u368 u369 u370 u371 u372 u373 u374 u375 u376 u377 u378 u379 u380 u381 u382 u383 u384 u385 u386 u387 u388 u389 u390 u391 u392 u393 u394 u395 u396 u397 u398 u399 u400 u401 u402 u403 u404 u405 u406 u407 u408 u409 u410 u411 u412 u413 u414 u415 u416 u417 u418 u419 u420 u421 u422 u423 u424 u425 u426 u427 u428 u429 u430 u431 u432 => sT4 c n hn2 a1 a2 a4 a5 a6 a7 a8 c1 c2 c4 c5 c6 c7 c8 kc w V SB l1 l2 l4 l7 l8 hb P0h hP1 e6 h1 h2 h4 h5 h6 h7 h8 (by rw [← hSB, hP1]; rfl) u2 u3 u4 u5 u6 u7 u8 u9 u10 u11 u12 u13 u14 u15 u16 u17 u18 u19 u20 u21 u22 u23 u24 u25 u26 u27 u28 u29 u30 u31 u32 u33 u34 u35 u36 u37 u38 u39 u40 u41 u42 u43 u44 u45 u46 u47 u48 u49 u50 u51 u52 u53 u54 u55 u56 u57 u58 u59 u60 u61 u62 u63 u64 u65 u66 u67 u68 u69 u70 u71 u72 u73 u74 u75 u76 u77 u78 u79 u80 u81 u82 u83 u84 u85 u86 u87 u88 u89 u90 u91 u92 u93 u94 u95 u96 u97 u98 u99 u100 u101 u102 u103 u104 u105 u106 u107 u108 u109 u110 u111 u112 u113 u114 u115 u116 u117 u118 u119 u120 u121 u122 u123 u124 u125 u126 u127 u128 u129 u130 u131 u132 u133 u134 u135 u136 u137 u138 u139 u140 u141 u142 u143 u144 u145 u146 u147 u148 u149 u150 u151 u152 u153 u154 u155 u156 u157 u158 u159 u160 u161 u162 u163 u164 u165 u166 u167 u168 u169 u170 u171 u172 u173 u174 u175 u176 u177 u178 u179 u180 u181 u182 u183 u184 u185 u186 u187 u188 u189 u190 u191 u192 u193 u194 u195 u196 u197 u198 u199 u200 u201 u202 u203 u204 u205 u206 u207 u208 u209 u210 u211 u212 u213 u214 u215 u216 u217 u218 u219 u220 u221 u222 u223 u224 u225 u226 u227 u228 u229 u230 u231 u232 u233 u234 u235 u236 u237 u238 u239 u240 u241 u242 u243 u244 u245 u246 u247 u248 u249 u250 u251 u252 u253 u254 u255 u256 u257 u258 u259 u260 u261 u262 u263 u264 u265 u266 u267 u268 u269 u270 u271 u272 u273 u274 u275 u276 u277 u278 u279 u280 u281 u282 u283 u284 u285 u286 u287 u288 u289 u290 u291 u292 u293 u294 u295 u296 u297 u298 u299 u300 u301 u302 u303 u304 u305 u306 u307 u308 u309 u310 u311 u312 u313 u314 u315 u316 u317 u318 u319 u320 u321 u322 u323 u324 u325 u326 u327 u328 u329 u330 u331 u332 u333 u334 u335 u336 u337 u338 u339 u340 u341 u342 u343 u344 u345 u346 u347 u348 u349 u350 u351 u352 u353 u354 u355 u356 u357 u358 u359 u360 u361 u362 u363 u364 u365 u366 u367 u368 u369 u370 u371 u372 u373 u374 u375 u376 u377 u378 u379 u380 u381 u382 u383 u384 u385 u386 u387 u388 u389 u390 u391 u392 u393 u394 u395 u396 u397 u398 u399 u400 u401 u402 u403 u404 u405 u406 u407 u408 u409 u410 u411 u412 u413 u414 u415 u416 u417 u418 u419 u420 u421 u422 u423 u424 u425 u426 u427 u428 u429 u430 u431 u432)
  have HX := hide hbx0
  have H4 := hide h4
  have H5 := hide h5
  have E5 := hide e5
  have HKC := hide hkc
  have F1 := hide (show initsS c = false → false = SB from fun h => by rw [← hSB, h]; rfl)
  obtain ⟨q0, q1, q2, q3, q4, q5, q6, q7, q8⟩ := hbx0.get9
  clear hbx0 P0h e5 e6 h1 h2 h4 h5 h6 h7 h8 hSB hkc
  conv => arg 2; whnf
  refine wp_seq_k ?_
  intro K hK
  have HKK := hide hK
  clear hK
  go_wp2
  go_loopw [4] (fun i wr2 => ∃ k : Nat, k ≤ c.inits.length ∧ i = .int .i64 k ∧ (c.inits.zipIdx.take k).all (initS c) = true ∧ Bt 31 w #[.int .i64 n, .slice a1 c.instrs.length c1, .slice a2 c.ins.length c2, .int .i64 kc, .slice a4 c.inits.length c4, .slice a5 c.inits.length c5, .slice a6 c.inits.length c6, .slice a7 c.outs.length c7, .slice a8 c.checks.length c8] wr2) (fun i _ => c.inits.length - (intOf i).toNat)
  case atStart => exact ⟨0, Nat.zero_le _, rfl, rfl, unhide HX⟩
  case round =>
    clear HX
    clear q0 q1 q2 q3 q4 q5 q6 q7 q8
    obtain ⟨k, hk, rfl, hall, hbx⟩ := hrel
    have HX := hide hbx
    have HA := hide hall
    have hb := hbx.below
    have hsz := hbx.size
    clear hbx hall
    obtain ⟨q0, q1, q2, q3, q4, q5, q6, q7, q8⟩ := (unhide HX).get9
    by_cases hlt : k < c.inits.length
    · have hx : c.inits[k]? = some c.inits[k] := List.getElem?_eq_getElem hlt
      generalize c.inits[k] = x at hx
      rcases (unhide H4).open with ⟨hnil, _⟩ | ⟨b, o, cc, ee, _, _, _, hcs⟩
      · rw [hnil] at hlt; simp at hlt
      obtain ⟨rfl, rfl⟩ : a4 = some ⟨b, o, none⟩ ∧ c4 = cc := by
        injection ee with e1 e2 e3
        exact ⟨e1, e3⟩
      obtain ⟨u, _, hat, hux, hxs⟩ := hcs k x hx
      subst hux
      have k0 := cell_later hb (hat.get (j := 0) rfl)
      simp only [Nat.add_zero, Nat.mul_one] at k0
      have hl5 : k < c.ticks.length := by have := unhide E5; omega
      have hy : c.ticks[k]? = some c.ticks[k] := List.getElem?_eq_getElem hl5
      generalize c.ticks[k] = y at hy
      rcases (unhide H5).open with ⟨hnil, _⟩ | ⟨b', o', cc', ee', _, _, _, hcs'⟩
      · rw [hnil] at hl5; simp at hl5
      obtain ⟨rfl, rfl⟩ : a5 = some ⟨b', o', none⟩ ∧ c5 = cc' := by
        injection ee' with e1 e2 e3
        exact ⟨e1, e3⟩
      obtain ⟨u', _, hat', hux'⟩ := hcs' k y hy
      obtain rfl : u' = [.int .i64 y] := hux'
      have k1 := cell_later hb (hat'.get (j := 0) rfl)
      simp only [Nat.add_zero, Nat.mul_one] at k1
      have HEQ := hide (show initS c (x, k) = (Vb.okV (L x) && (L x).all Vb.knB && plOK kc y) from by unfold initS; simp only; rw [hy, unhide HKC])
      have HST := hide (all_zip' (p := initS c) hx)
      have HNO := hide (show initS c (x, k) = false → false = SB from fun h => unhide F1 (not_zip' hx h))
      have BO := hide (fun V => sBitsOK x V hxs)
      have KO := hide (fun V => sKnown x V hxs)
      have i9 : (k : Int) < (c.inits.length : Int) := by omega
      clear hat hcs hx ee hb hat' hcs' hy ee' H4 H5 F1 E5 HKC HH
      cases hO : Vb.okV (L x)
      · have HE := hide (unhide HNO (by rw [unhide HEQ, hO]; rfl))
        rw [hO] at BO
        clear HNO HEQ HST HA hO KO
        go_wp2
        go_quiet (first | (go_at_call 12; exact Calls.quiet_of_same (unhide BO _)))
        go_wp2
        go_ret
        exact ⟨ret_bool (unhide HE), bdn (unhide HX).below⟩
      · rw [hO] at BO
        cases hK : (L x).all Vb.knB
        · have HE := hide (unhide HNO (by rw [unhide HEQ, hO, hK]; rfl))
          rw [hK] at KO
          clear HNO HEQ HST HA hO hK
          go_wp2
          go_quiet (first | (go_at_call 12; exact Calls.quiet_of_same (unhide BO _)) | (go_at_call 13; exact Calls.quiet_of_same (unhide KO _)))
          go_wp2
          go_ret
          exact ⟨ret_bool (unhide HE), bdn (unhide HX).below⟩
        · rw [hK] at KO
          have hcase : (plOK kc y = false ∧ y < 0) ∨ (plOK kc y = false ∧ 0 ≤ y ∧ kc ≤ y) ∨ (plOK kc y = true ∧ 0 ≤ y ∧ y < kc) := by
            unfold plOK
            by_cases g1 : 0 ≤ y
            · by_cases g2 : y < kc
              · exact .inr (.inr ⟨by rw [decide_eq_true g1, decide_eq_true g2]; rfl, g1, g2⟩)
              · exact .inr (.inl ⟨by rw [decide_eq_false g2, Bool.and_false], g1, by omega⟩)
            · exact .inl ⟨by rw [decide_eq_false g1]; rfl, by omega⟩
          rcases hcase with ⟨hw, g1⟩ | ⟨hw, g1, g2⟩ | ⟨hw, g1, g2⟩
          · have HE := hide (unhide HNO (by rw [unhide HEQ, hO, hK, hw]; rfl))
            clear HNO HEQ HST HA hO hK hw
            have d1 : decide (y < 0) = true := decide_eq_true g1
            go_wp2
            go_quiet (first | (go_at_call 12; exact Calls.quiet_of_same (unhide BO _)) | (go_at_call 13; exact Calls.quiet_of_same (unhide KO _)))
            go_wp2
            go_ret
            exact ⟨ret_bool (unhide HE), bdn (unhide HX).below⟩
          · have HE := hide (unhide HNO (by rw [unhide HEQ, hO, hK, hw]; rfl))
            clear HNO HEQ HST HA hO hK hw
            have d1 : decide (y < 0) = false := decide_eq_false (by omega)
            have d2 : decide (kc ≤ y) = true := decide_eq_true g2
            clear g1 g2
            go_wp2
            go_quiet (first | (go_at_call 12; exact Calls.quiet_of_same (unhide BO _)) | (go_at_call 13; exact Calls.quiet_of_same (unhide KO _)))
            go_wp2
            go_ret
            exact ⟨ret_bool (unhide HE), bdn (unhide HX).below⟩
          · have HS := hide (show (c.inits.zipIdx.take (k + 1)).all (initS c) = true from by rw [unhide HST, unhide HA, unhide HEQ, hO, hK, hw]; rfl)
            clear HNO HEQ HST HA hO hK hw
            have d1 : decide (y < 0) = false := decide_eq_false (by omega)
            have d2 : decide (kc ≤ y) = false := decide_eq_false (by omega)
            clear g1 g2
            go_wp2
            go_quiet (first | (go_at_call 12; exact Calls.quiet_of_same (unhide BO _)) | (go_at_call 13; exact Calls.quiet_of_same (unhide KO _)))
            go_wp2
            exact ⟨⟨k + 1, by omega, by go_num, unhide HS, bdn (unhide HX)⟩, by simp [intOf]; omega⟩
    · have hkl : k = c.inits.length := by omega
      subst hkl
      rw [List.take_of_length_le (by rw [List.length_zipIdx]; exact Nat.le_refl _)] at HA
      have P1 : Hid (initsS c = true) := HA
      clear HA F1 H5 hb hsz
      go_wp2
      refine unhide HKK _ _ ?_
      exact unhide HH _ (unhide HX) (unhide P1) _ _ _ _ _ _ _ _ _ _ _ _ _ _ _ _ _ _ _ _ _ _ _ _ _ _ _ _ _ _ _ _ _ _ _ _ _ _ _ _ _ _ _ _ _ _ _ _ _ _ _ _ _ _ _ _ _ _ _ _ _ _ _ _ _ _ _ _ _ _ _ _ _ _ _ _ _ _ _ _ _ _ _ _ _ _ _ _ _ _ _ _ _ _ _ _ _ _ _ _ _ _ _ _ _ _ _ _ _ _ _ _ _ _ _ _ _ _ _ _ _ _ _ _ _ _ _ _ _ _ _ _ _ _ _ _ _ _ _ _ _ _ _ _ _ _ _ _ _ _ _ _ _ _ _ _ _ _ _ _ _ _ _ _ _ _ _ _ _ _ _ _ _ _ _ _ _ _ _ _ _ _ _ _ _ _ _ _ _ _ _ _ _ _ _ _ _ _ _ _ _ _ _ _ _ _ _ _ _ _ _ _ _ _ _ _ _ _ _ _ _ _ _ _ _ _ _ _ _ _ _ _ _ _ _ _ _ _ _ _ _ _ _ _ _ _ _ _ _ _ _ _ _ _ _ _ _ _ _ _ _ _ _ _ _ _ _ _ _ _ _ _ _ _ _ _ _ _ _ _ _ _ _ _ _ _ _ _ _ _ _ _ _ _ _ _ _ _ _ _ _ _ _ _ _ _ _ _ _ _ _ _ _ _ _ _ _ _ _ _ _ _ _ _ _ _ _ _ _ _ _ _ _ _ _ _ _ _ _ _ _ _ _ _ _ _ _ _ _ _ _ _ _ _ _ _ _ _ _ _ _ _ _ _ _ _ _ _ _ _ _ _ _ _ _ _ _ _ _ _ _ _ _ _ _ _ _ _ _ _ _ _ _ _ _ _ _ _ _ _ _ _ _ _ _ _ _ _ _ _ _ _ _ _ _ _ _ _ _ _ _ _ _ _ _ _ _ _ _ _ _
end Go.Proofs.Ytbpcomnneemolaa
