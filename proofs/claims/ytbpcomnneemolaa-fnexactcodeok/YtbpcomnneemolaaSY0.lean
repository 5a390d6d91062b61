/- The specification's round of one instruction. -/
import Derived.Test.YtbpcomnneemolaaSX5
import Derived.BigQuiet
namespace Go.Proofs.Ytbpcomnneemolaa
open Go.RowKit Gs
set_option linter.unusedVariables false
set_option linter.unusedSimpArgs false
set_option maxRecDepth 100000
set_option maxHeartbeats 64000000 in
theorem sX0 (c : Code) (n wb : Nat) (hn2 : n ≤ 16384) (ws : List Int) (b o k : Nat) (l1 : c.instrs.length ≤ 16384) (hlt : k < c.instrs.length) (a2 a4 a5 a6 a7 a8 : Option Addr) (c1 c2 c4 c5 c6 c7 c8 : Nat) (kc : Int) (w wr3 : World) (SB IS : Bool) (l2 : c.ins.length ≤ 256) (l4 : c.inits.length ≤ 256) (z0 z1 za zb zc zn zw : Int) (zs : Bool) (zt : ByteArray) (HSW : Hid (SW w #[.int .i64 n, .slice (some ⟨b, o, none⟩) c.instrs.length c1, .slice a2 c.ins.length c2, .int .i64 kc, .slice a4 c.inits.length c4, .slice a5 c.inits.length c5, .slice a6 c.inits.length c6, .slice a7 c.outs.length c7, .slice a8 c.checks.length c8] wb n ws wr3)) (hcs : ∀ (j : Nat) (y : Value), (#[.int .i64 z0, .int .i64 z1, .int .i64 za, .int .i64 zb, .int .i64 zc, .int .i64 zn, .int .i64 zw, .bool zs, .string zt] : Array Value)[j]? = some y → wr3.cell? ⟨b, o + k * 9 + j, none⟩ = some y) (hNO : IS = false → false = SB) (hY : IS = true → 1 ≤ zw ∧ zw ≤ 64) (hin : ∀ (i : Nat) (p : Int), c.ins[i]? = some p → ∃ b o cc, Value.slice a2 c.ins.length c2 = .slice (some ⟨b, o, none⟩) c.ins.length cc ∧ w.cell? ⟨b, o + i, none⟩ = some (.int .i64 p)) (hrg : ∀ (i : Nat) (p : ByteArray), c.inits[i]? = some p → ∃ b o cc, Value.slice a4 c.inits.length c4 = .slice (some ⟨b, o, none⟩) c.inits.length cc ∧ w.cell? ⟨b, o + i, none⟩ = some (.string p) ∧ p.size ≤ 64) (hbits : zt.size ≤ maxLen) (hIS : (if 0 ≤ argsOf z0 then (if 0 ≤ z1 ∧ z1 < (ws.length : Int) then (if readB ws (argsOf z0).toNat [za, zb, zc] = true then (if z0 = 33 then (if 0 ≤ zn then (match c.ins[zn.toNat]? with | some p => decide (zw = p) && !zs && zt.toList.isEmpty | none => false) else false) else if z0 = 34 then (if 0 ≤ zn then (match c.inits[zn.toNat]? with | some t => decide (zw = (t.size : Int)) && !zs && zt.toList.isEmpty | none => false) else false) else (exB z0 zw zn zs zt (kidW ws (argsOf z0).toNat [za, zb, zc]) && !(decide (z0 = 29) && !(L zt).all Vb.knB))) else false) else false) else false) = IS) (u2 u3 u4 u7 u8 u9 u10 u11 u12 u13 u14 u15 u16 u17 u18 u19 u20 u21 u22 u23 u24 u25 u26 u27 u28 u29 u30 u31 u32 u33 u34 u35 u36 u37 u38 u39 u40 u41 u42 u43 u44 u45 u46 u47 u48 u49 u50 u51 u52 u53 u54 u55 u56 u57 u58 u59 u60 u61 u62 u63 u64 u65 u66 u67 u68 u69 u70 u71 u72 u73 u74 u75 u76 u77 u78 u79 u80 u81 u82 u83 u84 u85 u86 u87 u88 u89 u90 u91 u92 u93 u94 u95 u96 u97 u98 u99 u100 u101 u102 u103 u104 u105 u106 u107 u108 u109 u110 u111 u112 u113 u114 u115 u116 u117 u118 u119 u120 u121 u122 u123 u124 u125 u126 u127 u128 u129 u130 u131 u132 u133 u134 u135 u136 u137 u138 u139 u140 u141 u142 u143 u144 u145 u146 u147 u148 u149 u150 u151 u152 u153 u154 u155 u156 u157 u158 u159 u160 u161 u162 u163 u164 u165 u166 u167 u168 u169 u170 u171 u172 u173 u174 u175 u176 u177 u178 u179 u180 u181 u182 u183 u184 u185 u186 u187 u188 u189 u190 u191 u192 u193 u194 u195 u196 u197 u198 u199 u200 u201 u202 u203 u204 u205 u206 u207 u208 u209 u210 u211 u212 u213 u214 u215 u216 u217 u218 u219 u220 u221 u222 u223 u224 u225 u226 u227 u228 u229 u230 u231 u232 u233 u234 u235 u236 u237 u238 u239 u240 u241 u242 u243 u244 u245 u246 u247 u248 u249 u250 u251 u252 u253 u254 u255 u256 u257 u258 u259 u260 u261 u262 u263 u264 u265 u266 u267 u268 u269 u270 u271 u272 u273 u274 u275 u276 u277 u278 u279 u280 u281 u282 u283 u284 u285 u286 u287 u288 u289 u290 u291 u292 u293 u294 u295 u296 u297 u298 u299 u300 u301 u302 u303 u304 u305 u306 u307 u308 u309 u310 u311 u312 u313 u314 u315 u316 u317 u318 u319 u320 u321 u322 u323 u324 u325 u326 u327 u328 u329 u330 u331 u332 u333 u334 u335 u336 u337 u338 u339 u340 u341 u342 u343 u344 u345 u346 u347 u348 u349 u350 u351 u352 u353 u354 u355 u356 u357 u358 u359 u360 u361 u362 u363 u364 u365 u366 u367 u368 u369 u370 u371 u372 u373 u374 u375 u376 u377 u378 u379 u380 u381 u382 u383 u384 u385 u386 u387 u388 u389 u390 u391 u392 u393 u394 u395 u396 u397 u398 u399 u400 u401 u402 u403 u404 u405 u406 u407 u408 u409 u410 u411 u412 u413 u414 u415 u416 u417 u418 u419 u420 u421 u422 u423 u424 u425 u426 u427 u428 u429 u430 u431 u432 : Value) (Q : Exit → Act → World → Prop) (hN : ∀ (V : World), IS = true → SW w #[.int .i64 n, .slice (some ⟨b, o, none⟩) c.instrs.length c1, .slice a2 c.ins.length c2, .int .i64 kc, .slice a4 c.inits.length c4, .slice a5 c.inits.length c5, .slice a6 c.inits.length c6, .slice a7 c.outs.length c7, .slice a8 c.checks.length c8] wb n (ws.set z1.toNat zw) V → ∀ (v2 v7 v8 v9 v10 v157 v158 v159 v160 v161 v162 v163 v164 v165 v166 v167 v168 v169 v170 v171 v172 v173 v174 v175 v176 v177 v178 v179 v180 v181 v182 v183 v184 v185 v186 v187 v188 v189 v190 v191 v192 v193 v194 v195 v196 v11 v197 v198 v199 v200 v201 v202 v203 v204 v205 v206 v207 v208 v209 v210 v211 v212 v213 v214 v215 v216 v217 v218 v219 v220 v221 v222 v223 v224 v225 v226 v227 v228 v229 v230 v231 v232 v233 v234 v235 v236 v237 v238 v239 v240 v241 v242 v243 v244 v245 v246 v247 v248 v249 v250 v251 v252 v253 v12 v254 v255 v256 v257 v258 v259 v260 v261 v262 v263 v264 v265 v266 v267 v268 v269 v270 v271 v272 v273 v274 v275 v276 v277 v278 v279 v280 v281 v282 v283 v284 v285 v286 v287 v288 v289 v290 v291 v292 v293 v294 v295 v296 v297 v298 v299 v300 v301 v302 v303 v304 v305 v306 v307 v308 v309 v310 v311 v312 v313 v314 v315 v316 v317 v318 v319 v320 v321 v322 v323 v324 v325 v326 v327 v328 v329 v330 v331 v332 v333 v334 v335 v336 v337 v338 v339 v340 v341 v342 v343 v344 v345 : Value), Q .normal { tmps := #[.agg #[.int .i64 n, .slice (some ⟨b, o, none⟩) c.instrs.length c1, .slice a2 c.ins.length c2, .int .i64 kc, .slice a4 c.inits.length c4, .slice a5 c.inits.length c5, .slice a6 c.inits.length c6, .slice a7 c.outs.length c7, .slice a8 c.checks.length c8], .pointer (some ⟨w.heap.size, 0, none⟩), v2, u3, u4, .slice (some ⟨wb, 0, none⟩) n n, .int .i64 k, v7, v8, v9, v10, v11, v12, u13, u14, u15, u16, u17, u18, u19, u20, u21, u22, u23, u24, u25, u26, u27, u28, u29, u30, u31, u32, u33, u34, u35, u36, u37, u38, u39, u40, u41, u42, u43, u44, u45, u46, u47, u48, u49, u50, u51, u52, u53, u54, u55, u56, u57, u58, u59, u60, u61, u62, u63, u64, u65, u66, u67, u68, u69, u70, u71, u72, u73, u74, u75, u76, u77, u78, u79, u80, u81, u82, u83, u84, u85, u86, u87, u88, u89, u90, u91, u92, u93, u94, u95, u96, u97, u98, u99, u100, u101, u102, u103, u104, u105, u106, u107, u108, u109, u110, u111, u112, u113, u114, u115, u116, u117, u118, u119, u120, u121, u122, u123, u124, u125, u126, u127, u128, u129, u130, u131, u132, u133, u134, u135, u136, u137, u138, u139, u140, u141, u142, u143, u144, u145, u146, u147, u148, u149, u150, u151, u152, u153, u154, u155, u156, v157, v158, v159, v160, v161, v162, v163, v164, v165, v166, v167, v168, v169, v170, v171, v172, v173, v174, v175, v176, v177, v178, v179, v180, v181, v182, v183, v184, v185, v186, v187, v188, v189, v190, v191, v192, v193, v194, v195, v196, v197, v198, v199, v200, v201, v202, v203, v204, v205, v206, v207, v208, v209, v210, v211, v212, v213, v214, v215, v216, v217, v218, v219, v220, v221, v222, v223, v224, v225, v226, v227, v228, v229, v230, v231, v232, v233, v234, v235, v236, v237, v238, v239, v240, v241, v242, v243, v244, v245, v246, v247, v248, v249, v250, v251, v252, v253, v254, v255, v256, v257, v258, v259, v260, v261, v262, v263, v264, v265, v266, v267, v268, v269, v270, v271, v272, v273, v274, v275, v276, v277, v278, v279, v280, v281, v282, v283, v284, v285, v286, v287, v288, v289, v290, v291, v292, v293, v294, v295, v296, v297, v298, v299, v300, v301, v302, v303, v304, v305, v306, v307, v308, v309, v310, v311, v312, v313, v314, v315, v316, v317, v318, v319, v320, v321, v322, v323, v324, v325, v326, v327, v328, v329, v330, v331, v332, v333, v334, v335, v336, v337, v338, v339, v340, v341, v342, v343, v344, v345, u346, u347, u348, u349, u350, u351, u352, u353, u354, u355, u356, u357, u358, u359, u360, u361, u362, u363, u364, u365, u366, u367, u368, u369, u370, u371, u372, u373, u374, u375, u376, u377, u378, u379, u380, u381, u382, u383, u384, u385, u386, u387, u388, u389, u390, u391, u392, u393, u394, u395, u396, u397, u398, u399, u400, u401, u402, u403, u404, u405, u406, u407, u408, u409, u410, u411, u412, u413, u414, u415, u416, u417, u418, u419, u420, u421, u422, u423, u424, u425, u426, u427, u428, u429, u430, u431, u432], defers := [] } V) (hR : ∀ (V : World), false = SB → Below w.heap.size w V → ∀ (v7 v8 v9 v10 v157 v158 v159 v160 v161 v162 v163 v164 v165 v166 v167 v168 v169 v170 v171 v172 v173 v174 v175 v176 v177 v178 v179 v180 v181 v182 v183 v184 v185 v186 v187 v188 v189 v190 v191 v192 v193 v194 v195 v196 v11 v197 v198 v199 v200 v201 v202 v203 v204 v205 v206 v207 v208 v209 v210 v211 v212 v213 v214 v215 v216 v217 v218 v219 v220 v221 v222 v223 v224 v225 v226 v227 v228 v229 v230 v231 v232 v233 v234 v235 v236 v237 v238 v239 v240 v241 v242 v243 v244 v245 v246 v247 v248 v249 v250 v251 v252 v253 v12 v254 v255 v256 v257 v258 v259 v260 v261 v262 v263 v264 v265 v266 v267 v268 v269 v270 v271 v272 v273 v274 v275 v276 v277 v278 v279 v280 v281 v282 v283 v284 v285 v286 v287 v288 v289 v290 v291 v292 v293 v294 v295 v296 v297 v298 v299 v300 v301 v302 v303 v304 v305 v306 v307 v308 v309 v310 v311 v312 v313 v314 v315 v316 v317 v318 v319 v320 v321 v322 v323 v324 v325 v326 v327 v328 v329 v330 v331 v332 v333 v334 v335 v336 v337 v338 v339 v340 v341 v342 v343 v344 v345 : Value), Q .ret { tmps := #[.agg #[.int .i64 n, .slice (some ⟨b, o, none⟩) c.instrs.length c1, .slice a2 c.ins.length c2, .int .i64 kc, .slice a4 c.inits.length c4, .slice a5 c.inits.length c5, .slice a6 c.inits.length c6, .slice a7 c.outs.length c7, .slice a8 c.checks.length c8], .pointer (some ⟨w.heap.size, 0, none⟩), .bool false, u3, u4, .slice (some ⟨wb, 0, none⟩) n n, .int .i64 k, v7, v8, v9, v10, v11, v12, u13, u14, u15, u16, u17, u18, u19, u20, u21, u22, u23, u24, u25, u26, u27, u28, u29, u30, u31, u32, u33, u34, u35, u36, u37, u38, u39, u40, u41, u42, u43, u44, u45, u46, u47, u48, u49, u50, u51, u52, u53, u54, u55, u56, u57, u58, u59, u60, u61, u62, u63, u64, u65, u66, u67, u68, u69, u70, u71, u72, u73, u74, u75, u76, u77, u78, u79, u80, u81, u82, u83, u84, u85, u86, u87, u88, u89, u90, u91, u92, u93, u94, u95, u96, u97, u98, u99, u100, u101, u102, u103, u104, u105, u106, u107, u108, u109, u110, u111, u112, u113, u114, u115, u116, u117, u118, u119, u120, u121, u122, u123, u124, u125, u126, u127, u128, u129, u130, u131, u132, u133, u134, u135, u136, u137, u138, u139, u140, u141, u142, u143, u144, u145, u146, u147, u148, u149, u150, u151, u152, u153, u154, u155, u156, v157, v158, v159, v160, v161, v162, v163, v164, v165, v166, v167, v168, v169, v170, v171, v172, v173, v174, v175, v176, v177, v178, v179, v180, v181, v182, v183, v184, v185, v186, v187, v188, v189, v190, v191, v192, v193, v194, v195, v196, v197, v198, v199, v200, v201, v202, v203, v204, v205, v206, v207, v208, v209, v210, v211, v212, v213, v214, v215, v216, v217, v218, v219, v220, v221, v222, v223, v224, v225, v226, v227, v228, v229, v230, v231, v232, v233, v234, v235, v236, v237, v238, v239, v240, v241, v242, v243, v244, v245, v246, v247, v248, v249, v250, v251, v252, v253, v254, v255, v256, v257, v258, v259, v260, v261, v262, v263, v264, v265, v266, v267, v268, v269, v270, v271, v272, v273, v274, v275, v276, v277, v278, v279, v280, v281, v282, v283, v284, v285, v286, v287, v288, v289, v290, v291, v292, v293, v294, v295, v296, v297, v298, v299, v300, v301, v302, v303, v304, v305, v306, v307, v308, v309, v310, v311, v312, v313, v314, v315, v316, v317, v318, v319, v320, v321, v322, v323, v324, v325, v326, v327, v328, v329, v330, v331, v332, v333, v334, v335, v336, v337, v338, v339, v340, v341, v342, v343, v344, v345, u346, u347, u348, u349, u350, u351, u352, u353, u354, u355, u356, u357, u358, u359, u360, u361, u362, u363, u364, u365, u366, u367, u368, u369, u370, u371, u372, u373, u374, u375, u376, u377, u378, u379, u380, u381, u382, u383, u384, u385, u386, u387, u388, u389, u390, u391, u392, u393, u394, u395, u396, u397, u398, u399, u400, u401, u402, u403, u404, u405, u406, u407, u408, u409, u410, u411, u412, u413, u414, u415, u416, u417, u418, u419, u420, u421, u422, u423, u424, u425, u426, u427, u428, u429, u430, u431, u432], defers := [] } V) :
    Go.Code.wp Try.prog (roundOf (bodyOf Try.f5)) Q { tmps := #[.agg #[.int .i64 n, .slice (some ⟨b, o, none⟩) c.instrs.length c1, .slice a2 c.ins.length c2, .int .i64 kc, .slice a4 c.inits.length c4, .slice a5 c.inits.length c5, .slice a6 c.inits.length c6, .slice a7 c.outs.length c7, .slice a8 c.checks.length c8], .pointer (some ⟨w.heap.size, 0, none⟩), u2, u3, u4, .slice (some ⟨wb, 0, none⟩) n n, .int .i64 k, u7, u8, u9, u10, u11, u12, u13, u14, u15, u16, u17, u18, u19, u20, u21, u22, u23, u24, u25, u26, u27, u28, u29, u30, u31, u32, u33, u34, u35, u36, u37, u38, u39, u40, u41, u42, u43, u44, u45, u46, u47, u48, u49, u50, u51, u52, u53, u54, u55, u56, u57, u58, u59, u60, u61, u62, u63, u64, u65, u66, u67, u68, u69, u70, u71, u72, u73, u74, u75, u76, u77, u78, u79, u80, u81, u82, u83, u84, u85, u86, u87, u88, u89, u90, u91, u92, u93, u94, u95, u96, u97, u98, u99, u100, u101, u102, u103, u104, u105, u106, u107, u108, u109, u110, u111, u112, u113, u114, u115, u116, u117, u118, u119, u120, u121, u122, u123, u124, u125, u126, u127, u128, u129, u130, u131, u132, u133, u134, u135, u136, u137, u138, u139, u140, u141, u142, u143, u144, u145, u146, u147, u148, u149, u150, u151, u152, u153, u154, u155, u156, u157, u158, u159, u160, u161, u162, u163, u164, u165, u166, u167, u168, u169, u170, u171, u172, u173, u174, u175, u176, u177, u178, u179, u180, u181, u182, u183, u184, u185, u186, u187, u188, u189, u190, u191, u192, u193, u194, u195, u196, u197, u198, u199, u200, u201, u202, u203, u204, u205, u206, u207, u208, u209, u210, u211, u212, u213, u214, u215, u216, u217, u218, u219, u220, u221, u222, u223, u224, u225, u226, u227, u228, u229, u230, u231, u232, u233, u234, u235, u236, u237, u238, u239, u240, u241, u242, u243, u244, u245, u246, u247, u248, u249, u250, u251, u252, u253, u254, u255, u256, u257, u258, u259, u260, u261, u262, u263, u264, u265, u266, u267, u268, u269, u270, u271, u272, u273, u274, u275, u276, u277, u278, u279, u280, u281, u282, u283, u284, u285, u286, u287, u288, u289, u290, u291, u292, u293, u294, u295, u296, u297, u298, u299, u300, u301, u302, u303, u304, u305, u306, u307, u308, u309, u310, u311, u312, u313, u314, u315, u316, u317, u318, u319, u320, u321, u322, u323, u324, u325, u326, u327, u328, u329, u330, u331, u332, u333, u334, u335, u336, u337, u338, u339, u340, u341, u342, u343, u344, u345, u346, u347, u348, u349, u350, u351, u352, u353, u354, u355, u356, u357, u358, u359, u360, u361, u362, u363, u364, u365, u366, u367, u368, u369, u370, u371, u372, u373, u374, u375, u376, u377, u378, u379, u380, u381, u382, u383, u384, u385, u386, u387, u388, u389, u390, u391, u392, u393, u394, u395, u396, u397, u398, u399, u400, u401, u402, u403, u404, u405, u406, u407, u408, u409, u410, u411, u412, u413, u414, u415, u416, u417, u418, u419, u420, u421, u422, u423, u424, u425, u426, u427, u428, u429, u430, u431, u432], defers := [] } wr3 := by
  have k0 := hcs 0 _ rfl
  have k1 := hcs 1 _ rfl
  have k2 := hcs 2 _ rfl
  have k3 := hcs 3 _ rfl
  have k4 := hcs 4 _ rfl
  have k5 := hcs 5 _ rfl
  have k6 := hcs 6 _ rfl
  have k7 := hcs 7 _ rfl
  have k8 := hcs 8 _ rfl
  simp only [Nat.add_zero] at k0
  have hlw := (unhide HSW).len
  have hb := (unhide HSW).box.below
  have hsz := (unhide HSW).box.size
  obtain ⟨q0, q1, q2, q3, q4, q5, q6, q7, q8⟩ := (unhide HSW).box.get9
  have AR := hide (fun V => sArgs z0 V)
  have HLW := hide hlw
  have HIS := hide hIS
  have HNO := hide hNO
  have HYES := hide hY
  have HIN := hide hin
  have HRG := hide hrg
  have HBT := hide hbits
  have HHN := hide hN
  have HHR := hide hR
  have hbb : b < wr3.heap.size := World.block_lt_of_cell? wr3 _ k0
  clear hcs hIS hNO hY hin hrg hbits hN hR hlw
  by_cases hA : 0 ≤ argsOf z0
  · rw [if_pos hA] at HIS
    have hop := args_op hA
    obtain ⟨T, hT⟩ : ∃ T : Nat, argsOf z0 = (T : Int) := ⟨(argsOf z0).toNat, by omega⟩
    have hT3 : T ≤ 3 := by rcases argsOf_range z0 with h | h <;> omega
    rw [hT, Int.toNat_natCast] at HIS
    rw [hT] at AR
    clear hA hT
    conv => arg 2; whnf
    refine wp_seq_k ?_
    intro K1 hK1
    have HK1 := hide hK1
    clear hK1
    go_wp2
    refine unhide HK1 _ _ ?_
    clear HK1
    refine wp_seq_k ?_
    intro K2 hK2
    have HK2 := hide hK2
    clear hK2 k0 k1 k2 k3 k4 k5 k6 k7 k8
    go_wp2_with (first | (go_at_call 14; refine (unhide AR _).mono ?_; rintro e V1 ⟨rfl, rfl⟩))
    rename (Ending.returned _ = Ending.returned _) => hv
    injection hv with hv
    subst hv
    refine unhide HK2 _ _ ?_
    clear HK2 AR
    refine wp_seq_k ?_
    intro K3 hK3
    have HK3 := hide hK3
    clear hK3
    go_wp2
    refine unhide HK3 _ _ ?_
    clear HK3
    refine wp_seq_k ?_
    intro K4 hK4
    have HK4 := hide hK4
    clear hK4
    by_cases hd : 0 ≤ z1 ∧ z1 < (ws.length : Int)
    · rw [if_pos hd] at HIS
      obtain ⟨i, rfl⟩ : ∃ i : Nat, z1 = (i : Int) := ⟨z1.toNat, by omega⟩
      rw [Int.toNat_natCast] at HHN
      have hi : i < n := by have := unhide HLW; omega
      have d1 : decide ((n : Int) ≤ (i : Int)) = false := decide_eq_false (by omega)
      have d2 : decide (n ≤ i) = false := decide_eq_false (by omega)
      clear hd
      go_wp2
      refine unhide HK4 _ _ ?_
      clear HK4
      refine wp_seq_k ?_
      intro K5 hK5
      have HK5 := hide hK5
      clear hK5
      go_wp2
      refine unhide HK5 _ _ ?_
      exact sX5 c n wb hn2 ws (some ⟨b, o, none⟩) a2 a4 a5 a6 a7 a8 c1 c2 c4 c5 c6 c7 c8 kc w wr3 SB IS l2 l4 T i hT3 hi z0 za zb zc zn zw zs zt HSW (unhide HNO) (unhide HYES) (unhide HIN) (unhide HRG) hop (unhide HBT) (unhide HIS) _ _ _ _ _ _ _ _ _ _ _ _ _ _ _ _ _ _ _ _ _ _ _ _ _ _ _ _ _ _ _ _ _ _ _ _ _ _ _ _ _ _ _ _ _ _ _ _ _ _ _ _ _ _ _ _ _ _ _ _ _ _ _ _ _ _ _ _ _ _ _ _ _ _ _ _ _ _ _ _ _ _ _ _ _ _ _ _ _ _ _ _ _ _ _ _ _ _ _ _ _ _ _ _ _ _ _ _ _ _ _ _ _ _ _ _ _ _ _ _ _ _ _ _ _ _ _ _ _ _ _ _ _ _ _ _ _ _ _ _ _ _ _ _ _ _ _ _ _ _ _ _ _ _ _ _ _ _ _ _ _ _ _ _ _ _ _ _ _ _ _ _ _ _ _ _ _ _ _ _ _ _ _ _ _ _ _ _ _ _ _ _ _ _ _ _ _ _ _ _ _ _ _ _ _ _ _ _ _ _ _ _ _ _ _ _ _ _ _ _ _ _ _ _ _ _ _ _ _ _ _ _ _ _ _ _ _ _ _ _ _ _ _ _ _ _ _ _ _ _ _ _ _ _ _ _ _ _ _ _ _ _ _ _ _ _ _ _ _ _ _ _ _ _ _ _ _ _ _ _ _ _ _ _ _ _ _ _ _ _ _ _ _ _ _ _ _ _ _ _ _ _ _ _ _ _ _ _ _ _ _ _ _ _ _ _ _ _ _ _ _ _ _ _ _ _ _ _ _ _ _ _ _ _ _ _ _ _ _ _ _ _ _ _ _ _ _ _ _ _ _ _ _ _ _ _ _ _ _ _ _ _ _ _ _ _ _ _ _ _ _ _ _ _ _ _ _ _ _ _ _ _ _ _ _ _ _ _ _ _ _ _ _ _ _ _ _ _ _ _ _ _ _ _ _ _ _ _ _ _ _ _ _ _ _ _ _ _ _ _ _ _ _ _ _ _ _ (fun V h1 h2 v2 v11 v197 v198 v199 v200 v201 v202 v203 v204 v205 v206 v207 v208 v209 v210 v211 v212 v213 v214 v215 v216 v217 v218 v219 v220 v221 v222 v223 v224 v225 v226 v227 v228 v229 v230 v231 v232 v233 v234 v235 v236 v237 v238 v239 v240 v241 v242 v243 v244 v245 v246 v247 v248 v249 v250 v251 v252 v253 v12 v254 v255 v256 v257 v258 v259 v260 v261 v262 v263 v264 v265 v266 v267 v268 v269 v270 v271 v272 v273 v274 v275 v276 v277 v278 v279 v280 v281 v282 v283 v284 v285 v286 v287 v288 v289 v290 v291 v292 v293 v294 v295 v296 v297 v298 v299 v300 v301 v302 v303 v304 v305 v306 v307 v308 v309 v310 v311 v312 v313 v314 v315 v316 v317 v318 v319 v320 v321 v322 v323 v324 v325 v326 v327 v328 v329 v330 v331 v332 v333 v334 v335 v336 v337 v338 v339 v340 v341 v342 v343 v344 v345 => unhide HHN V h1 h2 _ _ _ _ _ _ _ _ _ _ _ _ _ _ _ _ _ _ _ _ _ _ _ _ _ _ _ _ _ _ _ _ _ _ _ _ _ _ _ _ _ _ _ _ _ _ _ _ _ _ _ _ _ _ _ _ _ _ _ _ _ _ _ _ _ _ _ _ _ _ _ _ _ _ _ _ _ _ _ _ _ _ _ _ _ _ _ _ _ _ _ _ _ _ _ _ _ _ _ _ _ _ _ _ _ _ _ _ _ _ _ _ _ _ _ _ _ _ _ _ _ _ _ _ _ _ _ _ _ _ _ _ _ _ _ _ _ _ _ _ _ _ _ _ _ _ _ _ _ _ _ _ _ _ _ _ _ _ _ _ _ _ _ _ _ _ _ _ _ _ _ _ _ _ _ _ _ _ _ _ _ _ _ _ _ _ _ _ _ _ _ _ _ _ _ _) (fun V h1 h2 v11 v197 v198 v199 v200 v201 v202 v203 v204 v205 v206 v207 v208 v209 v210 v211 v212 v213 v214 v215 v216 v217 v218 v219 v220 v221 v222 v223 v224 v225 v226 v227 v228 v229 v230 v231 v232 v233 v234 v235 v236 v237 v238 v239 v240 v241 v242 v243 v244 v245 v246 v247 v248 v249 v250 v251 v252 v253 v12 v254 v255 v256 v257 v258 v259 v260 v261 v262 v263 v264 v265 v266 v267 v268 v269 v270 v271 v272 v273 v274 v275 v276 v277 v278 v279 v280 v281 v282 v283 v284 v285 v286 v287 v288 v289 v290 v291 v292 v293 v294 v295 v296 v297 v298 v299 v300 v301 v302 v303 v304 v305 v306 v307 v308 v309 v310 v311 v312 v313 v314 v315 v316 v317 v318 v319 v320 v321 v322 v323 v324 v325 v326 v327 v328 v329 v330 v331 v332 v333 v334 v335 v336 v337 v338 v339 v340 v341 v342 v343 v344 v345 => unhide HHR V h1 h2 _ _ _ _ _ _ _ _ _ _ _ _ _ _ _ _ _ _ _ _ _ _ _ _ _ _ _ _ _ _ _ _ _ _ _ _ _ _ _ _ _ _ _ _ _ _ _ _ _ _ _ _ _ _ _ _ _ _ _ _ _ _ _ _ _ _ _ _ _ _ _ _ _ _ _ _ _ _ _ _ _ _ _ _ _ _ _ _ _ _ _ _ _ _ _ _ _ _ _ _ _ _ _ _ _ _ _ _ _ _ _ _ _ _ _ _ _ _ _ _ _ _ _ _ _ _ _ _ _ _ _ _ _ _ _ _ _ _ _ _ _ _ _ _ _ _ _ _ _ _ _ _ _ _ _ _ _ _ _ _ _ _ _ _ _ _ _ _ _ _ _ _ _ _ _ _ _ _ _ _ _ _ _ _ _ _ _ _ _ _ _ _ _ _ _)
    · have hcase : z1 < 0 ∨ (0 ≤ z1 ∧ (n : Int) ≤ z1) := by have := unhide HLW; omega
      have HE := hide (show false = SB from unhide HNO (by rw [← unhide HIS, if_neg hd]))
      clear HNO HYES HIS hd HIN HRG HHN
      rcases hcase with g1 | ⟨g1, g2⟩
      · have d1 : decide (z1 < 0) = true := decide_eq_true g1
        clear g1
        go_wp2
        exact unhide HHR _ (unhide HE) (bal (bal hb _) _) _ _ _ _ _ _ _ _ _ _ _ _ _ _ _ _ _ _ _ _ _ _ _ _ _ _ _ _ _ _ _ _ _ _ _ _ _ _ _ _ _ _ _ _ _ _ _ _ _ _ _ _ _ _ _ _ _ _ _ _ _ _ _ _ _ _ _ _ _ _ _ _ _ _ _ _ _ _ _ _ _ _ _ _ _ _ _ _ _ _ _ _ _ _ _ _ _ _ _ _ _ _ _ _ _ _ _ _ _ _ _ _ _ _ _ _ _ _ _ _ _ _ _ _ _ _ _ _ _ _ _ _ _ _ _ _ _ _ _ _ _ _ _ _ _ _ _ _ _ _ _ _ _ _ _ _ _ _ _ _ _ _ _ _ _ _ _ _ _ _ _ _ _ _ _ _ _ _ _ _ _ _ _ _ _ _ _ _ _ _ _ _ _ _ _
      · have d1 : decide (z1 < 0) = false := decide_eq_false (by omega)
        have d2 : decide ((n : Int) ≤ z1) = true := decide_eq_true g2
        clear g1 g2
        go_wp2
        exact unhide HHR _ (unhide HE) (bal (bal hb _) _) _ _ _ _ _ _ _ _ _ _ _ _ _ _ _ _ _ _ _ _ _ _ _ _ _ _ _ _ _ _ _ _ _ _ _ _ _ _ _ _ _ _ _ _ _ _ _ _ _ _ _ _ _ _ _ _ _ _ _ _ _ _ _ _ _ _ _ _ _ _ _ _ _ _ _ _ _ _ _ _ _ _ _ _ _ _ _ _ _ _ _ _ _ _ _ _ _ _ _ _ _ _ _ _ _ _ _ _ _ _ _ _ _ _ _ _ _ _ _ _ _ _ _ _ _ _ _ _ _ _ _ _ _ _ _ _ _ _ _ _ _ _ _ _ _ _ _ _ _ _ _ _ _ _ _ _ _ _ _ _ _ _ _ _ _ _ _ _ _ _ _ _ _ _ _ _ _ _ _ _ _ _ _ _ _ _ _ _ _ _ _ _ _ _ _
  · have HE := hide (show false = SB from unhide HNO (by rw [← unhide HIS, if_neg hA]))
    have hA1 : argsOf z0 = -1 := by rcases argsOf_range z0 with h | h <;> omega
    rw [hA1] at AR
    clear HNO HYES HIS HIN HRG HHN hA hA1
    conv => arg 2; whnf
    refine wp_seq_k ?_
    intro K1 hK1
    have HK1 := hide hK1
    clear hK1
    go_wp2
    refine unhide HK1 _ _ ?_
    clear HK1
    refine wp_seq_k ?_
    intro K2 hK2
    have HK2 := hide hK2
    clear hK2 k0 k1 k2 k3 k4 k5 k6 k7 k8
    go_wp2_with (first | (go_at_call 14; refine (unhide AR _).mono ?_; rintro e V1 ⟨rfl, rfl⟩))
    rename (Ending.returned _ = Ending.returned _) => hv
    injection hv with hv
    subst hv
    refine unhide HK2 _ _ ?_
    clear HK2 AR
    refine wp_seq_k ?_
    intro K3 hK3
    have HK3 := hide hK3
    clear hK3
    go_wp2
    refine unhide HK3 _ _ ?_
    clear HK3
    refine wp_seq_k ?_
    intro K4 hK4
    have HK4 := hide hK4
    clear hK4
    go_wp2
    exact unhide HHR _ (unhide HE) (bal (bal hb _) _) _ _ _ _ _ _ _ _ _ _ _ _ _ _ _ _ _ _ _ _ _ _ _ _ _ _ _ _ _ _ _ _ _ _ _ _ _ _ _ _ _ _ _ _ _ _ _ _ _ _ _ _ _ _ _ _ _ _ _ _ _ _ _ _ _ _ _ _ _ _ _ _ _ _ _ _ _ _ _ _ _ _ _ _ _ _ _ _ _ _ _ _ _ _ _ _ _ _ _ _ _ _ _ _ _ _ _ _ _ _ _ _ _ _ _ _ _ _ _ _ _ _ _ _ _ _ _ _ _ _ _ _ _ _ _ _ _ _ _ _ _ _ _ _ _ _ _ _ _ _ _ _ _ _ _ _ _ _ _ _ _ _ _ _ _ _ _ _ _ _ _ _ _ _ _ _ _ _ _ _ _ _ _ _ _ _ _ _ _ _ _ _ _ _ _
end Go.Proofs.Ytbpcomnneemolaa
