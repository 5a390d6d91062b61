/- The specification's loop over instructions, and what follows it. -/
import Derived.Test.YtbpcomnneemolaaSTE
import Derived.Test.YtbpcomnneemolaaSY0
import Derived.BigQuiet
namespace Go.Proofs.Ytbpcomnneemolaa
open Go.RowKit Gs
set_option linter.unusedVariables false
set_option linter.unusedSimpArgs false
set_option maxRecDepth 100000
set_option maxHeartbeats 64000000 in
theorem sT5 (c : Code) (n wb : Nat) (hn2 : n ≤ 16384) (a1 a2 a4 a5 a6 a7 a8 : Option Addr) (c1 c2 c4 c5 c6 c7 c8 : Nat) (kc : Int) (w W : World) (SB : Bool) (l1 : c.instrs.length ≤ 16384) (l2 : c.ins.length ≤ 256) (l4 : c.inits.length ≤ 256) (l7 : c.outs.length ≤ 256) (l8 : c.checks.length ≤ 256) (hsw0 : SW w #[.int .i64 n, .slice a1 c.instrs.length c1, .slice a2 c.ins.length c2, .int .i64 kc, .slice a4 c.inits.length c4, .slice a5 c.inits.length c5, .slice a6 c.inits.length c6, .slice a7 c.outs.length c7, .slice a8 c.checks.length c8] wb n (List.replicate n 0) W) (P0h : c.ins.all wOK = true) (P1h : initsS c = true) (e6 : c.nexts.length = c.inits.length) (h1 : RS 9 RInstr w 0 c.instrs (.slice a1 c.instrs.length c1)) (h2 : RS 1 RInt w 0 c.ins (.slice a2 c.ins.length c2)) (h4 : RS 1 RStr w 0 c.inits (.slice a4 c.inits.length c4)) (h6 : RS 1 RInt w 0 c.nexts (.slice a6 c.inits.length c6)) (h7 : RS 1 RInt w 0 c.outs (.slice a7 c.outs.length c7)) (h8 : RS 1 RInt w 0 c.checks (.slice a8 c.checks.length c8)) (hSB : (match runS c c.instrs (List.replicate n 0) with | some ws => endsC c ws | none => false) = SB) (u2 u3 u4 u6 u7 u8 u9 u10 u11 u12 u13 u14 u15 u16 u17 u18 u19 u20 u21 u22 u23 u24 u25 u26 u27 u28 u29 u30 u31 u32 u33 u34 u35 u36 u37 u38 u39 u40 u41 u42 u43 u44 u45 u46 u47 u48 u49 u50 u51 u52 u53 u54 u55 u56 u57 u58 u59 u60 u61 u62 u63 u64 u65 u66 u67 u68 u69 u70 u71 u72 u73 u74 u75 u76 u77 u78 u79 u80 u81 u82 u83 u84 u85 u86 u87 u88 u89 u90 u91 u92 u93 u94 u95 u96 u97 u98 u99 u100 u101 u102 u103 u104 u105 u106 u107 u108 u109 u110 u111 u112 u113 u114 u115 u116 u117 u118 u119 u120 u121 u122 u123 u124 u125 u126 u127 u128 u129 u130 u131 u132 u133 u134 u135 u136 u137 u138 u139 u140 u141 u142 u143 u144 u145 u146 u147 u148 u149 u150 u151 u152 u153 u154 u155 u156 u157 u158 u159 u160 u161 u162 u163 u164 u165 u166 u167 u168 u169 u170 u171 u172 u173 u174 u175 u176 u177 u178 u179 u180 u181 u182 u183 u184 u185 u186 u187 u188 u189 u190 u191 u192 u193 u194 u195 u196 u197 u198 u199 u200 u201 u202 u203 u204 u205 u206 u207 u208 u209 u210 u211 u212 u213 u214 u215 u216 u217 u218 u219 u220 u221 u222 u223 u224 u225 u226 u227 u228 u229 u230 u231 u232 u233 u234 u235 u236 u237 u238 u239 u240 u241 u242 u243 u244 u245 u246 u247 u248 u249 u250 u251 u252 u253 u254 u255 u256 u257 u258 u259 u260 u261 u262 u263 u264 u265 u266 u267 u268 u269 u270 u271 u272 u273 u274 u275 u276 u277 u278 u279 u280 u281 u282 u283 u284 u285 u286 u287 u288 u289 u290 u291 u292 u293 u294 u295 u296 u297 u298 u299 u300 u301 u302 u303 u304 u305 u306 u307 u308 u309 u310 u311 u312 u313 u314 u315 u316 u317 u318 u319 u320 u321 u322 u323 u324 u325 u326 u327 u328 u329 u330 u331 u332 u333 u334 u335 u336 u337 u338 u339 u340 u341 u342 u343 u344 u345 u346 u347 u348 u349 u350 u351 u352 u353 u354 u355 u356 u357 u358 u359 u360 u361 u362 u363 u364 u365 u366 u367 u368 u369 u370 u371 u372 u373 u374 u375 u376 u377 u378 u379 u380 u381 u382 u383 u384 u385 u386 u387 u388 u389 u390 u391 u392 u393 u394 u395 u396 u397 u398 u399 u400 u401 u402 u403 u404 u405 u406 u407 u408 u409 u410 u411 u412 u413 u414 u415 u416 u417 u418 u419 u420 u421 u422 u423 u424 u425 u426 u427 u428 u429 u430 u431 u432 : Value) :
    Go.Code.wp Try.prog (tl 5 (bodyOf Try.f5)) (bodyPost Try.prog Try.f5 fun e w' => e = .returned (.bool SB) ∧ Below w.heap.size w w') { tmps := #[.agg #[.int .i64 n, .slice a1 c.instrs.length c1, .slice a2 c.ins.length c2, .int .i64 kc, .slice a4 c.inits.length c4, .slice a5 c.inits.length c5, .slice a6 c.inits.length c6, .slice a7 c.outs.length c7, .slice a8 c.checks.length c8], .pointer (some ⟨w.heap.size, 0, none⟩), u2, u3, u4, .slice (some ⟨wb, 0, none⟩) n n, u6, u7, u8, u9, u10, u11, u12, u13, u14, u15, u16, u17, u18, u19, u20, u21, u22, u23, u24, u25, u26, u27, u28, u29, u30, u31, u32, u33, u34, u35, u36, u37, u38, u39, u40, u41, u42, u43, u44, u45, u46, u47, u48, u49, u50, u51, u52, u53, u54, u55, u56, u57, u58, u59, u60, u61, u62, u63, u64, u65, u66, u67, u68, u69, u70, u71, u72, u73, u74, u75, u76, u77, u78, u79, u80, u81, u82, u83, u84, u85, u86, u87, u88, u89, u90, u91, u92, u93, u94, u95, u96, u97, u98, u99, u100, u101, u102, u103, u104, u105, u106, u107, u108, u109, u110, u111, u112, u113, u114, u115, u116, u117, u118, u119, u120, u121, u122, u123, u124, u125, u126, u127, u128, u129, u130, u131, u132, u133, u134, u135, u136, u137, u138, u139, u140, u141, u142, u143, u144, u145, u146, u147, u148, u149, u150, u151, u152, u153, u154, u155, u156, u157, u158, u159, u160, u161, u162, u163, u164, u165, u166, u167, u168, u169, u170, u171, u172, u173, u174, u175, u176, u177, u178, u179, u180, u181, u182, u183, u184, u185, u186, u187, u188, u189, u190, u191, u192, u193, u194, u195, u196, u197, u198, u199, u200, u201, u202, u203, u204, u205, u206, u207, u208, u209, u210, u211, u212, u213, u214, u215, u216, u217, u218, u219, u220, u221, u222, u223, u224, u225, u226, u227, u228, u229, u230, u231, u232, u233, u234, u235, u236, u237, u238, u239, u240, u241, u242, u243, u244, u245, u246, u247, u248, u249, u250, u251, u252, u253, u254, u255, u256, u257, u258, u259, u260, u261, u262, u263, u264, u265, u266, u267, u268, u269, u270, u271, u272, u273, u274, u275, u276, u277, u278, u279, u280, u281, u282, u283, u284, u285, u286, u287, u288, u289, u290, u291, u292, u293, u294, u295, u296, u297, u298, u299, u300, u301, u302, u303, u304, u305, u306, u307, u308, u309, u310, u311, u312, u313, u314, u315, u316, u317, u318, u319, u320, u321, u322, u323, u324, u325, u326, u327, u328, u329, u330, u331, u332, u333, u334, u335, u336, u337, u338, u339, u340, u341, u342, u343, u344, u345, u346, u347, u348, u349, u350, u351, u352, u353, u354, u355, u356, u357, u358, u359, u360, u361, u362, u363, u364, u365, u366, u367, u368, u369, u370, u371, u372, u373, u374, u375, u376, u377, u378, u379, u380, u381, u382, u383, u384, u385, u386, u387, u388, u389, u390, u391, u392, u393, u394, u395, u396, u397, u398, u399, u400, u401, u402, u403, u404, u405, u406, u407, u408, u409, u410, u411, u412, u413, u414, u415, u416, u417, u418, u419, u420, u421, u422, u423, u424, u425, u426, u427, u428, u429, u430, u431, u432], defers := [] } W := by
  have HSW := hide hsw0
  have H1 := hide h1
  have H2 := hide h2
  have H4 := hide h4
  have H6 := hide h6
  have H7 := hide h7
  have H8 := hide h8
  have P0 := hide P0h
  have P1 := hide P1h
  have E6 := hide e6
  have F2 := hide (show runS c c.instrs (List.replicate n 0) = none → false = SB from fun h => by rw [← hSB, h])
  have F3 := hide (show ∀ ws, runS c c.instrs (List.replicate n 0) = some ws → endsC c ws = SB from fun ws h => by rw [← hSB, h])
  obtain ⟨q0, q1, q2, q3, q4, q5, q6, q7, q8⟩ := hsw0.box.get9
  clear hsw0 h1 h2 h4 h6 h7 h8 P0h P1h e6 hSB
  conv => arg 2; whnf
  go_wp2
  go_loopw [6] (fun i wr3 => ∃ (k : Nat) (ws : List Int), k ≤ c.instrs.length ∧ i = .int .i64 k ∧ runS c (c.instrs.take k) (List.replicate n 0) = some ws ∧ SW w #[.int .i64 n, .slice a1 c.instrs.length c1, .slice a2 c.ins.length c2, .int .i64 kc, .slice a4 c.inits.length c4, .slice a5 c.inits.length c5, .slice a6 c.inits.length c6, .slice a7 c.outs.length c7, .slice a8 c.checks.length c8] wb n ws wr3) (fun i _ => c.instrs.length - (intOf i).toNat)
  case atStart => exact ⟨0, _, Nat.zero_le _, rfl, rfl, unhide HSW⟩
  case round =>
    clear q0 q1 q2 q3 q4 q5 q6 q7 q8 HSW
    obtain ⟨wr3, rfl⟩ : ∃ V : World, V = wr := ⟨wr, rfl⟩
    obtain ⟨k, ws, hk, rfl, hrun, hsw⟩ := hrel
    have HSW := hide hsw
    have hb := hsw.box.below
    obtain ⟨q0, q1, q2, q3, q4, q5, q6, q7, q8⟩ := hsw.box.get9
    by_cases hlt : k < c.instrs.length
    · have hx : c.instrs[k]? = some c.instrs[k] := List.getElem?_eq_getElem hlt
      generalize c.instrs[k] = x at hx
      have hst := runS_step hx hrun
      rcases (unhide H1).open with ⟨hnil, _⟩ | ⟨b, o, cc, ee, _, _, _, hcs⟩
      · rw [hnil] at hlt; simp at hlt
      obtain ⟨rfl, rfl⟩ : a1 = some ⟨b, o, none⟩ ∧ c1 = cc := by
        injection ee with e1 e2 e3
        exact ⟨e1, e3⟩
      obtain ⟨u, _, hat, hux, hbits⟩ := hcs k x hx
      subst hux
      have HCS := hide (show ∀ (j : Nat) (y : Value), (#[.int .i64 x.op, .int .i64 x.dst, .int .i64 x.a, .int .i64 x.b, .int .i64 x.c, .int .i64 x.n, .int .i64 x.width, .bool x.signed, .string x.bits] : Array Value)[j]? = some y → wr3.cell? ⟨b, o + k * 9 + j, none⟩ = some y from fun j y hj => cell_later hb (hat j y (by simpa using hj)))
      have HNO := hide (show instrS c ws x = false → false = SB from fun h => unhide F2 (runS_no (by rw [hst, h]; rfl)))
      have HRN := hide (show instrS c ws x = true → runS c (c.instrs.take (k + 1)) (List.replicate n 0) = some (ws.set x.dst.toNat x.width) from fun h => by rw [hst, h]; rfl)
      have HYES := hide (show instrS c ws x = true → 1 ≤ x.width ∧ x.width ≤ 64 from fun h => (instrS_open (unhide P0) (unhide P1) h).2)
      have HIN := hide (fun (i : Nat) (p : Int) (hp : c.ins[i]? = some p) => (show ∃ b o cc, (Value.slice a2 c.ins.length c2) = .slice (some ⟨b, o, none⟩) c.ins.length cc ∧ w.cell? ⟨b, o + i, none⟩ = some (.int .i64 p) from by
        rcases (unhide H2).open with ⟨hnil, _⟩ | ⟨b, o, cc, e, _, _, _, hcs⟩
        · rw [hnil] at hp; simp at hp
        · obtain ⟨u, _, hat, hu⟩ := hcs i p hp
          obtain rfl : u = [.int .i64 p] := hu
          have h := hat.get (j := 0) rfl
          simp only [Nat.add_zero, Nat.mul_one] at h
          exact ⟨b, o, cc, e, h⟩))
      have HRG := hide (fun (i : Nat) (p : ByteArray) (hp : c.inits[i]? = some p) => (show ∃ b o cc, (Value.slice a4 c.inits.length c4) = .slice (some ⟨b, o, none⟩) c.inits.length cc ∧ w.cell? ⟨b, o + i, none⟩ = some (.string p) ∧ p.size ≤ 64 from by
        have hsz := init_size (unhide P1) hp
        rcases (unhide H4).open with ⟨hnil, _⟩ | ⟨b, o, cc, e, _, _, _, hcs⟩
        · rw [hnil] at hp; simp at hp
        · obtain ⟨u, _, hat, hu, _⟩ := hcs i p hp
          subst hu
          have h := hat.get (j := 0) rfl
          simp only [Nat.add_zero, Nat.mul_one] at h
          exact ⟨b, o, cc, e, h, hsz.2⟩))
      obtain ⟨IS, hIS⟩ : ∃ IS, instrS c ws x = IS := ⟨_, rfl⟩
      rw [hIS] at HNO HRN HYES
      unfold instrS inI regI bareI at hIS
      have HIS := hide hIS
      have HBT := hide hbits
      clear hIS hst hx hat hcs ee hrun hsw hbits H1 H2 H4 H6 H7 H8 F2 F3 E6 P0 P1 hb
      refine wp_seq_k ?_
      intro K1 hK1
      have HK1 := hide hK1
      clear hK1
      go_wp2
      refine unhide HK1 _ _ ?_
      clear HK1 q0 q1 q2 q3 q4 q5 q6 q7 q8
      refine wp_seq_k ?_
      intro K2 hK2
      have HK2 := hide hK2
      clear hK2
      refine wp_block ?_
      refine sX0 c n wb hn2 ws b o k l1 hlt a2 a4 a5 a6 a7 a8 c1 c2 c4 c5 c6 c7 c8 kc w wr3 SB IS l2 l4 x.op x.dst x.a x.b x.c x.n x.width x.signed x.bits HSW (unhide HCS) (unhide HNO) (unhide HYES) (unhide HIN) (unhide HRG) (unhide HBT) (unhide HIS) _ _ _ _ _ _ _ _ _ _ _ _ _ _ _ _ _ _ _ _ _ _ _ _ _ _ _ _ _ _ _ _ _ _ _ _ _ _ _ _ _ _ _ _ _ _ _ _ _ _ _ _ _ _ _ _ _ _ _ _ _ _ _ _ _ _ _ _ _ _ _ _ _ _ _ _ _ _ _ _ _ _ _ _ _ _ _ _ _ _ _ _ _ _ _ _ _ _ _ _ _ _ _ _ _ _ _ _ _ _ _ _ _ _ _ _ _ _ _ _ _ _ _ _ _ _ _ _ _ _ _ _ _ _ _ _ _ _ _ _ _ _ _ _ _ _ _ _ _ _ _ _ _ _ _ _ _ _ _ _ _ _ _ _ _ _ _ _ _ _ _ _ _ _ _ _ _ _ _ _ _ _ _ _ _ _ _ _ _ _ _ _ _ _ _ _ _ _ _ _ _ _ _ _ _ _ _ _ _ _ _ _ _ _ _ _ _ _ _ _ _ _ _ _ _ _ _ _ _ _ _ _ _ _ _ _ _ _ _ _ _ _ _ _ _ _ _ _ _ _ _ _ _ _ _ _ _ _ _ _ _ _ _ _ _ _ _ _ _ _ _ _ _ _ _ _ _ _ _ _ _ _ _ _ _ _ _ _ _ _ _ _ _ _ _ _ _ _ _ _ _ _ _ _ _ _ _ _ _ _ _ _ _ _ _ _ _ _ _ _ _ _ _ _ _ _ _ _ _ _ _ _ _ _ _ _ _ _ _ _ _ _ _ _ _ _ _ _ _ _ _ _ _ _ _ _ _ _ _ _ _ _ _ _ _ _ _ _ _ _ _ _ _ _ _ _ _ _ _ _ _ _ _ _ _ _ _ _ _ _ _ _ _ _ _ _ _ _ _ _ _ _ _ _ _ _ _ _ _ _ _ _ _ _ _ _ _ _ _ _ _ _ _ _ _ _ _ _ _ _ ?hN ?hR
      case hN =>
        intro V g1 g2 v2 v7 v8 v9 v10 v157 v158 v159 v160 v161 v162 v163 v164 v165 v166 v167 v168 v169 v170 v171 v172 v173 v174 v175 v176 v177 v178 v179 v180 v181 v182 v183 v184 v185 v186 v187 v188 v189 v190 v191 v192 v193 v194 v195 v196 v11 v197 v198 v199 v200 v201 v202 v203 v204 v205 v206 v207 v208 v209 v210 v211 v212 v213 v214 v215 v216 v217 v218 v219 v220 v221 v222 v223 v224 v225 v226 v227 v228 v229 v230 v231 v232 v233 v234 v235 v236 v237 v238 v239 v240 v241 v242 v243 v244 v245 v246 v247 v248 v249 v250 v251 v252 v253 v12 v254 v255 v256 v257 v258 v259 v260 v261 v262 v263 v264 v265 v266 v267 v268 v269 v270 v271 v272 v273 v274 v275 v276 v277 v278 v279 v280 v281 v282 v283 v284 v285 v286 v287 v288 v289 v290 v291 v292 v293 v294 v295 v296 v297 v298 v299 v300 v301 v302 v303 v304 v305 v306 v307 v308 v309 v310 v311 v312 v313 v314 v315 v316 v317 v318 v319 v320 v321 v322 v323 v324 v325 v326 v327 v328 v329 v330 v331 v332 v333 v334 v335 v336 v337 v338 v339 v340 v341 v342 v343 v344 v345
        refine unhide HK2 _ _ ?_
        have HS2 := hide g2
        have HR2 := hide (unhide HRN g1)
        clear HK2 HCS HNO HRN HYES HIN HRG HIS HBT HSW g1 g2
        go_wp2
        exact ⟨⟨k + 1, _, by omega, by go_num, unhide HR2, unhide HS2⟩, by simp [intOf]; omega⟩
      case hR =>
        intro V g1 g2 v7 v8 v9 v10 v157 v158 v159 v160 v161 v162 v163 v164 v165 v166 v167 v168 v169 v170 v171 v172 v173 v174 v175 v176 v177 v178 v179 v180 v181 v182 v183 v184 v185 v186 v187 v188 v189 v190 v191 v192 v193 v194 v195 v196 v11 v197 v198 v199 v200 v201 v202 v203 v204 v205 v206 v207 v208 v209 v210 v211 v212 v213 v214 v215 v216 v217 v218 v219 v220 v221 v222 v223 v224 v225 v226 v227 v228 v229 v230 v231 v232 v233 v234 v235 v236 v237 v238 v239 v240 v241 v242 v243 v244 v245 v246 v247 v248 v249 v250 v251 v252 v253 v12 v254 v255 v256 v257 v258 v259 v260 v261 v262 v263 v264 v265 v266 v267 v268 v269 v270 v271 v272 v273 v274 v275 v276 v277 v278 v279 v280 v281 v282 v283 v284 v285 v286 v287 v288 v289 v290 v291 v292 v293 v294 v295 v296 v297 v298 v299 v300 v301 v302 v303 v304 v305 v306 v307 v308 v309 v310 v311 v312 v313 v314 v315 v316 v317 v318 v319 v320 v321 v322 v323 v324 v325 v326 v327 v328 v329 v330 v331 v332 v333 v334 v335 v336 v337 v338 v339 v340 v341 v342 v343 v344 v345
        clear HK2 HCS HNO HRN HYES HIN HRG HIS HBT HSW
        go_ret
        exact ⟨ret_bool g1, g2⟩
    · have hkl : k = c.instrs.length := by omega
      subst hkl
      rw [List.take_of_length_le (Nat.le_refl _)] at hrun
      have P2 := hide (unhide F3 ws hrun)
      rename (∀ (a : Act) (w : World), Go.Code.wp Try.prog _ _ a w → _) => hK
      have HKK := hide hK
      clear hK hrun hsw F2 F3 H1 H2 hb
      go_wp2
      refine unhide HKK _ _ ?_
      exact sT6 c n wb hn2 ws a1 a2 a4 a5 a6 a7 a8 c1 c2 c4 c5 c6 c7 c8 kc w _ SB l4 l7 l8 (unhide HSW) (unhide P1) (unhide E6) (unhide H4) (unhide H6) (unhide H7) (unhide H8) (unhide P2) _ _ _ _ _ _ _ _ _ _ _ _ _ _ _ _ _ _ _ _ _ _ _ _ _ _ _ _ _ _ _ _ _ _ _ _ _ _ _ _ _ _ _ _ _ _ _ _ _ _ _ _ _ _ _ _ _ _ _ _ _ _ _ _ _ _ _ _ _ _ _ _ _ _ _ _ _ _ _ _ _ _ _ _ _ _ _ _ _ _ _ _ _ _ _ _ _ _ _ _ _ _ _ _ _ _ _ _ _ _ _ _ _ _ _ _ _ _ _ _ _ _ _ _ _ _ _ _ _ _ _ _ _ _ _ _ _ _ _ _ _ _ _ _ _ _ _ _ _ _ _ _ _ _ _ _ _ _ _ _ _ _ _ _ _ _ _ _ _ _ _ _ _ _ _ _ _ _ _ _ _ _ _ _ _ _ _ _ _ _ _ _ _ _ _ _ _ _ _ _ _ _ _ _ _ _ _ _ _ _ _ _ _ _ _ _ _ _ _ _ _ _ _ _ _ _ _ _ _ _ _ _ _ _ _ _ _ _ _ _ _ _ _ _ _ _ _ _ _ _ _ _ _ _ _ _ _ _ _ _ _ _ _ _ _ _ _ _ _ _ _ _ _ _ _ _ _ _ _ _ _ _ _ _ _ _ _ _ _ _ _ _ _ _ _ _ _ _ _ _ _ _ _ _ _ _ _ _ _ _ _ _ _ _ _ _ _ _ _ _ _ _ _ _ _ _ _ _ _ _ _ _ _ _ _ _ _ _ _ _ _ _ _ _ _ _ _ _ _ _ _ _ _ _ _ _ _ _ _ _ _ _ _ _ _ _ _ _ _ _ _ _ _ _ _ _ _ _ _ _ _ _ _ _ _ _ _ _ _ _ _ _ _ _ _ _ _ _ _ _ _ _ _ _ _ _ _ _ _ _ _ _ _ _ _ _ _ _ _ _ _ _ _ _ _ _ _ _ _ _
end Go.Proofs.Ytbpcomnneemolaa
