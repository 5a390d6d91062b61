/- The specification's PackRun: the region that puts a register's text to a row. -/
import Derived.Test.YtdmmbhemmbgcpabGreatGPT7
import Derived.Test.YtdmmbhemmbgcpabGreatGQ7b
namespace Go.Proofs.YtdmmbhemmbgcpabGreat
open Go Go.RowKit Gs
set_option linter.unusedVariables false
set_option linter.unusedSimpArgs false
set_option maxRecDepth 100000
def prRegsF (q ab ao al ac k : Nat) (tv : Value) (A : Bool) : Nat → Value → Prop
  | 0, v => v = .pointer (some ⟨q, 2, none⟩)
  | 1, v => v = tv
  | 2, v => v = .slice (some ⟨ab, ao, none⟩) al ac
  | 3, v => v = .int .i64 (k : Int)
  | 4, v => v = .pointer (some ⟨ab, ao + k, none⟩)
  | 5, v => v = .int .i64 (b2i A)
  | 6, v => v = .string (txt1 A)
  | 9, v => v = .pointer (some ⟨q, 2, none⟩)
  | _, _ => True
def prRegsOps : Array Oper := #[{ dst := some 213, op := Go.Op.fieldAddr 71 (Go.Operand.tmp 18) 2, type := 0, pos := "l15_place.go:184", after := #[], guard := none }, { dst := some 214, op := Go.Op.load 22 (Go.Operand.tmp 213), type := 22, pos := "l15_place.go:184", after := #[{ on := 0, ground := Go.Ground.data }], guard := none }, { dst := some 215, op := Go.Op.move (Go.Operand.tmp 8), type := 64, pos := "l15_place.go:184", after := #[], guard := none }, { dst := some 216, op := Go.Op.move (Go.Operand.tmp 21), type := 3, pos := "l15_place.go:184", after := #[], guard := none }, { dst := some 217, op := Go.Op.indexAddr 64 (Go.Operand.tmp 215) (Go.Operand.tmp 216), type := 0, pos := "l15_place.go:184", after := #[{ on := 2, ground := Go.Ground.data }, { on := 3, ground := Go.Ground.data }], guard := none }, { dst := some 218, op := Go.Op.load 3 (Go.Operand.tmp 217), type := 3, pos := "l15_place.go:184", after := #[{ on := 4, ground := Go.Ground.data }], guard := none }, { dst := some 219, op := Go.Op.call { callee := Go.Callee.value (Go.Operand.func 25), args := #[Go.Operand.tmp 218], argTypes := #[3] }, type := 9, pos := "l15_place.go:184", after := #[{ on := 5, ground := Go.Ground.data }], guard := none }, { dst := some 220, op := Go.Op.buildSlice 22 1 #[(0, Go.Operand.tmp 219)], type := 22, pos := "l15_place.go:184", after := #[{ on := 6, ground := Go.Ground.data }], guard := none }, { dst := some 221, op := Go.Op.call { callee := Go.Callee.builtin Go.Builtin.append, args := #[Go.Operand.tmp 214, Go.Operand.tmp 220], argTypes := #[22, 22] }, type := 22, pos := "l15_place.go:184", after := #[{ on := 1, ground := Go.Ground.data }, { on := 7, ground := Go.Ground.data }, { on := 6, ground := Go.Ground.chain }], guard := none }, { dst := some 222, op := Go.Op.fieldAddr 71 (Go.Operand.tmp 18) 2, type := 0, pos := "l15_place.go:184", after := #[{ on := 0, ground := Go.Ground.phase }, { on := 1, ground := Go.Ground.phase }, { on := 2, ground := Go.Ground.phase }, { on := 3, ground := Go.Ground.phase }, { on := 4, ground := Go.Ground.phase }, { on := 5, ground := Go.Ground.phase }, { on := 6, ground := Go.Ground.phase }, { on := 7, ground := Go.Ground.phase }, { on := 8, ground := Go.Ground.phase }], guard := none }, { dst := none, op := Go.Op.store 22 (Go.Operand.tmp 222) (Go.Operand.tmp 221), type := 0, pos := "l15_place.go:184", after := #[{ on := 9, ground := Go.Ground.data }, { on := 8, ground := Go.Ground.data }, { on := 8, ground := Go.Ground.chain }, { on := 0, ground := Go.Ground.phase }, { on := 1, ground := Go.Ground.phase }, { on := 2, ground := Go.Ground.phase }, { on := 3, ground := Go.Ground.phase }, { on := 4, ground := Go.Ground.phase }, { on := 5, ground := Go.Ground.phase }, { on := 6, ground := Go.Ground.phase }, { on := 7, ground := Go.Ground.phase }, { on := 8, ground := Go.Ground.phase }], guard := none }]
set_option maxHeartbeats 16000000 in
theorem prRegs {q ab ao al ac k N : Nat} {tv : Value} {A : Bool} {acc : List ByteArray} {wr : World} {Q : Exit → Act → World → Prop} (HTV : Hid (OT N wr tv acc)) (htv : ∃ a l c, tv = .slice a l c) (HAL : Hid (acc.length ≤ 1048576)) (HSZ : Hid (N ≤ wr.heap.size)) (HQ4 : Hid (q < N)) (HQC : Hid (wr.cell? ⟨q, 2, none⟩ = some tv)) (HQF : Hid (wr.frozen? ⟨q, 2, none⟩ = false)) (hkl : k < al) (hk3 : al ≤ 1048576) (HZ : Hid (wr.cell? ⟨ab, ao + k, none⟩ = some (.int .i64 (b2i A))))
    (a0 : Act) (ha0 : a0.tmps.size = 228) (e18 : a0.eval (.tmp 18) = .pointer (some ⟨q, 0, none⟩)) (e8 : a0.eval (.tmp 8) = .slice (some ⟨ab, ao, none⟩) al ac) (e21 : a0.eval (.tmp 21) = .int .i64 (k : Int))
    (hQ : ∀ a V V' v, a.tmps.size = a0.tmps.size → a.defers = a0.defers → (∀ t, t ∉ [213, 214, 215, 216, 217, 218, 219, 220, 221, 222] → a.eval (.tmp t) = a0.eval (.tmp t)) → OT N V' v (acc ++ [txt1 A]) → Below N wr V' → V = V'.setCell ⟨q, 2, none⟩ v → Q .normal a V) :
    (Code.region 49 prRegsOps true).wp Tryz.prog Q a0 wr := by
  obtain ⟨i0, hi, hz0, hz1, hz2⟩ := info_parts info9
  have HI := hide (And.intro hi (And.intro hz0 (And.intro hz1 hz2)))
  have HCT : Hid (∀ V, Calls Tryz.prog 25 #[.int .i64 (b2i A)] V fun e w' => e = .returned (.string (txt1 A)) ∧ Below V.heap.size V w') := hide (fun V => by
    refine (sText A V).mono ?_
    rintro e w' ⟨rfl, rfl⟩
    exact ⟨rfl, brf _⟩)
  obtain ⟨ta, tl, tc, htv⟩ := htv
  have j1 : (0 : Int) ≤ (k : Int) := by omega
  have j2 : (k : Int) < (al : Int) := by omega
  clear hi hz0 hz1 hz2
  refine wp_plan (GA (prRegsF q ab ao al ac k tv A) (F2S wr 7 (txt1 A)) 8 10 (fun v V => OT N V v (acc ++ [txt1 A]) ∧ ∃ V0, Below wr.heap.size wr V0 ∧ V0.grownBy V tv.ownBlock)) (JA wr 8 10 (fun v V => OT N V v (acc ++ [txt1 A]) ∧ ∃ V0, Below wr.heap.size wr V0 ∧ V0.grownBy V tv.ownBlock) (fun V' => ∃ V v, (fun v V => OT N V v (acc ++ [txt1 A]) ∧ ∃ V0, Below wr.heap.size wr V0 ∧ V0.grownBy V tv.ownBlock) v V ∧ V' = V.setCell ⟨q, 2, none⟩ v)) (by kernel_rfl) 228 ha0 (by kernel_rfl) ?hj ?hs ?hf
  case hj => exact JA.start (bdr (brf wr))
  case hs =>
    refine ⟨?_, ?_, ?_, ?_, ?_, ?_, ?_, ?_, ?_, ?_, ?_, trivial⟩
    · exact sa_val (by decide) (by decide) (fun l a w hp hu => ⟨(und hp (k := 1) (j := 8) (by kernel_rfl) (und hp (k := 0) (j := 1) (by kernel_rfl) hu)), (und hp (k := 0) (j := 10) (by kernel_rfl) hu)⟩) rfl (fun l a V hp h1 hB ha => ⟨.pointer (some ⟨q, 2, none⟩), by
        have x18 := (ev_form a 18).trans (old hp 18 (v := .pointer (some ⟨q, 0, none⟩)) (by kernel_rfl) e18)
        go_simp, rfl, fun e => absurd e (by decide)⟩)
    · exact sa_val (by decide) (by decide) (fun l a w hp hu => ⟨(und hp (k := 1) (j := 8) (by kernel_rfl) hu), (und hp (k := 1) (j := 10) (by kernel_rfl) hu)⟩) rfl (fun l a V hp h1 hB ha => ⟨tv, by
        have x213 := (ev_form a 213).trans (show a.eval (.tmp 213) = .pointer (some ⟨q, 2, none⟩) from (kn hp ha 213 0 (by kernel_rfl) (by kernel_rfl)).1)
        have mq := cell_later hB (unhide HQC)
        go_simp, rfl, fun e => absurd e (by decide)⟩)
    · exact sa_val (by decide) (by decide) (fun l a w hp hu => ⟨(und hp (k := 6) (j := 8) (by kernel_rfl) (und hp (k := 5) (j := 6) (by kernel_rfl) (und hp (k := 4) (j := 5) (by kernel_rfl) (und hp (k := 2) (j := 4) (by kernel_rfl) hu)))), (und hp (k := 2) (j := 10) (by kernel_rfl) hu)⟩) rfl (fun l a V hp h1 hB ha => ⟨.slice (some ⟨ab, ao, none⟩) al ac, by
        have x8 := (ev_form a 8).trans (old hp 8 (v := .slice (some ⟨ab, ao, none⟩) al ac) (by kernel_rfl) e8)
        go_simp, rfl, fun e => absurd e (by decide)⟩)
    · exact sa_val (by decide) (by decide) (fun l a w hp hu => ⟨(und hp (k := 6) (j := 8) (by kernel_rfl) (und hp (k := 5) (j := 6) (by kernel_rfl) (und hp (k := 4) (j := 5) (by kernel_rfl) (und hp (k := 3) (j := 4) (by kernel_rfl) hu)))), (und hp (k := 3) (j := 10) (by kernel_rfl) hu)⟩) rfl (fun l a V hp h1 hB ha => ⟨.int .i64 (k : Int), by
        have x21 := (ev_form a 21).trans (old hp 21 (v := .int .i64 (k : Int)) (by kernel_rfl) e21)
        go_simp, rfl, fun e => absurd e (by decide)⟩)
    · exact sa_val (by decide) (by decide) (fun l a w hp hu => ⟨(und hp (k := 6) (j := 8) (by kernel_rfl) (und hp (k := 5) (j := 6) (by kernel_rfl) (und hp (k := 4) (j := 5) (by kernel_rfl) hu))), (und hp (k := 4) (j := 10) (by kernel_rfl) hu)⟩) rfl (fun l a V hp h1 hB ha => ⟨.pointer (some ⟨ab, ao + k, none⟩), by
        have x215 := (ev_form a 215).trans (show a.eval (.tmp 215) = .slice (some ⟨ab, ao, none⟩) al ac from (kn hp ha 215 2 (by kernel_rfl) (by kernel_rfl)).1)
        have x216 := (ev_form a 216).trans (show a.eval (.tmp 216) = .int .i64 (k : Int) from (kn hp ha 216 3 (by kernel_rfl) (by kernel_rfl)).1)
        go_simp, rfl, fun e => absurd e (by decide)⟩)
    · exact sa_val (by decide) (by decide) (fun l a w hp hu => ⟨(und hp (k := 6) (j := 8) (by kernel_rfl) (und hp (k := 5) (j := 6) (by kernel_rfl) hu)), (und hp (k := 5) (j := 10) (by kernel_rfl) hu)⟩) rfl (fun l a V hp h1 hB ha => ⟨.int .i64 (b2i A), by
        have x217 := (ev_form a 217).trans (show a.eval (.tmp 217) = .pointer (some ⟨ab, ao + k, none⟩) from (kn hp ha 217 4 (by kernel_rfl) (by kernel_rfl)).1)
        have mz := cell_later hB (unhide HZ)
        go_simp, rfl, fun e => absurd e (by decide)⟩)
    · exact sa_call (f := 25) (F2S.lasts _ _ _) (by decide) (by decide) (fun l a w hp hu => ⟨(und hp (k := 6) (j := 8) (by kernel_rfl) hu), (und hp (k := 6) (j := 10) (by kernel_rfl) hu)⟩) rfl (fun l a V hp h1 hB ha => ⟨#[.int .i64 (b2i A)], by
        have x218 := (ev_form a 218).trans (show a.eval (.tmp 218) = .int .i64 (b2i A) from (kn hp ha 218 5 (by kernel_rfl) (by kernel_rfl)).1)
        go_simp, (unhide HCT V).mono (by rintro e V1 ⟨rfl, hb⟩; exact ⟨_, rfl, rfl, fun e => absurd e (by decide), hb⟩)⟩)
    · exact sa_new (F2S.lasts _ _ _) (by decide) (by decide) (fun l a w hp hu => ⟨(und hp (k := 7) (j := 8) (by kernel_rfl) hu), (und hp (k := 7) (j := 10) (by kernel_rfl) hu)⟩) rfl (fun l a V hp h1 hB ha => ⟨.slice (some ⟨V.heap.size, 0, none⟩) 1 1, .cells #[.string (txt1 A)] 9, by
        have x219 := (ev_form a 219).trans (show a.eval (.tmp 219) = .string (txt1 A) from (kn hp ha 219 6 (by kernel_rfl) (by kernel_rfl)).1)
        go_simp, trivial, fun _ => ⟨V.heap.size, rfl, hB.size, by rw [World.cell?_alloc_new]; rfl⟩⟩)
    · refine sa_app (by decide) (fun l a w hp hu => (und hp (k := 8) (j := 10) (by kernel_rfl) hu)) rfl (fun l a V hp h1 hB ha => ?_)
      have hv1 : a.eval (.tmp 214) = tv := (kn hp ha 214 1 (by kernel_rfl) (by kernel_rfl)).1
      obtain ⟨M1, hv2, hM, hMc⟩ := (kn hp ha 220 7 (by kernel_rfl) (by kernel_rfl)).2.1 h1 rfl
      have hot := (unhide HTV).later hB
      obtain ⟨v', w', hr, h2, h3, _⟩ := run_append_own (P := Tryz.prog) V N 22 22 9 i0 (.string ByteArray.empty) 1 16 Tryz.underlying22 (unhide HI).1 (unhide HI).2.1 (unhide HI).2.2.1 (unhide HI).2.2.2 rfl (by decide) tv acc.length _ hot.1 ⟨M1, 0, none⟩ 1 1 [.string (txt1 A)] rfl (by
        intro j u hj
        match j, hj with
        | 0, hj => simp at hj; subst hj; simpa [Addr.add] using hMc
        | j + 1, hj => simp at hj) (oneT _) (by have := unhide HAL; unfold maxLen; omega) (by have := unhide HAL; omega) (by have h1 := hB.size; have h2 := unhide HSZ; omega)
      refine ⟨v', w', ?_, ⟨OT.step h2 hot.2 (txt1_size A), V, hB, h3⟩, trivial⟩
      unfold execOp
      simp only [resolve, invoke, builtin, Sem.run_bind, Sem.run_pure, Result.andThen_ok, List.map_toArray, List.map_cons, List.map_nil, hv1, hv2, hr]
    · exact sa_float (by decide) (by decide) (fun l a w hp hu => (und hp (k := 9) (j := 10) (by kernel_rfl) hu)) rfl (fun l a V hp ha => ⟨.pointer (some ⟨q, 2, none⟩), by
        have x18 := (ev_form a 18).trans (old hp 18 (v := .pointer (some ⟨q, 0, none⟩)) (by kernel_rfl) e18)
        go_simp, rfl, fun e => absurd e (by decide)⟩)
    · refine sa_last (t := 221) (by decide) rfl rfl (by kernel_rfl) (fun l a V hp hA ha => ?_) trivial
      have x222 := (ev_form a 222).trans (show a.eval (.tmp 222) = .pointer (some ⟨q, 2, none⟩) from (kn hp ha 222 9 (by kernel_rfl) (by kernel_rfl)).1)
      have x221 := ev_form a 221
      obtain ⟨h1, V0, hV0, hgr⟩ := id hA
      have hlow := below_grown (hV0.mono (unhide HSZ)) hgr (by have := hV0.size; have := unhide HSZ; omega) (unhide HTV).row
      have m1 := hlow.cell (p := ⟨q, 2, none⟩) (unhide HQ4)
      rw [unhide HQC] at m1
      have m2 := hlow.frozen (p := ⟨q, 2, none⟩) (unhide HQ4)
      rw [unhide HQF] at m2
      generalize a.eval (.tmp 221) = tv' at *
      obtain ⟨sa, sl, sc, rfl⟩ := h1.shape
      exact ⟨V.setCell ⟨q, 2, none⟩ (.slice sa sl sc), by clear hA h1 hgr hlow; go_simp, ⟨V, _, hA, rfl⟩⟩
  case hf =>
    intro l a V hp hall
    obtain ⟨V', v, ⟨h1, V0, hV0, hgr⟩, hV⟩ := hp.j.2.1 (hall 10 (by decide))
    exact hQ a V V' v hp.nt hp.df (fun t ht => hp.keep t (dstIn (by kernel_rfl) ht)) h1 (below_grown (hV0.mono (unhide HSZ)) hgr (by have := hV0.size; have := unhide HSZ; omega) (unhide HTV).row) hV
end Go.Proofs.YtdmmbhemmbgcpabGreat
namespace Go.Proofs.YtdmmbhemmbgcpabGreat
open Go Go.RowKit Gs
set_option linter.unusedVariables false
set_option linter.unusedSimpArgs false
set_option maxRecDepth 100000
set_option maxHeartbeats 32000000 in
theorem prL8 {u0 u1 u3 u4 u5 u6 u7 u9 u10 u11 u12 u13 u14 u15 u16 u17 u19 u20 u22 u23 u24 u25 u26 u27 u28 u29 u30 u31 u32 u33 u34 u35 u36 u37 u38 u39 u40 u41 u42 u43 u44 u45 u46 u47 u48 u49 u50 u51 u52 u53 u54 u55 u56 u57 u58 u59 u60 u61 u62 u63 u64 u65 u66 u67 u68 u69 u70 u71 u72 u73 u74 u75 u76 u77 u78 u79 u80 u81 u82 u83 u84 u85 u86 u87 u88 u89 u90 u91 u92 u93 u94 u95 u96 u97 u98 u99 u100 u101 u102 u103 u104 u105 u106 u107 u108 u109 u110 u111 u112 u113 u114 u115 u116 u117 u118 u119 u120 u121 u122 u123 u124 u125 u126 u127 u128 u129 u130 u131 u132 u133 u134 u135 u136 u137 u138 u139 u140 u141 u142 u143 u144 u145 u146 u147 u148 u149 u150 u151 u152 u153 u154 u155 u156 u157 u158 u159 u160 u161 u162 u163 u164 u165 u166 u167 u168 u169 u170 u171 u172 u173 u174 u175 u176 u177 u178 u179 u180 u181 u182 u183 u184 u185 u186 u187 u188 u189 u190 u191 u192 u193 u194 u195 u196 u197 u198 u199 u200 u201 u202 u203 u204 u205 u206 u207 u208 u209 u210 u211 u212 u213 u214 u215 u216 u217 u218 u219 u220 u221 u222 u223 u224 u225 u226 u227 : Value} {q pb l2 c2 ls cs : Nat} {s2 az : Option Addr} {st : List Bool} {bs : List Block} {w W : World} {Q : Exit → Act → World → Prop} (hnb : bs.length ≤ 1000) (hst : ls = bs.length) (hsl : st.length = bs.length) (HRB : Hid (RS 6 RBlock w 0 bs (.slice s2 l2 c2))) (HW : Hid (∀ V, Fx q W V → Below w.heap.size w V)) (HBX : Hid (∀ V, Fx q W V → V.cell? ⟨pb, 2, none⟩ = some (.slice s2 l2 c2)))
    (HS : Hid (∀ V, Fx q W V → ∀ i, i < st.length → ∃ b o, az = some ⟨b, o, none⟩ ∧ ls ≤ cs ∧ V.cell? ⟨b, o + i, none⟩ = some (.int .i64 (b2i (st.getD i false))))) (hqW : q < W.heap.size) (HC : Hid (RC W q 2 (.slice none 0 0)))
    (hQ : ∀ (z21 z200 z201 z202 z203 z204 z205 z206 z207 z208 z209 z210 z211 z212 z213 z214 z215 z216 z217 z218 z219 z220 z221 z222 : Value) V v, OT W.heap.size V v ((numsB bs true bs.length).map (fun j : Int => txt1 (st.getD j.toNat false))) → Fx q W V → RC V q 2 v → (∀ i y, i ≠ 2 → RC W q i y → RC V q i y) → Q (.exit 14) { tmps := (u0 :: u1 :: .pointer (some ⟨pb, 0, none⟩) :: u3 :: u4 :: u5 :: u6 :: u7 :: .slice az ls cs :: u9 :: u10 :: u11 :: u12 :: u13 :: u14 :: u15 :: u16 :: u17 :: .pointer (some ⟨q, 0, none⟩) :: u19 :: u20 :: z21 :: u22 :: u23 :: u24 :: u25 :: u26 :: u27 :: u28 :: u29 :: u30 :: u31 :: u32 :: u33 :: u34 :: u35 :: u36 :: u37 :: u38 :: u39 :: u40 :: u41 :: u42 :: u43 :: u44 :: u45 :: u46 :: u47 :: u48 :: u49 :: u50 :: u51 :: u52 :: u53 :: u54 :: u55 :: u56 :: u57 :: u58 :: u59 :: u60 :: u61 :: u62 :: u63 :: u64 :: u65 :: u66 :: u67 :: u68 :: u69 :: u70 :: u71 :: u72 :: u73 :: u74 :: u75 :: u76 :: u77 :: u78 :: u79 :: u80 :: u81 :: u82 :: u83 :: u84 :: u85 :: u86 :: u87 :: u88 :: u89 :: u90 :: u91 :: u92 :: u93 :: u94 :: u95 :: u96 :: u97 :: u98 :: u99 :: u100 :: u101 :: u102 :: u103 :: u104 :: u105 :: u106 :: u107 :: u108 :: u109 :: u110 :: u111 :: u112 :: u113 :: u114 :: u115 :: u116 :: u117 :: u118 :: u119 :: u120 :: u121 :: u122 :: u123 :: u124 :: u125 :: u126 :: u127 :: u128 :: u129 :: u130 :: u131 :: u132 :: u133 :: u134 :: u135 :: u136 :: u137 :: u138 :: u139 :: u140 :: u141 :: u142 :: u143 :: u144 :: u145 :: u146 :: u147 :: u148 :: u149 :: u150 :: u151 :: u152 :: u153 :: u154 :: u155 :: u156 :: u157 :: u158 :: u159 :: u160 :: u161 :: u162 :: u163 :: u164 :: u165 :: u166 :: u167 :: u168 :: u169 :: u170 :: u171 :: u172 :: u173 :: u174 :: u175 :: u176 :: u177 :: u178 :: u179 :: u180 :: u181 :: u182 :: u183 :: u184 :: u185 :: u186 :: u187 :: u188 :: u189 :: u190 :: u191 :: u192 :: u193 :: u194 :: u195 :: u196 :: u197 :: u198 :: u199 :: z200 :: z201 :: z202 :: z203 :: z204 :: z205 :: z206 :: z207 :: z208 :: z209 :: z210 :: z211 :: z212 :: z213 :: z214 :: z215 :: z216 :: z217 :: z218 :: z219 :: z220 :: z221 :: z222 :: u223 :: u224 :: u225 :: u226 :: u227 :: []).toArray, defers := [] } V) :
    Code.wp Tryz.prog (atB 14 (bodyOf Tryz.f6)) Q { tmps := (u0 :: u1 :: .pointer (some ⟨pb, 0, none⟩) :: u3 :: u4 :: u5 :: u6 :: u7 :: .slice az ls cs :: u9 :: u10 :: u11 :: u12 :: u13 :: u14 :: u15 :: u16 :: u17 :: .pointer (some ⟨q, 0, none⟩) :: u19 :: u20 :: .int .i64 0 :: u22 :: u23 :: u24 :: u25 :: u26 :: u27 :: u28 :: u29 :: u30 :: u31 :: u32 :: u33 :: u34 :: u35 :: u36 :: u37 :: u38 :: u39 :: u40 :: u41 :: u42 :: u43 :: u44 :: u45 :: u46 :: u47 :: u48 :: u49 :: u50 :: u51 :: u52 :: u53 :: u54 :: u55 :: u56 :: u57 :: u58 :: u59 :: u60 :: u61 :: u62 :: u63 :: u64 :: u65 :: u66 :: u67 :: u68 :: u69 :: u70 :: u71 :: u72 :: u73 :: u74 :: u75 :: u76 :: u77 :: u78 :: u79 :: u80 :: u81 :: u82 :: u83 :: u84 :: u85 :: u86 :: u87 :: u88 :: u89 :: u90 :: u91 :: u92 :: u93 :: u94 :: u95 :: u96 :: u97 :: u98 :: u99 :: u100 :: u101 :: u102 :: u103 :: u104 :: u105 :: u106 :: u107 :: u108 :: u109 :: u110 :: u111 :: u112 :: u113 :: u114 :: u115 :: u116 :: u117 :: u118 :: u119 :: u120 :: u121 :: u122 :: u123 :: u124 :: u125 :: u126 :: u127 :: u128 :: u129 :: u130 :: u131 :: u132 :: u133 :: u134 :: u135 :: u136 :: u137 :: u138 :: u139 :: u140 :: u141 :: u142 :: u143 :: u144 :: u145 :: u146 :: u147 :: u148 :: u149 :: u150 :: u151 :: u152 :: u153 :: u154 :: u155 :: u156 :: u157 :: u158 :: u159 :: u160 :: u161 :: u162 :: u163 :: u164 :: u165 :: u166 :: u167 :: u168 :: u169 :: u170 :: u171 :: u172 :: u173 :: u174 :: u175 :: u176 :: u177 :: u178 :: u179 :: u180 :: u181 :: u182 :: u183 :: u184 :: u185 :: u186 :: u187 :: u188 :: u189 :: u190 :: u191 :: u192 :: u193 :: u194 :: u195 :: u196 :: u197 :: u198 :: u199 :: u200 :: u201 :: u202 :: u203 :: u204 :: u205 :: u206 :: u207 :: u208 :: u209 :: u210 :: u211 :: u212 :: u213 :: u214 :: u215 :: u216 :: u217 :: u218 :: u219 :: u220 :: u221 :: u222 :: u223 :: u224 :: u225 :: u226 :: u227 :: []).toArray, defers := [] } W := by
  have hl2 : l2 = bs.length := by
    obtain ⟨a, c, hv, _⟩ := unhide HRB
    injection hv with e1 e2 e3
  have HL2 := hide hl2
  have HST0 := hide hst
  have HSL := hide hsl
  have hL1 : l2 ≤ 1000 := by omega
  have HQ := hide hQ
  clear hQ hl2 hst hsl
  conv => arg 2; whnf
  go_loopw [21] (fun i wr => ∃ (k : Nat) (tv : Value), k ≤ l2 ∧ i = .int .i64 k ∧ OT W.heap.size wr tv ((numsB bs true k).map (fun j : Int => txt1 (st.getD j.toNat false))) ∧ Fx q W wr ∧ RC wr q 2 tv ∧ (∀ i y, i ≠ 2 → RC W q i y → RC wr q i y)) (fun i wr => l2 - (intOf i).toNat)
  case atStart => exact ⟨0, _, Nat.zero_le _, rfl, OT_nil _ _, Fx.refl _ _, unhide HC, fun _ _ _ h => h⟩
  case round =>
    obtain ⟨k, tv, hk, rfl, hot, hfx, hcj, hoth⟩ := hrel
    have q2 := unhide HBX wr hfx
    by_cases hlt : k < l2
    · have hkb : k < bs.length := by have := unhide HL2; omega
      have hx := getD_some hkb
      have HST : Hid ((numsB bs true (k + 1)).map (fun j : Int => txt1 (st.getD j.toNat false)) = (numsB bs true k).map (fun j : Int => txt1 (st.getD j.toNat false)) ++ (if (bs.getD k blk0).reg = true then [txt1 (st.getD k false)] else [])) := hide (by
        rw [numsB, List.map_append]
        congr 1
        cases (bs.getD k blk0).reg <;> simp)
      generalize bs.getD k blk0 = b at hx HST
      obtain ⟨b2, o2, a1, d1, hs2, hcap, _, hcell, _, _⟩ := block_cells (unhide HRB) hx
      subst hs2
      obtain ⟨bz, oz, haz, hzc, hz⟩ := unhide HS wr hfx k (by have := unhide HSL; omega)
      subst haz
      have z3 := cell_later (unhide HW wr hfx) (hcell 3 _ rfl)
      have HAL : Hid (((numsB bs true k).map (fun j : Int => txt1 (st.getD j.toNat false))).length ≤ 1048576) := hide (by
        rw [List.length_map]
        have := numsB_two bs k
        omega)
      have HOT := hide hot
      have HFX := hide hfx
      have HCJ := hide hcj
      have HOTH := hide hoth
      have HZ := hide hz
      have i0 : (0 : Int) ≤ (k : Int) := by omega
      have i1 : (k : Int) < (l2 : Int) := by omega
      have hkl : k < ls := by have := unhide HST0; omega
      have hls : ls ≤ 1048576 := by have := unhide HST0; omega
      clear hot hfx hcj hoth hx hcell hz HRB HS hkb
      generalize (numsB bs true k).map (fun j : Int => txt1 (st.getD j.toNat false)) = acc at *
      generalize st.getD k false = A at *
      cases hreg : b.reg
      · rw [hreg] at HST z3
        have HST2 : Hid ((numsB bs true (k + 1)).map (fun j : Int => txt1 (st.getD j.toNat false)) = acc) := hide (by rw [unhide HST]; simp)
        clear hreg
        go_wp2_with fail
        go_roundw
        case rel => exact ⟨k + 1, tv, by omega, by go_num, by rw [unhide HST2]; exact unhide HOT, unhide HFX, unhide HCJ, unhide HOTH⟩
        case measure => simp [intOf]; omega
      · rw [hreg] at HST z3
        have HST2 : Hid ((numsB bs true (k + 1)).map (fun j : Int => txt1 (st.getD j.toNat false)) = acc ++ [txt1 A]) := hide (by rw [unhide HST]; simp)
        clear hreg
        go_wp2_with fail
        refine prRegs HOT (unhide HOT).shape HAL (hide (unhide HFX).size) (hide hqW) (hide (unhide HCJ).1) (hide (unhide HCJ).2) hkl hls HZ _ rfl rfl rfl rfl ?_
        intro a V V' v hnt hdf hkeep hOT' hlow hV
        obtain ⟨us, rfl, hus⟩ := putAll_of [213, 214, 215, 216, 217, 218, 219, 220, 221, 222] hnt hdf hkeep
        have HR := hide (row_step rfl hqW (unhide HFX) (unhide HCJ) (unhide HOTH) hOT' hlow hV)
        clear hnt hdf hkeep hus hV hOT' hlow
        simp only [putAll, List.foldl, Act.put, List.setIfInBounds_toArray, List.set_cons_zero, List.set_cons_succ]
        generalize us 213 = z213 at *
        generalize us 214 = z214 at *
        generalize us 215 = z215 at *
        generalize us 216 = z216 at *
        generalize us 217 = z217 at *
        generalize us 218 = z218 at *
        generalize us 219 = z219 at *
        generalize us 220 = z220 at *
        generalize us 221 = z221 at *
        generalize us 222 = z222 at *
        go_wp2_with fail
        go_roundw
        case rel => exact ⟨k + 1, v, by omega, by go_num, by rw [unhide HST2]; exact (unhide HR).1, (unhide HR).2⟩
        case measure => simp [intOf]; omega
    · obtain rfl : k = l2 := by omega
      rw [unhide HL2] at hot
      have HOT := hide hot
      have HFX := hide hfx
      have HCJ := hide hcj
      have HOTH := hide hoth
      clear hot hfx hcj hoth
      go_wp2_with fail
      exact unhide HQ _ _ _ _ _ _ _ _ _ _ _ _ _ _ _ _ _ _ _ _ _ _ _ _ wr tv (unhide HOT) (unhide HFX) (unhide HCJ) (unhide HOTH)
end Go.Proofs.YtdmmbhemmbgcpabGreat
