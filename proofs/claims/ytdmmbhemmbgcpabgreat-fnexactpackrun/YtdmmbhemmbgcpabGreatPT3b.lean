/- The specification's PackRun: the region that puts a check's text to a row. -/
import Derived.Test.YtdmmbhemmbgcpabGreatPT3
namespace Go.Proofs.YtdmmbhemmbgcpabGreat
open Go Go.RowKit Gs
set_option linter.unusedVariables false
set_option linter.unusedSimpArgs false
set_option maxRecDepth 100000
def prChecksOps : Array Oper := #[{ dst := some 183, op := Go.Op.fieldAddr 71 (Go.Operand.tmp 18) 1, type := 0, pos := "l15_place.go:180", after := #[], guard := none }, { dst := some 184, op := Go.Op.load 22 (Go.Operand.tmp 183), type := 22, pos := "l15_place.go:180", after := #[{ on := 0, ground := Go.Ground.data }], guard := none }, { dst := some 185, op := Go.Op.load 36 (Go.Operand.tmp 2), type := 36, pos := "l15_place.go:180", after := #[], guard := none }, { dst := some 186, op := Go.Op.fieldAddr 36 (Go.Operand.tmp 2) 4, type := 0, pos := "l15_place.go:180", after := #[], guard := none }, { dst := some 187, op := Go.Op.load 34 (Go.Operand.tmp 186), type := 34, pos := "l15_place.go:180", after := #[{ on := 3, ground := Go.Ground.data }], guard := none }, { dst := some 188, op := Go.Op.move (Go.Operand.tmp 20), type := 3, pos := "l15_place.go:180", after := #[], guard := none }, { dst := some 189, op := Go.Op.indexAddr 34 (Go.Operand.tmp 187) (Go.Operand.tmp 188), type := 0, pos := "l15_place.go:180", after := #[{ on := 4, ground := Go.Ground.data }, { on := 5, ground := Go.Ground.data }], guard := none }, { dst := some 190, op := Go.Op.fieldAddr 75 (Go.Operand.tmp 189) 1, type := 0, pos := "l15_place.go:180", after := #[{ on := 6, ground := Go.Ground.data }], guard := none }, { dst := some 191, op := Go.Op.load 3 (Go.Operand.tmp 190), type := 3, pos := "l15_place.go:180", after := #[{ on := 7, ground := Go.Ground.data }], guard := none }, { dst := some 192, op := Go.Op.move (Go.Operand.tmp 13), type := 64, pos := "l15_place.go:180", after := #[], guard := none }, { dst := some 193, op := Go.Op.move (Go.Operand.tmp 8), type := 64, pos := "l15_place.go:180", after := #[], guard := none }, { dst := some 194, op := Go.Op.move (Go.Operand.tmp 15), type := 64, pos := "l15_place.go:180", after := #[], guard := none }, { dst := some 195, op := Go.Op.call { callee := Go.Callee.value (Go.Operand.func 26), args := #[Go.Operand.tmp 185, Go.Operand.tmp 191, Go.Operand.tmp 192, Go.Operand.tmp 193, Go.Operand.tmp 194], argTypes := #[36, 3, 64, 64, 64] }, type := 3, pos := "l15_place.go:180", after := #[{ on := 2, ground := Go.Ground.data }, { on := 8, ground := Go.Ground.data }, { on := 9, ground := Go.Ground.data }, { on := 10, ground := Go.Ground.data }, { on := 11, ground := Go.Ground.data }], guard := none }, { dst := some 196, op := Go.Op.call { callee := Go.Callee.value (Go.Operand.func 25), args := #[Go.Operand.tmp 195], argTypes := #[3] }, type := 9, pos := "l15_place.go:180", after := #[{ on := 12, ground := Go.Ground.data }, { on := 12, ground := Go.Ground.chain }], guard := none }, { dst := some 197, op := Go.Op.buildSlice 22 1 #[(0, Go.Operand.tmp 196)], type := 22, pos := "l15_place.go:180", after := #[{ on := 13, ground := Go.Ground.data }], guard := none }, { dst := some 198, op := Go.Op.call { callee := Go.Callee.builtin Go.Builtin.append, args := #[Go.Operand.tmp 184, Go.Operand.tmp 197], argTypes := #[22, 22] }, type := 22, pos := "l15_place.go:180", after := #[{ on := 1, ground := Go.Ground.data }, { on := 14, ground := Go.Ground.data }, { on := 13, ground := Go.Ground.chain }], guard := none }, { dst := some 199, op := Go.Op.fieldAddr 71 (Go.Operand.tmp 18) 1, type := 0, pos := "l15_place.go:180", after := #[{ on := 0, ground := Go.Ground.phase }, { on := 1, ground := Go.Ground.phase }, { on := 2, ground := Go.Ground.phase }, { on := 3, ground := Go.Ground.phase }, { on := 4, ground := Go.Ground.phase }, { on := 5, ground := Go.Ground.phase }, { on := 6, ground := Go.Ground.phase }, { on := 7, ground := Go.Ground.phase }, { on := 8, ground := Go.Ground.phase }, { on := 9, ground := Go.Ground.phase }, { on := 10, ground := Go.Ground.phase }, { on := 11, ground := Go.Ground.phase }, { on := 12, ground := Go.Ground.phase }, { on := 13, ground := Go.Ground.phase }, { on := 14, ground := Go.Ground.phase }, { on := 15, ground := Go.Ground.phase }], guard := none }, { dst := none, op := Go.Op.store 22 (Go.Operand.tmp 199) (Go.Operand.tmp 198), type := 0, pos := "l15_place.go:180", after := #[{ on := 16, ground := Go.Ground.data }, { on := 15, ground := Go.Ground.data }, { on := 15, ground := Go.Ground.chain }, { on := 0, ground := Go.Ground.phase }, { on := 1, ground := Go.Ground.phase }, { on := 2, ground := Go.Ground.phase }, { on := 3, ground := Go.Ground.phase }, { on := 4, ground := Go.Ground.phase }, { on := 5, ground := Go.Ground.phase }, { on := 6, ground := Go.Ground.phase }, { on := 7, ground := Go.Ground.phase }, { on := 8, ground := Go.Ground.phase }, { on := 9, ground := Go.Ground.phase }, { on := 10, ground := Go.Ground.phase }, { on := 11, ground := Go.Ground.phase }, { on := 12, ground := Go.Ground.phase }, { on := 13, ground := Go.Ground.phase }, { on := 14, ground := Go.Ground.phase }, { on := 15, ground := Go.Ground.phase }], guard := none }]
def prChecksF {s0 s1 s2 s3 s4 : Option Addr} {l0 c0 l1 c1 l2 c2 l3 c3 l4 c4 : Nat} (q pb ab ao al ac k g N : Nat) (vi vs tv : Value) (y : Int) (A : Bool) : Nat → Value → Prop
  | 0, v => v = .pointer (some ⟨q, 1, none⟩)
  | 1, v => v = tv
  | 2, v => v = .agg #[.slice s0 l0 c0, .slice s1 l1 c1, .slice s2 l2 c2, .slice s3 l3 c3, .slice s4 l4 c4]
  | 3, v => v = .pointer (some ⟨pb, 4, none⟩)
  | 4, v => v = .slice (some ⟨ab, ao, none⟩) al ac
  | 5, v => v = .int .i64 (k : Int)
  | 6, v => v = .pointer (some ⟨ab, ao + k * 2, none⟩)
  | 7, v => v = .pointer (some ⟨ab, ao + k * 2 + 1, none⟩)
  | 8, v => v = .int .i64 y
  | 9, v => v = vi
  | 10, v => v = vs
  | 11, v => v = .slice (some ⟨g, 0, none⟩) N N
  | 12, v => v = .int .i64 (b2i A)
  | 13, v => v = .string (txt1 A)
  | 16, v => v = .pointer (some ⟨q, 1, none⟩)
  | _, _ => True
set_option maxHeartbeats 32000000 in
theorem prChecks {s0 s1 s2 s3 s4 : Option Addr} {l0 c0 l1 c1 l2 c2 l3 c3 l4 c4 : Nat} {q pb ab ao al ac k g N B li ci ls cs : Nat} {ai az : Option Addr} {tv : Value} {y : Int} {A : Bool} {acc : List ByteArray} {x : Packed} {ins st : List Bool} {w wr : World} {Q : Exit → Act → World → Prop} (HTV : Hid (OT B wr tv acc)) (HAL : Hid (acc.length ≤ 1048576)) (HSZ : Hid (B ≤ wr.heap.size)) (HGB : Hid (g < q ∧ q < B)) (HQC : Hid (wr.cell? ⟨q, 1, none⟩ = some tv)) (HQF : Hid (wr.frozen? ⟨q, 1, none⟩ = false)) (hkl : k < al) (hk3 : al ≤ 1048576)
    (HPC : Hid (∀ U, Fx g wr U → U.cell? ⟨pb, 0, none⟩ = some (.slice s0 l0 c0) ∧ U.cell? ⟨pb, 1, none⟩ = some (.slice s1 l1 c1) ∧ U.cell? ⟨pb, 2, none⟩ = some (.slice s2 l2 c2) ∧ U.cell? ⟨pb, 3, none⟩ = some (.slice s3 l3 c3) ∧ U.cell? ⟨pb, 4, none⟩ = some (.slice s4 l4 c4) ∧ U.cell? ⟨ab, ao + k * 2 + 1, none⟩ = some (.int .i64 y))) (hs4 : s4 = some ⟨ab, ao, none⟩ ∧ l4 = al ∧ c4 = ac) (HSE : Hid (SE w g N x ins st (.slice ai li ci) (.slice az ls cs) wr))
    (HVY : Hid (∀ V, SE w g N x ins st (.slice ai li ci) (.slice az ls cs) V → Calls Tryz.prog 26 #[.agg #[.slice s0 l0 c0, .slice s1 l1 c1, .slice s2 l2 c2, .slice s3 l3 c3, .slice s4 l4 c4], .int .i64 y, .slice ai li ci, .slice az ls cs, .slice (some ⟨g, 0, none⟩) N N] V fun e w' => e = .returned (.int .i64 (b2i A)) ∧ SE w g N x ins st (.slice ai li ci) (.slice az ls cs) w' ∧ Fx g V w'))
    (a0 : Act) (ha0 : a0.tmps.size = 228) (e18 : a0.eval (.tmp 18) = .pointer (some ⟨q, 0, none⟩)) (e2 : a0.eval (.tmp 2) = .pointer (some ⟨pb, 0, none⟩)) (e20 : a0.eval (.tmp 20) = .int .i64 (k : Int)) (e13 : a0.eval (.tmp 13) = .slice ai li ci) (e8 : a0.eval (.tmp 8) = .slice az ls cs) (e15 : a0.eval (.tmp 15) = .slice (some ⟨g, 0, none⟩) N N)
    (hQ : ∀ a V V' v, a.tmps.size = a0.tmps.size → a.defers = a0.defers → (∀ t, t ∉ [183, 184, 185, 186, 187, 188, 189, 190, 191, 192, 193, 194, 195, 196, 197, 198, 199] → a.eval (.tmp t) = a0.eval (.tmp t)) → (fun v V => OT B V v (acc ++ [txt1 A]) ∧ ∃ V0, (SE w g N x ins st (.slice ai li ci) (.slice az ls cs) V0 ∧ Fx g wr V0) ∧ V0.grownBy V tv.ownBlock) v V' → V = V'.setCell ⟨q, 1, none⟩ v → Q .normal a V) :
    (Code.region 44 prChecksOps true).wp Tryz.prog Q a0 wr := by
  obtain ⟨i0, hi, hz0, hz1, hz2⟩ := info_parts info9
  have HI := hide (And.intro hi (And.intro hz0 (And.intro hz1 hz2)))
  have HMB : ∀ U U', SE w g N x ins st (.slice ai li ci) (.slice az ls cs) U ∧ Fx g wr U → Below U.heap.size U U' → SE w g N x ins st (.slice ai li ci) (.slice az ls cs) U' ∧ Fx g wr U' := fun U U' h hb => ⟨h.1.later hb, h.2.trans (Fx.of hb)⟩
  obtain ⟨hs, hl, hc⟩ := hs4
  subst hs hl hc
  have j1 : (0 : Int) ≤ (k : Int) := by omega
  have j2 : (k : Int) < (l4 : Int) := by omega
  clear hi hz0 hz1 hz2
  have HL : ∀ (k : Nat) (w w' : World) (v : Value), Fx g w w' → (fun (k : Nat) (U : World) (v : Value) => k = 14 → ∃ M1, v = .slice (some ⟨M1, 0, none⟩) 1 1 ∧ g < M1 ∧ U.cell? ⟨M1, 0, none⟩ = some (.string (txt1 A))) k w v → (fun (k : Nat) (U : World) (v : Value) => k = 14 → ∃ M1, v = .slice (some ⟨M1, 0, none⟩) 1 1 ∧ g < M1 ∧ U.cell? ⟨M1, 0, none⟩ = some (.string (txt1 A))) k w' v := by
    intro k w w' v hf h e
    obtain ⟨M1, h1, h2, h3⟩ := h e
    exact ⟨M1, h1, h2, hf.cell h3 (by omega)⟩
  refine wp_plan (GN (prChecksF (s0 := s0) (s1 := s1) (s2 := s2) (s3 := s3) (s4 := some ⟨ab, ao, none⟩) (l0 := l0) (l1 := l1) (l2 := l2) (l3 := l3) (l4 := l4) (c0 := c0) (c1 := c1) (c2 := c2) (c3 := c3) (c4 := c4) q pb ab ao l4 c4 k g N (.slice ai li ci) (.slice az ls cs) tv y A) (fun (k : Nat) (U : World) (v : Value) => k = 14 → ∃ M1, v = .slice (some ⟨M1, 0, none⟩) 1 1 ∧ g < M1 ∧ U.cell? ⟨M1, 0, none⟩ = some (.string (txt1 A))) 15 17 (fun v V => OT B V v (acc ++ [txt1 A]) ∧ ∃ V0, (SE w g N x ins st (.slice ai li ci) (.slice az ls cs) V0 ∧ Fx g wr V0) ∧ V0.grownBy V tv.ownBlock)) (JN (fun U => SE w g N x ins st (.slice ai li ci) (.slice az ls cs) U ∧ Fx g wr U) 15 17 (fun v V => OT B V v (acc ++ [txt1 A]) ∧ ∃ V0, (SE w g N x ins st (.slice ai li ci) (.slice az ls cs) V0 ∧ Fx g wr V0) ∧ V0.grownBy V tv.ownBlock) (fun V' => ∃ V v, (fun v V => OT B V v (acc ++ [txt1 A]) ∧ ∃ V0, (SE w g N x ins st (.slice ai li ci) (.slice az ls cs) V0 ∧ Fx g wr V0) ∧ V0.grownBy V tv.ownBlock) v V ∧ V' = V.setCell ⟨q, 1, none⟩ v)) (by kernel_rfl) 228 ha0 (by kernel_rfl) ?hj ?hs ?hf
  case hj => exact JN.start ⟨(unhide HSE).later (bdr (brf wr)), Fx.of (bdr (brf wr))⟩
  case hs =>
    refine ⟨?_, ?_, ?_, ?_, ?_, ?_, ?_, ?_, ?_, ?_, ?_, ?_, ?_, ?_, ?_, ?_, ?_, ?_, trivial⟩
    · exact sn_val (by decide) (by decide) (fun l a w hp hu => ⟨(und hp (k := 1) (j := 15) (by kernel_rfl) (und hp (k := 0) (j := 1) (by kernel_rfl) hu)), (und hp (k := 0) (j := 17) (by kernel_rfl) hu)⟩) rfl (fun l a V hp h1 hM ha => ⟨.pointer (some ⟨q, 1, none⟩), by
        have x18 := (ev_form a 18).trans (old hp 18 (v := .pointer (some ⟨q, 0, none⟩)) (by kernel_rfl) e18)
        go_simp, rfl, (fun e => absurd e (by decide))⟩)
    · exact sn_val (by decide) (by decide) (fun l a w hp hu => ⟨(und hp (k := 1) (j := 15) (by kernel_rfl) hu), (und hp (k := 1) (j := 17) (by kernel_rfl) hu)⟩) rfl (fun l a V hp h1 hM ha => ⟨tv, by
        have x183 := (ev_form a 183).trans (show a.eval (.tmp 183) = .pointer (some ⟨q, 1, none⟩) from (kn hp ha 183 0 (by kernel_rfl) (by kernel_rfl)).1)
        have mq := hM.2.cell (unhide HQC) (by have := (unhide HGB).1; omega)
        go_simp, rfl, (fun e => absurd e (by decide))⟩)
    · exact sn_val (by decide) (by decide) (fun l a w hp hu => ⟨(und hp (k := 13) (j := 15) (by kernel_rfl) (und hp (k := 12) (j := 13) (by kernel_rfl) (und hp (k := 2) (j := 12) (by kernel_rfl) hu))), (und hp (k := 2) (j := 17) (by kernel_rfl) hu)⟩) rfl (fun l a V hp h1 hM ha => ⟨.agg #[.slice s0 l0 c0, .slice s1 l1 c1, .slice s2 l2 c2, .slice s3 l3 c3, .slice (some ⟨ab, ao, none⟩) l4 c4], by
        have x2 := (ev_form a 2).trans (old hp 2 (v := .pointer (some ⟨pb, 0, none⟩)) (by kernel_rfl) e2)
        obtain ⟨⟨q0, q1, q2, q3, q4⟩, q5⟩ : (V.cell? ⟨pb, 0, none⟩ = some (.slice s0 l0 c0) ∧ V.cell? ⟨pb, 1, none⟩ = some (.slice s1 l1 c1) ∧ V.cell? ⟨pb, 2, none⟩ = some (.slice s2 l2 c2) ∧ V.cell? ⟨pb, 3, none⟩ = some (.slice s3 l3 c3) ∧ V.cell? ⟨pb, 4, none⟩ = some (.slice (some ⟨ab, ao, none⟩) l4 c4)) ∧ V.cell? ⟨ab, ao + k * 2 + 1, none⟩ = some (.int .i64 y) := by
          have h := unhide HPC V hM.2
          exact ⟨⟨h.1, h.2.1, h.2.2.1, h.2.2.2.1, h.2.2.2.2.1⟩, h.2.2.2.2.2⟩
        go_simp, rfl, (fun e => absurd e (by decide))⟩)
    · exact sn_val (by decide) (by decide) (fun l a w hp hu => ⟨(und hp (k := 13) (j := 15) (by kernel_rfl) (und hp (k := 12) (j := 13) (by kernel_rfl) (und hp (k := 8) (j := 12) (by kernel_rfl) (und hp (k := 7) (j := 8) (by kernel_rfl) (und hp (k := 6) (j := 7) (by kernel_rfl) (und hp (k := 4) (j := 6) (by kernel_rfl) (und hp (k := 3) (j := 4) (by kernel_rfl) hu))))))), (und hp (k := 3) (j := 17) (by kernel_rfl) hu)⟩) rfl (fun l a V hp h1 hM ha => ⟨.pointer (some ⟨pb, 4, none⟩), by
        have x2 := (ev_form a 2).trans (old hp 2 (v := .pointer (some ⟨pb, 0, none⟩)) (by kernel_rfl) e2)
        go_simp, rfl, (fun e => absurd e (by decide))⟩)
    · exact sn_val (by decide) (by decide) (fun l a w hp hu => ⟨(und hp (k := 13) (j := 15) (by kernel_rfl) (und hp (k := 12) (j := 13) (by kernel_rfl) (und hp (k := 8) (j := 12) (by kernel_rfl) (und hp (k := 7) (j := 8) (by kernel_rfl) (und hp (k := 6) (j := 7) (by kernel_rfl) (und hp (k := 4) (j := 6) (by kernel_rfl) hu)))))), (und hp (k := 4) (j := 17) (by kernel_rfl) hu)⟩) rfl (fun l a V hp h1 hM ha => ⟨.slice (some ⟨ab, ao, none⟩) l4 c4, by
        have x186 := (ev_form a 186).trans (show a.eval (.tmp 186) = .pointer (some ⟨pb, 4, none⟩) from (kn hp ha 186 3 (by kernel_rfl) (by kernel_rfl)).1)
        obtain ⟨⟨q0, q1, q2, q3, q4⟩, q5⟩ : (V.cell? ⟨pb, 0, none⟩ = some (.slice s0 l0 c0) ∧ V.cell? ⟨pb, 1, none⟩ = some (.slice s1 l1 c1) ∧ V.cell? ⟨pb, 2, none⟩ = some (.slice s2 l2 c2) ∧ V.cell? ⟨pb, 3, none⟩ = some (.slice s3 l3 c3) ∧ V.cell? ⟨pb, 4, none⟩ = some (.slice (some ⟨ab, ao, none⟩) l4 c4)) ∧ V.cell? ⟨ab, ao + k * 2 + 1, none⟩ = some (.int .i64 y) := by
          have h := unhide HPC V hM.2
          exact ⟨⟨h.1, h.2.1, h.2.2.1, h.2.2.2.1, h.2.2.2.2.1⟩, h.2.2.2.2.2⟩
        go_simp, rfl, (fun e => absurd e (by decide))⟩)
    · exact sn_val (by decide) (by decide) (fun l a w hp hu => ⟨(und hp (k := 13) (j := 15) (by kernel_rfl) (und hp (k := 12) (j := 13) (by kernel_rfl) (und hp (k := 8) (j := 12) (by kernel_rfl) (und hp (k := 7) (j := 8) (by kernel_rfl) (und hp (k := 6) (j := 7) (by kernel_rfl) (und hp (k := 5) (j := 6) (by kernel_rfl) hu)))))), (und hp (k := 5) (j := 17) (by kernel_rfl) hu)⟩) rfl (fun l a V hp h1 hM ha => ⟨.int .i64 (k : Int), by
        have x20 := (ev_form a 20).trans (old hp 20 (v := .int .i64 (k : Int)) (by kernel_rfl) e20)
        go_simp, rfl, (fun e => absurd e (by decide))⟩)
    · exact sn_val (by decide) (by decide) (fun l a w hp hu => ⟨(und hp (k := 13) (j := 15) (by kernel_rfl) (und hp (k := 12) (j := 13) (by kernel_rfl) (und hp (k := 8) (j := 12) (by kernel_rfl) (und hp (k := 7) (j := 8) (by kernel_rfl) (und hp (k := 6) (j := 7) (by kernel_rfl) hu))))), (und hp (k := 6) (j := 17) (by kernel_rfl) hu)⟩) rfl (fun l a V hp h1 hM ha => ⟨.pointer (some ⟨ab, ao + k * 2, none⟩), by
        have x187 := (ev_form a 187).trans (show a.eval (.tmp 187) = .slice (some ⟨ab, ao, none⟩) l4 c4 from (kn hp ha 187 4 (by kernel_rfl) (by kernel_rfl)).1)
        have x188 := (ev_form a 188).trans (show a.eval (.tmp 188) = .int .i64 (k : Int) from (kn hp ha 188 5 (by kernel_rfl) (by kernel_rfl)).1)
        go_simp, rfl, (fun e => absurd e (by decide))⟩)
    · exact sn_val (by decide) (by decide) (fun l a w hp hu => ⟨(und hp (k := 13) (j := 15) (by kernel_rfl) (und hp (k := 12) (j := 13) (by kernel_rfl) (und hp (k := 8) (j := 12) (by kernel_rfl) (und hp (k := 7) (j := 8) (by kernel_rfl) hu)))), (und hp (k := 7) (j := 17) (by kernel_rfl) hu)⟩) rfl (fun l a V hp h1 hM ha => ⟨.pointer (some ⟨ab, ao + k * 2 + 1, none⟩), by
        have x189 := (ev_form a 189).trans (show a.eval (.tmp 189) = .pointer (some ⟨ab, ao + k * 2, none⟩) from (kn hp ha 189 6 (by kernel_rfl) (by kernel_rfl)).1)
        go_simp, rfl, (fun e => absurd e (by decide))⟩)
    · exact sn_val (by decide) (by decide) (fun l a w hp hu => ⟨(und hp (k := 13) (j := 15) (by kernel_rfl) (und hp (k := 12) (j := 13) (by kernel_rfl) (und hp (k := 8) (j := 12) (by kernel_rfl) hu))), (und hp (k := 8) (j := 17) (by kernel_rfl) hu)⟩) rfl (fun l a V hp h1 hM ha => ⟨.int .i64 y, by
        have x190 := (ev_form a 190).trans (show a.eval (.tmp 190) = .pointer (some ⟨ab, ao + k * 2 + 1, none⟩) from (kn hp ha 190 7 (by kernel_rfl) (by kernel_rfl)).1)
        obtain ⟨⟨q0, q1, q2, q3, q4⟩, q5⟩ : (V.cell? ⟨pb, 0, none⟩ = some (.slice s0 l0 c0) ∧ V.cell? ⟨pb, 1, none⟩ = some (.slice s1 l1 c1) ∧ V.cell? ⟨pb, 2, none⟩ = some (.slice s2 l2 c2) ∧ V.cell? ⟨pb, 3, none⟩ = some (.slice s3 l3 c3) ∧ V.cell? ⟨pb, 4, none⟩ = some (.slice (some ⟨ab, ao, none⟩) l4 c4)) ∧ V.cell? ⟨ab, ao + k * 2 + 1, none⟩ = some (.int .i64 y) := by
          have h := unhide HPC V hM.2
          exact ⟨⟨h.1, h.2.1, h.2.2.1, h.2.2.2.1, h.2.2.2.2.1⟩, h.2.2.2.2.2⟩
        go_simp, rfl, (fun e => absurd e (by decide))⟩)
    · exact sn_val (by decide) (by decide) (fun l a w hp hu => ⟨(und hp (k := 13) (j := 15) (by kernel_rfl) (und hp (k := 12) (j := 13) (by kernel_rfl) (und hp (k := 9) (j := 12) (by kernel_rfl) hu))), (und hp (k := 9) (j := 17) (by kernel_rfl) hu)⟩) rfl (fun l a V hp h1 hM ha => ⟨.slice ai li ci, by
        have x13 := (ev_form a 13).trans (old hp 13 (v := .slice ai li ci) (by kernel_rfl) e13)
        go_simp, rfl, (fun e => absurd e (by decide))⟩)
    · exact sn_val (by decide) (by decide) (fun l a w hp hu => ⟨(und hp (k := 13) (j := 15) (by kernel_rfl) (und hp (k := 12) (j := 13) (by kernel_rfl) (und hp (k := 10) (j := 12) (by kernel_rfl) hu))), (und hp (k := 10) (j := 17) (by kernel_rfl) hu)⟩) rfl (fun l a V hp h1 hM ha => ⟨.slice az ls cs, by
        have x8 := (ev_form a 8).trans (old hp 8 (v := .slice az ls cs) (by kernel_rfl) e8)
        go_simp, rfl, (fun e => absurd e (by decide))⟩)
    · exact sn_val (by decide) (by decide) (fun l a w hp hu => ⟨(und hp (k := 13) (j := 15) (by kernel_rfl) (und hp (k := 12) (j := 13) (by kernel_rfl) (und hp (k := 11) (j := 12) (by kernel_rfl) hu))), (und hp (k := 11) (j := 17) (by kernel_rfl) hu)⟩) rfl (fun l a V hp h1 hM ha => ⟨.slice (some ⟨g, 0, none⟩) N N, by
        have x15 := (ev_form a 15).trans (old hp 15 (v := .slice (some ⟨g, 0, none⟩) N N) (by kernel_rfl) e15)
        go_simp, rfl, (fun e => absurd e (by decide))⟩)
    · exact sn_call (f := 26) HL (by decide) (by decide) (fun l a w hp hu => ⟨(und hp (k := 13) (j := 15) (by kernel_rfl) (und hp (k := 12) (j := 13) (by kernel_rfl) hu)), (und hp (k := 12) (j := 17) (by kernel_rfl) hu)⟩) rfl (fun l a V hp h1 hM ha => ⟨#[.agg #[.slice s0 l0 c0, .slice s1 l1 c1, .slice s2 l2 c2, .slice s3 l3 c3, .slice (some ⟨ab, ao, none⟩) l4 c4], .int .i64 y, .slice ai li ci, .slice az ls cs, .slice (some ⟨g, 0, none⟩) N N], by
        have x185 := (ev_form a 185).trans (show a.eval (.tmp 185) = .agg #[.slice s0 l0 c0, .slice s1 l1 c1, .slice s2 l2 c2, .slice s3 l3 c3, .slice (some ⟨ab, ao, none⟩) l4 c4] from (kn hp ha 185 2 (by kernel_rfl) (by kernel_rfl)).1)
        have x191 := (ev_form a 191).trans (show a.eval (.tmp 191) = .int .i64 y from (kn hp ha 191 8 (by kernel_rfl) (by kernel_rfl)).1)
        have x192 := (ev_form a 192).trans (show a.eval (.tmp 192) = .slice ai li ci from (kn hp ha 192 9 (by kernel_rfl) (by kernel_rfl)).1)
        have x193 := (ev_form a 193).trans (show a.eval (.tmp 193) = .slice az ls cs from (kn hp ha 193 10 (by kernel_rfl) (by kernel_rfl)).1)
        have x194 := (ev_form a 194).trans (show a.eval (.tmp 194) = .slice (some ⟨g, 0, none⟩) N N from (kn hp ha 194 11 (by kernel_rfl) (by kernel_rfl)).1)
        go_simp, (unhide HVY V hM.1).mono (by rintro e V1 ⟨rfl, h2, h3⟩; exact ⟨_, rfl, rfl, (fun e => absurd e (by decide)), ⟨h2, hM.2.trans h3⟩, h3⟩)⟩)
    · exact sn_call (f := 25) HL (by decide) (by decide) (fun l a w hp hu => ⟨(und hp (k := 13) (j := 15) (by kernel_rfl) hu), (und hp (k := 13) (j := 17) (by kernel_rfl) hu)⟩) rfl (fun l a V hp h1 hM ha => ⟨#[.int .i64 (b2i A)], by
        have x195 := (ev_form a 195).trans (show a.eval (.tmp 195) = .int .i64 (b2i A) from (kn hp ha 195 12 (by kernel_rfl) (by kernel_rfl)).1)
        go_simp, (sText A V).mono (by rintro e V1 ⟨rfl, rfl⟩; exact ⟨_, rfl, rfl, (fun e => absurd e (by decide)), hM, Fx.refl _ _⟩)⟩)
    · exact sn_new HMB HL (by decide) (by decide) (fun l a w hp hu => ⟨(und hp (k := 14) (j := 15) (by kernel_rfl) hu), (und hp (k := 14) (j := 17) (by kernel_rfl) hu)⟩) rfl (fun l a V hp h1 hM ha => ⟨.slice (some ⟨V.heap.size, 0, none⟩) 1 1, .cells #[.string (txt1 A)] 9, by
        have x196 := (ev_form a 196).trans (show a.eval (.tmp 196) = .string (txt1 A) from (kn hp ha 196 13 (by kernel_rfl) (by kernel_rfl)).1)
        go_simp, trivial, fun _ => ⟨V.heap.size, rfl, hM.1.lt, by rw [World.cell?_alloc_new]; rfl⟩⟩)
    · refine sn_app (by decide) (fun l a w hp hu => (und hp (k := 15) (j := 17) (by kernel_rfl) hu)) rfl (fun l a V hp h1 hM ha => ?_)
      have hv1 : a.eval (.tmp 184) = tv := (kn hp ha 184 1 (by kernel_rfl) (by kernel_rfl)).1
      obtain ⟨M1, hv2, hM0, hMc⟩ := (kn hp ha 197 14 (by kernel_rfl) (by kernel_rfl)).2.1 h1 rfl
      have hot : OT B V tv acc := (unhide HTV).fx hM.2 (fun e => by have h1 := (unhide HTV).row _ e; have h2 := unhide HGB; omega)
      obtain ⟨v', w', hr, h2, h3, _⟩ := run_append_own (P := Tryz.prog) V B 22 22 9 i0 (.string ByteArray.empty) 1 16 Tryz.underlying22 (unhide HI).1 (unhide HI).2.1 (unhide HI).2.2.1 (unhide HI).2.2.2 rfl (by decide) tv acc.length _ hot.1 ⟨M1, 0, none⟩ 1 1 [.string (txt1 A)] rfl (by
        intro j u hj
        match j, hj with
        | 0, hj => simp at hj; subst hj; simpa [Addr.add] using hMc
        | j + 1, hj => simp at hj) (oneT _) (by have := unhide HAL; unfold maxLen; omega) (by have := unhide HAL; omega) (by have h1 := hM.2.size; have h2 := unhide HSZ; omega)
      refine ⟨v', w', ?_, ⟨OT.step h2 hot.2 (txt1_size A), V, hM, h3⟩, trivial⟩
      unfold execOp
      simp only [resolve, invoke, builtin, Sem.run_bind, Sem.run_pure, Result.andThen_ok, List.map_toArray, List.map_cons, List.map_nil, hv1, hv2, hr]
    · exact sn_float (by decide) (by decide) (fun l a w hp hu => (und hp (k := 16) (j := 17) (by kernel_rfl) hu)) rfl (fun l a V hp ha => ⟨.pointer (some ⟨q, 1, none⟩), by
        have x18 := (ev_form a 18).trans (old hp 18 (v := .pointer (some ⟨q, 0, none⟩)) (by kernel_rfl) e18)
        go_simp, rfl, (fun e => absurd e (by decide))⟩)
    · refine sn_last (t := 198) (by decide) rfl rfl (by kernel_rfl) (fun l a V hp hA ha => ?_) trivial
      have x199 := (ev_form a 199).trans (show a.eval (.tmp 199) = .pointer (some ⟨q, 1, none⟩) from (kn hp ha 199 16 (by kernel_rfl) (by kernel_rfl)).1)
      have x198 := ev_form a 198
      obtain ⟨h1, V0, hV0, hgr⟩ := id hA
      have hqn : (some q : Option Nat) ≠ tv.ownBlock := fun e => by have h1 := (unhide HTV).row _ e.symm; have h2 := unhide HGB; omega
      have hc0 := hV0.2.cell (unhide HQC) (by have := (unhide HGB).1; omega)
      have m1 := hgr.cell (a := ⟨q, 1, none⟩) hc0 hqn
      have m2 : V.frozen? ⟨q, 1, none⟩ = false := by
        rw [(heap_cell (o := 1) (hgr.block q (World.block_lt_of_cell? _ _ hc0) hqn)).2, (heap_cell (o := 1) (hV0.2.block q (World.block_lt_of_cell? _ _ (unhide HQC)) (by have := (unhide HGB).1; omega))).2]
        exact unhide HQF
      generalize a.eval (.tmp 198) = tv' at *
      obtain ⟨sa, sl, sc, rfl⟩ := h1.shape
      exact ⟨V.setCell ⟨q, 1, none⟩ (.slice sa sl sc), by clear hA h1 hgr; go_simp, ⟨V, _, hA, rfl⟩⟩
  case hf =>
    intro l a V hp hall
    obtain ⟨V', v, hA, hV⟩ := hp.j.2.1 (hall 17 (by decide))
    exact hQ a V V' v hp.nt hp.df (fun t ht => hp.keep t (dstIn (by kernel_rfl) ht)) hA hV
end Go.Proofs.YtdmmbhemmbgcpabGreat
