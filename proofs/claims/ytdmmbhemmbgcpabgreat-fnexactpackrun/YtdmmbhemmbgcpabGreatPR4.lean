/- unpacked: one register more (the region that appends it). -/
import Derived.Test.YtdmmbhemmbgcpabGreatGPU2
namespace Go.Proofs.YtdmmbhemmbgcpabGreat
open Go Go.RowKit Gs
set_option linter.unusedVariables false
set_option linter.unusedSimpArgs false
set_option maxRecDepth 100000
def unOps24 : Array Oper := #[{ dst := some 109, op := Go.Op.fieldAddr 88 (Go.Operand.tmp 9) 2, type := 0, pos := "l15_place.go:242", after := #[], guard := none }, { dst := some 110, op := Go.Op.load 85 (Go.Operand.tmp 109), type := 85, pos := "l15_place.go:242", after := #[{ on := 0, ground := Go.Ground.data }], guard := none }, { dst := some 111, op := Go.Op.fieldAddr 66 (Go.Operand.tmp 15) 0, type := 0, pos := "l15_place.go:242", after := #[], guard := none }, { dst := some 112, op := Go.Op.load 9 (Go.Operand.tmp 111), type := 9, pos := "l15_place.go:242", after := #[{ on := 2, ground := Go.Ground.data }], guard := none }, { dst := some 113, op := Go.Op.load 36 (Go.Operand.tmp 1), type := 36, pos := "l15_place.go:242", after := #[], guard := none }, { dst := some 114, op := Go.Op.call { callee := Go.Callee.value (Go.Operand.func 67), args := #[Go.Operand.tmp 113], argTypes := #[36] }, type := 3, pos := "l15_place.go:242", after := #[{ on := 4, ground := Go.Ground.data }], guard := none }, { dst := some 115, op := Go.Op.move (Go.Operand.tmp 13), type := 3, pos := "l15_place.go:242", after := #[], guard := none }, { dst := some 116, op := Go.Op.binOp Go.BinOp.add 3 (Go.Operand.tmp 114) (Go.Operand.tmp 115) 3, type := 3, pos := "l15_place.go:242", after := #[{ on := 5, ground := Go.Ground.data }, { on := 6, ground := Go.Ground.data }], guard := none }, { dst := some 117, op := Go.Op.fieldAddr 66 (Go.Operand.tmp 15) 4, type := 0, pos := "l15_place.go:242", after := #[], guard := none }, { dst := some 118, op := Go.Op.load 3 (Go.Operand.tmp 117), type := 3, pos := "l15_place.go:242", after := #[{ on := 8, ground := Go.Ground.data }], guard := none }, { dst := some 119, op := Go.Op.fieldAddr 66 (Go.Operand.tmp 15) 5, type := 0, pos := "l15_place.go:242", after := #[], guard := none }, { dst := some 120, op := Go.Op.load 3 (Go.Operand.tmp 119), type := 3, pos := "l15_place.go:242", after := #[{ on := 10, ground := Go.Ground.data }], guard := none }, { dst := some 121, op := Go.Op.build 127 #[(0, Go.Operand.tmp 112), (1, Go.Operand.tmp 116), (2, Go.Operand.tmp 118), (3, Go.Operand.tmp 120)], type := 127, pos := "l15_place.go:242", after := #[{ on := 3, ground := Go.Ground.data }, { on := 7, ground := Go.Ground.data }, { on := 9, ground := Go.Ground.data }, { on := 11, ground := Go.Ground.data }], guard := none }, { dst := some 122, op := Go.Op.buildSlice 85 1 #[(0, Go.Operand.tmp 121)], type := 85, pos := "l15_place.go:242", after := #[{ on := 12, ground := Go.Ground.data }], guard := none }, { dst := some 123, op := Go.Op.call { callee := Go.Callee.builtin Go.Builtin.append, args := #[Go.Operand.tmp 110, Go.Operand.tmp 122], argTypes := #[85, 85] }, type := 85, pos := "l15_place.go:242", after := #[{ on := 1, ground := Go.Ground.data }, { on := 13, ground := Go.Ground.data }, { on := 5, ground := Go.Ground.chain }], guard := none }, { dst := some 124, op := Go.Op.fieldAddr 88 (Go.Operand.tmp 9) 2, type := 0, pos := "l15_place.go:242", after := #[{ on := 0, ground := Go.Ground.phase }, { on := 1, ground := Go.Ground.phase }, { on := 2, ground := Go.Ground.phase }, { on := 3, ground := Go.Ground.phase }, { on := 4, ground := Go.Ground.phase }, { on := 5, ground := Go.Ground.phase }, { on := 6, ground := Go.Ground.phase }, { on := 7, ground := Go.Ground.phase }, { on := 8, ground := Go.Ground.phase }, { on := 9, ground := Go.Ground.phase }, { on := 10, ground := Go.Ground.phase }, { on := 11, ground := Go.Ground.phase }, { on := 12, ground := Go.Ground.phase }, { on := 13, ground := Go.Ground.phase }, { on := 14, ground := Go.Ground.phase }], guard := none }, { dst := none, op := Go.Op.store 85 (Go.Operand.tmp 124) (Go.Operand.tmp 123), type := 0, pos := "l15_place.go:242", after := #[{ on := 15, ground := Go.Ground.data }, { on := 14, ground := Go.Ground.data }, { on := 14, ground := Go.Ground.chain }, { on := 0, ground := Go.Ground.phase }, { on := 1, ground := Go.Ground.phase }, { on := 2, ground := Go.Ground.phase }, { on := 3, ground := Go.Ground.phase }, { on := 4, ground := Go.Ground.phase }, { on := 5, ground := Go.Ground.phase }, { on := 6, ground := Go.Ground.phase }, { on := 7, ground := Go.Ground.phase }, { on := 8, ground := Go.Ground.phase }, { on := 9, ground := Go.Ground.phase }, { on := 10, ground := Go.Ground.phase }, { on := 11, ground := Go.Ground.phase }, { on := 12, ground := Go.Ground.phase }, { on := 13, ground := Go.Ground.phase }, { on := 14, ground := Go.Ground.phase }], guard := none }]
def FR4 (bm bp q N k NK : Nat) (vr : Value) (s0 s1 s2 s3 s4 : Option Addr) (l0 l1 l2 l3 l4 c0 c1 c2 c3 c4 : Nat) (nm : ByteArray) (z4 z5 : Int) : Nat → Value → Prop
  | 0, v => v = .pointer (some ⟨bm, 2, none⟩)
  | 1, v => v = vr
  | 2, v => v = .pointer (some ⟨q, 0, none⟩)
  | 3, v => v = .string nm
  | 4, v => v = .agg #[.slice s0 l0 c0, .slice s1 l1 c1, .slice s2 l2 c2, .slice s3 l3 c3, .slice s4 l4 c4]
  | 5, v => v = .int .i64 (N : Int)
  | 6, v => v = .int .i64 (k : Int)
  | 7, v => v = .int .i64 (NK : Int)
  | 8, v => v = .pointer (some ⟨q, 4, none⟩)
  | 9, v => v = .int .i64 z4
  | 10, v => v = .pointer (some ⟨q, 5, none⟩)
  | 11, v => v = .int .i64 z5
  | 12, v => v = .agg #[.string nm, .int .i64 (NK : Int), .int .i64 z4, .int .i64 z5]
  | 15, v => v = .pointer (some ⟨bm, 2, none⟩)
  | _, _ => True
def FR42 (nm : ByteArray) (NK : Nat) (z4 z5 : Int) : Nat → World → Value → Prop
  | 13, w, v => ∃ M, v = .slice (some ⟨M, 0, none⟩) 1 1 ∧ w.cell? ⟨M, 0, none⟩ = some (.string nm) ∧ w.cell? ⟨M, 1, none⟩ = some (.int .i64 (NK : Int)) ∧ w.cell? ⟨M, 2, none⟩ = some (.int .i64 z4) ∧ w.cell? ⟨M, 3, none⟩ = some (.int .i64 z5)
  | _, _, _ => True
theorem FR42.lasts (nm : ByteArray) (NK : Nat) (z4 z5 : Int) : Lasts (FR42 nm NK z4 z5) := by
  intro k w w' v hb h
  unfold FR42 at *
  split at h
  · obtain ⟨M, e, h1, h2, h3, h4⟩ := h; exact ⟨M, e, cell_later hb h1, cell_later hb h2, cell_later hb h3, cell_later hb h4⟩
  · trivial
def AR4 (B : Nat) (W0 : World) (vr : Value) (cs : List Value) (k : Nat) (nm : ByteArray) (NK : Nat) (z4 z5 : Int) (v : Value) (V : World) : Prop := V.ownsRow B 127 4 v (k + 1) (cs ++ [.string nm, .int .i64 (NK : Int), .int .i64 z4, .int .i64 z5]) ∧ ∃ V0, Below W0.heap.size W0 V0 ∧ V0.grownBy V vr.ownBlock
set_option maxHeartbeats 32000000 in
theorem unRound2 {B bm bp q N k NK : Nat} {vr : Value} {cs : List Value} {s0 s1 s2 s3 s4 : Option Addr} {l0 l1 l2 l3 l4 c0 c1 c2 c3 c4 : Nat} {nm : ByteArray} {z4 z5 : Int} {W0 : World} {Q : Exit → Act → World → Prop} (HRW : Hid (W0.ownsRow B 127 4 vr k cs)) (HK : Hid (k ≤ 1048576)) (HNK : Hid ((N : Int) + (k : Int) = (NK : Int) ∧ NK ≤ 4194304)) (HBS : Hid (B ≤ W0.heap.size)) (HTB : Hid (TB W0 bm 88)) (HML : Hid (W0.cell? ⟨bm, 2, none⟩ = some vr)) (HMF : Hid (W0.frozen? ⟨bm, 2, none⟩ = false)) (HQ : Hid (W0.cell? ⟨q, 0, none⟩ = some (.string nm) ∧ W0.cell? ⟨q, 4, none⟩ = some (.int .i64 z4) ∧ W0.cell? ⟨q, 5, none⟩ = some (.int .i64 z5)))
    (HP : Hid (∀ V, Below W0.heap.size W0 V → V.cell? ⟨bp, 0, none⟩ = some (.slice s0 l0 c0) ∧ V.cell? ⟨bp, 1, none⟩ = some (.slice s1 l1 c1) ∧ V.cell? ⟨bp, 2, none⟩ = some (.slice s2 l2 c2) ∧ V.cell? ⟨bp, 3, none⟩ = some (.slice s3 l3 c3) ∧ V.cell? ⟨bp, 4, none⟩ = some (.slice s4 l4 c4))) (HSO : Hid (∀ V : World, Calls Tryz.prog 67 #[.agg #[.slice s0 l0 c0, .slice s1 l1 c1, .slice s2 l2 c2, .slice s3 l3 c3, .slice s4 l4 c4]] V fun e w' => e = .returned (.int .i64 (N : Int)) ∧ Below V.heap.size V w'))
    (a0 : Act) (ha0 : a0.tmps.size = 127) (e9 : a0.eval (.tmp 9) = .pointer (some ⟨bm, 0, none⟩)) (e1 : a0.eval (.tmp 1) = .pointer (some ⟨bp, 0, none⟩)) (e15 : a0.eval (.tmp 15) = .pointer (some ⟨q, 0, none⟩)) (e13 : a0.eval (.tmp 13) = .int .i64 (k : Int))
    (hQ : ∀ a V V' v, a.tmps.size = a0.tmps.size → a.defers = a0.defers → (∀ s, s ∉ [109, 110, 111, 112, 113, 114, 115, 116, 117, 118, 119, 120, 121, 122, 123, 124] → a.eval (.tmp s) = a0.eval (.tmp s)) → AR4 B W0 vr cs k nm NK z4 z5 v V' → V = V'.setCell ⟨bm, 2, none⟩ v → Q .normal a V) :
    (Code.region 24 unOps24 true).wp Tryz.prog Q a0 W0 := by
  refine wp_plan (GA (FR4 bm bp q N k NK vr s0 s1 s2 s3 s4 l0 l1 l2 l3 l4 c0 c1 c2 c3 c4 nm z4 z5) (FR42 nm NK z4 z5) 14 16 (AR4 B W0 vr cs k nm NK z4 z5)) (JA W0 14 16 (AR4 B W0 vr cs k nm NK z4 z5) (fun V' => ∃ V v, AR4 B W0 vr cs k nm NK z4 z5 v V ∧ V' = V.setCell ⟨bm, 2, none⟩ v)) (by kernel_rfl) 127 ha0 (by kernel_rfl) ?hj ?hs ?hf
  case hj => exact JA.start (bdr (brf W0))
  case hs =>
    refine ⟨?_, ?_, ?_, ?_, ?_, ?_, ?_, ?_, ?_, ?_, ?_, ?_, ?_, ?_, ?_, ?_, ?_, trivial⟩
    · exact sa_val (by decide) (by decide) (fun l a w hp hu => ⟨(und hp (k := 1) (j := 14) (by kernel_rfl) (und hp (k := 0) (j := 1) (by kernel_rfl) hu)), (und hp (k := 0) (j := 16) (by kernel_rfl) hu)⟩) rfl (fun l a V hp h1 hB ha => ⟨.pointer (some ⟨bm, 2, none⟩), by
        have x9 := (ev_form a 9).trans (old hp 9 (v := .pointer (some ⟨bm, 0, none⟩)) (by kernel_rfl) e9)
        go_simp, rfl, trivial⟩)
    · exact sa_val (by decide) (by decide) (fun l a w hp hu => ⟨(und hp (k := 1) (j := 14) (by kernel_rfl) hu), (und hp (k := 1) (j := 16) (by kernel_rfl) hu)⟩) rfl (fun l a V hp h1 hB ha => ⟨vr, by
        have x109 := (ev_form a 109).trans (show a.eval (.tmp 109) = .pointer (some ⟨bm, 2, none⟩) from (kn hp ha 109 0 (by kernel_rfl) (by kernel_rfl)).1)
        have y := cell_later hB (unhide HML)
        go_simp, rfl, trivial⟩)
    · exact sa_val (by decide) (by decide) (fun l a w hp hu => ⟨(und hp (k := 13) (j := 14) (by kernel_rfl) (und hp (k := 12) (j := 13) (by kernel_rfl) (und hp (k := 3) (j := 12) (by kernel_rfl) (und hp (k := 2) (j := 3) (by kernel_rfl) hu)))), (und hp (k := 2) (j := 16) (by kernel_rfl) hu)⟩) rfl (fun l a V hp h1 hB ha => ⟨.pointer (some ⟨q, 0, none⟩), by
        have x15 := (ev_form a 15).trans (old hp 15 (v := .pointer (some ⟨q, 0, none⟩)) (by kernel_rfl) e15)
        go_simp, rfl, trivial⟩)
    · exact sa_val (by decide) (by decide) (fun l a w hp hu => ⟨(und hp (k := 13) (j := 14) (by kernel_rfl) (und hp (k := 12) (j := 13) (by kernel_rfl) (und hp (k := 3) (j := 12) (by kernel_rfl) hu))), (und hp (k := 3) (j := 16) (by kernel_rfl) hu)⟩) rfl (fun l a V hp h1 hB ha => ⟨.string nm, by
        have x111 := (ev_form a 111).trans (show a.eval (.tmp 111) = .pointer (some ⟨q, 0, none⟩) from (kn hp ha 111 2 (by kernel_rfl) (by kernel_rfl)).1)
        have y := cell_later hB (unhide HQ).1
        go_simp, rfl, trivial⟩)
    · exact sa_val (by decide) (by decide) (fun l a w hp hu => ⟨(und hp (k := 5) (j := 14) (by kernel_rfl) (und hp (k := 4) (j := 5) (by kernel_rfl) hu)), (und hp (k := 4) (j := 16) (by kernel_rfl) hu)⟩) rfl (fun l a V hp h1 hB ha => ⟨.agg #[.slice s0 l0 c0, .slice s1 l1 c1, .slice s2 l2 c2, .slice s3 l3 c3, .slice s4 l4 c4], by
        have x1 := (ev_form a 1).trans (old hp 1 (v := .pointer (some ⟨bp, 0, none⟩)) (by kernel_rfl) e1)
        obtain ⟨y0, y1, y2, y3, y4⟩ := unhide HP V hB
        go_simp, rfl, trivial⟩)
    · exact sa_call (f := 67) (FR42.lasts _ _ _ _) (by decide) (by decide) (fun l a w hp hu => ⟨(und hp (k := 5) (j := 14) (by kernel_rfl) hu), (und hp (k := 5) (j := 16) (by kernel_rfl) hu)⟩) rfl (fun l a V hp h1 hB ha => ⟨#[.agg #[.slice s0 l0 c0, .slice s1 l1 c1, .slice s2 l2 c2, .slice s3 l3 c3, .slice s4 l4 c4]], by
        have x113 := (ev_form a 113).trans (show a.eval (.tmp 113) = .agg #[.slice s0 l0 c0, .slice s1 l1 c1, .slice s2 l2 c2, .slice s3 l3 c3, .slice s4 l4 c4] from (kn hp ha 113 4 (by kernel_rfl) (by kernel_rfl)).1)
        go_simp, (unhide HSO V).mono (by rintro e V1 ⟨rfl, hb⟩; exact ⟨_, rfl, rfl, trivial, hb⟩)⟩)
    · exact sa_float (by decide) (by decide) (fun l a w hp hu => (und hp (k := 6) (j := 16) (by kernel_rfl) hu)) rfl (fun l a V hp ha => ⟨.int .i64 (k : Int), by
        have x13 := (ev_form a 13).trans (old hp 13 (v := .int .i64 (k : Int)) (by kernel_rfl) e13)
        go_simp, rfl, trivial⟩)
    · exact sa_val (by decide) (by decide) (fun l a w hp hu => ⟨(und hp (k := 13) (j := 14) (by kernel_rfl) (und hp (k := 12) (j := 13) (by kernel_rfl) (und hp (k := 7) (j := 12) (by kernel_rfl) hu))), (und hp (k := 7) (j := 16) (by kernel_rfl) hu)⟩) rfl (fun l a V hp h1 hB ha => ⟨.int .i64 (NK : Int), by
        have x114 := (ev_form a 114).trans (show a.eval (.tmp 114) = .int .i64 (N : Int) from (kn hp ha 114 5 (by kernel_rfl) (by kernel_rfl)).1)
        have x115 := (ev_form a 115).trans (show a.eval (.tmp 115) = .int .i64 (k : Int) from (kn hp ha 115 6 (by kernel_rfl) (by kernel_rfl)).1)
        obtain ⟨hq, hq2⟩ := unhide HNK
        go_simp; rw [IntKind.wrap_i64]; omega, rfl, trivial⟩)
    · exact sa_val (by decide) (by decide) (fun l a w hp hu => ⟨(und hp (k := 13) (j := 14) (by kernel_rfl) (und hp (k := 12) (j := 13) (by kernel_rfl) (und hp (k := 9) (j := 12) (by kernel_rfl) (und hp (k := 8) (j := 9) (by kernel_rfl) hu)))), (und hp (k := 8) (j := 16) (by kernel_rfl) hu)⟩) rfl (fun l a V hp h1 hB ha => ⟨.pointer (some ⟨q, 4, none⟩), by
        have x15 := (ev_form a 15).trans (old hp 15 (v := .pointer (some ⟨q, 0, none⟩)) (by kernel_rfl) e15)
        go_simp, rfl, trivial⟩)
    · exact sa_val (by decide) (by decide) (fun l a w hp hu => ⟨(und hp (k := 13) (j := 14) (by kernel_rfl) (und hp (k := 12) (j := 13) (by kernel_rfl) (und hp (k := 9) (j := 12) (by kernel_rfl) hu))), (und hp (k := 9) (j := 16) (by kernel_rfl) hu)⟩) rfl (fun l a V hp h1 hB ha => ⟨.int .i64 z4, by
        have x117 := (ev_form a 117).trans (show a.eval (.tmp 117) = .pointer (some ⟨q, 4, none⟩) from (kn hp ha 117 8 (by kernel_rfl) (by kernel_rfl)).1)
        have y := cell_later hB (unhide HQ).2.1
        go_simp, rfl, trivial⟩)
    · exact sa_val (by decide) (by decide) (fun l a w hp hu => ⟨(und hp (k := 13) (j := 14) (by kernel_rfl) (und hp (k := 12) (j := 13) (by kernel_rfl) (und hp (k := 11) (j := 12) (by kernel_rfl) (und hp (k := 10) (j := 11) (by kernel_rfl) hu)))), (und hp (k := 10) (j := 16) (by kernel_rfl) hu)⟩) rfl (fun l a V hp h1 hB ha => ⟨.pointer (some ⟨q, 5, none⟩), by
        have x15 := (ev_form a 15).trans (old hp 15 (v := .pointer (some ⟨q, 0, none⟩)) (by kernel_rfl) e15)
        go_simp, rfl, trivial⟩)
    · exact sa_val (by decide) (by decide) (fun l a w hp hu => ⟨(und hp (k := 13) (j := 14) (by kernel_rfl) (und hp (k := 12) (j := 13) (by kernel_rfl) (und hp (k := 11) (j := 12) (by kernel_rfl) hu))), (und hp (k := 11) (j := 16) (by kernel_rfl) hu)⟩) rfl (fun l a V hp h1 hB ha => ⟨.int .i64 z5, by
        have x119 := (ev_form a 119).trans (show a.eval (.tmp 119) = .pointer (some ⟨q, 5, none⟩) from (kn hp ha 119 10 (by kernel_rfl) (by kernel_rfl)).1)
        have y := cell_later hB (unhide HQ).2.2
        go_simp, rfl, trivial⟩)
    · exact sa_val (by decide) (by decide) (fun l a w hp hu => ⟨(und hp (k := 13) (j := 14) (by kernel_rfl) (und hp (k := 12) (j := 13) (by kernel_rfl) hu)), (und hp (k := 12) (j := 16) (by kernel_rfl) hu)⟩) rfl (fun l a V hp h1 hB ha => ⟨.agg #[.string nm, .int .i64 (NK : Int), .int .i64 z4, .int .i64 z5], by
        have x112 := (ev_form a 112).trans (show a.eval (.tmp 112) = .string nm from (kn hp ha 112 3 (by kernel_rfl) (by kernel_rfl)).1)
        have x116 := (ev_form a 116).trans (show a.eval (.tmp 116) = .int .i64 (NK : Int) from (kn hp ha 116 7 (by kernel_rfl) (by kernel_rfl)).1)
        have x118 := (ev_form a 118).trans (show a.eval (.tmp 118) = .int .i64 z4 from (kn hp ha 118 9 (by kernel_rfl) (by kernel_rfl)).1)
        have x120 := (ev_form a 120).trans (show a.eval (.tmp 120) = .int .i64 z5 from (kn hp ha 120 11 (by kernel_rfl) (by kernel_rfl)).1)
        go_simp, rfl, trivial⟩)
    · refine sa_new (FR42.lasts _ _ _ _) (by decide) (by decide) (fun l a w hp hu => ⟨(und hp (k := 13) (j := 14) (by kernel_rfl) hu), (und hp (k := 13) (j := 16) (by kernel_rfl) hu)⟩) rfl (fun l a V hp h1 hB ha => ?_)
      have x121 := (ev_form a 121).trans (show a.eval (.tmp 121) = .agg #[.string nm, .int .i64 (NK : Int), .int .i64 z4, .int .i64 z5] from (kn hp ha 121 12 (by kernel_rfl) (by kernel_rfl)).1)
      exact ⟨.slice (some ⟨V.heap.size, 0, none⟩) 1 1, .cells #[.string nm, .int .i64 (NK : Int), .int .i64 z4, .int .i64 z5] 127, by go_simp, trivial, V.heap.size, rfl, by rw [World.cell?_alloc_new]; rfl, by rw [World.cell?_alloc_new]; rfl, by rw [World.cell?_alloc_new]; rfl, by rw [World.cell?_alloc_new]; rfl⟩
    · refine sa_app (by decide) (fun l a w hp hu => (und hp (k := 14) (j := 16) (by kernel_rfl) hu)) rfl (fun l a V hp h1 hB ha => ?_)
      have hv110 : a.eval (.tmp 110) = vr := (kn hp ha 110 1 (by kernel_rfl) (by kernel_rfl)).1
      obtain ⟨M, hv, hc0, hc1, hc2, hc3⟩ : ∃ M, a.eval (.tmp 122) = .slice (some ⟨M, 0, none⟩) 1 1 ∧ V.cell? ⟨M, 0, none⟩ = some (.string nm) ∧ V.cell? ⟨M, 1, none⟩ = some (.int .i64 (NK : Int)) ∧ V.cell? ⟨M, 2, none⟩ = some (.int .i64 z4) ∧ V.cell? ⟨M, 3, none⟩ = some (.int .i64 z5) := (kn hp ha 122 13 (by kernel_rfl) (by kernel_rfl)).2.1 h1
      have hrow := row_later (unhide HRW) hB
      obtain ⟨i0, hi, hz0, hz1, hz2⟩ := info_parts infoReg
      obtain ⟨w1, w', hrun, hown, hgr, _⟩ := run_append_own (P := Tryz.prog) V B 85 85 127 i0 regZ 4 40 Tryz.underlying85 hi hz0 hz1 hz2 rfl (by decide) vr k cs hrow ⟨M, 0, none⟩ 1 1 [.string nm, .int .i64 (NK : Int), .int .i64 z4, .int .i64 z5] rfl (by
        intro j u hj
        match j, hj with
        | 0, h => simp at h; subst h; simpa [Addr.add] using hc0
        | 1, h => simp at h; subst h; simpa [Addr.add] using hc1
        | 2, h => simp at h; subst h; simpa [Addr.add] using hc2
        | 3, h => simp at h; subst h; simpa [Addr.add] using hc3
        | j + 4, h => simp at h) (by
        intro u hu
        simp at hu
        rcases hu with rfl | rfl | rfl | rfl <;> rfl) (by have := unhide HK; unfold maxLen; omega) (by have := unhide HK; omega) (by have := hB.size; have := unhide HBS; omega)
      refine ⟨w1, w', ?_, ⟨hown, V, hB, hgr⟩, trivial⟩
      unfold execOp
      simp only [resolve, invoke, builtin, Sem.run_bind, Sem.run_pure, Result.andThen_ok, List.map_toArray, List.map_cons, List.map_nil, hv110, hv, hrun]
    · exact sa_float (by decide) (by decide) (fun l a w hp hu => (und hp (k := 15) (j := 16) (by kernel_rfl) hu)) rfl (fun l a V hp ha => ⟨.pointer (some ⟨bm, 2, none⟩), by
        have x9 := (ev_form a 9).trans (old hp 9 (v := .pointer (some ⟨bm, 0, none⟩)) (by kernel_rfl) e9)
        go_simp, rfl, trivial⟩)
    · refine sa_last (t := 123) (by decide) rfl (by kernel_rfl) (by kernel_rfl) (fun l a V hp hA ha => ?_) trivial
      obtain ⟨hown, V0, hb0, hg0⟩ := hA
      have x124 := (ev_form a 124).trans (show a.eval (.tmp 124) = .pointer (some ⟨bm, 2, none⟩) from (kn hp ha 124 15 (by kernel_rfl) (by kernel_rfl)).1)
      have x123 := ev_form a 123
      have hne : some bm ≠ vr.ownBlock := fun e => (row_ne (row_later (unhide HRW) hb0) ((unhide HTB).later hb0) (by decide)) e.symm
      have y := hg0.cell (a := ⟨bm, 2, none⟩) (cell_later hb0 (unhide HML)) hne
      have yf : V.frozen? ⟨bm, 2, none⟩ = false := by
        have e := hg0.block bm (Nat.lt_of_lt_of_le (World.block_lt_of_cell? _ _ (unhide HML)) hb0.size) hne
        rw [(heap_cell (o := 2) e).2]
        exact frozen_later hb0 (unhide HML) (unhide HMF)
      refine ⟨V.setCell ⟨bm, 2, none⟩ (a.eval (.tmp 123)), ?_, V, _, ⟨hown, V0, hb0, hg0⟩, rfl⟩
      have hsh : ∃ s1 s2 s3, a.eval (.tmp 123) = .slice s1 s2 s3 := by
        rcases hown.2 with ⟨e, _⟩ | ⟨_, _, _, e, _⟩
        · exact ⟨_, _, _, e⟩
        · exact ⟨_, _, _, e⟩
      obtain ⟨t1, t2, t3, hs⟩ := hsh
      rw [hs] at x123 ⊢
      go_simp
  case hf =>
    intro l a V hp hall
    obtain ⟨V', v, hA, hV⟩ := hp.j.2.1 (hall 16 (by decide))
    exact hQ a V V' v hp.nt hp.df (fun s hs => hp.keep s (dstIn (by kernel_rfl) hs)) hA hV
end Go.Proofs.YtdmmbhemmbgcpabGreat
