/- The specification's RouteOK: one wire of a net. -/
import Derived.Test.YtlldfaniddbjaaaGreatDoorGRWZ
namespace Go.Proofs.YtlldfaniddbjaaaGreatDoor
open Go Go.RowKit Gs
set_option linter.unusedVariables false
set_option linter.unusedSimpArgs false
set_option maxRecDepth 100000
set_option maxHeartbeats 16000000
def FZ19 (nb no nn cn s hb ho n hc A j : Nat) (a : Hop) (B0 : Nat) : Nat → World → Value → Prop
  | 0, V, v => v = .slice (some ⟨nb, no, none⟩) nn cn
  | 1, V, v => v = .int .i64 (s : Int)
  | 2, V, v => v = .pointer (some ⟨nb, no + s, none⟩)
  | 3, V, v => v = .slice (some ⟨hb, ho, none⟩) n hc
  | 4, V, v => v = .pointer (some ⟨A, 4, none⟩)
  | 5, V, v => v = .int .i64 (j : Int)
  | 6, V, v => v = .pointer (some ⟨hb, ho + j * 5, none⟩)
  | 7, V, v => v = .agg #[.int .i64 a.x, .int .i64 a.y, .int .i64 a.d, .int .i64 a.t, .int .i64 a.f]
  | 8, V, v => v = .agg #[.int .i64 a.x, .int .i64 a.y, .int .i64 a.d, .int .i64 a.t]
  | 9, V, v => ∃ M, v = .pointer (some ⟨M, 0, none⟩) ∧ M < V.heap.size ∧ B0 ≤ M ∧ ∀ i, i < 4 → (∃ y, V.cell? ⟨M, i, none⟩ = some y) ∧ V.frozen? ⟨M, i, none⟩ = false
  | _, _, _ => True
theorem FZ19.lasts (nb no nn cn s hb ho n hc A j : Nat) (a : Hop) (B0 : Nat) : Lasts (FZ19 nb no nn cn s hb ho n hc A j a B0) := by
  intro k w w' v hbl h
  match k, h with
  | 0, h => exact h
  | 1, h => exact h
  | 2, h => exact h
  | 3, h => exact h
  | 4, h => exact h
  | 5, h => exact h
  | 6, h => exact h
  | 7, h => exact h
  | 8, h => exact h
  | 9, ⟨M, h1, h2, h3, h4⟩ => exact ⟨M, h1, Nat.lt_of_lt_of_le h2 hbl.size, h3, fun i hi => by
      obtain ⟨⟨y, hy⟩, hf⟩ := h4 i hi
      exact ⟨⟨y, cell_later hbl hy⟩, frozen_later hbl hy hf⟩⟩
  | _ + 10, _ => trivial
def FZ19b (a : Hop) (B0 : Nat) : Nat → World → Value → Prop
  | 9, V, v => ∃ M, v = .pointer (some ⟨M, 0, none⟩) ∧ B0 ≤ M ∧ At V M 0 [.int .i64 a.x, .int .i64 a.y, .int .i64 a.d, .int .i64 a.t]
  | _, _, _ => True
def r19 : Array Oper := #[{ dst := some 111, op := Go.Op.move (Go.Operand.tmp 3), type := 42, pos := "l16_route.go:105", after := #[], guard := none }, { dst := some 112, op := Go.Op.move (Go.Operand.tmp 10), type := 3, pos := "l16_route.go:105", after := #[], guard := none }, { dst := some 113, op := Go.Op.indexAddr 42 (Go.Operand.tmp 111) (Go.Operand.tmp 112), type := 0, pos := "l16_route.go:105", after := #[{ on := 0, ground := Go.Ground.data }, { on := 1, ground := Go.Ground.data }], guard := none }, { dst := some 114, op := Go.Op.load 59 (Go.Operand.tmp 113), type := 59, pos := "l16_route.go:105", after := #[{ on := 2, ground := Go.Ground.data }], guard := none }, { dst := some 115, op := Go.Op.fieldAddr 61 (Go.Operand.tmp 13) 4, type := 0, pos := "l16_route.go:105", after := #[], guard := none }, { dst := some 116, op := Go.Op.load 3 (Go.Operand.tmp 115), type := 3, pos := "l16_route.go:105", after := #[{ on := 4, ground := Go.Ground.data }], guard := none }, { dst := some 117, op := Go.Op.indexAddr 59 (Go.Operand.tmp 114) (Go.Operand.tmp 116), type := 0, pos := "l16_route.go:105", after := #[{ on := 3, ground := Go.Ground.data }, { on := 5, ground := Go.Ground.data }], guard := none }, { dst := some 118, op := Go.Op.load 61 (Go.Operand.tmp 117), type := 61, pos := "l16_route.go:105", after := #[{ on := 6, ground := Go.Ground.data }], guard := none }, { dst := some 119, op := Go.Op.call { callee := Go.Callee.value (Go.Operand.func 22), args := #[Go.Operand.tmp 118], argTypes := #[61] }, type := 63, pos := "l16_route.go:105", after := #[{ on := 7, ground := Go.Ground.data }], guard := none }, { dst := some 15, op := Go.Op.alloc 63, type := 0, pos := "l16_route.go:105", after := #[], guard := none }, { dst := none, op := Go.Op.store 63 (Go.Operand.tmp 15) (Go.Operand.tmp 119), type := 0, pos := "l16_route.go:105", after := #[{ on := 9, ground := Go.Ground.data }, { on := 8, ground := Go.Ground.data }, { on := 8, ground := Go.Ground.chain }, { on := 0, ground := Go.Ground.phase }, { on := 1, ground := Go.Ground.phase }, { on := 2, ground := Go.Ground.phase }, { on := 3, ground := Go.Ground.phase }, { on := 4, ground := Go.Ground.phase }, { on := 5, ground := Go.Ground.phase }, { on := 6, ground := Go.Ground.phase }, { on := 7, ground := Go.Ground.phase }, { on := 8, ground := Go.Ground.phase }, { on := 9, ground := Go.Ground.phase }], guard := none }]
theorem ro19 {u0 u1 u2 u4 u5 u6 u7 u8 u9 u11 u12 u14 u16 u17 u18 u19 u20 u21 u22 u23 u24 u25 u26 u27 u28 u29 u30 u31 u32 u33 u34 u35 u36 u37 u38 u39 u40 u41 u42 u43 u44 u45 u46 u47 u48 u49 u50 u51 u52 u53 u54 u55 u56 u57 u58 u59 u60 u61 u62 u63 u64 u65 u66 u67 u68 u69 u70 u71 u72 u73 u74 u75 u76 u77 u78 u79 u80 u81 u82 u83 u84 u85 u86 u87 u88 u89 u90 u91 u92 u93 u94 u95 u96 u97 u98 u99 u100 u101 u102 u103 u104 u105 u106 u107 u108 u109 u110 u120 u121 u122 u123 u124 u125 u126 u127 u128 u129 u130 u131 u132 u133 u134 u135 u136 u137 u138 u139 u140 u141 u142 u143 u144 u145 u146 u147 u148 u149 u150 u151 u152 u153 u154 u155 u156 u157 u158 u159 u160 u161 y15 y111 y112 y113 y114 y115 y116 y117 y118 y119 : Value} {nb no nn cn s hb ho n hc A j : Nat} {a : Hop} {W0 : World} {Q : Exit → Act → World → Prop} (hs : s < nn) (hs2 : nn ≤ 1048576) (hj : j < n) (hn : n ≤ 1048576)
    (HN : Hid (∀ V, Below W0.heap.size W0 V → V.cell? ⟨nb, no + s, none⟩ = some (.slice (some ⟨hb, ho, none⟩) n hc)))
    (HF : Hid (∀ V, Below W0.heap.size W0 V → V.cell? ⟨A, 4, none⟩ = some (.int .i64 (j : Int))))
    (HA : Hid (∀ V, Below W0.heap.size W0 V → V.cell? ⟨hb, ho + j * 5, none⟩ = some (.int .i64 a.x) ∧ V.cell? ⟨hb, ho + j * 5 + 1, none⟩ = some (.int .i64 a.y) ∧ V.cell? ⟨hb, ho + j * 5 + 2, none⟩ = some (.int .i64 a.d) ∧ V.cell? ⟨hb, ho + j * 5 + 3, none⟩ = some (.int .i64 a.t) ∧ V.cell? ⟨hb, ho + j * 5 + 4, none⟩ = some (.int .i64 a.f)))
    (hQ : ∀ (v111 v112 v113 v114 v115 v116 v117 v118 v119 : Value) V M, W0.heap.size ≤ M → At V M 0 [.int .i64 a.x, .int .i64 a.y, .int .i64 a.d, .int .i64 a.t] → Below W0.heap.size W0 V → Q .normal { tmps := (u0 :: u1 :: u2 :: .slice (some ⟨nb, no, none⟩) nn cn :: u4 :: u5 :: u6 :: u7 :: u8 :: u9 :: .int .i64 (s : Int) :: u11 :: u12 :: .pointer (some ⟨A, 0, none⟩) :: u14 :: .pointer (some ⟨M, 0, none⟩) :: u16 :: u17 :: u18 :: u19 :: u20 :: u21 :: u22 :: u23 :: u24 :: u25 :: u26 :: u27 :: u28 :: u29 :: u30 :: u31 :: u32 :: u33 :: u34 :: u35 :: u36 :: u37 :: u38 :: u39 :: u40 :: u41 :: u42 :: u43 :: u44 :: u45 :: u46 :: u47 :: u48 :: u49 :: u50 :: u51 :: u52 :: u53 :: u54 :: u55 :: u56 :: u57 :: u58 :: u59 :: u60 :: u61 :: u62 :: u63 :: u64 :: u65 :: u66 :: u67 :: u68 :: u69 :: u70 :: u71 :: u72 :: u73 :: u74 :: u75 :: u76 :: u77 :: u78 :: u79 :: u80 :: u81 :: u82 :: u83 :: u84 :: u85 :: u86 :: u87 :: u88 :: u89 :: u90 :: u91 :: u92 :: u93 :: u94 :: u95 :: u96 :: u97 :: u98 :: u99 :: u100 :: u101 :: u102 :: u103 :: u104 :: u105 :: u106 :: u107 :: u108 :: u109 :: u110 :: v111 :: v112 :: v113 :: v114 :: v115 :: v116 :: v117 :: v118 :: v119 :: u120 :: u121 :: u122 :: u123 :: u124 :: u125 :: u126 :: u127 :: u128 :: u129 :: u130 :: u131 :: u132 :: u133 :: u134 :: u135 :: u136 :: u137 :: u138 :: u139 :: u140 :: u141 :: u142 :: u143 :: u144 :: u145 :: u146 :: u147 :: u148 :: u149 :: u150 :: u151 :: u152 :: u153 :: u154 :: u155 :: u156 :: u157 :: u158 :: u159 :: u160 :: u161 :: []).toArray, defers := [] } V) :
    Code.wp Tryz.prog (Go.Code.region 19 r19 true) Q { tmps := (u0 :: u1 :: u2 :: .slice (some ⟨nb, no, none⟩) nn cn :: u4 :: u5 :: u6 :: u7 :: u8 :: u9 :: .int .i64 (s : Int) :: u11 :: u12 :: .pointer (some ⟨A, 0, none⟩) :: u14 :: y15 :: u16 :: u17 :: u18 :: u19 :: u20 :: u21 :: u22 :: u23 :: u24 :: u25 :: u26 :: u27 :: u28 :: u29 :: u30 :: u31 :: u32 :: u33 :: u34 :: u35 :: u36 :: u37 :: u38 :: u39 :: u40 :: u41 :: u42 :: u43 :: u44 :: u45 :: u46 :: u47 :: u48 :: u49 :: u50 :: u51 :: u52 :: u53 :: u54 :: u55 :: u56 :: u57 :: u58 :: u59 :: u60 :: u61 :: u62 :: u63 :: u64 :: u65 :: u66 :: u67 :: u68 :: u69 :: u70 :: u71 :: u72 :: u73 :: u74 :: u75 :: u76 :: u77 :: u78 :: u79 :: u80 :: u81 :: u82 :: u83 :: u84 :: u85 :: u86 :: u87 :: u88 :: u89 :: u90 :: u91 :: u92 :: u93 :: u94 :: u95 :: u96 :: u97 :: u98 :: u99 :: u100 :: u101 :: u102 :: u103 :: u104 :: u105 :: u106 :: u107 :: u108 :: u109 :: u110 :: y111 :: y112 :: y113 :: y114 :: y115 :: y116 :: y117 :: y118 :: y119 :: u120 :: u121 :: u122 :: u123 :: u124 :: u125 :: u126 :: u127 :: u128 :: u129 :: u130 :: u131 :: u132 :: u133 :: u134 :: u135 :: u136 :: u137 :: u138 :: u139 :: u140 :: u141 :: u142 :: u143 :: u144 :: u145 :: u146 :: u147 :: u148 :: u149 :: u150 :: u151 :: u152 :: u153 :: u154 :: u155 :: u156 :: u157 :: u158 :: u159 :: u160 :: u161 :: []).toArray, defers := [] } W0 := by
  have HQ := hide hQ
  clear hQ
  refine wp_plan (GZ (FZ19 nb no nn cn s hb ho n hc A j a W0.heap.size) (FZ19b a W0.heap.size) 10) (JE W0 10 (fun V => Below W0.heap.size W0 V)) (by kernel_rfl) 162 (by kernel_rfl) (by kernel_rfl) ?hj ?hs ?hf
  case hj => exact JE.start (bdr (brf W0))
  case hs =>
    refine ⟨?_, ?_, ?_, ?_, ?_, ?_, ?_, ?_, ?_, ?_, ?_, trivial⟩
    · exact sz_val (by decide) (by kernel_rfl) rfl (fun l a' V hp hl hB ha => ⟨.slice (some ⟨nb, no, none⟩) nn cn, by
        have x3 := (ev_form a' 3).trans (old hp 3 (v := .slice (some ⟨nb, no, none⟩) nn cn) (by kernel_rfl) (by kernel_rfl))
        go_simp, rfl⟩)
    · exact sz_val (by decide) (by kernel_rfl) rfl (fun l a' V hp hl hB ha => ⟨.int .i64 (s : Int), by
        have x10 := (ev_form a' 10).trans (old hp 10 (v := .int .i64 (s : Int)) (by kernel_rfl) (by kernel_rfl))
        go_simp, rfl⟩)
    · exact sz_val (by decide) (by kernel_rfl) rfl (fun l a' V hp hl hB ha => ⟨.pointer (some ⟨nb, no + s, none⟩), by
        have x111 := (ev_form a' 111).trans (show a'.eval (.tmp 111) = .slice (some ⟨nb, no, none⟩) nn cn from (kn hp ha 111 0 (by kernel_rfl) (by kernel_rfl)).1 hl)
        have x112 := (ev_form a' 112).trans (show a'.eval (.tmp 112) = .int .i64 (s : Int) from (kn hp ha 112 1 (by kernel_rfl) (by kernel_rfl)).1 hl)
        go_simp, rfl⟩)
    · exact sz_val (by decide) (by kernel_rfl) rfl (fun l a' V hp hl hB ha => ⟨.slice (some ⟨hb, ho, none⟩) n hc, by
        have x113 := (ev_form a' 113).trans (show a'.eval (.tmp 113) = .pointer (some ⟨nb, no + s, none⟩) from (kn hp ha 113 2 (by kernel_rfl) (by kernel_rfl)).1 hl)
        have k0 := unhide HN V hB
        go_simp, rfl⟩)
    · exact sz_val (by decide) (by kernel_rfl) rfl (fun l a' V hp hl hB ha => ⟨.pointer (some ⟨A, 4, none⟩), by
        have x13 := (ev_form a' 13).trans (old hp 13 (v := .pointer (some ⟨A, 0, none⟩)) (by kernel_rfl) (by kernel_rfl))
        go_simp, rfl⟩)
    · exact sz_val (by decide) (by kernel_rfl) rfl (fun l a' V hp hl hB ha => ⟨.int .i64 (j : Int), by
        have x115 := (ev_form a' 115).trans (show a'.eval (.tmp 115) = .pointer (some ⟨A, 4, none⟩) from (kn hp ha 115 4 (by kernel_rfl) (by kernel_rfl)).1 hl)
        have k0 := unhide HF V hB
        go_simp, rfl⟩)
    · exact sz_val (by decide) (by kernel_rfl) rfl (fun l a' V hp hl hB ha => ⟨.pointer (some ⟨hb, ho + j * 5, none⟩), by
        have x114 := (ev_form a' 114).trans (show a'.eval (.tmp 114) = .slice (some ⟨hb, ho, none⟩) n hc from (kn hp ha 114 3 (by kernel_rfl) (by kernel_rfl)).1 hl)
        have x116 := (ev_form a' 116).trans (show a'.eval (.tmp 116) = .int .i64 (j : Int) from (kn hp ha 116 5 (by kernel_rfl) (by kernel_rfl)).1 hl)
        go_simp, rfl⟩)
    · exact sz_val (by decide) (by kernel_rfl) rfl (fun l a' V hp hl hB ha => ⟨.agg #[.int .i64 a.x, .int .i64 a.y, .int .i64 a.d, .int .i64 a.t, .int .i64 a.f], by
        have x117 := (ev_form a' 117).trans (show a'.eval (.tmp 117) = .pointer (some ⟨hb, ho + j * 5, none⟩) from (kn hp ha 117 6 (by kernel_rfl) (by kernel_rfl)).1 hl)
        obtain ⟨k0, k1, k2, k3, k4⟩ := unhide HA V hB
        go_simp, rfl⟩)
    · exact sz_call (f := 22) (FZ19.lasts _ _ _ _ _ _ _ _ _ _ _ _ _) (by decide) (by kernel_rfl) rfl (fun l a' V hp hl hB ha => ⟨#[.agg #[.int .i64 a.x, .int .i64 a.y, .int .i64 a.d, .int .i64 a.t, .int .i64 a.f]], by
        have x118 := (ev_form a' 118).trans (show a'.eval (.tmp 118) = .agg #[.int .i64 a.x, .int .i64 a.y, .int .i64 a.d, .int .i64 a.t, .int .i64 a.f] from (kn hp ha 118 7 (by kernel_rfl) (by kernel_rfl)).1 hl)
        go_simp, (sHop a.x a.y a.d a.t a.f V).mono (by rintro e V1 ⟨rfl, hb⟩; exact ⟨_, rfl, rfl, hb⟩)⟩)
    · exact sz_new (FZ19.lasts _ _ _ _ _ _ _ _ _ _ _ _ _) (by decide) (by kernel_rfl) rfl (fun l a' V hp hl hB ha => ⟨.pointer (some ⟨V.heap.size, 0, none⟩), .cells #[.int .i64 0, .int .i64 0, .int .i64 0, .int .i64 0] 63, by
        go_simp <;> rfl, V.heap.size, rfl, by simp, hB.size, fun i hi => by
          have := TP_made V #[.int .i64 0, .int .i64 0, .int .i64 0, .int .i64 0] 63 4 rfl i hi
          exact this⟩)
    · refine sz_last rfl (fun l a' V hp hl hB ha => ?_)
      have x119 := (ev_form a' 119).trans (show a'.eval (.tmp 119) = .agg #[.int .i64 a.x, .int .i64 a.y, .int .i64 a.d, .int .i64 a.t] from (kn hp ha 119 8 (by kernel_rfl) (by kernel_rfl)).1 hl)
      obtain ⟨M, hM, hM1, hM2, hM3⟩ := (kn hp ha 15 9 (by kernel_rfl) (by kernel_rfl)).1 hl
      have x15 := (ev_form a' 15).trans hM
      obtain ⟨⟨y0, r0⟩, f0⟩ := hM3 0 (by decide)
      obtain ⟨⟨y1, r1⟩, f1⟩ := hM3 1 (by decide)
      obtain ⟨⟨y2, r2⟩, f2⟩ := hM3 2 (by decide)
      obtain ⟨⟨y3, r3⟩, f3⟩ := hM3 3 (by decide)
      refine ⟨setK V M 0 [.int .i64 a.x, .int .i64 a.y, .int .i64 a.d, .int .i64 a.t], by simp only [setK]; go_simp, setK_below _ hB hM2, trivial, ?_⟩
      intro q d hd hv
      match q, hd, hv with
      | 0, _, _ => exact trivial
      | 1, _, _ => exact trivial
      | 2, _, _ => exact trivial
      | 3, _, _ => exact trivial
      | 4, _, _ => exact trivial
      | 5, _, _ => exact trivial
      | 6, _, _ => exact trivial
      | 7, _, _ => exact trivial
      | 8, _, _ => exact trivial
      | 9, hd, _ =>
        have hd2 : some 15 = some d := hd
        injection hd2 with hd3
        subst hd3
        refine ⟨M, hM, hM2, setK_at _ _ _ _ (fun i hi => ?_)⟩
        rw [Nat.zero_add]
        exact (hM3 i hi).1
      | _ + 10, _, _ => exact trivial
  case hf =>
    intro l a' V hp hall
    have hE := hp.j.2 (hall 10 (by decide))
    obtain ⟨M, hM, hM2, hat⟩ := (hp.good 9 _ 15 rfl rfl (hall 9 (by decide))).2 (hall 10 (by decide))
    obtain ⟨us1, rfl, hus⟩ := putAll_of [111, 112, 113, 114, 115, 116, 117, 118, 119, 15] hp.nt hp.df (fun t ht => hp.keep t (dstIn (by kernel_rfl) ht))
    have h15 : us1 15 = .pointer (some ⟨M, 0, none⟩) := by rw [hus 15]; exact hM
    clear hp hall hus
    simp only [putAll, List.foldl, Act.put, List.setIfInBounds_toArray, List.set_cons_zero, List.set_cons_succ, h15]
    exact unhide HQ _ _ _ _ _ _ _ _ _ V M hM2 hat hE
end Go.Proofs.YtlldfaniddbjaaaGreatDoor
