/- The specification's FsmOK: one input. -/
import Derived.Test.YtjbbjgoofenkpaaG2
namespace Go.Proofs.Ytjbbjgoofenkpaa
open Go.RowKit Gs
set_option linter.unusedVariables false
set_option linter.unusedSimpArgs false
set_option maxRecDepth 100000
set_option maxHeartbeats 32000000 in
theorem reg12 {Q : Exit → Act → World → Prop} (ins ob : Int) (N2 N3 N4 c2 c3 c4 b2 o2 b3 o3 b4 o4 : Nat) (n1 n2 y1 y2 bx ox bz oz s i : Nat) (z : Int) (y : ByteArray) (w W : World) (hbx : Bt 31 w #[.int .i64 ins, .int .i64 ob, .slice (some ⟨b2, o2, none⟩) N2 c2, .slice (some ⟨b3, o3, none⟩) N3 c3, .slice (some ⟨b4, o4, none⟩) N4 c4] W) (hyz : y.size ≤ maxLen) (hm3 : W.cell? ⟨b3, o3 + s, none⟩ = some (.slice (some ⟨bx, ox, none⟩) n1 y1)) (hm4 : W.cell? ⟨b4, o4 + s, none⟩ = some (.slice (some ⟨bz, oz, none⟩) n2 y2)) (hmz : W.cell? ⟨bx, ox + i, none⟩ = some (.int .i64 z)) (hmy : W.cell? ⟨bz, oz + i, none⟩ = some (.string y)) (j3 : (s : Int) < (N3 : Int)) (j4 : (s : Int) < (N4 : Int)) (r1 : (i : Int) < (n1 : Int)) (r2 : (i : Int) < (n2 : Int)) (hs64 : s < 64) (hi32 : i < 64)
    (u2 u6 u7 u8 u9 u10 u11 u12 u13 u14 u15 u16 u17 u18 u19 u20 u21 u22 u23 u24 u25 u26 u27 u28 u29 u30 u31 u32 u33 u34 u35 u36 u37 u38 u39 u40 u41 u42 u43 u44 u45 u46 u47 u48 u49 u50 u51 u52 u53 u54 u55 u56 u57 u58 u59 u60 u61 u62 u63 u64 u65 u66 u67 u68 u69 u70 u71 u72 u73 u74 u75 u76 u77 u78 u79 u80 u81 u82 u83 u84 u85 u86 u87 u88 u89 u90 u91 u92 u93 u94 u95 u96 u97 u98 u99 u100 u101 u102 u103 u104 u105 u106 u107 u108 u109 u110 u111 u112 u113 u114 u115 u116 u117 u118 u119 u120 u121 u122 u123 u124 u125 u126 u127 u128 u129 u130 u131 u132 u133 u134 u135 u136 u137 u138 u139 u140 u141 u142 u143 u144 u145 u146 u147 u148 u149 u150 u151 u152 u153 u154 u155 u156 u157 u158 u159 u160 u161 u162 u163 u164 : Value) (hQ : ∀ (p102 p103 p104 p105 p106 p107 p108 p109 p110 p111 p112 p113 p114 p115 p116 p117 p118 p119 p120 p121 p122 p123 p124 p125 p126 p127 p128 p129 p130 p131 p132 p133 p134 p135 p136 p137 p138 p139 p140 p141 p142 p143 p144 p145 p146 p147 : Value) (V : World), Bt 31 w #[.int .i64 ins, .int .i64 ob, .slice (some ⟨b2, o2, none⟩) N2 c2, .slice (some ⟨b3, o3, none⟩) N3 c3, .slice (some ⟨b4, o4, none⟩) N4 c4] V → Below W.heap.size W V → Q .normal { tmps := #[.agg #[.int .i64 ins, .int .i64 ob, .slice (some ⟨b2, o2, none⟩) N2 c2, .slice (some ⟨b3, o3, none⟩) N3 c3, .slice (some ⟨b4, o4, none⟩) N4 c4], .pointer (some ⟨w.heap.size, 0, none⟩), u2, .int .i64 (N2 : Int), .int .i64 (s : Int), .int .i64 (i : Int), u6, u7, u8, u9, u10, u11, u12, u13, u14, u15, u16, u17, u18, u19, u20, u21, u22, u23, u24, u25, u26, u27, u28, u29, u30, u31, u32, u33, u34, u35, u36, u37, u38, u39, u40, u41, u42, u43, u44, u45, u46, u47, u48, u49, u50, u51, u52, u53, u54, u55, u56, u57, u58, u59, u60, u61, u62, u63, u64, u65, u66, u67, u68, u69, u70, u71, u72, u73, u74, u75, u76, u77, u78, u79, u80, u81, u82, u83, u84, u85, u86, u87, u88, u89, u90, u91, u92, u93, u94, u95, u96, u97, u98, u99, u100, u101, p102, p103, p104, p105, p106, p107, p108, p109, p110, p111, p112, p113, p114, p115, p116, p117, p118, p119, p120, p121, p122, p123, p124, p125, p126, p127, p128, p129, p130, p131, p132, p133, p134, p135, p136, p137, p138, p139, p140, p141, p142, p143, p144, p145, p146, p147, .bool (badIn ob z N2 y), u149, u150, u151, u152, u153, u154, u155, u156, u157, u158, u159, u160, u161, u162, u163, u164], defers := [] } V) :
    Code.wp Try.prog (atR12 (bodyOf Try.f19)) Q { tmps := #[.agg #[.int .i64 ins, .int .i64 ob, .slice (some ⟨b2, o2, none⟩) N2 c2, .slice (some ⟨b3, o3, none⟩) N3 c3, .slice (some ⟨b4, o4, none⟩) N4 c4], .pointer (some ⟨w.heap.size, 0, none⟩), u2, .int .i64 (N2 : Int), .int .i64 (s : Int), .int .i64 (i : Int), u6, u7, u8, u9, u10, u11, u12, u13, u14, u15, u16, u17, u18, u19, u20, u21, u22, u23, u24, u25, u26, u27, u28, u29, u30, u31, u32, u33, u34, u35, u36, u37, u38, u39, u40, u41, u42, u43, u44, u45, u46, u47, u48, u49, u50, u51, u52, u53, u54, u55, u56, u57, u58, u59, u60, u61, u62, u63, u64, u65, u66, u67, u68, u69, u70, u71, u72, u73, u74, u75, u76, u77, u78, u79, u80, u81, u82, u83, u84, u85, u86, u87, u88, u89, u90, u91, u92, u93, u94, u95, u96, u97, u98, u99, u100, u101, u102, u103, u104, u105, u106, u107, u108, u109, u110, u111, u112, u113, u114, u115, u116, u117, u118, u119, u120, u121, u122, u123, u124, u125, u126, u127, u128, u129, u130, u131, u132, u133, u134, u135, u136, u137, u138, u139, u140, u141, u142, u143, u144, u145, u146, u147, u148, u149, u150, u151, u152, u153, u154, u155, u156, u157, u158, u159, u160, u161, u162, u163, u164], defers := [] } W := by
  have HX := hide hbx
  have HQ : Hid (∀ V, Below W.heap.size W V → V.cell? ⟨w.heap.size, 0, none⟩ = some (.int .i64 ins) ∧ V.cell? ⟨w.heap.size, 1, none⟩ = some (.int .i64 ob) ∧ V.cell? ⟨w.heap.size, 2, none⟩ = some (.slice (some ⟨b2, o2, none⟩) N2 c2) ∧ V.cell? ⟨w.heap.size, 3, none⟩ = some (.slice (some ⟨b3, o3, none⟩) N3 c3) ∧ V.cell? ⟨w.heap.size, 4, none⟩ = some (.slice (some ⟨b4, o4, none⟩) N4 c4)) := hide (fun V h => (hbx.then h).get5)
  have HQQ := hide hQ
  clear hQ hbx
  conv => arg 2; whnf
  refine wp_plan (GF (FS12 ob z w.heap.size N2 N3 N4 n1 n2 c3 c4 y1 y2 b3 o3 b4 o4 bx ox bz oz s i y)) (JB W) (by kernel_rfl) 165 (by kernel_rfl) (by kernel_rfl) ?hj ?hs ?hf
  case hj => exact bdr (brf W)
  case hs =>
    refine ⟨?_, ?_, ?_, ?_, ?_, ?_, ?_, ?_, ?_, ?_, ?_, ?_, ?_, ?_, ?_, ?_, ?_, ?_, ?_, ?_, ?_, ?_, ?_, ?_, ?_, ?_, ?_, ?_, ?_, ?_, ?_, ?_, ?_, ?_, ?_, ?_, ?_, ?_, ?_, ?_, ?_, ?_, ?_, ?_, ?_, ?_, ?_, trivial⟩
    · exact st_val rfl (fun l a V hp ha => ⟨.pointer (some ⟨w.heap.size, 3, none⟩), by
        have x1 := (ev_form a 1).trans (old hp 1 (v := .pointer (some ⟨w.heap.size, 0, none⟩)) (by kernel_rfl) (by kernel_rfl))
        go_simp, rfl⟩)
    · exact st_val rfl (fun l a V hp ha => ⟨.slice (some ⟨b3, o3, none⟩) N3 c3, by
        have x102 := (ev_form a 102).trans (show a.eval (.tmp 102) = .pointer (some ⟨w.heap.size, 3, none⟩) from kn hp ha 102 0 (by kernel_rfl) (by kernel_rfl))
        obtain ⟨q0, q1, q2, q3, q4⟩ := unhide HQ V hp.j
        go_simp, rfl⟩)
    · exact st_val rfl (fun l a V hp ha => ⟨.int .i64 (s : Int), by
        have x4 := (ev_form a 4).trans (old hp 4 (v := .int .i64 (s : Int)) (by kernel_rfl) (by kernel_rfl))
        go_simp, rfl⟩)
    · exact st_val rfl (fun l a V hp ha => ⟨.pointer (some ⟨b3, o3 + s, none⟩), by
        have x103 := (ev_form a 103).trans (show a.eval (.tmp 103) = .slice (some ⟨b3, o3, none⟩) N3 c3 from kn hp ha 103 1 (by kernel_rfl) (by kernel_rfl))
        have x104 := (ev_form a 104).trans (show a.eval (.tmp 104) = .int .i64 (s : Int) from kn hp ha 104 2 (by kernel_rfl) (by kernel_rfl))
        go_simp, rfl⟩)
    · exact st_val rfl (fun l a V hp ha => ⟨.slice (some ⟨bx, ox, none⟩) n1 y1, by
        have x105 := (ev_form a 105).trans (show a.eval (.tmp 105) = .pointer (some ⟨b3, o3 + s, none⟩) from kn hp ha 105 3 (by kernel_rfl) (by kernel_rfl))
        have m3 := cell_later hp.j hm3
        go_simp, rfl⟩)
    · exact st_val rfl (fun l a V hp ha => ⟨.int .i64 (i : Int), by
        have x5 := (ev_form a 5).trans (old hp 5 (v := .int .i64 (i : Int)) (by kernel_rfl) (by kernel_rfl))
        go_simp, rfl⟩)
    · exact st_val rfl (fun l a V hp ha => ⟨.pointer (some ⟨bx, ox + i, none⟩), by
        have x106 := (ev_form a 106).trans (show a.eval (.tmp 106) = .slice (some ⟨bx, ox, none⟩) n1 y1 from kn hp ha 106 4 (by kernel_rfl) (by kernel_rfl))
        have x107 := (ev_form a 107).trans (show a.eval (.tmp 107) = .int .i64 (i : Int) from kn hp ha 107 5 (by kernel_rfl) (by kernel_rfl))
        go_simp, rfl⟩)
    · exact st_val rfl (fun l a V hp ha => ⟨.int .i64 z, by
        have x108 := (ev_form a 108).trans (show a.eval (.tmp 108) = .pointer (some ⟨bx, ox + i, none⟩) from kn hp ha 108 6 (by kernel_rfl) (by kernel_rfl))
        have mz := cell_later hp.j hmz
        go_simp, rfl⟩)
    · exact st_val rfl (fun l a V hp ha => ⟨.bool (decide (z < 0)), by
        have x109 := (ev_form a 109).trans (show a.eval (.tmp 109) = .int .i64 z from kn hp ha 109 7 (by kernel_rfl) (by kernel_rfl))
        go_simp, rfl⟩)
    · exact st_val rfl (fun l a V hp ha => ⟨.bool (decide (z < 0)), by
        have x110 := (ev_form a 110).trans (show a.eval (.tmp 110) = .bool (decide (z < 0)) from kn hp ha 110 8 (by kernel_rfl) (by kernel_rfl))
        go_simp, rfl⟩)
    · exact st_valg (c := (decide (z < 0))) rfl rfl (by simp) (by kernel_rfl) (fun v h => h) (fun hn hc => absurd hc hn) (fun l a V hp ha hc => ⟨.pointer (some ⟨w.heap.size, 3, none⟩), by
        have x1 := (ev_form a 1).trans (old hp 1 (v := .pointer (some ⟨w.heap.size, 0, none⟩)) (by kernel_rfl) (by kernel_rfl))
        go_simp, fun _ => rfl⟩)
    · exact st_valg (c := (decide (z < 0))) rfl rfl (by simp) (by kernel_rfl) (fun v h => h) (fun hn hc => absurd hc hn) (fun l a V hp ha hc => ⟨.slice (some ⟨b3, o3, none⟩) N3 c3, by
        have x112 := (ev_form a 112).trans (show a.eval (.tmp 112) = .pointer (some ⟨w.heap.size, 3, none⟩) from (kn hp ha 112 10 (by kernel_rfl) (by kernel_rfl)) hc)
        obtain ⟨q0, q1, q2, q3, q4⟩ := unhide HQ V hp.j
        go_simp, fun _ => rfl⟩)
    · exact st_valg (c := (decide (z < 0))) rfl rfl (by simp) (by kernel_rfl) (fun v h => h) (fun hn hc => absurd hc hn) (fun l a V hp ha hc => ⟨.int .i64 (s : Int), by
        have x4 := (ev_form a 4).trans (old hp 4 (v := .int .i64 (s : Int)) (by kernel_rfl) (by kernel_rfl))
        go_simp, fun _ => rfl⟩)
    · exact st_valg (c := (decide (z < 0))) rfl rfl (by simp) (by kernel_rfl) (fun v h => h) (fun hn hc => absurd hc hn) (fun l a V hp ha hc => ⟨.pointer (some ⟨b3, o3 + s, none⟩), by
        have x113 := (ev_form a 113).trans (show a.eval (.tmp 113) = .slice (some ⟨b3, o3, none⟩) N3 c3 from (kn hp ha 113 11 (by kernel_rfl) (by kernel_rfl)) hc)
        have x114 := (ev_form a 114).trans (show a.eval (.tmp 114) = .int .i64 (s : Int) from (kn hp ha 114 12 (by kernel_rfl) (by kernel_rfl)) hc)
        go_simp, fun _ => rfl⟩)
    · exact st_valg (c := (decide (z < 0))) rfl rfl (by simp) (by kernel_rfl) (fun v h => h) (fun hn hc => absurd hc hn) (fun l a V hp ha hc => ⟨.slice (some ⟨bx, ox, none⟩) n1 y1, by
        have x115 := (ev_form a 115).trans (show a.eval (.tmp 115) = .pointer (some ⟨b3, o3 + s, none⟩) from (kn hp ha 115 13 (by kernel_rfl) (by kernel_rfl)) hc)
        have m3 := cell_later hp.j hm3
        go_simp, fun _ => rfl⟩)
    · exact st_valg (c := (decide (z < 0))) rfl rfl (by simp) (by kernel_rfl) (fun v h => h) (fun hn hc => absurd hc hn) (fun l a V hp ha hc => ⟨.int .i64 (i : Int), by
        have x5 := (ev_form a 5).trans (old hp 5 (v := .int .i64 (i : Int)) (by kernel_rfl) (by kernel_rfl))
        go_simp, fun _ => rfl⟩)
    · exact st_valg (c := (decide (z < 0))) rfl rfl (by simp) (by kernel_rfl) (fun v h => h) (fun hn hc => absurd hc hn) (fun l a V hp ha hc => ⟨.pointer (some ⟨bx, ox + i, none⟩), by
        have x116 := (ev_form a 116).trans (show a.eval (.tmp 116) = .slice (some ⟨bx, ox, none⟩) n1 y1 from (kn hp ha 116 14 (by kernel_rfl) (by kernel_rfl)) hc)
        have x117 := (ev_form a 117).trans (show a.eval (.tmp 117) = .int .i64 (i : Int) from (kn hp ha 117 15 (by kernel_rfl) (by kernel_rfl)) hc)
        go_simp, fun _ => rfl⟩)
    · exact st_valg (c := (decide (z < 0))) rfl rfl (by simp) (by kernel_rfl) (fun v h => h) (fun hn hc => absurd hc hn) (fun l a V hp ha hc => ⟨.int .i64 z, by
        have x118 := (ev_form a 118).trans (show a.eval (.tmp 118) = .pointer (some ⟨bx, ox + i, none⟩) from (kn hp ha 118 16 (by kernel_rfl) (by kernel_rfl)) hc)
        have mz := cell_later hp.j hmz
        go_simp, fun _ => rfl⟩)
    · exact st_valg (c := (decide (z < 0))) rfl rfl (by simp) (by kernel_rfl) (fun v h => h) (fun hn hc => absurd hc hn) (fun l a V hp ha hc => ⟨.int .i64 (N2 : Int), by
        have x3 := (ev_form a 3).trans (old hp 3 (v := .int .i64 (N2 : Int)) (by kernel_rfl) (by kernel_rfl))
        go_simp, fun _ => rfl⟩)
    · exact st_valg (c := (decide (z < 0))) rfl rfl (by simp) (by kernel_rfl) (fun v h => h) (fun hn hc => absurd hc hn) (fun l a V hp ha hc => ⟨.bool (decide ((N2 : Int) ≤ z)), by
        have x119 := (ev_form a 119).trans (show a.eval (.tmp 119) = .int .i64 z from (kn hp ha 119 17 (by kernel_rfl) (by kernel_rfl)) hc)
        have x120 := (ev_form a 120).trans (show a.eval (.tmp 120) = .int .i64 (N2 : Int) from (kn hp ha 120 18 (by kernel_rfl) (by kernel_rfl)) hc)
        go_simp, fun _ => rfl⟩)
    · refine st_val rfl (fun l a V hp ha => ?_)
      have x111 := (ev_form a 111).trans (show a.eval (.tmp 111) = .bool (decide (z < 0)) from kn hp ha 111 9 (by kernel_rfl) (by kernel_rfl))
      have k121 := kn hp ha 121 19 (by kernel_rfl) (by kernel_rfl)
      have hF : ∀ c : Bool, (decide (z < 0)) = c → ∃ x, (execOp a.eval { dst := some 122, op := .pick (.tmp 111) (.const (.bool true)) (.tmp 121), type := 4, pos := "l09_fsm.go:15", after := #[{ on := 9, ground := .data }, { on := 19, ground := .data }], guard := none }).run Try.prog V = .ok (.value x) V ∧ x = .bool ((decide (z < 0)) || (decide ((N2 : Int) ≤ z))) := by
        intro c hc
        cases c with
        | true =>
          rw [hc] at x111 ⊢
          exact ⟨.bool true, by go_simp, rfl⟩
        | false =>
          have x121 := (ev_form a 121).trans (show a.eval (.tmp 121) = .bool (decide ((N2 : Int) ≤ z)) from k121 hc)
          rw [hc] at x111 ⊢
          exact ⟨.bool (decide ((N2 : Int) ≤ z)), by go_simp, by rw [Bool.false_or]⟩
      exact hF _ rfl
    · exact st_val rfl (fun l a V hp ha => ⟨.bool ((decide (z < 0)) || (decide ((N2 : Int) ≤ z))), by
        have x122 := (ev_form a 122).trans (show a.eval (.tmp 122) = .bool ((decide (z < 0)) || (decide ((N2 : Int) ≤ z))) from kn hp ha 122 20 (by kernel_rfl) (by kernel_rfl))
        go_simp, rfl⟩)
    · exact st_valg (c := ((decide (z < 0)) || (decide ((N2 : Int) ≤ z)))) rfl rfl (by simp) (by kernel_rfl) (fun v h => h) (fun hn hc => absurd hc hn) (fun l a V hp ha hc => ⟨.pointer (some ⟨w.heap.size, 4, none⟩), by
        have x1 := (ev_form a 1).trans (old hp 1 (v := .pointer (some ⟨w.heap.size, 0, none⟩)) (by kernel_rfl) (by kernel_rfl))
        go_simp, fun _ => rfl⟩)
    · exact st_valg (c := ((decide (z < 0)) || (decide ((N2 : Int) ≤ z)))) rfl rfl (by simp) (by kernel_rfl) (fun v h => h) (fun hn hc => absurd hc hn) (fun l a V hp ha hc => ⟨.slice (some ⟨b4, o4, none⟩) N4 c4, by
        have x124 := (ev_form a 124).trans (show a.eval (.tmp 124) = .pointer (some ⟨w.heap.size, 4, none⟩) from (kn hp ha 124 22 (by kernel_rfl) (by kernel_rfl)) hc)
        obtain ⟨q0, q1, q2, q3, q4⟩ := unhide HQ V hp.j
        go_simp, fun _ => rfl⟩)
    · exact st_valg (c := ((decide (z < 0)) || (decide ((N2 : Int) ≤ z)))) rfl rfl (by simp) (by kernel_rfl) (fun v h => h) (fun hn hc => absurd hc hn) (fun l a V hp ha hc => ⟨.int .i64 (s : Int), by
        have x4 := (ev_form a 4).trans (old hp 4 (v := .int .i64 (s : Int)) (by kernel_rfl) (by kernel_rfl))
        go_simp, fun _ => rfl⟩)
    · exact st_valg (c := ((decide (z < 0)) || (decide ((N2 : Int) ≤ z)))) rfl rfl (by simp) (by kernel_rfl) (fun v h => h) (fun hn hc => absurd hc hn) (fun l a V hp ha hc => ⟨.pointer (some ⟨b4, o4 + s, none⟩), by
        have x125 := (ev_form a 125).trans (show a.eval (.tmp 125) = .slice (some ⟨b4, o4, none⟩) N4 c4 from (kn hp ha 125 23 (by kernel_rfl) (by kernel_rfl)) hc)
        have x126 := (ev_form a 126).trans (show a.eval (.tmp 126) = .int .i64 (s : Int) from (kn hp ha 126 24 (by kernel_rfl) (by kernel_rfl)) hc)
        go_simp, fun _ => rfl⟩)
    · exact st_valg (c := ((decide (z < 0)) || (decide ((N2 : Int) ≤ z)))) rfl rfl (by simp) (by kernel_rfl) (fun v h => h) (fun hn hc => absurd hc hn) (fun l a V hp ha hc => ⟨.slice (some ⟨bz, oz, none⟩) n2 y2, by
        have x127 := (ev_form a 127).trans (show a.eval (.tmp 127) = .pointer (some ⟨b4, o4 + s, none⟩) from (kn hp ha 127 25 (by kernel_rfl) (by kernel_rfl)) hc)
        have m4 := cell_later hp.j hm4
        go_simp, fun _ => rfl⟩)
    · exact st_valg (c := ((decide (z < 0)) || (decide ((N2 : Int) ≤ z)))) rfl rfl (by simp) (by kernel_rfl) (fun v h => h) (fun hn hc => absurd hc hn) (fun l a V hp ha hc => ⟨.int .i64 (i : Int), by
        have x5 := (ev_form a 5).trans (old hp 5 (v := .int .i64 (i : Int)) (by kernel_rfl) (by kernel_rfl))
        go_simp, fun _ => rfl⟩)
    · exact st_valg (c := ((decide (z < 0)) || (decide ((N2 : Int) ≤ z)))) rfl rfl (by simp) (by kernel_rfl) (fun v h => h) (fun hn hc => absurd hc hn) (fun l a V hp ha hc => ⟨.pointer (some ⟨bz, oz + i, none⟩), by
        have x128 := (ev_form a 128).trans (show a.eval (.tmp 128) = .slice (some ⟨bz, oz, none⟩) n2 y2 from (kn hp ha 128 26 (by kernel_rfl) (by kernel_rfl)) hc)
        have x129 := (ev_form a 129).trans (show a.eval (.tmp 129) = .int .i64 (i : Int) from (kn hp ha 129 27 (by kernel_rfl) (by kernel_rfl)) hc)
        go_simp, fun _ => rfl⟩)
    · exact st_valg (c := ((decide (z < 0)) || (decide ((N2 : Int) ≤ z)))) rfl rfl (by simp) (by kernel_rfl) (fun v h => h) (fun hn hc => absurd hc hn) (fun l a V hp ha hc => ⟨.string y, by
        have x130 := (ev_form a 130).trans (show a.eval (.tmp 130) = .pointer (some ⟨bz, oz + i, none⟩) from (kn hp ha 130 28 (by kernel_rfl) (by kernel_rfl)) hc)
        have my := cell_later hp.j hmy
        go_simp, fun _ => rfl⟩)
    · exact st_valg (c := ((decide (z < 0)) || (decide ((N2 : Int) ≤ z)))) rfl rfl (by simp) (by kernel_rfl) (fun v h => h) (fun hn hc => absurd hc hn) (fun l a V hp ha hc => ⟨.int .i64 (y.size : Int), by
        have x131 := (ev_form a 131).trans (show a.eval (.tmp 131) = .string y from (kn hp ha 131 29 (by kernel_rfl) (by kernel_rfl)) hc)
        go_simp, fun _ => rfl⟩)
    · exact st_valg (c := ((decide (z < 0)) || (decide ((N2 : Int) ≤ z)))) rfl rfl (by simp) (by kernel_rfl) (fun v h => h) (fun hn hc => absurd hc hn) (fun l a V hp ha hc => ⟨.pointer (some ⟨w.heap.size, 1, none⟩), by
        have x1 := (ev_form a 1).trans (old hp 1 (v := .pointer (some ⟨w.heap.size, 0, none⟩)) (by kernel_rfl) (by kernel_rfl))
        go_simp, fun _ => rfl⟩)
    · exact st_valg (c := ((decide (z < 0)) || (decide ((N2 : Int) ≤ z)))) rfl rfl (by simp) (by kernel_rfl) (fun v h => h) (fun hn hc => absurd hc hn) (fun l a V hp ha hc => ⟨.int .i64 ob, by
        have x133 := (ev_form a 133).trans (show a.eval (.tmp 133) = .pointer (some ⟨w.heap.size, 1, none⟩) from (kn hp ha 133 31 (by kernel_rfl) (by kernel_rfl)) hc)
        obtain ⟨q0, q1, q2, q3, q4⟩ := unhide HQ V hp.j
        go_simp, fun _ => rfl⟩)
    · exact st_valg (c := ((decide (z < 0)) || (decide ((N2 : Int) ≤ z)))) rfl rfl (by simp) (by kernel_rfl) (fun v h => h) (fun hn hc => absurd hc hn) (fun l a V hp ha hc => ⟨.bool ((y.size : Int) != ob), by
        have x132 := (ev_form a 132).trans (show a.eval (.tmp 132) = .int .i64 (y.size : Int) from (kn hp ha 132 30 (by kernel_rfl) (by kernel_rfl)) hc)
        have x134 := (ev_form a 134).trans (show a.eval (.tmp 134) = .int .i64 ob from (kn hp ha 134 32 (by kernel_rfl) (by kernel_rfl)) hc)
        go_simp, fun _ => rfl⟩)
    · refine st_val rfl (fun l a V hp ha => ?_)
      have x123 := (ev_form a 123).trans (show a.eval (.tmp 123) = .bool ((decide (z < 0)) || (decide ((N2 : Int) ≤ z))) from kn hp ha 123 21 (by kernel_rfl) (by kernel_rfl))
      have k135 := kn hp ha 135 33 (by kernel_rfl) (by kernel_rfl)
      have hF : ∀ c : Bool, ((decide (z < 0)) || (decide ((N2 : Int) ≤ z))) = c → ∃ x, (execOp a.eval { dst := some 136, op := .pick (.tmp 123) (.const (.bool true)) (.tmp 135), type := 4, pos := "l09_fsm.go:15", after := #[{ on := 21, ground := .data }, { on := 33, ground := .data }], guard := none }).run Try.prog V = .ok (.value x) V ∧ x = .bool (((decide (z < 0)) || (decide ((N2 : Int) ≤ z))) || ((y.size : Int) != ob)) := by
        intro c hc
        cases c with
        | true =>
          rw [hc] at x123 ⊢
          exact ⟨.bool true, by go_simp, rfl⟩
        | false =>
          have x135 := (ev_form a 135).trans (show a.eval (.tmp 135) = .bool ((y.size : Int) != ob) from k135 hc)
          rw [hc] at x123 ⊢
          exact ⟨.bool ((y.size : Int) != ob), by go_simp, by rw [Bool.false_or]⟩
      exact hF _ rfl
    · exact st_val rfl (fun l a V hp ha => ⟨.bool (((decide (z < 0)) || (decide ((N2 : Int) ≤ z))) || ((y.size : Int) != ob)), by
        have x136 := (ev_form a 136).trans (show a.eval (.tmp 136) = .bool (((decide (z < 0)) || (decide ((N2 : Int) ≤ z))) || ((y.size : Int) != ob)) from kn hp ha 136 34 (by kernel_rfl) (by kernel_rfl))
        go_simp, rfl⟩)
    · exact st_valg (c := (((decide (z < 0)) || (decide ((N2 : Int) ≤ z))) || ((y.size : Int) != ob))) rfl rfl (by simp) (by kernel_rfl) (fun v h => h) (fun hn hc => absurd hc hn) (fun l a V hp ha hc => ⟨.pointer (some ⟨w.heap.size, 4, none⟩), by
        have x1 := (ev_form a 1).trans (old hp 1 (v := .pointer (some ⟨w.heap.size, 0, none⟩)) (by kernel_rfl) (by kernel_rfl))
        go_simp, fun _ => rfl⟩)
    · exact st_valg (c := (((decide (z < 0)) || (decide ((N2 : Int) ≤ z))) || ((y.size : Int) != ob))) rfl rfl (by simp) (by kernel_rfl) (fun v h => h) (fun hn hc => absurd hc hn) (fun l a V hp ha hc => ⟨.slice (some ⟨b4, o4, none⟩) N4 c4, by
        have x138 := (ev_form a 138).trans (show a.eval (.tmp 138) = .pointer (some ⟨w.heap.size, 4, none⟩) from (kn hp ha 138 36 (by kernel_rfl) (by kernel_rfl)) hc)
        obtain ⟨q0, q1, q2, q3, q4⟩ := unhide HQ V hp.j
        go_simp, fun _ => rfl⟩)
    · exact st_valg (c := (((decide (z < 0)) || (decide ((N2 : Int) ≤ z))) || ((y.size : Int) != ob))) rfl rfl (by simp) (by kernel_rfl) (fun v h => h) (fun hn hc => absurd hc hn) (fun l a V hp ha hc => ⟨.int .i64 (s : Int), by
        have x4 := (ev_form a 4).trans (old hp 4 (v := .int .i64 (s : Int)) (by kernel_rfl) (by kernel_rfl))
        go_simp, fun _ => rfl⟩)
    · exact st_valg (c := (((decide (z < 0)) || (decide ((N2 : Int) ≤ z))) || ((y.size : Int) != ob))) rfl rfl (by simp) (by kernel_rfl) (fun v h => h) (fun hn hc => absurd hc hn) (fun l a V hp ha hc => ⟨.pointer (some ⟨b4, o4 + s, none⟩), by
        have x139 := (ev_form a 139).trans (show a.eval (.tmp 139) = .slice (some ⟨b4, o4, none⟩) N4 c4 from (kn hp ha 139 37 (by kernel_rfl) (by kernel_rfl)) hc)
        have x140 := (ev_form a 140).trans (show a.eval (.tmp 140) = .int .i64 (s : Int) from (kn hp ha 140 38 (by kernel_rfl) (by kernel_rfl)) hc)
        go_simp, fun _ => rfl⟩)
    · exact st_valg (c := (((decide (z < 0)) || (decide ((N2 : Int) ≤ z))) || ((y.size : Int) != ob))) rfl rfl (by simp) (by kernel_rfl) (fun v h => h) (fun hn hc => absurd hc hn) (fun l a V hp ha hc => ⟨.slice (some ⟨bz, oz, none⟩) n2 y2, by
        have x141 := (ev_form a 141).trans (show a.eval (.tmp 141) = .pointer (some ⟨b4, o4 + s, none⟩) from (kn hp ha 141 39 (by kernel_rfl) (by kernel_rfl)) hc)
        have m4 := cell_later hp.j hm4
        go_simp, fun _ => rfl⟩)
    · exact st_valg (c := (((decide (z < 0)) || (decide ((N2 : Int) ≤ z))) || ((y.size : Int) != ob))) rfl rfl (by simp) (by kernel_rfl) (fun v h => h) (fun hn hc => absurd hc hn) (fun l a V hp ha hc => ⟨.int .i64 (i : Int), by
        have x5 := (ev_form a 5).trans (old hp 5 (v := .int .i64 (i : Int)) (by kernel_rfl) (by kernel_rfl))
        go_simp, fun _ => rfl⟩)
    · exact st_valg (c := (((decide (z < 0)) || (decide ((N2 : Int) ≤ z))) || ((y.size : Int) != ob))) rfl rfl (by simp) (by kernel_rfl) (fun v h => h) (fun hn hc => absurd hc hn) (fun l a V hp ha hc => ⟨.pointer (some ⟨bz, oz + i, none⟩), by
        have x142 := (ev_form a 142).trans (show a.eval (.tmp 142) = .slice (some ⟨bz, oz, none⟩) n2 y2 from (kn hp ha 142 40 (by kernel_rfl) (by kernel_rfl)) hc)
        have x143 := (ev_form a 143).trans (show a.eval (.tmp 143) = .int .i64 (i : Int) from (kn hp ha 143 41 (by kernel_rfl) (by kernel_rfl)) hc)
        go_simp, fun _ => rfl⟩)
    · exact st_valg (c := (((decide (z < 0)) || (decide ((N2 : Int) ≤ z))) || ((y.size : Int) != ob))) rfl rfl (by simp) (by kernel_rfl) (fun v h => h) (fun hn hc => absurd hc hn) (fun l a V hp ha hc => ⟨.string y, by
        have x144 := (ev_form a 144).trans (show a.eval (.tmp 144) = .pointer (some ⟨bz, oz + i, none⟩) from (kn hp ha 144 42 (by kernel_rfl) (by kernel_rfl)) hc)
        have my := cell_later hp.j hmy
        go_simp, fun _ => rfl⟩)
    · exact st_callg (f := 32) (c := (((decide (z < 0)) || (decide ((N2 : Int) ≤ z))) || ((y.size : Int) != ob))) rfl rfl (by simp) (by kernel_rfl) (fun v h => h) (fun hn hc => absurd hc hn) (fun l a V hp ha hc => ⟨#[.string y], by
        have x145 := (ev_form a 145).trans (show a.eval (.tmp 145) = .string y from (kn hp ha 145 43 (by kernel_rfl) (by kernel_rfl)) hc)
        go_simp, (sKnownX y V hyz).mono (by rintro e V1 ⟨rfl, hb⟩; exact ⟨_, rfl, fun _ => rfl, hb⟩)⟩)
    · exact st_valg (c := (((decide (z < 0)) || (decide ((N2 : Int) ≤ z))) || ((y.size : Int) != ob))) rfl rfl (by simp) (by kernel_rfl) (fun v h => h) (fun hn hc => absurd hc hn) (fun l a V hp ha hc => ⟨.bool (!((L y).all Vb.knB)), by
        have x146 := (ev_form a 146).trans (show a.eval (.tmp 146) = .bool ((L y).all Vb.knB) from (kn hp ha 146 44 (by kernel_rfl) (by kernel_rfl)) hc)
        go_simp, fun _ => rfl⟩)
    · refine st_val rfl (fun l a V hp ha => ?_)
      have x137 := (ev_form a 137).trans (show a.eval (.tmp 137) = .bool (((decide (z < 0)) || (decide ((N2 : Int) ≤ z))) || ((y.size : Int) != ob)) from kn hp ha 137 35 (by kernel_rfl) (by kernel_rfl))
      have k147 := kn hp ha 147 45 (by kernel_rfl) (by kernel_rfl)
      have hF : ∀ c : Bool, (((decide (z < 0)) || (decide ((N2 : Int) ≤ z))) || ((y.size : Int) != ob)) = c → ∃ x, (execOp a.eval { dst := some 148, op := .pick (.tmp 137) (.const (.bool true)) (.tmp 147), type := 4, pos := "l09_fsm.go:15", after := #[{ on := 35, ground := .data }, { on := 45, ground := .data }], guard := none }).run Try.prog V = .ok (.value x) V ∧ x = .bool ((((decide (z < 0)) || (decide ((N2 : Int) ≤ z))) || ((y.size : Int) != ob)) || (!((L y).all Vb.knB))) := by
        intro c hc
        cases c with
        | true =>
          rw [hc] at x137 ⊢
          exact ⟨.bool true, by go_simp, rfl⟩
        | false =>
          have x147 := (ev_form a 147).trans (show a.eval (.tmp 147) = .bool (!((L y).all Vb.knB)) from k147 hc)
          rw [hc] at x137 ⊢
          exact ⟨.bool (!((L y).all Vb.knB)), by go_simp, by rw [Bool.false_or]⟩
      exact hF _ rfl
  case hf =>
    intro l a V hp hdone
    have hv := hp.good 46 _ 148 rfl rfl (hdone 46 (by decide))
    have HXV := hide ((unhide HX).then hp.j)
    have HBV := hide hp.j
    obtain ⟨us, rfl, hus⟩ := putAll_of [102, 103, 104, 105, 106, 107, 108, 109, 110, 111, 112, 113, 114, 115, 116, 117, 118, 119, 120, 121, 122, 123, 124, 125, 126, 127, 128, 129, 130, 131, 132, 133, 134, 135, 136, 137, 138, 139, 140, 141, 142, 143, 144, 145, 146, 147, 148] hp.nt hp.df (fun t ht => hp.keep t (dstIn (by kernel_rfl) ht))
    have hu : us 148 = .bool (badIn ob z N2 y) := (hus 148).trans hv
    clear hp hdone hv hus
    simp only [putAll, List.foldl, Act.put, List.setIfInBounds_toArray, List.set_cons_zero, List.set_cons_succ, hu]
    exact unhide HQQ (us 102) (us 103) (us 104) (us 105) (us 106) (us 107) (us 108) (us 109) (us 110) (us 111) (us 112) (us 113) (us 114) (us 115) (us 116) (us 117) (us 118) (us 119) (us 120) (us 121) (us 122) (us 123) (us 124) (us 125) (us 126) (us 127) (us 128) (us 129) (us 130) (us 131) (us 132) (us 133) (us 134) (us 135) (us 136) (us 137) (us 138) (us 139) (us 140) (us 141) (us 142) (us 143) (us 144) (us 145) (us 146) (us 147) V (unhide HXV) (unhide HBV)
end Go.Proofs.Ytjbbjgoofenkpaa
