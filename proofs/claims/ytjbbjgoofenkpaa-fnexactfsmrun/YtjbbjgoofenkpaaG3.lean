/- The specification's FsmOK: the head of a state's row. -/
import Derived.Test.YtjbbjgoofenkpaaG2
namespace Go.Proofs.Ytjbbjgoofenkpaa
open Go.RowKit Gs
set_option linter.unusedVariables false
set_option linter.unusedSimpArgs false
set_option maxRecDepth 100000
set_option maxHeartbeats 32000000 in
theorem reg7 {Q : Exit → Act → World → Prop} (ins ob : Int) (N2 N3 N4 c2 c3 c4 b2 o2 b3 o3 b4 o4 : Nat) (n1 n2 y1 y2 s N : Nat) (x1 x2 : Option Addr) (st : ByteArray) (w W : World) (hbx : Bt 31 w #[.int .i64 ins, .int .i64 ob, .slice (some ⟨b2, o2, none⟩) N2 c2, .slice (some ⟨b3, o3, none⟩) N3 c3, .slice (some ⟨b4, o4, none⟩) N4 c4] W) (hwI : IntKind.i64.wrap (2 ^ ins.toNat) = (N : Int)) (k0 : 0 ≤ ins) (k1 : ins ≤ 5) (hst : st.size ≤ maxLen) (hz1 : n1 ≤ maxLen) (hz2 : n2 ≤ maxLen) (hms : W.cell? ⟨b2, o2 + s, none⟩ = some (.string st)) (hm3 : W.cell? ⟨b3, o3 + s, none⟩ = some (.slice x1 n1 y1)) (hm4 : W.cell? ⟨b4, o4 + s, none⟩ = some (.slice x2 n2 y2)) (j1 : (s : Int) < (N2 : Int)) (j3 : (s : Int) < (N3 : Int)) (j4 : (s : Int) < (N4 : Int)) (hs64 : s < 64)
    (u2 u5 u6 u7 u8 u9 u10 u11 u12 u13 u14 u15 u16 u17 u18 u19 u20 u21 u22 u23 u24 u25 u26 u27 u28 u29 u30 u31 u32 u33 u34 u35 u36 u37 u38 u39 u40 u41 u42 u43 u44 u45 u46 u47 u48 u49 u50 u51 u52 u53 u54 u55 u56 u57 u58 u59 u60 u61 u62 u63 u64 u65 u66 u67 u68 u69 u70 u71 u72 u73 u74 u75 u76 u77 u78 u79 u80 u81 u82 u83 u84 u85 u86 u87 u88 u89 u90 u91 u92 u93 u94 u95 u96 u97 u98 u99 u100 u101 u102 u103 u104 u105 u106 u107 u108 u109 u110 u111 u112 u113 u114 u115 u116 u117 u118 u119 u120 u121 u122 u123 u124 u125 u126 u127 u128 u129 u130 u131 u132 u133 u134 u135 u136 u137 u138 u139 u140 u141 u142 u143 u144 u145 u146 u147 u148 u149 u150 u151 u152 u153 u154 u155 u156 u157 u158 u159 u160 u161 u162 u163 u164 : Value) (hQ : ∀ (p55 p56 p57 p58 p59 p60 p61 p62 p63 p64 p65 p66 p67 p68 p69 p70 p71 p72 p73 p74 p75 p76 p77 p78 p79 p80 p81 p82 p83 p84 p85 p86 p87 p88 p89 p90 p91 p92 p93 : Value) (V : World), Bt 31 w #[.int .i64 ins, .int .i64 ob, .slice (some ⟨b2, o2, none⟩) N2 c2, .slice (some ⟨b3, o3, none⟩) N3 c3, .slice (some ⟨b4, o4, none⟩) N4 c4] V → Below W.heap.size W V → Q .normal { tmps := #[.agg #[.int .i64 ins, .int .i64 ob, .slice (some ⟨b2, o2, none⟩) N2 c2, .slice (some ⟨b3, o3, none⟩) N3 c3, .slice (some ⟨b4, o4, none⟩) N4 c4], .pointer (some ⟨w.heap.size, 0, none⟩), u2, .int .i64 (N2 : Int), .int .i64 (s : Int), u5, u6, u7, u8, u9, u10, u11, u12, u13, u14, u15, u16, u17, u18, u19, u20, u21, u22, u23, u24, u25, u26, u27, u28, u29, u30, u31, u32, u33, u34, u35, u36, u37, u38, u39, u40, u41, u42, u43, u44, u45, u46, u47, u48, u49, u50, u51, u52, u53, u54, p55, p56, p57, p58, p59, p60, p61, p62, p63, p64, p65, p66, p67, p68, p69, p70, p71, p72, p73, p74, p75, p76, p77, p78, p79, p80, p81, p82, p83, p84, p85, p86, p87, p88, p89, p90, p91, p92, p93, .bool (badHead st n1 n2 N), u95, u96, u97, u98, u99, u100, u101, u102, u103, u104, u105, u106, u107, u108, u109, u110, u111, u112, u113, u114, u115, u116, u117, u118, u119, u120, u121, u122, u123, u124, u125, u126, u127, u128, u129, u130, u131, u132, u133, u134, u135, u136, u137, u138, u139, u140, u141, u142, u143, u144, u145, u146, u147, u148, u149, u150, u151, u152, u153, u154, u155, u156, u157, u158, u159, u160, u161, u162, u163, u164], defers := [] } V) :
    Code.wp Try.prog (atR7 (bodyOf Try.f19)) Q { tmps := #[.agg #[.int .i64 ins, .int .i64 ob, .slice (some ⟨b2, o2, none⟩) N2 c2, .slice (some ⟨b3, o3, none⟩) N3 c3, .slice (some ⟨b4, o4, none⟩) N4 c4], .pointer (some ⟨w.heap.size, 0, none⟩), u2, .int .i64 (N2 : Int), .int .i64 (s : Int), u5, u6, u7, u8, u9, u10, u11, u12, u13, u14, u15, u16, u17, u18, u19, u20, u21, u22, u23, u24, u25, u26, u27, u28, u29, u30, u31, u32, u33, u34, u35, u36, u37, u38, u39, u40, u41, u42, u43, u44, u45, u46, u47, u48, u49, u50, u51, u52, u53, u54, u55, u56, u57, u58, u59, u60, u61, u62, u63, u64, u65, u66, u67, u68, u69, u70, u71, u72, u73, u74, u75, u76, u77, u78, u79, u80, u81, u82, u83, u84, u85, u86, u87, u88, u89, u90, u91, u92, u93, u94, u95, u96, u97, u98, u99, u100, u101, u102, u103, u104, u105, u106, u107, u108, u109, u110, u111, u112, u113, u114, u115, u116, u117, u118, u119, u120, u121, u122, u123, u124, u125, u126, u127, u128, u129, u130, u131, u132, u133, u134, u135, u136, u137, u138, u139, u140, u141, u142, u143, u144, u145, u146, u147, u148, u149, u150, u151, u152, u153, u154, u155, u156, u157, u158, u159, u160, u161, u162, u163, u164], defers := [] } W := by
  have HX := hide hbx
  have HQ : Hid (∀ V, Below W.heap.size W V → V.cell? ⟨w.heap.size, 0, none⟩ = some (.int .i64 ins) ∧ V.cell? ⟨w.heap.size, 1, none⟩ = some (.int .i64 ob) ∧ V.cell? ⟨w.heap.size, 2, none⟩ = some (.slice (some ⟨b2, o2, none⟩) N2 c2) ∧ V.cell? ⟨w.heap.size, 3, none⟩ = some (.slice (some ⟨b3, o3, none⟩) N3 c3) ∧ V.cell? ⟨w.heap.size, 4, none⟩ = some (.slice (some ⟨b4, o4, none⟩) N4 c4)) := hide (fun V h => (hbx.then h).get5)
  have HQQ := hide hQ
  clear hQ hbx
  conv => arg 2; whnf
  refine wp_plan (GF (FS7 ins w.heap.size N2 N3 N4 n1 n2 c2 c3 c4 y1 y2 b2 o2 b3 o3 b4 o4 s N x1 x2 st)) (JB W) (by kernel_rfl) 165 (by kernel_rfl) (by kernel_rfl) ?hj ?hs ?hf
  case hj => exact bdr (brf W)
  case hs =>
    refine ⟨?_, ?_, ?_, ?_, ?_, ?_, ?_, ?_, ?_, ?_, ?_, ?_, ?_, ?_, ?_, ?_, ?_, ?_, ?_, ?_, ?_, ?_, ?_, ?_, ?_, ?_, ?_, ?_, ?_, ?_, ?_, ?_, ?_, ?_, ?_, ?_, ?_, ?_, ?_, ?_, trivial⟩
    · exact st_val rfl (fun l a V hp ha => ⟨.pointer (some ⟨w.heap.size, 2, none⟩), by
        have x1 := (ev_form a 1).trans (old hp 1 (v := .pointer (some ⟨w.heap.size, 0, none⟩)) (by kernel_rfl) (by kernel_rfl))
        go_simp, rfl⟩)
    · exact st_val rfl (fun l a V hp ha => ⟨.slice (some ⟨b2, o2, none⟩) N2 c2, by
        have x55 := (ev_form a 55).trans (show a.eval (.tmp 55) = .pointer (some ⟨w.heap.size, 2, none⟩) from kn hp ha 55 0 (by kernel_rfl) (by kernel_rfl))
        obtain ⟨q0, q1, q2, q3, q4⟩ := unhide HQ V hp.j
        go_simp, rfl⟩)
    · exact st_val rfl (fun l a V hp ha => ⟨.int .i64 (s : Int), by
        have x4 := (ev_form a 4).trans (old hp 4 (v := .int .i64 (s : Int)) (by kernel_rfl) (by kernel_rfl))
        go_simp, rfl⟩)
    · exact st_val rfl (fun l a V hp ha => ⟨.pointer (some ⟨b2, o2 + s, none⟩), by
        have x56 := (ev_form a 56).trans (show a.eval (.tmp 56) = .slice (some ⟨b2, o2, none⟩) N2 c2 from kn hp ha 56 1 (by kernel_rfl) (by kernel_rfl))
        have x57 := (ev_form a 57).trans (show a.eval (.tmp 57) = .int .i64 (s : Int) from kn hp ha 57 2 (by kernel_rfl) (by kernel_rfl))
        go_simp, rfl⟩)
    · exact st_val rfl (fun l a V hp ha => ⟨.string st, by
        have x58 := (ev_form a 58).trans (show a.eval (.tmp 58) = .pointer (some ⟨b2, o2 + s, none⟩) from kn hp ha 58 3 (by kernel_rfl) (by kernel_rfl))
        have ms := cell_later hp.j hms
        go_simp, rfl⟩)
    · exact st_val rfl (fun l a V hp ha => ⟨.int .i64 (st.size : Int), by
        have x59 := (ev_form a 59).trans (show a.eval (.tmp 59) = .string st from kn hp ha 59 4 (by kernel_rfl) (by kernel_rfl))
        go_simp, rfl⟩)
    · exact st_val rfl (fun l a V hp ha => ⟨.bool (decide (64 < (st.size : Int))), by
        have x60 := (ev_form a 60).trans (show a.eval (.tmp 60) = .int .i64 (st.size : Int) from kn hp ha 60 5 (by kernel_rfl) (by kernel_rfl))
        go_simp, rfl⟩)
    · exact st_val rfl (fun l a V hp ha => ⟨.bool (decide (64 < (st.size : Int))), by
        have x61 := (ev_form a 61).trans (show a.eval (.tmp 61) = .bool (decide (64 < (st.size : Int))) from kn hp ha 61 6 (by kernel_rfl) (by kernel_rfl))
        go_simp, rfl⟩)
    · exact st_valg (c := (decide (64 < (st.size : Int)))) rfl rfl (by simp) (by kernel_rfl) (fun v h => h) (fun hn hc => absurd hc hn) (fun l a V hp ha hc => ⟨.pointer (some ⟨w.heap.size, 2, none⟩), by
        have x1 := (ev_form a 1).trans (old hp 1 (v := .pointer (some ⟨w.heap.size, 0, none⟩)) (by kernel_rfl) (by kernel_rfl))
        go_simp, fun _ => rfl⟩)
    · exact st_valg (c := (decide (64 < (st.size : Int)))) rfl rfl (by simp) (by kernel_rfl) (fun v h => h) (fun hn hc => absurd hc hn) (fun l a V hp ha hc => ⟨.slice (some ⟨b2, o2, none⟩) N2 c2, by
        have x63 := (ev_form a 63).trans (show a.eval (.tmp 63) = .pointer (some ⟨w.heap.size, 2, none⟩) from (kn hp ha 63 8 (by kernel_rfl) (by kernel_rfl)) hc)
        obtain ⟨q0, q1, q2, q3, q4⟩ := unhide HQ V hp.j
        go_simp, fun _ => rfl⟩)
    · exact st_valg (c := (decide (64 < (st.size : Int)))) rfl rfl (by simp) (by kernel_rfl) (fun v h => h) (fun hn hc => absurd hc hn) (fun l a V hp ha hc => ⟨.int .i64 (s : Int), by
        have x4 := (ev_form a 4).trans (old hp 4 (v := .int .i64 (s : Int)) (by kernel_rfl) (by kernel_rfl))
        go_simp, fun _ => rfl⟩)
    · exact st_valg (c := (decide (64 < (st.size : Int)))) rfl rfl (by simp) (by kernel_rfl) (fun v h => h) (fun hn hc => absurd hc hn) (fun l a V hp ha hc => ⟨.pointer (some ⟨b2, o2 + s, none⟩), by
        have x64 := (ev_form a 64).trans (show a.eval (.tmp 64) = .slice (some ⟨b2, o2, none⟩) N2 c2 from (kn hp ha 64 9 (by kernel_rfl) (by kernel_rfl)) hc)
        have x65 := (ev_form a 65).trans (show a.eval (.tmp 65) = .int .i64 (s : Int) from (kn hp ha 65 10 (by kernel_rfl) (by kernel_rfl)) hc)
        go_simp, fun _ => rfl⟩)
    · exact st_valg (c := (decide (64 < (st.size : Int)))) rfl rfl (by simp) (by kernel_rfl) (fun v h => h) (fun hn hc => absurd hc hn) (fun l a V hp ha hc => ⟨.string st, by
        have x66 := (ev_form a 66).trans (show a.eval (.tmp 66) = .pointer (some ⟨b2, o2 + s, none⟩) from (kn hp ha 66 11 (by kernel_rfl) (by kernel_rfl)) hc)
        have ms := cell_later hp.j hms
        go_simp, fun _ => rfl⟩)
    · exact st_callg (f := 32) (c := (decide (64 < (st.size : Int)))) rfl rfl (by simp) (by kernel_rfl) (fun v h => h) (fun hn hc => absurd hc hn) (fun l a V hp ha hc => ⟨#[.string st], by
        have x67 := (ev_form a 67).trans (show a.eval (.tmp 67) = .string st from (kn hp ha 67 12 (by kernel_rfl) (by kernel_rfl)) hc)
        go_simp, (sKnownX st V hst).mono (by rintro e V1 ⟨rfl, hb⟩; exact ⟨_, rfl, fun _ => rfl, hb⟩)⟩)
    · exact st_valg (c := (decide (64 < (st.size : Int)))) rfl rfl (by simp) (by kernel_rfl) (fun v h => h) (fun hn hc => absurd hc hn) (fun l a V hp ha hc => ⟨.bool (!((L st).all Vb.knB)), by
        have x68 := (ev_form a 68).trans (show a.eval (.tmp 68) = .bool ((L st).all Vb.knB) from (kn hp ha 68 13 (by kernel_rfl) (by kernel_rfl)) hc)
        go_simp, fun _ => rfl⟩)
    · refine st_val rfl (fun l a V hp ha => ?_)
      have x62 := (ev_form a 62).trans (show a.eval (.tmp 62) = .bool (decide (64 < (st.size : Int))) from kn hp ha 62 7 (by kernel_rfl) (by kernel_rfl))
      have k69 := kn hp ha 69 14 (by kernel_rfl) (by kernel_rfl)
      have hF : ∀ c : Bool, (decide (64 < (st.size : Int))) = c → ∃ x, (execOp a.eval { dst := some 70, op := .pick (.tmp 62) (.const (.bool true)) (.tmp 69), type := 4, pos := "l09_fsm.go:11", after := #[{ on := 7, ground := .data }, { on := 14, ground := .data }], guard := none }).run Try.prog V = .ok (.value x) V ∧ x = .bool ((decide (64 < (st.size : Int))) || (!((L st).all Vb.knB))) := by
        intro c hc
        cases c with
        | true =>
          rw [hc] at x62 ⊢
          exact ⟨.bool true, by go_simp, rfl⟩
        | false =>
          have x69 := (ev_form a 69).trans (show a.eval (.tmp 69) = .bool (!((L st).all Vb.knB)) from k69 hc)
          rw [hc] at x62 ⊢
          exact ⟨.bool (!((L st).all Vb.knB)), by go_simp, by rw [Bool.false_or]⟩
      exact hF _ rfl
    · exact st_val rfl (fun l a V hp ha => ⟨.bool (decide (64 < (st.size : Int)) || (!((L st).all Vb.knB))), by
        have x70 := (ev_form a 70).trans (show a.eval (.tmp 70) = .bool (decide (64 < (st.size : Int)) || (!((L st).all Vb.knB))) from kn hp ha 70 15 (by kernel_rfl) (by kernel_rfl))
        go_simp, rfl⟩)
    · exact st_valg (c := (decide (64 < (st.size : Int)) || (!((L st).all Vb.knB)))) rfl rfl (by simp) (by kernel_rfl) (fun v h => h) (fun hn hc => absurd hc hn) (fun l a V hp ha hc => ⟨.pointer (some ⟨w.heap.size, 3, none⟩), by
        have x1 := (ev_form a 1).trans (old hp 1 (v := .pointer (some ⟨w.heap.size, 0, none⟩)) (by kernel_rfl) (by kernel_rfl))
        go_simp, fun _ => rfl⟩)
    · exact st_valg (c := (decide (64 < (st.size : Int)) || (!((L st).all Vb.knB)))) rfl rfl (by simp) (by kernel_rfl) (fun v h => h) (fun hn hc => absurd hc hn) (fun l a V hp ha hc => ⟨.slice (some ⟨b3, o3, none⟩) N3 c3, by
        have x72 := (ev_form a 72).trans (show a.eval (.tmp 72) = .pointer (some ⟨w.heap.size, 3, none⟩) from (kn hp ha 72 17 (by kernel_rfl) (by kernel_rfl)) hc)
        obtain ⟨q0, q1, q2, q3, q4⟩ := unhide HQ V hp.j
        go_simp, fun _ => rfl⟩)
    · exact st_valg (c := (decide (64 < (st.size : Int)) || (!((L st).all Vb.knB)))) rfl rfl (by simp) (by kernel_rfl) (fun v h => h) (fun hn hc => absurd hc hn) (fun l a V hp ha hc => ⟨.int .i64 (s : Int), by
        have x4 := (ev_form a 4).trans (old hp 4 (v := .int .i64 (s : Int)) (by kernel_rfl) (by kernel_rfl))
        go_simp, fun _ => rfl⟩)
    · exact st_valg (c := (decide (64 < (st.size : Int)) || (!((L st).all Vb.knB)))) rfl rfl (by simp) (by kernel_rfl) (fun v h => h) (fun hn hc => absurd hc hn) (fun l a V hp ha hc => ⟨.pointer (some ⟨b3, o3 + s, none⟩), by
        have x73 := (ev_form a 73).trans (show a.eval (.tmp 73) = .slice (some ⟨b3, o3, none⟩) N3 c3 from (kn hp ha 73 18 (by kernel_rfl) (by kernel_rfl)) hc)
        have x74 := (ev_form a 74).trans (show a.eval (.tmp 74) = .int .i64 (s : Int) from (kn hp ha 74 19 (by kernel_rfl) (by kernel_rfl)) hc)
        go_simp, fun _ => rfl⟩)
    · exact st_valg (c := (decide (64 < (st.size : Int)) || (!((L st).all Vb.knB)))) rfl rfl (by simp) (by kernel_rfl) (fun v h => h) (fun hn hc => absurd hc hn) (fun l a V hp ha hc => ⟨.slice x1 n1 y1, by
        have x75 := (ev_form a 75).trans (show a.eval (.tmp 75) = .pointer (some ⟨b3, o3 + s, none⟩) from (kn hp ha 75 20 (by kernel_rfl) (by kernel_rfl)) hc)
        have m3 := cell_later hp.j hm3
        go_simp, fun _ => rfl⟩)
    · exact st_valg (c := (decide (64 < (st.size : Int)) || (!((L st).all Vb.knB)))) rfl rfl (by simp) (by kernel_rfl) (fun v h => h) (fun hn hc => absurd hc hn) (fun l a V hp ha hc => ⟨.int .i64 (n1 : Int), by
        have x76 := (ev_form a 76).trans (show a.eval (.tmp 76) = .slice x1 n1 y1 from (kn hp ha 76 21 (by kernel_rfl) (by kernel_rfl)) hc)
        go_simp, fun _ => rfl⟩)
    · exact st_valg (c := (decide (64 < (st.size : Int)) || (!((L st).all Vb.knB)))) rfl rfl (by simp) (by kernel_rfl) (fun v h => h) (fun hn hc => absurd hc hn) (fun l a V hp ha hc => ⟨.pointer (some ⟨w.heap.size, 0, none⟩), by
        have x1 := (ev_form a 1).trans (old hp 1 (v := .pointer (some ⟨w.heap.size, 0, none⟩)) (by kernel_rfl) (by kernel_rfl))
        go_simp, fun _ => rfl⟩)
    · exact st_valg (c := (decide (64 < (st.size : Int)) || (!((L st).all Vb.knB)))) rfl rfl (by simp) (by kernel_rfl) (fun v h => h) (fun hn hc => absurd hc hn) (fun l a V hp ha hc => ⟨.int .i64 ins, by
        have x78 := (ev_form a 78).trans (show a.eval (.tmp 78) = .pointer (some ⟨w.heap.size, 0, none⟩) from (kn hp ha 78 23 (by kernel_rfl) (by kernel_rfl)) hc)
        obtain ⟨q0, q1, q2, q3, q4⟩ := unhide HQ V hp.j
        go_simp, fun _ => rfl⟩)
    · exact st_valg (c := (decide (64 < (st.size : Int)) || (!((L st).all Vb.knB)))) rfl rfl (by simp) (by kernel_rfl) (fun v h => h) (fun hn hc => absurd hc hn) (fun l a V hp ha hc => ⟨.int .i64 (N : Int), by
        have x79 := (ev_form a 79).trans (show a.eval (.tmp 79) = .int .i64 ins from (kn hp ha 79 24 (by kernel_rfl) (by kernel_rfl)) hc)
        have hw := hwI
        go_simp, fun _ => rfl⟩)
    · exact st_valg (c := (decide (64 < (st.size : Int)) || (!((L st).all Vb.knB)))) rfl rfl (by simp) (by kernel_rfl) (fun v h => h) (fun hn hc => absurd hc hn) (fun l a V hp ha hc => ⟨.bool ((n1 : Int) != (N : Int)), by
        have x77 := (ev_form a 77).trans (show a.eval (.tmp 77) = .int .i64 (n1 : Int) from (kn hp ha 77 22 (by kernel_rfl) (by kernel_rfl)) hc)
        have x80 := (ev_form a 80).trans (show a.eval (.tmp 80) = .int .i64 (N : Int) from (kn hp ha 80 25 (by kernel_rfl) (by kernel_rfl)) hc)
        go_simp, fun _ => rfl⟩)
    · refine st_val rfl (fun l a V hp ha => ?_)
      have x71 := (ev_form a 71).trans (show a.eval (.tmp 71) = .bool (decide (64 < (st.size : Int)) || (!((L st).all Vb.knB))) from kn hp ha 71 16 (by kernel_rfl) (by kernel_rfl))
      have k81 := kn hp ha 81 26 (by kernel_rfl) (by kernel_rfl)
      have hF : ∀ c : Bool, (decide (64 < (st.size : Int)) || (!((L st).all Vb.knB))) = c → ∃ x, (execOp a.eval { dst := some 82, op := .pick (.tmp 71) (.const (.bool true)) (.tmp 81), type := 4, pos := "l09_fsm.go:11", after := #[{ on := 16, ground := .data }, { on := 26, ground := .data }], guard := none }).run Try.prog V = .ok (.value x) V ∧ x = .bool ((decide (64 < (st.size : Int)) || (!((L st).all Vb.knB))) || ((n1 : Int) != (N : Int))) := by
        intro c hc
        cases c with
        | true =>
          rw [hc] at x71 ⊢
          exact ⟨.bool true, by go_simp, rfl⟩
        | false =>
          have x81 := (ev_form a 81).trans (show a.eval (.tmp 81) = .bool ((n1 : Int) != (N : Int)) from k81 hc)
          rw [hc] at x71 ⊢
          exact ⟨.bool ((n1 : Int) != (N : Int)), by go_simp, by rw [Bool.false_or]⟩
      exact hF _ rfl
    · exact st_val rfl (fun l a V hp ha => ⟨.bool ((decide (64 < (st.size : Int)) || (!((L st).all Vb.knB))) || ((n1 : Int) != (N : Int))), by
        have x82 := (ev_form a 82).trans (show a.eval (.tmp 82) = .bool ((decide (64 < (st.size : Int)) || (!((L st).all Vb.knB))) || ((n1 : Int) != (N : Int))) from kn hp ha 82 27 (by kernel_rfl) (by kernel_rfl))
        go_simp, rfl⟩)
    · exact st_valg (c := ((decide (64 < (st.size : Int)) || (!((L st).all Vb.knB))) || ((n1 : Int) != (N : Int)))) rfl rfl (by simp) (by kernel_rfl) (fun v h => h) (fun hn hc => absurd hc hn) (fun l a V hp ha hc => ⟨.pointer (some ⟨w.heap.size, 4, none⟩), by
        have x1 := (ev_form a 1).trans (old hp 1 (v := .pointer (some ⟨w.heap.size, 0, none⟩)) (by kernel_rfl) (by kernel_rfl))
        go_simp, fun _ => rfl⟩)
    · exact st_valg (c := ((decide (64 < (st.size : Int)) || (!((L st).all Vb.knB))) || ((n1 : Int) != (N : Int)))) rfl rfl (by simp) (by kernel_rfl) (fun v h => h) (fun hn hc => absurd hc hn) (fun l a V hp ha hc => ⟨.slice (some ⟨b4, o4, none⟩) N4 c4, by
        have x84 := (ev_form a 84).trans (show a.eval (.tmp 84) = .pointer (some ⟨w.heap.size, 4, none⟩) from (kn hp ha 84 29 (by kernel_rfl) (by kernel_rfl)) hc)
        obtain ⟨q0, q1, q2, q3, q4⟩ := unhide HQ V hp.j
        go_simp, fun _ => rfl⟩)
    · exact st_valg (c := ((decide (64 < (st.size : Int)) || (!((L st).all Vb.knB))) || ((n1 : Int) != (N : Int)))) rfl rfl (by simp) (by kernel_rfl) (fun v h => h) (fun hn hc => absurd hc hn) (fun l a V hp ha hc => ⟨.int .i64 (s : Int), by
        have x4 := (ev_form a 4).trans (old hp 4 (v := .int .i64 (s : Int)) (by kernel_rfl) (by kernel_rfl))
        go_simp, fun _ => rfl⟩)
    · exact st_valg (c := ((decide (64 < (st.size : Int)) || (!((L st).all Vb.knB))) || ((n1 : Int) != (N : Int)))) rfl rfl (by simp) (by kernel_rfl) (fun v h => h) (fun hn hc => absurd hc hn) (fun l a V hp ha hc => ⟨.pointer (some ⟨b4, o4 + s, none⟩), by
        have x85 := (ev_form a 85).trans (show a.eval (.tmp 85) = .slice (some ⟨b4, o4, none⟩) N4 c4 from (kn hp ha 85 30 (by kernel_rfl) (by kernel_rfl)) hc)
        have x86 := (ev_form a 86).trans (show a.eval (.tmp 86) = .int .i64 (s : Int) from (kn hp ha 86 31 (by kernel_rfl) (by kernel_rfl)) hc)
        go_simp, fun _ => rfl⟩)
    · exact st_valg (c := ((decide (64 < (st.size : Int)) || (!((L st).all Vb.knB))) || ((n1 : Int) != (N : Int)))) rfl rfl (by simp) (by kernel_rfl) (fun v h => h) (fun hn hc => absurd hc hn) (fun l a V hp ha hc => ⟨.slice x2 n2 y2, by
        have x87 := (ev_form a 87).trans (show a.eval (.tmp 87) = .pointer (some ⟨b4, o4 + s, none⟩) from (kn hp ha 87 32 (by kernel_rfl) (by kernel_rfl)) hc)
        have m4 := cell_later hp.j hm4
        go_simp, fun _ => rfl⟩)
    · exact st_valg (c := ((decide (64 < (st.size : Int)) || (!((L st).all Vb.knB))) || ((n1 : Int) != (N : Int)))) rfl rfl (by simp) (by kernel_rfl) (fun v h => h) (fun hn hc => absurd hc hn) (fun l a V hp ha hc => ⟨.int .i64 (n2 : Int), by
        have x88 := (ev_form a 88).trans (show a.eval (.tmp 88) = .slice x2 n2 y2 from (kn hp ha 88 33 (by kernel_rfl) (by kernel_rfl)) hc)
        go_simp, fun _ => rfl⟩)
    · exact st_valg (c := ((decide (64 < (st.size : Int)) || (!((L st).all Vb.knB))) || ((n1 : Int) != (N : Int)))) rfl rfl (by simp) (by kernel_rfl) (fun v h => h) (fun hn hc => absurd hc hn) (fun l a V hp ha hc => ⟨.pointer (some ⟨w.heap.size, 0, none⟩), by
        have x1 := (ev_form a 1).trans (old hp 1 (v := .pointer (some ⟨w.heap.size, 0, none⟩)) (by kernel_rfl) (by kernel_rfl))
        go_simp, fun _ => rfl⟩)
    · exact st_valg (c := ((decide (64 < (st.size : Int)) || (!((L st).all Vb.knB))) || ((n1 : Int) != (N : Int)))) rfl rfl (by simp) (by kernel_rfl) (fun v h => h) (fun hn hc => absurd hc hn) (fun l a V hp ha hc => ⟨.int .i64 ins, by
        have x90 := (ev_form a 90).trans (show a.eval (.tmp 90) = .pointer (some ⟨w.heap.size, 0, none⟩) from (kn hp ha 90 35 (by kernel_rfl) (by kernel_rfl)) hc)
        obtain ⟨q0, q1, q2, q3, q4⟩ := unhide HQ V hp.j
        go_simp, fun _ => rfl⟩)
    · exact st_valg (c := ((decide (64 < (st.size : Int)) || (!((L st).all Vb.knB))) || ((n1 : Int) != (N : Int)))) rfl rfl (by simp) (by kernel_rfl) (fun v h => h) (fun hn hc => absurd hc hn) (fun l a V hp ha hc => ⟨.int .i64 (N : Int), by
        have x91 := (ev_form a 91).trans (show a.eval (.tmp 91) = .int .i64 ins from (kn hp ha 91 36 (by kernel_rfl) (by kernel_rfl)) hc)
        have hw := hwI
        go_simp, fun _ => rfl⟩)
    · exact st_valg (c := ((decide (64 < (st.size : Int)) || (!((L st).all Vb.knB))) || ((n1 : Int) != (N : Int)))) rfl rfl (by simp) (by kernel_rfl) (fun v h => h) (fun hn hc => absurd hc hn) (fun l a V hp ha hc => ⟨.bool ((n2 : Int) != (N : Int)), by
        have x89 := (ev_form a 89).trans (show a.eval (.tmp 89) = .int .i64 (n2 : Int) from (kn hp ha 89 34 (by kernel_rfl) (by kernel_rfl)) hc)
        have x92 := (ev_form a 92).trans (show a.eval (.tmp 92) = .int .i64 (N : Int) from (kn hp ha 92 37 (by kernel_rfl) (by kernel_rfl)) hc)
        go_simp, fun _ => rfl⟩)
    · refine st_val rfl (fun l a V hp ha => ?_)
      have x83 := (ev_form a 83).trans (show a.eval (.tmp 83) = .bool ((decide (64 < (st.size : Int)) || (!((L st).all Vb.knB))) || ((n1 : Int) != (N : Int))) from kn hp ha 83 28 (by kernel_rfl) (by kernel_rfl))
      have k93 := kn hp ha 93 38 (by kernel_rfl) (by kernel_rfl)
      have hF : ∀ c : Bool, ((decide (64 < (st.size : Int)) || (!((L st).all Vb.knB))) || ((n1 : Int) != (N : Int))) = c → ∃ x, (execOp a.eval { dst := some 94, op := .pick (.tmp 83) (.const (.bool true)) (.tmp 93), type := 4, pos := "l09_fsm.go:11", after := #[{ on := 28, ground := .data }, { on := 38, ground := .data }], guard := none }).run Try.prog V = .ok (.value x) V ∧ x = .bool (((decide (64 < (st.size : Int)) || (!((L st).all Vb.knB))) || ((n1 : Int) != (N : Int))) || ((n2 : Int) != (N : Int))) := by
        intro c hc
        cases c with
        | true =>
          rw [hc] at x83 ⊢
          exact ⟨.bool true, by go_simp, rfl⟩
        | false =>
          have x93 := (ev_form a 93).trans (show a.eval (.tmp 93) = .bool ((n2 : Int) != (N : Int)) from k93 hc)
          rw [hc] at x83 ⊢
          exact ⟨.bool ((n2 : Int) != (N : Int)), by go_simp, by rw [Bool.false_or]⟩
      exact hF _ rfl
  case hf =>
    intro l a V hp hdone
    have hv := hp.good 39 _ 94 rfl rfl (hdone 39 (by decide))
    have HXV := hide ((unhide HX).then hp.j)
    have HBV := hide hp.j
    obtain ⟨us, rfl, hus⟩ := putAll_of [55, 56, 57, 58, 59, 60, 61, 62, 63, 64, 65, 66, 67, 68, 69, 70, 71, 72, 73, 74, 75, 76, 77, 78, 79, 80, 81, 82, 83, 84, 85, 86, 87, 88, 89, 90, 91, 92, 93, 94] hp.nt hp.df (fun t ht => hp.keep t (dstIn (by kernel_rfl) ht))
    have hu : us 94 = .bool (badHead st n1 n2 N) := (hus 94).trans hv
    clear hp hdone hv hus
    simp only [putAll, List.foldl, Act.put, List.setIfInBounds_toArray, List.set_cons_zero, List.set_cons_succ, hu]
    exact unhide HQQ (us 55) (us 56) (us 57) (us 58) (us 59) (us 60) (us 61) (us 62) (us 63) (us 64) (us 65) (us 66) (us 67) (us 68) (us 69) (us 70) (us 71) (us 72) (us 73) (us 74) (us 75) (us 76) (us 77) (us 78) (us 79) (us 80) (us 81) (us 82) (us 83) (us 84) (us 85) (us 86) (us 87) (us 88) (us 89) (us 90) (us 91) (us 92) (us 93) V (unhide HXV) (unhide HBV)
end Go.Proofs.Ytjbbjgoofenkpaa
