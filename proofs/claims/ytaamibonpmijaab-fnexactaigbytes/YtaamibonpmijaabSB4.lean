/- The specification's AigBytes: the regions that draw. -/
import Derived.Test.YtaamibonpmijaabSB1
import Derived.Test.YtaamibonpmijaabSA
import Derived.Test.YtaamibonpmijaabLW
import Derived.Test.YtaamibonpmijaabAW9
namespace Go.Proofs.Ytaamibonpmijaab
open Go Go.RowKit Gs
set_option linter.unusedVariables false
set_option linter.unusedSimpArgs false
set_option maxRecDepth 100000
def FM24 (w : World) (b o lp cp k za zb hi lo : Nat) : Nat → Value → Prop
  | 0, v => v = .pointer (some ⟨w.heap.size, 3, none⟩)
  | 1, v => v = .slice (some ⟨b, o, none⟩) lp cp
  | 2, v => v = .int .i64 (k : Int)
  | 3, v => v = .pointer (some ⟨b, o + k * 2, none⟩)
  | 4, v => v = .pointer (some ⟨b, o + k * 2, none⟩)
  | 5, v => v = .int .i64 (za : Int)
  | 6, v => v = .pointer (some ⟨w.heap.size, 3, none⟩)
  | 7, v => v = .slice (some ⟨b, o, none⟩) lp cp
  | 8, v => v = .int .i64 (k : Int)
  | 9, v => v = .pointer (some ⟨b, o + k * 2, none⟩)
  | 10, v => v = .pointer (some ⟨b, o + k * 2 + 1, none⟩)
  | 11, v => v = .int .i64 (zb : Int)
  | 12, v => v = .int .i64 (hi : Int)
  | 13, v => v = .int .i64 (hi : Int)
  | _, _ => True
set_option maxHeartbeats 16000000 in
theorem reg24 {Q : Exit → Act → World → Prop} (w : World) (s0 s1 s2 s3 s4 s5 : Option Addr) (l0 l1 l2 l3 l4 l5 c0 c1 c2 c3 c4 c5 b o lp cp k za zb hi lo : Nat) (vo : Value) (W : World) (hbl : ∀ V, Below W.heap.size W V → V.cell? ⟨w.heap.size, 3, none⟩ = some (.slice (some ⟨b, o, none⟩) lp cp) ∧ V.cell? ⟨b, o + k * 2, none⟩ = some (.int .i64 (za : Int)) ∧ V.cell? ⟨b, o + k * 2 + 1, none⟩ = some (.int .i64 (zb : Int))) (i1 : (0 : Int) ≤ (k : Int)) (i2 : (k : Int) < (lp : Int))
    (hcase : (((za : Int) < (zb : Int)) ∧ (¬ ((zb : Int) < (za : Int))) ∧ hi = zb ∧ lo = za) ∨ (za = zb ∧ hi = zb ∧ lo = zb) ∨ ((¬ ((za : Int) < (zb : Int))) ∧ ((zb : Int) < (za : Int)) ∧ hi = za ∧ lo = zb))
    {u2 u3 u5 u6 u7 u8 u10 u11 u12 u13 u14 u15 u16 u17 u18 u19 u20 u21 u22 u23 u24 u25 u26 u27 u28 u29 u30 u31 u32 u33 u34 u35 u36 u37 u38 u39 u40 u41 u42 u43 u44 u45 u46 u47 u48 u49 u50 u51 u52 u53 u54 u55 u56 u57 u58 u59 u60 u61 u62 u63 u64 u65 u66 u67 u68 u69 u70 u71 u72 u73 u74 u75 u76 u77 u78 u79 u80 u81 u82 u83 u84 u85 u86 u87 u88 u89 u90 u91 u92 u93 u94 u95 u96 u97 u98 u99 u100 u101 u102 u103 u104 u105 u106 u107 u108 u109 u110 u111 u112 u113 u114 u115 u116 u117 u118 u119 u120 u121 u122 u123 u124 u125 u126 u127 u128 u129 u130 u131 u132 u133 u134 u135 u136 u137 u138 u139 u140 u141 u142 u143 u144 u145 u146 u147 u148 u149 u150 u151 u152 u153 u154 u155 u156 u157 u158 u159 u160 u161 u162 u163 u164 u165 u166 u167 u168 u169 u170 u171 u172 u173 u174 u175 u176 u177 u178 u179 u180 u181 u182 u183 u184 u185 u186 u187 u188 u189 u190 u191 u192 u193 u194 u195 u196 u197 u198 u199 u200 u201 u202 u203 u204 : Value} (hQ : ∀ (p100 p101 p102 p103 p104 p105 p106 p107 p108 p109 p110 p111 p112 : Value) (V : World), Below W.heap.size W V → Q .normal { tmps := #[.agg #[.slice s0 l0 c0, .slice s1 l1 c1, .slice s2 l2 c2, .slice s3 l3 c3, .slice s4 l4 c4, .slice s5 l5 c5], .pointer (some ⟨w.heap.size, 0, none⟩), u2, u3, vo, u5, u6, u7, u8, .int .i64 (k : Int), .int .i64 (hi : Int), u11, u12, u13, u14, u15, u16, u17, u18, u19, u20, u21, u22, u23, u24, u25, u26, u27, u28, u29, u30, u31, u32, u33, u34, u35, u36, u37, u38, u39, u40, u41, u42, u43, u44, u45, u46, u47, u48, u49, u50, u51, u52, u53, u54, u55, u56, u57, u58, u59, u60, u61, u62, u63, u64, u65, u66, u67, u68, u69, u70, u71, u72, u73, u74, u75, u76, u77, u78, u79, u80, u81, u82, u83, u84, u85, u86, u87, u88, u89, u90, u91, u92, u93, u94, u95, u96, u97, u98, u99, p100, p101, p102, p103, p104, p105, p106, p107, p108, p109, p110, p111, p112, u113, u114, u115, u116, u117, u118, u119, u120, u121, u122, u123, u124, u125, u126, u127, u128, u129, u130, u131, u132, u133, u134, u135, u136, u137, u138, u139, u140, u141, u142, u143, u144, u145, u146, u147, u148, u149, u150, u151, u152, u153, u154, u155, u156, u157, u158, u159, u160, u161, u162, u163, u164, u165, u166, u167, u168, u169, u170, u171, u172, u173, u174, u175, u176, u177, u178, u179, u180, u181, u182, u183, u184, u185, u186, u187, u188, u189, u190, u191, u192, u193, u194, u195, u196, u197, u198, u199, u200, u201, u202, u203, u204], defers := [] } V) :
    Code.wp Try.prog (atR 24 (bodyOf Try.f5)) Q { tmps := #[.agg #[.slice s0 l0 c0, .slice s1 l1 c1, .slice s2 l2 c2, .slice s3 l3 c3, .slice s4 l4 c4, .slice s5 l5 c5], .pointer (some ⟨w.heap.size, 0, none⟩), u2, u3, vo, u5, u6, u7, u8, .int .i64 (k : Int), u10, u11, u12, u13, u14, u15, u16, u17, u18, u19, u20, u21, u22, u23, u24, u25, u26, u27, u28, u29, u30, u31, u32, u33, u34, u35, u36, u37, u38, u39, u40, u41, u42, u43, u44, u45, u46, u47, u48, u49, u50, u51, u52, u53, u54, u55, u56, u57, u58, u59, u60, u61, u62, u63, u64, u65, u66, u67, u68, u69, u70, u71, u72, u73, u74, u75, u76, u77, u78, u79, u80, u81, u82, u83, u84, u85, u86, u87, u88, u89, u90, u91, u92, u93, u94, u95, u96, u97, u98, u99, u100, u101, u102, u103, u104, u105, u106, u107, u108, u109, u110, u111, u112, u113, u114, u115, u116, u117, u118, u119, u120, u121, u122, u123, u124, u125, u126, u127, u128, u129, u130, u131, u132, u133, u134, u135, u136, u137, u138, u139, u140, u141, u142, u143, u144, u145, u146, u147, u148, u149, u150, u151, u152, u153, u154, u155, u156, u157, u158, u159, u160, u161, u162, u163, u164, u165, u166, u167, u168, u169, u170, u171, u172, u173, u174, u175, u176, u177, u178, u179, u180, u181, u182, u183, u184, u185, u186, u187, u188, u189, u190, u191, u192, u193, u194, u195, u196, u197, u198, u199, u200, u201, u202, u203, u204], defers := [] } W := by
  have HQ := hide hQ
  have HQB := hide hbl
  clear hQ hbl
  conv => arg 2; whnf
  refine wp_plan (GF (FM24 w b o lp cp k za zb hi lo)) (JB W) (by kernel_rfl) 205 (by kernel_rfl) (by kernel_rfl) ?hj ?hs ?hf
  case hj => exact bdr (brf W)
  case hs =>
    refine ⟨?_, ?_, ?_, ?_, ?_, ?_, ?_, ?_, ?_, ?_, ?_, ?_, ?_, ?_, trivial⟩
    · exact st_val rfl (fun l a V hp ha => ⟨.pointer (some ⟨w.heap.size, 3, none⟩), by
        have x1 := (ev_form a 1).trans (old hp 1 (v := .pointer (some ⟨w.heap.size, 0, none⟩)) (by kernel_rfl) (by kernel_rfl))
        go_simp, rfl⟩)
    · exact st_val rfl (fun l a V hp ha => ⟨.slice (some ⟨b, o, none⟩) lp cp, by
        have x100 := (ev_form a 100).trans (show a.eval (.tmp 100) = .pointer (some ⟨w.heap.size, 3, none⟩) from kn hp ha 100 0 (by kernel_rfl) (by kernel_rfl))
        obtain ⟨q0, q1, q2⟩ := unhide HQB V hp.j
        go_simp, rfl⟩)
    · exact st_val rfl (fun l a V hp ha => ⟨.int .i64 (k : Int), by
        have x9 := (ev_form a 9).trans (old hp 9 (v := .int .i64 (k : Int)) (by kernel_rfl) (by kernel_rfl))
        go_simp, rfl⟩)
    · exact st_val rfl (fun l a V hp ha => ⟨.pointer (some ⟨b, o + k * 2, none⟩), by
        have x101 := (ev_form a 101).trans (show a.eval (.tmp 101) = .slice (some ⟨b, o, none⟩) lp cp from kn hp ha 101 1 (by kernel_rfl) (by kernel_rfl))
        have x102 := (ev_form a 102).trans (show a.eval (.tmp 102) = .int .i64 (k : Int) from kn hp ha 102 2 (by kernel_rfl) (by kernel_rfl))
        go_simp, rfl⟩)
    · exact st_val rfl (fun l a V hp ha => ⟨.pointer (some ⟨b, o + k * 2, none⟩), by
        have x103 := (ev_form a 103).trans (show a.eval (.tmp 103) = .pointer (some ⟨b, o + k * 2, none⟩) from kn hp ha 103 3 (by kernel_rfl) (by kernel_rfl))
        go_simp, rfl⟩)
    · exact st_val rfl (fun l a V hp ha => ⟨.int .i64 (za : Int), by
        have x104 := (ev_form a 104).trans (show a.eval (.tmp 104) = .pointer (some ⟨b, o + k * 2, none⟩) from kn hp ha 104 4 (by kernel_rfl) (by kernel_rfl))
        obtain ⟨q0, q1, q2⟩ := unhide HQB V hp.j
        go_simp, rfl⟩)
    · exact st_val rfl (fun l a V hp ha => ⟨.pointer (some ⟨w.heap.size, 3, none⟩), by
        have x1 := (ev_form a 1).trans (old hp 1 (v := .pointer (some ⟨w.heap.size, 0, none⟩)) (by kernel_rfl) (by kernel_rfl))
        go_simp, rfl⟩)
    · exact st_val rfl (fun l a V hp ha => ⟨.slice (some ⟨b, o, none⟩) lp cp, by
        have x106 := (ev_form a 106).trans (show a.eval (.tmp 106) = .pointer (some ⟨w.heap.size, 3, none⟩) from kn hp ha 106 6 (by kernel_rfl) (by kernel_rfl))
        obtain ⟨q0, q1, q2⟩ := unhide HQB V hp.j
        go_simp, rfl⟩)
    · exact st_val rfl (fun l a V hp ha => ⟨.int .i64 (k : Int), by
        have x9 := (ev_form a 9).trans (old hp 9 (v := .int .i64 (k : Int)) (by kernel_rfl) (by kernel_rfl))
        go_simp, rfl⟩)
    · exact st_val rfl (fun l a V hp ha => ⟨.pointer (some ⟨b, o + k * 2, none⟩), by
        have x107 := (ev_form a 107).trans (show a.eval (.tmp 107) = .slice (some ⟨b, o, none⟩) lp cp from kn hp ha 107 7 (by kernel_rfl) (by kernel_rfl))
        have x108 := (ev_form a 108).trans (show a.eval (.tmp 108) = .int .i64 (k : Int) from kn hp ha 108 8 (by kernel_rfl) (by kernel_rfl))
        go_simp, rfl⟩)
    · exact st_val rfl (fun l a V hp ha => ⟨.pointer (some ⟨b, o + k * 2 + 1, none⟩), by
        have x109 := (ev_form a 109).trans (show a.eval (.tmp 109) = .pointer (some ⟨b, o + k * 2, none⟩) from kn hp ha 109 9 (by kernel_rfl) (by kernel_rfl))
        go_simp, rfl⟩)
    · exact st_val rfl (fun l a V hp ha => ⟨.int .i64 (zb : Int), by
        have x110 := (ev_form a 110).trans (show a.eval (.tmp 110) = .pointer (some ⟨b, o + k * 2 + 1, none⟩) from kn hp ha 110 10 (by kernel_rfl) (by kernel_rfl))
        obtain ⟨q0, q1, q2⟩ := unhide HQB V hp.j
        go_simp, rfl⟩)
    · exact st_val rfl (fun l a V hp ha => ⟨.int .i64 (hi : Int), by
          have x105 := (ev_form a 105).trans (show a.eval (.tmp 105) = .int .i64 (za : Int) from kn hp ha 105 5 (by kernel_rfl) (by kernel_rfl))
          have x111 := (ev_form a 111).trans (show a.eval (.tmp 111) = .int .i64 (zb : Int) from kn hp ha 111 11 (by kernel_rfl) (by kernel_rfl))
          rcases hcase with ⟨h1, h2, rfl, rfl⟩ | ⟨h1, rfl, rfl⟩ | ⟨h1, h2, rfl, rfl⟩
          · (go_simp) <;> (intro _; omega)
          · subst h1; go_simp
          · (go_simp) <;> (intro _; omega), rfl⟩)
    · exact st_val rfl (fun l a V hp ha => ⟨.int .i64 (hi : Int), by
        have x112 := (ev_form a 112).trans (show a.eval (.tmp 112) = .int .i64 (hi : Int) from kn hp ha 112 12 (by kernel_rfl) (by kernel_rfl))
        go_simp, rfl⟩)
  case hf =>
    intro l a V hp hall
    have hv := hp.good 13 _ 10 rfl rfl (hall 13 (by decide))
    have hj := hp.j
    obtain ⟨us, rfl, hus⟩ := putAll_of [100, 101, 102, 103, 104, 105, 106, 107, 108, 109, 110, 111, 112, 10] hp.nt hp.df (fun t ht => hp.keep t (dstIn (by kernel_rfl) ht))
    have hu : us 10 = .int .i64 (hi : Int) := (hus 10).trans hv
    clear hp hall hus hv
    simp only [putAll, List.foldl, Act.put, List.setIfInBounds_toArray, List.set_cons_zero, List.set_cons_succ, hu]
    exact unhide HQ (us 100) (us 101) (us 102) (us 103) (us 104) (us 105) (us 106) (us 107) (us 108) (us 109) (us 110) (us 111) (us 112) V hj
def FM25 (w : World) (b o lp cp k za zb hi lo : Nat) : Nat → Value → Prop
  | 0, v => v = .pointer (some ⟨w.heap.size, 3, none⟩)
  | 1, v => v = .slice (some ⟨b, o, none⟩) lp cp
  | 2, v => v = .int .i64 (k : Int)
  | 3, v => v = .pointer (some ⟨b, o + k * 2, none⟩)
  | 4, v => v = .pointer (some ⟨b, o + k * 2, none⟩)
  | 5, v => v = .int .i64 (za : Int)
  | 6, v => v = .pointer (some ⟨w.heap.size, 3, none⟩)
  | 7, v => v = .slice (some ⟨b, o, none⟩) lp cp
  | 8, v => v = .int .i64 (k : Int)
  | 9, v => v = .pointer (some ⟨b, o + k * 2, none⟩)
  | 10, v => v = .pointer (some ⟨b, o + k * 2 + 1, none⟩)
  | 11, v => v = .int .i64 (zb : Int)
  | 12, v => v = .int .i64 (lo : Int)
  | 13, v => v = .int .i64 (lo : Int)
  | _, _ => True
set_option maxHeartbeats 16000000 in
theorem reg25 {Q : Exit → Act → World → Prop} (w : World) (s0 s1 s2 s3 s4 s5 : Option Addr) (l0 l1 l2 l3 l4 l5 c0 c1 c2 c3 c4 c5 b o lp cp k za zb hi lo : Nat) (vo : Value) (W : World) (hbl : ∀ V, Below W.heap.size W V → V.cell? ⟨w.heap.size, 3, none⟩ = some (.slice (some ⟨b, o, none⟩) lp cp) ∧ V.cell? ⟨b, o + k * 2, none⟩ = some (.int .i64 (za : Int)) ∧ V.cell? ⟨b, o + k * 2 + 1, none⟩ = some (.int .i64 (zb : Int))) (i1 : (0 : Int) ≤ (k : Int)) (i2 : (k : Int) < (lp : Int))
    (hcase : (((za : Int) < (zb : Int)) ∧ (¬ ((zb : Int) < (za : Int))) ∧ hi = zb ∧ lo = za) ∨ (za = zb ∧ hi = zb ∧ lo = zb) ∨ ((¬ ((za : Int) < (zb : Int))) ∧ ((zb : Int) < (za : Int)) ∧ hi = za ∧ lo = zb))
    {u2 u3 u5 u6 u7 u8 u10 u11 u12 u13 u14 u15 u16 u17 u18 u19 u20 u21 u22 u23 u24 u25 u26 u27 u28 u29 u30 u31 u32 u33 u34 u35 u36 u37 u38 u39 u40 u41 u42 u43 u44 u45 u46 u47 u48 u49 u50 u51 u52 u53 u54 u55 u56 u57 u58 u59 u60 u61 u62 u63 u64 u65 u66 u67 u68 u69 u70 u71 u72 u73 u74 u75 u76 u77 u78 u79 u80 u81 u82 u83 u84 u85 u86 u87 u88 u89 u90 u91 u92 u93 u94 u95 u96 u97 u98 u99 u100 u101 u102 u103 u104 u105 u106 u107 u108 u109 u110 u111 u112 u113 u114 u115 u116 u117 u118 u119 u120 u121 u122 u123 u124 u125 u126 u127 u128 u129 u130 u131 u132 u133 u134 u135 u136 u137 u138 u139 u140 u141 u142 u143 u144 u145 u146 u147 u148 u149 u150 u151 u152 u153 u154 u155 u156 u157 u158 u159 u160 u161 u162 u163 u164 u165 u166 u167 u168 u169 u170 u171 u172 u173 u174 u175 u176 u177 u178 u179 u180 u181 u182 u183 u184 u185 u186 u187 u188 u189 u190 u191 u192 u193 u194 u195 u196 u197 u198 u199 u200 u201 u202 u203 u204 : Value} (hQ : ∀ (p113 p114 p115 p116 p117 p118 p119 p120 p121 p122 p123 p124 p125 : Value) (V : World), Below W.heap.size W V → Q .normal { tmps := #[.agg #[.slice s0 l0 c0, .slice s1 l1 c1, .slice s2 l2 c2, .slice s3 l3 c3, .slice s4 l4 c4, .slice s5 l5 c5], .pointer (some ⟨w.heap.size, 0, none⟩), u2, u3, vo, u5, u6, u7, u8, .int .i64 (k : Int), u10, .int .i64 (lo : Int), u12, u13, u14, u15, u16, u17, u18, u19, u20, u21, u22, u23, u24, u25, u26, u27, u28, u29, u30, u31, u32, u33, u34, u35, u36, u37, u38, u39, u40, u41, u42, u43, u44, u45, u46, u47, u48, u49, u50, u51, u52, u53, u54, u55, u56, u57, u58, u59, u60, u61, u62, u63, u64, u65, u66, u67, u68, u69, u70, u71, u72, u73, u74, u75, u76, u77, u78, u79, u80, u81, u82, u83, u84, u85, u86, u87, u88, u89, u90, u91, u92, u93, u94, u95, u96, u97, u98, u99, u100, u101, u102, u103, u104, u105, u106, u107, u108, u109, u110, u111, u112, p113, p114, p115, p116, p117, p118, p119, p120, p121, p122, p123, p124, p125, u126, u127, u128, u129, u130, u131, u132, u133, u134, u135, u136, u137, u138, u139, u140, u141, u142, u143, u144, u145, u146, u147, u148, u149, u150, u151, u152, u153, u154, u155, u156, u157, u158, u159, u160, u161, u162, u163, u164, u165, u166, u167, u168, u169, u170, u171, u172, u173, u174, u175, u176, u177, u178, u179, u180, u181, u182, u183, u184, u185, u186, u187, u188, u189, u190, u191, u192, u193, u194, u195, u196, u197, u198, u199, u200, u201, u202, u203, u204], defers := [] } V) :
    Code.wp Try.prog (atR 25 (bodyOf Try.f5)) Q { tmps := #[.agg #[.slice s0 l0 c0, .slice s1 l1 c1, .slice s2 l2 c2, .slice s3 l3 c3, .slice s4 l4 c4, .slice s5 l5 c5], .pointer (some ⟨w.heap.size, 0, none⟩), u2, u3, vo, u5, u6, u7, u8, .int .i64 (k : Int), u10, u11, u12, u13, u14, u15, u16, u17, u18, u19, u20, u21, u22, u23, u24, u25, u26, u27, u28, u29, u30, u31, u32, u33, u34, u35, u36, u37, u38, u39, u40, u41, u42, u43, u44, u45, u46, u47, u48, u49, u50, u51, u52, u53, u54, u55, u56, u57, u58, u59, u60, u61, u62, u63, u64, u65, u66, u67, u68, u69, u70, u71, u72, u73, u74, u75, u76, u77, u78, u79, u80, u81, u82, u83, u84, u85, u86, u87, u88, u89, u90, u91, u92, u93, u94, u95, u96, u97, u98, u99, u100, u101, u102, u103, u104, u105, u106, u107, u108, u109, u110, u111, u112, u113, u114, u115, u116, u117, u118, u119, u120, u121, u122, u123, u124, u125, u126, u127, u128, u129, u130, u131, u132, u133, u134, u135, u136, u137, u138, u139, u140, u141, u142, u143, u144, u145, u146, u147, u148, u149, u150, u151, u152, u153, u154, u155, u156, u157, u158, u159, u160, u161, u162, u163, u164, u165, u166, u167, u168, u169, u170, u171, u172, u173, u174, u175, u176, u177, u178, u179, u180, u181, u182, u183, u184, u185, u186, u187, u188, u189, u190, u191, u192, u193, u194, u195, u196, u197, u198, u199, u200, u201, u202, u203, u204], defers := [] } W := by
  have HQ := hide hQ
  have HQB := hide hbl
  clear hQ hbl
  conv => arg 2; whnf
  refine wp_plan (GF (FM25 w b o lp cp k za zb hi lo)) (JB W) (by kernel_rfl) 205 (by kernel_rfl) (by kernel_rfl) ?hj ?hs ?hf
  case hj => exact bdr (brf W)
  case hs =>
    refine ⟨?_, ?_, ?_, ?_, ?_, ?_, ?_, ?_, ?_, ?_, ?_, ?_, ?_, ?_, trivial⟩
    · exact st_val rfl (fun l a V hp ha => ⟨.pointer (some ⟨w.heap.size, 3, none⟩), by
        have x1 := (ev_form a 1).trans (old hp 1 (v := .pointer (some ⟨w.heap.size, 0, none⟩)) (by kernel_rfl) (by kernel_rfl))
        go_simp, rfl⟩)
    · exact st_val rfl (fun l a V hp ha => ⟨.slice (some ⟨b, o, none⟩) lp cp, by
        have x113 := (ev_form a 113).trans (show a.eval (.tmp 113) = .pointer (some ⟨w.heap.size, 3, none⟩) from kn hp ha 113 0 (by kernel_rfl) (by kernel_rfl))
        obtain ⟨q0, q1, q2⟩ := unhide HQB V hp.j
        go_simp, rfl⟩)
    · exact st_val rfl (fun l a V hp ha => ⟨.int .i64 (k : Int), by
        have x9 := (ev_form a 9).trans (old hp 9 (v := .int .i64 (k : Int)) (by kernel_rfl) (by kernel_rfl))
        go_simp, rfl⟩)
    · exact st_val rfl (fun l a V hp ha => ⟨.pointer (some ⟨b, o + k * 2, none⟩), by
        have x114 := (ev_form a 114).trans (show a.eval (.tmp 114) = .slice (some ⟨b, o, none⟩) lp cp from kn hp ha 114 1 (by kernel_rfl) (by kernel_rfl))
        have x115 := (ev_form a 115).trans (show a.eval (.tmp 115) = .int .i64 (k : Int) from kn hp ha 115 2 (by kernel_rfl) (by kernel_rfl))
        go_simp, rfl⟩)
    · exact st_val rfl (fun l a V hp ha => ⟨.pointer (some ⟨b, o + k * 2, none⟩), by
        have x116 := (ev_form a 116).trans (show a.eval (.tmp 116) = .pointer (some ⟨b, o + k * 2, none⟩) from kn hp ha 116 3 (by kernel_rfl) (by kernel_rfl))
        go_simp, rfl⟩)
    · exact st_val rfl (fun l a V hp ha => ⟨.int .i64 (za : Int), by
        have x117 := (ev_form a 117).trans (show a.eval (.tmp 117) = .pointer (some ⟨b, o + k * 2, none⟩) from kn hp ha 117 4 (by kernel_rfl) (by kernel_rfl))
        obtain ⟨q0, q1, q2⟩ := unhide HQB V hp.j
        go_simp, rfl⟩)
    · exact st_val rfl (fun l a V hp ha => ⟨.pointer (some ⟨w.heap.size, 3, none⟩), by
        have x1 := (ev_form a 1).trans (old hp 1 (v := .pointer (some ⟨w.heap.size, 0, none⟩)) (by kernel_rfl) (by kernel_rfl))
        go_simp, rfl⟩)
    · exact st_val rfl (fun l a V hp ha => ⟨.slice (some ⟨b, o, none⟩) lp cp, by
        have x119 := (ev_form a 119).trans (show a.eval (.tmp 119) = .pointer (some ⟨w.heap.size, 3, none⟩) from kn hp ha 119 6 (by kernel_rfl) (by kernel_rfl))
        obtain ⟨q0, q1, q2⟩ := unhide HQB V hp.j
        go_simp, rfl⟩)
    · exact st_val rfl (fun l a V hp ha => ⟨.int .i64 (k : Int), by
        have x9 := (ev_form a 9).trans (old hp 9 (v := .int .i64 (k : Int)) (by kernel_rfl) (by kernel_rfl))
        go_simp, rfl⟩)
    · exact st_val rfl (fun l a V hp ha => ⟨.pointer (some ⟨b, o + k * 2, none⟩), by
        have x120 := (ev_form a 120).trans (show a.eval (.tmp 120) = .slice (some ⟨b, o, none⟩) lp cp from kn hp ha 120 7 (by kernel_rfl) (by kernel_rfl))
        have x121 := (ev_form a 121).trans (show a.eval (.tmp 121) = .int .i64 (k : Int) from kn hp ha 121 8 (by kernel_rfl) (by kernel_rfl))
        go_simp, rfl⟩)
    · exact st_val rfl (fun l a V hp ha => ⟨.pointer (some ⟨b, o + k * 2 + 1, none⟩), by
        have x122 := (ev_form a 122).trans (show a.eval (.tmp 122) = .pointer (some ⟨b, o + k * 2, none⟩) from kn hp ha 122 9 (by kernel_rfl) (by kernel_rfl))
        go_simp, rfl⟩)
    · exact st_val rfl (fun l a V hp ha => ⟨.int .i64 (zb : Int), by
        have x123 := (ev_form a 123).trans (show a.eval (.tmp 123) = .pointer (some ⟨b, o + k * 2 + 1, none⟩) from kn hp ha 123 10 (by kernel_rfl) (by kernel_rfl))
        obtain ⟨q0, q1, q2⟩ := unhide HQB V hp.j
        go_simp, rfl⟩)
    · exact st_val rfl (fun l a V hp ha => ⟨.int .i64 (lo : Int), by
          have x118 := (ev_form a 118).trans (show a.eval (.tmp 118) = .int .i64 (za : Int) from kn hp ha 118 5 (by kernel_rfl) (by kernel_rfl))
          have x124 := (ev_form a 124).trans (show a.eval (.tmp 124) = .int .i64 (zb : Int) from kn hp ha 124 11 (by kernel_rfl) (by kernel_rfl))
          rcases hcase with ⟨h1, h2, rfl, rfl⟩ | ⟨h1, rfl, rfl⟩ | ⟨h1, h2, rfl, rfl⟩
          · (go_simp) <;> (intro _; omega)
          · subst h1; go_simp
          · (go_simp) <;> (intro _; omega), rfl⟩)
    · exact st_val rfl (fun l a V hp ha => ⟨.int .i64 (lo : Int), by
        have x125 := (ev_form a 125).trans (show a.eval (.tmp 125) = .int .i64 (lo : Int) from kn hp ha 125 12 (by kernel_rfl) (by kernel_rfl))
        go_simp, rfl⟩)
  case hf =>
    intro l a V hp hall
    have hv := hp.good 13 _ 11 rfl rfl (hall 13 (by decide))
    have hj := hp.j
    obtain ⟨us, rfl, hus⟩ := putAll_of [113, 114, 115, 116, 117, 118, 119, 120, 121, 122, 123, 124, 125, 11] hp.nt hp.df (fun t ht => hp.keep t (dstIn (by kernel_rfl) ht))
    have hu : us 11 = .int .i64 (lo : Int) := (hus 11).trans hv
    clear hp hall hus hv
    simp only [putAll, List.foldl, Act.put, List.setIfInBounds_toArray, List.set_cons_zero, List.set_cons_succ, hu]
    exact unhide HQ (us 113) (us 114) (us 115) (us 116) (us 117) (us 118) (us 119) (us 120) (us 121) (us 122) (us 123) (us 124) (us 125) V hj
end Go.Proofs.Ytaamibonpmijaab
