/- The specification's AigBytes: the regions that draw. -/
import Derived.Test.YtaamibonpmijaabSB1
import Derived.Test.YtaamibonpmijaabSA
import Derived.Test.YtaamibonpmijaabLW
import Derived.Test.YtaamibonpmijaabAW9
namespace Go.Proofs.Ytaamibonpmijaab
open Go Go.RowKit Gs
set_option linter.unusedVariables false
set_option linter.unusedSimpArgs false
set_option maxRecDepth 100000
def ck32 (w : World) (b o lp cp k z : Nat) (nm : ByteArray) (pre : List UInt8) : Nat → Ck
  | 0 => .chain 7 pre
  | 1 => .pure (.pointer (some ⟨w.heap.size, 4, none⟩))
  | 2 => .pure (.slice (some ⟨b, o, none⟩) lp cp)
  | 3 => .pure (.int .i64 (k : Int))
  | 4 => .pure (.pointer (some ⟨b, o + k * 2, none⟩))
  | 5 => .pure (.pointer (some ⟨b, o + k * 2, none⟩))
  | 6 => .pure (.string nm)
  | 7 => .chain 14 (pre ++ (encN nm.size ++ L nm))
  | 8 => .pure (.pointer (some ⟨w.heap.size, 4, none⟩))
  | 9 => .pure (.slice (some ⟨b, o, none⟩) lp cp)
  | 10 => .pure (.int .i64 (k : Int))
  | 11 => .pure (.pointer (some ⟨b, o + k * 2, none⟩))
  | 12 => .pure (.pointer (some ⟨b, o + k * 2 + 1, none⟩))
  | 13 => .pure (.int .i64 (z : Int))
  | 14 => .chain 15 (pre ++ (encN nm.size ++ L nm) ++ encN z)
  | 15 => .last (pre ++ (encN nm.size ++ L nm) ++ encN z)
  | _ => .pure undef
set_option maxHeartbeats 16000000 in
theorem reg32 {Q : Exit → Act → World → Prop} (w : World) (s0 s1 s2 s3 s4 s5 : Option Addr) (l0 l1 l2 l3 l4 l5 c0 c1 c2 c3 c4 c5 b o lp cp k z : Nat) (nm : ByteArray) (vo : Value) (pre : List UInt8) (W1 W : World) (hb : Below W1.heap.size W1 W) (ho : OB W1.heap.size W vo pre) (hbl : ∀ V, Below W1.heap.size W V → V.cell? ⟨w.heap.size, 4, none⟩ = some (.slice (some ⟨b, o, none⟩) lp cp) ∧ V.cell? ⟨b, o + k * 2, none⟩ = some (.string nm) ∧ V.cell? ⟨b, o + k * 2 + 1, none⟩ = some (.int .i64 (z : Int))) (i1 : (0 : Int) ≤ (k : Int)) (i2 : (k : Int) < (lp : Int)) (hz : z ≤ 1000000) (hs : nm.size ≤ 1000) (hl : pre.length ≤ 200000000)
    {u2 u3 u5 u6 u7 u8 u9 u10 u11 u12 u14 u15 u16 u17 u18 u19 u20 u21 u22 u23 u24 u25 u26 u27 u28 u29 u30 u31 u32 u33 u34 u35 u36 u37 u38 u39 u40 u41 u42 u43 u44 u45 u46 u47 u48 u49 u50 u51 u52 u53 u54 u55 u56 u57 u58 u59 u60 u61 u62 u63 u64 u65 u66 u67 u68 u69 u70 u71 u72 u73 u74 u75 u76 u77 u78 u79 u80 u81 u82 u83 u84 u85 u86 u87 u88 u89 u90 u91 u92 u93 u94 u95 u96 u97 u98 u99 u100 u101 u102 u103 u104 u105 u106 u107 u108 u109 u110 u111 u112 u113 u114 u115 u116 u117 u118 u119 u120 u121 u122 u123 u124 u125 u126 u127 u128 u129 u130 u131 u132 u133 u134 u135 u136 u137 u138 u139 u140 u141 u142 u143 u144 u145 u146 u147 u148 u149 u150 u151 u152 u153 u154 u155 u156 u157 u158 u159 u160 u161 u162 u163 u164 u165 u166 u167 u168 u169 u170 u171 u172 u173 u174 u175 u176 u177 u178 u179 u180 u181 u182 u183 u184 u185 u186 u187 u188 u189 u190 u191 u192 u193 u194 u195 u196 u197 u198 u199 u200 u201 u202 u203 u204 : Value} (hQ : ∀ (p158 p159 p160 p161 p162 p163 p164 p165 p166 p167 p168 p169 p170 p171 p172 vn : Value) (V : World), Below W1.heap.size W V → KP [] W V → OB W1.heap.size V vn (pre ++ (encN nm.size ++ L nm) ++ encN z) → Q .normal { tmps := #[.agg #[.slice s0 l0 c0, .slice s1 l1 c1, .slice s2 l2 c2, .slice s3 l3 c3, .slice s4 l4 c4, .slice s5 l5 c5], .pointer (some ⟨w.heap.size, 0, none⟩), u2, u3, vn, u5, u6, u7, u8, u9, u10, u11, u12, .int .i64 (k : Int), u14, u15, u16, u17, u18, u19, u20, u21, u22, u23, u24, u25, u26, u27, u28, u29, u30, u31, u32, u33, u34, u35, u36, u37, u38, u39, u40, u41, u42, u43, u44, u45, u46, u47, u48, u49, u50, u51, u52, u53, u54, u55, u56, u57, u58, u59, u60, u61, u62, u63, u64, u65, u66, u67, u68, u69, u70, u71, u72, u73, u74, u75, u76, u77, u78, u79, u80, u81, u82, u83, u84, u85, u86, u87, u88, u89, u90, u91, u92, u93, u94, u95, u96, u97, u98, u99, u100, u101, u102, u103, u104, u105, u106, u107, u108, u109, u110, u111, u112, u113, u114, u115, u116, u117, u118, u119, u120, u121, u122, u123, u124, u125, u126, u127, u128, u129, u130, u131, u132, u133, u134, u135, u136, u137, u138, u139, u140, u141, u142, u143, u144, u145, u146, u147, u148, u149, u150, u151, u152, u153, u154, u155, u156, u157, p158, p159, p160, p161, p162, p163, p164, p165, p166, p167, p168, p169, p170, p171, p172, u173, u174, u175, u176, u177, u178, u179, u180, u181, u182, u183, u184, u185, u186, u187, u188, u189, u190, u191, u192, u193, u194, u195, u196, u197, u198, u199, u200, u201, u202, u203, u204], defers := [] } V) :
    Code.wp Try.prog (atR 32 (bodyOf Try.f5)) Q { tmps := #[.agg #[.slice s0 l0 c0, .slice s1 l1 c1, .slice s2 l2 c2, .slice s3 l3 c3, .slice s4 l4 c4, .slice s5 l5 c5], .pointer (some ⟨w.heap.size, 0, none⟩), u2, u3, vo, u5, u6, u7, u8, u9, u10, u11, u12, .int .i64 (k : Int), u14, u15, u16, u17, u18, u19, u20, u21, u22, u23, u24, u25, u26, u27, u28, u29, u30, u31, u32, u33, u34, u35, u36, u37, u38, u39, u40, u41, u42, u43, u44, u45, u46, u47, u48, u49, u50, u51, u52, u53, u54, u55, u56, u57, u58, u59, u60, u61, u62, u63, u64, u65, u66, u67, u68, u69, u70, u71, u72, u73, u74, u75, u76, u77, u78, u79, u80, u81, u82, u83, u84, u85, u86, u87, u88, u89, u90, u91, u92, u93, u94, u95, u96, u97, u98, u99, u100, u101, u102, u103, u104, u105, u106, u107, u108, u109, u110, u111, u112, u113, u114, u115, u116, u117, u118, u119, u120, u121, u122, u123, u124, u125, u126, u127, u128, u129, u130, u131, u132, u133, u134, u135, u136, u137, u138, u139, u140, u141, u142, u143, u144, u145, u146, u147, u148, u149, u150, u151, u152, u153, u154, u155, u156, u157, u158, u159, u160, u161, u162, u163, u164, u165, u166, u167, u168, u169, u170, u171, u172, u173, u174, u175, u176, u177, u178, u179, u180, u181, u182, u183, u184, u185, u186, u187, u188, u189, u190, u191, u192, u193, u194, u195, u196, u197, u198, u199, u200, u201, u202, u203, u204], defers := [] } W := by
  have HQ := hide hQ
  have HSH : Hid (∃ x n c, vo = .slice x n c) := hide ho.shape3
  have hBW0 := hb.size
  have HQB := hide hbl
  have n1 := encN_ten (n := nm.size) (by omega)
  have n2 := encN_ten (n := z) (by omega)
  clear hbl
  clear hQ
  conv => arg 2; whnf
  refine wp_plan (GC W1.heap.size (ck32 w b o lp cp k z nm pre)) (JC W1.heap.size W vo pre 7) (by kernel_rfl) 205 (by kernel_rfl) (by kernel_rfl) ?hj ?hs ?hf
  case hj => exact ⟨(Below.refl _ _).drew, KP.of_below (bdr (brf W)), fun _ => ho.later (bdr (brf W))⟩
  case hs =>
    refine ⟨?_, ?_, ?_, ?_, ?_, ?_, ?_, ?_, ?_, ?_, ?_, ?_, ?_, ?_, ?_, ?_, trivial⟩
    · refine sc_move rfl rfl (fun l a V hp hu ha => ?_)
      have x4 := (ev_form a 4).trans (old2 hp hu 4 15 (v := vo) (by kernel_rfl) (by kernel_rfl) (by kernel_rfl))
      obtain ⟨t1, t2, t3, ht⟩ := unhide HSH
      rw [ht] at x4 ⊢
      go_simp
    · exact sc_val (y := .pointer (some ⟨w.heap.size, 4, none⟩)) rfl rfl (fun l a V hp hu ha => by
        have x1 := (ev_form a 1).trans (old hp 1 (v := .pointer (some ⟨w.heap.size, 0, none⟩)) (by kernel_rfl) (by kernel_rfl))
        go_simp)
    · exact sc_val (y := .slice (some ⟨b, o, none⟩) lp cp) rfl rfl (fun l a V hp hu ha => by
        have x159 := (ev_form a 159).trans (knC (y := .pointer (some ⟨w.heap.size, 4, none⟩)) hp ha 159 1 (by kernel_rfl) (by kernel_rfl) rfl)
        obtain ⟨q0, q1, q2⟩ := unhide HQB V hp.j.1
        go_simp)
    · exact sc_val (y := .int .i64 (k : Int)) rfl rfl (fun l a V hp hu ha => by
        have x13 := (ev_form a 13).trans (old hp 13 (v := .int .i64 (k : Int)) (by kernel_rfl) (by kernel_rfl))
        go_simp)
    · exact sc_val (y := .pointer (some ⟨b, o + k * 2, none⟩)) rfl rfl (fun l a V hp hu ha => by
        have x160 := (ev_form a 160).trans (knC (y := .slice (some ⟨b, o, none⟩) lp cp) hp ha 160 2 (by kernel_rfl) (by kernel_rfl) rfl)
        have x161 := (ev_form a 161).trans (knC (y := .int .i64 (k : Int)) hp ha 161 3 (by kernel_rfl) (by kernel_rfl) rfl)
        go_simp)
    · exact sc_val (y := .pointer (some ⟨b, o + k * 2, none⟩)) rfl rfl (fun l a V hp hu ha => by
        have x162 := (ev_form a 162).trans (knC (y := .pointer (some ⟨b, o + k * 2, none⟩)) hp ha 162 4 (by kernel_rfl) (by kernel_rfl) rfl)
        go_simp)
    · exact sc_val (y := .string nm) rfl rfl (fun l a V hp hu ha => by
        have x163 := (ev_form a 163).trans (knC (y := .pointer (some ⟨b, o + k * 2, none⟩)) hp ha 163 5 (by kernel_rfl) (by kernel_rfl) rfl)
        obtain ⟨q0, q1, q2⟩ := unhide HQB V hp.j.1
        go_simp)
    · refine sc_call (f := 19) (p := 0) 158 rfl rfl rfl (by kernel_rfl) (by kernel_rfl) hBW0 (fun l a V hp hu ha => ?_) (fun l a V hp hu => ?_) (fun l a V v hp ha hv ho => ?_)
      · have D0 := onB_spec (by kernel_rfl : onB _ 0 = true) ha
        have N7 := notDoneB hu
        have N14 : l.getD 14 false = false := by
          cases e : l.getD 14 false with
          | false => rfl
          | true => have h := onB_spec (by kernel_rfl : onB _ 7 = true) (hp.down 14 _ rfl e); rw [N7] at h; cases h
        have N15 : l.getD 15 false = false := by
          cases e : l.getD 15 false with
          | false => rfl
          | true => have h := onB_spec (by kernel_rfl : onB _ 14 = true) (hp.down 15 _ rfl e); rw [N14] at h; cases h
        refine ⟨.inl rfl, fun j j' zs hj hne hd => ?_⟩
        match j, hj, hne, hd with
        | 0, hj, hne, hd => exact absurd rfl hne
        | 1, hj, hne, hd => cases hj
        | 2, hj, hne, hd => cases hj
        | 3, hj, hne, hd => cases hj
        | 4, hj, hne, hd => cases hj
        | 5, hj, hne, hd => cases hj
        | 6, hj, hne, hd => cases hj
        | 7, hj, hne, hd => rw [N7] at hd; cases hd
        | 8, hj, hne, hd => cases hj
        | 9, hj, hne, hd => cases hj
        | 10, hj, hne, hd => cases hj
        | 11, hj, hne, hd => cases hj
        | 12, hj, hne, hd => cases hj
        | 13, hj, hne, hd => cases hj
        | 14, hj, hne, hd => rw [N14] at hd; cases hd
        | 15, hj, hne, hd => cases hj
        | _ + 16, hj, hne, hd => cases hj
      · intro j zs hj
        have N7 := notDoneB hu
        match j, hj with
        | 0, hj => cases hj
        | 1, hj => cases hj
        | 2, hj => cases hj
        | 3, hj => cases hj
        | 4, hj => cases hj
        | 5, hj => cases hj
        | 6, hj => cases hj
        | 7, hj => cases hj
        | 8, hj => cases hj
        | 9, hj => cases hj
        | 10, hj => cases hj
        | 11, hj => cases hj
        | 12, hj => cases hj
        | 13, hj => cases hj
        | 14, hj => cases hj
        | 15, hj =>
          cases e : l.getD 15 false with
          | false => rfl
          | true => have h := onB_spec (by kernel_rfl : onB _ 7 = true) (hp.down 15 _ rfl e); rw [N7] at h; cases h
        | _ + 16, hj => cases hj
      · have x158 := (ev_form a 158).trans hv
        have x164 := (ev_form a 164).trans (knC (y := .string nm) hp ha 164 6 (by kernel_rfl) (by kernel_rfl) rfl)
        exact ⟨#[v, .string nm], by go_simp, sPutText W1.heap.size nm pre v V (Nat.le_trans hBW0 hp.j.1.size) ho (by omega) (by omega)⟩
    · exact sc_val (y := .pointer (some ⟨w.heap.size, 4, none⟩)) rfl rfl (fun l a V hp hu ha => by
        have x1 := (ev_form a 1).trans (old hp 1 (v := .pointer (some ⟨w.heap.size, 0, none⟩)) (by kernel_rfl) (by kernel_rfl))
        go_simp)
    · exact sc_val (y := .slice (some ⟨b, o, none⟩) lp cp) rfl rfl (fun l a V hp hu ha => by
        have x166 := (ev_form a 166).trans (knC (y := .pointer (some ⟨w.heap.size, 4, none⟩)) hp ha 166 8 (by kernel_rfl) (by kernel_rfl) rfl)
        obtain ⟨q0, q1, q2⟩ := unhide HQB V hp.j.1
        go_simp)
    · exact sc_val (y := .int .i64 (k : Int)) rfl rfl (fun l a V hp hu ha => by
        have x13 := (ev_form a 13).trans (old hp 13 (v := .int .i64 (k : Int)) (by kernel_rfl) (by kernel_rfl))
        go_simp)
    · exact sc_val (y := .pointer (some ⟨b, o + k * 2, none⟩)) rfl rfl (fun l a V hp hu ha => by
        have x167 := (ev_form a 167).trans (knC (y := .slice (some ⟨b, o, none⟩) lp cp) hp ha 167 9 (by kernel_rfl) (by kernel_rfl) rfl)
        have x168 := (ev_form a 168).trans (knC (y := .int .i64 (k : Int)) hp ha 168 10 (by kernel_rfl) (by kernel_rfl) rfl)
        go_simp)
    · exact sc_val (y := .pointer (some ⟨b, o + k * 2 + 1, none⟩)) rfl rfl (fun l a V hp hu ha => by
        have x169 := (ev_form a 169).trans (knC (y := .pointer (some ⟨b, o + k * 2, none⟩)) hp ha 169 11 (by kernel_rfl) (by kernel_rfl) rfl)
        go_simp)
    · exact sc_val (y := .int .i64 (z : Int)) rfl rfl (fun l a V hp hu ha => by
        have x170 := (ev_form a 170).trans (knC (y := .pointer (some ⟨b, o + k * 2 + 1, none⟩)) hp ha 170 12 (by kernel_rfl) (by kernel_rfl) rfl)
        obtain ⟨q0, q1, q2⟩ := unhide HQB V hp.j.1
        go_simp)
    · refine sc_call (f := 18) (p := 7) 165 rfl rfl rfl (by kernel_rfl) (by kernel_rfl) hBW0 (fun l a V hp hu ha => ?_) (fun l a V hp hu => ?_) (fun l a V v hp ha hv ho => ?_)
      · have D7 := onB_spec (by kernel_rfl : onB _ 7 = true) ha
        have D0 := onB_spec (by kernel_rfl : onB _ 0 = true) (hp.down 7 _ rfl D7)
        have N14 := notDoneB hu
        have N15 : l.getD 15 false = false := by
          cases e : l.getD 15 false with
          | false => rfl
          | true => have h := onB_spec (by kernel_rfl : onB _ 14 = true) (hp.down 15 _ rfl e); rw [N14] at h; cases h
        refine ⟨.inr D7, fun j j' zs hj hne hd => ?_⟩
        match j, hj, hne, hd with
        | 0, hj, hne, hd => injection hj with hj _; subst hj; exact D7
        | 1, hj, hne, hd => cases hj
        | 2, hj, hne, hd => cases hj
        | 3, hj, hne, hd => cases hj
        | 4, hj, hne, hd => cases hj
        | 5, hj, hne, hd => cases hj
        | 6, hj, hne, hd => cases hj
        | 7, hj, hne, hd => exact absurd rfl hne
        | 8, hj, hne, hd => cases hj
        | 9, hj, hne, hd => cases hj
        | 10, hj, hne, hd => cases hj
        | 11, hj, hne, hd => cases hj
        | 12, hj, hne, hd => cases hj
        | 13, hj, hne, hd => cases hj
        | 14, hj, hne, hd => rw [N14] at hd; cases hd
        | 15, hj, hne, hd => cases hj
        | _ + 16, hj, hne, hd => cases hj
      · intro j zs hj
        have N14 := notDoneB hu
        match j, hj with
        | 0, hj => cases hj
        | 1, hj => cases hj
        | 2, hj => cases hj
        | 3, hj => cases hj
        | 4, hj => cases hj
        | 5, hj => cases hj
        | 6, hj => cases hj
        | 7, hj => cases hj
        | 8, hj => cases hj
        | 9, hj => cases hj
        | 10, hj => cases hj
        | 11, hj => cases hj
        | 12, hj => cases hj
        | 13, hj => cases hj
        | 14, hj => cases hj
        | 15, hj =>
          cases e : l.getD 15 false with
          | false => rfl
          | true => have h := onB_spec (by kernel_rfl : onB _ 14 = true) (hp.down 15 _ rfl e); rw [N14] at h; cases h
        | _ + 16, hj => cases hj
      · have x165 := (ev_form a 165).trans hv
        have x171 := (ev_form a 171).trans (knC (y := .int .i64 (z : Int)) hp ha 171 13 (by kernel_rfl) (by kernel_rfl) rfl)
        exact ⟨#[v, .int .i64 (z : Int)], by go_simp, sPut W1.heap.size z (pre ++ (encN nm.size ++ L nm)) v V (Nat.le_trans hBW0 hp.j.1.size) ho (by omega) (by simp only [List.length_append, L_len]; omega)⟩
    · refine sc_last (p := 14) 172 rfl rfl rfl (by kernel_rfl) (by kernel_rfl) (fun l a V hp hu ha hsh => ?_)
      obtain ⟨t1, t2, t3, ht⟩ := hsh
      have x172 := (ev_form a 172).trans ht
      rw [ht]
      go_simp
  case hf =>
    intro l a V hp hall
    have hv : OB W1.heap.size V (a.eval (.tmp 4)) (pre ++ (encN nm.size ++ L nm) ++ encN z) := hp.good 15 _ 4 rfl rfl (hall 15 (by decide))
    have hj := hp.j
    obtain ⟨us, rfl, hus⟩ := putAll_of [158, 159, 160, 161, 162, 163, 164, 165, 166, 167, 168, 169, 170, 171, 172, 4] hp.nt hp.df (fun t ht => hp.keep t (dstIn (by kernel_rfl) ht))
    rw [← hus 4] at hv
    clear hp hall hus
    simp only [putAll, List.foldl, Act.put, List.setIfInBounds_toArray, List.set_cons_zero, List.set_cons_succ]
    exact unhide HQ (us 158) (us 159) (us 160) (us 161) (us 162) (us 163) (us 164) (us 165) (us 166) (us 167) (us 168) (us 169) (us 170) (us 171) (us 172) (us 4) V hj.1 hj.2.1 hv
end Go.Proofs.Ytaamibonpmijaab
