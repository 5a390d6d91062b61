/- The specification's AigBytes: the regions that draw. -/
import Derived.Test.YtaamibonpmijaabSB0
import Derived.Test.YtaamibonpmijaabSA
import Derived.Test.YtaamibonpmijaabLW
import Derived.Test.YtaamibonpmijaabAW9
namespace Go.Proofs.Ytaamibonpmijaab
open Go Go.RowKit Gs
set_option linter.unusedVariables false
set_option linter.unusedSimpArgs false
set_option maxRecDepth 100000
def findR (n : Nat) : Go.Code → Option Go.Code
  | .seq a b => match findR n a with | some c => some c | none => findR n b
  | .block _ a => findR n a
  | .loop a => findR n a
  | .region id ops d => if id = n then some (.region id ops d) else none
  | _ => none
def atR (n : Nat) (c : Go.Code) : Go.Code := match findR n c with | some c => c | none => .skip
def bodyOf (f : Func) : Go.Code := match f.body with | some c => c | none => .skip
def ck19 (bl z1 z2 z3 : Nat) (pre : List UInt8) : Nat → Ck
  | 0 => .chain 3 pre
  | 1 => .pure (.pointer (some ⟨bl, 1, none⟩))
  | 2 => .pure (.int .i64 (z1 : Int))
  | 3 => .chain 6 (pre ++ encN z1)
  | 4 => .pure (.pointer (some ⟨bl, 2, none⟩))
  | 5 => .pure (.int .i64 (z2 : Int))
  | 6 => .chain 9 (pre ++ encN z1 ++ encN z2)
  | 7 => .pure (.pointer (some ⟨bl, 3, none⟩))
  | 8 => .pure (.int .i64 (z3 : Int))
  | 9 => .chain 10 (pre ++ encN z1 ++ encN z2 ++ encN z3)
  | 10 => .last (pre ++ encN z1 ++ encN z2 ++ encN z3)
  | _ => .pure undef
set_option maxHeartbeats 16000000 in
theorem reg19 {Q : Exit → Act → World → Prop} (w : World) (s0 s1 s2 s3 s4 s5 : Option Addr) (l0 l1 l2 l3 l4 l5 c0 c1 c2 c3 c4 c5 bl z1 z2 z3 : Nat) (vo : Value) (pre : List UInt8) (W1 W : World) (hb : Below W1.heap.size W1 W) (ho : OB W1.heap.size W vo pre) (hbl : ∀ V, KP [] W V → V.cell? ⟨bl, 1, none⟩ = some (.int .i64 (z1 : Int)) ∧ V.cell? ⟨bl, 2, none⟩ = some (.int .i64 (z2 : Int)) ∧ V.cell? ⟨bl, 3, none⟩ = some (.int .i64 (z3 : Int))) (hz1 : z1 ≤ 1000000) (hz2 : z2 ≤ 1000000) (hz3 : z3 ≤ 1000000) (hl : pre.length ≤ 200000000)
    {u2 u3 u5 u6 u7 u9 u10 u11 u12 u13 u14 u15 u16 u17 u18 u19 u20 u21 u22 u23 u24 u25 u26 u27 u28 u29 u30 u31 u32 u33 u34 u35 u36 u37 u38 u39 u40 u41 u42 u43 u44 u45 u46 u47 u48 u49 u50 u51 u52 u53 u54 u55 u56 u57 u58 u59 u60 u61 u62 u63 u64 u65 u66 u67 u68 u69 u70 u71 u72 u73 u74 u75 u76 u77 u78 u79 u80 u81 u82 u83 u84 u85 u86 u87 u88 u89 u90 u91 u92 u93 u94 u95 u96 u97 u98 u99 u100 u101 u102 u103 u104 u105 u106 u107 u108 u109 u110 u111 u112 u113 u114 u115 u116 u117 u118 u119 u120 u121 u122 u123 u124 u125 u126 u127 u128 u129 u130 u131 u132 u133 u134 u135 u136 u137 u138 u139 u140 u141 u142 u143 u144 u145 u146 u147 u148 u149 u150 u151 u152 u153 u154 u155 u156 u157 u158 u159 u160 u161 u162 u163 u164 u165 u166 u167 u168 u169 u170 u171 u172 u173 u174 u175 u176 u177 u178 u179 u180 u181 u182 u183 u184 u185 u186 u187 u188 u189 u190 u191 u192 u193 u194 u195 u196 u197 u198 u199 u200 u201 u202 u203 u204 : Value} (hQ : ∀ (p78 p79 p80 p81 p82 p83 p84 p85 p86 p87 vn : Value) (V : World), Below W1.heap.size W V → KP [] W V → OB W1.heap.size V vn (pre ++ encN z1 ++ encN z2 ++ encN z3) → Q .normal { tmps := #[.agg #[.slice s0 l0 c0, .slice s1 l1 c1, .slice s2 l2 c2, .slice s3 l3 c3, .slice s4 l4 c4, .slice s5 l5 c5], .pointer (some ⟨w.heap.size, 0, none⟩), u2, u3, vn, u5, u6, u7, .pointer (some ⟨bl, 0, none⟩), u9, u10, u11, u12, u13, u14, u15, u16, u17, u18, u19, u20, u21, u22, u23, u24, u25, u26, u27, u28, u29, u30, u31, u32, u33, u34, u35, u36, u37, u38, u39, u40, u41, u42, u43, u44, u45, u46, u47, u48, u49, u50, u51, u52, u53, u54, u55, u56, u57, u58, u59, u60, u61, u62, u63, u64, u65, u66, u67, u68, u69, u70, u71, u72, u73, u74, u75, u76, u77, p78, p79, p80, p81, p82, p83, p84, p85, p86, p87, u88, u89, u90, u91, u92, u93, u94, u95, u96, u97, u98, u99, u100, u101, u102, u103, u104, u105, u106, u107, u108, u109, u110, u111, u112, u113, u114, u115, u116, u117, u118, u119, u120, u121, u122, u123, u124, u125, u126, u127, u128, u129, u130, u131, u132, u133, u134, u135, u136, u137, u138, u139, u140, u141, u142, u143, u144, u145, u146, u147, u148, u149, u150, u151, u152, u153, u154, u155, u156, u157, u158, u159, u160, u161, u162, u163, u164, u165, u166, u167, u168, u169, u170, u171, u172, u173, u174, u175, u176, u177, u178, u179, u180, u181, u182, u183, u184, u185, u186, u187, u188, u189, u190, u191, u192, u193, u194, u195, u196, u197, u198, u199, u200, u201, u202, u203, u204], defers := [] } V) :
    Code.wp Try.prog (atR 19 (bodyOf Try.f5)) Q { tmps := #[.agg #[.slice s0 l0 c0, .slice s1 l1 c1, .slice s2 l2 c2, .slice s3 l3 c3, .slice s4 l4 c4, .slice s5 l5 c5], .pointer (some ⟨w.heap.size, 0, none⟩), u2, u3, vo, u5, u6, u7, .pointer (some ⟨bl, 0, none⟩), u9, u10, u11, u12, u13, u14, u15, u16, u17, u18, u19, u20, u21, u22, u23, u24, u25, u26, u27, u28, u29, u30, u31, u32, u33, u34, u35, u36, u37, u38, u39, u40, u41, u42, u43, u44, u45, u46, u47, u48, u49, u50, u51, u52, u53, u54, u55, u56, u57, u58, u59, u60, u61, u62, u63, u64, u65, u66, u67, u68, u69, u70, u71, u72, u73, u74, u75, u76, u77, u78, u79, u80, u81, u82, u83, u84, u85, u86, u87, u88, u89, u90, u91, u92, u93, u94, u95, u96, u97, u98, u99, u100, u101, u102, u103, u104, u105, u106, u107, u108, u109, u110, u111, u112, u113, u114, u115, u116, u117, u118, u119, u120, u121, u122, u123, u124, u125, u126, u127, u128, u129, u130, u131, u132, u133, u134, u135, u136, u137, u138, u139, u140, u141, u142, u143, u144, u145, u146, u147, u148, u149, u150, u151, u152, u153, u154, u155, u156, u157, u158, u159, u160, u161, u162, u163, u164, u165, u166, u167, u168, u169, u170, u171, u172, u173, u174, u175, u176, u177, u178, u179, u180, u181, u182, u183, u184, u185, u186, u187, u188, u189, u190, u191, u192, u193, u194, u195, u196, u197, u198, u199, u200, u201, u202, u203, u204], defers := [] } W := by
  have HQ := hide hQ
  have HSH : Hid (∃ x n c, vo = .slice x n c) := hide ho.shape3
  have hBW0 := hb.size
  have HQB := hide hbl
  have n1 := encN_ten (n := z1) (by omega)
  have n2 := encN_ten (n := z2) (by omega)
  have n3 := encN_ten (n := z3) (by omega)
  clear hbl
  clear hQ
  conv => arg 2; whnf
  refine wp_plan (GC W1.heap.size (ck19 bl z1 z2 z3 pre)) (JC W1.heap.size W vo pre 3) (by kernel_rfl) 205 (by kernel_rfl) (by kernel_rfl) ?hj ?hs ?hf
  case hj => exact ⟨(Below.refl _ _).drew, KP.of_below (bdr (brf W)), fun _ => ho.later (bdr (brf W))⟩
  case hs =>
    refine ⟨?_, ?_, ?_, ?_, ?_, ?_, ?_, ?_, ?_, ?_, ?_, trivial⟩
    · refine sc_move rfl rfl (fun l a V hp hu ha => ?_)
      have x4 := (ev_form a 4).trans (old2 hp hu 4 10 (v := vo) (by kernel_rfl) (by kernel_rfl) (by kernel_rfl))
      obtain ⟨t1, t2, t3, ht⟩ := unhide HSH
      rw [ht] at x4 ⊢
      go_simp
    · exact sc_val (y := .pointer (some ⟨bl, 1, none⟩)) rfl rfl (fun l a V hp hu ha => by
        have x8 := (ev_form a 8).trans (old hp 8 (v := .pointer (some ⟨bl, 0, none⟩)) (by kernel_rfl) (by kernel_rfl))
        go_simp)
    · exact sc_val (y := .int .i64 (z1 : Int)) rfl rfl (fun l a V hp hu ha => by
        have x79 := (ev_form a 79).trans (knC (y := .pointer (some ⟨bl, 1, none⟩)) hp ha 79 1 (by kernel_rfl) (by kernel_rfl) rfl)
        obtain ⟨q1, q2, q3⟩ := unhide HQB V hp.j.2.1
        go_simp)
    · refine sc_call (f := 18) (p := 0) 78 rfl rfl rfl (by kernel_rfl) (by kernel_rfl) hBW0 (fun l a V hp hu ha => ?_) (fun l a V hp hu => ?_) (fun l a V v hp ha hv ho => ?_)
      · have D0 := onB_spec (by kernel_rfl : onB _ 0 = true) ha
        have N3 := notDoneB hu
        have N6 : l.getD 6 false = false := by
          cases e : l.getD 6 false with
          | false => rfl
          | true => have h := onB_spec (by kernel_rfl : onB _ 3 = true) (hp.down 6 _ rfl e); rw [N3] at h; cases h
        have N9 : l.getD 9 false = false := by
          cases e : l.getD 9 false with
          | false => rfl
          | true => have h := onB_spec (by kernel_rfl : onB _ 6 = true) (hp.down 9 _ rfl e); rw [N6] at h; cases h
        have N10 : l.getD 10 false = false := by
          cases e : l.getD 10 false with
          | false => rfl
          | true => have h := onB_spec (by kernel_rfl : onB _ 9 = true) (hp.down 10 _ rfl e); rw [N9] at h; cases h
        refine ⟨.inl rfl, fun j j' zs hj hne hd => ?_⟩
        match j, hj, hne, hd with
        | 0, hj, hne, hd => exact absurd rfl hne
        | 1, hj, hne, hd => cases hj
        | 2, hj, hne, hd => cases hj
        | 3, hj, hne, hd => rw [N3] at hd; cases hd
        | 4, hj, hne, hd => cases hj
        | 5, hj, hne, hd => cases hj
        | 6, hj, hne, hd => rw [N6] at hd; cases hd
        | 7, hj, hne, hd => cases hj
        | 8, hj, hne, hd => cases hj
        | 9, hj, hne, hd => rw [N9] at hd; cases hd
        | 10, hj, hne, hd => cases hj
        | _ + 11, hj, hne, hd => cases hj
      · intro j zs hj
        have N3 := notDoneB hu
        match j, hj with
        | 0, hj => cases hj
        | 1, hj => cases hj
        | 2, hj => cases hj
        | 3, hj => cases hj
        | 4, hj => cases hj
        | 5, hj => cases hj
        | 6, hj => cases hj
        | 7, hj => cases hj
        | 8, hj => cases hj
        | 9, hj => cases hj
        | 10, hj =>
          cases e : l.getD 10 false with
          | false => rfl
          | true => have h := onB_spec (by kernel_rfl : onB _ 3 = true) (hp.down 10 _ rfl e); rw [N3] at h; cases h
        | _ + 11, hj => cases hj
      · have x78 := (ev_form a 78).trans hv
        have x80 := (ev_form a 80).trans (knC (y := .int .i64 (z1 : Int)) hp ha 80 2 (by kernel_rfl) (by kernel_rfl) rfl)
        exact ⟨#[v, .int .i64 (z1 : Int)], by go_simp, sPut W1.heap.size z1 (pre) v V (Nat.le_trans hBW0 hp.j.1.size) ho (by omega) (by (try simp only [List.length_append]); omega)⟩
    · exact sc_val (y := .pointer (some ⟨bl, 2, none⟩)) rfl rfl (fun l a V hp hu ha => by
        have x8 := (ev_form a 8).trans (old hp 8 (v := .pointer (some ⟨bl, 0, none⟩)) (by kernel_rfl) (by kernel_rfl))
        go_simp)
    · exact sc_val (y := .int .i64 (z2 : Int)) rfl rfl (fun l a V hp hu ha => by
        have x82 := (ev_form a 82).trans (knC (y := .pointer (some ⟨bl, 2, none⟩)) hp ha 82 4 (by kernel_rfl) (by kernel_rfl) rfl)
        obtain ⟨q1, q2, q3⟩ := unhide HQB V hp.j.2.1
        go_simp)
    · refine sc_call (f := 18) (p := 3) 81 rfl rfl rfl (by kernel_rfl) (by kernel_rfl) hBW0 (fun l a V hp hu ha => ?_) (fun l a V hp hu => ?_) (fun l a V v hp ha hv ho => ?_)
      · have D3 := onB_spec (by kernel_rfl : onB _ 3 = true) ha
        have D0 := onB_spec (by kernel_rfl : onB _ 0 = true) (hp.down 3 _ rfl D3)
        have N6 := notDoneB hu
        have N9 : l.getD 9 false = false := by
          cases e : l.getD 9 false with
          | false => rfl
          | true => have h := onB_spec (by kernel_rfl : onB _ 6 = true) (hp.down 9 _ rfl e); rw [N6] at h; cases h
        have N10 : l.getD 10 false = false := by
          cases e : l.getD 10 false with
          | false => rfl
          | true => have h := onB_spec (by kernel_rfl : onB _ 9 = true) (hp.down 10 _ rfl e); rw [N9] at h; cases h
        refine ⟨.inr D3, fun j j' zs hj hne hd => ?_⟩
        match j, hj, hne, hd with
        | 0, hj, hne, hd => injection hj with hj _; subst hj; exact D3
        | 1, hj, hne, hd => cases hj
        | 2, hj, hne, hd => cases hj
        | 3, hj, hne, hd => exact absurd rfl hne
        | 4, hj, hne, hd => cases hj
        | 5, hj, hne, hd => cases hj
        | 6, hj, hne, hd => rw [N6] at hd; cases hd
        | 7, hj, hne, hd => cases hj
        | 8, hj, hne, hd => cases hj
        | 9, hj, hne, hd => rw [N9] at hd; cases hd
        | 10, hj, hne, hd => cases hj
        | _ + 11, hj, hne, hd => cases hj
      · intro j zs hj
        have N6 := notDoneB hu
        match j, hj with
        | 0, hj => cases hj
        | 1, hj => cases hj
        | 2, hj => cases hj
        | 3, hj => cases hj
        | 4, hj => cases hj
        | 5, hj => cases hj
        | 6, hj => cases hj
        | 7, hj => cases hj
        | 8, hj => cases hj
        | 9, hj => cases hj
        | 10, hj =>
          cases e : l.getD 10 false with
          | false => rfl
          | true => have h := onB_spec (by kernel_rfl : onB _ 6 = true) (hp.down 10 _ rfl e); rw [N6] at h; cases h
        | _ + 11, hj => cases hj
      · have x81 := (ev_form a 81).trans hv
        have x83 := (ev_form a 83).trans (knC (y := .int .i64 (z2 : Int)) hp ha 83 5 (by kernel_rfl) (by kernel_rfl) rfl)
        exact ⟨#[v, .int .i64 (z2 : Int)], by go_simp, sPut W1.heap.size z2 (pre ++ encN z1) v V (Nat.le_trans hBW0 hp.j.1.size) ho (by omega) (by (try simp only [List.length_append]); omega)⟩
    · exact sc_val (y := .pointer (some ⟨bl, 3, none⟩)) rfl rfl (fun l a V hp hu ha => by
        have x8 := (ev_form a 8).trans (old hp 8 (v := .pointer (some ⟨bl, 0, none⟩)) (by kernel_rfl) (by kernel_rfl))
        go_simp)
    · exact sc_val (y := .int .i64 (z3 : Int)) rfl rfl (fun l a V hp hu ha => by
        have x85 := (ev_form a 85).trans (knC (y := .pointer (some ⟨bl, 3, none⟩)) hp ha 85 7 (by kernel_rfl) (by kernel_rfl) rfl)
        obtain ⟨q1, q2, q3⟩ := unhide HQB V hp.j.2.1
        go_simp)
    · refine sc_call (f := 18) (p := 6) 84 rfl rfl rfl (by kernel_rfl) (by kernel_rfl) hBW0 (fun l a V hp hu ha => ?_) (fun l a V hp hu => ?_) (fun l a V v hp ha hv ho => ?_)
      · have D6 := onB_spec (by kernel_rfl : onB _ 6 = true) ha
        have D3 := onB_spec (by kernel_rfl : onB _ 3 = true) (hp.down 6 _ rfl D6)
        have D0 := onB_spec (by kernel_rfl : onB _ 0 = true) (hp.down 3 _ rfl D3)
        have N9 := notDoneB hu
        have N10 : l.getD 10 false = false := by
          cases e : l.getD 10 false with
          | false => rfl
          | true => have h := onB_spec (by kernel_rfl : onB _ 9 = true) (hp.down 10 _ rfl e); rw [N9] at h; cases h
        refine ⟨.inr D3, fun j j' zs hj hne hd => ?_⟩
        match j, hj, hne, hd with
        | 0, hj, hne, hd => injection hj with hj _; subst hj; exact D3
        | 1, hj, hne, hd => cases hj
        | 2, hj, hne, hd => cases hj
        | 3, hj, hne, hd => injection hj with hj _; subst hj; exact D6
        | 4, hj, hne, hd => cases hj
        | 5, hj, hne, hd => cases hj
        | 6, hj, hne, hd => exact absurd rfl hne
        | 7, hj, hne, hd => cases hj
        | 8, hj, hne, hd => cases hj
        | 9, hj, hne, hd => rw [N9] at hd; cases hd
        | 10, hj, hne, hd => cases hj
        | _ + 11, hj, hne, hd => cases hj
      · intro j zs hj
        have N9 := notDoneB hu
        match j, hj with
        | 0, hj => cases hj
        | 1, hj => cases hj
        | 2, hj => cases hj
        | 3, hj => cases hj
        | 4, hj => cases hj
        | 5, hj => cases hj
        | 6, hj => cases hj
        | 7, hj => cases hj
        | 8, hj => cases hj
        | 9, hj => cases hj
        | 10, hj =>
          cases e : l.getD 10 false with
          | false => rfl
          | true => have h := onB_spec (by kernel_rfl : onB _ 9 = true) (hp.down 10 _ rfl e); rw [N9] at h; cases h
        | _ + 11, hj => cases hj
      · have x84 := (ev_form a 84).trans hv
        have x86 := (ev_form a 86).trans (knC (y := .int .i64 (z3 : Int)) hp ha 86 8 (by kernel_rfl) (by kernel_rfl) rfl)
        exact ⟨#[v, .int .i64 (z3 : Int)], by go_simp, sPut W1.heap.size z3 (pre ++ encN z1 ++ encN z2) v V (Nat.le_trans hBW0 hp.j.1.size) ho (by omega) (by (try simp only [List.length_append]); omega)⟩
    · refine sc_last (p := 9) 87 rfl rfl rfl (by kernel_rfl) (by kernel_rfl) (fun l a V hp hu ha hsh => ?_)
      obtain ⟨t1, t2, t3, ht⟩ := hsh
      have x87 := (ev_form a 87).trans ht
      rw [ht]
      go_simp
  case hf =>
    intro l a V hp hall
    have hv : OB W1.heap.size V (a.eval (.tmp 4)) (pre ++ encN z1 ++ encN z2 ++ encN z3) := hp.good 10 _ 4 rfl rfl (hall 10 (by decide))
    have hj := hp.j
    obtain ⟨us, rfl, hus⟩ := putAll_of [78, 79, 80, 81, 82, 83, 84, 85, 86, 87, 4] hp.nt hp.df (fun t ht => hp.keep t (dstIn (by kernel_rfl) ht))
    rw [← hus 4] at hv
    clear hp hall hus
    simp only [putAll, List.foldl, Act.put, List.setIfInBounds_toArray, List.set_cons_zero, List.set_cons_succ]
    exact unhide HQ (us 78) (us 79) (us 80) (us 81) (us 82) (us 83) (us 84) (us 85) (us 86) (us 87) (us 4) V hj.1 hj.2.1 hv
end Go.Proofs.Ytaamibonpmijaab
