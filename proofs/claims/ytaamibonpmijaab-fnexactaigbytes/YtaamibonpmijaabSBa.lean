/- The specification's AigBytes: the regions that draw. -/
import Derived.Test.YtaamibonpmijaabSB0
import Derived.Test.YtaamibonpmijaabSA
import Derived.Test.YtaamibonpmijaabLW
import Derived.Test.YtaamibonpmijaabAW9
namespace Go.Proofs.Ytaamibonpmijaab
open Go Go.RowKit Gs
set_option linter.unusedVariables false
set_option linter.unusedSimpArgs false
set_option maxRecDepth 100000
def findR (n : Nat) : Go.Code → Option Go.Code
  | .seq a b => match findR n a with | some c => some c | none => findR n b
  | .block _ a => findR n a
  | .loop a => findR n a
  | .region id ops d => if id = n then some (.region id ops d) else none
  | _ => none
def atR (n : Nat) (c : Go.Code) : Go.Code := match findR n c with | some c => c | none => .skip
def bodyOf (f : Func) : Go.Code := match f.body with | some c => c | none => .skip
def ck19 (bl z1 z2 z3 : Nat) (pre : List UInt8) : Nat → Ck
  | 0 => .chain 3 pre
  | 1 => .pure (.pointer (some ⟨bl, 1, none⟩))
  | 2 => .pure (.int .i64 (z1 : Int))
  | 3 => .chain 6 (pre ++ encN z1)
  | 4 => .pure (.pointer (some ⟨bl, 2, none⟩))
  | 5 => .pure (.int .i64 (z2 : Int))
  | 6 => .chain 9 (pre ++ encN z1 ++ encN z2)
  | 7 => .pure (.pointer (some ⟨bl, 3, none⟩))
  | 8 => .pure (.int .i64 (z3 : Int))
  | 9 => .chain 10 (pre ++ encN z1 ++ encN z2 ++ encN z3)
  | 10 => .last (pre ++ encN z1 ++ encN z2 ++ encN z3)
  | _ => .pure undef
set_option maxHeartbeats 16000000 in
theorem reg19 {Q : Exit → Act → World → Prop} (w : World) (s0 s1 s2 s3 s4 s5 : Option Addr) (l0 l1 l2 l3 l4 l5 c0 c1 c2 c3 c4 c5 bl z1 z2 z3 : Nat) (vo : Value) (pre : List UInt8) (W1 W : World) (hb : Below W1.heap.size W1 W) (ho : OB W1.heap.size W vo pre) (hbl : ∀ V, KP [] W V → V.cell? ⟨bl, 1, none⟩ = some (.int .i64 (z1 : Int)) ∧ V.cell? ⟨bl, 2, none⟩ = some (.int .i64 (z2 : Int)) ∧ V.cell? ⟨bl, 3, none⟩ = some (.int .i64 (z3 : Int))) (hz1 : z1 ≤ 1000000) (hz2 : z2 ≤ 1000000) (hz3 : z3 ≤ 1000000) (hl : pre.length ≤ 200000000)
    {u2 u3 u5 u6 u7 u9 u10 u11 u12 u13 u14 u15 u16 u17 u18 u19 u20 u21 u22 u23 u24 u25 u26 u27 u28 u29 u30 u31 u32 u33 u34 u35 u36 u37 u38 u39 u40 u41 u42 u43 u44 u45 u46 u47 u48 u49 u50 u51 u52 u53 u54 u55 u56 u57 u58 u59 u60 u61 u62 u63 u64 u65 u66 u67 u68 u69 u70 u71 u72 u73 u74 u75 u76 u77 u78 u79 u80 u81 u82 u83 u84 u85 u86 u87 u88 u89 u90 u91 u92 u93 u94 u95 u96 u97 u98 u99 u100 u101 u102 u103 u104 u105 u106 u107 u108 u109 u110 u111 u112 u113 u114 u115 u116 u117 u118 u119 u120 u121 u122 u123 u124 u125 u126 u127 u128 u129 u130 u131 u132 u133 u134 u135 u136 u137 u138 u139 u140 u141 u142 u143 u144 u145 u146 u147 u148 u149 u150 u151 u152 u153 u154 u155 u156 u157 u158 u159 u160 u161 u162 u163 u164 u165 u166 u167 u168 u169 u170 u171 u172 u173 u174 u175 u176 u177 u178 u179 u180 u181 u182 u183 u184 u185 u186 u187 u188 u189 u190 u191 u192 u193 u194 u195 u196 u197 u198 u199 u200 u201 u202 u203 u204 : Value} (hQ : ∀ (p78 p79 p80 p81 p82 p83 p84 p85 p86 p87 vn : Value) (V : World), Below W1.heap.size W V → KP [] W V → OB W1.heap.size V vn (pre ++ encN z1 ++ encN z2 ++ encN z3) → Q .normal { tmps := #[.agg #[.slice s0 l0 c0, .slice s1 l1 c1, .slice s2 l2 c2, .slice s3 l3 c3, .slice s4 l4 c4, .slice s5 l5 c5], .pointer (some ⟨w.heap.size, 0, none⟩), u2, u3, vn, u5, u6, u7, .pointer (some ⟨bl, 0, none⟩), u9, u10, u11, u12, u13, u14, u15, u16, u17, u18, u19, u20, u21, u22, u23, u24, u25, u26, u27, u28, u29, u30, u31, u32, u33, u34, u35, u36, u37, u38, u39, u40, u41, u42, u43, u44, u45, u46, u47, u48, u49, u50, u51, u52, u53, u54, u55, u56, u57, u58, u59, u60, u61, u62, u63, u64, u65, u66, u67, u68, u69, u70, u71, u72, u73, u74, u75, u76, u77, p78, p79, p80, p81, p82, p83, p84, p85, p86, p87, u88, u89, u90, u91, u92, u93, u94, u95, u96, u97, u98, u99, u100, u101, u102, u103, u104, u105, u106, u107, u108, u109, u110, u111, u112, u113, u114, u115, u116, u117, u118, u119, u120, u121, u122, u123, u124, u125, u126, u127, u128, u129, u130, u131, u132, u133, u134, u135, u136, u137, u138, u139, u140, u141, u142, u143, u144, u145, u146, u147, u148, u149, u150, u151, u152, u153, u154, u155, u156, u157, u158, u159, u160, u161, u162, u163, u164, u165, u166, u167, u168, u169, u170, u171, u172, u173, u174, u175, u176, u177, u178, u179, u180, u181, u182, u183, u184, u185, u186, u187, u188, u189, u190, u191, u192, u193, u194, u195, u196, u197, u198, u199, u200, u201, u202, u203, u204], defers := [] } V) :
    Code.wp Try.prog (atR 19 (bodyOf Try.f5)) Q { tmps := #[.agg #[.slice s0 l0 c0, .slice s1 l1 c1, .slice s2 l2 c2, .slice s3 l3 c3, .slice s4 l4 c4, .slice s5 l5 c5], .pointer (some ⟨w.heap.size, 0, none⟩), u2, u3, vo, u5, u6, u7, .pointer (some ⟨bl, 0, none⟩), u9, u10, u11, u12, u13, u14, u15, u16, u17, u18, u19, u20, u21, u22, u23, u24, u25, u26, u27, u28, u29, u30, u31, u32, u33, u34, u35, u36, u37, u38, u39, u40, u41, u42, u43, u44, u45, u46, u47, u48, u49, u50, u51, u52, u53, u54, u55, u56, u57, u58, u59, u60, u61, u62, u63, u64, u65, u66, u67, u68, u69, u70, u71, u72, u73, u74, u75, u76, u77, u78, u79, u80, u81, u82, u83, u84, u85, u86, u87, u88, u89, u90, u91, u92, u93, u94, u95, u96, u97, u98, u99, u100, u101, u102, u103, u104, u105, u106, u107, u108, u109, u110, u111, u112, u113, u114, u115, u116, u117, u118, u119, u120, u121, u122, u123, u124, u125, u126, u127, u128, u129, u130, u131, u132, u133, u134, u135, u136, u137, u138, u139, u140, u141, u142, u143, u144, u145, u146, u147, u148, u149, u150, u151, u152, u153, u154, u155, u156, u157, u158, u159, u160, u161, u162, u163, u164, u165, u166, u167, u168, u169, u170, u171, u172, u173, u174, u175, u176, u177, u178, u179, u180, u181, u182, u183, u184, u185, u186, u187, u188, u189, u190, u191, u192, u193, u194, u195, u196, u197, u198, u199, u200, u201, u202, u203, u204], defers := [] } W := by
  have HQ := hide hQ
  have HSH : Hid (∃ x n c, vo = .slice x n c) := hide ho.shape3
  have hBW0 := hb.size
  have HQB := hide hbl
  have n1 := encN_ten (n := z1) (by omega)
  have n2 := encN_ten (n := z2) (by omega)
  have n3 := encN_ten (n := z3) (by omega)
  clear hbl
  clear hQ
  conv => arg 2; whnf
  refine wp_plan (GC W1.heap.size (ck19 bl z1 z2 z3 pre)) (JC W1.heap.size W vo pre 3) (by kernel_rfl) 205 (by kernel_rfl) (by kernel_rfl) ?hj ?hs ?hf
  case hj => exact ⟨(Below.refl _ _).drew, KP.of_below (bdr (brf W)), fun _ => ho.later (bdr (brf W))⟩
  case hs =>
    refine ⟨?_, ?_, ?_, ?_, ?_, ?_, ?_, ?_, ?_, ?_, ?_, trivial⟩
    · refine sc_move rfl rfl (fun l a V hp hu ha => ?_)
      have x4 := (ev_form a 4).trans (old2 hp hu 4 10 (v := vo) (by kernel_rfl) (by kernel_rfl) (by kernel_rfl))
      obtain ⟨t1, t2, t3, ht⟩ := unhide HSH
      rw [ht] at x4 ⊢
      go_simp
    · exact sc_val (y := .pointer (some ⟨bl, 1, none⟩)) rfl rfl (fun l a V hp hu ha => by
        have x8 := (ev_form a 8).trans (old hp 8 (v := .pointer (some ⟨bl, 0, none⟩)) (by kernel_rfl) (by kernel_rfl))
        go_simp)
    · exact sc_val (y := .int .i64 (z1 : Int)) rfl rfl (fun l a V hp hu ha => by
        have x79 := (ev_form a 79).trans (knC (y := .pointer (some ⟨bl, 1, none⟩)) hp ha 79 1 (by kernel_rfl) (by kernel_rfl) rfl)
        obtain ⟨q1, q2, q3⟩ := unhide HQB V hp.j.2.1
        go_simp)
    · refine sc_call (f := 18) (p := 0) 78 rfl rfl rfl (by kernel_rfl) (by kernel_rfl) hBW0 (fun l a V hp hu ha => ?_) (fun l a V hp hu => ?_) (fun l a V v hp ha hv ho => ?_)
      · have D0 := onB_spec (by kernel_rfl : onB _ 0 = true) ha
        have N3 := notDoneB hu
        have N6 : l.getD 6 false = false := by
          cases e : l.getD 6 false with
          | false => rfl
          | true => have h := onB_spec (by kernel_rfl : onB _ 3 = true) (hp.down 6 _ rfl e); rw [N3] at h; cases h
        have N9 : l.getD 9 false = false := by
          cases e : l.getD 9 false with
          | false => rfl
          | true => have h := onB_spec (by kernel_rfl : onB _ 6 = true) (hp.down 9 _ rfl e); rw [N6] at h; cases h
        have N10 : l.getD 10 false = false := by
          cases e : l.getD 10 false with
          | false => rfl
          | true => have h := onB_spec (by kernel_rfl : onB _ 9 = true) (hp.down 10 _ rfl e); rw [N9] at h; cases h
        refine ⟨.inl rfl, fun j j' zs hj hne hd => ?_⟩
        match j, hj, hne, hd with
        | 0, hj, hne, hd => exact absurd rfl hne
        | 1, hj, hne, hd => cases hj
        | 2, hj, hne, hd => cases hj
        | 3, hj, hne, hd => rw [N3] at hd; cases hd
        | 4, hj, hne, hd => cases hj
        | 5, hj, hne, hd => cases hj
        | 6, hj, hne, hd => rw [N6] at hd; cases hd
        | 7, hj, hne, hd => cases hj
        | 8, hj, hne, hd => cases hj
        | 9, hj, hne, hd => rw [N9] at hd; cases hd
        | 10, hj, hne, hd => cases hj
        | _ + 11, hj, hne, hd => cases hj
      · intro j zs hj
        have N3 := notDoneB hu
        match j, hj with
        | 0, hj => cases hj
        | 1, hj => cases hj
        | 2, hj => cases hj
        | 3, hj => cases hj
        | 4, hj => cases hj
        | 5, hj => cases hj
        | 6, hj => cases hj
        | 7, hj => cases hj
        | 8, hj => cases hj
        | 9, hj => cases hj
        | 10, hj =>
          cases e : l.getD 10 false with
          | false => rfl
          | true => have h := onB_spec (by kernel_rfl : onB _ 3 = true) (hp.down 10 _ rfl e); rw [N3] at h; cases h
        | _ + 11, hj => cases hj
      · have x78 := (ev_form a 78).trans hv
        have x80 := (ev_form a 80).trans (knC (y := .int .i64 (z1 : Int)) hp ha 80 2 (by kernel_rfl) (by kernel_rfl) rfl)
        exact ⟨#[v, .int .i64 (z1 : Int)], by go_simp, sPut W1.heap.size z1 (pre) v V (Nat.le_trans hBW0 hp.j.1.size) ho (by omega) (by (try simp only [List.length_append]); omega)⟩
    · exact sc_val (y := .pointer (some ⟨bl, 2, none⟩)) rfl rfl (fun l a V hp hu ha => by
        have x8 := (ev_form a 8).trans (old hp 8 (v := .pointer (some ⟨bl, 0, none⟩)) (by kernel_rfl) (by kernel_rfl))
        go_simp)
    · exact sc_val (y := .int .i64 (z2 : Int)) rfl rfl (fun l a V hp hu ha => by
        have x82 := (ev_form a 82).trans (knC (y := .pointer (some ⟨bl, 2, none⟩)) hp ha 82 4 (by kernel_rfl) (by kernel_rfl) rfl)
        obtain ⟨q1, q2, q3⟩ := unhide HQB V hp.j.2.1
        go_simp)
    · refine sc_call (f := 18) (p := 3) 81 rfl rfl rfl (by kernel_rfl) (by kernel_rfl) hBW0 (fun l a V hp hu ha => ?_) (fun l a V hp hu => ?_) (fun l a V v hp ha hv ho => ?_)
      · have D3 := onB_spec (by kernel_rfl : onB _ 3 = true) ha
        have D0 := onB_spec (by kernel_rfl : onB _ 0 = true) (hp.down 3 _ rfl D3)
        have N6 := notDoneB hu
        have N9 : l.getD 9 false = false := by
          cases e : l.getD 9 false with
          | false => rfl
          | true => have h := onB_spec (by kernel_rfl : onB _ 6 = true) (hp.down 9 _ rfl e); rw [N6] at h; cases h
        have N10 : l.getD 10 false = false := by
          cases e : l.getD 10 false with
          | false => rfl
          | true => have h := onB_spec (by kernel_rfl : onB _ 9 = true) (hp.down 10 _ rfl e); rw [N9] at h; cases h
        refine ⟨.inr D3, fun j j' zs hj hne hd => ?_⟩
        match j, hj, hne, hd with
        | 0, hj, hne, hd => injection hj with hj _; subst hj; exact D3
        | 1, hj, hne, hd => cases hj
        | 2, hj, hne, hd => cases hj
        | 3, hj, hne, hd => exact absurd rfl hne
        | 4, hj, hne, hd => cases hj
        | 5, hj, hne, hd => cases hj
        | 6, hj, hne, hd => rw [N6] at hd; cases hd
        | 7, hj, hne, hd => cases hj
        | 8, hj, hne, hd => cases hj
        | 9, hj, hne, hd => rw [N9] at hd; cases hd
        | 10, hj, hne, hd => cases hj
        | _ + 11, hj, hne, hd => cases hj
      · intro j zs hj
        have N6 := notDoneB hu
        match j, hj with
        | 0, hj => cases hj
        | 1, hj => cases hj
        | 2, hj => cases hj
        | 3, hj => cases hj
        | 4, hj => cases hj
        | 5, hj => cases hj
        | 6, hj => cases hj
        | 7, hj => cases hj
        | 8, hj => cases hj
        | 9, hj => cases hj
        | 10, hj =>
          cases e : l.getD 10 false with
          | false => rfl
          | true => have h := onB_spec (by kernel_rfl : onB _ 6 = true) (hp.down 10 _ rfl e); rw [N6] at h; cases h
        | _ + 11, hj => cases hj
      · have x81 := (ev_form a 81).trans hv
        have x83 := (ev_form a 83).trans (knC (y := .int .i64 (z2 : Int)) hp ha 83 5 (by kernel_rfl) (by kernel_rfl) rfl)
        exact ⟨#[v, .int .i64 (z2 : Int)], by go_simp, sPut W1.heap.size z2 (pre ++ encN z1) v V (Nat.le_trans hBW0 hp.j.1.size) ho (by omega) (by (try simp only [List.length_append]); omega)⟩
    · exact sc_val (y := .pointer (some ⟨bl, 3, none⟩)) rfl rfl (fun l a V hp hu ha => by
        have x8 := (ev_form a 8).trans (old hp 8 (v := .pointer (some ⟨bl, 0, none⟩)) (by kernel_rfl) (by kernel_rfl))
        go_simp)
    · exact sc_val (y := .int .i64 (z3 : Int)) rfl rfl (fun l a V hp hu ha => by
        have x85 := (ev_form a 85).trans (knC (y := .pointer (some ⟨bl, 3, none⟩)) hp ha 85 7 (by kernel_rfl) (by kernel_rfl) rfl)
        obtain ⟨q1, q2, q3⟩ := unhide HQB V hp.j.2.1
        go_simp)
    · refine sc_call (f := 18) (p := 6) 84 rfl rfl rfl (by kernel_rfl) (by kernel_rfl) hBW0 (fun l a V hp hu ha => ?_) (fun l a V hp hu => ?_) (fun l a V v hp ha hv ho => ?_)
      · have D6 := onB_spec (by kernel_rfl : onB _ 6 = true) ha
        have D3 := onB_spec (by kernel_rfl : onB _ 3 = true) (hp.down 6 _ rfl D6)
        have D0 := onB_spec (by kernel_rfl : onB _ 0 = true) (hp.down 3 _ rfl D3)
        have N9 := notDoneB hu
        have N10 : l.getD 10 false = false := by
          cases e : l.getD 10 false with
          | false => rfl
          | true => have h := onB_spec (by kernel_rfl : onB _ 9 = true) (hp.down 10 _ rfl e); rw [N9] at h; cases h
        refine ⟨.inr D3, fun j j' zs hj hne hd => ?_⟩
        match j, hj, hne, hd with
        | 0, hj, hne, hd => injection hj with hj _; subst hj; exact D3
        | 1, hj, hne, hd => cases hj
        | 2, hj, hne, hd => cases hj
        | 3, hj, hne, hd => injection hj with hj _; subst hj; exact D6
        | 4, hj, hne, hd => cases hj
        | 5, hj, hne, hd => cases hj
        | 6, hj, hne, hd => exact absurd rfl hne
        | 7, hj, hne, hd => cases hj
        | 8, hj, hne, hd => cases hj
        | 9, hj, hne, hd => rw [N9] at hd; cases hd
        | 10, hj, hne, hd => cases hj
        | _ + 11, hj, hne, hd => cases hj
      · intro j zs hj
        have N9 := notDoneB hu
        match j, hj with
        | 0, hj => cases hj
        | 1, hj => cases hj
        | 2, hj => cases hj
        | 3, hj => cases hj
        | 4, hj => cases hj
        | 5, hj => cases hj
        | 6, hj => cases hj
        | 7, hj => cases hj
        | 8, hj => cases hj
        | 9, hj => cases hj
        | 10, hj =>
          cases e : l.getD 10 false with
          | false => rfl
          | true => have h := onB_spec (by kernel_rfl : onB _ 9 = true) (hp.down 10 _ rfl e); rw [N9] at h; cases h
        | _ + 11, hj => cases hj
      · have x84 := (ev_form a 84).trans hv
        have x86 := (ev_form a 86).trans (knC (y := .int .i64 (z3 : Int)) hp ha 86 8 (by kernel_rfl) (by kernel_rfl) rfl)
        exact ⟨#[v, .int .i64 (z3 : Int)], by go_simp, sPut W1.heap.size z3 (pre ++ encN z1 ++ encN z2) v V (Nat.le_trans hBW0 hp.j.1.size) ho (by omega) (by (try simp only [List.length_append]); omega)⟩
    · refine sc_last (p := 9) 87 rfl rfl rfl (by kernel_rfl) (by kernel_rfl) (fun l a V hp hu ha hsh => ?_)
      obtain ⟨t1, t2, t3, ht⟩ := hsh
      have x87 := (ev_form a 87).trans ht
      rw [ht]
      go_simp
  case hf =>
    intro l a V hp hall
    have hv : OB W1.heap.size V (a.eval (.tmp 4)) (pre ++ encN z1 ++ encN z2 ++ encN z3) := hp.good 10 _ 4 rfl rfl (hall 10 (by decide))
    have hj := hp.j
    obtain ⟨us, rfl, hus⟩ := putAll_of [78, 79, 80, 81, 82, 83, 84, 85, 86, 87, 4] hp.nt hp.df (fun t ht => hp.keep t (dstIn (by kernel_rfl) ht))
    rw [← hus 4] at hv
    clear hp hall hus
    simp only [putAll, List.foldl, Act.put, List.setIfInBounds_toArray, List.set_cons_zero, List.set_cons_succ]
    exact unhide HQ (us 78) (us 79) (us 80) (us 81) (us 82) (us 83) (us 84) (us 85) (us 86) (us 87) (us 4) V hj.1 hj.2.1 hv
end Go.Proofs.Ytaamibonpmijaab
namespace Go.Proofs.Ytaamibonpmijaab
open Go Go.RowKit Gs
set_option linter.unusedVariables false
set_option linter.unusedSimpArgs false
set_option maxRecDepth 100000
def ck32 (w : World) (b o lp cp k z : Nat) (nm : ByteArray) (pre : List UInt8) : Nat → Ck
  | 0 => .chain 7 pre
  | 1 => .pure (.pointer (some ⟨w.heap.size, 4, none⟩))
  | 2 => .pure (.slice (some ⟨b, o, none⟩) lp cp)
  | 3 => .pure (.int .i64 (k : Int))
  | 4 => .pure (.pointer (some ⟨b, o + k * 2, none⟩))
  | 5 => .pure (.pointer (some ⟨b, o + k * 2, none⟩))
  | 6 => .pure (.string nm)
  | 7 => .chain 14 (pre ++ (encN nm.size ++ L nm))
  | 8 => .pure (.pointer (some ⟨w.heap.size, 4, none⟩))
  | 9 => .pure (.slice (some ⟨b, o, none⟩) lp cp)
  | 10 => .pure (.int .i64 (k : Int))
  | 11 => .pure (.pointer (some ⟨b, o + k * 2, none⟩))
  | 12 => .pure (.pointer (some ⟨b, o + k * 2 + 1, none⟩))
  | 13 => .pure (.int .i64 (z : Int))
  | 14 => .chain 15 (pre ++ (encN nm.size ++ L nm) ++ encN z)
  | 15 => .last (pre ++ (encN nm.size ++ L nm) ++ encN z)
  | _ => .pure undef
set_option maxHeartbeats 16000000 in
theorem reg32 {Q : Exit → Act → World → Prop} (w : World) (s0 s1 s2 s3 s4 s5 : Option Addr) (l0 l1 l2 l3 l4 l5 c0 c1 c2 c3 c4 c5 b o lp cp k z : Nat) (nm : ByteArray) (vo : Value) (pre : List UInt8) (W1 W : World) (hb : Below W1.heap.size W1 W) (ho : OB W1.heap.size W vo pre) (hbl : ∀ V, Below W1.heap.size W V → V.cell? ⟨w.heap.size, 4, none⟩ = some (.slice (some ⟨b, o, none⟩) lp cp) ∧ V.cell? ⟨b, o + k * 2, none⟩ = some (.string nm) ∧ V.cell? ⟨b, o + k * 2 + 1, none⟩ = some (.int .i64 (z : Int))) (i1 : (0 : Int) ≤ (k : Int)) (i2 : (k : Int) < (lp : Int)) (hz : z ≤ 1000000) (hs : nm.size ≤ 1000) (hl : pre.length ≤ 200000000)
    {u2 u3 u5 u6 u7 u8 u9 u10 u11 u12 u14 u15 u16 u17 u18 u19 u20 u21 u22 u23 u24 u25 u26 u27 u28 u29 u30 u31 u32 u33 u34 u35 u36 u37 u38 u39 u40 u41 u42 u43 u44 u45 u46 u47 u48 u49 u50 u51 u52 u53 u54 u55 u56 u57 u58 u59 u60 u61 u62 u63 u64 u65 u66 u67 u68 u69 u70 u71 u72 u73 u74 u75 u76 u77 u78 u79 u80 u81 u82 u83 u84 u85 u86 u87 u88 u89 u90 u91 u92 u93 u94 u95 u96 u97 u98 u99 u100 u101 u102 u103 u104 u105 u106 u107 u108 u109 u110 u111 u112 u113 u114 u115 u116 u117 u118 u119 u120 u121 u122 u123 u124 u125 u126 u127 u128 u129 u130 u131 u132 u133 u134 u135 u136 u137 u138 u139 u140 u141 u142 u143 u144 u145 u146 u147 u148 u149 u150 u151 u152 u153 u154 u155 u156 u157 u158 u159 u160 u161 u162 u163 u164 u165 u166 u167 u168 u169 u170 u171 u172 u173 u174 u175 u176 u177 u178 u179 u180 u181 u182 u183 u184 u185 u186 u187 u188 u189 u190 u191 u192 u193 u194 u195 u196 u197 u198 u199 u200 u201 u202 u203 u204 : Value} (hQ : ∀ (p158 p159 p160 p161 p162 p163 p164 p165 p166 p167 p168 p169 p170 p171 p172 vn : Value) (V : World), Below W1.heap.size W V → KP [] W V → OB W1.heap.size V vn (pre ++ (encN nm.size ++ L nm) ++ encN z) → Q .normal { tmps := #[.agg #[.slice s0 l0 c0, .slice s1 l1 c1, .slice s2 l2 c2, .slice s3 l3 c3, .slice s4 l4 c4, .slice s5 l5 c5], .pointer (some ⟨w.heap.size, 0, none⟩), u2, u3, vn, u5, u6, u7, u8, u9, u10, u11, u12, .int .i64 (k : Int), u14, u15, u16, u17, u18, u19, u20, u21, u22, u23, u24, u25, u26, u27, u28, u29, u30, u31, u32, u33, u34, u35, u36, u37, u38, u39, u40, u41, u42, u43, u44, u45, u46, u47, u48, u49, u50, u51, u52, u53, u54, u55, u56, u57, u58, u59, u60, u61, u62, u63, u64, u65, u66, u67, u68, u69, u70, u71, u72, u73, u74, u75, u76, u77, u78, u79, u80, u81, u82, u83, u84, u85, u86, u87, u88, u89, u90, u91, u92, u93, u94, u95, u96, u97, u98, u99, u100, u101, u102, u103, u104, u105, u106, u107, u108, u109, u110, u111, u112, u113, u114, u115, u116, u117, u118, u119, u120, u121, u122, u123, u124, u125, u126, u127, u128, u129, u130, u131, u132, u133, u134, u135, u136, u137, u138, u139, u140, u141, u142, u143, u144, u145, u146, u147, u148, u149, u150, u151, u152, u153, u154, u155, u156, u157, p158, p159, p160, p161, p162, p163, p164, p165, p166, p167, p168, p169, p170, p171, p172, u173, u174, u175, u176, u177, u178, u179, u180, u181, u182, u183, u184, u185, u186, u187, u188, u189, u190, u191, u192, u193, u194, u195, u196, u197, u198, u199, u200, u201, u202, u203, u204], defers := [] } V) :
    Code.wp Try.prog (atR 32 (bodyOf Try.f5)) Q { tmps := #[.agg #[.slice s0 l0 c0, .slice s1 l1 c1, .slice s2 l2 c2, .slice s3 l3 c3, .slice s4 l4 c4, .slice s5 l5 c5], .pointer (some ⟨w.heap.size, 0, none⟩), u2, u3, vo, u5, u6, u7, u8, u9, u10, u11, u12, .int .i64 (k : Int), u14, u15, u16, u17, u18, u19, u20, u21, u22, u23, u24, u25, u26, u27, u28, u29, u30, u31, u32, u33, u34, u35, u36, u37, u38, u39, u40, u41, u42, u43, u44, u45, u46, u47, u48, u49, u50, u51, u52, u53, u54, u55, u56, u57, u58, u59, u60, u61, u62, u63, u64, u65, u66, u67, u68, u69, u70, u71, u72, u73, u74, u75, u76, u77, u78, u79, u80, u81, u82, u83, u84, u85, u86, u87, u88, u89, u90, u91, u92, u93, u94, u95, u96, u97, u98, u99, u100, u101, u102, u103, u104, u105, u106, u107, u108, u109, u110, u111, u112, u113, u114, u115, u116, u117, u118, u119, u120, u121, u122, u123, u124, u125, u126, u127, u128, u129, u130, u131, u132, u133, u134, u135, u136, u137, u138, u139, u140, u141, u142, u143, u144, u145, u146, u147, u148, u149, u150, u151, u152, u153, u154, u155, u156, u157, u158, u159, u160, u161, u162, u163, u164, u165, u166, u167, u168, u169, u170, u171, u172, u173, u174, u175, u176, u177, u178, u179, u180, u181, u182, u183, u184, u185, u186, u187, u188, u189, u190, u191, u192, u193, u194, u195, u196, u197, u198, u199, u200, u201, u202, u203, u204], defers := [] } W := by
  have HQ := hide hQ
  have HSH : Hid (∃ x n c, vo = .slice x n c) := hide ho.shape3
  have hBW0 := hb.size
  have HQB := hide hbl
  have n1 := encN_ten (n := nm.size) (by omega)
  have n2 := encN_ten (n := z) (by omega)
  clear hbl
  clear hQ
  conv => arg 2; whnf
  refine wp_plan (GC W1.heap.size (ck32 w b o lp cp k z nm pre)) (JC W1.heap.size W vo pre 7) (by kernel_rfl) 205 (by kernel_rfl) (by kernel_rfl) ?hj ?hs ?hf
  case hj => exact ⟨(Below.refl _ _).drew, KP.of_below (bdr (brf W)), fun _ => ho.later (bdr (brf W))⟩
  case hs =>
    refine ⟨?_, ?_, ?_, ?_, ?_, ?_, ?_, ?_, ?_, ?_, ?_, ?_, ?_, ?_, ?_, ?_, trivial⟩
    · refine sc_move rfl rfl (fun l a V hp hu ha => ?_)
      have x4 := (ev_form a 4).trans (old2 hp hu 4 15 (v := vo) (by kernel_rfl) (by kernel_rfl) (by kernel_rfl))
      obtain ⟨t1, t2, t3, ht⟩ := unhide HSH
      rw [ht] at x4 ⊢
      go_simp
    · exact sc_val (y := .pointer (some ⟨w.heap.size, 4, none⟩)) rfl rfl (fun l a V hp hu ha => by
        have x1 := (ev_form a 1).trans (old hp 1 (v := .pointer (some ⟨w.heap.size, 0, none⟩)) (by kernel_rfl) (by kernel_rfl))
        go_simp)
    · exact sc_val (y := .slice (some ⟨b, o, none⟩) lp cp) rfl rfl (fun l a V hp hu ha => by
        have x159 := (ev_form a 159).trans (knC (y := .pointer (some ⟨w.heap.size, 4, none⟩)) hp ha 159 1 (by kernel_rfl) (by kernel_rfl) rfl)
        obtain ⟨q0, q1, q2⟩ := unhide HQB V hp.j.1
        go_simp)
    · exact sc_val (y := .int .i64 (k : Int)) rfl rfl (fun l a V hp hu ha => by
        have x13 := (ev_form a 13).trans (old hp 13 (v := .int .i64 (k : Int)) (by kernel_rfl) (by kernel_rfl))
        go_simp)
    · exact sc_val (y := .pointer (some ⟨b, o + k * 2, none⟩)) rfl rfl (fun l a V hp hu ha => by
        have x160 := (ev_form a 160).trans (knC (y := .slice (some ⟨b, o, none⟩) lp cp) hp ha 160 2 (by kernel_rfl) (by kernel_rfl) rfl)
        have x161 := (ev_form a 161).trans (knC (y := .int .i64 (k : Int)) hp ha 161 3 (by kernel_rfl) (by kernel_rfl) rfl)
        go_simp)
    · exact sc_val (y := .pointer (some ⟨b, o + k * 2, none⟩)) rfl rfl (fun l a V hp hu ha => by
        have x162 := (ev_form a 162).trans (knC (y := .pointer (some ⟨b, o + k * 2, none⟩)) hp ha 162 4 (by kernel_rfl) (by kernel_rfl) rfl)
        go_simp)
    · exact sc_val (y := .string nm) rfl rfl (fun l a V hp hu ha => by
        have x163 := (ev_form a 163).trans (knC (y := .pointer (some ⟨b, o + k * 2, none⟩)) hp ha 163 5 (by kernel_rfl) (by kernel_rfl) rfl)
        obtain ⟨q0, q1, q2⟩ := unhide HQB V hp.j.1
        go_simp)
    · refine sc_call (f := 19) (p := 0) 158 rfl rfl rfl (by kernel_rfl) (by kernel_rfl) hBW0 (fun l a V hp hu ha => ?_) (fun l a V hp hu => ?_) (fun l a V v hp ha hv ho => ?_)
      · have D0 := onB_spec (by kernel_rfl : onB _ 0 = true) ha
        have N7 := notDoneB hu
        have N14 : l.getD 14 false = false := by
          cases e : l.getD 14 false with
          | false => rfl
          | true => have h := onB_spec (by kernel_rfl : onB _ 7 = true) (hp.down 14 _ rfl e); rw [N7] at h; cases h
        have N15 : l.getD 15 false = false := by
          cases e : l.getD 15 false with
          | false => rfl
          | true => have h := onB_spec (by kernel_rfl : onB _ 14 = true) (hp.down 15 _ rfl e); rw [N14] at h; cases h
        refine ⟨.inl rfl, fun j j' zs hj hne hd => ?_⟩
        match j, hj, hne, hd with
        | 0, hj, hne, hd => exact absurd rfl hne
        | 1, hj, hne, hd => cases hj
        | 2, hj, hne, hd => cases hj
        | 3, hj, hne, hd => cases hj
        | 4, hj, hne, hd => cases hj
        | 5, hj, hne, hd => cases hj
        | 6, hj, hne, hd => cases hj
        | 7, hj, hne, hd => rw [N7] at hd; cases hd
        | 8, hj, hne, hd => cases hj
        | 9, hj, hne, hd => cases hj
        | 10, hj, hne, hd => cases hj
        | 11, hj, hne, hd => cases hj
        | 12, hj, hne, hd => cases hj
        | 13, hj, hne, hd => cases hj
        | 14, hj, hne, hd => rw [N14] at hd; cases hd
        | 15, hj, hne, hd => cases hj
        | _ + 16, hj, hne, hd => cases hj
      · intro j zs hj
        have N7 := notDoneB hu
        match j, hj with
        | 0, hj => cases hj
        | 1, hj => cases hj
        | 2, hj => cases hj
        | 3, hj => cases hj
        | 4, hj => cases hj
        | 5, hj => cases hj
        | 6, hj => cases hj
        | 7, hj => cases hj
        | 8, hj => cases hj
        | 9, hj => cases hj
        | 10, hj => cases hj
        | 11, hj => cases hj
        | 12, hj => cases hj
        | 13, hj => cases hj
        | 14, hj => cases hj
        | 15, hj =>
          cases e : l.getD 15 false with
          | false => rfl
          | true => have h := onB_spec (by kernel_rfl : onB _ 7 = true) (hp.down 15 _ rfl e); rw [N7] at h; cases h
        | _ + 16, hj => cases hj
      · have x158 := (ev_form a 158).trans hv
        have x164 := (ev_form a 164).trans (knC (y := .string nm) hp ha 164 6 (by kernel_rfl) (by kernel_rfl) rfl)
        exact ⟨#[v, .string nm], by go_simp, sPutText W1.heap.size nm pre v V (Nat.le_trans hBW0 hp.j.1.size) ho (by omega) (by omega)⟩
    · exact sc_val (y := .pointer (some ⟨w.heap.size, 4, none⟩)) rfl rfl (fun l a V hp hu ha => by
        have x1 := (ev_form a 1).trans (old hp 1 (v := .pointer (some ⟨w.heap.size, 0, none⟩)) (by kernel_rfl) (by kernel_rfl))
        go_simp)
    · exact sc_val (y := .slice (some ⟨b, o, none⟩) lp cp) rfl rfl (fun l a V hp hu ha => by
        have x166 := (ev_form a 166).trans (knC (y := .pointer (some ⟨w.heap.size, 4, none⟩)) hp ha 166 8 (by kernel_rfl) (by kernel_rfl) rfl)
        obtain ⟨q0, q1, q2⟩ := unhide HQB V hp.j.1
        go_simp)
    · exact sc_val (y := .int .i64 (k : Int)) rfl rfl (fun l a V hp hu ha => by
        have x13 := (ev_form a 13).trans (old hp 13 (v := .int .i64 (k : Int)) (by kernel_rfl) (by kernel_rfl))
        go_simp)
    · exact sc_val (y := .pointer (some ⟨b, o + k * 2, none⟩)) rfl rfl (fun l a V hp hu ha => by
        have x167 := (ev_form a 167).trans (knC (y := .slice (some ⟨b, o, none⟩) lp cp) hp ha 167 9 (by kernel_rfl) (by kernel_rfl) rfl)
        have x168 := (ev_form a 168).trans (knC (y := .int .i64 (k : Int)) hp ha 168 10 (by kernel_rfl) (by kernel_rfl) rfl)
        go_simp)
    · exact sc_val (y := .pointer (some ⟨b, o + k * 2 + 1, none⟩)) rfl rfl (fun l a V hp hu ha => by
        have x169 := (ev_form a 169).trans (knC (y := .pointer (some ⟨b, o + k * 2, none⟩)) hp ha 169 11 (by kernel_rfl) (by kernel_rfl) rfl)
        go_simp)
    · exact sc_val (y := .int .i64 (z : Int)) rfl rfl (fun l a V hp hu ha => by
        have x170 := (ev_form a 170).trans (knC (y := .pointer (some ⟨b, o + k * 2 + 1, none⟩)) hp ha 170 12 (by kernel_rfl) (by kernel_rfl) rfl)
        obtain ⟨q0, q1, q2⟩ := unhide HQB V hp.j.1
        go_simp)
    · refine sc_call (f := 18) (p := 7) 165 rfl rfl rfl (by kernel_rfl) (by kernel_rfl) hBW0 (fun l a V hp hu ha => ?_) (fun l a V hp hu => ?_) (fun l a V v hp ha hv ho => ?_)
      · have D7 := onB_spec (by kernel_rfl : onB _ 7 = true) ha
        have D0 := onB_spec (by kernel_rfl : onB _ 0 = true) (hp.down 7 _ rfl D7)
        have N14 := notDoneB hu
        have N15 : l.getD 15 false = false := by
          cases e : l.getD 15 false with
          | false => rfl
          | true => have h := onB_spec (by kernel_rfl : onB _ 14 = true) (hp.down 15 _ rfl e); rw [N14] at h; cases h
        refine ⟨.inr D7, fun j j' zs hj hne hd => ?_⟩
        match j, hj, hne, hd with
        | 0, hj, hne, hd => injection hj with hj _; subst hj; exact D7
        | 1, hj, hne, hd => cases hj
        | 2, hj, hne, hd => cases hj
        | 3, hj, hne, hd => cases hj
        | 4, hj, hne, hd => cases hj
        | 5, hj, hne, hd => cases hj
        | 6, hj, hne, hd => cases hj
        | 7, hj, hne, hd => exact absurd rfl hne
        | 8, hj, hne, hd => cases hj
        | 9, hj, hne, hd => cases hj
        | 10, hj, hne, hd => cases hj
        | 11, hj, hne, hd => cases hj
        | 12, hj, hne, hd => cases hj
        | 13, hj, hne, hd => cases hj
        | 14, hj, hne, hd => rw [N14] at hd; cases hd
        | 15, hj, hne, hd => cases hj
        | _ + 16, hj, hne, hd => cases hj
      · intro j zs hj
        have N14 := notDoneB hu
        match j, hj with
        | 0, hj => cases hj
        | 1, hj => cases hj
        | 2, hj => cases hj
        | 3, hj => cases hj
        | 4, hj => cases hj
        | 5, hj => cases hj
        | 6, hj => cases hj
        | 7, hj => cases hj
        | 8, hj => cases hj
        | 9, hj => cases hj
        | 10, hj => cases hj
        | 11, hj => cases hj
        | 12, hj => cases hj
        | 13, hj => cases hj
        | 14, hj => cases hj
        | 15, hj =>
          cases e : l.getD 15 false with
          | false => rfl
          | true => have h := onB_spec (by kernel_rfl : onB _ 14 = true) (hp.down 15 _ rfl e); rw [N14] at h; cases h
        | _ + 16, hj => cases hj
      · have x165 := (ev_form a 165).trans hv
        have x171 := (ev_form a 171).trans (knC (y := .int .i64 (z : Int)) hp ha 171 13 (by kernel_rfl) (by kernel_rfl) rfl)
        exact ⟨#[v, .int .i64 (z : Int)], by go_simp, sPut W1.heap.size z (pre ++ (encN nm.size ++ L nm)) v V (Nat.le_trans hBW0 hp.j.1.size) ho (by omega) (by simp only [List.length_append, L_len]; omega)⟩
    · refine sc_last (p := 14) 172 rfl rfl rfl (by kernel_rfl) (by kernel_rfl) (fun l a V hp hu ha hsh => ?_)
      obtain ⟨t1, t2, t3, ht⟩ := hsh
      have x172 := (ev_form a 172).trans ht
      rw [ht]
      go_simp
  case hf =>
    intro l a V hp hall
    have hv : OB W1.heap.size V (a.eval (.tmp 4)) (pre ++ (encN nm.size ++ L nm) ++ encN z) := hp.good 15 _ 4 rfl rfl (hall 15 (by decide))
    have hj := hp.j
    obtain ⟨us, rfl, hus⟩ := putAll_of [158, 159, 160, 161, 162, 163, 164, 165, 166, 167, 168, 169, 170, 171, 172, 4] hp.nt hp.df (fun t ht => hp.keep t (dstIn (by kernel_rfl) ht))
    rw [← hus 4] at hv
    clear hp hall hus
    simp only [putAll, List.foldl, Act.put, List.setIfInBounds_toArray, List.set_cons_zero, List.set_cons_succ]
    exact unhide HQ (us 158) (us 159) (us 160) (us 161) (us 162) (us 163) (us 164) (us 165) (us 166) (us 167) (us 168) (us 169) (us 170) (us 171) (us 172) (us 4) V hj.1 hj.2.1 hv
end Go.Proofs.Ytaamibonpmijaab
namespace Go.Proofs.Ytaamibonpmijaab
open Go Go.RowKit Gs
set_option linter.unusedVariables false
set_option linter.unusedSimpArgs false
set_option maxRecDepth 100000
def ck37 (w : World) (b o lp cp k z : Nat) (nm : ByteArray) (pre : List UInt8) : Nat → Ck
  | 0 => .chain 7 pre
  | 1 => .pure (.pointer (some ⟨w.heap.size, 5, none⟩))
  | 2 => .pure (.slice (some ⟨b, o, none⟩) lp cp)
  | 3 => .pure (.int .i64 (k : Int))
  | 4 => .pure (.pointer (some ⟨b, o + k * 2, none⟩))
  | 5 => .pure (.pointer (some ⟨b, o + k * 2, none⟩))
  | 6 => .pure (.string nm)
  | 7 => .chain 14 (pre ++ (encN nm.size ++ L nm))
  | 8 => .pure (.pointer (some ⟨w.heap.size, 5, none⟩))
  | 9 => .pure (.slice (some ⟨b, o, none⟩) lp cp)
  | 10 => .pure (.int .i64 (k : Int))
  | 11 => .pure (.pointer (some ⟨b, o + k * 2, none⟩))
  | 12 => .pure (.pointer (some ⟨b, o + k * 2 + 1, none⟩))
  | 13 => .pure (.int .i64 (z : Int))
  | 14 => .chain 15 (pre ++ (encN nm.size ++ L nm) ++ encN z)
  | 15 => .last (pre ++ (encN nm.size ++ L nm) ++ encN z)
  | _ => .pure undef
set_option maxHeartbeats 16000000 in
theorem reg37 {Q : Exit → Act → World → Prop} (w : World) (s0 s1 s2 s3 s4 s5 : Option Addr) (l0 l1 l2 l3 l4 l5 c0 c1 c2 c3 c4 c5 b o lp cp k z : Nat) (nm : ByteArray) (vo : Value) (pre : List UInt8) (W1 W : World) (hb : Below W1.heap.size W1 W) (ho : OB W1.heap.size W vo pre) (hbl : ∀ V, Below W1.heap.size W V → V.cell? ⟨w.heap.size, 5, none⟩ = some (.slice (some ⟨b, o, none⟩) lp cp) ∧ V.cell? ⟨b, o + k * 2, none⟩ = some (.string nm) ∧ V.cell? ⟨b, o + k * 2 + 1, none⟩ = some (.int .i64 (z : Int))) (i1 : (0 : Int) ≤ (k : Int)) (i2 : (k : Int) < (lp : Int)) (hz : z ≤ 1000000) (hs : nm.size ≤ 1000) (hl : pre.length ≤ 200000000)
    {u2 u3 u5 u6 u7 u8 u9 u10 u11 u12 u13 u15 u16 u17 u18 u19 u20 u21 u22 u23 u24 u25 u26 u27 u28 u29 u30 u31 u32 u33 u34 u35 u36 u37 u38 u39 u40 u41 u42 u43 u44 u45 u46 u47 u48 u49 u50 u51 u52 u53 u54 u55 u56 u57 u58 u59 u60 u61 u62 u63 u64 u65 u66 u67 u68 u69 u70 u71 u72 u73 u74 u75 u76 u77 u78 u79 u80 u81 u82 u83 u84 u85 u86 u87 u88 u89 u90 u91 u92 u93 u94 u95 u96 u97 u98 u99 u100 u101 u102 u103 u104 u105 u106 u107 u108 u109 u110 u111 u112 u113 u114 u115 u116 u117 u118 u119 u120 u121 u122 u123 u124 u125 u126 u127 u128 u129 u130 u131 u132 u133 u134 u135 u136 u137 u138 u139 u140 u141 u142 u143 u144 u145 u146 u147 u148 u149 u150 u151 u152 u153 u154 u155 u156 u157 u158 u159 u160 u161 u162 u163 u164 u165 u166 u167 u168 u169 u170 u171 u172 u173 u174 u175 u176 u177 u178 u179 u180 u181 u182 u183 u184 u185 u186 u187 u188 u189 u190 u191 u192 u193 u194 u195 u196 u197 u198 u199 u200 u201 u202 u203 u204 : Value} (hQ : ∀ (p185 p186 p187 p188 p189 p190 p191 p192 p193 p194 p195 p196 p197 p198 p199 vn : Value) (V : World), Below W1.heap.size W V → KP [] W V → OB W1.heap.size V vn (pre ++ (encN nm.size ++ L nm) ++ encN z) → Q .normal { tmps := #[.agg #[.slice s0 l0 c0, .slice s1 l1 c1, .slice s2 l2 c2, .slice s3 l3 c3, .slice s4 l4 c4, .slice s5 l5 c5], .pointer (some ⟨w.heap.size, 0, none⟩), u2, u3, vn, u5, u6, u7, u8, u9, u10, u11, u12, u13, .int .i64 (k : Int), u15, u16, u17, u18, u19, u20, u21, u22, u23, u24, u25, u26, u27, u28, u29, u30, u31, u32, u33, u34, u35, u36, u37, u38, u39, u40, u41, u42, u43, u44, u45, u46, u47, u48, u49, u50, u51, u52, u53, u54, u55, u56, u57, u58, u59, u60, u61, u62, u63, u64, u65, u66, u67, u68, u69, u70, u71, u72, u73, u74, u75, u76, u77, u78, u79, u80, u81, u82, u83, u84, u85, u86, u87, u88, u89, u90, u91, u92, u93, u94, u95, u96, u97, u98, u99, u100, u101, u102, u103, u104, u105, u106, u107, u108, u109, u110, u111, u112, u113, u114, u115, u116, u117, u118, u119, u120, u121, u122, u123, u124, u125, u126, u127, u128, u129, u130, u131, u132, u133, u134, u135, u136, u137, u138, u139, u140, u141, u142, u143, u144, u145, u146, u147, u148, u149, u150, u151, u152, u153, u154, u155, u156, u157, u158, u159, u160, u161, u162, u163, u164, u165, u166, u167, u168, u169, u170, u171, u172, u173, u174, u175, u176, u177, u178, u179, u180, u181, u182, u183, u184, p185, p186, p187, p188, p189, p190, p191, p192, p193, p194, p195, p196, p197, p198, p199, u200, u201, u202, u203, u204], defers := [] } V) :
    Code.wp Try.prog (atR 37 (bodyOf Try.f5)) Q { tmps := #[.agg #[.slice s0 l0 c0, .slice s1 l1 c1, .slice s2 l2 c2, .slice s3 l3 c3, .slice s4 l4 c4, .slice s5 l5 c5], .pointer (some ⟨w.heap.size, 0, none⟩), u2, u3, vo, u5, u6, u7, u8, u9, u10, u11, u12, u13, .int .i64 (k : Int), u15, u16, u17, u18, u19, u20, u21, u22, u23, u24, u25, u26, u27, u28, u29, u30, u31, u32, u33, u34, u35, u36, u37, u38, u39, u40, u41, u42, u43, u44, u45, u46, u47, u48, u49, u50, u51, u52, u53, u54, u55, u56, u57, u58, u59, u60, u61, u62, u63, u64, u65, u66, u67, u68, u69, u70, u71, u72, u73, u74, u75, u76, u77, u78, u79, u80, u81, u82, u83, u84, u85, u86, u87, u88, u89, u90, u91, u92, u93, u94, u95, u96, u97, u98, u99, u100, u101, u102, u103, u104, u105, u106, u107, u108, u109, u110, u111, u112, u113, u114, u115, u116, u117, u118, u119, u120, u121, u122, u123, u124, u125, u126, u127, u128, u129, u130, u131, u132, u133, u134, u135, u136, u137, u138, u139, u140, u141, u142, u143, u144, u145, u146, u147, u148, u149, u150, u151, u152, u153, u154, u155, u156, u157, u158, u159, u160, u161, u162, u163, u164, u165, u166, u167, u168, u169, u170, u171, u172, u173, u174, u175, u176, u177, u178, u179, u180, u181, u182, u183, u184, u185, u186, u187, u188, u189, u190, u191, u192, u193, u194, u195, u196, u197, u198, u199, u200, u201, u202, u203, u204], defers := [] } W := by
  have HQ := hide hQ
  have HSH : Hid (∃ x n c, vo = .slice x n c) := hide ho.shape3
  have hBW0 := hb.size
  have HQB := hide hbl
  have n1 := encN_ten (n := nm.size) (by omega)
  have n2 := encN_ten (n := z) (by omega)
  clear hbl
  clear hQ
  conv => arg 2; whnf
  refine wp_plan (GC W1.heap.size (ck37 w b o lp cp k z nm pre)) (JC W1.heap.size W vo pre 7) (by kernel_rfl) 205 (by kernel_rfl) (by kernel_rfl) ?hj ?hs ?hf
  case hj => exact ⟨(Below.refl _ _).drew, KP.of_below (bdr (brf W)), fun _ => ho.later (bdr (brf W))⟩
  case hs =>
    refine ⟨?_, ?_, ?_, ?_, ?_, ?_, ?_, ?_, ?_, ?_, ?_, ?_, ?_, ?_, ?_, ?_, trivial⟩
    · refine sc_move rfl rfl (fun l a V hp hu ha => ?_)
      have x4 := (ev_form a 4).trans (old2 hp hu 4 15 (v := vo) (by kernel_rfl) (by kernel_rfl) (by kernel_rfl))
      obtain ⟨t1, t2, t3, ht⟩ := unhide HSH
      rw [ht] at x4 ⊢
      go_simp
    · exact sc_val (y := .pointer (some ⟨w.heap.size, 5, none⟩)) rfl rfl (fun l a V hp hu ha => by
        have x1 := (ev_form a 1).trans (old hp 1 (v := .pointer (some ⟨w.heap.size, 0, none⟩)) (by kernel_rfl) (by kernel_rfl))
        go_simp)
    · exact sc_val (y := .slice (some ⟨b, o, none⟩) lp cp) rfl rfl (fun l a V hp hu ha => by
        have x186 := (ev_form a 186).trans (knC (y := .pointer (some ⟨w.heap.size, 5, none⟩)) hp ha 186 1 (by kernel_rfl) (by kernel_rfl) rfl)
        obtain ⟨q0, q1, q2⟩ := unhide HQB V hp.j.1
        go_simp)
    · exact sc_val (y := .int .i64 (k : Int)) rfl rfl (fun l a V hp hu ha => by
        have x14 := (ev_form a 14).trans (old hp 14 (v := .int .i64 (k : Int)) (by kernel_rfl) (by kernel_rfl))
        go_simp)
    · exact sc_val (y := .pointer (some ⟨b, o + k * 2, none⟩)) rfl rfl (fun l a V hp hu ha => by
        have x187 := (ev_form a 187).trans (knC (y := .slice (some ⟨b, o, none⟩) lp cp) hp ha 187 2 (by kernel_rfl) (by kernel_rfl) rfl)
        have x188 := (ev_form a 188).trans (knC (y := .int .i64 (k : Int)) hp ha 188 3 (by kernel_rfl) (by kernel_rfl) rfl)
        go_simp)
    · exact sc_val (y := .pointer (some ⟨b, o + k * 2, none⟩)) rfl rfl (fun l a V hp hu ha => by
        have x189 := (ev_form a 189).trans (knC (y := .pointer (some ⟨b, o + k * 2, none⟩)) hp ha 189 4 (by kernel_rfl) (by kernel_rfl) rfl)
        go_simp)
    · exact sc_val (y := .string nm) rfl rfl (fun l a V hp hu ha => by
        have x190 := (ev_form a 190).trans (knC (y := .pointer (some ⟨b, o + k * 2, none⟩)) hp ha 190 5 (by kernel_rfl) (by kernel_rfl) rfl)
        obtain ⟨q0, q1, q2⟩ := unhide HQB V hp.j.1
        go_simp)
    · refine sc_call (f := 19) (p := 0) 185 rfl rfl rfl (by kernel_rfl) (by kernel_rfl) hBW0 (fun l a V hp hu ha => ?_) (fun l a V hp hu => ?_) (fun l a V v hp ha hv ho => ?_)
      · have D0 := onB_spec (by kernel_rfl : onB _ 0 = true) ha
        have N7 := notDoneB hu
        have N14 : l.getD 14 false = false := by
          cases e : l.getD 14 false with
          | false => rfl
          | true => have h := onB_spec (by kernel_rfl : onB _ 7 = true) (hp.down 14 _ rfl e); rw [N7] at h; cases h
        have N15 : l.getD 15 false = false := by
          cases e : l.getD 15 false with
          | false => rfl
          | true => have h := onB_spec (by kernel_rfl : onB _ 14 = true) (hp.down 15 _ rfl e); rw [N14] at h; cases h
        refine ⟨.inl rfl, fun j j' zs hj hne hd => ?_⟩
        match j, hj, hne, hd with
        | 0, hj, hne, hd => exact absurd rfl hne
        | 1, hj, hne, hd => cases hj
        | 2, hj, hne, hd => cases hj
        | 3, hj, hne, hd => cases hj
        | 4, hj, hne, hd => cases hj
        | 5, hj, hne, hd => cases hj
        | 6, hj, hne, hd => cases hj
        | 7, hj, hne, hd => rw [N7] at hd; cases hd
        | 8, hj, hne, hd => cases hj
        | 9, hj, hne, hd => cases hj
        | 10, hj, hne, hd => cases hj
        | 11, hj, hne, hd => cases hj
        | 12, hj, hne, hd => cases hj
        | 13, hj, hne, hd => cases hj
        | 14, hj, hne, hd => rw [N14] at hd; cases hd
        | 15, hj, hne, hd => cases hj
        | _ + 16, hj, hne, hd => cases hj
      · intro j zs hj
        have N7 := notDoneB hu
        match j, hj with
        | 0, hj => cases hj
        | 1, hj => cases hj
        | 2, hj => cases hj
        | 3, hj => cases hj
        | 4, hj => cases hj
        | 5, hj => cases hj
        | 6, hj => cases hj
        | 7, hj => cases hj
        | 8, hj => cases hj
        | 9, hj => cases hj
        | 10, hj => cases hj
        | 11, hj => cases hj
        | 12, hj => cases hj
        | 13, hj => cases hj
        | 14, hj => cases hj
        | 15, hj =>
          cases e : l.getD 15 false with
          | false => rfl
          | true => have h := onB_spec (by kernel_rfl : onB _ 7 = true) (hp.down 15 _ rfl e); rw [N7] at h; cases h
        | _ + 16, hj => cases hj
      · have x185 := (ev_form a 185).trans hv
        have x191 := (ev_form a 191).trans (knC (y := .string nm) hp ha 191 6 (by kernel_rfl) (by kernel_rfl) rfl)
        exact ⟨#[v, .string nm], by go_simp, sPutText W1.heap.size nm pre v V (Nat.le_trans hBW0 hp.j.1.size) ho (by omega) (by omega)⟩
    · exact sc_val (y := .pointer (some ⟨w.heap.size, 5, none⟩)) rfl rfl (fun l a V hp hu ha => by
        have x1 := (ev_form a 1).trans (old hp 1 (v := .pointer (some ⟨w.heap.size, 0, none⟩)) (by kernel_rfl) (by kernel_rfl))
        go_simp)
    · exact sc_val (y := .slice (some ⟨b, o, none⟩) lp cp) rfl rfl (fun l a V hp hu ha => by
        have x193 := (ev_form a 193).trans (knC (y := .pointer (some ⟨w.heap.size, 5, none⟩)) hp ha 193 8 (by kernel_rfl) (by kernel_rfl) rfl)
        obtain ⟨q0, q1, q2⟩ := unhide HQB V hp.j.1
        go_simp)
    · exact sc_val (y := .int .i64 (k : Int)) rfl rfl (fun l a V hp hu ha => by
        have x14 := (ev_form a 14).trans (old hp 14 (v := .int .i64 (k : Int)) (by kernel_rfl) (by kernel_rfl))
        go_simp)
    · exact sc_val (y := .pointer (some ⟨b, o + k * 2, none⟩)) rfl rfl (fun l a V hp hu ha => by
        have x194 := (ev_form a 194).trans (knC (y := .slice (some ⟨b, o, none⟩) lp cp) hp ha 194 9 (by kernel_rfl) (by kernel_rfl) rfl)
        have x195 := (ev_form a 195).trans (knC (y := .int .i64 (k : Int)) hp ha 195 10 (by kernel_rfl) (by kernel_rfl) rfl)
        go_simp)
    · exact sc_val (y := .pointer (some ⟨b, o + k * 2 + 1, none⟩)) rfl rfl (fun l a V hp hu ha => by
        have x196 := (ev_form a 196).trans (knC (y := .pointer (some ⟨b, o + k * 2, none⟩)) hp ha 196 11 (by kernel_rfl) (by kernel_rfl) rfl)
        go_simp)
    · exact sc_val (y := .int .i64 (z : Int)) rfl rfl (fun l a V hp hu ha => by
        have x197 := (ev_form a 197).trans (knC (y := .pointer (some ⟨b, o + k * 2 + 1, none⟩)) hp ha 197 12 (by kernel_rfl) (by kernel_rfl) rfl)
        obtain ⟨q0, q1, q2⟩ := unhide HQB V hp.j.1
        go_simp)
    · refine sc_call (f := 18) (p := 7) 192 rfl rfl rfl (by kernel_rfl) (by kernel_rfl) hBW0 (fun l a V hp hu ha => ?_) (fun l a V hp hu => ?_) (fun l a V v hp ha hv ho => ?_)
      · have D7 := onB_spec (by kernel_rfl : onB _ 7 = true) ha
        have D0 := onB_spec (by kernel_rfl : onB _ 0 = true) (hp.down 7 _ rfl D7)
        have N14 := notDoneB hu
        have N15 : l.getD 15 false = false := by
          cases e : l.getD 15 false with
          | false => rfl
          | true => have h := onB_spec (by kernel_rfl : onB _ 14 = true) (hp.down 15 _ rfl e); rw [N14] at h; cases h
        refine ⟨.inr D7, fun j j' zs hj hne hd => ?_⟩
        match j, hj, hne, hd with
        | 0, hj, hne, hd => injection hj with hj _; subst hj; exact D7
        | 1, hj, hne, hd => cases hj
        | 2, hj, hne, hd => cases hj
        | 3, hj, hne, hd => cases hj
        | 4, hj, hne, hd => cases hj
        | 5, hj, hne, hd => cases hj
        | 6, hj, hne, hd => cases hj
        | 7, hj, hne, hd => exact absurd rfl hne
        | 8, hj, hne, hd => cases hj
        | 9, hj, hne, hd => cases hj
        | 10, hj, hne, hd => cases hj
        | 11, hj, hne, hd => cases hj
        | 12, hj, hne, hd => cases hj
        | 13, hj, hne, hd => cases hj
        | 14, hj, hne, hd => rw [N14] at hd; cases hd
        | 15, hj, hne, hd => cases hj
        | _ + 16, hj, hne, hd => cases hj
      · intro j zs hj
        have N14 := notDoneB hu
        match j, hj with
        | 0, hj => cases hj
        | 1, hj => cases hj
        | 2, hj => cases hj
        | 3, hj => cases hj
        | 4, hj => cases hj
        | 5, hj => cases hj
        | 6, hj => cases hj
        | 7, hj => cases hj
        | 8, hj => cases hj
        | 9, hj => cases hj
        | 10, hj => cases hj
        | 11, hj => cases hj
        | 12, hj => cases hj
        | 13, hj => cases hj
        | 14, hj => cases hj
        | 15, hj =>
          cases e : l.getD 15 false with
          | false => rfl
          | true => have h := onB_spec (by kernel_rfl : onB _ 14 = true) (hp.down 15 _ rfl e); rw [N14] at h; cases h
        | _ + 16, hj => cases hj
      · have x192 := (ev_form a 192).trans hv
        have x198 := (ev_form a 198).trans (knC (y := .int .i64 (z : Int)) hp ha 198 13 (by kernel_rfl) (by kernel_rfl) rfl)
        exact ⟨#[v, .int .i64 (z : Int)], by go_simp, sPut W1.heap.size z (pre ++ (encN nm.size ++ L nm)) v V (Nat.le_trans hBW0 hp.j.1.size) ho (by omega) (by simp only [List.length_append, L_len]; omega)⟩
    · refine sc_last (p := 14) 199 rfl rfl rfl (by kernel_rfl) (by kernel_rfl) (fun l a V hp hu ha hsh => ?_)
      obtain ⟨t1, t2, t3, ht⟩ := hsh
      have x199 := (ev_form a 199).trans ht
      rw [ht]
      go_simp
  case hf =>
    intro l a V hp hall
    have hv : OB W1.heap.size V (a.eval (.tmp 4)) (pre ++ (encN nm.size ++ L nm) ++ encN z) := hp.good 15 _ 4 rfl rfl (hall 15 (by decide))
    have hj := hp.j
    obtain ⟨us, rfl, hus⟩ := putAll_of [185, 186, 187, 188, 189, 190, 191, 192, 193, 194, 195, 196, 197, 198, 199, 4] hp.nt hp.df (fun t ht => hp.keep t (dstIn (by kernel_rfl) ht))
    rw [← hus 4] at hv
    clear hp hall hus
    simp only [putAll, List.foldl, Act.put, List.setIfInBounds_toArray, List.set_cons_zero, List.set_cons_succ]
    exact unhide HQ (us 185) (us 186) (us 187) (us 188) (us 189) (us 190) (us 191) (us 192) (us 193) (us 194) (us 195) (us 196) (us 197) (us 198) (us 199) (us 4) V hj.1 hj.2.1 hv
end Go.Proofs.Ytaamibonpmijaab
namespace Go.Proofs.Ytaamibonpmijaab
open Go Go.RowKit Gs
set_option linter.unusedVariables false
set_option linter.unusedSimpArgs false
set_option maxRecDepth 100000
def FM24 (w : World) (b o lp cp k za zb hi lo : Nat) : Nat → Value → Prop
  | 0, v => v = .pointer (some ⟨w.heap.size, 3, none⟩)
  | 1, v => v = .slice (some ⟨b, o, none⟩) lp cp
  | 2, v => v = .int .i64 (k : Int)
  | 3, v => v = .pointer (some ⟨b, o + k * 2, none⟩)
  | 4, v => v = .pointer (some ⟨b, o + k * 2, none⟩)
  | 5, v => v = .int .i64 (za : Int)
  | 6, v => v = .pointer (some ⟨w.heap.size, 3, none⟩)
  | 7, v => v = .slice (some ⟨b, o, none⟩) lp cp
  | 8, v => v = .int .i64 (k : Int)
  | 9, v => v = .pointer (some ⟨b, o + k * 2, none⟩)
  | 10, v => v = .pointer (some ⟨b, o + k * 2 + 1, none⟩)
  | 11, v => v = .int .i64 (zb : Int)
  | 12, v => v = .int .i64 (hi : Int)
  | 13, v => v = .int .i64 (hi : Int)
  | _, _ => True
set_option maxHeartbeats 16000000 in
theorem reg24 {Q : Exit → Act → World → Prop} (w : World) (s0 s1 s2 s3 s4 s5 : Option Addr) (l0 l1 l2 l3 l4 l5 c0 c1 c2 c3 c4 c5 b o lp cp k za zb hi lo : Nat) (vo : Value) (W : World) (hbl : ∀ V, Below W.heap.size W V → V.cell? ⟨w.heap.size, 3, none⟩ = some (.slice (some ⟨b, o, none⟩) lp cp) ∧ V.cell? ⟨b, o + k * 2, none⟩ = some (.int .i64 (za : Int)) ∧ V.cell? ⟨b, o + k * 2 + 1, none⟩ = some (.int .i64 (zb : Int))) (i1 : (0 : Int) ≤ (k : Int)) (i2 : (k : Int) < (lp : Int))
    (hcase : (((za : Int) < (zb : Int)) ∧ (¬ ((zb : Int) < (za : Int))) ∧ hi = zb ∧ lo = za) ∨ (za = zb ∧ hi = zb ∧ lo = zb) ∨ ((¬ ((za : Int) < (zb : Int))) ∧ ((zb : Int) < (za : Int)) ∧ hi = za ∧ lo = zb))
    {u2 u3 u5 u6 u7 u8 u10 u11 u12 u13 u14 u15 u16 u17 u18 u19 u20 u21 u22 u23 u24 u25 u26 u27 u28 u29 u30 u31 u32 u33 u34 u35 u36 u37 u38 u39 u40 u41 u42 u43 u44 u45 u46 u47 u48 u49 u50 u51 u52 u53 u54 u55 u56 u57 u58 u59 u60 u61 u62 u63 u64 u65 u66 u67 u68 u69 u70 u71 u72 u73 u74 u75 u76 u77 u78 u79 u80 u81 u82 u83 u84 u85 u86 u87 u88 u89 u90 u91 u92 u93 u94 u95 u96 u97 u98 u99 u100 u101 u102 u103 u104 u105 u106 u107 u108 u109 u110 u111 u112 u113 u114 u115 u116 u117 u118 u119 u120 u121 u122 u123 u124 u125 u126 u127 u128 u129 u130 u131 u132 u133 u134 u135 u136 u137 u138 u139 u140 u141 u142 u143 u144 u145 u146 u147 u148 u149 u150 u151 u152 u153 u154 u155 u156 u157 u158 u159 u160 u161 u162 u163 u164 u165 u166 u167 u168 u169 u170 u171 u172 u173 u174 u175 u176 u177 u178 u179 u180 u181 u182 u183 u184 u185 u186 u187 u188 u189 u190 u191 u192 u193 u194 u195 u196 u197 u198 u199 u200 u201 u202 u203 u204 : Value} (hQ : ∀ (p100 p101 p102 p103 p104 p105 p106 p107 p108 p109 p110 p111 p112 : Value) (V : World), Below W.heap.size W V → Q .normal { tmps := #[.agg #[.slice s0 l0 c0, .slice s1 l1 c1, .slice s2 l2 c2, .slice s3 l3 c3, .slice s4 l4 c4, .slice s5 l5 c5], .pointer (some ⟨w.heap.size, 0, none⟩), u2, u3, vo, u5, u6, u7, u8, .int .i64 (k : Int), .int .i64 (hi : Int), u11, u12, u13, u14, u15, u16, u17, u18, u19, u20, u21, u22, u23, u24, u25, u26, u27, u28, u29, u30, u31, u32, u33, u34, u35, u36, u37, u38, u39, u40, u41, u42, u43, u44, u45, u46, u47, u48, u49, u50, u51, u52, u53, u54, u55, u56, u57, u58, u59, u60, u61, u62, u63, u64, u65, u66, u67, u68, u69, u70, u71, u72, u73, u74, u75, u76, u77, u78, u79, u80, u81, u82, u83, u84, u85, u86, u87, u88, u89, u90, u91, u92, u93, u94, u95, u96, u97, u98, u99, p100, p101, p102, p103, p104, p105, p106, p107, p108, p109, p110, p111, p112, u113, u114, u115, u116, u117, u118, u119, u120, u121, u122, u123, u124, u125, u126, u127, u128, u129, u130, u131, u132, u133, u134, u135, u136, u137, u138, u139, u140, u141, u142, u143, u144, u145, u146, u147, u148, u149, u150, u151, u152, u153, u154, u155, u156, u157, u158, u159, u160, u161, u162, u163, u164, u165, u166, u167, u168, u169, u170, u171, u172, u173, u174, u175, u176, u177, u178, u179, u180, u181, u182, u183, u184, u185, u186, u187, u188, u189, u190, u191, u192, u193, u194, u195, u196, u197, u198, u199, u200, u201, u202, u203, u204], defers := [] } V) :
    Code.wp Try.prog (atR 24 (bodyOf Try.f5)) Q { tmps := #[.agg #[.slice s0 l0 c0, .slice s1 l1 c1, .slice s2 l2 c2, .slice s3 l3 c3, .slice s4 l4 c4, .slice s5 l5 c5], .pointer (some ⟨w.heap.size, 0, none⟩), u2, u3, vo, u5, u6, u7, u8, .int .i64 (k : Int), u10, u11, u12, u13, u14, u15, u16, u17, u18, u19, u20, u21, u22, u23, u24, u25, u26, u27, u28, u29, u30, u31, u32, u33, u34, u35, u36, u37, u38, u39, u40, u41, u42, u43, u44, u45, u46, u47, u48, u49, u50, u51, u52, u53, u54, u55, u56, u57, u58, u59, u60, u61, u62, u63, u64, u65, u66, u67, u68, u69, u70, u71, u72, u73, u74, u75, u76, u77, u78, u79, u80, u81, u82, u83, u84, u85, u86, u87, u88, u89, u90, u91, u92, u93, u94, u95, u96, u97, u98, u99, u100, u101, u102, u103, u104, u105, u106, u107, u108, u109, u110, u111, u112, u113, u114, u115, u116, u117, u118, u119, u120, u121, u122, u123, u124, u125, u126, u127, u128, u129, u130, u131, u132, u133, u134, u135, u136, u137, u138, u139, u140, u141, u142, u143, u144, u145, u146, u147, u148, u149, u150, u151, u152, u153, u154, u155, u156, u157, u158, u159, u160, u161, u162, u163, u164, u165, u166, u167, u168, u169, u170, u171, u172, u173, u174, u175, u176, u177, u178, u179, u180, u181, u182, u183, u184, u185, u186, u187, u188, u189, u190, u191, u192, u193, u194, u195, u196, u197, u198, u199, u200, u201, u202, u203, u204], defers := [] } W := by
  have HQ := hide hQ
  have HQB := hide hbl
  clear hQ hbl
  conv => arg 2; whnf
  refine wp_plan (GF (FM24 w b o lp cp k za zb hi lo)) (JB W) (by kernel_rfl) 205 (by kernel_rfl) (by kernel_rfl) ?hj ?hs ?hf
  case hj => exact bdr (brf W)
  case hs =>
    refine ⟨?_, ?_, ?_, ?_, ?_, ?_, ?_, ?_, ?_, ?_, ?_, ?_, ?_, ?_, trivial⟩
    · exact st_val rfl (fun l a V hp ha => ⟨.pointer (some ⟨w.heap.size, 3, none⟩), by
        have x1 := (ev_form a 1).trans (old hp 1 (v := .pointer (some ⟨w.heap.size, 0, none⟩)) (by kernel_rfl) (by kernel_rfl))
        go_simp, rfl⟩)
    · exact st_val rfl (fun l a V hp ha => ⟨.slice (some ⟨b, o, none⟩) lp cp, by
        have x100 := (ev_form a 100).trans (show a.eval (.tmp 100) = .pointer (some ⟨w.heap.size, 3, none⟩) from kn hp ha 100 0 (by kernel_rfl) (by kernel_rfl))
        obtain ⟨q0, q1, q2⟩ := unhide HQB V hp.j
        go_simp, rfl⟩)
    · exact st_val rfl (fun l a V hp ha => ⟨.int .i64 (k : Int), by
        have x9 := (ev_form a 9).trans (old hp 9 (v := .int .i64 (k : Int)) (by kernel_rfl) (by kernel_rfl))
        go_simp, rfl⟩)
    · exact st_val rfl (fun l a V hp ha => ⟨.pointer (some ⟨b, o + k * 2, none⟩), by
        have x101 := (ev_form a 101).trans (show a.eval (.tmp 101) = .slice (some ⟨b, o, none⟩) lp cp from kn hp ha 101 1 (by kernel_rfl) (by kernel_rfl))
        have x102 := (ev_form a 102).trans (show a.eval (.tmp 102) = .int .i64 (k : Int) from kn hp ha 102 2 (by kernel_rfl) (by kernel_rfl))
        go_simp, rfl⟩)
    · exact st_val rfl (fun l a V hp ha => ⟨.pointer (some ⟨b, o + k * 2, none⟩), by
        have x103 := (ev_form a 103).trans (show a.eval (.tmp 103) = .pointer (some ⟨b, o + k * 2, none⟩) from kn hp ha 103 3 (by kernel_rfl) (by kernel_rfl))
        go_simp, rfl⟩)
    · exact st_val rfl (fun l a V hp ha => ⟨.int .i64 (za : Int), by
        have x104 := (ev_form a 104).trans (show a.eval (.tmp 104) = .pointer (some ⟨b, o + k * 2, none⟩) from kn hp ha 104 4 (by kernel_rfl) (by kernel_rfl))
        obtain ⟨q0, q1, q2⟩ := unhide HQB V hp.j
        go_simp, rfl⟩)
    · exact st_val rfl (fun l a V hp ha => ⟨.pointer (some ⟨w.heap.size, 3, none⟩), by
        have x1 := (ev_form a 1).trans (old hp 1 (v := .pointer (some ⟨w.heap.size, 0, none⟩)) (by kernel_rfl) (by kernel_rfl))
        go_simp, rfl⟩)
    · exact st_val rfl (fun l a V hp ha => ⟨.slice (some ⟨b, o, none⟩) lp cp, by
        have x106 := (ev_form a 106).trans (show a.eval (.tmp 106) = .pointer (some ⟨w.heap.size, 3, none⟩) from kn hp ha 106 6 (by kernel_rfl) (by kernel_rfl))
        obtain ⟨q0, q1, q2⟩ := unhide HQB V hp.j
        go_simp, rfl⟩)
    · exact st_val rfl (fun l a V hp ha => ⟨.int .i64 (k : Int), by
        have x9 := (ev_form a 9).trans (old hp 9 (v := .int .i64 (k : Int)) (by kernel_rfl) (by kernel_rfl))
        go_simp, rfl⟩)
    · exact st_val rfl (fun l a V hp ha => ⟨.pointer (some ⟨b, o + k * 2, none⟩), by
        have x107 := (ev_form a 107).trans (show a.eval (.tmp 107) = .slice (some ⟨b, o, none⟩) lp cp from kn hp ha 107 7 (by kernel_rfl) (by kernel_rfl))
        have x108 := (ev_form a 108).trans (show a.eval (.tmp 108) = .int .i64 (k : Int) from kn hp ha 108 8 (by kernel_rfl) (by kernel_rfl))
        go_simp, rfl⟩)
    · exact st_val rfl (fun l a V hp ha => ⟨.pointer (some ⟨b, o + k * 2 + 1, none⟩), by
        have x109 := (ev_form a 109).trans (show a.eval (.tmp 109) = .pointer (some ⟨b, o + k * 2, none⟩) from kn hp ha 109 9 (by kernel_rfl) (by kernel_rfl))
        go_simp, rfl⟩)
    · exact st_val rfl (fun l a V hp ha => ⟨.int .i64 (zb : Int), by
        have x110 := (ev_form a 110).trans (show a.eval (.tmp 110) = .pointer (some ⟨b, o + k * 2 + 1, none⟩) from kn hp ha 110 10 (by kernel_rfl) (by kernel_rfl))
        obtain ⟨q0, q1, q2⟩ := unhide HQB V hp.j
        go_simp, rfl⟩)
    · exact st_val rfl (fun l a V hp ha => ⟨.int .i64 (hi : Int), by
          have x105 := (ev_form a 105).trans (show a.eval (.tmp 105) = .int .i64 (za : Int) from kn hp ha 105 5 (by kernel_rfl) (by kernel_rfl))
          have x111 := (ev_form a 111).trans (show a.eval (.tmp 111) = .int .i64 (zb : Int) from kn hp ha 111 11 (by kernel_rfl) (by kernel_rfl))
          rcases hcase with ⟨h1, h2, rfl, rfl⟩ | ⟨h1, rfl, rfl⟩ | ⟨h1, h2, rfl, rfl⟩
          · (go_simp) <;> (intro _; omega)
          · subst h1; go_simp
          · (go_simp) <;> (intro _; omega), rfl⟩)
    · exact st_val rfl (fun l a V hp ha => ⟨.int .i64 (hi : Int), by
        have x112 := (ev_form a 112).trans (show a.eval (.tmp 112) = .int .i64 (hi : Int) from kn hp ha 112 12 (by kernel_rfl) (by kernel_rfl))
        go_simp, rfl⟩)
  case hf =>
    intro l a V hp hall
    have hv := hp.good 13 _ 10 rfl rfl (hall 13 (by decide))
    have hj := hp.j
    obtain ⟨us, rfl, hus⟩ := putAll_of [100, 101, 102, 103, 104, 105, 106, 107, 108, 109, 110, 111, 112, 10] hp.nt hp.df (fun t ht => hp.keep t (dstIn (by kernel_rfl) ht))
    have hu : us 10 = .int .i64 (hi : Int) := (hus 10).trans hv
    clear hp hall hus hv
    simp only [putAll, List.foldl, Act.put, List.setIfInBounds_toArray, List.set_cons_zero, List.set_cons_succ, hu]
    exact unhide HQ (us 100) (us 101) (us 102) (us 103) (us 104) (us 105) (us 106) (us 107) (us 108) (us 109) (us 110) (us 111) (us 112) V hj
def FM25 (w : World) (b o lp cp k za zb hi lo : Nat) : Nat → Value → Prop
  | 0, v => v = .pointer (some ⟨w.heap.size, 3, none⟩)
  | 1, v => v = .slice (some ⟨b, o, none⟩) lp cp
  | 2, v => v = .int .i64 (k : Int)
  | 3, v => v = .pointer (some ⟨b, o + k * 2, none⟩)
  | 4, v => v = .pointer (some ⟨b, o + k * 2, none⟩)
  | 5, v => v = .int .i64 (za : Int)
  | 6, v => v = .pointer (some ⟨w.heap.size, 3, none⟩)
  | 7, v => v = .slice (some ⟨b, o, none⟩) lp cp
  | 8, v => v = .int .i64 (k : Int)
  | 9, v => v = .pointer (some ⟨b, o + k * 2, none⟩)
  | 10, v => v = .pointer (some ⟨b, o + k * 2 + 1, none⟩)
  | 11, v => v = .int .i64 (zb : Int)
  | 12, v => v = .int .i64 (lo : Int)
  | 13, v => v = .int .i64 (lo : Int)
  | _, _ => True
set_option maxHeartbeats 16000000 in
theorem reg25 {Q : Exit → Act → World → Prop} (w : World) (s0 s1 s2 s3 s4 s5 : Option Addr) (l0 l1 l2 l3 l4 l5 c0 c1 c2 c3 c4 c5 b o lp cp k za zb hi lo : Nat) (vo : Value) (W : World) (hbl : ∀ V, Below W.heap.size W V → V.cell? ⟨w.heap.size, 3, none⟩ = some (.slice (some ⟨b, o, none⟩) lp cp) ∧ V.cell? ⟨b, o + k * 2, none⟩ = some (.int .i64 (za : Int)) ∧ V.cell? ⟨b, o + k * 2 + 1, none⟩ = some (.int .i64 (zb : Int))) (i1 : (0 : Int) ≤ (k : Int)) (i2 : (k : Int) < (lp : Int))
    (hcase : (((za : Int) < (zb : Int)) ∧ (¬ ((zb : Int) < (za : Int))) ∧ hi = zb ∧ lo = za) ∨ (za = zb ∧ hi = zb ∧ lo = zb) ∨ ((¬ ((za : Int) < (zb : Int))) ∧ ((zb : Int) < (za : Int)) ∧ hi = za ∧ lo = zb))
    {u2 u3 u5 u6 u7 u8 u10 u11 u12 u13 u14 u15 u16 u17 u18 u19 u20 u21 u22 u23 u24 u25 u26 u27 u28 u29 u30 u31 u32 u33 u34 u35 u36 u37 u38 u39 u40 u41 u42 u43 u44 u45 u46 u47 u48 u49 u50 u51 u52 u53 u54 u55 u56 u57 u58 u59 u60 u61 u62 u63 u64 u65 u66 u67 u68 u69 u70 u71 u72 u73 u74 u75 u76 u77 u78 u79 u80 u81 u82 u83 u84 u85 u86 u87 u88 u89 u90 u91 u92 u93 u94 u95 u96 u97 u98 u99 u100 u101 u102 u103 u104 u105 u106 u107 u108 u109 u110 u111 u112 u113 u114 u115 u116 u117 u118 u119 u120 u121 u122 u123 u124 u125 u126 u127 u128 u129 u130 u131 u132 u133 u134 u135 u136 u137 u138 u139 u140 u141 u142 u143 u144 u145 u146 u147 u148 u149 u150 u151 u152 u153 u154 u155 u156 u157 u158 u159 u160 u161 u162 u163 u164 u165 u166 u167 u168 u169 u170 u171 u172 u173 u174 u175 u176 u177 u178 u179 u180 u181 u182 u183 u184 u185 u186 u187 u188 u189 u190 u191 u192 u193 u194 u195 u196 u197 u198 u199 u200 u201 u202 u203 u204 : Value} (hQ : ∀ (p113 p114 p115 p116 p117 p118 p119 p120 p121 p122 p123 p124 p125 : Value) (V : World), Below W.heap.size W V → Q .normal { tmps := #[.agg #[.slice s0 l0 c0, .slice s1 l1 c1, .slice s2 l2 c2, .slice s3 l3 c3, .slice s4 l4 c4, .slice s5 l5 c5], .pointer (some ⟨w.heap.size, 0, none⟩), u2, u3, vo, u5, u6, u7, u8, .int .i64 (k : Int), u10, .int .i64 (lo : Int), u12, u13, u14, u15, u16, u17, u18, u19, u20, u21, u22, u23, u24, u25, u26, u27, u28, u29, u30, u31, u32, u33, u34, u35, u36, u37, u38, u39, u40, u41, u42, u43, u44, u45, u46, u47, u48, u49, u50, u51, u52, u53, u54, u55, u56, u57, u58, u59, u60, u61, u62, u63, u64, u65, u66, u67, u68, u69, u70, u71, u72, u73, u74, u75, u76, u77, u78, u79, u80, u81, u82, u83, u84, u85, u86, u87, u88, u89, u90, u91, u92, u93, u94, u95, u96, u97, u98, u99, u100, u101, u102, u103, u104, u105, u106, u107, u108, u109, u110, u111, u112, p113, p114, p115, p116, p117, p118, p119, p120, p121, p122, p123, p124, p125, u126, u127, u128, u129, u130, u131, u132, u133, u134, u135, u136, u137, u138, u139, u140, u141, u142, u143, u144, u145, u146, u147, u148, u149, u150, u151, u152, u153, u154, u155, u156, u157, u158, u159, u160, u161, u162, u163, u164, u165, u166, u167, u168, u169, u170, u171, u172, u173, u174, u175, u176, u177, u178, u179, u180, u181, u182, u183, u184, u185, u186, u187, u188, u189, u190, u191, u192, u193, u194, u195, u196, u197, u198, u199, u200, u201, u202, u203, u204], defers := [] } V) :
    Code.wp Try.prog (atR 25 (bodyOf Try.f5)) Q { tmps := #[.agg #[.slice s0 l0 c0, .slice s1 l1 c1, .slice s2 l2 c2, .slice s3 l3 c3, .slice s4 l4 c4, .slice s5 l5 c5], .pointer (some ⟨w.heap.size, 0, none⟩), u2, u3, vo, u5, u6, u7, u8, .int .i64 (k : Int), u10, u11, u12, u13, u14, u15, u16, u17, u18, u19, u20, u21, u22, u23, u24, u25, u26, u27, u28, u29, u30, u31, u32, u33, u34, u35, u36, u37, u38, u39, u40, u41, u42, u43, u44, u45, u46, u47, u48, u49, u50, u51, u52, u53, u54, u55, u56, u57, u58, u59, u60, u61, u62, u63, u64, u65, u66, u67, u68, u69, u70, u71, u72, u73, u74, u75, u76, u77, u78, u79, u80, u81, u82, u83, u84, u85, u86, u87, u88, u89, u90, u91, u92, u93, u94, u95, u96, u97, u98, u99, u100, u101, u102, u103, u104, u105, u106, u107, u108, u109, u110, u111, u112, u113, u114, u115, u116, u117, u118, u119, u120, u121, u122, u123, u124, u125, u126, u127, u128, u129, u130, u131, u132, u133, u134, u135, u136, u137, u138, u139, u140, u141, u142, u143, u144, u145, u146, u147, u148, u149, u150, u151, u152, u153, u154, u155, u156, u157, u158, u159, u160, u161, u162, u163, u164, u165, u166, u167, u168, u169, u170, u171, u172, u173, u174, u175, u176, u177, u178, u179, u180, u181, u182, u183, u184, u185, u186, u187, u188, u189, u190, u191, u192, u193, u194, u195, u196, u197, u198, u199, u200, u201, u202, u203, u204], defers := [] } W := by
  have HQ := hide hQ
  have HQB := hide hbl
  clear hQ hbl
  conv => arg 2; whnf
  refine wp_plan (GF (FM25 w b o lp cp k za zb hi lo)) (JB W) (by kernel_rfl) 205 (by kernel_rfl) (by kernel_rfl) ?hj ?hs ?hf
  case hj => exact bdr (brf W)
  case hs =>
    refine ⟨?_, ?_, ?_, ?_, ?_, ?_, ?_, ?_, ?_, ?_, ?_, ?_, ?_, ?_, trivial⟩
    · exact st_val rfl (fun l a V hp ha => ⟨.pointer (some ⟨w.heap.size, 3, none⟩), by
        have x1 := (ev_form a 1).trans (old hp 1 (v := .pointer (some ⟨w.heap.size, 0, none⟩)) (by kernel_rfl) (by kernel_rfl))
        go_simp, rfl⟩)
    · exact st_val rfl (fun l a V hp ha => ⟨.slice (some ⟨b, o, none⟩) lp cp, by
        have x113 := (ev_form a 113).trans (show a.eval (.tmp 113) = .pointer (some ⟨w.heap.size, 3, none⟩) from kn hp ha 113 0 (by kernel_rfl) (by kernel_rfl))
        obtain ⟨q0, q1, q2⟩ := unhide HQB V hp.j
        go_simp, rfl⟩)
    · exact st_val rfl (fun l a V hp ha => ⟨.int .i64 (k : Int), by
        have x9 := (ev_form a 9).trans (old hp 9 (v := .int .i64 (k : Int)) (by kernel_rfl) (by kernel_rfl))
        go_simp, rfl⟩)
    · exact st_val rfl (fun l a V hp ha => ⟨.pointer (some ⟨b, o + k * 2, none⟩), by
        have x114 := (ev_form a 114).trans (show a.eval (.tmp 114) = .slice (some ⟨b, o, none⟩) lp cp from kn hp ha 114 1 (by kernel_rfl) (by kernel_rfl))
        have x115 := (ev_form a 115).trans (show a.eval (.tmp 115) = .int .i64 (k : Int) from kn hp ha 115 2 (by kernel_rfl) (by kernel_rfl))
        go_simp, rfl⟩)
    · exact st_val rfl (fun l a V hp ha => ⟨.pointer (some ⟨b, o + k * 2, none⟩), by
        have x116 := (ev_form a 116).trans (show a.eval (.tmp 116) = .pointer (some ⟨b, o + k * 2, none⟩) from kn hp ha 116 3 (by kernel_rfl) (by kernel_rfl))
        go_simp, rfl⟩)
    · exact st_val rfl (fun l a V hp ha => ⟨.int .i64 (za : Int), by
        have x117 := (ev_form a 117).trans (show a.eval (.tmp 117) = .pointer (some ⟨b, o + k * 2, none⟩) from kn hp ha 117 4 (by kernel_rfl) (by kernel_rfl))
        obtain ⟨q0, q1, q2⟩ := unhide HQB V hp.j
        go_simp, rfl⟩)
    · exact st_val rfl (fun l a V hp ha => ⟨.pointer (some ⟨w.heap.size, 3, none⟩), by
        have x1 := (ev_form a 1).trans (old hp 1 (v := .pointer (some ⟨w.heap.size, 0, none⟩)) (by kernel_rfl) (by kernel_rfl))
        go_simp, rfl⟩)
    · exact st_val rfl (fun l a V hp ha => ⟨.slice (some ⟨b, o, none⟩) lp cp, by
        have x119 := (ev_form a 119).trans (show a.eval (.tmp 119) = .pointer (some ⟨w.heap.size, 3, none⟩) from kn hp ha 119 6 (by kernel_rfl) (by kernel_rfl))
        obtain ⟨q0, q1, q2⟩ := unhide HQB V hp.j
        go_simp, rfl⟩)
    · exact st_val rfl (fun l a V hp ha => ⟨.int .i64 (k : Int), by
        have x9 := (ev_form a 9).trans (old hp 9 (v := .int .i64 (k : Int)) (by kernel_rfl) (by kernel_rfl))
        go_simp, rfl⟩)
    · exact st_val rfl (fun l a V hp ha => ⟨.pointer (some ⟨b, o + k * 2, none⟩), by
        have x120 := (ev_form a 120).trans (show a.eval (.tmp 120) = .slice (some ⟨b, o, none⟩) lp cp from kn hp ha 120 7 (by kernel_rfl) (by kernel_rfl))
        have x121 := (ev_form a 121).trans (show a.eval (.tmp 121) = .int .i64 (k : Int) from kn hp ha 121 8 (by kernel_rfl) (by kernel_rfl))
        go_simp, rfl⟩)
    · exact st_val rfl (fun l a V hp ha => ⟨.pointer (some ⟨b, o + k * 2 + 1, none⟩), by
        have x122 := (ev_form a 122).trans (show a.eval (.tmp 122) = .pointer (some ⟨b, o + k * 2, none⟩) from kn hp ha 122 9 (by kernel_rfl) (by kernel_rfl))
        go_simp, rfl⟩)
    · exact st_val rfl (fun l a V hp ha => ⟨.int .i64 (zb : Int), by
        have x123 := (ev_form a 123).trans (show a.eval (.tmp 123) = .pointer (some ⟨b, o + k * 2 + 1, none⟩) from kn hp ha 123 10 (by kernel_rfl) (by kernel_rfl))
        obtain ⟨q0, q1, q2⟩ := unhide HQB V hp.j
        go_simp, rfl⟩)
    · exact st_val rfl (fun l a V hp ha => ⟨.int .i64 (lo : Int), by
          have x118 := (ev_form a 118).trans (show a.eval (.tmp 118) = .int .i64 (za : Int) from kn hp ha 118 5 (by kernel_rfl) (by kernel_rfl))
          have x124 := (ev_form a 124).trans (show a.eval (.tmp 124) = .int .i64 (zb : Int) from kn hp ha 124 11 (by kernel_rfl) (by kernel_rfl))
          rcases hcase with ⟨h1, h2, rfl, rfl⟩ | ⟨h1, rfl, rfl⟩ | ⟨h1, h2, rfl, rfl⟩
          · (go_simp) <;> (intro _; omega)
          · subst h1; go_simp
          · (go_simp) <;> (intro _; omega), rfl⟩)
    · exact st_val rfl (fun l a V hp ha => ⟨.int .i64 (lo : Int), by
        have x125 := (ev_form a 125).trans (show a.eval (.tmp 125) = .int .i64 (lo : Int) from kn hp ha 125 12 (by kernel_rfl) (by kernel_rfl))
        go_simp, rfl⟩)
  case hf =>
    intro l a V hp hall
    have hv := hp.good 13 _ 11 rfl rfl (hall 13 (by decide))
    have hj := hp.j
    obtain ⟨us, rfl, hus⟩ := putAll_of [113, 114, 115, 116, 117, 118, 119, 120, 121, 122, 123, 124, 125, 11] hp.nt hp.df (fun t ht => hp.keep t (dstIn (by kernel_rfl) ht))
    have hu : us 11 = .int .i64 (lo : Int) := (hus 11).trans hv
    clear hp hall hus hv
    simp only [putAll, List.foldl, Act.put, List.setIfInBounds_toArray, List.set_cons_zero, List.set_cons_succ, hu]
    exact unhide HQ (us 113) (us 114) (us 115) (us 116) (us 117) (us 118) (us 119) (us 120) (us 121) (us 122) (us 123) (us 124) (us 125) V hj
end Go.Proofs.Ytaamibonpmijaab
