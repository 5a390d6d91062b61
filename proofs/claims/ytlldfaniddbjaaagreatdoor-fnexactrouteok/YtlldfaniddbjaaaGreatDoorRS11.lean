/- The specification's RouteOK: one wire of a net. -/
import Derived.Test.YtlldfaniddbjaaaGreatDoorRS11a
namespace Go.Proofs.YtlldfaniddbjaaaGreatDoor
open Go Go.RowKit Gs
set_option linter.unusedVariables false
set_option linter.unusedSimpArgs false
set_option maxRecDepth 100000
set_option maxHeartbeats 16000000
theorem roHop {u0 u1 u2 u4 u6 u7 u8 u13 u14 u15 u16 u17 u18 u19 u20 u21 u22 u23 u24 u25 u26 u27 u28 u29 u30 u31 u32 u33 u34 u35 u36 u37 u38 u39 u40 u41 u42 u43 u44 u45 u46 u47 u48 u49 u50 u51 u52 u53 u54 u55 u56 u57 u58 u59 u60 u61 u62 u63 u64 u65 u66 u67 u68 u69 u70 u71 u72 u73 u74 u75 u76 u77 u78 u79 u80 u81 u82 u83 u84 u85 u86 u87 u88 u89 u90 u91 u92 u93 u94 u95 u96 u97 u98 u99 u100 u101 u102 u103 u104 u105 u106 u107 u108 u109 u110 u111 u112 u113 u114 u115 u116 u117 u118 u119 u120 u121 u122 u123 u124 u125 u126 u127 u128 u129 u130 u131 u132 u133 u134 u135 u136 u137 u138 u139 u140 u141 u142 u143 u144 u145 u146 u147 u148 u149 u150 u151 u152 u153 u154 u155 u156 u157 u158 u159 u160 u161 : Value} {W H T P nb no nn cn cb ub N s k og hb ho n hc : Nat} {o1 o2 x y d t f : Int} {seen net : List Hop} {W0 : World} {Q : Exit → Act → World → Prop} (hW : W ≤ 8) (hH : H ≤ 8) (hT : T ≤ 8) (hN : N = H * (W + 1) * 4 * T) (hN2 : N ≤ 2304) (hs : s < nn) (hnn : nn ≤ 1048576) (hk : k < n) (hn : n ≤ 1048576) (hub : ub < W0.heap.size)
    (hx : net[k]? = some ⟨x, y, d, t, f⟩) (HTH : Hid (∀ y ∈ seen ++ net.take k, thH W H T y = true)) (HBR : Hid (BR W T W0 ub N (seen ++ net.take k)))
    (HCC : Hid (∀ V, Fx ub W0 V → V.cell? ⟨cb, 0, none⟩ = some (.int .i64 (W : Int)) ∧ V.cell? ⟨cb, 1, none⟩ = some (.int .i64 (H : Int)) ∧ V.cell? ⟨cb, 2, none⟩ = some (.int .i64 (T : Int)) ∧ V.cell? ⟨cb, 3, none⟩ = some (.int .i64 (P : Int)))) (HOW : Hid (∀ V, Fx ub W0 V → V.cell? ⟨og, 0, none⟩ = some (.int .i64 o1) ∧ V.cell? ⟨og, 1, none⟩ = some (.int .i64 o2)))
    (HNET : Hid (∀ V, Fx ub W0 V → V.cell? ⟨nb, no + s, none⟩ = some (.slice (some ⟨hb, ho, none⟩) n hc)))
    (HHOP : Hid (∀ V, Fx ub W0 V → ∀ (i : Nat) (h : Hop), net[i]? = some h → V.cell? ⟨hb, ho + i * 5, none⟩ = some (.int .i64 h.x) ∧ V.cell? ⟨hb, ho + i * 5 + 1, none⟩ = some (.int .i64 h.y) ∧ V.cell? ⟨hb, ho + i * 5 + 2, none⟩ = some (.int .i64 h.d) ∧ V.cell? ⟨hb, ho + i * 5 + 3, none⟩ = some (.int .i64 h.t) ∧ V.cell? ⟨hb, ho + i * 5 + 4, none⟩ = some (.int .i64 h.f)))
    (hbad : hopB W H T (o1, o2) seen net k = false → ∀ (z13 z14 z15 z16 z59 z60 z61 z62 z63 z64 z65 z66 z67 z68 z69 z70 z71 z72 z73 z74 z75 z76 z77 z78 z79 z80 z81 z82 z83 z84 z85 z86 z87 z88 z89 z90 z91 z92 z93 z94 z95 z96 z97 z98 z99 z100 z101 z102 z103 z104 z105 z106 z107 z108 z109 z110 z111 z112 z113 z114 z115 z116 z117 z118 z119 z120 z121 z122 z123 z124 z125 z126 z127 z128 z129 z130 z131 z132 z133 z134 z135 z136 z137 z138 z139 z140 : Value) V, Fx ub W0 V → Q .ret { tmps := (u0 :: u1 :: u2 :: .slice (some ⟨nb, no, none⟩) nn cn :: u4 :: .pointer (some ⟨cb, 0, none⟩) :: u6 :: u7 :: .bool false :: .slice (some ⟨ub, 0, none⟩) N N :: .int .i64 (s : Int) :: .pointer (some ⟨og, 0, none⟩) :: .int .i64 (k : Int) :: z13 :: z14 :: z15 :: z16 :: u17 :: u18 :: u19 :: u20 :: u21 :: u22 :: u23 :: u24 :: u25 :: u26 :: u27 :: u28 :: u29 :: u30 :: u31 :: u32 :: u33 :: u34 :: u35 :: u36 :: u37 :: u38 :: u39 :: u40 :: u41 :: u42 :: u43 :: u44 :: u45 :: u46 :: u47 :: u48 :: u49 :: u50 :: u51 :: u52 :: u53 :: u54 :: u55 :: u56 :: u57 :: u58 :: z59 :: z60 :: z61 :: z62 :: z63 :: z64 :: z65 :: z66 :: z67 :: z68 :: z69 :: z70 :: z71 :: z72 :: z73 :: z74 :: z75 :: z76 :: z77 :: z78 :: z79 :: z80 :: z81 :: z82 :: z83 :: z84 :: z85 :: z86 :: z87 :: z88 :: z89 :: z90 :: z91 :: z92 :: z93 :: z94 :: z95 :: z96 :: z97 :: z98 :: z99 :: z100 :: z101 :: z102 :: z103 :: z104 :: z105 :: z106 :: z107 :: z108 :: z109 :: z110 :: z111 :: z112 :: z113 :: z114 :: z115 :: z116 :: z117 :: z118 :: z119 :: z120 :: z121 :: z122 :: z123 :: z124 :: z125 :: z126 :: z127 :: z128 :: z129 :: z130 :: z131 :: z132 :: z133 :: z134 :: z135 :: z136 :: z137 :: z138 :: z139 :: z140 :: u141 :: u142 :: u143 :: u144 :: u145 :: u146 :: u147 :: u148 :: u149 :: u150 :: u151 :: u152 :: u153 :: u154 :: u155 :: u156 :: u157 :: u158 :: u159 :: u160 :: u161 :: []).toArray, defers := [] } V)
    (hok : hopB W H T (o1, o2) seen net k = true → ∀ (z13 z14 z15 z16 z59 z60 z61 z62 z63 z64 z65 z66 z67 z68 z69 z70 z71 z72 z73 z74 z75 z76 z77 z78 z79 z80 z81 z82 z83 z84 z85 z86 z87 z88 z89 z90 z91 z92 z93 z94 z95 z96 z97 z98 z99 z100 z101 z102 z103 z104 z105 z106 z107 z108 z109 z110 z111 z112 z113 z114 z115 z116 z117 z118 z119 z120 z121 z122 z123 z124 z125 z126 z127 z128 z129 z130 z131 z132 z133 z134 z135 z136 z137 z138 z139 z140 : Value) V, Fx ub W0 V → BR W T V ub N (seen ++ net.take (k + 1)) → Q .normal { tmps := (u0 :: u1 :: u2 :: .slice (some ⟨nb, no, none⟩) nn cn :: u4 :: .pointer (some ⟨cb, 0, none⟩) :: u6 :: u7 :: u8 :: .slice (some ⟨ub, 0, none⟩) N N :: .int .i64 (s : Int) :: .pointer (some ⟨og, 0, none⟩) :: .int .i64 (k : Int) :: z13 :: z14 :: z15 :: z16 :: u17 :: u18 :: u19 :: u20 :: u21 :: u22 :: u23 :: u24 :: u25 :: u26 :: u27 :: u28 :: u29 :: u30 :: u31 :: u32 :: u33 :: u34 :: u35 :: u36 :: u37 :: u38 :: u39 :: u40 :: u41 :: u42 :: u43 :: u44 :: u45 :: u46 :: u47 :: u48 :: u49 :: u50 :: u51 :: u52 :: u53 :: u54 :: u55 :: u56 :: u57 :: u58 :: z59 :: z60 :: z61 :: z62 :: z63 :: z64 :: z65 :: z66 :: z67 :: z68 :: z69 :: z70 :: z71 :: z72 :: z73 :: z74 :: z75 :: z76 :: z77 :: z78 :: z79 :: z80 :: z81 :: z82 :: z83 :: z84 :: z85 :: z86 :: z87 :: z88 :: z89 :: z90 :: z91 :: z92 :: z93 :: z94 :: z95 :: z96 :: z97 :: z98 :: z99 :: z100 :: z101 :: z102 :: z103 :: z104 :: z105 :: z106 :: z107 :: z108 :: z109 :: z110 :: z111 :: z112 :: z113 :: z114 :: z115 :: z116 :: z117 :: z118 :: z119 :: z120 :: z121 :: z122 :: z123 :: z124 :: z125 :: z126 :: z127 :: z128 :: z129 :: z130 :: z131 :: z132 :: z133 :: z134 :: z135 :: z136 :: z137 :: z138 :: z139 :: z140 :: u141 :: u142 :: u143 :: u144 :: u145 :: u146 :: u147 :: u148 :: u149 :: u150 :: u151 :: u152 :: u153 :: u154 :: u155 :: u156 :: u157 :: u158 :: u159 :: u160 :: u161 :: []).toArray, defers := [] } V)
    (hok3 : hopB W H T (o1, o2) seen net k = true → ∀ (z13 z14 z15 z16 z59 z60 z61 z62 z63 z64 z65 z66 z67 z68 z69 z70 z71 z72 z73 z74 z75 z76 z77 z78 z79 z80 z81 z82 z83 z84 z85 z86 z87 z88 z89 z90 z91 z92 z93 z94 z95 z96 z97 z98 z99 z100 z101 z102 z103 z104 z105 z106 z107 z108 z109 z110 z111 z112 z113 z114 z115 z116 z117 z118 z119 z120 z121 z122 z123 z124 z125 z126 z127 z128 z129 z130 z131 z132 z133 z134 z135 z136 z137 z138 z139 z140 : Value) V, Fx ub W0 V → BR W T V ub N (seen ++ net.take (k + 1)) → Q (.exit 3) { tmps := (u0 :: u1 :: u2 :: .slice (some ⟨nb, no, none⟩) nn cn :: u4 :: .pointer (some ⟨cb, 0, none⟩) :: u6 :: u7 :: u8 :: .slice (some ⟨ub, 0, none⟩) N N :: .int .i64 (s : Int) :: .pointer (some ⟨og, 0, none⟩) :: .int .i64 (k : Int) :: z13 :: z14 :: z15 :: z16 :: u17 :: u18 :: u19 :: u20 :: u21 :: u22 :: u23 :: u24 :: u25 :: u26 :: u27 :: u28 :: u29 :: u30 :: u31 :: u32 :: u33 :: u34 :: u35 :: u36 :: u37 :: u38 :: u39 :: u40 :: u41 :: u42 :: u43 :: u44 :: u45 :: u46 :: u47 :: u48 :: u49 :: u50 :: u51 :: u52 :: u53 :: u54 :: u55 :: u56 :: u57 :: u58 :: z59 :: z60 :: z61 :: z62 :: z63 :: z64 :: z65 :: z66 :: z67 :: z68 :: z69 :: z70 :: z71 :: z72 :: z73 :: z74 :: z75 :: z76 :: z77 :: z78 :: z79 :: z80 :: z81 :: z82 :: z83 :: z84 :: z85 :: z86 :: z87 :: z88 :: z89 :: z90 :: z91 :: z92 :: z93 :: z94 :: z95 :: z96 :: z97 :: z98 :: z99 :: z100 :: z101 :: z102 :: z103 :: z104 :: z105 :: z106 :: z107 :: z108 :: z109 :: z110 :: z111 :: z112 :: z113 :: z114 :: z115 :: z116 :: z117 :: z118 :: z119 :: z120 :: z121 :: z122 :: z123 :: z124 :: z125 :: z126 :: z127 :: z128 :: z129 :: z130 :: z131 :: z132 :: z133 :: z134 :: z135 :: z136 :: z137 :: z138 :: z139 :: z140 :: u141 :: u142 :: u143 :: u144 :: u145 :: u146 :: u147 :: u148 :: u149 :: u150 :: u151 :: u152 :: u153 :: u154 :: u155 :: u156 :: u157 :: u158 :: u159 :: u160 :: u161 :: []).toArray, defers := [] } V) :
    Code.wp Tryz.prog (atB 3 (bodyOf Tryz.f6)) Q { tmps := (u0 :: u1 :: u2 :: .slice (some ⟨nb, no, none⟩) nn cn :: u4 :: .pointer (some ⟨cb, 0, none⟩) :: u6 :: u7 :: u8 :: .slice (some ⟨ub, 0, none⟩) N N :: .int .i64 (s : Int) :: .pointer (some ⟨og, 0, none⟩) :: .int .i64 (k : Int) :: u13 :: u14 :: u15 :: u16 :: u17 :: u18 :: u19 :: u20 :: u21 :: u22 :: u23 :: u24 :: u25 :: u26 :: u27 :: u28 :: u29 :: u30 :: u31 :: u32 :: u33 :: u34 :: u35 :: u36 :: u37 :: u38 :: u39 :: u40 :: u41 :: u42 :: u43 :: u44 :: u45 :: u46 :: u47 :: u48 :: u49 :: u50 :: u51 :: u52 :: u53 :: u54 :: u55 :: u56 :: u57 :: u58 :: u59 :: u60 :: u61 :: u62 :: u63 :: u64 :: u65 :: u66 :: u67 :: u68 :: u69 :: u70 :: u71 :: u72 :: u73 :: u74 :: u75 :: u76 :: u77 :: u78 :: u79 :: u80 :: u81 :: u82 :: u83 :: u84 :: u85 :: u86 :: u87 :: u88 :: u89 :: u90 :: u91 :: u92 :: u93 :: u94 :: u95 :: u96 :: u97 :: u98 :: u99 :: u100 :: u101 :: u102 :: u103 :: u104 :: u105 :: u106 :: u107 :: u108 :: u109 :: u110 :: u111 :: u112 :: u113 :: u114 :: u115 :: u116 :: u117 :: u118 :: u119 :: u120 :: u121 :: u122 :: u123 :: u124 :: u125 :: u126 :: u127 :: u128 :: u129 :: u130 :: u131 :: u132 :: u133 :: u134 :: u135 :: u136 :: u137 :: u138 :: u139 :: u140 :: u141 :: u142 :: u143 :: u144 :: u145 :: u146 :: u147 :: u148 :: u149 :: u150 :: u151 :: u152 :: u153 :: u154 :: u155 :: u156 :: u157 :: u158 :: u159 :: u160 :: u161 :: []).toArray, defers := [] } W0 := by
  have HBAD := hide hbad
  have HOK := hide hok
  have HOK3 := hide hok3
  have HXK := hide hx
  have HNE := hide hN
  have hrv := hopB_at (W := W) (H := H) (T := T) (own := (o1, o2)) (seen := seen) hx
  obtain ⟨us, hus⟩ : ∃ us, seenB (seen ++ net.take k) ⟨x, y, d, t, f⟩ = us := ⟨_, rfl⟩
  rw [hus] at hrv
  have HUS := hide hus
  have HRV := hide hrv
  have HTK : Hid (net.take (k + 1) = net.take k ++ [⟨x, y, d, t, f⟩]) := hide (by rw [List.take_add_one, hx]; rfl)
  have n0 := unhide HNET W0 (Fx.refl _ _)
  obtain ⟨k0, k1, k2, k3, k4⟩ := unhide HHOP W0 (Fx.refl _ _) k _ hx
  have i1 : (0 : Int) ≤ (s : Int) := by omega
  have i2 : (s : Int) < (nn : Int) := by omega
  have i3 : (0 : Int) ≤ (k : Int) := by omega
  have i4 : (k : Int) < (n : Int) := by omega
  obtain ⟨th, hth⟩ : ∃ th, thereB W H T x y d t = th := ⟨_, rfl⟩
  have HTT := hide hth
  have HST := hide (fun V => sThere W H T P x y d t V hW hH hT)
  rw [hth] at HST
  have HHUB := hide hub
  clear hbad hok hok3 hus hrv hth hx hN
  conv => arg 2; whnf
  go_wp2_with fail
  clear n0 k0 k1 k2 k3 k4 i1 i2 i3 i4
  refine (sHop x y d t f _).mono ?_
  rintro e V2 ⟨rfl, hb2⟩
  have HF2 := hide ((Fx.of (g := ub) (bal (brf W0) (.cells #[.int .i64 x, .int .i64 y, .int .i64 d, .int .i64 t, .int .i64 f] 61))).trans (Fx.of hb2))
  have HBW2 := hide (btr (bal (brf W0) (.cells #[.int .i64 x, .int .i64 y, .int .i64 d, .int .i64 t, .int .i64 f] 61)) hb2)
  have HA : Hid (∀ V, Fx ub V2 V → V.cell? ⟨W0.heap.size, 0, none⟩ = some (.int .i64 x) ∧ V.cell? ⟨W0.heap.size, 1, none⟩ = some (.int .i64 y) ∧ V.cell? ⟨W0.heap.size, 2, none⟩ = some (.int .i64 d) ∧ V.cell? ⟨W0.heap.size, 3, none⟩ = some (.int .i64 t) ∧ V.cell? ⟨W0.heap.size, 4, none⟩ = some (.int .i64 f)) := hide (fun V hV => by
    have K := fun (i : Nat) z hz => hV.cell (new_cell (i := i) (x := z) hb2 hz).1 (by have := unhide HHUB; omega)
    exact ⟨K 0 _ rfl, K 1 _ rfl, K 2 _ rfl, K 3 _ rfl, K 4 _ rfl⟩)
  have hsz2 : ub < V2.heap.size := by have := hb2.size; simp at this; omega
  have HS2 := hide hsz2
  clear hb2
  obtain ⟨q0, q1, q2, q3⟩ := unhide HCC (V2.alloc (.cells #[.int .i64 x, .int .i64 y, .int .i64 d, .int .i64 t] 63)) ((unhide HF2).trans (Fx.of (bal (brf _) _)))
  go_wp2_with fail
  refine (unhide HST _).mono ?_
  rintro e V4 ⟨rfl, hb4⟩
  have HF24 := hide ((Fx.of (g := ub) (bal (brf V2) (.cells #[.int .i64 x, .int .i64 y, .int .i64 d, .int .i64 t] 63))).trans (Fx.of hb4))
  have HF4 := hide ((unhide HF2).trans (unhide HF24))
  have HB4 := hide (btr (bal (brf V2) (.cells #[.int .i64 x, .int .i64 y, .int .i64 d, .int .i64 t] 63)) hb4)
  have HWC : Hid (∀ V, Fx ub V4 V → V.cell? ⟨V2.heap.size, 0, none⟩ = some (.int .i64 x) ∧ V.cell? ⟨V2.heap.size, 1, none⟩ = some (.int .i64 y) ∧ V.cell? ⟨V2.heap.size, 2, none⟩ = some (.int .i64 d) ∧ V.cell? ⟨V2.heap.size, 3, none⟩ = some (.int .i64 t)) := hide (fun V hV => by
    have K := fun (i : Nat) z hz => hV.cell (new_cell (i := i) (x := z) hb4 hz).1 (by have := unhide HS2; omega)
    exact ⟨K 0 _ rfl, K 1 _ rfl, K 2 _ rfl, K 3 _ rfl⟩)
  clear hb4 q0 q1 q2 q3 HST
  obtain ⟨a0, a1, a2, a3, a4⟩ := unhide HA V4 (unhide HF24)
  cases th
  · have HRB : Hid (hopB W H T (o1, o2) seen net k = false) := hide (by rw [unhide HRV]; unfold thH; rw [unhide HTT]; rfl)
    go_wp2_with fail
    exact unhide HBAD (unhide HRB) _ _ _ _ _ _ _ _ _ _ _ _ _ _ _ _ _ _ _ _ _ _ _ _ _ _ _ _ _ _ _ _ _ _ _ _ _ _ _ _ _ _ _ _ _ _ _ _ _ _ _ _ _ _ _ _ _ _ _ _ _ _ _ _ _ _ _ _ _ _ _ _ _ _ _ _ _ _ _ _ _ _ _ _ _ _ V4 (unhide HF4)
  by_cases hf1 : f < -1
  · have HRB : Hid (hopB W H T (o1, o2) seen net k = false) := hide (by rw [unhide HRV]; rw [decide_eq_false (p := -1 ≤ f) (by omega)]; simp)
    go_wp2_with fail
    exact unhide HBAD (unhide HRB) _ _ _ _ _ _ _ _ _ _ _ _ _ _ _ _ _ _ _ _ _ _ _ _ _ _ _ _ _ _ _ _ _ _ _ _ _ _ _ _ _ _ _ _ _ _ _ _ _ _ _ _ _ _ _ _ _ _ _ _ _ _ _ _ _ _ _ _ _ _ _ _ _ _ _ _ _ _ _ _ _ _ _ _ _ _ V4 (unhide HF4)
  by_cases hf2 : (k : Int) ≤ f
  · have HRB : Hid (hopB W H T (o1, o2) seen net k = false) := hide (by rw [unhide HRV]; rw [decide_eq_false (p := f < (k : Int)) (by omega)]; simp)
    go_wp2_with fail
    exact unhide HBAD (unhide HRB) _ _ _ _ _ _ _ _ _ _ _ _ _ _ _ _ _ _ _ _ _ _ _ _ _ _ _ _ _ _ _ _ _ _ _ _ _ _ _ _ _ _ _ _ _ _ _ _ _ _ _ _ _ _ _ _ _ _ _ _ _ _ _ _ _ _ _ _ _ _ _ _ _ _ _ _ _ _ _ _ _ _ _ _ _ _ V4 (unhide HF4)
  have hm0 := numW_lt (unhide HTT)
  obtain ⟨m, hm⟩ : ∃ m : Nat, numW W T x y d t = (m : Int) := ⟨(numW W T x y d t).toNat, by omega⟩
  have HM := hide hm
  have hmN : m < N := by rw [hm] at hm0; have := unhide HNE; omega
  have HNM := hide (fun V => sNumber W H T P x y d t V (unhide HTT) hW hH hT)
  rw [hm] at HNM
  obtain ⟨b0, b1, b2, b3⟩ := unhide HWC V4 (Fx.refl _ _)
  obtain ⟨q0, q1, q2, q3⟩ := unhide HCC V4 (unhide HF4)
  clear hm0 hm
  go_wp2_with fail
  refine (unhide HNM _).mono ?_
  rintro e V5 ⟨rfl, hb5⟩
  have HF45 := hide (Fx.of (g := ub) hb5)
  have HF5 := hide ((unhide HF4).trans (unhide HF45))
  have HB5 := hide (btr (unhide HB4) hb5)
  have HU : Hid (∀ V, Below W0.heap.size W0 V → V.cell? ⟨ub, m, none⟩ = some (.bool us) ∧ V.frozen? ⟨ub, m, none⟩ = false) := hide (fun V hV => by
    have h := (unhide HBR).later hV m hmN
    rw [← unhide HM] at h
    have e := uB_seen (h := ⟨x, y, d, t, f⟩) (unhide HTH) (unhide HTT)
    rw [unhide HUS] at e
    have e2 : uB W T (seen ++ net.take k) (numW W T x y d t) = us := e
    rw [e2] at h
    exact h)
  have HBW5 := hide (btr (unhide HBW2) (unhide HB5))
  clear hb5 a0 a1 a2 a3 a4 b0 b1 b2 b3 q0 q1 q2 q3
  obtain ⟨u0, uf⟩ := unhide HU V5 (unhide HBW5)
  have m1 : (0 : Int) ≤ (m : Int) := by omega
  have m2 : (m : Int) < (N : Int) := by omega
  cases us
  case true =>
    have HRB : Hid (hopB W H T (o1, o2) seen net k = false) := hide (by rw [unhide HRV]; simp)
    go_wp2_with fail
    exact unhide HBAD (unhide HRB) _ _ _ _ _ _ _ _ _ _ _ _ _ _ _ _ _ _ _ _ _ _ _ _ _ _ _ _ _ _ _ _ _ _ _ _ _ _ _ _ _ _ _ _ _ _ _ _ _ _ _ _ _ _ _ _ _ _ _ _ _ _ _ _ _ _ _ _ _ _ _ _ _ _ _ _ _ _ _ _ _ _ _ _ _ _ V5 (unhide HF5)
  obtain ⟨a0, a1, a2, a3, a4⟩ := unhide HA V5 ((unhide HF24).trans (unhide HF45))
  obtain ⟨b0, b1, b2, b3⟩ := unhide HWC V5 (unhide HF45)
  obtain ⟨q0, q1, q2, q3⟩ := unhide HCC V5 (unhide HF5)
  go_wp2_with fail
  refine (unhide HNM _).mono ?_
  rintro e V6 ⟨rfl, hb6⟩
  have HBW6 := hide (btr (unhide HBW5) hb6)
  have HF26 := hide (((unhide HF24).trans (unhide HF45)).trans (Fx.of (g := ub) hb6))
  have HF46 := hide ((unhide HF45).trans (Fx.of (g := ub) hb6))
  clear hb6 a0 a1 a2 a3 a4 b0 b1 b2 b3 q0 q1 q2 q3 u0 uf
  obtain ⟨u0, uf⟩ := unhide HU V6 (unhide HBW6)
  obtain ⟨V7, hV7⟩ : ∃ V, V = V6.setCell ⟨ub, m, none⟩ (.bool true) := ⟨_, rfl⟩
  have HV7 := hide hV7
  have HS67 := hide (show Fx ub V6 V7 by rw [hV7]; exact Fx.set _ _ _ _)
  have HBR7 : Hid (BR W T V7 ub N (seen ++ net.take (k + 1))) := hide (by
    rw [hV7, unhide HTK, ← List.append_assoc]
    exact ((unhide HBR).later (unhide HBW6)).put hmN (unhide HM))
  have HF7 := hide ((Fx.of (g := ub) (unhide HBW6)).trans (unhide HS67))
  clear hV7
  obtain ⟨a0, a1, a2, a3, a4⟩ := unhide HA V7 ((unhide HF26).trans (unhide HS67))
  obtain ⟨b0, b1, b2, b3⟩ := unhide HWC V7 ((unhide HF46).trans (unhide HS67))
  obtain ⟨o0, o1'⟩ := unhide HOW V7 (unhide HF7)
  have HHOP7 := hide (unhide HHOP V7 (unhide HF7))
  have n7 := unhide HNET V7 (unhide HF7)
  rw [unhide HV7] at a0 a1 a2 a3 a4 b0 b1 b2 b3 o0 o1' n7
  by_cases hf0 : f < 0
  · have hfb : fromB (o1, o2) net ⟨x, y, d, t, f⟩ = (decide (x = o1) && decide (y = o2)) := by unfold fromB; rw [if_pos hf0]
    have HFB := hide hfb
    clear hfb
    by_cases e1 : x = o1
    · by_cases e2 : y = o2
      · have HRB : Hid (hopB W H T (o1, o2) seen net k = true) := hide (by rw [unhide HRV, unhide HFB, decide_eq_true e1, decide_eq_true e2, decide_eq_true (p := -1 ≤ f) (by omega), decide_eq_true (p := f < (k : Int)) (by omega)]; unfold thH; rw [unhide HTT]; rfl)
        subst e1 e2
        go_wp2_with fail
        rw [← unhide HV7]
        exact unhide HOK3 (unhide HRB) _ _ _ _ _ _ _ _ _ _ _ _ _ _ _ _ _ _ _ _ _ _ _ _ _ _ _ _ _ _ _ _ _ _ _ _ _ _ _ _ _ _ _ _ _ _ _ _ _ _ _ _ _ _ _ _ _ _ _ _ _ _ _ _ _ _ _ _ _ _ _ _ _ _ _ _ _ _ _ _ _ _ _ _ _ _ V7 (unhide HF7) (unhide HBR7)
      · have HRB : Hid (hopB W H T (o1, o2) seen net k = false) := hide (by rw [unhide HRV]; rw [unhide HFB, decide_eq_false e2]; simp)
        subst e1
        go_wp2_with fail
        rw [← unhide HV7]
        exact unhide HBAD (unhide HRB) _ _ _ _ _ _ _ _ _ _ _ _ _ _ _ _ _ _ _ _ _ _ _ _ _ _ _ _ _ _ _ _ _ _ _ _ _ _ _ _ _ _ _ _ _ _ _ _ _ _ _ _ _ _ _ _ _ _ _ _ _ _ _ _ _ _ _ _ _ _ _ _ _ _ _ _ _ _ _ _ _ _ _ _ _ _ V7 (unhide HF7)
    · have HRB : Hid (hopB W H T (o1, o2) seen net k = false) := hide (by rw [unhide HRV]; rw [unhide HFB, decide_eq_false e1]; simp)
      go_wp2_with fail
      rw [← unhide HV7]
      exact unhide HBAD (unhide HRB) _ _ _ _ _ _ _ _ _ _ _ _ _ _ _ _ _ _ _ _ _ _ _ _ _ _ _ _ _ _ _ _ _ _ _ _ _ _ _ _ _ _ _ _ _ _ _ _ _ _ _ _ _ _ _ _ _ _ _ _ _ _ _ _ _ _ _ _ _ _ _ _ _ _ _ _ _ _ _ _ _ _ _ _ _ _ V7 (unhide HF7)
  · obtain ⟨j, rfl⟩ : ∃ j : Nat, f = (j : Int) := ⟨f.toNat, by omega⟩
    have hjk : j < k := by omega
    obtain ⟨a, ha⟩ : ∃ a, net[j]? = some a := ⟨_, List.getElem?_eq_getElem (by
      have := (List.getElem?_eq_some_iff.1 (unhide HXK)).1
      omega)⟩
    have hfb : fromB (o1, o2) net ⟨x, y, d, t, (j : Int)⟩ = (decide (endX a.x a.d = x) && (decide (endY a.y a.d = y) && decide (a.t = t))) := by
      unfold fromB
      rw [if_neg hf0]
      have e : ((⟨x, y, d, t, (j : Int)⟩ : Hop).f).toNat = j := by simp
      rw [e, ha]
    have HFB := hide hfb
    have hat := unhide HTH a (List.mem_append.2 (.inr (List.mem_iff_getElem?.2 ⟨j, by rw [List.getElem?_take, if_pos hjk]; exact ha⟩)))
    have HSM := hide (smH_of hW hH hat)
    have HAJ := hide (unhide HHOP7 j a ha)
    clear hfb hat ha
    go_wp2_with fail
    rw [← unhide HV7]
    refine ro19 (nb := nb) (no := no) (cn := cn) (hb := hb) (ho := ho) (hc := hc) (A := W0.heap.size) (a := a) (W0 := V7) hs hnn (by omega : j < n) hn (hide (fun V hV => unhide HNET V ((unhide HF7).trans (Fx.of hV)))) (hide (fun V hV => (unhide HA V (((unhide HF26).trans (unhide HS67)).trans (Fx.of hV))).2.2.2.2)) (hide (fun V hV => by
      obtain ⟨c0, c1, c2, c3, c4⟩ := unhide HAJ
      exact ⟨cell_later hV c0, cell_later hV c1, cell_later hV c2, cell_later hV c3, cell_later hV c4⟩)) ?_
    intro v111 v112 v113 v114 v115 v116 v117 v118 v119 V8 M hM hat hb8
    clear a0 a1 a2 a3 a4 b0 b1 b2 b3 o0 o1' n7 u0 uf
    have m0 := hat 0 _ rfl
    have m1' := hat 1 _ rfl
    have m2' := hat 2 _ rfl
    have m3 := hat 3 _ rfl
    simp only [Nat.zero_add] at m0 m1' m2' m3
    have HB8 := hide hb8
    have HM3 := hide m3
    clear hat hb8
    go_wp2_with fail
    refine (sEnd a.x a.y a.d a.t V8 (unhide HSM).1 (unhide HSM).2).mono ?_
    rintro e V9 ⟨rfl, hb9⟩
    obtain ⟨X9, hX9⟩ : ∃ X, X = V9.alloc (.cells #[.int .i64 (endX a.x a.d), .int .i64 (endY a.y a.d)] 57) := ⟨_, rfl⟩
    have HX9 := hide hX9
    have HB9 := hide (show Below V7.heap.size V7 X9 by rw [hX9]; exact bal (btr (unhide HB8) hb9) _)
    have HF9 := hide ((unhide HF7).trans (Fx.of (g := ub) (unhide HB9)))
    have HBR9 := hide ((unhide HBR7).later (unhide HB9))
    obtain ⟨b0, b1, b2, b3⟩ := unhide HWC X9 (((unhide HF46).trans (unhide HS67)).trans (Fx.of (unhide HB9)))
    have m3 : X9.cell? ⟨M, 3, none⟩ = some (.int .i64 a.t) := by rw [hX9]; exact cell_later (btr hb9 (bal (brf V9) _)) (unhide HM3)
    rw [hX9] at b0 b1 b2 b3 m3
    clear hX9 m0 m1' m2'
    generalize endX a.x a.d = ex at *
    generalize endY a.y a.d = ey at *
    by_cases e1 : ex = x
    · by_cases e2 : ey = y
      · by_cases e3 : a.t = t
        · have HRB : Hid (hopB W H T (o1, o2) seen net k = true) := hide (by rw [unhide HRV, unhide HFB, decide_eq_true e1, decide_eq_true e2, decide_eq_true e3, decide_eq_true (p := -1 ≤ (j : Int)) (by omega), decide_eq_true (p := (j : Int) < (k : Int)) (by omega)]; unfold thH; rw [unhide HTT]; rfl)
          generalize a.t = at' at *
          subst e1 e2 e3
          go_wp2_with fail
          rw [← unhide HX9]
          exact unhide HOK (unhide HRB) _ _ _ _ _ _ _ _ _ _ _ _ _ _ _ _ _ _ _ _ _ _ _ _ _ _ _ _ _ _ _ _ _ _ _ _ _ _ _ _ _ _ _ _ _ _ _ _ _ _ _ _ _ _ _ _ _ _ _ _ _ _ _ _ _ _ _ _ _ _ _ _ _ _ _ _ _ _ _ _ _ _ _ _ _ _ X9 (unhide HF9) (unhide HBR9)
        · have HRB : Hid (hopB W H T (o1, o2) seen net k = false) := hide (by rw [unhide HRV]; rw [unhide HFB, decide_eq_false e3]; simp)
          generalize a.t = at' at *
          subst e1 e2
          go_wp2_with fail
          rw [← unhide HX9]
          exact unhide HBAD (unhide HRB) _ _ _ _ _ _ _ _ _ _ _ _ _ _ _ _ _ _ _ _ _ _ _ _ _ _ _ _ _ _ _ _ _ _ _ _ _ _ _ _ _ _ _ _ _ _ _ _ _ _ _ _ _ _ _ _ _ _ _ _ _ _ _ _ _ _ _ _ _ _ _ _ _ _ _ _ _ _ _ _ _ _ _ _ _ _ X9 (unhide HF9)
      · have HRB : Hid (hopB W H T (o1, o2) seen net k = false) := hide (by rw [unhide HRV]; rw [unhide HFB, decide_eq_false e2]; simp)
        generalize a.t = at' at *
        subst e1
        go_wp2_with fail
        rw [← unhide HX9]
        exact unhide HBAD (unhide HRB) _ _ _ _ _ _ _ _ _ _ _ _ _ _ _ _ _ _ _ _ _ _ _ _ _ _ _ _ _ _ _ _ _ _ _ _ _ _ _ _ _ _ _ _ _ _ _ _ _ _ _ _ _ _ _ _ _ _ _ _ _ _ _ _ _ _ _ _ _ _ _ _ _ _ _ _ _ _ _ _ _ _ _ _ _ _ X9 (unhide HF9)
    · have HRB : Hid (hopB W H T (o1, o2) seen net k = false) := hide (by rw [unhide HRV]; rw [unhide HFB, decide_eq_false e1]; simp)
      generalize a.t = at' at *
      go_wp2_with fail
      rw [← unhide HX9]
      exact unhide HBAD (unhide HRB) _ _ _ _ _ _ _ _ _ _ _ _ _ _ _ _ _ _ _ _ _ _ _ _ _ _ _ _ _ _ _ _ _ _ _ _ _ _ _ _ _ _ _ _ _ _ _ _ _ _ _ _ _ _ _ _ _ _ _ _ _ _ _ _ _ _ _ _ _ _ _ _ _ _ _ _ _ _ _ _ _ _ _ _ _ _ X9 (unhide HF9)
end Go.Proofs.YtlldfaniddbjaaaGreatDoor
