/- The specification's RouteOK: one source. -/
import Derived.Test.YtlldfaniddbjaaaGreatDoorGRS13
namespace Go.Proofs.YtlldfaniddbjaaaGreatDoor
open Go Go.RowKit Gs
set_option linter.unusedVariables false
set_option linter.unusedSimpArgs false
set_option maxRecDepth 100000
set_option maxHeartbeats 16000000
theorem roSrc {u0 u1 u6 u7 u8 u11 u12 u13 u14 u15 u16 u17 u18 u19 u20 u21 u22 u23 u24 u25 u26 u27 u28 u29 u30 u31 u32 u33 u34 u35 u36 u37 u38 u39 u40 u41 u42 u43 u44 u45 u46 u47 u48 u49 u50 u51 u52 u53 u54 u55 u56 u57 u58 u59 u60 u61 u62 u63 u64 u65 u66 u67 u68 u69 u70 u71 u72 u73 u74 u75 u76 u77 u78 u79 u80 u81 u82 u83 u84 u85 u86 u87 u88 u89 u90 u91 u92 u93 u94 u95 u96 u97 u98 u99 u100 u101 u102 u103 u104 u105 u106 u107 u108 u109 u110 u111 u112 u113 u114 u115 u116 u117 u118 u119 u120 u121 u122 u123 u124 u125 u126 u127 u128 u129 u130 u131 u132 u133 u134 u135 u136 u137 u138 u139 u140 u141 u142 u143 u144 u145 u146 u147 u148 u149 u150 u151 u152 u153 u154 u155 u156 u157 u158 u159 u160 u161 : Value} {W H T P pb nb no nn cn cb ub N s n hc n0 n1 n2 n3 n4 c0 c1 c2 c3 c4 nT cT : Nat} {o1 o2 : Int} {hv s0 s1 s2 s3 s4 sT : Option Addr} {seen net : List Hop} {es : List (Int × Int)} {w W0 : World} {Q : Exit → Act → World → Prop} (hW : W ≤ 8) (hH : H ≤ 8) (hT : T ≤ 8) (hN : N = H * (W + 1) * 4 * T) (hN2 : N ≤ 2304) (hs : s < nn) (hnn : nn ≤ 1048576) (hn : n ≤ 1048576) (hnl : net.length = n) (hub : ub < W0.heap.size) (hwu : w.heap.size ≤ ub) (hes : es.length ≤ 1048576) (HB0 : Hid (Below w.heap.size w W0))
    (HTH : Hid (∀ y ∈ seen, thH W H T y = true)) (HBR : Hid (BR W T W0 ub N seen))
    (HCC : Hid (∀ V, Fx ub W0 V → V.cell? ⟨cb, 0, none⟩ = some (.int .i64 (W : Int)) ∧ V.cell? ⟨cb, 1, none⟩ = some (.int .i64 (H : Int)) ∧ V.cell? ⟨cb, 2, none⟩ = some (.int .i64 (T : Int)) ∧ V.cell? ⟨cb, 3, none⟩ = some (.int .i64 (P : Int)))) (HCP : Hid (∀ V, Fx ub W0 V → V.cell? ⟨pb, 0, none⟩ = some (.slice s0 n0 c0) ∧ V.cell? ⟨pb, 1, none⟩ = some (.slice s1 n1 c1) ∧ V.cell? ⟨pb, 2, none⟩ = some (.slice s2 n2 c2) ∧ V.cell? ⟨pb, 3, none⟩ = some (.slice s3 n3 c3) ∧ V.cell? ⟨pb, 4, none⟩ = some (.slice s4 n4 c4)))
    (HNET : Hid (∀ V, Fx ub W0 V → V.cell? ⟨nb, no + s, none⟩ = some (.slice hv n hc)))
    (HHOP : Hid (∀ (i : Nat) (h : Hop), net[i]? = some h → ∃ hb ho, hv = some ⟨hb, ho, none⟩ ∧ ∀ V, Fx ub W0 V → V.cell? ⟨hb, ho + i * 5, none⟩ = some (.int .i64 h.x) ∧ V.cell? ⟨hb, ho + i * 5 + 1, none⟩ = some (.int .i64 h.y) ∧ V.cell? ⟨hb, ho + i * 5 + 2, none⟩ = some (.int .i64 h.d) ∧ V.cell? ⟨hb, ho + i * 5 + 3, none⟩ = some (.int .i64 h.t) ∧ V.cell? ⟨hb, ho + i * 5 + 4, none⟩ = some (.int .i64 h.f)))
    (HFR : Hid (∀ V, Below w.heap.size w V → Calls Tryz.prog 21 #[.agg #[.slice s0 n0 c0, .slice s1 n1 c1, .slice s2 n2 c2, .slice s3 n3 c3, .slice s4 n4 c4], .agg #[.int .i64 (W : Int), .int .i64 (H : Int), .int .i64 (T : Int), .int .i64 (P : Int)], .slice sT nT cT, .int .i64 (s : Int)] V fun e w' => e = .returned (.agg #[.int .i64 o1, .int .i64 o2]) ∧ Below V.heap.size V w'))
    (HEND : Hid (∀ V, Below w.heap.size w V → Calls Tryz.prog 26 #[.agg #[.slice s0 n0 c0, .slice s1 n1 c1, .slice s2 n2 c2, .slice s3 n3 c3, .slice s4 n4 c4], .agg #[.int .i64 (W : Int), .int .i64 (H : Int), .int .i64 (T : Int), .int .i64 (P : Int)], .slice sT nT cT, .int .i64 (s : Int)] V fun e w' => (∃ v, e = .returned v ∧ OW 57 2 spC V.heap.size w' v es) ∧ Below V.heap.size V w'))
    (HREA : Hid ((∀ y ∈ net, SmH y) → ∀ V, Below w.heap.size w V → ∀ r1 r2 : Int, Calls Tryz.prog 27 #[.slice hv n hc, .agg #[.int .i64 r1, .int .i64 r2]] V fun e w' => e = .returned (.bool (reachedB net (r1, r2))) ∧ Below V.heap.size V w'))
    (hbad : (upB (hopB W H T (o1, o2) seen net) n && es.all (reachedB net)) = false → ∀ (z11 z12 z13 z14 z15 z16 z17 z18 z45 z46 z47 z48 z49 z50 z51 z52 z53 z54 z55 z56 z57 z58 z59 z60 z61 z62 z63 z64 z65 z66 z67 z68 z69 z70 z71 z72 z73 z74 z75 z76 z77 z78 z79 z80 z81 z82 z83 z84 z85 z86 z87 z88 z89 z90 z91 z92 z93 z94 z95 z96 z97 z98 z99 z100 z101 z102 z103 z104 z105 z106 z107 z108 z109 z110 z111 z112 z113 z114 z115 z116 z117 z118 z119 z120 z121 z122 z123 z124 z125 z126 z127 z128 z129 z130 z131 z132 z133 z134 z135 z136 z137 z138 z139 z140 z141 z142 z143 z144 z145 z146 z147 z148 z149 z150 z151 z152 z153 z154 z155 z156 z157 z158 z159 z160 z161 : Value) V, Fx ub W0 V → Q .ret { tmps := (u0 :: u1 :: .slice sT nT cT :: .slice (some ⟨nb, no, none⟩) nn cn :: .pointer (some ⟨pb, 0, none⟩) :: .pointer (some ⟨cb, 0, none⟩) :: u6 :: u7 :: .bool false :: .slice (some ⟨ub, 0, none⟩) N N :: .int .i64 (s : Int) :: z11 :: z12 :: z13 :: z14 :: z15 :: z16 :: z17 :: z18 :: u19 :: u20 :: u21 :: u22 :: u23 :: u24 :: u25 :: u26 :: u27 :: u28 :: u29 :: u30 :: u31 :: u32 :: u33 :: u34 :: u35 :: u36 :: u37 :: u38 :: u39 :: u40 :: u41 :: u42 :: u43 :: u44 :: z45 :: z46 :: z47 :: z48 :: z49 :: z50 :: z51 :: z52 :: z53 :: z54 :: z55 :: z56 :: z57 :: z58 :: z59 :: z60 :: z61 :: z62 :: z63 :: z64 :: z65 :: z66 :: z67 :: z68 :: z69 :: z70 :: z71 :: z72 :: z73 :: z74 :: z75 :: z76 :: z77 :: z78 :: z79 :: z80 :: z81 :: z82 :: z83 :: z84 :: z85 :: z86 :: z87 :: z88 :: z89 :: z90 :: z91 :: z92 :: z93 :: z94 :: z95 :: z96 :: z97 :: z98 :: z99 :: z100 :: z101 :: z102 :: z103 :: z104 :: z105 :: z106 :: z107 :: z108 :: z109 :: z110 :: z111 :: z112 :: z113 :: z114 :: z115 :: z116 :: z117 :: z118 :: z119 :: z120 :: z121 :: z122 :: z123 :: z124 :: z125 :: z126 :: z127 :: z128 :: z129 :: z130 :: z131 :: z132 :: z133 :: z134 :: z135 :: z136 :: z137 :: z138 :: z139 :: z140 :: z141 :: z142 :: z143 :: z144 :: z145 :: z146 :: z147 :: z148 :: z149 :: z150 :: z151 :: z152 :: z153 :: z154 :: z155 :: z156 :: z157 :: z158 :: z159 :: z160 :: z161 :: []).toArray, defers := [] } V)
    (hok : (upB (hopB W H T (o1, o2) seen net) n && es.all (reachedB net)) = true → ∀ (z8 z11 z12 z13 z14 z15 z16 z17 z18 z45 z46 z47 z48 z49 z50 z51 z52 z53 z54 z55 z56 z57 z58 z59 z60 z61 z62 z63 z64 z65 z66 z67 z68 z69 z70 z71 z72 z73 z74 z75 z76 z77 z78 z79 z80 z81 z82 z83 z84 z85 z86 z87 z88 z89 z90 z91 z92 z93 z94 z95 z96 z97 z98 z99 z100 z101 z102 z103 z104 z105 z106 z107 z108 z109 z110 z111 z112 z113 z114 z115 z116 z117 z118 z119 z120 z121 z122 z123 z124 z125 z126 z127 z128 z129 z130 z131 z132 z133 z134 z135 z136 z137 z138 z139 z140 z141 z142 z143 z144 z145 z146 z147 z148 z149 z150 z151 z152 z153 z154 z155 z156 z157 z158 z159 z160 z161 : Value) V, Fx ub W0 V → BR W T V ub N (seen ++ net) → Q .normal { tmps := (u0 :: u1 :: .slice sT nT cT :: .slice (some ⟨nb, no, none⟩) nn cn :: .pointer (some ⟨pb, 0, none⟩) :: .pointer (some ⟨cb, 0, none⟩) :: u6 :: u7 :: z8 :: .slice (some ⟨ub, 0, none⟩) N N :: .int .i64 (s : Int) :: z11 :: z12 :: z13 :: z14 :: z15 :: z16 :: z17 :: z18 :: u19 :: u20 :: u21 :: u22 :: u23 :: u24 :: u25 :: u26 :: u27 :: u28 :: u29 :: u30 :: u31 :: u32 :: u33 :: u34 :: u35 :: u36 :: u37 :: u38 :: u39 :: u40 :: u41 :: u42 :: u43 :: u44 :: z45 :: z46 :: z47 :: z48 :: z49 :: z50 :: z51 :: z52 :: z53 :: z54 :: z55 :: z56 :: z57 :: z58 :: z59 :: z60 :: z61 :: z62 :: z63 :: z64 :: z65 :: z66 :: z67 :: z68 :: z69 :: z70 :: z71 :: z72 :: z73 :: z74 :: z75 :: z76 :: z77 :: z78 :: z79 :: z80 :: z81 :: z82 :: z83 :: z84 :: z85 :: z86 :: z87 :: z88 :: z89 :: z90 :: z91 :: z92 :: z93 :: z94 :: z95 :: z96 :: z97 :: z98 :: z99 :: z100 :: z101 :: z102 :: z103 :: z104 :: z105 :: z106 :: z107 :: z108 :: z109 :: z110 :: z111 :: z112 :: z113 :: z114 :: z115 :: z116 :: z117 :: z118 :: z119 :: z120 :: z121 :: z122 :: z123 :: z124 :: z125 :: z126 :: z127 :: z128 :: z129 :: z130 :: z131 :: z132 :: z133 :: z134 :: z135 :: z136 :: z137 :: z138 :: z139 :: z140 :: z141 :: z142 :: z143 :: z144 :: z145 :: z146 :: z147 :: z148 :: z149 :: z150 :: z151 :: z152 :: z153 :: z154 :: z155 :: z156 :: z157 :: z158 :: z159 :: z160 :: z161 :: []).toArray, defers := [] } V) :
    Code.wp Tryz.prog (atB 1 (bodyOf Tryz.f6)) Q { tmps := (u0 :: u1 :: .slice sT nT cT :: .slice (some ⟨nb, no, none⟩) nn cn :: .pointer (some ⟨pb, 0, none⟩) :: .pointer (some ⟨cb, 0, none⟩) :: u6 :: u7 :: u8 :: .slice (some ⟨ub, 0, none⟩) N N :: .int .i64 (s : Int) :: u11 :: u12 :: u13 :: u14 :: u15 :: u16 :: u17 :: u18 :: u19 :: u20 :: u21 :: u22 :: u23 :: u24 :: u25 :: u26 :: u27 :: u28 :: u29 :: u30 :: u31 :: u32 :: u33 :: u34 :: u35 :: u36 :: u37 :: u38 :: u39 :: u40 :: u41 :: u42 :: u43 :: u44 :: u45 :: u46 :: u47 :: u48 :: u49 :: u50 :: u51 :: u52 :: u53 :: u54 :: u55 :: u56 :: u57 :: u58 :: u59 :: u60 :: u61 :: u62 :: u63 :: u64 :: u65 :: u66 :: u67 :: u68 :: u69 :: u70 :: u71 :: u72 :: u73 :: u74 :: u75 :: u76 :: u77 :: u78 :: u79 :: u80 :: u81 :: u82 :: u83 :: u84 :: u85 :: u86 :: u87 :: u88 :: u89 :: u90 :: u91 :: u92 :: u93 :: u94 :: u95 :: u96 :: u97 :: u98 :: u99 :: u100 :: u101 :: u102 :: u103 :: u104 :: u105 :: u106 :: u107 :: u108 :: u109 :: u110 :: u111 :: u112 :: u113 :: u114 :: u115 :: u116 :: u117 :: u118 :: u119 :: u120 :: u121 :: u122 :: u123 :: u124 :: u125 :: u126 :: u127 :: u128 :: u129 :: u130 :: u131 :: u132 :: u133 :: u134 :: u135 :: u136 :: u137 :: u138 :: u139 :: u140 :: u141 :: u142 :: u143 :: u144 :: u145 :: u146 :: u147 :: u148 :: u149 :: u150 :: u151 :: u152 :: u153 :: u154 :: u155 :: u156 :: u157 :: u158 :: u159 :: u160 :: u161 :: []).toArray, defers := [] } W0 := by
  have HBAD := hide hbad
  have HOK := hide hok
  have HNN := hide hN
  have HNL := hide hnl
  have HHUB := hide hub
  obtain ⟨p0, p1, p2, p3, p4⟩ := unhide HCP W0 (Fx.refl _ _)
  obtain ⟨q0, q1, q2, q3⟩ := unhide HCC W0 (Fx.refl _ _)
  clear hbad hok hN hnl
  conv => arg 2; whnf
  go_wp2_with fail
  refine (unhide HFR W0 (unhide HB0)).mono ?_
  rintro e V1 ⟨rfl, hb1⟩
  obtain ⟨V2, hV2⟩ : ∃ V, V = V1.alloc (.cells #[.int .i64 o1, .int .i64 o2] 57) := ⟨_, rfl⟩
  have HV2 := hide hV2
  have HB2 := hide (show Below W0.heap.size W0 V2 by rw [hV2]; exact bal hb1 _)
  have HF2 := hide (Fx.of (g := ub) (unhide HB2))
  have hub2 : ub < V2.heap.size := Nat.lt_of_lt_of_le hub (unhide HB2).size
  have HOW : Hid (∀ V, Fx ub V2 V → V.cell? ⟨V1.heap.size, 0, none⟩ = some (.int .i64 o1) ∧ V.cell? ⟨V1.heap.size, 1, none⟩ = some (.int .i64 o2)) := hide (fun V hV => by
    have K := fun (i : Nat) z hz => hV.cell (new_cell (V := V2) (W := V1) (M := #[.int .i64 o1, .int .i64 o2]) (t := 57) (i := i) (x := z) (by rw [hV2]; exact brf _) hz).1 (by have := hb1.size; omega)
    exact ⟨K 0 _ rfl, K 1 _ rfl⟩)
  clear hV2 hb1 p0 p1 p2 p3 p4 q0 q1 q2 q3
  go_wp2_with fail
  rw [← unhide HV2]
  refine roL2 (P := P) (nb := nb) (no := no) (nn := nn) (cn := cn) (cb := cb) (ub := ub) (s := s) (og := V1.heap.size) (n := n) (hc := hc) (o1 := o1) (o2 := o2) (hv := hv) (seen := seen) (net := net) (W0 := V2) hW hH hT (unhide HNN) hN2 hs hnn hn (unhide HNL) hub2 HTH (hide ((unhide HBR).later (unhide HB2))) (hide (fun V hV => unhide HCC V ((unhide HF2).trans hV))) HOW (hide (fun V hV => unhide HNET V ((unhide HF2).trans hV))) (hide (fun i h hi => by
    obtain ⟨hb, ho, e, hh⟩ := unhide HHOP i h hi
    exact ⟨hb, ho, e, fun V hV => hh V ((unhide HF2).trans hV)⟩)) ?_ ?_
  · intro hh yi y13 y14 y15 y16 y50 y51 y52 y53 y54 y55 y56 y57 y58 y59 y60 y61 y62 y63 y64 y65 y66 y67 y68 y69 y70 y71 y72 y73 y74 y75 y76 y77 y78 y79 y80 y81 y82 y83 y84 y85 y86 y87 y88 y89 y90 y91 y92 y93 y94 y95 y96 y97 y98 y99 y100 y101 y102 y103 y104 y105 y106 y107 y108 y109 y110 y111 y112 y113 y114 y115 y116 y117 y118 y119 y120 y121 y122 y123 y124 y125 y126 y127 y128 y129 y130 y131 y132 y133 y134 y135 y136 y137 y138 y139 y140 V hV
    have HR : Hid ((upB (hopB W H T (o1, o2) seen net) n && es.all (reachedB net)) = false) := hide (by rw [hh]; rfl)
    have HV := hide ((unhide HF2).trans hV)
    clear hh hV
    exact unhide HBAD (unhide HR) _ _ _ _ _ _ _ _ _ _ _ _ _ _ _ _ _ _ _ _ _ _ _ _ _ _ _ _ _ _ _ _ _ _ _ _ _ _ _ _ _ _ _ _ _ _ _ _ _ _ _ _ _ _ _ _ _ _ _ _ _ _ _ _ _ _ _ _ _ _ _ _ _ _ _ _ _ _ _ _ _ _ _ _ _ _ _ _ _ _ _ _ _ _ _ _ _ _ _ _ _ _ _ _ _ _ _ _ _ _ _ _ _ _ _ _ _ _ _ _ _ _ _ _ _ V (unhide HV)
  · intro hh z8 yi y13 y14 y15 y16 y50 y51 y52 y53 y54 y55 y56 y57 y58 y59 y60 y61 y62 y63 y64 y65 y66 y67 y68 y69 y70 y71 y72 y73 y74 y75 y76 y77 y78 y79 y80 y81 y82 y83 y84 y85 y86 y87 y88 y89 y90 y91 y92 y93 y94 y95 y96 y97 y98 y99 y100 y101 y102 y103 y104 y105 y106 y107 y108 y109 y110 y111 y112 y113 y114 y115 y116 y117 y118 y119 y120 y121 y122 y123 y124 y125 y126 y127 y128 y129 y130 y131 y132 y133 y134 y135 y136 y137 y138 y139 y140 V3 hV hbr
    have HR : Hid ((upB (hopB W H T (o1, o2) seen net) n && es.all (reachedB net)) = es.all (reachedB net)) := hide (by rw [hh]; rfl)
    have HF3 := hide ((unhide HF2).trans hV)
    have HBR3 := hide hbr
    have HSM : Hid (∀ y ∈ net, SmH y) := hide (fun y hy => by
      obtain ⟨i, hi⟩ := List.mem_iff_getElem?.1 hy
      exact smH_of hW hH (hopB_there hh (by have := (List.getElem?_eq_some_iff.1 hi).1; rw [unhide HNL] at this; exact this) hi))
    have HB3 := hide ((unhide HF3).below (unhide HB0) hwu (unhide HB0).size)
    obtain ⟨p0, p1, p2, p3, p4⟩ := unhide HCP V3 (unhide HF3)
    obtain ⟨q0, q1, q2, q3⟩ := unhide HCC V3 (unhide HF3)
    clear hh hV hbr
    go_wp2_with fail
    refine (unhide HEND V3 (unhide HB3)).mono ?_
    rintro e V4 ⟨⟨v4, rfl, ho⟩, hb4⟩
    have HB4 := hide hb4
    have HBW4 := hide (btr (unhide HB3) hb4)
    have HRS := hide (ho.spots hes)
    obtain ⟨ea, ec, he, _⟩ := ho.slice
    subst he
    obtain ⟨el, hel⟩ : ∃ el, es.length = el := ⟨_, rfl⟩
    have HEL := hide hel
    rw [hel] at HRS hes
    rw [hel]
    clear ho hb4 hel p0 p1 p2 p3 p4 q0 q1 q2 q3
    go_wp2_with fail
    refine roL4 (nb := nb) (no := no) (nn := nn) (cn := cn) (s := s) (n := n) (hc := hc) (hv := hv) (es := es) (net := net) (W0 := V4) hs hnn (unhide HEL) hes HRS (hide (fun V hV => unhide HNET V ((unhide HF3).trans ((Fx.of (unhide HB4)).trans (Fx.of hV))))) (hide (fun V hV => unhide HREA (unhide HSM) V (btr (unhide HBW4) hV))) ?_ ?_
    · intro hh xi x146 x147 x148 x149 x150 x151 x152 x153 x154 x155 x156 x157 x158 x159 x160 x161 V hV
      have HR2 : Hid ((upB (hopB W H T (o1, o2) seen net) n && es.all (reachedB net)) = false) := hide ((unhide HR).trans hh)
      have HV := hide ((unhide HF3).trans ((Fx.of (g := ub) (unhide HB4)).trans (Fx.of hV)))
      clear hh hV
      exact unhide HBAD (unhide HR2) _ _ _ _ _ _ _ _ _ _ _ _ _ _ _ _ _ _ _ _ _ _ _ _ _ _ _ _ _ _ _ _ _ _ _ _ _ _ _ _ _ _ _ _ _ _ _ _ _ _ _ _ _ _ _ _ _ _ _ _ _ _ _ _ _ _ _ _ _ _ _ _ _ _ _ _ _ _ _ _ _ _ _ _ _ _ _ _ _ _ _ _ _ _ _ _ _ _ _ _ _ _ _ _ _ _ _ _ _ _ _ _ _ _ _ _ _ _ _ _ _ _ _ _ _ V (unhide HV)
    · intro hh w8 xi x146 x147 x148 x149 x150 x151 x152 x153 x154 x155 x156 x157 x158 x159 x160 x161 V hV
      have HR2 : Hid ((upB (hopB W H T (o1, o2) seen net) n && es.all (reachedB net)) = true) := hide ((unhide HR).trans hh)
      have HV := hide ((unhide HF3).trans ((Fx.of (g := ub) (unhide HB4)).trans (Fx.of hV)))
      have HBV := hide ((unhide HBR3).later (btr (unhide HB4) hV))
      clear hh hV
      exact unhide HOK (unhide HR2) _ _ _ _ _ _ _ _ _ _ _ _ _ _ _ _ _ _ _ _ _ _ _ _ _ _ _ _ _ _ _ _ _ _ _ _ _ _ _ _ _ _ _ _ _ _ _ _ _ _ _ _ _ _ _ _ _ _ _ _ _ _ _ _ _ _ _ _ _ _ _ _ _ _ _ _ _ _ _ _ _ _ _ _ _ _ _ _ _ _ _ _ _ _ _ _ _ _ _ _ _ _ _ _ _ _ _ _ _ _ _ _ _ _ _ _ _ _ _ _ _ _ _ _ _ _ V (unhide HV) (unhide HBV)
end Go.Proofs.YtlldfaniddbjaaaGreatDoor
namespace Go.Proofs.YtlldfaniddbjaaaGreatDoor
open Go Go.RowKit Gs
set_option linter.unusedVariables false
set_option linter.unusedSimpArgs false
set_option maxRecDepth 100000
set_option maxHeartbeats 16000000
/-- Whether a source's net is right, as the specification asks it. -/
def srcS (x : Packed) (W H T : Nat) (ts : List Int) (nets : List (List Hop)) (s : Nat) : Bool := match nets[s]? with | none => false | some net => upB (hopB W H T (fromP x.ins.length W H ts s) (nets.take s).flatten net) net.length && (endsS x W H ts s).all (reachedB net)
theorem srcS_net {x : Packed} {W H T : Nat} {ts : List Int} {nets : List (List Hop)} {s : Nat} (hx : StOK x W H T ts) (hs : s < x.ins.length + x.blocks.length) : srcS x W H T ts nets s = netB x W H T ts nets s := by
  unfold srcS netB
  cases nets[s]? with
  | none => rfl
  | some net => simp only [ends_all (reachedB net) hx hs]
theorem srcS_at {x : Packed} {W H T : Nat} {ts : List Int} {nets : List (List Hop)} {s : Nat} {net : List Hop} (h : nets[s]? = some net) : srcS x W H T ts nets s = (upB (hopB W H T (fromP x.ins.length W H ts s) (nets.take s).flatten net) net.length && (endsS x W H ts s).all (reachedB net)) := by
  unfold srcS; rw [h]
theorem net_flat_take {nets : List (List Hop)} {s : Nat} {net : List Hop} (h : nets[s]? = some net) : (nets.take (s + 1)).flatten = (nets.take s).flatten ++ net := by
  rw [List.take_add_one, h]; simp
theorem there_flat {x : Packed} {W H T : Nat} {ts : List Int} {nets : List (List Hop)} : ∀ {k : Nat}, upB (srcS x W H T ts nets) k = true → ∀ y ∈ (nets.take k).flatten, thH W H T y = true
  | 0, _ => by simp
  | k + 1, h => by
    rw [upB_succ, Bool.and_eq_true] at h
    have ih := there_flat h.1
    have h2 := h.2
    cases hn : nets[k]? with
    | none =>
      unfold srcS at h2; rw [hn] at h2; cases h2
    | some net =>
      rw [srcS_at hn, Bool.and_eq_true] at h2
      rw [net_flat_take hn]
      have := there_take (k := net.length) ih h2.1
      rwa [List.take_of_length_le (Nat.le_refl _)] at this
/-- What lies in memory of nets. -/
theorem net_at {w : World} {nets : List (List Hop)} {s : Option Addr} {n c : Nat} (h : RS 1 RHopS w 0 nets (.slice s n c)) : ∀ (i : Nat) net, nets[i]? = some net → ∃ b o v, s = some ⟨b, o, none⟩ ∧ w.cell? ⟨b, o + i, none⟩ = some v ∧ RS 5 RHop w 0 net v := by
  intro i net hx
  rcases h.open with ⟨rfl, _⟩ | ⟨b, o, c', hv, _, _, _, he⟩
  · simp at hx
  · injection hv with e1 e2 e3
    obtain ⟨u, hu, hat, v, rfl, hr⟩ := he i net hx
    exact ⟨b, o, v, e1, by simpa using hat 0 _ rfl, hr⟩
theorem hops_at {w : World} {net : List Hop} {s : Option Addr} {n c : Nat} (h : RS 5 RHop w 0 net (.slice s n c)) : ∀ (i : Nat) y, net[i]? = some y → ∃ b o, s = some ⟨b, o, none⟩ ∧ w.cell? ⟨b, o + i * 5, none⟩ = some (.int .i64 y.x) ∧ w.cell? ⟨b, o + i * 5 + 1, none⟩ = some (.int .i64 y.y) ∧ w.cell? ⟨b, o + i * 5 + 2, none⟩ = some (.int .i64 y.d) ∧ w.cell? ⟨b, o + i * 5 + 3, none⟩ = some (.int .i64 y.t) ∧ w.cell? ⟨b, o + i * 5 + 4, none⟩ = some (.int .i64 y.f) := by
  intro i y hx
  rcases h.open with ⟨rfl, _⟩ | ⟨b, o, c', hv, _, _, _, he⟩
  · simp at hx
  · injection hv with e1 e2 e3
    obtain ⟨u, hu, hat, hr⟩ := he i y hx
    exact ⟨b, o, e1, hop_cells hu hat hr⟩
theorem roL0 {u0 u1 u6 u7 u8 u11 u12 u13 u14 u15 u16 u17 u18 u19 u20 u21 u22 u23 u24 u25 u26 u27 u28 u29 u30 u31 u32 u33 u34 u35 u36 u37 u38 u39 u40 u41 u42 u43 u44 u45 u46 u47 u48 u49 u50 u51 u52 u53 u54 u55 u56 u57 u58 u59 u60 u61 u62 u63 u64 u65 u66 u67 u68 u69 u70 u71 u72 u73 u74 u75 u76 u77 u78 u79 u80 u81 u82 u83 u84 u85 u86 u87 u88 u89 u90 u91 u92 u93 u94 u95 u96 u97 u98 u99 u100 u101 u102 u103 u104 u105 u106 u107 u108 u109 u110 u111 u112 u113 u114 u115 u116 u117 u118 u119 u120 u121 u122 u123 u124 u125 u126 u127 u128 u129 u130 u131 u132 u133 u134 u135 u136 u137 u138 u139 u140 u141 u142 u143 u144 u145 u146 u147 u148 u149 u150 u151 u152 u153 u154 u155 u156 u157 u158 u159 u160 u161 : Value} {W H T P pb nn cn ub N n0 n1 n2 n3 n4 c0 c1 c2 c3 c4 nT cT : Nat} {sN s0 s1 s2 s3 s4 sT : Option Addr} {x : Packed} {ts : List Int} {nets : List (List Hop)} {w W0 : World} {Q : Exit → Act → World → Prop} (hx : StOK x W H T ts) (hN : N = H * (W + 1) * 4 * T) (hN2 : N ≤ 2304) (hnn : nn ≤ 1048576) (hnl : nets.length = nn) (hns : ∀ net ∈ nets, net.length ≤ 1048576) (hub : ub < W0.heap.size) (hwu : w.heap.size ≤ ub) (HB0 : Hid (Below w.heap.size w W0))
    (hn0 : x.ins.length = n0) (hn02 : nn = n0 + x.blocks.length)
    (HBR : Hid (BR W T W0 ub N []))
    (HCC : Hid (∀ V, Fx ub W0 V → V.cell? ⟨pb + 1, 0, none⟩ = some (.int .i64 (W : Int)) ∧ V.cell? ⟨pb + 1, 1, none⟩ = some (.int .i64 (H : Int)) ∧ V.cell? ⟨pb + 1, 2, none⟩ = some (.int .i64 (T : Int)) ∧ V.cell? ⟨pb + 1, 3, none⟩ = some (.int .i64 (P : Int)))) (HCP : Hid (∀ V, Fx ub W0 V → V.cell? ⟨pb, 0, none⟩ = some (.slice s0 n0 c0) ∧ V.cell? ⟨pb, 1, none⟩ = some (.slice s1 n1 c1) ∧ V.cell? ⟨pb, 2, none⟩ = some (.slice s2 n2 c2) ∧ V.cell? ⟨pb, 3, none⟩ = some (.slice s3 n3 c3) ∧ V.cell? ⟨pb, 4, none⟩ = some (.slice s4 n4 c4)))
    (HNS : Hid (RS 1 RHopS w 0 nets (.slice sN nn cn)))
    (HFR : Hid (∀ s, s < nn → ∀ V, Below w.heap.size w V → Calls Tryz.prog 21 #[.agg #[.slice s0 n0 c0, .slice s1 n1 c1, .slice s2 n2 c2, .slice s3 n3 c3, .slice s4 n4 c4], .agg #[.int .i64 (W : Int), .int .i64 (H : Int), .int .i64 (T : Int), .int .i64 (P : Int)], .slice sT nT cT, .int .i64 (s : Int)] V fun e w' => e = .returned (.agg #[.int .i64 (fromP n0 W H ts s).1, .int .i64 (fromP n0 W H ts s).2]) ∧ Below V.heap.size V w'))
    (HEND : Hid (∀ s, s < nn → ∀ V, Below w.heap.size w V → Calls Tryz.prog 26 #[.agg #[.slice s0 n0 c0, .slice s1 n1 c1, .slice s2 n2 c2, .slice s3 n3 c3, .slice s4 n4 c4], .agg #[.int .i64 (W : Int), .int .i64 (H : Int), .int .i64 (T : Int), .int .i64 (P : Int)], .slice sT nT cT, .int .i64 (s : Int)] V fun e w' => (∃ v, e = .returned v ∧ OW 57 2 spC V.heap.size w' v (endsS x W H ts s)) ∧ Below V.heap.size V w'))
    (hbad : upB (srcS x W H T ts nets) nn = false → ∀ (zi z11 z12 z13 z14 z15 z16 z17 z18 z39 z40 z41 z42 z43 z44 z45 z46 z47 z48 z49 z50 z51 z52 z53 z54 z55 z56 z57 z58 z59 z60 z61 z62 z63 z64 z65 z66 z67 z68 z69 z70 z71 z72 z73 z74 z75 z76 z77 z78 z79 z80 z81 z82 z83 z84 z85 z86 z87 z88 z89 z90 z91 z92 z93 z94 z95 z96 z97 z98 z99 z100 z101 z102 z103 z104 z105 z106 z107 z108 z109 z110 z111 z112 z113 z114 z115 z116 z117 z118 z119 z120 z121 z122 z123 z124 z125 z126 z127 z128 z129 z130 z131 z132 z133 z134 z135 z136 z137 z138 z139 z140 z141 z142 z143 z144 z145 z146 z147 z148 z149 z150 z151 z152 z153 z154 z155 z156 z157 z158 z159 z160 z161 : Value) V, Fx ub W0 V → Q .ret { tmps := (u0 :: u1 :: .slice sT nT cT :: .slice sN nn cn :: .pointer (some ⟨pb, 0, none⟩) :: .pointer (some ⟨pb + 1, 0, none⟩) :: u6 :: u7 :: .bool false :: .slice (some ⟨ub, 0, none⟩) N N :: zi :: z11 :: z12 :: z13 :: z14 :: z15 :: z16 :: z17 :: z18 :: u19 :: u20 :: u21 :: u22 :: u23 :: u24 :: u25 :: u26 :: u27 :: u28 :: u29 :: u30 :: u31 :: u32 :: u33 :: u34 :: u35 :: u36 :: u37 :: u38 :: z39 :: z40 :: z41 :: z42 :: z43 :: z44 :: z45 :: z46 :: z47 :: z48 :: z49 :: z50 :: z51 :: z52 :: z53 :: z54 :: z55 :: z56 :: z57 :: z58 :: z59 :: z60 :: z61 :: z62 :: z63 :: z64 :: z65 :: z66 :: z67 :: z68 :: z69 :: z70 :: z71 :: z72 :: z73 :: z74 :: z75 :: z76 :: z77 :: z78 :: z79 :: z80 :: z81 :: z82 :: z83 :: z84 :: z85 :: z86 :: z87 :: z88 :: z89 :: z90 :: z91 :: z92 :: z93 :: z94 :: z95 :: z96 :: z97 :: z98 :: z99 :: z100 :: z101 :: z102 :: z103 :: z104 :: z105 :: z106 :: z107 :: z108 :: z109 :: z110 :: z111 :: z112 :: z113 :: z114 :: z115 :: z116 :: z117 :: z118 :: z119 :: z120 :: z121 :: z122 :: z123 :: z124 :: z125 :: z126 :: z127 :: z128 :: z129 :: z130 :: z131 :: z132 :: z133 :: z134 :: z135 :: z136 :: z137 :: z138 :: z139 :: z140 :: z141 :: z142 :: z143 :: z144 :: z145 :: z146 :: z147 :: z148 :: z149 :: z150 :: z151 :: z152 :: z153 :: z154 :: z155 :: z156 :: z157 :: z158 :: z159 :: z160 :: z161 :: []).toArray, defers := [] } V)
    (hok : upB (srcS x W H T ts nets) nn = true → ∀ (z8 zi z11 z12 z13 z14 z15 z16 z17 z18 z39 z40 z41 z42 z43 z44 z45 z46 z47 z48 z49 z50 z51 z52 z53 z54 z55 z56 z57 z58 z59 z60 z61 z62 z63 z64 z65 z66 z67 z68 z69 z70 z71 z72 z73 z74 z75 z76 z77 z78 z79 z80 z81 z82 z83 z84 z85 z86 z87 z88 z89 z90 z91 z92 z93 z94 z95 z96 z97 z98 z99 z100 z101 z102 z103 z104 z105 z106 z107 z108 z109 z110 z111 z112 z113 z114 z115 z116 z117 z118 z119 z120 z121 z122 z123 z124 z125 z126 z127 z128 z129 z130 z131 z132 z133 z134 z135 z136 z137 z138 z139 z140 z141 z142 z143 z144 z145 z146 z147 z148 z149 z150 z151 z152 z153 z154 z155 z156 z157 z158 z159 z160 z161 : Value) V, Fx ub W0 V → Q (.exit 0) { tmps := (u0 :: u1 :: .slice sT nT cT :: .slice sN nn cn :: .pointer (some ⟨pb, 0, none⟩) :: .pointer (some ⟨pb + 1, 0, none⟩) :: u6 :: u7 :: z8 :: .slice (some ⟨ub, 0, none⟩) N N :: zi :: z11 :: z12 :: z13 :: z14 :: z15 :: z16 :: z17 :: z18 :: u19 :: u20 :: u21 :: u22 :: u23 :: u24 :: u25 :: u26 :: u27 :: u28 :: u29 :: u30 :: u31 :: u32 :: u33 :: u34 :: u35 :: u36 :: u37 :: u38 :: z39 :: z40 :: z41 :: z42 :: z43 :: z44 :: z45 :: z46 :: z47 :: z48 :: z49 :: z50 :: z51 :: z52 :: z53 :: z54 :: z55 :: z56 :: z57 :: z58 :: z59 :: z60 :: z61 :: z62 :: z63 :: z64 :: z65 :: z66 :: z67 :: z68 :: z69 :: z70 :: z71 :: z72 :: z73 :: z74 :: z75 :: z76 :: z77 :: z78 :: z79 :: z80 :: z81 :: z82 :: z83 :: z84 :: z85 :: z86 :: z87 :: z88 :: z89 :: z90 :: z91 :: z92 :: z93 :: z94 :: z95 :: z96 :: z97 :: z98 :: z99 :: z100 :: z101 :: z102 :: z103 :: z104 :: z105 :: z106 :: z107 :: z108 :: z109 :: z110 :: z111 :: z112 :: z113 :: z114 :: z115 :: z116 :: z117 :: z118 :: z119 :: z120 :: z121 :: z122 :: z123 :: z124 :: z125 :: z126 :: z127 :: z128 :: z129 :: z130 :: z131 :: z132 :: z133 :: z134 :: z135 :: z136 :: z137 :: z138 :: z139 :: z140 :: z141 :: z142 :: z143 :: z144 :: z145 :: z146 :: z147 :: z148 :: z149 :: z150 :: z151 :: z152 :: z153 :: z154 :: z155 :: z156 :: z157 :: z158 :: z159 :: z160 :: z161 :: []).toArray, defers := [] } V) :
    Code.wp Tryz.prog (atB 0 (bodyOf Tryz.f6)) Q { tmps := (u0 :: u1 :: .slice sT nT cT :: .slice sN nn cn :: .pointer (some ⟨pb, 0, none⟩) :: .pointer (some ⟨pb + 1, 0, none⟩) :: u6 :: u7 :: u8 :: .slice (some ⟨ub, 0, none⟩) N N :: .int .i64 0 :: u11 :: u12 :: u13 :: u14 :: u15 :: u16 :: u17 :: u18 :: u19 :: u20 :: u21 :: u22 :: u23 :: u24 :: u25 :: u26 :: u27 :: u28 :: u29 :: u30 :: u31 :: u32 :: u33 :: u34 :: u35 :: u36 :: u37 :: u38 :: u39 :: u40 :: u41 :: u42 :: u43 :: u44 :: u45 :: u46 :: u47 :: u48 :: u49 :: u50 :: u51 :: u52 :: u53 :: u54 :: u55 :: u56 :: u57 :: u58 :: u59 :: u60 :: u61 :: u62 :: u63 :: u64 :: u65 :: u66 :: u67 :: u68 :: u69 :: u70 :: u71 :: u72 :: u73 :: u74 :: u75 :: u76 :: u77 :: u78 :: u79 :: u80 :: u81 :: u82 :: u83 :: u84 :: u85 :: u86 :: u87 :: u88 :: u89 :: u90 :: u91 :: u92 :: u93 :: u94 :: u95 :: u96 :: u97 :: u98 :: u99 :: u100 :: u101 :: u102 :: u103 :: u104 :: u105 :: u106 :: u107 :: u108 :: u109 :: u110 :: u111 :: u112 :: u113 :: u114 :: u115 :: u116 :: u117 :: u118 :: u119 :: u120 :: u121 :: u122 :: u123 :: u124 :: u125 :: u126 :: u127 :: u128 :: u129 :: u130 :: u131 :: u132 :: u133 :: u134 :: u135 :: u136 :: u137 :: u138 :: u139 :: u140 :: u141 :: u142 :: u143 :: u144 :: u145 :: u146 :: u147 :: u148 :: u149 :: u150 :: u151 :: u152 :: u153 :: u154 :: u155 :: u156 :: u157 :: u158 :: u159 :: u160 :: u161 :: []).toArray, defers := [] } W0 := by
  have HBAD := hide hbad
  have HOK := hide hok
  have HNN := hide hN
  have HNL := hide hnl
  have HNSZ := hide hns
  have HX := hide hx
  have HN0 := hide hn0
  have HN02 := hide hn02
  clear hbad hok hN hnl hns hx hn0 hn02
  conv => arg 2; whnf
  go_loopw [10] (fun i wr => ∃ k : Nat, k ≤ nn ∧ i = .int .i64 k ∧ upB (srcS x W H T ts nets) k = true ∧ Fx ub W0 wr ∧ BR W T wr ub N (nets.take k).flatten) (fun i wr => nn - (intOf i).toNat)
  case atStart => exact ⟨0, Nat.zero_le _, rfl, rfl, Fx.refl _ _, unhide HBR⟩
  case round =>
    obtain ⟨k, hk, rfl, hup, hf, hbr⟩ := hrel
    have HUP := hide hup
    have HF := hide hf
    have HBK := hide hbr
    clear hup hf hbr
    by_cases hlt : k < nn
    · obtain ⟨net, hxn⟩ : ∃ net, nets[k]? = some net := ⟨_, List.getElem?_eq_getElem (by rw [unhide HNL]; exact hlt)⟩
      obtain ⟨nb, no, v, rfl, hvc, hvr⟩ := net_at (unhide HNS) k net hxn
      obtain ⟨hv, hc, rfl⟩ := hvr.slice
      obtain ⟨n, hn⟩ : ∃ n, net.length = n := ⟨_, rfl⟩
      have hn2 : n ≤ 1048576 := by rw [← hn]; exact unhide HNSZ net (List.mem_of_getElem? hxn)
      rw [hn] at hvc hvr
      have HNEQ := hide hn
      have HVR := hide hvr
      have HB := hide ((unhide HF).below (unhide HB0) hwu (unhide HB0).size)
      have hst := srcS_at (x := x) (W := W) (H := H) (T := T) (ts := ts) hxn
      rw [hn, unhide HN0] at hst
      have HST := hide hst
      have HTHR := hide (there_flat (unhide HUP))
      have HFT := hide (net_flat_take hxn)
      have hubw : ub < wr.heap.size := Nat.lt_of_lt_of_le hub (unhide HF).size
      have hkb : k < x.ins.length + x.blocks.length := by have := unhide HN0; have := unhide HN02; omega
      have HESL := hide (show (endsS x W H ts k).length ≤ 1048576 by
        have h1 := tlE_len W (fromP x.ins.length W H ts k) (readersL x W H ts (k : Int)) (W * H)
        have h2 := rwE_len W (readersL x W H ts (k : Int)) H
        have h3 : W * H ≤ 8 * 8 := Nat.mul_le_mul (unhide HX).w8 (unhide HX).h8
        have h4 := (unhide HX).h8
        unfold endsS
        rw [List.length_append]; omega)
      have hcell : ∀ V, Fx ub wr V → ∀ b o y, w.cell? ⟨b, o, none⟩ = some y → V.cell? ⟨b, o, none⟩ = some y := fun V hV b o y hy => by
        have h1 := World.block_lt_of_cell? _ _ hy
        exact hV.cell (cell_later (unhide HB) hy) (by have : b < w.heap.size := h1; omega)
      have HCELL := hide hcell
      have HVC := hide hvc
      clear hxn hvc hvr hn hst hcell
      refine wp_seq_k ?_
      intro K1 hK1
      have HK1' := hide hK1
      clear hK1
      go_wp2_with fail
      refine unhide HK1' _ _ ?_
      clear HK1'
      refine wp_seq_k ?_
      intro K2 hK2
      have HK2' := hide hK2
      clear hK2
      refine wp_block ?_
      refine roSrc (H := H) (P := P) (n := n) (hc := hc) (nb := nb) (no := no) (cn := cn) (cb := pb + 1) (es := endsS x W H ts k) (w := w) (unhide HX).w8 (unhide HX).h8 (unhide HX).t8 (unhide HNN) hN2 hlt hnn hn2 (unhide HNEQ) hubw hwu (unhide HESL) HB HTHR HBK (hide (fun V hV => unhide HCC V ((unhide HF).trans hV))) (hide (fun V hV => unhide HCP V ((unhide HF).trans hV))) (hide (fun V hV => unhide HCELL V hV _ _ _ (unhide HVC))) (hide (fun i h hi => by
        obtain ⟨b, o, e, c0', c1', c2', c3', c4'⟩ := hops_at (unhide HVR) i h hi
        exact ⟨b, o, e, fun V hV => ⟨unhide HCELL V hV _ _ _ c0', unhide HCELL V hV _ _ _ c1', unhide HCELL V hV _ _ _ c2', unhide HCELL V hV _ _ _ c3', unhide HCELL V hV _ _ _ c4'⟩⟩)) (hide (unhide HFR k hlt)) (hide (unhide HEND k hlt)) (hide (fun hsm V hV r1 r2 => sReached net r1 r2 _ V (by rw [unhide HNEQ]; exact hn2) ((unhide HVR).later RHop.keeps hV) hsm)) ?_ ?_
      · intro hh w11 w12 w13 w14 w15 w16 w17 w18 w45 w46 w47 w48 w49 w50 w51 w52 w53 w54 w55 w56 w57 w58 w59 w60 w61 w62 w63 w64 w65 w66 w67 w68 w69 w70 w71 w72 w73 w74 w75 w76 w77 w78 w79 w80 w81 w82 w83 w84 w85 w86 w87 w88 w89 w90 w91 w92 w93 w94 w95 w96 w97 w98 w99 w100 w101 w102 w103 w104 w105 w106 w107 w108 w109 w110 w111 w112 w113 w114 w115 w116 w117 w118 w119 w120 w121 w122 w123 w124 w125 w126 w127 w128 w129 w130 w131 w132 w133 w134 w135 w136 w137 w138 w139 w140 w141 w142 w143 w144 w145 w146 w147 w148 w149 w150 w151 w152 w153 w154 w155 w156 w157 w158 w159 w160 w161 V hV
        have HR : Hid (upB (srcS x W H T ts nets) nn = false) := hide (upB_false hlt ((unhide HST).trans hh))
        have HV := hide ((unhide HF).trans hV)
        clear hh hV
        exact unhide HBAD (unhide HR) _ _ _ _ _ _ _ _ _ _ _ _ _ _ _ _ _ _ _ _ _ _ _ _ _ _ _ _ _ _ _ _ _ _ _ _ _ _ _ _ _ _ _ _ _ _ _ _ _ _ _ _ _ _ _ _ _ _ _ _ _ _ _ _ _ _ _ _ _ _ _ _ _ _ _ _ _ _ _ _ _ _ _ _ _ _ _ _ _ _ _ _ _ _ _ _ _ _ _ _ _ _ _ _ _ _ _ _ _ _ _ _ _ _ _ _ _ _ _ _ _ _ _ _ _ _ _ _ _ _ _ _ V (unhide HV)
      · intro hh w8 w11 w12 w13 w14 w15 w16 w17 w18 w45 w46 w47 w48 w49 w50 w51 w52 w53 w54 w55 w56 w57 w58 w59 w60 w61 w62 w63 w64 w65 w66 w67 w68 w69 w70 w71 w72 w73 w74 w75 w76 w77 w78 w79 w80 w81 w82 w83 w84 w85 w86 w87 w88 w89 w90 w91 w92 w93 w94 w95 w96 w97 w98 w99 w100 w101 w102 w103 w104 w105 w106 w107 w108 w109 w110 w111 w112 w113 w114 w115 w116 w117 w118 w119 w120 w121 w122 w123 w124 w125 w126 w127 w128 w129 w130 w131 w132 w133 w134 w135 w136 w137 w138 w139 w140 w141 w142 w143 w144 w145 w146 w147 w148 w149 w150 w151 w152 w153 w154 w155 w156 w157 w158 w159 w160 w161 V hV hbr
        have HR : Hid (upB (srcS x W H T ts nets) (k + 1) = true) := hide (by rw [upB_succ, unhide HUP, unhide HST, hh]; rfl)
        have HV := hide ((unhide HF).trans hV)
        have HBV := hide (show BR W T V ub N (nets.take (k + 1)).flatten by rw [unhide HFT]; exact hbr)
        clear hh hV hbr
        refine unhide HK2' _ _ ?_
        go_wp2_with fail
        go_roundw
        case rel => exact ⟨k + 1, by omega, by go_num, unhide HR, unhide HV, unhide HBV⟩
        case measure => simp [intOf]; omega
    · obtain rfl : k = nn := by omega
      go_wp2_with fail
      exact unhide HOK (unhide HUP) _ _ _ _ _ _ _ _ _ _ _ _ _ _ _ _ _ _ _ _ _ _ _ _ _ _ _ _ _ _ _ _ _ _ _ _ _ _ _ _ _ _ _ _ _ _ _ _ _ _ _ _ _ _ _ _ _ _ _ _ _ _ _ _ _ _ _ _ _ _ _ _ _ _ _ _ _ _ _ _ _ _ _ _ _ _ _ _ _ _ _ _ _ _ _ _ _ _ _ _ _ _ _ _ _ _ _ _ _ _ _ _ _ _ _ _ _ _ _ _ _ _ _ _ _ _ _ _ _ _ _ _ _ wr (unhide HF)
end Go.Proofs.YtlldfaniddbjaaaGreatDoor
