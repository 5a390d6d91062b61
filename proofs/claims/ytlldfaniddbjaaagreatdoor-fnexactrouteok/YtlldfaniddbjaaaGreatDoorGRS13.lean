/- The specification's RouteOK: all wires of a net. -/
import Derived.Test.YtlldfaniddbjaaaGreatDoorRS11
namespace Go.Proofs.YtlldfaniddbjaaaGreatDoor
open Go Go.RowKit Gs
set_option linter.unusedVariables false
set_option linter.unusedSimpArgs false
set_option maxRecDepth 100000
set_option maxHeartbeats 16000000
theorem roL2 {u0 u1 u2 u4 u6 u7 u8 u13 u14 u15 u16 u17 u18 u19 u20 u21 u22 u23 u24 u25 u26 u27 u28 u29 u30 u31 u32 u33 u34 u35 u36 u37 u38 u39 u40 u41 u42 u43 u44 u45 u46 u47 u48 u49 u50 u51 u52 u53 u54 u55 u56 u57 u58 u59 u60 u61 u62 u63 u64 u65 u66 u67 u68 u69 u70 u71 u72 u73 u74 u75 u76 u77 u78 u79 u80 u81 u82 u83 u84 u85 u86 u87 u88 u89 u90 u91 u92 u93 u94 u95 u96 u97 u98 u99 u100 u101 u102 u103 u104 u105 u106 u107 u108 u109 u110 u111 u112 u113 u114 u115 u116 u117 u118 u119 u120 u121 u122 u123 u124 u125 u126 u127 u128 u129 u130 u131 u132 u133 u134 u135 u136 u137 u138 u139 u140 u141 u142 u143 u144 u145 u146 u147 u148 u149 u150 u151 u152 u153 u154 u155 u156 u157 u158 u159 u160 u161 : Value} {W H T P nb no nn cn cb ub N s og n hc : Nat} {o1 o2 : Int} {hv : Option Addr} {seen net : List Hop} {W0 : World} {Q : Exit → Act → World → Prop} (hW : W ≤ 8) (hH : H ≤ 8) (hT : T ≤ 8) (hN : N = H * (W + 1) * 4 * T) (hN2 : N ≤ 2304) (hs : s < nn) (hnn : nn ≤ 1048576) (hn : n ≤ 1048576) (hnl : net.length = n) (hub : ub < W0.heap.size)
    (HTH : Hid (∀ y ∈ seen, thH W H T y = true)) (HBR : Hid (BR W T W0 ub N seen))
    (HCC : Hid (∀ V, Fx ub W0 V → V.cell? ⟨cb, 0, none⟩ = some (.int .i64 (W : Int)) ∧ V.cell? ⟨cb, 1, none⟩ = some (.int .i64 (H : Int)) ∧ V.cell? ⟨cb, 2, none⟩ = some (.int .i64 (T : Int)) ∧ V.cell? ⟨cb, 3, none⟩ = some (.int .i64 (P : Int)))) (HOW : Hid (∀ V, Fx ub W0 V → V.cell? ⟨og, 0, none⟩ = some (.int .i64 o1) ∧ V.cell? ⟨og, 1, none⟩ = some (.int .i64 o2)))
    (HNET : Hid (∀ V, Fx ub W0 V → V.cell? ⟨nb, no + s, none⟩ = some (.slice hv n hc)))
    (HHOP : Hid (∀ (i : Nat) (h : Hop), net[i]? = some h → ∃ hb ho, hv = some ⟨hb, ho, none⟩ ∧ ∀ V, Fx ub W0 V → V.cell? ⟨hb, ho + i * 5, none⟩ = some (.int .i64 h.x) ∧ V.cell? ⟨hb, ho + i * 5 + 1, none⟩ = some (.int .i64 h.y) ∧ V.cell? ⟨hb, ho + i * 5 + 2, none⟩ = some (.int .i64 h.d) ∧ V.cell? ⟨hb, ho + i * 5 + 3, none⟩ = some (.int .i64 h.t) ∧ V.cell? ⟨hb, ho + i * 5 + 4, none⟩ = some (.int .i64 h.f)))
    (hbad : upB (hopB W H T (o1, o2) seen net) n = false → ∀ (zi z13 z14 z15 z16 z50 z51 z52 z53 z54 z55 z56 z57 z58 z59 z60 z61 z62 z63 z64 z65 z66 z67 z68 z69 z70 z71 z72 z73 z74 z75 z76 z77 z78 z79 z80 z81 z82 z83 z84 z85 z86 z87 z88 z89 z90 z91 z92 z93 z94 z95 z96 z97 z98 z99 z100 z101 z102 z103 z104 z105 z106 z107 z108 z109 z110 z111 z112 z113 z114 z115 z116 z117 z118 z119 z120 z121 z122 z123 z124 z125 z126 z127 z128 z129 z130 z131 z132 z133 z134 z135 z136 z137 z138 z139 z140 : Value) V, Fx ub W0 V → Q .ret { tmps := (u0 :: u1 :: u2 :: .slice (some ⟨nb, no, none⟩) nn cn :: u4 :: .pointer (some ⟨cb, 0, none⟩) :: u6 :: u7 :: .bool false :: .slice (some ⟨ub, 0, none⟩) N N :: .int .i64 (s : Int) :: .pointer (some ⟨og, 0, none⟩) :: zi :: z13 :: z14 :: z15 :: z16 :: u17 :: u18 :: u19 :: u20 :: u21 :: u22 :: u23 :: u24 :: u25 :: u26 :: u27 :: u28 :: u29 :: u30 :: u31 :: u32 :: u33 :: u34 :: u35 :: u36 :: u37 :: u38 :: u39 :: u40 :: u41 :: u42 :: u43 :: u44 :: u45 :: u46 :: u47 :: u48 :: u49 :: z50 :: z51 :: z52 :: z53 :: z54 :: z55 :: z56 :: z57 :: z58 :: z59 :: z60 :: z61 :: z62 :: z63 :: z64 :: z65 :: z66 :: z67 :: z68 :: z69 :: z70 :: z71 :: z72 :: z73 :: z74 :: z75 :: z76 :: z77 :: z78 :: z79 :: z80 :: z81 :: z82 :: z83 :: z84 :: z85 :: z86 :: z87 :: z88 :: z89 :: z90 :: z91 :: z92 :: z93 :: z94 :: z95 :: z96 :: z97 :: z98 :: z99 :: z100 :: z101 :: z102 :: z103 :: z104 :: z105 :: z106 :: z107 :: z108 :: z109 :: z110 :: z111 :: z112 :: z113 :: z114 :: z115 :: z116 :: z117 :: z118 :: z119 :: z120 :: z121 :: z122 :: z123 :: z124 :: z125 :: z126 :: z127 :: z128 :: z129 :: z130 :: z131 :: z132 :: z133 :: z134 :: z135 :: z136 :: z137 :: z138 :: z139 :: z140 :: u141 :: u142 :: u143 :: u144 :: u145 :: u146 :: u147 :: u148 :: u149 :: u150 :: u151 :: u152 :: u153 :: u154 :: u155 :: u156 :: u157 :: u158 :: u159 :: u160 :: u161 :: []).toArray, defers := [] } V)
    (hok : upB (hopB W H T (o1, o2) seen net) n = true → ∀ (z8 zi z13 z14 z15 z16 z50 z51 z52 z53 z54 z55 z56 z57 z58 z59 z60 z61 z62 z63 z64 z65 z66 z67 z68 z69 z70 z71 z72 z73 z74 z75 z76 z77 z78 z79 z80 z81 z82 z83 z84 z85 z86 z87 z88 z89 z90 z91 z92 z93 z94 z95 z96 z97 z98 z99 z100 z101 z102 z103 z104 z105 z106 z107 z108 z109 z110 z111 z112 z113 z114 z115 z116 z117 z118 z119 z120 z121 z122 z123 z124 z125 z126 z127 z128 z129 z130 z131 z132 z133 z134 z135 z136 z137 z138 z139 z140 : Value) V, Fx ub W0 V → BR W T V ub N (seen ++ net) → Q (.exit 2) { tmps := (u0 :: u1 :: u2 :: .slice (some ⟨nb, no, none⟩) nn cn :: u4 :: .pointer (some ⟨cb, 0, none⟩) :: u6 :: u7 :: z8 :: .slice (some ⟨ub, 0, none⟩) N N :: .int .i64 (s : Int) :: .pointer (some ⟨og, 0, none⟩) :: zi :: z13 :: z14 :: z15 :: z16 :: u17 :: u18 :: u19 :: u20 :: u21 :: u22 :: u23 :: u24 :: u25 :: u26 :: u27 :: u28 :: u29 :: u30 :: u31 :: u32 :: u33 :: u34 :: u35 :: u36 :: u37 :: u38 :: u39 :: u40 :: u41 :: u42 :: u43 :: u44 :: u45 :: u46 :: u47 :: u48 :: u49 :: z50 :: z51 :: z52 :: z53 :: z54 :: z55 :: z56 :: z57 :: z58 :: z59 :: z60 :: z61 :: z62 :: z63 :: z64 :: z65 :: z66 :: z67 :: z68 :: z69 :: z70 :: z71 :: z72 :: z73 :: z74 :: z75 :: z76 :: z77 :: z78 :: z79 :: z80 :: z81 :: z82 :: z83 :: z84 :: z85 :: z86 :: z87 :: z88 :: z89 :: z90 :: z91 :: z92 :: z93 :: z94 :: z95 :: z96 :: z97 :: z98 :: z99 :: z100 :: z101 :: z102 :: z103 :: z104 :: z105 :: z106 :: z107 :: z108 :: z109 :: z110 :: z111 :: z112 :: z113 :: z114 :: z115 :: z116 :: z117 :: z118 :: z119 :: z120 :: z121 :: z122 :: z123 :: z124 :: z125 :: z126 :: z127 :: z128 :: z129 :: z130 :: z131 :: z132 :: z133 :: z134 :: z135 :: z136 :: z137 :: z138 :: z139 :: z140 :: u141 :: u142 :: u143 :: u144 :: u145 :: u146 :: u147 :: u148 :: u149 :: u150 :: u151 :: u152 :: u153 :: u154 :: u155 :: u156 :: u157 :: u158 :: u159 :: u160 :: u161 :: []).toArray, defers := [] } V) :
    Code.wp Tryz.prog (atB 2 (bodyOf Tryz.f6)) Q { tmps := (u0 :: u1 :: u2 :: .slice (some ⟨nb, no, none⟩) nn cn :: u4 :: .pointer (some ⟨cb, 0, none⟩) :: u6 :: u7 :: u8 :: .slice (some ⟨ub, 0, none⟩) N N :: .int .i64 (s : Int) :: .pointer (some ⟨og, 0, none⟩) :: .int .i64 0 :: u13 :: u14 :: u15 :: u16 :: u17 :: u18 :: u19 :: u20 :: u21 :: u22 :: u23 :: u24 :: u25 :: u26 :: u27 :: u28 :: u29 :: u30 :: u31 :: u32 :: u33 :: u34 :: u35 :: u36 :: u37 :: u38 :: u39 :: u40 :: u41 :: u42 :: u43 :: u44 :: u45 :: u46 :: u47 :: u48 :: u49 :: u50 :: u51 :: u52 :: u53 :: u54 :: u55 :: u56 :: u57 :: u58 :: u59 :: u60 :: u61 :: u62 :: u63 :: u64 :: u65 :: u66 :: u67 :: u68 :: u69 :: u70 :: u71 :: u72 :: u73 :: u74 :: u75 :: u76 :: u77 :: u78 :: u79 :: u80 :: u81 :: u82 :: u83 :: u84 :: u85 :: u86 :: u87 :: u88 :: u89 :: u90 :: u91 :: u92 :: u93 :: u94 :: u95 :: u96 :: u97 :: u98 :: u99 :: u100 :: u101 :: u102 :: u103 :: u104 :: u105 :: u106 :: u107 :: u108 :: u109 :: u110 :: u111 :: u112 :: u113 :: u114 :: u115 :: u116 :: u117 :: u118 :: u119 :: u120 :: u121 :: u122 :: u123 :: u124 :: u125 :: u126 :: u127 :: u128 :: u129 :: u130 :: u131 :: u132 :: u133 :: u134 :: u135 :: u136 :: u137 :: u138 :: u139 :: u140 :: u141 :: u142 :: u143 :: u144 :: u145 :: u146 :: u147 :: u148 :: u149 :: u150 :: u151 :: u152 :: u153 :: u154 :: u155 :: u156 :: u157 :: u158 :: u159 :: u160 :: u161 :: []).toArray, defers := [] } W0 := by
  have HBAD := hide hbad
  have HOK := hide hok
  have HNL := hide hnl
  have HHUB := hide hub
  have HNN := hide hN
  clear hbad hok hnl hN
  conv => arg 2; whnf
  go_loopw [12] (fun i wr => ∃ k : Nat, k ≤ n ∧ i = .int .i64 k ∧ upB (hopB W H T (o1, o2) seen net) k = true ∧ Fx ub W0 wr ∧ BR W T wr ub N (seen ++ net.take k)) (fun i wr => n - (intOf i).toNat)
  case atStart => exact ⟨0, Nat.zero_le _, rfl, rfl, Fx.refl _ _, by rw [List.take_zero, List.append_nil]; exact unhide HBR⟩
  case round =>
    obtain ⟨k, hk, rfl, hup, hf, hbr⟩ := hrel
    have n0 := unhide HNET wr hf
    have HUP := hide hup
    have HF := hide hf
    have HBK := hide hbr
    have i1 : (0 : Int) ≤ (s : Int) := by omega
    have i2 : (s : Int) < (nn : Int) := by omega
    clear hup hf hbr
    by_cases hlt : k < n
    · obtain ⟨h, hx⟩ : ∃ h, net[k]? = some h := ⟨_, List.getElem?_eq_getElem (by rw [unhide HNL]; exact hlt)⟩
      obtain ⟨hb, ho, hhv, _⟩ := unhide HHOP k h hx
      subst hhv
      obtain ⟨x, y, d, t, f⟩ := h
      have HXK := hide hx
      have HN2' : Hid (∀ V, Fx ub wr V → V.cell? ⟨nb, no + s, none⟩ = some (.slice (some ⟨hb, ho, none⟩) n hc)) := hide (fun V hV => unhide HNET V ((unhide HF).trans hV))
      have HH2 : Hid (∀ V, Fx ub wr V → ∀ (i : Nat) (h : Hop), net[i]? = some h → V.cell? ⟨hb, ho + i * 5, none⟩ = some (.int .i64 h.x) ∧ V.cell? ⟨hb, ho + i * 5 + 1, none⟩ = some (.int .i64 h.y) ∧ V.cell? ⟨hb, ho + i * 5 + 2, none⟩ = some (.int .i64 h.d) ∧ V.cell? ⟨hb, ho + i * 5 + 3, none⟩ = some (.int .i64 h.t) ∧ V.cell? ⟨hb, ho + i * 5 + 4, none⟩ = some (.int .i64 h.f)) := hide (fun V hV i h hi => by
        obtain ⟨b', o', e, hc'⟩ := unhide HHOP i h hi
        injection e with e
        injection e with e1 e2 e3
        subst e1 e2
        exact hc' V ((unhide HF).trans hV))
      have hubw : ub < wr.heap.size := Nat.lt_of_lt_of_le hub (unhide HF).size
      have HTH2 := hide (there_take (unhide HTH) (unhide HUP))
      have i4 : (k : Int) < (n : Int) := by omega
      clear hx
      refine wp_seq_k ?_
      intro K1 hK1
      have HK1' := hide hK1
      clear hK1
      go_wp2_with fail
      refine unhide HK1' _ _ ?_
      clear HK1'
      refine wp_seq_k ?_
      intro K2 hK2
      have HK2' := hide hK2
      clear hK2
      refine wp_block ?_
      refine roHop (H := H) (P := P) (n := n) (hc := hc) (nb := nb) (no := no) (cn := cn) (cb := cb) (og := og) hW hH hT (unhide HNN) hN2 hs hnn hlt hn hubw (unhide HXK) HTH2 HBK (hide (fun V hV => unhide HCC V ((unhide HF).trans hV))) (hide (fun V hV => unhide HOW V ((unhide HF).trans hV))) HN2' HH2 ?_ ?_ ?_
      · intro hh w13 w14 w15 w16 w59 w60 w61 w62 w63 w64 w65 w66 w67 w68 w69 w70 w71 w72 w73 w74 w75 w76 w77 w78 w79 w80 w81 w82 w83 w84 w85 w86 w87 w88 w89 w90 w91 w92 w93 w94 w95 w96 w97 w98 w99 w100 w101 w102 w103 w104 w105 w106 w107 w108 w109 w110 w111 w112 w113 w114 w115 w116 w117 w118 w119 w120 w121 w122 w123 w124 w125 w126 w127 w128 w129 w130 w131 w132 w133 w134 w135 w136 w137 w138 w139 w140 V hV
        have HR : Hid (upB (hopB W H T (o1, o2) seen net) n = false) := hide (upB_false hlt hh)
        have HV := hide ((unhide HF).trans hV)
        clear hh hV
        exact unhide HBAD (unhide HR) _ _ _ _ _ _ _ _ _ _ _ _ _ _ _ _ _ _ _ _ _ _ _ _ _ _ _ _ _ _ _ _ _ _ _ _ _ _ _ _ _ _ _ _ _ _ _ _ _ _ _ _ _ _ _ _ _ _ _ _ _ _ _ _ _ _ _ _ _ _ _ _ _ _ _ _ _ _ _ _ _ _ _ _ _ _ _ _ _ _ _ _ _ _ _ _ V (unhide HV)
      · intro hh w13 w14 w15 w16 w59 w60 w61 w62 w63 w64 w65 w66 w67 w68 w69 w70 w71 w72 w73 w74 w75 w76 w77 w78 w79 w80 w81 w82 w83 w84 w85 w86 w87 w88 w89 w90 w91 w92 w93 w94 w95 w96 w97 w98 w99 w100 w101 w102 w103 w104 w105 w106 w107 w108 w109 w110 w111 w112 w113 w114 w115 w116 w117 w118 w119 w120 w121 w122 w123 w124 w125 w126 w127 w128 w129 w130 w131 w132 w133 w134 w135 w136 w137 w138 w139 w140 V hV hbr
        have HR : Hid (upB (hopB W H T (o1, o2) seen net) (k + 1) = true) := hide (by rw [upB_succ, unhide HUP, hh]; rfl)
        have HV := hide ((unhide HF).trans hV)
        have HBV := hide hbr
        clear hh hV hbr
        refine unhide HK2' _ _ ?_
        go_wp2_with fail
        go_roundw
        case rel => exact ⟨k + 1, by omega, by go_num, unhide HR, unhide HV, unhide HBV⟩
        case measure => simp [intOf]; omega
      · intro hh w13 w14 w15 w16 w59 w60 w61 w62 w63 w64 w65 w66 w67 w68 w69 w70 w71 w72 w73 w74 w75 w76 w77 w78 w79 w80 w81 w82 w83 w84 w85 w86 w87 w88 w89 w90 w91 w92 w93 w94 w95 w96 w97 w98 w99 w100 w101 w102 w103 w104 w105 w106 w107 w108 w109 w110 w111 w112 w113 w114 w115 w116 w117 w118 w119 w120 w121 w122 w123 w124 w125 w126 w127 w128 w129 w130 w131 w132 w133 w134 w135 w136 w137 w138 w139 w140 V hV hbr
        have HR : Hid (upB (hopB W H T (o1, o2) seen net) (k + 1) = true) := hide (by rw [upB_succ, unhide HUP, hh]; rfl)
        have HV := hide ((unhide HF).trans hV)
        have HBV := hide hbr
        clear hh hV hbr
        refine unhide HK2' _ _ ?_
        go_wp2_with fail
        go_roundw
        case rel => exact ⟨k + 1, by omega, by go_num, unhide HR, unhide HV, unhide HBV⟩
        case measure => simp [intOf]; omega
    · obtain rfl : k = n := by omega
      have HBE : Hid (BR W T wr ub N (seen ++ net)) := hide (by
        have h := unhide HBK
        rwa [List.take_of_length_le (by rw [unhide HNL]; exact Nat.le_refl _)] at h)
      go_wp2_with fail
      exact unhide HOK (unhide HUP) _ _ _ _ _ _ _ _ _ _ _ _ _ _ _ _ _ _ _ _ _ _ _ _ _ _ _ _ _ _ _ _ _ _ _ _ _ _ _ _ _ _ _ _ _ _ _ _ _ _ _ _ _ _ _ _ _ _ _ _ _ _ _ _ _ _ _ _ _ _ _ _ _ _ _ _ _ _ _ _ _ _ _ _ _ _ _ _ _ _ _ _ _ _ _ _ _ wr (unhide HF) (unhide HBE)
end Go.Proofs.YtlldfaniddbjaaaGreatDoor
namespace Go.Proofs.YtlldfaniddbjaaaGreatDoor
open Go Go.RowKit Gs
set_option linter.unusedVariables false
set_option linter.unusedSimpArgs false
set_option maxRecDepth 100000
set_option maxHeartbeats 16000000
def FEn (nb no nn cn s n hc eb eo el ec k : Nat) (hv : Option Addr) (r1 r2 : Int) (q : Bool) : Nat → Value → Prop
  | 0, v => v = .slice (some ⟨nb, no, none⟩) nn cn
  | 1, v => v = .int .i64 (s : Int)
  | 2, v => v = .pointer (some ⟨nb, no + s, none⟩)
  | 3, v => v = .slice hv n hc
  | 4, v => v = .slice (some ⟨eb, eo, none⟩) el ec
  | 5, v => v = .int .i64 (k : Int)
  | 6, v => v = .pointer (some ⟨eb, eo + k * 2, none⟩)
  | 7, v => v = .agg #[.int .i64 r1, .int .i64 r2]
  | 8, v => v = .bool q
  | 9, v => v = .bool (!q)
  | _, _ => True

theorem all_take {α : Type} {p : α → Bool} {xs : List α} {k : Nat} {x : α} (h : xs[k]? = some x) : (xs.take (k + 1)).all p = ((xs.take k).all p && p x) := by
  rw [List.take_add_one, h, List.all_append]; simp
theorem all_false {α : Type} {p : α → Bool} {xs : List α} {k : Nat} {x : α} (h : xs[k]? = some x) (hp : p x = false) : xs.all p = false := by
  rw [← Bool.not_eq_true]
  intro e
  have := List.all_eq_true.1 e x (List.mem_of_getElem? h)
  rw [hp] at this
  cases this
theorem spot_cells {w : World} {ps : List (Int × Int)} {s : Option Addr} {l c : Nat} (h : RS 2 RSpot w 0 ps (.slice s l c)) : ∀ (k : Nat) p, ps[k]? = some p → ∃ b o, s = some ⟨b, o, none⟩ ∧ w.cell? ⟨b, o + k * 2, none⟩ = some (.int .i64 p.1) ∧ w.cell? ⟨b, o + k * 2 + 1, none⟩ = some (.int .i64 p.2) := by
  intro k p hk
  rcases h.open with ⟨rfl, _⟩ | ⟨b, o, c', hv, _, _, _, he⟩
  · simp at hk
  · injection hv with e1 e2 e3
    obtain ⟨u, hu, hat, hr⟩ := he k p hk
    have hr' : u = [.int .i64 p.1, .int .i64 p.2] := hr
    subst hr'
    exact ⟨b, o, e1, hat 0 _ rfl, hat 1 _ rfl⟩
theorem roL4 {u0 u1 u2 u4 u5 u6 u7 u8 u9 u11 u12 u13 u14 u15 u16 u19 u20 u21 u22 u23 u24 u25 u26 u27 u28 u29 u30 u31 u32 u33 u34 u35 u36 u37 u38 u39 u40 u41 u42 u43 u44 u45 u46 u47 u48 u49 u50 u51 u52 u53 u54 u55 u56 u57 u58 u59 u60 u61 u62 u63 u64 u65 u66 u67 u68 u69 u70 u71 u72 u73 u74 u75 u76 u77 u78 u79 u80 u81 u82 u83 u84 u85 u86 u87 u88 u89 u90 u91 u92 u93 u94 u95 u96 u97 u98 u99 u100 u101 u102 u103 u104 u105 u106 u107 u108 u109 u110 u111 u112 u113 u114 u115 u116 u117 u118 u119 u120 u121 u122 u123 u124 u125 u126 u127 u128 u129 u130 u131 u132 u133 u134 u135 u136 u137 u138 u139 u140 u141 u142 u143 u144 u145 u146 u147 u148 u149 u150 u151 u152 u153 u154 u155 u156 u157 u158 u159 u160 u161 : Value} {nb no nn cn s n hc el ec : Nat} {hv ea : Option Addr} {es : List (Int × Int)} {net : List Hop} {W0 : World} {Q : Exit → Act → World → Prop} (hs : s < nn) (hnn : nn ≤ 1048576) (hel : es.length = el) (hel2 : el ≤ 1048576)
    (HEN : Hid (RS 2 RSpot W0 0 es (.slice ea el ec)))
    (HNET : Hid (∀ V, Below W0.heap.size W0 V → V.cell? ⟨nb, no + s, none⟩ = some (.slice hv n hc)))
    (HREA : Hid (∀ V, Below W0.heap.size W0 V → ∀ r1 r2 : Int, Calls Tryz.prog 27 #[.slice hv n hc, .agg #[.int .i64 r1, .int .i64 r2]] V fun e w' => e = .returned (.bool (reachedB net (r1, r2))) ∧ Below V.heap.size V w'))
    (hbad : es.all (reachedB net) = false → ∀ (zi z146 z147 z148 z149 z150 z151 z152 z153 z154 z155 z156 z157 z158 z159 z160 z161 : Value) V, Below W0.heap.size W0 V → Q .ret { tmps := (u0 :: u1 :: u2 :: .slice (some ⟨nb, no, none⟩) nn cn :: u4 :: u5 :: u6 :: u7 :: .bool false :: u9 :: .int .i64 (s : Int) :: u11 :: u12 :: u13 :: u14 :: u15 :: u16 :: .slice ea el ec :: zi :: u19 :: u20 :: u21 :: u22 :: u23 :: u24 :: u25 :: u26 :: u27 :: u28 :: u29 :: u30 :: u31 :: u32 :: u33 :: u34 :: u35 :: u36 :: u37 :: u38 :: u39 :: u40 :: u41 :: u42 :: u43 :: u44 :: u45 :: u46 :: u47 :: u48 :: u49 :: u50 :: u51 :: u52 :: u53 :: u54 :: u55 :: u56 :: u57 :: u58 :: u59 :: u60 :: u61 :: u62 :: u63 :: u64 :: u65 :: u66 :: u67 :: u68 :: u69 :: u70 :: u71 :: u72 :: u73 :: u74 :: u75 :: u76 :: u77 :: u78 :: u79 :: u80 :: u81 :: u82 :: u83 :: u84 :: u85 :: u86 :: u87 :: u88 :: u89 :: u90 :: u91 :: u92 :: u93 :: u94 :: u95 :: u96 :: u97 :: u98 :: u99 :: u100 :: u101 :: u102 :: u103 :: u104 :: u105 :: u106 :: u107 :: u108 :: u109 :: u110 :: u111 :: u112 :: u113 :: u114 :: u115 :: u116 :: u117 :: u118 :: u119 :: u120 :: u121 :: u122 :: u123 :: u124 :: u125 :: u126 :: u127 :: u128 :: u129 :: u130 :: u131 :: u132 :: u133 :: u134 :: u135 :: u136 :: u137 :: u138 :: u139 :: u140 :: u141 :: u142 :: u143 :: u144 :: u145 :: z146 :: z147 :: z148 :: z149 :: z150 :: z151 :: z152 :: z153 :: z154 :: z155 :: z156 :: z157 :: z158 :: z159 :: z160 :: z161 :: []).toArray, defers := [] } V)
    (hok : es.all (reachedB net) = true → ∀ (z8 zi z146 z147 z148 z149 z150 z151 z152 z153 z154 z155 z156 z157 z158 z159 z160 z161 : Value) V, Below W0.heap.size W0 V → Q (.exit 4) { tmps := (u0 :: u1 :: u2 :: .slice (some ⟨nb, no, none⟩) nn cn :: u4 :: u5 :: u6 :: u7 :: z8 :: u9 :: .int .i64 (s : Int) :: u11 :: u12 :: u13 :: u14 :: u15 :: u16 :: .slice ea el ec :: zi :: u19 :: u20 :: u21 :: u22 :: u23 :: u24 :: u25 :: u26 :: u27 :: u28 :: u29 :: u30 :: u31 :: u32 :: u33 :: u34 :: u35 :: u36 :: u37 :: u38 :: u39 :: u40 :: u41 :: u42 :: u43 :: u44 :: u45 :: u46 :: u47 :: u48 :: u49 :: u50 :: u51 :: u52 :: u53 :: u54 :: u55 :: u56 :: u57 :: u58 :: u59 :: u60 :: u61 :: u62 :: u63 :: u64 :: u65 :: u66 :: u67 :: u68 :: u69 :: u70 :: u71 :: u72 :: u73 :: u74 :: u75 :: u76 :: u77 :: u78 :: u79 :: u80 :: u81 :: u82 :: u83 :: u84 :: u85 :: u86 :: u87 :: u88 :: u89 :: u90 :: u91 :: u92 :: u93 :: u94 :: u95 :: u96 :: u97 :: u98 :: u99 :: u100 :: u101 :: u102 :: u103 :: u104 :: u105 :: u106 :: u107 :: u108 :: u109 :: u110 :: u111 :: u112 :: u113 :: u114 :: u115 :: u116 :: u117 :: u118 :: u119 :: u120 :: u121 :: u122 :: u123 :: u124 :: u125 :: u126 :: u127 :: u128 :: u129 :: u130 :: u131 :: u132 :: u133 :: u134 :: u135 :: u136 :: u137 :: u138 :: u139 :: u140 :: u141 :: u142 :: u143 :: u144 :: u145 :: z146 :: z147 :: z148 :: z149 :: z150 :: z151 :: z152 :: z153 :: z154 :: z155 :: z156 :: z157 :: z158 :: z159 :: z160 :: z161 :: []).toArray, defers := [] } V) :
    Code.wp Tryz.prog (atB 4 (bodyOf Tryz.f6)) Q { tmps := (u0 :: u1 :: u2 :: .slice (some ⟨nb, no, none⟩) nn cn :: u4 :: u5 :: u6 :: u7 :: u8 :: u9 :: .int .i64 (s : Int) :: u11 :: u12 :: u13 :: u14 :: u15 :: u16 :: .slice ea el ec :: .int .i64 0 :: u19 :: u20 :: u21 :: u22 :: u23 :: u24 :: u25 :: u26 :: u27 :: u28 :: u29 :: u30 :: u31 :: u32 :: u33 :: u34 :: u35 :: u36 :: u37 :: u38 :: u39 :: u40 :: u41 :: u42 :: u43 :: u44 :: u45 :: u46 :: u47 :: u48 :: u49 :: u50 :: u51 :: u52 :: u53 :: u54 :: u55 :: u56 :: u57 :: u58 :: u59 :: u60 :: u61 :: u62 :: u63 :: u64 :: u65 :: u66 :: u67 :: u68 :: u69 :: u70 :: u71 :: u72 :: u73 :: u74 :: u75 :: u76 :: u77 :: u78 :: u79 :: u80 :: u81 :: u82 :: u83 :: u84 :: u85 :: u86 :: u87 :: u88 :: u89 :: u90 :: u91 :: u92 :: u93 :: u94 :: u95 :: u96 :: u97 :: u98 :: u99 :: u100 :: u101 :: u102 :: u103 :: u104 :: u105 :: u106 :: u107 :: u108 :: u109 :: u110 :: u111 :: u112 :: u113 :: u114 :: u115 :: u116 :: u117 :: u118 :: u119 :: u120 :: u121 :: u122 :: u123 :: u124 :: u125 :: u126 :: u127 :: u128 :: u129 :: u130 :: u131 :: u132 :: u133 :: u134 :: u135 :: u136 :: u137 :: u138 :: u139 :: u140 :: u141 :: u142 :: u143 :: u144 :: u145 :: u146 :: u147 :: u148 :: u149 :: u150 :: u151 :: u152 :: u153 :: u154 :: u155 :: u156 :: u157 :: u158 :: u159 :: u160 :: u161 :: []).toArray, defers := [] } W0 := by
  have HBAD := hide hbad
  have HOK := hide hok
  have HEL := hide hel
  clear hbad hok hel
  conv => arg 2; whnf
  go_loopw [18] (fun i wr => ∃ k : Nat, k ≤ el ∧ i = .int .i64 k ∧ (es.take k).all (reachedB net) = true ∧ Below W0.heap.size W0 wr) (fun i wr => el - (intOf i).toNat)
  case atStart => exact ⟨0, Nat.zero_le _, rfl, rfl, brf _⟩
  case round =>
    obtain ⟨k, hk, rfl, hup, hb⟩ := hrel
    have HUP := hide hup
    have HB := hide hb
    have i1 : (0 : Int) ≤ (s : Int) := by omega
    have i2 : (s : Int) < (nn : Int) := by omega
    clear hup hb
    by_cases hlt : k < el
    · obtain ⟨⟨r1, r2⟩, hx⟩ : ∃ r, es[k]? = some r := ⟨_, List.getElem?_eq_getElem (by rw [unhide HEL]; exact hlt)⟩
      obtain ⟨eb, eo, rfl, he0, he1⟩ := spot_cells (unhide HEN) k _ hx
      have HE0 := hide (cell_later (unhide HB) he0)
      have HE1 := hide (cell_later (unhide HB) he1)
      have hst := all_take (p := reachedB net) hx
      obtain ⟨q, hq⟩ : ∃ q, reachedB net (r1, r2) = q := ⟨_, rfl⟩
      have HRE := hide (fun V hV => unhide HREA V hV r1 r2)
      have HFL : Hid (q = false → es.all (reachedB net) = false) := hide (fun h => all_false hx (hq.trans h))
      rw [hq] at hst HRE
      rw [unhide HUP] at hst
      have HST := hide hst
      have i3 : (0 : Int) ≤ (k : Int) := by omega
      have i4 : (k : Int) < (el : Int) := by omega
      clear hx he0 he1 hst hq
      go_wp2_with fail
      refine wp_plan (GF (FEn nb no nn cn s n hc eb eo el ec k hv r1 r2 q)) (JB wr) (by kernel_rfl) 162 (by kernel_rfl) (by kernel_rfl) ?hj ?hs ?hf
      case hj => exact bdr (brf wr)
      case hs =>
        refine ⟨?_, ?_, ?_, ?_, ?_, ?_, ?_, ?_, ?_, ?_, trivial⟩
        · exact st_val rfl (fun l a V hp ha => ⟨.slice (some ⟨nb, no, none⟩) nn cn, by
            have x3 := (ev_form a 3).trans (old hp 3 (v := .slice (some ⟨nb, no, none⟩) nn cn) (by kernel_rfl) (by kernel_rfl))
            go_simp, rfl⟩)
        · exact st_val rfl (fun l a V hp ha => ⟨.int .i64 (s : Int), by
            have x10 := (ev_form a 10).trans (old hp 10 (v := .int .i64 (s : Int)) (by kernel_rfl) (by kernel_rfl))
            go_simp, rfl⟩)
        · exact st_val rfl (fun l a V hp ha => ⟨.pointer (some ⟨nb, no + s, none⟩), by
            have x152 := (ev_form a 152).trans (show a.eval (.tmp 152) = .slice (some ⟨nb, no, none⟩) nn cn from kn hp ha 152 0 (by kernel_rfl) (by kernel_rfl))
            have x153 := (ev_form a 153).trans (show a.eval (.tmp 153) = .int .i64 (s : Int) from kn hp ha 153 1 (by kernel_rfl) (by kernel_rfl))
            go_simp, rfl⟩)
        · exact st_val rfl (fun l a V hp ha => ⟨.slice hv n hc, by
            have x154 := (ev_form a 154).trans (show a.eval (.tmp 154) = .pointer (some ⟨nb, no + s, none⟩) from kn hp ha 154 2 (by kernel_rfl) (by kernel_rfl))
            have k0 := unhide HNET V (btr (unhide HB) hp.j)
            go_simp, rfl⟩)
        · exact st_val rfl (fun l a V hp ha => ⟨.slice (some ⟨eb, eo, none⟩) el ec, by
            have x17 := (ev_form a 17).trans (old hp 17 (v := .slice (some ⟨eb, eo, none⟩) el ec) (by kernel_rfl) (by kernel_rfl))
            go_simp, rfl⟩)
        · exact st_val rfl (fun l a V hp ha => ⟨.int .i64 (k : Int), by
            have x18 := (ev_form a 18).trans (old hp 18 (v := .int .i64 (k : Int)) (by kernel_rfl) (by kernel_rfl))
            go_simp, rfl⟩)
        · exact st_val rfl (fun l a V hp ha => ⟨.pointer (some ⟨eb, eo + k * 2, none⟩), by
            have x156 := (ev_form a 156).trans (show a.eval (.tmp 156) = .slice (some ⟨eb, eo, none⟩) el ec from kn hp ha 156 4 (by kernel_rfl) (by kernel_rfl))
            have x157 := (ev_form a 157).trans (show a.eval (.tmp 157) = .int .i64 (k : Int) from kn hp ha 157 5 (by kernel_rfl) (by kernel_rfl))
            go_simp, rfl⟩)
        · exact st_val rfl (fun l a V hp ha => ⟨.agg #[.int .i64 r1, .int .i64 r2], by
            have x158 := (ev_form a 158).trans (show a.eval (.tmp 158) = .pointer (some ⟨eb, eo + k * 2, none⟩) from kn hp ha 158 6 (by kernel_rfl) (by kernel_rfl))
            have k0 := cell_later hp.j (unhide HE0); have k1 := cell_later hp.j (unhide HE1)
            go_simp, rfl⟩)
        · exact st_call (f := 27) rfl (fun l a V hp ha => ⟨#[.slice hv n hc, .agg #[.int .i64 r1, .int .i64 r2]], by
            have x155 := (ev_form a 155).trans (show a.eval (.tmp 155) = .slice hv n hc from kn hp ha 155 3 (by kernel_rfl) (by kernel_rfl))
            have x159 := (ev_form a 159).trans (show a.eval (.tmp 159) = .agg #[.int .i64 r1, .int .i64 r2] from kn hp ha 159 7 (by kernel_rfl) (by kernel_rfl))
            go_simp, (unhide HRE V (btr (unhide HB) hp.j)).mono (by rintro e V1 ⟨rfl, hb⟩; exact ⟨_, rfl, rfl, hb⟩)⟩)
        · exact st_val rfl (fun l a V hp ha => ⟨.bool (!q), by
            have x160 := (ev_form a 160).trans (show a.eval (.tmp 160) = .bool q from kn hp ha 160 8 (by kernel_rfl) (by kernel_rfl))
            go_simp, rfl⟩)
      case hf =>
        intro l a W1 hp hall
        have B1 : Hid (Below wr.heap.size wr W1) := hide hp.j
        have hv161 := hp.good 9 _ 161 rfl rfl (hall 9 (by decide))
        obtain ⟨us1, rfl, hus⟩ := putAll_of [152, 153, 154, 155, 156, 157, 158, 159, 160, 161] hp.nt hp.df (fun t ht => hp.keep t (dstIn (by kernel_rfl) ht))
        have hw161 : us1 161 = .bool (!q) := by rw [hus 161]; exact hv161
        clear hp hall hus hv161
        simp only [putAll, List.foldl, Act.put, List.setIfInBounds_toArray, List.set_cons_zero, List.set_cons_succ, hw161]
        have HBW := hide (btr (unhide HB) (unhide B1))
        cases q
        · go_wp2_with fail
          exact unhide HBAD (unhide HFL (by simp)) _ _ _ _ _ _ _ _ _ _ _ _ _ _ _ _ _ W1 (unhide HBW)
        · go_wp2_with fail
          go_roundw
          case rel => exact ⟨k + 1, by omega, by go_num, by rw [unhide HST]; rfl, unhide HBW⟩
          case measure => simp [intOf]; omega
    · obtain rfl : k = el := by omega
      have HA : Hid (es.all (reachedB net) = true) := hide (by
        have h := unhide HUP
        rwa [List.take_of_length_le (by rw [unhide HEL]; exact Nat.le_refl _)] at h)
      go_wp2_with fail
      exact unhide HOK (unhide HA) _ _ _ _ _ _ _ _ _ _ _ _ _ _ _ _ _ _ wr (unhide HB)
end Go.Proofs.YtlldfaniddbjaaaGreatDoor
