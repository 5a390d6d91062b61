/- The specification's l12Ports. -/
import Derived.Test.YthbcokioijpofabGreatGk
import Derived.Test.YthbcokioijpofabGreatGc
import Derived.Test.YthbcokioijpofabGreatGi
import Derived.Test.YthbcokioijpofabGreatGe
namespace Go.Proofs.YthbcokioijpofabGreat
open Go Go.RowKit Gs
set_option linter.unusedVariables false
set_option linter.unusedSimpArgs false
set_option maxRecDepth 100000
/-- What l12Ports answers. -/
def portsB (VV : Nat) (ps : List Port) : Bool := ps.all (fun p : Port => plB p.src VV) && namesB (ps.map (fun p : Port => p.name))
set_option maxHeartbeats 16000000 in
theorem sPorts (VV : Nat) (ps : List Port) (v : Value) (w : World) (hl : ps.length ≤ 1048576) (hr : RS 2 RPort w 0 ps v) :
    Calls Tryz.prog 55 #[v, .int .i64 (VV : Int)] w fun e w' => e = .returned (.bool (portsB VV ps)) ∧ Below w.heap.size w w' := by
  obtain ⟨ap, cp, rfl⟩ := hr.slice
  have HCS : Hid (∀ (i : Nat) x, ps[i]? = some x → ∃ b o, ap = some ⟨b, o, none⟩ ∧ w.cell? ⟨b, o + i * 2, none⟩ = some (.string x.name) ∧ w.cell? ⟨b, o + i * 2 + 1, none⟩ = some (.int .i64 x.src) ∧ x.name.size ≤ maxLen) := hide (by
    intro i x hx
    rcases hr.open with ⟨rfl, _⟩ | ⟨b, o, c', hv, _, _, _, he⟩
    · simp at hx
    · injection hv with e1 e2 e3
      obtain ⟨u, hu, hat, hux, hs⟩ := he i x hx
      subst hux
      refine ⟨b, o, e1, ?_, ?_, hs⟩
      · simpa using hat.get (j := 0) rfl
      · simpa using hat.get (j := 1) rfl)
  clear hr
  obtain ⟨i0, hi, hz0, hz1, hz2⟩ := info_parts info9
  have HI := hide (And.intro hi (And.intro hz0 (And.intro hz1 hz2)))
  clear hi hz0 hz1 hz2
  go_enter Tryz.func55, Tryz.ntmps55
  go_wp2
  go_loopw [5, 6] (fun vn i wr => ∃ k : Nat, k ≤ ps.length ∧ i = .int .i64 k ∧ OS w.heap.size wr vn ((ps.take k).map (fun p : Port => p.name)) ∧ (ps.take k).all (fun p : Port => plB p.src VV) = true ∧ Below w.heap.size w wr) (fun vn i wr => ps.length - (intOf i).toNat)
  case atStart => exact ⟨0, Nat.zero_le _, rfl, OS_start rfl (Nat.le_refl _), rfl, bal (brf w) _⟩
  case round =>
    obtain ⟨k, hk, rfl, ho, hall, hb⟩ := hrel
    have HO := hide ho
    have HA := hide hall
    have HB := hide hb
    clear ho hall
    by_cases hlt : k < ps.length
    · have hx : ps[k]? = some ps[k] := List.getElem?_eq_getElem hlt
      have hmem : ps[k] ∈ ps := List.getElem_mem hlt
      generalize ps[k] = x at hx hmem
      have HST := hide (show (ps.take (k + 1)).map (fun p : Port => p.name) = (ps.take k).map (fun p : Port => p.name) ++ [x.name] by rw [List.take_add_one, hx, List.map_append]; rfl)
      have HLEN := hide (show ((ps.take k).map (fun p : Port => p.name)).length = k by rw [List.length_map, List.length_take]; omega)
      have HSA := hide (show (ps.take (k + 1)).all (fun p : Port => plB p.src VV) = ((ps.take k).all (fun p : Port => plB p.src VV) && plB x.src VV) by rw [List.take_add_one, hx, List.all_append]; simp)
      have HF : Hid (plB x.src VV = false → portsB VV ps = false) := hide (fun h => by
        unfold portsB
        rw [show ps.all (fun p : Port => plB p.src VV) = false from by rw [← Bool.not_eq_true]; intro e; rw [List.all_eq_true.1 e x hmem] at h; cases h]
        rfl)
      obtain ⟨b, o, rfl, hc0, hc1, hsz⟩ := unhide HCS k x hx
      have k0 := cell_later hb hc0
      have HZ := hide (fun (V : World) (hV : Below w.heap.size w V) => cell_later hV hc1)
      have HN := hide hsz
      have HSZ := hide hb.size
      have i1 : (0 : Int) ≤ (k : Int) := by omega
      have i2 : (k : Int) < (ps.length : Int) := by omega
      have HPL : Hid (plB x.src VV = (decide (0 ≤ x.src) && decide (x.src < (VV : Int)))) := hide rfl
      clear HCS hx hmem hc0 hc1 hsz hb
      generalize plB x.src VV = P at *
      generalize x.name = nm at *
      generalize x.src = z at *
      by_cases g1 : z < 0
      · have HFF : Hid (portsB VV ps = false) := hide (unhide HF (by rw [unhide HPL, decide_eq_false (p := 0 ≤ z) (by omega)]; rfl))
        go_wp2_with (first
          | (at_builtin; refine wpList_append_own _ rfl _ _ 22 rfl w.heap.size 9 i0 (.string ByteArray.empty) 1 16 Tryz.underlying22 (unhide HI).1 (unhide HI).2.1 (unhide HI).2.2.1 (unhide HI).2.2.2 rfl (by decide) _ _ _ rfl ((unhide HO).1.alloc _) ⟨wr.heap.size, 0, none⟩ 1 1 [.string nm] rfl rfl (newS _ _ _ rfl) (oneS _) (by have := unhide HLEN; unfold maxLen; omega) (by have := unhide HLEN; omega) (by have := unhide HSZ; simp; omega) ?_; intro v' w2 hown' hgrow _; have HB2 := hide (below_grown (bal (unhide HB) (.cells #[.string nm] 9)) hgrow (by have := unhide HSZ; simp; omega) (own_row (unhide HO).1)); have z2 := unhide HZ w2 (unhide HB2); clear hgrow hown')
          | fail)
        exact bodyPost_ret (v := .bool false) (by simp [results, Tryz.results55, go_sem]) rfl ⟨by rw [unhide HFF], unhide HB2⟩
      have a1 : decide (z < 0) = false := decide_eq_false g1
      by_cases g2 : (VV : Int) ≤ z
      · have HFF : Hid (portsB VV ps = false) := hide (unhide HF (by rw [unhide HPL, decide_eq_false (p := z < (VV : Int)) (by omega)]; simp))
        go_wp2_with (first
          | (at_builtin; refine wpList_append_own _ rfl _ _ 22 rfl w.heap.size 9 i0 (.string ByteArray.empty) 1 16 Tryz.underlying22 (unhide HI).1 (unhide HI).2.1 (unhide HI).2.2.1 (unhide HI).2.2.2 rfl (by decide) _ _ _ rfl ((unhide HO).1.alloc _) ⟨wr.heap.size, 0, none⟩ 1 1 [.string nm] rfl rfl (newS _ _ _ rfl) (oneS _) (by have := unhide HLEN; unfold maxLen; omega) (by have := unhide HLEN; omega) (by have := unhide HSZ; simp; omega) ?_; intro v' w2 hown' hgrow _; have HB2 := hide (below_grown (bal (unhide HB) (.cells #[.string nm] 9)) hgrow (by have := unhide HSZ; simp; omega) (own_row (unhide HO).1)); have z2 := unhide HZ w2 (unhide HB2); clear hgrow hown')
          | fail)
        exact bodyPost_ret (v := .bool false) (by simp [results, Tryz.results55, go_sem]) rfl ⟨by rw [unhide HFF], unhide HB2⟩
      have a2 : decide ((VV : Int) ≤ z) = false := decide_eq_false g2
      have HP : Hid (P = true) := hide (by rw [unhide HPL, decide_eq_true (p := 0 ≤ z) (by omega), decide_eq_true (p := z < (VV : Int)) (by omega)]; rfl)
      go_wp2_with (first
        | (at_builtin; refine wpList_append_own _ rfl _ _ 22 rfl w.heap.size 9 i0 (.string ByteArray.empty) 1 16 Tryz.underlying22 (unhide HI).1 (unhide HI).2.1 (unhide HI).2.2.1 (unhide HI).2.2.2 rfl (by decide) _ _ _ rfl ((unhide HO).1.alloc _) ⟨wr.heap.size, 0, none⟩ 1 1 [.string nm] rfl rfl (newS _ _ _ rfl) (oneS _) (by have := unhide HLEN; unfold maxLen; omega) (by have := unhide HLEN; omega) (by have := unhide HSZ; simp; omega) ?_; intro v' w2 hown' hgrow _; have HB2 := hide (below_grown (bal (unhide HB) (.cells #[.string nm] 9)) hgrow (by have := unhide HSZ; simp; omega) (own_row (unhide HO).1)); have z2 := unhide HZ w2 (unhide HB2); have HR1 : Hid (OS w.heap.size w2 v' ((ps.take (k + 1)).map (fun p : Port => p.name))) := hide (by rw [unhide HST]; exact OS.step hown' (unhide HO).2 (unhide HN)); clear hgrow hown')
        | fail)
      go_roundw
      case rel => exact ⟨k + 1, by omega, by go_num, unhide HR1, by rw [unhide HSA, unhide HA, unhide HP]; rfl, unhide HB2⟩
      case measure => simp [intOf]; omega
    · obtain rfl : k = ps.length := by omega
      have HR : Hid (portsB VV ps = namesB (ps.map (fun p : Port => p.name))) := hide (by
        have h := unhide HA
        rw [List.take_of_length_le (Nat.le_refl _)] at h
        unfold portsB
        rw [h]; rfl)
      have h := unhide HO
      rw [List.take_of_length_le (Nat.le_refl _)] at h
      have HNM := hide (sNames _ _ wr (by rw [List.length_map]; omega) (h.any (by rw [List.length_map]; omega)))
      clear h hb HCS HA HO
      go_wp2_with fail
      refine (unhide HNM).mono ?_
      rintro e W1 ⟨rfl, hb1⟩
      have HB1 := hide (btr (unhide HB) hb1)
      clear hb1
      go_wp2_with fail
      exact bodyPost_ret (v := .bool (namesB (ps.map (fun p : Port => p.name)))) (by simp [results, Tryz.results55, go_sem]) rfl ⟨by rw [unhide HR], unhide HB1⟩
end Go.Proofs.YthbcokioijpofabGreat
namespace Go.Proofs.YthbcokioijpofabGreat
open Go Go.RowKit Gs
set_option linter.unusedVariables false
set_option linter.unusedSimpArgs false
set_option maxRecDepth 100000
theorem own_ne {B : Nat} {v : Value} {xs : List ByteArray} {W : World} (h : OS B W v xs) {g : Nat} (hg : W.heap.size ≤ g) : some g ≠ v.ownBlock := fun e => by
  have := (World.ownsRow.lt h.1 g e.symm).2
  omega
def regS (VV n1 : Nat) (l : MapReg) : Bool := plB l.src VV && latchB n1 l
set_option maxHeartbeats 16000000 in
theorem sRegs {u0 u2 u3 u7 u8 u9 u10 u11 u12 u13 u14 u15 u16 u17 u18 u19 u20 u21 u22 u23 u24 u25 u26 u27 u28 u29 u30 u31 u32 u33 u34 u35 u36 u37 u38 u39 u40 u41 u42 u43 u44 u45 u46 u47 u48 u49 u50 u51 u52 u53 u54 u55 u56 u57 u58 u59 u60 u61 u62 u63 u64 u65 u66 u67 u68 u69 u70 u71 u72 u73 u74 u75 u76 u77 u78 u79 u80 u81 u82 u83 u84 u85 u86 u87 u88 u89 u90 u91 u92 u93 u94 u95 u96 u97 u98 u99 u100 u101 u102 u103 u104 u105 u106 u107 u108 u109 u110 u111 u112 u113 u114 u115 u116 u117 u118 u119 u120 u121 u122 u123 u124 u125 u126 u127 u128 u129 u130 u131 u132 u133 u134 u135 u136 u137 u138 u139 u140 u141 u142 u143 u144 u145 u146 u147 u148 u149 u150 u151 u152 u153 u154 u155 u156 u157 u158 u159 u160 u161 u162 u163 u164 u165 u166 u167 u168 u169 u170 u171 u172 u173 u174 u175 u176 u177 u178 u179 u180 u181 u182 u183 u184 u185 u186 u187 u188 u189 u190 u191 u192 u193 u194 u195 : Value} {pb l1 c1 l2 c2 VV : Nat} {s1 s2 : Option Addr} {v5 : Value} {ls : List MapReg} {W0 W : World} {Q : Exit → Act → World → Prop} (hn : l2 = ls.length) (hnb : ls.length ≤ 1048576) (HBX : Hid (∀ V, Below W0.heap.size W0 V → V.cell? ⟨pb, 1, none⟩ = some (.slice s1 l1 c1) ∧ V.cell? ⟨pb, 2, none⟩ = some (.slice s2 l2 c2)))
    (HCS : Hid (∀ (i : Nat) x, ls[i]? = some x → ∃ b o, s2 = some ⟨b, o, none⟩ ∧ W0.cell? ⟨b, o + i * 4, none⟩ = some (.string x.name) ∧ W0.cell? ⟨b, o + i * 4 + 1, none⟩ = some (.int .i64 x.src) ∧ W0.cell? ⟨b, o + i * 4 + 2, none⟩ = some (.int .i64 x.init) ∧ W0.cell? ⟨b, o + i * 4 + 3, none⟩ = some (.int .i64 x.clock) ∧ x.name.size ≤ maxLen))
    (HO0 : Hid (OS W0.heap.size W v5 [])) (HB0 : Hid (Below W0.heap.size W0 W))
    (hT : ls.all (regS VV l1) = true → ∀ (z2 z6 z7 z52 z53 z54 z55 z56 z57 z58 z59 z60 z61 z62 z63 z64 z65 z66 z67 z68 z69 z70 z71 z72 z73 z74 z75 z76 z77 z78 z79 z80 z81 z82 z83 z84 z85 z86 z87 z88 z89 z90 z91 z92 z93 z94 z95 z96 z97 z98 z99 z100 : Value) v V, OS W0.heap.size V v (ls.map (fun l : MapReg => l.name)) → Below W0.heap.size W0 V → Q (.exit 0) { tmps := (u0 :: .pointer (some ⟨pb, 0, none⟩) :: z2 :: u3 :: .int .i64 (VV : Int) :: v :: z6 :: z7 :: u8 :: u9 :: u10 :: u11 :: u12 :: u13 :: u14 :: u15 :: u16 :: u17 :: u18 :: u19 :: u20 :: u21 :: u22 :: u23 :: u24 :: u25 :: u26 :: u27 :: u28 :: u29 :: u30 :: u31 :: u32 :: u33 :: u34 :: u35 :: u36 :: u37 :: u38 :: u39 :: u40 :: u41 :: u42 :: u43 :: u44 :: u45 :: u46 :: u47 :: u48 :: u49 :: u50 :: u51 :: z52 :: z53 :: z54 :: z55 :: z56 :: z57 :: z58 :: z59 :: z60 :: z61 :: z62 :: z63 :: z64 :: z65 :: z66 :: z67 :: z68 :: z69 :: z70 :: z71 :: z72 :: z73 :: z74 :: z75 :: z76 :: z77 :: z78 :: z79 :: z80 :: z81 :: z82 :: z83 :: z84 :: z85 :: z86 :: z87 :: z88 :: z89 :: z90 :: z91 :: z92 :: z93 :: z94 :: z95 :: z96 :: z97 :: z98 :: z99 :: z100 :: u101 :: u102 :: u103 :: u104 :: u105 :: u106 :: u107 :: u108 :: u109 :: u110 :: u111 :: u112 :: u113 :: u114 :: u115 :: u116 :: u117 :: u118 :: u119 :: u120 :: u121 :: u122 :: u123 :: u124 :: u125 :: u126 :: u127 :: u128 :: u129 :: u130 :: u131 :: u132 :: u133 :: u134 :: u135 :: u136 :: u137 :: u138 :: u139 :: u140 :: u141 :: u142 :: u143 :: u144 :: u145 :: u146 :: u147 :: u148 :: u149 :: u150 :: u151 :: u152 :: u153 :: u154 :: u155 :: u156 :: u157 :: u158 :: u159 :: u160 :: u161 :: u162 :: u163 :: u164 :: u165 :: u166 :: u167 :: u168 :: u169 :: u170 :: u171 :: u172 :: u173 :: u174 :: u175 :: u176 :: u177 :: u178 :: u179 :: u180 :: u181 :: u182 :: u183 :: u184 :: u185 :: u186 :: u187 :: u188 :: u189 :: u190 :: u191 :: u192 :: u193 :: u194 :: u195 :: []).toArray, defers := [] } V)
    (hF : ls.all (regS VV l1) = false → ∀ (z6 z7 z52 z53 z54 z55 z56 z57 z58 z59 z60 z61 z62 z63 z64 z65 z66 z67 z68 z69 z70 z71 z72 z73 z74 z75 z76 z77 z78 z79 z80 z81 z82 z83 z84 z85 z86 z87 z88 z89 z90 z91 z92 z93 z94 z95 z96 z97 z98 z99 z100 : Value) v V, Below W0.heap.size W0 V → Q .ret { tmps := (u0 :: .pointer (some ⟨pb, 0, none⟩) :: .bool false :: u3 :: .int .i64 (VV : Int) :: v :: z6 :: z7 :: u8 :: u9 :: u10 :: u11 :: u12 :: u13 :: u14 :: u15 :: u16 :: u17 :: u18 :: u19 :: u20 :: u21 :: u22 :: u23 :: u24 :: u25 :: u26 :: u27 :: u28 :: u29 :: u30 :: u31 :: u32 :: u33 :: u34 :: u35 :: u36 :: u37 :: u38 :: u39 :: u40 :: u41 :: u42 :: u43 :: u44 :: u45 :: u46 :: u47 :: u48 :: u49 :: u50 :: u51 :: z52 :: z53 :: z54 :: z55 :: z56 :: z57 :: z58 :: z59 :: z60 :: z61 :: z62 :: z63 :: z64 :: z65 :: z66 :: z67 :: z68 :: z69 :: z70 :: z71 :: z72 :: z73 :: z74 :: z75 :: z76 :: z77 :: z78 :: z79 :: z80 :: z81 :: z82 :: z83 :: z84 :: z85 :: z86 :: z87 :: z88 :: z89 :: z90 :: z91 :: z92 :: z93 :: z94 :: z95 :: z96 :: z97 :: z98 :: z99 :: z100 :: u101 :: u102 :: u103 :: u104 :: u105 :: u106 :: u107 :: u108 :: u109 :: u110 :: u111 :: u112 :: u113 :: u114 :: u115 :: u116 :: u117 :: u118 :: u119 :: u120 :: u121 :: u122 :: u123 :: u124 :: u125 :: u126 :: u127 :: u128 :: u129 :: u130 :: u131 :: u132 :: u133 :: u134 :: u135 :: u136 :: u137 :: u138 :: u139 :: u140 :: u141 :: u142 :: u143 :: u144 :: u145 :: u146 :: u147 :: u148 :: u149 :: u150 :: u151 :: u152 :: u153 :: u154 :: u155 :: u156 :: u157 :: u158 :: u159 :: u160 :: u161 :: u162 :: u163 :: u164 :: u165 :: u166 :: u167 :: u168 :: u169 :: u170 :: u171 :: u172 :: u173 :: u174 :: u175 :: u176 :: u177 :: u178 :: u179 :: u180 :: u181 :: u182 :: u183 :: u184 :: u185 :: u186 :: u187 :: u188 :: u189 :: u190 :: u191 :: u192 :: u193 :: u194 :: u195 :: []).toArray, defers := [] } V) :
    Code.wp Tryz.prog (atB 0 (bodyOf Tryz.f22)) Q { tmps := (u0 :: .pointer (some ⟨pb, 0, none⟩) :: u2 :: u3 :: .int .i64 (VV : Int) :: v5 :: .int .i64 0 :: u7 :: u8 :: u9 :: u10 :: u11 :: u12 :: u13 :: u14 :: u15 :: u16 :: u17 :: u18 :: u19 :: u20 :: u21 :: u22 :: u23 :: u24 :: u25 :: u26 :: u27 :: u28 :: u29 :: u30 :: u31 :: u32 :: u33 :: u34 :: u35 :: u36 :: u37 :: u38 :: u39 :: u40 :: u41 :: u42 :: u43 :: u44 :: u45 :: u46 :: u47 :: u48 :: u49 :: u50 :: u51 :: u52 :: u53 :: u54 :: u55 :: u56 :: u57 :: u58 :: u59 :: u60 :: u61 :: u62 :: u63 :: u64 :: u65 :: u66 :: u67 :: u68 :: u69 :: u70 :: u71 :: u72 :: u73 :: u74 :: u75 :: u76 :: u77 :: u78 :: u79 :: u80 :: u81 :: u82 :: u83 :: u84 :: u85 :: u86 :: u87 :: u88 :: u89 :: u90 :: u91 :: u92 :: u93 :: u94 :: u95 :: u96 :: u97 :: u98 :: u99 :: u100 :: u101 :: u102 :: u103 :: u104 :: u105 :: u106 :: u107 :: u108 :: u109 :: u110 :: u111 :: u112 :: u113 :: u114 :: u115 :: u116 :: u117 :: u118 :: u119 :: u120 :: u121 :: u122 :: u123 :: u124 :: u125 :: u126 :: u127 :: u128 :: u129 :: u130 :: u131 :: u132 :: u133 :: u134 :: u135 :: u136 :: u137 :: u138 :: u139 :: u140 :: u141 :: u142 :: u143 :: u144 :: u145 :: u146 :: u147 :: u148 :: u149 :: u150 :: u151 :: u152 :: u153 :: u154 :: u155 :: u156 :: u157 :: u158 :: u159 :: u160 :: u161 :: u162 :: u163 :: u164 :: u165 :: u166 :: u167 :: u168 :: u169 :: u170 :: u171 :: u172 :: u173 :: u174 :: u175 :: u176 :: u177 :: u178 :: u179 :: u180 :: u181 :: u182 :: u183 :: u184 :: u185 :: u186 :: u187 :: u188 :: u189 :: u190 :: u191 :: u192 :: u193 :: u194 :: u195 :: []).toArray, defers := [] } W := by
  subst hn
  have HT := hide hT
  have HF := hide hF
  clear hT hF
  obtain ⟨i0, hi, hz0, hz1, hz2⟩ := info_parts info9
  have HI := hide (And.intro hi (And.intro hz0 (And.intro hz1 hz2)))
  clear hi hz0 hz1 hz2
  conv => arg 2; whnf
  go_loopw [5, 6] (fun vl i wr => ∃ k : Nat, k ≤ ls.length ∧ i = .int .i64 k ∧ OS W0.heap.size wr vl ((ls.take k).map (fun l : MapReg => l.name)) ∧ (ls.take k).all (regS VV l1) = true ∧ Below W0.heap.size W0 wr) (fun vl i wr => ls.length - (intOf i).toNat)
  case atStart => exact ⟨0, Nat.zero_le _, rfl, unhide HO0, rfl, unhide HB0⟩
  case round =>
    obtain ⟨k, hk, rfl, ho, hall, hb⟩ := hrel
    have HO := hide ho
    have HA := hide hall
    have HB := hide hb
    obtain ⟨q1, q2⟩ := unhide HBX wr hb
    clear ho hall
    by_cases hlt : k < ls.length
    · have hx : ls[k]? = some ls[k] := List.getElem?_eq_getElem hlt
      have hmem : ls[k] ∈ ls := List.getElem_mem hlt
      generalize ls[k] = x at hx hmem
      have HST := hide (show (ls.take (k + 1)).map (fun l : MapReg => l.name) = (ls.take k).map (fun l : MapReg => l.name) ++ [x.name] by rw [List.take_add_one, hx, List.map_append]; rfl)
      have HLEN := hide (show ((ls.take k).map (fun l : MapReg => l.name)).length = k by rw [List.length_map, List.length_take]; omega)
      have HSA := hide (show (ls.take (k + 1)).all (regS VV l1) = ((ls.take k).all (regS VV l1) && regS VV l1 x) by rw [List.take_add_one, hx, List.all_append]; simp)
      have HFF : Hid (regS VV l1 x = false → ls.all (regS VV l1) = false) := hide (fun h => by rw [← Bool.not_eq_true]; intro e; rw [List.all_eq_true.1 e x hmem] at h; cases h)
      have HDF : Hid (regS VV l1 x = ((decide (0 ≤ x.src) && decide (x.src < (VV : Int))) && ((decide (0 ≤ x.init) && decide (x.init < 2)) && (decide (0 ≤ x.clock) && decide (x.clock < (l1 : Int)))))) := hide rfl
      obtain ⟨b, o, rfl, hc0, hc1, hc2, hc3, hsz⟩ := unhide HCS k x hx
      have k0 := cell_later hb hc0
      have k1 := cell_later hb hc1
      have k2 := cell_later hb hc2
      have k3 := cell_later hb hc3
      have HN := hide hsz
      have HSZ := hide hb.size
      have i1 : (0 : Int) ≤ (k : Int) := by omega
      have i2 : (k : Int) < (ls.length : Int) := by omega
      clear hx hmem hc0 hc1 hc2 hc3 hsz hb
      generalize regS VV l1 x = LL at *
      generalize x.name = nm at *
      generalize x.src = z1 at *
      generalize x.init = z2 at *
      generalize x.clock = z3 at *
      by_cases g0 : z1 < 0
      · have HX := hide (unhide HF (unhide HFF (by rw [unhide HDF, decide_eq_false (p := 0 ≤ z1) (by omega)]; rfl)))
        clear HT HF HFF HDF HA HSA HCS
        go_wp2_with (first
          | (at_builtin; refine wpList_append_own _ rfl _ _ 22 rfl W0.heap.size 9 i0 (.string ByteArray.empty) 1 16 Tryz.underlying22 (unhide HI).1 (unhide HI).2.1 (unhide HI).2.2.1 (unhide HI).2.2.2 rfl (by decide) _ _ _ rfl (((unhide HO).1.alloc _).alloc _) ⟨wr.heap.size + 1, 0, none⟩ 1 1 [.string nm] rfl rfl (newS _ _ _ (by simp)) (oneS _) (by have := unhide HLEN; unfold maxLen; omega) (by have := unhide HLEN; omega) (by have := unhide HSZ; simp; omega) ?_; intro v' w2 hown' hgrow _; have HBB := hide (below_grown (bal (bal (unhide HB) (.cells #[.string nm, .int .i64 z1, .int .i64 z2, .int .i64 z3] 69)) (.cells #[.string nm] 9)) hgrow (by have := unhide HSZ; simp; omega) (own_row (unhide HO).1)); obtain ⟨r1, r2⟩ := unhide HBX w2 (unhide HBB); have m1 := hgrow.cell (cell_later (bal (brf (wr.alloc (.cells #[.string nm, .int .i64 z1, .int .i64 z2, .int .i64 z3] 69))) (.cells #[.string nm] 9)) (show (wr.alloc (.cells #[.string nm, .int .i64 z1, .int .i64 z2, .int .i64 z3] 69)).cell? ⟨wr.heap.size, 1, none⟩ = some (.int .i64 z1) by rw [World.cell?_alloc_new]; rfl)) (own_ne (unhide HO) (Nat.le_refl _)); have m2 := hgrow.cell (cell_later (bal (brf (wr.alloc (.cells #[.string nm, .int .i64 z1, .int .i64 z2, .int .i64 z3] 69))) (.cells #[.string nm] 9)) (show (wr.alloc (.cells #[.string nm, .int .i64 z1, .int .i64 z2, .int .i64 z3] 69)).cell? ⟨wr.heap.size, 2, none⟩ = some (.int .i64 z2) by rw [World.cell?_alloc_new]; rfl)) (own_ne (unhide HO) (Nat.le_refl _)); have m3 := hgrow.cell (cell_later (bal (brf (wr.alloc (.cells #[.string nm, .int .i64 z1, .int .i64 z2, .int .i64 z3] 69))) (.cells #[.string nm] 9)) (show (wr.alloc (.cells #[.string nm, .int .i64 z1, .int .i64 z2, .int .i64 z3] 69)).cell? ⟨wr.heap.size, 3, none⟩ = some (.int .i64 z3) by rw [World.cell?_alloc_new]; rfl)) (own_ne (unhide HO) (Nat.le_refl _)); have HR1 : Hid (OS W0.heap.size w2 v' ((ls.take (k + 1)).map (fun l : MapReg => l.name))) := hide (by rw [unhide HST]; exact OS.step hown' (unhide HO).2 (unhide HN)); clear hgrow hown' q1 q2 k0 k1 k2 k3)
          | fail)
        exact unhide HX _ _ _ _ _ _ _ _ _ _ _ _ _ _ _ _ _ _ _ _ _ _ _ _ _ _ _ _ _ _ _ _ _ _ _ _ _ _ _ _ _ _ _ _ _ _ _ _ _ _ _ v' w2 (unhide HBB)
      have a0 : decide (z1 < 0) = false := decide_eq_false g0
      by_cases g1 : (VV : Int) ≤ z1
      · have HX := hide (unhide HF (unhide HFF (by rw [unhide HDF, decide_eq_false (p := z1 < (VV : Int)) (by omega)]; simp)))
        clear HT HF HFF HDF HA HSA HCS
        go_wp2_with (first
          | (at_builtin; refine wpList_append_own _ rfl _ _ 22 rfl W0.heap.size 9 i0 (.string ByteArray.empty) 1 16 Tryz.underlying22 (unhide HI).1 (unhide HI).2.1 (unhide HI).2.2.1 (unhide HI).2.2.2 rfl (by decide) _ _ _ rfl (((unhide HO).1.alloc _).alloc _) ⟨wr.heap.size + 1, 0, none⟩ 1 1 [.string nm] rfl rfl (newS _ _ _ (by simp)) (oneS _) (by have := unhide HLEN; unfold maxLen; omega) (by have := unhide HLEN; omega) (by have := unhide HSZ; simp; omega) ?_; intro v' w2 hown' hgrow _; have HBB := hide (below_grown (bal (bal (unhide HB) (.cells #[.string nm, .int .i64 z1, .int .i64 z2, .int .i64 z3] 69)) (.cells #[.string nm] 9)) hgrow (by have := unhide HSZ; simp; omega) (own_row (unhide HO).1)); obtain ⟨r1, r2⟩ := unhide HBX w2 (unhide HBB); have m1 := hgrow.cell (cell_later (bal (brf (wr.alloc (.cells #[.string nm, .int .i64 z1, .int .i64 z2, .int .i64 z3] 69))) (.cells #[.string nm] 9)) (show (wr.alloc (.cells #[.string nm, .int .i64 z1, .int .i64 z2, .int .i64 z3] 69)).cell? ⟨wr.heap.size, 1, none⟩ = some (.int .i64 z1) by rw [World.cell?_alloc_new]; rfl)) (own_ne (unhide HO) (Nat.le_refl _)); have m2 := hgrow.cell (cell_later (bal (brf (wr.alloc (.cells #[.string nm, .int .i64 z1, .int .i64 z2, .int .i64 z3] 69))) (.cells #[.string nm] 9)) (show (wr.alloc (.cells #[.string nm, .int .i64 z1, .int .i64 z2, .int .i64 z3] 69)).cell? ⟨wr.heap.size, 2, none⟩ = some (.int .i64 z2) by rw [World.cell?_alloc_new]; rfl)) (own_ne (unhide HO) (Nat.le_refl _)); have m3 := hgrow.cell (cell_later (bal (brf (wr.alloc (.cells #[.string nm, .int .i64 z1, .int .i64 z2, .int .i64 z3] 69))) (.cells #[.string nm] 9)) (show (wr.alloc (.cells #[.string nm, .int .i64 z1, .int .i64 z2, .int .i64 z3] 69)).cell? ⟨wr.heap.size, 3, none⟩ = some (.int .i64 z3) by rw [World.cell?_alloc_new]; rfl)) (own_ne (unhide HO) (Nat.le_refl _)); have HR1 : Hid (OS W0.heap.size w2 v' ((ls.take (k + 1)).map (fun l : MapReg => l.name))) := hide (by rw [unhide HST]; exact OS.step hown' (unhide HO).2 (unhide HN)); clear hgrow hown' q1 q2 k0 k1 k2 k3)
          | fail)
        exact unhide HX _ _ _ _ _ _ _ _ _ _ _ _ _ _ _ _ _ _ _ _ _ _ _ _ _ _ _ _ _ _ _ _ _ _ _ _ _ _ _ _ _ _ _ _ _ _ _ _ _ _ _ v' w2 (unhide HBB)
      have a1 : decide ((VV : Int) ≤ z1) = false := decide_eq_false g1
      by_cases g2 : z2 < 0
      · have HX := hide (unhide HF (unhide HFF (by rw [unhide HDF, decide_eq_false (p := 0 ≤ z2) (by omega)]; simp)))
        clear HT HF HFF HDF HA HSA HCS
        go_wp2_with (first
          | (at_builtin; refine wpList_append_own _ rfl _ _ 22 rfl W0.heap.size 9 i0 (.string ByteArray.empty) 1 16 Tryz.underlying22 (unhide HI).1 (unhide HI).2.1 (unhide HI).2.2.1 (unhide HI).2.2.2 rfl (by decide) _ _ _ rfl (((unhide HO).1.alloc _).alloc _) ⟨wr.heap.size + 1, 0, none⟩ 1 1 [.string nm] rfl rfl (newS _ _ _ (by simp)) (oneS _) (by have := unhide HLEN; unfold maxLen; omega) (by have := unhide HLEN; omega) (by have := unhide HSZ; simp; omega) ?_; intro v' w2 hown' hgrow _; have HBB := hide (below_grown (bal (bal (unhide HB) (.cells #[.string nm, .int .i64 z1, .int .i64 z2, .int .i64 z3] 69)) (.cells #[.string nm] 9)) hgrow (by have := unhide HSZ; simp; omega) (own_row (unhide HO).1)); obtain ⟨r1, r2⟩ := unhide HBX w2 (unhide HBB); have m1 := hgrow.cell (cell_later (bal (brf (wr.alloc (.cells #[.string nm, .int .i64 z1, .int .i64 z2, .int .i64 z3] 69))) (.cells #[.string nm] 9)) (show (wr.alloc (.cells #[.string nm, .int .i64 z1, .int .i64 z2, .int .i64 z3] 69)).cell? ⟨wr.heap.size, 1, none⟩ = some (.int .i64 z1) by rw [World.cell?_alloc_new]; rfl)) (own_ne (unhide HO) (Nat.le_refl _)); have m2 := hgrow.cell (cell_later (bal (brf (wr.alloc (.cells #[.string nm, .int .i64 z1, .int .i64 z2, .int .i64 z3] 69))) (.cells #[.string nm] 9)) (show (wr.alloc (.cells #[.string nm, .int .i64 z1, .int .i64 z2, .int .i64 z3] 69)).cell? ⟨wr.heap.size, 2, none⟩ = some (.int .i64 z2) by rw [World.cell?_alloc_new]; rfl)) (own_ne (unhide HO) (Nat.le_refl _)); have m3 := hgrow.cell (cell_later (bal (brf (wr.alloc (.cells #[.string nm, .int .i64 z1, .int .i64 z2, .int .i64 z3] 69))) (.cells #[.string nm] 9)) (show (wr.alloc (.cells #[.string nm, .int .i64 z1, .int .i64 z2, .int .i64 z3] 69)).cell? ⟨wr.heap.size, 3, none⟩ = some (.int .i64 z3) by rw [World.cell?_alloc_new]; rfl)) (own_ne (unhide HO) (Nat.le_refl _)); have HR1 : Hid (OS W0.heap.size w2 v' ((ls.take (k + 1)).map (fun l : MapReg => l.name))) := hide (by rw [unhide HST]; exact OS.step hown' (unhide HO).2 (unhide HN)); clear hgrow hown' q1 q2 k0 k1 k2 k3)
          | fail)
        exact unhide HX _ _ _ _ _ _ _ _ _ _ _ _ _ _ _ _ _ _ _ _ _ _ _ _ _ _ _ _ _ _ _ _ _ _ _ _ _ _ _ _ _ _ _ _ _ _ _ _ _ _ _ v' w2 (unhide HBB)
      have a2 : decide (z2 < 0) = false := decide_eq_false g2
      by_cases g3 : 1 < z2
      · have HX := hide (unhide HF (unhide HFF (by rw [unhide HDF, decide_eq_false (p := z2 < 2) (by omega)]; simp)))
        clear HT HF HFF HDF HA HSA HCS
        go_wp2_with (first
          | (at_builtin; refine wpList_append_own _ rfl _ _ 22 rfl W0.heap.size 9 i0 (.string ByteArray.empty) 1 16 Tryz.underlying22 (unhide HI).1 (unhide HI).2.1 (unhide HI).2.2.1 (unhide HI).2.2.2 rfl (by decide) _ _ _ rfl (((unhide HO).1.alloc _).alloc _) ⟨wr.heap.size + 1, 0, none⟩ 1 1 [.string nm] rfl rfl (newS _ _ _ (by simp)) (oneS _) (by have := unhide HLEN; unfold maxLen; omega) (by have := unhide HLEN; omega) (by have := unhide HSZ; simp; omega) ?_; intro v' w2 hown' hgrow _; have HBB := hide (below_grown (bal (bal (unhide HB) (.cells #[.string nm, .int .i64 z1, .int .i64 z2, .int .i64 z3] 69)) (.cells #[.string nm] 9)) hgrow (by have := unhide HSZ; simp; omega) (own_row (unhide HO).1)); obtain ⟨r1, r2⟩ := unhide HBX w2 (unhide HBB); have m1 := hgrow.cell (cell_later (bal (brf (wr.alloc (.cells #[.string nm, .int .i64 z1, .int .i64 z2, .int .i64 z3] 69))) (.cells #[.string nm] 9)) (show (wr.alloc (.cells #[.string nm, .int .i64 z1, .int .i64 z2, .int .i64 z3] 69)).cell? ⟨wr.heap.size, 1, none⟩ = some (.int .i64 z1) by rw [World.cell?_alloc_new]; rfl)) (own_ne (unhide HO) (Nat.le_refl _)); have m2 := hgrow.cell (cell_later (bal (brf (wr.alloc (.cells #[.string nm, .int .i64 z1, .int .i64 z2, .int .i64 z3] 69))) (.cells #[.string nm] 9)) (show (wr.alloc (.cells #[.string nm, .int .i64 z1, .int .i64 z2, .int .i64 z3] 69)).cell? ⟨wr.heap.size, 2, none⟩ = some (.int .i64 z2) by rw [World.cell?_alloc_new]; rfl)) (own_ne (unhide HO) (Nat.le_refl _)); have m3 := hgrow.cell (cell_later (bal (brf (wr.alloc (.cells #[.string nm, .int .i64 z1, .int .i64 z2, .int .i64 z3] 69))) (.cells #[.string nm] 9)) (show (wr.alloc (.cells #[.string nm, .int .i64 z1, .int .i64 z2, .int .i64 z3] 69)).cell? ⟨wr.heap.size, 3, none⟩ = some (.int .i64 z3) by rw [World.cell?_alloc_new]; rfl)) (own_ne (unhide HO) (Nat.le_refl _)); have HR1 : Hid (OS W0.heap.size w2 v' ((ls.take (k + 1)).map (fun l : MapReg => l.name))) := hide (by rw [unhide HST]; exact OS.step hown' (unhide HO).2 (unhide HN)); clear hgrow hown' q1 q2 k0 k1 k2 k3)
          | fail)
        exact unhide HX _ _ _ _ _ _ _ _ _ _ _ _ _ _ _ _ _ _ _ _ _ _ _ _ _ _ _ _ _ _ _ _ _ _ _ _ _ _ _ _ _ _ _ _ _ _ _ _ _ _ _ v' w2 (unhide HBB)
      have a3 : decide (1 < z2) = false := decide_eq_false g3
      by_cases g4 : z3 < 0
      · have HX := hide (unhide HF (unhide HFF (by rw [unhide HDF, decide_eq_false (p := 0 ≤ z3) (by omega)]; simp)))
        clear HT HF HFF HDF HA HSA HCS
        go_wp2_with (first
          | (at_builtin; refine wpList_append_own _ rfl _ _ 22 rfl W0.heap.size 9 i0 (.string ByteArray.empty) 1 16 Tryz.underlying22 (unhide HI).1 (unhide HI).2.1 (unhide HI).2.2.1 (unhide HI).2.2.2 rfl (by decide) _ _ _ rfl (((unhide HO).1.alloc _).alloc _) ⟨wr.heap.size + 1, 0, none⟩ 1 1 [.string nm] rfl rfl (newS _ _ _ (by simp)) (oneS _) (by have := unhide HLEN; unfold maxLen; omega) (by have := unhide HLEN; omega) (by have := unhide HSZ; simp; omega) ?_; intro v' w2 hown' hgrow _; have HBB := hide (below_grown (bal (bal (unhide HB) (.cells #[.string nm, .int .i64 z1, .int .i64 z2, .int .i64 z3] 69)) (.cells #[.string nm] 9)) hgrow (by have := unhide HSZ; simp; omega) (own_row (unhide HO).1)); obtain ⟨r1, r2⟩ := unhide HBX w2 (unhide HBB); have m1 := hgrow.cell (cell_later (bal (brf (wr.alloc (.cells #[.string nm, .int .i64 z1, .int .i64 z2, .int .i64 z3] 69))) (.cells #[.string nm] 9)) (show (wr.alloc (.cells #[.string nm, .int .i64 z1, .int .i64 z2, .int .i64 z3] 69)).cell? ⟨wr.heap.size, 1, none⟩ = some (.int .i64 z1) by rw [World.cell?_alloc_new]; rfl)) (own_ne (unhide HO) (Nat.le_refl _)); have m2 := hgrow.cell (cell_later (bal (brf (wr.alloc (.cells #[.string nm, .int .i64 z1, .int .i64 z2, .int .i64 z3] 69))) (.cells #[.string nm] 9)) (show (wr.alloc (.cells #[.string nm, .int .i64 z1, .int .i64 z2, .int .i64 z3] 69)).cell? ⟨wr.heap.size, 2, none⟩ = some (.int .i64 z2) by rw [World.cell?_alloc_new]; rfl)) (own_ne (unhide HO) (Nat.le_refl _)); have m3 := hgrow.cell (cell_later (bal (brf (wr.alloc (.cells #[.string nm, .int .i64 z1, .int .i64 z2, .int .i64 z3] 69))) (.cells #[.string nm] 9)) (show (wr.alloc (.cells #[.string nm, .int .i64 z1, .int .i64 z2, .int .i64 z3] 69)).cell? ⟨wr.heap.size, 3, none⟩ = some (.int .i64 z3) by rw [World.cell?_alloc_new]; rfl)) (own_ne (unhide HO) (Nat.le_refl _)); have HR1 : Hid (OS W0.heap.size w2 v' ((ls.take (k + 1)).map (fun l : MapReg => l.name))) := hide (by rw [unhide HST]; exact OS.step hown' (unhide HO).2 (unhide HN)); clear hgrow hown' q1 q2 k0 k1 k2 k3)
          | fail)
        exact unhide HX _ _ _ _ _ _ _ _ _ _ _ _ _ _ _ _ _ _ _ _ _ _ _ _ _ _ _ _ _ _ _ _ _ _ _ _ _ _ _ _ _ _ _ _ _ _ _ _ _ _ _ v' w2 (unhide HBB)
      have a4 : decide (z3 < 0) = false := decide_eq_false g4
      by_cases g5 : (l1 : Int) ≤ z3
      · have HX := hide (unhide HF (unhide HFF (by rw [unhide HDF, decide_eq_false (p := z3 < (l1 : Int)) (by omega)]; simp)))
        clear HT HF HFF HDF HA HSA HCS
        go_wp2_with (first
          | (at_builtin; refine wpList_append_own _ rfl _ _ 22 rfl W0.heap.size 9 i0 (.string ByteArray.empty) 1 16 Tryz.underlying22 (unhide HI).1 (unhide HI).2.1 (unhide HI).2.2.1 (unhide HI).2.2.2 rfl (by decide) _ _ _ rfl (((unhide HO).1.alloc _).alloc _) ⟨wr.heap.size + 1, 0, none⟩ 1 1 [.string nm] rfl rfl (newS _ _ _ (by simp)) (oneS _) (by have := unhide HLEN; unfold maxLen; omega) (by have := unhide HLEN; omega) (by have := unhide HSZ; simp; omega) ?_; intro v' w2 hown' hgrow _; have HBB := hide (below_grown (bal (bal (unhide HB) (.cells #[.string nm, .int .i64 z1, .int .i64 z2, .int .i64 z3] 69)) (.cells #[.string nm] 9)) hgrow (by have := unhide HSZ; simp; omega) (own_row (unhide HO).1)); obtain ⟨r1, r2⟩ := unhide HBX w2 (unhide HBB); have m1 := hgrow.cell (cell_later (bal (brf (wr.alloc (.cells #[.string nm, .int .i64 z1, .int .i64 z2, .int .i64 z3] 69))) (.cells #[.string nm] 9)) (show (wr.alloc (.cells #[.string nm, .int .i64 z1, .int .i64 z2, .int .i64 z3] 69)).cell? ⟨wr.heap.size, 1, none⟩ = some (.int .i64 z1) by rw [World.cell?_alloc_new]; rfl)) (own_ne (unhide HO) (Nat.le_refl _)); have m2 := hgrow.cell (cell_later (bal (brf (wr.alloc (.cells #[.string nm, .int .i64 z1, .int .i64 z2, .int .i64 z3] 69))) (.cells #[.string nm] 9)) (show (wr.alloc (.cells #[.string nm, .int .i64 z1, .int .i64 z2, .int .i64 z3] 69)).cell? ⟨wr.heap.size, 2, none⟩ = some (.int .i64 z2) by rw [World.cell?_alloc_new]; rfl)) (own_ne (unhide HO) (Nat.le_refl _)); have m3 := hgrow.cell (cell_later (bal (brf (wr.alloc (.cells #[.string nm, .int .i64 z1, .int .i64 z2, .int .i64 z3] 69))) (.cells #[.string nm] 9)) (show (wr.alloc (.cells #[.string nm, .int .i64 z1, .int .i64 z2, .int .i64 z3] 69)).cell? ⟨wr.heap.size, 3, none⟩ = some (.int .i64 z3) by rw [World.cell?_alloc_new]; rfl)) (own_ne (unhide HO) (Nat.le_refl _)); have HR1 : Hid (OS W0.heap.size w2 v' ((ls.take (k + 1)).map (fun l : MapReg => l.name))) := hide (by rw [unhide HST]; exact OS.step hown' (unhide HO).2 (unhide HN)); clear hgrow hown' q1 q2 k0 k1 k2 k3)
          | fail)
        exact unhide HX _ _ _ _ _ _ _ _ _ _ _ _ _ _ _ _ _ _ _ _ _ _ _ _ _ _ _ _ _ _ _ _ _ _ _ _ _ _ _ _ _ _ _ _ _ _ _ _ _ _ _ v' w2 (unhide HBB)
      have a5 : decide ((l1 : Int) ≤ z3) = false := decide_eq_false g5
      have HLL : Hid (LL = true) := hide (by rw [unhide HDF, decide_eq_true (p := 0 ≤ z1) (by omega), decide_eq_true (p := z1 < (VV : Int)) (by omega), decide_eq_true (p := 0 ≤ z2) (by omega), decide_eq_true (p := z2 < 2) (by omega), decide_eq_true (p := 0 ≤ z3) (by omega), decide_eq_true (p := z3 < (l1 : Int)) (by omega)]; rfl)
      clear HT HF HFF HDF HCS
      go_wp2_with (first
        | (at_builtin; refine wpList_append_own _ rfl _ _ 22 rfl W0.heap.size 9 i0 (.string ByteArray.empty) 1 16 Tryz.underlying22 (unhide HI).1 (unhide HI).2.1 (unhide HI).2.2.1 (unhide HI).2.2.2 rfl (by decide) _ _ _ rfl (((unhide HO).1.alloc _).alloc _) ⟨wr.heap.size + 1, 0, none⟩ 1 1 [.string nm] rfl rfl (newS _ _ _ (by simp)) (oneS _) (by have := unhide HLEN; unfold maxLen; omega) (by have := unhide HLEN; omega) (by have := unhide HSZ; simp; omega) ?_; intro v' w2 hown' hgrow _; have HBB := hide (below_grown (bal (bal (unhide HB) (.cells #[.string nm, .int .i64 z1, .int .i64 z2, .int .i64 z3] 69)) (.cells #[.string nm] 9)) hgrow (by have := unhide HSZ; simp; omega) (own_row (unhide HO).1)); obtain ⟨r1, r2⟩ := unhide HBX w2 (unhide HBB); have m1 := hgrow.cell (cell_later (bal (brf (wr.alloc (.cells #[.string nm, .int .i64 z1, .int .i64 z2, .int .i64 z3] 69))) (.cells #[.string nm] 9)) (show (wr.alloc (.cells #[.string nm, .int .i64 z1, .int .i64 z2, .int .i64 z3] 69)).cell? ⟨wr.heap.size, 1, none⟩ = some (.int .i64 z1) by rw [World.cell?_alloc_new]; rfl)) (own_ne (unhide HO) (Nat.le_refl _)); have m2 := hgrow.cell (cell_later (bal (brf (wr.alloc (.cells #[.string nm, .int .i64 z1, .int .i64 z2, .int .i64 z3] 69))) (.cells #[.string nm] 9)) (show (wr.alloc (.cells #[.string nm, .int .i64 z1, .int .i64 z2, .int .i64 z3] 69)).cell? ⟨wr.heap.size, 2, none⟩ = some (.int .i64 z2) by rw [World.cell?_alloc_new]; rfl)) (own_ne (unhide HO) (Nat.le_refl _)); have m3 := hgrow.cell (cell_later (bal (brf (wr.alloc (.cells #[.string nm, .int .i64 z1, .int .i64 z2, .int .i64 z3] 69))) (.cells #[.string nm] 9)) (show (wr.alloc (.cells #[.string nm, .int .i64 z1, .int .i64 z2, .int .i64 z3] 69)).cell? ⟨wr.heap.size, 3, none⟩ = some (.int .i64 z3) by rw [World.cell?_alloc_new]; rfl)) (own_ne (unhide HO) (Nat.le_refl _)); have HR1 : Hid (OS W0.heap.size w2 v' ((ls.take (k + 1)).map (fun l : MapReg => l.name))) := hide (by rw [unhide HST]; exact OS.step hown' (unhide HO).2 (unhide HN)); clear hgrow hown' q1 q2 k0 k1 k2 k3)
        | fail)
      go_roundw
      case rel => exact ⟨k + 1, by omega, by go_num, unhide HR1, by rw [unhide HSA, unhide HA, unhide HLL]; rfl, unhide HBB⟩
      case measure => simp [intOf]; omega
    · obtain rfl : k = ls.length := by omega
      have HX := hide (unhide HT (by have h := unhide HA; rwa [List.take_of_length_le (Nat.le_refl _)] at h))
      have HO2 : Hid (OS W0.heap.size wr u5 (ls.map (fun l : MapReg => l.name))) := hide (by have h := unhide HO; rwa [List.take_of_length_le (Nat.le_refl _)] at h)
      clear hb HT HF HCS HO HA
      go_wp2
      exact unhide HX _ _ _ _ _ _ _ _ _ _ _ _ _ _ _ _ _ _ _ _ _ _ _ _ _ _ _ _ _ _ _ _ _ _ _ _ _ _ _ _ _ _ _ _ _ _ _ _ _ _ _ _ u5 wr (unhide HO2) (unhide HB)
end Go.Proofs.YthbcokioijpofabGreat
