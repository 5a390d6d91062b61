/- The specification's PackOK: the loop over the blocks. -/
import Derived.Test.YtlldfaniddbjaaaGreatDoorSN1
import Derived.Test.YtlldfaniddbjaaaGreatDoorGSP
namespace Go.Proofs.YtlldfaniddbjaaaGreatDoor
open Go Go.RowKit Gs
set_option linter.unusedVariables false
set_option linter.unusedSimpArgs false
set_option maxRecDepth 100000
theorem own_ne {B : Nat} {v : Value} {xs : List ByteArray} {W : World} (h : OS B W v xs) {g : Nat} (hg : W.heap.size ≤ g) : some g ≠ v.ownBlock := fun e => by
  have := (World.ownsRow.lt h.1 g e.symm).2
  omega
/-- What the specification looks at of a block. -/
def blkS (FA : Nat) (bs : List Block) (nc N i : Nat) (b : Block) : Bool := regB nc b && (decide (b.inp.length ≤ 4) && (decide (0 ≤ b.table) && (decide (b.table ≤ ((tmask b.inp.length : Nat) : Int)) && srcsB FA bs i b.reg N b.inp)))
def blkSAt (FA : Nat) (bs : List Block) (nc N k : Nat) : Bool := blkS FA bs nc N k (bs.getD k blk0)
theorem blkSAt_at {FA : Nat} {bs : List Block} {nc N k : Nat} {b : Block} (h : bs[k]? = some b) : blkSAt FA bs nc N k = blkS FA bs nc N k b := by
  unfold blkSAt
  rw [show bs.getD k blk0 = b by rw [List.getD_eq_getElem?_getD, h]; rfl]
theorem blkS_eq (FA : Nat) (bs : List Block) (nc i : Nat) (b : Block) : blkS FA bs nc (FA + bs.length) i b = blkB FA bs nc i b := by
  unfold blkS blkB lutB
  rw [srcs_eq]
  cases regB nc b <;> cases decide (b.inp.length ≤ 4) <;> cases decide (0 ≤ b.table) <;> cases decide (b.table ≤ ((tmask b.inp.length : Nat) : Int)) <;> cases insB (FA + bs.length) b.inp <;> cases (b.reg || aheadB FA bs i b.inp) <;> rfl
set_option maxHeartbeats 64000000 in
theorem sBlk {u0 u2 u7 u8 u9 u10 u11 u12 u13 u14 u15 u16 u17 u18 u19 u20 u21 u22 u23 u24 u25 u26 u27 u28 u29 u30 u31 u32 u33 u34 u35 u36 u37 u38 u39 u40 u41 u42 u43 u44 u45 u46 u47 u48 u49 u50 u51 u52 u53 u54 u55 u56 u57 u58 u59 u60 u61 u62 u63 u64 u65 u66 u67 u68 u69 u70 u71 u72 u73 u74 u75 u76 u77 u78 u79 u80 u81 u82 u83 u84 u85 u86 u87 u88 u89 u90 u91 u92 u93 u94 u95 u96 u97 u98 u99 u100 u101 u102 u103 u104 u105 u106 u107 u108 u109 u110 u111 u112 u113 u114 u115 u116 u117 u118 u119 u120 u121 u122 u123 u124 u125 u126 u127 u128 u129 u130 u131 u132 u133 u134 u135 u136 u137 u138 u139 u140 u141 u142 u143 u144 u145 u146 u147 u148 u149 u150 u151 u152 u153 u154 u155 u156 u157 u158 u159 u160 u161 u162 u163 u164 u165 u166 u167 u168 u169 u170 u171 u172 u173 u174 u175 u176 u177 u178 u179 u180 u181 u182 u183 u184 u185 u186 u187 u188 u189 u190 u191 u192 u193 u194 u195 u196 : Value} {pb l1 c1 l2 c2 FA N : Nat} {s1 s2 : Option Addr} {v5 : Value} {bs : List Block} {W0 W : World} {Q : Exit → Act → World → Prop} (hn : l2 = bs.length) (hnb : bs.length ≤ 512) (hl1 : l1 ≤ 1048576) (HNB : Hid (N = FA + bs.length)) (HNS : Hid (FA + bs.length ≤ 1000000)) (HCAP : Hid (bs.length ≤ c2)) (HBX : Hid (∀ V, Below W0.heap.size W0 V → V.cell? ⟨pb, 1, none⟩ = some (.slice s1 l1 c1) ∧ V.cell? ⟨pb, 2, none⟩ = some (.slice s2 l2 c2)))
    (HCS : Hid (∀ (i : Nat) x, bs[i]? = some x → ∃ b o a c, s2 = some ⟨b, o, none⟩ ∧ x.inp.length ≤ c ∧ (∀ j y, [.string x.name, .slice a x.inp.length c, .int .i64 x.table, .bool x.reg, .int .i64 x.init, .int .i64 x.clock][j]? = some y → W0.cell? ⟨b, o + i * 6 + j, none⟩ = some y) ∧ x.name.size ≤ maxLen ∧ x.inp.length ≤ 1048576 ∧ ∀ (j : Nat) y, x.inp[j]? = some y → ∃ b' o', a = some ⟨b', o', none⟩ ∧ W0.cell? ⟨b', o' + j, none⟩ = some (.int .i64 y)))
    (HO0 : Hid (OS W0.heap.size W v5 [])) (HB0 : Hid (Below W0.heap.size W0 W))
    (hT : upB (blkSAt FA bs l1 N) bs.length = true → ∀ (z2 z6 z7 z8 z9 z10 z47 z48 z49 z50 z51 z52 z53 z54 z55 z56 z57 z58 z59 z60 z61 z62 z63 z64 z65 z66 z67 z68 z69 z70 z71 z72 z73 z74 z75 z76 z77 z78 z79 z80 z81 z82 z83 z84 z85 z86 z87 z88 z89 z90 z91 z92 z93 z94 z95 z96 z97 z98 z99 z100 z101 z102 z103 z104 z105 z106 z107 z108 z109 z110 z111 z112 z113 z114 z115 z116 z117 z118 z119 z120 z121 z122 z123 z124 z125 z126 z127 z128 z129 z130 z131 z132 z133 z134 z135 z136 z137 z138 z139 z140 z141 z142 z143 z144 z145 z146 z147 z148 z149 z150 z151 z152 z153 z154 z155 z156 z157 z158 z159 z160 z161 z162 z163 z164 z165 z166 z167 z168 z169 z170 z171 : Value) v V, OS W0.heap.size V v ((bs.filter (·.reg)).map (·.name)) → Below W0.heap.size W0 V → Q (.exit 0) { tmps := (u0 :: .pointer (some ⟨pb, 0, none⟩) :: z2 :: .int .i64 (FA : Int) :: .int .i64 (N : Int) :: v :: z6 :: z7 :: z8 :: z9 :: z10 :: u11 :: u12 :: u13 :: u14 :: u15 :: u16 :: u17 :: u18 :: u19 :: u20 :: u21 :: u22 :: u23 :: u24 :: u25 :: u26 :: u27 :: u28 :: u29 :: u30 :: u31 :: u32 :: u33 :: u34 :: u35 :: u36 :: u37 :: u38 :: u39 :: u40 :: u41 :: u42 :: u43 :: u44 :: u45 :: u46 :: z47 :: z48 :: z49 :: z50 :: z51 :: z52 :: z53 :: z54 :: z55 :: z56 :: z57 :: z58 :: z59 :: z60 :: z61 :: z62 :: z63 :: z64 :: z65 :: z66 :: z67 :: z68 :: z69 :: z70 :: z71 :: z72 :: z73 :: z74 :: z75 :: z76 :: z77 :: z78 :: z79 :: z80 :: z81 :: z82 :: z83 :: z84 :: z85 :: z86 :: z87 :: z88 :: z89 :: z90 :: z91 :: z92 :: z93 :: z94 :: z95 :: z96 :: z97 :: z98 :: z99 :: z100 :: z101 :: z102 :: z103 :: z104 :: z105 :: z106 :: z107 :: z108 :: z109 :: z110 :: z111 :: z112 :: z113 :: z114 :: z115 :: z116 :: z117 :: z118 :: z119 :: z120 :: z121 :: z122 :: z123 :: z124 :: z125 :: z126 :: z127 :: z128 :: z129 :: z130 :: z131 :: z132 :: z133 :: z134 :: z135 :: z136 :: z137 :: z138 :: z139 :: z140 :: z141 :: z142 :: z143 :: z144 :: z145 :: z146 :: z147 :: z148 :: z149 :: z150 :: z151 :: z152 :: z153 :: z154 :: z155 :: z156 :: z157 :: z158 :: z159 :: z160 :: z161 :: z162 :: z163 :: z164 :: z165 :: z166 :: z167 :: z168 :: z169 :: z170 :: z171 :: u172 :: u173 :: u174 :: u175 :: u176 :: u177 :: u178 :: u179 :: u180 :: u181 :: u182 :: u183 :: u184 :: u185 :: u186 :: u187 :: u188 :: u189 :: u190 :: u191 :: u192 :: u193 :: u194 :: u195 :: u196 :: []).toArray, defers := [] } V)
    (hF : upB (blkSAt FA bs l1 N) bs.length = false → ∀ (z6 z7 z8 z9 z10 z47 z48 z49 z50 z51 z52 z53 z54 z55 z56 z57 z58 z59 z60 z61 z62 z63 z64 z65 z66 z67 z68 z69 z70 z71 z72 z73 z74 z75 z76 z77 z78 z79 z80 z81 z82 z83 z84 z85 z86 z87 z88 z89 z90 z91 z92 z93 z94 z95 z96 z97 z98 z99 z100 z101 z102 z103 z104 z105 z106 z107 z108 z109 z110 z111 z112 z113 z114 z115 z116 z117 z118 z119 z120 z121 z122 z123 z124 z125 z126 z127 z128 z129 z130 z131 z132 z133 z134 z135 z136 z137 z138 z139 z140 z141 z142 z143 z144 z145 z146 z147 z148 z149 z150 z151 z152 z153 z154 z155 z156 z157 z158 z159 z160 z161 z162 z163 z164 z165 z166 z167 z168 z169 z170 z171 : Value) v V, Below W0.heap.size W0 V → Q .ret { tmps := (u0 :: .pointer (some ⟨pb, 0, none⟩) :: .bool false :: .int .i64 (FA : Int) :: .int .i64 (N : Int) :: v :: z6 :: z7 :: z8 :: z9 :: z10 :: u11 :: u12 :: u13 :: u14 :: u15 :: u16 :: u17 :: u18 :: u19 :: u20 :: u21 :: u22 :: u23 :: u24 :: u25 :: u26 :: u27 :: u28 :: u29 :: u30 :: u31 :: u32 :: u33 :: u34 :: u35 :: u36 :: u37 :: u38 :: u39 :: u40 :: u41 :: u42 :: u43 :: u44 :: u45 :: u46 :: z47 :: z48 :: z49 :: z50 :: z51 :: z52 :: z53 :: z54 :: z55 :: z56 :: z57 :: z58 :: z59 :: z60 :: z61 :: z62 :: z63 :: z64 :: z65 :: z66 :: z67 :: z68 :: z69 :: z70 :: z71 :: z72 :: z73 :: z74 :: z75 :: z76 :: z77 :: z78 :: z79 :: z80 :: z81 :: z82 :: z83 :: z84 :: z85 :: z86 :: z87 :: z88 :: z89 :: z90 :: z91 :: z92 :: z93 :: z94 :: z95 :: z96 :: z97 :: z98 :: z99 :: z100 :: z101 :: z102 :: z103 :: z104 :: z105 :: z106 :: z107 :: z108 :: z109 :: z110 :: z111 :: z112 :: z113 :: z114 :: z115 :: z116 :: z117 :: z118 :: z119 :: z120 :: z121 :: z122 :: z123 :: z124 :: z125 :: z126 :: z127 :: z128 :: z129 :: z130 :: z131 :: z132 :: z133 :: z134 :: z135 :: z136 :: z137 :: z138 :: z139 :: z140 :: z141 :: z142 :: z143 :: z144 :: z145 :: z146 :: z147 :: z148 :: z149 :: z150 :: z151 :: z152 :: z153 :: z154 :: z155 :: z156 :: z157 :: z158 :: z159 :: z160 :: z161 :: z162 :: z163 :: z164 :: z165 :: z166 :: z167 :: z168 :: z169 :: z170 :: z171 :: u172 :: u173 :: u174 :: u175 :: u176 :: u177 :: u178 :: u179 :: u180 :: u181 :: u182 :: u183 :: u184 :: u185 :: u186 :: u187 :: u188 :: u189 :: u190 :: u191 :: u192 :: u193 :: u194 :: u195 :: u196 :: []).toArray, defers := [] } V) :
    Code.wp Tryz.prog (atB 0 (bodyOf Tryz.f44)) Q { tmps := (u0 :: .pointer (some ⟨pb, 0, none⟩) :: u2 :: .int .i64 (FA : Int) :: .int .i64 (N : Int) :: v5 :: .int .i64 0 :: u7 :: u8 :: u9 :: u10 :: u11 :: u12 :: u13 :: u14 :: u15 :: u16 :: u17 :: u18 :: u19 :: u20 :: u21 :: u22 :: u23 :: u24 :: u25 :: u26 :: u27 :: u28 :: u29 :: u30 :: u31 :: u32 :: u33 :: u34 :: u35 :: u36 :: u37 :: u38 :: u39 :: u40 :: u41 :: u42 :: u43 :: u44 :: u45 :: u46 :: u47 :: u48 :: u49 :: u50 :: u51 :: u52 :: u53 :: u54 :: u55 :: u56 :: u57 :: u58 :: u59 :: u60 :: u61 :: u62 :: u63 :: u64 :: u65 :: u66 :: u67 :: u68 :: u69 :: u70 :: u71 :: u72 :: u73 :: u74 :: u75 :: u76 :: u77 :: u78 :: u79 :: u80 :: u81 :: u82 :: u83 :: u84 :: u85 :: u86 :: u87 :: u88 :: u89 :: u90 :: u91 :: u92 :: u93 :: u94 :: u95 :: u96 :: u97 :: u98 :: u99 :: u100 :: u101 :: u102 :: u103 :: u104 :: u105 :: u106 :: u107 :: u108 :: u109 :: u110 :: u111 :: u112 :: u113 :: u114 :: u115 :: u116 :: u117 :: u118 :: u119 :: u120 :: u121 :: u122 :: u123 :: u124 :: u125 :: u126 :: u127 :: u128 :: u129 :: u130 :: u131 :: u132 :: u133 :: u134 :: u135 :: u136 :: u137 :: u138 :: u139 :: u140 :: u141 :: u142 :: u143 :: u144 :: u145 :: u146 :: u147 :: u148 :: u149 :: u150 :: u151 :: u152 :: u153 :: u154 :: u155 :: u156 :: u157 :: u158 :: u159 :: u160 :: u161 :: u162 :: u163 :: u164 :: u165 :: u166 :: u167 :: u168 :: u169 :: u170 :: u171 :: u172 :: u173 :: u174 :: u175 :: u176 :: u177 :: u178 :: u179 :: u180 :: u181 :: u182 :: u183 :: u184 :: u185 :: u186 :: u187 :: u188 :: u189 :: u190 :: u191 :: u192 :: u193 :: u194 :: u195 :: u196 :: []).toArray, defers := [] } W := by
  subst hn
  have HT := hide hT
  have HF := hide hF
  clear hT hF
  obtain ⟨i0, hi, hz0, hz1, hz2⟩ := info_parts info9
  have HI := hide (And.intro hi (And.intro hz0 (And.intro hz1 hz2)))
  clear hi hz0 hz1 hz2
  have HREG : Hid (∀ (i : Nat) x, bs[i]? = some x → ∃ b o, s2 = some ⟨b, o, none⟩ ∧ W0.cell? ⟨b, o + i * 6 + 3, none⟩ = some (.bool x.reg)) := hide (fun i x hx => by
    obtain ⟨b, o, a, c, h1, _, h2, _⟩ := unhide HCS i x hx
    exact ⟨b, o, h1, h2 3 _ rfl⟩)
  conv => arg 2; whnf
  go_loopw [5, 6] (fun vl i wr => ∃ k : Nat, k ≤ bs.length ∧ i = .int .i64 k ∧ OS W0.heap.size wr vl (((bs.take k).filter (·.reg)).map (·.name)) ∧ upB (blkSAt FA bs l1 N) k = true ∧ Below W0.heap.size W0 wr) (fun vl i wr => bs.length - (intOf i).toNat)
  case atStart => exact ⟨0, Nat.zero_le _, rfl, unhide HO0, rfl, unhide HB0⟩
  case round =>
    obtain ⟨k, hk, rfl, ho, hall, hb⟩ := hrel
    have HA := hide hall
    have HB := hide hb
    obtain ⟨q1, q2⟩ := unhide HBX wr hb
    clear hall
    by_cases hlt : k < bs.length
    · have hx : bs[k]? = some bs[k] := List.getElem?_eq_getElem hlt
      have HSA := hide (upB_succ (blkSAt FA bs l1 N) k)
      have HFF : Hid (blkSAt FA bs l1 N k = false → upB (blkSAt FA bs l1 N) bs.length = false) := hide (fun h => upB_false hlt h)
      rw [blkSAt_at hx] at HSA HFF
      have hst : ((bs.take (k + 1)).filter (·.reg)).map (·.name) = ((bs.take k).filter (·.reg)).map (·.name) ++ if bs[k].reg = true then [bs[k].name] else [] := by
        rw [List.take_add_one, hx, List.filter_append, List.map_append]
        congr 1
        generalize bs[k] = b
        cases hr : b.reg <;> simp [hr]
      have HLEN := hide (show (((bs.take k).filter (·.reg)).map (·.name)).length ≤ k by
        rw [List.length_map]
        have h1 := List.length_filter_le (fun b : Block => b.reg) (bs.take k)
        rw [List.length_take] at h1
        omega)
      obtain ⟨b2, o2, a, c, hs2, hlc, hcell, hsz, hil, hin⟩ := unhide HCS k _ hx
      generalize bs[k] = x at *
      subst hs2
      have z0 := cell_later hb (hcell 0 _ rfl)
      have z1 := cell_later hb (hcell 1 _ rfl)
      have z2 := cell_later hb (hcell 2 _ rfl)
      have z3 := cell_later hb (hcell 3 _ rfl)
      have y4 := cell_later hb (hcell 4 _ rfl)
      have y5 := cell_later hb (hcell 5 _ rfl)
      simp only [Nat.add_zero] at z0
      have HN := hide hsz
      have HSZ := hide hb.size
      have HRS := hide hin
      have i1 : (0 : Int) ≤ (k : Int) := by omega
      have i2 : (k : Int) < (bs.length : Int) := by omega
      have i3 : (k : Int) ≤ (c2 : Int) := by have := unhide HCAP; omega
      have HDF : Hid (blkS FA bs l1 N k x = ((if x.reg then (decide (0 ≤ x.init) && decide (x.init < ((2 : Nat) : Int))) && (decide (0 ≤ x.clock) && decide (x.clock < (l1 : Int))) else (x.name.toList.isEmpty && (x.init == 0)) && (x.clock == 0)) && (decide (x.inp.length ≤ 4) && (decide (0 ≤ x.table) && (decide (x.table ≤ ((tmask x.inp.length : Nat) : Int)) && srcsB FA bs k x.reg N x.inp))))) := hide rfl
      obtain ⟨L, hL⟩ : ∃ L, x.inp.length = L := ⟨_, rfl⟩
      rw [hL] at z1 hlc hil
      have HLC := hide hlc
      generalize blkS FA bs l1 N k x = LL at *
      generalize x.name = nm at *
      generalize x.table = t at *
      generalize x.init = z4 at *
      generalize x.clock = z5 at *
      generalize x.inp = xs at *
      clear hx hcell hsz hb hin hlc
      cases hrg : x.reg
      · rw [hrg] at HDF hst z3
        replace hst : ((bs.take (k + 1)).filter (·.reg)).map (·.name) = ((bs.take k).filter (·.reg)).map (·.name) := by rw [hst]; simp
        replace HDF : Hid (LL = (((nm.toList.isEmpty && (z4 == 0)) && (z5 == 0)) && (decide (xs.length ≤ 4) && (decide (0 ≤ t) && (decide (t ≤ ((tmask xs.length : Nat) : Int)) && srcsB FA bs k false N xs))))) := hide (by rw [unhide HDF]; rfl)
        have HST := hide hst
        have HO := hide ho
        clear hrg hst ho
        by_cases g0 : nm.toList.isEmpty = false
        · have HX := hide (unhide HF (unhide HFF (by rw [unhide HDF, g0]; rfl)))
          clear HT HF HFF HDF HA HSA HCS HREG HRS HST
          go_wp2
          exact unhide HX _ _ _ _ _ _ _ _ _ _ _ _ _ _ _ _ _ _ _ _ _ _ _ _ _ _ _ _ _ _ _ _ _ _ _ _ _ _ _ _ _ _ _ _ _ _ _ _ _ _ _ _ _ _ _ _ _ _ _ _ _ _ _ _ _ _ _ _ _ _ _ _ _ _ _ _ _ _ _ _ _ _ _ _ _ _ _ _ _ _ _ _ _ _ _ _ _ _ _ _ _ _ _ _ _ _ _ _ _ _ _ _ _ _ _ _ _ _ _ _ _ _ _ _ _ _ _ _ _ _ u5 _ (bal (unhide HB) _)
        have a0 : nm.toList.isEmpty = true := by simpa using g0
        by_cases g1 : ¬ z4 = 0
        · have HX := hide (unhide HF (unhide HFF (by rw [unhide HDF, show (z4 == 0) = false from beq_eq_false_iff_ne.2 g1]; simp)))
          clear HT HF HFF HDF HA HSA HCS HREG HRS HST
          go_wp2
          exact unhide HX _ _ _ _ _ _ _ _ _ _ _ _ _ _ _ _ _ _ _ _ _ _ _ _ _ _ _ _ _ _ _ _ _ _ _ _ _ _ _ _ _ _ _ _ _ _ _ _ _ _ _ _ _ _ _ _ _ _ _ _ _ _ _ _ _ _ _ _ _ _ _ _ _ _ _ _ _ _ _ _ _ _ _ _ _ _ _ _ _ _ _ _ _ _ _ _ _ _ _ _ _ _ _ _ _ _ _ _ _ _ _ _ _ _ _ _ _ _ _ _ _ _ _ _ _ _ _ _ _ _ u5 _ (bal (unhide HB) _)
        obtain rfl : z4 = 0 := by simpa using g1
        by_cases g2 : ¬ z5 = 0
        · have HX := hide (unhide HF (unhide HFF (by rw [unhide HDF, show (z5 == 0) = false from beq_eq_false_iff_ne.2 g2]; simp)))
          clear HT HF HFF HDF HA HSA HCS HREG HRS HST
          go_wp2
          exact unhide HX _ _ _ _ _ _ _ _ _ _ _ _ _ _ _ _ _ _ _ _ _ _ _ _ _ _ _ _ _ _ _ _ _ _ _ _ _ _ _ _ _ _ _ _ _ _ _ _ _ _ _ _ _ _ _ _ _ _ _ _ _ _ _ _ _ _ _ _ _ _ _ _ _ _ _ _ _ _ _ _ _ _ _ _ _ _ _ _ _ _ _ _ _ _ _ _ _ _ _ _ _ _ _ _ _ _ _ _ _ _ _ _ _ _ _ _ _ _ _ _ _ _ _ _ _ _ _ _ _ _ u5 _ (bal (unhide HB) _)
        obtain rfl : z5 = 0 := by simpa using g2
        have HD2 : Hid (LL = (decide (xs.length ≤ 4) && (decide (0 ≤ t) && (decide (t ≤ ((tmask xs.length : Nat) : Int)) && srcsB FA bs k false N xs)))) := hide (by rw [unhide HDF, a0]; rfl)
        clear HDF
        by_cases k4 : (4 : Int) < (L : Int)
        · have HX := hide (unhide HF (unhide HFF (by rw [unhide HD2, decide_eq_false (p := xs.length ≤ 4) (by omega)]; rfl)))
          have p4 : decide ((4 : Int) < (L : Int)) = true := decide_eq_true k4
          clear hL k4
          clear HT HF HFF HD2 HA HSA HCS HREG HRS HST
          go_wp2
          go_quiet (fail)
          go_wp2
          exact unhide HX _ _ _ _ _ _ _ _ _ _ _ _ _ _ _ _ _ _ _ _ _ _ _ _ _ _ _ _ _ _ _ _ _ _ _ _ _ _ _ _ _ _ _ _ _ _ _ _ _ _ _ _ _ _ _ _ _ _ _ _ _ _ _ _ _ _ _ _ _ _ _ _ _ _ _ _ _ _ _ _ _ _ _ _ _ _ _ _ _ _ _ _ _ _ _ _ _ _ _ _ _ _ _ _ _ _ _ _ _ _ _ _ _ _ _ _ _ _ _ _ _ _ _ _ _ _ _ _ _ _ u5 _ (bdq (bal (unhide HB) _))
        have p4 : decide ((4 : Int) < (L : Int)) = false := decide_eq_false k4
        by_cases kt : t < 0
        · have HX := hide (unhide HF (unhide HFF (by rw [unhide HD2, decide_eq_false (p := 0 ≤ t) (by omega)]; simp)))
          have pt : decide (t < 0) = true := decide_eq_true kt
          clear hL k4 kt
          clear HT HF HFF HD2 HA HSA HCS HREG HRS HST
          go_wp2
          go_quiet (fail)
          go_wp2
          exact unhide HX _ _ _ _ _ _ _ _ _ _ _ _ _ _ _ _ _ _ _ _ _ _ _ _ _ _ _ _ _ _ _ _ _ _ _ _ _ _ _ _ _ _ _ _ _ _ _ _ _ _ _ _ _ _ _ _ _ _ _ _ _ _ _ _ _ _ _ _ _ _ _ _ _ _ _ _ _ _ _ _ _ _ _ _ _ _ _ _ _ _ _ _ _ _ _ _ _ _ _ _ _ _ _ _ _ _ _ _ _ _ _ _ _ _ _ _ _ _ _ _ _ _ _ _ _ _ _ _ _ _ u5 _ (bdq (bal (unhide HB) _))
        have pt : decide (t < 0) = false := decide_eq_false kt
        obtain ⟨M, hM⟩ : ∃ M, tmask xs.length = M := ⟨_, rfl⟩
        have HMK := hide (fun V => by have h := sMask xs.length (by omega) V; rw [hM, hL] at h; exact h)
        have HTR := hide (tmask_lt (k := xs.length) (by omega))
        rw [hM] at HTR HD2
        by_cases km : (M : Int) < t
        · have HX := hide (unhide HF (unhide HFF (by rw [unhide HD2, decide_eq_false (p := t ≤ (M : Int)) (by omega)]; simp)))
          have pm : decide ((M : Int) < t) = true := decide_eq_true km
          clear hL k4 kt hM HTR km
          clear HT HF HFF HD2 HA HSA HCS HREG HRS HST
          go_wp2
          go_quiet ((go_at_call 79; exact Calls.quiet_of_same (unhide HMK _)))
          go_wp2
          exact unhide HX _ _ _ _ _ _ _ _ _ _ _ _ _ _ _ _ _ _ _ _ _ _ _ _ _ _ _ _ _ _ _ _ _ _ _ _ _ _ _ _ _ _ _ _ _ _ _ _ _ _ _ _ _ _ _ _ _ _ _ _ _ _ _ _ _ _ _ _ _ _ _ _ _ _ _ _ _ _ _ _ _ _ _ _ _ _ _ _ _ _ _ _ _ _ _ _ _ _ _ _ _ _ _ _ _ _ _ _ _ _ _ _ _ _ _ _ _ _ _ _ _ _ _ _ _ _ _ _ _ _ u5 _ (bdq (bal (unhide HB) _))
        have pm : decide ((M : Int) < t) = false := decide_eq_false km
        have HIB : Hid (LL = srcsB FA bs k false N xs) := hide (by rw [unhide HD2, decide_eq_true (p := xs.length ≤ 4) (by omega), decide_eq_true (p := 0 ≤ t) (by omega), decide_eq_true (p := t ≤ (M : Int)) (by omega)]; rfl)
        have HL := hide hL
        have HY4 : Hid (xs.length ≤ 4) := hide (by omega)
        have HKL := hide hlt
        obtain ⟨wr1, hwr1⟩ : ∃ V : World, V = wr := ⟨wr, rfl⟩
        have HW1 := hide hwr1
        clear hL k4 kt hM HTR km HD2 hwr1
        go_wp2
        go_quiet ((go_at_call 79; exact Calls.quiet_of_same (unhide HMK _)))
        go_wp2
        clear p4 pt pm a0 g0
        obtain ⟨X, hX⟩ : ∃ X, X = (wr.alloc (.cells #[.string nm, .slice a L c, .int .i64 t, .bool false, .int .i64 0, .int .i64 0] 104)).drewN nq := ⟨_, rfl⟩
        rw [← hX]
        have HBX2 : Hid (Below W0.heap.size W0 X) := hide (by rw [hX]; exact bdq (bal (unhide HB) _))
        have HRX : Hid (OS W0.heap.size X u5 (((bs.take (k + 1)).filter (·.reg)).map (·.name))) := hide (by
          rw [unhide HST, hX]
          exact (unhide HO).later (bdq (bal (brf wr) _)))
        have n1 : X.cell? ⟨wr.heap.size, 1, none⟩ = some (.slice a L c) := by
          rw [hX]
          exact cell_later (bdq (brf (wr.alloc _)) : Below (wr.alloc (.cells #[.string nm, .slice a L c, .int .i64 t, .bool false, .int .i64 0, .int .i64 0] 104)).heap.size _ _) (by rw [World.cell?_alloc_new]; rfl)
        have n3 : X.cell? ⟨wr.heap.size, 3, none⟩ = some (.bool false) := by
          rw [hX]
          exact cell_later (bdq (brf (wr.alloc _)) : Below (wr.alloc (.cells #[.string nm, .slice a L c, .int .i64 t, .bool false, .int .i64 0, .int .i64 0] 104)).heap.size _ _) (by rw [World.cell?_alloc_new]; rfl)
        clear hX q1 q2 z0 z1 z2 z3 y4 y5
        refine sSrc (W := X) (xs := xs) (bs := bs) (FA := FA) (N := N) (I := k) (rg := false) (a := a) (c := c) (n := L) (q := wr.heap.size) (pb := pb) (l2 := bs.length) (c2 := c2) (unhide HL).symm (unhide HY4) (unhide HNB) (unhide HNS) (unhide HKL) n1 n3 (unhide HLC) (unhide HBX X (unhide HBX2)).2 rfl (unhide HCAP) (hide ?_) (hide ?_) ?_ ?_
        · intro i y hy
          obtain ⟨b', o', h1, h2⟩ := unhide HRS i y hy
          exact ⟨b', o', h1, cell_later (unhide HBX2) h2⟩
        · intro i x hx
          obtain ⟨b', o', h1, h2⟩ := unhide HREG i x hx
          exact ⟨b', o', h1, cell_later (unhide HBX2) h2⟩
        · intro hins y2 y8 y9 y10 y118 y119 y120 y121 y122 y123 y124 y125 y126 y127 y128 y129 y130 y131 y132 y133 y134 y135 y136 y137 y138 y139 y140 y141 y142 y143 y144 y145 y146 y147 y148 y149 y150 y151 y152 y153 y154 y155 y156 y157 y158 y159 y160 y161 y162 y163 y164 y165 y166 y167 y168 y169 y170 y171
          have HAA : Hid (upB (blkSAt FA bs l1 N) (k + 1) = true) := hide (by rw [unhide HSA, unhide HA, unhide HIB, hins]; rfl)
          clear hins HT HF HFF HSA HA HCS HRS HREG HIB n1 n3 HST
          go_wp2_with fail
          go_roundw
          case rel => exact ⟨k + 1, by omega, by go_num, unhide HRX, unhide HAA, unhide HBX2⟩
          case measure => simp [intOf]; omega
        · intro hins y8 y9 y10 y118 y119 y120 y121 y122 y123 y124 y125 y126 y127 y128 y129 y130 y131 y132 y133 y134 y135 y136 y137 y138 y139 y140 y141 y142 y143 y144 y145 y146 y147 y148 y149 y150 y151 y152 y153 y154 y155 y156 y157 y158 y159 y160 y161 y162 y163 y164 y165 y166 y167 y168 y169 y170 y171
          have HX := hide (unhide HF (unhide HFF (by rw [unhide HIB, hins])))
          clear hins HT HF HFF HSA HA HCS HRS HREG HIB n1 n3 HST
          go_wp2_with fail
          exact unhide HX _ _ _ _ _ _ _ _ _ _ _ _ _ _ _ _ _ _ _ _ _ _ _ _ _ _ _ _ _ _ _ _ _ _ _ _ _ _ _ _ _ _ _ _ _ _ _ _ _ _ _ _ _ _ _ _ _ _ _ _ _ _ _ _ _ _ _ _ _ _ _ _ _ _ _ _ _ _ _ _ _ _ _ _ _ _ _ _ _ _ _ _ _ _ _ _ _ _ _ _ _ _ _ _ _ _ _ _ _ _ _ _ _ _ _ _ _ _ _ _ _ _ _ _ _ _ _ _ _ _ u5 X (unhide HBX2)
      · rw [hrg] at HDF hst z3
        replace hst : ((bs.take (k + 1)).filter (·.reg)).map (·.name) = ((bs.take k).filter (·.reg)).map (·.name) ++ [nm] := by rw [hst]; simp
        replace HDF : Hid (LL = (((decide (0 ≤ z4) && decide (z4 < ((2 : Nat) : Int))) && (decide (0 ≤ z5) && decide (z5 < (l1 : Int)))) && (decide (xs.length ≤ 4) && (decide (0 ≤ t) && (decide (t ≤ ((tmask xs.length : Nat) : Int)) && srcsB FA bs k true N xs))))) := hide (by rw [unhide HDF]; rfl)
        have HST := hide hst
        have HO := hide ho
        clear hrg hst ho
        generalize hns : ((bs.take k).filter (·.reg)).map (·.name) = ns at *
        clear hns
        by_cases g0 : z4 < 0
        · have HX := hide (unhide HF (unhide HFF (by rw [unhide HDF, decide_eq_false (p := 0 ≤ z4) (by omega)]; simp)))
          clear HT HF HFF HDF HA HSA HCS HREG HRS
          go_wp2_with (first
            | (at_builtin; refine wpList_append_own _ rfl _ _ 22 rfl W0.heap.size 9 i0 (.string ByteArray.empty) 1 16 Tryz.underlying22 (unhide HI).1 (unhide HI).2.1 (unhide HI).2.2.1 (unhide HI).2.2.2 rfl (by decide) _ _ _ rfl (((unhide HO).1.alloc _).alloc _) ⟨wr.heap.size + 1, 0, none⟩ 1 1 [.string nm] rfl rfl (newS _ _ _ (by simp)) (oneS _) (by have := unhide HLEN; unfold maxLen; omega) (by have := unhide HLEN; omega) (by have := unhide HSZ; simp; omega) ?_; intro v' w2 hown' hgrow _; have HBB := hide (below_grown (bal (bal (unhide HB) (.cells #[.string nm, .slice a L c, .int .i64 t, .bool true, .int .i64 z4, .int .i64 z5] 104)) (.cells #[.string nm] 9)) hgrow (by have := unhide HSZ; simp; omega) (own_row (unhide HO).1)); obtain ⟨r1, r2⟩ := unhide HBX w2 (unhide HBB); have m0 := hgrow.cell (cell_later (bal (brf (wr.alloc (.cells #[.string nm, .slice a L c, .int .i64 t, .bool true, .int .i64 z4, .int .i64 z5] 104))) (.cells #[.string nm] 9)) (show (wr.alloc (.cells #[.string nm, .slice a L c, .int .i64 t, .bool true, .int .i64 z4, .int .i64 z5] 104)).cell? ⟨wr.heap.size, 0, none⟩ = some (.string nm) by rw [World.cell?_alloc_new]; rfl)) (own_ne (unhide HO) (Nat.le_refl _)); have m1 := hgrow.cell (cell_later (bal (brf (wr.alloc (.cells #[.string nm, .slice a L c, .int .i64 t, .bool true, .int .i64 z4, .int .i64 z5] 104))) (.cells #[.string nm] 9)) (show (wr.alloc (.cells #[.string nm, .slice a L c, .int .i64 t, .bool true, .int .i64 z4, .int .i64 z5] 104)).cell? ⟨wr.heap.size, 1, none⟩ = some (.slice a L c) by rw [World.cell?_alloc_new]; rfl)) (own_ne (unhide HO) (Nat.le_refl _)); have m2 := hgrow.cell (cell_later (bal (brf (wr.alloc (.cells #[.string nm, .slice a L c, .int .i64 t, .bool true, .int .i64 z4, .int .i64 z5] 104))) (.cells #[.string nm] 9)) (show (wr.alloc (.cells #[.string nm, .slice a L c, .int .i64 t, .bool true, .int .i64 z4, .int .i64 z5] 104)).cell? ⟨wr.heap.size, 2, none⟩ = some (.int .i64 t) by rw [World.cell?_alloc_new]; rfl)) (own_ne (unhide HO) (Nat.le_refl _)); have m3 := hgrow.cell (cell_later (bal (brf (wr.alloc (.cells #[.string nm, .slice a L c, .int .i64 t, .bool true, .int .i64 z4, .int .i64 z5] 104))) (.cells #[.string nm] 9)) (show (wr.alloc (.cells #[.string nm, .slice a L c, .int .i64 t, .bool true, .int .i64 z4, .int .i64 z5] 104)).cell? ⟨wr.heap.size, 3, none⟩ = some (.bool true) by rw [World.cell?_alloc_new]; rfl)) (own_ne (unhide HO) (Nat.le_refl _)); have m4 := hgrow.cell (cell_later (bal (brf (wr.alloc (.cells #[.string nm, .slice a L c, .int .i64 t, .bool true, .int .i64 z4, .int .i64 z5] 104))) (.cells #[.string nm] 9)) (show (wr.alloc (.cells #[.string nm, .slice a L c, .int .i64 t, .bool true, .int .i64 z4, .int .i64 z5] 104)).cell? ⟨wr.heap.size, 4, none⟩ = some (.int .i64 z4) by rw [World.cell?_alloc_new]; rfl)) (own_ne (unhide HO) (Nat.le_refl _)); have m5 := hgrow.cell (cell_later (bal (brf (wr.alloc (.cells #[.string nm, .slice a L c, .int .i64 t, .bool true, .int .i64 z4, .int .i64 z5] 104))) (.cells #[.string nm] 9)) (show (wr.alloc (.cells #[.string nm, .slice a L c, .int .i64 t, .bool true, .int .i64 z4, .int .i64 z5] 104)).cell? ⟨wr.heap.size, 5, none⟩ = some (.int .i64 z5) by rw [World.cell?_alloc_new]; rfl)) (own_ne (unhide HO) (Nat.le_refl _)); have HR1 : Hid (OS W0.heap.size w2 v' (((bs.take (k + 1)).filter (·.reg)).map (·.name))) := hide (by rw [unhide HST]; exact OS.step hown' (unhide HO).2 (unhide HN)); clear hgrow hown' q1 q2 z0 z1 z2 z3 y4 y5)
            | fail)
          exact unhide HX _ _ _ _ _ _ _ _ _ _ _ _ _ _ _ _ _ _ _ _ _ _ _ _ _ _ _ _ _ _ _ _ _ _ _ _ _ _ _ _ _ _ _ _ _ _ _ _ _ _ _ _ _ _ _ _ _ _ _ _ _ _ _ _ _ _ _ _ _ _ _ _ _ _ _ _ _ _ _ _ _ _ _ _ _ _ _ _ _ _ _ _ _ _ _ _ _ _ _ _ _ _ _ _ _ _ _ _ _ _ _ _ _ _ _ _ _ _ _ _ _ _ _ _ _ _ _ _ _ _ v' w2 (unhide HBB)
        have a0 : decide (z4 < 0) = false := decide_eq_false g0
        by_cases g1 : 1 < z4
        · have HX := hide (unhide HF (unhide HFF (by rw [unhide HDF, decide_eq_false (p := z4 < ((2 : Nat) : Int)) (by omega)]; simp)))
          clear HT HF HFF HDF HA HSA HCS HREG HRS
          go_wp2_with (first
            | (at_builtin; refine wpList_append_own _ rfl _ _ 22 rfl W0.heap.size 9 i0 (.string ByteArray.empty) 1 16 Tryz.underlying22 (unhide HI).1 (unhide HI).2.1 (unhide HI).2.2.1 (unhide HI).2.2.2 rfl (by decide) _ _ _ rfl (((unhide HO).1.alloc _).alloc _) ⟨wr.heap.size + 1, 0, none⟩ 1 1 [.string nm] rfl rfl (newS _ _ _ (by simp)) (oneS _) (by have := unhide HLEN; unfold maxLen; omega) (by have := unhide HLEN; omega) (by have := unhide HSZ; simp; omega) ?_; intro v' w2 hown' hgrow _; have HBB := hide (below_grown (bal (bal (unhide HB) (.cells #[.string nm, .slice a L c, .int .i64 t, .bool true, .int .i64 z4, .int .i64 z5] 104)) (.cells #[.string nm] 9)) hgrow (by have := unhide HSZ; simp; omega) (own_row (unhide HO).1)); obtain ⟨r1, r2⟩ := unhide HBX w2 (unhide HBB); have m0 := hgrow.cell (cell_later (bal (brf (wr.alloc (.cells #[.string nm, .slice a L c, .int .i64 t, .bool true, .int .i64 z4, .int .i64 z5] 104))) (.cells #[.string nm] 9)) (show (wr.alloc (.cells #[.string nm, .slice a L c, .int .i64 t, .bool true, .int .i64 z4, .int .i64 z5] 104)).cell? ⟨wr.heap.size, 0, none⟩ = some (.string nm) by rw [World.cell?_alloc_new]; rfl)) (own_ne (unhide HO) (Nat.le_refl _)); have m1 := hgrow.cell (cell_later (bal (brf (wr.alloc (.cells #[.string nm, .slice a L c, .int .i64 t, .bool true, .int .i64 z4, .int .i64 z5] 104))) (.cells #[.string nm] 9)) (show (wr.alloc (.cells #[.string nm, .slice a L c, .int .i64 t, .bool true, .int .i64 z4, .int .i64 z5] 104)).cell? ⟨wr.heap.size, 1, none⟩ = some (.slice a L c) by rw [World.cell?_alloc_new]; rfl)) (own_ne (unhide HO) (Nat.le_refl _)); have m2 := hgrow.cell (cell_later (bal (brf (wr.alloc (.cells #[.string nm, .slice a L c, .int .i64 t, .bool true, .int .i64 z4, .int .i64 z5] 104))) (.cells #[.string nm] 9)) (show (wr.alloc (.cells #[.string nm, .slice a L c, .int .i64 t, .bool true, .int .i64 z4, .int .i64 z5] 104)).cell? ⟨wr.heap.size, 2, none⟩ = some (.int .i64 t) by rw [World.cell?_alloc_new]; rfl)) (own_ne (unhide HO) (Nat.le_refl _)); have m3 := hgrow.cell (cell_later (bal (brf (wr.alloc (.cells #[.string nm, .slice a L c, .int .i64 t, .bool true, .int .i64 z4, .int .i64 z5] 104))) (.cells #[.string nm] 9)) (show (wr.alloc (.cells #[.string nm, .slice a L c, .int .i64 t, .bool true, .int .i64 z4, .int .i64 z5] 104)).cell? ⟨wr.heap.size, 3, none⟩ = some (.bool true) by rw [World.cell?_alloc_new]; rfl)) (own_ne (unhide HO) (Nat.le_refl _)); have m4 := hgrow.cell (cell_later (bal (brf (wr.alloc (.cells #[.string nm, .slice a L c, .int .i64 t, .bool true, .int .i64 z4, .int .i64 z5] 104))) (.cells #[.string nm] 9)) (show (wr.alloc (.cells #[.string nm, .slice a L c, .int .i64 t, .bool true, .int .i64 z4, .int .i64 z5] 104)).cell? ⟨wr.heap.size, 4, none⟩ = some (.int .i64 z4) by rw [World.cell?_alloc_new]; rfl)) (own_ne (unhide HO) (Nat.le_refl _)); have m5 := hgrow.cell (cell_later (bal (brf (wr.alloc (.cells #[.string nm, .slice a L c, .int .i64 t, .bool true, .int .i64 z4, .int .i64 z5] 104))) (.cells #[.string nm] 9)) (show (wr.alloc (.cells #[.string nm, .slice a L c, .int .i64 t, .bool true, .int .i64 z4, .int .i64 z5] 104)).cell? ⟨wr.heap.size, 5, none⟩ = some (.int .i64 z5) by rw [World.cell?_alloc_new]; rfl)) (own_ne (unhide HO) (Nat.le_refl _)); have HR1 : Hid (OS W0.heap.size w2 v' (((bs.take (k + 1)).filter (·.reg)).map (·.name))) := hide (by rw [unhide HST]; exact OS.step hown' (unhide HO).2 (unhide HN)); clear hgrow hown' q1 q2 z0 z1 z2 z3 y4 y5)
            | fail)
          exact unhide HX _ _ _ _ _ _ _ _ _ _ _ _ _ _ _ _ _ _ _ _ _ _ _ _ _ _ _ _ _ _ _ _ _ _ _ _ _ _ _ _ _ _ _ _ _ _ _ _ _ _ _ _ _ _ _ _ _ _ _ _ _ _ _ _ _ _ _ _ _ _ _ _ _ _ _ _ _ _ _ _ _ _ _ _ _ _ _ _ _ _ _ _ _ _ _ _ _ _ _ _ _ _ _ _ _ _ _ _ _ _ _ _ _ _ _ _ _ _ _ _ _ _ _ _ _ _ _ _ _ _ v' w2 (unhide HBB)
        have a1 : decide (1 < z4) = false := decide_eq_false g1
        by_cases g2 : z5 < 0
        · have HX := hide (unhide HF (unhide HFF (by rw [unhide HDF, decide_eq_false (p := 0 ≤ z5) (by omega)]; simp)))
          clear HT HF HFF HDF HA HSA HCS HREG HRS
          go_wp2_with (first
            | (at_builtin; refine wpList_append_own _ rfl _ _ 22 rfl W0.heap.size 9 i0 (.string ByteArray.empty) 1 16 Tryz.underlying22 (unhide HI).1 (unhide HI).2.1 (unhide HI).2.2.1 (unhide HI).2.2.2 rfl (by decide) _ _ _ rfl (((unhide HO).1.alloc _).alloc _) ⟨wr.heap.size + 1, 0, none⟩ 1 1 [.string nm] rfl rfl (newS _ _ _ (by simp)) (oneS _) (by have := unhide HLEN; unfold maxLen; omega) (by have := unhide HLEN; omega) (by have := unhide HSZ; simp; omega) ?_; intro v' w2 hown' hgrow _; have HBB := hide (below_grown (bal (bal (unhide HB) (.cells #[.string nm, .slice a L c, .int .i64 t, .bool true, .int .i64 z4, .int .i64 z5] 104)) (.cells #[.string nm] 9)) hgrow (by have := unhide HSZ; simp; omega) (own_row (unhide HO).1)); obtain ⟨r1, r2⟩ := unhide HBX w2 (unhide HBB); have m0 := hgrow.cell (cell_later (bal (brf (wr.alloc (.cells #[.string nm, .slice a L c, .int .i64 t, .bool true, .int .i64 z4, .int .i64 z5] 104))) (.cells #[.string nm] 9)) (show (wr.alloc (.cells #[.string nm, .slice a L c, .int .i64 t, .bool true, .int .i64 z4, .int .i64 z5] 104)).cell? ⟨wr.heap.size, 0, none⟩ = some (.string nm) by rw [World.cell?_alloc_new]; rfl)) (own_ne (unhide HO) (Nat.le_refl _)); have m1 := hgrow.cell (cell_later (bal (brf (wr.alloc (.cells #[.string nm, .slice a L c, .int .i64 t, .bool true, .int .i64 z4, .int .i64 z5] 104))) (.cells #[.string nm] 9)) (show (wr.alloc (.cells #[.string nm, .slice a L c, .int .i64 t, .bool true, .int .i64 z4, .int .i64 z5] 104)).cell? ⟨wr.heap.size, 1, none⟩ = some (.slice a L c) by rw [World.cell?_alloc_new]; rfl)) (own_ne (unhide HO) (Nat.le_refl _)); have m2 := hgrow.cell (cell_later (bal (brf (wr.alloc (.cells #[.string nm, .slice a L c, .int .i64 t, .bool true, .int .i64 z4, .int .i64 z5] 104))) (.cells #[.string nm] 9)) (show (wr.alloc (.cells #[.string nm, .slice a L c, .int .i64 t, .bool true, .int .i64 z4, .int .i64 z5] 104)).cell? ⟨wr.heap.size, 2, none⟩ = some (.int .i64 t) by rw [World.cell?_alloc_new]; rfl)) (own_ne (unhide HO) (Nat.le_refl _)); have m3 := hgrow.cell (cell_later (bal (brf (wr.alloc (.cells #[.string nm, .slice a L c, .int .i64 t, .bool true, .int .i64 z4, .int .i64 z5] 104))) (.cells #[.string nm] 9)) (show (wr.alloc (.cells #[.string nm, .slice a L c, .int .i64 t, .bool true, .int .i64 z4, .int .i64 z5] 104)).cell? ⟨wr.heap.size, 3, none⟩ = some (.bool true) by rw [World.cell?_alloc_new]; rfl)) (own_ne (unhide HO) (Nat.le_refl _)); have m4 := hgrow.cell (cell_later (bal (brf (wr.alloc (.cells #[.string nm, .slice a L c, .int .i64 t, .bool true, .int .i64 z4, .int .i64 z5] 104))) (.cells #[.string nm] 9)) (show (wr.alloc (.cells #[.string nm, .slice a L c, .int .i64 t, .bool true, .int .i64 z4, .int .i64 z5] 104)).cell? ⟨wr.heap.size, 4, none⟩ = some (.int .i64 z4) by rw [World.cell?_alloc_new]; rfl)) (own_ne (unhide HO) (Nat.le_refl _)); have m5 := hgrow.cell (cell_later (bal (brf (wr.alloc (.cells #[.string nm, .slice a L c, .int .i64 t, .bool true, .int .i64 z4, .int .i64 z5] 104))) (.cells #[.string nm] 9)) (show (wr.alloc (.cells #[.string nm, .slice a L c, .int .i64 t, .bool true, .int .i64 z4, .int .i64 z5] 104)).cell? ⟨wr.heap.size, 5, none⟩ = some (.int .i64 z5) by rw [World.cell?_alloc_new]; rfl)) (own_ne (unhide HO) (Nat.le_refl _)); have HR1 : Hid (OS W0.heap.size w2 v' (((bs.take (k + 1)).filter (·.reg)).map (·.name))) := hide (by rw [unhide HST]; exact OS.step hown' (unhide HO).2 (unhide HN)); clear hgrow hown' q1 q2 z0 z1 z2 z3 y4 y5)
            | fail)
          exact unhide HX _ _ _ _ _ _ _ _ _ _ _ _ _ _ _ _ _ _ _ _ _ _ _ _ _ _ _ _ _ _ _ _ _ _ _ _ _ _ _ _ _ _ _ _ _ _ _ _ _ _ _ _ _ _ _ _ _ _ _ _ _ _ _ _ _ _ _ _ _ _ _ _ _ _ _ _ _ _ _ _ _ _ _ _ _ _ _ _ _ _ _ _ _ _ _ _ _ _ _ _ _ _ _ _ _ _ _ _ _ _ _ _ _ _ _ _ _ _ _ _ _ _ _ _ _ _ _ _ _ _ v' w2 (unhide HBB)
        have a2 : decide (z5 < 0) = false := decide_eq_false g2
        by_cases g3 : (l1 : Int) ≤ z5
        · have HX := hide (unhide HF (unhide HFF (by rw [unhide HDF, decide_eq_false (p := z5 < (l1 : Int)) (by omega)]; simp)))
          clear HT HF HFF HDF HA HSA HCS HREG HRS
          go_wp2_with (first
            | (at_builtin; refine wpList_append_own _ rfl _ _ 22 rfl W0.heap.size 9 i0 (.string ByteArray.empty) 1 16 Tryz.underlying22 (unhide HI).1 (unhide HI).2.1 (unhide HI).2.2.1 (unhide HI).2.2.2 rfl (by decide) _ _ _ rfl (((unhide HO).1.alloc _).alloc _) ⟨wr.heap.size + 1, 0, none⟩ 1 1 [.string nm] rfl rfl (newS _ _ _ (by simp)) (oneS _) (by have := unhide HLEN; unfold maxLen; omega) (by have := unhide HLEN; omega) (by have := unhide HSZ; simp; omega) ?_; intro v' w2 hown' hgrow _; have HBB := hide (below_grown (bal (bal (unhide HB) (.cells #[.string nm, .slice a L c, .int .i64 t, .bool true, .int .i64 z4, .int .i64 z5] 104)) (.cells #[.string nm] 9)) hgrow (by have := unhide HSZ; simp; omega) (own_row (unhide HO).1)); obtain ⟨r1, r2⟩ := unhide HBX w2 (unhide HBB); have m0 := hgrow.cell (cell_later (bal (brf (wr.alloc (.cells #[.string nm, .slice a L c, .int .i64 t, .bool true, .int .i64 z4, .int .i64 z5] 104))) (.cells #[.string nm] 9)) (show (wr.alloc (.cells #[.string nm, .slice a L c, .int .i64 t, .bool true, .int .i64 z4, .int .i64 z5] 104)).cell? ⟨wr.heap.size, 0, none⟩ = some (.string nm) by rw [World.cell?_alloc_new]; rfl)) (own_ne (unhide HO) (Nat.le_refl _)); have m1 := hgrow.cell (cell_later (bal (brf (wr.alloc (.cells #[.string nm, .slice a L c, .int .i64 t, .bool true, .int .i64 z4, .int .i64 z5] 104))) (.cells #[.string nm] 9)) (show (wr.alloc (.cells #[.string nm, .slice a L c, .int .i64 t, .bool true, .int .i64 z4, .int .i64 z5] 104)).cell? ⟨wr.heap.size, 1, none⟩ = some (.slice a L c) by rw [World.cell?_alloc_new]; rfl)) (own_ne (unhide HO) (Nat.le_refl _)); have m2 := hgrow.cell (cell_later (bal (brf (wr.alloc (.cells #[.string nm, .slice a L c, .int .i64 t, .bool true, .int .i64 z4, .int .i64 z5] 104))) (.cells #[.string nm] 9)) (show (wr.alloc (.cells #[.string nm, .slice a L c, .int .i64 t, .bool true, .int .i64 z4, .int .i64 z5] 104)).cell? ⟨wr.heap.size, 2, none⟩ = some (.int .i64 t) by rw [World.cell?_alloc_new]; rfl)) (own_ne (unhide HO) (Nat.le_refl _)); have m3 := hgrow.cell (cell_later (bal (brf (wr.alloc (.cells #[.string nm, .slice a L c, .int .i64 t, .bool true, .int .i64 z4, .int .i64 z5] 104))) (.cells #[.string nm] 9)) (show (wr.alloc (.cells #[.string nm, .slice a L c, .int .i64 t, .bool true, .int .i64 z4, .int .i64 z5] 104)).cell? ⟨wr.heap.size, 3, none⟩ = some (.bool true) by rw [World.cell?_alloc_new]; rfl)) (own_ne (unhide HO) (Nat.le_refl _)); have m4 := hgrow.cell (cell_later (bal (brf (wr.alloc (.cells #[.string nm, .slice a L c, .int .i64 t, .bool true, .int .i64 z4, .int .i64 z5] 104))) (.cells #[.string nm] 9)) (show (wr.alloc (.cells #[.string nm, .slice a L c, .int .i64 t, .bool true, .int .i64 z4, .int .i64 z5] 104)).cell? ⟨wr.heap.size, 4, none⟩ = some (.int .i64 z4) by rw [World.cell?_alloc_new]; rfl)) (own_ne (unhide HO) (Nat.le_refl _)); have m5 := hgrow.cell (cell_later (bal (brf (wr.alloc (.cells #[.string nm, .slice a L c, .int .i64 t, .bool true, .int .i64 z4, .int .i64 z5] 104))) (.cells #[.string nm] 9)) (show (wr.alloc (.cells #[.string nm, .slice a L c, .int .i64 t, .bool true, .int .i64 z4, .int .i64 z5] 104)).cell? ⟨wr.heap.size, 5, none⟩ = some (.int .i64 z5) by rw [World.cell?_alloc_new]; rfl)) (own_ne (unhide HO) (Nat.le_refl _)); have HR1 : Hid (OS W0.heap.size w2 v' (((bs.take (k + 1)).filter (·.reg)).map (·.name))) := hide (by rw [unhide HST]; exact OS.step hown' (unhide HO).2 (unhide HN)); clear hgrow hown' q1 q2 z0 z1 z2 z3 y4 y5)
            | fail)
          exact unhide HX _ _ _ _ _ _ _ _ _ _ _ _ _ _ _ _ _ _ _ _ _ _ _ _ _ _ _ _ _ _ _ _ _ _ _ _ _ _ _ _ _ _ _ _ _ _ _ _ _ _ _ _ _ _ _ _ _ _ _ _ _ _ _ _ _ _ _ _ _ _ _ _ _ _ _ _ _ _ _ _ _ _ _ _ _ _ _ _ _ _ _ _ _ _ _ _ _ _ _ _ _ _ _ _ _ _ _ _ _ _ _ _ _ _ _ _ _ _ _ _ _ _ _ _ _ _ _ _ _ _ v' w2 (unhide HBB)
        have a3 : decide ((l1 : Int) ≤ z5) = false := decide_eq_false g3
        have HD2 : Hid (LL = (decide (xs.length ≤ 4) && (decide (0 ≤ t) && (decide (t ≤ ((tmask xs.length : Nat) : Int)) && srcsB FA bs k true N xs)))) := hide (by rw [unhide HDF, decide_eq_true (p := 0 ≤ z4) (by omega), decide_eq_true (p := z4 < ((2 : Nat) : Int)) (by omega), decide_eq_true (p := 0 ≤ z5) (by omega), decide_eq_true (p := z5 < (l1 : Int)) (by omega)]; rfl)
        clear HDF
        by_cases k4 : (4 : Int) < (L : Int)
        · have HX := hide (unhide HF (unhide HFF (by rw [unhide HD2, decide_eq_false (p := xs.length ≤ 4) (by omega)]; rfl)))
          have p4 : decide ((4 : Int) < (L : Int)) = true := decide_eq_true k4
          clear hL k4
          clear HT HF HFF HD2 HA HSA HCS HREG HRS
          go_wp2_with (first
            | (at_builtin; refine wpList_append_own _ rfl _ _ 22 rfl W0.heap.size 9 i0 (.string ByteArray.empty) 1 16 Tryz.underlying22 (unhide HI).1 (unhide HI).2.1 (unhide HI).2.2.1 (unhide HI).2.2.2 rfl (by decide) _ _ _ rfl (((unhide HO).1.alloc _).alloc _) ⟨wr.heap.size + 1, 0, none⟩ 1 1 [.string nm] rfl rfl (newS _ _ _ (by simp)) (oneS _) (by have := unhide HLEN; unfold maxLen; omega) (by have := unhide HLEN; omega) (by have := unhide HSZ; simp; omega) ?_; intro v' w2 hown' hgrow _; have HBB := hide (below_grown (bal (bal (unhide HB) (.cells #[.string nm, .slice a L c, .int .i64 t, .bool true, .int .i64 z4, .int .i64 z5] 104)) (.cells #[.string nm] 9)) hgrow (by have := unhide HSZ; simp; omega) (own_row (unhide HO).1)); obtain ⟨r1, r2⟩ := unhide HBX w2 (unhide HBB); have m0 := hgrow.cell (cell_later (bal (brf (wr.alloc (.cells #[.string nm, .slice a L c, .int .i64 t, .bool true, .int .i64 z4, .int .i64 z5] 104))) (.cells #[.string nm] 9)) (show (wr.alloc (.cells #[.string nm, .slice a L c, .int .i64 t, .bool true, .int .i64 z4, .int .i64 z5] 104)).cell? ⟨wr.heap.size, 0, none⟩ = some (.string nm) by rw [World.cell?_alloc_new]; rfl)) (own_ne (unhide HO) (Nat.le_refl _)); have m1 := hgrow.cell (cell_later (bal (brf (wr.alloc (.cells #[.string nm, .slice a L c, .int .i64 t, .bool true, .int .i64 z4, .int .i64 z5] 104))) (.cells #[.string nm] 9)) (show (wr.alloc (.cells #[.string nm, .slice a L c, .int .i64 t, .bool true, .int .i64 z4, .int .i64 z5] 104)).cell? ⟨wr.heap.size, 1, none⟩ = some (.slice a L c) by rw [World.cell?_alloc_new]; rfl)) (own_ne (unhide HO) (Nat.le_refl _)); have m2 := hgrow.cell (cell_later (bal (brf (wr.alloc (.cells #[.string nm, .slice a L c, .int .i64 t, .bool true, .int .i64 z4, .int .i64 z5] 104))) (.cells #[.string nm] 9)) (show (wr.alloc (.cells #[.string nm, .slice a L c, .int .i64 t, .bool true, .int .i64 z4, .int .i64 z5] 104)).cell? ⟨wr.heap.size, 2, none⟩ = some (.int .i64 t) by rw [World.cell?_alloc_new]; rfl)) (own_ne (unhide HO) (Nat.le_refl _)); have m3 := hgrow.cell (cell_later (bal (brf (wr.alloc (.cells #[.string nm, .slice a L c, .int .i64 t, .bool true, .int .i64 z4, .int .i64 z5] 104))) (.cells #[.string nm] 9)) (show (wr.alloc (.cells #[.string nm, .slice a L c, .int .i64 t, .bool true, .int .i64 z4, .int .i64 z5] 104)).cell? ⟨wr.heap.size, 3, none⟩ = some (.bool true) by rw [World.cell?_alloc_new]; rfl)) (own_ne (unhide HO) (Nat.le_refl _)); have m4 := hgrow.cell (cell_later (bal (brf (wr.alloc (.cells #[.string nm, .slice a L c, .int .i64 t, .bool true, .int .i64 z4, .int .i64 z5] 104))) (.cells #[.string nm] 9)) (show (wr.alloc (.cells #[.string nm, .slice a L c, .int .i64 t, .bool true, .int .i64 z4, .int .i64 z5] 104)).cell? ⟨wr.heap.size, 4, none⟩ = some (.int .i64 z4) by rw [World.cell?_alloc_new]; rfl)) (own_ne (unhide HO) (Nat.le_refl _)); have m5 := hgrow.cell (cell_later (bal (brf (wr.alloc (.cells #[.string nm, .slice a L c, .int .i64 t, .bool true, .int .i64 z4, .int .i64 z5] 104))) (.cells #[.string nm] 9)) (show (wr.alloc (.cells #[.string nm, .slice a L c, .int .i64 t, .bool true, .int .i64 z4, .int .i64 z5] 104)).cell? ⟨wr.heap.size, 5, none⟩ = some (.int .i64 z5) by rw [World.cell?_alloc_new]; rfl)) (own_ne (unhide HO) (Nat.le_refl _)); have HR1 : Hid (OS W0.heap.size w2 v' (((bs.take (k + 1)).filter (·.reg)).map (·.name))) := hide (by rw [unhide HST]; exact OS.step hown' (unhide HO).2 (unhide HN)); clear hgrow hown' q1 q2 z0 z1 z2 z3 y4 y5)
            | fail)
          go_quiet (fail)
          go_wp2
          exact unhide HX _ _ _ _ _ _ _ _ _ _ _ _ _ _ _ _ _ _ _ _ _ _ _ _ _ _ _ _ _ _ _ _ _ _ _ _ _ _ _ _ _ _ _ _ _ _ _ _ _ _ _ _ _ _ _ _ _ _ _ _ _ _ _ _ _ _ _ _ _ _ _ _ _ _ _ _ _ _ _ _ _ _ _ _ _ _ _ _ _ _ _ _ _ _ _ _ _ _ _ _ _ _ _ _ _ _ _ _ _ _ _ _ _ _ _ _ _ _ _ _ _ _ _ _ _ _ _ _ _ _ v' _ (bdq (unhide HBB))
        have p4 : decide ((4 : Int) < (L : Int)) = false := decide_eq_false k4
        by_cases kt : t < 0
        · have HX := hide (unhide HF (unhide HFF (by rw [unhide HD2, decide_eq_false (p := 0 ≤ t) (by omega)]; simp)))
          have pt : decide (t < 0) = true := decide_eq_true kt
          clear hL k4 kt
          clear HT HF HFF HD2 HA HSA HCS HREG HRS
          go_wp2_with (first
            | (at_builtin; refine wpList_append_own _ rfl _ _ 22 rfl W0.heap.size 9 i0 (.string ByteArray.empty) 1 16 Tryz.underlying22 (unhide HI).1 (unhide HI).2.1 (unhide HI).2.2.1 (unhide HI).2.2.2 rfl (by decide) _ _ _ rfl (((unhide HO).1.alloc _).alloc _) ⟨wr.heap.size + 1, 0, none⟩ 1 1 [.string nm] rfl rfl (newS _ _ _ (by simp)) (oneS _) (by have := unhide HLEN; unfold maxLen; omega) (by have := unhide HLEN; omega) (by have := unhide HSZ; simp; omega) ?_; intro v' w2 hown' hgrow _; have HBB := hide (below_grown (bal (bal (unhide HB) (.cells #[.string nm, .slice a L c, .int .i64 t, .bool true, .int .i64 z4, .int .i64 z5] 104)) (.cells #[.string nm] 9)) hgrow (by have := unhide HSZ; simp; omega) (own_row (unhide HO).1)); obtain ⟨r1, r2⟩ := unhide HBX w2 (unhide HBB); have m0 := hgrow.cell (cell_later (bal (brf (wr.alloc (.cells #[.string nm, .slice a L c, .int .i64 t, .bool true, .int .i64 z4, .int .i64 z5] 104))) (.cells #[.string nm] 9)) (show (wr.alloc (.cells #[.string nm, .slice a L c, .int .i64 t, .bool true, .int .i64 z4, .int .i64 z5] 104)).cell? ⟨wr.heap.size, 0, none⟩ = some (.string nm) by rw [World.cell?_alloc_new]; rfl)) (own_ne (unhide HO) (Nat.le_refl _)); have m1 := hgrow.cell (cell_later (bal (brf (wr.alloc (.cells #[.string nm, .slice a L c, .int .i64 t, .bool true, .int .i64 z4, .int .i64 z5] 104))) (.cells #[.string nm] 9)) (show (wr.alloc (.cells #[.string nm, .slice a L c, .int .i64 t, .bool true, .int .i64 z4, .int .i64 z5] 104)).cell? ⟨wr.heap.size, 1, none⟩ = some (.slice a L c) by rw [World.cell?_alloc_new]; rfl)) (own_ne (unhide HO) (Nat.le_refl _)); have m2 := hgrow.cell (cell_later (bal (brf (wr.alloc (.cells #[.string nm, .slice a L c, .int .i64 t, .bool true, .int .i64 z4, .int .i64 z5] 104))) (.cells #[.string nm] 9)) (show (wr.alloc (.cells #[.string nm, .slice a L c, .int .i64 t, .bool true, .int .i64 z4, .int .i64 z5] 104)).cell? ⟨wr.heap.size, 2, none⟩ = some (.int .i64 t) by rw [World.cell?_alloc_new]; rfl)) (own_ne (unhide HO) (Nat.le_refl _)); have m3 := hgrow.cell (cell_later (bal (brf (wr.alloc (.cells #[.string nm, .slice a L c, .int .i64 t, .bool true, .int .i64 z4, .int .i64 z5] 104))) (.cells #[.string nm] 9)) (show (wr.alloc (.cells #[.string nm, .slice a L c, .int .i64 t, .bool true, .int .i64 z4, .int .i64 z5] 104)).cell? ⟨wr.heap.size, 3, none⟩ = some (.bool true) by rw [World.cell?_alloc_new]; rfl)) (own_ne (unhide HO) (Nat.le_refl _)); have m4 := hgrow.cell (cell_later (bal (brf (wr.alloc (.cells #[.string nm, .slice a L c, .int .i64 t, .bool true, .int .i64 z4, .int .i64 z5] 104))) (.cells #[.string nm] 9)) (show (wr.alloc (.cells #[.string nm, .slice a L c, .int .i64 t, .bool true, .int .i64 z4, .int .i64 z5] 104)).cell? ⟨wr.heap.size, 4, none⟩ = some (.int .i64 z4) by rw [World.cell?_alloc_new]; rfl)) (own_ne (unhide HO) (Nat.le_refl _)); have m5 := hgrow.cell (cell_later (bal (brf (wr.alloc (.cells #[.string nm, .slice a L c, .int .i64 t, .bool true, .int .i64 z4, .int .i64 z5] 104))) (.cells #[.string nm] 9)) (show (wr.alloc (.cells #[.string nm, .slice a L c, .int .i64 t, .bool true, .int .i64 z4, .int .i64 z5] 104)).cell? ⟨wr.heap.size, 5, none⟩ = some (.int .i64 z5) by rw [World.cell?_alloc_new]; rfl)) (own_ne (unhide HO) (Nat.le_refl _)); have HR1 : Hid (OS W0.heap.size w2 v' (((bs.take (k + 1)).filter (·.reg)).map (·.name))) := hide (by rw [unhide HST]; exact OS.step hown' (unhide HO).2 (unhide HN)); clear hgrow hown' q1 q2 z0 z1 z2 z3 y4 y5)
            | fail)
          go_quiet (fail)
          go_wp2
          exact unhide HX _ _ _ _ _ _ _ _ _ _ _ _ _ _ _ _ _ _ _ _ _ _ _ _ _ _ _ _ _ _ _ _ _ _ _ _ _ _ _ _ _ _ _ _ _ _ _ _ _ _ _ _ _ _ _ _ _ _ _ _ _ _ _ _ _ _ _ _ _ _ _ _ _ _ _ _ _ _ _ _ _ _ _ _ _ _ _ _ _ _ _ _ _ _ _ _ _ _ _ _ _ _ _ _ _ _ _ _ _ _ _ _ _ _ _ _ _ _ _ _ _ _ _ _ _ _ _ _ _ _ v' _ (bdq (unhide HBB))
        have pt : decide (t < 0) = false := decide_eq_false kt
        obtain ⟨M, hM⟩ : ∃ M, tmask xs.length = M := ⟨_, rfl⟩
        have HMK := hide (fun V => by have h := sMask xs.length (by omega) V; rw [hM, hL] at h; exact h)
        have HTR := hide (tmask_lt (k := xs.length) (by omega))
        rw [hM] at HTR HD2
        by_cases km : (M : Int) < t
        · have HX := hide (unhide HF (unhide HFF (by rw [unhide HD2, decide_eq_false (p := t ≤ (M : Int)) (by omega)]; simp)))
          have pm : decide ((M : Int) < t) = true := decide_eq_true km
          clear hL k4 kt hM HTR km
          clear HT HF HFF HD2 HA HSA HCS HREG HRS
          go_wp2_with (first
            | (at_builtin; refine wpList_append_own _ rfl _ _ 22 rfl W0.heap.size 9 i0 (.string ByteArray.empty) 1 16 Tryz.underlying22 (unhide HI).1 (unhide HI).2.1 (unhide HI).2.2.1 (unhide HI).2.2.2 rfl (by decide) _ _ _ rfl (((unhide HO).1.alloc _).alloc _) ⟨wr.heap.size + 1, 0, none⟩ 1 1 [.string nm] rfl rfl (newS _ _ _ (by simp)) (oneS _) (by have := unhide HLEN; unfold maxLen; omega) (by have := unhide HLEN; omega) (by have := unhide HSZ; simp; omega) ?_; intro v' w2 hown' hgrow _; have HBB := hide (below_grown (bal (bal (unhide HB) (.cells #[.string nm, .slice a L c, .int .i64 t, .bool true, .int .i64 z4, .int .i64 z5] 104)) (.cells #[.string nm] 9)) hgrow (by have := unhide HSZ; simp; omega) (own_row (unhide HO).1)); obtain ⟨r1, r2⟩ := unhide HBX w2 (unhide HBB); have m0 := hgrow.cell (cell_later (bal (brf (wr.alloc (.cells #[.string nm, .slice a L c, .int .i64 t, .bool true, .int .i64 z4, .int .i64 z5] 104))) (.cells #[.string nm] 9)) (show (wr.alloc (.cells #[.string nm, .slice a L c, .int .i64 t, .bool true, .int .i64 z4, .int .i64 z5] 104)).cell? ⟨wr.heap.size, 0, none⟩ = some (.string nm) by rw [World.cell?_alloc_new]; rfl)) (own_ne (unhide HO) (Nat.le_refl _)); have m1 := hgrow.cell (cell_later (bal (brf (wr.alloc (.cells #[.string nm, .slice a L c, .int .i64 t, .bool true, .int .i64 z4, .int .i64 z5] 104))) (.cells #[.string nm] 9)) (show (wr.alloc (.cells #[.string nm, .slice a L c, .int .i64 t, .bool true, .int .i64 z4, .int .i64 z5] 104)).cell? ⟨wr.heap.size, 1, none⟩ = some (.slice a L c) by rw [World.cell?_alloc_new]; rfl)) (own_ne (unhide HO) (Nat.le_refl _)); have m2 := hgrow.cell (cell_later (bal (brf (wr.alloc (.cells #[.string nm, .slice a L c, .int .i64 t, .bool true, .int .i64 z4, .int .i64 z5] 104))) (.cells #[.string nm] 9)) (show (wr.alloc (.cells #[.string nm, .slice a L c, .int .i64 t, .bool true, .int .i64 z4, .int .i64 z5] 104)).cell? ⟨wr.heap.size, 2, none⟩ = some (.int .i64 t) by rw [World.cell?_alloc_new]; rfl)) (own_ne (unhide HO) (Nat.le_refl _)); have m3 := hgrow.cell (cell_later (bal (brf (wr.alloc (.cells #[.string nm, .slice a L c, .int .i64 t, .bool true, .int .i64 z4, .int .i64 z5] 104))) (.cells #[.string nm] 9)) (show (wr.alloc (.cells #[.string nm, .slice a L c, .int .i64 t, .bool true, .int .i64 z4, .int .i64 z5] 104)).cell? ⟨wr.heap.size, 3, none⟩ = some (.bool true) by rw [World.cell?_alloc_new]; rfl)) (own_ne (unhide HO) (Nat.le_refl _)); have m4 := hgrow.cell (cell_later (bal (brf (wr.alloc (.cells #[.string nm, .slice a L c, .int .i64 t, .bool true, .int .i64 z4, .int .i64 z5] 104))) (.cells #[.string nm] 9)) (show (wr.alloc (.cells #[.string nm, .slice a L c, .int .i64 t, .bool true, .int .i64 z4, .int .i64 z5] 104)).cell? ⟨wr.heap.size, 4, none⟩ = some (.int .i64 z4) by rw [World.cell?_alloc_new]; rfl)) (own_ne (unhide HO) (Nat.le_refl _)); have m5 := hgrow.cell (cell_later (bal (brf (wr.alloc (.cells #[.string nm, .slice a L c, .int .i64 t, .bool true, .int .i64 z4, .int .i64 z5] 104))) (.cells #[.string nm] 9)) (show (wr.alloc (.cells #[.string nm, .slice a L c, .int .i64 t, .bool true, .int .i64 z4, .int .i64 z5] 104)).cell? ⟨wr.heap.size, 5, none⟩ = some (.int .i64 z5) by rw [World.cell?_alloc_new]; rfl)) (own_ne (unhide HO) (Nat.le_refl _)); have HR1 : Hid (OS W0.heap.size w2 v' (((bs.take (k + 1)).filter (·.reg)).map (·.name))) := hide (by rw [unhide HST]; exact OS.step hown' (unhide HO).2 (unhide HN)); clear hgrow hown' q1 q2 z0 z1 z2 z3 y4 y5)
            | fail)
          go_quiet ((go_at_call 79; exact Calls.quiet_of_same (unhide HMK _)))
          go_wp2
          exact unhide HX _ _ _ _ _ _ _ _ _ _ _ _ _ _ _ _ _ _ _ _ _ _ _ _ _ _ _ _ _ _ _ _ _ _ _ _ _ _ _ _ _ _ _ _ _ _ _ _ _ _ _ _ _ _ _ _ _ _ _ _ _ _ _ _ _ _ _ _ _ _ _ _ _ _ _ _ _ _ _ _ _ _ _ _ _ _ _ _ _ _ _ _ _ _ _ _ _ _ _ _ _ _ _ _ _ _ _ _ _ _ _ _ _ _ _ _ _ _ _ _ _ _ _ _ _ _ _ _ _ _ v' _ (bdq (unhide HBB))
        have pm : decide ((M : Int) < t) = false := decide_eq_false km
        have HIB : Hid (LL = srcsB FA bs k true N xs) := hide (by rw [unhide HD2, decide_eq_true (p := xs.length ≤ 4) (by omega), decide_eq_true (p := 0 ≤ t) (by omega), decide_eq_true (p := t ≤ (M : Int)) (by omega)]; rfl)
        have HL := hide hL
        have HY4 : Hid (xs.length ≤ 4) := hide (by omega)
        have HKL := hide hlt
        obtain ⟨wr1, hwr1⟩ : ∃ V : World, V = wr := ⟨wr, rfl⟩
        have HW1 := hide hwr1
        clear hL k4 kt hM HTR km HD2 hwr1
        go_wp2_with (first
          | (at_builtin; refine wpList_append_own _ rfl _ _ 22 rfl W0.heap.size 9 i0 (.string ByteArray.empty) 1 16 Tryz.underlying22 (unhide HI).1 (unhide HI).2.1 (unhide HI).2.2.1 (unhide HI).2.2.2 rfl (by decide) _ _ _ rfl (((unhide HO).1.alloc _).alloc _) ⟨wr.heap.size + 1, 0, none⟩ 1 1 [.string nm] rfl rfl (newS _ _ _ (by simp)) (oneS _) (by have := unhide HLEN; unfold maxLen; omega) (by have := unhide HLEN; omega) (by have := unhide HSZ; simp; omega) ?_; intro v' w2 hown' hgrow _; have HBB := hide (below_grown (bal (bal (unhide HB) (.cells #[.string nm, .slice a L c, .int .i64 t, .bool true, .int .i64 z4, .int .i64 z5] 104)) (.cells #[.string nm] 9)) hgrow (by have := unhide HSZ; simp; omega) (own_row (unhide HO).1)); obtain ⟨r1, r2⟩ := unhide HBX w2 (unhide HBB); have m0 := hgrow.cell (cell_later (bal (brf (wr.alloc (.cells #[.string nm, .slice a L c, .int .i64 t, .bool true, .int .i64 z4, .int .i64 z5] 104))) (.cells #[.string nm] 9)) (show (wr.alloc (.cells #[.string nm, .slice a L c, .int .i64 t, .bool true, .int .i64 z4, .int .i64 z5] 104)).cell? ⟨wr.heap.size, 0, none⟩ = some (.string nm) by rw [World.cell?_alloc_new]; rfl)) (own_ne (unhide HO) (Nat.le_refl _)); have m1 := hgrow.cell (cell_later (bal (brf (wr.alloc (.cells #[.string nm, .slice a L c, .int .i64 t, .bool true, .int .i64 z4, .int .i64 z5] 104))) (.cells #[.string nm] 9)) (show (wr.alloc (.cells #[.string nm, .slice a L c, .int .i64 t, .bool true, .int .i64 z4, .int .i64 z5] 104)).cell? ⟨wr.heap.size, 1, none⟩ = some (.slice a L c) by rw [World.cell?_alloc_new]; rfl)) (own_ne (unhide HO) (Nat.le_refl _)); have m2 := hgrow.cell (cell_later (bal (brf (wr.alloc (.cells #[.string nm, .slice a L c, .int .i64 t, .bool true, .int .i64 z4, .int .i64 z5] 104))) (.cells #[.string nm] 9)) (show (wr.alloc (.cells #[.string nm, .slice a L c, .int .i64 t, .bool true, .int .i64 z4, .int .i64 z5] 104)).cell? ⟨wr.heap.size, 2, none⟩ = some (.int .i64 t) by rw [World.cell?_alloc_new]; rfl)) (own_ne (unhide HO) (Nat.le_refl _)); have m3 := hgrow.cell (cell_later (bal (brf (wr.alloc (.cells #[.string nm, .slice a L c, .int .i64 t, .bool true, .int .i64 z4, .int .i64 z5] 104))) (.cells #[.string nm] 9)) (show (wr.alloc (.cells #[.string nm, .slice a L c, .int .i64 t, .bool true, .int .i64 z4, .int .i64 z5] 104)).cell? ⟨wr.heap.size, 3, none⟩ = some (.bool true) by rw [World.cell?_alloc_new]; rfl)) (own_ne (unhide HO) (Nat.le_refl _)); have m4 := hgrow.cell (cell_later (bal (brf (wr.alloc (.cells #[.string nm, .slice a L c, .int .i64 t, .bool true, .int .i64 z4, .int .i64 z5] 104))) (.cells #[.string nm] 9)) (show (wr.alloc (.cells #[.string nm, .slice a L c, .int .i64 t, .bool true, .int .i64 z4, .int .i64 z5] 104)).cell? ⟨wr.heap.size, 4, none⟩ = some (.int .i64 z4) by rw [World.cell?_alloc_new]; rfl)) (own_ne (unhide HO) (Nat.le_refl _)); have m5 := hgrow.cell (cell_later (bal (brf (wr.alloc (.cells #[.string nm, .slice a L c, .int .i64 t, .bool true, .int .i64 z4, .int .i64 z5] 104))) (.cells #[.string nm] 9)) (show (wr.alloc (.cells #[.string nm, .slice a L c, .int .i64 t, .bool true, .int .i64 z4, .int .i64 z5] 104)).cell? ⟨wr.heap.size, 5, none⟩ = some (.int .i64 z5) by rw [World.cell?_alloc_new]; rfl)) (own_ne (unhide HO) (Nat.le_refl _)); have HR1 : Hid (OS W0.heap.size w2 v' (((bs.take (k + 1)).filter (·.reg)).map (·.name))) := hide (by rw [unhide HST]; exact OS.step hown' (unhide HO).2 (unhide HN)); clear hgrow hown' q1 q2 z0 z1 z2 z3 y4 y5)
          | fail)
        go_quiet ((go_at_call 79; exact Calls.quiet_of_same (unhide HMK _)))
        go_wp2
        clear p4 pt pm a0 a1 a2 a3 g0 g1 g2 g3
        obtain ⟨X, hX⟩ : ∃ X, X = w2.drewN nq := ⟨_, rfl⟩
        rw [← hX]
        have hWX : Below w2.heap.size w2 X := by rw [hX]; exact bdq (brf w2)
        have HBX2 := hide (btr (unhide HBB) hWX)
        have HRX : Hid (OS W0.heap.size X v' (((bs.take (k + 1)).filter (·.reg)).map (·.name))) := hide ((unhide HR1).later hWX)
        have n1 := cell_later hWX m1
        have n3 := cell_later hWX m3
        clear m0 m1 m2 m3 m4 m5 r1 r2 HR1 hX hWX
        refine sSrc (W := X) (xs := xs) (bs := bs) (FA := FA) (N := N) (I := k) (rg := true) (a := a) (c := c) (n := L) (q := wr.heap.size) (pb := pb) (l2 := bs.length) (c2 := c2) (unhide HL).symm (unhide HY4) (unhide HNB) (unhide HNS) (unhide HKL) n1 n3 (unhide HLC) (unhide HBX X (unhide HBX2)).2 rfl (unhide HCAP) (hide ?_) (hide ?_) ?_ ?_
        · intro i y hy
          obtain ⟨b', o', h1, h2⟩ := unhide HRS i y hy
          exact ⟨b', o', h1, cell_later (unhide HBX2) h2⟩
        · intro i x hx
          obtain ⟨b', o', h1, h2⟩ := unhide HREG i x hx
          exact ⟨b', o', h1, cell_later (unhide HBX2) h2⟩
        · intro hins y2 y8 y9 y10 y118 y119 y120 y121 y122 y123 y124 y125 y126 y127 y128 y129 y130 y131 y132 y133 y134 y135 y136 y137 y138 y139 y140 y141 y142 y143 y144 y145 y146 y147 y148 y149 y150 y151 y152 y153 y154 y155 y156 y157 y158 y159 y160 y161 y162 y163 y164 y165 y166 y167 y168 y169 y170 y171
          have HAA : Hid (upB (blkSAt FA bs l1 N) (k + 1) = true) := hide (by rw [unhide HSA, unhide HA, unhide HIB, hins]; rfl)
          clear hins HT HF HFF HSA HA HCS HRS HREG HIB n1 n3 HST
          go_wp2_with fail
          go_roundw
          case rel => exact ⟨k + 1, by omega, by go_num, unhide HRX, unhide HAA, unhide HBX2⟩
          case measure => simp [intOf]; omega
        · intro hins y8 y9 y10 y118 y119 y120 y121 y122 y123 y124 y125 y126 y127 y128 y129 y130 y131 y132 y133 y134 y135 y136 y137 y138 y139 y140 y141 y142 y143 y144 y145 y146 y147 y148 y149 y150 y151 y152 y153 y154 y155 y156 y157 y158 y159 y160 y161 y162 y163 y164 y165 y166 y167 y168 y169 y170 y171
          have HX := hide (unhide HF (unhide HFF (by rw [unhide HIB, hins])))
          clear hins HT HF HFF HSA HA HCS HRS HREG HIB n1 n3 HST
          go_wp2_with fail
          exact unhide HX _ _ _ _ _ _ _ _ _ _ _ _ _ _ _ _ _ _ _ _ _ _ _ _ _ _ _ _ _ _ _ _ _ _ _ _ _ _ _ _ _ _ _ _ _ _ _ _ _ _ _ _ _ _ _ _ _ _ _ _ _ _ _ _ _ _ _ _ _ _ _ _ _ _ _ _ _ _ _ _ _ _ _ _ _ _ _ _ _ _ _ _ _ _ _ _ _ _ _ _ _ _ _ _ _ _ _ _ _ _ _ _ _ _ _ _ _ _ _ _ _ _ _ _ _ _ _ _ _ _ v' X (unhide HBX2)
    · obtain rfl : k = bs.length := by omega
      have HX := hide (unhide HT (unhide HA))
      have HO2 : Hid (OS W0.heap.size wr u5 ((bs.filter (·.reg)).map (·.name))) := hide (by rwa [List.take_of_length_le (Nat.le_refl _)] at ho)
      clear hb ho HT HF HCS HREG HA
      go_wp2
      exact unhide HX _ _ _ _ _ _ _ _ _ _ _ _ _ _ _ _ _ _ _ _ _ _ _ _ _ _ _ _ _ _ _ _ _ _ _ _ _ _ _ _ _ _ _ _ _ _ _ _ _ _ _ _ _ _ _ _ _ _ _ _ _ _ _ _ _ _ _ _ _ _ _ _ _ _ _ _ _ _ _ _ _ _ _ _ _ _ _ _ _ _ _ _ _ _ _ _ _ _ _ _ _ _ _ _ _ _ _ _ _ _ _ _ _ _ _ _ _ _ _ _ _ _ _ _ _ _ _ _ _ _ _ u5 wr (unhide HO2) (unhide HB)
end Go.Proofs.YtlldfaniddbjaaaGreatDoor
