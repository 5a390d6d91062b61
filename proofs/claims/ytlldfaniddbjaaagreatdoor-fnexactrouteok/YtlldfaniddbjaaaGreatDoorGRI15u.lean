/- The program's order of goals: rows behind tiles, up, across. -/
import Derived.Test.YtlldfaniddbjaaaGreatDoorGRI9
import Derived.Test.YtlldfaniddbjaaaGreatDoorProg
import Derived.Shelf.SlSortCmp.NoneTotal
import Derived.Laws.OwnMore
import Derived.Test.YtlldfaniddbjaaaGreatDoorGRI7
import Derived.BigQuiet
namespace Go.Proofs.YtlldfaniddbjaaaGreatDoor
open Go Go.RowKit Gs
open Go.Sort (grow)
set_option linter.unusedVariables false
set_option linter.unusedSimpArgs false
set_option maxRecDepth 100000
set_option maxHeartbeats 16000000
def cfN (W : Int) (x y : Int × Int) : Int := if cmpI (rowN W x.1) (rowN W y.1) ≠ 0 then cmpI (rowN W x.1) (rowN W y.1) else if cmpI x.2 y.2 ≠ 0 then cmpI x.2 y.2 else cmpI x.1 y.1
theorem iInOrd (ob sb p0 p1 p2 fb : Nat) (W x1 x2 y1 y2 : Int) (w : World) (ho : w.cell? ⟨ob, 0, none⟩ = some (.slice (some ⟨sb, 0, none⟩) 3 3))
    (h0 : w.cell? ⟨sb, 0, none⟩ = some (.func (.func 97) #[] #[.pointer (some ⟨p0, 0, none⟩)])) (h1 : w.cell? ⟨sb, 1, none⟩ = some (.func (.func 97) #[] #[.pointer (some ⟨p1, 0, none⟩)])) (h2 : w.cell? ⟨sb, 2, none⟩ = some (.func (.func 97) #[] #[.pointer (some ⟨p2, 0, none⟩)]))
    (k0 : w.cell? ⟨p0, 0, none⟩ = some (.func (.func 64) #[] #[.pointer (some ⟨fb, 0, none⟩)])) (k1 : w.cell? ⟨p1, 0, none⟩ = some (.func (.func 69) #[] #[])) (k2 : w.cell? ⟨p2, 0, none⟩ = some (.func (.func 70) #[] #[])) (hf : w.cell? ⟨fb, 5, none⟩ = some (.int .i64 W)) :
    Calls Tryz.prog 96 #[.agg #[.int .i64 x1, .int .i64 x2], .agg #[.int .i64 y1, .int .i64 y2], .pointer (some ⟨ob, 0, none⟩)] w fun e w' => e = .returned (.int .i64 (cfN W (x1, x2) (y1, y2))) ∧ Gd w w' := by
  obtain ⟨c0, hc0⟩ : ∃ c, cmpI (rowN W x1) (rowN W y1) = c := ⟨_, rfl⟩
  obtain ⟨c1, hc1⟩ : ∃ c, cmpI x2 y2 = c := ⟨_, rfl⟩
  obtain ⟨c2, hc2⟩ : ∃ c, cmpI x1 y1 = c := ⟨_, rfl⟩
  have HR : Hid (cfN W (x1, x2) (y1, y2) = if c0 ≠ 0 then c0 else if c1 ≠ 0 then c1 else c2) := hide (by unfold cfN; rw [hc0, hc1, hc2])
  obtain ⟨R, hR⟩ : ∃ r, cfN W (x1, x2) (y1, y2) = r := ⟨_, rfl⟩
  rw [hR] at HR ⊢
  obtain ⟨W0, hW0⟩ : ∃ W0, W0 = (w.alloc (.cells #[.int .i64 x1, .int .i64 x2] 87)).alloc (.cells #[.int .i64 y1, .int .i64 y2] 87) := ⟨_, rfl⟩
  have HB0 := hide (show Gd w W0 by rw [hW0]; exact ((Gd.refl w).alloc _).alloc _)
  have HC0 : Hid (∀ V, Gd W0 V → Calls Tryz.prog 97 #[.agg #[.int .i64 x1, .int .i64 x2], .agg #[.int .i64 y1, .int .i64 y2], .pointer (some ⟨p0, 0, none⟩)] V fun e w' => e = .returned (.int .i64 c0) ∧ Gd V w') := hide (fun V hV => by
    have hb := btr (unhide HB0).below hV.below
    rw [← hc0]
    exact iByNum0 p0 fb W x1 x2 y1 y2 V (cell_later hb k0) (cell_later hb hf))
  have HC1 : Hid (∀ V, Gd W0 V → Calls Tryz.prog 97 #[.agg #[.int .i64 x1, .int .i64 x2], .agg #[.int .i64 y1, .int .i64 y2], .pointer (some ⟨p1, 0, none⟩)] V fun e w' => e = .returned (.int .i64 c1) ∧ Gd V w') := hide (fun V hV => by
    have hb := btr (unhide HB0).below hV.below
    rw [← hc1]
    exact iByNum1 p1 x1 x2 y1 y2 V (cell_later hb k1))
  have HC2 : Hid (∀ V, Gd W0 V → Calls Tryz.prog 97 #[.agg #[.int .i64 x1, .int .i64 x2], .agg #[.int .i64 y1, .int .i64 y2], .pointer (some ⟨p2, 0, none⟩)] V fun e w' => e = .returned (.int .i64 c2) ∧ Gd V w') := hide (fun V hV => by
    have hb := btr (unhide HB0).below hV.below
    rw [← hc2]
    exact iByNum2 p2 x1 x2 y1 y2 V (cell_later hb k2))
  have HS : Hid (∀ V, Gd W0 V → V.cell? ⟨ob, 0, none⟩ = some (.slice (some ⟨sb, 0, none⟩) 3 3) ∧ V.cell? ⟨sb, 0, none⟩ = some (.func (.func 97) #[] #[.pointer (some ⟨p0, 0, none⟩)]) ∧ V.cell? ⟨sb, 1, none⟩ = some (.func (.func 97) #[] #[.pointer (some ⟨p1, 0, none⟩)]) ∧ V.cell? ⟨sb, 2, none⟩ = some (.func (.func 97) #[] #[.pointer (some ⟨p2, 0, none⟩)])) := hide (fun V hV => by
    have hb := btr (unhide HB0).below hV.below
    exact ⟨cell_later hb ho, cell_later hb h0, cell_later hb h1, cell_later hb h2⟩)
  have HXY : Hid (∀ V, Gd W0 V → V.cell? ⟨w.heap.size, 0, none⟩ = some (.int .i64 x1) ∧ V.cell? ⟨w.heap.size, 1, none⟩ = some (.int .i64 x2) ∧ V.cell? ⟨w.heap.size + 1, 0, none⟩ = some (.int .i64 y1) ∧ V.cell? ⟨w.heap.size + 1, 1, none⟩ = some (.int .i64 y2)) := hide (fun V hV => by
    have hb := hV.below
    rw [hW0] at hb
    have K := fun (i : Nat) z hz => (new_cell (i := i) (x := z) (btr (bal (brf _) _) hb) hz).1
    have K2 := fun (i : Nat) z hz => (new_cell (i := i) (x := z) hb hz).1
    simp only [World.size_alloc] at K2
    exact ⟨K 0 _ rfl, K 1 _ rfl, K2 0 _ rfl, K2 1 _ rfl⟩)
  have HWW := hide hW0
  obtain ⟨q0, q1, q2, q3⟩ := unhide HS W0 (Gd.refl _)
  obtain ⟨r0, r1, r2, r3⟩ := unhide HXY W0 (Gd.refl _)
  rw [unhide HWW] at q0 q1 q2 q3 r0 r1 r2 r3
  clear ho h0 h1 h2 k0 k1 k2 hf hc0 hc1 hc2 hR hW0
  go_enter Tryz.func96, Tryz.ntmps96
  go_wp2_with fail
  refine wp_loop_rounds 4 ?_
  rw [rounds_succ]
  go_wp2_with fail
  rw [← unhide HWW]
  refine (unhide HC0 W0 (Gd.refl _)).mono ?_
  rintro e W1 ⟨rfl, hg1⟩
  have HG1 := hide hg1
  clear q0 q1 q2 q3 r0 r1 r2 r3 hg1
  by_cases g0 : c0 = 0
  case neg =>
    have HV : Hid (R = c0) := hide (by rw [unhide HR, if_pos g0])
    go_wp2_with fail
    exact bodyPost_ret (v := .int .i64 c0) (by simp [results, Tryz.results96, go_sem]) rfl ⟨by rw [unhide HV], (unhide HB0).trans (unhide HG1)⟩
  obtain ⟨q0, q1, q2, q3⟩ := unhide HS W1 (unhide HG1)
  obtain ⟨r0, r1, r2, r3⟩ := unhide HXY W1 (unhide HG1)
  go_wp2_with fail
  rw [rounds_succ]
  go_wp2_with fail
  refine (unhide HC1 W1 (unhide HG1)).mono ?_
  rintro e W2 ⟨rfl, hg2⟩
  have HG2 := hide ((unhide HG1).trans hg2)
  clear q0 q1 q2 q3 r0 r1 r2 r3 hg2
  by_cases g1 : c1 = 0
  case neg =>
    have HV : Hid (R = c1) := hide (by rw [unhide HR, if_neg (fun h => h g0), if_pos g1])
    go_wp2_with fail
    exact bodyPost_ret (v := .int .i64 c1) (by simp [results, Tryz.results96, go_sem]) rfl ⟨by rw [unhide HV], (unhide HB0).trans (unhide HG2)⟩
  obtain ⟨q0, q1, q2, q3⟩ := unhide HS W2 (unhide HG2)
  obtain ⟨r0, r1, r2, r3⟩ := unhide HXY W2 (unhide HG2)
  go_wp2_with fail
  rw [rounds_succ]
  go_wp2_with fail
  refine (unhide HC2 W2 (unhide HG2)).mono ?_
  rintro e W3 ⟨rfl, hg3⟩
  have HG3 := hide ((unhide HG2).trans hg3)
  have HV : Hid (R = c2) := hide (by rw [unhide HR, if_neg (fun h => h g0), if_neg (fun h => h g1)])
  clear q0 q1 q2 q3 r0 r1 r2 r3 hg3
  by_cases g2 : c2 = 0
  case neg =>
    go_wp2_with fail
    exact bodyPost_ret (v := .int .i64 c2) (by simp [results, Tryz.results96, go_sem]) rfl ⟨by rw [unhide HV], (unhide HB0).trans (unhide HG3)⟩
  go_wp2_with fail
  rw [rounds_succ]
  go_wp2_with fail
  have HV2 : Hid (R = 0) := hide (by rw [unhide HV, g2])
  exact bodyPost_ret (v := .int .i64 0) (by simp [results, Tryz.results96, go_sem]) rfl ⟨by rw [unhide HV2], (unhide HB0).trans (unhide HG3)⟩
end Go.Proofs.YtlldfaniddbjaaaGreatDoor
namespace Go.Proofs
open Go.Shelf
def Tryz.laysSF_ren : Go.Shelf.Ren := ⟨fun | 6 => 66 | 15 => 95 | 14 => 94 | 28 => 122 | 29 => 123 | 20 => 114 | 21 => 115 | 22 => 116 | 23 => 117 | 24 => 118 | 25 => 119 | 26 => 120 | 27 => 121 | 46 => 130 | 47 => 131 | 48 => 132 | 49 => 133 | 50 => 134 | 57 => 135 | n => n, fun | 22 => 78 | 24 => 87 | 25 => 124 | 3 => 3 | 39 => 145 | 0 => 0 | 53 => 171 | 55 => 173 | 4 => 4 | 46 => 165 | 45 => 164 | 50 => 116 | 5 => 5 | 9 => 9 | 66 => 179 | 70 => 183 | 76 => 186 | 77 => 187 | n => n, fun | n => n⟩
theorem Tryz.laysSF : Go.Proofs.SlLaysF0.n6 Tryz.prog Tryz.laysSF_ren := {
  mixed := by kernel_rfl
  f6 := ⟨Tryz.f66.name, by decide, Tryz.func66.trans (congrArg some (by kernel_rfl))⟩
  f14 := ⟨Tryz.f94.name, by decide, Tryz.func94.trans (congrArg some (by kernel_rfl))⟩
  f15 := Tryz.func95.trans (congrArg some (by kernel_rfl))
  f20 := ⟨Tryz.f114.name, by decide, Tryz.func114.trans (congrArg some (by kernel_rfl))⟩
  f21 := ⟨Tryz.f115.name, by decide, Tryz.func115.trans (congrArg some (by kernel_rfl))⟩
  f22 := ⟨Tryz.f116.name, by decide, Tryz.func116.trans (congrArg some (by kernel_rfl))⟩
  f23 := ⟨Tryz.f117.name, by decide, Tryz.func117.trans (congrArg some (by kernel_rfl))⟩
  f24 := ⟨Tryz.f118.name, by decide, Tryz.func118.trans (congrArg some (by kernel_rfl))⟩
  f25 := ⟨Tryz.f119.name, by decide, Tryz.func119.trans (congrArg some (by kernel_rfl))⟩
  f26 := ⟨Tryz.f120.name, by decide, Tryz.func120.trans (congrArg some (by kernel_rfl))⟩
  f27 := ⟨Tryz.f121.name, by decide, Tryz.func121.trans (congrArg some (by kernel_rfl))⟩
  f28 := Tryz.func122.trans (congrArg some (by kernel_rfl))
  f29 := Tryz.func123.trans (congrArg some (by kernel_rfl))
  f46 := ⟨Tryz.f130.name, by decide, Tryz.func130.trans (congrArg some (by kernel_rfl))⟩
  f47 := Tryz.func131.trans (congrArg some (by kernel_rfl))
  f48 := Tryz.func132.trans (congrArg some (by kernel_rfl))
  f49 := ⟨Tryz.f133.name, by decide, Tryz.func133.trans (congrArg some (by kernel_rfl))⟩
  f50 := ⟨Tryz.f134.name, by decide, Tryz.func134.trans (congrArg some (by kernel_rfl))⟩
  f57 := ⟨Tryz.f135.name, by decide, Tryz.func135.trans (congrArg some (by kernel_rfl))⟩
  t0 := Tryz.underlying0
  a0 := Tryz.isAgg0
  z0 := Tryz.sizeOf0
  v0 := Tryz.zeroValue0
  t3 := Tryz.underlying3
  a3 := Tryz.isAgg3
  z3 := Tryz.sizeOf3
  v3 := Tryz.zeroValue3
  t4 := Tryz.underlying4
  a4 := Tryz.isAgg4
  z4 := Tryz.sizeOf4
  v4 := Tryz.zeroValue4
  t5 := Tryz.underlying5
  a5 := Tryz.isAgg5
  z5 := Tryz.sizeOf5
  v5 := Tryz.zeroValue5
  t9 := Tryz.underlying9
  a9 := Tryz.isAgg9
  z9 := Tryz.sizeOf9
  v9 := Tryz.zeroValue9
  t22 := Tryz.underlying78
  a22 := Tryz.isAgg78
  z22 := Tryz.sizeOf78
  v22 := Tryz.zeroValue78
  t25 := Tryz.underlying124
  a25 := Tryz.isAgg124
  z25 := Tryz.sizeOf124
  v25 := Tryz.zeroValue124
  t39 := Tryz.underlying145
  a39 := Tryz.isAgg145
  z39 := Tryz.sizeOf145
  v39 := Tryz.zeroValue145
  t45 := Tryz.underlying164
  a45 := Tryz.isAgg164
  z45 := Tryz.sizeOf164
  v45 := Tryz.zeroValue164
  t46 := Tryz.underlying165
  a46 := Tryz.isAgg165
  z46 := Tryz.sizeOf165
  v46 := Tryz.zeroValue165
  t50 := Tryz.underlying116
  a50 := Tryz.isAgg116
  z50 := Tryz.sizeOf116
  v50 := Tryz.zeroValue116
  t53 := Tryz.underlying171
  a53 := Tryz.isAgg171
  z53 := Tryz.sizeOf171
  v53 := Tryz.zeroValue171
  t55 := Tryz.underlying173
  a55 := Tryz.isAgg173
  z55 := Tryz.sizeOf173
  v55 := Tryz.zeroValue173
  t66 := Tryz.underlying179
  a66 := Tryz.isAgg179
  z66 := Tryz.sizeOf179
  v66 := Tryz.zeroValue179
  t70 := Tryz.underlying183
  a70 := Tryz.isAgg183
  z70 := Tryz.sizeOf183
  v70 := Tryz.zeroValue183
  t76 := Tryz.underlying186
  a76 := Tryz.isAgg186
  z76 := Tryz.sizeOf186
  v76 := Tryz.zeroValue186
  t77 := Tryz.underlying187
  a77 := Tryz.isAgg187
  z77 := Tryz.sizeOf187
  v77 := Tryz.zeroValue187 }
end Go.Proofs
namespace Go.Proofs.YtlldfaniddbjaaaGreatDoor
open Go Go.RowKit Gs
open Go.Sort (grow SWO)
set_option linter.unusedVariables false
set_option linter.unusedSimpArgs false
set_option maxRecDepth 100000
theorem cmpI_lt {a b : Int} : cmpI a b < 0 ↔ a < b := by unfold cmpI; split <;> (try split) <;> omega
theorem cmpI_ne {a b : Int} : cmpI a b ≠ 0 ↔ a ≠ b := by unfold cmpI; split <;> (try split) <;> omega
theorem cfN_lt (W : Int) (x y : Int × Int) : ltOf (cfN W) x y = true ↔ rowN W x.1 < rowN W y.1 ∨ (rowN W x.1 = rowN W y.1 ∧ (x.2 < y.2 ∨ (x.2 = y.2 ∧ x.1 < y.1))) := by
  unfold ltOf cfN
  rw [decide_eq_true_eq]
  by_cases h1 : rowN W x.1 = rowN W y.1
  · rw [if_neg (fun h => cmpI_ne.1 h h1)]
    by_cases h2 : x.2 = y.2
    · rw [if_neg (fun h => cmpI_ne.1 h h2), cmpI_lt]; omega
    · rw [if_pos (cmpI_ne.2 h2), cmpI_lt]; omega
  · rw [if_pos (cmpI_ne.2 h1), cmpI_lt]; omega
theorem cfN_swo (W : Int) : SWO (ltOf (cfN W)) := by
  refine ⟨fun x => ?_, fun x y z h1 h2 => ?_, fun x y z h1 h2 => ?_⟩
  · rw [← Bool.not_eq_true, cfN_lt]; omega
  · rw [cfN_lt] at *; omega
  · rw [← Bool.not_eq_true, cfN_lt] at *; omega
end Go.Proofs.YtlldfaniddbjaaaGreatDoor
namespace Go.Proofs.YtlldfaniddbjaaaGreatDoor
open Go Go.RowKit Gs Go.Lib
open Go.Sort (grow SWO PermIn putRow putRowK HoldsK flatK get_flatK size_flatK)
set_option linter.unusedVariables false
set_option linter.unusedSimpArgs false
set_option maxRecDepth 100000
set_option maxHeartbeats 3200000
theorem fx_sort (w : World) (blk m : Nat) (dk : Array (Int × Int)) (os : Array Obj) : Fx blk w (sortWorldK spC 2 w blk 0 m dk os) := by
  refine ⟨rfl, rfl, rfl, by simp [sortWorldK, grow, putRowK, putRow, Go.Sort.mapBlock, Go.Sort.ahead], fun k hk hne => ?_⟩
  have h1 : k < (putRowK spC 2 (Go.Sort.ahead w m) blk 0 dk).heap.size := by
    simpa [putRowK, putRow, Go.Sort.mapBlock, Go.Sort.ahead] using hk
  show ((putRowK spC 2 (Go.Sort.ahead w m) blk 0 dk).heap ++ os)[k]? = _
  rw [Array.getElem?_append_left h1]
  simp only [putRowK, putRow, Go.Sort.mapBlock, Go.Sort.ahead, Array.getElem?_modify]
  rw [if_neg (fun e => hne e.symm)]
theorem spC_get (s : Int × Int) : (spC s)[0]! = .int .i64 s.1 ∧ (spC s)[1]! = .int .i64 s.2 := ⟨rfl, rfl⟩
theorem holds_of {w : World} {B blk cap : Nat} {xs : List (Int × Int)} (h : OW 87 2 spC B w (.slice (some ⟨blk, 0, none⟩) xs.length cap) xs) : HoldsK spC 2 w blk 0 xs.toArray := by
  intro j hj
  rw [size_flatK] at hj
  have hj' : j < xs.length * 2 := by simpa using hj
  rw [get_flatK spC 2 xs.toArray j hj, Nat.zero_add]
  have h1 := World.ownsRow.cellAt h j hj'
  have h2 := World.ownsRow.frozenAt h j
  refine ⟨?_, h2⟩
  rw [h1]
  have hq : j / 2 < xs.length := by omega
  have hx : xs[j / 2]? = some xs[j / 2] := List.getElem?_eq_getElem hq
  have hm : j % 2 < 2 := Nat.mod_lt _ (by decide)
  have hy : (spC xs[j / 2])[j % 2]? = some (spC xs[j / 2])[j % 2]! := by
    have : j % 2 = 0 ∨ j % 2 = 1 := by omega
    rcases this with e | e <;> rw [e] <;> rfl
  have := fm_get spC_len xs (j / 2) (j % 2) _ _ hx hy
  rw [Nat.div_add_mod' j 2] at this
  rw [this]
  have e : xs.toArray[j / 2]! = xs[j / 2] := by simp [hq]
  rw [e]; rfl
theorem rs_of {V : World} {blk cap : Nat} {d : Array (Int × Int)} (h : HoldsK spC 2 V blk 0 d) (hc : d.size ≤ cap) (hl : d.size ≤ maxLen) : RS 2 RSpot V 0 d.toList (.slice (some ⟨blk, 0, none⟩) d.size cap) := by
  refine ⟨_, cap, by simp, by simpa using hc, by simpa using hl, fun _ => ⟨blk, 0, rfl, Nat.zero_le _, fun i x hx => ?_⟩⟩
  have hi : i < d.size := by
    have := (List.getElem?_eq_some_iff.1 hx).1
    simpa using this
  have e : d[i]! = x := by
    rw [getElem!_pos d i hi]
    have : d.toList[i]? = some d[i] := by simp [hi]
    rw [this] at hx
    injection hx
  have k0 := (h.cell hi (c := 0) (by decide)).1
  have k1 := (h.cell hi (c := 1) (by decide)).1
  rw [e] at k0 k1
  refine ⟨spC x, rfl, fun j y hj => ?_, rfl⟩
  match j, hj with
  | 0, hj => simp [spC] at hj; subst hj; exact k0
  | 1, hj => simp [spC] at hj; subst hj; exact k1
theorem iSort (B blk cap ob sb p0 p1 p2 fb : Nat) (W : Int) (xs : List (Int × Int)) (w : World) (hl : xs.length ≤ 1048576) (hown : OW 87 2 spC B w (.slice (some ⟨blk, 0, none⟩) xs.length cap) xs)
    (hn : ob ≠ blk ∧ sb ≠ blk ∧ p0 ≠ blk ∧ p1 ≠ blk ∧ p2 ≠ blk ∧ fb ≠ blk) (ho : w.cell? ⟨ob, 0, none⟩ = some (.slice (some ⟨sb, 0, none⟩) 3 3))
    (h0 : w.cell? ⟨sb, 0, none⟩ = some (.func (.func 97) #[] #[.pointer (some ⟨p0, 0, none⟩)])) (h1 : w.cell? ⟨sb, 1, none⟩ = some (.func (.func 97) #[] #[.pointer (some ⟨p1, 0, none⟩)])) (h2 : w.cell? ⟨sb, 2, none⟩ = some (.func (.func 97) #[] #[.pointer (some ⟨p2, 0, none⟩)]))
    (k0 : w.cell? ⟨p0, 0, none⟩ = some (.func (.func 64) #[] #[.pointer (some ⟨fb, 0, none⟩)])) (k1 : w.cell? ⟨p1, 0, none⟩ = some (.func (.func 69) #[] #[])) (k2 : w.cell? ⟨p2, 0, none⟩ = some (.func (.func 70) #[] #[])) (hf : w.cell? ⟨fb, 5, none⟩ = some (.int .i64 W)) :
    Calls Tryz.prog 66 #[.slice (some ⟨blk, 0, none⟩) xs.length cap, .func (.func 96) #[] #[.pointer (some ⟨ob, 0, none⟩)]] w fun e w' => e = .returned (.tuple #[]) ∧ (∃ ys : List (Int × Int), ys.Perm xs ∧ RS 2 RSpot w' 0 ys (.slice (some ⟨blk, 0, none⟩) xs.length cap)) ∧ Fx blk w w' := by
  have hcap : xs.length ≤ cap := by
    obtain ⟨_, ⟨e, _⟩ | ⟨g, c, cur, e, _, _, h, _⟩⟩ := hown
    · cases e
    · injection e with _ _ e3
      subst e3; exact h
  have hblk : blk < w.heap.size := (World.ownsRow.lt hown blk rfl).2
  have hH := holds_of hown
  have hcmp : CmpLays Tryz.prog 96 #[.pointer (some ⟨ob, 0, none⟩)] spC 2 (cfN W) blk 0 xs.toArray.size w := fun m os dk hs x y => by
    have F := fx_sort w blk m dk os
    refine (iInOrd ob sb p0 p1 p2 fb W x.1 x.2 y.1 y.2 _ (F.cell ho hn.1) (F.cell h0 hn.2.1) (F.cell h1 hn.2.1) (F.cell h2 hn.2.1) (F.cell k0 hn.2.2.1) (F.cell k1 hn.2.2.2.1) (F.cell k2 hn.2.2.2.2.1) (F.cell hf hn.2.2.2.2.2)).mono ?_
    rintro e w' ⟨he, n, os', hw⟩
    exact ⟨he, n, os', hw⟩
  have S := AnyQ.slices_SortFunc (P := Tryz.prog) (ρ := Tryz.laysSF_ren) Tryz.laysSF 2 (fun w => by show (isAgg 87).run Tryz.prog w = _; go_simp) (fun w => by show (Go.sizeOf 87).run Tryz.prog w = _; go_simp) spC spC_len spC_one (cfN W) (cfN_swo W) 96 #[.pointer (some ⟨ob, 0, none⟩)] blk 0 cap xs.toArray w (fun args w => by go_simp) hcmp hH hblk (by simp; omega)
  have e : xs.toArray.size = xs.length := by simp
  rw [e] at S
  refine S.mono ?_
  rintro ev w' ⟨he, d', n, os, hp, hsd, hw⟩
  obtain ⟨hp1, _, hp3⟩ := hp
  have hd : d'.size = xs.length := by rw [hp1, e]
  refine ⟨he, ⟨d'.toList, ?_, ?_⟩, by rw [hw]; exact fx_sort w blk n d' os⟩
  · have e1 : d'.extract 0 xs.length = d' := by rw [← hd]; simp
    have e2 : xs.toArray.extract 0 xs.length = xs.toArray := by simp
    rw [e1, e2] at hp3
    simpa using hp3
  · rw [hw, ← hd]
    exact rs_of (holdsK_sortWorldK_c spC 2 w blk 0 xs.toArray d' n os hH hblk (by rw [hd]; simp)) (by omega) (by unfold maxLen; omega)
end Go.Proofs.YtlldfaniddbjaaaGreatDoor
namespace Go.Proofs.YtlldfaniddbjaaaGreatDoor
open Go Go.RowKit Gs
set_option linter.unusedVariables false
set_option linter.unusedSimpArgs false
set_option maxRecDepth 100000
set_option maxHeartbeats 6400000
theorem iIndexS (xs : List (Int × Int)) (s1 s2 : Int) (v : Value) (w : World) (hl : xs.length ≤ 1048576) (hr : RS 2 RSpot w 0 xs v) :
    Calls Tryz.prog 93 #[v, .agg #[.int .i64 s1, .int .i64 s2]] w fun e w' => (∃ r : Int, e = .returned (.int .i64 r) ∧ decide (0 ≤ r) = hasP xs (s1, s2)) ∧ Below w.heap.size w w' := by
  rcases hr.open with ⟨rfl, a, c, rfl⟩ | ⟨b, o, c, rfl, hc, hn, _, hcs⟩
  · clear hr
    go_enter Tryz.func93, Tryz.ntmps93
    go_wp2
    refine wp_loop_rounds 1 ?_
    rw [rounds_succ]
    go_wp2
    exact bodyPost_ret (v := .int .i64 (-1)) (by simp [results, Tryz.results93, go_sem]) rfl ⟨⟨_, rfl, rfl⟩, bal (brf w) _⟩
  · have HC := hide hcs
    clear hcs hr hc hn
    go_enter Tryz.func93, Tryz.ntmps93
    go_wp2
    go_loopw [8] (fun i wr => ∃ k : Nat, k ≤ xs.length ∧ i = .int .i64 k ∧ hasP (xs.take k) (s1, s2) = false ∧ wr.cell? ⟨w.heap.size, 0, none⟩ = some (.int .i64 s1) ∧ wr.cell? ⟨w.heap.size, 1, none⟩ = some (.int .i64 s2) ∧ Below w.heap.size w wr) (fun i _ => xs.length - (intOf i).toNat)
    case atStart => exact ⟨0, Nat.zero_le _, rfl, rfl, by rw [World.cell?_alloc_new]; rfl, by rw [World.cell?_alloc_new]; rfl, bal (brf w) _⟩
    case round =>
      obtain ⟨k, hk, rfl, hall, c0, c1, hb⟩ := hrel
      have HA := hide hall
      have HB := hide hb
      clear hall hb
      by_cases hlt : k < xs.length
      · have hx : xs[k]? = some xs[k] := List.getElem?_eq_getElem hlt
        generalize xs[k] = y at hx
        have HST := hide (hasP_take hx (s1, s2))
        have HF : Hid (y = (s1, s2) → hasP xs (s1, s2) = true) := hide (fun h => hasP_mem.2 (by rw [← h]; exact List.mem_of_getElem? hx))
        obtain ⟨u, hul, hat, hus⟩ := unhide HC k y hx
        obtain ⟨y1, y2⟩ := y
        subst hus
        have k0 := cell_later (unhide HB) (hat.get (j := 0) rfl)
        have k1 := cell_later (unhide HB) (hat.get (j := 1) rfl)
        simp only [Nat.add_zero] at k0
        have i1 : (0 : Int) ≤ (k : Int) := by omega
        have i2 : (k : Int) < (xs.length : Int) := by omega
        clear hat hul HC hx
        by_cases e1 : y1 = s1
        · by_cases e2 : s2 = y2
          · have HT : Hid (hasP xs (s1, s2) = true) := hide (unhide HF (by rw [e1, e2]))
            clear HF HST
            subst e1 e2
            go_wp2
            go_quiet (fail)
            go_wp2
            exact bodyPost_ret (v := .int .i64 (k : Int)) (by simp [results, Tryz.results93, go_sem]) rfl ⟨⟨_, rfl, by rw [unhide HT]; exact decide_eq_true (by omega)⟩, bdn (unhide HB)⟩
          · have HN : Hid (decide ((y1, y2) = (s1, s2)) = false) := hide (decide_eq_false (fun h => e2 (by injection h with _ h; exact h.symm)))
            clear HF
            go_wp2
            go_quiet (fail)
            go_wp2
            go_roundw
            case rel => exact ⟨k + 1, by omega, by go_num, by rw [unhide HST, unhide HA, unhide HN]; rfl, cell_later (bdn (brf _)) c0, cell_later (bdn (brf _)) c1, bdn (unhide HB)⟩
            case measure => simp [intOf]; omega
        · have HN : Hid (decide ((y1, y2) = (s1, s2)) = false) := hide (decide_eq_false (fun h => e1 (by injection h)))
          have e1' : ¬ s1 = y1 := fun h => e1 h.symm
          clear e1
          clear HF
          go_wp2
          go_quiet (fail)
          go_wp2
          go_roundw
          case rel => exact ⟨k + 1, by omega, by go_num, by rw [unhide HST, unhide HA, unhide HN]; rfl, cell_later (bdn (brf _)) c0, cell_later (bdn (brf _)) c1, bdn (unhide HB)⟩
          case measure => simp [intOf]; omega
      · obtain rfl : k = xs.length := by omega
        clear HC
        go_wp2
        refine bodyPost_ret (v := .int .i64 (-1)) (by simp [results, Tryz.results93, go_sem]) rfl ⟨⟨_, rfl, ?_⟩, unhide HB⟩
        have h := unhide HA
        rw [List.take_of_length_le (Nat.le_refl _)] at h
        rw [h]; rfl
theorem iContainsS (xs : List (Int × Int)) (s1 s2 : Int) (v : Value) (w : World) (hl : xs.length ≤ 1048576) (hr : RS 2 RSpot w 0 xs v) :
    Calls Tryz.prog 63 #[v, .agg #[.int .i64 s1, .int .i64 s2]] w fun e w' => e = .returned (.bool (hasP xs (s1, s2))) ∧ Below w.heap.size w w' := by
  have HI := hide (iIndexS xs s1 s2 v (w.alloc (.cells #[.int .i64 s1, .int .i64 s2] 87)) hl (hr.later RSpot.keeps (bal (brf w) _)))
  obtain ⟨a, c, rfl⟩ := hr.slice
  clear hr
  go_enter Tryz.func63, Tryz.ntmps63
  go_wp2_with fail
  refine (unhide HI).mono ?_
  rintro e W1 ⟨⟨r, rfl, h⟩, hb⟩
  have HH := hide h
  have HB := hide (btr (bal (brf w) (.cells #[.int .i64 s1, .int .i64 s2] 87)) hb)
  clear h hb
  go_wp2_with fail
  exact bodyPost_ret (v := .bool (decide (0 ≤ r))) (by simp [results, Tryz.results63, go_sem]) rfl ⟨by rw [unhide HH], unhide HB⟩
end Go.Proofs.YtlldfaniddbjaaaGreatDoor
namespace Go.Proofs.YtlldfaniddbjaaaGreatDoor
open Go Go.RowKit Gs
set_option linter.unusedVariables false
set_option linter.unusedSimpArgs false
set_option maxRecDepth 100000
set_option maxHeartbeats 3200000
theorem iByNumA (g : Nat) (w : World) : Calls Tryz.prog 68 #[.func (.func 64) #[] #[.pointer (some ⟨g, 0, none⟩)]] w fun e w' => e = .returned (.func (.func 97) #[] #[.pointer (some ⟨w.heap.size, 0, none⟩)]) ∧ w' = w.alloc (.cells #[.func (.func 64) #[] #[.pointer (some ⟨g, 0, none⟩)]] 122) := by
  go_enter Tryz.func68, Tryz.ntmps68
  go_wp2
  exact bodyPost_ret (v := .func (.func 97) #[] #[.pointer (some ⟨w.heap.size, 0, none⟩)]) (by simp [results, Tryz.results68, go_sem]) rfl ⟨rfl, rfl⟩
theorem iByNumB (w : World) : Calls Tryz.prog 68 #[.func (.func 69) #[] #[]] w fun e w' => e = .returned (.func (.func 97) #[] #[.pointer (some ⟨w.heap.size, 0, none⟩)]) ∧ w' = w.alloc (.cells #[.func (.func 69) #[] #[]] 122) := by
  go_enter Tryz.func68, Tryz.ntmps68
  go_wp2
  exact bodyPost_ret (v := .func (.func 97) #[] #[.pointer (some ⟨w.heap.size, 0, none⟩)]) (by simp [results, Tryz.results68, go_sem]) rfl ⟨rfl, rfl⟩
theorem iByNumC (w : World) : Calls Tryz.prog 68 #[.func (.func 70) #[] #[]] w fun e w' => e = .returned (.func (.func 97) #[] #[.pointer (some ⟨w.heap.size, 0, none⟩)]) ∧ w' = w.alloc (.cells #[.func (.func 70) #[] #[]] 122) := by
  go_enter Tryz.func68, Tryz.ntmps68
  go_wp2
  exact bodyPost_ret (v := .func (.func 97) #[] #[.pointer (some ⟨w.heap.size, 0, none⟩)]) (by simp [results, Tryz.results68, go_sem]) rfl ⟨rfl, rfl⟩
theorem iInOrders (a : Option Addr) (l c : Nat) (w : World) : Calls Tryz.prog 67 #[.slice a l c] w fun e w' => e = .returned (.func (.func 96) #[] #[.pointer (some ⟨w.heap.size, 0, none⟩)]) ∧ w' = w.alloc (.cells #[.slice a l c] 146) := by
  go_enter Tryz.func67, Tryz.ntmps67
  go_wp2
  exact bodyPost_ret (v := .func (.func 96) #[] #[.pointer (some ⟨w.heap.size, 0, none⟩)]) (by simp [results, Tryz.results67, go_sem]) rfl ⟨rfl, rfl⟩
end Go.Proofs.YtlldfaniddbjaaaGreatDoor
namespace Go.Proofs.YtlldfaniddbjaaaGreatDoor
open Go Go.RowKit Gs
set_option linter.unusedVariables false
set_option maxRecDepth 100000
theorem five_cells (wr : World) (c1 c2 c3 : Array Value) (c4 c5 : Array Value) (t1 t2 t3 t4 t5 : TypeId) :
    (∀ i x, c1[i]? = some x → (((((wr.alloc (.cells c1 t1)).alloc (.cells c2 t2)).alloc (.cells c3 t3)).alloc (.cells c4 t4)).alloc (.cells c5 t5)).cell? ⟨wr.heap.size, i, none⟩ = some x) ∧
    (∀ i x, c2[i]? = some x → (((((wr.alloc (.cells c1 t1)).alloc (.cells c2 t2)).alloc (.cells c3 t3)).alloc (.cells c4 t4)).alloc (.cells c5 t5)).cell? ⟨wr.heap.size + 1, i, none⟩ = some x) ∧
    (∀ i x, c3[i]? = some x → (((((wr.alloc (.cells c1 t1)).alloc (.cells c2 t2)).alloc (.cells c3 t3)).alloc (.cells c4 t4)).alloc (.cells c5 t5)).cell? ⟨wr.heap.size + 1 + 1, i, none⟩ = some x) ∧
    (∀ i x, c4[i]? = some x → (((((wr.alloc (.cells c1 t1)).alloc (.cells c2 t2)).alloc (.cells c3 t3)).alloc (.cells c4 t4)).alloc (.cells c5 t5)).cell? ⟨wr.heap.size + 1 + 1 + 1, i, none⟩ = some x) ∧
    (∀ i x, c5[i]? = some x → (((((wr.alloc (.cells c1 t1)).alloc (.cells c2 t2)).alloc (.cells c3 t3)).alloc (.cells c4 t4)).alloc (.cells c5 t5)).cell? ⟨wr.heap.size + 1 + 1 + 1 + 1, i, none⟩ = some x) := by
  refine ⟨fun i x hx => (new_cell (bal (bal (bal (bal (brf _) _) _) _) _) hx).1, fun i x hx => ?_, fun i x hx => ?_, fun i x hx => ?_, fun i x hx => ?_⟩
  · have := (new_cell (W := wr.alloc (.cells c1 t1)) (M := c2) (t := t2) (bal (bal (bal (brf _) (.cells c3 t3)) (.cells c4 t4)) (.cells c5 t5)) hx).1
    simpa only [World.size_alloc] using this
  · have := (new_cell (W := (wr.alloc (.cells c1 t1)).alloc (.cells c2 t2)) (M := c3) (t := t3) (bal (bal (brf _) (.cells c4 t4)) (.cells c5 t5)) hx).1
    simpa only [World.size_alloc] using this
  · have := (new_cell (W := ((wr.alloc (.cells c1 t1)).alloc (.cells c2 t2)).alloc (.cells c3 t3)) (M := c4) (t := t4) (bal (brf _) (.cells c5 t5)) hx).1
    simpa only [World.size_alloc] using this
  · have := (new_cell (W := (((wr.alloc (.cells c1 t1)).alloc (.cells c2 t2)).alloc (.cells c3 t3)).alloc (.cells c4 t4)) (M := c5) (t := t5) (brf _) hx).1
    simpa only [World.size_alloc] using this
end Go.Proofs.YtlldfaniddbjaaaGreatDoor
namespace Go.Proofs.YtlldfaniddbjaaaGreatDoor
open Go Go.RowKit Gs Go.Lib
set_option linter.unusedVariables false
set_option maxRecDepth 100000
set_option maxHeartbeats 1600000
theorem sort_none (B ob : Nat) (v : Value) (A5 : World) (h : OW 87 2 spC B A5 v []) : Calls Tryz.prog 66 #[v, .func (.func 96) #[] #[.pointer (some ⟨ob, 0, none⟩)]] A5 fun e w' => e = .returned (.tuple #[]) ∧ w' = A5 := by
  obtain ⟨va, vc, hvs, hvc⟩ := h.slice
  subst hvs
  have h := AnyF.slices_SortFunc_none (P := Tryz.prog) (ρ := Tryz.laysSF_ren) Tryz.laysSF va vc (.func (.func 96) #[] #[.pointer (some ⟨ob, 0, none⟩)]) A5
  exact h
theorem ow_some {B : Nat} {v : Value} {w : World} {g : Int × Int} {gs : List (Int × Int)} (h : OW 87 2 spC B w v (g :: gs)) : ∃ blk cap, v = .slice (some ⟨blk, 0, none⟩) (g :: gs).length cap ∧ B ≤ blk ∧ blk < w.heap.size := by
  obtain ⟨va, vc, hvs, hvc⟩ := h.slice
  have hlt := World.ownsRow.lt h
  obtain ⟨_, ⟨e, h2⟩ | ⟨g, c, cur, e, _⟩⟩ := h
  · simp at h2
  · rw [hvs] at e
    injection e with e1
    subst e1 hvs
    exact ⟨g, vc, rfl, hlt g rfl⟩
theorem sort5 (wr : World) (B fb : Nat) (W : Int) (gs : List (Int × Int)) (v : Value) (hO : OW 87 2 spC B wr v gs) (hl : gs.length ≤ 1048576) (hfB : fb < B) (hB : B ≤ wr.heap.size) (hf : wr.cell? ⟨fb, 5, none⟩ = some (.int .i64 W)) :
    Calls Tryz.prog 66 #[v, .func (.func 96) #[] #[.pointer (some ⟨wr.heap.size + 1 + 1 + 1 + 1, 0, none⟩)]] (((((wr.alloc (.cells #[.func (.func 64) #[] #[.pointer (some ⟨fb, 0, none⟩)]] 122)).alloc (.cells #[.func (.func 69) #[] #[]] 122)).alloc (.cells #[.func (.func 70) #[] #[]] 122)).alloc (.cells #[.func (.func 97) #[] #[.pointer (some ⟨wr.heap.size, 0, none⟩)], .func (.func 97) #[] #[.pointer (some ⟨wr.heap.size + 1, 0, none⟩)], .func (.func 97) #[] #[.pointer (some ⟨wr.heap.size + 1 + 1, 0, none⟩)]] 124)).alloc (.cells #[.slice (some ⟨wr.heap.size + 1 + 1 + 1, 0, none⟩) 3 3] 146)) fun e w' => e = .returned (.tuple #[]) ∧ (∃ ys : List (Int × Int), ys.Perm gs ∧ RS 2 RSpot w' 0 ys v) ∧ Below B wr w' := by
  obtain ⟨C1, C2, C3, C4, C5⟩ := five_cells wr #[.func (.func 64) #[] #[.pointer (some ⟨fb, 0, none⟩)]] #[.func (.func 69) #[] #[]] #[.func (.func 70) #[] #[]] #[.func (.func 97) #[] #[.pointer (some ⟨wr.heap.size, 0, none⟩)], .func (.func 97) #[] #[.pointer (some ⟨wr.heap.size + 1, 0, none⟩)], .func (.func 97) #[] #[.pointer (some ⟨wr.heap.size + 1 + 1, 0, none⟩)]] #[.slice (some ⟨wr.heap.size + 1 + 1 + 1, 0, none⟩) 3 3] 122 122 122 124 146
  have HBA := bal (bal (bal (bal (bal (brf wr) (.cells #[.func (.func 64) #[] #[.pointer (some ⟨fb, 0, none⟩)]] 122)) (.cells #[.func (.func 69) #[] #[]] 122)) (.cells #[.func (.func 70) #[] #[]] 122)) (.cells #[.func (.func 97) #[] #[.pointer (some ⟨wr.heap.size, 0, none⟩)], .func (.func 97) #[] #[.pointer (some ⟨wr.heap.size + 1, 0, none⟩)], .func (.func 97) #[] #[.pointer (some ⟨wr.heap.size + 1 + 1, 0, none⟩)]] 124)) (.cells #[.slice (some ⟨wr.heap.size + 1 + 1 + 1, 0, none⟩) 3 3] 146)
  generalize (((((wr.alloc (.cells #[.func (.func 64) #[] #[.pointer (some ⟨fb, 0, none⟩)]] 122)).alloc (.cells #[.func (.func 69) #[] #[]] 122)).alloc (.cells #[.func (.func 70) #[] #[]] 122)).alloc (.cells #[.func (.func 97) #[] #[.pointer (some ⟨wr.heap.size, 0, none⟩)], .func (.func 97) #[] #[.pointer (some ⟨wr.heap.size + 1, 0, none⟩)], .func (.func 97) #[] #[.pointer (some ⟨wr.heap.size + 1 + 1, 0, none⟩)]] 124)).alloc (.cells #[.slice (some ⟨wr.heap.size + 1 + 1 + 1, 0, none⟩) 3 3] 146)) = A5 at *
  have hO5 := hO.later HBA
  have hBX : Below B wr A5 := HBA.mono hB
  cases gs with
  | nil =>
    refine (sort_none B _ v A5 hO5).mono ?_
    rintro e w' ⟨he, hw⟩
    exact ⟨he, ⟨[], List.Perm.refl _, by rw [hw]; exact hO5.spots (by simp)⟩, by rw [hw]; exact hBX⟩
  | cons g0 gs =>
    obtain ⟨blk, vc, rfl, hl1, _⟩ := ow_some hO5
    have hl2 : blk < wr.heap.size := (World.ownsRow.lt hO blk rfl).2
    refine (iSort B blk vc (wr.heap.size + 1 + 1 + 1 + 1) (wr.heap.size + 1 + 1 + 1) wr.heap.size (wr.heap.size + 1) (wr.heap.size + 1 + 1) fb W (g0 :: gs) A5 hl hO5 (by refine ⟨?_, ?_, ?_, ?_, ?_, ?_⟩ <;> omega) (C5 0 _ rfl) (C4 0 _ rfl) (C4 1 _ rfl) (C4 2 _ rfl) (C1 0 _ rfl) (C2 0 _ rfl) (C3 0 _ rfl) (cell_later HBA hf)).mono ?_
    rintro e w' ⟨he, hy, hx⟩
    exact ⟨he, hy, Fx.below hBX hx hl1 (Nat.le_trans hB hBX.size)⟩
end Go.Proofs.YtlldfaniddbjaaaGreatDoor
