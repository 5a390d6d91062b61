/- Worlds that have drawn, with blocks behind; the program's orders of places. -/
import Derived.Test.YtlldfaniddbjaaaGreatDoorGRI7
import Derived.Shelf.SlSortCmp.NoneTotal
namespace Go.Proofs.YtlldfaniddbjaaaGreatDoor
open Go Go.RowKit Gs
open Go.Sort (grow)
set_option linter.unusedVariables false
set_option linter.unusedSimpArgs false
set_option maxRecDepth 100000
set_option maxHeartbeats 3200000
/-- A world behind another one: it has drawn, and some blocks were laid. -/
def Gd (w w' : World) : Prop := ∃ (n : Nat) (os : Array Obj), w' = grow (w.drewN n) os
theorem Gd.refl (w : World) : Gd w w := ⟨0, #[], by simp [grow, World.drewN]⟩
theorem Gd.alloc {w w' : World} (h : Gd w w') (o : Obj) : Gd w (w'.alloc o) := by
  obtain ⟨n, os, rfl⟩ := h
  exact ⟨n, os.push o, by simp [grow, World.drewN, World.alloc]⟩
theorem Gd.drew {w w' : World} (h : Gd w w') : Gd w w'.drew := by
  obtain ⟨n, os, rfl⟩ := h
  exact ⟨n + 1, os, by simp [grow, World.drewN, World.drew, Nat.add_assoc]⟩
theorem Gd.trans {a b c : World} (h : Gd a b) (k : Gd b c) : Gd a c := by
  obtain ⟨n, os, rfl⟩ := h
  obtain ⟨m, ot, rfl⟩ := k
  exact ⟨n + m, os ++ ot, by simp [grow, World.drewN, Nat.add_assoc]⟩
theorem Gd.below {w w' : World} (h : Gd w w') : Below w.heap.size w w' := by
  obtain ⟨n, os, rfl⟩ := h
  refine ⟨rfl, rfl, rfl, by simp [grow, World.drewN], fun k hk => ?_⟩
  simp only [grow, World.drewN]
  rw [Array.getElem?_append_left hk]
def cmpI (a b : Int) : Int := if a < b then -1 else if b < a then 1 else 0
theorem iNaN (a : Int) (w : World) : Calls Tryz.prog 124 #[.int .i64 a] w fun e w' => e = .returned (.bool false) ∧ Gd w w' := by
  go_enter Tryz.func124, Tryz.ntmps124
  go_wp2
  exact bodyPost_ret (v := .bool false) (by simp [results, Tryz.results124, go_sem]) rfl ⟨rfl, Gd.refl _⟩
theorem iCompare (a b : Int) (w : World) : Calls Tryz.prog 98 #[.int .i64 a, .int .i64 b] w fun e w' => e = .returned (.int .i64 (cmpI a b)) ∧ Gd w w' := by
  have HR : Hid (cmpI a b = if a < b then -1 else if b < a then 1 else 0) := hide rfl
  generalize cmpI a b = R at *
  have pre : ∀ w1, Gd w w1 → Gd w w1 := fun _ h => h
  by_cases h1 : a < b
  · have HV : Hid (R = -1) := hide (by rw [unhide HR, if_pos h1])
    clear HR
    go_enter Tryz.func98, Tryz.ntmps98
    go_wp2_with fail
    refine (iNaN a w).mono ?_
    rintro e w1 ⟨rfl, hg1⟩
    go_wp2_with fail
    refine (iNaN b w1).mono ?_
    rintro e w2 ⟨rfl, hg2⟩
    have HG := hide (hg1.trans hg2)
    go_wp2_with fail
    exact bodyPost_ret (v := .int .i64 (-1)) (by simp [results, Tryz.results98, go_sem]) rfl ⟨by rw [unhide HV], unhide HG⟩
  · by_cases h2 : b < a
    · have HV : Hid (R = 1) := hide (by rw [unhide HR, if_neg h1, if_pos h2])
      clear HR
      go_enter Tryz.func98, Tryz.ntmps98
      go_wp2_with fail
      refine (iNaN a w).mono ?_
      rintro e w1 ⟨rfl, hg1⟩
      go_wp2_with fail
      refine (iNaN b w1).mono ?_
      rintro e w2 ⟨rfl, hg2⟩
      have HG := hide (hg1.trans hg2)
      go_wp2_with fail
      exact bodyPost_ret (v := .int .i64 1) (by simp [results, Tryz.results98, go_sem]) rfl ⟨by rw [unhide HV], unhide HG⟩
    · have HV : Hid (R = 0) := hide (by rw [unhide HR, if_neg h1, if_neg h2])
      clear HR
      go_enter Tryz.func98, Tryz.ntmps98
      go_wp2_with fail
      refine (iNaN a w).mono ?_
      rintro e w1 ⟨rfl, hg1⟩
      go_wp2_with fail
      refine (iNaN b w1).mono ?_
      rintro e w2 ⟨rfl, hg2⟩
      have HG := hide (hg1.trans hg2)
      go_wp2_with fail
      exact bodyPost_ret (v := .int .i64 0) (by simp [results, Tryz.results98, go_sem]) rfl ⟨by rw [unhide HV], unhide HG⟩
theorem iUp (x y : Int) (w : World) : Calls Tryz.prog 69 #[.agg #[.int .i64 x, .int .i64 y]] w fun e w' => e = .returned (.int .i64 y) ∧ Gd w w' := by
  go_enter Tryz.func69, Tryz.ntmps69
  go_wp2
  exact bodyPost_ret (v := .int .i64 y) (by simp [results, Tryz.results69, go_sem]) rfl ⟨rfl, (Gd.refl w).alloc _⟩
theorem iAcross (x y : Int) (w : World) : Calls Tryz.prog 70 #[.agg #[.int .i64 x, .int .i64 y]] w fun e w' => e = .returned (.int .i64 x) ∧ Gd w w' := by
  go_enter Tryz.func70, Tryz.ntmps70
  go_wp2
  exact bodyPost_ret (v := .int .i64 x) (by simp [results, Tryz.results70, go_sem]) rfl ⟨rfl, (Gd.refl w).alloc _⟩
theorem iOneIf (b : Bool) (w : World) : Calls Tryz.prog 65 #[.bool b] w fun e w' => e = .returned (.int .i64 (if b = true then 1 else 0)) ∧ Gd w w' := by
  cases b
  · go_enter Tryz.func65, Tryz.ntmps65
    go_wp2
    exact bodyPost_ret (v := .int .i64 0) (by simp [results, Tryz.results65, go_sem]) rfl ⟨rfl, Gd.refl w⟩
  · go_enter Tryz.func65, Tryz.ntmps65
    go_wp2
    exact bodyPost_ret (v := .int .i64 1) (by simp [results, Tryz.results65, go_sem]) rfl ⟨rfl, Gd.refl w⟩
/-- Whether a place lies at the right, as a number. -/
def rowN (W : Int) (x : Int) : Int := if decide (x = W) = true then 1 else 0
theorem iIsRow (x y W : Int) (fb : Nat) (w : World) (hf : w.cell? ⟨fb, 5, none⟩ = some (.int .i64 W)) : Calls Tryz.prog 64 #[.agg #[.int .i64 x, .int .i64 y], .pointer (some ⟨fb, 0, none⟩)] w fun e w' => e = .returned (.int .i64 (rowN W x)) ∧ Gd w w' := by
  have k0 : (w.alloc (.cells #[.int .i64 x, .int .i64 y] 87)).cell? ⟨fb, 5, none⟩ = some (.int .i64 W) := cell_later (bal (brf w) _) hf
  obtain ⟨r, hr⟩ : ∃ r, rowN W x = r := ⟨_, rfl⟩
  have HO : Hid (∀ V, Calls Tryz.prog 65 #[.bool (decide (x = W))] V fun e w' => e = .returned (.int .i64 r) ∧ Gd V w') := hide (fun V => by rw [← hr]; exact iOneIf (decide (x = W)) V)
  rw [hr]
  clear hr
  go_enter Tryz.func64, Tryz.ntmps64
  go_wp2_with fail
  refine (unhide HO _).mono ?_
  rintro e w1 ⟨rfl, hg⟩
  have HG := hide (((Gd.refl w).alloc (.cells #[.int .i64 x, .int .i64 y] 87)).trans hg)
  clear hg
  go_wp2_with fail
  exact bodyPost_ret (v := .int .i64 r) (by simp [results, Tryz.results64, go_sem]) rfl ⟨rfl, unhide HG⟩
end Go.Proofs.YtlldfaniddbjaaaGreatDoor
namespace Go.Proofs.YtlldfaniddbjaaaGreatDoor
open Go Go.RowKit Gs
open Go.Sort (grow)
set_option linter.unusedVariables false
set_option linter.unusedSimpArgs false
set_option maxRecDepth 100000
set_option maxHeartbeats 16000000
section
variable {P : Program} {ops : Array Oper} {a0 : Act} {F : Nat → Value → Prop} {M : World → Prop}
abbrev JM (M : World → Prop) : Array Bool → World → Prop := fun _ w => M w
theorem sm_val {k : Nat} {o : Oper} (hg : o.guard = none) (h : ∀ l a w, PA ops (GF F) (JM M) a0 l a w → (∀ e ∈ o.after, Region.binds .any e = true → l.getD e.on false = true) → ∃ x, (execOp a.eval o).run P w = .ok (.value x) w ∧ F k x) : Stp P ops (GF F) (JM M) a0 k o := by
  intro l a w hp hu ha
  obtain ⟨x, hr, hf⟩ := h l a w hp ha
  unfold opW
  rw [if_pos (wanted_none hg)]
  exact .inl ⟨x, w, hr, x, rfl, hp.j, hf, fun _ _ _ _ h => h⟩
theorem sm_call {k : Nat} {o : Oper} {f : FuncId} (hg : o.guard = none) (h : ∀ l a w, PA ops (GF F) (JM M) a0 l a w → (∀ e ∈ o.after, Region.binds .any e = true → l.getD e.on false = true) → ∃ args, (execOp a.eval o).run P w = .ok (.enter f args) w ∧ Calls P f args w fun e w' => ∃ x, e = .returned x ∧ F k x ∧ M w') : Stp P ops (GF F) (JM M) a0 k o := by
  intro l a w hp hu ha
  obtain ⟨args, hr, hc⟩ := h l a w hp ha
  unfold opW
  rw [if_pos (wanted_none hg)]
  refine .inr (.inr ⟨f, args, w, hr, Calls.mono hc ?_⟩)
  rintro e w' ⟨x, rfl, hf, hM⟩
  exact ⟨x, rfl, x, rfl, hM, hf, fun _ _ _ _ h => h⟩
end
def FBN0 (pb g : Nat) (fb : Nat) (W : Int) (x1 x2 y1 y2 : Int) : Nat → Value → Prop
  | 0, v => v = .func (.func 64) #[] #[.pointer (some ⟨fb, 0, none⟩)]
  | 1, v => v = .agg #[.int .i64 x1, .int .i64 x2]
  | 2, v => v = .int .i64 (rowN W x1)
  | 3, v => v = .func (.func 64) #[] #[.pointer (some ⟨fb, 0, none⟩)]
  | 4, v => v = .agg #[.int .i64 y1, .int .i64 y2]
  | 5, v => v = .int .i64 (rowN W y1)
  | 6, v => v = .int .i64 (cmpI (rowN W x1) (rowN W y1))
  | 7, v => v = .int .i64 (cmpI (rowN W x1) (rowN W y1))
  | _, _ => True
theorem iByNum0 (pb : Nat) (fb : Nat) (W : Int) (x1 x2 y1 y2 : Int) (w : World) (hp : w.cell? ⟨pb, 0, none⟩ = some (.func (.func 64) #[] #[.pointer (some ⟨fb, 0, none⟩)])) (hf : w.cell? ⟨fb, 5, none⟩ = some (.int .i64 W)) : Calls Tryz.prog 97 #[.agg #[.int .i64 x1, .int .i64 x2], .agg #[.int .i64 y1, .int .i64 y2], .pointer (some ⟨pb, 0, none⟩)] w fun e w' => e = .returned (.int .i64 (cmpI (rowN W x1) (rowN W y1))) ∧ Gd w w' := by
  obtain ⟨W0, hW0⟩ : ∃ W0, W0 = (w.alloc (.cells #[.int .i64 x1, .int .i64 x2] 87)).alloc (.cells #[.int .i64 y1, .int .i64 y2] 87) := ⟨_, rfl⟩
  have HB0 := hide (show Gd w W0 by rw [hW0]; exact ((Gd.refl w).alloc _).alloc _)
  have HP : Hid (∀ V, Gd W0 V → V.cell? ⟨pb, 0, none⟩ = some (.func (.func 64) #[] #[.pointer (some ⟨fb, 0, none⟩)])) := hide (fun V hV => cell_later (btr (unhide HB0).below hV.below) hp)
  have HXY : Hid (∀ V, Gd W0 V → V.cell? ⟨w.heap.size, 0, none⟩ = some (.int .i64 x1) ∧ V.cell? ⟨w.heap.size, 1, none⟩ = some (.int .i64 x2) ∧ V.cell? ⟨w.heap.size + 1, 0, none⟩ = some (.int .i64 y1) ∧ V.cell? ⟨w.heap.size + 1, 1, none⟩ = some (.int .i64 y2)) := hide (fun V hV => by
    have hb := hV.below
    rw [hW0] at hb
    have K := fun (i : Nat) z hz => (new_cell (i := i) (x := z) (btr (bal (brf _) _) hb) hz).1
    have K2 := fun (i : Nat) z hz => (new_cell (i := i) (x := z) hb hz).1
    simp only [World.size_alloc] at K2
    exact ⟨K 0 _ rfl, K 1 _ rfl, K2 0 _ rfl, K2 1 _ rfl⟩)
  have HF : Hid (∀ V, Gd W0 V → V.cell? ⟨fb, 5, none⟩ = some (.int .i64 W)) := hide (fun V hV => cell_later (btr (unhide HB0).below hV.below) hf)
  have HWW := hide hW0
  clear hp hW0 hf
  go_enter Tryz.func97, Tryz.ntmps97
  go_wp2_with fail
  rw [← unhide HWW]
  refine wp_plan (GF (FBN0 pb w.heap.size fb W x1 x2 y1 y2)) (JM (Gd W0)) (by kernel_rfl) 13 (by kernel_rfl) (by kernel_rfl) ?hj ?hs ?hf
  case hj => exact (Gd.refl W0).drew
  case hs =>
    refine ⟨?_, ?_, ?_, ?_, ?_, ?_, ?_, ?_, trivial⟩
    · exact sm_val rfl (fun l a V hp ha => ⟨.func (.func 64) #[] #[.pointer (some ⟨fb, 0, none⟩)], by
        have x2 := (ev_form a 2).trans (old hp 2 (v := .pointer (some ⟨pb, 0, none⟩)) (by kernel_rfl) (by kernel_rfl))
        have k0 := unhide HP V hp.j
        go_simp, rfl⟩)
    · exact sm_val rfl (fun l a V hp ha => ⟨.agg #[.int .i64 x1, .int .i64 x2], by
        have x3 := (ev_form a 3).trans (old hp 3 (v := .pointer (some ⟨w.heap.size, 0, none⟩)) (by kernel_rfl) (by kernel_rfl))
        obtain ⟨k0, k1, k2, k3⟩ := unhide HXY V hp.j
        go_simp, rfl⟩)
    · exact sm_call (f := 64) rfl (fun l a V hp ha => ⟨#[.agg #[.int .i64 x1, .int .i64 x2], .pointer (some ⟨fb, 0, none⟩)], by
        have x6 := (ev_form a 6).trans (show a.eval (.tmp 6) = .func (.func 64) #[] #[.pointer (some ⟨fb, 0, none⟩)] from kn hp ha 6 0 (by kernel_rfl) (by kernel_rfl))
        have x7 := (ev_form a 7).trans (show a.eval (.tmp 7) = .agg #[.int .i64 x1, .int .i64 x2] from kn hp ha 7 1 (by kernel_rfl) (by kernel_rfl))
        go_simp, (iIsRow x1 x2 W fb V (unhide HF V hp.j)).mono (by rintro e V1 ⟨rfl, hb⟩; exact ⟨_, rfl, rfl, hp.j.trans hb⟩)⟩)
    · exact sm_val rfl (fun l a V hp ha => ⟨.func (.func 64) #[] #[.pointer (some ⟨fb, 0, none⟩)], by
        have x2 := (ev_form a 2).trans (old hp 2 (v := .pointer (some ⟨pb, 0, none⟩)) (by kernel_rfl) (by kernel_rfl))
        have k0 := unhide HP V hp.j
        go_simp, rfl⟩)
    · exact sm_val rfl (fun l a V hp ha => ⟨.agg #[.int .i64 y1, .int .i64 y2], by
        have x4 := (ev_form a 4).trans (old hp 4 (v := .pointer (some ⟨w.heap.size + 1, 0, none⟩)) (by kernel_rfl) (by kernel_rfl))
        obtain ⟨k0, k1, k2, k3⟩ := unhide HXY V hp.j
        go_simp, rfl⟩)
    · exact sm_call (f := 64) rfl (fun l a V hp ha => ⟨#[.agg #[.int .i64 y1, .int .i64 y2], .pointer (some ⟨fb, 0, none⟩)], by
        have x9 := (ev_form a 9).trans (show a.eval (.tmp 9) = .func (.func 64) #[] #[.pointer (some ⟨fb, 0, none⟩)] from kn hp ha 9 3 (by kernel_rfl) (by kernel_rfl))
        have x10 := (ev_form a 10).trans (show a.eval (.tmp 10) = .agg #[.int .i64 y1, .int .i64 y2] from kn hp ha 10 4 (by kernel_rfl) (by kernel_rfl))
        go_simp, (iIsRow y1 y2 W fb V (unhide HF V hp.j)).mono (by rintro e V1 ⟨rfl, hb⟩; exact ⟨_, rfl, rfl, hp.j.trans hb⟩)⟩)
    · exact sm_call (f := 98) rfl (fun l a V hp ha => ⟨#[.int .i64 (rowN W x1), .int .i64 (rowN W y1)], by
        have x8 := (ev_form a 8).trans (show a.eval (.tmp 8) = .int .i64 (rowN W x1) from kn hp ha 8 2 (by kernel_rfl) (by kernel_rfl))
        have x11 := (ev_form a 11).trans (show a.eval (.tmp 11) = .int .i64 (rowN W y1) from kn hp ha 11 5 (by kernel_rfl) (by kernel_rfl))
        go_simp, (iCompare (rowN W x1) (rowN W y1) V).mono (by rintro e V1 ⟨rfl, hb⟩; exact ⟨_, rfl, rfl, hp.j.trans hb⟩)⟩)
    · exact sm_val rfl (fun l a V hp ha => ⟨.int .i64 (cmpI (rowN W x1) (rowN W y1)), by
        have x12 := (ev_form a 12).trans (show a.eval (.tmp 12) = .int .i64 (cmpI (rowN W x1) (rowN W y1)) from kn hp ha 12 6 (by kernel_rfl) (by kernel_rfl))
        go_simp, rfl⟩)
  case hf =>
    intro l a W1 hp hall
    have B1 : Hid (Gd W0 W1) := hide hp.j
    have hv5 := hp.good 7 _ 5 rfl rfl (hall 7 (by decide))
    obtain ⟨us1, rfl, hus⟩ := putAll_of [6, 7, 8, 9, 10, 11, 12, 5] hp.nt hp.df (fun t ht => hp.keep t (dstIn (by kernel_rfl) ht))
    have hw5 : us1 5 = .int .i64 (cmpI (rowN W x1) (rowN W y1)) := by rw [hus 5]; exact hv5
    clear hp hall hus hv5
    simp only [putAll, List.foldl, Act.put, List.setIfInBounds_toArray, List.set_cons_zero, List.set_cons_succ, hw5]
    go_wp2_with fail
    exact bodyPost_ret (v := .int .i64 (cmpI (rowN W x1) (rowN W y1))) (by simp [results, Tryz.results97, go_sem]) rfl ⟨rfl, (unhide HB0).trans (unhide B1)⟩
def FBN1 (pb g : Nat) (x1 x2 y1 y2 : Int) : Nat → Value → Prop
  | 0, v => v = .func (.func 69) #[] #[]
  | 1, v => v = .agg #[.int .i64 x1, .int .i64 x2]
  | 2, v => v = .int .i64 x2
  | 3, v => v = .func (.func 69) #[] #[]
  | 4, v => v = .agg #[.int .i64 y1, .int .i64 y2]
  | 5, v => v = .int .i64 y2
  | 6, v => v = .int .i64 (cmpI x2 y2)
  | 7, v => v = .int .i64 (cmpI x2 y2)
  | _, _ => True
theorem iByNum1 (pb : Nat) (x1 x2 y1 y2 : Int) (w : World) (hp : w.cell? ⟨pb, 0, none⟩ = some (.func (.func 69) #[] #[])) : Calls Tryz.prog 97 #[.agg #[.int .i64 x1, .int .i64 x2], .agg #[.int .i64 y1, .int .i64 y2], .pointer (some ⟨pb, 0, none⟩)] w fun e w' => e = .returned (.int .i64 (cmpI x2 y2)) ∧ Gd w w' := by
  obtain ⟨W0, hW0⟩ : ∃ W0, W0 = (w.alloc (.cells #[.int .i64 x1, .int .i64 x2] 87)).alloc (.cells #[.int .i64 y1, .int .i64 y2] 87) := ⟨_, rfl⟩
  have HB0 := hide (show Gd w W0 by rw [hW0]; exact ((Gd.refl w).alloc _).alloc _)
  have HP : Hid (∀ V, Gd W0 V → V.cell? ⟨pb, 0, none⟩ = some (.func (.func 69) #[] #[])) := hide (fun V hV => cell_later (btr (unhide HB0).below hV.below) hp)
  have HXY : Hid (∀ V, Gd W0 V → V.cell? ⟨w.heap.size, 0, none⟩ = some (.int .i64 x1) ∧ V.cell? ⟨w.heap.size, 1, none⟩ = some (.int .i64 x2) ∧ V.cell? ⟨w.heap.size + 1, 0, none⟩ = some (.int .i64 y1) ∧ V.cell? ⟨w.heap.size + 1, 1, none⟩ = some (.int .i64 y2)) := hide (fun V hV => by
    have hb := hV.below
    rw [hW0] at hb
    have K := fun (i : Nat) z hz => (new_cell (i := i) (x := z) (btr (bal (brf _) _) hb) hz).1
    have K2 := fun (i : Nat) z hz => (new_cell (i := i) (x := z) hb hz).1
    simp only [World.size_alloc] at K2
    exact ⟨K 0 _ rfl, K 1 _ rfl, K2 0 _ rfl, K2 1 _ rfl⟩)
  have HWW := hide hW0
  clear hp hW0
  go_enter Tryz.func97, Tryz.ntmps97
  go_wp2_with fail
  rw [← unhide HWW]
  refine wp_plan (GF (FBN1 pb w.heap.size x1 x2 y1 y2)) (JM (Gd W0)) (by kernel_rfl) 13 (by kernel_rfl) (by kernel_rfl) ?hj ?hs ?hf
  case hj => exact (Gd.refl W0).drew
  case hs =>
    refine ⟨?_, ?_, ?_, ?_, ?_, ?_, ?_, ?_, trivial⟩
    · exact sm_val rfl (fun l a V hp ha => ⟨.func (.func 69) #[] #[], by
        have x2 := (ev_form a 2).trans (old hp 2 (v := .pointer (some ⟨pb, 0, none⟩)) (by kernel_rfl) (by kernel_rfl))
        have k0 := unhide HP V hp.j
        go_simp, rfl⟩)
    · exact sm_val rfl (fun l a V hp ha => ⟨.agg #[.int .i64 x1, .int .i64 x2], by
        have x3 := (ev_form a 3).trans (old hp 3 (v := .pointer (some ⟨w.heap.size, 0, none⟩)) (by kernel_rfl) (by kernel_rfl))
        obtain ⟨k0, k1, k2, k3⟩ := unhide HXY V hp.j
        go_simp, rfl⟩)
    · exact sm_call (f := 69) rfl (fun l a V hp ha => ⟨#[.agg #[.int .i64 x1, .int .i64 x2]], by
        have x6 := (ev_form a 6).trans (show a.eval (.tmp 6) = .func (.func 69) #[] #[] from kn hp ha 6 0 (by kernel_rfl) (by kernel_rfl))
        have x7 := (ev_form a 7).trans (show a.eval (.tmp 7) = .agg #[.int .i64 x1, .int .i64 x2] from kn hp ha 7 1 (by kernel_rfl) (by kernel_rfl))
        go_simp, (iUp x1 x2 V).mono (by rintro e V1 ⟨rfl, hb⟩; exact ⟨_, rfl, rfl, hp.j.trans hb⟩)⟩)
    · exact sm_val rfl (fun l a V hp ha => ⟨.func (.func 69) #[] #[], by
        have x2 := (ev_form a 2).trans (old hp 2 (v := .pointer (some ⟨pb, 0, none⟩)) (by kernel_rfl) (by kernel_rfl))
        have k0 := unhide HP V hp.j
        go_simp, rfl⟩)
    · exact sm_val rfl (fun l a V hp ha => ⟨.agg #[.int .i64 y1, .int .i64 y2], by
        have x4 := (ev_form a 4).trans (old hp 4 (v := .pointer (some ⟨w.heap.size + 1, 0, none⟩)) (by kernel_rfl) (by kernel_rfl))
        obtain ⟨k0, k1, k2, k3⟩ := unhide HXY V hp.j
        go_simp, rfl⟩)
    · exact sm_call (f := 69) rfl (fun l a V hp ha => ⟨#[.agg #[.int .i64 y1, .int .i64 y2]], by
        have x9 := (ev_form a 9).trans (show a.eval (.tmp 9) = .func (.func 69) #[] #[] from kn hp ha 9 3 (by kernel_rfl) (by kernel_rfl))
        have x10 := (ev_form a 10).trans (show a.eval (.tmp 10) = .agg #[.int .i64 y1, .int .i64 y2] from kn hp ha 10 4 (by kernel_rfl) (by kernel_rfl))
        go_simp, (iUp y1 y2 V).mono (by rintro e V1 ⟨rfl, hb⟩; exact ⟨_, rfl, rfl, hp.j.trans hb⟩)⟩)
    · exact sm_call (f := 98) rfl (fun l a V hp ha => ⟨#[.int .i64 x2, .int .i64 y2], by
        have x8 := (ev_form a 8).trans (show a.eval (.tmp 8) = .int .i64 x2 from kn hp ha 8 2 (by kernel_rfl) (by kernel_rfl))
        have x11 := (ev_form a 11).trans (show a.eval (.tmp 11) = .int .i64 y2 from kn hp ha 11 5 (by kernel_rfl) (by kernel_rfl))
        go_simp, (iCompare x2 y2 V).mono (by rintro e V1 ⟨rfl, hb⟩; exact ⟨_, rfl, rfl, hp.j.trans hb⟩)⟩)
    · exact sm_val rfl (fun l a V hp ha => ⟨.int .i64 (cmpI x2 y2), by
        have x12 := (ev_form a 12).trans (show a.eval (.tmp 12) = .int .i64 (cmpI x2 y2) from kn hp ha 12 6 (by kernel_rfl) (by kernel_rfl))
        go_simp, rfl⟩)
  case hf =>
    intro l a W1 hp hall
    have B1 : Hid (Gd W0 W1) := hide hp.j
    have hv5 := hp.good 7 _ 5 rfl rfl (hall 7 (by decide))
    obtain ⟨us1, rfl, hus⟩ := putAll_of [6, 7, 8, 9, 10, 11, 12, 5] hp.nt hp.df (fun t ht => hp.keep t (dstIn (by kernel_rfl) ht))
    have hw5 : us1 5 = .int .i64 (cmpI x2 y2) := by rw [hus 5]; exact hv5
    clear hp hall hus hv5
    simp only [putAll, List.foldl, Act.put, List.setIfInBounds_toArray, List.set_cons_zero, List.set_cons_succ, hw5]
    go_wp2_with fail
    exact bodyPost_ret (v := .int .i64 (cmpI x2 y2)) (by simp [results, Tryz.results97, go_sem]) rfl ⟨rfl, (unhide HB0).trans (unhide B1)⟩
def FBN2 (pb g : Nat) (x1 x2 y1 y2 : Int) : Nat → Value → Prop
  | 0, v => v = .func (.func 70) #[] #[]
  | 1, v => v = .agg #[.int .i64 x1, .int .i64 x2]
  | 2, v => v = .int .i64 x1
  | 3, v => v = .func (.func 70) #[] #[]
  | 4, v => v = .agg #[.int .i64 y1, .int .i64 y2]
  | 5, v => v = .int .i64 y1
  | 6, v => v = .int .i64 (cmpI x1 y1)
  | 7, v => v = .int .i64 (cmpI x1 y1)
  | _, _ => True
theorem iByNum2 (pb : Nat) (x1 x2 y1 y2 : Int) (w : World) (hp : w.cell? ⟨pb, 0, none⟩ = some (.func (.func 70) #[] #[])) : Calls Tryz.prog 97 #[.agg #[.int .i64 x1, .int .i64 x2], .agg #[.int .i64 y1, .int .i64 y2], .pointer (some ⟨pb, 0, none⟩)] w fun e w' => e = .returned (.int .i64 (cmpI x1 y1)) ∧ Gd w w' := by
  obtain ⟨W0, hW0⟩ : ∃ W0, W0 = (w.alloc (.cells #[.int .i64 x1, .int .i64 x2] 87)).alloc (.cells #[.int .i64 y1, .int .i64 y2] 87) := ⟨_, rfl⟩
  have HB0 := hide (show Gd w W0 by rw [hW0]; exact ((Gd.refl w).alloc _).alloc _)
  have HP : Hid (∀ V, Gd W0 V → V.cell? ⟨pb, 0, none⟩ = some (.func (.func 70) #[] #[])) := hide (fun V hV => cell_later (btr (unhide HB0).below hV.below) hp)
  have HXY : Hid (∀ V, Gd W0 V → V.cell? ⟨w.heap.size, 0, none⟩ = some (.int .i64 x1) ∧ V.cell? ⟨w.heap.size, 1, none⟩ = some (.int .i64 x2) ∧ V.cell? ⟨w.heap.size + 1, 0, none⟩ = some (.int .i64 y1) ∧ V.cell? ⟨w.heap.size + 1, 1, none⟩ = some (.int .i64 y2)) := hide (fun V hV => by
    have hb := hV.below
    rw [hW0] at hb
    have K := fun (i : Nat) z hz => (new_cell (i := i) (x := z) (btr (bal (brf _) _) hb) hz).1
    have K2 := fun (i : Nat) z hz => (new_cell (i := i) (x := z) hb hz).1
    simp only [World.size_alloc] at K2
    exact ⟨K 0 _ rfl, K 1 _ rfl, K2 0 _ rfl, K2 1 _ rfl⟩)
  have HWW := hide hW0
  clear hp hW0
  go_enter Tryz.func97, Tryz.ntmps97
  go_wp2_with fail
  rw [← unhide HWW]
  refine wp_plan (GF (FBN2 pb w.heap.size x1 x2 y1 y2)) (JM (Gd W0)) (by kernel_rfl) 13 (by kernel_rfl) (by kernel_rfl) ?hj ?hs ?hf
  case hj => exact (Gd.refl W0).drew
  case hs =>
    refine ⟨?_, ?_, ?_, ?_, ?_, ?_, ?_, ?_, trivial⟩
    · exact sm_val rfl (fun l a V hp ha => ⟨.func (.func 70) #[] #[], by
        have x2 := (ev_form a 2).trans (old hp 2 (v := .pointer (some ⟨pb, 0, none⟩)) (by kernel_rfl) (by kernel_rfl))
        have k0 := unhide HP V hp.j
        go_simp, rfl⟩)
    · exact sm_val rfl (fun l a V hp ha => ⟨.agg #[.int .i64 x1, .int .i64 x2], by
        have x3 := (ev_form a 3).trans (old hp 3 (v := .pointer (some ⟨w.heap.size, 0, none⟩)) (by kernel_rfl) (by kernel_rfl))
        obtain ⟨k0, k1, k2, k3⟩ := unhide HXY V hp.j
        go_simp, rfl⟩)
    · exact sm_call (f := 70) rfl (fun l a V hp ha => ⟨#[.agg #[.int .i64 x1, .int .i64 x2]], by
        have x6 := (ev_form a 6).trans (show a.eval (.tmp 6) = .func (.func 70) #[] #[] from kn hp ha 6 0 (by kernel_rfl) (by kernel_rfl))
        have x7 := (ev_form a 7).trans (show a.eval (.tmp 7) = .agg #[.int .i64 x1, .int .i64 x2] from kn hp ha 7 1 (by kernel_rfl) (by kernel_rfl))
        go_simp, (iAcross x1 x2 V).mono (by rintro e V1 ⟨rfl, hb⟩; exact ⟨_, rfl, rfl, hp.j.trans hb⟩)⟩)
    · exact sm_val rfl (fun l a V hp ha => ⟨.func (.func 70) #[] #[], by
        have x2 := (ev_form a 2).trans (old hp 2 (v := .pointer (some ⟨pb, 0, none⟩)) (by kernel_rfl) (by kernel_rfl))
        have k0 := unhide HP V hp.j
        go_simp, rfl⟩)
    · exact sm_val rfl (fun l a V hp ha => ⟨.agg #[.int .i64 y1, .int .i64 y2], by
        have x4 := (ev_form a 4).trans (old hp 4 (v := .pointer (some ⟨w.heap.size + 1, 0, none⟩)) (by kernel_rfl) (by kernel_rfl))
        obtain ⟨k0, k1, k2, k3⟩ := unhide HXY V hp.j
        go_simp, rfl⟩)
    · exact sm_call (f := 70) rfl (fun l a V hp ha => ⟨#[.agg #[.int .i64 y1, .int .i64 y2]], by
        have x9 := (ev_form a 9).trans (show a.eval (.tmp 9) = .func (.func 70) #[] #[] from kn hp ha 9 3 (by kernel_rfl) (by kernel_rfl))
        have x10 := (ev_form a 10).trans (show a.eval (.tmp 10) = .agg #[.int .i64 y1, .int .i64 y2] from kn hp ha 10 4 (by kernel_rfl) (by kernel_rfl))
        go_simp, (iAcross y1 y2 V).mono (by rintro e V1 ⟨rfl, hb⟩; exact ⟨_, rfl, rfl, hp.j.trans hb⟩)⟩)
    · exact sm_call (f := 98) rfl (fun l a V hp ha => ⟨#[.int .i64 x1, .int .i64 y1], by
        have x8 := (ev_form a 8).trans (show a.eval (.tmp 8) = .int .i64 x1 from kn hp ha 8 2 (by kernel_rfl) (by kernel_rfl))
        have x11 := (ev_form a 11).trans (show a.eval (.tmp 11) = .int .i64 y1 from kn hp ha 11 5 (by kernel_rfl) (by kernel_rfl))
        go_simp, (iCompare x1 y1 V).mono (by rintro e V1 ⟨rfl, hb⟩; exact ⟨_, rfl, rfl, hp.j.trans hb⟩)⟩)
    · exact sm_val rfl (fun l a V hp ha => ⟨.int .i64 (cmpI x1 y1), by
        have x12 := (ev_form a 12).trans (show a.eval (.tmp 12) = .int .i64 (cmpI x1 y1) from kn hp ha 12 6 (by kernel_rfl) (by kernel_rfl))
        go_simp, rfl⟩)
  case hf =>
    intro l a W1 hp hall
    have B1 : Hid (Gd W0 W1) := hide hp.j
    have hv5 := hp.good 7 _ 5 rfl rfl (hall 7 (by decide))
    obtain ⟨us1, rfl, hus⟩ := putAll_of [6, 7, 8, 9, 10, 11, 12, 5] hp.nt hp.df (fun t ht => hp.keep t (dstIn (by kernel_rfl) ht))
    have hw5 : us1 5 = .int .i64 (cmpI x1 y1) := by rw [hus 5]; exact hv5
    clear hp hall hus hv5
    simp only [putAll, List.foldl, Act.put, List.setIfInBounds_toArray, List.set_cons_zero, List.set_cons_succ, hw5]
    go_wp2_with fail
    exact bodyPost_ret (v := .int .i64 (cmpI x1 y1)) (by simp [results, Tryz.results97, go_sem]) rfl ⟨rfl, (unhide HB0).trans (unhide B1)⟩
end Go.Proofs.YtlldfaniddbjaaaGreatDoor
