/- What the program's NumberBits answers of a number with a width, and of any text. -/
import Derived.Test.YtdgiidlaafbgcabGreatDoorNI7
import Derived.Deep.RegionWith
namespace Go.Proofs.YtdgiidlaafbgcabGreatDoor
open Go.RowKit
set_option linter.unusedVariables false
set_option linter.unusedSimpArgs false
set_option maxRecDepth 100000 in
set_option maxHeartbeats 400000 in
theorem iNB_width (s : ByteArray) (w : World) (h : s.size ≤ 1000) (hz : Nb.numZ (L s) = s.size) (d r : List UInt8) (hl : L s = d ++ 39 :: r) (hd : d.all Nb.digB = true) (hd0 : d ≠ []) (hw : Nb.valD d < 1 ∨ 64 < Nb.valD d) (hg : Gd w) :
    Calls Tryz.prog 5 #[.string s] w fun e w' => e = .returned (nbV ([], false, 7)) ∧ Below w.heap.size w w' := by
  have he : s.toList.isEmpty = false := by
    rw [toList_L, hl]; cases d <;> rfl
  have N := hide (fun v => iNumSize s v (by omega))
  rw [hz] at N
  have C := hide (fun v hg => iCutQ s v h hg)
  rw [cut_at hl hd] at C
  have HG := hide hg
  have hds : (S d).size ≤ 1000000 := by rw [S_size]; have := congrArg List.length hl; rw [L_len, List.length_append] at this; omega
  have hd' : (L (S d)).all Nb.digB = true := by rw [L_S]; exact hd
  have hd0' : L (S d) ≠ [] := by rw [L_S]; exact hd0
  by_cases hv : Nb.valD d < 18446744073709551616
  · have P := hide (fun v => iParseOk (S d) v hds hd' hd0' (Nb.valD d) (by rw [L_S]) hv)
    generalize Nb.valD d = V at *
    have hw' : (V : Int) < 1 ∨ (64 : Int) < V := by omega
    clear hl hd hd0 hd' hd0' hz hg hw
    rcases hw' with q | q
    · go_enter Tryz.func5, Tryz.ntmps5
      go_wp2_with fail
      refine (unhide N _).mono ?_
      rintro e v1 ⟨rfl, hb1⟩
      have HB1 := hide hb1
      clear hb1
      go_wp2_with fail
      refine (unhide C _ (Gd_later (unhide HG) (unhide HB1))).mono ?_
      rintro e v2 ⟨rfl, hb2⟩
      have HB2 := hide (below_step (unhide HB1) hb2)
      clear hb2
      go_wp2_with fail
      refine (unhide P _).mono ?_
      rintro e v3 ⟨rfl, hb3⟩
      have HB3 := hide (below_step (unhide HB2) hb3)
      clear hb3
      go_wp2
      exact bodyPost_ret (v := nbV ([], false, 7)) (by simp [results, Tryz.results5, go_sem, nbV, S]) rfl ⟨rfl, unhide HB3⟩
    · have q2 : ¬ (V : Int) < 1 := by omega
      go_enter Tryz.func5, Tryz.ntmps5
      go_wp2_with fail
      refine (unhide N _).mono ?_
      rintro e v1 ⟨rfl, hb1⟩
      have HB1 := hide hb1
      clear hb1
      go_wp2_with fail
      refine (unhide C _ (Gd_later (unhide HG) (unhide HB1))).mono ?_
      rintro e v2 ⟨rfl, hb2⟩
      have HB2 := hide (below_step (unhide HB1) hb2)
      clear hb2
      go_wp2_with fail
      refine (unhide P _).mono ?_
      rintro e v3 ⟨rfl, hb3⟩
      have HB3 := hide (below_step (unhide HB2) hb3)
      clear hb3
      go_wp2
      exact bodyPost_ret (v := nbV ([], false, 7)) (by simp [results, Tryz.results5, go_sem, nbV, S]) rfl ⟨rfl, unhide HB3⟩
  · have P := hide (fun v hg => iParseRange (S d) v hds hd' hd0' (by rw [L_S]; omega) hg)
    clear hl hd hd0 hd' hd0' hz hg hw
    go_enter Tryz.func5, Tryz.ntmps5
    go_wp2_with fail
    refine (unhide N _).mono ?_
    rintro e v1 ⟨rfl, hb1⟩
    have HB1 := hide hb1
    clear hb1
    go_wp2_with fail
    refine (unhide C _ (Gd_later (unhide HG) (unhide HB1))).mono ?_
    rintro e v2 ⟨rfl, hb2⟩
    have HB2 := hide (below_step (unhide HB1) hb2)
    clear hb2
    go_wp2_with fail
    refine (unhide P _ (Gd_later (unhide HG) (unhide HB2))).mono ?_
    rintro e v3 ⟨⟨N', rfl⟩, hb3⟩
    have HB3 := hide (below_step (unhide HB2) hb3)
    clear hb3
    go_wp2
    exact bodyPost_ret (v := nbV ([], false, 7)) (by simp [results, Tryz.results5, go_sem, nbV, S]) rfl ⟨rfl, unhide HB3⟩
set_option maxRecDepth 100000 in
set_option maxHeartbeats 400000 in
theorem iNB_ok (s : ByteArray) (w : World) (h : s.size ≤ 1000) (hz : Nb.numZ (L s) = s.size) (d : List UInt8) (sg : Bool) (b : UInt8) (v : List UInt8) (hl : L s = d ++ 39 :: ((if sg = true then [115] else []) ++ b :: v)) (hd : d.all Nb.digB = true) (hd0 : d ≠ []) (n : Nat) (hn : Nb.valD d = n) (hw : 1 ≤ n) (hw2 : n ≤ 64) (hb : Nb.baseB b = true) (hv : v.all Nb.valB = true) (hv0 : v ≠ []) (hg : Gd w) (R : List UInt8 × Nat) (hR : baseR n b v = R) :
    Calls Tryz.prog 5 #[.string s] w fun e w' => e = .returned (nbV (if R.2 = 0 then (R.1, sg, 0) else ([], false, R.2))) ∧ Below w.heap.size w w' := by
  have he : s.toList.isEmpty = false := by
    rw [toList_L, hl]; cases d <;> rfl
  have N := hide (fun v => iNumSize s v (by omega))
  rw [hz] at N
  have C := hide (fun v hg => iCutQ s v h hg)
  rw [cut_at hl hd] at C
  have HG := hide hg
  have hds : (S d).size ≤ 1000000 := by rw [S_size]; have := congrArg List.length hl; rw [L_len, List.length_append] at this; omega
  have hd' : (L (S d)).all Nb.digB = true := by rw [L_S]; exact hd
  have hd0' : L (S d) ≠ [] := by rw [L_S]; exact hd0
  have P := hide (fun u => iParseOk (S d) u hds hd' hd0' n (by rw [L_S]; exact hn) (by omega))
  have CP := hide (fun u => iPre sg b v u hb)
  have hvs : (S v).size ≤ 1000 := by rw [S_size]; have := congrArg List.length hl; rw [L_len, List.length_append, List.length_cons, List.length_append, List.length_cons] at this; omega
  have hv1 : 1 ≤ (S v).size := by rw [S_size]; cases v with | nil => exact absurd rfl hv0 | cons _ _ => simp
  have BS := hide (fun u hg => iBase b (S v) n u hvs hw hw2 hb (by rw [L_S]; exact hv) hv1 hg)
  rw [L_S, hR] at BS
  unfold bdV at BS
  have zbv : (S (b :: v)).size = v.length + 1 := by rw [S_size]; rfl
  have hvl : v.length ≤ 1000 := by rw [S_size] at hvs; exact hvs
  have g0 : (S (b :: v))[0]'(by rw [zbv]; omega) = b := rfl
  have x0 : (S (b :: v)).extract 1 (v.length + 1) = S v := by
    apply L_inj; rw [L_extract, L_S, L_S]; simp
  have hw' : ¬ (n : Int) < 1 := by omega
  have hw2' : ¬ (64 : Int) < n := by omega
  generalize S (b :: v) = T at *
  generalize S ((if sg = true then [115] else []) ++ b :: v) = U1 at *
  clear hl hd hd0 hd' hd0' hz hg hR hn hv hv0
  by_cases hc : R.2 = 0
  · rw [if_pos hc]
    rw [hc] at BS
    go_enter Tryz.func5, Tryz.ntmps5
    go_wp2_with fail
    refine (unhide N _).mono ?_
    rintro e v1 ⟨rfl, hb1⟩
    have HB1 := hide hb1
    clear hb1
    go_wp2_with fail
    refine (unhide C _ (Gd_later (unhide HG) (unhide HB1))).mono ?_
    rintro e v2 ⟨rfl, hb2⟩
    have HB2 := hide (below_step (unhide HB1) hb2)
    clear hb2
    go_wp2_with fail
    refine (unhide P _).mono ?_
    rintro e v3 ⟨rfl, hb3⟩
    have HB3 := hide (below_step (unhide HB2) hb3)
    clear hb3
    go_wp2_with (go_at_call 17; refine (unhide CP _).mono ?_; rintro e w' ⟨rfl, rfl⟩)
    go_region_with (go_at_call 18; refine (unhide BS _ (Gd_later (unhide HG) (by first | exact unhide HB3 | exact below_drewN (unhide HB3) _ | exact bdr (unhide HB3)))).mono ?_; rintro e v4 ⟨rfl, hb⟩; have HB4 : Hid (Below w.heap.size w v4) := below_step (by first | exact unhide HB3 | exact below_drewN (unhide HB3) _ | exact bdr (unhide HB3)) hb; clear hb)
    all_goals
      go_wp2
      exact bodyPost_ret (v := nbV (R.1, sg, 0)) (by simp [results, Tryz.results5, go_sem, nbV]) rfl ⟨rfl, unhide HB4⟩
  · rw [if_neg hc]
    have qc : (((R.2 : Nat) : Int) != 0) = true := by rw [bne_iff_ne]; omega
    go_enter Tryz.func5, Tryz.ntmps5
    go_wp2_with fail
    refine (unhide N _).mono ?_
    rintro e v1 ⟨rfl, hb1⟩
    have HB1 := hide hb1
    clear hb1
    go_wp2_with fail
    refine (unhide C _ (Gd_later (unhide HG) (unhide HB1))).mono ?_
    rintro e v2 ⟨rfl, hb2⟩
    have HB2 := hide (below_step (unhide HB1) hb2)
    clear hb2
    go_wp2_with fail
    refine (unhide P _).mono ?_
    rintro e v3 ⟨rfl, hb3⟩
    have HB3 := hide (below_step (unhide HB2) hb3)
    clear hb3
    go_wp2_with (go_at_call 17; refine (unhide CP _).mono ?_; rintro e w' ⟨rfl, rfl⟩)
    go_region_with (go_at_call 18; refine (unhide BS _ (Gd_later (unhide HG) (by first | exact unhide HB3 | exact below_drewN (unhide HB3) _ | exact bdr (unhide HB3)))).mono ?_; rintro e v4 ⟨rfl, hb⟩; have HB4 : Hid (Below w.heap.size w v4) := below_step (by first | exact unhide HB3 | exact below_drewN (unhide HB3) _ | exact bdr (unhide HB3)) hb; clear hb)
    all_goals
      go_wp2
      exact bodyPost_ret (v := nbV ([], false, R.2)) (by simp [results, Tryz.results5, go_sem, nbV, S]) rfl ⟨rfl, unhide HB4⟩
end Go.Proofs.YtdgiidlaafbgcabGreatDoor
