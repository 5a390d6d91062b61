/- What the program's NumberBits answers. -/
import Derived.Test.YtdgiidlaafbgcabGreatDoorNI6
import Derived.Deep.QuietTactic
import Derived.BigQuiet
namespace Go.Proofs.YtdgiidlaafbgcabGreatDoor
open Go.RowKit
set_option linter.unusedVariables false
set_option linter.unusedSimpArgs false
theorem index_at : ∀ (d r : List UInt8), d.all Nb.digB = true → Lib.index (d ++ 39 :: r) [39] = (d.length : Int)
  | [], r, _ => by rw [List.nil_append, Lib.index]; simp
  | c :: d, r, h => by
    have hc : Nb.digB c = true := by simp at h; exact h.1
    have hne : c ≠ 39 := fun e => by rw [e] at hc; exact absurd hc (by decide)
    have ih := index_at d r (by simp at h ⊢; exact h.2)
    rw [List.cons_append, Lib.index, ih]
    rw [if_neg (by simp [List.isPrefixOf]; exact fun e => hne e.symm), if_neg (by simp)]
    simp
theorem index_no : ∀ (d : List UInt8), d.all Nb.digB = true → Lib.index d [39] = -1
  | [], _ => rfl
  | c :: d, h => by
    have hc : Nb.digB c = true := by simp at h; exact h.1
    have hne : c ≠ 39 := fun e => by rw [e] at hc; exact absurd hc (by decide)
    have ih := index_no d (by simp at h ⊢; exact h.2)
    rw [Lib.index, ih, if_neg (by simp [List.isPrefixOf]; exact fun e => hne e.symm)]; rfl
set_option maxRecDepth 100000 in
set_option maxHeartbeats 400000 in
theorem iCutI (s : ByteArray) (w : World) (hs : s.size ≤ 1000) (i : Int) (hi : Lib.indexByte (L s) 39 = i) (h1 : -1 ≤ i) (h2 : i < s.size) :
    Calls Tryz.prog 24 #[.string s, .string ⟨#[39]⟩] w fun e w' => e = .returned (.tuple #[.string (S (if 0 ≤ i then (L s).take i.toNat else L s)), .string (S (if 0 ≤ i then (L s).drop (i.toNat + 1) else [])), .bool (decide (0 ≤ i))]) ∧ Below w.heap.size w w' := by
  have I : Hid (∀ v, Calls Tryz.prog 35 #[.string s, .string ⟨#[39]⟩] v fun e w' => e = .returned (.int .i64 i) ∧ v = w') := fun v => (Tryz.stringslite_Index_one s 39 v).mono fun e w' ⟨a, b⟩ => ⟨by rw [a]; exact congrArg (fun x => Ending.returned (.int .i64 x)) hi, b.symm⟩
  by_cases h0 : 0 ≤ i
  · obtain ⟨k, rfl⟩ : ∃ k : Nat, i = k := ⟨i.toNat, by omega⟩
    rw [if_pos h0, if_pos h0, decide_eq_true h0, Int.toNat_natCast]
    have x1 : s.extract 0 k = S ((L s).take k) := by apply L_inj; rw [L_extract, L_S, List.drop_zero, Nat.sub_zero]
    have x2 : s.extract (k + 1) s.size = S ((L s).drop (k + 1)) := by
      apply L_inj; rw [L_extract, L_S, List.take_of_length_le (by rw [List.length_drop, L_len]; exact Nat.le_refl _)]
    have hk : k < s.size := by omega
    clear hi
    generalize S ((L s).take k) = T1 at *
    generalize S ((L s).drop (k + 1)) = T2 at *
    go_enter Tryz.func24, Tryz.ntmps24
    go_wp2_with (first | (go_at_call 35; refine (unhide I _).mono ?_; rintro e w' ⟨rfl, rfl⟩))
    go_quiet (fail)
    go_wp2
    exact bodyPost_ret (v := .tuple #[.string T1, .string T2, .bool true]) (by simp [results, Tryz.results24, go_sem]) rfl ⟨rfl, below_drewN (brf _) _⟩
  · rw [if_neg h0, if_neg h0, decide_eq_false h0, S_L]
    clear hi
    go_enter Tryz.func24, Tryz.ntmps24
    go_wp2_with (first | (go_at_call 35; refine (unhide I _).mono ?_; rintro e w' ⟨rfl, rfl⟩))
    exact bodyPost_ret (v := .tuple #[.string s, .string (S []), .bool false]) (by simp [results, Tryz.results24, go_sem, S]) rfl ⟨rfl, brf _⟩
set_option maxRecDepth 100000 in
set_option maxHeartbeats 400000 in
theorem iCutW (s : ByteArray) (w : World) (hs : s.size ≤ 1000) (i : Int) (hi : Lib.indexByte (L s) 39 = i) (h1 : -1 ≤ i) (h2 : i < s.size) :
    Calls Tryz.prog 14 #[.string s, .string ⟨#[39]⟩] w fun e w' => e = .returned (.tuple #[.string (S (if 0 ≤ i then (L s).take i.toNat else L s)), .string (S (if 0 ≤ i then (L s).drop (i.toNat + 1) else [])), .bool (decide (0 ≤ i))]) ∧ Below w.heap.size w w' := by
  have I := hide (fun v => iCutI s v hs i hi h1 h2)
  generalize S (if 0 ≤ i then (L s).take i.toNat else L s) = T1 at *
  generalize S (if 0 ≤ i then (L s).drop (i.toNat + 1) else []) = T2 at *
  generalize decide (0 ≤ i) = g at *
  clear hi
  go_enter Tryz.func14, Tryz.ntmps14
  go_wp2_with (go_at_call 24; refine (unhide I _).mono ?_; rintro e v1 ⟨rfl, hb1⟩)
  exact bodyPost_ret (v := .tuple #[.string T1, .string T2, .bool g]) (by simp [results, Tryz.results14, go_sem]) rfl ⟨rfl, hb1⟩
theorem index_is : ∀ (s : List UInt8) (c : UInt8), Lib.index s [c] = Lib.indexByte s c
  | [], c => rfl
  | b :: l, c => by
    rw [Lib.index, Lib.indexByte, index_is l c]
    by_cases h : b = c
    · subst h; simp [List.isPrefixOf]
    · have e1 : ([c] : List UInt8).isPrefixOf (b :: l) = false := by simp [List.isPrefixOf]; exact fun e => h e.symm
      have e2 : (b == c) = false := by rw [beq_eq_false_iff_ne]; exact h
      rw [e1, e2]
theorem indexByte_lt : ∀ (s : List UInt8) (c : UInt8), Lib.indexByte s c < s.length ∧ -1 ≤ Lib.indexByte s c
  | [], c => by simp [Lib.indexByte]
  | b :: l, c => by
    have ih := indexByte_lt l c
    rw [Lib.indexByte, List.length_cons]
    split
    · omega
    · split
      · omega
      · rename_i h1 h2
        have : Lib.indexByte l c ≠ -1 := by simpa using h2
        omega
theorem iCutQ (s : ByteArray) (w : World) (hs : s.size ≤ 1000) (hg : Gd w) :
    Calls Tryz.prog 14 #[.string s, .string ⟨#[39]⟩] w fun e w' => e = .returned (.tuple #[.string (S (Lib.cut (L s) [39]).1), .string (S (Lib.cut (L s) [39]).2.1), .bool (Lib.cut (L s) [39]).2.2]) ∧ Below w.heap.size w w' := by
  have hb := indexByte_lt (L s) 39
  rw [L_len] at hb
  have h := iCutW s w hs _ rfl hb.2 hb.1
  unfold Lib.cut
  rw [index_is]
  by_cases h0 : 0 ≤ Lib.indexByte (L s) 39
  · rw [if_pos h0, if_pos h0, decide_eq_true h0] at h
    rw [if_pos h0]; exact h
  · rw [if_neg h0, if_neg h0, decide_eq_false h0] at h
    rw [if_neg h0]; exact h
theorem cut_at {l d r : List UInt8} (hl : l = d ++ 39 :: r) (hd : d.all Nb.digB = true) : Lib.cut l [39] = (d, r, true) := by
  subst hl
  unfold Lib.cut
  rw [index_at d r hd, if_pos (by omega), Int.toNat_natCast, List.take_left]
  have e : (d ++ 39 :: r : List UInt8) = (d ++ [39]) ++ r := by simp
  rw [e, List.drop_left' (by simp)]
theorem cut_no {l : List UInt8} (hd : l.all Nb.digB = true) : Lib.cut l [39] = (l, [], false) := by
  unfold Lib.cut; rw [index_no l hd, if_neg (by omega)]
set_option maxRecDepth 100000 in
theorem iNB_long (s : ByteArray) (w : World) (hs : s.size ≤ maxLen) (h : 1000 < s.size) :
    Calls Tryz.prog 5 #[.string s] w fun e w' => e = .returned (nbV ([], false, 2)) ∧ Below w.heap.size w w' := by
  have q : (1000 : Int) < s.size := by omega
  unfold maxLen at hs
  go_enter Tryz.func5, Tryz.ntmps5
  go_wp2
  exact bodyPost_ret (v := nbV ([], false, 2)) (by simp [results, Tryz.results5, go_sem, nbV, S]) rfl ⟨rfl, brf _⟩
theorem toList_L (s : ByteArray) : s.toList = L s := by rw [ByteArray.toList_eq]; rfl
set_option maxRecDepth 100000 in
set_option maxHeartbeats 400000 in
theorem iNB_form (s : ByteArray) (w : World) (h : s.size ≤ 1000) (hf : s.size = 0 ∨ Nb.numZ (L s) ≠ s.size) :
    Calls Tryz.prog 5 #[.string s] w fun e w' => e = .returned (nbV ([], false, 3)) ∧ Below w.heap.size w w' := by
  have N := hide (fun v => iNumSize s v (by omega))
  by_cases h0 : s.size = 0
  · have he : s.toList.isEmpty = true := by
      rw [toList_L]; have : L s = [] := List.eq_nil_of_length_eq_zero (by rw [L_len]; exact h0)
      rw [this]; rfl
    clear hf h0
    go_enter Tryz.func5, Tryz.ntmps5
    go_wp2_with (go_at_call 13; refine (unhide N _).mono ?_; rintro e v1 ⟨rfl, hb1⟩)
    exact bodyPost_ret (v := nbV ([], false, 3)) (by simp [results, Tryz.results5, go_sem, nbV, S]) rfl ⟨rfl, brf _⟩
  · have he : s.toList.isEmpty = false := by
      rw [toList_L]; cases hL : L s with
      | nil => (have := L_len s; rw [hL] at this; simp at this; omega)
      | cons _ _ => rfl
    generalize Nb.numZ (L s) = E at *
    have q : ((E : Int) != (s.size : Int)) = true := by rw [bne_iff_ne]; omega
    clear hf h0
    go_enter Tryz.func5, Tryz.ntmps5
    go_wp2_with (go_at_call 13; refine (unhide N _).mono ?_; rintro e v1 ⟨rfl, hb1⟩)
    exact bodyPost_ret (v := nbV ([], false, 3)) (by simp [results, Tryz.results5, go_sem, nbV, S]) rfl ⟨rfl, hb1⟩
theorem iPre (sg : Bool) (b : UInt8) (v : List UInt8) (w : World) (hb : Nb.baseB b = true) :
    Calls Tryz.prog 17 #[.string (S ((if sg = true then [115] else []) ++ b :: v)), .string ⟨#[115]⟩] w fun e w' => e = .returned (.tuple #[.string (S (b :: v)), .bool sg]) ∧ w = w' := by
  refine (Tryz.strings_CutPrefix _ ⟨#[115]⟩ w).mono fun e w' ⟨a, c⟩ => ⟨?_, c.symm⟩
  rw [a]
  show Ending.returned (.tuple #[.string (S (Lib.trimPrefix (L (S _)) [115])), .bool (Lib.hasPrefix (L (S _)) [115])]) = _
  rw [L_S]
  cases sg
  · have hne : b ≠ 115 := fun e => by rw [e] at hb; exact absurd hb (by decide)
    have hp : Lib.hasPrefix (b :: v) [115] = false := by
      unfold Lib.hasPrefix; simp [List.isPrefixOf]; exact fun e => hne e.symm
    rw [if_neg (by decide), List.nil_append]
    unfold Lib.trimPrefix
    rw [hp, if_neg (by decide)]
  · have hp : Lib.hasPrefix (115 :: b :: v) [115] = true := by unfold Lib.hasPrefix; simp [List.isPrefixOf]
    rw [if_pos rfl]
    show Ending.returned (.tuple #[.string (S (Lib.trimPrefix (115 :: b :: v) [115])), .bool (Lib.hasPrefix (115 :: b :: v) [115])]) = _
    unfold Lib.trimPrefix
    rw [hp, if_pos rfl]; rfl
set_option maxRecDepth 100000 in
set_option maxHeartbeats 400000 in
theorem iNB_plain (s : ByteArray) (w : World) (h : s.size ≤ 1000) (h0 : 1 ≤ s.size) (hz : Nb.numZ (L s) = s.size) (hd : (L s).all Nb.digB = true) (hg : Gd w) (R : List UInt8 × Bool × Nat) (hR : Nb.plain (L s) = R) :
    Calls Tryz.prog 5 #[.string s] w fun e w' => e = .returned (nbV R) ∧ Below w.heap.size w w' := by
  have hne : L s ≠ [] := fun e => by have := L_len s; rw [e] at this; simp at this; omega
  have N := hide (fun v => iNumSize s v (by omega))
  rw [hz] at N
  have he : s.toList.isEmpty = false := by
    rw [toList_L]; cases hL : L s with
    | nil => exact absurd hL hne
    | cons _ _ => rfl
  have C := hide (fun v hg => iCutQ s v h hg)
  rw [cut_no hd, S_L] at C
  have D : Hid (∀ v, Gd v → Calls Tryz.prog 15 #[.string s, .int .i64 31] v fun e w' => e = .returned (bdV (decR 31 (L s))) ∧ Below v.heap.size v w') := fun v hg => iDec s 31 v (by omega) (by omega) (by omega) hne hg
  have HG := hide hg
  have hdr : decR 31 (L s) = if 2147483648 ≤ Nb.valD (L s) then ([], 11) else (Vb.nTxt 31 (Nb.valD (L s)), 0) := by unfold decR; rw [if_pos hd]
  unfold bdV at D
  by_cases hv : 2147483648 ≤ Nb.valD (L s)
  · rw [if_pos hv] at hdr
    rw [hdr] at D
    have HR2 : Hid (([], false, 11) = R) := hide (by rw [← hR]; unfold Nb.plain; rw [if_pos (by omega)])
    clear hR hdr hd hne hz hg hv
    go_enter Tryz.func5, Tryz.ntmps5
    go_wp2_with fail
    refine (unhide N _).mono ?_
    rintro e v1 ⟨rfl, hb1⟩
    have HB1 := hide hb1
    clear hb1
    go_wp2_with fail
    refine (unhide C _ (Gd_later (unhide HG) (unhide HB1))).mono ?_
    rintro e v2 ⟨rfl, hb2⟩
    have HB2 := hide (below_step (unhide HB1) hb2)
    clear hb2
    go_wp2_with fail
    refine (unhide D _ (Gd_later (unhide HG) (unhide HB2))).mono ?_
    rintro e v3 ⟨rfl, hb3⟩
    have HB3 := hide (below_step (unhide HB2) hb3)
    clear hb3
    go_wp2
    exact bodyPost_ret (v := nbV ([], false, 11)) (by simp [results, Tryz.results5, go_sem, nbV, S]) rfl ⟨by rw [unhide HR2], unhide HB3⟩
  · rw [if_neg hv] at hdr
    rw [hdr] at D
    have HR2 : Hid ((Vb.nTxt 32 (Nb.valD (L s)), true, 0) = R) := hide (by rw [← hR]; unfold Nb.plain; rw [if_neg (by omega)])
    have e0 : (⟨#[48]⟩ : ByteArray) ++ S (Vb.nTxt 31 (Nb.valD (L s))) = S (Vb.nTxt 32 (Nb.valD (L s))) := by
      rw [← Nb.pad_nTxt 1 31 _ (by omega), ← S_app']; rfl
    have z0 : (S (Vb.nTxt 31 (Nb.valD (L s)))).size = 31 := by rw [S_size, Vb.nTxt_len]
    generalize hT1 : S (Vb.nTxt 31 (Nb.valD (L s))) = T1 at *
    generalize hT2 : Vb.nTxt 32 (Nb.valD (L s)) = T2 at *
    clear hR hdr hd hne hz hg hv hT1 hT2
    go_enter Tryz.func5, Tryz.ntmps5
    go_wp2_with fail
    refine (unhide N _).mono ?_
    rintro e v1 ⟨rfl, hb1⟩
    have HB1 := hide hb1
    clear hb1
    go_wp2_with fail
    refine (unhide C _ (Gd_later (unhide HG) (unhide HB1))).mono ?_
    rintro e v2 ⟨rfl, hb2⟩
    have HB2 := hide (below_step (unhide HB1) hb2)
    clear hb2
    go_wp2_with fail
    refine (unhide D _ (Gd_later (unhide HG) (unhide HB2))).mono ?_
    rintro e v3 ⟨rfl, hb3⟩
    have HB3 := hide (below_step (unhide HB2) hb3)
    clear hb3
    go_wp2
    exact bodyPost_ret (v := nbV (T2, true, 0)) (by simp [results, Tryz.results5, go_sem, nbV]) rfl ⟨by rw [unhide HR2], unhide HB3⟩
end Go.Proofs.YtdgiidlaafbgcabGreatDoor
