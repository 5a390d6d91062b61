/- Parts of the proof: NS8 to NF0. -/
import Derived.Test.YtddlokkejglckaaGreatDoorNS7
import Derived.Test.YtddlokkejglckaaGreatDoorMBits
import Derived.Test.YtddlokkejglckaaGreatDoorMNE2
import Derived.Test.YtddlokkejglckaaGreatDoorMNE7
namespace Go.Proofs.YtddlokkejglckaaGreatDoor
open Go.RowKit
set_option maxHeartbeats 1000000
set_option maxRecDepth 100000
set_option linter.unusedVariables false
set_option maxRecDepth 100000 in
theorem sNB_b1 (s : ByteArray) (D n : Nat) (w : World) (h : s.size ≤ 1000) (hok : (Nb.numE (L s) 0).2 = true) (he : (Nb.numE (L s) 0).1 = s.size) (h0 : D + 1 < s.size) (hd : ((L s).take D).all Nb.digB = true) (h39 : s[D]'(Nat.lt_of_succ_lt h0) = 39) (hn : Nb.valD ((L s).take D) = n) (hw : 1 ≤ n) (hw2 : n ≤ 64) (h115 : s[D + 1] = 115) (h02 : D + 1 + 1 < s.size) (hb0 : s[D + 1 + 1] = 98) (v : List UInt8) (hv : (L s).drop (D + 1 + 1 + 1) = v) (hvv : v.all Nb.valB = true) (hv0 : v ≠ []) (R : List UInt8 × Bool × Nat) (hR : Nb.based n true 98 v = R) :
   CB 61 #[.string s] w (nbV R) := by
 have N := h_ (fun v => fl (sNumber s 0 v (by omega) (by omega)))
 rw [hok, he] at N
 have HD := h_ hd
 have HN := h_ hn
 have DG39 : Hid (∀ v, Calls Tryz.prog 75 #[.int .u8 39] v fun e w' => e = .returned (.bool false) ∧ v = w') := fun v => fl (sDigit 39 v)
 clear hok he hd hn
 have hx : s.extract (D + 1 + 1 + 1) s.size = S v := by
   apply L_inj; rw [L_extract, L_S, ← hv]
   rw [List.take_of_length_le (by rw [List.length_drop, L_len]; exact Nat.le_refl _)]
 have hvl : v.length = s.size - (D + 1 + 1 + 1) := by rw [← hv, List.length_drop, L_len]
 have HV := h_ hv
 have HR := h_ hR
 clear hv hR
 have zv : (S v).size = v.length := S_size v
 have HVV := h_ hvv
 have HV0 := h_ hv0
 have hvl1 : 1 ≤ v.length := by cases v with | nil => exact absurd rfl hv0 | cons _ _ => simp
 clear hvv hv0
 go_enter Tryz.func61, Tryz.ntmps61
 go_wp2_with (go_at_call 74; refine (u_ N _).mono ?_; rintro e w' ⟨rfl, rfl⟩)
 go_loop [7, 8] (fun i n => ∃ k : Nat, k ≤ D ∧ i = .int .i64 k ∧ ∃ m : Nat, m ≤ 1099511627776 ∧ m = Nb.lidD ((L s).take k) ∧ n = .int .i64 m) (fun i _ => D - (intOf i).toNat)
 case atStart => exact ⟨0, by omega, rfl, 0, by omega, rfl, rfl⟩
 case round =>
   obtain ⟨k, hk, rfl, m, hm, hml, rfl⟩ := hrel
   have HM := h_ hml
   clear hml
   by_cases hks : k < D
   · have hdk : Nb.digB (s[k]'(by omega)) = true := by
       refine List.all_eq_true.1 (u_ HD) _ ?_
       rw [List.mem_take_iff_getElem]
       exact ⟨k, by rw [L_len]; omega, rfl⟩
     have hks' : k < s.size := by omega
     have DG := h_ (fun v => fl (sDigit (s[k]'hks') v))
     rw [hdk] at DG
     obtain ⟨e1, e2, e3⟩ := dig_num hdk
     clear hdk h39
     go_wp2_with (go_at_call 75; refine (u_ DG _).mono ?_; rintro e w' ⟨rfl, rfl⟩)
     refine ⟨⟨k + 1, by omega, by go_num, min (m * 10 + (s[k].toNat - 48)) 1099511627776, by omega, ?_, ?_⟩, by simp [intOf]; omega⟩
     · rw [L_take s k hks', Nb.lidD_snoc, ← u_ HM]
     · congr 1; split <;> omega
   · obtain rfl : D = k := by omega
     have hm2 : m = min n 1099511627776 := by rw [u_ HM, Nb.lidD_is, u_ HN]
     have hq : ((D : Int) == (s.size : Int)) = false := by rw [beq_eq_false_iff_ne]; omega
     obtain rfl : n = m := by omega
     have hw1 : ¬ (n : Int) < 1 := by omega
     have hw2 : ¬ (64 : Int) < n := by omega
     clear hm2 HM
     go_wp2_with (first | (go_at_call 75; refine (u_ DG39 _).mono ?_; rintro e w' ⟨rfl, rfl⟩))
     have hv1000 : v.length ≤ 1000 := by omega
     first | rw [hx] | skip
     clear hx hvl
     go_loopw [17, 18] (fun al i W => ∃ k : Nat, k ≤ v.length ∧ i = .int .i64 k ∧ ∃ x : List UInt8, x.length = 1 * k ∧ Nb.digsA 1 [] (v.take k) = some x ∧ al = .string (S x) ∧ Below w.heap.size w W) (fun _ i _ => v.length - (intOf i).toNat)
     case atStart => exact ⟨0, by omega, rfl, [], rfl, rfl, rfl, brf _⟩
     case round =>
       obtain ⟨k, hk, rfl, x, hxl, hx, rfl, hB⟩ := hrel
       have HX := h_ hx
       have HB := h_ hB
       clear hx hB
       by_cases hkv : k < v.length
       · have hkz : k < (S v).size := by rw [zv]; exact hkv
         have hcv : Nb.valB ((S v)[k]'hkz) = true := List.all_eq_true.1 (u_ HVV) _ (mem_S hkz)
         have DT := h_ (fun u => sDigits ((S v)[k]'hkz) 1 u hcv (by omega))
         have htk : v.take (k + 1) = v.take k ++ [(S v)[k]'hkz] := by
           have := L_take (S v) k hkz
           rwa [L_S] at this
         have hsn := Nb.digsA_snoc 1 (v.take k) [] ((S v)[k]'hkz) (u_ HX)
         rw [← htk] at hsn
         cases hdt : Nb.digT 1 ((S v)[k]'hkz) with
         | none =>
           rw [hdt] at DT hsn
           have HR2 : Hid (([], false, 3) = R) := h_ (by
             rw [← u_ HR]; unfold Nb.based
             have hn : Nb.digsA 1 [] v = none := by
               have := Nb.digsA_bad 1 (v.take (k + 1)) [] (v.drop (k + 1)) hsn
               rwa [List.take_append_drop] at this
             rw [if_neg (by decide), show Nb.baseN 98 = 1 from rfl, hn])
           clear hcv htk hsn hdt
           unfold digV at DT
           go_wp2_with (go_at_call 80; refine (u_ DT _).mono ?_; rintro e v2 ⟨rfl, hb2⟩)
           exact bodyPost_ret (v := nbV ([], false, 3)) (by simp [results, Tryz.results61, go_sem, nbV, S]) rfl ⟨by rw [u_ HR2], below_nst (u_ HB) hb2⟩
         | some y =>
           rw [hdt] at DT hsn
           have hyl := Nb.digT_len hdt
           have HS := h_ hsn
           have zx : (S x).size = 1 * k := by rw [S_size, hxl]
           have zy : (S y).size = 1 := by rw [S_size, hyl]
           have exy : S x ++ S y = S (x ++ y) := S_app' x y
           clear hcv htk hsn hdt
           unfold digV at DT
           go_wp2_with (go_at_call 80; refine (u_ DT _).mono ?_; rintro e v2 ⟨rfl, hb2⟩)
           exact ⟨⟨k + 1, by omega, by go_num, x ++ y, by rw [List.length_append, hxl, hyl]; omega, u_ HS, rfl, below_nst (u_ HB) hb2⟩, by simp [intOf]; omega⟩
       · have hke : v.take k = v := List.take_of_length_le (by omega)
         have hxa : Nb.digsA 1 [] v = some x := by have := u_ HX; rwa [hke] at this
         obtain rfl : k = v.length := by omega
         have hpad := Nb.pad_is (by omega) (u_ HV0) hxa
         have HXA := h_ hxa
         have HPAD := h_ hpad
         have hx1 : 1 ≤ x.length := by rw [hxl]; omega
         clear hke hxa hpad HX
         obtain ⟨p, hp⟩ : ∃ p, Nb.padC v = p := ⟨_, rfl⟩
         have hp49 : p ≠ 49 := by rw [← hp]; exact padC_ne v
         have HP0 : Hid ((if x.headD 0 = 49 then 48 else x.headD 0) = p) := h_ ((u_ HPAD).trans hp)
         have HPP := h_ hp
         clear hp HPAD
         go_wp2_with fail
         go_loopw [17] (fun al W => ∃ j : Nat, j ≤ n - x.length ∧ al = .string (S (List.replicate j p ++ x)) ∧ Below w.heap.size w W) (fun al _ => n - strLen al)
         case atStart => exact ⟨0, by omega, rfl, u_ HB⟩
         case round =>
           clear HB
           obtain ⟨j, hj, rfl, hB⟩ := hrel
           have HB := h_ hB
           clear hB
           have zy : (S (List.replicate j p ++ x)).size = j + x.length := by rw [S_size, List.length_append, List.length_replicate]
           by_cases hjn : j + x.length < n
           · have hy0 : 0 < (S (List.replicate j p ++ x)).size := by omega
             have hhd : (if (S (List.replicate j p ++ x))[0]'hy0 = 49 then (48 : UInt8) else (S (List.replicate j p ++ x))[0]'hy0) = p := by
               rw [head_S hy0]
               cases j with
               | zero => exact u_ HP0
               | succ j => rw [show (List.replicate (j + 1) p ++ x).headD 0 = p from rfl, if_neg hp49]
             have est : S [p] ++ S (List.replicate j p ++ x) = S (List.replicate (j + 1) p ++ x) := by rw [S_app']; rfl
             have z1 : (S [p]).size = 1 := rfl
             have hsl : strLen (.string (S (List.replicate (j + 1) p ++ x))) = j + 1 + x.length := by
               show (S _).size = _; rw [S_size, List.length_append, List.length_replicate]
             have hsl0 : strLen (.string (S (List.replicate j p ++ x))) = j + x.length := zy
             by_cases h49 : (S (List.replicate j p ++ x))[0]'hy0 = 49
             · rw [if_pos h49] at hhd
               have hcv := fun W => one_string (48 : Int) p (by rw [← hhd]; rfl) W
               have HSL := h_ hsl
               have HSL0 := h_ hsl0
               clear hhd hsl hsl0
               generalize S (List.replicate j p ++ x) = Y at *
               generalize hY1 : S (List.replicate (j + 1) p ++ x) = Y1 at *
               go_wp2
               exact ⟨⟨j + 1, by omega, by rw [← hY1], bal (u_ HB) _⟩, by rw [u_ HSL, u_ HSL0]; omega⟩
             · rw [if_neg h49] at hhd
               have hcv := fun W => one_string ((((S (List.replicate j p ++ x))[0]'hy0).toNat : Int)) p (by rw [hhd]) W
               have q49 : ((((S (List.replicate j p ++ x))[0]'hy0).toNat : Int) == 49) = false := u8x h49
               have HSL := h_ hsl
               have HSL0 := h_ hsl0
               clear hhd hsl hsl0 h49
               generalize S (List.replicate j p ++ x) = Y at *
               generalize hY1 : S (List.replicate (j + 1) p ++ x) = Y1 at *
               go_wp2
               exact ⟨⟨j + 1, by omega, by rw [← hY1], bal (u_ HB) _⟩, by rw [u_ HSL, u_ HSL0]; omega⟩
           · by_cases hlong : n < x.length
             · obtain rfl : j = 0 := by omega
               rw [List.replicate_zero, List.nil_append] at zy ⊢
               obtain ⟨m, hxm⟩ : ∃ m, x.length = m + n := ⟨x.length - n, by omega⟩
               rw [hxm] at zy
               have hm4 : m ≤ 4000 := by omega
               have xc : (S x).extract 0 m = S (x.take m) := by
                 apply L_inj; rw [L_extract, L_S, L_S, List.drop_zero, Nat.sub_zero]
               have xd : (S x).extract m (m + n) = S (x.drop m) := by
                 apply L_inj; rw [L_extract, L_S, L_S, List.take_of_length_le (by rw [List.length_drop]; omega)]
               have zc : (S (x.take m)).size = m := by rw [S_size, List.length_take]; omega
               have F : Hid (∀ u, CB 77 #[.int .u8 48, .int .i64 m] u (.string (S (List.replicate m 48)))) := fun u => sFill 48 m u (by omega)
               have hfit : Nb.fitT n (Nb.padC v) x = if (x.take m).all (fun c => c == 48) = true then some (x.drop m) else none := by
                 unfold Nb.fitT; rw [if_pos hlong, hxm, Nat.add_sub_cancel]
               have hall : (x.take m).all (fun c => c == 48) = ((S (x.take m)).toList == (S (List.replicate m 48)).toList) := by
                 rw [ByteArray.toList_eq, ByteArray.toList_eq]
                 show _ = (x.take m == List.replicate m 48)
                 rw [Bool.eq_iff_iff, beq_iff_eq, List.all_eq_true, List.eq_replicate_iff, List.length_take]
                 constructor
                 · intro h; exact ⟨by omega, fun c hc => by simpa using h c hc⟩
                 · intro h c hc; simpa using h.2 c hc
               by_cases hz : (x.take m).all (fun c => c == 48) = true
               · have HR2 : Hid ((x.drop m, true, 0) = R) := h_ ((based_some (b := 98) (by decide) (u_ HXA) (by rw [hfit, if_pos hz])).symm.trans (u_ HR))
                 have hne : ((S (x.take m)).toList == (S (List.replicate m 48)).toList) = true := by rw [← hall, hz]
                 clear hfit hz hxl hlong hall
                 go_wp2_with (go_at_call 77; refine (u_ F _).mono ?_; rintro e v2 ⟨rfl, hb2⟩)
                 exact bodyPost_ret (v := nbV (x.drop m, true, 0)) (by simp [results, Tryz.results61, go_sem, nbV]) rfl ⟨by rw [u_ HR2], below_nst (u_ HB) hb2⟩
               · have hz' : (x.take m).all (fun c => c == 48) = false := by simpa using hz
                 have HR2 : Hid (([], false, 11) = R) := h_ ((based_none (b := 98) (by decide) (u_ HXA) (by rw [hfit, if_neg hz])).symm.trans (u_ HR))
                 have hne : ((S (x.take m)).toList == (S (List.replicate m 48)).toList) = false := by rw [← hall, hz']
                 clear hfit hz hxl hlong hall hz'
                 go_wp2_with (go_at_call 77; refine (u_ F _).mono ?_; rintro e v2 ⟨rfl, hb2⟩)
                 exact bodyPost_ret (v := nbV ([], false, 11)) (by simp [results, Tryz.results61, go_sem, nbV, S]) rfl ⟨by rw [u_ HR2], below_nst (u_ HB) hb2⟩
             · have hjx : j + x.length = n := by omega
               have HR2 : Hid ((List.replicate j p ++ x, true, 0) = R) := h_ ((based_some (b := 98) (by decide) (u_ HXA) (by
                 unfold Nb.fitT; rw [if_neg hlong, u_ HPP, show n - x.length = j by omega])).symm.trans (u_ HR))
               have F : Hid (∀ u, CB 77 #[.int .u8 48, .int .i64 0] u (.string (S []))) := fun u => sFill 48 0 u (by omega)
               have zz : (S (List.replicate j p ++ x)).size = n := by rw [zy]; exact hjx
               have xz : (S (List.replicate j p ++ x)).extract 0 0 = S [] := by
                 apply L_inj; rw [L_extract, L_S]; rfl
               have xn : (S (List.replicate j p ++ x)).extract 0 n = S (List.replicate j p ++ x) := by
                 apply L_inj; rw [L_extract, L_S, List.drop_zero, List.take_of_length_le (by rw [List.length_append, List.length_replicate]; omega)]
               have he0 : (S []).toList.isEmpty = true := by rw [ByteArray.toList_eq]; rfl
               clear zy hjx hlong hjn hj hxl
               generalize hY : List.replicate j p ++ x = Y at *
               clear hY
               go_wp2_with (go_at_call 77; refine (u_ F _).mono ?_; rintro e v2 ⟨rfl, hb2⟩)
               exact bodyPost_ret (v := nbV (Y, true, 0)) (by simp [results, Tryz.results61, go_sem, nbV]) rfl ⟨by rw [u_ HR2], below_nst (u_ HB) hb2⟩
set_option maxRecDepth 100000 in
theorem sNB_o1 (s : ByteArray) (D n : Nat) (w : World) (h : s.size ≤ 1000) (hok : (Nb.numE (L s) 0).2 = true) (he : (Nb.numE (L s) 0).1 = s.size) (h0 : D + 1 < s.size) (hd : ((L s).take D).all Nb.digB = true) (h39 : s[D]'(Nat.lt_of_succ_lt h0) = 39) (hn : Nb.valD ((L s).take D) = n) (hw : 1 ≤ n) (hw2 : n ≤ 64) (h115 : s[D + 1] = 115) (h02 : D + 1 + 1 < s.size) (hb0 : s[D + 1 + 1] = 111) (v : List UInt8) (hv : (L s).drop (D + 1 + 1 + 1) = v) (hvv : v.all Nb.valB = true) (hv0 : v ≠ []) (R : List UInt8 × Bool × Nat) (hR : Nb.based n true 111 v = R) :
   CB 61 #[.string s] w (nbV R) := by
 have N := h_ (fun v => fl (sNumber s 0 v (by omega) (by omega)))
 rw [hok, he] at N
 have HD := h_ hd
 have HN := h_ hn
 have DG39 : Hid (∀ v, Calls Tryz.prog 75 #[.int .u8 39] v fun e w' => e = .returned (.bool false) ∧ v = w') := fun v => fl (sDigit 39 v)
 clear hok he hd hn
 have hx : s.extract (D + 1 + 1 + 1) s.size = S v := by
   apply L_inj; rw [L_extract, L_S, ← hv]
   rw [List.take_of_length_le (by rw [List.length_drop, L_len]; exact Nat.le_refl _)]
 have hvl : v.length = s.size - (D + 1 + 1 + 1) := by rw [← hv, List.length_drop, L_len]
 have HV := h_ hv
 have HR := h_ hR
 clear hv hR
 have zv : (S v).size = v.length := S_size v
 have HVV := h_ hvv
 have HV0 := h_ hv0
 have hvl1 : 1 ≤ v.length := by cases v with | nil => exact absurd rfl hv0 | cons _ _ => simp
 clear hvv hv0
 go_enter Tryz.func61, Tryz.ntmps61
 go_wp2_with (go_at_call 74; refine (u_ N _).mono ?_; rintro e w' ⟨rfl, rfl⟩)
 go_loop [7, 8] (fun i n => ∃ k : Nat, k ≤ D ∧ i = .int .i64 k ∧ ∃ m : Nat, m ≤ 1099511627776 ∧ m = Nb.lidD ((L s).take k) ∧ n = .int .i64 m) (fun i _ => D - (intOf i).toNat)
 case atStart => exact ⟨0, by omega, rfl, 0, by omega, rfl, rfl⟩
 case round =>
   obtain ⟨k, hk, rfl, m, hm, hml, rfl⟩ := hrel
   have HM := h_ hml
   clear hml
   by_cases hks : k < D
   · have hdk : Nb.digB (s[k]'(by omega)) = true := by
       refine List.all_eq_true.1 (u_ HD) _ ?_
       rw [List.mem_take_iff_getElem]
       exact ⟨k, by rw [L_len]; omega, rfl⟩
     have hks' : k < s.size := by omega
     have DG := h_ (fun v => fl (sDigit (s[k]'hks') v))
     rw [hdk] at DG
     obtain ⟨e1, e2, e3⟩ := dig_num hdk
     clear hdk h39
     go_wp2_with (go_at_call 75; refine (u_ DG _).mono ?_; rintro e w' ⟨rfl, rfl⟩)
     refine ⟨⟨k + 1, by omega, by go_num, min (m * 10 + (s[k].toNat - 48)) 1099511627776, by omega, ?_, ?_⟩, by simp [intOf]; omega⟩
     · rw [L_take s k hks', Nb.lidD_snoc, ← u_ HM]
     · congr 1; split <;> omega
   · obtain rfl : D = k := by omega
     have hm2 : m = min n 1099511627776 := by rw [u_ HM, Nb.lidD_is, u_ HN]
     have hq : ((D : Int) == (s.size : Int)) = false := by rw [beq_eq_false_iff_ne]; omega
     obtain rfl : n = m := by omega
     have hw1 : ¬ (n : Int) < 1 := by omega
     have hw2 : ¬ (64 : Int) < n := by omega
     clear hm2 HM
     go_wp2_with (first | (go_at_call 75; refine (u_ DG39 _).mono ?_; rintro e w' ⟨rfl, rfl⟩))
     have hv1000 : v.length ≤ 1000 := by omega
     first | rw [hx] | skip
     clear hx hvl
     go_loopw [17, 18] (fun al i W => ∃ k : Nat, k ≤ v.length ∧ i = .int .i64 k ∧ ∃ x : List UInt8, x.length = 3 * k ∧ Nb.digsA 3 [] (v.take k) = some x ∧ al = .string (S x) ∧ Below w.heap.size w W) (fun _ i _ => v.length - (intOf i).toNat)
     case atStart => exact ⟨0, by omega, rfl, [], rfl, rfl, rfl, brf _⟩
     case round =>
       obtain ⟨k, hk, rfl, x, hxl, hx, rfl, hB⟩ := hrel
       have HX := h_ hx
       have HB := h_ hB
       clear hx hB
       by_cases hkv : k < v.length
       · have hkz : k < (S v).size := by rw [zv]; exact hkv
         have hcv : Nb.valB ((S v)[k]'hkz) = true := List.all_eq_true.1 (u_ HVV) _ (mem_S hkz)
         have DT := h_ (fun u => sDigits ((S v)[k]'hkz) 3 u hcv (by omega))
         have htk : v.take (k + 1) = v.take k ++ [(S v)[k]'hkz] := by
           have := L_take (S v) k hkz
           rwa [L_S] at this
         have hsn := Nb.digsA_snoc 3 (v.take k) [] ((S v)[k]'hkz) (u_ HX)
         rw [← htk] at hsn
         cases hdt : Nb.digT 3 ((S v)[k]'hkz) with
         | none =>
           rw [hdt] at DT hsn
           have HR2 : Hid (([], false, 3) = R) := h_ (by
             rw [← u_ HR]; unfold Nb.based
             have hn : Nb.digsA 3 [] v = none := by
               have := Nb.digsA_bad 3 (v.take (k + 1)) [] (v.drop (k + 1)) hsn
               rwa [List.take_append_drop] at this
             rw [if_neg (by decide), show Nb.baseN 111 = 3 from rfl, hn])
           clear hcv htk hsn hdt
           unfold digV at DT
           go_wp2_with (go_at_call 80; refine (u_ DT _).mono ?_; rintro e v2 ⟨rfl, hb2⟩)
           exact bodyPost_ret (v := nbV ([], false, 3)) (by simp [results, Tryz.results61, go_sem, nbV, S]) rfl ⟨by rw [u_ HR2], below_nst (u_ HB) hb2⟩
         | some y =>
           rw [hdt] at DT hsn
           have hyl := Nb.digT_len hdt
           have HS := h_ hsn
           have zx : (S x).size = 3 * k := by rw [S_size, hxl]
           have zy : (S y).size = 3 := by rw [S_size, hyl]
           have exy : S x ++ S y = S (x ++ y) := S_app' x y
           clear hcv htk hsn hdt
           unfold digV at DT
           go_wp2_with (go_at_call 80; refine (u_ DT _).mono ?_; rintro e v2 ⟨rfl, hb2⟩)
           exact ⟨⟨k + 1, by omega, by go_num, x ++ y, by rw [List.length_append, hxl, hyl]; omega, u_ HS, rfl, below_nst (u_ HB) hb2⟩, by simp [intOf]; omega⟩
       · have hke : v.take k = v := List.take_of_length_le (by omega)
         have hxa : Nb.digsA 3 [] v = some x := by have := u_ HX; rwa [hke] at this
         obtain rfl : k = v.length := by omega
         have hpad := Nb.pad_is (by omega) (u_ HV0) hxa
         have HXA := h_ hxa
         have HPAD := h_ hpad
         have hx1 : 1 ≤ x.length := by rw [hxl]; omega
         clear hke hxa hpad HX
         obtain ⟨p, hp⟩ : ∃ p, Nb.padC v = p := ⟨_, rfl⟩
         have hp49 : p ≠ 49 := by rw [← hp]; exact padC_ne v
         have HP0 : Hid ((if x.headD 0 = 49 then 48 else x.headD 0) = p) := h_ ((u_ HPAD).trans hp)
         have HPP := h_ hp
         clear hp HPAD
         go_wp2_with fail
         go_loopw [17] (fun al W => ∃ j : Nat, j ≤ n - x.length ∧ al = .string (S (List.replicate j p ++ x)) ∧ Below w.heap.size w W) (fun al _ => n - strLen al)
         case atStart => exact ⟨0, by omega, rfl, u_ HB⟩
         case round =>
           clear HB
           obtain ⟨j, hj, rfl, hB⟩ := hrel
           have HB := h_ hB
           clear hB
           have zy : (S (List.replicate j p ++ x)).size = j + x.length := by rw [S_size, List.length_append, List.length_replicate]
           by_cases hjn : j + x.length < n
           · have hy0 : 0 < (S (List.replicate j p ++ x)).size := by omega
             have hhd : (if (S (List.replicate j p ++ x))[0]'hy0 = 49 then (48 : UInt8) else (S (List.replicate j p ++ x))[0]'hy0) = p := by
               rw [head_S hy0]
               cases j with
               | zero => exact u_ HP0
               | succ j => rw [show (List.replicate (j + 1) p ++ x).headD 0 = p from rfl, if_neg hp49]
             have est : S [p] ++ S (List.replicate j p ++ x) = S (List.replicate (j + 1) p ++ x) := by rw [S_app']; rfl
             have z1 : (S [p]).size = 1 := rfl
             have hsl : strLen (.string (S (List.replicate (j + 1) p ++ x))) = j + 1 + x.length := by
               show (S _).size = _; rw [S_size, List.length_append, List.length_replicate]
             have hsl0 : strLen (.string (S (List.replicate j p ++ x))) = j + x.length := zy
             by_cases h49 : (S (List.replicate j p ++ x))[0]'hy0 = 49
             · rw [if_pos h49] at hhd
               have hcv := fun W => one_string (48 : Int) p (by rw [← hhd]; rfl) W
               have HSL := h_ hsl
               have HSL0 := h_ hsl0
               clear hhd hsl hsl0
               generalize S (List.replicate j p ++ x) = Y at *
               generalize hY1 : S (List.replicate (j + 1) p ++ x) = Y1 at *
               go_wp2
               exact ⟨⟨j + 1, by omega, by rw [← hY1], bal (u_ HB) _⟩, by rw [u_ HSL, u_ HSL0]; omega⟩
             · rw [if_neg h49] at hhd
               have hcv := fun W => one_string ((((S (List.replicate j p ++ x))[0]'hy0).toNat : Int)) p (by rw [hhd]) W
               have q49 : ((((S (List.replicate j p ++ x))[0]'hy0).toNat : Int) == 49) = false := u8x h49
               have HSL := h_ hsl
               have HSL0 := h_ hsl0
               clear hhd hsl hsl0 h49
               generalize S (List.replicate j p ++ x) = Y at *
               generalize hY1 : S (List.replicate (j + 1) p ++ x) = Y1 at *
               go_wp2
               exact ⟨⟨j + 1, by omega, by rw [← hY1], bal (u_ HB) _⟩, by rw [u_ HSL, u_ HSL0]; omega⟩
           · by_cases hlong : n < x.length
             · obtain rfl : j = 0 := by omega
               rw [List.replicate_zero, List.nil_append] at zy ⊢
               obtain ⟨m, hxm⟩ : ∃ m, x.length = m + n := ⟨x.length - n, by omega⟩
               rw [hxm] at zy
               have hm4 : m ≤ 4000 := by omega
               have xc : (S x).extract 0 m = S (x.take m) := by
                 apply L_inj; rw [L_extract, L_S, L_S, List.drop_zero, Nat.sub_zero]
               have xd : (S x).extract m (m + n) = S (x.drop m) := by
                 apply L_inj; rw [L_extract, L_S, L_S, List.take_of_length_le (by rw [List.length_drop]; omega)]
               have zc : (S (x.take m)).size = m := by rw [S_size, List.length_take]; omega
               have F : Hid (∀ u, CB 77 #[.int .u8 48, .int .i64 m] u (.string (S (List.replicate m 48)))) := fun u => sFill 48 m u (by omega)
               have hfit : Nb.fitT n (Nb.padC v) x = if (x.take m).all (fun c => c == 48) = true then some (x.drop m) else none := by
                 unfold Nb.fitT; rw [if_pos hlong, hxm, Nat.add_sub_cancel]
               have hall : (x.take m).all (fun c => c == 48) = ((S (x.take m)).toList == (S (List.replicate m 48)).toList) := by
                 rw [ByteArray.toList_eq, ByteArray.toList_eq]
                 show _ = (x.take m == List.replicate m 48)
                 rw [Bool.eq_iff_iff, beq_iff_eq, List.all_eq_true, List.eq_replicate_iff, List.length_take]
                 constructor
                 · intro h; exact ⟨by omega, fun c hc => by simpa using h c hc⟩
                 · intro h c hc; simpa using h.2 c hc
               by_cases hz : (x.take m).all (fun c => c == 48) = true
               · have HR2 : Hid ((x.drop m, true, 0) = R) := h_ ((based_some (b := 111) (by decide) (u_ HXA) (by rw [hfit, if_pos hz])).symm.trans (u_ HR))
                 have hne : ((S (x.take m)).toList == (S (List.replicate m 48)).toList) = true := by rw [← hall, hz]
                 clear hfit hz hxl hlong hall
                 go_wp2_with (go_at_call 77; refine (u_ F _).mono ?_; rintro e v2 ⟨rfl, hb2⟩)
                 exact bodyPost_ret (v := nbV (x.drop m, true, 0)) (by simp [results, Tryz.results61, go_sem, nbV]) rfl ⟨by rw [u_ HR2], below_nst (u_ HB) hb2⟩
               · have hz' : (x.take m).all (fun c => c == 48) = false := by simpa using hz
                 have HR2 : Hid (([], false, 11) = R) := h_ ((based_none (b := 111) (by decide) (u_ HXA) (by rw [hfit, if_neg hz])).symm.trans (u_ HR))
                 have hne : ((S (x.take m)).toList == (S (List.replicate m 48)).toList) = false := by rw [← hall, hz']
                 clear hfit hz hxl hlong hall hz'
                 go_wp2_with (go_at_call 77; refine (u_ F _).mono ?_; rintro e v2 ⟨rfl, hb2⟩)
                 exact bodyPost_ret (v := nbV ([], false, 11)) (by simp [results, Tryz.results61, go_sem, nbV, S]) rfl ⟨by rw [u_ HR2], below_nst (u_ HB) hb2⟩
             · have hjx : j + x.length = n := by omega
               have HR2 : Hid ((List.replicate j p ++ x, true, 0) = R) := h_ ((based_some (b := 111) (by decide) (u_ HXA) (by
                 unfold Nb.fitT; rw [if_neg hlong, u_ HPP, show n - x.length = j by omega])).symm.trans (u_ HR))
               have F : Hid (∀ u, CB 77 #[.int .u8 48, .int .i64 0] u (.string (S []))) := fun u => sFill 48 0 u (by omega)
               have zz : (S (List.replicate j p ++ x)).size = n := by rw [zy]; exact hjx
               have xz : (S (List.replicate j p ++ x)).extract 0 0 = S [] := by
                 apply L_inj; rw [L_extract, L_S]; rfl
               have xn : (S (List.replicate j p ++ x)).extract 0 n = S (List.replicate j p ++ x) := by
                 apply L_inj; rw [L_extract, L_S, List.drop_zero, List.take_of_length_le (by rw [List.length_append, List.length_replicate]; omega)]
               have he0 : (S []).toList.isEmpty = true := by rw [ByteArray.toList_eq]; rfl
               clear zy hjx hlong hjn hj hxl
               generalize hY : List.replicate j p ++ x = Y at *
               clear hY
               go_wp2_with (go_at_call 77; refine (u_ F _).mono ?_; rintro e v2 ⟨rfl, hb2⟩)
               exact bodyPost_ret (v := nbV (Y, true, 0)) (by simp [results, Tryz.results61, go_sem, nbV]) rfl ⟨by rw [u_ HR2], below_nst (u_ HB) hb2⟩
set_option maxRecDepth 100000 in
theorem sNB_h1 (s : ByteArray) (D n : Nat) (w : World) (h : s.size ≤ 1000) (hok : (Nb.numE (L s) 0).2 = true) (he : (Nb.numE (L s) 0).1 = s.size) (h0 : D + 1 < s.size) (hd : ((L s).take D).all Nb.digB = true) (h39 : s[D]'(Nat.lt_of_succ_lt h0) = 39) (hn : Nb.valD ((L s).take D) = n) (hw : 1 ≤ n) (hw2 : n ≤ 64) (h115 : s[D + 1] = 115) (h02 : D + 1 + 1 < s.size) (hb0 : s[D + 1 + 1] = 104) (v : List UInt8) (hv : (L s).drop (D + 1 + 1 + 1) = v) (hvv : v.all Nb.valB = true) (hv0 : v ≠ []) (R : List UInt8 × Bool × Nat) (hR : Nb.based n true 104 v = R) :
   CB 61 #[.string s] w (nbV R) := by
 have N := h_ (fun v => fl (sNumber s 0 v (by omega) (by omega)))
 rw [hok, he] at N
 have HD := h_ hd
 have HN := h_ hn
 have DG39 : Hid (∀ v, Calls Tryz.prog 75 #[.int .u8 39] v fun e w' => e = .returned (.bool false) ∧ v = w') := fun v => fl (sDigit 39 v)
 clear hok he hd hn
 have hx : s.extract (D + 1 + 1 + 1) s.size = S v := by
   apply L_inj; rw [L_extract, L_S, ← hv]
   rw [List.take_of_length_le (by rw [List.length_drop, L_len]; exact Nat.le_refl _)]
 have hvl : v.length = s.size - (D + 1 + 1 + 1) := by rw [← hv, List.length_drop, L_len]
 have HV := h_ hv
 have HR := h_ hR
 clear hv hR
 have zv : (S v).size = v.length := S_size v
 have HVV := h_ hvv
 have HV0 := h_ hv0
 have hvl1 : 1 ≤ v.length := by cases v with | nil => exact absurd rfl hv0 | cons _ _ => simp
 clear hvv hv0
 go_enter Tryz.func61, Tryz.ntmps61
 go_wp2_with (go_at_call 74; refine (u_ N _).mono ?_; rintro e w' ⟨rfl, rfl⟩)
 go_loop [7, 8] (fun i n => ∃ k : Nat, k ≤ D ∧ i = .int .i64 k ∧ ∃ m : Nat, m ≤ 1099511627776 ∧ m = Nb.lidD ((L s).take k) ∧ n = .int .i64 m) (fun i _ => D - (intOf i).toNat)
 case atStart => exact ⟨0, by omega, rfl, 0, by omega, rfl, rfl⟩
 case round =>
   obtain ⟨k, hk, rfl, m, hm, hml, rfl⟩ := hrel
   have HM := h_ hml
   clear hml
   by_cases hks : k < D
   · have hdk : Nb.digB (s[k]'(by omega)) = true := by
       refine List.all_eq_true.1 (u_ HD) _ ?_
       rw [List.mem_take_iff_getElem]
       exact ⟨k, by rw [L_len]; omega, rfl⟩
     have hks' : k < s.size := by omega
     have DG := h_ (fun v => fl (sDigit (s[k]'hks') v))
     rw [hdk] at DG
     obtain ⟨e1, e2, e3⟩ := dig_num hdk
     clear hdk h39
     go_wp2_with (go_at_call 75; refine (u_ DG _).mono ?_; rintro e w' ⟨rfl, rfl⟩)
     refine ⟨⟨k + 1, by omega, by go_num, min (m * 10 + (s[k].toNat - 48)) 1099511627776, by omega, ?_, ?_⟩, by simp [intOf]; omega⟩
     · rw [L_take s k hks', Nb.lidD_snoc, ← u_ HM]
     · congr 1; split <;> omega
   · obtain rfl : D = k := by omega
     have hm2 : m = min n 1099511627776 := by rw [u_ HM, Nb.lidD_is, u_ HN]
     have hq : ((D : Int) == (s.size : Int)) = false := by rw [beq_eq_false_iff_ne]; omega
     obtain rfl : n = m := by omega
     have hw1 : ¬ (n : Int) < 1 := by omega
     have hw2 : ¬ (64 : Int) < n := by omega
     clear hm2 HM
     go_wp2_with (first | (go_at_call 75; refine (u_ DG39 _).mono ?_; rintro e w' ⟨rfl, rfl⟩))
     have hv1000 : v.length ≤ 1000 := by omega
     first | rw [hx] | skip
     clear hx hvl
     go_loopw [17, 18] (fun al i W => ∃ k : Nat, k ≤ v.length ∧ i = .int .i64 k ∧ ∃ x : List UInt8, x.length = 4 * k ∧ Nb.digsA 4 [] (v.take k) = some x ∧ al = .string (S x) ∧ Below w.heap.size w W) (fun _ i _ => v.length - (intOf i).toNat)
     case atStart => exact ⟨0, by omega, rfl, [], rfl, rfl, rfl, brf _⟩
     case round =>
       obtain ⟨k, hk, rfl, x, hxl, hx, rfl, hB⟩ := hrel
       have HX := h_ hx
       have HB := h_ hB
       clear hx hB
       by_cases hkv : k < v.length
       · have hkz : k < (S v).size := by rw [zv]; exact hkv
         have hcv : Nb.valB ((S v)[k]'hkz) = true := List.all_eq_true.1 (u_ HVV) _ (mem_S hkz)
         have DT := h_ (fun u => sDigits ((S v)[k]'hkz) 4 u hcv (by omega))
         have htk : v.take (k + 1) = v.take k ++ [(S v)[k]'hkz] := by
           have := L_take (S v) k hkz
           rwa [L_S] at this
         have hsn := Nb.digsA_snoc 4 (v.take k) [] ((S v)[k]'hkz) (u_ HX)
         rw [← htk] at hsn
         cases hdt : Nb.digT 4 ((S v)[k]'hkz) with
         | none =>
           rw [hdt] at DT hsn
           have HR2 : Hid (([], false, 3) = R) := h_ (by
             rw [← u_ HR]; unfold Nb.based
             have hn : Nb.digsA 4 [] v = none := by
               have := Nb.digsA_bad 4 (v.take (k + 1)) [] (v.drop (k + 1)) hsn
               rwa [List.take_append_drop] at this
             rw [if_neg (by decide), show Nb.baseN 104 = 4 from rfl, hn])
           clear hcv htk hsn hdt
           unfold digV at DT
           go_wp2_with (go_at_call 80; refine (u_ DT _).mono ?_; rintro e v2 ⟨rfl, hb2⟩)
           exact bodyPost_ret (v := nbV ([], false, 3)) (by simp [results, Tryz.results61, go_sem, nbV, S]) rfl ⟨by rw [u_ HR2], below_nst (u_ HB) hb2⟩
         | some y =>
           rw [hdt] at DT hsn
           have hyl := Nb.digT_len hdt
           have HS := h_ hsn
           have zx : (S x).size = 4 * k := by rw [S_size, hxl]
           have zy : (S y).size = 4 := by rw [S_size, hyl]
           have exy : S x ++ S y = S (x ++ y) := S_app' x y
           clear hcv htk hsn hdt
           unfold digV at DT
           go_wp2_with (go_at_call 80; refine (u_ DT _).mono ?_; rintro e v2 ⟨rfl, hb2⟩)
           exact ⟨⟨k + 1, by omega, by go_num, x ++ y, by rw [List.length_append, hxl, hyl]; omega, u_ HS, rfl, below_nst (u_ HB) hb2⟩, by simp [intOf]; omega⟩
       · have hke : v.take k = v := List.take_of_length_le (by omega)
         have hxa : Nb.digsA 4 [] v = some x := by have := u_ HX; rwa [hke] at this
         obtain rfl : k = v.length := by omega
         have hpad := Nb.pad_is (by omega) (u_ HV0) hxa
         have HXA := h_ hxa
         have HPAD := h_ hpad
         have hx1 : 1 ≤ x.length := by rw [hxl]; omega
         clear hke hxa hpad HX
         obtain ⟨p, hp⟩ : ∃ p, Nb.padC v = p := ⟨_, rfl⟩
         have hp49 : p ≠ 49 := by rw [← hp]; exact padC_ne v
         have HP0 : Hid ((if x.headD 0 = 49 then 48 else x.headD 0) = p) := h_ ((u_ HPAD).trans hp)
         have HPP := h_ hp
         clear hp HPAD
         go_wp2_with fail
         go_loopw [17] (fun al W => ∃ j : Nat, j ≤ n - x.length ∧ al = .string (S (List.replicate j p ++ x)) ∧ Below w.heap.size w W) (fun al _ => n - strLen al)
         case atStart => exact ⟨0, by omega, rfl, u_ HB⟩
         case round =>
           clear HB
           obtain ⟨j, hj, rfl, hB⟩ := hrel
           have HB := h_ hB
           clear hB
           have zy : (S (List.replicate j p ++ x)).size = j + x.length := by rw [S_size, List.length_append, List.length_replicate]
           by_cases hjn : j + x.length < n
           · have hy0 : 0 < (S (List.replicate j p ++ x)).size := by omega
             have hhd : (if (S (List.replicate j p ++ x))[0]'hy0 = 49 then (48 : UInt8) else (S (List.replicate j p ++ x))[0]'hy0) = p := by
               rw [head_S hy0]
               cases j with
               | zero => exact u_ HP0
               | succ j => rw [show (List.replicate (j + 1) p ++ x).headD 0 = p from rfl, if_neg hp49]
             have est : S [p] ++ S (List.replicate j p ++ x) = S (List.replicate (j + 1) p ++ x) := by rw [S_app']; rfl
             have z1 : (S [p]).size = 1 := rfl
             have hsl : strLen (.string (S (List.replicate (j + 1) p ++ x))) = j + 1 + x.length := by
               show (S _).size = _; rw [S_size, List.length_append, List.length_replicate]
             have hsl0 : strLen (.string (S (List.replicate j p ++ x))) = j + x.length := zy
             by_cases h49 : (S (List.replicate j p ++ x))[0]'hy0 = 49
             · rw [if_pos h49] at hhd
               have hcv := fun W => one_string (48 : Int) p (by rw [← hhd]; rfl) W
               have HSL := h_ hsl
               have HSL0 := h_ hsl0
               clear hhd hsl hsl0
               generalize S (List.replicate j p ++ x) = Y at *
               generalize hY1 : S (List.replicate (j + 1) p ++ x) = Y1 at *
               go_wp2
               exact ⟨⟨j + 1, by omega, by rw [← hY1], bal (u_ HB) _⟩, by rw [u_ HSL, u_ HSL0]; omega⟩
             · rw [if_neg h49] at hhd
               have hcv := fun W => one_string ((((S (List.replicate j p ++ x))[0]'hy0).toNat : Int)) p (by rw [hhd]) W
               have q49 : ((((S (List.replicate j p ++ x))[0]'hy0).toNat : Int) == 49) = false := u8x h49
               have HSL := h_ hsl
               have HSL0 := h_ hsl0
               clear hhd hsl hsl0 h49
               generalize S (List.replicate j p ++ x) = Y at *
               generalize hY1 : S (List.replicate (j + 1) p ++ x) = Y1 at *
               go_wp2
               exact ⟨⟨j + 1, by omega, by rw [← hY1], bal (u_ HB) _⟩, by rw [u_ HSL, u_ HSL0]; omega⟩
           · by_cases hlong : n < x.length
             · obtain rfl : j = 0 := by omega
               rw [List.replicate_zero, List.nil_append] at zy ⊢
               obtain ⟨m, hxm⟩ : ∃ m, x.length = m + n := ⟨x.length - n, by omega⟩
               rw [hxm] at zy
               have hm4 : m ≤ 4000 := by omega
               have xc : (S x).extract 0 m = S (x.take m) := by
                 apply L_inj; rw [L_extract, L_S, L_S, List.drop_zero, Nat.sub_zero]
               have xd : (S x).extract m (m + n) = S (x.drop m) := by
                 apply L_inj; rw [L_extract, L_S, L_S, List.take_of_length_le (by rw [List.length_drop]; omega)]
               have zc : (S (x.take m)).size = m := by rw [S_size, List.length_take]; omega
               have F : Hid (∀ u, CB 77 #[.int .u8 48, .int .i64 m] u (.string (S (List.replicate m 48)))) := fun u => sFill 48 m u (by omega)
               have hfit : Nb.fitT n (Nb.padC v) x = if (x.take m).all (fun c => c == 48) = true then some (x.drop m) else none := by
                 unfold Nb.fitT; rw [if_pos hlong, hxm, Nat.add_sub_cancel]
               have hall : (x.take m).all (fun c => c == 48) = ((S (x.take m)).toList == (S (List.replicate m 48)).toList) := by
                 rw [ByteArray.toList_eq, ByteArray.toList_eq]
                 show _ = (x.take m == List.replicate m 48)
                 rw [Bool.eq_iff_iff, beq_iff_eq, List.all_eq_true, List.eq_replicate_iff, List.length_take]
                 constructor
                 · intro h; exact ⟨by omega, fun c hc => by simpa using h c hc⟩
                 · intro h c hc; simpa using h.2 c hc
               by_cases hz : (x.take m).all (fun c => c == 48) = true
               · have HR2 : Hid ((x.drop m, true, 0) = R) := h_ ((based_some (b := 104) (by decide) (u_ HXA) (by rw [hfit, if_pos hz])).symm.trans (u_ HR))
                 have hne : ((S (x.take m)).toList == (S (List.replicate m 48)).toList) = true := by rw [← hall, hz]
                 clear hfit hz hxl hlong hall
                 go_wp2_with (go_at_call 77; refine (u_ F _).mono ?_; rintro e v2 ⟨rfl, hb2⟩)
                 exact bodyPost_ret (v := nbV (x.drop m, true, 0)) (by simp [results, Tryz.results61, go_sem, nbV]) rfl ⟨by rw [u_ HR2], below_nst (u_ HB) hb2⟩
               · have hz' : (x.take m).all (fun c => c == 48) = false := by simpa using hz
                 have HR2 : Hid (([], false, 11) = R) := h_ ((based_none (b := 104) (by decide) (u_ HXA) (by rw [hfit, if_neg hz])).symm.trans (u_ HR))
                 have hne : ((S (x.take m)).toList == (S (List.replicate m 48)).toList) = false := by rw [← hall, hz']
                 clear hfit hz hxl hlong hall hz'
                 go_wp2_with (go_at_call 77; refine (u_ F _).mono ?_; rintro e v2 ⟨rfl, hb2⟩)
                 exact bodyPost_ret (v := nbV ([], false, 11)) (by simp [results, Tryz.results61, go_sem, nbV, S]) rfl ⟨by rw [u_ HR2], below_nst (u_ HB) hb2⟩
             · have hjx : j + x.length = n := by omega
               have HR2 : Hid ((List.replicate j p ++ x, true, 0) = R) := h_ ((based_some (b := 104) (by decide) (u_ HXA) (by
                 unfold Nb.fitT; rw [if_neg hlong, u_ HPP, show n - x.length = j by omega])).symm.trans (u_ HR))
               have F : Hid (∀ u, CB 77 #[.int .u8 48, .int .i64 0] u (.string (S []))) := fun u => sFill 48 0 u (by omega)
               have zz : (S (List.replicate j p ++ x)).size = n := by rw [zy]; exact hjx
               have xz : (S (List.replicate j p ++ x)).extract 0 0 = S [] := by
                 apply L_inj; rw [L_extract, L_S]; rfl
               have xn : (S (List.replicate j p ++ x)).extract 0 n = S (List.replicate j p ++ x) := by
                 apply L_inj; rw [L_extract, L_S, List.drop_zero, List.take_of_length_le (by rw [List.length_append, List.length_replicate]; omega)]
               have he0 : (S []).toList.isEmpty = true := by rw [ByteArray.toList_eq]; rfl
               clear zy hjx hlong hjn hj hxl
               generalize hY : List.replicate j p ++ x = Y at *
               clear hY
               go_wp2_with (go_at_call 77; refine (u_ F _).mono ?_; rintro e v2 ⟨rfl, hb2⟩)
               exact bodyPost_ret (v := nbV (Y, true, 0)) (by simp [results, Tryz.results61, go_sem, nbV]) rfl ⟨by rw [u_ HR2], below_nst (u_ HB) hb2⟩
theorem sNB (s : ByteArray) (w : World) (hs : s.size ≤ maxLen) :
   CB 61 #[.string s] w (nbV (Nb.nbL (L s))) := by
 have up : ∀ {x : Value}, (Calls Tryz.prog 61 #[.string s] w fun e w' => e = .returned x ∧ w' = w) → CB 61 #[.string s] w x := fun h => h.mono fun e w' ⟨a, b⟩ => ⟨a, by rw [b]; exact brf _⟩
 have hl : (L s).length = s.size := L_len s
 unfold Nb.nbL
 by_cases c0 : 1000 < (L s).length
 · rw [if_pos c0]; exact up (sNB_long s w hs (by omega))
 rw [if_neg c0]
 by_cases c1 : (Nb.numE (L s) 0).2 = true ∧ (Nb.numE (L s) 0).1 = (L s).length
 · rw [if_neg (fun h => h c1)]
   obtain ⟨h1, h2⟩ := c1
   have h2' : (Nb.numE (L s) 0).1 = s.size := by rw [h2, hl]
   cases c2 : (L s).all Nb.digB
   · rw [if_neg (by decide)]
     obtain ⟨p1, p2, p3, p4, p5⟩ := Nb.num_parts h1 h2 c2
     generalize Nb.runE Nb.digB (L s) 0 = D at *
     have h0 : D + 1 < s.size := by omega
     have h39 : s[D]'(Nat.lt_of_succ_lt h0) = 39 := by rw [gD]; exact p4
     unfold Nb.widthed
     by_cases cw : Nb.valD ((L s).take D) < 1 ∨ 64 < Nb.valD ((L s).take D)
     · rw [if_pos cw, if_pos cw]
       have e : ∀ (P : Prop) [Decidable P], (if P then (([], false, 7) : List UInt8 × Bool × Nat) else ([], false, 7)) = ([], false, 7) := fun P _ => by split <;> rfl
       rw [e]
       exact up (sNB_width s D _ w (by omega) h1 h2' h0 p3 h39 rfl cw)
     · rw [if_neg cw, if_neg cw]
       have w1 : 1 ≤ Nb.valD ((L s).take D) := by omega
       have w2 : Nb.valD ((L s).take D) ≤ 64 := by omega
       rcases p5 with ⟨a1, a2, a3, a4, a5⟩ | ⟨a1, a3, a4, a5⟩
       · rw [if_pos a1]
         have g1 : s[D + 1] = 115 := by rw [gD]; exact a1
         have a2' : D + 1 + 1 < s.size := by omega
         have g2 : (L s).getD (D + 2) 0 = s[D + 1 + 1]'a2' := (gD s _ a2').symm
         rcases Nb.base_cases a3 with e | e | e | e
         · rw [e]; exact sNB_b1 s D _ w (by omega) h1 h2' h0 p3 h39 rfl w1 w2 g1 a2' (g2.symm.trans e) _ rfl a5 a4 _ rfl
         · rw [e]; exact sNB_o1 s D _ w (by omega) h1 h2' h0 p3 h39 rfl w1 w2 g1 a2' (g2.symm.trans e) _ rfl a5 a4 _ rfl
         · rw [e]; exact sNB_h1 s D _ w (by omega) h1 h2' h0 p3 h39 rfl w1 w2 g1 a2' (g2.symm.trans e) _ rfl a5 a4 _ rfl
         · rw [e]; exact sNB_d1 s D _ w (by omega) h1 h2' h0 p3 h39 rfl w1 w2 g1 a2' (g2.symm.trans e) _ rfl a5 _ rfl
       · rw [if_neg a1]
         have g1 : (L s).getD (D + 1) 0 = s[D + 1] := (gD s _ h0).symm
         rcases Nb.base_cases a3 with e | e | e | e
         · rw [e]; exact sNB_b0 s D _ w (by omega) h1 h2' h0 p3 h39 rfl w1 w2 (g1.symm.trans e) _ rfl a5 a4 _ rfl
         · rw [e]; exact sNB_o0 s D _ w (by omega) h1 h2' h0 p3 h39 rfl w1 w2 (g1.symm.trans e) _ rfl a5 a4 _ rfl
         · rw [e]; exact sNB_h0 s D _ w (by omega) h1 h2' h0 p3 h39 rfl w1 w2 (g1.symm.trans e) _ rfl a5 a4 _ rfl
         · rw [e]; exact sNB_d0 s D _ w (by omega) h1 h2' h0 p3 h39 rfl w1 w2 (g1.symm.trans e) _ rfl a5 _ rfl
   · rw [if_pos rfl]
     have h0 : 1 ≤ s.size := by
       cases hz : s.size with
       | zero =>
         have : (L s) = [] := List.eq_nil_of_length_eq_zero (by omega)
         rw [this] at h1
         exact absurd h1 (by decide)
       | succ k => omega
     exact sNB_plain s w (by omega) h1 h2' c2 h0 _ rfl
 · rw [if_pos c1]; exact up (sNB_form s w (by omega) (by rw [← hl]; exact c1))
end Go.Proofs.YtddlokkejglckaaGreatDoor
namespace Go.Proofs.YtddlokkejglckaaGreatDoor
open Go.RowKit Nt
set_option linter.unusedVariables false
set_option maxRecDepth 100000
theorem ok_of {c : Nat} (h70 : c ≠ 70) (n : Nd) (k : Int) (hk : n.kind = k) {A B : Bool} (hs : hasB (setOf c) k = true) (h1 : txB k n.text = A) (h2 : (kdB k n.kids && fmL n.kids) = B) : okIs c n = (A && B) := by
 obtain ⟨k', t, ks⟩ := n
 have hk' : k' = k := hk
 subst hk'
 have h1' : txB k' t = A := h1
 have h2' : (kdB k' ks && fmL ks) = B := h2
 rw [okIs_of h70]
 show (hasB (setOf c) k' && fm (.mk k' t ks)) = _
 rw [fm_mk, hs, Bool.true_and, h1', Bool.and_assoc, h2']
theorem ok_no {c : Nat} (n : Nd) (h : hasB (setOf c) n.kind = false) : okIs c n = false := by unfold okIs; rw [h]; rfl
theorem emp_fm (ks : List Nd) : (ks.isEmpty && fmL ks) = ks.isEmpty := by
 cases ks with
 | nil => rw [fmL]; rfl
 | cons x xs => rfl
theorem or_kids (ks : List Nd) (a b : List Nat) (ha : ∀ c ∈ a, c ≠ 70) (hb : ∀ c ∈ b, c ≠ 70) : ((fitK ks (a.map setOf) || fitK ks (b.map setOf)) && fmL ks) = (kidsB ks a || kidsB ks b) := by
 rw [kidsB_of _ _ ha, kidsB_of _ _ hb]
 cases fitK ks (a.map setOf) <;> cases fitK ks (b.map setOf) <;> cases fmL ks <;> rfl
theorem one_all (ks : List Nd) (c : Nat) (h : c ≠ 70) : ((decide (1 ≤ ks.length) && allK (setOf c) ks) && fmL ks) = (decide (1 ≤ ks.length) && ks.all (okIs c)) := by rw [allB_of h, Bool.and_assoc]
theorem okF (x : Nd) : okIs 70 x = ((hasB (2 ^ 5) x.kind && fm x) && allK (2 ^ 6) x.kids) := rfl
theorem tfe (ks : List Nd) : ((fitK ks [2 ^ 8, 2 ^ 5, expK] && allK (2 ^ 6) ((ks.drop 1).headD (.mk 0 ⟨#[]⟩ [])).kids) && fmL ks) = kidsB ks [116, 70, 101] := by
 match ks with
 | [] => rfl
 | [x] => simp [fitK, kidsB]
 | [x, y] => simp [fitK, kidsB]
 | [x, y, z] =>
   show (((hasB (2 ^ 8) x.kind && (hasB (2 ^ 5) y.kind && (hasB expK z.kind && true))) && allK (2 ^ 6) y.kids) && fmL [x, y, z]) = (okIs 116 x && (okIs 70 y && (okIs 101 z && true)))
   rw [okF, okIs_of (by decide), okIs_of (by decide)]
   show _ = ((hasB (2 ^ 8) x.kind && fm x) && (((hasB (2 ^ 5) y.kind && fm y) && allK (2 ^ 6) y.kids) && ((hasB expK z.kind && fm z) && true)))
   simp only [fmL]
   generalize hasB (2 ^ 8) x.kind = a
   generalize hasB (2 ^ 5) y.kind = b
   generalize hasB expK z.kind = c
   generalize allK (2 ^ 6) y.kids = d
   generalize fm x = e
   generalize fm y = f
   generalize fm z = g
   revert a b c d e f g; decide
 | x :: y :: z :: u :: r => simp [fitK, kidsB]
end Go.Proofs.YtddlokkejglckaaGreatDoor
