/- What the specification's NumberBits answers of a number of base 2, 8 or 16. -/
import Derived.Test.YtddlokkejglckaaGreatDoorMNS3
namespace Go.Proofs.YtddlokkejglckaaGreatDoor
set_option maxHeartbeats 1000000
open Go.RowKit
set_option maxRecDepth 100000
set_option linter.unusedVariables false
def strLen : Value → Nat
 | .string s => s.size
 | _ => 0
theorem based_some {n : Nat} {sg : Bool} {b : UInt8} {v x r : List UInt8} (hb : b ≠ 100) (h : Nb.digsA (Nb.baseN b) [] v = some x) (hf : Nb.fitT n (Nb.padC v) x = some r) : Nb.based n sg b v = (r, sg, 0) := by
 unfold Nb.based; rw [if_neg hb, h]; simp only [hf]
theorem based_none {n : Nat} {sg : Bool} {b : UInt8} {v x : List UInt8} (hb : b ≠ 100) (h : Nb.digsA (Nb.baseN b) [] v = some x) (hf : Nb.fitT n (Nb.padC v) x = none) : Nb.based n sg b v = ([], false, 11) := by
 unfold Nb.based; rw [if_neg hb, h]; simp only [hf]
theorem padC_ne (v : List UInt8) : Nb.padC v ≠ 49 := by
 unfold Nb.padC
 split
 · rename_i h; rcases h with h | h <;> (rw [h]; decide)
 · decide
theorem head_S {l : List UInt8} (h : 0 < (S l).size) : (S l)[0] = l.headD 0 := by
 rw [L_get]
 cases l with
 | nil => simp [S_size] at h
 | cons c t => rfl
set_option maxRecDepth 100000 in
theorem sNB_b0 (s : ByteArray) (D n : Nat) (w : World) (h : s.size ≤ 1000) (hok : (Nb.numE (L s) 0).2 = true) (he : (Nb.numE (L s) 0).1 = s.size) (h0 : D + 1 < s.size) (hd : ((L s).take D).all Nb.digB = true) (h39 : s[D]'(Nat.lt_of_succ_lt h0) = 39) (hn : Nb.valD ((L s).take D) = n) (hw : 1 ≤ n) (hw2 : n ≤ 64) (h115 : s[D + 1] = 98) (v : List UInt8) (hv : (L s).drop (D + 1 + 1) = v) (hvv : v.all Nb.valB = true) (hv0 : v ≠ []) (R : List UInt8 × Bool × Nat) (hR : Nb.based n false 98 v = R) :
   CB 61 #[.string s] w (nbV R) := by
 have N := h_ (fun v => fl (sNumber s 0 v (by omega) (by omega)))
 rw [hok, he] at N
 have HD := h_ hd
 have HN := h_ hn
 have DG39 : Hid (∀ v, Calls Tryz.prog 75 #[.int .u8 39] v fun e w' => e = .returned (.bool false) ∧ v = w') := fun v => fl (sDigit 39 v)
 clear hok he hd hn
 have hx : s.extract (D + 1 + 1) s.size = S v := by
   apply L_inj; rw [L_extract, L_S, ← hv]
   rw [List.take_of_length_le (by rw [List.length_drop, L_len]; exact Nat.le_refl _)]
 have hvl : v.length = s.size - (D + 1 + 1) := by rw [← hv, List.length_drop, L_len]
 have HV := h_ hv
 have HR := h_ hR
 clear hv hR
 have zv : (S v).size = v.length := S_size v
 have HVV := h_ hvv
 have HV0 := h_ hv0
 have hvl1 : 1 ≤ v.length := by cases v with | nil => exact absurd rfl hv0 | cons _ _ => simp
 clear hvv hv0
 go_enter Tryz.func61, Tryz.ntmps61
 go_wp2_with (go_at_call 74; refine (u_ N _).mono ?_; rintro e w' ⟨rfl, rfl⟩)
 go_loop [7, 8] (fun i n => ∃ k : Nat, k ≤ D ∧ i = .int .i64 k ∧ ∃ m : Nat, m ≤ 1099511627776 ∧ m = Nb.lidD ((L s).take k) ∧ n = .int .i64 m) (fun i _ => D - (intOf i).toNat)
 case atStart => exact ⟨0, by omega, rfl, 0, by omega, rfl, rfl⟩
 case round =>
   obtain ⟨k, hk, rfl, m, hm, hml, rfl⟩ := hrel
   have HM := h_ hml
   clear hml
   by_cases hks : k < D
   · have hdk : Nb.digB (s[k]'(by omega)) = true := by
       refine List.all_eq_true.1 (u_ HD) _ ?_
       rw [List.mem_take_iff_getElem]
       exact ⟨k, by rw [L_len]; omega, rfl⟩
     have hks' : k < s.size := by omega
     have DG := h_ (fun v => fl (sDigit (s[k]'hks') v))
     rw [hdk] at DG
     obtain ⟨e1, e2, e3⟩ := dig_num hdk
     clear hdk h39
     go_wp2_with (go_at_call 75; refine (u_ DG _).mono ?_; rintro e w' ⟨rfl, rfl⟩)
     refine ⟨⟨k + 1, by omega, by go_num, min (m * 10 + (s[k].toNat - 48)) 1099511627776, by omega, ?_, ?_⟩, by simp [intOf]; omega⟩
     · rw [L_take s k hks', Nb.lidD_snoc, ← u_ HM]
     · congr 1; split <;> omega
   · obtain rfl : D = k := by omega
     have hm2 : m = min n 1099511627776 := by rw [u_ HM, Nb.lidD_is, u_ HN]
     have hq : ((D : Int) == (s.size : Int)) = false := by rw [beq_eq_false_iff_ne]; omega
     obtain rfl : n = m := by omega
     have hw1 : ¬ (n : Int) < 1 := by omega
     have hw2 : ¬ (64 : Int) < n := by omega
     clear hm2 HM
     go_wp2_with (first | (go_at_call 75; refine (u_ DG39 _).mono ?_; rintro e w' ⟨rfl, rfl⟩))
     have hv1000 : v.length ≤ 1000 := by omega
     first | rw [hx] | skip
     clear hx hvl
     go_loopw [17, 18] (fun al i W => ∃ k : Nat, k ≤ v.length ∧ i = .int .i64 k ∧ ∃ x : List UInt8, x.length = 1 * k ∧ Nb.digsA 1 [] (v.take k) = some x ∧ al = .string (S x) ∧ Below w.heap.size w W) (fun _ i _ => v.length - (intOf i).toNat)
     case atStart => exact ⟨0, by omega, rfl, [], rfl, rfl, rfl, brf _⟩
     case round =>
       obtain ⟨k, hk, rfl, x, hxl, hx, rfl, hB⟩ := hrel
       have HX := h_ hx
       have HB := h_ hB
       clear hx hB
       by_cases hkv : k < v.length
       · have hkz : k < (S v).size := by rw [zv]; exact hkv
         have hcv : Nb.valB ((S v)[k]'hkz) = true := List.all_eq_true.1 (u_ HVV) _ (mem_S hkz)
         have DT := h_ (fun u => sDigits ((S v)[k]'hkz) 1 u hcv (by omega))
         have htk : v.take (k + 1) = v.take k ++ [(S v)[k]'hkz] := by
           have := L_take (S v) k hkz
           rwa [L_S] at this
         have hsn := Nb.digsA_snoc 1 (v.take k) [] ((S v)[k]'hkz) (u_ HX)
         rw [← htk] at hsn
         cases hdt : Nb.digT 1 ((S v)[k]'hkz) with
         | none =>
           rw [hdt] at DT hsn
           have HR2 : Hid (([], false, 3) = R) := h_ (by
             rw [← u_ HR]; unfold Nb.based
             have hn : Nb.digsA 1 [] v = none := by
               have := Nb.digsA_bad 1 (v.take (k + 1)) [] (v.drop (k + 1)) hsn
               rwa [List.take_append_drop] at this
             rw [if_neg (by decide), show Nb.baseN 98 = 1 from rfl, hn])
           clear hcv htk hsn hdt
           unfold digV at DT
           go_wp2_with (go_at_call 80; refine (u_ DT _).mono ?_; rintro e v2 ⟨rfl, hb2⟩)
           exact bodyPost_ret (v := nbV ([], false, 3)) (by simp [results, Tryz.results61, go_sem, nbV, S]) rfl ⟨by rw [u_ HR2], below_nst (u_ HB) hb2⟩
         | some y =>
           rw [hdt] at DT hsn
           have hyl := Nb.digT_len hdt
           have HS := h_ hsn
           have zx : (S x).size = 1 * k := by rw [S_size, hxl]
           have zy : (S y).size = 1 := by rw [S_size, hyl]
           have exy : S x ++ S y = S (x ++ y) := S_app' x y
           clear hcv htk hsn hdt
           unfold digV at DT
           go_wp2_with (go_at_call 80; refine (u_ DT _).mono ?_; rintro e v2 ⟨rfl, hb2⟩)
           exact ⟨⟨k + 1, by omega, by go_num, x ++ y, by rw [List.length_append, hxl, hyl]; omega, u_ HS, rfl, below_nst (u_ HB) hb2⟩, by simp [intOf]; omega⟩
       · have hke : v.take k = v := List.take_of_length_le (by omega)
         have hxa : Nb.digsA 1 [] v = some x := by have := u_ HX; rwa [hke] at this
         obtain rfl : k = v.length := by omega
         have hpad := Nb.pad_is (by omega) (u_ HV0) hxa
         have HXA := h_ hxa
         have HPAD := h_ hpad
         have hx1 : 1 ≤ x.length := by rw [hxl]; omega
         clear hke hxa hpad HX
         obtain ⟨p, hp⟩ : ∃ p, Nb.padC v = p := ⟨_, rfl⟩
         have hp49 : p ≠ 49 := by rw [← hp]; exact padC_ne v
         have HP0 : Hid ((if x.headD 0 = 49 then 48 else x.headD 0) = p) := h_ ((u_ HPAD).trans hp)
         have HPP := h_ hp
         clear hp HPAD
         go_wp2_with fail
         go_loopw [17] (fun al W => ∃ j : Nat, j ≤ n - x.length ∧ al = .string (S (List.replicate j p ++ x)) ∧ Below w.heap.size w W) (fun al _ => n - strLen al)
         case atStart => exact ⟨0, by omega, rfl, u_ HB⟩
         case round =>
           clear HB
           obtain ⟨j, hj, rfl, hB⟩ := hrel
           have HB := h_ hB
           clear hB
           have zy : (S (List.replicate j p ++ x)).size = j + x.length := by rw [S_size, List.length_append, List.length_replicate]
           by_cases hjn : j + x.length < n
           · have hy0 : 0 < (S (List.replicate j p ++ x)).size := by omega
             have hhd : (if (S (List.replicate j p ++ x))[0]'hy0 = 49 then (48 : UInt8) else (S (List.replicate j p ++ x))[0]'hy0) = p := by
               rw [head_S hy0]
               cases j with
               | zero => exact u_ HP0
               | succ j => rw [show (List.replicate (j + 1) p ++ x).headD 0 = p from rfl, if_neg hp49]
             have est : S [p] ++ S (List.replicate j p ++ x) = S (List.replicate (j + 1) p ++ x) := by rw [S_app']; rfl
             have z1 : (S [p]).size = 1 := rfl
             have hsl : strLen (.string (S (List.replicate (j + 1) p ++ x))) = j + 1 + x.length := by
               show (S _).size = _; rw [S_size, List.length_append, List.length_replicate]
             have hsl0 : strLen (.string (S (List.replicate j p ++ x))) = j + x.length := zy
             by_cases h49 : (S (List.replicate j p ++ x))[0]'hy0 = 49
             · rw [if_pos h49] at hhd
               have hcv := fun W => one_string (48 : Int) p (by rw [← hhd]; rfl) W
               have HSL := h_ hsl
               have HSL0 := h_ hsl0
               clear hhd hsl hsl0
               generalize S (List.replicate j p ++ x) = Y at *
               generalize hY1 : S (List.replicate (j + 1) p ++ x) = Y1 at *
               go_wp2
               exact ⟨⟨j + 1, by omega, by rw [← hY1], bal (u_ HB) _⟩, by rw [u_ HSL, u_ HSL0]; omega⟩
             · rw [if_neg h49] at hhd
               have hcv := fun W => one_string ((((S (List.replicate j p ++ x))[0]'hy0).toNat : Int)) p (by rw [hhd]) W
               have q49 : ((((S (List.replicate j p ++ x))[0]'hy0).toNat : Int) == 49) = false := u8x h49
               have HSL := h_ hsl
               have HSL0 := h_ hsl0
               clear hhd hsl hsl0 h49
               generalize S (List.replicate j p ++ x) = Y at *
               generalize hY1 : S (List.replicate (j + 1) p ++ x) = Y1 at *
               go_wp2
               exact ⟨⟨j + 1, by omega, by rw [← hY1], bal (u_ HB) _⟩, by rw [u_ HSL, u_ HSL0]; omega⟩
           · by_cases hlong : n < x.length
             · obtain rfl : j = 0 := by omega
               rw [List.replicate_zero, List.nil_append] at zy ⊢
               obtain ⟨m, hxm⟩ : ∃ m, x.length = m + n := ⟨x.length - n, by omega⟩
               rw [hxm] at zy
               have hm4 : m ≤ 4000 := by omega
               have xc : (S x).extract 0 m = S (x.take m) := by
                 apply L_inj; rw [L_extract, L_S, L_S, List.drop_zero, Nat.sub_zero]
               have xd : (S x).extract m (m + n) = S (x.drop m) := by
                 apply L_inj; rw [L_extract, L_S, L_S, List.take_of_length_le (by rw [List.length_drop]; omega)]
               have zc : (S (x.take m)).size = m := by rw [S_size, List.length_take]; omega
               have F : Hid (∀ u, CB 77 #[.int .u8 48, .int .i64 m] u (.string (S (List.replicate m 48)))) := fun u => sFill 48 m u (by omega)
               have hfit : Nb.fitT n (Nb.padC v) x = if (x.take m).all (fun c => c == 48) = true then some (x.drop m) else none := by
                 unfold Nb.fitT; rw [if_pos hlong, hxm, Nat.add_sub_cancel]
               have hall : (x.take m).all (fun c => c == 48) = ((S (x.take m)).toList == (S (List.replicate m 48)).toList) := by
                 rw [ByteArray.toList_eq, ByteArray.toList_eq]
                 show _ = (x.take m == List.replicate m 48)
                 rw [Bool.eq_iff_iff, beq_iff_eq, List.all_eq_true, List.eq_replicate_iff, List.length_take]
                 constructor
                 · intro h; exact ⟨by omega, fun c hc => by simpa using h c hc⟩
                 · intro h c hc; simpa using h.2 c hc
               by_cases hz : (x.take m).all (fun c => c == 48) = true
               · have HR2 : Hid ((x.drop m, false, 0) = R) := h_ ((based_some (b := 98) (by decide) (u_ HXA) (by rw [hfit, if_pos hz])).symm.trans (u_ HR))
                 have hne : ((S (x.take m)).toList == (S (List.replicate m 48)).toList) = true := by rw [← hall, hz]
                 clear hfit hz hxl hlong hall
                 go_wp2_with (go_at_call 77; refine (u_ F _).mono ?_; rintro e v2 ⟨rfl, hb2⟩)
                 exact bodyPost_ret (v := nbV (x.drop m, false, 0)) (by simp [results, Tryz.results61, go_sem, nbV]) rfl ⟨by rw [u_ HR2], below_nst (u_ HB) hb2⟩
               · have hz' : (x.take m).all (fun c => c == 48) = false := by simpa using hz
                 have HR2 : Hid (([], false, 11) = R) := h_ ((based_none (b := 98) (by decide) (u_ HXA) (by rw [hfit, if_neg hz])).symm.trans (u_ HR))
                 have hne : ((S (x.take m)).toList == (S (List.replicate m 48)).toList) = false := by rw [← hall, hz']
                 clear hfit hz hxl hlong hall hz'
                 go_wp2_with (go_at_call 77; refine (u_ F _).mono ?_; rintro e v2 ⟨rfl, hb2⟩)
                 exact bodyPost_ret (v := nbV ([], false, 11)) (by simp [results, Tryz.results61, go_sem, nbV, S]) rfl ⟨by rw [u_ HR2], below_nst (u_ HB) hb2⟩
             · have hjx : j + x.length = n := by omega
               have HR2 : Hid ((List.replicate j p ++ x, false, 0) = R) := h_ ((based_some (b := 98) (by decide) (u_ HXA) (by
                 unfold Nb.fitT; rw [if_neg hlong, u_ HPP, show n - x.length = j by omega])).symm.trans (u_ HR))
               have F : Hid (∀ u, CB 77 #[.int .u8 48, .int .i64 0] u (.string (S []))) := fun u => sFill 48 0 u (by omega)
               have zz : (S (List.replicate j p ++ x)).size = n := by rw [zy]; exact hjx
               have xz : (S (List.replicate j p ++ x)).extract 0 0 = S [] := by
                 apply L_inj; rw [L_extract, L_S]; rfl
               have xn : (S (List.replicate j p ++ x)).extract 0 n = S (List.replicate j p ++ x) := by
                 apply L_inj; rw [L_extract, L_S, List.drop_zero, List.take_of_length_le (by rw [List.length_append, List.length_replicate]; omega)]
               have he0 : (S []).toList.isEmpty = true := by rw [ByteArray.toList_eq]; rfl
               clear zy hjx hlong hjn hj hxl
               generalize hY : List.replicate j p ++ x = Y at *
               clear hY
               go_wp2_with (go_at_call 77; refine (u_ F _).mono ?_; rintro e v2 ⟨rfl, hb2⟩)
               exact bodyPost_ret (v := nbV (Y, false, 0)) (by simp [results, Tryz.results61, go_sem, nbV]) rfl ⟨by rw [u_ HR2], below_nst (u_ HB) hb2⟩
set_option maxRecDepth 100000 in
theorem sNB_o0 (s : ByteArray) (D n : Nat) (w : World) (h : s.size ≤ 1000) (hok : (Nb.numE (L s) 0).2 = true) (he : (Nb.numE (L s) 0).1 = s.size) (h0 : D + 1 < s.size) (hd : ((L s).take D).all Nb.digB = true) (h39 : s[D]'(Nat.lt_of_succ_lt h0) = 39) (hn : Nb.valD ((L s).take D) = n) (hw : 1 ≤ n) (hw2 : n ≤ 64) (h115 : s[D + 1] = 111) (v : List UInt8) (hv : (L s).drop (D + 1 + 1) = v) (hvv : v.all Nb.valB = true) (hv0 : v ≠ []) (R : List UInt8 × Bool × Nat) (hR : Nb.based n false 111 v = R) :
   CB 61 #[.string s] w (nbV R) := by
 have N := h_ (fun v => fl (sNumber s 0 v (by omega) (by omega)))
 rw [hok, he] at N
 have HD := h_ hd
 have HN := h_ hn
 have DG39 : Hid (∀ v, Calls Tryz.prog 75 #[.int .u8 39] v fun e w' => e = .returned (.bool false) ∧ v = w') := fun v => fl (sDigit 39 v)
 clear hok he hd hn
 have hx : s.extract (D + 1 + 1) s.size = S v := by
   apply L_inj; rw [L_extract, L_S, ← hv]
   rw [List.take_of_length_le (by rw [List.length_drop, L_len]; exact Nat.le_refl _)]
 have hvl : v.length = s.size - (D + 1 + 1) := by rw [← hv, List.length_drop, L_len]
 have HV := h_ hv
 have HR := h_ hR
 clear hv hR
 have zv : (S v).size = v.length := S_size v
 have HVV := h_ hvv
 have HV0 := h_ hv0
 have hvl1 : 1 ≤ v.length := by cases v with | nil => exact absurd rfl hv0 | cons _ _ => simp
 clear hvv hv0
 go_enter Tryz.func61, Tryz.ntmps61
 go_wp2_with (go_at_call 74; refine (u_ N _).mono ?_; rintro e w' ⟨rfl, rfl⟩)
 go_loop [7, 8] (fun i n => ∃ k : Nat, k ≤ D ∧ i = .int .i64 k ∧ ∃ m : Nat, m ≤ 1099511627776 ∧ m = Nb.lidD ((L s).take k) ∧ n = .int .i64 m) (fun i _ => D - (intOf i).toNat)
 case atStart => exact ⟨0, by omega, rfl, 0, by omega, rfl, rfl⟩
 case round =>
   obtain ⟨k, hk, rfl, m, hm, hml, rfl⟩ := hrel
   have HM := h_ hml
   clear hml
   by_cases hks : k < D
   · have hdk : Nb.digB (s[k]'(by omega)) = true := by
       refine List.all_eq_true.1 (u_ HD) _ ?_
       rw [List.mem_take_iff_getElem]
       exact ⟨k, by rw [L_len]; omega, rfl⟩
     have hks' : k < s.size := by omega
     have DG := h_ (fun v => fl (sDigit (s[k]'hks') v))
     rw [hdk] at DG
     obtain ⟨e1, e2, e3⟩ := dig_num hdk
     clear hdk h39
     go_wp2_with (go_at_call 75; refine (u_ DG _).mono ?_; rintro e w' ⟨rfl, rfl⟩)
     refine ⟨⟨k + 1, by omega, by go_num, min (m * 10 + (s[k].toNat - 48)) 1099511627776, by omega, ?_, ?_⟩, by simp [intOf]; omega⟩
     · rw [L_take s k hks', Nb.lidD_snoc, ← u_ HM]
     · congr 1; split <;> omega
   · obtain rfl : D = k := by omega
     have hm2 : m = min n 1099511627776 := by rw [u_ HM, Nb.lidD_is, u_ HN]
     have hq : ((D : Int) == (s.size : Int)) = false := by rw [beq_eq_false_iff_ne]; omega
     obtain rfl : n = m := by omega
     have hw1 : ¬ (n : Int) < 1 := by omega
     have hw2 : ¬ (64 : Int) < n := by omega
     clear hm2 HM
     go_wp2_with (first | (go_at_call 75; refine (u_ DG39 _).mono ?_; rintro e w' ⟨rfl, rfl⟩))
     have hv1000 : v.length ≤ 1000 := by omega
     first | rw [hx] | skip
     clear hx hvl
     go_loopw [17, 18] (fun al i W => ∃ k : Nat, k ≤ v.length ∧ i = .int .i64 k ∧ ∃ x : List UInt8, x.length = 3 * k ∧ Nb.digsA 3 [] (v.take k) = some x ∧ al = .string (S x) ∧ Below w.heap.size w W) (fun _ i _ => v.length - (intOf i).toNat)
     case atStart => exact ⟨0, by omega, rfl, [], rfl, rfl, rfl, brf _⟩
     case round =>
       obtain ⟨k, hk, rfl, x, hxl, hx, rfl, hB⟩ := hrel
       have HX := h_ hx
       have HB := h_ hB
       clear hx hB
       by_cases hkv : k < v.length
       · have hkz : k < (S v).size := by rw [zv]; exact hkv
         have hcv : Nb.valB ((S v)[k]'hkz) = true := List.all_eq_true.1 (u_ HVV) _ (mem_S hkz)
         have DT := h_ (fun u => sDigits ((S v)[k]'hkz) 3 u hcv (by omega))
         have htk : v.take (k + 1) = v.take k ++ [(S v)[k]'hkz] := by
           have := L_take (S v) k hkz
           rwa [L_S] at this
         have hsn := Nb.digsA_snoc 3 (v.take k) [] ((S v)[k]'hkz) (u_ HX)
         rw [← htk] at hsn
         cases hdt : Nb.digT 3 ((S v)[k]'hkz) with
         | none =>
           rw [hdt] at DT hsn
           have HR2 : Hid (([], false, 3) = R) := h_ (by
             rw [← u_ HR]; unfold Nb.based
             have hn : Nb.digsA 3 [] v = none := by
               have := Nb.digsA_bad 3 (v.take (k + 1)) [] (v.drop (k + 1)) hsn
               rwa [List.take_append_drop] at this
             rw [if_neg (by decide), show Nb.baseN 111 = 3 from rfl, hn])
           clear hcv htk hsn hdt
           unfold digV at DT
           go_wp2_with (go_at_call 80; refine (u_ DT _).mono ?_; rintro e v2 ⟨rfl, hb2⟩)
           exact bodyPost_ret (v := nbV ([], false, 3)) (by simp [results, Tryz.results61, go_sem, nbV, S]) rfl ⟨by rw [u_ HR2], below_nst (u_ HB) hb2⟩
         | some y =>
           rw [hdt] at DT hsn
           have hyl := Nb.digT_len hdt
           have HS := h_ hsn
           have zx : (S x).size = 3 * k := by rw [S_size, hxl]
           have zy : (S y).size = 3 := by rw [S_size, hyl]
           have exy : S x ++ S y = S (x ++ y) := S_app' x y
           clear hcv htk hsn hdt
           unfold digV at DT
           go_wp2_with (go_at_call 80; refine (u_ DT _).mono ?_; rintro e v2 ⟨rfl, hb2⟩)
           exact ⟨⟨k + 1, by omega, by go_num, x ++ y, by rw [List.length_append, hxl, hyl]; omega, u_ HS, rfl, below_nst (u_ HB) hb2⟩, by simp [intOf]; omega⟩
       · have hke : v.take k = v := List.take_of_length_le (by omega)
         have hxa : Nb.digsA 3 [] v = some x := by have := u_ HX; rwa [hke] at this
         obtain rfl : k = v.length := by omega
         have hpad := Nb.pad_is (by omega) (u_ HV0) hxa
         have HXA := h_ hxa
         have HPAD := h_ hpad
         have hx1 : 1 ≤ x.length := by rw [hxl]; omega
         clear hke hxa hpad HX
         obtain ⟨p, hp⟩ : ∃ p, Nb.padC v = p := ⟨_, rfl⟩
         have hp49 : p ≠ 49 := by rw [← hp]; exact padC_ne v
         have HP0 : Hid ((if x.headD 0 = 49 then 48 else x.headD 0) = p) := h_ ((u_ HPAD).trans hp)
         have HPP := h_ hp
         clear hp HPAD
         go_wp2_with fail
         go_loopw [17] (fun al W => ∃ j : Nat, j ≤ n - x.length ∧ al = .string (S (List.replicate j p ++ x)) ∧ Below w.heap.size w W) (fun al _ => n - strLen al)
         case atStart => exact ⟨0, by omega, rfl, u_ HB⟩
         case round =>
           clear HB
           obtain ⟨j, hj, rfl, hB⟩ := hrel
           have HB := h_ hB
           clear hB
           have zy : (S (List.replicate j p ++ x)).size = j + x.length := by rw [S_size, List.length_append, List.length_replicate]
           by_cases hjn : j + x.length < n
           · have hy0 : 0 < (S (List.replicate j p ++ x)).size := by omega
             have hhd : (if (S (List.replicate j p ++ x))[0]'hy0 = 49 then (48 : UInt8) else (S (List.replicate j p ++ x))[0]'hy0) = p := by
               rw [head_S hy0]
               cases j with
               | zero => exact u_ HP0
               | succ j => rw [show (List.replicate (j + 1) p ++ x).headD 0 = p from rfl, if_neg hp49]
             have est : S [p] ++ S (List.replicate j p ++ x) = S (List.replicate (j + 1) p ++ x) := by rw [S_app']; rfl
             have z1 : (S [p]).size = 1 := rfl
             have hsl : strLen (.string (S (List.replicate (j + 1) p ++ x))) = j + 1 + x.length := by
               show (S _).size = _; rw [S_size, List.length_append, List.length_replicate]
             have hsl0 : strLen (.string (S (List.replicate j p ++ x))) = j + x.length := zy
             by_cases h49 : (S (List.replicate j p ++ x))[0]'hy0 = 49
             · rw [if_pos h49] at hhd
               have hcv := fun W => one_string (48 : Int) p (by rw [← hhd]; rfl) W
               have HSL := h_ hsl
               have HSL0 := h_ hsl0
               clear hhd hsl hsl0
               generalize S (List.replicate j p ++ x) = Y at *
               generalize hY1 : S (List.replicate (j + 1) p ++ x) = Y1 at *
               go_wp2
               exact ⟨⟨j + 1, by omega, by rw [← hY1], bal (u_ HB) _⟩, by rw [u_ HSL, u_ HSL0]; omega⟩
             · rw [if_neg h49] at hhd
               have hcv := fun W => one_string ((((S (List.replicate j p ++ x))[0]'hy0).toNat : Int)) p (by rw [hhd]) W
               have q49 : ((((S (List.replicate j p ++ x))[0]'hy0).toNat : Int) == 49) = false := u8x h49
               have HSL := h_ hsl
               have HSL0 := h_ hsl0
               clear hhd hsl hsl0 h49
               generalize S (List.replicate j p ++ x) = Y at *
               generalize hY1 : S (List.replicate (j + 1) p ++ x) = Y1 at *
               go_wp2
               exact ⟨⟨j + 1, by omega, by rw [← hY1], bal (u_ HB) _⟩, by rw [u_ HSL, u_ HSL0]; omega⟩
           · by_cases hlong : n < x.length
             · obtain rfl : j = 0 := by omega
               rw [List.replicate_zero, List.nil_append] at zy ⊢
               obtain ⟨m, hxm⟩ : ∃ m, x.length = m + n := ⟨x.length - n, by omega⟩
               rw [hxm] at zy
               have hm4 : m ≤ 4000 := by omega
               have xc : (S x).extract 0 m = S (x.take m) := by
                 apply L_inj; rw [L_extract, L_S, L_S, List.drop_zero, Nat.sub_zero]
               have xd : (S x).extract m (m + n) = S (x.drop m) := by
                 apply L_inj; rw [L_extract, L_S, L_S, List.take_of_length_le (by rw [List.length_drop]; omega)]
               have zc : (S (x.take m)).size = m := by rw [S_size, List.length_take]; omega
               have F : Hid (∀ u, CB 77 #[.int .u8 48, .int .i64 m] u (.string (S (List.replicate m 48)))) := fun u => sFill 48 m u (by omega)
               have hfit : Nb.fitT n (Nb.padC v) x = if (x.take m).all (fun c => c == 48) = true then some (x.drop m) else none := by
                 unfold Nb.fitT; rw [if_pos hlong, hxm, Nat.add_sub_cancel]
               have hall : (x.take m).all (fun c => c == 48) = ((S (x.take m)).toList == (S (List.replicate m 48)).toList) := by
                 rw [ByteArray.toList_eq, ByteArray.toList_eq]
                 show _ = (x.take m == List.replicate m 48)
                 rw [Bool.eq_iff_iff, beq_iff_eq, List.all_eq_true, List.eq_replicate_iff, List.length_take]
                 constructor
                 · intro h; exact ⟨by omega, fun c hc => by simpa using h c hc⟩
                 · intro h c hc; simpa using h.2 c hc
               by_cases hz : (x.take m).all (fun c => c == 48) = true
               · have HR2 : Hid ((x.drop m, false, 0) = R) := h_ ((based_some (b := 111) (by decide) (u_ HXA) (by rw [hfit, if_pos hz])).symm.trans (u_ HR))
                 have hne : ((S (x.take m)).toList == (S (List.replicate m 48)).toList) = true := by rw [← hall, hz]
                 clear hfit hz hxl hlong hall
                 go_wp2_with (go_at_call 77; refine (u_ F _).mono ?_; rintro e v2 ⟨rfl, hb2⟩)
                 exact bodyPost_ret (v := nbV (x.drop m, false, 0)) (by simp [results, Tryz.results61, go_sem, nbV]) rfl ⟨by rw [u_ HR2], below_nst (u_ HB) hb2⟩
               · have hz' : (x.take m).all (fun c => c == 48) = false := by simpa using hz
                 have HR2 : Hid (([], false, 11) = R) := h_ ((based_none (b := 111) (by decide) (u_ HXA) (by rw [hfit, if_neg hz])).symm.trans (u_ HR))
                 have hne : ((S (x.take m)).toList == (S (List.replicate m 48)).toList) = false := by rw [← hall, hz']
                 clear hfit hz hxl hlong hall hz'
                 go_wp2_with (go_at_call 77; refine (u_ F _).mono ?_; rintro e v2 ⟨rfl, hb2⟩)
                 exact bodyPost_ret (v := nbV ([], false, 11)) (by simp [results, Tryz.results61, go_sem, nbV, S]) rfl ⟨by rw [u_ HR2], below_nst (u_ HB) hb2⟩
             · have hjx : j + x.length = n := by omega
               have HR2 : Hid ((List.replicate j p ++ x, false, 0) = R) := h_ ((based_some (b := 111) (by decide) (u_ HXA) (by
                 unfold Nb.fitT; rw [if_neg hlong, u_ HPP, show n - x.length = j by omega])).symm.trans (u_ HR))
               have F : Hid (∀ u, CB 77 #[.int .u8 48, .int .i64 0] u (.string (S []))) := fun u => sFill 48 0 u (by omega)
               have zz : (S (List.replicate j p ++ x)).size = n := by rw [zy]; exact hjx
               have xz : (S (List.replicate j p ++ x)).extract 0 0 = S [] := by
                 apply L_inj; rw [L_extract, L_S]; rfl
               have xn : (S (List.replicate j p ++ x)).extract 0 n = S (List.replicate j p ++ x) := by
                 apply L_inj; rw [L_extract, L_S, List.drop_zero, List.take_of_length_le (by rw [List.length_append, List.length_replicate]; omega)]
               have he0 : (S []).toList.isEmpty = true := by rw [ByteArray.toList_eq]; rfl
               clear zy hjx hlong hjn hj hxl
               generalize hY : List.replicate j p ++ x = Y at *
               clear hY
               go_wp2_with (go_at_call 77; refine (u_ F _).mono ?_; rintro e v2 ⟨rfl, hb2⟩)
               exact bodyPost_ret (v := nbV (Y, false, 0)) (by simp [results, Tryz.results61, go_sem, nbV]) rfl ⟨by rw [u_ HR2], below_nst (u_ HB) hb2⟩
set_option maxRecDepth 100000 in
theorem sNB_h0 (s : ByteArray) (D n : Nat) (w : World) (h : s.size ≤ 1000) (hok : (Nb.numE (L s) 0).2 = true) (he : (Nb.numE (L s) 0).1 = s.size) (h0 : D + 1 < s.size) (hd : ((L s).take D).all Nb.digB = true) (h39 : s[D]'(Nat.lt_of_succ_lt h0) = 39) (hn : Nb.valD ((L s).take D) = n) (hw : 1 ≤ n) (hw2 : n ≤ 64) (h115 : s[D + 1] = 104) (v : List UInt8) (hv : (L s).drop (D + 1 + 1) = v) (hvv : v.all Nb.valB = true) (hv0 : v ≠ []) (R : List UInt8 × Bool × Nat) (hR : Nb.based n false 104 v = R) :
   CB 61 #[.string s] w (nbV R) := by
 have N := h_ (fun v => fl (sNumber s 0 v (by omega) (by omega)))
 rw [hok, he] at N
 have HD := h_ hd
 have HN := h_ hn
 have DG39 : Hid (∀ v, Calls Tryz.prog 75 #[.int .u8 39] v fun e w' => e = .returned (.bool false) ∧ v = w') := fun v => fl (sDigit 39 v)
 clear hok he hd hn
 have hx : s.extract (D + 1 + 1) s.size = S v := by
   apply L_inj; rw [L_extract, L_S, ← hv]
   rw [List.take_of_length_le (by rw [List.length_drop, L_len]; exact Nat.le_refl _)]
 have hvl : v.length = s.size - (D + 1 + 1) := by rw [← hv, List.length_drop, L_len]
 have HV := h_ hv
 have HR := h_ hR
 clear hv hR
 have zv : (S v).size = v.length := S_size v
 have HVV := h_ hvv
 have HV0 := h_ hv0
 have hvl1 : 1 ≤ v.length := by cases v with | nil => exact absurd rfl hv0 | cons _ _ => simp
 clear hvv hv0
 go_enter Tryz.func61, Tryz.ntmps61
 go_wp2_with (go_at_call 74; refine (u_ N _).mono ?_; rintro e w' ⟨rfl, rfl⟩)
 go_loop [7, 8] (fun i n => ∃ k : Nat, k ≤ D ∧ i = .int .i64 k ∧ ∃ m : Nat, m ≤ 1099511627776 ∧ m = Nb.lidD ((L s).take k) ∧ n = .int .i64 m) (fun i _ => D - (intOf i).toNat)
 case atStart => exact ⟨0, by omega, rfl, 0, by omega, rfl, rfl⟩
 case round =>
   obtain ⟨k, hk, rfl, m, hm, hml, rfl⟩ := hrel
   have HM := h_ hml
   clear hml
   by_cases hks : k < D
   · have hdk : Nb.digB (s[k]'(by omega)) = true := by
       refine List.all_eq_true.1 (u_ HD) _ ?_
       rw [List.mem_take_iff_getElem]
       exact ⟨k, by rw [L_len]; omega, rfl⟩
     have hks' : k < s.size := by omega
     have DG := h_ (fun v => fl (sDigit (s[k]'hks') v))
     rw [hdk] at DG
     obtain ⟨e1, e2, e3⟩ := dig_num hdk
     clear hdk h39
     go_wp2_with (go_at_call 75; refine (u_ DG _).mono ?_; rintro e w' ⟨rfl, rfl⟩)
     refine ⟨⟨k + 1, by omega, by go_num, min (m * 10 + (s[k].toNat - 48)) 1099511627776, by omega, ?_, ?_⟩, by simp [intOf]; omega⟩
     · rw [L_take s k hks', Nb.lidD_snoc, ← u_ HM]
     · congr 1; split <;> omega
   · obtain rfl : D = k := by omega
     have hm2 : m = min n 1099511627776 := by rw [u_ HM, Nb.lidD_is, u_ HN]
     have hq : ((D : Int) == (s.size : Int)) = false := by rw [beq_eq_false_iff_ne]; omega
     obtain rfl : n = m := by omega
     have hw1 : ¬ (n : Int) < 1 := by omega
     have hw2 : ¬ (64 : Int) < n := by omega
     clear hm2 HM
     go_wp2_with (first | (go_at_call 75; refine (u_ DG39 _).mono ?_; rintro e w' ⟨rfl, rfl⟩))
     have hv1000 : v.length ≤ 1000 := by omega
     first | rw [hx] | skip
     clear hx hvl
     go_loopw [17, 18] (fun al i W => ∃ k : Nat, k ≤ v.length ∧ i = .int .i64 k ∧ ∃ x : List UInt8, x.length = 4 * k ∧ Nb.digsA 4 [] (v.take k) = some x ∧ al = .string (S x) ∧ Below w.heap.size w W) (fun _ i _ => v.length - (intOf i).toNat)
     case atStart => exact ⟨0, by omega, rfl, [], rfl, rfl, rfl, brf _⟩
     case round =>
       obtain ⟨k, hk, rfl, x, hxl, hx, rfl, hB⟩ := hrel
       have HX := h_ hx
       have HB := h_ hB
       clear hx hB
       by_cases hkv : k < v.length
       · have hkz : k < (S v).size := by rw [zv]; exact hkv
         have hcv : Nb.valB ((S v)[k]'hkz) = true := List.all_eq_true.1 (u_ HVV) _ (mem_S hkz)
         have DT := h_ (fun u => sDigits ((S v)[k]'hkz) 4 u hcv (by omega))
         have htk : v.take (k + 1) = v.take k ++ [(S v)[k]'hkz] := by
           have := L_take (S v) k hkz
           rwa [L_S] at this
         have hsn := Nb.digsA_snoc 4 (v.take k) [] ((S v)[k]'hkz) (u_ HX)
         rw [← htk] at hsn
         cases hdt : Nb.digT 4 ((S v)[k]'hkz) with
         | none =>
           rw [hdt] at DT hsn
           have HR2 : Hid (([], false, 3) = R) := h_ (by
             rw [← u_ HR]; unfold Nb.based
             have hn : Nb.digsA 4 [] v = none := by
               have := Nb.digsA_bad 4 (v.take (k + 1)) [] (v.drop (k + 1)) hsn
               rwa [List.take_append_drop] at this
             rw [if_neg (by decide), show Nb.baseN 104 = 4 from rfl, hn])
           clear hcv htk hsn hdt
           unfold digV at DT
           go_wp2_with (go_at_call 80; refine (u_ DT _).mono ?_; rintro e v2 ⟨rfl, hb2⟩)
           exact bodyPost_ret (v := nbV ([], false, 3)) (by simp [results, Tryz.results61, go_sem, nbV, S]) rfl ⟨by rw [u_ HR2], below_nst (u_ HB) hb2⟩
         | some y =>
           rw [hdt] at DT hsn
           have hyl := Nb.digT_len hdt
           have HS := h_ hsn
           have zx : (S x).size = 4 * k := by rw [S_size, hxl]
           have zy : (S y).size = 4 := by rw [S_size, hyl]
           have exy : S x ++ S y = S (x ++ y) := S_app' x y
           clear hcv htk hsn hdt
           unfold digV at DT
           go_wp2_with (go_at_call 80; refine (u_ DT _).mono ?_; rintro e v2 ⟨rfl, hb2⟩)
           exact ⟨⟨k + 1, by omega, by go_num, x ++ y, by rw [List.length_append, hxl, hyl]; omega, u_ HS, rfl, below_nst (u_ HB) hb2⟩, by simp [intOf]; omega⟩
       · have hke : v.take k = v := List.take_of_length_le (by omega)
         have hxa : Nb.digsA 4 [] v = some x := by have := u_ HX; rwa [hke] at this
         obtain rfl : k = v.length := by omega
         have hpad := Nb.pad_is (by omega) (u_ HV0) hxa
         have HXA := h_ hxa
         have HPAD := h_ hpad
         have hx1 : 1 ≤ x.length := by rw [hxl]; omega
         clear hke hxa hpad HX
         obtain ⟨p, hp⟩ : ∃ p, Nb.padC v = p := ⟨_, rfl⟩
         have hp49 : p ≠ 49 := by rw [← hp]; exact padC_ne v
         have HP0 : Hid ((if x.headD 0 = 49 then 48 else x.headD 0) = p) := h_ ((u_ HPAD).trans hp)
         have HPP := h_ hp
         clear hp HPAD
         go_wp2_with fail
         go_loopw [17] (fun al W => ∃ j : Nat, j ≤ n - x.length ∧ al = .string (S (List.replicate j p ++ x)) ∧ Below w.heap.size w W) (fun al _ => n - strLen al)
         case atStart => exact ⟨0, by omega, rfl, u_ HB⟩
         case round =>
           clear HB
           obtain ⟨j, hj, rfl, hB⟩ := hrel
           have HB := h_ hB
           clear hB
           have zy : (S (List.replicate j p ++ x)).size = j + x.length := by rw [S_size, List.length_append, List.length_replicate]
           by_cases hjn : j + x.length < n
           · have hy0 : 0 < (S (List.replicate j p ++ x)).size := by omega
             have hhd : (if (S (List.replicate j p ++ x))[0]'hy0 = 49 then (48 : UInt8) else (S (List.replicate j p ++ x))[0]'hy0) = p := by
               rw [head_S hy0]
               cases j with
               | zero => exact u_ HP0
               | succ j => rw [show (List.replicate (j + 1) p ++ x).headD 0 = p from rfl, if_neg hp49]
             have est : S [p] ++ S (List.replicate j p ++ x) = S (List.replicate (j + 1) p ++ x) := by rw [S_app']; rfl
             have z1 : (S [p]).size = 1 := rfl
             have hsl : strLen (.string (S (List.replicate (j + 1) p ++ x))) = j + 1 + x.length := by
               show (S _).size = _; rw [S_size, List.length_append, List.length_replicate]
             have hsl0 : strLen (.string (S (List.replicate j p ++ x))) = j + x.length := zy
             by_cases h49 : (S (List.replicate j p ++ x))[0]'hy0 = 49
             · rw [if_pos h49] at hhd
               have hcv := fun W => one_string (48 : Int) p (by rw [← hhd]; rfl) W
               have HSL := h_ hsl
               have HSL0 := h_ hsl0
               clear hhd hsl hsl0
               generalize S (List.replicate j p ++ x) = Y at *
               generalize hY1 : S (List.replicate (j + 1) p ++ x) = Y1 at *
               go_wp2
               exact ⟨⟨j + 1, by omega, by rw [← hY1], bal (u_ HB) _⟩, by rw [u_ HSL, u_ HSL0]; omega⟩
             · rw [if_neg h49] at hhd
               have hcv := fun W => one_string ((((S (List.replicate j p ++ x))[0]'hy0).toNat : Int)) p (by rw [hhd]) W
               have q49 : ((((S (List.replicate j p ++ x))[0]'hy0).toNat : Int) == 49) = false := u8x h49
               have HSL := h_ hsl
               have HSL0 := h_ hsl0
               clear hhd hsl hsl0 h49
               generalize S (List.replicate j p ++ x) = Y at *
               generalize hY1 : S (List.replicate (j + 1) p ++ x) = Y1 at *
               go_wp2
               exact ⟨⟨j + 1, by omega, by rw [← hY1], bal (u_ HB) _⟩, by rw [u_ HSL, u_ HSL0]; omega⟩
           · by_cases hlong : n < x.length
             · obtain rfl : j = 0 := by omega
               rw [List.replicate_zero, List.nil_append] at zy ⊢
               obtain ⟨m, hxm⟩ : ∃ m, x.length = m + n := ⟨x.length - n, by omega⟩
               rw [hxm] at zy
               have hm4 : m ≤ 4000 := by omega
               have xc : (S x).extract 0 m = S (x.take m) := by
                 apply L_inj; rw [L_extract, L_S, L_S, List.drop_zero, Nat.sub_zero]
               have xd : (S x).extract m (m + n) = S (x.drop m) := by
                 apply L_inj; rw [L_extract, L_S, L_S, List.take_of_length_le (by rw [List.length_drop]; omega)]
               have zc : (S (x.take m)).size = m := by rw [S_size, List.length_take]; omega
               have F : Hid (∀ u, CB 77 #[.int .u8 48, .int .i64 m] u (.string (S (List.replicate m 48)))) := fun u => sFill 48 m u (by omega)
               have hfit : Nb.fitT n (Nb.padC v) x = if (x.take m).all (fun c => c == 48) = true then some (x.drop m) else none := by
                 unfold Nb.fitT; rw [if_pos hlong, hxm, Nat.add_sub_cancel]
               have hall : (x.take m).all (fun c => c == 48) = ((S (x.take m)).toList == (S (List.replicate m 48)).toList) := by
                 rw [ByteArray.toList_eq, ByteArray.toList_eq]
                 show _ = (x.take m == List.replicate m 48)
                 rw [Bool.eq_iff_iff, beq_iff_eq, List.all_eq_true, List.eq_replicate_iff, List.length_take]
                 constructor
                 · intro h; exact ⟨by omega, fun c hc => by simpa using h c hc⟩
                 · intro h c hc; simpa using h.2 c hc
               by_cases hz : (x.take m).all (fun c => c == 48) = true
               · have HR2 : Hid ((x.drop m, false, 0) = R) := h_ ((based_some (b := 104) (by decide) (u_ HXA) (by rw [hfit, if_pos hz])).symm.trans (u_ HR))
                 have hne : ((S (x.take m)).toList == (S (List.replicate m 48)).toList) = true := by rw [← hall, hz]
                 clear hfit hz hxl hlong hall
                 go_wp2_with (go_at_call 77; refine (u_ F _).mono ?_; rintro e v2 ⟨rfl, hb2⟩)
                 exact bodyPost_ret (v := nbV (x.drop m, false, 0)) (by simp [results, Tryz.results61, go_sem, nbV]) rfl ⟨by rw [u_ HR2], below_nst (u_ HB) hb2⟩
               · have hz' : (x.take m).all (fun c => c == 48) = false := by simpa using hz
                 have HR2 : Hid (([], false, 11) = R) := h_ ((based_none (b := 104) (by decide) (u_ HXA) (by rw [hfit, if_neg hz])).symm.trans (u_ HR))
                 have hne : ((S (x.take m)).toList == (S (List.replicate m 48)).toList) = false := by rw [← hall, hz']
                 clear hfit hz hxl hlong hall hz'
                 go_wp2_with (go_at_call 77; refine (u_ F _).mono ?_; rintro e v2 ⟨rfl, hb2⟩)
                 exact bodyPost_ret (v := nbV ([], false, 11)) (by simp [results, Tryz.results61, go_sem, nbV, S]) rfl ⟨by rw [u_ HR2], below_nst (u_ HB) hb2⟩
             · have hjx : j + x.length = n := by omega
               have HR2 : Hid ((List.replicate j p ++ x, false, 0) = R) := h_ ((based_some (b := 104) (by decide) (u_ HXA) (by
                 unfold Nb.fitT; rw [if_neg hlong, u_ HPP, show n - x.length = j by omega])).symm.trans (u_ HR))
               have F : Hid (∀ u, CB 77 #[.int .u8 48, .int .i64 0] u (.string (S []))) := fun u => sFill 48 0 u (by omega)
               have zz : (S (List.replicate j p ++ x)).size = n := by rw [zy]; exact hjx
               have xz : (S (List.replicate j p ++ x)).extract 0 0 = S [] := by
                 apply L_inj; rw [L_extract, L_S]; rfl
               have xn : (S (List.replicate j p ++ x)).extract 0 n = S (List.replicate j p ++ x) := by
                 apply L_inj; rw [L_extract, L_S, List.drop_zero, List.take_of_length_le (by rw [List.length_append, List.length_replicate]; omega)]
               have he0 : (S []).toList.isEmpty = true := by rw [ByteArray.toList_eq]; rfl
               clear zy hjx hlong hjn hj hxl
               generalize hY : List.replicate j p ++ x = Y at *
               clear hY
               go_wp2_with (go_at_call 77; refine (u_ F _).mono ?_; rintro e v2 ⟨rfl, hb2⟩)
               exact bodyPost_ret (v := nbV (Y, false, 0)) (by simp [results, Tryz.results61, go_sem, nbV]) rfl ⟨by rw [u_ HR2], below_nst (u_ HB) hb2⟩
end Go.Proofs.YtddlokkejglckaaGreatDoor
