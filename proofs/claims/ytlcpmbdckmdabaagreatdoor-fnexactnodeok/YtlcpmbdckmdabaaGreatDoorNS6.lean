/- What the specification's NumberBits answers of a number with a width. -/
import Derived.Test.YtlcpmbdckmdabaaGreatDoorNSX
namespace Go.Proofs.YtlcpmbdckmdabaaGreatDoor
open Go.RowKit
set_option maxRecDepth 100000
set_option linter.unusedVariables false
theorem truth_known {l : List UInt8} (h : l.all Vb.knB = true) : truthL l = if Vb.num l = 0 then 48 else 49 := by
  unfold truthL
  by_cases h1 : l.any Vb.oneB = true
  · rw [if_pos h1]
    obtain ⟨c, hc, ho⟩ := List.any_eq_true.1 h1
    obtain ⟨a, b, rfl⟩ := List.append_of_mem hc
    rw [if_neg]
    rw [Vb.num_append, Vb.num_cons, ho]
    have := Nat.two_pow_pos b.length
    show ¬ _ + (1 * _ + _) = 0
    omega
  · rw [if_neg h1]
    have hz : l.all (fun c => c == 48) = true := by
      rw [List.all_eq_true] at h ⊢
      intro c hc
      have := h c hc
      unfold Vb.knB at this
      simp at this
      rcases this with e | e
      · simp [e]
      · exact absurd (List.any_eq_true.2 ⟨c, hc, by rw [e]; rfl⟩) h1
    rw [if_pos hz, if_pos]
    have : l = List.replicate l.length 48 := List.eq_replicate_iff.2 ⟨rfl, fun c hc => by have := List.all_eq_true.1 hz c hc; simpa using this⟩
    rw [this, Nb.num_rep48]
theorem ten_truth (n X : Nat) (hX : X < 16 * 2 ^ n) : 2 ^ n ≤ X ↔ truthL (Vb.nTxt 4 (X / 2 ^ n)) = 49 := by
  have hp := Nat.two_pow_pos n
  rw [truth_known (Vb.nTxt_known _ _), Vb.num_nTxt, Nat.mod_eq_of_lt (by rw [Nat.div_lt_iff_lt_mul hp]; omega)]
  by_cases h : 2 ^ n ≤ X
  · rw [if_neg (by have := Nat.div_pos h hp; omega)]; simp [h]
  · rw [if_pos (Nat.div_eq_of_lt (by omega))]; simp [h]
theorem mem_S {v : List UInt8} {k : Nat} (h : k < (S v).size) : (S v)[k] ∈ v := by
  have := L_mem (S v) k h
  rwa [L_S] at this
theorem fl {f : FuncId} {args : Array Value} {w : World} {x : Value} (h : Calls Tryz.prog f args w fun e w' => e = .returned x ∧ w' = w) : Calls Tryz.prog f args w fun e w' => e = .returned x ∧ w = w' := h.mono fun e w' ⟨a, b⟩ => ⟨a, b.symm⟩
set_option maxRecDepth 100000 in
set_option maxHeartbeats 1000000 in
theorem sNB_width (s : ByteArray) (D n : Nat) (w : World) (h : s.size ≤ 1000) (hok : (Nb.numE (L s) 0).2 = true) (he : (Nb.numE (L s) 0).1 = s.size) (h0 : D + 1 < s.size) (hd : ((L s).take D).all Nb.digB = true) (h39 : s[D]'(Nat.lt_of_succ_lt h0) = 39) (hn : Nb.valD ((L s).take D) = n) (hw : n < 1 ∨ 64 < n) :
    Calls Tryz.prog 34 #[.string s] w fun e w' => e = .returned (nbV ([], false, 7)) ∧ w' = w := by
  have N := hide (fun v => fl (sNumber s 0 v (by omega) (by omega)))
  rw [hok, he] at N
  have HD := hide hd
  have HN := hide hn
  have DG39 : Hid (∀ v, Calls Tryz.prog 49 #[.int .u8 39] v fun e w' => e = .returned (.bool false) ∧ v = w') := fun v => fl (sDigit 39 v)
  clear hok he hd hn

  go_enter Tryz.func34, Tryz.ntmps34
  go_wp2_with (go_at_call 48; refine (unhide N _).mono ?_; rintro e w' ⟨rfl, rfl⟩)
  go_loop [7, 8] (fun i n => ∃ k : Nat, k ≤ D ∧ i = .int .i64 k ∧ ∃ m : Nat, m ≤ 1099511627776 ∧ m = Nb.lidD ((L s).take k) ∧ n = .int .i64 m) (fun i _ => D - (intOf i).toNat)
  case atStart => exact ⟨0, by omega, rfl, 0, by omega, rfl, rfl⟩
  case round =>
    obtain ⟨k, hk, rfl, m, hm, hml, rfl⟩ := hrel
    have HM := hide hml
    clear hml
    by_cases hks : k < D
    · have hdk : Nb.digB (s[k]'(by omega)) = true := by
        refine List.all_eq_true.1 (unhide HD) _ ?_
        rw [List.mem_take_iff_getElem]
        exact ⟨k, by rw [L_len]; omega, rfl⟩
      have hks' : k < s.size := by omega
      have DG := hide (fun v => fl (sDigit (s[k]'hks') v))
      rw [hdk] at DG
      obtain ⟨e1, e2, e3⟩ := dig_num hdk
      clear hdk h39
      go_wp2_with (go_at_call 49; refine (unhide DG _).mono ?_; rintro e w' ⟨rfl, rfl⟩)
      refine ⟨⟨k + 1, by omega, by go_num, min (m * 10 + (s[k].toNat - 48)) 1099511627776, by omega, ?_, ?_⟩, by simp [intOf]; omega⟩
      · rw [L_take s k hks', Nb.lidD_snoc, ← unhide HM]
      · congr 1; split <;> omega
    · obtain rfl : D = k := by omega
      have hm2 : m = min n 1099511627776 := by rw [unhide HM, Nb.lidD_is, unhide HN]
      have hq : ((D : Int) == (s.size : Int)) = false := by rw [beq_eq_false_iff_ne]; omega
      have hw' : (m : Int) < 1 ∨ (64 : Int) < m := by omega
      clear hm2 HM
      rcases hw' with hw' | hw'
      · go_wp2_with (go_at_call 49; refine (unhide DG39 _).mono ?_; rintro e w' ⟨rfl, rfl⟩)
        exact bodyPost_ret (v := nbV ([], false, 7)) (by simp [results, Tryz.results34, go_sem, nbV, S]) rfl ⟨rfl, rfl⟩
      · have hw2 : ¬ (m : Int) < 1 := by omega
        go_wp2_with (go_at_call 49; refine (unhide DG39 _).mono ?_; rintro e w' ⟨rfl, rfl⟩)
        exact bodyPost_ret (v := nbV ([], false, 7)) (by simp [results, Tryz.results34, go_sem, nbV, S]) rfl ⟨rfl, rfl⟩
set_option maxRecDepth 100000 in
set_option maxHeartbeats 1000000 in
theorem sNB_d0 (s : ByteArray) (D n : Nat) (w : World) (h : s.size ≤ 1000) (hok : (Nb.numE (L s) 0).2 = true) (he : (Nb.numE (L s) 0).1 = s.size) (h0 : D + 1 < s.size) (hd : ((L s).take D).all Nb.digB = true) (h39 : s[D]'(Nat.lt_of_succ_lt h0) = 39) (hn : Nb.valD ((L s).take D) = n) (hw : 1 ≤ n) (hw2 : n ≤ 64) (h115 : s[D + 1] = 100) (v : List UInt8) (hv : (L s).drop (D + 1 + 1) = v) (hvv : v.all Nb.valB = true) (R : List UInt8 × Bool × Nat) (hR : Nb.based n false 100 v = R) :
    Calls Tryz.prog 34 #[.string s] w fun e w' => e = .returned (nbV R) ∧ Below w.heap.size w w' := by
  have N := hide (fun v => fl (sNumber s 0 v (by omega) (by omega)))
  rw [hok, he] at N
  have HD := hide hd
  have HN := hide hn
  have DG39 : Hid (∀ v, Calls Tryz.prog 49 #[.int .u8 39] v fun e w' => e = .returned (.bool false) ∧ v = w') := fun v => fl (sDigit 39 v)
  clear hok he hd hn
  have hx : s.extract (D + 1 + 1) s.size = S v := by
    apply L_inj; rw [L_extract, L_S, ← hv]
    rw [List.take_of_length_le (by rw [List.length_drop, L_len]; exact Nat.le_refl _)]
  have hvl : v.length = s.size - (D + 1 + 1) := by rw [← hv, List.length_drop, L_len]
  have HV := hide hv
  have HR := hide hR
  clear hv hR
  have F : Hid (∀ v, Calls Tryz.prog 51 #[.int .u8 48, .int .i64 n] v fun e w' => e = .returned (.string (S (Vb.nTxt n 0))) ∧ Below v.heap.size v w') := fun v => by
    have := sFill 48 n v (by omega)
    have e := Nb.pad_nTxt n 0 0 (by decide)
    rw [show Vb.nTxt 0 0 = [] from rfl, List.append_nil, Nat.add_zero] at e
    rwa [e] at this
  have zv : (S v).size = v.length := S_size v
  go_enter Tryz.func34, Tryz.ntmps34
  go_wp2_with (go_at_call 48; refine (unhide N _).mono ?_; rintro e w' ⟨rfl, rfl⟩)
  go_loop [7, 8] (fun i n => ∃ k : Nat, k ≤ D ∧ i = .int .i64 k ∧ ∃ m : Nat, m ≤ 1099511627776 ∧ m = Nb.lidD ((L s).take k) ∧ n = .int .i64 m) (fun i _ => D - (intOf i).toNat)
  case atStart => exact ⟨0, by omega, rfl, 0, by omega, rfl, rfl⟩
  case round =>
    obtain ⟨k, hk, rfl, m, hm, hml, rfl⟩ := hrel
    have HM := hide hml
    clear hml
    by_cases hks : k < D
    · have hdk : Nb.digB (s[k]'(by omega)) = true := by
        refine List.all_eq_true.1 (unhide HD) _ ?_
        rw [List.mem_take_iff_getElem]
        exact ⟨k, by rw [L_len]; omega, rfl⟩
      have hks' : k < s.size := by omega
      have DG := hide (fun v => fl (sDigit (s[k]'hks') v))
      rw [hdk] at DG
      obtain ⟨e1, e2, e3⟩ := dig_num hdk
      clear hdk h39
      go_wp2_with (go_at_call 49; refine (unhide DG _).mono ?_; rintro e w' ⟨rfl, rfl⟩)
      refine ⟨⟨k + 1, by omega, by go_num, min (m * 10 + (s[k].toNat - 48)) 1099511627776, by omega, ?_, ?_⟩, by simp [intOf]; omega⟩
      · rw [L_take s k hks', Nb.lidD_snoc, ← unhide HM]
      · congr 1; split <;> omega
    · obtain rfl : D = k := by omega
      have hm2 : m = min n 1099511627776 := by rw [unhide HM, Nb.lidD_is, unhide HN]
      have hq : ((D : Int) == (s.size : Int)) = false := by rw [beq_eq_false_iff_ne]; omega
      obtain rfl : n = m := by omega
      have hw1 : ¬ (n : Int) < 1 := by omega
      have hw2 : ¬ (64 : Int) < n := by omega
      clear hm2 HM
      go_wp2_with (first | (go_at_call 49; refine (unhide DG39 _).mono ?_; rintro e w' ⟨rfl, rfl⟩) | (go_at_call 51; refine (unhide F _).mono ?_; rintro e v1 ⟨rfl, hb1⟩))
      have hv1000 : v.length ≤ 1000 := by omega
      clear hx hvl
      have HB1 := hide hb1
      clear hb1
      go_loopw [12, 13, 14] (fun b o i W => ∃ k : Nat, k ≤ v.length ∧ i = .int .i64 k ∧ (v.take k).all Nb.digB = true ∧ ∃ V : Nat, V = Nb.valD (v.take k) ∧ b = .string (S (Vb.nTxt n V)) ∧ o = .bool (decide (2 ^ n ≤ V)) ∧ Below w.heap.size w W) (fun _ _ i _ => v.length - (intOf i).toNat)
      case atStart => exact ⟨0, by omega, rfl, by simp, 0, rfl, rfl, by have := Nat.two_pow_pos n; rw [decide_eq_false (by omega)], unhide HB1⟩
      case round =>
        clear HB1
        obtain ⟨k, hk, rfl, hall, V, hV, rfl, rfl, hB⟩ := hrel
        have HA := hide hall
        have HV2 := hide hV
        have HB := hide hB
        clear hall hV hB
        by_cases hkv : k < v.length
        · have hkz : k < (S v).size := by rw [zv]; exact hkv
          have DG := hide (fun u => fl (sDigit ((S v)[k]'hkz) u))
          cases hdg : Nb.digB ((S v)[k]'hkz)
          · rw [hdg] at DG
            have HR2 : Hid (([], false, 3) = R) := hide (by
              rw [← unhide HR]; unfold Nb.based
              have : v.all Nb.digB = false := by
                rw [List.all_eq_false]; exact ⟨_, mem_S hkz, by rw [hdg]; decide⟩
              rw [if_pos rfl, this, if_neg (by decide)])
            clear hdg
            go_wp2_with (go_at_call 49; refine (unhide DG _).mono ?_; rintro e w' ⟨rfl, rfl⟩)
            exact bodyPost_ret (v := nbV ([], false, 3)) (by simp [results, Tryz.results34, go_sem, nbV, S]) rfl ⟨by rw [unhide HR2], unhide HB⟩
          · rw [hdg] at DG
            obtain ⟨e1, e2, e3⟩ := dig_num hdg
            have hd9 : (S v)[k].toNat - 48 ≤ 9 := by have := dig_range hdg; omega
            have hVn : Nb.valD (v.take (k + 1)) = 10 * V + ((S v)[k].toNat - 48) := by
              have := L_take (S v) k hkz
              rw [L_S] at this
              rw [this, Nb.valD_snoc, ← unhide HV2]
            have hAn : (v.take (k + 1)).all Nb.digB = true := by
              have := L_take (S v) k hkz
              rw [L_S] at this
              rw [this, List.all_append, unhide HA]; simp [hdg]
            have HVN := hide hVn
            have HAN := hide hAn
            clear hVn hAn hdg HA HV2
            generalize (S v)[k].toNat - 48 = d at *
            obtain ⟨s1, s2, s3⟩ := Nb.ten_step V d (2 ^ n) (Nat.two_pow_pos n) hd9
            have hM := Nat.mod_lt V (Nat.two_pow_pos n)
            have eM : S (Vb.nTxt n V) = S (Vb.nTxt n (V % 2 ^ n)) := by rw [Vb.nTxt_congr (u := V) (v := V % 2 ^ n) (by rw [Nat.mod_mod])]
            generalize hMM : V % 2 ^ n = M at *
            have TN := hide (fun u => sTen n M d u (by omega) (by omega) hM hd9)
            rw [← eM] at TN
            have zT : (S (Vb.nTxt (4 + n) (10 * M + d))).size = 4 + n := by rw [S_size, Vb.nTxt_len]
            have x1 : (S (Vb.nTxt (4 + n) (10 * M + d))).extract 0 4 = S (Vb.nTxt 4 ((10 * M + d) / 2 ^ n)) := by
              apply L_inj; rw [L_extract, L_S, L_S, Nb.split_nTxt, List.drop_zero, List.take_left' (by rw [Vb.nTxt_len])]
            have x2 : (S (Vb.nTxt (4 + n) (10 * M + d))).extract 4 (4 + n) = S (Vb.nTxt n (10 * V + d)) := by
              apply L_inj; rw [L_extract, L_S, L_S, Nb.split_nTxt, List.drop_left' (by rw [Vb.nTxt_len]), List.take_of_length_le (by rw [Vb.nTxt_len]; omega)]
              exact Vb.nTxt_congr s1
            have TR := hide (fun u => fl (sTruth (S (Vb.nTxt 4 ((10 * M + d) / 2 ^ n))) u (by rw [S_size, Vb.nTxt_len]; decide)))
            rw [L_S] at TR
            have hPow : 2 ^ n ≤ 10 * M + d ↔ truthL (Vb.nTxt 4 ((10 * M + d) / 2 ^ n)) = 49 := ten_truth n (10 * M + d) s3
            clear eM s1
            generalize S (Vb.nTxt (4 + n) (10 * M + d)) = T at *
            generalize S (Vb.nTxt 4 ((10 * M + d) / 2 ^ n)) = T4 at *
            generalize truthL (Vb.nTxt 4 ((10 * M + d) / 2 ^ n)) = t at *
            have S2 := hide s2
            have HP := hide hPow
            clear s2 s3 hPow hMM
            by_cases ho : 2 ^ n ≤ V
            · have hdo : decide (2 ^ n ≤ V) = true := decide_eq_true ho
              go_wp2_with (first | (go_at_call 49; refine (unhide DG _).mono ?_; rintro e w' ⟨rfl, rfl⟩) | (go_at_call 52; refine (unhide TN _).mono ?_; rintro e v2 ⟨rfl, hb2⟩) | (go_at_call 53; refine (unhide TR _).mono ?_; rintro e w' ⟨rfl, rfl⟩))
              exact ⟨⟨k + 1, by omega, by go_num, unhide HAN, 10 * V + d, (unhide HVN).symm, rfl, by rw [decide_eq_true ((unhide S2).1 (.inl ho))], below_nst (unhide HB) hb2⟩, by simp [intOf]; omega⟩
            · have hdo : decide (2 ^ n ≤ V) = false := decide_eq_false ho
              by_cases ht : t = 49
              · have ht' : ((t.toNat : Int) == 49) = true := by rw [ht]; rfl
                go_wp2_with (first | (go_at_call 49; refine (unhide DG _).mono ?_; rintro e w' ⟨rfl, rfl⟩) | (go_at_call 52; refine (unhide TN _).mono ?_; rintro e v2 ⟨rfl, hb2⟩) | (go_at_call 53; refine (unhide TR _).mono ?_; rintro e w' ⟨rfl, rfl⟩))
                exact ⟨⟨k + 1, by omega, by go_num, unhide HAN, 10 * V + d, (unhide HVN).symm, rfl, by rw [decide_eq_true ((unhide S2).1 (.inr ((unhide HP).2 ht)))], below_nst (unhide HB) hb2⟩, by simp [intOf]; omega⟩
              · have ht' : ((t.toNat : Int) == 49) = false := by rw [beq_eq_false_iff_ne]; intro e; apply ht; rw [← UInt8.toNat_inj]; exact Int.ofNat.inj e
                go_wp2_with (first | (go_at_call 49; refine (unhide DG _).mono ?_; rintro e w' ⟨rfl, rfl⟩) | (go_at_call 52; refine (unhide TN _).mono ?_; rintro e v2 ⟨rfl, hb2⟩) | (go_at_call 53; refine (unhide TR _).mono ?_; rintro e w' ⟨rfl, rfl⟩))
                exact ⟨⟨k + 1, by omega, by go_num, unhide HAN, 10 * V + d, (unhide HVN).symm, rfl, by rw [decide_eq_false (fun hc => by rcases (unhide S2).2 hc with h | h; exact ho h; exact ht ((unhide HP).1 h))], below_nst (unhide HB) hb2⟩, by simp [intOf]; omega⟩
        · have hke : v.take k = v := List.take_of_length_le (by omega)
          have hVe : Nb.valD v = V := by rw [unhide HV2, hke]
          have hAe : v.all Nb.digB = true := by have := unhide HA; rwa [hke] at this
          have hsz : ¬ (k : Int) < v.length := by omega
          by_cases ho : 2 ^ n ≤ V
          · have hdo : decide (2 ^ n ≤ V) = true := decide_eq_true ho
            have HR2 : Hid (([], false, 11) = R) := hide (by
              rw [← unhide HR]; unfold Nb.based; rw [if_pos rfl, if_pos hAe, hVe, if_pos ho])
            clear hke hVe hAe HA HV2
            go_wp2
            exact bodyPost_ret (v := nbV ([], false, 11)) (by simp [results, Tryz.results34, go_sem, nbV, S]) rfl ⟨by rw [unhide HR2], unhide HB⟩
          · have hdo : decide (2 ^ n ≤ V) = false := decide_eq_false ho
            have HR2 : Hid ((Vb.nTxt n V, false, 0) = R) := hide (by
              rw [← unhide HR]; unfold Nb.based; rw [if_pos rfl, if_pos hAe, hVe, if_neg ho])
            clear hke hVe hAe HA HV2
            go_wp2
            exact bodyPost_ret (v := nbV (Vb.nTxt n V, false, 0)) (by simp [results, Tryz.results34, go_sem, nbV]) rfl ⟨by rw [unhide HR2], unhide HB⟩
set_option maxRecDepth 100000 in
set_option maxHeartbeats 1000000 in
theorem sNB_d1 (s : ByteArray) (D n : Nat) (w : World) (h : s.size ≤ 1000) (hok : (Nb.numE (L s) 0).2 = true) (he : (Nb.numE (L s) 0).1 = s.size) (h0 : D + 1 < s.size) (hd : ((L s).take D).all Nb.digB = true) (h39 : s[D]'(Nat.lt_of_succ_lt h0) = 39) (hn : Nb.valD ((L s).take D) = n) (hw : 1 ≤ n) (hw2 : n ≤ 64) (h115 : s[D + 1] = 115) (h02 : D + 1 + 1 < s.size) (hb0 : s[D + 1 + 1] = 100) (v : List UInt8) (hv : (L s).drop (D + 1 + 1 + 1) = v) (hvv : v.all Nb.valB = true) (R : List UInt8 × Bool × Nat) (hR : Nb.based n true 100 v = R) :
    Calls Tryz.prog 34 #[.string s] w fun e w' => e = .returned (nbV R) ∧ Below w.heap.size w w' := by
  have N := hide (fun v => fl (sNumber s 0 v (by omega) (by omega)))
  rw [hok, he] at N
  have HD := hide hd
  have HN := hide hn
  have DG39 : Hid (∀ v, Calls Tryz.prog 49 #[.int .u8 39] v fun e w' => e = .returned (.bool false) ∧ v = w') := fun v => fl (sDigit 39 v)
  clear hok he hd hn
  have hx : s.extract (D + 1 + 1 + 1) s.size = S v := by
    apply L_inj; rw [L_extract, L_S, ← hv]
    rw [List.take_of_length_le (by rw [List.length_drop, L_len]; exact Nat.le_refl _)]
  have hvl : v.length = s.size - (D + 1 + 1 + 1) := by rw [← hv, List.length_drop, L_len]
  have HV := hide hv
  have HR := hide hR
  clear hv hR
  have F : Hid (∀ v, Calls Tryz.prog 51 #[.int .u8 48, .int .i64 n] v fun e w' => e = .returned (.string (S (Vb.nTxt n 0))) ∧ Below v.heap.size v w') := fun v => by
    have := sFill 48 n v (by omega)
    have e := Nb.pad_nTxt n 0 0 (by decide)
    rw [show Vb.nTxt 0 0 = [] from rfl, List.append_nil, Nat.add_zero] at e
    rwa [e] at this
  have zv : (S v).size = v.length := S_size v
  go_enter Tryz.func34, Tryz.ntmps34
  go_wp2_with (go_at_call 48; refine (unhide N _).mono ?_; rintro e w' ⟨rfl, rfl⟩)
  go_loop [7, 8] (fun i n => ∃ k : Nat, k ≤ D ∧ i = .int .i64 k ∧ ∃ m : Nat, m ≤ 1099511627776 ∧ m = Nb.lidD ((L s).take k) ∧ n = .int .i64 m) (fun i _ => D - (intOf i).toNat)
  case atStart => exact ⟨0, by omega, rfl, 0, by omega, rfl, rfl⟩
  case round =>
    obtain ⟨k, hk, rfl, m, hm, hml, rfl⟩ := hrel
    have HM := hide hml
    clear hml
    by_cases hks : k < D
    · have hdk : Nb.digB (s[k]'(by omega)) = true := by
        refine List.all_eq_true.1 (unhide HD) _ ?_
        rw [List.mem_take_iff_getElem]
        exact ⟨k, by rw [L_len]; omega, rfl⟩
      have hks' : k < s.size := by omega
      have DG := hide (fun v => fl (sDigit (s[k]'hks') v))
      rw [hdk] at DG
      obtain ⟨e1, e2, e3⟩ := dig_num hdk
      clear hdk h39
      go_wp2_with (go_at_call 49; refine (unhide DG _).mono ?_; rintro e w' ⟨rfl, rfl⟩)
      refine ⟨⟨k + 1, by omega, by go_num, min (m * 10 + (s[k].toNat - 48)) 1099511627776, by omega, ?_, ?_⟩, by simp [intOf]; omega⟩
      · rw [L_take s k hks', Nb.lidD_snoc, ← unhide HM]
      · congr 1; split <;> omega
    · obtain rfl : D = k := by omega
      have hm2 : m = min n 1099511627776 := by rw [unhide HM, Nb.lidD_is, unhide HN]
      have hq : ((D : Int) == (s.size : Int)) = false := by rw [beq_eq_false_iff_ne]; omega
      obtain rfl : n = m := by omega
      have hw1 : ¬ (n : Int) < 1 := by omega
      have hw2 : ¬ (64 : Int) < n := by omega
      clear hm2 HM
      go_wp2_with (first | (go_at_call 49; refine (unhide DG39 _).mono ?_; rintro e w' ⟨rfl, rfl⟩) | (go_at_call 51; refine (unhide F _).mono ?_; rintro e v1 ⟨rfl, hb1⟩))
      have hv1000 : v.length ≤ 1000 := by omega
      clear hx hvl
      have HB1 := hide hb1
      clear hb1
      go_loopw [12, 13, 14] (fun b o i W => ∃ k : Nat, k ≤ v.length ∧ i = .int .i64 k ∧ (v.take k).all Nb.digB = true ∧ ∃ V : Nat, V = Nb.valD (v.take k) ∧ b = .string (S (Vb.nTxt n V)) ∧ o = .bool (decide (2 ^ n ≤ V)) ∧ Below w.heap.size w W) (fun _ _ i _ => v.length - (intOf i).toNat)
      case atStart => exact ⟨0, by omega, rfl, by simp, 0, rfl, rfl, by have := Nat.two_pow_pos n; rw [decide_eq_false (by omega)], unhide HB1⟩
      case round =>
        clear HB1
        obtain ⟨k, hk, rfl, hall, V, hV, rfl, rfl, hB⟩ := hrel
        have HA := hide hall
        have HV2 := hide hV
        have HB := hide hB
        clear hall hV hB
        by_cases hkv : k < v.length
        · have hkz : k < (S v).size := by rw [zv]; exact hkv
          have DG := hide (fun u => fl (sDigit ((S v)[k]'hkz) u))
          cases hdg : Nb.digB ((S v)[k]'hkz)
          · rw [hdg] at DG
            have HR2 : Hid (([], false, 3) = R) := hide (by
              rw [← unhide HR]; unfold Nb.based
              have : v.all Nb.digB = false := by
                rw [List.all_eq_false]; exact ⟨_, mem_S hkz, by rw [hdg]; decide⟩
              rw [if_pos rfl, this, if_neg (by decide)])
            clear hdg
            go_wp2_with (go_at_call 49; refine (unhide DG _).mono ?_; rintro e w' ⟨rfl, rfl⟩)
            exact bodyPost_ret (v := nbV ([], false, 3)) (by simp [results, Tryz.results34, go_sem, nbV, S]) rfl ⟨by rw [unhide HR2], unhide HB⟩
          · rw [hdg] at DG
            obtain ⟨e1, e2, e3⟩ := dig_num hdg
            have hd9 : (S v)[k].toNat - 48 ≤ 9 := by have := dig_range hdg; omega
            have hVn : Nb.valD (v.take (k + 1)) = 10 * V + ((S v)[k].toNat - 48) := by
              have := L_take (S v) k hkz
              rw [L_S] at this
              rw [this, Nb.valD_snoc, ← unhide HV2]
            have hAn : (v.take (k + 1)).all Nb.digB = true := by
              have := L_take (S v) k hkz
              rw [L_S] at this
              rw [this, List.all_append, unhide HA]; simp [hdg]
            have HVN := hide hVn
            have HAN := hide hAn
            clear hVn hAn hdg HA HV2
            generalize (S v)[k].toNat - 48 = d at *
            obtain ⟨s1, s2, s3⟩ := Nb.ten_step V d (2 ^ n) (Nat.two_pow_pos n) hd9
            have hM := Nat.mod_lt V (Nat.two_pow_pos n)
            have eM : S (Vb.nTxt n V) = S (Vb.nTxt n (V % 2 ^ n)) := by rw [Vb.nTxt_congr (u := V) (v := V % 2 ^ n) (by rw [Nat.mod_mod])]
            generalize hMM : V % 2 ^ n = M at *
            have TN := hide (fun u => sTen n M d u (by omega) (by omega) hM hd9)
            rw [← eM] at TN
            have zT : (S (Vb.nTxt (4 + n) (10 * M + d))).size = 4 + n := by rw [S_size, Vb.nTxt_len]
            have x1 : (S (Vb.nTxt (4 + n) (10 * M + d))).extract 0 4 = S (Vb.nTxt 4 ((10 * M + d) / 2 ^ n)) := by
              apply L_inj; rw [L_extract, L_S, L_S, Nb.split_nTxt, List.drop_zero, List.take_left' (by rw [Vb.nTxt_len])]
            have x2 : (S (Vb.nTxt (4 + n) (10 * M + d))).extract 4 (4 + n) = S (Vb.nTxt n (10 * V + d)) := by
              apply L_inj; rw [L_extract, L_S, L_S, Nb.split_nTxt, List.drop_left' (by rw [Vb.nTxt_len]), List.take_of_length_le (by rw [Vb.nTxt_len]; omega)]
              exact Vb.nTxt_congr s1
            have TR := hide (fun u => fl (sTruth (S (Vb.nTxt 4 ((10 * M + d) / 2 ^ n))) u (by rw [S_size, Vb.nTxt_len]; decide)))
            rw [L_S] at TR
            have hPow : 2 ^ n ≤ 10 * M + d ↔ truthL (Vb.nTxt 4 ((10 * M + d) / 2 ^ n)) = 49 := ten_truth n (10 * M + d) s3
            clear eM s1
            generalize S (Vb.nTxt (4 + n) (10 * M + d)) = T at *
            generalize S (Vb.nTxt 4 ((10 * M + d) / 2 ^ n)) = T4 at *
            generalize truthL (Vb.nTxt 4 ((10 * M + d) / 2 ^ n)) = t at *
            have S2 := hide s2
            have HP := hide hPow
            clear s2 s3 hPow hMM
            by_cases ho : 2 ^ n ≤ V
            · have hdo : decide (2 ^ n ≤ V) = true := decide_eq_true ho
              go_wp2_with (first | (go_at_call 49; refine (unhide DG _).mono ?_; rintro e w' ⟨rfl, rfl⟩) | (go_at_call 52; refine (unhide TN _).mono ?_; rintro e v2 ⟨rfl, hb2⟩) | (go_at_call 53; refine (unhide TR _).mono ?_; rintro e w' ⟨rfl, rfl⟩))
              exact ⟨⟨k + 1, by omega, by go_num, unhide HAN, 10 * V + d, (unhide HVN).symm, rfl, by rw [decide_eq_true ((unhide S2).1 (.inl ho))], below_nst (unhide HB) hb2⟩, by simp [intOf]; omega⟩
            · have hdo : decide (2 ^ n ≤ V) = false := decide_eq_false ho
              by_cases ht : t = 49
              · have ht' : ((t.toNat : Int) == 49) = true := by rw [ht]; rfl
                go_wp2_with (first | (go_at_call 49; refine (unhide DG _).mono ?_; rintro e w' ⟨rfl, rfl⟩) | (go_at_call 52; refine (unhide TN _).mono ?_; rintro e v2 ⟨rfl, hb2⟩) | (go_at_call 53; refine (unhide TR _).mono ?_; rintro e w' ⟨rfl, rfl⟩))
                exact ⟨⟨k + 1, by omega, by go_num, unhide HAN, 10 * V + d, (unhide HVN).symm, rfl, by rw [decide_eq_true ((unhide S2).1 (.inr ((unhide HP).2 ht)))], below_nst (unhide HB) hb2⟩, by simp [intOf]; omega⟩
              · have ht' : ((t.toNat : Int) == 49) = false := by rw [beq_eq_false_iff_ne]; intro e; apply ht; rw [← UInt8.toNat_inj]; exact Int.ofNat.inj e
                go_wp2_with (first | (go_at_call 49; refine (unhide DG _).mono ?_; rintro e w' ⟨rfl, rfl⟩) | (go_at_call 52; refine (unhide TN _).mono ?_; rintro e v2 ⟨rfl, hb2⟩) | (go_at_call 53; refine (unhide TR _).mono ?_; rintro e w' ⟨rfl, rfl⟩))
                exact ⟨⟨k + 1, by omega, by go_num, unhide HAN, 10 * V + d, (unhide HVN).symm, rfl, by rw [decide_eq_false (fun hc => by rcases (unhide S2).2 hc with h | h; exact ho h; exact ht ((unhide HP).1 h))], below_nst (unhide HB) hb2⟩, by simp [intOf]; omega⟩
        · have hke : v.take k = v := List.take_of_length_le (by omega)
          have hVe : Nb.valD v = V := by rw [unhide HV2, hke]
          have hAe : v.all Nb.digB = true := by have := unhide HA; rwa [hke] at this
          have hsz : ¬ (k : Int) < v.length := by omega
          by_cases ho : 2 ^ n ≤ V
          · have hdo : decide (2 ^ n ≤ V) = true := decide_eq_true ho
            have HR2 : Hid (([], false, 11) = R) := hide (by
              rw [← unhide HR]; unfold Nb.based; rw [if_pos rfl, if_pos hAe, hVe, if_pos ho])
            clear hke hVe hAe HA HV2
            go_wp2
            exact bodyPost_ret (v := nbV ([], false, 11)) (by simp [results, Tryz.results34, go_sem, nbV, S]) rfl ⟨by rw [unhide HR2], unhide HB⟩
          · have hdo : decide (2 ^ n ≤ V) = false := decide_eq_false ho
            have HR2 : Hid ((Vb.nTxt n V, true, 0) = R) := hide (by
              rw [← unhide HR]; unfold Nb.based; rw [if_pos rfl, if_pos hAe, hVe, if_neg ho])
            clear hke hVe hAe HA HV2
            go_wp2
            exact bodyPost_ret (v := nbV (Vb.nTxt n V, true, 0)) (by simp [results, Tryz.results34, go_sem, nbV]) rfl ⟨by rw [unhide HR2], unhide HB⟩
end Go.Proofs.YtlcpmbdckmdabaaGreatDoor
