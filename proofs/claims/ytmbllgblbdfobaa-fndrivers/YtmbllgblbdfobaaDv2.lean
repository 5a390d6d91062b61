/- The law FnDrivers's walk. -/
import Derived.Test.YtmbllgblbdfobaaDv2a
namespace Go.Proofs.Ytmbllgblbdfobaa
open Go.RowKit
set_option maxRecDepth 100000 in
set_option maxHeartbeats 1000000 in
theorem lDrivers (a a' : Option Addr) (n cap n' cap' : Nat) (w : World) (hB : BL w.heap.size a n w) (hB' : BL w.heap.size a' n' w) :
    Calls Try.prog 5 #[.slice a n cap, .slice a' n' cap'] w fun e w' => e = .returned (.bool true) ∧ Below w.heap.size w w' := by
  obtain ⟨i9, hi9, hy0, hy1, hy2⟩ := info_parts str_info9
  by_cases hn : 1048576 < n
  · have j1 : (1048576 : Int) < n := by omega
    go_enter Try.func5, Try.ntmps5
    go_wp2
    go_ret
    exact ⟨rfl, brf _⟩
  by_cases hn' : 1048576 < n'
  · have j1 : ¬ (1048576 : Int) < n := by omega
    have j2 : (1048576 : Int) < n' := by omega
    go_enter Try.func5, Try.ntmps5
    go_wp2
    go_ret
    exact ⟨rfl, brf _⟩
  have j1 : ¬ (1048576 : Int) < n := by omega
  have j2 : ¬ (1048576 : Int) < n' := by omega
  have HB := hide hB
  have HB' := hide hB'
  clear hB hB'
  go_enter Try.func5, Try.ntmps5
  go_wp2_with fail
  refine (dResolve a n cap _ (by omega) (unhide HB)).mono ?_
  rintro e w1 ⟨⟨g, cp, ss, rfl, hgb, hSL1, hl1, hl6, hcp, hcm, hsz⟩, hb1⟩
  have HZ := hide hsz
  have HSL1 := hide hSL1
  have HB1 := hide hb1
  clear hsz hSL1 hb1 HB
  go_wp2_with fail
  refine (sResolveT _ _ _ ss _ (unhide HSL1) (fun s hs => by have := unhide HZ s hs; unfold maxLen; omega)).mono ?_
  rintro e w2 ⟨rfl, hb2⟩
  have HSL2 := hide (SL_later hb2 (unhide HSL1))
  have HB2 := hide (Below.trans (unhide HB1) (hb2.mono (unhide HB1).size))
  clear hb2 HB1 HSL1
  go_wp2_with fail
  refine (iResolveT _ _ _ ss _ (unhide HSL2) hcp (fun s hs => by have := unhide HZ s hs; unfold maxLen; omega)).mono ?_
  rintro e w3 ⟨rfl, hb3⟩
  have HSL3 := hide (SL_later hb3 (unhide HSL2))
  have HB3 := hide (Below.trans (unhide HB2) (hb3.mono (unhide HB2).size))
  clear hb3 HB2 HSL2
  by_cases hne : resTop ss = []
  · rw [hne]
    have q1 : (S []).toList.isEmpty = true := by rw [ByteArray.toList_eq]; rfl
    go_wp2
    go_ret
    exact ⟨rfl, unhide HB3⟩
  have HNE := hide hne
  have q1 : (S (resTop ss)).toList.isEmpty = false := S_isEmpty hne
  clear hne
  go_wp2
  obtain ⟨w4, hw4⟩ : ∃ z, z = w3 := ⟨_, rfl⟩
  go_loopw [8, 9] (fun v i W => ∃ k : Nat, k ≤ ss.length ∧ i = .int .i64 k ∧ ∃ os : List ByteArray, os.Perm (ss.take k) ∧ OS w3.heap.size v os W ∧ v ≠ .slice none 0 0 ∧ Below w3.heap.size w3 W) (fun _ i _ => ss.length - (intOf i).toNat)
  case atStart => exact ⟨0, Nat.zero_le _, rfl, [], List.Perm.refl _, OS_start (Nat.le_refl _), by simp, bal (brf _) _⟩
  case round =>
    obtain ⟨k, hk, rfl, os, hp, hO, hv, hbel⟩ := hrel
    obtain ⟨gb, c, rfl, hh, hc1, hc2⟩ := OS_some hO hv
    have hol : os.length = k := by rw [hp.length_eq, List.length_take]; omega
    have HP := hide hp
    have HO := hide hO
    have HBL := hide hbel
    have hBM := BL_below (unhide HB') (Below.trans (unhide HB3) (hbel.mono (unhide HB3).size))
    have HBM := hide hBM
    clear hp hO hbel hv hBM
    by_cases hlt : k < ss.length
    · rw [hol]
      go_wp2_with fail
      rw [show ((k : Int) + 1) = ((k + 1 : Nat) : Int) by omega]
      refine (lAt _ a' n' cap' k (k + 1) _ (unhide HBM) (by omega) (by omega) (by omega) (by omega)).mono ?_
      rintro e w5 ⟨⟨r, hr, rfl⟩, nq, rfl⟩
      have b1 : (r : Int) ≤ k := by omega
      have b2 : (k : Int) ≤ c := by omega
      have b3 : (0 : Int) ≤ r := by omega
      have b4 : (r : Int) ≤ c := by omega
      have hcells := OS_cells (unhide HO)
      have HC := hide hcells
      have hlth : gb < wr.heap.size := by have := (World.ownsRow.lt (unhide HO) gb rfl).2; exact this
      clear hcells
      go_wp2_with (first | (at_builtin; refine wpList_append_own _ rfl _ _ 33 rfl wr.heap.size 9 i9 (.string ByteArray.empty) 1 16 Try.underlying33 hi9 hy0 hy1 hy2 rfl (by decide) (.slice (some ⟨wr.heap.size, 0, none⟩) 0 0) 0 [] rfl (OS_start (w := wr.drewN nq) (Nat.le_refl _)) ⟨gb, if c = r then 0 else r, none⟩ (k - r) (c - r) ((os.drop r).map Value.string) (slice_if _ _) (by simp [hol]) (drop_news (unhide HC) hol hc1 (by omega)) (by intro u hu; obtain ⟨x, _, rfl⟩ := List.mem_map.1 hu; rfl) (by unfold maxLen; omega) (by omega) (by simp) ?_; intro v5 w5 hown5 hgrow5 hnil5))
      all_goals
        clear h
        have hO5 : OS wr.heap.size v5 (os.drop r) w5 := by
          have e : 0 + (k - r) = (os.drop r).length := by rw [List.length_drop, hol]; omega
          rw [List.nil_append, e] at hown5; exact hown5
        obtain ⟨h5, c5, rfl, hh5, hc5, hc6⟩ := OS_some hO5 (fun e => by simpa using (hnil5.1 e).1)
        have hdl : (os.drop r).length = k - r := by rw [List.length_drop, hol]
        have hgr5 : Below wr.heap.size wr w5 := (bal (below_drewN (brf wr) nq) _).grown hgrow5 (by simp) (fun b hb => by simp [Value.ownBlock] at hb; omega)
        have hbel5 : Below w3.heap.size w3 w5 := (unhide HBL).trans (hgr5.mono (unhide HBL).size)
        have hSL5 := SL_later hbel5 (unhide HSL3)
        have hCo : ∀ i, (hi : i < os.length) → w5.cell? ⟨gb, i, none⟩ = some (.string os[i]) := fun i hi => cell_later hgr5 (unhide HC i hi)
        have hCr : ∀ i, (hi : i < (os.drop r).length) → w5.cell? ⟨h5, i, none⟩ = some (.string (os.drop r)[i]) := OS_cells hO5
        have hgb5 : gb < w5.heap.size := by have := hgr5.size; omega
        have hh55 : h5 < w5.heap.size := (World.ownsRow.lt hO5 h5 rfl).2
        obtain ⟨g', off', hgo, hlc⟩ := SL_at hSL5 (by omega)
        obtain ⟨rfl, rfl⟩ : g' = g ∧ off' = 0 := by simp at hgo; exact ⟨hgo.1.symm, hgo.2.symm⟩
        have hx5 : w5.cell? ⟨g', k, none⟩ = some (.string ss[k]) := by have := hlc k hlt; rw [Nat.zero_add] at this; exact this
        have hg5 : g' < w5.heap.size := World.block_lt_of_cell? w5 _ hx5
        generalize hxx : ss[k] = x at *
        have ltk : (os.take r).length = r := by rw [List.length_take, hol]; omega
        have c1 : (r : Int) ≤ c := by omega
        have c2 : (k : Int) < ss.length := by omega
        have c3 : (0 : Int) ≤ k := by omega
        go_region_held3 (fun w' => w'.cell? ⟨g', k, none⟩ = some (.string x) ∧ Below w5.heap.size w5 w')
          (first | exact keepA (Nat.le_refl _) hx5 hg5 (by assumption) | exact keepB hx5 hg5 (by assumption) hb61 | exact keepB hx5 hg5 (by assumption) hb67 | exact keepB hx5 hg5 (by assumption) hb69 | exact ⟨hx5, ⟨rfl, rfl, rfl, Nat.le_refl _, fun _ _ => rfl⟩⟩)
          (first
            | (refine stepS (Z := w5.heap.size) rfl _ _ rfl rfl (OS_start' (by first | rfl | (simp; done) | (simp; omega)) (by first | rfl | (simp; done) | (simp; omega))) ⟨gb, 0, none⟩ r _ (os.take r) rfl ltk (row_news (take_cells hCo) hgb5 (by assumption)) (by first | rfl | (simp; done) | (simp; omega)) (by first | rfl | (simp; done) | (simp; omega)) w5.heap.size (Nat.le_refl _) (os.take r) rfl r ltk ?_; intro g61 c61 w61 hown61 hcap61 hcm61 hgrow61 hb61)
            | (refine stepS (Z := w5.heap.size) rfl _ _ rfl rfl (OS_alloc (OS_start' (by first | rfl | (simp; done) | (simp; omega)) (by first | rfl | (simp; done) | (simp; omega))) _) ⟨gb, 0, none⟩ r _ (os.take r) rfl ltk (row_news (take_cells hCo) hgb5 (by assumption)) (by first | rfl | (simp; done) | (simp; omega)) (by first | rfl | (simp; done) | (simp; omega)) w5.heap.size (Nat.le_refl _) (os.take r) rfl r ltk ?_; intro g61 c61 w61 hown61 hcap61 hcm61 hgrow61 hb61)
            | (refine stepS (Z := w5.heap.size) rfl _ _ rfl rfl hown61 ⟨_, 0, none⟩ 1 _ [x] rfl rfl (one_news (hgrow61.cell (one_cell2 (by first | rfl | (simp; done) | (simp; omega))) (by first | rfl | (simp; done) | (simp; omega)))) (by rw [ltk]; omega) (OS_le hown61) w5.heap.size (Nat.le_refl _) (os.take r ++ [x]) rfl (r + 1) (by rw [List.length_append, ltk, List.length_singleton]) ?_; intro g67 c67 w67 hown67 hcap67 hcm67 hgrow67 hb67)
            | (refine stepS (Z := w5.heap.size) rfl _ _ rfl rfl hown61 ⟨_, 0, none⟩ 1 _ [x] rfl rfl (one_news (hgrow61.cell (one_cell' (by first | rfl | (simp; done) | (simp; omega))) (by first | rfl | (simp; done) | (simp; omega)))) (by rw [ltk]; omega) (OS_le hown61) w5.heap.size (Nat.le_refl _) (os.take r ++ [x]) rfl (r + 1) (by rw [List.length_append, ltk, List.length_singleton]) ?_; intro g67 c67 w67 hown67 hcap67 hcm67 hgrow67 hb67)
            | (refine stepS (Z := w5.heap.size) rfl _ _ rfl rfl (OS_alloc hown61 _) ⟨_, 0, none⟩ 1 _ [x] rfl rfl (one_news (one_cell' (by first | rfl | (simp; done) | (simp; omega)))) (by rw [ltk]; omega) (OS_le (OS_alloc hown61 _)) w5.heap.size (Nat.le_refl _) (os.take r ++ [x]) rfl (r + 1) (by rw [List.length_append, ltk, List.length_singleton]) ?_; intro g67 c67 w67 hown67 hcap67 hcm67 hgrow67 hb67)
            | (refine stepS (Z := w5.heap.size) rfl _ _ rfl rfl hown67 ⟨h5, 0, none⟩ (k - r) _ (os.drop r) rfl hdl (row_news hCr hh55 (by assumption)) (by first | (simp [ltk]; done) | (simp [ltk]; omega)) (OS_le hown67) w5.heap.size (Nat.le_refl _) (os.take r ++ [x] ++ os.drop r) rfl (k + 1) (by rw [List.length_append, List.length_append, ltk, hdl, List.length_singleton]; omega) ?_; intro g69 c69 w69 hown69 hcap69 hcm69 hgrow69 hb69))
        all_goals
          have hbF : Below w3.heap.size w3 w69 := by
            have hSf : w69.cell? ⟨g', k, none⟩ = some (.string x) ∧ Below w5.heap.size w5 w69 := by assumption
            exact hbel5.trans (hSf.2.mono (by have := hbel5.size; omega))
          have hOF : OS w3.heap.size (.slice (some ⟨g69, 0, none⟩) (k + 1) c69) (os.take r ++ [x] ++ os.drop r) w69 := OS_mono hown69 hbel5.size
          have hpF : (os.take r ++ [x] ++ os.drop r).Perm (ss.take (k + 1)) := by
            rw [List.take_succ_eq_append_getElem hlt, hxx]
            have p1 : (os.take r ++ [x] ++ os.drop r).Perm (os ++ [x]) := by
              have e : os.take r ++ [x] ++ os.drop r = os.take r ++ ([x] ++ os.drop r) := List.append_assoc _ _ _
              rw [e]
              refine (List.Perm.append_left _ List.perm_append_comm).trans ?_
              rw [← List.append_assoc, List.take_append_drop]
            exact p1.trans (List.Perm.append_right _ (unhide HP))
          have HbF := hide hbF
          have HOF := hide hOF
          have HpF := hide hpF
          clear hbF hOF hpF
          go_wp2
          exact ⟨⟨k + 1, by omega, by go_num, _, unhide HpF, unhide HOF, by simp, unhide HbF⟩, by simp [intOf]; omega⟩
    · have hkk : k = ss.length := by omega
      have hpp : os.Perm ss := by have := unhide HP; rw [hkk, List.take_length] at this; exact this
      have hrt : resTop os = resTop ss := resTop_perm hpp.symm (unhide HNE)
      have hszW : (S (resTop ss)).size = (resTop ss).length := S_size _
      obtain ⟨_, _, m, _, m1, m2, hm⟩ := resTop_ne (unhide HNE)
      rw [hm] at hszW
      have HM := hide hm
      have HRT := hide hrt
      have HPP := hide hpp
      clear hpp hrt hm HP
      obtain ⟨wz, hwz⟩ : ∃ z, z = wr := ⟨_, rfl⟩
      subst hwz
      go_wp2
      go_loop [12, 13] (fun o i => ∃ j : Nat, j ≤ m ∧ i = .int .i64 j ∧ o = .string (S (List.replicate j 122))) (fun _ i => m - (intOf i).toNat)
      case atStart => exact ⟨0, Nat.zero_le _, rfl, rfl⟩
      case round =>
        obtain ⟨j, hj, rfl, rfl⟩ := hrel
        have hz : (S (List.replicate j 122)).size = j := by rw [S_size]; simp
        have st : S (List.replicate j 122) ++ (⟨#[122]⟩ : ByteArray) = S (List.replicate (j + 1) 122) := by rw [List.replicate_succ']; exact S_snoc _ _
        have ST := hide st
        clear st
        by_cases hlt : j < m
        · generalize S (List.replicate j 122) = T at *
          go_wp2
          exact ⟨⟨j + 1, by omega, by go_num, congrArg Value.string (unhide ST)⟩, by simp [intOf]; omega⟩
        · have hjm : j = m := by omega
          subst hjm
          clear ST hz
          have hZo : ∀ s ∈ os, s.size ≤ maxLen := fun s hs => by have := unhide HZ s ((unhide HPP).subset hs); unfold maxLen; omega
          have hSLo : SL (some ⟨gb, 0, none⟩) ss.length os wz := ⟨by omega, .inr ⟨gb, 0, rfl, fun i hi => by rw [Nat.zero_add]; exact OS_cells (unhide HO) i hi⟩⟩
          have HZO := hide hZo
          have HSLO := hide hSLo
          clear hZo hSLo
          go_wp2_with fail
          refine (iResolveT _ _ _ os _ (unhide HSLO) (by omega) (unhide HZO)).mono ?_
          rintro e w6 ⟨rfl, hb6⟩
          rw [unhide HRT]
          have hbel6 : Below w3.heap.size w3 w6 := (unhide HBL).trans (hb6.mono (unhide HBL).size)
          have HSL6 := hide (SL_later hbel6 (unhide HSL3))
          have HBM6 := hide (BL_below (unhide HBM) (hb6.mono (by have h1 := (unhide HB3).size; have h2 := (unhide HBL).size; omega)))
          have HB6 := hide hbel6
          have s1 : ¬ (4096 : Int) < (ss.length : Int) + 2 := by omega
          clear hbel6 hb6
          have hT : (S (List.replicate j 122)).size = j := by rw [S_size]; simp
          have HTT : Hid (S (List.replicate j 122) = S (List.replicate (resTop ss).length 122)) := by show _ = _; rw [unhide HM]
          generalize S (List.replicate j 122) = T at *
          go_wp2_with (first | (at_builtin; refine listS (Z := w6.heap.size) rfl _ _ rfl rfl (OS_lit (by first | rfl | (simp; done) | (simp; omega)) (by first | rfl | (simp; done) | (simp; omega))) ⟨g, 0, none⟩ ss.length _ ss rfl rfl (SL_news (unhide HSL6) (bal (brf _) _)) (by simp; omega) (by first | rfl | (simp; done) | (simp; omega)) w6.heap.size (Nat.le_refl _) ([T] ++ ss) rfl (1 + ss.length) (by simp; omega) ?_; intro g7 c7 w7 hown7 hcap7 hcm7 hgrow7 hb7))
          have hb67 : Below w6.heap.size w6 w7 := (bal (brf w6) _).trans hb7
          have hSL7 := SL_later hb67 (unhide HSL6)
          have HSL7 := hide hSL7
          have HBM7 := hide (BL_below (unhide HBM6) (hb67.mono (by have h1 := (unhide HB3).size; have h2 := (unhide HB6).size; omega)))
          have HB7 := hide ((unhide HB6).trans (hb67.mono (unhide HB6).size))
          have hs67 := hb67.size
          have HOW7 := hide hown7
          clear hSL7 hb67 hb7 hgrow7 hown7
          refine (lAt _ a' n' cap' 5 ss.length _ (unhide HBM7) (by omega) (by omega) (by omega) (by omega)).mono ?_
          rintro e w8 ⟨⟨r, hr, rfl⟩, nq, rfl⟩
          obtain ⟨g', off', hgo, hlc⟩ := SL_at (unhide HSL7) (by omega)
          obtain ⟨rfl, rfl⟩ : g' = g ∧ off' = 0 := by simp at hgo; exact ⟨hgo.1.symm, hgo.2.symm⟩
          have hx7 : w7.cell? ⟨g', r, none⟩ = some (.string ss[r]) := by have := hlc r hr; rw [Nat.zero_add] at this; exact this
          have hx0 : w7.cell? ⟨g', 0, none⟩ = some (.string ss[0]) := hlc 0 (by omega)
          have HR : Hid (ss[r] ∈ ss) := List.getElem_mem hr
          have t1 : (r : Int) < ss.length := by omega
          have t2 : (0 : Int) ≤ r := by omega
          have hle7 : w6.heap.size ≤ w7.heap.size := hs67
          clear hlc hgo
          generalize hxr : ss[r] = x at *
          have HXR := hide hxr
          clear hxr
          go_wp2_with (first | (at_builtin; refine listS (Z := w6.heap.size) rfl _ _ rfl rfl (OS_alloc (w := w7.drewN nq) (unhide HOW7) _) ⟨_, 0, none⟩ 1 _ [x] rfl rfl (one_news (one_cell' (by first | rfl | (simp; done) | (simp; omega)))) (by simp; omega) (by first | rfl | (simp; done) | (simp; omega)) w6.heap.size (Nat.le_refl _) ([T] ++ ss ++ [x]) rfl (ss.length + 2) (by simp) ?_; intro g9 c9 w9 hown9 hcap9 hcm9 hgrow9 hb9))
          have hb79 : Below w6.heap.size w7 w9 := (bal' (below_drewN (brf w7) nq) _ hs67).trans hb9
          have hbA : Below w3.heap.size w7 w9 := hb79.mono (unhide HB6).size
          have hg37 : g' < w3.heap.size := SL_lt (unhide HSL3) (by omega)
          have hx9 : w9.cell? ⟨g', 0, none⟩ = some (.string ss[0]) := by rw [World.cell?_of_block (hbA.block g' hg37)]; exact hx0
          have hg9 : g' < w9.heap.size := World.block_lt_of_cell? w9 _ hx9
          have hfin : Below w.heap.size w w9 := ((unhide HB3).trans ((unhide HB7).mono (unhide HB3).size)).trans (hbA.mono (unhide HB3).size)
          have hzz : ∀ s ∈ ([T] ++ ss ++ [x]), s.size ≤ maxLen := by
            intro s hs
            rcases List.mem_append.1 hs with hs | hs
            · rcases List.mem_append.1 hs with hs | hs
              · rw [List.mem_singleton] at hs; subst hs; rw [hT]; unfold maxLen; omega
              · have := unhide HZ s hs; unfold maxLen; omega
            · rw [List.mem_singleton] at hs; subst hs; have := unhide HZ _ (unhide HR); unfold maxLen; omega
          have htw : resTop ([T] ++ ss ++ [x]) = resTop ss := resTop_twice (l := ss) (unhide HNE) (by omega) (unhide HR) (unhide HTT)
          have hl2 : ([T] ++ ss ++ [x]).length = ss.length + 2 := by simp
          have C1 : Hid (∀ W, (W.cell? ⟨g', 0, none⟩ = some (.string ss[0]) ∧ Below w9.heap.size w9 W) → Calls Try.prog 33 #[.slice (some ⟨g9, 0, none⟩) (ss.length + 2) c9] W fun e w' => e = .returned (.string (S (resTop ss))) ∧ Below w9.heap.size W w') := by
            intro W hW
            have hSLt : SL (some ⟨g9, 0, none⟩) (ss.length + 2) ([T] ++ ss ++ [x]) W := by
              have h0 : OS w6.heap.size (.slice (some ⟨g9, 0, none⟩) ([T] ++ ss ++ [x]).length c9) ([T] ++ ss ++ [x]) w9 := by rw [hl2]; exact hown9
              exact ⟨hl2, .inr ⟨g9, 0, rfl, fun i hi => by rw [Nat.zero_add]; exact cell_later hW.2 (OS_cells h0 i hi)⟩⟩
            have := iResolveT (some ⟨g9, 0, none⟩) (ss.length + 2) c9 ([T] ++ ss ++ [x]) W hSLt hcap9 hzz
            rw [htw] at this
            exact this.mono fun e w' ⟨h1, h2⟩ => ⟨h1, h2.mono hW.2.size⟩
          have hone : resTop [ss[0]] = L ss[0] := by
            have h1 := unhide HNE
            have e : ss = ss[0] :: ss.tail := by cases ss with | nil => simp at hl1 | cons _ _ => rfl
            rw [e] at h1
            exact resTop_one h1
          have C2 : Hid (∀ W, (W.cell? ⟨g', 0, none⟩ = some (.string ss[0]) ∧ Below w9.heap.size w9 W) → Calls Try.prog 33 #[.slice (some ⟨g', 0, none⟩) 1 cp] W fun e w' => e = .returned (.string ss[0]) ∧ Below w9.heap.size W w') := by
            intro W hW
            have hSLt : SL (some ⟨g', 0, none⟩) 1 [ss[0]] W := ⟨rfl, .inr ⟨g', 0, rfl, fun i hi => by
              have : i = 0 := by simpa using hi
              subst this
              exact hW.1⟩⟩
            have := iResolveT (some ⟨g', 0, none⟩) 1 cp [ss[0]] W hSLt (by omega) (fun s hs => by rw [List.mem_singleton] at hs; subst hs; have := unhide HZ ss[0] (List.getElem_mem _); unfold maxLen; omega)
            rw [hone, S_L] at this
            exact this.mono fun e w' ⟨h1, h2⟩ => ⟨h1, h2.mono hW.2.size⟩
          have HFIN := hide hfin
          have t3 : (1 : Int) ≤ cp := by omega
          have t4 : (0 : Int) < ss.length := by omega
          have t5 : ¬ ss = [] := fun e => by rw [e] at hl1; simp at hl1
          have t6 : 0 < ss.length := by omega
          clear hzz htw hl2 hone hfin hb79 hbA hown9 hx7 hx0
          generalize ss[0] = s0 at *
          go_region_held3 (fun w' => w'.cell? ⟨g', 0, none⟩ = some (.string s0) ∧ Below w9.heap.size w9 w')
            (first | exact keepB hx9 hg9 (by assumption) hb10 | exact keepB hx9 hg9 (by assumption) hb11 | exact ⟨hx9, ⟨rfl, rfl, rfl, Nat.le_refl _, fun _ _ => rfl⟩⟩)
            (first
              | (go_at_call_of 33 (Value.slice (some ⟨g', 0, none⟩) 1 cp); refine (unhide C2 _ (by assumption)).mono ?_; rintro e w11 ⟨rfl, hb11⟩)
              | (go_at_call 33; refine (unhide C1 _ (by assumption)).mono ?_; rintro e w10 ⟨rfl, hb10⟩))
          have hSf : w11.cell? ⟨g', 0, none⟩ = some (.string s0) ∧ Below w9.heap.size w9 w11 := by assumption
          have HSF := hide hSf
          clear hSf
          go_wp2
          go_ret
          exact ⟨rfl, (unhide HFIN).trans ((unhide HSF).2.mono (unhide HFIN).size)⟩
theorem lDriversP (a : Option Addr) (n cap : Nat) (a' : Option Addr) (n' cap' : Nat) (w : World) (hB : BL w.heap.size a n w) (hB' : BL w.heap.size a' n' w) :
    Calls Try.prog 5 #[.slice a n cap, .slice a' n' cap'] w fun e w' => e = .returned (.bool true) ∧ Below w.heap.size w w' := lDrivers a a' n cap n' cap' w hB hB'
end Go.Proofs.Ytmbllgblbdfobaa
