/- What the specification's Tokens answers: the tokens of the text, in a row of its own. -/
import Derived.Test.YtdgiidlaafbgcaaDoorTS2
import Derived.Deep.QuietTactic
import Derived.BigQuiet
namespace Go.Proofs.YtdgiidlaafbgcaaDoor
open Go.RowKit
set_option linter.unusedVariables false
set_option maxRecDepth 100000 in
set_option maxHeartbeats 2000000 in
theorem sTokens (s : ByteArray) (w : World) (hs : s.size ≤ 65536) (R : List Nb.Tk × Nat × Nat) (hR : Nb.toksL (L s) 0 [] = R) :
    Calls Tryd.prog 4 #[.string s] w fun e w' => (∃ v, e = .returned (.tuple #[v, .int .i64 (R.2.1 : Nat), .int .i64 (R.2.2 : Nat)]) ∧ OT w.heap.size v R.1 w') ∧ Below w.heap.size w w' := by
  have hl : (L s).length = s.size := L_len s
  have HR := hide hR
  clear hR
  have M := hide (fun v => sMarksB v)
  go_enter Tryd.func4, Tryd.ntmps4
  go_wp2_with (go_at_call 9; refine (unhide M _).mono ?_; rintro e v1 ⟨rfl, hb1, hr1⟩)
  have HSI := hide (SI_start w v1 hb1 hr1)
  clear hb1 hr1
  go_loopw [6, 8] (fun v i wr => ∃ (a : Nat) (out : List Nb.Tk), i = .int .i64 a ∧ a ≤ s.size ∧ SI w v out wr ∧ out.length ≤ 16384 ∧ Nb.toksL (L s) a out = R) (fun v i wr => s.size - (intOf i).toNat)
  case atStart => exact ⟨0, [], rfl, Nat.zero_le _, unhide HSI, Nat.zero_le _, unhide HR⟩
  case round =>
    clear HSI
    obtain ⟨a, out, rfl, ha, hSI, hol, hr⟩ := hrel
    have HSI := hide hSI
    have HT := hide hr
    clear hSI hr HR M
    by_cases has : a < s.size
    · by_cases h1 : s[a] = 32 ∨ s[a] = 10
      · have HS := hide ((Nb.toksL_skip (l := L s) (a := a) (out := out) (by omega) h1).symm.trans (unhide HT))
        have q : ((s[a].toNat : Int) == 32) = true ∨ (((s[a].toNat : Int) == 32) = false ∧ ((s[a].toNat : Int) == 10) = true) := by
          rcases h1 with e | e
          · exact .inl (by rw [e]; rfl)
          · exact .inr ⟨by rw [e]; rfl, by rw [e]; rfl⟩
        clear h1 HT
        rcases q with q1 | ⟨q1, q2⟩
        all_goals
          go_wp2
          exact ⟨⟨a + 1, out, by go_num, by omega, unhide HSI, hol, unhide HS⟩, by simp [intOf]; omega⟩
      · have q1 : ((s[a].toNat : Int) == 32) = false := u8x (fun e => h1 (.inl e))
        have q2 : ((s[a].toNat : Int) == 10) = false := u8x (fun e => h1 (.inr e))
        have H1 : Hid (¬ ((L s)[a]'(by omega) = 32 ∨ (L s)[a]'(by omega) = 10)) := hide h1
        clear h1
        obtain ⟨c1, c2, rfl⟩ := SI_shape (unhide HSI)
        have LT := hide (fun v => sLetter s[a] v)
        cases hlet : Nb.letB s[a] with
        | true =>
          rw [hlet] at LT
          obtain ⟨D, hD⟩ : ∃ D, Nb.runE Nb.nmB (L s) (a + 1) = D := ⟨_, rfl⟩
          have RN := hide (fun v => sRun s a D v (by omega) has hlet hD)
          have hk := Nb.tokL_name (l := L s) (a := a) (by omega) hlet
          rw [hD] at hk
          have hle := Nb.runE_le (p := Nb.nmB) (l := L s) (i := a + 1) (by omega)
          have hge := Nb.le_runE Nb.nmB (L s) (a + 1)
          rw [hD] at hle hge
          have hDa : a < D := by omega
          have hDs : D ≤ s.size := by omega
          clear hle hge
          clear hlet hD
          by_cases h24 : 24 < D - a
          · rw [if_pos h24] at hk
            have HE := hide ((Nb.toksL_bad (l := L s) (a := a) (out := out) (by omega) (unhide H1) (by rw [hk]; decide)).symm.trans (unhide HT))
            rw [hk] at HE
            clear hk HT H1
            go_wp2_with (first | (go_at_call 10; refine (unhide LT _).mono ?_; rintro e w' ⟨rfl, rfl⟩) | (go_at_call 11; refine (unhide RN _).mono ?_; rintro e w' ⟨rfl, rfl⟩))
            have hRe := unhide HE
            subst hRe
            exact bodyPost_ret (v := .tuple #[.slice (some ⟨w.heap.size, 0, none⟩) 0 0, .int .i64 5, .int .i64 (a : Nat)]) (by simp [results, Tryd.results4, go_sem]) rfl ⟨⟨_, rfl, SI_none (unhide HSI) (bal (brf wr) _)⟩, below_step (unhide HSI).2.2.2 (bal (brf wr) _)⟩
          · rw [if_neg h24] at hk
            by_cases hm : out.length = 16384
            · have HE := hide ((Nb.toksL_many (l := L s) (a := a) (out := out) (by omega) (unhide H1) (by rw [hk]) hm).symm.trans (unhide HT))
              have q5 : ((out.length : Int) == 16384) = true := by rw [beq_iff_eq]; omega
              clear hk HT H1
              go_wp2_with (first | (go_at_call 10; refine (unhide LT _).mono ?_; rintro e w' ⟨rfl, rfl⟩) | (go_at_call 11; refine (unhide RN _).mono ?_; rintro e w' ⟨rfl, rfl⟩))
              have hRe := unhide HE
              subst hRe
              exact bodyPost_ret (v := .tuple #[.slice (some ⟨w.heap.size, 0, none⟩) 0 0, .int .i64 10, .int .i64 (a : Nat)]) (by simp [results, Tryd.results4, go_sem]) rfl ⟨⟨_, rfl, SI_none (unhide HSI) (bal (brf wr) _)⟩, below_step (unhide HSI).2.2.2 (bal (brf wr) _)⟩
            · have HE := hide ((Nb.toksL_step (l := L s) (a := a) (out := out) (by omega) (unhide H1) (by rw [hk]) hm).symm.trans (unhide HT))
              rw [hk, show a + (0, 1, D - a).2.2 = D by show a + (D - a) = D; omega] at HE
              have q5 : ((out.length : Int) == 16384) = false := beq_eq_false_iff_ne.2 (by omega)
              have HX : Hid (s.extract a D = S (((L s).drop a).take (D - a))) := hide (by apply L_inj; rw [L_extract, L_S])
              have HLN : Hid ((out ++ [(⟨1, ((L s).drop a).take (D - a), a⟩ : Nb.Tk)]).length ≤ 16384) := hide (by rw [List.length_append, List.length_singleton]; omega)
              have HME : Hid (s.size - (intOf (.int .i64 (D : Int))).toNat < s.size - (intOf (.int .i64 (a : Int))).toNat) := hide (by simp only [intOf]; omega)
              clear hk HT H1
              obtain ⟨i31, hi, hz0, hz1, hz2⟩ := info_parts info31
              go_wp2_with (first | (go_at_call 10; refine (unhide LT _).mono ?_; rintro e w' ⟨rfl, rfl⟩) | (go_at_call 11; refine (unhide RN _).mono ?_; rintro e w' ⟨rfl, rfl⟩) | (at_builtin; refine wpList_append_own _ rfl (.tmp 129) (.tmp 131) 22 rfl (w.heap.size + 1) 31 i31 _ 3 32 Tryd.underlying22 hi hz0 hz1 hz2 rfl (by decide) _ out.length (tkC out) rfl (World.ownsRow.alloc (World.ownsRow.alloc (unhide HSI).1 _) _) ⟨_, 0, none⟩ 1 1 [.int .i64 1, .string (s.extract a D), .int .i64 (a : Nat)] rfl rfl (news3 _ _ _ _ _ (by simp)) (one3 _ _ _) (by unfold maxLen; omega) (by omega) (by have := (unhide HSI).2.2.2.size; have := World.ownsRow.lt (unhide HSI).1; have := (Array.getElem?_eq_some_iff.1 (unhide HSI).2.1).1; simp; omega) ?_; intro v' w1 hown' hgrow _; obtain ⟨g, cap, rfl, hgB, hce⟩ := own_last hown'))
              rw [unhide HX] at hown'
              exact ⟨⟨D, _, rfl, hDs, SI_grow (t := ⟨1, ((L s).drop a).take (D - a), a⟩) (SI_later (unhide HSI) (bal (bal (brf wr) _) _)) hown' hgrow, unhide HLN, unhide HE⟩, unhide HME⟩
        | false =>
          rw [hlet] at LT
          have DG := hide (fun v => sDigit s[a] v)
          cases hdig : Nb.digB s[a] with
          | true =>
            rw [hdig] at DG
            have NM := hide (fun v => sNumber s a v (by omega) (by omega))
            have hk := Nb.tokL_num (l := L s) (a := a) (by omega) hdig
            have hle := Nb.numE_le (L s) a (by omega)
            have hps := @Nb.numE_pos (L s) a
            generalize Nb.numE (L s) a = DO at *
            obtain ⟨D, ok⟩ := DO
            clear hlet hdig
            cases ok with
            | false =>
              rw [if_neg (by simp)] at hk
              have HE := hide ((Nb.toksL_bad (l := L s) (a := a) (out := out) (by omega) (unhide H1) (by rw [hk]; decide)).symm.trans (unhide HT))
              rw [hk] at HE
              clear hk HT H1
              go_wp2_with (first | (go_at_call 10; refine (unhide LT _).mono ?_; rintro e w' ⟨rfl, rfl⟩) | (go_at_call 12; refine (unhide DG _).mono ?_; rintro e w' ⟨rfl, rfl⟩) | (go_at_call 13; refine (unhide NM _).mono ?_; rintro e w' ⟨rfl, rfl⟩))
              have hRe := unhide HE
              subst hRe
              exact bodyPost_ret (v := .tuple #[.slice (some ⟨w.heap.size, 0, none⟩) 0 0, .int .i64 3, .int .i64 (a : Nat)]) (by simp [results, Tryd.results4, go_sem]) rfl ⟨⟨_, rfl, SI_none (unhide HSI) (bal (brf wr) _)⟩, below_step (unhide HSI).2.2.2 (bal (brf wr) _)⟩
            | true =>
              rw [if_pos rfl] at hk
              have hDa : a < D := hps rfl
              have hDs : D ≤ s.size := by have := hle.2; simp only at this; omega
              clear hle hps
              simp only at hk NM
              by_cases hm : out.length = 16384
              · have HE := hide ((Nb.toksL_many (l := L s) (a := a) (out := out) (by omega) (unhide H1) (by rw [hk]) hm).symm.trans (unhide HT))
                have q5 : ((out.length : Int) == 16384) = true := by rw [beq_iff_eq]; omega
                clear hk HT H1
                go_wp2_with (first | (go_at_call 10; refine (unhide LT _).mono ?_; rintro e w' ⟨rfl, rfl⟩) | (go_at_call 12; refine (unhide DG _).mono ?_; rintro e w' ⟨rfl, rfl⟩) | (go_at_call 13; refine (unhide NM _).mono ?_; rintro e w' ⟨rfl, rfl⟩))
                have hRe := unhide HE
                subst hRe
                exact bodyPost_ret (v := .tuple #[.slice (some ⟨w.heap.size, 0, none⟩) 0 0, .int .i64 10, .int .i64 (a : Nat)]) (by simp [results, Tryd.results4, go_sem]) rfl ⟨⟨_, rfl, SI_none (unhide HSI) (bal (brf wr) _)⟩, below_step (unhide HSI).2.2.2 (bal (brf wr) _)⟩
              · have HE := hide ((Nb.toksL_step (l := L s) (a := a) (out := out) (by omega) (unhide H1) (by rw [hk]) hm).symm.trans (unhide HT))
                rw [hk, show a + (0, 2, D - a).2.2 = D by show a + (D - a) = D; omega] at HE
                have q5 : ((out.length : Int) == 16384) = false := beq_eq_false_iff_ne.2 (by omega)
                have HX : Hid (s.extract a D = S (((L s).drop a).take (D - a))) := hide (by apply L_inj; rw [L_extract, L_S])
                have HLN : Hid ((out ++ [(⟨2, ((L s).drop a).take (D - a), a⟩ : Nb.Tk)]).length ≤ 16384) := hide (by rw [List.length_append, List.length_singleton]; omega)
                have HME : Hid (s.size - (intOf (.int .i64 (D : Int))).toNat < s.size - (intOf (.int .i64 (a : Int))).toNat) := hide (by simp only [intOf]; omega)
                clear hk HT H1
                obtain ⟨i31, hi, hz0, hz1, hz2⟩ := info_parts info31
                go_wp2_with (first | (go_at_call 10; refine (unhide LT _).mono ?_; rintro e w' ⟨rfl, rfl⟩) | (go_at_call 12; refine (unhide DG _).mono ?_; rintro e w' ⟨rfl, rfl⟩) | (go_at_call 13; refine (unhide NM _).mono ?_; rintro e w' ⟨rfl, rfl⟩) | (at_builtin; refine wpList_append_own _ rfl (.tmp 129) (.tmp 131) 22 rfl (w.heap.size + 1) 31 i31 _ 3 32 Tryd.underlying22 hi hz0 hz1 hz2 rfl (by decide) _ out.length (tkC out) rfl (World.ownsRow.alloc (World.ownsRow.alloc (unhide HSI).1 _) _) ⟨_, 0, none⟩ 1 1 [.int .i64 2, .string (s.extract a D), .int .i64 (a : Nat)] rfl rfl (news3 _ _ _ _ _ (by simp)) (one3 _ _ _) (by unfold maxLen; omega) (by omega) (by have := (unhide HSI).2.2.2.size; have := World.ownsRow.lt (unhide HSI).1; have := (Array.getElem?_eq_some_iff.1 (unhide HSI).2.1).1; simp; omega) ?_; intro v' w1 hown' hgrow _; obtain ⟨g, cap, rfl, hgB, hce⟩ := own_last hown'))
                rw [unhide HX] at hown'
                exact ⟨⟨D, _, rfl, hDs, SI_grow (t := ⟨2, ((L s).drop a).take (D - a), a⟩) (SI_later (unhide HSI) (bal (bal (brf wr) _) _)) hown' hgrow, unhide HLN, unhide HE⟩, unhide HME⟩
          | false =>
            rw [hdig] at DG
            have hk := Nb.tokL_mark (l := L s) (a := a) (by omega) hlet hdig
            have HK := hide hk
            clear hlet hdig hk
            go_wp2_with (first | (go_at_call 10; refine (unhide LT _).mono ?_; rintro e w' ⟨rfl, rfl⟩) | (go_at_call 12; refine (unhide DG _).mono ?_; rintro e w' ⟨rfl, rfl⟩))
            have HBA : Hid (Below wr.heap.size wr (wr.alloc (Obj.cells #[Value.int IntKind.i64 3, Value.string { data := #[] }, Value.int IntKind.i64 ↑a] 31))) := hide (bal (brf wr) _)
            have HBN : Hid ((wr.alloc (Obj.cells #[Value.int IntKind.i64 3, Value.string { data := #[] }, Value.int IntKind.i64 ↑a] 31)).heap[wr.heap.size]? = some (Obj.cells #[Value.int IntKind.i64 3, Value.string { data := #[] }, Value.int IntKind.i64 ↑a] 31 (0, 0))) := hide (World.alloc_heap_new wr _)
            go_loopw [11, 14] (fun x y wx => ∃ (k e : Nat), x = .int .i64 e ∧ y = .int .i64 k ∧ k ≤ 36 ∧ ((a = e ∧ ∀ j, j < k → (Nb.marksL.getD j []).isPrefixOf ((L s).drop a) = false) ∨ (a < e ∧ e ≤ s.size ∧ ∃ m, Nb.markL ((L s).drop a) = some m ∧ e = a + m.length)) ∧ Below wr.heap.size wr wx ∧ wx.heap[wr.heap.size]? = some (Obj.cells #[Value.int IntKind.i64 3, Value.string { data := #[] }, Value.int IntKind.i64 ↑a] 31 (0, 0))) (fun x y wx => 36 - (intOf y).toNat)
            case atStart => exact ⟨0, a, rfl, rfl, Nat.zero_le _, .inl ⟨rfl, fun j hj => absurd hj (Nat.not_lt_zero _)⟩, unhide HBA, unhide HBN⟩
            case round =>
              clear HBA HBN
              obtain ⟨k, e, rfl, rfl, hk, hst, hbx, hcx⟩ := hrel
              have HBX := hide hbx
              have HCX := hide hcx
              clear hbx hcx
              rcases hst with ⟨rfl, hno⟩ | ⟨hae, hes, m, hm, hem⟩
              · by_cases hk2 : k < 36
                · have hmk := SI_mark (SI_later (unhide HSI) (unhide HBX)) k hk2
                  have q6 : (k : Int) < 36 := by omega
                  generalize hmm : Nb.marksL.getD k [] = m at hmk
                  have zm : (S m).size = m.length := S_size m
                  have hmp : 0 < m.length ∧ m.length ≤ 3 := by
                    have := List.all_eq_true.1 Nb.marksL_pos (Nb.marksL.getD k []) (by rw [List.getD_eq_getElem?_getD, List.getElem?_eq_getElem (by rw [marksL_len]; omega)]; exact List.getElem_mem _)
                    rw [hmm] at this
                    simpa using this
                  have HMM := hide hmm
                  have HNO := hide hno
                  clear hmm hno
                  by_cases hfit : a + m.length ≤ s.size
                  · have q7 : (a : Int) + (m.length : Int) ≤ (s.size : Int) := by omega
                    have q8 : decide ((a : Int) + (m.length : Int) ≤ (s.size : Int)) = true := decide_eq_true q7
                    by_cases hp : s.extract a (a + m.length) = S m
                    · have q9 := eqS_t hp
                      have hpr := (pre_is s a m).2 hp
                      have HF : Hid (Nb.markL ((L s).drop a) = some m) := hide (by
                        unfold Nb.markL
                        rw [find_at (fun m : List UInt8 => m.isPrefixOf ((L s).drop a)) [] Nb.marksL k (unhide HNO) (by rw [marksL_len]; omega) (by rw [unhide HMM]; exact hpr), unhide HMM])
                      clear hp hpr
                      go_wp2
                      go_quiet (fail)
                      go_wp2
                      exact ⟨⟨k + 1, a + m.length, by go_num, by go_num, by omega, .inr ⟨by omega, by omega, m, unhide HF, rfl⟩, below_drewN (unhide HBX) _, unhide HCX⟩, by simp [intOf]; omega⟩
                    · have q9 := eqS_f hp
                      have hpr : m.isPrefixOf ((L s).drop a) = false := by rw [← Bool.not_eq_true, pre_is]; exact hp
                      have HF := hide hpr
                      clear hp hpr
                      go_wp2
                      go_quiet (fail)
                      go_wp2
                      exact ⟨⟨k + 1, a, rfl, by go_num, by omega, .inl ⟨rfl, fun j hj => by
                        by_cases ej : j = k
                        · subst ej; rw [unhide HMM]; exact unhide HF
                        · exact unhide HNO j (by omega)⟩, below_drewN (unhide HBX) _, unhide HCX⟩, by simp [intOf]; omega⟩
                  · have q7 : decide ((a : Int) + (m.length : Int) ≤ (s.size : Int)) = false := decide_eq_false (by omega)
                    have HF : Hid (m.isPrefixOf ((L s).drop a) = false) := hide (by
                      rw [← Bool.not_eq_true]; intro h; exact hfit (pre_len s a m (by omega) h))
                    go_wp2
                    go_quiet (fail)
                    go_wp2
                    exact ⟨⟨k + 1, a, rfl, by go_num, by omega, .inl ⟨rfl, fun j hj => by
                      by_cases ej : j = k
                      · subst ej; rw [unhide HMM]; exact unhide HF
                      · exact unhide HNO j (by omega)⟩, below_drewN (unhide HBX) _, unhide HCX⟩, by simp [intOf]; omega⟩
                · obtain rfl : k = 36 := by omega
                  have hnone : Nb.markL ((L s).drop a) = none := by
                    unfold Nb.markL
                    exact find_no (fun m : List UInt8 => m.isPrefixOf ((L s).drop a)) [] Nb.marksL (fun j hj => hno j (by rw [marksL_len] at hj; omega))
                  have hk3 := unhide HK
                  rw [hnone] at hk3
                  simp only at hk3
                  have HE := hide ((Nb.toksL_bad (l := L s) (a := a) (out := out) (by omega) (unhide H1) (by rw [hk3]; decide)).symm.trans (unhide HT))
                  rw [hk3] at HE
                  clear hk3 HT H1 hno hnone HK
                  go_wp2
                  have hRe := unhide HE
                  subst hRe
                  exact bodyPost_ret (v := .tuple #[.slice (some ⟨w.heap.size, 0, none⟩) 0 0, .int .i64 3, .int .i64 (a : Nat)]) (by simp [results, Tryd.results4, go_sem]) rfl ⟨⟨_, rfl, SI_none (unhide HSI) (unhide HBX)⟩, below_step (unhide HSI).2.2.2 (unhide HBX)⟩
              · have hk3 := unhide HK
                rw [hm] at hk3
                simp only at hk3
                have q6 : ((e : Int) == (a : Int)) = false := beq_eq_false_iff_ne.2 (by omega)
                obtain ⟨t0, t1, t2, f0, f1, f2⟩ := T3 (unhide HCX)
                clear HK hm
                by_cases hmn : out.length = 16384
                · have HE := hide ((Nb.toksL_many (l := L s) (a := a) (out := out) (by omega) (unhide H1) (by rw [hk3]) hmn).symm.trans (unhide HT))
                  have q5 : ((out.length : Int) == 16384) = true := by rw [beq_iff_eq]; omega
                  clear hk3 HT H1
                  go_wp2
                  all_goals
                    have hRe := unhide HE
                    subst hRe
                    exact bodyPost_ret (v := .tuple #[.slice (some ⟨w.heap.size, 0, none⟩) 0 0, .int .i64 10, .int .i64 (a : Nat)]) (by simp [results, Tryd.results4, go_sem]) rfl ⟨⟨_, rfl, SI_none (unhide HSI) (unhide HBX)⟩, below_step (unhide HSI).2.2.2 (unhide HBX)⟩
                · have HE := hide ((Nb.toksL_step (l := L s) (a := a) (out := out) (by omega) (unhide H1) (by rw [hk3]) hmn).symm.trans (unhide HT))
                  rw [hk3] at HE
                  simp only at HE
                  rw [← hem] at HE
                  have q5 : ((out.length : Int) == 16384) = false := beq_eq_false_iff_ne.2 (by omega)
                  have HX : Hid (s.extract a e = S (((L s).drop a).take m.length)) := hide (by apply L_inj; rw [L_extract, L_S, hem, show a + m.length - a = m.length by omega])
                  have HLN : Hid ((out ++ [(⟨3, ((L s).drop a).take m.length, a⟩ : Nb.Tk)]).length ≤ 16384) := hide (by rw [List.length_append, List.length_singleton]; omega)
                  have HME : Hid (s.size - (intOf (.int .i64 (e : Int))).toNat < s.size - (intOf (.int .i64 (a : Int))).toNat) := hide (by simp only [intOf]; omega)
                  clear hk3 HT H1 hem
                  obtain ⟨i31, hi, hz0, hz1, hz2⟩ := info_parts info31
                  go_wp2_with (at_builtin; refine wpList_append_own _ rfl (.tmp 129) (.tmp 131) 22 rfl (w.heap.size + 1) 31 i31 _ 3 32 Tryd.underlying22 hi hz0 hz1 hz2 rfl (by decide) _ out.length (tkC out) rfl (SI_later (unhide HSI) (bal (bst (unhide HBX) (Nat.le_refl _) _) _)).1 ⟨_, 0, none⟩ 1 1 [.int .i64 3, .string (s.extract a e), .int .i64 (a : Nat)] rfl rfl (news3 _ _ _ _ _ (by simp)) (one3 _ _ _) (by unfold maxLen; omega) (by omega) (SI_size (SI_later (unhide HSI) (bal (bst (unhide HBX) (Nat.le_refl _) _) _))) ?_; intro v' w1 hown' hgrow _; obtain ⟨g, cap, rfl, hgB, hce⟩ := own_last hown')
                  all_goals
                    rw [unhide HX] at hown'
                    exact ⟨⟨e, _, rfl, hes, SI_grow (t := ⟨3, ((L s).drop a).take m.length, a⟩) (SI_later (unhide HSI) (bal (bst (unhide HBX) (Nat.le_refl _) _) _)) hown' hgrow, unhide HLN, unhide HE⟩, unhide HME⟩
    · have HE := hide ((Nb.toksL_end (l := L s) (a := a) (out := out) (by omega)).symm.trans (unhide HT))
      go_wp2
      have hRe := unhide HE
      subst hRe
      exact bodyPost_ret (v := .tuple #[_, .int .i64 0, .int .i64 0]) (by simp [results, Tryd.results4, go_sem]) rfl ⟨⟨_, rfl, SI_own (unhide HSI)⟩, (unhide HSI).2.2.2⟩
theorem sTokensR (s : ByteArray) (w : World) (hs : s.size ≤ maxLen) :
    Calls Tryd.prog 4 #[.string s] w fun e w' => (∃ v, e = .returned (.tuple #[v, .int .i64 ((tkR s).2.1 : Nat), .int .i64 ((tkR s).2.2 : Nat)]) ∧ OT w.heap.size v (tkR s).1 w') ∧ Below w.heap.size w w' := by
  by_cases h : s.size ≤ 65536
  · have e : tkR s = Nb.toksL (L s) 0 [] := if_pos h
    rw [e]
    exact sTokens s w h _ rfl
  · have e : tkR s = ([], 2, 0) := if_neg h
    rw [e]
    exact sTooLong s w hs (by omega)
end Go.Proofs.YtdgiidlaafbgcaaDoor
