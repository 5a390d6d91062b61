/- The specification's FsmOK, where the counts fit: its loops. -/
import Derived.Test.YtjbbjgoofenkpaaG3
import Derived.Test.YtjbbjgoofenkpaaG4
namespace Go.Proofs.Ytjbbjgoofenkpaa
open Go.RowKit Gs
set_option linter.unusedVariables false
set_option linter.unusedSimpArgs false
set_option maxRecDepth 100000
set_option maxHeartbeats 32000000 in
theorem sFsmYes (f : Fsm) (ins ob : Int) (N2 N3 N4 c2 c3 c4 b2 o2 b3 o3 b4 o4 N : Nat) (w : World) (hob : f.outBits = ob) (hN2 : f.states.length = N2) (hN3 : f.next.length = N3) (hN4 : f.outs.length = N4)
    (h : FW w f (.slice (some ⟨b2, o2, none⟩) N2 c2) (.slice (some ⟨b3, o3, none⟩) N3 c3) (.slice (some ⟨b4, o4, none⟩) N4 c4)) (k0 : 0 ≤ ins) (k1 : ins ≤ 5) (k2 : 1 ≤ ob) (k3 : ob ≤ 64) (k4 : 1 ≤ N2) (k5 : N2 ≤ 64) (k6 : N3 = N2) (k7 : N4 = N2) (hN : cntI ins = N) :
    Calls Try.prog 19 #[.agg #[.int .i64 ins, .int .i64 ob, .slice (some ⟨b2, o2, none⟩) N2 c2, .slice (some ⟨b3, o3, none⟩) N3 c3, .slice (some ⟨b4, o4, none⟩) N4 c4]] w fun e w' => e = .returned (.bool ((List.range N2).all (rowS f N))) ∧ Below w.heap.size w w' := by
  have hwN : wrap64 (2 ^ ins.toNat) = (N : Int) := by rw [wrapI k1, hN]
  have hNs : N ≤ 32 := by rw [← hN]; exact cntI_small k1
  have HWI : Hid (IntKind.i64.wrap (2 ^ ins.toNat) = (N : Int)) := hide (by rw [wrapI' k1, hN])
  have d0 : decide (ins < 0) = false := decide_eq_false (by omega)
  have d5 : decide (5 < ins) = false := decide_eq_false (by omega)
  have d1 : decide (ob < 1) = false := decide_eq_false (by omega)
  have d6 : decide (64 < ob) = false := decide_eq_false (by omega)
  have e1 : decide ((N2 : Int) < 1) = false := decide_eq_false (by omega)
  have e2 : decide (64 < (N2 : Int)) = false := decide_eq_false (by omega)
  have i3 : ((N3 : Int) != (N2 : Int)) = false := by rw [k6]; simp
  have i4 : ((N4 : Int) != (N2 : Int)) = false := by rw [k7]; simp
  have HFA := hide (fun (s : Nat) (hs : s < N2) => h.at hN2 hN3 hN4 k6 k7 hs)
  have HRW := hide (fun s => show rowS f N s = (!badHead (f.states.getD s ByteArray.empty) (f.next.getD s []).length (f.outs.getD s []).length N && (List.range N).all (fun i => !badIn ob ((f.next.getD s []).getD i 0) N2 ((f.outs.getD s []).getD i ByteArray.empty)) && (List.range s).all (fun t => !((f.states.getD t ByteArray.empty).toList == (f.states.getD s ByteArray.empty).toList))) by unfold rowS; rw [hob, hN2])
  have K6 := hide k6
  have K7 := hide k7
  clear h hN2 hN3 hN4 k6 k7 hN hob
  go_enter Try.func19, Try.ntmps19
  go_wp2
  clear d0 d5 d1 d6 e1 e2 i3 i4
  go_loopw [4] (fun sv wr => ∃ s : Nat, s ≤ N2 ∧ sv = .int .i64 s ∧ (∀ t, t < s → rowS f N t = true) ∧ Bt 31 w #[.int .i64 ins, .int .i64 ob, .slice (some ⟨b2, o2, none⟩) N2 c2, .slice (some ⟨b3, o3, none⟩) N3 c3, .slice (some ⟨b4, o4, none⟩) N4 c4] wr) (fun sv _ => N2 - (intOf sv).toNat)
  case atStart => exact ⟨0, Nat.zero_le _, rfl, fun t ht => absurd ht (Nat.not_lt_zero _), Bt.refl _ _ _⟩
  case round =>
    obtain ⟨s, hs, rfl, hall, hbx⟩ := hrel
    have HX := hide hbx
    have HALL := hide hall
    clear hbx hall
    by_cases hlt : s < N2
    · obtain ⟨st, xs, ys, x1, y1, x2, y2, g1, g2, g3, hms0, hst, hm30, rs1, hm40, rs2⟩ := unhide HFA s hlt
      have hrs := unhide HRW s
      rw [g1, g2, g3] at hrs
      have HMS := hide hms0
      have HM3 := hide hm30
      have HM4 := hide hm40
      have HR1 := hide rs1
      have HR2 := hide rs2
      have HST := hide hst
      have HZ1 := hide rs1.len
      have HZ2 := hide rs2.len
      have HRS := hide hrs
      have j1 : (s : Int) < (N2 : Int) := by omega
      have J3 := hide (show (s : Int) < (N3 : Int) by have := unhide K6; omega)
      have J4 := hide (show (s : Int) < (N4 : Int) by have := unhide K7; omega)
      clear g1 g2 g3 hms0 hst hm30 rs1 hm40 rs2 hrs
      go_wp2
      refine reg7 ins ob N2 N3 N4 c2 c3 c4 b2 o2 b3 o3 b4 o4 xs.length ys.length y1 y2 s N x1 x2 st w wr (unhide HX) (unhide HWI) k0 k1 (unhide HST) (unhide HZ1) (unhide HZ2) (cell_later (unhide HX).below (unhide HMS)) (cell_later (unhide HX).below (unhide HM3)) (cell_later (unhide HX).below (unhide HM4)) j1 (unhide J3) (unhide J4) (by omega) _ _ _ _ _ _ _ _ _ _ _ _ _ _ _ _ _ _ _ _ _ _ _ _ _ _ _ _ _ _ _ _ _ _ _ _ _ _ _ _ _ _ _ _ _ _ _ _ _ _ _ _ _ _ _ _ _ _ _ _ _ _ _ _ _ _ _ _ _ _ _ _ _ _ _ _ _ _ _ _ _ _ _ _ _ _ _ _ _ _ _ _ _ _ _ _ _ _ _ _ _ _ _ _ _ _ _ _ _ _ _ _ _ _ _ _ _ _ _ _ _ _ _ _ _ _ _ _ _ _ _ _ _ _ _ _ _ _ _ _ _ _ _ _ _ _ _ _ _ _ _ _ _ _ _ _ _ _ _ _ _ ?_
      intro p55 p56 p57 p58 p59 p60 p61 p62 p63 p64 p65 p66 p67 p68 p69 p70 p71 p72 p73 p74 p75 p76 p77 p78 p79 p80 p81 p82 p83 p84 p85 p86 p87 p88 p89 p90 p91 p92 p93 V hXV _
      have HXV := hide hXV
      clear hXV HX
      obtain ⟨bh, hbh⟩ : ∃ bh, badHead st xs.length ys.length N = bh := ⟨_, rfl⟩
      rw [hbh]
      cases bh with
      | true =>
        have HE := hide (show (List.range N2).all (rowS f N) = false by
          rw [List.all_eq_false]
          exact ⟨s, List.mem_range.2 hlt, by rw [unhide HRS, hbh]; simp⟩)
        have HB := hide (unhide HXV).below
        clear HFA HRW HALL HXV HRS hbh HMS HM3 HM4 HR1 HR2 HST HZ1 HZ2
        go_wp2
        go_ret
        exact ⟨by rw [unhide HE]; rfl, unhide HB⟩
      | false =>
        have HNN := hide (show xs.length = N ∧ ys.length = N by
          unfold badHead at hbh
          rw [Bool.or_eq_false_iff, Bool.or_eq_false_iff] at hbh
          obtain ⟨⟨_, h1⟩, h2⟩ := hbh
          simp at h1 h2
          omega)
        have HRS2 := hide (show rowS f N s = ((List.range N).all (fun i => !badIn ob (xs.getD i 0) N2 (ys.getD i ByteArray.empty)) && (List.range s).all (fun t => !((f.states.getD t ByteArray.empty).toList == st.toList))) by rw [unhide HRS, hbh]; simp)
        clear HRS hbh HZ1 HZ2
        go_wp2
        go_loopw [5] (fun iv wr => ∃ i : Nat, i ≤ N ∧ iv = .int .i64 i ∧ (∀ k, k < i → badIn ob (xs.getD k 0) N2 (ys.getD k ByteArray.empty) = false) ∧ Bt 31 w #[.int .i64 ins, .int .i64 ob, .slice (some ⟨b2, o2, none⟩) N2 c2, .slice (some ⟨b3, o3, none⟩) N3 c3, .slice (some ⟨b4, o4, none⟩) N4 c4] wr) (fun iv _ => N - (intOf iv).toNat)
        case atStart => exact ⟨0, Nat.zero_le _, rfl, fun t ht => absurd ht (Nat.not_lt_zero _), unhide HXV⟩
        case round =>
          clear HXV
          obtain ⟨i, hi, rfl, hin, hbx⟩ := hrel
          have HX2 := hide hbx
          have HIN := hide hin
          obtain ⟨q0, q1, q2, q3, q4⟩ := hbx.get5
          clear hbx hin
          by_cases hil : i < N
          · have dl : decide ((i : Int) < wrap64 (2 ^ ins.toNat)) = true := by rw [hwN]; exact decide_eq_true (by omega)
            obtain ⟨n1', n2'⟩ := unhide HNN
            have hx1 : xs[i]? = some xs[i] := List.getElem?_eq_getElem (by omega)
            have hx2 : ys[i]? = some ys[i] := List.getElem?_eq_getElem (by omega)
            have hg1 : xs.getD i 0 = xs[i] := by rw [List.getD_eq_getElem?_getD, hx1]; rfl
            have hg2 : ys.getD i ByteArray.empty = ys[i] := by rw [List.getD_eq_getElem?_getD, hx2]; rfl
            generalize xs[i] = z at hx1 hg1
            generalize ys[i] = y at hx2 hg2
            rcases (unhide HR1).open with ⟨hnil, _⟩ | ⟨bx, ox, cc1, ee1, _, _, _, hcs1⟩
            · rw [hnil] at hx1; simp at hx1
            rcases (unhide HR2).open with ⟨hnil, _⟩ | ⟨bz, oz, cc2, ee2, _, _, _, hcs2⟩
            · rw [hnil] at hx2; simp at hx2
            obtain rfl : x1 = some ⟨bx, ox, none⟩ := by injection ee1
            obtain rfl : x2 = some ⟨bz, oz, none⟩ := by injection ee2
            obtain ⟨ga, _, at1, hga⟩ := hcs1 i z hx1
            obtain rfl : ga = [.int .i64 z] := hga
            obtain ⟨gb, _, at2, hgb, hyz⟩ := hcs2 i y hx2
            subst hgb
            have hmz := at1.get (j := 0) rfl
            have hmy := at2.get (j := 0) rfl
            simp only [Nat.add_zero, Nat.mul_one] at hmz hmy
            have HMZ := hide hmz
            have HMY := hide hmy
            have HYZ := hide hyz
            have HZ := hide (show badIn ob (xs.getD i 0) N2 (ys.getD i ByteArray.empty) = badIn ob z N2 y by rw [hg1, hg2])
            have HI1 := hide (show (i : Int) < (xs.length : Int) by omega)
            have HI2 := hide (show (i : Int) < (ys.length : Int) by omega)
            clear hcs1 hcs2 ee1 ee2 at1 at2 hx1 hx2 hg1 hg2 n1' n2' hmz hmy hyz
            go_wp2
            refine reg12 ins ob N2 N3 N4 c2 c3 c4 b2 o2 b3 o3 b4 o4 xs.length ys.length y1 y2 bx ox bz oz s i z y w wr (unhide HX2) (unhide HYZ) (cell_later (unhide HX2).below (unhide HM3)) (cell_later (unhide HX2).below (unhide HM4)) (cell_later (unhide HX2).below (unhide HMZ)) (cell_later (unhide HX2).below (unhide HMY)) (unhide J3) (unhide J4) (unhide HI1) (unhide HI2) (by omega) (by omega) _ _ _ _ _ _ _ _ _ _ _ _ _ _ _ _ _ _ _ _ _ _ _ _ _ _ _ _ _ _ _ _ _ _ _ _ _ _ _ _ _ _ _ _ _ _ _ _ _ _ _ _ _ _ _ _ _ _ _ _ _ _ _ _ _ _ _ _ _ _ _ _ _ _ _ _ _ _ _ _ _ _ _ _ _ _ _ _ _ _ _ _ _ _ _ _ _ _ _ _ _ _ _ _ _ _ _ _ _ _ _ _ _ _ _ _ _ _ _ _ _ _ _ _ _ _ _ _ _ _ _ _ _ _ _ _ _ _ _ _ _ _ _ _ _ _ _ _ _ _ _ _ _ _ _ _ _ _ _ _ ?_
            intro p102 p103 p104 p105 p106 p107 p108 p109 p110 p111 p112 p113 p114 p115 p116 p117 p118 p119 p120 p121 p122 p123 p124 p125 p126 p127 p128 p129 p130 p131 p132 p133 p134 p135 p136 p137 p138 p139 p140 p141 p142 p143 p144 p145 p146 p147 V2 hXV2 _
            have HXV2 := hide hXV2
            clear hXV2 HX2 q0 q1 q2 q3 q4 dl
            obtain ⟨bi, hbi⟩ : ∃ bi, badIn ob z N2 y = bi := ⟨_, rfl⟩
            rw [hbi]
            cases bi with
            | true =>
              have HE := hide (show (List.range N2).all (rowS f N) = false by
                rw [List.all_eq_false]
                refine ⟨s, List.mem_range.2 hlt, ?_⟩
                rw [unhide HRS2]
                have : (List.range N).all (fun i => !badIn ob (xs.getD i 0) N2 (ys.getD i ByteArray.empty)) = false := by
                  rw [List.all_eq_false]
                  exact ⟨i, List.mem_range.2 hil, by rw [unhide HZ, hbi]; decide⟩
                rw [this]; simp)
              have HB := hide (unhide HXV2).below
              clear HFA HRW HALL HXV2 HRS2 hbi
              go_wp2
              go_ret
              exact ⟨by rw [unhide HE]; rfl, unhide HB⟩
            | false =>
              have HA := hide (show ∀ k, k < i + 1 → badIn ob (xs.getD k 0) N2 (ys.getD k ByteArray.empty) = false by
                intro k hk
                by_cases e : k = i
                · rw [e, unhide HZ, hbi]
                · exact unhide HIN k (by omega))
              clear hbi
              go_wp2
              exact ⟨⟨i + 1, by omega, by go_num, unhide HA, unhide HXV2⟩, by simp [intOf]; omega⟩
          · have dl : decide ((i : Int) < wrap64 (2 ^ ins.toNat)) = false := by rw [hwN]; exact decide_eq_false (by omega)
            obtain rfl : i = N := by omega
            have HRS3 := hide (show rowS f i s = (List.range s).all (fun t => !((f.states.getD t ByteArray.empty).toList == st.toList)) by
              rw [unhide HRS2]
              have : (List.range i).all (fun k => !badIn ob (xs.getD k 0) N2 (ys.getD k ByteArray.empty)) = true := by
                rw [List.all_eq_true]
                exact fun k hk => by rw [unhide HIN k (List.mem_range.1 hk)]; rfl
              rw [this, Bool.true_and])
            clear HRS2 HIN HR1 HR2 HM3 HM4
            go_wp2
            clear q0 q1 q2 q3 q4 dl
            go_loopw [6] (fun tv wr => ∃ t : Nat, t ≤ s ∧ tv = .int .i64 t ∧ (∀ k, k < t → ((f.states.getD k ByteArray.empty).toList == st.toList) = false) ∧ Bt 31 w #[.int .i64 ins, .int .i64 ob, .slice (some ⟨b2, o2, none⟩) N2 c2, .slice (some ⟨b3, o3, none⟩) N3 c3, .slice (some ⟨b4, o4, none⟩) N4 c4] wr) (fun tv _ => s - (intOf tv).toNat)
            case atStart => exact ⟨0, Nat.zero_le _, rfl, fun t ht => absurd ht (Nat.not_lt_zero _), unhide HX2⟩
            case round =>
              clear HX2
              obtain ⟨t, ht, rfl, htn, hbx⟩ := hrel
              have HX3 := hide hbx
              have HTN := hide htn
              clear hbx htn
              by_cases htl : t < s
              · obtain ⟨tt, _, _, _, _, _, _, g1, _, _, hmt, _⟩ := unhide HFA t (by omega)
                have HMT := hide hmt
                have HG := hide g1
                have jt : (t : Int) < (s : Int) := by omega
                clear hmt g1
                go_wp2
                refine reg17 ins ob N2 N3 N4 c2 c3 c4 b2 o2 b3 o3 b4 o4 s t st tt w wr (unhide HX3) (cell_later (unhide HX3).below (unhide HMS)) (cell_later (unhide HX3).below (unhide HMT)) j1 (by omega) (by omega) (by omega) _ _ _ _ _ _ _ _ _ _ _ _ _ _ _ _ _ _ _ _ _ _ _ _ _ _ _ _ _ _ _ _ _ _ _ _ _ _ _ _ _ _ _ _ _ _ _ _ _ _ _ _ _ _ _ _ _ _ _ _ _ _ _ _ _ _ _ _ _ _ _ _ _ _ _ _ _ _ _ _ _ _ _ _ _ _ _ _ _ _ _ _ _ _ _ _ _ _ _ _ _ _ _ _ _ _ _ _ _ _ _ _ _ _ _ _ _ _ _ _ _ _ _ _ _ _ _ _ _ _ _ _ _ _ _ _ _ _ _ _ _ _ _ _ _ _ _ _ _ _ _ _ _ _ _ _ _ _ _ _ ?_
                intro p154 p155 p156 p157 p158 p159 p160 p161 p162 p163 V3 hXV3 _
                have HXV3 := hide hXV3
                clear hXV3 HX3
                obtain ⟨bt, hbt⟩ : ∃ bt, (tt.toList == st.toList) = bt := ⟨_, rfl⟩
                rw [hbt]
                cases bt with
                | true =>
                  have HE := hide (show (List.range N2).all (rowS f i) = false by
                    rw [List.all_eq_false]
                    refine ⟨s, List.mem_range.2 hlt, ?_⟩
                    rw [unhide HRS3]
                    have : (List.range s).all (fun t => !((f.states.getD t ByteArray.empty).toList == st.toList)) = false := by
                      rw [List.all_eq_false]
                      exact ⟨t, List.mem_range.2 htl, by rw [unhide HG, hbt]; decide⟩
                    rw [this]; simp)
                  have HB := hide (unhide HXV3).below
                  clear HFA HRW HALL HXV3 HRS3 hbt
                  go_wp2
                  go_ret
                  exact ⟨by rw [unhide HE]; rfl, unhide HB⟩
                | false =>
                  have HA := hide (show ∀ k, k < t + 1 → ((f.states.getD k ByteArray.empty).toList == st.toList) = false by
                    intro k hk
                    by_cases e : k = t
                    · rw [e, unhide HG, hbt]
                    · exact unhide HTN k (by omega))
                  clear hbt
                  go_wp2
                  exact ⟨⟨t + 1, by omega, by go_num, unhide HA, unhide HXV3⟩, by simp [intOf]; omega⟩
              · obtain rfl : t = s := by omega
                have HA := hide (show ∀ k, k < t + 1 → rowS f i k = true by
                  intro k hk
                  by_cases e : k = t
                  · rw [e, unhide HRS3, List.all_eq_true]
                    exact fun q hq => by rw [unhide HTN q (List.mem_range.1 hq)]; rfl
                  · exact unhide HALL k (by omega))
                clear HRS3 HTN HALL HFA HRW
                go_wp2
                exact ⟨⟨t + 1, by omega, by go_num, unhide HA, unhide HX3⟩, by simp [intOf]; omega⟩
    · obtain rfl : s = N2 := by omega
      have HE := hide (show (List.range s).all (rowS f N) = true by rw [List.all_eq_true]; exact fun t ht => unhide HALL t (List.mem_range.1 ht))
      have HB := hide (unhide HX).below
      clear HFA HRW HALL HX
      go_wp2
      go_ret
      exact ⟨by rw [unhide HE]; rfl, unhide HB⟩
end Go.Proofs.Ytjbbjgoofenkpaa
