/- impl.AigOK. -/
import Derived.Test.YtnoklbnacfmpdacAFa
import Derived.Test.YtnoklbnacfmpdacANL
namespace Go.Proofs.Ytnoklbnacfmpdac
open Go Go.RowKit Gs
set_option linter.unusedVariables false
set_option linter.unusedSimpArgs false
set_option maxRecDepth 100000
/-- The lists of names. -/
def nameLs (a : Aig) : List (List ByteArray) := [a.ins ++ a.clocks, a.latches.map (fun l : Latch => l.name), a.outs.map (fun p : Pin => p.name), a.checks.map (fun p : Pin => p.name)]
/-- What AigOK answers. -/
def aigI (a : Aig) : Bool := countsA a && litsB a.ins.length a.latches a.ands a.outs a.checks && a.latches.all (latchB a.clocks.length) && (nameLs a).all namesB
set_option maxHeartbeats 16000000 in
theorem iAigOK (a : Aig) (u : List Value) (w : World) (hl : szAig a ≤ 1048576) (hr : RAig w 0 a u) :
    Calls Try.prog 26 #[.agg u.toArray] w fun e w' => e = .returned (.bool (aigI a)) ∧ Below w.heap.size w w' := by
  have hz : szAig a = szL (fun (s : ByteArray) => s.size) a.ins + szL (fun (s : ByteArray) => s.size) a.clocks + szL szLatch a.latches + szL szAndG a.ands + szL szPin a.outs + szL szPin a.checks := rfl
  have z0 := szL_sm (fun (s : ByteArray) => s.size) a.ins
  have z1 := szL_sm (fun (s : ByteArray) => s.size) a.clocks
  have z2 := szL_sm szLatch a.latches
  have z3 := szL_sm szAndG a.ands
  have z4 := szL_sm szPin a.outs
  have z5 := szL_sm szPin a.checks
  have b0 : a.ins.length ≤ 1048576 := by omega
  have b1 : a.clocks.length ≤ 1048576 := by omega
  have b2 : a.latches.length ≤ 1048576 := by omega
  have b3 : a.ands.length ≤ 1048576 := by omega
  have b4 : a.outs.length ≤ 1048576 := by omega
  have b5 : a.checks.length ≤ 1048576 := by omega
  clear hz z0 z1 z2 z3 z4 z5 hl
  obtain ⟨v0, v1, v2, v3, v4, v5, rfl, h0, h1, h2, h3, h4, h5⟩ := hr
  obtain ⟨s0, c0, rfl⟩ := h0.slice
  obtain ⟨l0, e0⟩ : ∃ l, a.ins.length = l := ⟨_, rfl⟩
  rw [e0] at h0
  obtain ⟨s1, c1, rfl⟩ := h1.slice
  obtain ⟨l1, e1⟩ : ∃ l, a.clocks.length = l := ⟨_, rfl⟩
  rw [e1] at h1
  obtain ⟨s2, c2, rfl⟩ := h2.slice
  obtain ⟨l2, e2⟩ : ∃ l, a.latches.length = l := ⟨_, rfl⟩
  rw [e2] at h2
  obtain ⟨s3, c3, rfl⟩ := h3.slice
  obtain ⟨l3, e3⟩ : ∃ l, a.ands.length = l := ⟨_, rfl⟩
  rw [e3] at h3
  obtain ⟨s4, c4, rfl⟩ := h4.slice
  obtain ⟨l4, e4⟩ : ∃ l, a.outs.length = l := ⟨_, rfl⟩
  rw [e4] at h4
  obtain ⟨s5, c5, rfl⟩ := h5.slice
  obtain ⟨l5, e5⟩ : ∃ l, a.checks.length = l := ⟨_, rfl⟩
  rw [e5] at h5
  have HCN : Hid (∀ V : World, Below w.heap.size w V → Calls Try.prog 50 #[.agg #[.slice s0 l0 c0, .slice s1 l1 c1, .slice s2 l2 c2, .slice s3 l3 c3, .slice s4 l4 c4, .slice s5 l5 c5]] V fun e w' => e = .returned (.bool (countsA a)) ∧ Below V.heap.size V w') := hide (fun V _ => by
    unfold countsA
    rw [e0, e1, e2, e3, e4, e5]
    exact iCounts s0 s1 s2 s3 s4 s5 l0 l1 l2 l3 l4 l5 c0 c1 c2 c3 c4 c5 V (by omega) (by omega) (by omega) (by omega) (by omega) (by omega))
  have HLI : Hid (∀ V : World, Below w.heap.size w V → Calls Try.prog 51 #[.agg #[.slice s0 l0 c0, .slice s1 l1 c1, .slice s2 l2 c2, .slice s3 l3 c3, .slice s4 l4 c4, .slice s5 l5 c5]] V fun e w' => e = .returned (.bool (litsB a.ins.length a.latches a.ands a.outs a.checks)) ∧ Below V.heap.size V w') := hide (fun V hb => by
    rw [e0]
    exact iLiterals s0 s1 s2 s3 s4 s5 l0 l1 l2 l3 l4 l5 c0 c1 c2 c3 c4 c5 a.latches a.ands a.outs a.checks V (by omega) b2 b3 b4 b5 (h2.later RLatch.keeps hb) (h3.later RAndG.keeps hb) (h4.later RPin.keeps hb) (h5.later RPin.keeps hb))
  have HLA : Hid (∀ V : World, Below w.heap.size w V → Calls Try.prog 52 #[.agg #[.slice s0 l0 c0, .slice s1 l1 c1, .slice s2 l2 c2, .slice s3 l3 c3, .slice s4 l4 c4, .slice s5 l5 c5]] V fun e w' => e = .returned (.bool (a.latches.all (latchB a.clocks.length))) ∧ Below V.heap.size V w') := hide (fun V hb => by
    rw [e1]
    exact iLatches s0 s1 s2 s3 s4 s5 l0 l1 l2 l3 l4 l5 c0 c1 c2 c3 c4 c5 a.latches V (by omega) b2 (h2.later RLatch.keeps hb))
  have HNL : Hid (∀ V : World, Below w.heap.size w V → Calls Try.prog 53 #[.agg #[.slice s0 l0 c0, .slice s1 l1 c1, .slice s2 l2 c2, .slice s3 l3 c3, .slice s4 l4 c4, .slice s5 l5 c5]] V fun e w' => (∃ v', e = .returned v' ∧ RS 1 (RL 1 RStr) w' 0 (nameLs a) v') ∧ Below V.heap.size V w') := hide (fun V hb =>
    iNameLists s0 s1 s2 s3 s4 s5 l0 l1 l2 l3 l4 l5 c0 c1 c2 c3 c4 c5 a.ins a.clocks a.latches a.outs a.checks V b0 b1 b2 b4 b5 (h0.later RStr.keeps hb) (h1.later RStr.keeps hb) (h2.later RLatch.keeps hb) (h4.later RPin.keeps hb) (h5.later RPin.keeps hb))
  have HLN : Hid (∀ ss ∈ nameLs a, ss.length ≤ 2097152) := hide (by
    intro ss hs
    simp only [nameLs, List.mem_cons, List.not_mem_nil, or_false] at hs
    rcases hs with rfl | rfl | rfl | rfl <;> simp <;> omega)
  have HNN := hide (show (nameLs a).length = 4 from rfl)
  have HD : Hid (aigI a = (countsA a && litsB a.ins.length a.latches a.ands a.outs a.checks && a.latches.all (latchB a.clocks.length) && (nameLs a).all namesB)) := hide rfl
  generalize aigI a = RR at *
  generalize countsA a = p1 at *
  generalize litsB a.ins.length a.latches a.ands a.outs a.checks = p2 at *
  generalize a.latches.all (latchB a.clocks.length) = p3 at *
  generalize nameLs a = nls at *
  clear h0 h1 h2 h3 h4 h5 b0 b1 b2 b3 b4 b5
  rw [e0, e1, e2, e3, e4, e5]
  clear e0 e1 e2 e3 e4 e5
  have HC1 : Hid (∀ V, Below (w.alloc (.cells #[.slice s0 l0 c0, .slice s1 l1 c1, .slice s2 l2 c2, .slice s3 l3 c3, .slice s4 l4 c4, .slice s5 l5 c5] 36)).heap.size (w.alloc (.cells #[.slice s0 l0 c0, .slice s1 l1 c1, .slice s2 l2 c2, .slice s3 l3 c3, .slice s4 l4 c4, .slice s5 l5 c5] 36)) V → V.cell? ⟨w.heap.size, 0, none⟩ = some (.slice s0 l0 c0) ∧ V.cell? ⟨w.heap.size, 1, none⟩ = some (.slice s1 l1 c1) ∧ V.cell? ⟨w.heap.size, 2, none⟩ = some (.slice s2 l2 c2) ∧ V.cell? ⟨w.heap.size, 3, none⟩ = some (.slice s3 l3 c3) ∧ V.cell? ⟨w.heap.size, 4, none⟩ = some (.slice s4 l4 c4) ∧ V.cell? ⟨w.heap.size, 5, none⟩ = some (.slice s5 l5 c5)) := hide (fun V hb => ⟨cell_later hb (by rw [World.cell?_alloc_new]; rfl), cell_later hb (by rw [World.cell?_alloc_new]; rfl), cell_later hb (by rw [World.cell?_alloc_new]; rfl), cell_later hb (by rw [World.cell?_alloc_new]; rfl), cell_later hb (by rw [World.cell?_alloc_new]; rfl), cell_later hb (by rw [World.cell?_alloc_new]; rfl)⟩)
  obtain ⟨W, hW⟩ : ∃ W, W = w.alloc (.cells #[.slice s0 l0 c0, .slice s1 l1 c1, .slice s2 l2 c2, .slice s3 l3 c3, .slice s4 l4 c4, .slice s5 l5 c5] 36) := ⟨_, rfl⟩
  have HW : Hid (Below w.heap.size w W) := hide (by rw [hW]; exact bal (brf w) _)
  rw [← hW] at HC1
  have HW' := hide hW
  clear hW
  cases p1
  · go_enter Try.func26, Try.ntmps26
    go_wp2_with fail
    rw [← unhide HW']
    refine (unhide HCN _ (unhide HW)).mono ?_
    rintro e W1 ⟨rfl, hb1⟩
    have HB1 : Hid (Below W.heap.size W W1) := hide hb1
    obtain ⟨q10, q11, q12, q13, q14, q15⟩ := unhide HC1 W1 (unhide HB1)
    clear hb1
    go_wp2_with fail
    exact bodyPost_ret (v := .bool false) (by simp [results, Try.results26, go_sem]) rfl ⟨by rw [unhide HD]; rfl, btr (unhide HW) (unhide HB1)⟩
  · cases p2
    · go_enter Try.func26, Try.ntmps26
      go_wp2_with fail
      rw [← unhide HW']
      refine (unhide HCN _ (unhide HW)).mono ?_
      rintro e W1 ⟨rfl, hb1⟩
      have HB1 : Hid (Below W.heap.size W W1) := hide hb1
      obtain ⟨q10, q11, q12, q13, q14, q15⟩ := unhide HC1 W1 (unhide HB1)
      clear hb1
      go_wp2_with fail
      refine (unhide HLI _ (btr (unhide HW) (unhide HB1))).mono ?_
      rintro e W2 ⟨rfl, hb2⟩
      have HB2 : Hid (Below W.heap.size W W2) := hide (btr (unhide HB1) hb2)
      obtain ⟨q20, q21, q22, q23, q24, q25⟩ := unhide HC1 W2 (unhide HB2)
      clear hb2 q10 q11 q12 q13 q14 q15
      go_wp2_with fail
      exact bodyPost_ret (v := .bool false) (by simp [results, Try.results26, go_sem]) rfl ⟨by rw [unhide HD]; rfl, btr (unhide HW) (unhide HB2)⟩
    · cases p3
      · go_enter Try.func26, Try.ntmps26
        go_wp2_with fail
        rw [← unhide HW']
        refine (unhide HCN _ (unhide HW)).mono ?_
        rintro e W1 ⟨rfl, hb1⟩
        have HB1 : Hid (Below W.heap.size W W1) := hide hb1
        obtain ⟨q10, q11, q12, q13, q14, q15⟩ := unhide HC1 W1 (unhide HB1)
        clear hb1
        go_wp2_with fail
        refine (unhide HLI _ (btr (unhide HW) (unhide HB1))).mono ?_
        rintro e W2 ⟨rfl, hb2⟩
        have HB2 : Hid (Below W.heap.size W W2) := hide (btr (unhide HB1) hb2)
        obtain ⟨q20, q21, q22, q23, q24, q25⟩ := unhide HC1 W2 (unhide HB2)
        clear hb2 q10 q11 q12 q13 q14 q15
        go_wp2_with fail
        refine (unhide HLA _ (btr (unhide HW) (unhide HB2))).mono ?_
        rintro e W3 ⟨rfl, hb3⟩
        have HB3 : Hid (Below W.heap.size W W3) := hide (btr (unhide HB2) hb3)
        obtain ⟨q30, q31, q32, q33, q34, q35⟩ := unhide HC1 W3 (unhide HB3)
        clear hb3 q20 q21 q22 q23 q24 q25
        go_wp2_with fail
        exact bodyPost_ret (v := .bool false) (by simp [results, Try.results26, go_sem]) rfl ⟨by rw [unhide HD]; rfl, btr (unhide HW) (unhide HB3)⟩
      · go_enter Try.func26, Try.ntmps26
        go_wp2_with fail
        rw [← unhide HW']
        refine (unhide HCN _ (unhide HW)).mono ?_
        rintro e W1 ⟨rfl, hb1⟩
        have HB1 : Hid (Below W.heap.size W W1) := hide hb1
        obtain ⟨q10, q11, q12, q13, q14, q15⟩ := unhide HC1 W1 (unhide HB1)
        clear hb1
        go_wp2_with fail
        refine (unhide HLI _ (btr (unhide HW) (unhide HB1))).mono ?_
        rintro e W2 ⟨rfl, hb2⟩
        have HB2 : Hid (Below W.heap.size W W2) := hide (btr (unhide HB1) hb2)
        obtain ⟨q20, q21, q22, q23, q24, q25⟩ := unhide HC1 W2 (unhide HB2)
        clear hb2 q10 q11 q12 q13 q14 q15
        go_wp2_with fail
        refine (unhide HLA _ (btr (unhide HW) (unhide HB2))).mono ?_
        rintro e W3 ⟨rfl, hb3⟩
        have HB3 : Hid (Below W.heap.size W W3) := hide (btr (unhide HB2) hb3)
        obtain ⟨q30, q31, q32, q33, q34, q35⟩ := unhide HC1 W3 (unhide HB3)
        clear hb3 q20 q21 q22 q23 q24 q25
        go_wp2_with fail
        refine (unhide HNL _ (btr (unhide HW) (unhide HB3))).mono ?_
        rintro e W4 ⟨⟨vn, rfl, hrn⟩, hb4⟩
        have HB4 : Hid (Below w.heap.size w W4) := hide (btr (btr (unhide HW) (unhide HB3)) hb4)
        clear hb4 q30 q31 q32 q33 q34 q35
        have HD2 : Hid (RR = nls.all namesB) := hide (by rw [unhide HD]; rfl)
        rcases hrn.open with ⟨rfl, a, c, rfl⟩ | ⟨b, o, c, rfl, hc, hn, _, hce⟩
        · have := unhide HNN
          simp at this
        have hnn := unhide HNN
        rw [hnn]
        have HCE := hide hce
        clear hrn hce hc hn
        go_wp2
        go_loopw [21] (fun i wr => ∃ k : Nat, k ≤ 4 ∧ i = .int .i64 k ∧ (nls.take k).all namesB = true ∧ Below W4.heap.size W4 wr) (fun i wr => 4 - (intOf i).toNat)
        case atStart => exact ⟨0, Nat.zero_le _, rfl, rfl, brf _⟩
        case round =>
          obtain ⟨k, hk, rfl, hall, hb⟩ := hrel
          have HA := hide hall
          clear hall
          by_cases hlt : k < 4
          · have hx : nls[k]? = some nls[k] := List.getElem?_eq_getElem (by omega)
            have hmem : nls[k] ∈ nls := List.getElem_mem (by omega)
            generalize nls[k] = ss at hx hmem
            have HST := hide (show (nls.take (k + 1)).all namesB = ((nls.take k).all namesB && namesB ss) by rw [List.take_add_one, hx, List.all_append]; simp)
            have HF : Hid (namesB ss = false → RR = false) := hide (fun h => by rw [unhide HD2, ← Bool.not_eq_true]; intro e; rw [List.all_eq_true.1 e ss hmem] at h; cases h)
            obtain ⟨u, hul, hat, ve, hus, hve⟩ := unhide HCE k ss hx
            subst hus
            have k0 := cell_later hb (hat.get (j := 0) rfl)
            simp only [Nat.add_zero, Nat.mul_one] at k0
            have HNF := hide (fun (V : World) (hV : Below wr.heap.size wr V) => iNamesFit ss ve V (unhide HLN ss hmem) (hve.later RStr.keeps (btr hb hV)))
            obtain ⟨ae, ce, rfl⟩ := hve.slice
            have HB := hide hb
            clear hat hul HCE hx hmem hb hve hnn
            generalize namesB ss = p at *
            cases p
            · go_wp2_with fail
              refine (unhide HNF _ (brf _)).mono ?_
              rintro e W5 ⟨rfl, h⟩
              have HB5 := hide (btr (unhide HB4) (btr (unhide HB) h))
              clear h
              go_wp2_with fail
              exact bodyPost_ret (v := .bool false) (by simp [results, Try.results26, go_sem]) rfl ⟨by rw [show RR = false from unhide HF (by first | rfl | trivial)], unhide HB5⟩
            · go_wp2_with fail
              refine (unhide HNF _ (brf _)).mono ?_
              rintro e W5 ⟨rfl, h⟩
              have HB5 := hide (btr (unhide HB) h)
              clear h
              go_wp2_with fail
              go_roundw
              case rel => exact ⟨k + 1, by omega, by go_num, by rw [unhide HST, unhide HA]; rfl, unhide HB5⟩
              case measure => simp [intOf]; omega
          · obtain rfl : k = 4 := by omega
            have HB := hide (btr (unhide HB4) hb)
            have HA2 : Hid (nls.all namesB = true) := hide (by have h := unhide HA; rwa [List.take_of_length_le (by omega)] at h)
            clear HCE hb HA hnn
            go_wp2
            exact bodyPost_ret (v := .bool true) (by simp [results, Try.results26, go_sem]) rfl ⟨by rw [unhide HD2, unhide HA2], unhide HB⟩
end Go.Proofs.Ytnoklbnacfmpdac
