/- listOf where what is told looks at a graph that runs. -/
import Derived.Test.YtaamibonpmijaaaGreatQa
import Derived.Test.YtaamibonpmijaaaGreatLo
namespace Go.Proofs.YtaamibonpmijaaaGreat
open Go.RowKit Gs
set_option linter.unusedVariables false
set_option maxRecDepth 100000
theorem txt1_size (b : Bool) : (txt1 b).size ≤ maxLen := by cases b <;> decide
set_option maxHeartbeats 1600000 in
theorem iListNext {p b g : Nat} {W0 w : World} {r0 r1 r2 r3 r4 r5 : Value} {vs : List Bool} (h : Ob W0.heap.size w b g [r0, r1, r2, r3, r4, r5] vs) (hpc : w.cell? ⟨p, 0, none⟩ = some (.pointer (some ⟨b, 0, none⟩))) (hvl : vs.length ≤ 1048576 * 8) (hBW : Below W0.heap.size W0 w) (xs : List Latch) (v : Value) (hl : xs.length ≤ 1048576) (hr : RS 4 RLatch W0 0 xs v) (hlit : ∀ x ∈ xs, 0 ≤ x.next ∧ x.next < 2 * (vs.length : Int)) :
    Calls Tryz.prog 125 #[v, .func (.func 126) #[] #[.pointer (some ⟨p, 0, none⟩)]] w fun e w' => (∃ v', e = .returned v' ∧ OL w.heap.size w' v' (xs.map (fun x : Latch => litV vs x.next))) ∧ Below w.heap.size w w' := by
  rcases hr.open with ⟨rfl, a, c, rfl⟩ | ⟨b, o, c, rfl, hc, hn, _, hcs⟩
  · clear hr h
    go_enter Tryz.func125, Tryz.ntmps125
    go_wp2
    refine wp_loop_rounds 1 ?_
    rw [rounds_succ]
    go_wp2
    exact bodyPost_ret (v := .slice none 0 0) (by simp [results, Tryz.results125, go_sem]) rfl ⟨⟨_, rfl, OL_nil _ _⟩, brf _⟩
  · unfold maxLen at hn
    have HC := hide hcs
    clear hcs hr
    obtain ⟨i0, hi, hz0, hz1, hz2⟩ := info_parts info4
    go_enter Tryz.func125, Tryz.ntmps125
    go_wp2
    go_loopw [5, 10] (fun v i wr => ∃ k : Nat, k ≤ xs.length ∧ i = .int .i64 k ∧ OL w.heap.size wr v ((xs.take k).map (fun x : Latch => litV vs x.next)) ∧ Below w.heap.size w wr) (fun _ i _ => xs.length - (intOf i).toNat)
    case atStart => exact ⟨0, Nat.zero_le _, rfl, OL_nil _ _, brf _⟩
    case round =>
      obtain ⟨k, hk, rfl, hown, hb⟩ := hrel
      by_cases hlt : k < xs.length
      · have hx : xs[k]? = some xs[k] := List.getElem?_eq_getElem hlt
        have hst : (xs.take (k + 1)).map (fun x : Latch => litV vs x.next) = (xs.take k).map (fun x : Latch => litV vs x.next) ++ [litV vs xs[k].next] := by
          rw [List.take_add_one, hx, List.map_append]; rfl
        have hlen : ((xs.take k).map (fun x : Latch => litV vs x.next)).length = k := by rw [List.length_map, List.length_take]; omega
        have hmx := hlit _ (List.getElem_mem hlt)
        generalize xs[k] = x at hx hst hmx
        have HT : Hid (∀ V, Below wr.heap.size wr V → Calls Tryz.prog 126 #[.agg #[.string x.name, .int .i64 x.next, .int .i64 x.init, .int .i64 x.clock], .pointer (some ⟨p, 0, none⟩)] V fun e w' => e = .returned (.bool (litV vs x.next)) ∧ Below V.heap.size V w') := hide (fun V hV => iNextOf (h.later (btr hb hV)) (cell_later (btr hb hV) hpc) x.name x.next x.init x.clock hmx.1 hmx.2 hvl)
        obtain ⟨u, hul, hat, hrx⟩ := unhide HC k x hx
        unfold RLatch at hrx
        obtain ⟨rfl, hbn⟩ := hrx
        have k0 := cell_later (btr hBW hb) (hat.get (j := 0) rfl)
        have k1 := cell_later (btr hBW hb) (hat.get (j := 1) rfl)
        have k2 := cell_later (btr hBW hb) (hat.get (j := 2) rfl)
        have k3 := cell_later (btr hBW hb) (hat.get (j := 3) rfl)
        simp only [Nat.add_zero] at k0
        have hsz := hb.size
        have HB := hide hb
        have HST := hide hst
        have HO := hide hown
        have HLEN := hide hlen
        have HSZ := hide hsz
        have HN := hide hbn
        clear hb hat hul HC hst hown hlen hsz hbn hmx h
        generalize hyv : litV vs x.next = yv at *
        generalize hnm : x.name = nm at *
        generalize hq1 : x.next = z1 at *
        generalize hq2 : x.init = z2 at *
        generalize hq3 : x.clock = z3 at *
        go_wp2_with (first
          | (go_at_call 126; refine (unhide HT _ (bal (brf wr) _)).mono ?_; rintro e W1 ⟨rfl, hb1⟩; have HO1 := hide ((unhide HO).later (btr (bal (brf wr) _) hb1)); have HB1 := hide (btr (bal (unhide HB) _) hb1); clear hb1)
          | (at_builtin; refine wpList_append_own _ rfl _ _ 54 rfl w.heap.size 4 i0 (.bool false) 1 1 Tryz.underlying54 hi hz0 hz1 hz2 rfl (by decide) _ _ _ rfl ((show World.ownsRow _ _ _ _ _ _ _ from unhide HO1).alloc _) ⟨W1.heap.size, 0, none⟩ 1 1 [.bool yv] rfl rfl (newL _ _ _ rfl) (oneL _) (by have := unhide HLEN; unfold maxLen; omega) (by have := unhide HLEN; omega) (by have := (unhide HB1).size; simp; omega) ?_; intro v' w2 hown' hgrow _)
          | go_in)
        have R1 : OL w.heap.size w2 v' ((xs.take (k + 1)).map (fun x : Latch => litV vs x.next)) := by
          rw [unhide HST]; exact OL.step hown'
        have R2 := below_grown (bal (unhide HB1) (.cells #[.bool yv] 4)) hgrow (by have := (unhide HB1).size; simp; omega) ((unhide HO1).row)
        go_roundw
        case rel => exact ⟨k + 1, by omega, by go_num, R1, R2⟩
        case measure => simp [intOf]; omega
      · obtain rfl : k = xs.length := by omega
        rw [List.take_of_length_le (Nat.le_refl _)] at hown
        have HO := hide hown
        have HB := hide hb
        clear hown hb HC h
        go_wp2
        exact bodyPost_ret (v := u5) (by simp [results, Tryz.results125, go_sem]) rfl ⟨⟨_, rfl, unhide HO⟩, unhide HB⟩
set_option maxHeartbeats 1600000 in
theorem iListTold {p b g : Nat} {W0 w : World} {r0 r1 r2 r3 r4 r5 : Value} {vs : List Bool} (h : Ob W0.heap.size w b g [r0, r1, r2, r3, r4, r5] vs) (hpc : w.cell? ⟨p, 0, none⟩ = some (.pointer (some ⟨b, 0, none⟩))) (hvl : vs.length ≤ 1048576 * 8) (hBW : Below W0.heap.size W0 w) (xs : List Pin) (v : Value) (hl : xs.length ≤ 1048576) (hr : RS 2 RPin W0 0 xs v) (hlit : ∀ x ∈ xs, 0 ≤ x.lit ∧ x.lit < 2 * (vs.length : Int)) :
    Calls Tryz.prog 85 #[v, .func (.func 122) #[] #[.pointer (some ⟨p, 0, none⟩)]] w fun e w' => (∃ v', e = .returned v' ∧ OT w.heap.size w' v' (xs.map (fun x : Pin => txt1 (litV vs x.lit)))) ∧ Below w.heap.size w w' := by
  rcases hr.open with ⟨rfl, a, c, rfl⟩ | ⟨b, o, c, rfl, hc, hn, _, hcs⟩
  · clear hr h
    go_enter Tryz.func85, Tryz.ntmps85
    go_wp2
    refine wp_loop_rounds 1 ?_
    rw [rounds_succ]
    go_wp2
    exact bodyPost_ret (v := .slice none 0 0) (by simp [results, Tryz.results85, go_sem]) rfl ⟨⟨_, rfl, OT_nil _ _⟩, brf _⟩
  · unfold maxLen at hn
    have HC := hide hcs
    clear hcs hr
    obtain ⟨i0, hi, hz0, hz1, hz2⟩ := info_parts info9
    go_enter Tryz.func85, Tryz.ntmps85
    go_wp2
    go_loopw [5, 10] (fun v i wr => ∃ k : Nat, k ≤ xs.length ∧ i = .int .i64 k ∧ OT w.heap.size wr v ((xs.take k).map (fun x : Pin => txt1 (litV vs x.lit))) ∧ Below w.heap.size w wr) (fun _ i _ => xs.length - (intOf i).toNat)
    case atStart => exact ⟨0, Nat.zero_le _, rfl, OT_nil _ _, brf _⟩
    case round =>
      obtain ⟨k, hk, rfl, hown, hb⟩ := hrel
      by_cases hlt : k < xs.length
      · have hx : xs[k]? = some xs[k] := List.getElem?_eq_getElem hlt
        have hst : (xs.take (k + 1)).map (fun x : Pin => txt1 (litV vs x.lit)) = (xs.take k).map (fun x : Pin => txt1 (litV vs x.lit)) ++ [txt1 (litV vs xs[k].lit)] := by
          rw [List.take_add_one, hx, List.map_append]; rfl
        have hlen : ((xs.take k).map (fun x : Pin => txt1 (litV vs x.lit))).length = k := by rw [List.length_map, List.length_take]; omega
        have hmx := hlit _ (List.getElem_mem hlt)
        generalize xs[k] = x at hx hst hmx
        have HT : Hid (∀ V, Below wr.heap.size wr V → Calls Tryz.prog 122 #[.agg #[.string x.name, .int .i64 x.lit], .pointer (some ⟨p, 0, none⟩)] V fun e w' => e = .returned (.string (txt1 (litV vs x.lit))) ∧ Below V.heap.size V w') := hide (fun V hV => iToldPin (h.later (btr hb hV)) (cell_later (btr hb hV) hpc) x.name x.lit hmx.1 hmx.2 hvl)
        have HN := hide (txt1_size (litV vs x.lit))
        obtain ⟨u, hul, hat, hrx⟩ := unhide HC k x hx
        unfold RPin at hrx
        obtain ⟨rfl, hbn⟩ := hrx
        have k0 := cell_later (btr hBW hb) (hat.get (j := 0) rfl)
        have k1 := cell_later (btr hBW hb) (hat.get (j := 1) rfl)
        simp only [Nat.add_zero] at k0
        have hsz := hb.size
        have HB := hide hb
        have HST := hide hst
        have HO := hide hown
        have HLEN := hide hlen
        have HSZ := hide hsz
        clear hb hat hul HC hst hown hlen hsz hbn hmx h
        generalize hyv : txt1 (litV vs x.lit) = yv at *
        generalize hnm : x.name = nm at *
        generalize hq1 : x.lit = z1 at *
        go_wp2_with (first
          | (go_at_call 122; refine (unhide HT _ (bal (brf wr) _)).mono ?_; rintro e W1 ⟨rfl, hb1⟩; have HO1 := hide ((unhide HO).later (btr (bal (brf wr) _) hb1)); have HB1 := hide (btr (bal (unhide HB) _) hb1); clear hb1)
          | (at_builtin; refine wpList_append_own _ rfl _ _ 22 rfl w.heap.size 9 i0 (.string ByteArray.empty) 1 16 Tryz.underlying22 hi hz0 hz1 hz2 rfl (by decide) _ _ _ rfl ((unhide HO1).1.alloc _) ⟨W1.heap.size, 0, none⟩ 1 1 [.string yv] rfl rfl (newT _ _ _ rfl) (oneT _) (by have := unhide HLEN; unfold maxLen; omega) (by have := unhide HLEN; omega) (by have := (unhide HB1).size; simp; omega) ?_; intro v' w2 hown' hgrow _)
          | go_in)
        have R1 : OT w.heap.size w2 v' ((xs.take (k + 1)).map (fun x : Pin => txt1 (litV vs x.lit))) := by
          rw [unhide HST]; exact OT.step hown' (unhide HO1).2 (unhide HN)
        have R2 := below_grown (bal (unhide HB1) (.cells #[.string yv] 9)) hgrow (by have := (unhide HB1).size; simp; omega) ((unhide HO1).row)
        go_roundw
        case rel => exact ⟨k + 1, by omega, by go_num, R1, R2⟩
        case measure => simp [intOf]; omega
      · obtain rfl : k = xs.length := by omega
        rw [List.take_of_length_le (Nat.le_refl _)] at hown
        have HO := hide hown
        have HB := hide hb
        clear hown hb HC h
        go_wp2
        exact bodyPost_ret (v := u5) (by simp [results, Tryz.results85, go_sem]) rfl ⟨⟨_, rfl, unhide HO⟩, unhide HB⟩
end Go.Proofs.YtaamibonpmijaaaGreat
