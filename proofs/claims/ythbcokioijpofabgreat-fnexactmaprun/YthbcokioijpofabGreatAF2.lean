/- sourcesFit. -/
import Derived.Test.YthbcokioijpofabGreatGd
import Derived.Test.YthbcokioijpofabGreatAE
import Derived.Test.YthbcokioijpofabGreatGg
namespace Go.Proofs.YthbcokioijpofabGreat
open Go Go.RowKit Gs
set_option linter.unusedVariables false
set_option linter.unusedSimpArgs false
set_option maxRecDepth 100000
/-- What sourcesFit answers. -/
def srcsB (l0 : Nat) (xs2 : List MapReg) (xs3 : List Lut) (xs4 xs5 : List Port) : Bool := lutsB (l0 + xs2.length) xs3 && (xs4.map (fun p : Port => p.src) ++ (xs5.map (fun p : Port => p.src) ++ xs2.map (fun l : MapReg => l.src))).all (fun e => plB e (l0 + xs2.length + xs3.length))
set_option maxHeartbeats 16000000 in
theorem iSources (s0 s1 s2 s3 s4 s5 : Option Addr) (l0 l1 l2 l3 l4 l5 c0 c1 c2 c3 c4 c5 : Nat) (xs2 : List MapReg) (xs : List Lut) (xs4 xs5 : List Port) (w : World) (hl0 : l0 ≤ 1048576) (hl2 : xs2.length ≤ 1048576) (hl3 : xs.length ≤ 1048576) (hl4 : xs4.length ≤ 1048576) (hl5 : xs5.length ≤ 1048576) (hin : ∀ x ∈ xs, x.inp.length ≤ 1048576) (h2 : RS 4 RMapReg w 0 xs2 (.slice s2 l2 c2)) (h3 : RS 2 RLut w 0 xs (.slice s3 l3 c3)) (h4 : RS 2 RPort w 0 xs4 (.slice s4 l4 c4)) (h5 : RS 2 RPort w 0 xs5 (.slice s5 l5 c5)) :
    Calls Tryz.prog 63 #[.agg #[.slice s0 l0 c0, .slice s1 l1 c1, .slice s2 l2 c2, .slice s3 l3 c3, .slice s4 l4 c4, .slice s5 l5 c5]] w fun e w' => e = .returned (.bool (srcsB l0 xs2 xs xs4 xs5)) ∧ Below w.heap.size w w' := by
  have HC1 : Hid (∀ V, Below (w.alloc (.cells #[.slice s0 l0 c0, .slice s1 l1 c1, .slice s2 l2 c2, .slice s3 l3 c3, .slice s4 l4 c4, .slice s5 l5 c5] 38)).heap.size (w.alloc (.cells #[.slice s0 l0 c0, .slice s1 l1 c1, .slice s2 l2 c2, .slice s3 l3 c3, .slice s4 l4 c4, .slice s5 l5 c5] 38)) V → V.cell? ⟨w.heap.size, 0, none⟩ = some (.slice s0 l0 c0) ∧ V.cell? ⟨w.heap.size, 1, none⟩ = some (.slice s1 l1 c1) ∧ V.cell? ⟨w.heap.size, 2, none⟩ = some (.slice s2 l2 c2) ∧ V.cell? ⟨w.heap.size, 3, none⟩ = some (.slice s3 l3 c3) ∧ V.cell? ⟨w.heap.size, 4, none⟩ = some (.slice s4 l4 c4) ∧ V.cell? ⟨w.heap.size, 5, none⟩ = some (.slice s5 l5 c5)) := hide (fun V hb => ⟨cell_later hb (by rw [World.cell?_alloc_new]; rfl), cell_later hb (by rw [World.cell?_alloc_new]; rfl), cell_later hb (by rw [World.cell?_alloc_new]; rfl), cell_later hb (by rw [World.cell?_alloc_new]; rfl), cell_later hb (by rw [World.cell?_alloc_new]; rfl), cell_later hb (by rw [World.cell?_alloc_new]; rfl)⟩)
  obtain ⟨W, hW⟩ : ∃ W, W = w.alloc (.cells #[.slice s0 l0 c0, .slice s1 l1 c1, .slice s2 l2 c2, .slice s3 l3 c3, .slice s4 l4 c4, .slice s5 l5 c5] 38) := ⟨_, rfl⟩
  have HW : Hid (Below w.heap.size w W) := hide (by rw [hW]; exact bal (brf w) _)
  rw [← hW] at HC1
  have HE := hide (fun (V : World) (hb : Below w.heap.size w V) => iEnds s0 s1 s2 s3 s4 s5 l0 l1 l2 l3 l4 l5 c0 c1 c2 c3 c4 c5 xs2 xs4 xs5 V hl2 hl4 hl5 (h2.later RMapReg.keeps hb) (h4.later RPort.keeps hb) (h5.later RPort.keeps hb))
  have hd2 : l2 = xs2.length := by
    obtain ⟨a, c, hv, _⟩ := h2
    injection hv with e1 e2 e3
  obtain ⟨FA, hFA⟩ : ∃ FA : Nat, FA = l0 + l2 := ⟨_, rfl⟩
  have HFI : Hid (∀ V : World, Calls Tryz.prog 69 #[.agg #[.slice s0 l0 c0, .slice s1 l1 c1, .slice s2 l2 c2, .slice s3 l3 c3, .slice s4 l4 c4, .slice s5 l5 c5]] V fun e w' => e = .returned (.int .i64 (FA : Int)) ∧ Below V.heap.size V w') := hide (fun V => by
    rw [hFA]
    exact iFirst s0 s2 l0 l2 c0 c2 _ _ _ _ V hl0 (by omega))
  have HEL := hide (show (xs4.map (fun p : Port => p.src) ++ (xs5.map (fun p : Port => p.src) ++ xs2.map (fun l : MapReg => l.src))).length ≤ 4194304 by simp; omega)
  have HR : Hid (srcsB l0 xs2 xs xs4 xs5 = (lutsB FA xs && (xs4.map (fun p : Port => p.src) ++ (xs5.map (fun p : Port => p.src) ++ xs2.map (fun l : MapReg => l.src))).all (fun e => plB e (FA + xs.length)))) := hide (by unfold srcsB; rw [hFA, hd2])
  have hFb : FA ≤ 2097153 := by omega
  generalize (xs4.map (fun p : Port => p.src) ++ (xs5.map (fun p : Port => p.src) ++ xs2.map (fun l : MapReg => l.src))) = es at *
  generalize srcsB l0 xs2 xs xs4 xs5 = RR at *
  clear h2 h4 h5 hd2 hFA hl0 hl2 hl4 hl5
  obtain ⟨hlen, hcs⟩ : l3 = xs.length ∧ (xs ≠ [] → ∃ b o, s3 = some ⟨b, o, none⟩ ∧ ∀ i x, xs[i]? = some x → ∃ u, u.length = 2 ∧ At w b (o + i * 2) u ∧ RLut w 0 x u) := by
    obtain ⟨a, c, hv, _, _, h⟩ := h3
    injection hv with e1 e2 e3
    refine ⟨e2, fun hne => ?_⟩
    obtain ⟨b, o, ha, _, hh⟩ := h hne
    exact ⟨b, o, by rw [e1, ha], hh⟩
  clear h3
  subst hlen
  have HCS := hide hcs
  have HIN := hide hin
  clear hcs hin
  have HW' := hide hW
  go_enter Tryz.func63, Tryz.ntmps63
  go_wp2_with fail
  rw [← unhide HW']
  refine (unhide HFI _).mono ?_
  rintro e W0 ⟨rfl, hb0⟩
  have HB0 := hide hb0
  obtain ⟨q0, q1, q2, q3, q4, q5⟩ := unhide HC1 W0 hb0
  clear hb0 hW
  go_wp2_with fail
  clear q0 q1 q2 q3 q4 q5
  go_loopw [3, 13] (fun vv i wr => ∃ k : Nat, k ≤ xs.length ∧ i = .int .i64 k ∧ vv = .int .i64 ((FA + k : Nat) : Int) ∧ upB (lutAt FA xs) k = true ∧ Below W.heap.size W wr) (fun vv i wr => xs.length - (intOf i).toNat)
  case atStart => exact ⟨0, Nat.zero_le _, rfl, rfl, rfl, unhide HB0⟩
  case round =>
    obtain ⟨k, hk, rfl, rfl, hall, hb⟩ := hrel
    have HA := hide hall
    clear hall HB0
    by_cases hlt : k < xs.length
    · obtain ⟨b, o, hs3, hcx⟩ := unhide HCS (by intro h; rw [h] at hlt; simp at hlt)
      have hx : xs[k]? = some xs[k] := List.getElem?_eq_getElem hlt
      have hmem : xs[k] ∈ xs := List.getElem_mem hlt
      generalize xs[k] = x at hx hmem
      have HST : Hid (upB (lutAt FA xs) (k + 1) = (upB (lutAt FA xs) k && lutB (FA + k) x)) := hide (by rw [upB_succ, lutAt_at hx])
      have HF : Hid (lutB (FA + k) x = false → RR = false) := hide (fun h => by
        rw [unhide HR, show lutsB FA xs = false from upB_false hlt (by rw [lutAt_at hx, h])]; rfl)
      obtain ⟨u, hul, hat, v0, hus, hrs⟩ := hcx k x hx
      subst hus
      have HFT : Hid (∀ V, Below w.heap.size w V → Calls Tryz.prog 80 #[.agg #[v0, .int .i64 x.table], .int .i64 ((FA + k : Nat) : Int)] V fun e w' => e = .returned (.bool (lutB (FA + k) x)) ∧ Below V.heap.size V w') := hide (fun V hV => iFits x.inp x.table (FA + k) v0 V (unhide HIN x hmem) (by omega) (hrs.later RInt.keeps hV))
      have k0 := cell_later (btr (unhide HW) hb) (hat.get (j := 0) rfl)
      have k1 := cell_later (btr (unhide HW) hb) (hat.get (j := 1) rfl)
      simp only [Nat.add_zero] at k0
      have HB := hide (bal (btr (unhide HW) hb) (.cells #[v0, .int .i64 x.table] 105))
      have HB2 := hide (bal hb (.cells #[v0, .int .i64 x.table] 105))
      obtain ⟨av, cv, rfl⟩ := hrs.slice
      clear hat hul hx hb hcx hrs hmem
      have HVV := hide (show FA + k ≤ 4194304 by omega)
      have HVN := hide (show FA + (k + 1) = FA + k + 1 by omega)
      generalize lutB (FA + k) x = p at *
      generalize FA + k = VV at *
      have hVV := unhide HVV
      generalize x.table = tt at *
      generalize x.inp.length = nn at *
      subst hs3
      cases p
      · go_wp2_with fail
        refine (unhide HFT _ (unhide HB)).mono ?_
        rintro e W1 ⟨rfl, h⟩
        have HB3 := hide (btr (unhide HB) h)
        clear h
        go_wp2_with fail
        exact bodyPost_ret (v := .bool false) (by simp [results, Tryz.results63, go_sem]) rfl ⟨by rw [show RR = false from unhide HF (by first | rfl | trivial)], unhide HB3⟩
      · go_wp2_with fail
        refine (unhide HFT _ (unhide HB)).mono ?_
        rintro e W1 ⟨rfl, h⟩
        have HB3 := hide (btr (unhide HB2) h)
        clear h
        go_wp2_with fail
        go_roundw
        case rel => exact ⟨k + 1, by omega, by go_num, by rw [unhide HVN]; go_num, by rw [unhide HST, unhide HA]; rfl, unhide HB3⟩
        case measure => simp [intOf]; omega
    · obtain rfl : k = xs.length := by omega
      have HB := hide (btr (unhide HW) hb)
      obtain ⟨q0, q1, q2, q3, q4, q5⟩ := unhide HC1 wr hb
      have hA2 : lutsB FA xs = true := unhide HA
      have HR2 : Hid (RR = es.all (fun e => plB e (FA + xs.length))) := hide (by rw [unhide HR, hA2]; rfl)
      have HVV := hide (show FA + xs.length ≤ 4194304 by omega)
      generalize FA + xs.length = VV at *
      have hVV := unhide HVV
      clear hb hA2 HA HR
      go_wp2_with fail
      refine (unhide HE _ (unhide HB)).mono ?_
      rintro e W1 ⟨⟨v', rfl, ho⟩, hb1⟩
      have hr := ho.any (unhide HEL)
      have HB1 := hide (btr (unhide HB) hb1)
      clear ho hb1 q0 q1 q2 q3 q4 q5
      rcases hr.open with ⟨rfl, a, c, rfl⟩ | ⟨b, o, c, rfl, hc, hn, _, hce⟩
      · clear hr
        go_wp2
        refine wp_loop_rounds 1 ?_
        rw [rounds_succ]
        go_wp2
        exact bodyPost_ret (v := .bool true) (by simp [results, Tryz.results63, go_sem]) rfl ⟨by rw [unhide HR2]; rfl, unhide HB1⟩
      · have HCE := hide hce
        unfold maxLen at hn
        clear hr hce hc
        go_wp2
        go_loop [27] (fun i => ∃ k : Nat, k ≤ es.length ∧ i = .int .i64 k ∧ (es.take k).all (fun e => plB e VV) = true) (fun i => es.length - (intOf i).toNat)
        case atStart => exact ⟨0, Nat.zero_le _, rfl, rfl⟩
        case round =>
          obtain ⟨k, hk, rfl, hall⟩ := hrel
          have HA := hide hall
          clear hall
          by_cases hlt : k < es.length
          · have hx : es[k]? = some es[k] := List.getElem?_eq_getElem hlt
            have hmem : es[k] ∈ es := List.getElem_mem hlt
            generalize es[k] = z at hx hmem
            have HST := hide (show (es.take (k + 1)).all (fun e => plB e VV) = ((es.take k).all (fun e => plB e VV) && plB z VV) by rw [List.take_add_one, hx, List.all_append]; simp)
            have HF : Hid (plB z VV = false → RR = false) := hide (fun h => by rw [unhide HR2, ← Bool.not_eq_true]; intro e; rw [List.all_eq_true.1 e z hmem] at h; cases h)
            obtain ⟨u, hul, hat, hus⟩ := unhide HCE k z hx
            subst hus
            have k0 := hat.get (j := 0) rfl
            simp only [Nat.add_zero, Nat.mul_one] at k0
            clear hat hul HCE hx hmem
            generalize hp1 : plB z VV = p1 at *
            have HP1 : Hid ((decide (0 ≤ z) && decide (z < (VV : Int))) = p1) := hide hp1
            clear hp1
            cases p1
            · go_wp2_with fail
              refine (iPlace z VV _).mono ?_
              rintro e W2 ⟨rfl, h⟩
              subst h
              rw [unhide HP1]
              go_wp2_with fail
              exact bodyPost_ret (v := .bool false) (by simp [results, Tryz.results63, go_sem]) rfl ⟨by rw [show RR = false from unhide HF (by first | rfl | trivial)], unhide HB1⟩
            · go_wp2_with fail
              refine (iPlace z VV _).mono ?_
              rintro e W2 ⟨rfl, h⟩
              subst h
              rw [unhide HP1]
              go_wp2_with fail
              go_round
              case rel => exact ⟨k + 1, by omega, by go_num, by rw [unhide HST, unhide HA]; rfl⟩
              case measure => simp [intOf]; omega
          · obtain rfl : k = es.length := by omega
            clear HCE
            go_wp2
            refine bodyPost_ret (v := .bool true) (by simp [results, Tryz.results63, go_sem]) rfl ⟨ret_bool ?_, unhide HB1⟩
            have h := unhide HA
            rw [List.take_of_length_le (Nat.le_refl _)] at h
            rw [unhide HR2, h]
end Go.Proofs.YthbcokioijpofabGreat
