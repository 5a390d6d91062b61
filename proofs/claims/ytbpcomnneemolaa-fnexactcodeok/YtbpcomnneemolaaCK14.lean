/- impl.CodeOK: the walk. -/
import Derived.Test.YtbpcomnneemolaaCK13
namespace Go.Proofs.Ytbpcomnneemolaa
open Go.RowKit Gs
set_option linter.unusedVariables false
set_option linter.unusedSimpArgs false
set_option maxRecDepth 100000
/-- What CodeOK answers. -/
def codeI (c : Code) : Bool := countsC c && portsC c && (match runI c c.instrs (List.replicate c.slots.toNat 0) with | some ws => endsC c ws | none => false)
theorem countsC_open {c : Code} (h : countsC c = true) : (∃ n : Nat, c.slots = (n : Int) ∧ n ≤ 16384) ∧ c.instrs.length ≤ 16384 ∧ c.inits.length ≤ 256 ∧ 0 ≤ c.clocks ∧ c.clocks ≤ 8 ∧ c.ins.length ≤ 256 ∧ c.outs.length ≤ 256 ∧ c.checks.length ≤ 256 ∧ c.ticks.length = c.inits.length ∧ c.nexts.length = c.inits.length := by
  unfold countsC at h
  simp only [Bool.and_eq_true, decide_eq_true_eq] at h
  refine ⟨⟨c.slots.toNat, by omega, by omega⟩, by omega, by omega, by omega, by omega, by omega, by omega, by omega, by omega, by omega⟩
set_option maxHeartbeats 16000000 in
theorem iCode (c : Code) (v1 v2 v4 v5 v6 v7 v8 : Value) (w : World) (h1 : RS 9 RInstr w 0 c.instrs v1) (h2 : RS 1 RInt w 0 c.ins v2) (h4 : RS 1 RStr w 0 c.inits v4) (h5 : RS 1 RInt w 0 c.ticks v5) (h6 : RS 1 RInt w 0 c.nexts v6) (h7 : RS 1 RInt w 0 c.outs v7) (h8 : RS 1 RInt w 0 c.checks v8) :
    Calls Try.prog 7 #[.agg #[.int .i64 c.slots, v1, v2, .int .i64 c.clocks, v4, v5, v6, v7, v8]] w fun e w' => e = .returned (.bool (codeI c)) ∧ Below w.heap.size w w' := by
  have CN := hide (show ∀ V, Calls Try.prog 20 #[.agg #[.int .i64 c.slots, v1, v2, .int .i64 c.clocks, v4, v5, v6, v7, v8]] V fun e w' => e = .returned (.bool (countsC c)) ∧ Below V.heap.size V w' from by
    intro V
    have l1 := h1.len
    have l2 := h2.len
    have l4 := h4.len
    have l5 := h5.len
    have l6 := h6.len
    have l7 := h7.len
    have l8 := h8.len
    obtain ⟨a1, c1, rfl⟩ := h1.slice
    obtain ⟨a2, c2, rfl⟩ := h2.slice
    obtain ⟨a4, c4, rfl⟩ := h4.slice
    obtain ⟨a5, c5, rfl⟩ := h5.slice
    obtain ⟨a6, c6, rfl⟩ := h6.slice
    obtain ⟨a7, c7, rfl⟩ := h7.slice
    obtain ⟨a8, c8, rfl⟩ := h8.slice
    exact iCounts _ _ _ _ _ _ _ _ _ _ _ _ _ _ _ _ _ _ _ _ _ _ _ V l1 l2 l4 l5 l6 l7 l8)
  have PN := hide (fun V (hb : Below w.heap.size w V) => iPorts c v1 v2 v4 v5 v6 v7 v8 V (h2.later RInt.keeps hb) (h4.later RStr.keeps hb) (h5.later RInt.keeps hb))
  have hsl : (∃ a l c, v1 = .slice a l c) ∧ (∃ a l c, v2 = .slice a l c) ∧ (∃ a l c, v4 = .slice a l c) ∧ (∃ a l c, v5 = .slice a l c) ∧ (∃ a l c, v6 = .slice a l c) ∧ (∃ a l c, v7 = .slice a l c) ∧ (∃ a l c, v8 = .slice a l c) := by
    obtain ⟨a1, c1, rfl⟩ := h1.slice
    obtain ⟨a2, c2, rfl⟩ := h2.slice
    obtain ⟨a4, c4, rfl⟩ := h4.slice
    obtain ⟨a5, c5, rfl⟩ := h5.slice
    obtain ⟨a6, c6, rfl⟩ := h6.slice
    obtain ⟨a7, c7, rfl⟩ := h7.slice
    obtain ⟨a8, c8, rfl⟩ := h8.slice
    exact ⟨⟨_, _, _, rfl⟩, ⟨_, _, _, rfl⟩, ⟨_, _, _, rfl⟩, ⟨_, _, _, rfl⟩, ⟨_, _, _, rfl⟩, ⟨_, _, _, rfl⟩, ⟨_, _, _, rfl⟩⟩
  obtain ⟨⟨a1, l1, c1, e1⟩, ⟨a2, l2, c2, e2⟩, ⟨a4, l4, c4, e4⟩, ⟨a5, l5, c5, e5⟩, ⟨a6, l6, c6, e6⟩, ⟨a7, l7, c7, e7⟩, ⟨a8, l8, c8, e8⟩⟩ := hsl
  generalize hR : codeI c = R
  unfold codeI at hR
  cases hC : countsC c
  · rw [hC] at hR CN
    have HR := hide (show false = R from hR)
    subst e1 e2 e4 e5 e6 e7 e8
    clear h1 h2 h4 h5 h6 h7 h8 PN hR hC
    generalize c.slots = z0 at *
    generalize c.clocks = z3 at *
    go_enter Try.func7, Try.ntmps7
    go_wp2_with fail
    refine (unhide CN _).mono ?_
    rintro e W1 ⟨rfl, hb1⟩
    have HB := hide (btr (bal (brf w) _) hb1)
    clear hb1
    go_wp2
    go_ret
    exact ⟨ret_bool (unhide HR), unhide HB⟩
  · rw [hC] at hR CN
    cases hP : portsC c
    · rw [hP] at hR PN
      have HR := hide (show false = R from hR)
      subst e1 e2 e4 e5 e6 e7 e8
      clear h1 h2 h4 h5 h6 h7 h8 hR hC hP
      generalize c.slots = z0 at *
      generalize c.clocks = z3 at *
      go_enter Try.func7, Try.ntmps7
      go_wp2_with fail
      refine (unhide CN _).mono ?_
      rintro e W1 ⟨rfl, hb1⟩
      have HX := hide (show Bt 31 w #[.int .i64 z0, .slice a1 l1 c1, .slice a2 l2 c2, .int .i64 z3, .slice a4 l4 c4, .slice a5 l5 c5, .slice a6 l6 c6, .slice a7 l7 c7, .slice a8 l8 c8] W1 from hb1)
      clear hb1
      obtain ⟨q0, q1, q2, q3, q4, q5, q6, q7, q8⟩ := (unhide HX).get9
      go_wp2_with fail
      refine (unhide PN _ (unhide HX).below).mono ?_
      rintro e W2 ⟨rfl, hb2⟩
      have HB := hide (btr (unhide HX).below hb2)
      clear hb2 q0 q1 q2 q3 q4 q5 q6 q7 q8
      go_wp2
      go_ret
      exact ⟨ret_bool (unhide HR), unhide HB⟩
    · rw [hP] at hR PN
      obtain ⟨⟨n, hn, hn2⟩, k1, k2, k3, k4, k5, k6, k7, k8, k9⟩ := countsC_open hC
      obtain ⟨M, hM, hMs, hmk⟩ := make_zero n (by omega)
      rw [hn, Int.toNat_natCast] at hR
      have hR2 : (match runI c c.instrs (List.replicate n 0) with | some ws => endsC c ws | none => false) = R := by simpa using hR
      have HR := hide hR2
      have HIN := hide (fun (V : World) (b wb : Nat) (hlk : Lk V b c v1 v2 v4 v5 v6 v7 v8 wb (List.replicate n 0)) (hb : Below w.heap.size w V) (hb0 : w.heap.size ≤ b) (hwb : w.heap.size ≤ wb) (hne : b ≠ wb) (hfz : ∀ i, i < n → V.frozen? ⟨wb, i, none⟩ = false) => iInstrs w V b c v1 v2 v4 v5 v6 v7 v8 wb _ hlk hb hb0 hwb hne (by rw [List.length_replicate]; exact hfz) h1 h2 h4)
      have HEN := hide (fun (V : World) (b wb : Nat) (ws : List Int) (hlk : Lk V b c v1 v2 v4 v5 v6 v7 v8 wb ws) (hb : Below w.heap.size w V) => iEnds V b c v1 v2 v4 v5 v6 v7 v8 wb ws hlk (h4.later RStr.keeps hb) (h6.later RInt.keeps hb) (h7.later RInt.keeps hb) (h8.later RInt.keeps hb) k9)
      have HLL := hide (fun (V : World) (b wb : Nat) => look_Lk (W := V) (b := b) (wb := wb) (v1 := v1) (v2 := v2) (v4 := v4) (v5 := v5) (v6 := v6) (v7 := v7) (v8 := v8) hn hn2)
      rw [hn] at CN PN HLL ⊢
      clear h1 h2 h4 h5 h6 h7 h8 hR hC hP hR2 k1 k2 k3 k4 k5 k6 k7 k8 k9
      generalize c.clocks = z3 at *
      subst e1 e2 e4 e5 e6 e7 e8
      go_enter Try.func7, Try.ntmps7
      go_wp2_with fail
      refine (unhide CN _).mono ?_
      rintro e W1 ⟨rfl, hb1⟩
      have HX := hide (show Bt 31 w #[.int .i64 n, .slice a1 l1 c1, .slice a2 l2 c2, .int .i64 z3, .slice a4 l4 c4, .slice a5 l5 c5, .slice a6 l6 c6, .slice a7 l7 c7, .slice a8 l8 c8] W1 from hb1)
      clear hb1
      obtain ⟨q0, q1, q2, q3, q4, q5, q6, q7, q8⟩ := (unhide HX).get9
      go_wp2_with fail
      refine (unhide PN _ (unhide HX).below).mono ?_
      rintro e W2 ⟨rfl, hb2⟩
      have HX2 := hide ((unhide HX).then hb2)
      clear hb2 q0 q1 q2 q3 q4 q5 q6 q7 q8
      go_wp2
      refine wp_region_plan (FL W2 (.pointer (some ⟨w.heap.size, 0, none⟩)) (.int .i64 n) (.slice a1 l1 c1) (.slice a2 l2 c2) (.int .i64 z3) (.slice a4 l4 c4) (.slice a5 l5 c5) (.slice a6 l6 c6) (.slice a7 l7 c7) (.slice a8 l8 c8) n) (fun _ V => Below W2.heap.size W2 V) (by kernel_rfl) 25 (by kernel_rfl) (by kernel_rfl) ?hj ?hs ?hf
      case hj => exact bdr (brf W2)
      case hs =>
        refine ⟨?_, ?_, ?_, ?_, ?_, ?_, ?_, ?_, trivial⟩
        · exact pm_val (FL.lasts _ _ _ _ _ _ _ _ _ _ _ _) (fun l a V hp ha => ⟨_, by
            have x0 := (ev_form a 1).trans (pm_old hp 1 (v := .pointer (some ⟨w.heap.size, 0, none⟩)) (by kernel_rfl) (by kernel_rfl))
            obtain ⟨q0, q1, q2, q3, q4, q5, q6, q7, q8⟩ := ((unhide HX2).then hp.j).get9
            go_simp, rfl⟩)
        · exact pm_call (f := 22) (FL.lasts _ _ _ _ _ _ _ _ _ _ _ _) (fun l a V hp ha => ⟨#[], by go_simp, (iKinds V).mono (by rintro e V' ⟨rfl, hb⟩; exact ⟨_, rfl, by rw [kA_all]; rfl, hb⟩)⟩)
        · exact pm_val (FL.lasts _ _ _ _ _ _ _ _ _ _ _ _) (fun l a V hp ha => ⟨_, by
            have x0 := (ev_form a 1).trans (pm_old hp 1 (v := .pointer (some ⟨w.heap.size, 0, none⟩)) (by kernel_rfl) (by kernel_rfl))
            go_simp, rfl⟩)
        · exact pm_val (FL.lasts _ _ _ _ _ _ _ _ _ _ _ _) (fun l a V hp ha => ⟨_, by
            have x0 := (ev_form a 14).trans (show a.eval (.tmp 14) = .pointer (some ⟨w.heap.size, 0, none⟩) from pm_kn hp ha 14 2 (by kernel_rfl) (by kernel_rfl))
            obtain ⟨q0, q1, q2, q3, q4, q5, q6, q7, q8⟩ := ((unhide HX2).then hp.j).get9
            go_simp, rfl⟩)
        · exact pm_new (FL.lasts _ _ _ _ _ _ _ _ _ _ _ _) (fun l a V hp ha => ⟨.slice (some ⟨V.heap.size, 0, none⟩) n n, .cells M 3, by
            have x0 := (ev_form a 15).trans (show a.eval (.tmp 15) = .int .i64 n from pm_kn hp ha 15 3 (by kernel_rfl) (by kernel_rfl))
            go_simp, ⟨V.heap.size, rfl, Below.size hp.j, by simp, fun i hi => ⟨by rw [World.cell?_alloc_new]; exact hM i hi, by simp⟩⟩⟩)
        · refine pm_step (FL.lasts _ _ _ _ _ _ _ _ _ _ _ _) (fun l a V hp ha => ?_)
          have x12 : a.eval (.tmp 12) = .agg #[.int .i64 n, .slice a1 l1 c1, .slice a2 l2 c2, .int .i64 z3, .slice a4 l4 c4, .slice a5 l5 c5, .slice a6 l6 c6, .slice a7 l7 c7, .slice a8 l8 c8] := pm_kn hp ha 12 0 (by kernel_rfl) (by kernel_rfl)
          have x13 : a.eval (.tmp 13) = .agg kL := pm_kn hp ha 13 1 (by kernel_rfl) (by kernel_rfl)
          obtain ⟨wb, x16, g1, g2, g3⟩ := pm_kn hp ha 16 4 (by kernel_rfl) (by kernel_rfl)
          have hbl : Try.prog.built 65 ((#[(0, .tmp 12), (1, .tmp 13), (2, .tmp 16)] : Array (Nat × Operand)).map fun (i, x) => (i, a.eval x)).toList = some (lookC #[.int .i64 n, .slice a1 l1 c1, .slice a2 l2 c2, .int .i64 z3, .slice a4 l4 c4, .slice a5 l5 c5, .slice a6 l6 c6, .slice a7 l7 c7, .slice a8 l8 c8] (.slice (some ⟨wb, 0, none⟩) n n)) := by
            rw [← built65 _ _ _ _ _ _ _ _ _ (.slice (some ⟨wb, 0, none⟩) n n) ⟨_, _, _, rfl⟩]
            simp only [List.map_toArray, List.map_cons, List.map_nil, x12, x13, x16]
          refine wp_build 65 #[(0, .tmp 12), (1, .tmp 13), (2, .tmp 16)] rfl (by rw [hbl]; rfl) ?_
          rw [hbl]
          exact ⟨_, rfl, brf _, wb, rfl, g1, g2, g3⟩
        · refine pm_new (FL.lasts _ _ _ _ _ _ _ _ _ _ _ _) (fun l a V hp ha => ?_)
          obtain ⟨wb, x17, g1, g2, g3⟩ := pm_kn hp ha 17 5 (by kernel_rfl) (by kernel_rfl)
          rw [← ev_form] at x17
          generalize hLC : lookC #[.int .i64 n, .slice a1 l1 c1, .slice a2 l2 c2, .int .i64 z3, .slice a4 l4 c4, .slice a5 l5 c5, .slice a6 l6 c6, .slice a7 l7 c7, .slice a8 l8 c8] (.slice (some ⟨wb, 0, none⟩) n n) = LC at x17
          refine ⟨.pointer (some ⟨V.heap.size, 0, none⟩), .cells LC 65, by go_simp, V.heap.size, wb, rfl, g1, g2, by simp, fun i y hy => ?_, fun i hi => ?_⟩
          · rw [hLC] at hy
            rw [World.cell?_alloc_new]; exact hy
          · exact ⟨cell_later (bal (brf V) _) (g3 i hi).1, frozen_later (bal (brf V) _) (g3 i hi).1 (g3 i hi).2⟩
        · refine pm_val (FL.lasts _ _ _ _ _ _ _ _ _ _ _ _) (fun l a V hp ha => ?_)
          have hG := pm_kn hp ha 18 6 (by kernel_rfl) (by kernel_rfl)
          obtain ⟨b, wb, x18, _⟩ := id hG
          have x19 := (ev_form a 18).trans x18
          rw [x18] at hG
          exact ⟨_, by go_simp, hG⟩
      case hf =>
        intro l a V hp hall
        obtain ⟨b, wb, hv, g1, g2, g3, g4, g5⟩ := hp.good 7 _ 3 rfl rfl (hall 7 (by decide))
        have hbV : Below w.heap.size w V := btr (unhide HX2).below hp.j
        have hlk := unhide HLL V b wb g4 (fun i hi => (g5 i hi).1)
        have hw2 := (unhide HX2).size
        have HI := hide (unhide HIN V b wb hlk hbV (by omega) (by omega) (by omega) (fun i hi => (g5 i hi).2))
        obtain ⟨us, rfl, hus⟩ := putAll_of [3, 12, 13, 14, 15, 16, 17, 18] hp.nt hp.df (fun t ht => hp.keep t (planDst (by kernel_rfl) ht))
        have hu3 : us 3 = .pointer (some ⟨b, 0, none⟩) := (hus 3).trans hv
        clear hp hall hv hus hlk HIN HLL g4 g5 HX HX2
        simp only [putAll, List.foldl, Act.put, List.setIfInBounds_toArray, List.set_cons_zero, List.set_cons_succ, hu3]
        clear hu3
        generalize runI c c.instrs (List.replicate n 0) = RN at *
        go_wp2_with fail
        refine (unhide HI).mono ?_
        rintro e W5 ⟨rfl, hl5, hb5⟩
        cases RN with
        | none =>
          go_wp2
          go_ret
          exact ⟨ret_bool (unhide HR), hb5⟩
        | some ws =>
          have HE := hide (unhide HEN W5 b wb ws (hl5 ws rfl) hb5)
          have HB5 := hide hb5
          clear hl5 hb5
          go_wp2_with fail
          refine (unhide HE).mono ?_
          rintro e W6 ⟨rfl, hb6⟩
          go_wp2
          go_ret
          exact ⟨ret_bool (unhide HR), btr (unhide HB5) hb6⟩
end Go.Proofs.Ytbpcomnneemolaa
