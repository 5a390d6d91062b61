/- The specification's MapRun. -/
import Derived.Test.YthbcokioijpofabGreatQ28
import Derived.Test.YthbcokioijpofabGreatGv
import Derived.Test.YthbcokioijpofabGreatGw
namespace Go.Proofs.YthbcokioijpofabGreat
open Go Go.RowKit Gs
set_option linter.unusedVariables false
set_option linter.unusedSimpArgs false
set_option maxRecDepth 100000
theorem own_start {W : World} {B M : Nat} (hM : W.heap.size = M) (h : B ≤ M) : (W.alloc (.cells #[] 74)).ownsRow B 74 3 (.slice (some ⟨M, 0, none⟩) 0 0) 0 (rcs []) := by
  subst hM
  exact ⟨rfl, .inr ⟨W.heap.size, 0, #[], rfl, h, heap_alloc_new W _, Nat.le_refl _, Nat.zero_le _, rfl, rfl⟩⟩
theorem init_b2i {x : Mapped} (h : ∀ l ∈ x.regs, l.init = 0 ∨ l.init = 1) : x.regs.map (fun l : MapReg => l.init) = (st0M x).map b2i := by
  unfold st0M
  rw [List.map_map]
  refine List.map_congr_left fun l hl => ?_
  rcases h l hl with e | e <;> simp [e, b2i]
theorem ports_at {V : World} {B n : Nat} {an : Option Addr} {cn : Nat} (h : V.ownsRow B 65 2 (.slice an n cn) n (portsL n)) : ∀ i, i < n → ∃ b o, an = some ⟨b, o, none⟩ ∧ V.cell? ⟨b, o + i * 2 + 1, none⟩ = some (.int .i64 1) := by
  intro i hi
  have hc := fun g hg => World.ownsRow.cells h (g := g) hg
  rcases h.2 with ⟨e, hn⟩ | ⟨g, cap, cur, e, hb, hg, hlc, hm, _⟩
  · omega
  · injection e with e1 e2 e3
    subst e1
    refine ⟨g, 0, rfl, ?_⟩
    have := hc g rfl (i * 2 + 1) (.int .i64 1) (portsL_get n i hi)
    rw [Addr.add_lit] at this
    simpa [Nat.add_assoc] using this
set_option maxHeartbeats 64000000 in
theorem sMapRun (x : Mapped) (u : List Value) (steps : List Step) (sv : Value) (w : World) (hl : szMapped x ≤ 1048576) (hr : RMapped w 0 x u) (hs : RS 2 RStep w 0 steps sv) (hsl : steps.length ≤ 1048576) :
    Calls Tryz.prog 6 #[.agg u.toArray, sv] w fun e w' => (∃ v us E, e = .returned (.tuple #[v, .int .i64 (runM x steps).2]) ∧ w'.ownsRow w.heap.size 74 3 v (runM x steps).1.length (rcs us) ∧ RowsO w' w.heap.size E us (runM x steps).1 ∧ E ≤ w'.heap.size) ∧ Below w.heap.size w w' := by
  have HOK := hide (fun (V : World) (hb : Below w.heap.size w V) => sMapOK x u V hl (hr.later hb))
  rw [← map_same x] at HOK
  obtain ⟨b0, b1, b2, b3, b4, b5⟩ := szMapped_parts hl
  obtain ⟨v0, v1, v2, v3, v4, v5, rfl, h0, h1, h2, h3, h4, h5⟩ := hr
  obtain ⟨s0, c0, e0⟩ := h0.slice
  obtain ⟨s1, c1, e1⟩ := h1.slice
  obtain ⟨s2, c2, e2⟩ := h2.slice
  obtain ⟨s3, c3, e3⟩ := h3.slice
  obtain ⟨s4, c4, e4⟩ := h4.slice
  obtain ⟨s5, c5, e5⟩ := h5.slice
  subst e0 e1 e2 e3 e4 e5
  clear h0 h1
  have HS := hide hs
  have H2 := hide h2
  have H3 := hide h3
  have H4 := hide h4
  have H5 := hide h5
  obtain ⟨sa, sc, rfl⟩ := hs.slice
  clear hs h2 h3 h4 h5
  show Calls Tryz.prog 6 #[.agg #[.slice s0 x.ins.length c0, .slice s1 x.clocks.length c1, .slice s2 x.regs.length c2, .slice s3 x.luts.length c3, .slice s4 x.outs.length c4, .slice s5 x.checks.length c5], .slice sa steps.length sc] w _
  change Hid (∀ (V : World), Below w.heap.size w V → Calls Tryz.prog 22 #[.agg #[.slice s0 x.ins.length c0, .slice s1 x.clocks.length c1, .slice s2 x.regs.length c2, .slice s3 x.luts.length c3, .slice s4 x.outs.length c4, .slice s5 x.checks.length c5]] V _) at HOK
  by_cases hlong : steps.length ≤ 4096
  · have hd : decide ((4096 : Int) < (steps.length : Int)) = false := decide_eq_false (by omega)
    cases hok : mapI x
    · have HR : Hid (runM x steps = ([], 1)) := hide (by unfold runM; rw [if_pos hlong, hok]; rfl)
      rw [hok] at HOK
      clear hok HS H2 H3 H4 H5
      go_enter Tryz.func6, Tryz.ntmps6
      go_wp2_with fail
      refine (unhide HOK _ (bal (brf w) _)).mono ?_
      rintro e W1 ⟨rfl, hb1⟩
      have HB := hide (btr (bal (brf w) _) hb1)
      have HNL : Hid ((W1.alloc (.cells #[] 74)).ownsRow w.heap.size 74 3 (.slice (some ⟨W1.heap.size, 0, none⟩) 0 0) 0 (rcs [])) := hide (own_start rfl (unhide HB).size)
      clear hb1
      go_wp2_with fail
      exact bodyPost_ret (v := .tuple #[.slice (some ⟨W1.heap.size, 0, none⟩) 0 0, .int .i64 1]) (by simp [results, Tryz.results6, go_sem]) rfl ⟨⟨_, [], w.heap.size, by rw [unhide HR], by rw [unhide HR]; exact unhide HNL, by rw [unhide HR]; exact .nil _, (bal (unhide HB) _).size⟩, bal (unhide HB) _⟩
    · have hfit := MapFit.of hok
      have hini := hfit.init
      rw [hok] at HOK
      have HFIT := hide hfit
      have HINI := hide (init_b2i hini)
      have hn0 := hfit.n0
      have hn2 := hfit.n2
      clear hfit hini
      have HC : Hid (∀ V, Below (w.alloc (.cells #[.slice s0 x.ins.length c0, .slice s1 x.clocks.length c1, .slice s2 x.regs.length c2, .slice s3 x.luts.length c3, .slice s4 x.outs.length c4, .slice s5 x.checks.length c5] 38)).heap.size (w.alloc (.cells #[.slice s0 x.ins.length c0, .slice s1 x.clocks.length c1, .slice s2 x.regs.length c2, .slice s3 x.luts.length c3, .slice s4 x.outs.length c4, .slice s5 x.checks.length c5] 38)) V → B6 38 w (.slice s0 x.ins.length c0) (.slice s1 x.clocks.length c1) (.slice s2 x.regs.length c2) (.slice s3 x.luts.length c3) (.slice s4 x.outs.length c4) (.slice s5 x.checks.length c5) V) := hide (fun V h => h)
      go_enter Tryz.func6, Tryz.ntmps6
      go_wp2_with fail
      refine (unhide HOK _ (bal (brf w) _)).mono ?_
      rintro e W1 ⟨rfl, hb1⟩
      have HX1 := hide (unhide HC _ hb1)
      obtain ⟨q0, q1, q2, q3, q4, q5⟩ := (unhide HX1).get
      clear hb1 HOK HC
      go_wp2_with fail
      have hq2 : W1.heap.size < (W1.alloc (.cells #[.slice none 0 0, .slice s1 x.clocks.length c1, .slice none 0 0, .slice none 0 0, .slice none 0 0, .slice none 0 0] 63)).heap.size := by simp
      have hrq : ∀ i (hi : i < 6), RC (W1.alloc (.cells #[.slice none 0 0, .slice s1 x.clocks.length c1, .slice none 0 0, .slice none 0 0, .slice none 0 0, .slice none 0 0] 63)) W1.heap.size i ((#[.slice none 0 0, .slice s1 x.clocks.length c1, .slice none 0 0, .slice none 0 0, .slice none 0 0, .slice none 0 0] : Array Value)[i]'hi) := by
        intro i hi
        have t := TP_made W1 #[.slice none 0 0, .slice s1 x.clocks.length c1, .slice none 0 0, .slice none 0 0, .slice none 0 0, .slice none 0 0] 63 6 rfl i hi
        refine ⟨?_, t.2⟩
        rw [World.cell?_alloc_new]
        match i, hi with
        | 0, _ => rfl
        | 1, _ => rfl
        | 2, _ => rfl
        | 3, _ => rfl
        | 4, _ => rfl
        | 5, _ => rfl
      clear q0 q1 q2 q3 q4 q5
      refine sL1 (W3 := W1) (q := W1.heap.size) b0 (hide (fun V hV => ((unhide HX1).then hV).get.1)) (hide (bal (brf W1) _)) (Nat.le_refl _) hq2 (hide (hrq 0 (by decide))) ?_
      intro y7 y32 y33 y34 y35 y36 y37 y38 y39 y40 y41 y42 y43 y44 V2 vp hvp hf2 hr0 hoth2
      have hr1 := (hoth2 1 _ (by decide) (hrq 1 (by decide))).1
      have hr2 := (hoth2 2 _ (by decide) (hrq 2 (by decide))).1
      have hr3 := (hoth2 3 _ (by decide) (hrq 3 (by decide))).1
      have hr4 := (hoth2 4 _ (by decide) (hrq 4 (by decide))).1
      have hr5 := (hoth2 5 _ (by decide) (hrq 5 (by decide))).1
      change V2.cell? ⟨W1.heap.size, 1, none⟩ = some (.slice s1 x.clocks.length c1) at hr1
      change V2.cell? ⟨W1.heap.size, 2, none⟩ = some (.slice none 0 0) at hr2
      change V2.cell? ⟨W1.heap.size, 3, none⟩ = some (.slice none 0 0) at hr3
      change V2.cell? ⟨W1.heap.size, 4, none⟩ = some (.slice none 0 0) at hr4
      change V2.cell? ⟨W1.heap.size, 5, none⟩ = some (.slice none 0 0) at hr5
      have hr0' := hr0.1
      obtain ⟨an, cn, rfl⟩ := own_shape hvp
      have hb2 : Below W1.heap.size W1 V2 := hf2.below (bal (brf W1) _) (Nat.le_refl _) (Nat.le_of_lt hq2)
      have HX2 := hide ((unhide HX1).then hb2)
      have HSO := hide (sStepsOK (n1 := x.clocks.length) (cn := cn) (cc := c1) (an := an) (ac := s1) (z2 := .slice none 0 0) (z3 := .slice none 0 0) (z4 := .slice none 0 0) (z5 := .slice none 0 0) steps (.slice sa steps.length sc) ((unhide HS).later RStep.keeps (unhide HX2).below) hlong (ports_at hvp) b0 b1)
      clear hvp hf2 hr0 hoth2 hb2 hrq hq2
      cases hall : steps.all (stepB x.ins.length x.clocks.length)
      · have HR : Hid (runM x steps = ([], 1)) := hide (by unfold runM; rw [if_pos hlong, hok, hall]; rfl)
        rw [hall] at HSO
        clear hok hall
        go_wp2_with fail
        refine (unhide HSO).mono ?_
        rintro e W3 ⟨rfl, hb3⟩
        have HB := hide ((unhide HX2).then hb3).below
        have HNL : Hid ((W3.alloc (.cells #[] 74)).ownsRow w.heap.size 74 3 (.slice (some ⟨W3.heap.size, 0, none⟩) 0 0) 0 (rcs [])) := hide (own_start rfl (unhide HB).size)
        clear hb3
        go_wp2_with fail
        exact bodyPost_ret (v := .tuple #[.slice (some ⟨W3.heap.size, 0, none⟩) 0 0, .int .i64 1]) (by simp [results, Tryz.results6, go_sem]) rfl ⟨⟨_, [], w.heap.size, by rw [unhide HR], by rw [unhide HR]; exact unhide HNL, by rw [unhide HR]; exact .nil _, (bal (unhide HB) _).size⟩, bal (unhide HB) _⟩
      · have HR : Hid (runM x steps = (rowsV x (st0M x) steps, 0)) := hide (by unfold runM; rw [if_pos hlong, hok, hall]; rfl)
        have HFS : Hid (∀ s ∈ steps, StepFit x s) := hide (fun s hs => stepB_fit (List.all_eq_true.1 hall s hs))
        rw [hall] at HSO
        clear hok hall
        go_wp2_with fail
        refine (unhide HSO).mono ?_
        rintro e W3 ⟨rfl, hb3⟩
        have HX3 := hide ((unhide HX2).then hb3)
        clear hb3 hr0' hr1 hr2 hr3 hr4 hr5 HSO
        go_wp2_with fail
        refine sL2 (W0 := W3) (ls := x.regs) rfl b2 (hide (fun V hV => ((unhide HX3).then hV).get.2.2.1)) (hide (fun i p hp => by obtain ⟨b, o, e, _, h2, _⟩ := latch_at ((unhide H2).later RMapReg.keeps (unhide HX3).below) i p hp; exact ⟨b, o, e, h2⟩)) (hide (OI_start rfl (Nat.le_refl _))) (hide (bal (brf W3) _)) ?_
        intro y9 y51 y52 y53 y54 y55 y56 y57 y58 y59 y60 y61 y62 y63 y64 y65 y66 V4 v8 ho4 hb4
        rw [unhide HINI] at ho4
        have HX4 := hide ((unhide HX3).then hb4)
        obtain ⟨a8, n8, c8, rfl⟩ := ho4.shape
        obtain ⟨Wl, hWl⟩ : ∃ Wl, Wl = V4.alloc (.cells #[] 74) := ⟨_, rfl⟩
        have hbl : Below V4.heap.size V4 Wl := by rw [hWl]; exact bal (brf V4) _
        have HXl := hide ((unhide HX4).then hbl)
        have HO8 : Hid (OI 0 Wl (.slice a8 n8 c8) ((st0M x).map b2i)) := hide ((ho4.later hbl).low (Nat.zero_le _))
        have HNL : Hid (Wl.ownsRow V4.heap.size 74 3 (.slice (some ⟨V4.heap.size, 0, none⟩) 0 0) 0 (rcs [])) := hide (by rw [hWl]; exact own_start rfl (Nat.le_refl _))
        have HWl := hide hWl
        have HNW := hide (show V4.heap.size ≤ Wl.heap.size from hbl.size)
        have HBX : Hid (BX w.heap.size x s0 s1 s2 s3 s4 s5 c0 c1 c2 c3 c4 c5 V4) := hide (unhide HX4).get
        have HB4 := hide (unhide HX4).below
        clear ho4 hb4 hWl hbl
        have HCS : Hid (∀ (i : Nat) s, steps[i]? = some s → ∃ b o vi vt, sa = some ⟨b, o, none⟩ ∧ V4.cell? ⟨b, o + i * 2, none⟩ = some vi ∧ V4.cell? ⟨b, o + i * 2 + 1, none⟩ = some vt ∧ RS 1 RStr V4 0 s.ins vi ∧ RS 1 RBool V4 0 s.ticks vt) := hide (by
          intro i s hi
          rcases ((unhide HS).later RStep.keeps (unhide HB4)).open with ⟨rfl, _⟩ | ⟨b, o, c', hv, _, _, _, he⟩
          · simp at hi
          · injection hv with e1 e2 e3
            obtain ⟨u, hu, hat, vi, vt, hux, h1, h2⟩ := he i s hi
            subst hux
            exact ⟨b, o, vi, vt, e1, by simpa using hat.get (j := 0) rfl, by simpa using hat.get (j := 1) rfl, h1, h2⟩)
        go_wp2_with fail
        rw [← unhide HWl]
        go_loopw [8, 10, 11] (fun v8 v10 i wr => ∃ (k : Nat) (us : List (Value × Value × Value)) (E : Nat), k ≤ steps.length ∧ i = .int .i64 k ∧ OI 0 wr v8 ((statesV x (st0M x) (steps.take k)).map b2i) ∧ (∃ a l c, v8 = .slice a l c) ∧ wr.ownsRow V4.heap.size 74 3 v10 k (rcs us) ∧ RowsO wr V4.heap.size E us (rowsV x (st0M x) (steps.take k)) ∧ E ≤ wr.heap.size ∧ Below V4.heap.size V4 wr) (fun _ _ i wr => steps.length - (intOf i).toNat)
        case atStart => exact ⟨0, [], V4.heap.size, Nat.zero_le _, rfl, unhide HO8, ⟨_, _, _, rfl⟩, unhide HNL, .nil _, unhide HNW, by rw [unhide HWl]; exact bal (brf V4) _⟩
        case round =>
          obtain ⟨k, us, E, hk, rfl, ho, ⟨a9, n9, c9, rfl⟩, hown, hrows, hE, hb⟩ := hrel
          by_cases hlt : k < steps.length
          · have hsk : steps[k]? = some steps[k] := List.getElem?_eq_getElem hlt
            have hft := unhide HFS _ (List.getElem_mem hlt)
            generalize steps[k] = s at hsk hft
            obtain ⟨bb, oo, vi, vt, rfl, hc0, hc1, hsi, hst⟩ := unhide HCS k s hsk
            obtain ⟨ai, ci, hvi⟩ := hsi.slice
            obtain ⟨ak, ct, hvt⟩ := hst.slice
            rw [hft.1] at hvi
            rw [hft.2.1] at hvt
            subst hvi hvt
            have hStep : rowsV x (st0M x) (steps.take (k + 1)) = rowsV x (st0M x) (steps.take k) ++ [rowV x (lutsV (baseV (s.ins.map bit1) (stepV x (statesV x (st0M x) (steps.take k)) s)) x.luts) (stepV x (statesV x (st0M x) (steps.take k)) s)] := by
              rw [List.take_add_one, hsk, Option.toList_some, rowsV_append]; rfl
            have hStates : statesV x (st0M x) (steps.take (k + 1)) = stepV x (statesV x (st0M x) (steps.take k)) s := by
              rw [List.take_add_one, hsk, Option.toList_some, statesV_append]; rfl
            have hstl := statesV_len x (steps.take k) (st0M x) (by unfold st0M; simp)
            have HSTEP := hide (And.intro hStep hStates)
            have HO := hide ho
            have HOW := hide hown
            have HRW := hide hrows
            have HB := hide hb
            have HFT := hide hft
            have HK0 := hide (cell_later hb hc0)
            have HK1 := hide (cell_later hb hc1)
            have HSI := hide (hsi.later RStr.keeps hb)
            have HTK := hide (hst.later RBool.keeps hb)
            have HSTL := hide hstl
            have HBXk := hide ((unhide HBX).later hb)
            clear hStep hStates ho hown hrows hb hft hc0 hc1 hsi hst hsk hstl HCS
            refine wp_seq_k ?_
            intro K1 hK1
            have HK1' := hide hK1
            clear hK1
            go_wp2_with fail
            refine unhide HK1' _ _ ?_
            clear HK1'
            refine wp_seq_k ?_
            intro K2 hK2
            have HK2' := hide hK2
            clear hK2
            refine wp_block ?_
            refine sRound (unhide HFIT) (unhide HFT) (unhide HSTL) b1 hlt hlong (by omega) HBXk (hide ((unhide H2).later RMapReg.keeps (btr (unhide HB4) (unhide HB)))) (hide ((unhide H3).later RLut.keeps (btr (unhide HB4) (unhide HB)))) (hide ((unhide H4).later RPort.keeps (btr (unhide HB4) (unhide HB)))) (hide ((unhide H5).later RPort.keeps (btr (unhide HB4) (unhide HB)))) HK0 HK1 HSI HTK HO HOW HRW hE (unhide HB).size ?_
            intro y8 y10 y12 y13 y14 y15 y16 y17 y18 y19 y20 y74 y75 y76 y77 y78 y79 y80 y81 y82 y83 y84 y85 y86 y87 y88 y89 y90 y91 y92 y93 y94 y95 y96 y97 y98 y99 y100 y101 y102 y103 y104 y105 y106 y107 y108 y109 y110 y111 y112 y113 y114 y115 y116 y117 y118 y119 y120 y121 y122 y123 y124 y125 y126 y127 y128 y129 y130 y131 y132 y133 y134 y135 y136 y137 y138 y139 y140 y141 y142 y143 y144 y145 y146 y147 y148 y149 y150 y151 y152 y153 y154 y155 y156 y157 y158 y159 y160 y161 y162 y163 y164 y165 y166 y167 y168 y169 y170 y171 y172 y173 y174 y175 y176 y177 y178 y179 y180 y181 y182 y183 y184 y185 y186 y187 y188 y189 y190 y191 y192 y193 y194 y195 y196 y197 y198 y199 y200 y201 y202 V us' hv8 hs8 hown' hrow' hlow
            refine unhide HK2' _ _ ?_
            clear HK2'
            have HR1 := hide (And.intro hv8 (And.intro hs8 (And.intro hown' (And.intro hrow' hlow))))
            clear hv8 hs8 hown' hrow' hlow
            go_wp2_with fail
            go_roundw
            case rel =>
              obtain ⟨r1, r2, r3, ⟨E', r4, r5⟩, r6⟩ := unhide HR1
              exact ⟨k + 1, us', E', by omega, by go_num, by rw [(unhide HSTEP).2]; exact r1, r2, r3, by rw [(unhide HSTEP).1]; exact r4, r5, (unhide HB).trans r6⟩
            case measure => simp [intOf]; omega
          · obtain rfl : k = steps.length := by omega
            rw [List.take_of_length_le (Nat.le_refl _)] at hrows
            have hB4 := (unhide HB4).size
            have HF : Hid (wr.ownsRow w.heap.size 74 3 u10 (rowsV x (st0M x) steps).length (rcs us) ∧ (∃ E, RowsO wr w.heap.size E us (rowsV x (st0M x) steps) ∧ E ≤ wr.heap.size) ∧ Below w.heap.size w wr) := hide ⟨by
              rw [rowsV_len]
              obtain ⟨k1, k2 | ⟨g, cap, cur, hv, hg, rest⟩⟩ := hown
              · exact ⟨k1, .inl k2⟩
              · exact ⟨k1, .inr ⟨g, cap, cur, hv, by omega, rest⟩⟩, RowsO.low hrows hE hB4, btr (unhide HB4) hb⟩
            clear ho hown hrows hb HCS
            go_wp2_with fail
            exact bodyPost_ret (v := .tuple #[u10, .int .i64 0]) (by simp [results, Tryz.results6, go_sem]) rfl ⟨by
              obtain ⟨k1, ⟨E', k2, k3⟩, _⟩ := unhide HF
              exact ⟨_, us, E', by rw [unhide HR], by rw [unhide HR]; exact k1, by rw [unhide HR]; exact k2, k3⟩, (unhide HF).2.2⟩
  · have hd : decide ((4096 : Int) < (steps.length : Int)) = true := decide_eq_true (by omega)
    have HR : Hid (runM x steps = ([], 2)) := hide (by unfold runM; rw [if_neg hlong])
    clear HS H2 H3 H4 H5 HOK
    have HB := hide (bal (brf w) (.cells #[.slice s0 x.ins.length c0, .slice s1 x.clocks.length c1, .slice s2 x.regs.length c2, .slice s3 x.luts.length c3, .slice s4 x.outs.length c4, .slice s5 x.checks.length c5] 38))
    have HNL : Hid (((w.alloc (.cells #[.slice s0 x.ins.length c0, .slice s1 x.clocks.length c1, .slice s2 x.regs.length c2, .slice s3 x.luts.length c3, .slice s4 x.outs.length c4, .slice s5 x.checks.length c5] 38)).alloc (.cells #[] 74)).ownsRow w.heap.size 74 3 (.slice (some ⟨w.heap.size + 1, 0, none⟩) 0 0) 0 (rcs [])) := hide (own_start (by simp) (by omega))
    go_enter Tryz.func6, Tryz.ntmps6
    go_wp2_with fail
    exact bodyPost_ret (v := .tuple #[.slice (some ⟨w.heap.size + 1, 0, none⟩) 0 0, .int .i64 2]) (by simp [results, Tryz.results6, go_sem]) rfl ⟨⟨_, [], w.heap.size, by rw [unhide HR], by rw [unhide HR]; exact unhide HNL, by rw [unhide HR]; exact .nil _, (bal (unhide HB) _).size⟩, bal (unhide HB) _⟩
end Go.Proofs.YthbcokioijpofabGreat
