/- The goals are the ends. -/
import Derived.Test.YtlldfaniddbjaaaGreatDoorGRW7
import Derived.Test.YtlldfaniddbjaaaGreatDoorRI14
import Derived.Test.YtlldfaniddbjaaaGreatDoorGHD
import Derived.Test.YtlldfaniddbjaaaGreatDoorGFB
import Derived.Test.YtlldfaniddbjaaaGreatDoorRI21
namespace Go.Proofs.YtlldfaniddbjaaaGreatDoor
open Go Go.RowKit Gs
set_option linter.unusedVariables false
set_option maxRecDepth 100000
set_option maxHeartbeats 1600000
theorem goals_ends {x : Packed} {W H T s : Nat} {ts : List Int} {r : Int × Int} (hx : StOK x W H T ts) (hs : s < x.ins.length + x.blocks.length) (hB : ∀ b ∈ x.blocks, ∀ v ∈ b.inp, 0 ≤ v) (hE : ∀ e ∈ x.outs ++ x.checks, 0 ≤ e.src) :
    r ∈ glL (fromP x.ins.length W H ts s) (stL W H x.ins.length (x.outs ++ x.checks).length ts) (lkR (psL x) s) (lkR (psL x) s).length ↔ r ∈ readersL x W H ts (s : Int) ∧ r ≠ fromP x.ins.length W H ts s := by
  rw [glL_mem]
  have hnb := hx.nb
  have hown := stL_src (W := W) (H := H) (nI := x.ins.length) (nE := (x.outs ++ x.checks).length) (s := s) (ts := ts) (by omega)
  have hel : (x.outs ++ x.checks).length = x.outs.length + x.checks.length := List.length_append
  constructor
  · rintro ⟨i, n, h1, h2, h3, h4⟩
    refine ⟨?_, h4⟩
    have hm := List.mem_of_getElem? h2
    rcases lkR_mem.1 hm with e | hm
    · exfalso
      subst e
      rw [Int.toNat_natCast, hown] at h3
      injection h3 with h3
      exact h4 h3.symm
    · unfold readersL
      rw [List.mem_append]
      rcases List.mem_append.1 hm with hm | hm
      · left
        obtain ⟨k, b, hk, hb, hn, v, hv, hvs⟩ := psB_mem.1 hm
        refine rdB_mem.2 ⟨k, b, hk, hb, ?_, ?_⟩
        · have h0 := hB b (List.mem_of_getElem? hb) v hv
          have : v = (s : Int) := by omega
          rw [← this]
          exact hasB_in.2 hv
        · rw [hn, Int.toNat_natCast, stL_src (by omega)] at h3
          injection h3 with h3
          rw [← h3]
          unfold fromP
          rw [if_neg (by omega)]
          simp
      · right
        obtain ⟨k, e, hk, he, hn, hes⟩ := psE_mem.1 hm
        have h0 := hE e (List.mem_of_getElem? he)
        refine rdE_mem.2 ⟨k, e, by omega, he, by omega, ?_⟩
        rw [hn, hnb, Int.toNat_natCast, stL_end hk] at h3
        injection h3 with h3
        exact h3.symm
  · rintro ⟨hr, hne⟩
    have key : ∀ n : Nat, (s, (n : Int)) ∈ psL x → (stL W H x.ins.length (x.outs ++ x.checks).length ts)[n]? = some r → ∃ i n, i < (lkR (psL x) s).length ∧ (lkR (psL x) s)[i]? = some n ∧ (stL W H x.ins.length (x.outs ++ x.checks).length ts)[n.toNat]? = some r ∧ r ≠ fromP x.ins.length W H ts s := fun n hn h3 => by
      obtain ⟨i, hi⟩ := List.mem_iff_getElem?.1 (lkR_mem.2 (.inr hn))
      exact ⟨i, (n : Int), (List.getElem?_eq_some_iff.1 hi).1, hi, by rw [Int.toNat_natCast]; exact h3, hne⟩
    unfold readersL at hr
    rcases List.mem_append.1 hr with hr | hr
    · obtain ⟨k, b, hk, hb, hh, e⟩ := rdB_mem.1 hr
      refine key (x.ins.length + k) (List.mem_append.2 (.inl (psB_mem.2 ⟨k, b, hk, hb, rfl, (s : Int), hasB_in.1 hh, by simp⟩))) ?_
      rw [stL_src (by omega), e]
      unfold fromP
      rw [if_neg (by omega)]
      simp
    · obtain ⟨k, p, hk, hp, hps, e⟩ := rdE_mem.1 hr
      have hk' : k < (x.outs ++ x.checks).length := by omega
      refine key (x.ins.length + x.blocks.length + k) (List.mem_append.2 (.inr (psE_mem.2 ⟨k, p, hk', hp, rfl, by rw [hps]; simp⟩))) ?_
      rw [hnb, stL_end hk', e]
/-- A net is right by its ends where it comes to each of some goals with these members. -/
theorem net_goals {x : Packed} {W H T s : Nat} {ts : List Int} {nets : List (List Hop)} {net : List Hop} {gs : List (Int × Int)} (hx : StOK x W H T ts) (hs : s < x.ins.length + x.blocks.length) (hB : ∀ b ∈ x.blocks, ∀ v ∈ b.inp, 0 ≤ v) (hE : ∀ e ∈ x.outs ++ x.checks, 0 ≤ e.src) (hn : nets[s]? = some net)
    (hg : ∀ r, r ∈ gs ↔ r ∈ glL (fromP x.ins.length W H ts s) (stL W H x.ins.length (x.outs ++ x.checks).length ts) (lkR (psL x) s) (lkR (psL x) s).length) :
    netB x W H T ts nets s = (upB (hopB W H T (fromP x.ins.length W H ts s) (nets.take s).flatten net) net.length && gs.all (reachedB net)) := by
  unfold netB
  rw [hn]
  simp only
  congr 1
  rw [Bool.eq_iff_iff, List.all_eq_true, List.all_eq_true]
  constructor
  · intro h r hr
    have h1 := (goals_ends hx hs hB hE).1 ((hg r).1 hr)
    have h2 := h r h1.1
    rw [Bool.or_eq_true, decide_eq_true_eq] at h2
    exact h2.resolve_left h1.2
  · intro h r hr
    rw [Bool.or_eq_true, decide_eq_true_eq]
    by_cases e : r = fromP x.ins.length W H ts s
    · exact .inl e
    · exact .inr (h r ((hg r).2 ((goals_ends hx hs hB hE).2 ⟨hr, e⟩)))
end Go.Proofs.YtlldfaniddbjaaaGreatDoor
namespace Go.Proofs.YtlldfaniddbjaaaGreatDoor
open Go Go.RowKit Gs
set_option linter.unusedVariables false
set_option linter.unusedSimpArgs false
set_option maxRecDepth 100000
set_option maxHeartbeats 16000000 in
theorem iPlaceOK (a : Packed) (u : List Value) (x0 x1 x2 x3 : Int) (xs : List Int) (v : Value) (w : World) (hl : szPacked a ≤ 1048576) (hlx : xs.length ≤ 1048576) (hr : RPacked w 0 a u) (hx : RS 1 RInt w 0 xs v) :
    Calls Tryz.prog 32 #[.agg u.toArray, .agg #[.int .i64 x0, .int .i64 x1, .int .i64 x2, .int .i64 x3], v] w fun e w' => e = .returned (.bool (placeB (packI a) x0 x1 x2 x3 a.ins.length a.blocks.length a.outs.length a.checks.length xs)) ∧ Below w.heap.size w w' := by
  have hz : szPacked a = szL (fun (s : ByteArray) => s.size) a.ins + szL (fun (s : ByteArray) => s.size) a.clocks + szL szBlock a.blocks + szL szPort a.outs + szL szPort a.checks := rfl
  have z0 := szL_sm (fun (s : ByteArray) => s.size) a.ins
  have z1 := szL_sm (fun (s : ByteArray) => s.size) a.clocks
  have z2 := szL_sm szBlock a.blocks
  have z4 := szL_sm szPort a.outs
  have z5 := szL_sm szPort a.checks
  have b0 : a.ins.length ≤ 1048576 := by omega
  have b1 : a.clocks.length ≤ 1048576 := by omega
  have b2 : a.blocks.length ≤ 1048576 := by omega
  have b3 : a.outs.length ≤ 1048576 := by omega
  have b4 : a.checks.length ≤ 1048576 := by omega
  clear hz z0 z1 z2 z4 z5
  have HPK := hide (fun (V : World) (hb : Below w.heap.size w V) => iPackOK a u V hl (RPacked.keeps _ _ _ _ _ (later_cells hb 0) hr))
  obtain ⟨v0, v1, v2, v3, v4, rfl, h0, h1, h2, h3, h4⟩ := hr
  obtain ⟨s0, c0, rfl⟩ := h0.slice
  obtain ⟨l0, e0⟩ : ∃ l, a.ins.length = l := ⟨_, rfl⟩
  rw [e0] at HPK b0
  obtain ⟨s1, c1, rfl⟩ := h1.slice
  obtain ⟨l1, e1⟩ : ∃ l, a.clocks.length = l := ⟨_, rfl⟩
  rw [e1] at HPK b1
  obtain ⟨s2, c2, rfl⟩ := h2.slice
  obtain ⟨l2, e2⟩ : ∃ l, a.blocks.length = l := ⟨_, rfl⟩
  rw [e2] at HPK b2
  obtain ⟨s3, c3, rfl⟩ := h3.slice
  obtain ⟨l3, e3⟩ : ∃ l, a.outs.length = l := ⟨_, rfl⟩
  rw [e3] at HPK b3
  obtain ⟨s4, c4, rfl⟩ := h4.slice
  obtain ⟨l4, e4⟩ : ∃ l, a.checks.length = l := ⟨_, rfl⟩
  rw [e4] at HPK b4
  rw [e0, e1, e2, e3, e4]
  clear h0 h1 h2 h3 h4
  obtain ⟨q0, hq0⟩ : ∃ q, packI a = q := ⟨_, rfl⟩
  rw [hq0] at HPK ⊢
  clear hq0 hl e0 e1 e2 e3 e4
  have HPK2 : Hid (∀ V, Below w.heap.size w V → Calls Tryz.prog 53 #[.agg #[.slice s0 l0 c0, .slice s1 l1 c1, .slice s2 l2 c2, .slice s3 l3 c3, .slice s4 l4 c4]] V fun e w' => e = .returned (.bool q0) ∧ Below V.heap.size V w') := hide (fun V hb => unhide HPK V hb)
  have HCH := hide (fun V => iChipOK x0 x1 x2 x3 V)
  obtain ⟨q1, hq1⟩ : ∃ q, chipB x0 x1 x2 x3 = q := ⟨_, rfl⟩
  have HR : Hid (placeB q0 x0 x1 x2 x3 l0 l2 l3 l4 xs = (q0 && (q1 && (padsB (x1 * x3).toNat l0 l3 l4 && (decide (xs.length = l2) && insB (x0 * x1).toNat xs))))) := hide (by unfold placeB; rw [hq1])
  generalize placeB q0 x0 x1 x2 x3 l0 l2 l3 l4 xs = RR at *
  rw [hq1] at HCH
  clear HPK
  obtain ⟨X1, hX1⟩ : ∃ X, X = (w.alloc (.cells #[.slice s0 l0 c0, .slice s1 l1 c1, .slice s2 l2 c2, .slice s3 l3 c3, .slice s4 l4 c4] 37)).alloc (.cells #[.int .i64 x0, .int .i64 x1, .int .i64 x2, .int .i64 x3] 39) := ⟨_, rfl⟩
  have HB1 : Hid (Below w.heap.size w X1) := hide (by rw [hX1]; exact bal (bal (brf w) _) _)
  have HCP : Hid (∀ V, Below X1.heap.size X1 V → V.cell? ⟨w.heap.size, 0, none⟩ = some (.slice s0 l0 c0) ∧ V.cell? ⟨w.heap.size, 1, none⟩ = some (.slice s1 l1 c1) ∧ V.cell? ⟨w.heap.size, 2, none⟩ = some (.slice s2 l2 c2) ∧ V.cell? ⟨w.heap.size, 3, none⟩ = some (.slice s3 l3 c3) ∧ V.cell? ⟨w.heap.size, 4, none⟩ = some (.slice s4 l4 c4)) := hide (fun V hb => by
    rw [hX1] at hb
    have hb' := btr (bal (brf (w.alloc (.cells #[.slice s0 l0 c0, .slice s1 l1 c1, .slice s2 l2 c2, .slice s3 l3 c3, .slice s4 l4 c4] 37))) (.cells #[.int .i64 x0, .int .i64 x1, .int .i64 x2, .int .i64 x3] 39)) hb
    exact ⟨cell_later hb' (by rw [World.cell?_alloc_new]; rfl), cell_later hb' (by rw [World.cell?_alloc_new]; rfl), cell_later hb' (by rw [World.cell?_alloc_new]; rfl), cell_later hb' (by rw [World.cell?_alloc_new]; rfl), cell_later hb' (by rw [World.cell?_alloc_new]; rfl)⟩)
  have HCC : Hid (∀ V, Below X1.heap.size X1 V → V.cell? ⟨w.heap.size + 1, 0, none⟩ = some (.int .i64 x0) ∧ V.cell? ⟨w.heap.size + 1, 1, none⟩ = some (.int .i64 x1) ∧ V.cell? ⟨w.heap.size + 1, 2, none⟩ = some (.int .i64 x2) ∧ V.cell? ⟨w.heap.size + 1, 3, none⟩ = some (.int .i64 x3)) := hide (fun V hb => by
    rw [hX1] at hb
    have hz : (w.alloc (.cells #[.slice s0 l0 c0, .slice s1 l1 c1, .slice s2 l2 c2, .slice s3 l3 c3, .slice s4 l4 c4] 37)).heap.size = w.heap.size + 1 := by simp
    refine ⟨?_, ?_, ?_, ?_⟩ <;> exact cell_later hb (by rw [← hz, World.cell?_alloc_new]; rfl))
  have HX1 := hide hX1
  clear hX1
  cases q0
  · clear hq1
    go_enter Tryz.func32, Tryz.ntmps32
    go_wp2_with fail
    rw [← unhide HX1]
    refine (unhide HPK2 _ (unhide HB1)).mono ?_
    rintro e W1 ⟨rfl, hb⟩
    have B1 := hide (btr (unhide HB1) hb)
    clear hb
    go_wp2_with fail
    exact bodyPost_ret (v := .bool false) (by simp [results, Tryz.results32, go_sem]) rfl ⟨by rw [unhide HR]; rfl, unhide B1⟩
  · cases q1
    · clear hq1
      go_enter Tryz.func32, Tryz.ntmps32
      go_wp2_with fail
      rw [← unhide HX1]
      refine (unhide HPK2 _ (unhide HB1)).mono ?_
      rintro e W1 ⟨rfl, hb⟩
      have B1 : Hid (Below X1.heap.size X1 W1) := hide hb
      clear hb
      obtain ⟨g0, g1, g2, g3⟩ := unhide HCC W1 (unhide B1)
      go_wp2_with fail
      refine (unhide HCH _).mono ?_
      rintro e W2 ⟨rfl, hb⟩
      have B2 := hide (btr (unhide HB1) (btr (unhide B1) hb))
      clear hb
      go_wp2_with fail
      exact bodyPost_ret (v := .bool false) (by simp [results, Tryz.results32, go_sem]) rfl ⟨by rw [unhide HR]; rfl, unhide B2⟩
    · obtain ⟨d0, d1, d2, d3⟩ := chip_parts hq1
      obtain ⟨T, hT, hT2, hT3⟩ := mul_small (m := 8) (n := 8) (by omega : 1 ≤ x0 ∧ x0 ≤ ((8 : Nat) : Int)) (by omega : 1 ≤ x1 ∧ x1 ≤ ((8 : Nat) : Int))
      obtain ⟨H, hH, hH2, hH3⟩ := mul_small (m := 8) (n := 4) (by omega : 1 ≤ x1 ∧ x1 ≤ ((8 : Nat) : Int)) (by omega : 1 ≤ x3 ∧ x3 ≤ ((4 : Nat) : Int))
      have HR2 : Hid (RR = (padsB H l0 l3 l4 && (decide (xs.length = l2) && insB T xs))) := hide (by
        rw [unhide HR, hT, hH, Int.toNat_natCast, Int.toNat_natCast]; rfl)
      have HPA := hide (fun V => iPads s0 s1 s2 s3 s4 l0 l1 l2 l3 l4 c0 c1 c2 c3 c4 x0 x1 x2 x3 H (by omega) hH V b0 b3 b4)
      have HTI := hide (fun V => iTiles x0 x1 x2 x3 T (by omega) hT V)
      have hTb : T ≤ 64 := by omega
      clear HR hq1 d0 d1 d2 d3 hT hT2 hT3 hH hH2 hH3
      have HCO := hide (fun (k : Nat) (x : Int) (V : World) (hb : Below w.heap.size w V) (hk : k ≤ xs.length) (b o c : Nat) (hv : v = .slice (some ⟨b, o, none⟩) xs.length c) => iContains (xs.take k) x (.slice (some ⟨b, o, none⟩) k c) V (by rw [List.length_take]; omega) (RS.take (hv ▸ hx.later RInt.keeps hb) hk))
      have HOP := hide hx
      obtain ⟨av, cv, rfl⟩ := hx.slice
      clear hx
      obtain ⟨L, hL⟩ : ∃ L, xs.length = L := ⟨_, rfl⟩
      have HLL := hide hL
      rw [hL] at HCO HR2 hlx ⊢
      clear hL
      generalize hp2 : padsB H l0 l3 l4 = p2 at *
      clear hp2
      cases p2
      · go_enter Tryz.func32, Tryz.ntmps32
        go_wp2_with fail
        rw [← unhide HX1]
        refine (unhide HPK2 _ (unhide HB1)).mono ?_
        rintro e W1 ⟨rfl, hb⟩
        have B1 : Hid (Below X1.heap.size X1 W1) := hide hb
        clear hb
        obtain ⟨g0, g1, g2, g3⟩ := unhide HCC W1 (unhide B1)
        go_wp2_with fail
        refine (unhide HCH _).mono ?_
        rintro e W2 ⟨rfl, hb⟩
        have B2 : Hid (Below X1.heap.size X1 W2) := hide (btr (unhide B1) hb)
        clear hb g0 g1 g2 g3
        obtain ⟨g0, g1, g2, g3⟩ := unhide HCC W2 (unhide B2)
        obtain ⟨n0, n1, n2, n3, n4⟩ := unhide HCP W2 (unhide B2)
        go_wp2_with fail
        refine (unhide HPA _).mono ?_
        rintro e W3 ⟨rfl, hb⟩
        have B3 := hide (btr (unhide HB1) (btr (unhide B2) (btr (bal (brf _) _) hb)))
        clear hb
        go_wp2_with fail
        exact bodyPost_ret (v := .bool false) (by simp [results, Tryz.results32, go_sem]) rfl ⟨by rw [unhide HR2]; rfl, unhide B3⟩
      · by_cases hn : L = l2
        · have HR3 : Hid (RR = insB T xs) := hide (by rw [unhide HR2, decide_eq_true hn]; rfl)
          subst hn
          clear HR2
          go_enter Tryz.func32, Tryz.ntmps32
          go_wp2_with fail
          rw [← unhide HX1]
          refine (unhide HPK2 _ (unhide HB1)).mono ?_
          rintro e W1 ⟨rfl, hb⟩
          have B1 : Hid (Below X1.heap.size X1 W1) := hide hb
          clear hb
          obtain ⟨g0, g1, g2, g3⟩ := unhide HCC W1 (unhide B1)
          go_wp2_with fail
          refine (unhide HCH _).mono ?_
          rintro e W2 ⟨rfl, hb⟩
          have B2 : Hid (Below X1.heap.size X1 W2) := hide (btr (unhide B1) hb)
          clear hb g0 g1 g2 g3
          obtain ⟨g0, g1, g2, g3⟩ := unhide HCC W2 (unhide B2)
          obtain ⟨n0, n1, n2, n3, n4⟩ := unhide HCP W2 (unhide B2)
          go_wp2_with fail
          refine (unhide HPA _).mono ?_
          rintro e W3 ⟨rfl, hb⟩
          have hb' : Below X1.heap.size X1 W3 := btr (unhide B2) (btr (bal (brf _) _) hb)
          have B3 := hide hb'
          have HCS : Hid (∀ V, Below W3.heap.size W3 V → V.cell? ⟨W2.heap.size, 0, none⟩ = some (.slice s0 l0 c0) ∧ V.cell? ⟨W2.heap.size, 1, none⟩ = some (.slice s1 l1 c1) ∧ V.cell? ⟨W2.heap.size, 2, none⟩ = some (.slice s2 L c2) ∧ V.cell? ⟨W2.heap.size, 3, none⟩ = some (.slice s3 l3 c3) ∧ V.cell? ⟨W2.heap.size, 4, none⟩ = some (.slice s4 l4 c4) ∧ V.cell? ⟨W2.heap.size, 5, none⟩ = some (.int .i64 x0) ∧ V.cell? ⟨W2.heap.size, 6, none⟩ = some (.int .i64 x1) ∧ V.cell? ⟨W2.heap.size, 7, none⟩ = some (.int .i64 x2) ∧ V.cell? ⟨W2.heap.size, 8, none⟩ = some (.int .i64 x3)) := hide (fun V hV => by
            refine ⟨?_, ?_, ?_, ?_, ?_, ?_, ?_, ?_, ?_⟩ <;> exact cell_later (btr hb hV) (by rw [World.cell?_alloc_new]; rfl))
          clear hb hb' g0 g1 g2 g3 n0 n1 n2 n3 n4
          obtain ⟨n0, n1, n2, n3, n4⟩ := unhide HCP W3 (unhide B3)
          go_wp2_with fail
          clear n0 n1 n2 n3 n4
          go_loopw [8, 9, 34] (fun _ _ i wr => ∃ k : Nat, k ≤ L ∧ i = .int .i64 k ∧ upB (inAt T xs) k = true ∧ Below W3.heap.size W3 wr) (fun _ _ i wr => L - (intOf i).toNat)
          case atStart => exact ⟨0, Nat.zero_le _, rfl, rfl, brf _⟩
          case round =>
            obtain ⟨k, hk, rfl, hall, hbw⟩ := hrel
            have HA := hide hall
            have HB0 := hide (btr (unhide HB1) (btr (unhide B3) hbw))
            have HBW := hide hbw
            clear hall
            by_cases hlt : k < L
            · have hkx : k < xs.length := by have := unhide HLL; omega
              have hx : xs[k]? = some xs[k] := List.getElem?_eq_getElem hkx
              generalize xs[k] = x at hx
              have HAT := hide (inAt_at (n := T) hx)
              have HF : Hid (inAt T xs k = false → RR = false) := hide (fun h => by rw [unhide HR3]; exact upB_false hkx h)
              have HST := hide (upB_succ (inAt T xs) k)
              obtain ⟨b, o, rfl, k0, hcc⟩ : ∃ b o, av = some ⟨b, o, none⟩ ∧ wr.cell? ⟨b, o + k, none⟩ = some (.int .i64 x) ∧ xs.length ≤ cv := by
                rcases (unhide HOP).open with ⟨e, _⟩ | ⟨b, o, c', hv, hcc, _, _, hcs⟩
                · rw [e] at hx; simp at hx
                · injection hv with e1 e2 e3
                  obtain ⟨u, hul, hat, hus⟩ := hcs k x hx
                  subst hus
                  refine ⟨b, o, e1, ?_, by omega⟩
                  have := cell_later (unhide HB0) (hat.get (j := 0) rfl)
                  simpa using this
              have HCX := hide (fun (V : World) (hV : Below w.heap.size w V) => unhide HCO k x V hV hk b o cv rfl)
              have i1 : (0 : Int) ≤ (k : Int) := by omega
              have i2 : (k : Int) < (L : Int) := by omega
              have i3 : (k : Int) ≤ (cv : Int) := by have := unhide HLL; omega
              obtain ⟨g0, g1, g2, g3, g4, g5, g6, g7, g8⟩ := unhide HCS wr (unhide HBW)
              clear hx HOP HCO hkx hcc hbw
              generalize inAt T xs k = IA at *
              generalize hp1 : plB x T = p1 at *
              have HP1 : Hid ((decide (0 ≤ x) && decide (x < (T : Int))) = p1) := hide hp1
              clear hp1
              generalize hasB (xs.take k) x = p3 at *
              cases p1
              · go_wp2_with fail
                refine (unhide HTI _).mono ?_
                rintro e W4 ⟨rfl, hb⟩
                have B4 := hide (btr (unhide HB0) hb)
                clear hb g0 g1 g2 g3 g4 g5 g6 g7 g8
                go_wp2_with fail
                refine (iPlace x T _).mono ?_
                rintro e W5 ⟨rfl, h⟩
                have h' := h.symm
                subst h'
                rw [unhide HP1]
                go_wp2_with fail
                exact bodyPost_ret (v := .bool false) (by simp [results, Tryz.results32, go_sem]) rfl ⟨by rw [unhide HF (by rw [unhide HAT]; rfl)], unhide B4⟩
              · cases p3
                · go_wp2_with fail
                  refine (unhide HTI _).mono ?_
                  rintro e W4 ⟨rfl, hb⟩
                  have B4 := hide (btr (unhide HB0) hb)
                  have B5 := hide (btr (unhide HBW) hb)
                  clear hb g0 g1 g2 g3 g4 g5 g6 g7 g8
                  go_wp2_with fail
                  refine (iPlace x T _).mono ?_
                  rintro e W5 ⟨rfl, h⟩
                  have h' := h.symm
                  subst h'
                  rw [unhide HP1]
                  go_wp2_with fail
                  refine (unhide HCX _ (unhide B4)).mono ?_
                  rintro e W5 ⟨rfl, h⟩
                  have h' := h.symm
                  subst h'
                  go_wp2_with fail
                  go_roundw
                  case rel => exact ⟨k + 1, by omega, by go_num, by rw [unhide HST, unhide HA, unhide HAT]; rfl, unhide B5⟩
                  case measure => simp [intOf]; omega
                · go_wp2_with fail
                  refine (unhide HTI _).mono ?_
                  rintro e W4 ⟨rfl, hb⟩
                  have B4 := hide (btr (unhide HB0) hb)
                  clear hb g0 g1 g2 g3 g4 g5 g6 g7 g8
                  go_wp2_with fail
                  refine (iPlace x T _).mono ?_
                  rintro e W5 ⟨rfl, h⟩
                  have h' := h.symm
                  subst h'
                  rw [unhide HP1]
                  go_wp2_with fail
                  refine (unhide HCX _ (unhide B4)).mono ?_
                  rintro e W5 ⟨rfl, h⟩
                  have h' := h.symm
                  subst h'
                  go_wp2_with fail
                  exact bodyPost_ret (v := .bool false) (by simp [results, Tryz.results32, go_sem]) rfl ⟨by rw [unhide HF (by rw [unhide HAT]; rfl)], unhide B4⟩
            · obtain rfl : k = L := by omega
              clear HOP HCO hbw
              go_wp2
              exact bodyPost_ret (v := .bool true) (by simp [results, Tryz.results32, go_sem]) rfl ⟨by rw [unhide HR3, show insB T xs = upB (inAt T xs) xs.length from rfl, unhide HLL, unhide HA], unhide HB0⟩
        · have hne : ((L : Int) != (l2 : Int)) = true := by rw [bne_iff_ne]; omega
          have HR3 : Hid (RR = false) := hide (by rw [unhide HR2, decide_eq_false hn]; rfl)
          clear HR2 hn
          go_enter Tryz.func32, Tryz.ntmps32
          go_wp2_with fail
          rw [← unhide HX1]
          refine (unhide HPK2 _ (unhide HB1)).mono ?_
          rintro e W1 ⟨rfl, hb⟩
          have B1 : Hid (Below X1.heap.size X1 W1) := hide hb
          clear hb
          obtain ⟨g0, g1, g2, g3⟩ := unhide HCC W1 (unhide B1)
          go_wp2_with fail
          refine (unhide HCH _).mono ?_
          rintro e W2 ⟨rfl, hb⟩
          have B2 : Hid (Below X1.heap.size X1 W2) := hide (btr (unhide B1) hb)
          clear hb g0 g1 g2 g3
          obtain ⟨g0, g1, g2, g3⟩ := unhide HCC W2 (unhide B2)
          obtain ⟨n0, n1, n2, n3, n4⟩ := unhide HCP W2 (unhide B2)
          go_wp2_with fail
          refine (unhide HPA _).mono ?_
          rintro e W3 ⟨rfl, hb⟩
          have B3 : Hid (Below X1.heap.size X1 W3) := hide (btr (unhide B2) (btr (bal (brf _) _) hb))
          clear hb g0 g1 g2 g3 n0 n1 n2 n3 n4
          obtain ⟨n0, n1, n2, n3, n4⟩ := unhide HCP W3 (unhide B3)
          go_wp2_with fail
          exact bodyPost_ret (v := .bool false) (by simp [results, Tryz.results32, go_sem]) rfl ⟨by rw [unhide HR3], btr (unhide HB1) (unhide B3)⟩
end Go.Proofs.YtlldfaniddbjaaaGreatDoor
namespace Go.Proofs.YtlldfaniddbjaaaGreatDoor
open Go Go.RowKit Gs
set_option linter.unusedVariables false
set_option maxRecDepth 100000
set_option maxHeartbeats 1600000
theorem packI_srcs {a : Packed} (h : packI a = true) : (∀ b ∈ a.blocks, b.inp.length ≤ 4 ∧ ∀ s ∈ b.inp, ∃ m : Nat, s = (m : Int) ∧ m < a.ins.length + a.blocks.length) ∧ (∀ e ∈ a.outs ++ a.checks, ∃ m : Nat, e.src = (m : Int) ∧ m < a.ins.length + a.blocks.length) := by
  unfold packI at h
  simp only [Bool.and_eq_true] at h
  obtain ⟨_, hb, he, _⟩ := h
  refine ⟨fun b hm => ?_, fun e hm => ?_⟩
  · obtain ⟨k, hk⟩ := List.mem_iff_getElem?.1 hm
    have h1 := upB_at hb (List.getElem?_eq_some_iff.1 hk).1
    rw [blkAt_at hk] at h1
    unfold blkB at h1
    simp only [Bool.and_eq_true] at h1
    have h2 := lutB_parts h1.1.1
    refine ⟨h2.1, fun s hs => ⟨s.toNat, ?_, ?_⟩⟩ <;> have := h2.2 s hs <;> omega
  · have h1 := List.all_eq_true.1 he e hm
    unfold plB at h1
    simp only [Bool.and_eq_true, decide_eq_true_eq] at h1
    exact ⟨e.src.toNat, by omega, by omega⟩
theorem sum_four {bs : List Block} (h : ∀ b ∈ bs, b.inp.length ≤ 4) : (bs.map fun b => b.inp.length).sum ≤ 4 * bs.length := by
  induction bs with
  | nil => simp
  | cons b bs ih =>
    have h1 := h b (List.mem_cons_self)
    have h2 := ih (fun c hc => h c (List.mem_cons_of_mem _ hc))
    simp only [List.map_cons, List.sum_cons, List.length_cons]
    omega
theorem psB_small {n0 k : Nat} {bs : List Block} (h : ∀ b ∈ bs, b.inp.length ≤ 4) : (psB n0 bs k).length ≤ 4 * bs.length := by
  have h1 := psB_le (n0 := n0) (bs := bs) k
  have h2 := sum_four (bs := bs.take k) (fun b hb => h b (List.mem_of_mem_take hb))
  have h3 : (bs.take k).length ≤ bs.length := by rw [List.length_take]; omega
  omega
theorem flat_sm : ∀ nets : List (List Hop), nets.flatten.length ≤ sm szHopS nets
  | [] => by simp [sm]
  | net :: nets => by
    have h1 := flat_sm nets
    have h2 : szHopS net = szL szHop net := rfl
    have h3 := szL_sm szHop net
    have h4 : sm szHopS (net :: nets) = szHopS net + sm szHopS nets := by simp [sm]
    simp only [List.flatten_cons, List.length_append]
    omega
theorem flat_take_sm {nets : List (List Hop)} {k : Nat} {net : List Hop} (h : nets[k]? = some net) : (nets.take k).flatten.length + net.length ≤ sm szHopS nets := by
  have h1 := flat_sm (nets.take (k + 1))
  rw [net_flat_take h, List.length_append] at h1
  have h2 := sm_le (f := szHopS) (xs := nets) (k + 1)
  omega
def inC (n : Int) : List Value := [inV n]
theorem flat_in (xs : List Int) : xs.flatMap inC = xs.map inV := by
  induction xs with
  | nil => rfl
  | cons t r ih => rw [List.flatMap_cons, ih]; rfl
/-- One of the rows, read. -/
theorem LR.row {B b : Nat} {W : World} {xs : List (List Int)} {v : Value} {us : List T3} (h : LR B b W xs v us) {i : Nat} {x : List Int} (hx : xs[i]? = some x) (hl : x.length ≤ 1048576) : ∃ g nc nv nd, v = .slice (some ⟨g, 0, none⟩) xs.length nc ∧ W.cell? ⟨g, 0 + i, none⟩ = some (.slice nv x.length nd) ∧ RS 1 RInt W 0 x (.slice nv x.length nd) := by
  obtain ⟨g, nc, t, cur, hv, ht, hc, hg, ho, _⟩ := h.at hx
  obtain ⟨nv, nd, hs⟩ := own_shape ho
  rw [hs] at hc ho
  have ho2 : OW 3 1 inC B W (.slice nv x.length nd) x := by unfold OW; rw [flat_in]; exact ho
  refine ⟨g, nc, nv, nd, hv, by rw [Nat.zero_add]; exact hc, ?_⟩
  have hr : RS 1 RInt W B x (.slice nv x.length nd) := OW.read (t := 3) (f := inC) (k := 1) (R := RInt) (fun _ => rfl) (fun n _ => rfl) ho2 (by unfold maxLen; omega)
  exact hr.low RInt.lowers (Nat.zero_le _)
theorem MW.start (X : World) : MW (X.alloc (.map #[] 0)) X.heap.size [] := ⟨.map [], World.ownsMap_made X _ _ _, Maps.tidy_empty, fun h _ => rfl⟩
theorem lkR_in {x : Packed} {W H T s : Nat} {ts : List Int} (hx : StOK x W H T ts) (hs : s < x.ins.length + x.blocks.length) : ∀ n ∈ lkR (psL x) s, ∃ m : Nat, n = (m : Int) ∧ m < (stL W H x.ins.length (x.outs ++ x.checks).length ts).length := by
  intro n hn
  have hnb := hx.nb
  rw [stL_len]
  rcases lkR_mem.1 hn with e | hm
  · exact ⟨s, e, by omega⟩
  · rcases List.mem_append.1 hm with hm | hm
    · obtain ⟨i, b, h1, h2, h3, _⟩ := psB_mem.1 hm
      exact ⟨_, h3, by omega⟩
    · obtain ⟨i, b, h1, h2, h3, _⟩ := psE_mem.1 hm
      exact ⟨_, h3, by omega⟩
theorem psL_small {x : Packed} {W H T : Nat} {ts : List Int} (hx : StOK x W H T ts) (h4 : ∀ b ∈ x.blocks, b.inp.length ≤ 4) : (psL x).length ≤ 288 := by
  unfold psL
  rw [List.length_append]
  have h1 := psB_small (n0 := x.ins.length) (k := x.blocks.length) h4
  have h2 := psE_len (x.ins.length + x.blocks.length) (x.outs ++ x.checks) (x.outs ++ x.checks).length
  have h3 := hx.nb
  have h5 := hx.nt
  have h6 := hx.ne
  have h7 : (x.outs ++ x.checks).length = x.outs.length + x.checks.length := List.length_append
  omega
end Go.Proofs.YtlldfaniddbjaaaGreatDoor
