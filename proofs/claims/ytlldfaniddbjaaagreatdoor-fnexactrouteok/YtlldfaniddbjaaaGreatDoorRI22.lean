/- The program's RouteOK. -/
import Derived.Test.YtlldfaniddbjaaaGreatDoorGRI22a
import Derived.Test.YtlldfaniddbjaaaGreatDoorGRI2
namespace Go.Proofs.YtlldfaniddbjaaaGreatDoor
open Go Go.RowKit Gs
set_option linter.unusedVariables false
set_option linter.unusedSimpArgs false
set_option maxRecDepth 100000
set_option maxHeartbeats 16000000
theorem iRouteNo (x : Packed) (u : List Value) (x0 x1 x2 x3 : Int) (ts : List Int) (nets : List (List Hop)) (tv nv : Value) (w : World) (hl : szPacked x ≤ 1048576) (hlt : ts.length ≤ 1048576) (hln : szL szHopS nets ≤ 1048576) (hr : RPacked w 0 x u) (ht : RS 1 RInt w 0 ts tv) (hns : RS 1 RHopS w 0 nets nv) (hpl : placeB (packI x) x0 x1 x2 x3 x.ins.length x.blocks.length x.outs.length x.checks.length ts = false) :
    Calls Tryz.prog 11 #[.agg u.toArray, .agg #[.int .i64 x0, .int .i64 x1, .int .i64 x2, .int .i64 x3], tv, nv] w fun e w' => e = .returned (.bool false) ∧ Below w.heap.size w w' := by
  have HPL := hide (fun (V : World) (hb : Below w.heap.size w V) => iPlaceOK x u x0 x1 x2 x3 ts tv V hl hlt (hr.later hb) (ht.later RInt.keeps hb))
  rw [hpl] at HPL
  obtain ⟨sT, cT, rfl⟩ := ht.slice
  obtain ⟨sN, cn, rfl⟩ := hns.slice
  obtain ⟨v0, v1, v2, v3, v4, rfl, h0, h1, h2, h3, h4⟩ := hr
  obtain ⟨s0, c0, e0⟩ := h0.slice
  obtain ⟨s1, c1, e1⟩ := h1.slice
  obtain ⟨s2, c2, e2⟩ := h2.slice
  obtain ⟨s3, c3, e3⟩ := h3.slice
  obtain ⟨s4, c4, e4⟩ := h4.slice
  subst e0 e1 e2 e3 e4
  obtain ⟨n0, hn0⟩ : ∃ n, x.ins.length = n := ⟨_, rfl⟩
  obtain ⟨n1, hn1⟩ : ∃ n, x.clocks.length = n := ⟨_, rfl⟩
  obtain ⟨n2, hn2⟩ : ∃ n, x.blocks.length = n := ⟨_, rfl⟩
  obtain ⟨n3, hn3⟩ : ∃ n, x.outs.length = n := ⟨_, rfl⟩
  obtain ⟨n4, hn4⟩ : ∃ n, x.checks.length = n := ⟨_, rfl⟩
  obtain ⟨nT, hnT⟩ : ∃ n, ts.length = n := ⟨_, rfl⟩
  obtain ⟨nn, hnnq⟩ : ∃ n, nets.length = n := ⟨_, rfl⟩
  rw [hn0, hn1, hn2, hn3, hn4, hnT] at HPL
  rw [hn0, hn1, hn2, hn3, hn4, hnT, hnnq]
  clear hl hlt hln h0 h1 h2 h3 h4 ht hns hnnq hn0 hn1 hn2 hn3 hn4 hnT hpl
  change Hid (∀ (V : World), Below w.heap.size w V → Calls Tryz.prog 32 #[.agg #[.slice s0 n0 c0, .slice s1 n1 c1, .slice s2 n2 c2, .slice s3 n3 c3, .slice s4 n4 c4], .agg #[.int .i64 x0, .int .i64 x1, .int .i64 x2, .int .i64 x3], .slice sT nT cT] V _) at HPL
  show Calls Tryz.prog 11 #[.agg #[.slice s0 n0 c0, .slice s1 n1 c1, .slice s2 n2 c2, .slice s3 n3 c3, .slice s4 n4 c4], .agg #[.int .i64 x0, .int .i64 x1, .int .i64 x2, .int .i64 x3], .slice sT nT cT, .slice sN nn cn] w _
  obtain ⟨X, hX⟩ : ∃ X, X = (w.alloc (.cells #[.slice s0 n0 c0, .slice s1 n1 c1, .slice s2 n2 c2, .slice s3 n3 c3, .slice s4 n4 c4] 37)).alloc (.cells #[.int .i64 x0, .int .i64 x1, .int .i64 x2, .int .i64 x3] 39) := ⟨_, rfl⟩
  have HXB : Hid (Below w.heap.size w X) := hide (by rw [hX]; exact bal (bal (brf w) _) _)
  have HCP : Hid (∀ V, Below X.heap.size X V → V.cell? ⟨w.heap.size, 0, none⟩ = some (.slice s0 n0 c0) ∧ V.cell? ⟨w.heap.size, 1, none⟩ = some (.slice s1 n1 c1) ∧ V.cell? ⟨w.heap.size, 2, none⟩ = some (.slice s2 n2 c2) ∧ V.cell? ⟨w.heap.size, 3, none⟩ = some (.slice s3 n3 c3) ∧ V.cell? ⟨w.heap.size, 4, none⟩ = some (.slice s4 n4 c4)) := hide (fun V hV => by
    rw [hX] at hV
    have K := fun (i : Nat) y hy => (new_cell (i := i) (x := y) (btr (bal (brf _) _) hV) hy).1
    exact ⟨K 0 _ rfl, K 1 _ rfl, K 2 _ rfl, K 3 _ rfl, K 4 _ rfl⟩)
  have HCC : Hid (∀ V, Below X.heap.size X V → V.cell? ⟨w.heap.size + 1, 0, none⟩ = some (.int .i64 x0) ∧ V.cell? ⟨w.heap.size + 1, 1, none⟩ = some (.int .i64 x1) ∧ V.cell? ⟨w.heap.size + 1, 2, none⟩ = some (.int .i64 x2) ∧ V.cell? ⟨w.heap.size + 1, 3, none⟩ = some (.int .i64 x3)) := hide (fun V hV => by
    rw [hX] at hV
    have K := fun (i : Nat) y hy => (new_cell (i := i) (x := y) hV hy).1
    simp only [World.size_alloc] at K
    exact ⟨K 0 _ rfl, K 1 _ rfl, K 2 _ rfl, K 3 _ rfl⟩)
  have HSX : Hid (w.heap.size + 1 < X.heap.size) := hide (by rw [hX]; simp)
  have HXX := hide hX
  clear hX
  go_enter Tryz.func11, Tryz.ntmps11
  go_wp2_with fail
  rw [← unhide HXX]
  refine (unhide HPL X (unhide HXB)).mono ?_
  rintro e w1 ⟨rfl, hb1⟩
  have HW1 := hide (btr (unhide HXB) hb1)
  clear hb1 HPL
  go_wp2_with fail
  exact bodyPost_ret (v := .bool false) (by simp [results, Tryz.results11, go_sem]) rfl ⟨rfl, unhide HW1⟩
theorem iRouteYes (W H T P : Nat) (x : Packed) (u : List Value) (ts : List Int) (nets : List (List Hop)) (tv nv : Value) (w : World) (hl : szPacked x ≤ 1048576) (hlt : ts.length ≤ 1048576) (hln : szL szHopS nets ≤ 1048576) (hr : RPacked w 0 x u) (ht : RS 1 RInt w 0 ts tv) (hns : RS 1 RHopS w 0 nets nv) (hg : Gc w) (hx : StOK x W H T ts) (hpk : packI x = true)
    (hpo : ∀ V, Below w.heap.size w V → Calls Tryz.prog 32 #[.agg u.toArray, .agg #[.int .i64 (W : Int), .int .i64 (H : Int), .int .i64 (T : Int), .int .i64 (P : Int)], tv] V fun e w' => e = .returned (.bool true) ∧ Below V.heap.size V w') :
    Calls Tryz.prog 11 #[.agg u.toArray, .agg #[.int .i64 (W : Int), .int .i64 (H : Int), .int .i64 (T : Int), .int .i64 (P : Int)], tv, nv] w fun e w' => e = .returned (.bool (decide (nets.length = x.ins.length + x.blocks.length) && netsB x W H T ts nets)) ∧ Below w.heap.size w w' := by
  have HPL := hide hpo
  have hz : szPacked x = szL (fun (s : ByteArray) => s.size) x.ins + szL (fun (s : ByteArray) => s.size) x.clocks + szL szBlock x.blocks + szL szPort x.outs + szL szPort x.checks := rfl
  have z0 := szL_sm (fun (s : ByteArray) => s.size) x.ins
  have z2 := szL_sm szBlock x.blocks
  have zn := szL_sm szHopS nets
  have hi0 : x.ins.length ≤ 1048576 := by omega
  have hi2 : x.blocks.length ≤ 1048576 := by omega
  have hnn : nets.length ≤ 1048576 := by omega
  obtain ⟨hpb, hpe⟩ := packI_srcs hpk
  have hw1 := hx.w1
  have hh1 := hx.h1
  have hnb := hx.nb
  have hnt := hx.nt
  have hni := hx.ni
  have hne := hx.ne
  have ht64 := hx.t64
  obtain ⟨sT, cT, rfl⟩ := ht.slice
  obtain ⟨sN, cn, rfl⟩ := hns.slice
  obtain ⟨v0, v1, v2, v3, v4, rfl, h0, h1, h2, h3, h4⟩ := hr
  obtain ⟨s0, c0, e0⟩ := h0.slice
  obtain ⟨s1, c1, e1⟩ := h1.slice
  obtain ⟨s2, c2, e2⟩ := h2.slice
  obtain ⟨s3, c3, e3⟩ := h3.slice
  obtain ⟨s4, c4, e4⟩ := h4.slice
  subst e0 e1 e2 e3 e4
  have hn32 := fun (b : Block) (hb : b ∈ x.blocks) (v : Int) (hv : v ∈ b.inp) => (show (0 : Int) ≤ v by obtain ⟨m, hm, _⟩ := (hpb b hb).2 v hv; omega)
  have he32 := fun (e : Port) (he : e ∈ x.outs ++ x.checks) => (show (0 : Int) ≤ e.src by obtain ⟨m, hm, _⟩ := hpe e he; omega)
  have hps := psL_small hx (fun b hb => (hpb b hb).1)
  have hel : (x.outs ++ x.checks).length = x.outs.length + x.checks.length := List.length_append
  have hsl := stL_len W H x.ins.length (x.outs ++ x.checks).length ts
  obtain ⟨st, hst⟩ : ∃ st, stL W H x.ins.length (x.outs ++ x.checks).length ts = st := ⟨_, rfl⟩
  obtain ⟨lk, hlk⟩ : ∃ lk, lkX (x.ins.length + x.blocks.length) (psL x) = lk := ⟨_, rfl⟩
  obtain ⟨N, hN⟩ : ∃ N, x.ins.length + x.blocks.length = N := ⟨_, rfl⟩
  have hlkl : lk.length = N := by rw [← hlk, lkX_len, hN]
  rw [hst] at hsl
  have HNF := hide (fun (V : World) (hV : Below w.heap.size w V) => iNewFloor (s0 := s0) (s1 := s1) (s2 := s2) (s3 := s3) (s4 := s4) (l0 := x.ins.length) (l1 := x.clocks.length) (l2 := x.blocks.length) (l3 := x.outs.length) (l4 := x.checks.length) (c0 := c0) (c1 := c1) (c2 := c2) (c3 := c3) (c4 := c4) (tp := sT) (N := ts.length) (tc := cT) (W := W) (H := H) (T := T) (P := P) st lk V
    (fun V' hV' => (iSpots W H T P ts V' hw1 hh1 rfl (by omega) (ht.later RInt.keeps (btr hV hV')) (fun t h => by have := ht64 t h; omega)).mono (by
      rintro e w' ⟨⟨v, rfl, B, h⟩, hb⟩
      refine ⟨⟨v, rfl, B, ?_⟩, hb⟩
      rw [← hst]
      unfold stL
      rw [hel]
      exact h))
    (fun V' hV' => (iLinks s0 s1 s2 s3 s4 x.ins.length x.clocks.length x.blocks.length x.outs.length x.checks.length c0 c1 c2 c3 c4 x.blocks x.outs x.checks V' (by omega) (by omega) (by omega) (by omega) (fun k => by have := psB_small (n0 := x.ins.length) (k := k) (fun b hb => (hpb b hb).1); omega) (h2.later RBlock.keeps (btr hV hV')) (h3.later RPort.keeps (btr hV hV')) (h4.later RPort.keeps (btr hV hV')) (fun b hb => ⟨by have := (hpb b hb).1; omega, (hpb b hb).2⟩) hpe).mono (by
      rintro e w' ⟨⟨v, us, rfl, h⟩, hb⟩
      refine ⟨⟨v, us, rfl, V'.heap.size + 1, ?_⟩, hb⟩
      rw [← hlk]
      exact h)))
  rw [hlkl] at HNF
  have HSO : Hid (∀ V : World, Calls Tryz.prog 33 #[.agg #[.slice s0 x.ins.length c0, .slice s1 x.clocks.length c1, .slice s2 x.blocks.length c2, .slice s3 x.outs.length c3, .slice s4 x.checks.length c4]] V fun e w' => e = .returned (.int .i64 (N : Int)) ∧ Below V.heap.size V w') := hide (fun V => by
    rw [← hN]
    exact iSources s0 s2 x.ins.length x.blocks.length c0 c2 _ _ _ V hi0 hi2)
  have HROW : Hid (∀ s, s < N → lk[s]? = some (lkR (psL x) s) ∧ st[s]? = some (fromP x.ins.length W H ts s) ∧ ∀ n ∈ lkR (psL x) s, ∃ m : Nat, n = (m : Int) ∧ m < st.length) := hide (fun s hs => by
    rw [← hlk, ← hst]
    exact ⟨lkX_get (by omega), stL_src (by omega), lkR_in hx (by omega)⟩)
  have HLK : Hid (∀ s, (lkR (psL x) s).length ≤ 1048576) := hide (fun s => by have := lkR_len (psL x) s; omega)
  have HNET : Hid (∀ (s : Nat) (net : List Hop) (gs : List (Int × Int)), s < N → nets[s]? = some net → (∀ r, r ∈ gs ↔ r ∈ glL (fromP x.ins.length W H ts s) st (lkR (psL x) s) (lkR (psL x) s).length) → netB x W H T ts nets s = (upB (hopB W H T (fromP x.ins.length W H ts s) (nets.take s).flatten net) net.length && gs.all (reachedB net))) := hide (fun s net gs hs hn hgs => net_goals hx (by omega) hn32 he32 hn (by rw [hst]; exact hgs))
  have HNF0 : Hid (∀ (s : Nat) (net : List Hop), s < N → nets[s]? = some net → upB (hopB W H T (fromP x.ins.length W H ts s) (nets.take s).flatten net) net.length = false → netB x W H T ts nets s = false) := hide (fun s net hs hn h => by unfold netB; rw [hn]; simp only [h, Bool.false_and])
  have HLEN : Hid (∀ (s : Nat) (net : List Hop), nets[s]? = some net → (nets.take s).flatten.length + net.length ≤ 1048576) := hide (fun s net hn => by have := flat_take_sm hn; omega)
  have HNA := hide (net_at hns)
  have HG := hide hg
  obtain ⟨nS, hnS⟩ : ∃ n, st.length = n := ⟨_, rfl⟩
  rw [hnS] at HNF HROW hsl
  have HNS := hide hnS
  obtain ⟨n0, hn0⟩ : ∃ n, x.ins.length = n := ⟨_, rfl⟩
  obtain ⟨n1, hn1⟩ : ∃ n, x.clocks.length = n := ⟨_, rfl⟩
  obtain ⟨n2, hn2⟩ : ∃ n, x.blocks.length = n := ⟨_, rfl⟩
  obtain ⟨n3, hn3⟩ : ∃ n, x.outs.length = n := ⟨_, rfl⟩
  obtain ⟨n4, hn4⟩ : ∃ n, x.checks.length = n := ⟨_, rfl⟩
  obtain ⟨nT, hnT⟩ : ∃ n, ts.length = n := ⟨_, rfl⟩
  obtain ⟨nn, hnnq⟩ : ∃ n, nets.length = n := ⟨_, rfl⟩
  have HRB : Hid ((decide (nets.length = x.ins.length + x.blocks.length) && netsB x W H T ts nets) = (decide (nn = N) && upB (netB x W H T ts nets) nn)) := hide (by unfold netsB; rw [hnnq, hN])
  obtain ⟨RB, hRB⟩ : ∃ b, (decide (nets.length = x.ins.length + x.blocks.length) && netsB x W H T ts nets) = b := ⟨_, rfl⟩
  rw [hRB] at HRB ⊢
  rw [hn0, hn1, hn2, hn3, hn4, hnT] at HNF
  rw [hn0, hn1, hn2, hn3, hn4] at HSO
  have hS2 : nS ≤ 1048576 := by omega
  have hN2 : N ≤ 1048576 := by omega
  have hnn2 : nn ≤ 1048576 := by omega
  have HQ := hide hnnq
  have HSB : Hid (W ≤ 8 ∧ H ≤ 8 ∧ T ≤ 8) := hide ⟨hx.w8, hx.h8, hx.t8⟩
  have HLKL := hide hlkl
  change Hid (∀ (V : World), Below w.heap.size w V → Calls Tryz.prog 32 #[.agg #[.slice s0 x.ins.length c0, .slice s1 x.clocks.length c1, .slice s2 x.blocks.length c2, .slice s3 x.outs.length c3, .slice s4 x.checks.length c4], .agg #[.int .i64 (W : Int), .int .i64 (H : Int), .int .i64 (T : Int), .int .i64 (P : Int)], .slice sT ts.length cT] V _) at HPL
  rw [hn0, hn1, hn2, hn3, hn4, hnT] at HPL
  show Calls Tryz.prog 11 #[.agg #[.slice s0 x.ins.length c0, .slice s1 x.clocks.length c1, .slice s2 x.blocks.length c2, .slice s3 x.outs.length c3, .slice s4 x.checks.length c4], .agg #[.int .i64 (W : Int), .int .i64 (H : Int), .int .i64 (T : Int), .int .i64 (P : Int)], .slice sT ts.length cT, .slice sN nets.length cn] w _
  rw [hn0, hn1, hn2, hn3, hn4, hnT, hnnq]
  clear hpo hz z0 z2 zn hi0 hi2 hnn hpb hpe hw1 hh1 hnb hnt hni hne ht64 h0 h1 h2 h3 h4 ht hns hn32 he32 hps hel hsl hst hlk hN hlkl hnS hn0 hn1 hn2 hn3 hn4 hnT hnnq hRB hl hlt hln hg hx hpk
  obtain ⟨X, hX⟩ : ∃ X, X = (w.alloc (.cells #[.slice s0 n0 c0, .slice s1 n1 c1, .slice s2 n2 c2, .slice s3 n3 c3, .slice s4 n4 c4] 37)).alloc (.cells #[.int .i64 (W : Int), .int .i64 (H : Int), .int .i64 (T : Int), .int .i64 (P : Int)] 39) := ⟨_, rfl⟩
  have HXB : Hid (Below w.heap.size w X) := hide (by rw [hX]; exact bal (bal (brf w) _) _)
  have HCP : Hid (∀ V, Below X.heap.size X V → V.cell? ⟨w.heap.size, 0, none⟩ = some (.slice s0 n0 c0) ∧ V.cell? ⟨w.heap.size, 1, none⟩ = some (.slice s1 n1 c1) ∧ V.cell? ⟨w.heap.size, 2, none⟩ = some (.slice s2 n2 c2) ∧ V.cell? ⟨w.heap.size, 3, none⟩ = some (.slice s3 n3 c3) ∧ V.cell? ⟨w.heap.size, 4, none⟩ = some (.slice s4 n4 c4)) := hide (fun V hV => by
    rw [hX] at hV
    have K := fun (i : Nat) y hy => (new_cell (i := i) (x := y) (btr (bal (brf _) _) hV) hy).1
    exact ⟨K 0 _ rfl, K 1 _ rfl, K 2 _ rfl, K 3 _ rfl, K 4 _ rfl⟩)
  have HCC : Hid (∀ V, Below X.heap.size X V → V.cell? ⟨w.heap.size + 1, 0, none⟩ = some (.int .i64 (W : Int)) ∧ V.cell? ⟨w.heap.size + 1, 1, none⟩ = some (.int .i64 (H : Int)) ∧ V.cell? ⟨w.heap.size + 1, 2, none⟩ = some (.int .i64 (T : Int)) ∧ V.cell? ⟨w.heap.size + 1, 3, none⟩ = some (.int .i64 (P : Int))) := hide (fun V hV => by
    rw [hX] at hV
    have K := fun (i : Nat) y hy => (new_cell (i := i) (x := y) hV hy).1
    simp only [World.size_alloc] at K
    exact ⟨K 0 _ rfl, K 1 _ rfl, K 2 _ rfl, K 3 _ rfl⟩)
  have HSX : Hid (w.heap.size + 1 < X.heap.size) := hide (by rw [hX]; simp)
  have HXX := hide hX
  clear hX
  have hmm := @run_makeMap Tryz.prog
  go_enter Tryz.func11, Tryz.ntmps11
  go_wp2_with fail
  rw [← unhide HXX]
  refine (unhide HPL X (unhide HXB)).mono ?_
  rintro e w1 ⟨rfl, hb1⟩
  have HB1 := hide hb1
  obtain ⟨p0, p1, p2, p3, p4⟩ := unhide HCP w1 hb1
  clear hb1 HPL
  go_wp2_with fail
  clear p0 p1 p2 p3 p4
  refine (unhide HSO w1).mono ?_
  rintro e w2 ⟨rfl, hb2⟩
  have HB2 := hide (btr (unhide HB1) hb2)
  have HW2 := hide (btr (unhide HXB) (btr (unhide HB1) hb2))
  by_cases hq : (nn : Int) = (N : Int)
  case neg =>
    have HQF : Hid (RB = false) := hide (by rw [unhide HRB, decide_eq_false (p := nn = N) (by omega)]; rfl)
    clear hb2
    go_wp2_with fail
    exact bodyPost_ret (v := .bool false) (by simp [results, Tryz.results11, go_sem]) rfl ⟨by rw [unhide HQF], unhide HW2⟩
  have hqn : nn = N := by omega
  have HRU : Hid (RB = upB (netB x W H T ts nets) nn) := hide (by rw [unhide HRB, decide_eq_true (p := nn = N) hqn]; rfl)
  have HQN := hide hqn
  obtain ⟨p0, p1, p2, p3, p4⟩ := unhide HCP w2 (unhide HB2)
  obtain ⟨q0, q1, q2, q3⟩ := unhide HCC w2 (unhide HB2)
  clear hb2 HRB hqn
  go_wp2_with fail
  clear p0 p1 p2 p3 p4 q0 q1 q2 q3 hq
  refine (unhide HNF w2 (unhide HW2)).mono ?_
  rintro e w3 ⟨⟨va, vc, vb, vd, B1, B2, us, rfl, hsp, hlr⟩, hb3⟩
  have HW3 := hide (btr (unhide HW2) hb3)
  have HSP := hide hsp
  have HLR := hide hlr
  have hSP := hsp.spots (by rw [unhide HNS]; omega)
  have HST := hide hSP
  obtain ⟨X4, hX4⟩ : ∃ X, X = w3.alloc (.cells #[.slice s0 n0 c0, .slice s1 n1 c1, .slice s2 n2 c2, .slice s3 n3 c3, .slice s4 n4 c4, .int .i64 (W : Int), .int .i64 (H : Int), .int .i64 (T : Int), .int .i64 (P : Int), .slice va nS vc, .slice vb N vd] 81) := ⟨_, rfl⟩
  have HX4B : Hid (Below w3.heap.size w3 X4) := hide (by rw [hX4]; exact bal (brf w3) _)
  have HFL : Hid (∀ V, Below X4.heap.size X4 V → V.cell? ⟨w3.heap.size, 0, none⟩ = some (.slice s0 n0 c0) ∧ V.cell? ⟨w3.heap.size, 1, none⟩ = some (.slice s1 n1 c1) ∧ V.cell? ⟨w3.heap.size, 2, none⟩ = some (.slice s2 n2 c2) ∧ V.cell? ⟨w3.heap.size, 3, none⟩ = some (.slice s3 n3 c3) ∧ V.cell? ⟨w3.heap.size, 4, none⟩ = some (.slice s4 n4 c4) ∧ V.cell? ⟨w3.heap.size, 5, none⟩ = some (.int .i64 (W : Int)) ∧ V.cell? ⟨w3.heap.size, 6, none⟩ = some (.int .i64 (H : Int)) ∧ V.cell? ⟨w3.heap.size, 7, none⟩ = some (.int .i64 (T : Int)) ∧ V.cell? ⟨w3.heap.size, 8, none⟩ = some (.int .i64 (P : Int)) ∧ V.cell? ⟨w3.heap.size, 9, none⟩ = some (.slice va nS vc) ∧ V.cell? ⟨w3.heap.size, 10, none⟩ = some (.slice vb N vd)) := hide (fun V hV => by
    rw [hX4] at hV
    have K := fun (i : Nat) y hy => (new_cell (i := i) (x := y) hV hy).1
    exact ⟨K 0 _ rfl, K 1 _ rfl, K 2 _ rfl, K 3 _ rfl, K 4 _ rfl, K 5 _ rfl, K 6 _ rfl, K 7 _ rfl, K 8 _ rfl, K 9 _ rfl, K 10 _ rfl⟩)
  have HW4 := hide (btr (unhide HW3) (unhide HX4B))
  have HX4S : Hid (X4.heap.size = w3.heap.size + 1) := hide (by rw [hX4]; simp)
  have HMS := hide (MW.start X4)
  rw [unhide HX4S] at HMS
  have HMB := hide (bal (brf X4) (.map #[] 0))
  have HX4 := hide hX4
  clear hb3 hsp hlr hSP hX4 HNF HSO
  go_wp2_with fail
  rw [← unhide HX4]
  go_loopw [34] (fun i wr => ∃ k : Nat, k ≤ nn ∧ i = .int .i64 k ∧ upB (netB x W H T ts nets) k = true ∧ Below X4.heap.size X4 wr ∧ MW wr (w3.heap.size + 1) (nets.take k).flatten) (fun i _ => nn - (intOf i).toNat)
  case atStart => exact ⟨0, Nat.zero_le _, rfl, rfl, unhide HMB, by rw [List.take_zero]; exact unhide HMS⟩
  case round =>
    clear HMS HMB
    obtain ⟨k, hk, rfl, hup, hb, hmw⟩ := hrel
    have HUP := hide hup
    have HB := hide hb
    have HMW := hide hmw
    by_cases hlt : k < nn
    · obtain ⟨net, hx⟩ : ∃ net, nets[k]? = some net := ⟨_, List.getElem?_eq_getElem (by rw [unhide HQ]; exact hlt)⟩
      have hkN : k < N := by have := unhide HQN; omega
      obtain ⟨nb, no, nv, hsN, hnc, hnet⟩ := unhide HNA k net hx
      subst hsN
      obtain ⟨nv, nc, rfl⟩ := hnet.slice
      obtain ⟨hrow, hown, hrin⟩ := unhide HROW k hkN
      have HLE := hide (unhide HLEN k net hx)
      have HF0 := hide (unhide HNF0 k net hkN hx)
      have HF1 := hide (fun gs hgs => unhide HNET k net gs hkN hx hgs)
      have HNK : Hid (netB x W H T ts nets k = false → RB = false) := hide (fun h => by rw [unhide HRU]; exact upB_false hlt h)
      have HFT := hide (net_flat_take hx)
      obtain ⟨own, hownq⟩ : ∃ own, fromP x.ins.length W H ts k = own := ⟨_, rfl⟩
      rw [hownq] at hown HF0 HF1
      obtain ⟨o1, o2⟩ := own
      obtain ⟨n, hn⟩ : ∃ n, net.length = n := ⟨_, rfl⟩
      rw [hn] at hnc hnet HLE HF0 HF1
      have HN1 := hide hn
      have HOWN := hide hown
      have HRIN := hide hrin
      have HRK := hide hrow
      have z0 := cell_later hb (cell_later (unhide HW4) hnc)
      have hXw := btr (unhide HW4) hb
      have HNET0 := hide hnet
      have HNT := hide (hnet.later RHop.keeps hXw)
      have HSTW := hide ((unhide HST).later RSpot.keeps (btr (unhide HX4B) hb))
      have HGW := hide ((unhide HG).later hXw)
      obtain ⟨f0, f1, f2, f3, f4, f5, f6, f7, f8, f9, f10⟩ := unhide HFL wr hb
      have i1 : (0 : Int) ≤ (k : Int) := by omega
      have i2 : (k : Int) < (nn : Int) := by omega
      have hk2 : k ≤ 1048576 := by omega
      obtain ⟨w8, h8, t8⟩ := unhide HSB
      have HHF := hide (iHopsFit s0 s1 s2 s3 s4 va vb n0 n1 n2 n3 n4 nS N c0 c1 c2 c3 c4 vc vd W H T P k (w3.heap.size + 1) n nc nv st o1 o2 net (nets.take k).flatten wr w8 h8 t8 hn (unhide HLE) (unhide HNS) hS2 hk2 hown (unhide HGW) (unhide HSTW) (unhide HNT) hmw)
      obtain ⟨seen, hseen⟩ : ∃ s, (nets.take k).flatten = s := ⟨_, rfl⟩
      rw [hseen] at HHF HF0 HF1 HFT
      obtain ⟨HB1', hHB1⟩ : ∃ b, upB (hopB W H T (o1, o2) seen net) n = b := ⟨_, rfl⟩
      rw [hHB1] at HHF HF0 HF1
      have HUH := hide hHB1
      clear hx hrow hown hrin hnc hnet hn hb hmw hXw hup w8 h8 t8 hownq hseen hHB1
      go_wp2_with fail
      clear z0 f0 f1 f2 f3 f4 f5 f6 f7 f8 f9 f10
      refine (unhide HHF).mono ?_
      rintro e w5 ⟨rfl, hfx, hmw5⟩
      have hb5 := Fx.below (unhide HB) hfx (by rw [unhide HX4S]; exact Nat.le_refl _) (unhide HB).size
      have HB5 := hide hb5
      have HW5 := hide (btr (unhide HW4) hb5)
      have HM5 := hide hmw5
      obtain ⟨f0, f1, f2, f3, f4, f5, f6, f7, f8, f9, f10⟩ := unhide HFL w5 hb5
      clear hfx hmw5 hb5
      cases HB1'
      · have HRF := hide (unhide HNK (unhide HF0 rfl))
        clear HF0 HF1 HM5 HNK HUH
        clear f0 f1 f2 f3 f4 f5 f6 f7 f8 f9 f10
        go_wp2_with fail
        exact bodyPost_ret (v := .bool false) (by simp [results, Tryz.results11, go_sem]) rfl ⟨by rw [unhide HRF], unhide HW5⟩
      · have HM5' := hide (unhide HM5 rfl)
        have HF1' := hide (fun (gs : List (Int × Int)) h => (show netB x W H T ts nets k = gs.all (reachedB net) by rw [unhide HF1 gs h]; rfl))
        clear HF0 HF1 HM5
        have hb5 := unhide HB5
        have hL5 := (unhide HLR).later (btr (unhide HX4B) hb5)
        obtain ⟨g, nc2, nv2, nd2, hvb, hrc, hrr⟩ := hL5.row (unhide HRK) (unhide HLK k)
        rw [unhide HLKL] at hvb
        injection hvb with hvb1 hvb2 hvb3
        subst hvb1 hvb3
        have HST5 := hide ((unhide HST).later RSpot.keeps (btr (unhide HX4B) hb5))
        have HGO := hide (iGoals s0 s1 s2 s3 s4 va (some ⟨g, 0, none⟩) n0 n1 n2 n3 n4 nS N c0 c1 c2 c3 c4 vc vd W H T P k g 0 (lkR (psL x) k).length nd2 nv2 st (lkR (psL x) k) o1 o2 w5 (unhide HNS) hS2 (unhide HOWN) (unhide HST5) rfl hkN hN2 hrc rfl (unhide HLK k) hrr (unhide HRIN))
        clear hL5 hrc hrr hb5
        go_wp2_with fail
        clear f0 f1 f2 f3 f4 f5 f6 f7 f8 f9 f10
        refine (unhide HGO).mono ?_
        rintro e w6 ⟨⟨gv, gs, rfl, hgs, hgl, hmem⟩, hb6⟩
        have HEQ := hide (unhide HF1' gs hmem)
        obtain ⟨ga, gc, rfl⟩ := hgs.slice
        have HGS := hide (spot_cells hgs)
        have HB6 := hide (btr (unhide HB5) hb6)
        have HXW6 := hide (btr (unhide HW4) (unhide HB6))
        have HW6 := hide (btr (unhide HW5) hb6)
        have HM6 := hide ((unhide HM5').later hb6)
        have HTH : Hid (∀ h ∈ net, SmH h ∧ 0 ≤ h.d ∧ h.d ≤ 3) := hide (fun h hm => by
          obtain ⟨q, hq⟩ := List.mem_iff_getElem?.1 hm
          have hql : q < n := by rw [← unhide HN1]; exact (List.getElem?_eq_some_iff.1 hq).1
          have ht := hopB_there (unhide HUH) hql hq
          obtain ⟨w8, h8, t8⟩ := unhide HSB
          obtain ⟨_, _, _, hd, _⟩ := there_parts ht
          exact ⟨smH_of w8 h8 ht, hd⟩)
        have hnl : net.length ≤ 1048576 := by rw [unhide HN1]; have := unhide HLE; omega
        have HCT := hide (fun (r1 r2 : Int) (V : World) (hV : Below w6.heap.size w6 V) => iComesTo net r1 r2 (.slice nv n nc) V hnl ((unhide HNET0).later RHop.keeps (btr (unhide HXW6) hV)) (unhide HTH) ((unhide HG).later (btr (unhide HW6) hV)))
        obtain ⟨gn, hgn⟩ : ∃ n, gs.length = n := ⟨_, rfl⟩
        rw [hgn] at hgl ⊢
        have HGN := hide hgn
        have hgn2 : gn ≤ 1048576 := by have := unhide HLK k; omega
        clear HF1' HM5' HUH hgs hmem hb6 hgl hgn hnl HGO HST5
        go_wp2_with fail
        go_loopw [49] (fun i wr => ∃ j : Nat, j ≤ gn ∧ i = .int .i64 j ∧ (gs.take j).all (reachedB net) = true ∧ Below w6.heap.size w6 wr) (fun i _ => gn - (intOf i).toNat)
        case atStart => exact ⟨0, Nat.zero_le _, rfl, rfl, brf _⟩
        case round =>
          obtain ⟨j, hj, rfl, hall, hb⟩ := hrel
          have HA := hide hall
          have HB7 := hide hb
          by_cases hlt2 : j < gn
          · obtain ⟨r, hx⟩ : ∃ r, gs[j]? = some r := ⟨_, List.getElem?_eq_getElem (by rw [unhide HGN]; exact hlt2)⟩
            obtain ⟨r1, r2⟩ := r
            obtain ⟨gb, go, hga, hc0, hc1⟩ := unhide HGS j _ hx
            subst hga
            have HAT := hide (all_take (p := reachedB net) hx)
            have HAF := hide (fun h => all_false (p := reachedB net) hx h)
            have y0 := cell_later hb hc0
            have y1 := cell_later hb hc1
            have j1 : (0 : Int) ≤ (j : Int) := by omega
            have j2 : (j : Int) < (gn : Int) := by omega
            obtain ⟨V1, hV1⟩ : ∃ V1, V1 = wr.alloc (.cells #[.int .i64 r1, .int .i64 r2] 87) := ⟨_, rfl⟩
            have HBV := hide (show Below w6.heap.size w6 V1 by rw [hV1]; exact bal hb _)
            have HV1 := hide hV1
            clear hall hb hx hc0 hc1 hV1
            go_wp2_with fail
            rw [← unhide HV1]
            clear y0 y1
            refine (unhide HCT r1 r2 V1 (unhide HBV)).mono ?_
            rintro e w7 ⟨rfl, hb7⟩
            have HB8 := hide (btr (unhide HBV) hb7)
            clear hb7
            obtain ⟨q, hq⟩ : ∃ b, reachedB net (r1, r2) = b := ⟨_, rfl⟩
            rw [hq] at HAT HAF ⊢
            clear hq
            cases q
            · have HRF : Hid (RB = false) := hide (unhide HNK (by rw [unhide HEQ, unhide HAF rfl]))
              have HW8 := hide (btr (unhide HW6) (unhide HB8))
              clear HAF HAT HEQ HNK
              go_wp2_with fail
              exact bodyPost_ret (v := .bool false) (by simp [results, Tryz.results11, go_sem]) rfl ⟨by rw [unhide HRF], unhide HW8⟩
            · have HA2 : Hid ((gs.take (j + 1)).all (reachedB net) = true) := hide (by rw [unhide HAT, unhide HA]; rfl)
              clear HAF HAT
              go_wp2_with fail
              go_roundw
              case rel => exact ⟨j + 1, by omega, by go_num, unhide HA2, unhide HB8⟩
              case measure => simp [intOf]; omega
          · obtain rfl : gn = j := by omega
            have hu : upB (netB x W H T ts nets) (k + 1) = true := by
              have h := unhide HA
              rw [List.take_of_length_le (by rw [unhide HGN]; exact Nat.le_refl _)] at h
              rw [upB_succ, unhide HUP, unhide HEQ, h]
              rfl
            have HU := hide hu
            have HM8 := hide ((unhide HM6).later hb)
            rw [← unhide HFT] at HM8
            have HB8 := hide (btr (unhide HB6) hb)
            clear hall hb hu HEQ HNK
            go_wp2_with fail
            go_roundw
            case rel => exact ⟨k + 1, by omega, by go_num, unhide HU, unhide HB8, unhide HM8⟩
            case measure => simp [intOf]; omega
    · obtain rfl : nn = k := by omega
      have HW8 := hide (btr (unhide HW4) hb)
      clear hb hmw hup
      go_wp2_with fail
      exact bodyPost_ret (v := .bool true) (by simp [results, Tryz.results11, go_sem]) rfl ⟨by rw [unhide HRU, unhide HUP], unhide HW8⟩
end Go.Proofs.YtlldfaniddbjaaaGreatDoor
