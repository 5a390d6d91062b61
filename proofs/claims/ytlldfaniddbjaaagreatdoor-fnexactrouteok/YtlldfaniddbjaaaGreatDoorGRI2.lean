/- The specification's RouteOK. -/
import Derived.Test.YtlldfaniddbjaaaGreatDoorGRS15
import Derived.Test.YtlldfaniddbjaaaGreatDoorPK3
import Derived.Test.YtlldfaniddbjaaaGreatDoorGRWZ
import Derived.Test.YtlldfaniddbjaaaGreatDoorGN2
import Derived.Test.YtlldfaniddbjaaaGreatDoorGFB
namespace Go.Proofs.YtlldfaniddbjaaaGreatDoor
open Go Go.RowKit Gs
set_option linter.unusedVariables false
set_option linter.unusedSimpArgs false
set_option maxRecDepth 100000
set_option maxHeartbeats 16000000
/-- What RouteOK answers, where PlaceOK's own answer is given. -/
def routeB (pl : Bool) (x : Packed) (W H T : Nat) (ts : List Int) (nets : List (List Hop)) : Bool := pl && (decide (nets.length = x.ins.length + x.blocks.length) && netsB x W H T ts nets)
theorem stOK_of {x : Packed} {pk : Bool} {x0 x1 x2 x3 : Int} {ts : List Int} (hl : szPacked x ≤ 1048576) (h : placeB pk x0 x1 x2 x3 x.ins.length x.blocks.length x.outs.length x.checks.length ts = true) : StOK x x0.toNat x1.toNat x2.toNat ts := by
  unfold placeB at h
  simp only [Bool.and_eq_true] at h
  obtain ⟨hp, hc, hpd, hlen, hin⟩ := h
  obtain ⟨⟨a1, a2⟩, ⟨b1, b2⟩, ⟨t1, t2⟩, ⟨p1, p2⟩⟩ := chip_parts hc
  obtain ⟨M, hM, hM2, _⟩ := mul_small (m := 8) (n := 4) ⟨b1, b2⟩ ⟨p1, p2⟩
  obtain ⟨K, hK, hK2, _⟩ := mul_small (m := 8) (n := 8) ⟨a1, a2⟩ ⟨b1, b2⟩
  unfold padsB at hpd
  rw [hM] at hpd
  simp only [Bool.and_eq_true, decide_eq_true_eq] at hpd hlen
  have hmem := insB_mem hin
  have hll := insB_len hin
  rw [hK] at hmem hll
  have hz : szPacked x = szL (fun (s : ByteArray) => s.size) x.ins + szL (fun (s : ByteArray) => s.size) x.clocks + szL szBlock x.blocks + szL szPort x.outs + szL szPort x.checks := rfl
  refine ⟨by omega, by omega, by omega, by omega, by omega, by omega, by omega, by omega, by omega, by omega, fun t ht => ?_, fun b hb => ?_⟩
  · have h1 := hmem t ht
    have e : ((x0.toNat * x1.toNat : Nat) : Int) = (K : Int) := by
      rw [← hK, Int.natCast_mul, Int.toNat_of_nonneg (by omega), Int.toNat_of_nonneg (by omega)]
    omega
  · obtain ⟨i, hi⟩ := List.mem_iff_getElem?.1 hb
    have h1 := sm_take (f := szBlock) hi
    have h2 := sm_le (f := szBlock) (xs := x.blocks) (i + 1)
    have h3 := szL_sm szBlock x.blocks
    have h4 : szBlock b = b.name.size + szL (fun (_ : Int) => 0) b.inp := rfl
    have h5 := szL_sm (fun (_ : Int) => 0) b.inp
    omega
theorem upB_congr {p q : Nat → Bool} : ∀ {n : Nat}, (∀ k, k < n → p k = q k) → upB p n = upB q n
  | 0, _ => rfl
  | n + 1, h => by rw [upB_succ, upB_succ, upB_congr (fun k hk => h k (by omega)), h n (by omega)]
theorem make_bools (n : Nat) (hn : n ≤ 4194304) : ∃ M : Array Value, M.toList = List.replicate n (.bool false) ∧ ∀ W : World, (Instr.makeSlice 54 (.int .i64 (n : Int)) (.int .i64 (n : Int))).run Tryz.prog W = .ok (.slice (some ⟨W.heap.size, 0, none⟩) n n) (W.alloc (.cells M 4)) := by
  obtain ⟨i0, hi, hz0, hz1, hz2⟩ := info_parts (show (Tryz.prog.info? 4).map (fun i => (i.zero, i.size, i.bytes)) = some (some (.bool false), 1, 1) by kernel_rfl)
  refine ⟨madeCells #[.bool false] n, ?_, fun W => ?_⟩
  · refine List.ext_getElem? fun i => ?_
    rw [Array.getElem?_toList, List.getElem?_replicate]
    by_cases h : i < n
    · simp [madeCells, h, Nat.mod_one]
    · simp [madeCells, h]
  · have hr := run_make (P := Tryz.prog) W 54 4 i0 _ Tryz.underlying54 hi hz0 .i64 .i64 n n (by omega) (Int.le_refl _) (by rw [hz2]; omega) (by omega)
    rw [hr, hz1]
    simp
    rfl
theorem br_start {W T N : Nat} {V : World} {M : Array Value} (hM : M.toList = List.replicate N (.bool false)) : BR W T (V.alloc (.cells M 4)) V.heap.size N [] := fun n hn => by
  have hx : M[n]? = some (.bool false) := by rw [← Array.getElem?_toList, hM, List.getElem?_replicate, if_pos hn]
  have := new_cell (V := V.alloc (.cells M 4)) (brf _) hx
  exact this
theorem sRouteOK (x : Packed) (u : List Value) (x0 x1 x2 x3 : Int) (ts : List Int) (nets : List (List Hop)) (tv nv : Value) (w : World) (hl : szPacked x ≤ 1048576) (hlt : ts.length ≤ 1048576) (hln : szL szHopS nets ≤ 1048576) (hr : RPacked w 0 x u) (ht : RS 1 RInt w 0 ts tv) (hns : RS 1 RHopS w 0 nets nv) :
    Calls Tryz.prog 6 #[.agg u.toArray, .agg #[.int .i64 x0, .int .i64 x1, .int .i64 x2, .int .i64 x3], tv, nv] w fun e w' => e = .returned (.bool (routeB (placeB (packS x) x0 x1 x2 x3 x.ins.length x.blocks.length x.outs.length x.checks.length ts) x x0.toNat x1.toNat x2.toNat ts nets)) ∧ Below w.heap.size w w' := by
  have HPL := hide (fun (V : World) (hb : Below w.heap.size w V) => sPlaceOK x u x0 x1 x2 x3 ts tv V hl hlt (hr.later hb) (ht.later RInt.keeps hb))
  have hz : szPacked x = szL (fun (s : ByteArray) => s.size) x.ins + szL (fun (s : ByteArray) => s.size) x.clocks + szL szBlock x.blocks + szL szPort x.outs + szL szPort x.checks := rfl
  have z0 := szL_sm (fun (s : ByteArray) => s.size) x.ins
  have z2 := szL_sm szBlock x.blocks
  have zn := szL_sm szHopS nets
  have hi0 : x.ins.length ≤ 1048576 := by omega
  have hi2 : x.blocks.length ≤ 1048576 := by omega
  have hi02 : x.ins.length + x.blocks.length ≤ 1048576 := by omega
  have hnn : nets.length ≤ 1048576 := by omega
  have hnsz : ∀ net ∈ nets, net.length ≤ 1048576 := fun net hm => by
    obtain ⟨i, hi⟩ := List.mem_iff_getElem?.1 hm
    have h1 := sm_take (f := szHopS) hi
    have h2 := sm_le (f := szHopS) (xs := nets) (i + 1)
    have h4 : szHopS net = szL szHop net := rfl
    have h5 := szL_sm szHop net
    omega
  have hst := fun (h : placeB (packS x) x0 x1 x2 x3 x.ins.length x.blocks.length x.outs.length x.checks.length ts = true) => stOK_of hl h
  obtain ⟨pl, hpl⟩ : ∃ pl, placeB (packS x) x0 x1 x2 x3 x.ins.length x.blocks.length x.outs.length x.checks.length ts = pl := ⟨_, rfl⟩
  have hcp : pl = true → (1 ≤ x0 ∧ x0 ≤ 8) ∧ (1 ≤ x1 ∧ x1 ≤ 8) ∧ (1 ≤ x2 ∧ x2 ≤ 8) ∧ (1 ≤ x3 ∧ x3 ≤ 4) := fun h => by
    rw [← hpl] at h
    unfold placeB at h
    simp only [Bool.and_eq_true] at h
    exact chip_parts h.2.1
  rw [hpl] at HPL hst ⊢
  obtain ⟨sT, cT, rfl⟩ := ht.slice
  obtain ⟨sN, cn, rfl⟩ := hns.slice
  obtain ⟨v0, v1, v2, v3, v4, rfl, h0, h1, h2, h3, h4⟩ := hr
  obtain ⟨s0, c0, e0⟩ := h0.slice
  obtain ⟨s1, c1, e1⟩ := h1.slice
  obtain ⟨s2, c2, e2⟩ := h2.slice
  obtain ⟨s3, c3, e3⟩ := h3.slice
  obtain ⟨s4, c4, e4⟩ := h4.slice
  subst e0 e1 e2 e3 e4
  obtain ⟨nn, hnnq⟩ : ∃ n, nets.length = n := ⟨_, rfl⟩
  have HRB : Hid (routeB pl x x0.toNat x1.toNat x2.toNat ts nets = (pl && (decide (nn = x.ins.length + x.blocks.length) && netsB x x0.toNat x1.toNat x2.toNat ts nets))) := hide (by unfold routeB; rw [hnnq])
  obtain ⟨RB, hRB⟩ : ∃ b, routeB pl x x0.toNat x1.toNat x2.toNat ts nets = b := ⟨_, rfl⟩
  rw [hRB] at HRB ⊢
  rw [hnnq] at hnn hns ⊢
  have HNQ := hide hnnq
  have HNSZ := hide hnsz
  have HNS := hide hns
  have HT := hide ht
  have H2 := hide h2
  have H3 := hide h3
  have H4 := hide h4
  obtain ⟨n0, hn0⟩ : ∃ n, x.ins.length = n := ⟨_, rfl⟩
  obtain ⟨n1, hn1⟩ : ∃ n, x.clocks.length = n := ⟨_, rfl⟩
  obtain ⟨n2, hn2⟩ : ∃ n, x.blocks.length = n := ⟨_, rfl⟩
  obtain ⟨n3, hn3⟩ : ∃ n, x.outs.length = n := ⟨_, rfl⟩
  obtain ⟨n4, hn4⟩ : ∃ n, x.checks.length = n := ⟨_, rfl⟩
  obtain ⟨nT, hnT⟩ : ∃ n, ts.length = n := ⟨_, rfl⟩
  have HN0 := hide hn0
  have HN2 := hide hn2
  have HN3 := hide hn3
  have HN4 := hide hn4
  have HNT := hide hnT
  have HST := hide hst
  have HCPB := hide hcp
  rw [hn0, hn1, hn2, hn3, hn4, hnT] at HPL
  rw [hn0, hn1, hn2, hn3, hn4, hnT]
  rw [hn0, hn2] at HRB hi02
  rw [hn0] at hi0
  rw [hn2] at hi2
  clear hz z0 z2 zn hl hlt hln h0 h1 h2 h3 h4 ht hns hnsz hnnq hn0 hn1 hn2 hn3 hn4 hnT hst hcp hRB
  change Hid (∀ (V : World), Below w.heap.size w V → Calls Tryz.prog 19 #[.agg #[.slice s0 n0 c0, .slice s1 n1 c1, .slice s2 n2 c2, .slice s3 n3 c3, .slice s4 n4 c4], .agg #[.int .i64 x0, .int .i64 x1, .int .i64 x2, .int .i64 x3], .slice sT nT cT] V _) at HPL
  show Calls Tryz.prog 6 #[.agg #[.slice s0 n0 c0, .slice s1 n1 c1, .slice s2 n2 c2, .slice s3 n3 c3, .slice s4 n4 c4], .agg #[.int .i64 x0, .int .i64 x1, .int .i64 x2, .int .i64 x3], .slice sT nT cT, .slice sN nn cn] w _
  obtain ⟨X, hX⟩ : ∃ X, X = (w.alloc (.cells #[.slice s0 n0 c0, .slice s1 n1 c1, .slice s2 n2 c2, .slice s3 n3 c3, .slice s4 n4 c4] 37)).alloc (.cells #[.int .i64 x0, .int .i64 x1, .int .i64 x2, .int .i64 x3] 39) := ⟨_, rfl⟩
  have HXB : Hid (Below w.heap.size w X) := hide (by rw [hX]; exact bal (bal (brf w) _) _)
  have HCP : Hid (∀ V, Below X.heap.size X V → V.cell? ⟨w.heap.size, 0, none⟩ = some (.slice s0 n0 c0) ∧ V.cell? ⟨w.heap.size, 1, none⟩ = some (.slice s1 n1 c1) ∧ V.cell? ⟨w.heap.size, 2, none⟩ = some (.slice s2 n2 c2) ∧ V.cell? ⟨w.heap.size, 3, none⟩ = some (.slice s3 n3 c3) ∧ V.cell? ⟨w.heap.size, 4, none⟩ = some (.slice s4 n4 c4)) := hide (fun V hV => by
    rw [hX] at hV
    have K := fun (i : Nat) y hy => (new_cell (i := i) (x := y) (btr (bal (brf _) _) hV) hy).1
    exact ⟨K 0 _ rfl, K 1 _ rfl, K 2 _ rfl, K 3 _ rfl, K 4 _ rfl⟩)
  have HCC : Hid (∀ V, Below X.heap.size X V → V.cell? ⟨w.heap.size + 1, 0, none⟩ = some (.int .i64 x0) ∧ V.cell? ⟨w.heap.size + 1, 1, none⟩ = some (.int .i64 x1) ∧ V.cell? ⟨w.heap.size + 1, 2, none⟩ = some (.int .i64 x2) ∧ V.cell? ⟨w.heap.size + 1, 3, none⟩ = some (.int .i64 x3)) := hide (fun V hV => by
    rw [hX] at hV
    have K := fun (i : Nat) y hy => (new_cell (i := i) (x := y) hV hy).1
    simp only [World.size_alloc] at K
    exact ⟨K 0 _ rfl, K 1 _ rfl, K 2 _ rfl, K 3 _ rfl⟩)
  have HSX : Hid (w.heap.size + 1 < X.heap.size) := hide (by rw [hX]; simp)
  have HXX := hide hX
  clear hX
  go_enter Tryz.func6, Tryz.ntmps6
  go_wp2_with fail
  rw [← unhide HXX]
  refine (unhide HPL X (unhide HXB)).mono ?_
  rintro e w1 ⟨rfl, hb1⟩
  have HB1 := hide hb1
  have HW1 := hide (btr (unhide HXB) hb1)
  obtain ⟨p0, p1, p2, p3, p4⟩ := unhide HCP w1 hb1
  obtain ⟨q0, q1, q2, q3⟩ := unhide HCC w1 hb1
  clear hb1 HPL
  cases pl
  · go_wp2_with fail
    exact bodyPost_ret (v := .bool false) (by simp [results, Tryz.results6, go_sem]) rfl ⟨by rw [unhide HRB]; rfl, unhide HW1⟩
  by_cases hq : (nn : Int) = (n0 : Int) + (n2 : Int)
  case neg =>
    have HQF : Hid (RB = false) := hide (by rw [unhide HRB, decide_eq_false (p := nn = n0 + n2) (by omega)]; rfl)
    go_wp2_with fail
    exact bodyPost_ret (v := .bool false) (by simp [results, Tryz.results6, go_sem]) rfl ⟨by rw [unhide HQF], unhide HW1⟩
  have hqn : nn = n0 + n2 := by omega
  have HQN := hide hqn
  have HX2 := hide (unhide HST rfl)
  have hW1 := (unhide HX2).w1
  have hb := unhide HCPB rfl
  obtain ⟨W, rfl⟩ : ∃ W : Nat, x0 = (W : Int) := ⟨x0.toNat, by omega⟩
  obtain ⟨H, rfl⟩ : ∃ H : Nat, x1 = (H : Int) := ⟨x1.toNat, by omega⟩
  obtain ⟨T, rfl⟩ : ∃ T : Nat, x2 = (T : Int) := ⟨x2.toNat, by omega⟩
  obtain ⟨P, rfl⟩ : ∃ P : Nat, x3 = (P : Int) := ⟨x3.toNat, by omega⟩
  simp only [Int.toNat_natCast] at HX2 HRB
  obtain ⟨N, hN, hN2, HCT⟩ : ∃ N : Nat, N = H * (W + 1) * 4 * T ∧ N ≤ 2304 ∧ ∀ V, Calls Tryz.prog 20 #[.agg #[.int .i64 (W : Int), .int .i64 (H : Int), .int .i64 (T : Int), .int .i64 (P : Int)]] V fun e w' => e = .returned (.int .i64 (N : Int)) ∧ Below V.heap.size V w' := by
    obtain ⟨N, hN, hN2, _⟩ := sCount W H T P w (by omega) (by omega) (by omega)
    refine ⟨N, hN, hN2, fun V => ?_⟩
    obtain ⟨N', hN', _, h⟩ := sCount W H T P V (by omega) (by omega) (by omega)
    rw [hN, ← hN']; exact h
  have HCTH := hide HCT
  have HNN := hide hN
  obtain ⟨Mk, hMk, hmk⟩ := make_bools N (by omega)
  have HMK := hide hMk
  clear HST HCPB hb hqn HCT hN hMk hW1
  go_wp2_with fail
  refine (unhide HCTH w1).mono ?_
  rintro e w2 ⟨rfl, hb2⟩
  have HB2 := hide (btr (unhide HB1) hb2)
  have HW2 := hide (btr (unhide HW1) hb2)
  clear hb2 p0 p1 p2 p3 p4 q0 q1 q2 q3
  have hcap : N ≤ 2147483648 := by omega
  go_wp2_with fail
  have HBR := hide (br_start (W := W) (T := T) (V := w2) (unhide HMK))
  have HF := hide (show Below X.heap.size X (w2.alloc (.cells Mk 4)) from bal (unhide HB2) _)
  have hsz2 : X.heap.size ≤ w2.heap.size := (unhide HB2).size
  refine roL0 (P := P) (pb := w.heap.size) (ub := w2.heap.size) (N := N) (n0 := n0) (n1 := n1) (n2 := n2) (n3 := n3) (n4 := n4) (c0 := c0) (c1 := c1) (c2 := c2) (c3 := c3) (c4 := c4) (s0 := s0) (s1 := s1) (s2 := s2) (s3 := s3) (s4 := s4) (x := x) (ts := ts) (nets := nets) (w := w) (unhide HX2) (unhide HNN) hN2 hnn (unhide HNQ) (unhide HNSZ) (by simp) (unhide HW2).size (hide (bal (unhide HW2) _)) (unhide HN0) (by rw [unhide HN2]; exact unhide HQN) HBR (hide (fun V hV => ?_)) (hide (fun V hV => ?_)) HNS (hide (fun s hs V hV => ?_)) (hide (fun s hs V hV => ?_)) ?_ ?_
  · have K := unhide HCC (w2.alloc (.cells Mk 4)) (unhide HF)
    have hs := unhide HSX
    exact ⟨hV.cell K.1 (by omega), hV.cell K.2.1 (by omega), hV.cell K.2.2.1 (by omega), hV.cell K.2.2.2 (by omega)⟩
  · have K := unhide HCP (w2.alloc (.cells Mk 4)) (unhide HF)
    have hs := unhide HSX
    exact ⟨hV.cell K.1 (by omega), hV.cell K.2.1 (by omega), hV.cell K.2.2.1 (by omega), hV.cell K.2.2.2.1 (by omega), hV.cell K.2.2.2.2 (by omega)⟩
  · have hx := unhide HX2
    have hnb := hx.nb
    have hnt := hx.nt
    have hni := hx.ni
    have e0 := unhide HN0
    have e2 := unhide HN2
    have eT := unhide HNT
    have eq := unhide HQN
    exact sFrom s0 s1 s2 s3 s4 n0 n1 n2 n3 n4 c0 c1 c2 c3 c4 W H T P ts (.slice sT nT cT) s V hx.w8 hx.w1 hx.h1 hx.h8 (by omega) (by omega) hnt (by rw [← eT]; exact (unhide HT).later RInt.keeps hV) hx.t64
  · have hx := unhide HX2
    have e0 := unhide HN0
    have e2 := unhide HN2
    have e3 := unhide HN3
    have e4 := unhide HN4
    have eT := unhide HNT
    have eq := unhide HQN
    rw [← e0, ← e2, ← e3, ← e4, ← eT]
    exact sEnds x s0 s1 s2 s3 s4 sT c0 c1 c2 c3 c4 n1 W H T P cT s ts V hx (by omega) ((unhide H2).later RBlock.keeps hV) ((unhide H3).later RPort.keeps hV) ((unhide H4).later RPort.keeps hV) ((unhide HT).later RInt.keeps hV)
  · intro hh zi z11 z12 z13 z14 z15 z16 z17 z18 z39 z40 z41 z42 z43 z44 z45 z46 z47 z48 z49 z50 z51 z52 z53 z54 z55 z56 z57 z58 z59 z60 z61 z62 z63 z64 z65 z66 z67 z68 z69 z70 z71 z72 z73 z74 z75 z76 z77 z78 z79 z80 z81 z82 z83 z84 z85 z86 z87 z88 z89 z90 z91 z92 z93 z94 z95 z96 z97 z98 z99 z100 z101 z102 z103 z104 z105 z106 z107 z108 z109 z110 z111 z112 z113 z114 z115 z116 z117 z118 z119 z120 z121 z122 z123 z124 z125 z126 z127 z128 z129 z130 z131 z132 z133 z134 z135 z136 z137 z138 z139 z140 z141 z142 z143 z144 z145 z146 z147 z148 z149 z150 z151 z152 z153 z154 z155 z156 z157 z158 z159 z160 z161 V hV
    have HR : Hid (RB = false) := hide (by
      rw [unhide HRB, decide_eq_true (unhide HQN), Bool.true_and, Bool.true_and]
      unfold netsB
      rw [unhide HNQ]
      rw [← hh]
      exact upB_congr (fun s hs => (srcS_net (unhide HX2) (by rw [unhide HN0, unhide HN2, ← unhide HQN]; exact hs)).symm))
    have HV := hide (hV.below (bal (unhide HW2) _) (unhide HW2).size (by have := (unhide HW2).size; simp; omega))
    clear hh hV
    simp only [Exit.inBlock, Exit.then]
    exact bodyPost_ret (v := .bool false) (by simp [results, Tryz.results6, go_sem]) rfl ⟨by rw [unhide HR], unhide HV⟩
  · intro hh z8 zi z11 z12 z13 z14 z15 z16 z17 z18 z39 z40 z41 z42 z43 z44 z45 z46 z47 z48 z49 z50 z51 z52 z53 z54 z55 z56 z57 z58 z59 z60 z61 z62 z63 z64 z65 z66 z67 z68 z69 z70 z71 z72 z73 z74 z75 z76 z77 z78 z79 z80 z81 z82 z83 z84 z85 z86 z87 z88 z89 z90 z91 z92 z93 z94 z95 z96 z97 z98 z99 z100 z101 z102 z103 z104 z105 z106 z107 z108 z109 z110 z111 z112 z113 z114 z115 z116 z117 z118 z119 z120 z121 z122 z123 z124 z125 z126 z127 z128 z129 z130 z131 z132 z133 z134 z135 z136 z137 z138 z139 z140 z141 z142 z143 z144 z145 z146 z147 z148 z149 z150 z151 z152 z153 z154 z155 z156 z157 z158 z159 z160 z161 V hV
    have HR : Hid (RB = true) := hide (by
      rw [unhide HRB, decide_eq_true (unhide HQN), Bool.true_and, Bool.true_and]
      unfold netsB
      rw [unhide HNQ]
      rw [← hh]
      exact upB_congr (fun s hs => (srcS_net (unhide HX2) (by rw [unhide HN0, unhide HN2, ← unhide HQN]; exact hs)).symm))
    have HV := hide (hV.below (bal (unhide HW2) _) (unhide HW2).size (by have := (unhide HW2).size; simp; omega))
    clear hh hV
    go_wp2_with fail
    exact bodyPost_ret (v := .bool true) (by simp [results, Tryz.results6, go_sem]) rfl ⟨by rw [unhide HR], unhide HV⟩
end Go.Proofs.YtlldfaniddbjaaaGreatDoor
namespace Go.Proofs.YtlldfaniddbjaaaGreatDoor
open Go Go.RowKit Gs
set_option linter.unusedVariables false
set_option linter.unusedSimpArgs false
set_option maxRecDepth 100000
set_option maxHeartbeats 3200000
/-- The courses lie where the program's text lays them. -/
def Gc (W : World) : Prop := W.cell? ⟨0, 0, none⟩ = some (.int .i64 1) ∧ W.cell? ⟨0, 1, none⟩ = some (.int .i64 0) ∧ W.cell? ⟨0, 2, none⟩ = some (.int .i64 0) ∧ W.cell? ⟨0, 3, none⟩ = some (.int .i64 1) ∧ W.cell? ⟨0, 4, none⟩ = some (.int .i64 (-1)) ∧ W.cell? ⟨0, 5, none⟩ = some (.int .i64 0) ∧ W.cell? ⟨0, 6, none⟩ = some (.int .i64 0) ∧ W.cell? ⟨0, 7, none⟩ = some (.int .i64 (-1))
theorem Gc.later {W V : World} (h : Gc W) (hb : Below W.heap.size W V) : Gc V := by
  obtain ⟨h0, h1, h2, h3, h4, h5, h6, h7⟩ := h
  exact ⟨cell_later hb h0, cell_later hb h1, cell_later hb h2, cell_later hb h3, cell_later hb h4, cell_later hb h5, cell_later hb h6, cell_later hb h7⟩
theorem iWire (x y d t f : Int) (w : World) : Calls Tryz.prog 62 #[.agg #[.int .i64 x, .int .i64 y, .int .i64 d, .int .i64 t, .int .i64 f]] w fun e w' => e = .returned (.agg #[.int .i64 x, .int .i64 y, .int .i64 d, .int .i64 t]) ∧ Below w.heap.size w w' := by
  go_enter Tryz.func62, Tryz.ntmps62
  go_wp2
  refine bodyPost_ret (v := .agg #[.int .i64 x, .int .i64 y, .int .i64 d, .int .i64 t]) (by simp [results, Tryz.results62, go_sem]) rfl ⟨rfl, ?_⟩
  repeat first | exact brf _ | refine bal ?_ _ | refine bst ?_ (by simp) _
theorem iStart (x y d t f : Int) (w : World) : Calls Tryz.prog 92 #[.agg #[.int .i64 x, .int .i64 y, .int .i64 d, .int .i64 t, .int .i64 f]] w fun e w' => e = .returned (.agg #[.int .i64 x, .int .i64 y, .int .i64 t]) ∧ Below w.heap.size w w' := by
  go_enter Tryz.func92, Tryz.ntmps92
  go_wp2
  refine bodyPost_ret (v := .agg #[.int .i64 x, .int .i64 y, .int .i64 t]) (by simp [results, Tryz.results92, go_sem]) rfl ⟨rfl, ?_⟩
  repeat first | exact brf _ | refine bal ?_ _ | refine bst ?_ (by simp) _
theorem iSpotJ (x y t : Int) (w : World) : Calls Tryz.prog 74 #[.agg #[.int .i64 x, .int .i64 y, .int .i64 t]] w fun e w' => e = .returned (.agg #[.int .i64 x, .int .i64 y]) ∧ Below w.heap.size w w' := by
  go_enter Tryz.func74, Tryz.ntmps74
  go_wp2
  refine bodyPost_ret (v := .agg #[.int .i64 x, .int .i64 y]) (by simp [results, Tryz.results74, go_sem]) rfl ⟨rfl, ?_⟩
  repeat first | exact brf _ | refine bal ?_ _ | refine bst ?_ (by simp) _
/-- Where a wire ends: its joint. -/
theorem iEndJ (x y d t f : Int) (w : World) (hd : 0 ≤ d ∧ d ≤ 3) (hx : -9 ≤ x ∧ x ≤ 9) (hy : -9 ≤ y ∧ y ≤ 9) (hg : Gc w) : Calls Tryz.prog 73 #[.agg #[.int .i64 x, .int .i64 y, .int .i64 d, .int .i64 t, .int .i64 f]] w fun e w' => e = .returned (.agg #[.int .i64 (endX x d), .int .i64 (endY y d), .int .i64 t]) ∧ Below w.heap.size w w' := by
  have HX : Hid (endX x d = if d = 0 then x + 1 else if d = 1 then x else if d = 2 then x - 1 else x) := hide rfl
  have HY : Hid (endY y d = if d = 0 then y else if d = 1 then y + 1 else if d = 2 then y else y - 1) := hide rfl
  generalize endX x d = X at *
  generalize endY y d = Y at *
  by_cases hk0 : d = 0
  · obtain rfl : d = 0 := hk0
    have HV : Hid (X = x + 1 ∧ Y = y) := hide ⟨by rw [unhide HX, if_pos rfl], by rw [unhide HY, if_pos rfl]⟩
    clear HX HY
    obtain ⟨h0, h1, h2, h3, h4, h5, h6, h7⟩ := hg.later (bal (bal (brf w) (.cells #[.int .i64 x, .int .i64 y, .int .i64 0, .int .i64 t, .int .i64 f] 61)) (.cells #[.int .i64 0, .int .i64 0, .int .i64 0] 129))
    go_enter Tryz.func73, Tryz.ntmps73
    go_wp2
    refine bodyPost_ret (v := .agg #[.int .i64 (x + 1), .int .i64 (y), .int .i64 t]) (by simp [results, Tryz.results73, go_sem]) rfl ⟨by rw [(unhide HV).1, (unhide HV).2], ?_⟩
    repeat first | exact brf _ | refine bal ?_ _ | refine bst ?_ (by simp) _
  ·
    by_cases hk1 : d = 1
    · obtain rfl : d = 1 := hk1
      have HV : Hid (X = x ∧ Y = y + 1) := hide ⟨by rw [unhide HX, if_neg (show ¬ (1 : Int) = 0 by decide), if_pos rfl], by rw [unhide HY, if_neg (show ¬ (1 : Int) = 0 by decide), if_pos rfl]⟩
      clear HX HY
      obtain ⟨h0, h1, h2, h3, h4, h5, h6, h7⟩ := hg.later (bal (bal (brf w) (.cells #[.int .i64 x, .int .i64 y, .int .i64 1, .int .i64 t, .int .i64 f] 61)) (.cells #[.int .i64 0, .int .i64 0, .int .i64 0] 129))
      go_enter Tryz.func73, Tryz.ntmps73
      go_wp2
      refine bodyPost_ret (v := .agg #[.int .i64 (x), .int .i64 (y + 1), .int .i64 t]) (by simp [results, Tryz.results73, go_sem]) rfl ⟨by rw [(unhide HV).1, (unhide HV).2], ?_⟩
      repeat first | exact brf _ | refine bal ?_ _ | refine bst ?_ (by simp) _
    ·
      by_cases hk2 : d = 2
      · obtain rfl : d = 2 := hk2
        have HV : Hid (X = x - 1 ∧ Y = y) := hide ⟨by rw [unhide HX, if_neg (show ¬ (2 : Int) = 0 by decide), if_neg (show ¬ (2 : Int) = 1 by decide), if_pos rfl], by rw [unhide HY, if_neg (show ¬ (2 : Int) = 0 by decide), if_neg (show ¬ (2 : Int) = 1 by decide), if_pos rfl]⟩
        clear HX HY
        obtain ⟨h0, h1, h2, h3, h4, h5, h6, h7⟩ := hg.later (bal (bal (brf w) (.cells #[.int .i64 x, .int .i64 y, .int .i64 2, .int .i64 t, .int .i64 f] 61)) (.cells #[.int .i64 0, .int .i64 0, .int .i64 0] 129))
        go_enter Tryz.func73, Tryz.ntmps73
        go_wp2
        refine bodyPost_ret (v := .agg #[.int .i64 (x + -1), .int .i64 (y), .int .i64 t]) (by simp [results, Tryz.results73, go_sem]) rfl ⟨by rw [(unhide HV).1, (unhide HV).2]; rfl, ?_⟩
        repeat first | exact brf _ | refine bal ?_ _ | refine bst ?_ (by simp) _
      ·
        obtain rfl : d = 3 := by omega
        have HV : Hid (X = x ∧ Y = y - 1) := hide ⟨by rw [unhide HX, if_neg (show ¬ (3 : Int) = 0 by decide), if_neg (show ¬ (3 : Int) = 1 by decide), if_neg (show ¬ (3 : Int) = 2 by decide)], by rw [unhide HY, if_neg (show ¬ (3 : Int) = 0 by decide), if_neg (show ¬ (3 : Int) = 1 by decide), if_neg (show ¬ (3 : Int) = 2 by decide)]⟩
        clear HX HY
        obtain ⟨h0, h1, h2, h3, h4, h5, h6, h7⟩ := hg.later (bal (bal (brf w) (.cells #[.int .i64 x, .int .i64 y, .int .i64 3, .int .i64 t, .int .i64 f] 61)) (.cells #[.int .i64 0, .int .i64 0, .int .i64 0] 129))
        go_enter Tryz.func73, Tryz.ntmps73
        go_wp2
        refine bodyPost_ret (v := .agg #[.int .i64 (x), .int .i64 (y + -1), .int .i64 t]) (by simp [results, Tryz.results73, go_sem]) rfl ⟨by rw [(unhide HV).1, (unhide HV).2]; rfl, ?_⟩
        repeat first | exact brf _ | refine bal ?_ _ | refine bst ?_ (by simp) _
theorem iHasTile (W H T P : Nat) (x y : Int) (w : World) : Calls Tryz.prog 113 #[.agg #[.int .i64 (W : Int), .int .i64 (H : Int), .int .i64 (T : Int), .int .i64 (P : Int)], .agg #[.int .i64 x, .int .i64 y]] w fun e w' => e = .returned (.bool ((decide (0 ≤ x) && decide (x < (W : Int))) && (decide (0 ≤ y) && decide (y < (H : Int))))) ∧ Below w.heap.size w w' := by
  have H1 := hide (fun V => iPlace x (W : Int) V)
  have H2 := hide (fun V => iPlace y (H : Int) V)
  generalize (decide (0 ≤ x) && decide (x < (W : Int))) = p at *
  generalize (decide (0 ≤ y) && decide (y < (H : Int))) = q at *
  go_enter Tryz.func113, Tryz.ntmps113
  go_wp2_with fail
  refine (unhide H1 _).mono ?_
  rintro e W1 ⟨rfl, h⟩
  have h' := h.symm
  subst h'
  cases p
  · go_wp2_with fail
    exact bodyPost_ret (v := .bool false) (by simp [results, Tryz.results113, go_sem]) rfl ⟨rfl, bal (bal (brf w) _) _⟩
  · go_wp2_with fail
    refine (unhide H2 _).mono ?_
    rintro e W2 ⟨rfl, h⟩
    have h' := h.symm
    subst h'
    go_wp2_with fail
    exact bodyPost_ret (v := .bool q) (by simp [results, Tryz.results113, go_sem]) rfl ⟨by simp, bal (bal (brf w) _) _⟩
end Go.Proofs.YtlldfaniddbjaaaGreatDoor
namespace Go.Proofs.YtlldfaniddbjaaaGreatDoor
open Go Go.RowKit Gs
set_option linter.unusedVariables false
set_option linter.unusedSimpArgs false
set_option maxRecDepth 100000
set_option maxHeartbeats 3200000
def plI (x n : Int) : Bool := decide (0 ≤ x) && decide (x < n)
theorem plI_iff {x n : Int} : plI x n = true ↔ 0 ≤ x ∧ x < n := by unfold plI; simp
theorem there_form (W H T : Nat) (x y d t : Int) : thereB W H T x y d t = (plI y H && (plI d 4 && (plI t T && (if d = 0 then decide (x = -1) || plI x W else plI x W && (plI (endX x d) W && plI (endY y d) H))))) := by
  rw [Bool.eq_iff_iff]
  constructor
  · intro h
    obtain ⟨hy, ht, hx, hd, h0, h1, h2, h3⟩ := there_parts h
    rw [Bool.and_eq_true, Bool.and_eq_true, Bool.and_eq_true, plI_iff, plI_iff, plI_iff]
    refine ⟨by omega, by omega, by omega, ?_⟩
    by_cases e : d = 0
    · rw [if_pos e, Bool.or_eq_true, decide_eq_true_eq, plI_iff]; omega
    · rw [if_neg e, Bool.and_eq_true, Bool.and_eq_true, plI_iff, plI_iff, plI_iff]
      unfold endX endY
      have : d = 1 ∨ d = 2 ∨ d = 3 := by omega
      rcases this with rfl | rfl | rfl <;> simp <;> omega
  · intro h
    rw [Bool.and_eq_true, Bool.and_eq_true, Bool.and_eq_true, plI_iff, plI_iff, plI_iff] at h
    obtain ⟨hy, hd, ht, h⟩ := h
    unfold thereB
    rw [if_neg (by omega), if_neg (by omega), if_neg (by omega), if_neg (by omega)]
    by_cases e : d = 0
    · rw [if_pos e, Bool.or_eq_true, decide_eq_true_eq, plI_iff] at h
      rw [if_neg (by omega), if_pos e, decide_eq_true_eq]; omega
    · rw [if_neg e, Bool.and_eq_true, Bool.and_eq_true, plI_iff, plI_iff, plI_iff] at h
      obtain ⟨hx, h1, h2⟩ := h
      rw [if_neg (by omega)]
      unfold endX at h1
      unfold endY at h2
      have : d = 1 ∨ d = 2 ∨ d = 3 := by omega
      rcases this with rfl | rfl | rfl <;> simp at h1 h2 ⊢ <;> omega
end Go.Proofs.YtlldfaniddbjaaaGreatDoor
