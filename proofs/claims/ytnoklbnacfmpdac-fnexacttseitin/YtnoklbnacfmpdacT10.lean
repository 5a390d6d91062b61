/- The program's Tseitin. -/
import Derived.Test.YtnoklbnacfmpdacTa
namespace Go.Proofs.Ytnoklbnacfmpdac
open Go Go.RowKit Gs
set_option linter.unusedVariables false
set_option linter.unusedSimpArgs false
set_option maxRecDepth 100000
attribute [local go_sem] Oper.semAt_some
theorem frz_new (X : World) (o : Array Value) (t : TypeId) : (X.alloc (.cells o t)).frozen? ⟨X.heap.size, 0, none⟩ = false := by simp
set_option maxHeartbeats 32000000 in
theorem iTsGood (s0 s1 s2 s3 s4 s5 : Option Addr) (l0 l1 l2 l4 l5 c0 c1 c2 c3 c4 c5 : Nat) (xs : List AndG) (lit : Int) (FA : Nat) (w : World) (hl0 : l0 ≤ 1048576) (hl2 : l2 ≤ 1048576) (hl3 : xs.length ≤ 8192) (h3 : RS 2 RAndG w 0 xs (.slice s3 xs.length c3)) (hF : FA = 1 + l0 + l2) (hFb : FA ≤ 4096) (hao : AO FA xs) (hz0 : 0 ≤ lit) (hz1 : lit < 2 * ((FA + xs.length : Nat) : Int))
    (hOK : ∀ V, Below w.heap.size w V → Calls Try.prog 26 #[.agg #[.slice s0 l0 c0, .slice s1 l1 c1, .slice s2 l2 c2, .slice s3 xs.length c3, .slice s4 l4 c4, .slice s5 l5 c5]] V fun e w' => e = .returned (.bool true) ∧ Below V.heap.size V w') (hLit : litB lit (FA + xs.length) = true) :
    Calls Try.prog 7 #[.agg #[.slice s0 l0 c0, .slice s1 l1 c1, .slice s2 l2 c2, .slice s3 xs.length c3, .slice s4 l4 c4, .slice s5 l5 c5], .int .i64 lit] w fun e w' => ((decide (2048 < ((FA + xs.length : Nat) : Int)) || decide (8192 < ((tsC FA xs lit).length : Int))) = true → e = .returned (.tuple #[.int .i64 0, .slice none 0 0, .int .i64 10])) ∧ ((decide (2048 < ((FA + xs.length : Nat) : Int)) || decide (8192 < ((tsC FA xs lit).length : Int))) = false → ∃ v E, e = .returned (.tuple #[.int .i64 ((FA + xs.length : Nat) : Int), v, .int .i64 0]) ∧ CP w.heap.size E w' v (tsC FA xs lit)) ∧ Below w.heap.size w w' := by
  have HCS := hide (AndAt.of h3).2
  have HAO := hide hao
  have HOK := hide hOK
  obtain ⟨N, hN⟩ : ∃ N : Nat, N = FA + xs.length := ⟨_, rfl⟩
  have hN4 : N ≤ 12288 := by omega
  have HLI := hide (fun V : World => iLit lit N V (by omega))
  rw [hN, hLit] at HLI
  rw [← hN] at HLI
  have HFI := hide (fun V : World => iFirst s0 s2 l0 l2 c0 c2 (.slice s1 l1 c1) (.slice s3 xs.length c3) (.slice s4 l4 c4) (.slice s5 l5 c5) V hl0 hl2)
  rw [← hF] at HFI
  have HCN := hide (fun (V : World) (hb : Below w.heap.size w V) (lv : Value) (hls : RS 1 RInt V 0 [lit] lv) => iCone s0 s1 s2 s3 s4 s5 l0 l1 l2 l4 l5 c0 c1 c2 c3 c4 c5 xs [lit] lv FA V hl0 hl2 hl3 (h3.later (by intro W W' B x u h hr; exact hr) hb) hF hFb hao hls (by simp) (by intro l hl; simp at hl; subst hl; exact ⟨hz0, hz1⟩))
  have HTL := hide (tsC_len FA xs lit)
  have HCL := hide (coneB_len FA xs lit)
  rw [← hN] at HCN HCL hz1 ⊢
  have hsum : (FA : Int) + (xs.length : Int) = (N : Int) := by omega
  have HNE := hide hN
  obtain ⟨ns, hns⟩ : ∃ ns, ns = coneB FA xs lit := ⟨_, rfl⟩
  simp only [coneL_one] at HCN
  rw [← hns] at HCN HCL
  have HTC : Hid (tsC FA xs lit = clsL FA xs (needL FA ns xs.length) ++ [[clL lit]]) := hide (by rw [hns]; rfl)
  have hzl : lit ≤ 8388606 := by omega
  have HL0 := hide (fun V : World => iLit13 0 V (Int.le_refl _) (by omega))
  rw [show clL 0 = 1 from rfl] at HL0
  clear h3 hao hOK hLit hF hN hns
  generalize tsC FA xs lit = TC at *
  have hneg : (!true) = false := rfl
  refine (callsIn_wide (n := 6)).1 ?_
  refine callsIn_of_wp_marks Try.func7 rfl trivial ?_ rfl
  refine wpIn_wide.2 ?_
  simp only [Try.ntmps7, List.size_toArray, List.length_cons, List.length_nil, Nat.reduceAdd, Nat.reduceSub, Array.replicate_succ, Array.replicate_zero, List.push_toArray, List.append_toArray, List.nil_append, List.cons_append]
  go_wp2_with fail
  refine (unhide HOK _ (bal (brf w) _)).mono ?_
  rintro e W1 ⟨rfl, hb1⟩
  have HX1 : Hid (B6 36 w (.slice s0 l0 c0) (.slice s1 l1 c1) (.slice s2 l2 c2) (.slice s3 xs.length c3) (.slice s4 l4 c4) (.slice s5 l5 c5) W1) := hide hb1
  clear hb1 HOK
  obtain ⟨q0, q1, q2, q3, q4, q5⟩ := (unhide HX1).get
  go_wp2_with fail
  refine (unhide HFI _).mono ?_
  rintro e W2 ⟨rfl, hb2⟩
  have HX2 := hide ((unhide HX1).then hb2)
  clear hb2 HFI HX1 q0 q1 q2 q3 q4 q5
  have HX3 := hide ((unhide HX2).then (bal (brf W2) (.cells #[.int .i64 (FA : Int)] 3)))
  obtain ⟨q0, q1, q2, q3, q4, q5⟩ := (unhide HX3).get
  go_wp2_with fail
  refine (unhide HLI _).mono ?_
  rintro e W3 ⟨rfl, hw3⟩
  have hw3' := hw3.symm
  subst hw3'
  go_wp2_with fail
  refine (unhide HL0 _).mono ?_
  rintro e W4 ⟨rfl, hw4⟩
  have hw4' := hw4.symm
  subst hw4'
  obtain ⟨b7, hb7⟩ : ∃ b, b = W2.heap.size := ⟨_, rfl⟩
  obtain ⟨V5, hV5⟩ : ∃ V, V = (((W2.alloc (.cells #[.int .i64 (FA : Int)] 3)).alloc (.cells #[.int .i64 (-1)] 3)).alloc (.cells #[.slice (some ⟨W2.heap.size + 1, 0, none⟩) 1 1] 51)).alloc (.cells #[.slice (some ⟨W2.heap.size + 1 + 1, 0, none⟩) 1 1] 29) := ⟨_, rfl⟩
  have HX5 : Hid (B6 36 w (.slice s0 l0 c0) (.slice s1 l1 c1) (.slice s2 l2 c2) (.slice s3 xs.length c3) (.slice s4 l4 c4) (.slice s5 l5 c5) V5) := hide (by rw [hV5]; exact (unhide HX3).then (bal (bal (bal (brf _) _) _) _))
  clear q0 q1 q2 q3 q4 q5
  obtain ⟨q0, q1, q2, q3, q4, q5⟩ := (unhide HX5).get
  have HX6 := hide ((unhide HX5).then (bal (brf V5) (.cells #[.int .i64 lit] 3)))
  obtain ⟨p0, p1, p2, p3, p4, p5⟩ := (unhide HX6).get
  have hs5 : V5.heap.size = b7 + 1 + 1 + 1 + 1 := by rw [hV5, hb7]; simp
  have e9 : V5.cell? ⟨b7 + 1 + 1 + 1, 0, none⟩ = some (.slice (some ⟨b7 + 1 + 1, 0, none⟩) 1 1) := by
    have e : (((W2.alloc (.cells #[.int .i64 (FA : Int)] 3)).alloc (.cells #[.int .i64 (-1)] 3)).alloc (.cells #[.slice (some ⟨W2.heap.size + 1, 0, none⟩) 1 1] 51)).heap.size = b7 + 1 + 1 + 1 := by rw [hb7]; simp
    rw [hV5, ← e, World.cell?_alloc_new, hb7]; rfl
  have HT : Hid (TB V5 b7 3 ∧ TB V5 (b7 + 1 + 1 + 1) 29 ∧ V5.cell? ⟨b7, 0, none⟩ = some (.int .i64 (FA : Int)) ∧ V5.frozen? ⟨b7 + 1 + 1 + 1, 0, none⟩ = false ∧ CP w.heap.size (b7 + 1 + 1) V5 (.slice (some ⟨b7 + 1 + 1, 0, none⟩) 1 1) (clsL FA xs [])) := hide (by
    have s1 : (W2.alloc (.cells #[.int .i64 (FA : Int)] 3)).heap.size = b7 + 1 := by rw [hb7]; simp
    have s3 : (((W2.alloc (.cells #[.int .i64 (FA : Int)] 3)).alloc (.cells #[.int .i64 (-1)] 3)).alloc (.cells #[.slice (some ⟨W2.heap.size + 1, 0, none⟩) 1 1] 51)).heap.size = b7 + 1 + 1 + 1 := by rw [hb7]; simp
    have hcp := CP_start (W2.alloc (.cells #[.int .i64 (FA : Int)] 3)) [-1] (B := w.heap.size) (by have := (unhide HX2).below.size; rw [World.size_alloc]; omega)
    rw [s1] at hcp
    refine ⟨?_, ?_, ?_, ?_, ?_⟩
    · rw [hV5, hb7]; exact (TB_new W2 _ 3).later (bal (bal (bal (brf _) _) _) _)
    · rw [hV5, ← s3]; exact TB_new _ _ 29
    · rw [hV5]; exact cell_later (bal (bal (bal (brf _) _) _) _) (by rw [hb7, World.cell?_alloc_new]; rfl)
    · rw [hV5, ← s3]; exact frz_new _ _ 29
    · rw [hV5, ← hb7]; exact hcp.later (bal (brf _) _))
  have hbb : w.heap.size ≤ b7 := by rw [hb7]; exact (unhide HX2).below.size
  have HLV : Hid (RS 1 RInt (V5.alloc (.cells #[.int .i64 lit] 3)) 0 [lit] (.slice (some ⟨V5.heap.size, 0, none⟩) 1 1)) := hide (iC_read (x := [lit]) (heap_new V5 _) (Nat.zero_le _) (by unfold maxLen; simp))
  have HC6 := hide (unhide HCN _ (unhide HX6).below _ (unhide HLV))
  rw [hs5] at HC6
  rw [hV5] at q0 q1 q2 q3 q4 q5 HC6
  rw [hb7] at HC6
  go_wp2_with fail
  refine (unhide HC6).mono ?_
  rintro e W7 ⟨⟨b, b2, b3, g, rfl, d1, d2, d3, d4, d5, d6, d7, d8⟩, hb7'⟩
  have HTS : Hid (TS w b7 b b2 b3 g (b7 + 1 + 1 + 1) s3 xs c3 FA N ns (clsL FA xs []) W7) := hide (by
    obtain ⟨t1, t2, t3, t4, t5⟩ := unhide HT
    have hbe : Below V5.heap.size V5 W7 := btr (bal (brf V5) (.cells #[.int .i64 lit] 3)) (by rw [hV5]; exact hb7')
    exact ⟨⟨btr (unhide HX5).below hbe, by omega, cell_later hbe t3, d1, d2, d3, d4, ⟨t1.later hbe, d5, d6, d7, d8, t2.later hbe⟩, frozen_later hbe e9 t4⟩, _, _, cell_later hbe e9, t5.later hbe⟩)
  clear hb7' d1 d2 d3 d4 d5 d6 d7 d8 HC6 HT HX6 HLV q0 q1 q2 q3 q4 q5 p0 p1 p2 p3 p4 p5 HCN e9 hs5 hV5 HX5 HX3 HL0 HLI
  go_wp2_with fail
  rw [← hb7]
  clear hb7 HX2
  have hst0 := unhide HTS
  have hlen0 := hst0.1.below.size
  refine (wpIn_wide (n := 6)).1 ?_
  refine wpIn_rangeC (gf := 57) (cs := #[.pointer (some ⟨b, 0, none⟩), .pointer (some ⟨b2, 0, none⟩), .pointer (some ⟨b3, 0, none⟩)]) rfl (by omega) rfl trivial (enters_of Try.func57 (by kernel_rfl) rfl) (iConeSeq 5 b b2 b3 g c3 FA N s3 xs ns hl3 hFb (unhide HCL) (unhide HNE) (by omega) _)
    (fun pre V => TS w b7 b b2 b3 g (b7 + 1 + 1 + 1) s3 xs c3 FA N ns (clsL FA xs pre) V)
    (fun pre V => False)
    (fun s W X h k => h.near k hlen0)
    (fun s W X h k => h)
    (fun s W h => ⟨h.1.cb, h.1.cb2, h.1.cb3, h.1.nb, (unhide HCS).later h.1.below⟩)
    hst0
    (fun x h => { tmps := #[.agg #[.slice s0 l0 c0, .slice s1 l1 c1, .slice s2 l2 c2, .slice s3 xs.length c3, .slice s4 l4 c4, .slice s5 l5 c5], .int .i64 lit, .pointer (some ⟨w.heap.size, 0, none⟩), undef, .int .i64 0, .slice none 0 0, .int .i64 0, .pointer (some ⟨b7, 0, none⟩), .int .i64 (N : Int), .pointer (some ⟨b7 + 1 + 1 + 1, 0, none⟩), .int .i64 (x : Int), .pointer (some ⟨h, 0, none⟩), undef, .agg #[.slice s0 l0 c0, .slice s1 l1 c1, .slice s2 l2 c2, .slice s3 xs.length c3, .slice s4 l4 c4, .slice s5 l5 c5], .bool true, .bool false, .agg #[.slice s0 l0 c0, .slice s1 l1 c1, .slice s2 l2 c2, .slice s3 xs.length c3, .slice s4 l4 c4, .slice s5 l5 c5], .int .i64 (FA : Int), .int .i64 (FA : Int), .pointer (some ⟨w.heap.size, 3, none⟩), .slice s3 xs.length c3, .int .i64 (xs.length : Int), .int .i64 (N : Int), .int .i64 lit, .int .i64 (N : Int), .bool true, .bool false, .int .i64 1, .int .i64 (-1), .slice (some ⟨b7 + 1, 0, none⟩) 1 1, .slice (some ⟨b7 + 1 + 1, 0, none⟩) 1 1, .agg #[.slice s0 l0 c0, .slice s1 l1 c1, .slice s2 l2 c2, .slice s3 xs.length c3, .slice s4 l4 c4, .slice s5 l5 c5], .int .i64 lit, .slice (some ⟨b7 + 1 + 1 + 1 + 1, 0, none⟩) 1 1, .func (.func 57) #[] #[.pointer (some ⟨b, 0, none⟩), .pointer (some ⟨b2, 0, none⟩), .pointer (some ⟨b3, 0, none⟩)], .int .i64 (x : Int), enA xs x, undef, undef, undef, undef, undef, undef, undef, undef, undef, undef, undef, undef, undef, undef, undef, undef, undef, undef, undef, undef, undef, undef, undef, undef, undef, undef, undef, undef, undef, undef], defers := [] })
    (fun pre x h V => TS w b7 b b2 b3 g (b7 + 1 + 1 + 1) s3 xs c3 FA N ns (clsL FA xs pre) V ∧ ∀ y, xs[x]? = some y → V.cell? ⟨h, 0, none⟩ = some (.int .i64 y.a) ∧ V.cell? ⟨h, 1, none⟩ = some (.int .i64 y.b))
    (fun s x h W X hh k => ⟨hh.1.near k hlen0, fun y hy => ⟨k.cell (hh.2 y hy).1, k.cell (hh.2 y hy).2⟩⟩)
    ?assign ?body ?done ?stop
  case assign =>
    intro l pre x W K hi hY hK
    have hxl : x < xs.length := hY.1
    have hx : xs[x]? = some xs[x] := List.getElem?_eq_getElem hxl
    generalize xs[x] = y at hx
    have hk2 := hK W.heap.size (W.alloc (.cells #[.int .i64 y.a, .int .i64 y.b] 54)) (bal (brf W) _) ⟨hi.later (bal (brf W) _), fun y' hy' => by
      rw [hx] at hy'; cases hy'
      exact ⟨by rw [World.cell?_alloc_new]; rfl, by rw [World.cell?_alloc_new]; rfl⟩⟩
    rw [enA_some hx] at hk2 ⊢
    unfold enI
    clear hK hi
    gi_wp2
    exact hk2
  case body =>
    rintro l pre x h V1 ⟨hts, hcl⟩ ⟨hxl, hnx, hpre⟩
    have hx : xs[x]? = some xs[x] := List.getElem?_eq_getElem hxl
    generalize xs[x] = y at hx
    obtain ⟨z0, z1⟩ := hcl y hx
    obtain ⟨ha1, ha2, hb1, hb2⟩ := unhide HAO x y hx
    obtain ⟨hst, v, E, hc9, hcp⟩ := hts
    obtain ⟨va, vc, rfl⟩ := hcp.shape
    have hlen := clsL_len FA xs pre
    have hpl : pre.length ≤ x := by rw [hpre]; exact needL_len FA ns x
    have c7 := hst.c7
    obtain ⟨m, hm⟩ : ∃ m : Nat, m = FA + x := ⟨_, rfl⟩
    have hsumk : (FA : Int) + (x : Int) = (m : Int) := by omega
    have HLM := hide (fun V : World => iLit13 (2 * (m : Int)) V (by omega) (by omega))
    have hclm : clL (2 * (m : Int)) = (m : Int) + 1 := by unfold clL; rw [if_neg (by omega)]; omega
    rw [hclm] at HLM
    have HSTP : Hid (clsL FA xs (pre ++ [x]) = clsL FA xs pre ++ andC ((m : Int) + 1) (clL y.a) (clL y.b)) := hide (by rw [clsL_step, clsA_some hx, hm])
    have HST := hide hst
    have HC9 := hide hc9
    have HCP := hide hcp
    have HLEN := hide (show (clsL FA xs pre).length ≤ 24577 by omega)
    have HZ0 := hide z0
    have HZ1 := hide z1
    have hm3 : m ≤ 12288 := by omega
    have hya : 0 ≤ y.a ∧ y.a ≤ 8388606 := ⟨ha1, by omega⟩
    have hyb : 0 ≤ y.b ∧ y.b ≤ 8388606 := ⟨hb1, by omega⟩
    clear hst hc9 hcp z0 z1 hcl HAO HCS hx hnx hpre hlen hpl hclm hm ha1 ha2 hb1 hb2 hst0 HTS HTC hsum HNE HTL HCL hxl
    generalize enA xs x = ex at *
    generalize y.a = za at *
    generalize y.b = zb at *
    gi_wp2
    refine ⟨trivial, ?_⟩
    refine (CallsIn.inRound l (callsIn_wide.2 (unhide HLM _))).mono ?_
    rintro e V3 ⟨rfl, hw3⟩
    have hw3' := hw3.symm
    subst hw3'
    clear HLM
    gi_wp2
    refine ts12 l _ w b7 b b2 b3 g (b7 + 1 + 1 + 1) s3 xs c3 FA N ns (clsL FA xs pre) V1 va vc E h W7.heap.size ((m : Int) + 1) za zb HST HC9 HCP HLEN HZ0 HZ1 (by omega) hya hyb _ rfl rfl rfl rfl _ ?_
    intro a V hnt hdf hkeep hTS hKF
    rw [← unhide HSTP] at hTS
    exact ⟨hKF, hTS⟩
  case done =>
    rintro D ys V1 hD hS hts hK
    subst hS
    obtain ⟨hst, v, E, hc9, hcp⟩ := hts
    obtain ⟨va, vc, rfl⟩ := hcp.shape
    have hnl2 := needL_len FA ns xs.length
    have hlen := clsL_len FA xs (needL FA ns xs.length)
    have HST := hide hst
    have HC9 := hide hc9
    have HCP := hide hcp
    have HLEN := hide (show (clsL FA xs (needL FA ns xs.length)).length ≤ 24577 by omega)
    clear hst hc9 hcp HAO HCS hst0 HTS hnl2 hlen
    go_wp2_with fail
    refine ts13 w b7 b b2 b3 g (b7 + 1 + 1 + 1) s3 xs c3 FA N ns (clsL FA xs (needL FA ns xs.length)) V1 va vc E W7.heap.size lit HST HC9 HCP HLEN ⟨hz0, hzl⟩ _ rfl rfl rfl _ ?_
    intro a V hnt hdf hkeep hTS hKF
    obtain ⟨us, rfl, hus⟩ := putAll_of [52, 53, 54, 55, 56, 57] hnt hdf hkeep
    clear hnt hdf hkeep hus
    simp only [putAll, List.foldl, Act.put, List.setIfInBounds_toArray, List.set_cons_zero, List.set_cons_succ]
    generalize us 52 = z52 at *
    generalize us 53 = z53 at *
    generalize us 54 = z54 at *
    generalize us 55 = z55 at *
    generalize us 56 = z56 at *
    generalize us 57 = z57 at *
    rw [← unhide HTC] at hTS
    have hKD := hKF.same D _ hD hK rfl
    obtain ⟨hst, v, E2, hc9, hcp⟩ := hTS
    obtain ⟨va2, vc2, rfl⟩ := hcp.shape
    have hn : Near W7.heap.size V (V.putObj D (.deferred none)) := .turn _ hD hKD rfl
    have HCPE := hide (hcp.near hn)
    have HBE := hide (hst.below.trans (hn.under hlen0 hst.below.size))
    have hKD2 : V.drew.heap[D]? = some (.deferred (some [])) := hKD
    have hn2 : Near W7.heap.size V.drew (V.drew.putObj D (.deferred none)) := .turn _ hD hKD2 rfl
    have HCPE2 := hide ((hcp.later (bdr (brf V))).near hn2)
    have HBE2 := hide ((hst.later (bdr (brf V))).below.trans (hn2.under hlen0 (hst.later (bdr (brf V))).below.size))
    have htl := unhide HTL
    clear HST HC9 HCP HLEN hst hcp hK hKF hn hn2
    generalize hTL : TC.length = tl at *
    by_cases hm1 : 2048 < (N : Int)
    · go_wp2
      refine ⟨by simp, .inl ⟨_, _, rfl, run_takeDeferred hKD, ?_⟩⟩
      refine ⟨.tuple #[.int .i64 0, .slice none 0 0, .int .i64 10], by simp [results, Try.results7, go_sem], fun _ => rfl, fun h => ?_, unhide HBE⟩
      rw [decide_eq_true hm1] at h
      cases h
    · by_cases hm2 : 8192 < (tl : Int)
      · go_wp2
        refine ⟨by simp, .inl ⟨_, _, rfl, run_takeDeferred hKD, ?_⟩⟩
        exact ⟨.tuple #[.int .i64 0, .slice none 0 0, .int .i64 10], by simp [results, Try.results7, go_sem], rfl, unhide HBE⟩
      · have HNO : Hid ((decide (2048 < (N : Int)) || decide (8192 < (tl : Int))) = false) := hide (by rw [decide_eq_false hm1, decide_eq_false hm2]; rfl)
        go_wp2
        go_region
        all_goals
          go_wp2
          refine ⟨by simp, .inl ⟨_, _, rfl, run_takeDeferred hKD2, ?_⟩⟩
          refine ⟨.tuple #[.int .i64 (N : Int), .slice va2 tl vc2, .int .i64 0], by simp [results, Try.results7, go_sem], fun h => ?_, fun _ => ⟨_, E2, rfl, unhide HCPE2⟩, unhide HBE2⟩
          rw [hTL, unhide HNO] at h
          cases h
  case stop =>
    rintro D ps V1 hD hS hno hK
    exact hno.elim
end Go.Proofs.Ytnoklbnacfmpdac
