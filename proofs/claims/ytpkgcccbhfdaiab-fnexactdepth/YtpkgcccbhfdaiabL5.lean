/- The specification's levels. -/
import Derived.Test.YtpkgcccbhfdaiabL4
namespace Go.Proofs.Ytpkgcccbhfdaiab
open Go Go.RowKit Gs
set_option linter.unusedVariables false
set_option linter.unusedSimpArgs false
set_option maxRecDepth 100000
theorem OI.some {B : Nat} {v : Value} {xs : List Int} {W : World} (h : OI B W v xs) (hne : 0 < xs.length) : ∃ g c, v = .slice (some ⟨g, 0, none⟩) xs.length c ∧ ∀ (i : Nat) y, xs[i]? = some y → W.cell? ⟨g, i, none⟩ = some (.int .i64 y) := by
  have hc := fun g hg => World.ownsRow.cells h (g := g) hg
  rcases h.2 with ⟨rfl, hn⟩ | ⟨g, cap, cur, rfl, hb, hg, hlc, hm, _⟩
  · omega
  · refine ⟨g, cap, rfl, fun i y hy => ?_⟩
    have := hc g rfl i (.int .i64 y) (by rw [List.getElem?_map, hy]; rfl)
    rw [Addr.add_lit] at this
    simpa using this
theorem lvl_at {vs : List Int} {z : Int} (h0 : 0 ≤ z) (hz : z < 2 * (vs.length : Int)) : ∃ p : Nat, Int.tdiv z 2 = (p : Int) ∧ p < vs.length ∧ vs[p]? = some (lvl vs z) := by
  obtain ⟨m, rfl⟩ : ∃ m : Nat, z = m := ⟨z.toNat, by omega⟩
  have hlt : m / 2 < vs.length := by omega
  refine ⟨m / 2, by rw [Int.tdiv_eq_ediv_of_nonneg (by omega)]; omega, hlt, ?_⟩
  unfold lvl
  rw [show ((m : Int) / 2).toNat = m / 2 by omega, List.getD_eq_getElem?_getD, List.getElem?_eq_getElem hlt]; rfl
set_option maxHeartbeats 16000000 in
theorem sLevels (s0 s1 s2 s3 s4 s5 : Option Addr) (l0 l1 l2 l3 l4 l5 c0 c1 c2 c3 c4 c5 : Nat) (xs : List AndG) (w : World) (hl0 : l0 ≤ 1048576) (hl2 : l2 ≤ 1048576) (hl3 : xs.length ≤ 1048576) (h3 : RS 2 RAndG w 0 xs (.slice s3 l3 c3)) (hao : AO (1 + l0 + l2) xs) :
    Calls Try.prog 14 #[.agg #[.slice s0 l0 c0, .slice s1 l1 c1, .slice s2 l2 c2, .slice s3 l3 c3, .slice s4 l4 c4, .slice s5 l5 c5]] w fun e w' => (∃ v, e = .returned v ∧ OI w.heap.size w' v (levsV (zerosV (1 + l0 + l2)) xs)) ∧ Below w.heap.size w w' := by
  obtain ⟨W, hW⟩ : ∃ W, W = w.alloc (.cells #[.slice s0 l0 c0, .slice s1 l1 c1, .slice s2 l2 c2, .slice s3 l3 c3, .slice s4 l4 c4, .slice s5 l5 c5] 34) := ⟨_, rfl⟩
  have HW : Hid (Below w.heap.size w W) := hide (by rw [hW]; exact bal (brf w) _)
  have HC3 : Hid (∀ V, Below W.heap.size W V → V.cell? ⟨w.heap.size, 3, none⟩ = some (.slice s3 l3 c3)) := hide (fun V hb => cell_later hb (by rw [hW, World.cell?_alloc_new]; rfl))
  obtain ⟨FA, hFA⟩ : ∃ FA : Nat, FA = 1 + l0 + l2 := ⟨_, rfl⟩
  have hFb : FA ≤ 2097153 := by omega
  have hF1 : 1 ≤ FA := by omega
  have hsum : (1 : Int) + (l0 : Int) + (l2 : Int) = (FA : Int) := by omega
  rw [← hFA] at hao ⊢
  have HAO := hide hao
  obtain ⟨hlen, HCS⟩ : l3 = xs.length ∧ Hid (∀ (i : Nat) x, xs[i]? = some x → ∃ b o, s3 = some ⟨b, o, none⟩ ∧ w.cell? ⟨b, o + i * 2, none⟩ = some (.int .i64 x.a) ∧ w.cell? ⟨b, o + i * 2 + 1, none⟩ = some (.int .i64 x.b)) := by
    refine ⟨?_, hide ?_⟩
    · obtain ⟨a, c, hv⟩ := h3.slice
      injection hv
    · intro i x hx
      rcases h3.open with ⟨rfl, _⟩ | ⟨b, o, c', hv, _, _, _, he⟩
      · simp at hx
      · injection hv with e1 e2 e3
        obtain ⟨u, hu, hat, hux⟩ := he i x hx
        subst hux
        exact ⟨b, o, e1, by simpa using hat.get (j := 0) rfl, by simpa using hat.get (j := 1) rfl⟩
  subst hlen
  obtain ⟨M, hM, hmk⟩ := make_ints 43 Try.underlying43 FA (by omega)
  have HW' := hide hW
  have HBD : Hid (∀ k, LBd (0 + ((xs.take k).length : Int)) (levsV (zerosV FA) (xs.take k))) := hide (fun k => LBd.levs _ _ 0 (LBd.zeros FA) (Int.le_refl _))
  have HO0 : Hid (OI W.heap.size (W.alloc (.cells M 3)) (.slice (some ⟨W.heap.size, 0, none⟩) FA FA) (zerosV FA)) := hide (OI_made hM (by omega) (Nat.le_refl _))
  have HSW : Hid (W.heap.size = w.heap.size + 1) := hide (by rw [hW]; simp)
  clear h3 hao hFA hM hW
  go_enter Try.func14, Try.ntmps14
  go_wp2_with fail
  go_loopw [3, 4] (fun v i wr => ∃ k : Nat, k ≤ xs.length ∧ i = .int .i64 k ∧ OI W.heap.size wr v (levsV (zerosV FA) (xs.take k)) ∧ Below W.heap.size W wr) (fun _ i wr => xs.length - (intOf i).toNat)
  case atStart => exact ⟨0, Nat.zero_le _, rfl, by rw [← unhide HW', ← unhide HSW]; exact unhide HO0, by rw [← unhide HW']; exact bal (brf W) _⟩
  case round =>
    obtain ⟨k, hk, rfl, hot, hb⟩ := hrel
    have q3 := unhide HC3 wr hb
    by_cases hlt : k < xs.length
    · have hx : xs[k]? = some xs[k] := List.getElem?_eq_getElem hlt
      generalize xs[k] = x at hx
      obtain ⟨bb, oo, rfl, hc0, hc1⟩ := unhide HCS k x hx
      obtain ⟨ha1, ha2, hb1, hb2⟩ := unhide HAO k x hx
      have hbw := btr (unhide HW) hb
      have HZA := hide (cell_later hbw hc0)
      have HZB := hide (cell_later hbw hc1)
      have hal : (levsV (zerosV FA) (xs.take k)).length = FA + k := by rw [levsV_len, List.length_take]; unfold zerosV; simp; omega
      have hbd := unhide HBD k
      have htk : (0 : Int) + ((xs.take k).length : Int) = k := by rw [List.length_take]; omega
      rw [htk] at hbd
      have HST : Hid (levsV (zerosV FA) (xs.take (k + 1)) = levsV (zerosV FA) (xs.take k) ++ [1 + max (lvl (levsV (zerosV FA) (xs.take k)) x.a) (lvl (levsV (zerosV FA) (xs.take k)) x.b)]) := hide (levsV_step (zerosV FA) hx)
      have HP3 := hide q3
      obtain ⟨tb, tc, rfl, hcl⟩ := hot.some (by omega)
      obtain ⟨pa, hqa, hpa, hga⟩ := lvl_at (vs := levsV (zerosV FA) (xs.take k)) ha1 (by rw [hal]; exact ha2)
      obtain ⟨pc, hqc, hpc, hgc⟩ := lvl_at (vs := levsV (zerosV FA) (xs.take k)) hb1 (by rw [hal]; exact hb2)
      have HLA := hide (hcl pa _ hga)
      have HLB := hide (hcl pc _ hgc)
      have HQA := hide hqa
      have HQB := hide hqc
      have hla := hbd.lvl (by omega) x.a
      have hlb := hbd.lvl (by omega) x.b
      have HOT := hide hot
      have HAL := hide (show (levsV (zerosV FA) (xs.take k)).length ≤ 4194304 by omega)
      have HBw := hide hb
      have HSZ := hide hb.size
      have HPA := hide (And.intro hpa hpc)
      have HTL := hide hal
      clear hot hb hbw hc0 hc1 HCS hx hal hbd htk ha1 ha2 hb1 hb2 HAO hcl hga hgc hqa hqc hpa hpc HO0
      have HL4 := hide (show 0 ≤ lvl (levsV (zerosV FA) (xs.take k)) x.a ∧ 0 ≤ lvl (levsV (zerosV FA) (xs.take k)) x.b ∧ lvl (levsV (zerosV FA) (xs.take k)) x.a ≤ 1048576 ∧ lvl (levsV (zerosV FA) (xs.take k)) x.b ≤ 1048576 by omega)
      clear hla hlb
      generalize x.a = za at *
      generalize x.b = zb at *
      generalize lvl (levsV (zerosV FA) (xs.take k)) za = la at *
      generalize lvl (levsV (zerosV FA) (xs.take k)) zb = lb at *
      generalize levsV (zerosV FA) (xs.take k) = acc at *
      obtain ⟨tl, htl⟩ : ∃ n, n = acc.length := ⟨_, rfl⟩
      rw [← htl] at HOT HPA HTL ⊢
      have HAT := hide (show tl ≤ 4194304 by rw [htl]; exact unhide HAL)
      clear htl
      go_wp2_with fail
      clear q3
      refine levRound HOT HAL HSZ hlt hl3 HP3 HZA HZB HQA HQB (unhide HPA).1 (unhide HPA).2 (unhide HAT) HLA HLB (unhide HL4).1 (unhide HL4).2.1 (unhide HL4).2.2.1 (unhide HL4).2.2.2 _ rfl rfl rfl rfl ?_
      intro a V v hnt hdf hkeep h7 hOI hlow
      obtain ⟨us, rfl, hus⟩ := putAll_of [21, 22, 23, 24, 25, 26, 27, 28, 29, 30, 31, 32, 33, 34, 35, 36, 37, 38, 39, 40, 41, 42, 43, 44, 45, 3] hnt hdf hkeep
      have hu7 : us 3 = v := (hus 3).trans h7
      clear hnt hdf hkeep hus h7
      simp only [putAll, List.foldl, Act.put, List.setIfInBounds_toArray, List.set_cons_zero, List.set_cons_succ, hu7]
      clear hu7
      generalize us 21 = z21 at *
      generalize us 22 = z22 at *
      generalize us 23 = z23 at *
      generalize us 24 = z24 at *
      generalize us 25 = z25 at *
      generalize us 26 = z26 at *
      generalize us 27 = z27 at *
      generalize us 28 = z28 at *
      generalize us 29 = z29 at *
      generalize us 30 = z30 at *
      generalize us 31 = z31 at *
      generalize us 32 = z32 at *
      generalize us 33 = z33 at *
      generalize us 34 = z34 at *
      generalize us 35 = z35 at *
      generalize us 36 = z36 at *
      generalize us 37 = z37 at *
      generalize us 38 = z38 at *
      generalize us 39 = z39 at *
      generalize us 40 = z40 at *
      generalize us 41 = z41 at *
      generalize us 42 = z42 at *
      generalize us 43 = z43 at *
      generalize us 44 = z44 at *
      generalize us 45 = z45 at *
      have HR1 := hide hOI
      have HR2 := hide ((unhide HBw).trans hlow)
      clear hOI hlow
      go_wp2_with fail
      go_roundw
      case rel => exact ⟨k + 1, by omega, by go_num, by rw [unhide HST]; exact unhide HR1, unhide HR2⟩
      case measure => simp [intOf]; omega
    · obtain rfl : k = xs.length := by omega
      rw [List.take_of_length_le (Nat.le_refl _)] at hot
      have HO := hide (hot.low (B' := w.heap.size) (unhide HW).size)
      have HB := hide (btr (unhide HW) hb)
      clear hot hb HCS
      go_wp2_with fail
      exact bodyPost_ret (v := u3) (by simp [results, Try.results14, go_sem]) rfl ⟨⟨_, rfl, unhide HO⟩, unhide HB⟩
end Go.Proofs.Ytpkgcccbhfdaiab
