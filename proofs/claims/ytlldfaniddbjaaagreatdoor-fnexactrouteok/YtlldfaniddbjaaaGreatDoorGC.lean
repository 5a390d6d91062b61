/- endsFit. -/
import Derived.Test.YtlldfaniddbjaaaGreatDoorGPE
import Derived.Test.YtlldfaniddbjaaaGreatDoorGRW2
import Derived.Test.YtlldfaniddbjaaaGreatDoorPI
import Derived.Test.YtlldfaniddbjaaaGreatDoorGGS2
namespace Go.Proofs.YtlldfaniddbjaaaGreatDoor
open Go Go.RowKit Gs
set_option linter.unusedVariables false
set_option linter.unusedSimpArgs false
set_option maxRecDepth 100000
def FEN (s0 s1 s2 s3 s4 : Option Addr) (l0 l1 l2 l3 l4 c0 c1 c2 c3 c4 : Nat) (N M : Nat) (e : Port) : Nat → Value → Prop
  | 0, v => v = .pointer (some ⟨M, 1, none⟩)
  | 1, v => v = .int .i64 e.src
  | 2, v => v = .agg #[.slice s0 l0 c0, .slice s1 l1 c1, .slice s2 l2 c2, .slice s3 l3 c3, .slice s4 l4 c4]
  | 3, v => v = .int .i64 (N : Int)
  | 4, v => v = .bool (decide (0 ≤ e.src) && decide (e.src < (N : Int)))
  | 5, v => v = .bool (!(decide (0 ≤ e.src) && decide (e.src < (N : Int))))
  | _, _ => True
set_option maxHeartbeats 16000000 in
theorem iEndsFit (s0 s1 s2 s3 s4 : Option Addr) (l0 l1 l2 l3 l4 c0 c1 c2 c3 c4 : Nat) (xs3 xs4 : List Port) (w : World) (hl0 : l0 ≤ 1048576) (hl2 : l2 ≤ 1048576) (hl3 : xs3.length ≤ 1048576) (hl4 : xs4.length ≤ 1048576) (h3 : RS 2 RPort w 0 xs3 (.slice s3 l3 c3)) (h4 : RS 2 RPort w 0 xs4 (.slice s4 l4 c4)) :
    Calls Tryz.prog 85 #[.agg #[.slice s0 l0 c0, .slice s1 l1 c1, .slice s2 l2 c2, .slice s3 l3 c3, .slice s4 l4 c4]] w fun e w' => e = .returned (.bool ((xs3 ++ xs4).all (fun p : Port => plB p.src (l0 + l2)))) ∧ Below w.heap.size w w' := by
  have HC1 : Hid (∀ V, Below (w.alloc (.cells #[.slice s0 l0 c0, .slice s1 l1 c1, .slice s2 l2 c2, .slice s3 l3 c3, .slice s4 l4 c4] 37)).heap.size (w.alloc (.cells #[.slice s0 l0 c0, .slice s1 l1 c1, .slice s2 l2 c2, .slice s3 l3 c3, .slice s4 l4 c4] 37)) V → V.cell? ⟨w.heap.size, 0, none⟩ = some (.slice s0 l0 c0) ∧ V.cell? ⟨w.heap.size, 1, none⟩ = some (.slice s1 l1 c1) ∧ V.cell? ⟨w.heap.size, 2, none⟩ = some (.slice s2 l2 c2) ∧ V.cell? ⟨w.heap.size, 3, none⟩ = some (.slice s3 l3 c3) ∧ V.cell? ⟨w.heap.size, 4, none⟩ = some (.slice s4 l4 c4)) := hide (fun V hb => ⟨cell_later hb (by rw [World.cell?_alloc_new]; rfl), cell_later hb (by rw [World.cell?_alloc_new]; rfl), cell_later hb (by rw [World.cell?_alloc_new]; rfl), cell_later hb (by rw [World.cell?_alloc_new]; rfl), cell_later hb (by rw [World.cell?_alloc_new]; rfl)⟩)
  obtain ⟨W, hW⟩ : ∃ W, W = w.alloc (.cells #[.slice s0 l0 c0, .slice s1 l1 c1, .slice s2 l2 c2, .slice s3 l3 c3, .slice s4 l4 c4] 37) := ⟨_, rfl⟩
  have HW : Hid (Below w.heap.size w W) := hide (by rw [hW]; exact bal (brf w) _)
  rw [← hW] at HC1
  obtain ⟨N, hN⟩ : ∃ N : Nat, l0 + l2 = N := ⟨_, rfl⟩
  have HSO : Hid (∀ V : World, Calls Tryz.prog 33 #[.agg #[.slice s0 l0 c0, .slice s1 l1 c1, .slice s2 l2 c2, .slice s3 l3 c3, .slice s4 l4 c4]] V fun e w' => e = .returned (.int .i64 (N : Int)) ∧ Below V.heap.size V w') := hide (fun V => by
    rw [← hN]
    exact iSources s0 s2 l0 l2 c0 c2 _ _ _ V hl0 hl2)
  have HEN := hide (fun (V : World) (hV : Below w.heap.size w V) => iEnds s0 s1 s2 s3 s4 l0 l1 l2 l3 l4 c0 c1 c2 c3 c4 xs3 xs4 V hl3 hl4 (h3.later RPort.keeps hV) (h4.later RPort.keeps hV))
  rw [hN]
  have HLE := hide (show (xs3 ++ xs4).length ≤ 4194304 by simp; omega)
  generalize hes : xs3 ++ xs4 = es at *
  generalize hRR : es.all (fun p : Port => plB p.src N) = RR at *
  have HR := hide hRR
  clear hRR hes h3 h4 hN hl0 hl2 hl3 hl4
  have HW' := hide hW
  go_enter Tryz.func85, Tryz.ntmps85
  go_wp2_with fail
  rw [← unhide HW']
  clear hW
  refine (unhide HEN _ (unhide HW)).mono ?_
  rintro e W1 ⟨⟨v1, rfl, ho⟩, hb1⟩
  have HRS := hide (ho.any (unhide HLE))
  have HB1 : Hid (Below W.heap.size W W1) := hide hb1
  clear ho hb1 HEN
  obtain ⟨a1, d1, rfl⟩ := (unhide HRS).slice
  have HCS : Hid (∀ (k : Nat) e, es[k]? = some e → ∃ b o, a1 = some ⟨b, o, none⟩ ∧ es.length ≤ d1 ∧ W1.cell? ⟨b, o + k * 2, none⟩ = some (.string e.name) ∧ W1.cell? ⟨b, o + k * 2 + 1, none⟩ = some (.int .i64 e.src)) := hide (fun k e hk => by
    rcases (unhide HRS).open with ⟨rfl, _⟩ | ⟨b2, o2, c2', hv, hcc, hnm, _, hcs⟩
    · simp at hk
    injection hv with e1 e2 e3
    obtain ⟨u, hul, hat, hus, hsz⟩ := hcs k e hk
    subst hus
    exact ⟨b2, o2, e1, by omega, hat.get (j := 0) rfl, hat.get (j := 1) rfl⟩)
  obtain ⟨L, hL⟩ : ∃ L, es.length = L := ⟨_, rfl⟩
  have HL := hide hL
  have hLL : L ≤ 4194304 := by have := unhide HLE; omega
  rw [hL] at HCS ⊢
  clear hL HRS HLE
  go_wp2
  go_loopw [8] (fun i wr => ∃ k : Nat, k ≤ L ∧ i = .int .i64 k ∧ (es.take k).all (fun p : Port => plB p.src N) = true ∧ Below W1.heap.size W1 wr) (fun i wr => L - (intOf i).toNat)
  case atStart => exact ⟨0, Nat.zero_le _, rfl, rfl, brf _⟩
  case round =>
    obtain ⟨k, hk, rfl, hall, hbw⟩ := hrel
    have HA := hide hall
    clear hall
    by_cases hlt : k < L
    · have hkl : k < es.length := by have := unhide HL; omega
      have hx : es[k]? = some es[k] := List.getElem?_eq_getElem hkl
      have hmem : es[k] ∈ es := List.getElem_mem hkl
      generalize es[k] = e at hx hmem
      have HST := hide (show (es.take (k + 1)).all (fun p : Port => plB p.src N) = ((es.take k).all (fun p : Port => plB p.src N) && plB e.src N) by rw [List.take_add_one, hx, List.all_append]; simp)
      have HF : Hid (plB e.src N = false → RR = false) := hide (fun h => by rw [← unhide HR, ← Bool.not_eq_true]; intro h2; rw [List.all_eq_true.1 h2 e hmem] at h; cases h)
      obtain ⟨b2, o2, rfl, hcap, z0, z1⟩ := unhide HCS k e hx
      replace z0 := cell_later hbw z0
      replace z1 := cell_later hbw z1
      have i1 : (0 : Int) ≤ (k : Int) := by omega
      have i2 : (k : Int) < (L : Int) := by omega
      obtain ⟨V1, hV1⟩ : ∃ V1, V1 = wr.alloc (.cells #[.string e.name, .int .i64 e.src] 106) := ⟨_, rfl⟩
      have HC2 : Hid (∀ V, Below V1.heap.size V1 V → V.cell? ⟨wr.heap.size, 0, none⟩ = some (.string e.name) ∧ V.cell? ⟨wr.heap.size, 1, none⟩ = some (.int .i64 e.src)) := hide (fun V hb => by
        rw [hV1] at hb
        exact ⟨cell_later hb (by rw [World.cell?_alloc_new]; rfl), cell_later hb (by rw [World.cell?_alloc_new]; rfl)⟩)
      have HB2 : Hid (Below W.heap.size W V1) := hide (by rw [hV1]; exact bal (btr (unhide HB1) hbw) _)
      have HB3 : Hid (Below W1.heap.size W1 V1) := hide (by rw [hV1]; exact bal hbw _)
      have HPL := hide (fun (V : World) => (iPlace e.src N V : Calls _ _ _ _ _).mono (fun e w' h => (⟨h.1, by rw [h.2]; exact brf _⟩ : _ ∧ Below V.heap.size V w')))
      have HV1 := hide hV1
      clear hx hmem hbw hV1 hkl
      go_wp2
      rw [← unhide HV1]
      clear z0 z1
      refine wp_plan (GF (FEN s0 s1 s2 s3 s4 l0 l1 l2 l3 l4 c0 c1 c2 c3 c4 N wr.heap.size e)) (JB V1) (by kernel_rfl) 19 (by kernel_rfl) (by kernel_rfl) ?hj ?hs ?hf
      case hj => exact bdr (brf V1)
      case hs =>
        refine ⟨?_, ?_, ?_, ?_, ?_, ?_, trivial⟩
        · exact st_val rfl (fun l a V hp ha => ⟨.pointer (some ⟨wr.heap.size, 1, none⟩), by
            have x4 := (ev_form a 4).trans (old hp 4 (v := .pointer (some ⟨wr.heap.size, 0, none⟩)) (by kernel_rfl) (by kernel_rfl))
            go_simp, rfl⟩)
        · exact st_val rfl (fun l a V hp ha => ⟨.int .i64 e.src, by
            have x12 := (ev_form a 12).trans (show a.eval (.tmp 12) = .pointer (some ⟨wr.heap.size, 1, none⟩) from kn hp ha 12 0 (by kernel_rfl) (by kernel_rfl))
            obtain ⟨y0, y1⟩ := unhide HC2 V hp.j
            go_simp, rfl⟩)
        · exact st_val rfl (fun l a V hp ha => ⟨.agg #[.slice s0 l0 c0, .slice s1 l1 c1, .slice s2 l2 c2, .slice s3 l3 c3, .slice s4 l4 c4], by
            have x1 := (ev_form a 1).trans (old hp 1 (v := .pointer (some ⟨w.heap.size, 0, none⟩)) (by kernel_rfl) (by kernel_rfl))
            obtain ⟨q0, q1, q2, q3, q4⟩ := unhide HC1 V (btr (unhide HB2) hp.j)
            go_simp, rfl⟩)
        · exact st_call (f := 33) rfl (fun l a V hp ha => ⟨#[.agg #[.slice s0 l0 c0, .slice s1 l1 c1, .slice s2 l2 c2, .slice s3 l3 c3, .slice s4 l4 c4]], by
            have x14 := (ev_form a 14).trans (show a.eval (.tmp 14) = .agg #[.slice s0 l0 c0, .slice s1 l1 c1, .slice s2 l2 c2, .slice s3 l3 c3, .slice s4 l4 c4] from kn hp ha 14 2 (by kernel_rfl) (by kernel_rfl))
            go_simp, (unhide HSO V).mono (by rintro e V1 ⟨rfl, hb⟩; exact ⟨_, rfl, rfl, hb⟩)⟩)
        · exact st_call (f := 56) rfl (fun l a V hp ha => ⟨#[.int .i64 e.src, .int .i64 (N : Int)], by
            have x13 := (ev_form a 13).trans (show a.eval (.tmp 13) = .int .i64 e.src from kn hp ha 13 1 (by kernel_rfl) (by kernel_rfl))
            have x15 := (ev_form a 15).trans (show a.eval (.tmp 15) = .int .i64 (N : Int) from kn hp ha 15 3 (by kernel_rfl) (by kernel_rfl))
            go_simp, (unhide HPL V).mono (by rintro e V1 ⟨rfl, hb⟩; exact ⟨_, rfl, rfl, hb⟩)⟩)
        · exact st_val rfl (fun l a V hp ha => ⟨.bool (!(decide (0 ≤ e.src) && decide (e.src < (N : Int)))), by
            have x16 := (ev_form a 16).trans (show a.eval (.tmp 16) = .bool (decide (0 ≤ e.src) && decide (e.src < (N : Int))) from kn hp ha 16 4 (by kernel_rfl) (by kernel_rfl))
            go_simp, rfl⟩)
      case hf =>
        intro l a V hp hall
        have hv := hp.good 5 _ 17 rfl rfl (hall 5 (by decide))
        have HBV := hide hp.j
        obtain ⟨us, rfl, hus⟩ := putAll_of [12, 13, 14, 15, 16, 17] hp.nt hp.df (fun t ht => hp.keep t (dstIn (by kernel_rfl) ht))
        have hv2 : us 17 = .bool (!plB e.src N) := by rw [hus 17]; exact hv
        clear hp hall hv hus
        simp only [putAll, List.foldl, Act.put, List.setIfInBounds_toArray, List.set_cons_zero, List.set_cons_succ, hv2]
        generalize plB e.src N = p1 at *
        cases p1
        · rw [show (!false) = true from rfl]
          go_wp2
          exact bodyPost_ret (v := .bool false) (by simp [results, Tryz.results85, go_sem]) rfl ⟨by rw [show RR = false from unhide HF (by first | rfl | trivial)], btr (btr (unhide HW) (unhide HB2)) (unhide HBV)⟩
        · rw [show (!true) = false from rfl]
          go_wp2
          go_roundw
          case rel => exact ⟨k + 1, by omega, by go_num, by rw [unhide HST, unhide HA]; rfl, btr (unhide HB3) (unhide HBV)⟩
          case measure => simp [intOf]; omega
    · obtain rfl : k = L := by omega
      have HB := hide (btr (btr (unhide HW) (unhide HB1)) hbw)
      clear hbw HCS
      go_wp2
      refine bodyPost_ret (v := .bool true) (by simp [results, Tryz.results85, go_sem]) rfl ⟨ret_bool ?_, unhide HB⟩
      have h := unhide HA
      rw [List.take_of_length_le (by have := unhide HL; omega)] at h
      rw [← unhide HR, h]
end Go.Proofs.YtlldfaniddbjaaaGreatDoor
namespace Go.Proofs.YtlldfaniddbjaaaGreatDoor
open Go Go.RowKit Gs
set_option linter.unusedVariables false
set_option linter.unusedSimpArgs false
set_option maxRecDepth 100000
/-- What PackOK answers. -/
def packI (a : Packed) : Bool := countsA a && (blocksB a.ins.length a.blocks a.clocks.length && ((a.outs ++ a.checks).all (fun p : Port => plB p.src (a.ins.length + a.blocks.length)) && nms a))
theorem mem_szL {α : Type} {f : α → Nat} {xs : List α} {x : α} (h : x ∈ xs) : f x ≤ szL f xs := by
  rw [szL_sm]
  unfold sm
  have : f x ≤ (xs.map f).sum := by
    induction xs with
    | nil => cases h
    | cons y r ih =>
      rw [List.map_cons, List.sum_cons]
      rcases List.mem_cons.1 h with rfl | h
      · omega
      · have := ih h; omega
  omega
theorem blk_in {m : Packed} (h : szPacked m ≤ 1048576) : ∀ x ∈ m.blocks, x.inp.length ≤ 1048576 := by
  intro x hx
  have h1 := mem_szL (f := szBlock) hx
  have h2 : szBlock x = x.name.size + szL (fun (_ : Int) => 0) x.inp := rfl
  have h4 := szL_sm (fun (_ : Int) => 0) x.inp
  have h3 : szL szBlock m.blocks ≤ szPacked m := by unfold szPacked; omega
  omega
set_option maxHeartbeats 16000000 in
theorem iPackOK (a : Packed) (u : List Value) (w : World) (hl : szPacked a ≤ 1048576) (hr : RPacked w 0 a u) :
    Calls Tryz.prog 53 #[.agg u.toArray] w fun e w' => e = .returned (.bool (packI a)) ∧ Below w.heap.size w w' := by
  have hz : szPacked a = szL (fun (s : ByteArray) => s.size) a.ins + szL (fun (s : ByteArray) => s.size) a.clocks + szL szBlock a.blocks + szL szPort a.outs + szL szPort a.checks := rfl
  have hin := blk_in hl
  have z0 := szL_sm (fun (s : ByteArray) => s.size) a.ins
  have z1 := szL_sm (fun (s : ByteArray) => s.size) a.clocks
  have z2 := szL_sm szBlock a.blocks
  have z4 := szL_sm szPort a.outs
  have z5 := szL_sm szPort a.checks
  have b0 : a.ins.length ≤ 1048576 := by omega
  have b1 : a.clocks.length ≤ 1048576 := by omega
  have b2 : a.blocks.length ≤ 1048576 := by omega
  have b3 : a.outs.length ≤ 1048576 := by omega
  have b4 : a.checks.length ≤ 1048576 := by omega
  clear hz z0 z1 z2 z4 z5 hl
  obtain ⟨v0, v1, v2, v3, v4, rfl, h0, h1, h2, h3, h4⟩ := hr
  obtain ⟨s0, c0, rfl⟩ := h0.slice
  obtain ⟨l0, e0⟩ : ∃ l, a.ins.length = l := ⟨_, rfl⟩
  rw [e0] at h0
  obtain ⟨s1, c1, rfl⟩ := h1.slice
  obtain ⟨l1, e1⟩ : ∃ l, a.clocks.length = l := ⟨_, rfl⟩
  rw [e1] at h1
  obtain ⟨s2, c2, rfl⟩ := h2.slice
  obtain ⟨l2, e2⟩ : ∃ l, a.blocks.length = l := ⟨_, rfl⟩
  rw [e2] at h2
  obtain ⟨s3, c3, rfl⟩ := h3.slice
  obtain ⟨l3, e3⟩ : ∃ l, a.outs.length = l := ⟨_, rfl⟩
  rw [e3] at h3
  obtain ⟨s4, c4, rfl⟩ := h4.slice
  obtain ⟨l4, e4⟩ : ∃ l, a.checks.length = l := ⟨_, rfl⟩
  rw [e4] at h4
  have HCN : Hid (∀ V : World, Below w.heap.size w V → Calls Tryz.prog 83 #[.agg #[.slice s0 l0 c0, .slice s1 l1 c1, .slice s2 l2 c2, .slice s3 l3 c3, .slice s4 l4 c4]] V fun e w' => e = .returned (.bool (countsA a)) ∧ Below V.heap.size V w') := hide (fun V _ => by
    unfold countsA
    rw [e0, e1, e2, e3, e4]
    exact iCounts s0 s1 s2 s3 s4 l0 l1 l2 l3 l4 c0 c1 c2 c3 c4 V (by omega) (by omega) (by omega) (by omega) (by omega))
  have HLI : Hid (∀ V : World, Below w.heap.size w V → Calls Tryz.prog 84 #[.agg #[.slice s0 l0 c0, .slice s1 l1 c1, .slice s2 l2 c2, .slice s3 l3 c3, .slice s4 l4 c4]] V fun e w' => e = .returned (.bool (blocksB a.ins.length a.blocks a.clocks.length)) ∧ Below V.heap.size V w') := hide (fun V hb => by
    rw [e0, e1]
    exact iBlocksFit s0 s1 s2 s3 s4 l0 l1 l2 l3 l4 c0 c1 c2 c3 c4 a.blocks V (by omega) (by omega) b2 hin (h2.later RBlock.keeps hb))
  have HLA : Hid (∀ V : World, Below w.heap.size w V → Calls Tryz.prog 85 #[.agg #[.slice s0 l0 c0, .slice s1 l1 c1, .slice s2 l2 c2, .slice s3 l3 c3, .slice s4 l4 c4]] V fun e w' => e = .returned (.bool ((a.outs ++ a.checks).all (fun p : Port => plB p.src (a.ins.length + a.blocks.length)))) ∧ Below V.heap.size V w') := hide (fun V hb => by
    rw [e0, e2]
    exact iEndsFit s0 s1 s2 s3 s4 l0 l1 l2 l3 l4 c0 c1 c2 c3 c4 a.outs a.checks V (by omega) (by omega) b3 b4 (h3.later RPort.keeps hb) (h4.later RPort.keeps hb))
  have HNL : Hid (∀ V : World, Below w.heap.size w V → Calls Tryz.prog 86 #[.agg #[.slice s0 l0 c0, .slice s1 l1 c1, .slice s2 l2 c2, .slice s3 l3 c3, .slice s4 l4 c4]] V fun e w' => e = .returned (.bool (nms a)) ∧ Below V.heap.size V w') := hide (fun V hb =>
    iNames s0 s1 s2 s3 s4 l0 l1 l2 l3 l4 c0 c1 c2 c3 c4 a V b0 b1 b2 b3 b4 (h0.later RStr.keeps hb) (h1.later RStr.keeps hb) (h2.later RBlock.keeps hb) (h3.later RPort.keeps hb) (h4.later RPort.keeps hb))
  have HD : Hid (packI a = (countsA a && (blocksB a.ins.length a.blocks a.clocks.length && ((a.outs ++ a.checks).all (fun p : Port => plB p.src (a.ins.length + a.blocks.length)) && nms a)))) := hide rfl
  generalize packI a = RR at *
  generalize countsA a = p1 at *
  generalize blocksB a.ins.length a.blocks a.clocks.length = p2 at *
  generalize (a.outs ++ a.checks).all (fun p : Port => plB p.src (a.ins.length + a.blocks.length)) = p3 at *
  generalize nms a = p4 at *
  clear hin h0 h1 h2 h3 h4 b0 b1 b2 b3 b4
  rw [e0, e1, e2, e3, e4]
  clear e0 e1 e2 e3 e4
  have HC1 : Hid (∀ V, Below (w.alloc (.cells #[.slice s0 l0 c0, .slice s1 l1 c1, .slice s2 l2 c2, .slice s3 l3 c3, .slice s4 l4 c4] 37)).heap.size (w.alloc (.cells #[.slice s0 l0 c0, .slice s1 l1 c1, .slice s2 l2 c2, .slice s3 l3 c3, .slice s4 l4 c4] 37)) V → V.cell? ⟨w.heap.size, 0, none⟩ = some (.slice s0 l0 c0) ∧ V.cell? ⟨w.heap.size, 1, none⟩ = some (.slice s1 l1 c1) ∧ V.cell? ⟨w.heap.size, 2, none⟩ = some (.slice s2 l2 c2) ∧ V.cell? ⟨w.heap.size, 3, none⟩ = some (.slice s3 l3 c3) ∧ V.cell? ⟨w.heap.size, 4, none⟩ = some (.slice s4 l4 c4)) := hide (fun V hb => ⟨cell_later hb (by rw [World.cell?_alloc_new]; rfl), cell_later hb (by rw [World.cell?_alloc_new]; rfl), cell_later hb (by rw [World.cell?_alloc_new]; rfl), cell_later hb (by rw [World.cell?_alloc_new]; rfl), cell_later hb (by rw [World.cell?_alloc_new]; rfl)⟩)
  obtain ⟨W, hW⟩ : ∃ W, W = w.alloc (.cells #[.slice s0 l0 c0, .slice s1 l1 c1, .slice s2 l2 c2, .slice s3 l3 c3, .slice s4 l4 c4] 37) := ⟨_, rfl⟩
  have HW : Hid (Below w.heap.size w W) := hide (by rw [hW]; exact bal (brf w) _)
  rw [← hW] at HC1
  have HW' := hide hW
  clear hW
  cases p1
  · go_enter Tryz.func53, Tryz.ntmps53
    go_wp2_with fail
    rw [← unhide HW']
    refine (unhide HCN _ (unhide HW)).mono ?_
    rintro e W1 ⟨rfl, hb⟩
    have B1 : Hid (Below W.heap.size W W1) := hide hb
    clear hb
    obtain ⟨q0, q1, q2, q3, q4⟩ := unhide HC1 W1 (unhide B1)
    go_wp2_with fail
    exact bodyPost_ret (v := .bool false) (by simp [results, Tryz.results53, go_sem]) rfl ⟨by rw [unhide HD]; rfl, btr (unhide HW) (unhide B1)⟩
  · cases p2
    · go_enter Tryz.func53, Tryz.ntmps53
      go_wp2_with fail
      rw [← unhide HW']
      refine (unhide HCN _ (unhide HW)).mono ?_
      rintro e W1 ⟨rfl, hb⟩
      have B1 : Hid (Below W.heap.size W W1) := hide hb
      clear hb
      obtain ⟨q0, q1, q2, q3, q4⟩ := unhide HC1 W1 (unhide B1)
      go_wp2_with fail
      refine (unhide HLI _ (btr (unhide HW) (unhide B1))).mono ?_
      rintro e W2 ⟨rfl, hb⟩
      have B2 : Hid (Below W.heap.size W W2) := hide (btr (unhide B1) hb)
      clear hb q0 q1 q2 q3 q4
      obtain ⟨q0, q1, q2, q3, q4⟩ := unhide HC1 W2 (unhide B2)
      go_wp2_with fail
      exact bodyPost_ret (v := .bool false) (by simp [results, Tryz.results53, go_sem]) rfl ⟨by rw [unhide HD]; rfl, btr (unhide HW) (unhide B2)⟩
    · cases p3
      · go_enter Tryz.func53, Tryz.ntmps53
        go_wp2_with fail
        rw [← unhide HW']
        refine (unhide HCN _ (unhide HW)).mono ?_
        rintro e W1 ⟨rfl, hb⟩
        have B1 : Hid (Below W.heap.size W W1) := hide hb
        clear hb
        obtain ⟨q0, q1, q2, q3, q4⟩ := unhide HC1 W1 (unhide B1)
        go_wp2_with fail
        refine (unhide HLI _ (btr (unhide HW) (unhide B1))).mono ?_
        rintro e W2 ⟨rfl, hb⟩
        have B2 : Hid (Below W.heap.size W W2) := hide (btr (unhide B1) hb)
        clear hb q0 q1 q2 q3 q4
        obtain ⟨q0, q1, q2, q3, q4⟩ := unhide HC1 W2 (unhide B2)
        go_wp2_with fail
        refine (unhide HLA _ (btr (unhide HW) (unhide B2))).mono ?_
        rintro e W3 ⟨rfl, hb⟩
        have B3 : Hid (Below W.heap.size W W3) := hide (btr (unhide B2) hb)
        clear hb q0 q1 q2 q3 q4
        obtain ⟨q0, q1, q2, q3, q4⟩ := unhide HC1 W3 (unhide B3)
        go_wp2_with fail
        exact bodyPost_ret (v := .bool false) (by simp [results, Tryz.results53, go_sem]) rfl ⟨by rw [unhide HD]; rfl, btr (unhide HW) (unhide B3)⟩
      · cases p4
        · go_enter Tryz.func53, Tryz.ntmps53
          go_wp2_with fail
          rw [← unhide HW']
          refine (unhide HCN _ (unhide HW)).mono ?_
          rintro e W1 ⟨rfl, hb⟩
          have B1 : Hid (Below W.heap.size W W1) := hide hb
          clear hb
          obtain ⟨q0, q1, q2, q3, q4⟩ := unhide HC1 W1 (unhide B1)
          go_wp2_with fail
          refine (unhide HLI _ (btr (unhide HW) (unhide B1))).mono ?_
          rintro e W2 ⟨rfl, hb⟩
          have B2 : Hid (Below W.heap.size W W2) := hide (btr (unhide B1) hb)
          clear hb q0 q1 q2 q3 q4
          obtain ⟨q0, q1, q2, q3, q4⟩ := unhide HC1 W2 (unhide B2)
          go_wp2_with fail
          refine (unhide HLA _ (btr (unhide HW) (unhide B2))).mono ?_
          rintro e W3 ⟨rfl, hb⟩
          have B3 : Hid (Below W.heap.size W W3) := hide (btr (unhide B2) hb)
          clear hb q0 q1 q2 q3 q4
          obtain ⟨q0, q1, q2, q3, q4⟩ := unhide HC1 W3 (unhide B3)
          go_wp2_with fail
          refine (unhide HNL _ (btr (unhide HW) (unhide B3))).mono ?_
          rintro e W4 ⟨rfl, hb⟩
          have B4 : Hid (Below W.heap.size W W4) := hide (btr (unhide B3) hb)
          clear hb q0 q1 q2 q3 q4
          obtain ⟨q0, q1, q2, q3, q4⟩ := unhide HC1 W4 (unhide B4)
          go_wp2_with fail
          exact bodyPost_ret (v := .bool false) (by simp [results, Tryz.results53, go_sem]) rfl ⟨by rw [unhide HD]; rfl, btr (unhide HW) (unhide B4)⟩
        · go_enter Tryz.func53, Tryz.ntmps53
          go_wp2_with fail
          rw [← unhide HW']
          refine (unhide HCN _ (unhide HW)).mono ?_
          rintro e W1 ⟨rfl, hb⟩
          have B1 : Hid (Below W.heap.size W W1) := hide hb
          clear hb
          obtain ⟨q0, q1, q2, q3, q4⟩ := unhide HC1 W1 (unhide B1)
          go_wp2_with fail
          refine (unhide HLI _ (btr (unhide HW) (unhide B1))).mono ?_
          rintro e W2 ⟨rfl, hb⟩
          have B2 : Hid (Below W.heap.size W W2) := hide (btr (unhide B1) hb)
          clear hb q0 q1 q2 q3 q4
          obtain ⟨q0, q1, q2, q3, q4⟩ := unhide HC1 W2 (unhide B2)
          go_wp2_with fail
          refine (unhide HLA _ (btr (unhide HW) (unhide B2))).mono ?_
          rintro e W3 ⟨rfl, hb⟩
          have B3 : Hid (Below W.heap.size W W3) := hide (btr (unhide B2) hb)
          clear hb q0 q1 q2 q3 q4
          obtain ⟨q0, q1, q2, q3, q4⟩ := unhide HC1 W3 (unhide B3)
          go_wp2_with fail
          refine (unhide HNL _ (btr (unhide HW) (unhide B3))).mono ?_
          rintro e W4 ⟨rfl, hb⟩
          have B4 : Hid (Below W.heap.size W W4) := hide (btr (unhide B3) hb)
          clear hb q0 q1 q2 q3 q4
          obtain ⟨q0, q1, q2, q3, q4⟩ := unhide HC1 W4 (unhide B4)
          go_wp2_with fail
          exact bodyPost_ret (v := .bool true) (by simp [results, Tryz.results53, go_sem]) rfl ⟨by rw [unhide HD]; rfl, btr (unhide HW) (unhide B4)⟩
end Go.Proofs.YtlldfaniddbjaaaGreatDoor
namespace Go.Proofs.YtlldfaniddbjaaaGreatDoor
open Go Go.RowKit Gs
set_option linter.unusedVariables false
set_option linter.unusedSimpArgs false
set_option maxRecDepth 100000
/-- From 1 on, and not above another one. -/
def upTo (n m : Int) : Bool := decide (1 ≤ n) && decide (n ≤ m)
/-- What ChipOK answers. -/
def chipB (x0 x1 x2 x3 : Int) : Bool := upTo x0 8 && (upTo x1 8 && (upTo x2 8 && upTo x3 4))
theorem iUpTo (n m : Int) (w : World) : Calls Tryz.prog 87 #[.int .i64 n, .int .i64 m] w fun e w' => e = .returned (.bool (upTo n m)) ∧ w' = w := by
  go_enter Tryz.func87, Tryz.ntmps87
  by_cases h0 : 1 ≤ n
  · go_wp2
    exact bodyPost_ret (v := .bool (decide (n ≤ m))) (by simp [results, Tryz.results87, go_sem]) rfl ⟨by rw [upTo, decide_eq_true h0]; rfl, rfl⟩
  · have h1 : n < 1 := by omega
    go_wp2
    exact bodyPost_ret (v := .bool false) (by simp [results, Tryz.results87, go_sem]) rfl ⟨by rw [upTo, decide_eq_false (by omega)]; rfl, rfl⟩
set_option maxHeartbeats 1600000 in
theorem iChipOK (x0 x1 x2 x3 : Int) (w : World) : Calls Tryz.prog 54 #[.agg #[.int .i64 x0, .int .i64 x1, .int .i64 x2, .int .i64 x3]] w fun e w' => e = .returned (.bool (chipB x0 x1 x2 x3)) ∧ Below w.heap.size w w' := by
  have H0 := hide (fun V => iUpTo x0 8 V)
  have H1 := hide (fun V => iUpTo x1 8 V)
  have H2 := hide (fun V => iUpTo x2 8 V)
  have H3 := hide (fun V => iUpTo x3 4 V)
  have HR : Hid (chipB x0 x1 x2 x3 = (upTo x0 8 && (upTo x1 8 && (upTo x2 8 && upTo x3 4)))) := hide rfl
  generalize chipB x0 x1 x2 x3 = RR at *
  generalize upTo x0 8 = p0 at *
  generalize upTo x1 8 = p1 at *
  generalize upTo x2 8 = p2 at *
  generalize upTo x3 4 = p3 at *
  cases p0
  · go_enter Tryz.func54, Tryz.ntmps54
    go_wp2_with fail
    refine (unhide H0 _).mono ?_
    rintro e W0 ⟨rfl, h⟩
    have h' := h.symm
    subst h'
    go_wp2_with fail
    exact bodyPost_ret (v := .bool false) (by simp [results, Tryz.results54, go_sem]) rfl ⟨by rw [unhide HR]; rfl, bal (brf w) _⟩
  · cases p1
    · go_enter Tryz.func54, Tryz.ntmps54
      go_wp2_with fail
      refine (unhide H0 _).mono ?_
      rintro e W0 ⟨rfl, h⟩
      have h' := h.symm
      subst h'
      go_wp2_with fail
      refine (unhide H1 _).mono ?_
      rintro e W1 ⟨rfl, h⟩
      have h' := h.symm
      subst h'
      go_wp2_with fail
      exact bodyPost_ret (v := .bool false) (by simp [results, Tryz.results54, go_sem]) rfl ⟨by rw [unhide HR]; rfl, bal (brf w) _⟩
    · cases p2
      · go_enter Tryz.func54, Tryz.ntmps54
        go_wp2_with fail
        refine (unhide H0 _).mono ?_
        rintro e W0 ⟨rfl, h⟩
        have h' := h.symm
        subst h'
        go_wp2_with fail
        refine (unhide H1 _).mono ?_
        rintro e W1 ⟨rfl, h⟩
        have h' := h.symm
        subst h'
        go_wp2_with fail
        refine (unhide H2 _).mono ?_
        rintro e W2 ⟨rfl, h⟩
        have h' := h.symm
        subst h'
        go_wp2_with fail
        exact bodyPost_ret (v := .bool false) (by simp [results, Tryz.results54, go_sem]) rfl ⟨by rw [unhide HR]; rfl, bal (brf w) _⟩
      · cases p3
        · go_enter Tryz.func54, Tryz.ntmps54
          go_wp2_with fail
          refine (unhide H0 _).mono ?_
          rintro e W0 ⟨rfl, h⟩
          have h' := h.symm
          subst h'
          go_wp2_with fail
          refine (unhide H1 _).mono ?_
          rintro e W1 ⟨rfl, h⟩
          have h' := h.symm
          subst h'
          go_wp2_with fail
          refine (unhide H2 _).mono ?_
          rintro e W2 ⟨rfl, h⟩
          have h' := h.symm
          subst h'
          go_wp2_with fail
          refine (unhide H3 _).mono ?_
          rintro e W3 ⟨rfl, h⟩
          have h' := h.symm
          subst h'
          go_wp2_with fail
          exact bodyPost_ret (v := .bool false) (by simp [results, Tryz.results54, go_sem]) rfl ⟨by rw [unhide HR]; rfl, bal (brf w) _⟩
        · go_enter Tryz.func54, Tryz.ntmps54
          go_wp2_with fail
          refine (unhide H0 _).mono ?_
          rintro e W0 ⟨rfl, h⟩
          have h' := h.symm
          subst h'
          go_wp2_with fail
          refine (unhide H1 _).mono ?_
          rintro e W1 ⟨rfl, h⟩
          have h' := h.symm
          subst h'
          go_wp2_with fail
          refine (unhide H2 _).mono ?_
          rintro e W2 ⟨rfl, h⟩
          have h' := h.symm
          subst h'
          go_wp2_with fail
          refine (unhide H3 _).mono ?_
          rintro e W3 ⟨rfl, h⟩
          have h' := h.symm
          subst h'
          go_wp2_with fail
          exact bodyPost_ret (v := .bool true) (by simp [results, Tryz.results54, go_sem]) rfl ⟨by rw [unhide HR]; rfl, bal (brf w) _⟩
set_option maxHeartbeats 1600000 in
theorem sChipOK (x0 x1 x2 x3 : Int) (w : World) : Calls Tryz.prog 45 #[.agg #[.int .i64 x0, .int .i64 x1, .int .i64 x2, .int .i64 x3]] w fun e w' => e = .returned (.bool (chipB x0 x1 x2 x3)) ∧ Below w.heap.size w w' := by
  by_cases k0 : 1 ≤ x0
  rotate_left
  · have HF : chipB x0 x1 x2 x3 = false := by simp [chipB, upTo]; omega
    have n0 : x0 < 1 := by omega
    go_enter Tryz.func45, Tryz.ntmps45
    go_wp2
    exact bodyPost_ret (v := .bool false) (by simp [results, Tryz.results45, go_sem]) rfl ⟨rfl, bal (brf w) _⟩
  by_cases k1 : x0 ≤ 8
  rotate_left
  · have HF : chipB x0 x1 x2 x3 = false := by simp [chipB, upTo]; omega
    have n1 : 8 < x0 := by omega
    go_enter Tryz.func45, Tryz.ntmps45
    go_wp2
    exact bodyPost_ret (v := .bool false) (by simp [results, Tryz.results45, go_sem]) rfl ⟨rfl, bal (brf w) _⟩
  by_cases k2 : 1 ≤ x1
  rotate_left
  · have HF : chipB x0 x1 x2 x3 = false := by simp [chipB, upTo]; omega
    have n2 : x1 < 1 := by omega
    go_enter Tryz.func45, Tryz.ntmps45
    go_wp2
    exact bodyPost_ret (v := .bool false) (by simp [results, Tryz.results45, go_sem]) rfl ⟨rfl, bal (brf w) _⟩
  by_cases k3 : x1 ≤ 8
  rotate_left
  · have HF : chipB x0 x1 x2 x3 = false := by simp [chipB, upTo]; omega
    have n3 : 8 < x1 := by omega
    go_enter Tryz.func45, Tryz.ntmps45
    go_wp2
    exact bodyPost_ret (v := .bool false) (by simp [results, Tryz.results45, go_sem]) rfl ⟨rfl, bal (brf w) _⟩
  by_cases k4 : 1 ≤ x2
  rotate_left
  · have HF : chipB x0 x1 x2 x3 = false := by simp [chipB, upTo]; omega
    have n4 : x2 < 1 := by omega
    go_enter Tryz.func45, Tryz.ntmps45
    go_wp2
    exact bodyPost_ret (v := .bool false) (by simp [results, Tryz.results45, go_sem]) rfl ⟨rfl, bal (brf w) _⟩
  by_cases k5 : x2 ≤ 8
  rotate_left
  · have HF : chipB x0 x1 x2 x3 = false := by simp [chipB, upTo]; omega
    have n5 : 8 < x2 := by omega
    go_enter Tryz.func45, Tryz.ntmps45
    go_wp2
    exact bodyPost_ret (v := .bool false) (by simp [results, Tryz.results45, go_sem]) rfl ⟨rfl, bal (brf w) _⟩
  by_cases k6 : 1 ≤ x3
  rotate_left
  · have HF : chipB x0 x1 x2 x3 = false := by simp [chipB, upTo]; omega
    have n6 : x3 < 1 := by omega
    go_enter Tryz.func45, Tryz.ntmps45
    go_wp2
    exact bodyPost_ret (v := .bool false) (by simp [results, Tryz.results45, go_sem]) rfl ⟨rfl, bal (brf w) _⟩
  by_cases k7 : x3 ≤ 4
  rotate_left
  · have HF : chipB x0 x1 x2 x3 = false := by simp [chipB, upTo]; omega
    have n7 : 4 < x3 := by omega
    go_enter Tryz.func45, Tryz.ntmps45
    go_wp2
    exact bodyPost_ret (v := .bool false) (by simp [results, Tryz.results45, go_sem]) rfl ⟨rfl, bal (brf w) _⟩
  have HF : chipB x0 x1 x2 x3 = true := by simp [chipB, upTo]; omega
  go_enter Tryz.func45, Tryz.ntmps45
  go_wp2
  exact bodyPost_ret (v := .bool true) (by simp [results, Tryz.results45, go_sem]) rfl ⟨by rw [HF], bal (brf w) _⟩
set_option maxHeartbeats 1600000 in
theorem toChip_of (x0 x1 x2 x3 : Int) (w : World) : Calls Tryz.prog 8 #[.agg #[.int .i64 x0, .int .i64 x1, .int .i64 x2, .int .i64 x3]] w fun e w' => e = .returned (.agg #[.int .i64 x0, .int .i64 x1, .int .i64 x2, .int .i64 x3]) ∧ Below w.heap.size w w' := by
  go_enter Tryz.func8, Tryz.ntmps8
  go_wp2
  exact bodyPost_ret (v := .agg #[.int .i64 x0, .int .i64 x1, .int .i64 x2, .int .i64 x3]) (by simp [results, Tryz.results8, go_sem]) rfl ⟨rfl, bal (bal (bal (brf w) _) _) _⟩
end Go.Proofs.YtlldfaniddbjaaaGreatDoor
