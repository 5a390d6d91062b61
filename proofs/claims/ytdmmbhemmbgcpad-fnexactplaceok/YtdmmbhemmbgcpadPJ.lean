/- impl.PackOK. -/
import Derived.Test.YtdmmbhemmbgcpadPI
import Derived.Test.YtdmmbhemmbgcpadPF
namespace Go.Proofs.Ytdmmbhemmbgcpad
open Go Go.RowKit Gs
set_option linter.unusedVariables false
set_option linter.unusedSimpArgs false
set_option maxRecDepth 100000
/-- What PackOK answers. -/
def packI (a : Packed) : Bool := countsA a && (blocksB a.ins.length a.blocks a.clocks.length && ((a.outs ++ a.checks).all (fun p : Port => plB p.src (a.ins.length + a.blocks.length)) && nms a))
theorem mem_szL {α : Type} {f : α → Nat} {xs : List α} {x : α} (h : x ∈ xs) : f x ≤ szL f xs := by
  rw [szL_sm]
  unfold sm
  have : f x ≤ (xs.map f).sum := by
    induction xs with
    | nil => cases h
    | cons y r ih =>
      rw [List.map_cons, List.sum_cons]
      rcases List.mem_cons.1 h with rfl | h
      · omega
      · have := ih h; omega
  omega
theorem blk_in {m : Packed} (h : szPacked m ≤ 1048576) : ∀ x ∈ m.blocks, x.inp.length ≤ 1048576 := by
  intro x hx
  have h1 := mem_szL (f := szBlock) hx
  have h2 : szBlock x = x.name.size + szL (fun (_ : Int) => 0) x.inp := rfl
  have h4 := szL_sm (fun (_ : Int) => 0) x.inp
  have h3 : szL szBlock m.blocks ≤ szPacked m := by unfold szPacked; omega
  omega
set_option maxHeartbeats 16000000 in
theorem iPackOK (a : Packed) (u : List Value) (w : World) (hl : szPacked a ≤ 1048576) (hr : RPacked w 0 a u) :
    Calls Try.prog 21 #[.agg u.toArray] w fun e w' => e = .returned (.bool (packI a)) ∧ Below w.heap.size w w' := by
  have hz : szPacked a = szL (fun (s : ByteArray) => s.size) a.ins + szL (fun (s : ByteArray) => s.size) a.clocks + szL szBlock a.blocks + szL szPort a.outs + szL szPort a.checks := rfl
  have hin := blk_in hl
  have z0 := szL_sm (fun (s : ByteArray) => s.size) a.ins
  have z1 := szL_sm (fun (s : ByteArray) => s.size) a.clocks
  have z2 := szL_sm szBlock a.blocks
  have z4 := szL_sm szPort a.outs
  have z5 := szL_sm szPort a.checks
  have b0 : a.ins.length ≤ 1048576 := by omega
  have b1 : a.clocks.length ≤ 1048576 := by omega
  have b2 : a.blocks.length ≤ 1048576 := by omega
  have b3 : a.outs.length ≤ 1048576 := by omega
  have b4 : a.checks.length ≤ 1048576 := by omega
  clear hz z0 z1 z2 z4 z5 hl
  obtain ⟨v0, v1, v2, v3, v4, rfl, h0, h1, h2, h3, h4⟩ := hr
  obtain ⟨s0, c0, rfl⟩ := h0.slice
  obtain ⟨l0, e0⟩ : ∃ l, a.ins.length = l := ⟨_, rfl⟩
  rw [e0] at h0
  obtain ⟨s1, c1, rfl⟩ := h1.slice
  obtain ⟨l1, e1⟩ : ∃ l, a.clocks.length = l := ⟨_, rfl⟩
  rw [e1] at h1
  obtain ⟨s2, c2, rfl⟩ := h2.slice
  obtain ⟨l2, e2⟩ : ∃ l, a.blocks.length = l := ⟨_, rfl⟩
  rw [e2] at h2
  obtain ⟨s3, c3, rfl⟩ := h3.slice
  obtain ⟨l3, e3⟩ : ∃ l, a.outs.length = l := ⟨_, rfl⟩
  rw [e3] at h3
  obtain ⟨s4, c4, rfl⟩ := h4.slice
  obtain ⟨l4, e4⟩ : ∃ l, a.checks.length = l := ⟨_, rfl⟩
  rw [e4] at h4
  have HCN : Hid (∀ V : World, Below w.heap.size w V → Calls Try.prog 37 #[.agg #[.slice s0 l0 c0, .slice s1 l1 c1, .slice s2 l2 c2, .slice s3 l3 c3, .slice s4 l4 c4]] V fun e w' => e = .returned (.bool (countsA a)) ∧ Below V.heap.size V w') := hide (fun V _ => by
    unfold countsA
    rw [e0, e1, e2, e3, e4]
    exact iCounts s0 s1 s2 s3 s4 l0 l1 l2 l3 l4 c0 c1 c2 c3 c4 V (by omega) (by omega) (by omega) (by omega) (by omega))
  have HLI : Hid (∀ V : World, Below w.heap.size w V → Calls Try.prog 38 #[.agg #[.slice s0 l0 c0, .slice s1 l1 c1, .slice s2 l2 c2, .slice s3 l3 c3, .slice s4 l4 c4]] V fun e w' => e = .returned (.bool (blocksB a.ins.length a.blocks a.clocks.length)) ∧ Below V.heap.size V w') := hide (fun V hb => by
    rw [e0, e1]
    exact iBlocksFit s0 s1 s2 s3 s4 l0 l1 l2 l3 l4 c0 c1 c2 c3 c4 a.blocks V (by omega) (by omega) b2 hin (h2.later RBlock.keeps hb))
  have HLA : Hid (∀ V : World, Below w.heap.size w V → Calls Try.prog 39 #[.agg #[.slice s0 l0 c0, .slice s1 l1 c1, .slice s2 l2 c2, .slice s3 l3 c3, .slice s4 l4 c4]] V fun e w' => e = .returned (.bool ((a.outs ++ a.checks).all (fun p : Port => plB p.src (a.ins.length + a.blocks.length)))) ∧ Below V.heap.size V w') := hide (fun V hb => by
    rw [e0, e2]
    exact iEndsFit s0 s1 s2 s3 s4 l0 l1 l2 l3 l4 c0 c1 c2 c3 c4 a.outs a.checks V (by omega) (by omega) b3 b4 (h3.later RPort.keeps hb) (h4.later RPort.keeps hb))
  have HNL : Hid (∀ V : World, Below w.heap.size w V → Calls Try.prog 40 #[.agg #[.slice s0 l0 c0, .slice s1 l1 c1, .slice s2 l2 c2, .slice s3 l3 c3, .slice s4 l4 c4]] V fun e w' => e = .returned (.bool (nms a)) ∧ Below V.heap.size V w') := hide (fun V hb =>
    iNames s0 s1 s2 s3 s4 l0 l1 l2 l3 l4 c0 c1 c2 c3 c4 a V b0 b1 b2 b3 b4 (h0.later RStr.keeps hb) (h1.later RStr.keeps hb) (h2.later RBlock.keeps hb) (h3.later RPort.keeps hb) (h4.later RPort.keeps hb))
  have HD : Hid (packI a = (countsA a && (blocksB a.ins.length a.blocks a.clocks.length && ((a.outs ++ a.checks).all (fun p : Port => plB p.src (a.ins.length + a.blocks.length)) && nms a)))) := hide rfl
  generalize packI a = RR at *
  generalize countsA a = p1 at *
  generalize blocksB a.ins.length a.blocks a.clocks.length = p2 at *
  generalize (a.outs ++ a.checks).all (fun p : Port => plB p.src (a.ins.length + a.blocks.length)) = p3 at *
  generalize nms a = p4 at *
  clear hin h0 h1 h2 h3 h4 b0 b1 b2 b3 b4
  rw [e0, e1, e2, e3, e4]
  clear e0 e1 e2 e3 e4
  have HC1 : Hid (∀ V, Below (w.alloc (.cells #[.slice s0 l0 c0, .slice s1 l1 c1, .slice s2 l2 c2, .slice s3 l3 c3, .slice s4 l4 c4] 35)).heap.size (w.alloc (.cells #[.slice s0 l0 c0, .slice s1 l1 c1, .slice s2 l2 c2, .slice s3 l3 c3, .slice s4 l4 c4] 35)) V → V.cell? ⟨w.heap.size, 0, none⟩ = some (.slice s0 l0 c0) ∧ V.cell? ⟨w.heap.size, 1, none⟩ = some (.slice s1 l1 c1) ∧ V.cell? ⟨w.heap.size, 2, none⟩ = some (.slice s2 l2 c2) ∧ V.cell? ⟨w.heap.size, 3, none⟩ = some (.slice s3 l3 c3) ∧ V.cell? ⟨w.heap.size, 4, none⟩ = some (.slice s4 l4 c4)) := hide (fun V hb => ⟨cell_later hb (by rw [World.cell?_alloc_new]; rfl), cell_later hb (by rw [World.cell?_alloc_new]; rfl), cell_later hb (by rw [World.cell?_alloc_new]; rfl), cell_later hb (by rw [World.cell?_alloc_new]; rfl), cell_later hb (by rw [World.cell?_alloc_new]; rfl)⟩)
  obtain ⟨W, hW⟩ : ∃ W, W = w.alloc (.cells #[.slice s0 l0 c0, .slice s1 l1 c1, .slice s2 l2 c2, .slice s3 l3 c3, .slice s4 l4 c4] 35) := ⟨_, rfl⟩
  have HW : Hid (Below w.heap.size w W) := hide (by rw [hW]; exact bal (brf w) _)
  rw [← hW] at HC1
  have HW' := hide hW
  clear hW
  cases p1
  · go_enter Try.func21, Try.ntmps21
    go_wp2_with fail
    rw [← unhide HW']
    refine (unhide HCN _ (unhide HW)).mono ?_
    rintro e W1 ⟨rfl, hb⟩
    have B1 : Hid (Below W.heap.size W W1) := hide hb
    clear hb
    obtain ⟨q0, q1, q2, q3, q4⟩ := unhide HC1 W1 (unhide B1)
    go_wp2_with fail
    exact bodyPost_ret (v := .bool false) (by simp [results, Try.results21, go_sem]) rfl ⟨by rw [unhide HD]; rfl, btr (unhide HW) (unhide B1)⟩
  · cases p2
    · go_enter Try.func21, Try.ntmps21
      go_wp2_with fail
      rw [← unhide HW']
      refine (unhide HCN _ (unhide HW)).mono ?_
      rintro e W1 ⟨rfl, hb⟩
      have B1 : Hid (Below W.heap.size W W1) := hide hb
      clear hb
      obtain ⟨q0, q1, q2, q3, q4⟩ := unhide HC1 W1 (unhide B1)
      go_wp2_with fail
      refine (unhide HLI _ (btr (unhide HW) (unhide B1))).mono ?_
      rintro e W2 ⟨rfl, hb⟩
      have B2 : Hid (Below W.heap.size W W2) := hide (btr (unhide B1) hb)
      clear hb q0 q1 q2 q3 q4
      obtain ⟨q0, q1, q2, q3, q4⟩ := unhide HC1 W2 (unhide B2)
      go_wp2_with fail
      exact bodyPost_ret (v := .bool false) (by simp [results, Try.results21, go_sem]) rfl ⟨by rw [unhide HD]; rfl, btr (unhide HW) (unhide B2)⟩
    · cases p3
      · go_enter Try.func21, Try.ntmps21
        go_wp2_with fail
        rw [← unhide HW']
        refine (unhide HCN _ (unhide HW)).mono ?_
        rintro e W1 ⟨rfl, hb⟩
        have B1 : Hid (Below W.heap.size W W1) := hide hb
        clear hb
        obtain ⟨q0, q1, q2, q3, q4⟩ := unhide HC1 W1 (unhide B1)
        go_wp2_with fail
        refine (unhide HLI _ (btr (unhide HW) (unhide B1))).mono ?_
        rintro e W2 ⟨rfl, hb⟩
        have B2 : Hid (Below W.heap.size W W2) := hide (btr (unhide B1) hb)
        clear hb q0 q1 q2 q3 q4
        obtain ⟨q0, q1, q2, q3, q4⟩ := unhide HC1 W2 (unhide B2)
        go_wp2_with fail
        refine (unhide HLA _ (btr (unhide HW) (unhide B2))).mono ?_
        rintro e W3 ⟨rfl, hb⟩
        have B3 : Hid (Below W.heap.size W W3) := hide (btr (unhide B2) hb)
        clear hb q0 q1 q2 q3 q4
        obtain ⟨q0, q1, q2, q3, q4⟩ := unhide HC1 W3 (unhide B3)
        go_wp2_with fail
        exact bodyPost_ret (v := .bool false) (by simp [results, Try.results21, go_sem]) rfl ⟨by rw [unhide HD]; rfl, btr (unhide HW) (unhide B3)⟩
      · cases p4
        · go_enter Try.func21, Try.ntmps21
          go_wp2_with fail
          rw [← unhide HW']
          refine (unhide HCN _ (unhide HW)).mono ?_
          rintro e W1 ⟨rfl, hb⟩
          have B1 : Hid (Below W.heap.size W W1) := hide hb
          clear hb
          obtain ⟨q0, q1, q2, q3, q4⟩ := unhide HC1 W1 (unhide B1)
          go_wp2_with fail
          refine (unhide HLI _ (btr (unhide HW) (unhide B1))).mono ?_
          rintro e W2 ⟨rfl, hb⟩
          have B2 : Hid (Below W.heap.size W W2) := hide (btr (unhide B1) hb)
          clear hb q0 q1 q2 q3 q4
          obtain ⟨q0, q1, q2, q3, q4⟩ := unhide HC1 W2 (unhide B2)
          go_wp2_with fail
          refine (unhide HLA _ (btr (unhide HW) (unhide B2))).mono ?_
          rintro e W3 ⟨rfl, hb⟩
          have B3 : Hid (Below W.heap.size W W3) := hide (btr (unhide B2) hb)
          clear hb q0 q1 q2 q3 q4
          obtain ⟨q0, q1, q2, q3, q4⟩ := unhide HC1 W3 (unhide B3)
          go_wp2_with fail
          refine (unhide HNL _ (btr (unhide HW) (unhide B3))).mono ?_
          rintro e W4 ⟨rfl, hb⟩
          have B4 : Hid (Below W.heap.size W W4) := hide (btr (unhide B3) hb)
          clear hb q0 q1 q2 q3 q4
          obtain ⟨q0, q1, q2, q3, q4⟩ := unhide HC1 W4 (unhide B4)
          go_wp2_with fail
          exact bodyPost_ret (v := .bool false) (by simp [results, Try.results21, go_sem]) rfl ⟨by rw [unhide HD]; rfl, btr (unhide HW) (unhide B4)⟩
        · go_enter Try.func21, Try.ntmps21
          go_wp2_with fail
          rw [← unhide HW']
          refine (unhide HCN _ (unhide HW)).mono ?_
          rintro e W1 ⟨rfl, hb⟩
          have B1 : Hid (Below W.heap.size W W1) := hide hb
          clear hb
          obtain ⟨q0, q1, q2, q3, q4⟩ := unhide HC1 W1 (unhide B1)
          go_wp2_with fail
          refine (unhide HLI _ (btr (unhide HW) (unhide B1))).mono ?_
          rintro e W2 ⟨rfl, hb⟩
          have B2 : Hid (Below W.heap.size W W2) := hide (btr (unhide B1) hb)
          clear hb q0 q1 q2 q3 q4
          obtain ⟨q0, q1, q2, q3, q4⟩ := unhide HC1 W2 (unhide B2)
          go_wp2_with fail
          refine (unhide HLA _ (btr (unhide HW) (unhide B2))).mono ?_
          rintro e W3 ⟨rfl, hb⟩
          have B3 : Hid (Below W.heap.size W W3) := hide (btr (unhide B2) hb)
          clear hb q0 q1 q2 q3 q4
          obtain ⟨q0, q1, q2, q3, q4⟩ := unhide HC1 W3 (unhide B3)
          go_wp2_with fail
          refine (unhide HNL _ (btr (unhide HW) (unhide B3))).mono ?_
          rintro e W4 ⟨rfl, hb⟩
          have B4 : Hid (Below W.heap.size W W4) := hide (btr (unhide B3) hb)
          clear hb q0 q1 q2 q3 q4
          obtain ⟨q0, q1, q2, q3, q4⟩ := unhide HC1 W4 (unhide B4)
          go_wp2_with fail
          exact bodyPost_ret (v := .bool true) (by simp [results, Try.results21, go_sem]) rfl ⟨by rw [unhide HD]; rfl, btr (unhide HW) (unhide B4)⟩
end Go.Proofs.Ytdmmbhemmbgcpad
