/- namesFit. -/
import Derived.Test.YtlldfaniddbjaaaGreatDoorGPC
import Derived.Test.YtlldfaniddbjaaaGreatDoorGPE
namespace Go.Proofs.YtlldfaniddbjaaaGreatDoor
open Go Go.RowKit Gs
set_option linter.unusedVariables false
set_option linter.unusedSimpArgs false
set_option maxRecDepth 100000
/-- What namesFit answers. -/
def nms (p : Packed) : Bool := namesB (p.ins ++ p.clocks) && (namesB ((p.blocks.filter (·.reg)).map (·.name)) && (namesB (p.outs.map (·.name)) && namesB (p.checks.map (·.name))))
theorem strs_two {W : World} {xs ys : List ByteArray} {v u : Value} (b : Nat) (hx : RS 1 RStr W 0 xs v) (hy : RS 1 RStr W 0 ys u) (h0 : W.cell? ⟨b, 0, none⟩ = some v) (h1 : W.cell? ⟨b, 1, none⟩ = some u) : RS 1 (RL 1 RStr) W 0 [xs, ys] (.slice (some ⟨b, 0, none⟩) 2 2) := by
  refine ⟨some ⟨b, 0, none⟩, 2, rfl, by simp, by unfold maxLen; simp, fun _ => ⟨b, 0, rfl, Nat.zero_le _, fun i x hx' => ?_⟩⟩
  match i, hx' with
  | 0, h => simp at h; subst h; exact ⟨[v], rfl, fun j y hj => by cases j with | zero => (simp at hj; subst hj; simpa using h0) | succ j => simp at hj, v, rfl, hx⟩
  | 1, h => simp at h; subst h; exact ⟨[u], rfl, fun j y hj => by cases j with | zero => (simp at hj; subst hj; simpa using h1) | succ j => simp at hj, u, rfl, hy⟩
  | i + 2, h => simp at h
set_option maxHeartbeats 8000000 in
theorem iNames (s0 s1 s2 s3 s4 : Option Addr) (l0 l1 l2 l3 l4 c0 c1 c2 c3 c4 : Nat) (p : Packed) (w : World) (b0 : p.ins.length ≤ 1048576) (b1 : p.clocks.length ≤ 1048576) (b2 : p.blocks.length ≤ 1048576) (b3 : p.outs.length ≤ 1048576) (b4 : p.checks.length ≤ 1048576)
    (h0 : RS 1 RStr w 0 p.ins (.slice s0 l0 c0)) (h1 : RS 1 RStr w 0 p.clocks (.slice s1 l1 c1)) (h2 : RS 6 RBlock w 0 p.blocks (.slice s2 l2 c2)) (h3 : RS 2 RPort w 0 p.outs (.slice s3 l3 c3)) (h4 : RS 2 RPort w 0 p.checks (.slice s4 l4 c4)) :
    Calls Tryz.prog 86 #[.agg #[.slice s0 l0 c0, .slice s1 l1 c1, .slice s2 l2 c2, .slice s3 l3 c3, .slice s4 l4 c4]] w fun e w' => e = .returned (.bool (nms p)) ∧ Below w.heap.size w w' := by
  have HC1 : Hid (∀ V, Below (w.alloc (.cells #[.slice s0 l0 c0, .slice s1 l1 c1, .slice s2 l2 c2, .slice s3 l3 c3, .slice s4 l4 c4] 37)).heap.size (w.alloc (.cells #[.slice s0 l0 c0, .slice s1 l1 c1, .slice s2 l2 c2, .slice s3 l3 c3, .slice s4 l4 c4] 37)) V → V.cell? ⟨w.heap.size, 0, none⟩ = some (.slice s0 l0 c0) ∧ V.cell? ⟨w.heap.size, 1, none⟩ = some (.slice s1 l1 c1) ∧ V.cell? ⟨w.heap.size, 2, none⟩ = some (.slice s2 l2 c2) ∧ V.cell? ⟨w.heap.size, 3, none⟩ = some (.slice s3 l3 c3) ∧ V.cell? ⟨w.heap.size, 4, none⟩ = some (.slice s4 l4 c4)) := hide (fun V hb => ⟨cell_later hb (by rw [World.cell?_alloc_new]; rfl), cell_later hb (by rw [World.cell?_alloc_new]; rfl), cell_later hb (by rw [World.cell?_alloc_new]; rfl), cell_later hb (by rw [World.cell?_alloc_new]; rfl), cell_later hb (by rw [World.cell?_alloc_new]; rfl)⟩)
  obtain ⟨W, hW⟩ : ∃ W, W = w.alloc (.cells #[.slice s0 l0 c0, .slice s1 l1 c1, .slice s2 l2 c2, .slice s3 l3 c3, .slice s4 l4 c4] 37) := ⟨_, rfl⟩
  have HW : Hid (Below w.heap.size w W) := hide (by rw [hW]; exact bal (brf w) _)
  rw [← hW] at HC1
  have HZ : Hid (W.heap.size = w.heap.size + 1) := hide (by rw [hW]; simp)
  have hln : l2 = p.blocks.length := by
    obtain ⟨a, c, hv, _⟩ := h2
    injection hv with e1 e2 e3
  -- the first list
  have HCC : Hid (∀ V b, Below w.heap.size w V → V.cell? ⟨b, 0, none⟩ = some (.slice s0 l0 c0) → V.cell? ⟨b, 1, none⟩ = some (.slice s1 l1 c1) → Calls Tryz.prog 108 #[.slice (some ⟨b, 0, none⟩) 2 2] V fun e w' => (∃ v', e = .returned v' ∧ RS 1 RStr w' 0 (p.ins ++ p.clocks) v') ∧ Below V.heap.size V w') := hide (fun V b hV k0 k1 => by
    refine (iConcatS [p.ins, p.clocks] _ V (by simp) (by simp; omega) (strs_two b (h0.later RStr.keeps hV) (h1.later RStr.keeps hV) k0 k1)).mono ?_
    rintro e W ⟨⟨v', rfl, ho⟩, hb⟩
    simp at ho
    exact ⟨⟨v', rfl, ho.any (by simp; omega)⟩, hb⟩)
  have HBW : Hid (∀ V, Below w.heap.size w V → Calls Tryz.prog 110 #[.agg #[.slice s0 l0 c0, .slice s1 l1 c1, .slice s2 l2 c2, .slice s3 l3 c3, .slice s4 l4 c4], .bool true] V fun e w' => (∃ v', e = .returned v' ∧ RS 1 RInt w' 0 (numsB p.blocks true p.blocks.length) v') ∧ Below V.heap.size V w') := hide (fun V hV => by
    refine (iBlocksWith s0 s1 s2 s3 s4 l0 l1 l2 l3 l4 c0 c1 c2 c3 c4 p.blocks true V b2 (h2.later RBlock.keeps hV)).mono ?_
    rintro e W ⟨⟨v', rfl, ho⟩, hb⟩
    exact ⟨⟨v', rfl, ho.any (by have := numsB_len p.blocks true p.blocks.length; omega)⟩, hb⟩)
  have HLN : Hid (∀ V v, Below W.heap.size W V → RS 1 RInt V 0 (numsB p.blocks true p.blocks.length) v → Calls Tryz.prog 109 #[v, .func (.func 106) #[] #[.pointer (some ⟨w.heap.size, 0, none⟩)]] V fun e w' => (∃ v', e = .returned v' ∧ RS 1 RStr w' 0 ((p.blocks.filter (·.reg)).map (·.name)) v') ∧ Below V.heap.size V w') := hide (fun V v hV hv => by
    have hnl := numsB_len p.blocks true p.blocks.length
    refine (iListNames w.heap.size (nameN p.blocks) _ v V (by omega) hv (hide fun x hx => ?_)).mono ?_
    · obtain ⟨i, rfl, hi, _⟩ := numsB_mem p.blocks true _ x hx
      have hb : p.blocks[i]? = some p.blocks[i] := List.getElem?_eq_getElem hi
      rw [nameN_at hb]
      rcases h2.open with ⟨e, _⟩ | ⟨bb, oo, cc, hv2, hcc, _, _, hcs⟩
      · rw [e] at hi; simp at hi
      injection hv2 with e1 e2 e3
      obtain ⟨u, hul, hat, v1, hus, hsz, hrs⟩ := hcs i _ hb
      subst hus
      refine ⟨hsz, fun U hU => ?_⟩
      have hq := (unhide HC1 U (btr hV hU)).2.2.1
      rw [e1] at hq
      exact iToldName w.heap.size bb oo l2 c2 i _ U (by omega) (by omega) hq (cell_later (btr (btr (unhide HW) hV) hU) (hat.get (j := 0) rfl)) (by omega)
    · rintro e W1 ⟨⟨v', rfl, ho⟩, hb⟩
      rw [numsB_names p.blocks (nameN p.blocks) (fun i b h => nameN_at h) _ (Nat.le_refl _), List.take_of_length_le (Nat.le_refl _)] at ho
      have hfl : ((p.blocks.filter (·.reg)).map (·.name)).length ≤ p.blocks.length := by rw [List.length_map]; exact List.length_filter_le _ _
      exact ⟨⟨v', rfl, ho.any (by omega)⟩, hb⟩)
  have HLP : Hid (∀ V (xs : List Port) v, xs.length ≤ 1048576 → RS 2 RPort V 0 xs v → Calls Tryz.prog 111 #[v, .func (.func 105) #[] #[]] V fun e w' => (∃ v', e = .returned v' ∧ RS 1 RStr w' 0 (xs.map (·.name)) v') ∧ Below V.heap.size V w') := hide (fun V xs v hl hv => by
    refine (iListPortS xs v V hl hv).mono ?_
    rintro e W ⟨⟨v', rfl, ho⟩, hb⟩
    exact ⟨⟨v', rfl, ho.any (by simp; omega)⟩, hb⟩)
  have H3 := hide (fun (V : World) (hV : Below w.heap.size w V) => unhide HLP V p.outs _ b3 (h3.later RPort.keeps hV))
  have H4 := hide (fun (V : World) (hV : Below w.heap.size w V) => unhide HLP V p.checks _ b4 (h4.later RPort.keeps hV))
  have HNF : Hid (∀ (q : Bool) (ss : List ByteArray) V v, namesB ss = q → ss.length ≤ 2097152 → RS 1 RStr V 0 ss v → Calls Tryz.prog 107 #[v] V fun e w' => e = .returned (.bool q) ∧ Below V.heap.size V w') := hide (fun q ss V v hq hl hv => by rw [← hq]; exact iNamesFit ss v V hl hv)
  have L0 := hide (show (p.ins ++ p.clocks).length ≤ 2097152 by simp; omega)
  have L1 := hide (show ((p.blocks.filter (·.reg)).map (·.name)).length ≤ 2097152 by
    have : ((p.blocks.filter (·.reg)).map (·.name)).length ≤ p.blocks.length := by rw [List.length_map]; exact List.length_filter_le _ _
    omega)
  have L2 := hide (show (p.outs.map (·.name)).length ≤ 2097152 by simp; omega)
  have L3 := hide (show (p.checks.map (·.name)).length ≤ 2097152 by simp; omega)
  have HR : Hid (nms p = (namesB (p.ins ++ p.clocks) && (namesB ((p.blocks.filter (·.reg)).map (·.name)) && (namesB (p.outs.map (·.name)) && namesB (p.checks.map (·.name)))))) := hide rfl
  clear HLP h0 h1 h2 h3 h4 b0 b1 b2 b3 b4 hln
  generalize numsB p.blocks true p.blocks.length = nb at *
  generalize p.ins ++ p.clocks = n0 at *
  generalize (p.blocks.filter (·.reg)).map (·.name) = n1 at *
  generalize p.outs.map (·.name) = n2 at *
  generalize p.checks.map (·.name) = n3 at *
  generalize nms p = RR at *
  obtain ⟨q0, e0⟩ : ∃ q, namesB n0 = q := ⟨_, rfl⟩
  obtain ⟨q1, e1⟩ : ∃ q, namesB n1 = q := ⟨_, rfl⟩
  obtain ⟨q2, e2⟩ : ∃ q, namesB n2 = q := ⟨_, rfl⟩
  obtain ⟨q3, e3⟩ : ∃ q, namesB n3 = q := ⟨_, rfl⟩
  have HQ : Hid (RR = (q0 && (q1 && (q2 && q3)))) := hide (by rw [unhide HR, e0, e1, e2, e3])
  have E0 := hide e0
  have E1 := hide e1
  have E2 := hide e2
  have E3 := hide e3
  have HW' := hide hW
  clear e0 e1 e2 e3 HR hW
  cases q0
  · go_enter Tryz.func86, Tryz.ntmps86
    go_wp2_with fail
    rw [← unhide HW']
    have B0 : Hid (Below W.heap.size W (W.alloc (.cells #[.slice s0 l0 c0, .slice s1 l1 c1] 22))) := hide (bal (brf W) _)
    refine (unhide HCC _ _ (btr (unhide HW) (unhide B0)) (by rw [← unhide HZ, World.cell?_alloc_new]; rfl) (by rw [← unhide HZ, World.cell?_alloc_new]; rfl)).mono ?_
    rintro e W1 ⟨⟨v1, rfl, hr⟩, hb⟩
    have B1 : Hid (Below W.heap.size W W1) := hide (btr (unhide B0) hb)
    have R1 := hide hr
    clear hb hr
    obtain ⟨m0, m1, m2, m3, m4⟩ := unhide HC1 _ (unhide B1)
    go_wp2_with fail
    refine (unhide HNF _ _ _ _ (unhide E0) (unhide L0) (unhide R1)).mono ?_
    rintro e W2 ⟨rfl, hb⟩
    have B2 : Hid (Below W.heap.size W W2) := hide (btr (unhide B1) hb)
    clear hb
    clear m0 m1 m2 m3 m4
    obtain ⟨m0, m1, m2, m3, m4⟩ := unhide HC1 _ (unhide B2)
    go_wp2_with fail
    exact bodyPost_ret (v := .bool false) (by simp [results, Tryz.results86, go_sem]) rfl ⟨by rw [unhide HQ]; rfl, btr (unhide HW) (unhide B2)⟩
  · cases q1
    · go_enter Tryz.func86, Tryz.ntmps86
      go_wp2_with fail
      rw [← unhide HW']
      have B0 : Hid (Below W.heap.size W (W.alloc (.cells #[.slice s0 l0 c0, .slice s1 l1 c1] 22))) := hide (bal (brf W) _)
      refine (unhide HCC _ _ (btr (unhide HW) (unhide B0)) (by rw [← unhide HZ, World.cell?_alloc_new]; rfl) (by rw [← unhide HZ, World.cell?_alloc_new]; rfl)).mono ?_
      rintro e W1 ⟨⟨v1, rfl, hr⟩, hb⟩
      have B1 : Hid (Below W.heap.size W W1) := hide (btr (unhide B0) hb)
      have R1 := hide hr
      clear hb hr
      obtain ⟨m0, m1, m2, m3, m4⟩ := unhide HC1 _ (unhide B1)
      go_wp2_with fail
      refine (unhide HNF _ _ _ _ (unhide E0) (unhide L0) (unhide R1)).mono ?_
      rintro e W2 ⟨rfl, hb⟩
      have B2 : Hid (Below W.heap.size W W2) := hide (btr (unhide B1) hb)
      clear hb
      clear m0 m1 m2 m3 m4
      obtain ⟨m0, m1, m2, m3, m4⟩ := unhide HC1 _ (unhide B2)
      go_wp2_with fail
      refine (unhide HBW _ (btr (unhide HW) (unhide B2))).mono ?_
      rintro e W3 ⟨⟨v3, rfl, hr⟩, hb⟩
      have B3 : Hid (Below W.heap.size W W3) := hide (btr (unhide B2) hb)
      have R3 := hide hr
      clear hb hr m0 m1 m2 m3 m4
      obtain ⟨m0, m1, m2, m3, m4⟩ := unhide HC1 _ (unhide B3)
      go_wp2_with fail
      refine (unhide HLN _ _ (unhide B3) (unhide R3)).mono ?_
      rintro e W4 ⟨⟨v4, rfl, hr⟩, hb⟩
      have B4 : Hid (Below W.heap.size W W4) := hide (btr (unhide B3) hb)
      have R4 := hide hr
      clear hb hr m0 m1 m2 m3 m4
      obtain ⟨m0, m1, m2, m3, m4⟩ := unhide HC1 _ (unhide B4)
      go_wp2_with fail
      refine (unhide HNF _ _ _ _ (unhide E1) (unhide L1) (unhide R4)).mono ?_
      rintro e W5 ⟨rfl, hb⟩
      have B5 : Hid (Below W.heap.size W W5) := hide (btr (unhide B4) hb)
      clear hb
      clear m0 m1 m2 m3 m4
      obtain ⟨m0, m1, m2, m3, m4⟩ := unhide HC1 _ (unhide B5)
      go_wp2_with fail
      exact bodyPost_ret (v := .bool false) (by simp [results, Tryz.results86, go_sem]) rfl ⟨by rw [unhide HQ]; rfl, btr (unhide HW) (unhide B5)⟩
    · cases q2
      · go_enter Tryz.func86, Tryz.ntmps86
        go_wp2_with fail
        rw [← unhide HW']
        have B0 : Hid (Below W.heap.size W (W.alloc (.cells #[.slice s0 l0 c0, .slice s1 l1 c1] 22))) := hide (bal (brf W) _)
        refine (unhide HCC _ _ (btr (unhide HW) (unhide B0)) (by rw [← unhide HZ, World.cell?_alloc_new]; rfl) (by rw [← unhide HZ, World.cell?_alloc_new]; rfl)).mono ?_
        rintro e W1 ⟨⟨v1, rfl, hr⟩, hb⟩
        have B1 : Hid (Below W.heap.size W W1) := hide (btr (unhide B0) hb)
        have R1 := hide hr
        clear hb hr
        obtain ⟨m0, m1, m2, m3, m4⟩ := unhide HC1 _ (unhide B1)
        go_wp2_with fail
        refine (unhide HNF _ _ _ _ (unhide E0) (unhide L0) (unhide R1)).mono ?_
        rintro e W2 ⟨rfl, hb⟩
        have B2 : Hid (Below W.heap.size W W2) := hide (btr (unhide B1) hb)
        clear hb
        clear m0 m1 m2 m3 m4
        obtain ⟨m0, m1, m2, m3, m4⟩ := unhide HC1 _ (unhide B2)
        go_wp2_with fail
        refine (unhide HBW _ (btr (unhide HW) (unhide B2))).mono ?_
        rintro e W3 ⟨⟨v3, rfl, hr⟩, hb⟩
        have B3 : Hid (Below W.heap.size W W3) := hide (btr (unhide B2) hb)
        have R3 := hide hr
        clear hb hr m0 m1 m2 m3 m4
        obtain ⟨m0, m1, m2, m3, m4⟩ := unhide HC1 _ (unhide B3)
        go_wp2_with fail
        refine (unhide HLN _ _ (unhide B3) (unhide R3)).mono ?_
        rintro e W4 ⟨⟨v4, rfl, hr⟩, hb⟩
        have B4 : Hid (Below W.heap.size W W4) := hide (btr (unhide B3) hb)
        have R4 := hide hr
        clear hb hr m0 m1 m2 m3 m4
        obtain ⟨m0, m1, m2, m3, m4⟩ := unhide HC1 _ (unhide B4)
        go_wp2_with fail
        refine (unhide HNF _ _ _ _ (unhide E1) (unhide L1) (unhide R4)).mono ?_
        rintro e W5 ⟨rfl, hb⟩
        have B5 : Hid (Below W.heap.size W W5) := hide (btr (unhide B4) hb)
        clear hb
        clear m0 m1 m2 m3 m4
        obtain ⟨m0, m1, m2, m3, m4⟩ := unhide HC1 _ (unhide B5)
        go_wp2_with fail
        refine (unhide H3 _ (btr (unhide HW) (unhide B5))).mono ?_
        rintro e W6 ⟨⟨v6, rfl, hr⟩, hb⟩
        have B6 : Hid (Below W.heap.size W W6) := hide (btr (unhide B5) hb)
        have R6 := hide hr
        clear hb hr m0 m1 m2 m3 m4
        obtain ⟨m0, m1, m2, m3, m4⟩ := unhide HC1 _ (unhide B6)
        go_wp2_with fail
        refine (unhide HNF _ _ _ _ (unhide E2) (unhide L2) (unhide R6)).mono ?_
        rintro e W7 ⟨rfl, hb⟩
        have B7 : Hid (Below W.heap.size W W7) := hide (btr (unhide B6) hb)
        clear hb
        clear m0 m1 m2 m3 m4
        obtain ⟨m0, m1, m2, m3, m4⟩ := unhide HC1 _ (unhide B7)
        go_wp2_with fail
        exact bodyPost_ret (v := .bool false) (by simp [results, Tryz.results86, go_sem]) rfl ⟨by rw [unhide HQ]; rfl, btr (unhide HW) (unhide B7)⟩
      · cases q3
        · go_enter Tryz.func86, Tryz.ntmps86
          go_wp2_with fail
          rw [← unhide HW']
          have B0 : Hid (Below W.heap.size W (W.alloc (.cells #[.slice s0 l0 c0, .slice s1 l1 c1] 22))) := hide (bal (brf W) _)
          refine (unhide HCC _ _ (btr (unhide HW) (unhide B0)) (by rw [← unhide HZ, World.cell?_alloc_new]; rfl) (by rw [← unhide HZ, World.cell?_alloc_new]; rfl)).mono ?_
          rintro e W1 ⟨⟨v1, rfl, hr⟩, hb⟩
          have B1 : Hid (Below W.heap.size W W1) := hide (btr (unhide B0) hb)
          have R1 := hide hr
          clear hb hr
          obtain ⟨m0, m1, m2, m3, m4⟩ := unhide HC1 _ (unhide B1)
          go_wp2_with fail
          refine (unhide HNF _ _ _ _ (unhide E0) (unhide L0) (unhide R1)).mono ?_
          rintro e W2 ⟨rfl, hb⟩
          have B2 : Hid (Below W.heap.size W W2) := hide (btr (unhide B1) hb)
          clear hb
          clear m0 m1 m2 m3 m4
          obtain ⟨m0, m1, m2, m3, m4⟩ := unhide HC1 _ (unhide B2)
          go_wp2_with fail
          refine (unhide HBW _ (btr (unhide HW) (unhide B2))).mono ?_
          rintro e W3 ⟨⟨v3, rfl, hr⟩, hb⟩
          have B3 : Hid (Below W.heap.size W W3) := hide (btr (unhide B2) hb)
          have R3 := hide hr
          clear hb hr m0 m1 m2 m3 m4
          obtain ⟨m0, m1, m2, m3, m4⟩ := unhide HC1 _ (unhide B3)
          go_wp2_with fail
          refine (unhide HLN _ _ (unhide B3) (unhide R3)).mono ?_
          rintro e W4 ⟨⟨v4, rfl, hr⟩, hb⟩
          have B4 : Hid (Below W.heap.size W W4) := hide (btr (unhide B3) hb)
          have R4 := hide hr
          clear hb hr m0 m1 m2 m3 m4
          obtain ⟨m0, m1, m2, m3, m4⟩ := unhide HC1 _ (unhide B4)
          go_wp2_with fail
          refine (unhide HNF _ _ _ _ (unhide E1) (unhide L1) (unhide R4)).mono ?_
          rintro e W5 ⟨rfl, hb⟩
          have B5 : Hid (Below W.heap.size W W5) := hide (btr (unhide B4) hb)
          clear hb
          clear m0 m1 m2 m3 m4
          obtain ⟨m0, m1, m2, m3, m4⟩ := unhide HC1 _ (unhide B5)
          go_wp2_with fail
          refine (unhide H3 _ (btr (unhide HW) (unhide B5))).mono ?_
          rintro e W6 ⟨⟨v6, rfl, hr⟩, hb⟩
          have B6 : Hid (Below W.heap.size W W6) := hide (btr (unhide B5) hb)
          have R6 := hide hr
          clear hb hr m0 m1 m2 m3 m4
          obtain ⟨m0, m1, m2, m3, m4⟩ := unhide HC1 _ (unhide B6)
          go_wp2_with fail
          refine (unhide HNF _ _ _ _ (unhide E2) (unhide L2) (unhide R6)).mono ?_
          rintro e W7 ⟨rfl, hb⟩
          have B7 : Hid (Below W.heap.size W W7) := hide (btr (unhide B6) hb)
          clear hb
          clear m0 m1 m2 m3 m4
          obtain ⟨m0, m1, m2, m3, m4⟩ := unhide HC1 _ (unhide B7)
          go_wp2_with fail
          refine (unhide H4 _ (btr (unhide HW) (unhide B7))).mono ?_
          rintro e W8 ⟨⟨v8, rfl, hr⟩, hb⟩
          have B8 : Hid (Below W.heap.size W W8) := hide (btr (unhide B7) hb)
          have R8 := hide hr
          clear hb hr m0 m1 m2 m3 m4
          obtain ⟨m0, m1, m2, m3, m4⟩ := unhide HC1 _ (unhide B8)
          go_wp2_with fail
          refine (unhide HNF _ _ _ _ (unhide E3) (unhide L3) (unhide R8)).mono ?_
          rintro e W9 ⟨rfl, hb⟩
          have B9 : Hid (Below W.heap.size W W9) := hide (btr (unhide B8) hb)
          clear hb
          clear m0 m1 m2 m3 m4
          go_wp2_with fail
          exact bodyPost_ret (v := .bool false) (by simp [results, Tryz.results86, go_sem]) rfl ⟨by rw [unhide HQ]; rfl, btr (unhide HW) (unhide B9)⟩
        · go_enter Tryz.func86, Tryz.ntmps86
          go_wp2_with fail
          rw [← unhide HW']
          have B0 : Hid (Below W.heap.size W (W.alloc (.cells #[.slice s0 l0 c0, .slice s1 l1 c1] 22))) := hide (bal (brf W) _)
          refine (unhide HCC _ _ (btr (unhide HW) (unhide B0)) (by rw [← unhide HZ, World.cell?_alloc_new]; rfl) (by rw [← unhide HZ, World.cell?_alloc_new]; rfl)).mono ?_
          rintro e W1 ⟨⟨v1, rfl, hr⟩, hb⟩
          have B1 : Hid (Below W.heap.size W W1) := hide (btr (unhide B0) hb)
          have R1 := hide hr
          clear hb hr
          obtain ⟨m0, m1, m2, m3, m4⟩ := unhide HC1 _ (unhide B1)
          go_wp2_with fail
          refine (unhide HNF _ _ _ _ (unhide E0) (unhide L0) (unhide R1)).mono ?_
          rintro e W2 ⟨rfl, hb⟩
          have B2 : Hid (Below W.heap.size W W2) := hide (btr (unhide B1) hb)
          clear hb
          clear m0 m1 m2 m3 m4
          obtain ⟨m0, m1, m2, m3, m4⟩ := unhide HC1 _ (unhide B2)
          go_wp2_with fail
          refine (unhide HBW _ (btr (unhide HW) (unhide B2))).mono ?_
          rintro e W3 ⟨⟨v3, rfl, hr⟩, hb⟩
          have B3 : Hid (Below W.heap.size W W3) := hide (btr (unhide B2) hb)
          have R3 := hide hr
          clear hb hr m0 m1 m2 m3 m4
          obtain ⟨m0, m1, m2, m3, m4⟩ := unhide HC1 _ (unhide B3)
          go_wp2_with fail
          refine (unhide HLN _ _ (unhide B3) (unhide R3)).mono ?_
          rintro e W4 ⟨⟨v4, rfl, hr⟩, hb⟩
          have B4 : Hid (Below W.heap.size W W4) := hide (btr (unhide B3) hb)
          have R4 := hide hr
          clear hb hr m0 m1 m2 m3 m4
          obtain ⟨m0, m1, m2, m3, m4⟩ := unhide HC1 _ (unhide B4)
          go_wp2_with fail
          refine (unhide HNF _ _ _ _ (unhide E1) (unhide L1) (unhide R4)).mono ?_
          rintro e W5 ⟨rfl, hb⟩
          have B5 : Hid (Below W.heap.size W W5) := hide (btr (unhide B4) hb)
          clear hb
          clear m0 m1 m2 m3 m4
          obtain ⟨m0, m1, m2, m3, m4⟩ := unhide HC1 _ (unhide B5)
          go_wp2_with fail
          refine (unhide H3 _ (btr (unhide HW) (unhide B5))).mono ?_
          rintro e W6 ⟨⟨v6, rfl, hr⟩, hb⟩
          have B6 : Hid (Below W.heap.size W W6) := hide (btr (unhide B5) hb)
          have R6 := hide hr
          clear hb hr m0 m1 m2 m3 m4
          obtain ⟨m0, m1, m2, m3, m4⟩ := unhide HC1 _ (unhide B6)
          go_wp2_with fail
          refine (unhide HNF _ _ _ _ (unhide E2) (unhide L2) (unhide R6)).mono ?_
          rintro e W7 ⟨rfl, hb⟩
          have B7 : Hid (Below W.heap.size W W7) := hide (btr (unhide B6) hb)
          clear hb
          clear m0 m1 m2 m3 m4
          obtain ⟨m0, m1, m2, m3, m4⟩ := unhide HC1 _ (unhide B7)
          go_wp2_with fail
          refine (unhide H4 _ (btr (unhide HW) (unhide B7))).mono ?_
          rintro e W8 ⟨⟨v8, rfl, hr⟩, hb⟩
          have B8 : Hid (Below W.heap.size W W8) := hide (btr (unhide B7) hb)
          have R8 := hide hr
          clear hb hr m0 m1 m2 m3 m4
          obtain ⟨m0, m1, m2, m3, m4⟩ := unhide HC1 _ (unhide B8)
          go_wp2_with fail
          refine (unhide HNF _ _ _ _ (unhide E3) (unhide L3) (unhide R8)).mono ?_
          rintro e W9 ⟨rfl, hb⟩
          have B9 : Hid (Below W.heap.size W W9) := hide (btr (unhide B8) hb)
          clear hb
          clear m0 m1 m2 m3 m4
          go_wp2_with fail
          exact bodyPost_ret (v := .bool true) (by simp [results, Tryz.results86, go_sem]) rfl ⟨by rw [unhide HQ]; rfl, btr (unhide HW) (unhide B9)⟩
end Go.Proofs.YtlldfaniddbjaaaGreatDoor
