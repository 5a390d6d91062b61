/- The specification's FsmRun. -/
import Derived.Test.YtjbbjgoofenkpaaR3
import Derived.Test.YtjbbjgoofenkpaaR5
namespace Go.Proofs.Ytjbbjgoofenkpaa
open Go.RowKit Gs
set_option linter.unusedVariables false
set_option linter.unusedSimpArgs false
set_option maxRecDepth 100000
set_option maxHeartbeats 32000000 in
theorem sRunYes (f : Fsm) (zs : List Int) (N n c2 c3 c4 b2 o2 b3 o3 b4 o4 lz cz : Nat) (az : Option Addr) (w : World) (hg : GoodF f N n) (hN : cntI f.ins = N) (h : FW w f (.slice (some ⟨b2, o2, none⟩) n c2) (.slice (some ⟨b3, o3, none⟩) n c3) (.slice (some ⟨b4, o4, none⟩) n c4)) (hz : RS 1 RInt w 0 zs (.slice az lz cz)) (hlz : lz = zs.length) (hzl : lz ≤ 4096)
    (OK1 : ∀ V, Below w.heap.size w V → Calls Try.prog 19 #[.agg #[.int .i64 f.ins, .int .i64 f.outBits, .slice (some ⟨b2, o2, none⟩) n c2, .slice (some ⟨b3, o3, none⟩) n c3, .slice (some ⟨b4, o4, none⟩) n c4]] V fun e w' => e = .returned (.bool true) ∧ Below V.heap.size V w') :
    Calls Try.prog 5 #[.agg #[.int .i64 f.ins, .int .i64 f.outBits, .slice (some ⟨b2, o2, none⟩) n c2, .slice (some ⟨b3, o3, none⟩) n c3, .slice (some ⟨b4, o4, none⟩) n c4], .slice az lz cz] w fun e w' => (∃ v, e = .returned (.tuple #[v, .int .i64 (codeP (runP f N 0 zs))]) ∧ OT w.heap.size w' v ((runP f N 0 zs).getD [])) ∧ Below w.heap.size w w' := by
  have HG := hide hg
  have HFA := hide (fun (s : Nat) (hs : s < n) => h.at hg.l2 hg.l3 hg.l4 rfl rfl hs)
  have HZ := hide hz
  have HLZ := hide hlz
  have k0 := hg.i0
  have k1 := hg.i5
  have HWI : Hid (IntKind.i64.wrap (2 ^ f.ins.toNat) = (N : Int)) := hide (by rw [wrapI' k1, hN])
  have hNs : N ≤ 32 := by rw [← hN]; exact cntI_small hg.i5
  have hn64 := hg.n64
  have hn1 := hg.n1
  have HOK := hide OK1
  obtain ⟨RP, hRP⟩ : ∃ RP, runP f N 0 zs = RP := ⟨_, rfl⟩
  rw [hRP]
  have HRP := hide hRP
  obtain ⟨RC, hRC⟩ : ∃ RC : Int, codeP RP = RC := ⟨_, rfl⟩
  obtain ⟨RL2, hRL⟩ : ∃ RL2, RP.getD [] = RL2 := ⟨_, rfl⟩
  rw [hRC, hRL]
  have HCN := hide (fun (h : RP = none) => (show RC = 11 ∧ RL2 = [] by subst h; exact ⟨hRC.symm, hRL.symm⟩))
  have HCS := hide (fun (xs : List ByteArray) (h : RP = some xs) => (show RC = 0 ∧ RL2 = xs by subst h; exact ⟨hRC.symm, hRL.symm⟩))
  clear hRC hRL
  clear h hz hg hlz OK1 hRP hN
  generalize f.ins = ins at *
  generalize f.outBits = ob at *
  have d0 : decide (4096 < (lz : Int)) = false := decide_eq_false (by omega)
  go_enter Try.func5, Try.ntmps5
  go_wp2_with fail
  refine (unhide HOK _ (bal (brf w) _)).mono ?_
  rintro e W1 ⟨rfl, hb1⟩
  have HX := hide (show Bt 31 w #[.int .i64 ins, .int .i64 ob, .slice (some ⟨b2, o2, none⟩) n c2, .slice (some ⟨b3, o3, none⟩) n c3, .slice (some ⟨b4, o4, none⟩) n c4] W1 from hb1)
  have hW1 := (unhide HX).size
  clear hb1 HOK d0
  go_wp2
  go_loopw [6, 7, 8] (fun tv sv iv wr => ∃ (k s : Nat) (acc : List ByteArray), k ≤ lz ∧ iv = .int .i64 k ∧ sv = .int .i64 s ∧ s < n ∧ acc.length = k ∧ OT (w.heap.size + 1) wr tv acc ∧ RP = (runP f N s (zs.drop k)).map (acc ++ ·) ∧ Bt 31 w #[.int .i64 ins, .int .i64 ob, .slice (some ⟨b2, o2, none⟩) n c2, .slice (some ⟨b3, o3, none⟩) n c3, .slice (some ⟨b4, o4, none⟩) n c4] wr) (fun _ _ iv _ => lz - (intOf iv).toNat)
  case atStart => exact ⟨0, 0, [], Nat.zero_le _, rfl, rfl, by omega, rfl, OT_start rfl (by omega), by rw [← unhide HRP]; simp, (unhide HX).alloc _⟩
  case round =>
    clear HX HRP hW1
    obtain ⟨k, s, acc, hk, rfl, rfl, hs, hacc, ho, hrun, hbx⟩ := hrel
    have HX := hide hbx
    have HO := hide ho
    by_cases hlt : k < lz
    · have hzk : k < zs.length := by have := unhide HLZ; omega
      obtain ⟨bz, oz, rfl, hmz⟩ := intAt (unhide HZ) hzk
      have hdr : zs.drop k = zs.getD k 0 :: zs.drop (k + 1) := by
        rw [List.drop_eq_getElem_cons hzk, List.getD_eq_getElem?_getD, List.getElem?_eq_getElem hzk]; rfl
      have M0 := hide hmz
      rw [hdr] at hrun
      generalize zs.getD k 0 = z at hrun M0
      unfold runP at hrun
      have i1 : (k : Int) < (lz : Int) := by omega
      obtain ⟨ta, tl2, tc, rfl⟩ := ho.shape
      have HRUN := hide hrun
      clear hmz hdr hbx ho hrun
      go_wp2
      refine run10 ins ob n c2 c3 c4 b2 o2 b3 o3 b4 o4 lz cz bz oz k s z N _ w wr (unhide HX) (unhide HWI) k0 k1 (cell_later (unhide HX).below (unhide M0)) i1 (by omega) hzl _ _ _ _ _ _ _ _ _ _ _ _ _ _ _ _ _ _ _ _ _ _ _ _ _ _ _ _ _ _ _ _ _ _ _ _ _ _ _ _ _ _ _ _ _ _ _ _ _ _ _ _ _ _ _ _ _ _ _ _ ?_
      intro p24 p25 p26 p27 p28 p29 p30 p31 p32 p33 p34 p35 p36 p37 V hbV
      have HX1 := hide ((unhide HX).then hbV)
      have HO1 := hide ((unhide HO).later hbV)
      clear hbV HX HO
      by_cases hzN : 0 ≤ z ∧ z < (N : Int)
      · have hrun := unhide HRUN
        rw [if_pos hzN] at hrun
        obtain ⟨i, rfl⟩ : ∃ i : Nat, z = (i : Int) := ⟨z.toNat, by omega⟩
        have hiN : i < N := by omega
        obtain ⟨ht, hte⟩ := (unhide HG).nxt_lt hs hiN
        obtain ⟨st, xs, ys0, x1, y1, x2, y2, _, g2, _, _, _, hm3, rs1, _, _⟩ := unhide HFA s hs
        obtain ⟨st', xs', ys, x1', y1', x2', y2', _, _, g3, _, _, _, _, hm4, rs2⟩ := unhide HFA (nxt f s i) ht
        have hL1 : xs.length = N := by rw [← g2]; exact (unhide HG).nr s hs
        have hL2 : ys.length = N := by rw [← g3]; exact (unhide HG).orow _ ht
        obtain ⟨bx, ox, rfl, hmx⟩ := intAt rs1 (i := i) (by omega)
        obtain ⟨by2, oy, rfl, hmy, hys⟩ := strAt rs2 (i := i) (by omega)
        rw [← g2, hte] at hmx
        have hoa : ys.getD i ByteArray.empty = outAt f (nxt f s i) i := by unfold outAt; rw [g3]
        rw [hoa] at hmy hys
        rw [Int.toNat_natCast] at hrun
        rw [hL1] at hm3
        rw [hL2] at hm4
        have M3 := hide hm3
        have M4 := hide hm4
        have MX := hide hmx
        have MY := hide hmy
        have i2 : (i : Int) < (N : Int) := by omega
        have i3 : (s : Int) < (n : Int) := by omega
        have e0 : (decide ((i : Int) < 0) || decide ((N : Int) ≤ (i : Int))) = false := by simp; omega
        rw [e0]
        generalize nxt f s i = t at *
        generalize outAt f t i = y at *
        have i4 : (t : Int) < (n : Int) := by omega
        have HRN := hide (show RP = (runP f N t (zs.drop (k + 1))).map ((acc ++ [y]) ++ ·) by rw [hrun, Option.map_map]; congr 1; funext q; simp)
        have HYS := hide hys
        clear hm3 hm4 hmx hmy rs1 rs2 g2 g3 hL1 hL2 hoa hte hrun HFA HG HZ hys HRUN e0
        go_wp2
        refine run12 ins ob n c2 c3 c4 b2 o2 b3 o3 b4 o4 lz cz bz oz k s bx ox N y1 i t _ w V (unhide HX1) (cell_later (unhide HX1).below (unhide M0)) (cell_later (unhide HX1).below (unhide M3)) (cell_later (unhide HX1).below (unhide MX)) i1 i3 i2 (by omega) (by omega) (by omega) _ _ _ _ _ _ _ _ _ _ _ _ _ _ _ _ _ _ _ _ _ _ _ _ _ _ _ _ _ _ _ _ _ _ _ _ _ _ _ _ _ _ _ _ _ _ _ _ _ _ _ _ _ _ _ _ _ _ _ _ ?_
        intro p40 p41 p42 p43 p44 p45 p46 p47 p48 p49 p50 V2 hbV2
        have HX2 := hide ((unhide HX1).then hbV2)
        have HO2 := hide ((unhide HO1).later hbV2)
        clear hbV2 HX1 HO1
        go_wp2
        refine run13 ins ob n c2 c3 c4 b2 o2 b3 o3 b4 o4 lz cz bz oz k t by2 oy N y2' i y acc _ w V2 (unhide HX2) (unhide HO2) (by omega) (unhide HYS) (cell_later (unhide HX2).below (unhide M0)) (cell_later (unhide HX2).below (unhide M4)) (cell_later (unhide HX2).below (unhide MY)) i1 i4 i2 (by omega) (by omega) (by omega) _ _ _ _ _ _ _ _ _ _ _ _ _ _ _ _ _ _ _ _ _ _ _ _ _ _ _ _ _ _ _ _ _ _ _ _ _ _ _ _ _ _ _ _ _ _ _ _ _ _ _ _ _ _ _ _ _ _ _ _ ?_
        intro p51 p52 p53 p54 p55 p56 p57 p58 p59 p60 p61 p62 p63 p64 tv2 V3 hbV3 hO3
        have HX3 := hide hbV3
        have HO3 := hide hO3
        obtain ⟨ta2, tl3, tc2, rfl⟩ := hO3.shape
        clear hbV3 hO3 HX2 HO2
        go_wp2
        exact ⟨⟨k + 1, t, acc ++ [y], by omega, by go_num, rfl, ht, by simp [hacc], unhide HO3, unhide HRN, unhide HX3⟩, by simp [intOf]; omega⟩
      · have hrun := unhide HRUN
        rw [if_neg hzN] at hrun
        have HR := hide (unhide HCN (show RP = none by rw [hrun]; rfl))
        have e0 : (decide (z < 0) || decide ((N : Int) ≤ z)) = true := by
          rw [Bool.or_eq_true, decide_eq_true_iff, decide_eq_true_iff]; omega
        rw [e0]
        have HB5 := hide (unhide HX1).below
        have hVs := (unhide HX1).size
        clear hrun HFA HG HZ HRUN e0
        go_wp2
        refine bodyPost_ret (v := .tuple #[.slice (some ⟨V.heap.size, 0, none⟩) 0 0, .int .i64 11]) (by simp [results, Try.results5, go_sem]) rfl ⟨⟨_, by rw [(unhide HR).1], by rw [(unhide HR).2]; exact OT_start rfl (by omega)⟩, bal (unhide HB5) _⟩
    · have hkl : k = lz := by omega
      subst hkl
      have HR := hide (unhide HCS acc (show RP = some acc by rw [hrun, unhide HLZ, List.drop_length]; simp [runP]))
      obtain ⟨ta, tl2, tc, rfl⟩ := (unhide HO).shape
      have HB5 := hide hbx.below
      clear hrun hbx ho HFA HG HZ
      go_wp2
      refine bodyPost_ret (v := .tuple #[.slice ta tl2 tc, .int .i64 0]) (by simp [results, Try.results5, go_sem]) rfl ⟨⟨.slice ta tl2 tc, by rw [(unhide HR).1], by rw [(unhide HR).2]; exact OT.low (Nat.le_succ _) (unhide HO)⟩, unhide HB5⟩
end Go.Proofs.Ytjbbjgoofenkpaa
