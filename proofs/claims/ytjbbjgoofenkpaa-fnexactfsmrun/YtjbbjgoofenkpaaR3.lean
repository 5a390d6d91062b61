/- The program's FsmRun. -/
import Derived.Test.YtjbbjgoofenkpaaR2
namespace Go.Proofs.Ytjbbjgoofenkpaa
open Go.RowKit Gs
set_option linter.unusedVariables false
set_option linter.unusedSimpArgs false
set_option maxRecDepth 100000
set_option maxHeartbeats 16000000 in
theorem iRunYes (f : Fsm) (zs : List Int) (N n c2 c3 c4 b2 o2 b3 o3 b4 o4 lz cz : Nat) (az : Option Addr) (w : World) (hg : GoodF f N n) (hN : cntI f.ins = N) (h : FW w f (.slice (some ⟨b2, o2, none⟩) n c2) (.slice (some ⟨b3, o3, none⟩) n c3) (.slice (some ⟨b4, o4, none⟩) n c4)) (hz : RS 1 RInt w 0 zs (.slice az lz cz)) (hlz : lz = zs.length) (hzl : lz ≤ 4096)
    (OK1 : ∀ V, Below w.heap.size w V → Calls Try.prog 23 #[.agg #[.int .i64 f.ins, .int .i64 f.outBits, .slice (some ⟨b2, o2, none⟩) n c2, .slice (some ⟨b3, o3, none⟩) n c3, .slice (some ⟨b4, o4, none⟩) n c4]] V fun e w' => e = .returned (.bool true) ∧ Below V.heap.size V w') :
    Calls Try.prog 8 #[.agg #[.int .i64 f.ins, .int .i64 f.outBits, .slice (some ⟨b2, o2, none⟩) n c2, .slice (some ⟨b3, o3, none⟩) n c3, .slice (some ⟨b4, o4, none⟩) n c4], .slice az lz cz] w fun e w' => (∃ v, e = .returned (.tuple #[v, .int .i64 (codeP (runP f N 0 zs))]) ∧ OT w.heap.size w' v ((runP f N 0 zs).getD [])) ∧ Below w.heap.size w w' := by
  have HG := hide hg
  have HFA := hide (fun (s : Nat) (hs : s < n) => h.at hg.l2 hg.l3 hg.l4 rfl rfl hs)
  have HZ := hide hz
  have HLZ := hide hlz
  have CN := hide (fun V => iCount f.ins f.outBits (.slice (some ⟨b2, o2, none⟩) n c2) (.slice (some ⟨b3, o3, none⟩) n c3) (.slice (some ⟨b4, o4, none⟩) n c4) V hg.i0 hg.i5)
  rw [hN] at CN
  have hNs : N ≤ 32 := by rw [← hN]; exact cntI_small hg.i5
  have hn64 := hg.n64
  have hn1 := hg.n1
  have HOK := hide OK1
  obtain ⟨RP, hRP⟩ : ∃ RP, runP f N 0 zs = RP := ⟨_, rfl⟩
  rw [hRP]
  have HRP := hide hRP
  obtain ⟨RC, hRC⟩ : ∃ RC : Int, codeP RP = RC := ⟨_, rfl⟩
  obtain ⟨RL2, hRL⟩ : ∃ RL2, RP.getD [] = RL2 := ⟨_, rfl⟩
  rw [hRC, hRL]
  have HCN := hide (fun (h : RP = none) => (show RC = 11 ∧ RL2 = [] by subst h; exact ⟨hRC.symm, hRL.symm⟩))
  have HCS := hide (fun (xs : List ByteArray) (h : RP = some xs) => (show RC = 0 ∧ RL2 = xs by subst h; exact ⟨hRC.symm, hRL.symm⟩))
  clear hRC hRL
  clear h hz hg hlz OK1 hRP hN
  generalize f.ins = ins at *
  generalize f.outBits = ob at *
  obtain ⟨i0, hi, hz0, hz1, hz2⟩ := info_parts info9
  have d0 : decide (4096 < (lz : Int)) = false := decide_eq_false (by omega)
  go_enter Try.func8, Try.ntmps8
  go_wp2_with fail
  refine (unhide HOK _ (bal (brf w) _)).mono ?_
  rintro e W1 ⟨rfl, hb1⟩
  have HX := hide (show Bt 31 w #[.int .i64 ins, .int .i64 ob, .slice (some ⟨b2, o2, none⟩) n c2, .slice (some ⟨b3, o3, none⟩) n c3, .slice (some ⟨b4, o4, none⟩) n c4] W1 from hb1)
  clear hb1 HOK d0
  go_wp2
  go_loopw [6, 7, 18] (fun tv sv iv wr => ∃ (k s : Nat) (acc : List ByteArray), k ≤ lz ∧ iv = .int .i64 k ∧ sv = .int .i64 s ∧ s < n ∧ acc.length = k ∧ OT (w.heap.size + 1) wr tv acc ∧ RP = (runP f N s (zs.drop k)).map (acc ++ ·) ∧ Bt 31 w #[.int .i64 ins, .int .i64 ob, .slice (some ⟨b2, o2, none⟩) n c2, .slice (some ⟨b3, o3, none⟩) n c3, .slice (some ⟨b4, o4, none⟩) n c4] wr) (fun _ _ iv _ => lz - (intOf iv).toNat)
  case atStart => exact ⟨0, 0, [], Nat.zero_le _, rfl, rfl, by omega, rfl, OT_nil _ _, by rw [← unhide HRP]; simp, unhide HX⟩
  case round =>
    clear HX HRP
    obtain ⟨k, s, acc, hk, rfl, rfl, hs, hacc, ho, hrun, hbx⟩ := hrel
    obtain ⟨q0, q1, q2, q3, q4⟩ := hbx.get5
    have HX := hide hbx
    have HO := hide ho
    have hsz := hbx.size
    have hbw := hbx.below
    by_cases hlt : k < lz
    · have hzk : k < zs.length := by have := unhide HLZ; omega
      obtain ⟨bz, oz, rfl, hmz⟩ := intAt (unhide HZ) hzk
      have hdr : zs.drop k = zs.getD k 0 :: zs.drop (k + 1) := by
        rw [List.drop_eq_getElem_cons hzk, List.getD_eq_getElem?_getD, List.getElem?_eq_getElem hzk]; rfl
      have m0 := cell_later hbw hmz
      rw [hdr] at hrun
      generalize zs.getD k 0 = z at hrun m0
      unfold runP at hrun
      have i1 : (k : Int) < (lz : Int) := by omega
      have PL := hide (fun V => iPlace z (N : Int) V)
      clear hmz hdr hbx ho
      by_cases hzN : 0 ≤ z ∧ z < (N : Int)
      · rw [if_pos hzN] at hrun
        obtain ⟨i, rfl⟩ : ∃ i : Nat, z = (i : Int) := ⟨z.toNat, by omega⟩
        have hiN : i < N := by omega
        obtain ⟨ht, hte⟩ := (unhide HG).nxt_lt hs hiN
        obtain ⟨st, xs, ys0, x1, y1, x2, y2, _, g2, _, _, _, hm3, rs1, _, _⟩ := unhide HFA s hs
        obtain ⟨st', xs', ys, x1', y1', x2', y2', _, _, g3, _, _, _, _, hm4, rs2⟩ := unhide HFA (nxt f s i) ht
        have hL1 : xs.length = N := by rw [← g2]; exact (unhide HG).nr s hs
        have hL2 : ys.length = N := by rw [← g3]; exact (unhide HG).orow _ ht
        obtain ⟨bx, ox, rfl, hmx⟩ := intAt rs1 (i := i) (by omega)
        obtain ⟨by2, oy, rfl, hmy, hys⟩ := strAt rs2 (i := i) (by omega)
        rw [← g2, hte] at hmx
        have hoa : ys.getD i ByteArray.empty = outAt f (nxt f s i) i := by unfold outAt; rw [g3]
        rw [hoa] at hmy hys
        rw [Int.toNat_natCast] at hrun
        rw [hL1] at hm3
        rw [hL2] at hm4
        have m3 := cell_later hbw hm3
        have m4 := cell_later hbw hm4
        have mx := cell_later hbw hmx
        have my := cell_later hbw hmy
        have i2 : (i : Int) < (N : Int) := by omega
        have i3 : (s : Int) < (n : Int) := by omega
        have pl : (decide (0 ≤ (i : Int)) && decide ((i : Int) < (N : Int))) = true := by simp; omega
        rw [pl] at PL
        generalize nxt f s i = t at *
        generalize outAt f t i = y at *
        have i4 : (t : Int) < (n : Int) := by omega
        have HRN := hide (show RP = (runP f N t (zs.drop (k + 1))).map ((acc ++ [y]) ++ ·) by rw [hrun, Option.map_map]; congr 1; funext q; simp)
        have HYS := hide hys
        clear hm3 hm4 hmx hmy rs1 rs2 g2 g3 hL1 hL2 hoa hte hrun hbw HFA HG HZ hys pl
        go_wp2_with (first
          | (have hq := HB5; go_at_call 24; refine (unhide PL _).mono ?_; rintro e V2 ⟨rfl, rfl⟩)
          | (go_at_call 25; refine (unhide CN _).mono ?_; rintro e V1 ⟨rfl, hb5⟩; have HB5 := hide hb5; have HO1 := hide ((unhide HO).later hb5); have HX1 := hide ((unhide HX).then hb5); obtain ⟨r0, r1, r2, r3, r4⟩ := (unhide HX1).get5; have k3 := cell_later hb5 m3; have k4 := cell_later hb5 m4; have kx := cell_later hb5 mx; have ky := cell_later hb5 my; have hs1 := (unhide HX1).size; clear hb5)
          | (at_builtin; refine wpList_append_own _ rfl _ _ 22 rfl (w.heap.size + 1) 9 i0 (.string ByteArray.empty) 1 16 Try.underlying22 hi hz0 hz1 hz2 rfl (by decide) _ _ _ rfl ((unhide HO1).1.alloc _) ⟨V2.heap.size, 0, none⟩ 1 1 [.string y] rfl rfl (newT _ _ _ rfl) (oneT _) (by unfold maxLen; omega) (by omega) (by simp; omega) ?_; intro v' w2 hown' hgrow _))
        have R1 := OT.step hown' (unhide HO1).2 (unhide HYS)
        have R2 := OT.frame ((unhide HX1).alloc _) ((unhide HO1).alloc _) hgrow
        exact ⟨⟨k + 1, t, acc ++ [y], by omega, by go_num, rfl, ht, by simp [hacc], R1, unhide HRN, R2⟩, by simp [intOf]; omega⟩
      · rw [if_neg hzN] at hrun
        have HR := hide (unhide HCN (show RP = none by rw [hrun]; rfl))
        have pl : (decide (0 ≤ z) && decide (z < (N : Int))) = false := by
          rw [Bool.and_eq_false_iff, decide_eq_false_iff_not, decide_eq_false_iff_not]; omega
        rw [pl] at PL
        clear hrun HFA HG HZ pl hbw
        go_wp2_with (first
          | (have hq := HB5; go_at_call 24; refine (unhide PL _).mono ?_; rintro e V2 ⟨rfl, rfl⟩)
          | (go_at_call 25; refine (unhide CN _).mono ?_; rintro e V1 ⟨rfl, hb5⟩; have HB5 := hide ((unhide HX).then hb5).below; clear hb5))
        refine bodyPost_ret (v := .tuple #[.slice none 0 0, .int .i64 11]) (by simp [results, Try.results8, go_sem]) rfl ⟨⟨.slice none 0 0, by rw [(unhide HR).1], by rw [(unhide HR).2]; exact OT_nil _ _⟩, unhide HB5⟩
    · have hkl : k = lz := by omega
      subst hkl
      have HR := hide (unhide HCS acc (show RP = some acc by rw [hrun, unhide HLZ, List.drop_length]; simp [runP]))
      obtain ⟨ta, tl2, tc, rfl⟩ := (unhide HO).shape
      have HB5 := hide hbw
      clear hrun hbx ho HFA HG HZ hbw
      go_wp2
      refine bodyPost_ret (v := .tuple #[.slice ta tl2 tc, .int .i64 0]) (by simp [results, Try.results8, go_sem]) rfl ⟨⟨.slice ta tl2 tc, by rw [(unhide HR).1], by rw [(unhide HR).2]; exact OT.low (Nat.le_succ _) (unhide HO)⟩, unhide HB5⟩
/-- What is answered, by its parts. -/
theorem runR_yes {f : Fsm} {zs : List Int} (h1 : zs.length ≤ 4096) (h2 : fsmS f = true) : (runR f zs).1 = (runP f (cntI f.ins) 0 zs).getD [] ∧ (runR f zs).2 = codeP (runP f (cntI f.ins) 0 zs) := by
  unfold runR
  rw [if_neg (by omega), if_pos h2]
  cases runP f (cntI f.ins) 0 zs <;> exact ⟨rfl, rfl⟩
set_option maxHeartbeats 8000000 in
theorem iRun (f : Fsm) (u : List Value) (zs : List Int) (vz : Value) (w : World) (hr : RFsm w 0 f u) (hz : RS 1 RInt w 0 zs vz) :
    Calls Try.prog 8 #[.agg u.toArray, vz] w fun e w' => (∃ v, e = .returned (.tuple #[v, .int .i64 (runR f zs).2]) ∧ OT w.heap.size w' v (runR f zs).1) ∧ Below w.heap.size w w' := by
  have HOK := hide (fun V (hb : Below w.heap.size w V) => iFsmOK f u V (RFsm.keeps _ _ _ _ _ (later_cells hb 0) hr))
  rw [fsm_same f] at HOK
  obtain ⟨v2, v3, v4, rfl, h2, h3, h4⟩ := hr
  change Hid (∀ V (hb : Below w.heap.size w V), Calls Try.prog 23 #[.agg #[.int .i64 f.ins, .int .i64 f.outBits, v2, v3, v4]] V _) at HOK
  show Calls Try.prog 8 #[.agg #[.int .i64 f.ins, .int .i64 f.outBits, v2, v3, v4], vz] w _
  have hzl := hz.len
  unfold maxLen at hzl
  by_cases h1 : zs.length ≤ 4096
  · cases hs : fsmS f
    · have e1 : (runR f zs).1 = [] ∧ (runR f zs).2 = 1 := by unfold runR; rw [if_neg (by omega), hs]; exact ⟨rfl, rfl⟩
      rw [e1.1, e1.2]
      rw [hs] at HOK
      obtain ⟨a2, c2, rfl⟩ := h2.slice
      obtain ⟨a3, c3, rfl⟩ := h3.slice
      obtain ⟨a4, c4, rfl⟩ := h4.slice
      obtain ⟨az, cz, rfl⟩ := hz.slice
      have d0 : decide (4096 < (zs.length : Int)) = false := decide_eq_false (by omega)
      clear h2 h3 h4 hz e1 hs h1
      go_enter Try.func8, Try.ntmps8
      go_wp2_with fail
      refine (unhide HOK _ (bal (brf w) _)).mono ?_
      rintro e W1 ⟨rfl, hb1⟩
      have HB := hide (btr (bal (brf w) _) hb1)
      clear hb1
      go_wp2
      refine bodyPost_ret (v := .tuple #[.slice none 0 0, .int .i64 1]) (by simp [results, Try.results8, go_sem]) rfl ⟨⟨.slice none 0 0, rfl, OT_nil _ _⟩, unhide HB⟩
    · have hgd := goodF hs
      obtain ⟨e1, e2⟩ := runR_yes h1 hs
      rw [e1, e2]
      rw [hs] at HOK
      have hfw : FW w f v2 v3 v4 := ⟨h2, h3, h4⟩
      have n1 := hgd.n1
      rcases h2.open with ⟨hnil, _⟩ | ⟨b2, o2, c2, rfl, _, _, _, _⟩
      · have e : f.states.length = 0 := by rw [hnil]; rfl
        omega
      rcases h3.open with ⟨hnil, _⟩ | ⟨b3, o3, c3, rfl, _, _, _, _⟩
      · have e : f.next.length = 0 := by rw [hnil]; rfl
        have := hgd.l3
        omega
      rcases h4.open with ⟨hnil, _⟩ | ⟨b4, o4, c4, rfl, _, _, _, _⟩
      · have e : f.outs.length = 0 := by rw [hnil]; rfl
        have := hgd.l4
        omega
      rw [hgd.l3, hgd.l4] at hfw HOK ⊢
      obtain ⟨az, cz, rfl⟩ := hz.slice
      exact iRunYes f zs _ _ c2 c3 c4 b2 o2 b3 o3 b4 o4 _ cz az w hgd rfl hfw hz rfl h1 (unhide HOK)
  · have e1 : (runR f zs).1 = [] ∧ (runR f zs).2 = 2 := by unfold runR; rw [if_pos (by omega)]; exact ⟨rfl, rfl⟩
    rw [e1.1, e1.2]
    obtain ⟨a2, c2, rfl⟩ := h2.slice
    obtain ⟨a3, c3, rfl⟩ := h3.slice
    obtain ⟨a4, c4, rfl⟩ := h4.slice
    obtain ⟨az, cz, rfl⟩ := hz.slice
    have d0 : decide (4096 < (zs.length : Int)) = true := decide_eq_true (by omega)
    clear h2 h3 h4 hz e1 h1 HOK
    go_enter Try.func8, Try.ntmps8
    go_wp2
    refine bodyPost_ret (v := .tuple #[.slice none 0 0, .int .i64 2]) (by simp [results, Try.results8, go_sem]) rfl ⟨⟨.slice none 0 0, rfl, OT_nil _ _⟩, bal (brf w) _⟩
end Go.Proofs.Ytjbbjgoofenkpaa
