/- settle: each table, one behind another. -/
import Derived.Test.YtdmmbhemmbgcpabGreatGAC0
import Derived.Test.YtdmmbhemmbgcpabGreatGDD
import Derived.OwnWalk
import Derived.Test.YtdmmbhemmbgcpabGreatGN2
namespace Go.Proofs.YtdmmbhemmbgcpabGreat
open Go Go.RowKit Gs
set_option linter.unusedVariables false
set_option linter.unusedSimpArgs false
set_option maxRecDepth 100000
def FS10 (b g n FA k p t r : Nat) : Nat → Value → Prop
  | 0, v => v = .pointer (some ⟨b, 0, none⟩)
  | 1, v => v = .pointer (some ⟨b, 0, none⟩)
  | 2, v => v = .pointer (some ⟨b, 6, none⟩)
  | 3, v => v = .slice (some ⟨g, 0, none⟩) n n
  | 4, v => v = .int .i64 (FA : Int)
  | 5, v => v = .int .i64 (k : Int)
  | 6, v => v = .int .i64 ((FA : Int) + (k : Int))
  | 7, v => v = .pointer (some ⟨p, 1, none⟩)
  | 8, v => v = .int .i64 (t : Int)
  | 9, v => v = .int .i64 (r : Int)
  | 10, v => v = .int .i64 ((t : Int) / 2 ^ r)
  | 11, v => v = .int .i64 (b2i (t.testBit r))
  | 12, v => v = .pointer (some ⟨g, FA + k, none⟩)
  | 13, v => True
  | _, _ => True
/-- The tables' sources stand ahead of them; their tables have as many bits as told. -/
def LO4 (FA : Nat) (xs : List Lut) : Prop := ∀ (i : Nat) x, xs[i]? = some x → x.inp.length ≤ 4 ∧ 0 ≤ x.table ∧ x.table < 65536 ∧ ∀ (j : Nat) y, x.inp[j]? = some y → 0 ≤ y ∧ y < ((FA + i : Nat) : Int)
theorem rowN_pre {vs r : List Bool} {xs : List Int} (h : ∀ (j : Nat) y, xs[j]? = some y → 0 ≤ y ∧ y < (vs.length : Int)) : ∀ k, k ≤ xs.length → rowN (vs ++ r) xs k = rowN vs xs k
  | 0, _ => rfl
  | k + 1, hk => by
    have hx : xs[k]? = some xs[k] := List.getElem?_eq_getElem (by omega)
    have := h k _ hx
    have hg : xs.getD k 0 = xs[k] := by rw [List.getD_eq_getElem?_getD, hx]; rfl
    rw [rowN, rowN, rowN_pre h k (by omega), hg, srcV_pre this.2 this.1]
theorem rowN_le {vs : List Bool} {xs : List Int} {k : Nat} (h : k ≤ 4) : rowN vs xs k < 16 := by
  have := rowN_lt vs xs k
  have h2 : (2 : Nat) ^ k ≤ 2 ^ 4 := Nat.pow_le_pow_right (by decide) h
  omega
theorem or_all : ∀ m : Fin 4, ∀ r : Fin 8, r.val < 2 ^ m.val → ∀ y : Bool, bits BinOp.or IntKind.i64 (r.val : Int) (wrap64 (b2i y * 2 ^ m.val)) = ((r.val + (if y then 2 ^ m.val else 0) : Nat) : Int) := by decide +kernel
theorem or_step {m r : Nat} {y : Bool} (hm : m < 4) (hr : r < 2 ^ m) : bits BinOp.or IntKind.i64 (r : Int) (wrap64 (b2i y * 2 ^ m)) = ((r + (if y then 2 ^ m else 0) : Nat) : Int) := by
  have h8 : r < 8 := by
    have : (2 : Nat) ^ m ≤ 2 ^ 3 := Nat.pow_le_pow_right (by decide) (by omega)
    omega
  exact or_all ⟨m, hm⟩ ⟨r, h8⟩ hr y
theorem ofInt_i64 (a : Nat) (ha : a < 18446744073709551616) : (BitVec.ofInt 64 (a : Int)).toNat = a := by
  rw [BitVec.ofInt_natCast, BitVec.toNat_ofNat]; exact Nat.mod_eq_of_lt (by omega)
theorem i64_and_nat (a b : Nat) (ha : a < 65536) (hb : b < 65536) : bits .and .i64 (a : Int) (b : Int) = ((a &&& b : Nat) : Int) := by
  have hx : a &&& b < 2 ^ 16 := Nat.and_lt_two_pow _ (by omega)
  show IntKind.i64.wrap ((BitVec.ofInt 64 (a : Int) &&& BitVec.ofInt 64 (b : Int)).toNat : Int) = _
  rw [BitVec.toNat_and, ofInt_i64 a (by omega), ofInt_i64 b (by omega), IntKind.wrap_i64]
  omega
theorem and_one {t : Nat} (ht : t < 65536) (r : Nat) : bits BinOp.and IntKind.i64 ((t : Int) / 2 ^ r) 1 = b2i (t.testBit r) := by
  have e : (t : Int) / 2 ^ r = ((t / 2 ^ r : Nat) : Int) := by push_cast; rfl
  have hl : t / 2 ^ r < 65536 := Nat.lt_of_le_of_lt (Nat.div_le_self _ _) ht
  rw [e, show (1 : Int) = ((1 : Nat) : Int) from rfl, i64_and_nat _ _ hl (by decide), Nat.and_one_is_mod, Nat.testBit_eq_decide_div_mod_eq]
  rcases Nat.mod_two_eq_zero_or_one (t / 2 ^ r) with h | h <;> rw [h] <;> rfl
set_option maxHeartbeats 16000000 in
theorem iSettle {b g l0 l2 c0 c2 : Nat} {s0 s2 : Option Addr} {W0 W : World} {p1 p4 p5 v3 : Value} {base junk : List Bool} (h : Ob W0.heap.size W b g [.slice s0 l0 c0, p1, .slice s2 l2 c2, v3, p4, p5] (base ++ junk)) (xs : List Lut) (hr : RS 2 RLut W0 0 xs v3) (hB : Below W0.heap.size W0 W)
    (hl0 : l0 ≤ 1048576) (hl2 : l2 ≤ 1048576) (hl3 : xs.length ≤ 1048576) (hbl : base.length = l0 + l2) (hjl : junk.length = xs.length) (hao : LO4 base.length xs) :
    Calls Tryz.prog 128 #[.pointer (some ⟨b, 0, none⟩)] W fun e w' => e = .returned (.tuple #[]) ∧ Ob W0.heap.size w' b g [.slice s0 l0 c0, p1, .slice s2 l2 c2, v3, p4, p5] (lutsV base xs) ∧ Fx g W w' := by
  obtain ⟨s3, c3, rfl⟩ := hr.slice
  have HCS := hide (lut_cells hr)
  clear hr
  have HFI := hide (iFirst s0 s2 l0 l2 c0 c2 p1 (.slice s3 xs.length c3) p4 p5 W hl0 hl2)
  obtain ⟨q0, q1, q2, q3, q4, q5, q6⟩ := h.cells
  rw [← hbl] at HFI
  have HAO := hide hao
  obtain ⟨FA, hFA⟩ : ∃ FA : Nat, FA = base.length := ⟨_, rfl⟩
  rw [← hFA] at HFI HAO hbl
  have hFb : FA ≤ 2097153 := by omega
  have HFA := hide hFA
  have HBL := hide hbl
  clear hao hFA hbl
  have HH := hide h
  have HB := hide hB
  clear h hB
  go_enter Tryz.func128, Tryz.ntmps128
  go_wp2_with fail
  refine (unhide HFI).mono ?_
  rintro e W1 ⟨rfl, hb1⟩
  have HB1 := hide hb1
  have k0 := cell_later hb1 q0
  have k1 := cell_later hb1 q1
  have k2 := cell_later hb1 q2
  have k3 := cell_later hb1 q3
  clear hb1 q0 q1 q2 q3 q4 q5 q6 HFI
  go_wp2_with fail
  clear k0 k1 k2 k3
  go_loopw [19] (fun i wr => ∃ k : Nat, k ≤ xs.length ∧ i = .int .i64 k ∧ Ob W0.heap.size wr b g [.slice s0 l0 c0, p1, .slice s2 l2 c2, .slice s3 xs.length c3, p4, p5] (lutsV base (xs.take k) ++ junk.drop k) ∧ Fx g W wr) (fun i wr => xs.length - (intOf i).toNat)
  case atStart => exact ⟨0, Nat.zero_le _, rfl, (unhide HH).later (unhide HB1), Fx.of (unhide HB1)⟩
  case round =>
    obtain ⟨k, hk, rfl, ho, hf⟩ := hrel
    by_cases hlt : k < xs.length
    · have hx : xs[k]? = some xs[k] := List.getElem?_eq_getElem hlt
      generalize xs[k] = x at hx
      obtain ⟨bb, oo, ya, yn, rfl, hc0, hc1, hcy⟩ := unhide HCS k x hx
      obtain ⟨hi4, ht0, ht1, hin⟩ := unhide HAO k x hx
      have hbw : Below W0.heap.size W0 wr := hf.below (unhide HB) (unhide HH).hg (by have := (unhide HB).size; omega)
      have k0 := cell_later hbw hc0
      have k1 := cell_later hbw hc1
      have hal : (lutsV base (xs.take k)).length = FA + k := by rw [lutsV_len, List.length_take, unhide HFA]; omega
      have hlen : (lutsV base (xs.take k) ++ junk.drop k).length = FA + xs.length := by rw [List.length_append, hal, List.length_drop]; omega
      obtain ⟨B1, hW1⟩ : ∃ B1, B1 = wr.alloc (.cells #[.slice ya x.inp.length yn, .int .i64 x.table] 134) := ⟨_, rfl⟩
      have hbB : Below wr.heap.size wr B1 := by rw [hW1]; exact bal (brf wr) _
      have hoB := ho.later hbB
      obtain ⟨_, _, _, _, _, _, q6⟩ := hoB.cells
      rw [hlen] at q6
      have H6 := hide q6
      obtain ⟨t, ht⟩ : ∃ t : Nat, x.table = (t : Int) := ⟨x.table.toNat, by omega⟩
      rw [ht] at hW1 k1 ht1
      have HA0 := hide (show B1.cell? ⟨wr.heap.size, 0, none⟩ = some (.slice ya x.inp.length yn) by rw [hW1, World.cell?_alloc_new]; rfl)
      have HA1 := hide (show B1.cell? ⟨wr.heap.size, 1, none⟩ = some (.int .i64 (t : Int)) by rw [hW1, World.cell?_alloc_new]; rfl)
      have HY : Hid (∃ y, B1.cell? ⟨g, FA + k, none⟩ = some (.int .i64 (b2i y)) ∧ B1.frozen? ⟨g, FA + k, none⟩ = false) := hide (by
        have hl3 : FA + k < (lutsV base (xs.take k) ++ junk.drop k).length := by rw [hlen]; omega
        exact ⟨_, hoB.vals (FA + k) _ (List.getElem?_eq_getElem hl3)⟩)
      have HST : Hid ((lutsV base (xs.take k) ++ junk.drop k).set (FA + k) (t.testBit (rowN (lutsV base (xs.take k)) x.inp x.inp.length)) = lutsV base (xs.take (k + 1)) ++ junk.drop (k + 1)) := hide (by
        rw [lutsV_step base hx, List.set_append_right _ _ (by omega), hal, Nat.sub_self, List.drop_eq_getElem_cons (by omega : k < junk.length), List.set_cons_zero, List.append_assoc]
        unfold lutV
        rw [ht]
        rfl)
      have HYC : Hid (∀ (j : Nat) y, x.inp[j]? = some y → ∃ (p : Nat) (b' o' : Nat), y = (p : Int) ∧ p < FA + k ∧ ya = some ⟨b', o', none⟩ ∧ B1.cell? ⟨b', o' + j, none⟩ = some (.int .i64 y) ∧ B1.cell? ⟨g, p, none⟩ = some (.int .i64 (b2i (srcV (lutsV base (xs.take k)) y)))) := hide (by
        intro j y hj
        obtain ⟨y0, y1⟩ := hin j y hj
        obtain ⟨b', o', e1, hcj⟩ := hcy j y hj
        obtain ⟨p, hp, hpl, hpc⟩ := hoB.src y y0 (by rw [hlen]; omega)
        rw [srcV_pre (by rw [hal]; exact y1) y0] at hpc
        exact ⟨p, b', o', hp, by omega, e1, cell_later hbB (cell_later hbw hcj), hpc⟩)
      have HO := hide hoB
      have HF := hide (hf.trans (Fx.of (g := g) hbB))
      have HW1 := hide hW1
      have i1 : (FA : Int) + (k : Int) < ((FA + xs.length : Nat) : Int) := by omega
      have i0 : (0 : Int) ≤ (FA : Int) + (k : Int) := by omega
      have HWR : Hid (IntKind.i64.wrap ((FA : Int) + (k : Int)) = (FA : Int) + (k : Int)) := hide (by rw [IntKind.wrap_i64]; omega)
      clear ho hf hbw hc0 hc1 HCS hx hlen hal hbB hoB q6 hW1 hin hcy ht0 ht
      generalize lutsV base (xs.take k) = vs at *
      generalize x.inp = ys at *
      have hn : FA + k < FA + xs.length := by omega
      generalize FA + xs.length = n at *
      go_wp2_with fail
      rw [← unhide HW1]
      have a0 := unhide HA0
      have a6 := unhide H6
      clear k0 k1
      go_wp2_with fail
      go_loop [5, 27] (fun r i => ∃ m : Nat, m ≤ ys.length ∧ i = .int .i64 m ∧ r = .int .i64 ((rowN vs ys m : Nat) : Int)) (fun _ i => ys.length - (intOf i).toNat)
      case atStart => exact ⟨0, Nat.zero_le _, rfl, rfl⟩
      case round =>
        obtain ⟨m, hm, rfl, rfl⟩ := hrel
        by_cases hlm : m < ys.length
        · have hy : ys[m]? = some ys[m] := List.getElem?_eq_getElem hlm
          have hgd : ys.getD m 0 = ys[m] := by rw [List.getD_eq_getElem?_getD, hy]; rfl
          have HSM : Hid (rowN vs ys (m + 1) = rowN vs ys m + (if srcV vs ys[m] then 2 ^ m else 0)) := hide (by rw [rowN, hgd])
          have hrl := rowN_lt vs ys m
          generalize ys[m] = z at hy HSM
          obtain ⟨p, b', o', rfl, hp, rfl, hz, hv⟩ := unhide HYC m _ hy
          have r1 : (m : Int) < (ys.length : Int) := by omega
          have r2 : (p : Int) < (n : Int) := by omega
          have r3 : (0 : Int) ≤ (m : Int) := by omega
          have m4 : m < 4 := by omega
          clear hy hgd HYC
          generalize srcV vs (p : Int) = y at *
          generalize rowN vs ys m = r at *
          go_wp2_with fail
          go_round
          case rel => exact ⟨m + 1, by omega, by go_num, by rw [unhide HSM, or_step m4 hrl]⟩
          case measure => simp [intOf]; omega
        · obtain rfl : m = ys.length := by omega
          have hrb := rowN_le (vs := vs) (xs := ys) hi4
          clear HYC
          generalize rowN vs ys ys.length = r at *
          have HSH : Hid (True) := hide (trivial)
          have HAN : Hid (bits BinOp.and IntKind.i64 ((t : Int) / 2 ^ r) 1 = b2i (t.testBit r)) := hide (and_one (by omega) r)
          go_wp2_with fail
          refine wp_plan (GF (FS10 b g n FA k wr.heap.size t r)) (JE B1 13 (fun V => ∃ V0, Below B1.heap.size B1 V0 ∧ V = V0.setCell ⟨g, FA + k, none⟩ (.int .i64 (b2i (t.testBit r))))) (by kernel_rfl) 58 (by kernel_rfl) (by kernel_rfl) ?hj ?hs ?hf
          case hj => exact JE.start (bdr (brf B1))
          case hs =>
            refine ⟨?_, ?_, ?_, ?_, ?_, ?_, ?_, ?_, ?_, ?_, ?_, ?_, ?_, ?_, trivial⟩
            · exact se_val (by decide) (by kernel_rfl) rfl (fun l a V hp hB ha => ⟨.pointer (some ⟨b, 0, none⟩), by
                have x0 := (ev_form a 0).trans (old hp 0 (v := .pointer (some ⟨b, 0, none⟩)) (by kernel_rfl) (by kernel_rfl))
                go_simp, rfl⟩)
            · exact se_val (by decide) (by kernel_rfl) rfl (fun l a V hp hB ha => ⟨.pointer (some ⟨b, 0, none⟩), by
                have x44 := (ev_form a 44).trans (show a.eval (.tmp 44) = .pointer (some ⟨b, 0, none⟩) from kn hp ha 44 0 (by kernel_rfl) (by kernel_rfl))
                go_simp, rfl⟩)
            · exact se_val (by decide) (by kernel_rfl) rfl (fun l a V hp hB ha => ⟨.pointer (some ⟨b, 6, none⟩), by
                have x45 := (ev_form a 45).trans (show a.eval (.tmp 45) = .pointer (some ⟨b, 0, none⟩) from kn hp ha 45 1 (by kernel_rfl) (by kernel_rfl))
                go_simp, rfl⟩)
            · exact se_val (by decide) (by kernel_rfl) rfl (fun l a V hp hB ha => ⟨.slice (some ⟨g, 0, none⟩) n n, by
                have x46 := (ev_form a 46).trans (show a.eval (.tmp 46) = .pointer (some ⟨b, 6, none⟩) from kn hp ha 46 2 (by kernel_rfl) (by kernel_rfl))
                have m6 := cell_later hB (unhide H6)
                go_simp, rfl⟩)
            · exact se_val (by decide) (by kernel_rfl) rfl (fun l a V hp hB ha => ⟨.int .i64 (FA : Int), by
                have x2 := (ev_form a 2).trans (old hp 2 (v := .int .i64 (FA : Int)) (by kernel_rfl) (by kernel_rfl))
                go_simp, rfl⟩)
            · exact se_val (by decide) (by kernel_rfl) rfl (fun l a V hp hB ha => ⟨.int .i64 (k : Int), by
                have x3 := (ev_form a 3).trans (old hp 3 (v := .int .i64 (k : Int)) (by kernel_rfl) (by kernel_rfl))
                go_simp, rfl⟩)
            · exact se_val (by decide) (by kernel_rfl) rfl (fun l a V hp hB ha => ⟨.int .i64 ((FA : Int) + (k : Int)), by
                have x48 := (ev_form a 48).trans (show a.eval (.tmp 48) = .int .i64 (FA : Int) from kn hp ha 48 4 (by kernel_rfl) (by kernel_rfl))
                have x49 := (ev_form a 49).trans (show a.eval (.tmp 49) = .int .i64 (k : Int) from kn hp ha 49 5 (by kernel_rfl) (by kernel_rfl))
                have hw := unhide HWR
                go_simp, rfl⟩)
            · exact se_val (by decide) (by kernel_rfl) rfl (fun l a V hp hB ha => ⟨.pointer (some ⟨wr.heap.size, 1, none⟩), by
                have x4 := (ev_form a 4).trans (old hp 4 (v := .pointer (some ⟨wr.heap.size, 0, none⟩)) (by kernel_rfl) (by kernel_rfl))
                go_simp, rfl⟩)
            · exact se_val (by decide) (by kernel_rfl) rfl (fun l a V hp hB ha => ⟨.int .i64 (t : Int), by
                have x51 := (ev_form a 51).trans (show a.eval (.tmp 51) = .pointer (some ⟨wr.heap.size, 1, none⟩) from kn hp ha 51 7 (by kernel_rfl) (by kernel_rfl))
                have m1 := cell_later hB (unhide HA1)
                go_simp, rfl⟩)
            · exact se_val (by decide) (by kernel_rfl) rfl (fun l a V hp hB ha => ⟨.int .i64 (r : Int), by
                have x5 := (ev_form a 5).trans (old hp 5 (v := .int .i64 (r : Int)) (by kernel_rfl) (by kernel_rfl))
                go_simp, rfl⟩)
            · exact se_val (by decide) (by kernel_rfl) rfl (fun l a V hp hB ha => ⟨.int .i64 ((t : Int) / 2 ^ r), by
                have x52 := (ev_form a 52).trans (show a.eval (.tmp 52) = .int .i64 (t : Int) from kn hp ha 52 8 (by kernel_rfl) (by kernel_rfl))
                have x53 := (ev_form a 53).trans (show a.eval (.tmp 53) = .int .i64 (r : Int) from kn hp ha 53 9 (by kernel_rfl) (by kernel_rfl))
                have hsh := unhide HSH
                go_simp, rfl⟩)
            · exact se_val (by decide) (by kernel_rfl) rfl (fun l a V hp hB ha => ⟨.int .i64 (b2i (t.testBit r)), by
                have x54 := (ev_form a 54).trans (show a.eval (.tmp 54) = .int .i64 ((t : Int) / 2 ^ r) from kn hp ha 54 10 (by kernel_rfl) (by kernel_rfl))
                have han := unhide HAN
                go_simp, rfl⟩)
            · exact se_val (by decide) (by kernel_rfl) rfl (fun l a V hp hB ha => ⟨.pointer (some ⟨g, FA + k, none⟩), by
                have x47 := (ev_form a 47).trans (show a.eval (.tmp 47) = .slice (some ⟨g, 0, none⟩) n n from kn hp ha 47 3 (by kernel_rfl) (by kernel_rfl))
                have x50 := (ev_form a 50).trans (show a.eval (.tmp 50) = .int .i64 ((FA : Int) + (k : Int)) from kn hp ha 50 6 (by kernel_rfl) (by kernel_rfl))
                go_simp, rfl⟩)
            · refine se_last rfl (fun l a V hp hB ha => ?_) trivial
              have x56 := (ev_form a 56).trans (show a.eval (.tmp 56) = .pointer (some ⟨g, FA + k, none⟩) from kn hp ha 56 12 (by kernel_rfl) (by kernel_rfl))
              have x55 := (ev_form a 55).trans (show a.eval (.tmp 55) = .int .i64 (b2i (t.testBit r)) from kn hp ha 55 11 (by kernel_rfl) (by kernel_rfl))
              obtain ⟨y', hy, hfz⟩ := unhide HY
              have m1 := cell_later hB hy
              have m2 := frozen_later hB hy hfz
              exact ⟨V.setCell ⟨g, FA + k, none⟩ (.int .i64 (b2i (t.testBit r))), by go_simp, ⟨V, hB, rfl⟩⟩
          case hf =>
            intro l a V hp hall
            obtain ⟨V0, hV0, hV⟩ := hp.j.2 (hall 13 (by decide))
            obtain ⟨us, rfl, hus⟩ := putAll_of [44, 45, 46, 47, 48, 49, 50, 51, 52, 53, 54, 55, 56] hp.nt hp.df (fun t ht => hp.keep t (dstIn (by kernel_rfl) ht))
            clear hp hall hus
            simp only [putAll, List.foldl, Act.put, List.setIfInBounds_toArray, List.set_cons_zero, List.set_cons_succ]
            generalize us 44 = y44 at *
            generalize us 45 = y45 at *
            generalize us 46 = y46 at *
            generalize us 47 = y47 at *
            generalize us 48 = y48 at *
            generalize us 49 = y49 at *
            generalize us 50 = y50 at *
            generalize us 51 = y51 at *
            generalize us 52 = y52 at *
            generalize us 53 = y53 at *
            generalize us 54 = y54 at *
            generalize us 55 = y55 at *
            generalize us 56 = y56 at *
            have HO2 := hide (((unhide HO).later hV0).set (FA + k) (t.testBit r))
            have HF2 := hide (((unhide HF).trans (Fx.of (g := g) hV0)).trans (Fx.set g (FA + k) V0 (.int .i64 (b2i (t.testBit r)))))
            rw [unhide HST, ← hV] at HO2
            rw [← hV] at HF2
            clear hV hV0
            go_wp2_with fail
            go_roundw
            case rel => exact ⟨k + 1, by omega, by go_num, unhide HO2, unhide HF2⟩
            case measure => simp [intOf]; omega
    · obtain rfl : k = xs.length := by omega
      rw [List.take_of_length_le (Nat.le_refl _), List.drop_of_length_le (by omega), List.append_nil] at ho
      have HO := hide ho
      have HF := hide hf
      clear ho hf HCS
      go_wp2
      exact bodyPost_end (v := .tuple #[]) (by simp [results, Tryz.results128, go_sem]) rfl ⟨rfl, unhide HO, unhide HF⟩
end Go.Proofs.YtdmmbhemmbgcpabGreat
namespace Go.Proofs.YtdmmbhemmbgcpabGreat
open Go.RowKit Gs
set_option linter.unusedVariables false
set_option maxRecDepth 100000
def OL (B : Nat) (W : World) (v : Value) (xs : List Bool) : Prop := W.ownsRow B 4 1 v xs.length (xs.map fun x => Value.bool x)
theorem OL_nil (B : Nat) (W : World) : OL B W (.slice none 0 0) [] := World.ownsRow_nil _ _ _ _
theorem OL.later {B : Nat} {v : Value} {xs : List Bool} {W W' : World} (h : OL B W v xs) (hb : Below W.heap.size W W') : OL B W' v xs := by
  obtain ⟨h1, h2 | ⟨g, cap, cur, hv, hg, hc, rest⟩⟩ := h
  · exact ⟨h1, .inl h2⟩
  · exact ⟨h1, .inr ⟨g, cap, cur, hv, hg, (hb.block g (Array.getElem?_eq_some_iff.1 hc).1).trans hc, rest⟩⟩
theorem OL.alloc {B : Nat} {v : Value} {xs : List Bool} {W : World} (h : OL B W v xs) (o : Obj) : OL B (W.alloc o) v xs := World.ownsRow.alloc h o
theorem OL.row {B : Nat} {v : Value} {xs : List Bool} {W : World} (h : OL B W v xs) : ∀ j, v.ownBlock = some j → B ≤ j := fun j hj => (World.ownsRow.lt h j hj).1
theorem OL.shape {B : Nat} {v : Value} {xs : List Bool} {W : World} (h : OL B W v xs) : ∃ a l c, v = .slice a l c := by
  rcases h.2 with ⟨rfl, _⟩ | ⟨g, cap, cur, rfl, _⟩
  · exact ⟨_, _, _, rfl⟩
  · exact ⟨_, _, _, rfl⟩
theorem OL.step {B : Nat} {v : Value} {xs : List Bool} {W : World} {x : Bool} (h : W.ownsRow B 4 1 v (xs.length + 1) ((xs.map fun x => Value.bool x) ++ [.bool x])) : OL B W v (xs ++ [x]) := by
  unfold OL
  rw [List.length_append, List.map_append]
  exact h
theorem OL.read {B : Nat} {v : Value} {xs : List Bool} {W : World} (h : OL B W v xs) (hl : xs.length ≤ maxLen) : RS 1 RBool W B xs v := by
  have hc := fun g hg => World.ownsRow.cells h (g := g) hg
  rcases h.2 with ⟨rfl, hn⟩ | ⟨g, cap, cur, rfl, hb, hg, hlc, hm, _⟩
  · have : xs = [] := List.length_eq_zero_iff.1 hn
    subst this
    exact RS.nil _ _ _ _ _ _
  · refine ⟨_, _, rfl, hlc, hl, fun _ => ⟨g, 0, rfl, hb, fun i x hx => ?_⟩⟩
    refine ⟨[.bool x], rfl, fun j y hj => ?_, rfl⟩
    have hj0 : j = 0 := by
      cases j with
      | zero => rfl
      | succ j => simp at hj
    subst hj0
    simp at hj
    subst hj
    have := hc g rfl i (.bool x) (by rw [List.getElem?_map, hx]; rfl)
    rw [Addr.add_lit] at this
    simpa using this
theorem info4 : (Tryz.prog.info? 4).map (fun i => (i.zero, i.size, i.bytes)) = some (some (.bool false), 1, 1) := by kernel_rfl
theorem newL (W : World) (x : Bool) (g : Nat) (hg : g = W.heap.size) : ∀ j u, [Value.bool x][j]? = some u → (W.alloc (.cells #[.bool x] 4)).cell? ((⟨g, 0, none⟩ : Addr).add j) = some u := by
  intro j u h
  subst hg
  match j, h with
  | 0, h => simp at h; subst h; simp [Addr.add]
  | j + 1, h => simp at h
theorem oneL (x : Bool) : ∀ u ∈ [Value.bool x], u.oneCell' = true := by
  intro u hu; simp at hu; subst hu; rfl
theorem OL_start {W : World} {B M : Nat} (hM : W.heap.size = M) (h : B ≤ M) : OL B (W.alloc (.cells #[] 4)) (.slice (some ⟨M, 0, none⟩) 0 0) [] := by
  subst hM
  exact ⟨rfl, .inr ⟨W.heap.size, 0, #[], rfl, h, heap_alloc_new W _, Nat.le_refl _, Nat.zero_le _, rfl, rfl⟩⟩
end Go.Proofs.YtdmmbhemmbgcpabGreat
namespace Go.Proofs.YtdmmbhemmbgcpabGreat
open Go.RowKit Gs
set_option linter.unusedVariables false
set_option maxRecDepth 100000
def OT (B : Nat) (W : World) (v : Value) (xs : List ByteArray) : Prop := W.ownsRow B 9 1 v xs.length (xs.map fun x => Value.string x) ∧ ∀ x ∈ xs, x.size ≤ maxLen
theorem OT_nil (B : Nat) (W : World) : OT B W (.slice none 0 0) [] := ⟨World.ownsRow_nil _ _ _ _, fun x h => by cases h⟩
theorem OT.later {B : Nat} {v : Value} {xs : List ByteArray} {W W' : World} (h : OT B W v xs) (hb : Below W.heap.size W W') : OT B W' v xs := by
  obtain ⟨⟨h1, h2 | ⟨g, cap, cur, hv, hg, hc, rest⟩⟩, h3⟩ := h
  · exact ⟨⟨h1, .inl h2⟩, h3⟩
  · exact ⟨⟨h1, .inr ⟨g, cap, cur, hv, hg, (hb.block g (Array.getElem?_eq_some_iff.1 hc).1).trans hc, rest⟩⟩, h3⟩
theorem OT.alloc {B : Nat} {v : Value} {xs : List ByteArray} {W : World} (h : OT B W v xs) (o : Obj) : OT B (W.alloc o) v xs := ⟨World.ownsRow.alloc h.1 o, h.2⟩
theorem OT.row {B : Nat} {v : Value} {xs : List ByteArray} {W : World} (h : OT B W v xs) : ∀ j, v.ownBlock = some j → B ≤ j := fun j hj => (World.ownsRow.lt h.1 j hj).1
theorem OT.shape {B : Nat} {v : Value} {xs : List ByteArray} {W : World} (h : OT B W v xs) : ∃ a l c, v = .slice a l c := by
  rcases h.1.2 with ⟨rfl, _⟩ | ⟨g, cap, cur, rfl, _⟩
  · exact ⟨_, _, _, rfl⟩
  · exact ⟨_, _, _, rfl⟩
theorem OT.step {B : Nat} {v : Value} {xs : List ByteArray} {W : World} {x : ByteArray} (h : W.ownsRow B 9 1 v (xs.length + 1) ((xs.map fun x => Value.string x) ++ [.string x])) (hs : ∀ y ∈ xs, y.size ≤ maxLen) (hx : x.size ≤ maxLen) : OT B W v (xs ++ [x]) := by
  refine ⟨?_, fun y hy => ?_⟩
  · rw [List.length_append, List.map_append]
    exact h
  · rcases List.mem_append.1 hy with h | h
    · exact hs y h
    · simp at h; subst h; exact hx
theorem OT.low {B B' : Nat} {v : Value} {xs : List ByteArray} {W : World} (hB : B ≤ B') (h : OT B' W v xs) : OT B W v xs := by
  obtain ⟨⟨h1, h2 | ⟨g, cap, cur, hv, hg, rest⟩⟩, h3⟩ := h
  · exact ⟨⟨h1, .inl h2⟩, h3⟩
  · exact ⟨⟨h1, .inr ⟨g, cap, cur, hv, Nat.le_trans hB hg, rest⟩⟩, h3⟩
theorem OT.read {B : Nat} {v : Value} {xs : List ByteArray} {W : World} (h : OT B W v xs) (hl : xs.length ≤ maxLen) : RS 1 RStr W B xs v := by
  have hc := fun g hg => World.ownsRow.cells h.1 (g := g) hg
  have h3 := h.2
  rcases h.1.2 with ⟨rfl, hn⟩ | ⟨g, cap, cur, rfl, hb, hg, hlc, hm, _⟩
  · have : xs = [] := List.length_eq_zero_iff.1 hn
    subst this
    exact RS.nil _ _ _ _ _ _
  · refine ⟨_, _, rfl, hlc, hl, fun _ => ⟨g, 0, rfl, hb, fun i x hx => ?_⟩⟩
    refine ⟨[.string x], rfl, fun j y hj => ?_, rfl, h3 x (List.mem_of_getElem? hx)⟩
    have hj0 : j = 0 := by
      cases j with
      | zero => rfl
      | succ j => simp at hj
    subst hj0
    simp at hj
    subst hj
    have := hc g rfl i (.string x) (by rw [List.getElem?_map, hx]; rfl)
    rw [Addr.add_lit] at this
    simpa using this

theorem newT (W : World) (x : ByteArray) (g : Nat) (hg : g = W.heap.size) : ∀ j u, [Value.string x][j]? = some u → (W.alloc (.cells #[.string x] 9)).cell? ((⟨g, 0, none⟩ : Addr).add j) = some u := by
  intro j u h
  subst hg
  match j, h with
  | 0, h => simp at h; subst h; simp [Addr.add]
  | j + 1, h => simp at h
theorem oneT (x : ByteArray) : ∀ u ∈ [Value.string x], u.oneCell' = true := by
  intro u hu; simp at hu; subst hu; rfl
theorem OT_start {W : World} {B M : Nat} (hM : W.heap.size = M) (h : B ≤ M) : OT B (W.alloc (.cells #[] 9)) (.slice (some ⟨M, 0, none⟩) 0 0) [] := by
  subst hM
  exact ⟨⟨rfl, .inr ⟨W.heap.size, 0, #[], rfl, h, heap_alloc_new W _, Nat.le_refl _, Nat.zero_le _, rfl, rfl⟩⟩, fun x h => by cases h⟩
end Go.Proofs.YtdmmbhemmbgcpabGreat
namespace Go.Proofs.YtdmmbhemmbgcpabGreat
open Go.RowKit Gs
set_option linter.unusedVariables false
set_option maxRecDepth 100000
theorem txt1_size (b : Bool) : (txt1 b).size ≤ maxLen := by cases b <;> decide
set_option maxHeartbeats 1600000 in
theorem iListTold {p b g : Nat} {W0 w : World} {r0 r1 r2 r3 r4 r5 : Value} {vs : List Bool} (h : Ob W0.heap.size w b g [r0, r1, r2, r3, r4, r5] vs) (hpc : w.cell? ⟨p, 0, none⟩ = some (.pointer (some ⟨b, 0, none⟩))) (hvl : vs.length ≤ 1048576 * 8) (hBW : Below W0.heap.size W0 w) (xs : List Port) (v : Value) (hl : xs.length ≤ 1048576) (hr : RS 2 RPort W0 0 xs v) (hlit : ∀ x ∈ xs, 0 ≤ x.src ∧ x.src < (vs.length : Int)) :
    Calls Tryz.prog 90 #[v, .func (.func 131) #[] #[.pointer (some ⟨p, 0, none⟩)]] w fun e w' => (∃ v', e = .returned v' ∧ OT w.heap.size w' v' (xs.map (fun x : Port => txt1 (srcV vs x.src)))) ∧ Below w.heap.size w w' := by
  rcases hr.open with ⟨rfl, a, c, rfl⟩ | ⟨b, o, c, rfl, hc, hn, _, hcs⟩
  · clear hr h
    go_enter Tryz.func90, Tryz.ntmps90
    go_wp2
    refine wp_loop_rounds 1 ?_
    rw [rounds_succ]
    go_wp2
    exact bodyPost_ret (v := .slice none 0 0) (by simp [results, Tryz.results90, go_sem]) rfl ⟨⟨_, rfl, OT_nil _ _⟩, brf _⟩
  · unfold maxLen at hn
    have HC := hide hcs
    clear hcs hr
    obtain ⟨i0, hi, hz0, hz1, hz2⟩ := info_parts info9
    go_enter Tryz.func90, Tryz.ntmps90
    go_wp2
    go_loopw [5, 10] (fun v i wr => ∃ k : Nat, k ≤ xs.length ∧ i = .int .i64 k ∧ OT w.heap.size wr v ((xs.take k).map (fun x : Port => txt1 (srcV vs x.src))) ∧ Below w.heap.size w wr) (fun _ i _ => xs.length - (intOf i).toNat)
    case atStart => exact ⟨0, Nat.zero_le _, rfl, OT_nil _ _, brf _⟩
    case round =>
      obtain ⟨k, hk, rfl, hown, hb⟩ := hrel
      by_cases hlt : k < xs.length
      · have hx : xs[k]? = some xs[k] := List.getElem?_eq_getElem hlt
        have hst : (xs.take (k + 1)).map (fun x : Port => txt1 (srcV vs x.src)) = (xs.take k).map (fun x : Port => txt1 (srcV vs x.src)) ++ [txt1 (srcV vs xs[k].src)] := by
          rw [List.take_add_one, hx, List.map_append]; rfl
        have hlen : ((xs.take k).map (fun x : Port => txt1 (srcV vs x.src))).length = k := by rw [List.length_map, List.length_take]; omega
        have hmx := hlit _ (List.getElem_mem hlt)
        generalize xs[k] = x at hx hst hmx
        have HT : Hid (∀ V, Below wr.heap.size wr V → Calls Tryz.prog 131 #[.agg #[.string x.name, .int .i64 x.src], .pointer (some ⟨p, 0, none⟩)] V fun e w' => e = .returned (.string (txt1 (srcV vs x.src))) ∧ Below V.heap.size V w') := hide (fun V hV => iToldPort (h.later (btr hb hV)) (cell_later (btr hb hV) hpc) x.name x.src hmx.1 hmx.2 hvl)
        have HN := hide (txt1_size (srcV vs x.src))
        obtain ⟨u, hul, hat, hrx⟩ := unhide HC k x hx
        unfold RPort at hrx
        obtain ⟨rfl, hbn⟩ := hrx
        have k0 := cell_later (btr hBW hb) (hat.get (j := 0) rfl)
        have k1 := cell_later (btr hBW hb) (hat.get (j := 1) rfl)
        simp only [Nat.add_zero] at k0
        have hsz := hb.size
        have HB := hide hb
        have HST := hide hst
        have HO := hide hown
        have HLEN := hide hlen
        have HSZ := hide hsz
        clear hb hat hul HC hst hown hlen hsz hbn hmx h
        generalize hyv : txt1 (srcV vs x.src) = yv at *
        generalize hnm : x.name = nm at *
        generalize hq1 : x.src = z1 at *
        go_wp2_with (first
          | (go_at_call 131; refine (unhide HT _ (bal (brf wr) _)).mono ?_; rintro e W1 ⟨rfl, hb1⟩; have HO1 := hide ((unhide HO).later (btr (bal (brf wr) _) hb1)); have HB1 := hide (btr (bal (unhide HB) _) hb1); clear hb1)
          | (at_builtin; refine wpList_append_own _ rfl _ _ 22 rfl w.heap.size 9 i0 (.string ByteArray.empty) 1 16 Tryz.underlying22 hi hz0 hz1 hz2 rfl (by decide) _ _ _ rfl ((unhide HO1).1.alloc _) ⟨W1.heap.size, 0, none⟩ 1 1 [.string yv] rfl rfl (newT _ _ _ rfl) (oneT _) (by have := unhide HLEN; unfold maxLen; omega) (by have := unhide HLEN; omega) (by have := (unhide HB1).size; simp; omega) ?_; intro v' w2 hown' hgrow _)
          | go_in)
        have R1 : OT w.heap.size w2 v' ((xs.take (k + 1)).map (fun x : Port => txt1 (srcV vs x.src))) := by
          rw [unhide HST]; exact OT.step hown' (unhide HO1).2 (unhide HN)
        have R2 := below_grown (bal (unhide HB1) (.cells #[.string yv] 9)) hgrow (by have := (unhide HB1).size; simp; omega) ((unhide HO1).row)
        go_roundw
        case rel => exact ⟨k + 1, by omega, by go_num, R1, R2⟩
        case measure => simp [intOf]; omega
      · obtain rfl : k = xs.length := by omega
        rw [List.take_of_length_le (Nat.le_refl _)] at hown
        have HO := hide hown
        have HB := hide hb
        clear hown hb HC h
        go_wp2
        exact bodyPost_ret (v := u5) (by simp [results, Tryz.results90, go_sem]) rfl ⟨⟨_, rfl, unhide HO⟩, unhide HB⟩
set_option maxHeartbeats 1600000 in
theorem iListNext {p b g : Nat} {W0 w : World} {r0 r1 r2 r3 r4 r5 : Value} {vs : List Bool} (h : Ob W0.heap.size w b g [r0, r1, r2, r3, r4, r5] vs) (hpc : w.cell? ⟨p, 0, none⟩ = some (.pointer (some ⟨b, 0, none⟩))) (hvl : vs.length ≤ 1048576 * 8) (hBW : Below W0.heap.size W0 w) (xs : List MapReg) (v : Value) (hl : xs.length ≤ 1048576) (hr : RS 4 RMapReg W0 0 xs v) (hlit : ∀ x ∈ xs, 0 ≤ x.src ∧ x.src < (vs.length : Int)) :
    Calls Tryz.prog 133 #[v, .func (.func 134) #[] #[.pointer (some ⟨p, 0, none⟩)]] w fun e w' => (∃ v', e = .returned v' ∧ OI w.heap.size w' v' (xs.map (fun x : MapReg => b2i (srcV vs x.src)))) ∧ Below w.heap.size w w' := by
  rcases hr.open with ⟨rfl, a, c, rfl⟩ | ⟨b, o, c, rfl, hc, hn, _, hcs⟩
  · clear hr h
    go_enter Tryz.func133, Tryz.ntmps133
    go_wp2
    refine wp_loop_rounds 1 ?_
    rw [rounds_succ]
    go_wp2
    exact bodyPost_ret (v := .slice none 0 0) (by simp [results, Tryz.results133, go_sem]) rfl ⟨⟨_, rfl, OI_nil _ _⟩, brf _⟩
  · unfold maxLen at hn
    have HC := hide hcs
    clear hcs hr
    obtain ⟨i0, hi, hz0, hz1, hz2⟩ := info_parts info3
    go_enter Tryz.func133, Tryz.ntmps133
    go_wp2
    go_loopw [5, 10] (fun v i wr => ∃ k : Nat, k ≤ xs.length ∧ i = .int .i64 k ∧ OI w.heap.size wr v ((xs.take k).map (fun x : MapReg => b2i (srcV vs x.src))) ∧ Below w.heap.size w wr) (fun _ i _ => xs.length - (intOf i).toNat)
    case atStart => exact ⟨0, Nat.zero_le _, rfl, OI_nil _ _, brf _⟩
    case round =>
      obtain ⟨k, hk, rfl, hown, hb⟩ := hrel
      by_cases hlt : k < xs.length
      · have hx : xs[k]? = some xs[k] := List.getElem?_eq_getElem hlt
        have hst : (xs.take (k + 1)).map (fun x : MapReg => b2i (srcV vs x.src)) = (xs.take k).map (fun x : MapReg => b2i (srcV vs x.src)) ++ [b2i (srcV vs xs[k].src)] := by
          rw [List.take_add_one, hx, List.map_append]; rfl
        have hlen : ((xs.take k).map (fun x : MapReg => b2i (srcV vs x.src))).length = k := by rw [List.length_map, List.length_take]; omega
        have hmx := hlit _ (List.getElem_mem hlt)
        generalize xs[k] = x at hx hst hmx
        have HT : Hid (∀ V, Below wr.heap.size wr V → Calls Tryz.prog 134 #[.agg #[.string x.name, .int .i64 x.src, .int .i64 x.init, .int .i64 x.clock], .pointer (some ⟨p, 0, none⟩)] V fun e w' => e = .returned (.int .i64 (b2i (srcV vs x.src))) ∧ Below V.heap.size V w') := hide (fun V hV => iNextOf (h.later (btr hb hV)) (cell_later (btr hb hV) hpc) x.name x.src x.init x.clock hmx.1 hmx.2 hvl)
        obtain ⟨u, hul, hat, hrx⟩ := unhide HC k x hx
        unfold RMapReg at hrx
        obtain ⟨rfl, hbn⟩ := hrx
        have k0 := cell_later (btr hBW hb) (hat.get (j := 0) rfl)
        have k1 := cell_later (btr hBW hb) (hat.get (j := 1) rfl)
        have k2 := cell_later (btr hBW hb) (hat.get (j := 2) rfl)
        have k3 := cell_later (btr hBW hb) (hat.get (j := 3) rfl)
        simp only [Nat.add_zero] at k0
        have hsz := hb.size
        have HB := hide hb
        have HST := hide hst
        have HO := hide hown
        have HLEN := hide hlen
        have HSZ := hide hsz
        clear hb hat hul HC hst hown hlen hsz hbn hmx h
        generalize hyv : b2i (srcV vs x.src) = yv at *
        generalize hnm : x.name = nm at *
        generalize hq1 : x.src = z1 at *
        generalize hq2 : x.init = z2 at *
        generalize hq3 : x.clock = z3 at *
        go_wp2_with (first
          | (go_at_call 134; refine (unhide HT _ (bal (brf wr) _)).mono ?_; rintro e W1 ⟨rfl, hb1⟩; have HO1 := hide ((unhide HO).later (btr (bal (brf wr) _) hb1)); have HB1 := hide (btr (bal (unhide HB) _) hb1); clear hb1)
          | (at_builtin; refine wpList_append_own _ rfl _ _ 64 rfl w.heap.size 3 i0 (.int .i64 0) 1 8 Tryz.underlying64 hi hz0 hz1 hz2 rfl (by decide) _ _ _ rfl ((unhide HO1).alloc _) ⟨W1.heap.size, 0, none⟩ 1 1 [.int .i64 yv] rfl rfl (newI _ _ _ rfl) (oneI _) (by have := unhide HLEN; unfold maxLen; omega) (by have := unhide HLEN; omega) (by have := (unhide HB1).size; simp; omega) ?_; intro v' w2 hown' hgrow _)
          | go_in)
        have R1 : OI w.heap.size w2 v' ((xs.take (k + 1)).map (fun x : MapReg => b2i (srcV vs x.src))) := by
          rw [unhide HST]; exact OI.step hown'
        have R2 := below_grown (bal (unhide HB1) (.cells #[.int .i64 yv] 3)) hgrow (by have := (unhide HB1).size; simp; omega) ((unhide HO1).row)
        go_roundw
        case rel => exact ⟨k + 1, by omega, by go_num, R1, R2⟩
        case measure => simp [intOf]; omega
      · obtain rfl : k = xs.length := by omega
        rw [List.take_of_length_le (Nat.le_refl _)] at hown
        have HO := hide hown
        have HB := hide hb
        clear hown hb HC h
        go_wp2
        exact bodyPost_ret (v := u5) (by simp [results, Tryz.results133, go_sem]) rfl ⟨⟨_, rfl, unhide HO⟩, unhide HB⟩
end Go.Proofs.YtdmmbhemmbgcpabGreat
