/- tick: the registers take what they are to be. -/
import Derived.Test.YtdmmbhemmbgcpabGreatGQ4
namespace Go.Proofs.YtdmmbhemmbgcpabGreat
open Go Go.RowKit Gs
set_option linter.unusedVariables false
set_option linter.unusedSimpArgs false
set_option maxRecDepth 100000
theorem Fx.cells {g B : Nat} {W W' : World} (h : Fx g W W') (hg : g < B) : ∀ b o y, B ≤ b → W.cell? ⟨b, o, none⟩ = some y → W'.cell? ⟨b, o, none⟩ = some y := fun b o y hb hc => by
  have hlt := World.block_lt_of_cell? _ _ hc
  have e := h.block b hlt (by omega)
  have hf : Below W.heap.size W W → True := fun _ => trivial
  unfold World.cell? at *
  simp only [e] at *
  exact hc
theorem nextV_step (ticks vs : List Bool) {ls : List MapReg} {st : List Bool} {k : Nat} {l : MapReg} {s : Bool} (hl : ls[k]? = some l) (hs : st[k]? = some s) :
    nextV ticks vs (ls.take (k + 1)) (st.take (k + 1)) = nextV ticks vs (ls.take k) (st.take k) ++ [if ticks.getD l.clock.toNat false then srcV vs l.src else s] := by
  unfold nextV
  have h1 := (List.getElem?_eq_some_iff.1 hl).1
  have h2 := (List.getElem?_eq_some_iff.1 hs).1
  rw [List.take_add_one, List.take_add_one, hl, hs, Option.toList_some, Option.toList_some, List.zipWith_append (by rw [List.length_take, List.length_take]; omega)]
  rfl
def FQ6 (b g n k M nb no m nc : Nat) (y : Bool) : Nat → Value → Prop
  | 0, v => v = .pointer (some ⟨b, 0, none⟩)
  | 1, v => v = .pointer (some ⟨b, 0, none⟩)
  | 2, v => v = .pointer (some ⟨b, 6, none⟩)
  | 3, v => v = .slice (some ⟨g, 0, none⟩) n n
  | 4, v => v = .pointer (some ⟨b, 0, none⟩)
  | 5, v => v = .int .i64 (k : Int)
  | 6, v => v = .int .i64 (M : Int)
  | 7, v => v = .slice (some ⟨nb, no, none⟩) m nc
  | 8, v => v = .int .i64 (k : Int)
  | 9, v => v = .pointer (some ⟨nb, no + k, none⟩)
  | 10, v => v = .int .i64 (b2i y)
  | 11, v => v = .pointer (some ⟨g, M, none⟩)
  | 12, v => True
  | _, _ => True
set_option maxHeartbeats 16000000 in
theorem iTick {b g l0 c0 : Nat} {s0 : Option Addr} {W0 W : World} {p1 p3 p4 p5 v2 : Value} {pre st rest : List Bool} (h : Ob W0.heap.size W b g [.slice s0 l0 c0, p1, v2, p3, p4, p5] (pre ++ (st ++ rest))) (ls : List MapReg) (hr : RS 4 RMapReg W0 0 ls v2) (ticks : List Bool) (tv : Value) (ht : RS 1 RBool W0 0 ticks tv) (hB : Below W0.heap.size W0 W)
    (hl0 : l0 ≤ 1048576) (hl2 : ls.length ≤ 1048576) (hpl : pre.length = l0) (hsl : st.length = ls.length) (hrl : rest.length ≤ 1048576) (hlit : ∀ x ∈ ls, 0 ≤ x.src ∧ x.src < ((pre ++ (st ++ rest)).length : Int)) (hck : ∀ x ∈ ls, 0 ≤ x.clock ∧ x.clock < (ticks.length : Int)) :
    Calls Tryz.prog 130 #[.pointer (some ⟨b, 0, none⟩), tv] W fun e w' => e = .returned (.tuple #[]) ∧ Ob W0.heap.size w' b g [.slice s0 l0 c0, p1, v2, p3, p4, p5] (pre ++ (nextV ticks (pre ++ (st ++ rest)) ls st ++ rest)) ∧ Fx g W w' := by
  obtain ⟨s2, c2, rfl⟩ := hr.slice
  obtain ⟨at_, ct, rfl⟩ := ht.slice
  have hvl : (pre ++ (st ++ rest)).length = l0 + ls.length + rest.length := by simp; omega
  have hgs : g < W.heap.size := h.lt
  have HCS : Hid (∀ (i : Nat) x, ls[i]? = some x → ∃ b o, s2 = some ⟨b, o, none⟩ ∧ W0.cell? ⟨b, o + i * 4, none⟩ = some (.string x.name) ∧ W0.cell? ⟨b, o + i * 4 + 1, none⟩ = some (.int .i64 x.src) ∧ W0.cell? ⟨b, o + i * 4 + 2, none⟩ = some (.int .i64 x.init) ∧ W0.cell? ⟨b, o + i * 4 + 3, none⟩ = some (.int .i64 x.clock)) := hide (by
    intro i x hx
    rcases hr.open with ⟨rfl, _⟩ | ⟨b, o, c', hv, _, _, _, he⟩
    · simp at hx
    · injection hv with e1 e2 e3
      obtain ⟨u, hu, hat, hux, hs⟩ := he i x hx
      subst hux
      exact ⟨b, o, e1, by simpa using hat.get (j := 0) rfl, by simpa using hat.get (j := 1) rfl, by simpa using hat.get (j := 2) rfl, by simpa using hat.get (j := 3) rfl⟩)
  have HCT : Hid (∀ (i : Nat) x, ticks[i]? = some x → ∃ b o, at_ = some ⟨b, o, none⟩ ∧ W0.cell? ⟨b, o + i, none⟩ = some (.bool x)) := hide (by
    intro i x hx
    rcases ht.open with ⟨rfl, _⟩ | ⟨b, o, c', hv, _, _, _, he⟩
    · simp at hx
    · injection hv with e1 e2 e3
      obtain ⟨u, hu, hat, hux⟩ := he i x hx
      subst hux
      exact ⟨b, o, e1, by simpa using hat.get (j := 0) rfl⟩)
  have HCK := hide hck
  obtain ⟨Wb, hWb⟩ : ∃ Wb, Wb = W.alloc (.cells #[.pointer (some ⟨b, 0, none⟩)] 83) := ⟨_, rfl⟩
  have hbB : Below W.heap.size W Wb := by rw [hWb]; exact bal (brf W) _
  have hoB := h.later hbB
  have hpc : Wb.cell? ⟨W.heap.size, 0, none⟩ = some (.pointer (some ⟨b, 0, none⟩)) := by rw [hWb, World.cell?_alloc_new]; rfl
  have HLI := hide (iListNext hoB hpc (by omega) (hB.trans (hbB.mono hB.size)) ls (.slice s2 ls.length c2) hl2 hr hlit)
  obtain ⟨q0, q1, q2, q3, q4, q5, q6⟩ := hoB.cells
  have HPC0 := hide hpc
  have HQ0 := hide q0
  have HQ2 := hide q2
  rw [hWb] at q2
  have HOB := hide hoB
  have HBB := hide hbB
  have HWb := hide hWb
  have HB := hide hB
  clear hlit hck hr ht h hB hWb hbB hoB
  go_enter Tryz.func130, Tryz.ntmps130
  go_wp2_with fail
  rw [← unhide HWb]
  refine (unhide HLI).mono ?_
  rintro e W1 ⟨⟨nv, rfl, hnv⟩, hb1⟩
  have hrn := hnv.read (by rw [List.length_map]; unfold maxLen; omega)
  have hl1 : Wb.heap.size = W.heap.size + 1 := by rw [unhide HWb]; simp
  have HRN : Hid (∀ V, Fx g W1 V → RS 1 RInt V Wb.heap.size (ls.map (fun x : MapReg => b2i (srcV (pre ++ (st ++ rest)) x.src))) nv) := hide (fun V hV => hrn.keep RInt.keeps (hV.cells (by omega)))
  obtain ⟨an, cn, hnve⟩ := hrn.slice
  rw [List.length_map] at hnve
  have HPC1 : Hid (∀ V, Fx g W1 V → V.cell? ⟨W.heap.size, 0, none⟩ = some (.pointer (some ⟨b, 0, none⟩))) := hide (fun V hV => hV.cells (B := W.heap.size) hgs _ _ _ (Nat.le_refl _) (cell_later hb1 (unhide HPC0)))
  have HB1 := hide hb1
  have k0 := cell_later hb1 (unhide HQ0)
  have k2 := cell_later hb1 (unhide HQ2)
  have kp := cell_later hb1 (unhide HPC0)
  subst hnve
  clear hb1 q0 q1 q2 q3 q4 q5 q6 HLI hrn hnv hpc hl1
  go_wp2_with fail
  clear k0 k2 kp
  go_loopw [20] (fun i wr => ∃ k : Nat, k ≤ ls.length ∧ i = .int .i64 k ∧ Ob W0.heap.size wr b g [.slice s0 l0 c0, p1, .slice s2 ls.length c2, p3, p4, p5] (pre ++ (nextV ticks (pre ++ (st ++ rest)) (ls.take k) (st.take k) ++ (st.drop k ++ rest))) ∧ Fx g W1 wr) (fun i wr => ls.length - (intOf i).toNat)
  case atStart => exact ⟨0, Nat.zero_le _, rfl, (unhide HOB).later (unhide HB1), Fx.refl _ _⟩
  case round =>
    obtain ⟨k, hk, rfl, ho, hf⟩ := hrel
    by_cases hlt : k < ls.length
    · have hx : ls[k]? = some ls[k] := List.getElem?_eq_getElem hlt
      have hs : st[k]? = some (st[k]'(by omega)) := List.getElem?_eq_getElem (by omega)
      generalize st[k]'(by omega) = s at hs
      have hmem := List.getElem_mem hlt
      generalize ls[k] = x at hx hmem
      obtain ⟨bb, oo, rfl, hc0, hc1, hc2, hc3⟩ := unhide HCS k x hx
      obtain ⟨ck1, ck2⟩ := unhide HCK x hmem
      obtain ⟨ck, hck⟩ : ∃ ck : Nat, x.clock = ck := ⟨x.clock.toNat, by omega⟩
      rw [hck] at hc3 ck2
      have ht : ticks[ck]? = some (ticks[ck]'(by omega)) := List.getElem?_eq_getElem (by omega)
      generalize ticks[ck]'(by omega) = t at ht
      obtain ⟨bt, ot, rfl, hct⟩ := unhide HCT ck t ht
      have hfw : Fx g W wr := ((Fx.of (g := g) (unhide HBB)).trans (Fx.of (g := g) (unhide HB1))).trans hf
      have hbw : Below W0.heap.size W0 wr := hfw.below (unhide HB) (unhide HOB).hg (by have := (unhide HB).size; omega)
      have k0 := cell_later hbw hc0
      have k1 := cell_later hbw hc1
      have k2 := cell_later hbw hc2
      have k3 := cell_later hbw hc3
      have kt0 := cell_later hbw hct
      have hnl : (nextV ticks (pre ++ (st ++ rest)) (ls.take k) (st.take k)).length = k := by rw [nextV_len _ _ _ _ (by rw [List.length_take, List.length_take]; omega), List.length_take]; omega
      have hlen : (pre ++ (nextV ticks (pre ++ (st ++ rest)) (ls.take k) (st.take k) ++ (st.drop k ++ rest))).length = l0 + ls.length + rest.length := by simp only [List.length_append, hnl, List.length_drop]; omega
      obtain ⟨B1, hW1⟩ : ∃ B1, B1 = wr.alloc (.cells #[.string x.name, .int .i64 x.src, .int .i64 x.init, .int .i64 ck] 127) := ⟨_, rfl⟩
      have hbB : Below wr.heap.size wr B1 := by rw [hW1]; exact bal (brf wr) _
      have hoB := ho.later hbB
      have hfB : Fx g W1 B1 := hf.trans (Fx.of (g := g) hbB)
      have hrn := unhide HRN B1 hfB
      obtain ⟨nb, no, han, HN⟩ : ∃ nb no, an = some ⟨nb, no, none⟩ ∧ Hid (B1.cell? ⟨nb, no + k, none⟩ = some (.int .i64 (b2i (srcV (pre ++ (st ++ rest)) x.src)))) := by
        rcases hrn.open with ⟨h0, _⟩ | ⟨b', o', c', hv, _, _, _, he⟩
        · have := congrArg List.length h0
          rw [List.length_map] at this
          simp at this
          rw [this] at hlt
          simp at hlt
        · injection hv with e1 e2 e3
          obtain ⟨u, hu, hat, hux⟩ := he k _ (by rw [List.getElem?_map, hx]; rfl)
          subst hux
          exact ⟨b', o', e1, hide (by simpa using hat.get (j := 0) rfl)⟩
      subst han
      have HPC := hide (unhide HPC1 B1 hfB)
      obtain ⟨_, _, _, _, _, _, q6⟩ := hoB.cells
      rw [hlen] at q6
      have H6 := hide q6
      have kt := cell_later hbB kt0
      have HY : Hid (∃ y, B1.cell? ⟨g, l0 + k, none⟩ = some (.int .i64 (b2i y)) ∧ B1.frozen? ⟨g, l0 + k, none⟩ = false) := hide (by
        have hl3 : l0 + k < (pre ++ (nextV ticks (pre ++ (st ++ rest)) (ls.take k) (st.take k) ++ (st.drop k ++ rest))).length := by rw [hlen]; omega
        exact ⟨_, hoB.vals (l0 + k) _ (List.getElem?_eq_getElem hl3)⟩)
      have HL : Hid (∀ V, Below B1.heap.size B1 V → Calls Tryz.prog 65 #[.pointer (some ⟨b, 0, none⟩), .int .i64 (k : Int)] V fun e w' => e = .returned (.int .i64 ((l0 + k : Nat) : Int)) ∧ Below V.heap.size V w') := hide (fun V hV => by
        refine (iReg (hoB.later hV) k hl0 (by omega)).mono ?_
        rintro e w' ⟨rfl, rfl⟩
        exact ⟨rfl, brf _⟩)
      have hstep := nextV_step ticks (pre ++ (st ++ rest)) hx hs
      rw [hck, Int.toNat_natCast, List.getD_eq_getElem?_getD, ht, Option.getD_some] at hstep
      have hdr : st.drop k = s :: st.drop (k + 1) := by
        obtain ⟨hh, e⟩ := List.getElem?_eq_some_iff.1 hs
        rw [List.drop_eq_getElem_cons hh, e]
      have HS0 : Hid (t = false → pre ++ (nextV ticks (pre ++ (st ++ rest)) (ls.take k) (st.take k) ++ (st.drop k ++ rest)) = pre ++ (nextV ticks (pre ++ (st ++ rest)) (ls.take (k + 1)) (st.take (k + 1)) ++ (st.drop (k + 1) ++ rest))) := hide (by
        rintro rfl
        rw [hstep, hdr]
        simp)
      have HS1 : Hid (t = true → (pre ++ (nextV ticks (pre ++ (st ++ rest)) (ls.take k) (st.take k) ++ (st.drop k ++ rest))).set (l0 + k) (srcV (pre ++ (st ++ rest)) x.src) = pre ++ (nextV ticks (pre ++ (st ++ rest)) (ls.take (k + 1)) (st.take (k + 1)) ++ (st.drop (k + 1) ++ rest))) := hide (by
        rintro rfl
        rw [hstep, hdr, List.set_append_right _ _ (by omega), List.set_append_right _ _ (by omega), show l0 + k - pre.length - (nextV ticks (pre ++ (st ++ rest)) (ls.take k) (st.take k)).length = 0 by omega, List.cons_append, List.set_cons_zero]
        simp)
      have HO := hide hoB
      have HF := hide hfB
      have HW1 := hide hW1
      have i1 : ((l0 + k : Nat) : Int) < ((l0 + ls.length + rest.length : Nat) : Int) := by omega
      clear ho hf hbw hfw hc0 hc1 hc2 hc3 hct HCS HCT HCK hx hs hlen hnl hbB hoB hfB q6 hW1 hrn hstep hdr ht hmem ck1 kt0
      generalize x.name = nm at *
      generalize x.src = zn at *
      generalize x.init = zi at *
      generalize srcV (pre ++ (st ++ rest)) zn = y at *
      generalize l0 + k = M at *
      generalize l0 + ls.length + rest.length = n at *
      have i0 : (0 : Int) ≤ (M : Int) := by omega
      have i2 : (k : Int) < (ls.length : Int) := by omega
      clear hck
      have HKT := hide kt
      rw [unhide HW1] at kt
      cases t
      · go_wp2_with fail
        rw [← unhide HW1]
        go_roundw
        case rel => exact ⟨k + 1, by omega, by go_num, by rw [← unhide HS0 (by first | rfl | trivial)]; exact unhide HO, unhide HF⟩
        case measure => simp [intOf]; omega
      · go_wp2_with fail
        rw [← unhide HW1]
        clear kt k0 k1 k2 k3
        refine wp_plan (GF (FQ6 b g n k M nb no ls.length cn y)) (JE B1 12 (fun V => ∃ V0, Below B1.heap.size B1 V0 ∧ V = V0.setCell ⟨g, M, none⟩ (.int .i64 (b2i y)))) (by kernel_rfl) 43 (by kernel_rfl) (by kernel_rfl) ?hj ?hs ?hf
        case hj => exact JE.start (bdr (brf B1))
        case hs =>
          refine ⟨?_, ?_, ?_, ?_, ?_, ?_, ?_, ?_, ?_, ?_, ?_, ?_, ?_, trivial⟩
          · exact se_val (by decide) (by kernel_rfl) rfl (fun l a V hp hB ha => ⟨.pointer (some ⟨b, 0, none⟩), by
              have x2 := (ev_form a 2).trans (old hp 2 (v := .pointer (some ⟨W.heap.size, 0, none⟩)) (by kernel_rfl) (by kernel_rfl))
              have m0 := cell_later hB (unhide HPC)
              go_simp, rfl⟩)
          · exact se_val (by decide) (by kernel_rfl) rfl (fun l a V hp hB ha => ⟨.pointer (some ⟨b, 0, none⟩), by
              have x30 := (ev_form a 30).trans (show a.eval (.tmp 30) = .pointer (some ⟨b, 0, none⟩) from kn hp ha 30 0 (by kernel_rfl) (by kernel_rfl))
              go_simp, rfl⟩)
          · exact se_val (by decide) (by kernel_rfl) rfl (fun l a V hp hB ha => ⟨.pointer (some ⟨b, 6, none⟩), by
              have x31 := (ev_form a 31).trans (show a.eval (.tmp 31) = .pointer (some ⟨b, 0, none⟩) from kn hp ha 31 1 (by kernel_rfl) (by kernel_rfl))
              go_simp, rfl⟩)
          · exact se_val (by decide) (by kernel_rfl) rfl (fun l a V hp hB ha => ⟨.slice (some ⟨g, 0, none⟩) n n, by
              have x32 := (ev_form a 32).trans (show a.eval (.tmp 32) = .pointer (some ⟨b, 6, none⟩) from kn hp ha 32 2 (by kernel_rfl) (by kernel_rfl))
              have m6 := cell_later hB (unhide H6)
              go_simp, rfl⟩)
          · exact se_val (by decide) (by kernel_rfl) rfl (fun l a V hp hB ha => ⟨.pointer (some ⟨b, 0, none⟩), by
              have x2 := (ev_form a 2).trans (old hp 2 (v := .pointer (some ⟨W.heap.size, 0, none⟩)) (by kernel_rfl) (by kernel_rfl))
              have m0 := cell_later hB (unhide HPC)
              go_simp, rfl⟩)
          · exact se_val (by decide) (by kernel_rfl) rfl (fun l a V hp hB ha => ⟨.int .i64 (k : Int), by
              have x5 := (ev_form a 5).trans (old hp 5 (v := .int .i64 (k : Int)) (by kernel_rfl) (by kernel_rfl))
              go_simp, rfl⟩)
          · exact se_call (f := 65) (by decide) (by kernel_rfl) rfl (fun l a V hp hB ha => ⟨#[.pointer (some ⟨b, 0, none⟩), .int .i64 (k : Int)], by
              have x34 := (ev_form a 34).trans (show a.eval (.tmp 34) = .pointer (some ⟨b, 0, none⟩) from kn hp ha 34 4 (by kernel_rfl) (by kernel_rfl))
              have x35 := (ev_form a 35).trans (show a.eval (.tmp 35) = .int .i64 (k : Int) from kn hp ha 35 5 (by kernel_rfl) (by kernel_rfl))
              go_simp, (unhide HL V hB).mono (by rintro e V1 ⟨rfl, hb⟩; exact ⟨_, rfl, rfl, hb⟩)⟩)
          · exact se_val (by decide) (by kernel_rfl) rfl (fun l a V hp hB ha => ⟨.slice (some ⟨nb, no, none⟩) ls.length cn, by
              have x4 := (ev_form a 4).trans (old hp 4 (v := .slice (some ⟨nb, no, none⟩) ls.length cn) (by kernel_rfl) (by kernel_rfl))
              go_simp, rfl⟩)
          · exact se_val (by decide) (by kernel_rfl) rfl (fun l a V hp hB ha => ⟨.int .i64 (k : Int), by
              have x5 := (ev_form a 5).trans (old hp 5 (v := .int .i64 (k : Int)) (by kernel_rfl) (by kernel_rfl))
              go_simp, rfl⟩)
          · exact se_val (by decide) (by kernel_rfl) rfl (fun l a V hp hB ha => ⟨.pointer (some ⟨nb, no + k, none⟩), by
              have x37 := (ev_form a 37).trans (show a.eval (.tmp 37) = .slice (some ⟨nb, no, none⟩) ls.length cn from kn hp ha 37 7 (by kernel_rfl) (by kernel_rfl))
              have x38 := (ev_form a 38).trans (show a.eval (.tmp 38) = .int .i64 (k : Int) from kn hp ha 38 8 (by kernel_rfl) (by kernel_rfl))
              go_simp, rfl⟩)
          · exact se_val (by decide) (by kernel_rfl) rfl (fun l a V hp hB ha => ⟨.int .i64 (b2i y), by
              have x39 := (ev_form a 39).trans (show a.eval (.tmp 39) = .pointer (some ⟨nb, no + k, none⟩) from kn hp ha 39 9 (by kernel_rfl) (by kernel_rfl))
              have mn := cell_later hB (unhide HN)
              go_simp, rfl⟩)
          · exact se_val (by decide) (by kernel_rfl) rfl (fun l a V hp hB ha => ⟨.pointer (some ⟨g, M, none⟩), by
              have x33 := (ev_form a 33).trans (show a.eval (.tmp 33) = .slice (some ⟨g, 0, none⟩) n n from kn hp ha 33 3 (by kernel_rfl) (by kernel_rfl))
              have x36 := (ev_form a 36).trans (show a.eval (.tmp 36) = .int .i64 (M : Int) from kn hp ha 36 6 (by kernel_rfl) (by kernel_rfl))
              go_simp, rfl⟩)
          · refine se_last rfl (fun l a V hp hB ha => ?_) trivial
            have x41 := (ev_form a 41).trans (show a.eval (.tmp 41) = .pointer (some ⟨g, M, none⟩) from kn hp ha 41 11 (by kernel_rfl) (by kernel_rfl))
            have x40 := (ev_form a 40).trans (show a.eval (.tmp 40) = .int .i64 (b2i y) from kn hp ha 40 10 (by kernel_rfl) (by kernel_rfl))
            obtain ⟨y', hy, hfz⟩ := unhide HY
            have m1 := cell_later hB hy
            have m2 := frozen_later hB hy hfz
            exact ⟨V.setCell ⟨g, M, none⟩ (.int .i64 (b2i y)), by go_simp, ⟨V, hB, rfl⟩⟩
        case hf =>
          intro l a V hp hall
          obtain ⟨V0, hV0, hV⟩ := hp.j.2 (hall 12 (by decide))
          obtain ⟨us, rfl, hus⟩ := putAll_of [30, 31, 32, 33, 34, 35, 36, 37, 38, 39, 40, 41] hp.nt hp.df (fun t ht => hp.keep t (dstIn (by kernel_rfl) ht))
          clear hp hall hus
          simp only [putAll, List.foldl, Act.put, List.setIfInBounds_toArray, List.set_cons_zero, List.set_cons_succ]
          generalize us 30 = y30 at *
          generalize us 31 = y31 at *
          generalize us 32 = y32 at *
          generalize us 33 = y33 at *
          generalize us 34 = y34 at *
          generalize us 35 = y35 at *
          generalize us 36 = y36 at *
          generalize us 37 = y37 at *
          generalize us 38 = y38 at *
          generalize us 39 = y39 at *
          generalize us 40 = y40 at *
          generalize us 41 = y41 at *
          have HO2 := hide (((unhide HO).later hV0).set M y)
          have HF2 := hide (((unhide HF).trans (Fx.of (g := g) hV0)).trans (Fx.set g M V0 (.int .i64 (b2i y))))
          rw [← hV] at HO2 HF2
          clear hV hV0 HO HF
          go_wp2_with fail
          go_roundw
          case rel => exact ⟨k + 1, by omega, by go_num, by rw [← unhide HS1 (by first | rfl | trivial)]; exact unhide HO2, unhide HF2⟩
          case measure => simp [intOf]; omega
    · obtain rfl : k = ls.length := by omega
      rw [List.take_of_length_le (Nat.le_refl _), List.take_of_length_le (by omega), List.drop_eq_nil_of_le (by omega), List.nil_append] at ho
      have HO := hide ho
      have HF := hide (((Fx.of (g := g) (unhide HBB)).trans (Fx.of (g := g) (unhide HB1))).trans hf)
      clear ho hf HCS HCT
      go_wp2
      exact bodyPost_end (v := .tuple #[]) (by simp [results, Tryz.results130, go_sem]) rfl ⟨rfl, unhide HO, unhide HF⟩
end Go.Proofs.YtdmmbhemmbgcpabGreat
