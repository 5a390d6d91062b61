/- The specification's search: a model. -/
import Derived.Test.YtonfbnbkhpabbaaS2a
import Derived.BigQuiet
namespace Go.Proofs.Ytonfbnbkhpabbaa
open Go Go.RowKit Gs
set_option linter.unusedVariables false
set_option linter.unusedSimpArgs false
set_option maxRecDepth 100000
/-- The values as a model. -/
def mdl (vs : List Int) (m : Nat) : List Int := (List.range m).map fun i => if (vs.getD (i + 1) 0 == 1) = true then 1 else 0
theorem mdl_succ (vs : List Int) (m : Nat) : mdl vs (m + 1) = mdl vs m ++ [if (vs.getD (m + 1) 0 == 1) = true then 1 else 0] := by
  unfold mdl; rw [List.range_succ, List.map_append]; rfl
theorem mdl_len (vs : List Int) (m : Nat) : (mdl vs m).length = m := by unfold mdl; simp
theorem val_nat (vs : List Int) (u : Nat) : val vs (u : Int) = vs.getD u 0 := by
  rw [val_pos (by omega)]; congr 1
theorem mdl_is {n : Nat} {Cl : List (List Int)} {D vs : List Int} (hs : Snd Cl D n vs) (hsh : Shut Cl vs) (hC : ∀ c ∈ Cl, Lits n c) (hA : ∀ l ∈ D, val vs l = 1) : Mdl n Cl D (mdl vs n) := by
  refine ⟨mdl_len _ _, fun i hi => ?_⟩
  have e : (mdl vs n)[i]? = some (if (vs.getD (i + 1) 0 == 1) = true then 1 else 0) := by
    unfold mdl; rw [List.getElem?_map, List.getElem?_range hi]; rfl
  by_cases h : vs.getD (i + 1) 0 = 1
  · refine .inl ⟨by rw [e, h]; rfl, hs _ ⟨by omega, by omega, by omega⟩ ?_⟩
    rw [val_nat]; exact h
  · refine .inr ⟨by rw [e, if_neg (by simpa using h)], fun hd => h ?_⟩
    have := hsh.true hC hA hd
    rw [val_nat] at this; exact this
theorem not_fre {n : Nat} {Cl : List (List Int)} {D vs : List Int} (hsh : Shut Cl vs) (hC : ∀ c ∈ Cl, Lits n c) (hA : ∀ l ∈ D, val vs l = 1) {u : Nat} (h1 : 1 ≤ u) (h : ¬ Fre Cl D u) : vs.getD u 0 ≠ 0 := by
  intro h0
  refine h ⟨fun hd => ?_, fun hd => ?_⟩
  · have := hsh.true hC hA hd
    rw [val_nat, h0] at this; omega
  · have := hsh.true hC hA hd
    rw [val_neg _ (by omega), val_nat, h0] at this; omega
theorem is_fre {n : Nat} {Cl : List (List Int)} {D vs : List Int} (hsn : Snd Cl D n vs) {u : Nat} (h1 : 1 ≤ u) (h2 : u ≤ n) (h3 : Vals n vs) (h : Fre Cl D u) : vs.getD u 0 = 0 := by
  rcases h3.getD u with e | e | e
  · refine absurd (hsn (-(u : Int)) ⟨by omega, by omega, by omega⟩ ?_) h.2
    rw [val_neg _ (by omega), val_nat, e]; rfl
  · exact e
  · refine absurd (hsn (u : Int) ⟨by omega, by omega, by omega⟩ ?_) h.1
    rw [val_nat, e]
set_option maxHeartbeats 16000000 in
theorem sSat {B n : Nat} {w W : World} {Cl T0 : List (List Int)} {D : List Int} {k most xb : Nat} {cv dv tv : Value} (hB : B = w.heap.size) (hn : n ≤ 2048) (hm : most ≤ 4000) (hlD : D.length ≤ 4000) (hlT : T0.length ≤ 4000) (hr : RS 1 RIntS w 0 Cl cv) (hC : ∀ c ∈ Cl, Lits n c) (hD : Lits n D) (hlo : B ≤ xb) (hx : XH n cv most xb k (.slice none 0 0) tv false W) (ht : TR B W tv T0) (hd : IR B W dv D) (hbl : Below B w W) (hk : k < most) (hncon : ¬ Con Cl D) (hful : Ful n Cl D) : Calls Try.prog 15 #[.pointer (some ⟨xb, 0, none⟩), dv] W (SQ B n w cv most xb Cl D k T0 W) := by
  obtain ⟨da, dc, rfl⟩ := hd.shape
  have HCL := hide hC
  have HD := hide hD
  have c3 := hx.c3
  have c2 := hx.c2
  have hkm : ((k : Int) == (most : Int)) = false := by simp; omega
  have kk : (k : Int) < 4000 := by omega
  have HX := hide hx
  have HT := hide ht
  have HDV := hide hd
  have HBL := hide hbl
  have HR := hide hr
  have HLO := hide hlo
  have HB := hide hB
  clear hr hC hD hx ht hd hbl hB hlo
  go_enter Try.func15, Try.ntmps15
  go_wp2
  go_quiet (fail)
  obtain ⟨V, hV⟩ : ∃ V, V = W.drewN nq := ⟨_, rfl⟩
  have HXV : Hid (XH n cv most xb k (.slice none 0 0) tv false V) := hide (by rw [hV]; exact unhide HX)
  have HTV : Hid (TR B V tv T0) := hide (by rw [hV]; exact unhide HT)
  have HDVV : Hid (IR B V (.slice da D.length dc) D) := hide (by rw [hV]; exact unhide HDV)
  have HBV : Hid (Below B w V) := hide (by rw [hV]; exact below_drewN (unhide HBL) _)
  have HKV : Hid (KI W V ∧ W.heap.size ≤ V.heap.size) := hide (by rw [hV]; exact ⟨fun _ _ h => h, Nat.le_refl _⟩)
  rw [← hV]
  clear hV HX HT HDV HBL c3 c2
  have c3 := (unhide HXV).c3
  have f3 := (unhide HXV).frz 3
  obtain ⟨W1, hW1⟩ : ∃ W1, W1 = V.setCell ⟨xb, 3, none⟩ (.int .i64 ((k : Int) + 1)) := ⟨_, rfl⟩
  have HX1 : Hid (XH n cv most xb (k + 1) (.slice none 0 0) tv false W1) := hide (by rw [hW1]; exact (unhide HXV).work)
  have HT1 : Hid (TR B W1 tv T0) := hide (by rw [hW1]; exact (unhide HTV).set (unhide HXV) (by decide) (by decide))
  have HK1 : Hid (KI W W1 ∧ W.heap.size ≤ W1.heap.size) := hide (by rw [hW1]; exact ⟨(unhide HKV).1.trans (KI.set (unhide HXV) (by decide)), by simpa using (unhide HKV).2⟩)
  have HD1 : Hid (IR B W1 (.slice da D.length dc) D) := hide (by rw [hW1]; exact (unhide HDVV).keep (KI.set (unhide HXV) (by decide)))
  have HB1 : Hid (Below B w W1) := hide (by rw [hW1]; exact (unhide HBV).setCell (p := ⟨xb, 3, none⟩) (unhide HLO) _)
  have HR1 : Hid (RS 1 RIntS W1 0 Cl cv) := hide (by have h := unhide HB1; rw [unhide HB] at h; exact (unhide HR).later RIntS.keeps h)
  have c0 : W1.cell? ⟨xb, 0, none⟩ = some (.int .i64 (n : Int)) := (unhide HX1).c0
  rw [hW1] at c0
  have HNEW : Hid (Calls Try.prog 27 #[.int .i64 (n : Int)] (V.setCell ⟨xb, 3, none⟩ (.int .i64 ((k : Int) + 1))) fun e w' => (∃ b vb, e = .returned (.pointer (some ⟨b, 0, none⟩)) ∧ SM W1.heap.size n b vb w' (zeros (n + 1)) false) ∧ Below W1.heap.size W1 w') := hide (by rw [← hW1]; exact sNew n W1 hn)
  clear HTV HDVV HBV HKV hW1 HXV
  go_wp2_with fail
  refine (unhide HNEW).mono ?_
  rintro e W4 ⟨⟨b, vb, rfl, hsm⟩, hb4⟩
  have HSM := hide hsm
  have HB4 := hide hb4
  clear hsm hb4 HNEW c0 c3 f3
  have HDC : Hid (∀ (j : Nat) z, D[j]? = some z → ∃ yb, da = some ⟨yb, 0, none⟩ ∧ W1.cell? ⟨yb, j, none⟩ = some (.int .i64 z)) := hide (unhide HD1).cells
  go_wp2
  go_loopw [6] (fun i wr => ∃ (j : Nat) (vs : List Int) (bd : Bool), j ≤ D.length ∧ i = .int .i64 (j : Int) ∧ SM W1.heap.size n b vb wr vs bd ∧ Vals n vs ∧ Snd Cl D n vs ∧ (bd = true → Con Cl D) ∧ (bd = false → ∀ l ∈ D.take j, val vs l = 1) ∧ Below W1.heap.size W1 wr) (fun i wr => D.length - (intOf i).toNat)
  case atStart => exact ⟨0, zeros (n + 1), false, Nat.zero_le _, rfl, unhide HSM, zeros_vals n, zeros_snd _ _ n, (fun h => by cases h), (fun _ l hl => by simp at hl), unhide HB4⟩
  case round =>
    obtain ⟨j, vs, bd, hj, rfl, hsm, hv, hs, hcon1, htrue, hbl⟩ := hrel
    clear HSM HB4
    by_cases hjl : j < D.length
    · have hz : D[j]? = some D[j] := List.getElem?_eq_getElem hjl
      generalize D[j] = z at hz
      have hzl := unhide HD z (List.mem_of_getElem? hz)
      obtain ⟨yb, rfl, z0'⟩ := unhide HDC j z hz
      have z0 := cell_later hbl z0'
      have htk : D.take (j + 1) = D.take j ++ [z] := by rw [List.take_add_one, hz]; rfl
      have hmem : z ∈ D := List.mem_of_getElem? hz
      have HA := hide (sAssume hsm hbl hv hzl hn)
      have j1 : (j : Int) < (D.length : Int) := by omega
      have j2 : (0 : Int) ≤ (j : Int) := by omega
      have HV := hide hv
      have HS := hide hs
      have HCON := hide hcon1
      have HTR := hide htrue
      have HZL := hide hzl
      have HTK := hide htk
      have HME := hide hmem
      clear hsm hv hs hcon1 htrue hbl hz hzl z0' htk hmem HDC
      go_wp2_with fail
      refine (unhide HA).mono ?_
      rintro e W5 ⟨rfl, hor, hbl⟩
      have hnew : ∃ (vs' : List Int) (bd' : Bool), SM W1.heap.size n b vb W5 vs' bd' ∧ Vals n vs' ∧ Snd Cl D n vs' ∧ (bd' = true → Con Cl D) ∧ (bd' = false → ∀ l ∈ D.take (j + 1), val vs' l = 1) := by
        rcases hor with ⟨h1, h2⟩ | ⟨h1, h2⟩
        · exact ⟨vs, true, h2, unhide HV, unhide HS, fun _ => (unhide HS).clash (unhide HZL) (.base (unhide HME)) h1, (fun h => by cases h)⟩
        · refine ⟨put vs z, bd, h2, put_vals (unhide HV) _, (unhide HS).put (unhide HV) (unhide HZL) (.base (unhide HME)), unhide HCON, fun hbf l hl => ?_⟩
          rw [unhide HTK] at hl
          rcases List.mem_append.1 hl with h3 | h3
          · exact put_true (unhide HV) (unhide HZL) h1 (unhide HTR hbf l h3)
          · simp at h3; subst h3; exact put_same (unhide HV) (unhide HZL)
      obtain ⟨vs', bd', n1, n2, n3, n4, n5⟩ := hnew
      have HN1 := hide n1
      have HN2 := hide n2
      have HN3 := hide n3
      have HN4 := hide n4
      have HN5 := hide n5
      have HBLL := hide hbl
      clear n1 n2 n3 n4 n5 hbl hor HA
      go_wp2
      exact ⟨⟨j + 1, vs', bd', by omega, by go_num, unhide HN1, unhide HN2, unhide HN3, unhide HN4, unhide HN5, unhide HBLL⟩, by simp [intOf]; omega⟩
    · have hje : j = D.length := by omega
      have j1 : ¬ (j : Int) < (D.length : Int) := by omega
      rw [hje, List.take_of_length_le (Nat.le_refl _)] at htrue
      have HFO := hide (sFollow Cl D cv hn (unhide HR1) rfl (unhide HCL) ⟨hsm, hv, hs, Ext.refl vs, hcon1, hbl, fun h => h⟩)
      have HTRU := hide htrue
      have c1 := ((unhide HX1).later hbl).c1
      clear hsm hv hs hcon1 htrue HDC
      obtain ⟨ca, cc, hcv⟩ := (unhide HR1).slice
      rw [hcv] at c1 HFO
      go_wp2_with fail
      refine (unhide HFO).mono ?_
      rintro e W5 ⟨rfl, vs', bad', hfi, hshut⟩
      rw [← hcv] at *
      clear HFO
      cases bad' with
      | true => exact absurd (hfi.con rfl) hncon
      | false =>
        have q1 := hfi.sm.c1
        have hbd : bd = false := by
          cases bd with
          | false => rfl
          | true => exact absurd (hfi.kp rfl) (by decide)
        have hbW := hfi.bl
        have HAv : ∀ l ∈ D, val vs' l = 1 := fun l hl => by
          have h1 := unhide HTRU hbd l hl
          rw [hfi.x _ (by rw [h1]; decide), h1]
        have HX5 : Hid (XH n cv most xb (k + 1) (.slice none 0 0) tv false W5) := hide ((unhide HX1).later hbW)
        have HT5 : Hid (TR B W5 tv T0) := hide ((unhide HT1).later hbW)
        have HD5 : Hid (IR B W5 (.slice da D.length dc) D) := hide ((unhide HD1).keep (KI.below hbW))
        have HB5 : Hid (Below B w W5) := hide ((unhide HB1).trans (hbW.mono (by rw [unhide HB]; exact (unhide HB1).size)))
        have HK5 : Hid (KI W W5 ∧ W.heap.size ≤ W5.heap.size) := hide ⟨(unhide HK1).1.trans (KI.below hbW), by have := (unhide HK1).2; have := hbW.size; omega⟩
        have HS0 : Hid (W5.cell? ⟨b, 0, none⟩ = some (.slice (some ⟨vb, 0, none⟩) (n + 1) (n + 1))) := hide hfi.sm.c0
        have HSV : Hid (∀ u, u ≤ n → W5.cell? ⟨vb, u, none⟩ = some (.int .i64 (vs'.getD u 0))) := hide (fun u hu => iC_cell hfi.sm.vals (getD_some (i := u) (by rw [hfi.v.1]; omega)))
        have HNX : Hid (b ≠ xb ∧ vb ≠ xb ∧ b < W5.heap.size ∧ vb < W5.heap.size) := hide (by
          have h1 := hfi.sm.hb
          have h2 := hfi.sm.hv
          have h3 := heap_lt (unhide HX1)
          exact ⟨by omega, by omega, World.block_lt_of_cell? _ _ hfi.sm.c0, heap_lt hfi.sm.vals⟩)
        have HVN : Hid (∀ u, 1 ≤ u → u ≤ n → vs'.getD u 0 ≠ 0) := hide (fun u h1 h2 => not_fre (hshut rfl) (unhide HCL) HAv h1 (hful u h1 h2))
        have HRES : Hid (Vs n most Cl true D k T0 (.sat (mdl vs' n) (k + 1))) := hide (.sat (by omega) hncon hful (mdl_is hfi.s (hshut rfl) (unhide HCL) HAv))
        clear hfi hshut HX1 HT1 HD1 HB1 HK1 hbW HTRU HR1 c1 hcv hncon hful HAv
        go_wp2
        go_loopw [7] (fun i wr => ∃ v : Nat, 1 ≤ v ∧ v ≤ n + 1 ∧ i = .int .i64 (v : Int) ∧ wr = W5) (fun i wr => n + 1 - (intOf i).toNat)
        case atStart => exact ⟨1, Nat.le_refl _, by omega, rfl, rfl⟩
        case round =>
          obtain ⟨v, hv1, hv2, rfl, hwr⟩ := hrel
          have hwr' := hwr.symm
          subst hwr'
          have y0 := (unhide HX5).c0
          by_cases hvn : v ≤ n
          · have y1 := unhide HS0
            have y2 := unhide HSV v (by omega)
            have y3 : (vs'.getD v 0 != 0) = true := by simpa using unhide HVN v hv1 hvn
            have v1 : (v : Int) ≤ (n : Int) := by omega
            have v2 : (0 : Int) ≤ (v : Int) := by omega
            have v3 : (v : Int) < ((n + 1 : Nat) : Int) := by omega
            generalize vs'.getD v 0 = x at *
            go_wp2
            exact ⟨⟨v + 1, by omega, by omega, by go_num, trivial⟩, by simp [intOf]; omega⟩
          · obtain rfl : v = n + 1 := by omega
            have v1 : ¬ ((n + 1 : Nat) : Int) ≤ (n : Int) := by omega
            have v1' : decide (((n + 1 : Nat) : Int) ≤ (n : Int)) = false := decide_eq_false v1
            have v2 : (n : Int) < ((n + 1 : Nat) : Int) := by omega
            go_wp2
            go_loopw [8] (fun i wr => ∃ (j : Nat) (mv : Value), j ≤ n ∧ i = .int .i64 ((j + 1 : Nat) : Int) ∧ XH n cv most xb (k + 1) mv tv false wr ∧ IR W5.heap.size wr mv (mdl vs' j) ∧ (∀ g, g < W5.heap.size → g ≠ xb → wr.heap[g]? = W5.heap[g]?) ∧ W5.heap.size ≤ wr.heap.size ∧ Below B w wr) (fun i wr => n + 1 - (intOf i).toNat)
            case atStart => exact ⟨0, _, Nat.zero_le _, rfl, unhide HX5, ⟨rfl, .inl ⟨rfl, rfl⟩⟩, fun _ _ _ => rfl, Nat.le_refl _, unhide HB5⟩
            case round =>
              obtain ⟨j, mv, hj, rfl, hxr, hir, hsame, hsz, hbr⟩ := hrel
              have r0 := hxr.c0
              by_cases hjn : j < n
              · have l1 : ((j + 1 : Nat) : Int) ≤ (n : Int) := by omega
                have HC4 := hide hxr.c4
                have hnx := unhide HNX
                have HCV : Hid (wr.cell? ⟨b, 0, none⟩ = some (.slice (some ⟨vb, 0, none⟩) (n + 1) (n + 1))) := hide ((World.cell?_of_block (a := ⟨b, 0, none⟩) (hsame b hnx.2.2.1 hnx.1)).trans (unhide HS0))
                have HCX : Hid (wr.cell? ⟨vb, j + 1, none⟩ = some (.int .i64 (vs'.getD (j + 1) 0))) := hide ((World.cell?_of_block (a := ⟨vb, j + 1, none⟩) (hsame vb hnx.2.2.2 hnx.2.1)).trans (unhide HSV (j + 1) (by omega)))
                obtain ⟨ma, mc, hmv⟩ := hir.shape
                have HMS : ∃ a l c, mv = .slice a l c := ⟨_, _, _, hmv⟩
                have HIR := hide hir
                have HTV : Hid (wr.ownsRow W5.heap.size 3 1 mv (iL (mdl vs' j)).length (iL (mdl vs' j))) := hide (by have h := hir; unfold IR at h; rw [show (iL (mdl vs' j)).length = (mdl vs' j).length by simp [iL]]; exact h)
                have HAL : Hid ((iL (mdl vs' j)).length ≤ 1048576) := hide (by simp [iL, mdl_len]; omega)
                have HGB : Hid (wr.heap[xb]? = some (.cells (XF n cv most (k + 1) mv tv false) 38)) := hide hxr
                have HNXT : Hid (∀ V V1 V0 v', V1.ownsRow W5.heap.size 3 1 v' ((iL (mdl vs' j)).length + 1) (iL (mdl vs' j) ++ [.int .i64 (if (vs'.getD (j + 1) 0 == 1) = true then 1 else 0)]) → Below wr.heap.size wr V0 → V0.grownBy V1 mv.ownBlock → V = V1.setCell ⟨xb, 4, none⟩ v' → XH n cv most xb (k + 1) v' tv false V ∧ IR W5.heap.size V v' (mdl vs' (j + 1)) ∧ (∀ g, g < W5.heap.size → g ≠ xb → V.heap[g]? = W5.heap[g]?) ∧ W5.heap.size ≤ V.heap.size ∧ Below B w V) := hide (fun V V1 V0 v' h1 h2 h3 h4 => by
                  subst h4
                  have x0 : XH n cv most xb (k + 1) mv tv false V0 := hxr.later h2
                  have ho0 : V0.ownsRow W5.heap.size 3 1 mv (iL (mdl vs' j)).length (iL (mdl vs' j)) := ownsRow_keep (unhide HTV) (fun g o _ hg => (h2.block g (heap_lt hg)).trans hg)
                  have x1 : XH n cv most xb (k + 1) mv tv false V1 := x0.grown ho0 (by decide) h3
                  have s1 := h2.size
                  have s2 := h3.size
                  have hbB : B ≤ W5.heap.size := by have := (unhide HB5).size; rw [unhide HB]; exact this
                  refine ⟨x1.model v', ?_, fun g hg hne => ?_, by simp; omega, ?_⟩
                  · unfold IR
                    rw [mdl_succ, List.length_append]
                    have h1' := ownsRow_keep (W' := V1.setCell ⟨xb, 4, none⟩ v') h1 (fun g o _ hg => (Below.heap_setCell V1 ⟨xb, 4, none⟩ v' g (ty_ne hg x1 (by decide))).trans hg)
                    unfold iL at *
                    rw [List.map_append]
                    rw [List.length_map] at h1'
                    exact h1'
                  · rw [Below.heap_setCell V1 ⟨xb, 4, none⟩ v' g hne, h3.block g (by omega) (fun e => by have := (World.ownsRow.lt ho0 g e.symm).1; omega), h2.block g (by omega), hsame g hg hne]
                  · exact ((hbr.trans (h2.mono (by omega))).grown h3 (by omega) (fun j hj => Nat.le_trans hbB (World.ownsRow.lt ho0 j hj).1)).setCell (p := ⟨xb, 4, none⟩) (unhide HLO) _)
                clear hxr hir hsame hbr hmv hnx
                go_wp2
                refine moRow (cb := (vs'.getD (j + 1) 0 == 1)) (y := if (vs'.getD (j + 1) 0 == 1) = true then 1 else 0) HTV HAL (by omega) (hide hsz) HC4 HCV HCX (hide rfl) (hide rfl) HGB HMS _ rfl rfl rfl rfl ?_
                intro a V V1 V0 v' hnt hdf hkeep h1 h2 h3 h4 h5
                have HNN := hide (unhide HNXT V V1 V0 v' h1 h2 h3 h5)
                obtain ⟨us, rfl, hus⟩ := putAll_of [90, 91, 92, 93, 94, 95, 96, 97, 98, 99, 100, 101, 102, 103, 104, 105, 106, 107] hnt hdf hkeep
                clear hnt hdf hkeep hus h1 h2 h3 h4 h5 HNXT HTV HAL HC4 HCV HCX HGB HMS
                simp only [putAll, List.foldl, Act.put, List.setIfInBounds_toArray, List.set_cons_zero, List.set_cons_succ]
                generalize us 90 = z90 at *
                generalize us 91 = z91 at *
                generalize us 92 = z92 at *
                generalize us 93 = z93 at *
                generalize us 94 = z94 at *
                generalize us 95 = z95 at *
                generalize us 96 = z96 at *
                generalize us 97 = z97 at *
                generalize us 98 = z98 at *
                generalize us 99 = z99 at *
                generalize us 100 = z100 at *
                generalize us 101 = z101 at *
                generalize us 102 = z102 at *
                generalize us 103 = z103 at *
                generalize us 104 = z104 at *
                generalize us 105 = z105 at *
                generalize us 106 = z106 at *
                generalize us 107 = z107 at *
                go_wp2
                exact ⟨⟨j + 1, v', by omega, by go_num, (unhide HNN).1, (unhide HNN).2.1, (unhide HNN).2.2.1, (unhide HNN).2.2.2.1, (unhide HNN).2.2.2.2⟩, by simp [intOf]; omega⟩
              · obtain rfl : j = n := by omega
                have l1 : ¬ ((j + 1 : Nat) : Int) ≤ (j : Int) := by omega
                have HE : Hid (SQ B j w cv most xb Cl D k T0 W (.returned (.bool true)) wr) := hide (by
                  refine ⟨hbr, (unhide HK5).1.trans (fun g o hg => (hsame g (heap_lt hg) (ty_ne hg (unhide HX5) (by decide))).trans hg), Nat.le_trans (unhide HK5).2 hsz, .inr (.inl ⟨rfl, k + 1, _, mv, tv, hxr, hir.low (by have := (unhide HB5).size; rw [unhide HB]; exact this), unhide HRES⟩)⟩)
                clear hxr hir hsame hsz hbr
                go_wp2
                exact bodyPost_ret (v := .bool true) (by simp [results, Try.results15, go_sem]) rfl (unhide HE)
end Go.Proofs.Ytonfbnbkhpabbaa
