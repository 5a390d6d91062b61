/- retimeClock of the program, over what first answers. -/
import Derived.Test.YtkmpjoiefcjbnaaDoorRTA
import Derived.Test.YtkmpjoiefcjbnaaDoorRTB
import Derived.Test.YtkmpjoiefcjbnaaDoorRT13
namespace Go.Proofs.YtkmpjoiefcjbnaaDoor
open Go.RowKit Gs
set_option linter.unusedVariables false
set_option linter.unusedSimpArgs false
set_option maxRecDepth 100000
/-- The set of the clocks of operands; none where one is neither a constant nor a register. -/
def setS (n : Net) : List Int → Nat → Option Nat
  | [], m => some m
  | i :: is, m => match n.cells[i.toNat]? with
    | some k => if k.op = 29 then setS n is m else if k.op = 34 then setS n is (m ||| 2 ^ (clkOf n k).toNat) else none
    | none => none
def okC (n : Net) (ins : List Int) : Bool := match setS n ins 0 with
  | some m => decide (pc m = 1)
  | none => false
theorem NS.add0 {W : World} {b m c : Nat} (h : NS W b m) (hc : c < 8) : NS (W.setCell ⟨b, 0, none⟩ (.int .u64 ((m ||| 2 ^ c : Nat) : Int))) b (m ||| 2 ^ c) := by
  obtain ⟨h0, h1, h2, h3, h4, h5⟩ := NS.add h hc
  exact ⟨h0, h1, h2, h3, h4, h5⟩
theorem Bt.setIn {t : TypeId} {W V : World} {vs : Array Value} (h : Bt t W vs V) (v : Value) : Bt t W vs (V.setCell ⟨W.heap.size + 1, 0, none⟩ v) := by
  have e : (W.alloc (.cells vs t)).heap.size = W.heap.size + 1 := by go_simp
  unfold Bt at *
  exact h.setCell (p := ⟨W.heap.size + 1, 0, none⟩) (by rw [e]; exact Nat.le_refl _) v
set_option maxHeartbeats 16000000 in
theorem iClock (n : Net) (v0 v1 v2 v3 v4 v5 : Value) (w : World) (h : CW w n v0 v1 v2 v3 v4 v5) (j : Nat) (c : Cell) (hj : n.cells[j]? = some c) (hg : Good n c.ins) (ht : Tz w) :
    Calls Tryd.prog 26 #[.agg #[v0, v1, v2, v3, v4, v5], .int .i64 (j : Int)] w fun e w' => (∃ z, e = .returned (.tuple #[.int .i64 z, .bool (okC n c.ins)])) ∧ Below w.heap.size w w' := by
  have hl2 := h.cells.len
  have hl3 := h.regs.len
  unfold maxLen at hl2 hl3
  obtain ⟨a3, c3, e3⟩ := h.regs.slice
  have hjl : j < n.cells.length := (List.getElem?_eq_some_iff.1 hj).1
  have HCW := hide h
  have HG := hide hg
  rcases h.cells.open with ⟨hnil, _⟩ | ⟨b2, o2, c2, e2, _, _, _, hcs2⟩
  · rw [hnil] at hjl; simp at hjl
  obtain ⟨u, _, hat, vi, rfl, hbits, hins⟩ := hcs2 j c hj
  have k5 := hat.get (j := 5) rfl
  have hb2 : b2 < w.heap.size := World.block_lt_of_cell? w _ k5
  have HI := hide hins
  have hli := hins.len
  unfold maxLen at hli
  obtain ⟨ai, ci, ei⟩ := hins.slice
  have j1 : (0 : Int) ≤ (j : Int) := by omega
  have j2 : (j : Int) < (n.cells.length : Int) := by omega
  subst e2 e3 ei
  have HFI := hide ht
  clear h hg hat hcs2 hins hbits hj ht
  generalize c.ins = ins at *
  obtain ⟨R, hR⟩ : ∃ R, okC n ins = R := ⟨_, rfl⟩
  rw [hR]
  have HR := hide (show (match setS n ins 0 with | some m => decide (pc m = 1) | none => false) = R from hR)
  clear hR
  have NS0 := hide (show NS ((w.alloc (.cells #[v0, v1, .slice (some ⟨b2, o2, none⟩) n.cells.length c2, .slice a3 n.regs.length c3, v4, v5] 37)).alloc (.cells #[.int .u64 0, .int .u64 0, .int .u64 0, .int .u64 0] 94)) (w.heap.size + 1) 0 from ⟨two_next _ _ _ _ _ rfl, two_next _ _ _ _ _ rfl, two_next _ _ _ _ _ rfl, two_next _ _ _ _ _ rfl, by simp, by omega⟩)
  go_enter Tryd.func26, Tryd.ntmps26
  go_wp2
  go_loopw [17] (fun i wr => ∃ (k m : Nat), k ≤ ins.length ∧ i = .int .i64 k ∧ (match setS n (ins.drop k) m with | some m => decide (pc m = 1) | none => false) = R ∧ NS wr (w.heap.size + 1) m ∧ Bt 37 w #[v0, v1, .slice (some ⟨b2, o2, none⟩) n.cells.length c2, .slice a3 n.regs.length c3, v4, v5] wr) (fun i _ => ins.length - (intOf i).toNat)
  case atStart => exact ⟨0, 0, Nat.zero_le _, rfl, unhide HR, unhide NS0, bal (Bt.refl _ _ _) _⟩
  case round =>
    clear HR NS0
    obtain ⟨k, m, hk, rfl, hrun, hns, hbx⟩ := hrel
    obtain ⟨q0, q1, q2, q3, q4, q5⟩ := hbx.get6
    have hb := hbx.below
    have hsz := hbx.size
    have hs1 : w.heap.size + 1 < wr.heap.size := World.block_lt_of_cell? wr _ hns.c0
    by_cases hlt : k < ins.length
    · have hx : ins[k]? = some ins[k] := List.getElem?_eq_getElem hlt
      have hmem : ins[k] ∈ ins := List.getElem_mem hlt
      have hdr : ins.drop k = ins[k] :: ins.drop (k + 1) := List.drop_eq_getElem_cons hlt
      rw [hdr] at hrun
      generalize ins[k] = x at hx hmem hrun
      obtain ⟨q, kc, rfl, hkc⟩ := (unhide HG).kid x hmem
      have hql : q < n.cells.length := (List.getElem?_eq_some_iff.1 hkc).1
      rcases (unhide HI).open with ⟨hnil, _⟩ | ⟨bi, oi, cc, ee, _, _, _, hcs⟩
      · rw [hnil] at hlt; simp at hlt
      obtain ⟨rfl, rfl⟩ : ai = some ⟨bi, oi, none⟩ ∧ ci = cc := by
        injection ee with e1 e2 e3
        exact ⟨e1, e3⟩
      obtain ⟨u, _, hat, hux⟩ := hcs k _ hx
      obtain rfl : u = [.int .i64 (q : Int)] := hux
      have m0 := cell_later hb (hat.get (j := 0) rfl)
      simp only [Nat.add_zero, Nat.mul_one] at m0
      rcases (unhide HCW).cells.open with ⟨hnil, _⟩ | ⟨b2', o2', cc2, ee2, _, _, _, hcs2⟩
      · rw [hnil] at hql; simp at hql
      obtain ⟨rfl, rfl, rfl⟩ : b2 = b2' ∧ o2 = o2' ∧ c2 = cc2 := by
        injection ee2 with e1 e2 e3
        injection e1 with e1
        injection e1 with e1 e4
        exact ⟨e1, e4, e3⟩
      obtain ⟨u2, _, hat2, y5, rfl, hbits, hins2⟩ := hcs2 q kc hkc
      have k0 := cell_later hb (hat2.get (j := 0) rfl)
      have k1 := cell_later hb (hat2.get (j := 1) rfl)
      have k2 := cell_later hb (hat2.get (j := 2) rfl)
      have k3 := cell_later hb (hat2.get (j := 3) rfl)
      have k4 := cell_later hb (hat2.get (j := 4) rfl)
      have k5' := cell_later hb (hat2.get (j := 5) rfl)
      simp only [Nat.add_zero] at k0
      obtain ⟨a5, c5, e5⟩ := hins2.slice
      subst e5
      have i1 : (0 : Int) ≤ (q : Int) := by omega
      have i2 : (q : Int) < (n.cells.length : Int) := by omega
      have i3 : (k : Int) < (ins.length : Int) := by omega
      have hrun2 : (match (if kc.op = 29 then setS n (ins.drop (k + 1)) m else if kc.op = 34 then setS n (ins.drop (k + 1)) (m ||| 2 ^ (clkOf n kc).toNat) else none) with | some m => decide (pc m = 1) | none => false) = R := by
        rw [← hrun, setS, Int.toNat_natCast, hkc]
      have HRG := hide (fun (h34 : kc.op = 34) => (show ∃ (r ck b3 o3 cc3 : Nat), kc.n = (r : Int) ∧ r < n.regs.length ∧ (clkOf n kc).toNat = ck ∧ ck < 8 ∧ a3 = some ⟨b3, o3, none⟩ ∧ c3 = cc3 ∧ w.cell? ⟨b3, o3 + r * 5 + 2, none⟩ = some (.int .i64 (ck : Int)) from by
        obtain ⟨r, g, e1, e2, e3, e4⟩ := (unhide HG).reg q kc hkc h34
        have hrl : r < n.regs.length := (List.getElem?_eq_some_iff.1 e2).1
        rcases (unhide HCW).regs.open with ⟨hnil, _⟩ | ⟨b3, o3, cc3, ee3, _, _, _, hcs3⟩
        · rw [hnil] at hrl; simp at hrl
        obtain ⟨f1, f2⟩ : a3 = some ⟨b3, o3, none⟩ ∧ c3 = cc3 := by
          injection ee3 with e1 e2 e3
          exact ⟨e1, e3⟩
        obtain ⟨u3, _, hat3, hu3, _⟩ := hcs3 r g e2
        subst hu3
        have hc := hat3.get (j := 2) rfl
        have ec : g.clock = ((g.clock.toNat : Nat) : Int) := by omega
        rw [ec] at hc
        exact ⟨r, g.clock.toNat, b3, o3, cc3, e1, hrl, by unfold clkOf; rw [e1, Int.toNat_natCast, e2], by omega, f1, f2, hc⟩))
      have HB := hide hb
      have HX := hide hbx
      have HNS := hide hns
      clear hat hcs hx hmem ee hat2 hcs2 ee2 hkc hrun hb hbx hns hins2 hbits HCW HI HG hdr HFI
      generalize kc.op = y0 at *
      generalize kc.width = y1 at *
      generalize kc.signed = y3 at *
      generalize kc.bits = y4 at *
      by_cases h29 : y0 = 29
      · subst h29
        rw [if_pos rfl] at hrun2
        have HN := hide hrun2
        clear hrun2 HRG
        go_wp2
        exact ⟨⟨k + 1, m, by omega, by go_num, unhide HN, (unhide HNS).later (bal (brf _) _), (unhide HX).alloc _⟩, by simp [intOf]; omega⟩
      · rw [if_neg h29] at hrun2
        have f29 : (y0 == 29) = false := beq_eq_false_iff_ne.2 h29
        by_cases h34 : y0 = 34
        · subst h34
          rw [if_pos rfl] at hrun2
          obtain ⟨r, ck, b3, o3, cc3, hrn, hrl, hck, hck8, rfl, rfl, hrc⟩ := unhide HRG rfl
          rw [hck] at hrun2
          have HN := hide hrun2
          have m3 := cell_later (unhide HB) hrc
          have hb3 : b3 < wr.heap.size := World.block_lt_of_cell? wr _ m3
          have r1 : (0 : Int) ≤ (r : Int) := by omega
          have r2 : (r : Int) < (n.regs.length : Int) := by omega
          rw [hrn] at k2
          generalize kc.n = y2 at *
          subst hrn
          have AD := hide (fun V (h : NS V (w.heap.size + 1) m) => iAdd V (w.heap.size + 1) m ck h hck8)
          clear hrun2 HRG hck
          go_wp2_with (first | (go_at_call 52; refine (unhide AD _ ((unhide HNS).later (bal (brf _) _))).mono ?_; rintro e V1 ⟨⟨z, rfl⟩, rfl⟩))
          exact ⟨⟨k + 1, _, by omega, by go_num, unhide HN, (NS.add0 (unhide HNS) hck8).later (bdr (bal (brf _) _)), ((Bt.setIn (unhide HX) _).alloc _).drew⟩, by simp [intOf]; omega⟩
        · rw [if_neg h34] at hrun2
          have HE := hide (show false = R from hrun2)
          have f34 : (y0 == 34) = false := beq_eq_false_iff_ne.2 h34
          clear hrun2 HRG
          go_wp2
          refine bodyPost_ret (v := .tuple #[.int .i64 0, .bool false]) (by simp [results, Tryd.results26, go_sem]) rfl ⟨⟨0, by rw [unhide HE]⟩, bal (unhide HB) _⟩
    · have hkl : k = ins.length := by omega
      subst hkl
      rw [List.drop_length] at hrun
      have HE := hide (show decide (pc m = 1) = R from hrun)
      have FS := hide (iFirst m wr hns.small ((unhide HFI).later hb))
      have SZ := hide (fun V (h : NS V (w.heap.size + 1) m) => iSize V (w.heap.size + 1) m h)
      obtain ⟨d0, d1, d2, d3, df, dm⟩ := id hns
      have HNS := hide hns
      have HB := hide hb
      clear hrun hbx hns hb HCW HI HG HFI
      generalize pc m = P at *
      go_wp2_with (first | (go_at_call 53; refine (unhide FS).mono ?_; rintro e V1 ⟨⟨z, rfl⟩, hb1⟩; have HN1 := hide ((unhide HNS).later hb1); have HB1 := hide (btr (unhide HB) hb1); clear hb1) | (go_at_call 54; refine (unhide SZ _ (unhide HN1)).mono ?_; rintro e V2 ⟨rfl, rfl⟩))
      refine bodyPost_ret (v := .tuple #[.int .i64 z, .bool ((P : Int) == 1)]) (by simp [results, Tryd.results26, go_sem]) rfl ⟨⟨z, ?_⟩, unhide HB1⟩
      rw [← unhide HE, show ((P : Int) == 1) = decide (P = 1) from (show ((P : Int) == 1) = decide ((P : Int) = 1) from rfl).trans (decide_eq_decide.2 (by omega))]
end Go.Proofs.YtkmpjoiefcjbnaaDoor
namespace Go.Proofs.YtkmpjoiefcjbnaaDoor
open Go.RowKit Gs
set_option linter.unusedVariables false
set_option linter.unusedSimpArgs false
set_option maxRecDepth 100000
def okAt (n : Net) (j : Nat) : Bool := match n.cells[j]? with
  | some c => okC n c.ins
  | none => false
def retP (n : Net) (k : Nat) : List Int := ((List.range k).filter fun j => okAt n j).map fun (j : Nat) => (j : Int)
theorem retP_succ (n : Net) (k : Nat) : retP n (k + 1) = if okAt n k = true then retP n k ++ [(k : Int)] else retP n k := by
  unfold retP
  rw [List.range_succ, List.filter_append, List.map_append]
  cases h : okAt n k
  · rw [if_neg (by decide)]; simp [h]
  · rw [if_pos rfl]; simp [h]
theorem retP_len (n : Net) (k : Nat) : (retP n k).length ≤ k := by
  unfold retP
  rw [List.length_map]
  exact Nat.le_trans (List.length_filter_le _ _) (by rw [List.length_range]; exact Nat.le_refl _)
set_option maxHeartbeats 16000000 in
theorem iRetYes (n : Net) (v0 v1 v2 v3 v4 v5 : Value) (w : World) (h : CW w n v0 v1 v2 v3 v4 v5) (hl : n.cells.length ≤ 4096) (hg : ∀ (j : Nat) (c : Cell), n.cells[j]? = some c → Good n c.ins) (ht : Tz w)
    (NK : ∀ V, Below w.heap.size w V → Calls Tryd.prog 25 #[.agg #[v0, v1, v2, v3, v4, v5]] V fun e w' => e = .returned (.bool true) ∧ Below V.heap.size V w') (hsl : (∃ a l c, v0 = .slice a l c) ∧ (∃ a l c, v1 = .slice a l c) ∧ (∃ a l c, v4 = .slice a l c) ∧ (∃ a l c, v5 = .slice a l c)) :
    Calls Tryd.prog 7 #[.agg #[v0, v1, v2, v3, v4, v5]] w fun e w' => (∃ v, e = .returned v ∧ OI w.heap.size w' v (retP n n.cells.length)) ∧ Below w.heap.size w w' := by
  obtain ⟨a2, c2, e2⟩ := h.cells.slice
  obtain ⟨a3, c3, e3⟩ := h.regs.slice
  obtain ⟨⟨a0, l0, c0, e0⟩, ⟨a1, l1, c1, e1⟩, ⟨a4, l4, c4, e4⟩, ⟨a5, l5, c5, e5⟩⟩ := hsl
  have CK := hide (fun (V : World) (hb : Below w.heap.size w V) (j : Nat) (c : Cell) (hj : n.cells[j]? = some c) => iClock n v0 v1 v2 v3 v4 v5 V ⟨h.ins.later RNetPort.keeps hb, h.cells.later RCell.keeps hb, h.regs.later RNetReg.keeps hb⟩ j c hj (hg j c hj) (ht.later hb))
  have HNK := hide NK
  subst e0 e1 e2 e3 e4 e5
  clear h hg NK ht
  obtain ⟨i0, hi, hz0, hz1, hz2⟩ := info_parts info3
  go_enter Tryd.func7, Tryd.ntmps7
  go_wp2_with fail
  refine (unhide HNK _ (bal (brf w) _)).mono ?_
  rintro e W1 ⟨rfl, hb1⟩
  have HX := hide (show Bt 37 w #[.slice a0 l0 c0, .slice a1 l1 c1, .slice a2 n.cells.length c2, .slice a3 n.regs.length c3, .slice a4 l4 c4, .slice a5 l5 c5] W1 from hb1)
  clear hb1 HNK
  obtain ⟨q0, q1, q2, q3, q4, q5⟩ := (unhide HX).get6
  go_wp2
  go_loopw [3, 13] (fun v i wr => ∃ k : Nat, k ≤ n.cells.length ∧ i = .int .i64 k ∧ OI (w.heap.size + 1) wr v (retP n k) ∧ Bt 37 w #[.slice a0 l0 c0, .slice a1 l1 c1, .slice a2 n.cells.length c2, .slice a3 n.regs.length c3, .slice a4 l4 c4, .slice a5 l5 c5] wr) (fun _ i _ => n.cells.length - (intOf i).toNat)
  case atStart => exact ⟨0, Nat.zero_le _, rfl, OI_nil _ _, unhide HX⟩
  case round =>
    clear q0 q1 q2 q3 q4 q5 HX
    obtain ⟨k, hk, rfl, ho, hbx⟩ := hrel
    obtain ⟨q0, q1, q2, q3, q4, q5⟩ := hbx.get6
    have hb := hbx.below
    have hsz := hbx.size
    have HX := hide hbx
    have HO := hide ho
    clear hbx ho
    by_cases hlt : k < n.cells.length
    · have hx : n.cells[k]? = some n.cells[k] := List.getElem?_eq_getElem hlt
      generalize n.cells[k] = x at hx
      have hck : okAt n k = okC n x.ins := by unfold okAt; rw [hx]
      have CC := hide (unhide CK wr hb k x hx)
      have HRT := hide (retP_succ n k)
      have HLN := hide (retP_len n k)
      clear hx CK
      rw [hck] at HRT
      clear hck
      generalize okC n x.ins = ok at *
      cases ok
      · rw [if_neg (by decide)] at HRT
        go_wp2_with (first | (go_at_call 26; refine (unhide CC).mono ?_; rintro e V1 ⟨⟨z, rfl⟩, hb1⟩; have HB1 := hide hb1; clear hb1))
        exact ⟨⟨k + 1, by omega, by go_num, by rw [unhide HRT]; exact (unhide HO).later (unhide HB1), (unhide HX).then (unhide HB1)⟩, by simp [intOf]; omega⟩
      · rw [if_pos rfl] at HRT
        go_wp2_with (first
          | (go_at_call 26; refine (unhide CC).mono ?_; rintro e V1 ⟨⟨z, rfl⟩, hb1⟩; have HO1 := hide ((unhide HO).later hb1); have HX1 := hide ((unhide HX).then hb1); clear hb1; have hs1 := (unhide HX1).size)
          | (at_builtin; refine wpList_append_own _ rfl _ _ 30 rfl (w.heap.size + 1) 3 i0 (.int .i64 0) 1 8 Tryd.underlying30 hi hz0 hz1 hz2 rfl (by decide) _ _ _ rfl ((unhide HO1).alloc _) ⟨V1.heap.size, 0, none⟩ 1 1 [.int .i64 (k : Int)] rfl rfl (newI _ _ _ rfl) (oneI _) (by have := unhide HLN; unfold maxLen; omega) (by have := unhide HLN; omega) (by simp; omega) ?_; intro v' w2 hown' hgrow _))
        have R1 : OI (w.heap.size + 1) w2 v' (retP n (k + 1)) := by rw [unhide HRT]; exact OI.step hown'
        have R2 := OI.frame ((unhide HX1).alloc _) ((unhide HO1).alloc _) hgrow
        go_roundw
        case rel => exact ⟨k + 1, by omega, by go_num, R1, R2⟩
        case measure => simp [intOf]; omega
    · have hkl : k = n.cells.length := by omega
      subst hkl
      have HB := hide hb
      clear hb CK
      obtain ⟨ra, rl, rc, rfl⟩ := (unhide HO).shape
      go_wp2
      refine bodyPost_ret (v := .slice ra rl rc) (by simp [results, Tryd.results7, go_sem]) rfl ⟨⟨_, rfl, ?_⟩, unhide HB⟩
      exact OI.low (Nat.le_succ _) (unhide HO)
end Go.Proofs.YtkmpjoiefcjbnaaDoor
