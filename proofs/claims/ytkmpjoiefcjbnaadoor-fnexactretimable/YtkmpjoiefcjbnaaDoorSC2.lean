/- The specification's l06Cell: the walk. -/
import Derived.Test.YtkmpjoiefcjbnaaDoorRGA
import Derived.Test.YtkmpjoiefcjbnaaDoorSX2
import Derived.Test.YtkmpjoiefcjbnaaDoorCF
namespace Go.Proofs.YtkmpjoiefcjbnaaDoor
open Go.RowKit Gs
set_option linter.unusedVariables false
set_option linter.unusedSimpArgs false
set_option maxRecDepth 100000
/-- What the loop of l06Cell keeps. -/
structure ZL (w2 : World) (g : Nat) (z0 z1 z2 : Int) (z3 : Bool) (z4 : ByteArray) (ws : List Int) (kv : Value) (W : World) : Prop where
  below : Below g w2 W
  e0 : W.cell? ⟨g, 0, none⟩ = some (.int .i64 z0)
  e1 : W.cell? ⟨g, 1, none⟩ = some (.int .i64 z1)
  e2 : W.cell? ⟨g, 2, none⟩ = some (.int .i64 z2)
  e3 : W.cell? ⟨g, 3, none⟩ = some (.bool z3)
  e4 : W.cell? ⟨g, 4, none⟩ = some (.string z4)
  e5 : W.cell? ⟨g, 5, none⟩ = some kv
  free : W.frozen? ⟨g, 5, none⟩ = false
  own : OZ (g + 1) kv ws W
  size : g + 1 ≤ W.heap.size
theorem ZL.next {w2 W V : World} {g : Nat} {z0 z1 z2 : Int} {z3 : Bool} {z4 : ByteArray} {ws ws' : List Int} {kv v' : Value} (h : ZL w2 g z0 z1 z2 z3 z4 ws kv W) (hb : Below (g + 1) W V) (ho : OZ (g + 1) v' ws' V) : ZL w2 g z0 z1 z2 z3 z4 ws' v' (V.setCell ⟨g, 5, none⟩ v') := by
  have c : ∀ j, V.cell? ⟨g, j, none⟩ = W.cell? ⟨g, j, none⟩ := fun j => hb.cell (p := ⟨g, j, none⟩) (Nat.lt_succ_self g)
  have f : V.frozen? ⟨g, 5, none⟩ = false := (hb.frozen (p := ⟨g, 5, none⟩) (Nat.lt_succ_self g)).trans h.free
  have so : ∀ j, j ≠ 5 → (V.setCell ⟨g, 5, none⟩ v').cell? ⟨g, j, none⟩ = W.cell? ⟨g, j, none⟩ := fun j hj =>
    (World.cell?_setCell_other (w := V) (a := ⟨g, 5, none⟩) (b := ⟨g, j, none⟩) (v := v') (ne_addr (.inr hj))).trans (c j)
  refine ⟨(h.below.trans (hb.mono (Nat.le_succ g))).setCell (p := ⟨g, 5, none⟩) (Nat.le_refl g) v', (so 0 (by omega)).trans h.e0, (so 1 (by omega)).trans h.e1, (so 2 (by omega)).trans h.e2, (so 3 (by omega)).trans h.e3, (so 4 (by omega)).trans h.e4, World.cell?_setCell_same (w := V) (a := ⟨g, 5, none⟩) (v := v') ((c 5).trans h.e5), by simpa using f, ownsRow_setCell_below ho (a := ⟨g, 5, none⟩) (Nat.lt_succ_self g) v', ?_⟩
  have := hb.size
  have := h.size
  simp; omega
def badOp (op : Int) : Bool := decide (op = 7) || decide (op = 8) || decide (op = 11) || decide (op = 30) || decide (op = 31) || decide (op = 32)
def placesB (j : Nat) (ins : List Int) : Bool := decide (ins.length ≤ 64) && ins.all (placeB j)
/-- What l06Cell answers. -/
def sCellB (n : Net) (j : Nat) (c : Cell) : Bool := placesB j c.ins && (if c.op = 33 then inB n c else if c.op = 34 then regB n c else if badOp c.op = true then false else if c.op = 29 ∧ (L c.bits).all Vb.knB = false then false else exB c.op c.width c.n c.signed c.bits (c.ins.map (wOf n)))
theorem ZL.start (w2 : World) (z0 z1 z2 : Int) (z3 : Bool) (z4 : ByteArray) : ZL w2 w2.heap.size z0 z1 z2 z3 z4 [] (.slice none 0 0) (w2.alloc (.cells #[.int .i64 z0, .int .i64 z1, .int .i64 z2, .bool z3, .string z4, .slice none 0 0] 104)) := by
  refine ⟨bal (brf w2) _, ?_, ?_, ?_, ?_, ?_, ?_, ?_, OZ.nil _ _, ?_⟩
  · rw [World.cell?_alloc_new]; rfl
  · rw [World.cell?_alloc_new]; rfl
  · rw [World.cell?_alloc_new]; rfl
  · rw [World.cell?_alloc_new]; rfl
  · rw [World.cell?_alloc_new]; rfl
  · rw [World.cell?_alloc_new]; rfl
  · simp
  · simp
set_option maxHeartbeats 16000000 in
theorem sCell (n : Net) (v0 v1 v2 v3 v4 v5 : Value) (w : World) (j : Nat) (c : Cell) (hj : n.cells[j]? = some c) (h : CW w n v0 v1 v2 v3 v4 v5) (hW : ∀ i, i < j → 1 ≤ wOf n (i : Int) ∧ wOf n (i : Int) ≤ 64) :
    Calls Tryd.prog 43 #[.agg #[v0, v1, v2, v3, v4, v5], .int .i64 j] w fun e w' => e = .returned (.bool (sCellB n j c)) ∧ Below w.heap.size w w' := by
  have hjl : j < n.cells.length := (List.getElem?_eq_some_iff.1 hj).1
  rcases h.cells.open with ⟨hnil, _⟩ | ⟨b2, o2, c2, rfl, hc2, hn2, _, hcs2⟩
  · rw [hnil] at hjl; simp at hjl
  obtain ⟨u, hul, hat, v, rfl, hbits, hins⟩ := hcs2 j c hj
  have hIl := hins.len
  unfold maxLen at hn2 hIl
  have k0 := hat.get (j := 0) rfl
  have k1 := hat.get (j := 1) rfl
  have k2 := hat.get (j := 2) rfl
  have k3 := hat.get (j := 3) rfl
  have k4 := hat.get (j := 4) rfl
  have k5 := hat.get (j := 5) rfl
  simp only [Nat.add_zero] at k0
  have hb2 : b2 < w.heap.size := World.block_lt_of_cell? w _ k0
  have j1 : (0 : Int) ≤ (j : Int) := by omega
  have j2 : (j : Int) < (n.cells.length : Int) := by omega
  clear hul hat
  have HI := hide hins
  have HW := hide (fun (x : Nat) (hx : x < j) => (show ∃ d, w.cell? ⟨b2, o2 + x * 6 + 1, none⟩ = some (.int .i64 d) ∧ d = wOf n (x : Int) ∧ 1 ≤ d ∧ d ≤ 64 from by
      have hxl : n.cells[x]? = some (n.cells[x]'(by omega)) := List.getElem?_eq_getElem _
      obtain ⟨u, _, hat, _, rfl, _⟩ := hcs2 x _ hxl
      have e : (n.cells[x]'(by omega)).width = wOf n (x : Int) := by
        unfold wOf
        rw [Int.toNat_natCast, hxl]
      exact ⟨_, hat.get (j := 1) rfl, e, by rw [e]; exact hW x hx⟩))
  obtain ⟨ia, ic, rfl⟩ := hins.slice
  have HIN := hide (fun (i : Nat) (p : NetPort) (hp : n.ins[i]? = some p) => (show ∃ b o cc, v0 = .slice (some ⟨b, o, none⟩) n.ins.length cc ∧ w.cell? ⟨b, o + i * 2 + 1, none⟩ = some (.int .i64 p.width) from by
    rcases h.ins.open with ⟨hnil, _⟩ | ⟨b, o, cc, e, _, _, _, hcs⟩
    · rw [hnil] at hp; simp at hp
    · obtain ⟨u, _, hat, hu, _⟩ := hcs i p hp
      subst hu
      exact ⟨b, o, cc, e, hat.get (j := 1) rfl⟩))
  have HRG := hide (fun (i : Nat) (p : NetReg) (hp : n.regs[i]? = some p) => (show ∃ b o cc, v3 = .slice (some ⟨b, o, none⟩) n.regs.length cc ∧ w.cell? ⟨b, o + i * 5 + 1, none⟩ = some (.int .i64 p.width) from by
    rcases h.regs.open with ⟨hnil, _⟩ | ⟨b, o, cc, e, _, _, _, hcs⟩
    · rw [hnil] at hp; simp at hp
    · obtain ⟨u, _, hat, hu, _⟩ := hcs i p hp
      subst hu
      exact ⟨b, o, cc, e, hat.get (j := 1) rfl⟩))
  have hln0 := h.ins.len
  have hln3 := h.regs.len
  obtain ⟨ha0, hc0, hv0⟩ := h.ins.slice
  obtain ⟨ha3, hc3, hv3⟩ := h.regs.slice
  unfold maxLen at hln0 hln3
  have HV0 := hide hv0
  have HV3 := hide hv3
  clear hv0 hv3
  generalize hSC : sCellB n j c = SC
  have R0 := hide (show placesB j c.ins = false → false = SC from fun h => by rw [← hSC]; unfold sCellB; rw [h]; rfl)
  have R33 := hide (show placesB j c.ins = true → c.op = 33 → inB n c = SC from fun h h' => by rw [← hSC]; unfold sCellB; rw [h, if_pos h']; rfl)
  have R34 := hide (show placesB j c.ins = true → c.op = 34 → regB n c = SC from fun h h' => by rw [← hSC]; unfold sCellB; rw [h, if_neg (by omega), if_pos h']; rfl)
  have RB := hide (show placesB j c.ins = true → c.op ≠ 33 → c.op ≠ 34 → badOp c.op = true → false = SC from fun h h1 h2 h3 => by rw [← hSC]; unfold sCellB; rw [h, if_neg h1, if_neg h2, if_pos h3]; rfl)
  have RK := hide (show placesB j c.ins = true → c.op = 29 → (L c.bits).all Vb.knB = false → false = SC from fun h h1 h2 => by rw [← hSC]; unfold sCellB; rw [h, if_neg (by omega), if_neg (by omega), if_neg (by rw [h1]; decide), if_pos ⟨h1, h2⟩]; rfl)
  have RX := hide (show placesB j c.ins = true → c.op ≠ 33 → c.op ≠ 34 → badOp c.op = false → ¬ (c.op = 29 ∧ (L c.bits).all Vb.knB = false) → exB c.op c.width c.n c.signed c.bits (c.ins.map (wOf n)) = SC from fun h h1 h2 h3 h4 => by rw [← hSC]; unfold sCellB; rw [h, if_neg h1, if_neg h2, if_neg (by rw [h3]; decide), if_neg h4]; rfl)
  have E33 : inB n c = (if 0 ≤ c.n then (match n.ins[c.n.toNat]? with | some p => (decide (c.width = p.width) && !c.signed && c.bits.toList.isEmpty && decide (c.ins.length = 0)) | none => false) else false) := rfl
  have E34 : regB n c = (if 0 ≤ c.n then (match n.regs[c.n.toNat]? with | some p => (decide (c.width = p.width) && !c.signed && c.bits.toList.isEmpty && decide (c.ins.length = 0)) | none => false) else false) := rfl
  rw [E33] at R33
  rw [E34] at R34
  have KN := hide (fun W => sKnown c.bits W hbits)
  clear E33 E34 hSC
  clear h hins hcs2 hj hW
  generalize hL : c.ins = ins at *
  generalize c.op = z0 at *
  generalize c.width = z1 at *
  generalize c.n = z2 at *
  generalize c.signed = z3 at *
  generalize c.bits = z4 at *
  clear hL
  generalize hw2 : (w.alloc (.cells #[v0, v1, .slice (some ⟨b2, o2, none⟩) n.cells.length c2, v3, v4, v5] 37)).alloc (.cells #[.int .i64 z0, .int .i64 z1, .int .i64 z2, .bool z3, .string z4, .slice ia ins.length ic] 52) = w2
  have hs2 : w2.heap.size = w.heap.size + 1 + 1 := by rw [← hw2]; exact two_size _ _ _ _ _
  have B2 : Below w.heap.size w w2 := by rw [← hw2]; exact bal (bal (brf w) _) _
  have t0 : w2.cell? ⟨w.heap.size, 2, none⟩ = some (.slice (some ⟨b2, o2, none⟩) n.cells.length c2) := by rw [← hw2]; exact two_first _ _ _ _ _ rfl
  have t1 : w2.cell? ⟨w.heap.size, 0, none⟩ = some v0 := by rw [← hw2]; exact two_first _ _ _ _ _ rfl
  have t2 : w2.cell? ⟨w.heap.size, 3, none⟩ = some v3 := by rw [← hw2]; exact two_first _ _ _ _ _ rfl
  have s0 : w2.cell? ⟨w.heap.size + 1, 0, none⟩ = some (.int .i64 z0) := by rw [← hw2]; exact two_next _ _ _ _ _ rfl
  have s1 : w2.cell? ⟨w.heap.size + 1, 1, none⟩ = some (.int .i64 z1) := by rw [← hw2]; exact two_next _ _ _ _ _ rfl
  have s2 : w2.cell? ⟨w.heap.size + 1, 2, none⟩ = some (.int .i64 z2) := by rw [← hw2]; exact two_next _ _ _ _ _ rfl
  have s3 : w2.cell? ⟨w.heap.size + 1, 3, none⟩ = some (.bool z3) := by rw [← hw2]; exact two_next _ _ _ _ _ rfl
  have s4 : w2.cell? ⟨w.heap.size + 1, 4, none⟩ = some (.string z4) := by rw [← hw2]; exact two_next _ _ _ _ _ rfl
  have s5 : w2.cell? ⟨w.heap.size + 1, 5, none⟩ = some (.slice ia ins.length ic) := by rw [← hw2]; exact two_next _ _ _ _ _ rfl
  have TT := hide (fun (V : World) (hb : Below w2.heap.size w2 V) => (show (V.cell? ⟨w.heap.size, 2, none⟩ = some (.slice (some ⟨b2, o2, none⟩) n.cells.length c2) ∧ V.cell? ⟨w.heap.size + 1, 5, none⟩ = some (.slice ia ins.length ic) ∧ V.cell? ⟨w.heap.size + 1, 4, none⟩ = some (.string z4)) ∧ V.cell? ⟨w.heap.size, 0, none⟩ = some v0 ∧ V.cell? ⟨w.heap.size, 3, none⟩ = some v3 ∧ V.cell? ⟨w.heap.size + 1, 0, none⟩ = some (.int .i64 z0) ∧ V.cell? ⟨w.heap.size + 1, 1, none⟩ = some (.int .i64 z1) ∧ V.cell? ⟨w.heap.size + 1, 2, none⟩ = some (.int .i64 z2) ∧ V.cell? ⟨w.heap.size + 1, 3, none⟩ = some (.bool z3) from ⟨⟨cell_later hb t0, cell_later hb s5, cell_later hb s4⟩, cell_later hb t1, cell_later hb t2, cell_later hb s0, cell_later hb s1, cell_later hb s2, cell_later hb s3⟩))
  have ZS := hide (ZL.start w2 z0 z1 z2 z3 z4)
  have HB2 := hide B2
  clear B2 t0 t1 t2 s0 s1 s2 s3 s4 s5
  rw [hs2] at ZS TT
  rw [← hw2] at ZS TT HB2
  clear hs2 hw2
  go_enter Tryd.func43, Tryd.ntmps43
  go_wp2
  go_loopw [7] (fun i wr => ∃ k : Nat, k ≤ ins.length ∧ k ≤ 64 ∧ i = .int .i64 k ∧ (ins.take k).all (placeB j) = true ∧ ∃ kv, ZL ((w.alloc (.cells #[v0, v1, .slice (some ⟨b2, o2, none⟩) n.cells.length c2, v3, v4, v5] 37)).alloc (.cells #[.int .i64 z0, .int .i64 z1, .int .i64 z2, .bool z3, .string z4, .slice ia ins.length ic] 52)) (w.heap.size + 1 + 1) z0 z1 z2 z3 z4 ((ins.take k).map (wOf n)) kv wr) (fun i _ => ins.length - (intOf i).toNat)
  case atStart => exact ⟨0, Nat.zero_le _, Nat.zero_le _, rfl, rfl, _, unhide ZS⟩
  case round =>
    clear k0 k1 k2 k3 k4 k5 ZS
    obtain ⟨k, hk, hk64, rfl, hall, kv, hz⟩ := hrel
    obtain ⟨⟨t0, t6, t4⟩, t1, t2, s0, s1, s2, s3⟩ := unhide TT _ hz.below
    have hbw : Below w.heap.size w wr := (unhide HB2).trans (hz.below.mono (by omega))
    by_cases hlt : k < ins.length
    · have hx : ins[k]? = some ins[k] := List.getElem?_eq_getElem hlt
      have hmem : ins[k] ∈ ins := List.getElem_mem hlt
      generalize ins[k] = x at hx hmem
      rcases (unhide HI).open with ⟨hnil, _⟩ | ⟨bi, oi, ci, hie, _, _, _, hcsi⟩
      · rw [hnil] at hlt; simp at hlt
      obtain ⟨rfl, rfl⟩ : ia = some ⟨bi, oi, none⟩ ∧ ic = ci := by
        injection hie with e1 e2 e3
        exact ⟨e1, e3⟩
      obtain ⟨u, _, hati, hui⟩ := hcsi k x hx
      unfold RInt at hui
      subst hui
      have hi0 := hati.get (j := 0) rfl
      simp only [Nat.add_zero, Nat.mul_one] at hi0
      have hbi : bi < w.heap.size := World.block_lt_of_cell? w _ hi0
      have m0 := cell_later hbw hi0
      by_cases h64 : k = 64
      · have HE := hide (unhide R0 (by unfold placesB; rw [decide_eq_false (by omega)]; rfl))
        have HBW := hide hbw
        have q64 : (64 : Int) ≤ (k : Int) := by omega
        clear hz hcsi hati hie hx hmem hall HI HW HIN HRG R0 R33 R34 RB RK RX KN HV0 HV3 hbw hi0
        go_wp2
        go_ret
        exact ⟨ret_bool (unhide HE), unhide HBW⟩
      · cases hp : placeB j x
        · have HE := hide (unhide R0 (by
            unfold placesB
            rw [show ins.all (placeB j) = false from by rw [← Bool.not_eq_true]; intro h; rw [List.all_eq_true.1 h x hmem] at hp; cases hp]
            rw [Bool.and_false]))
          have HBW := hide hbw
          have hp2 : x < 0 ∨ (0 ≤ x ∧ (j : Int) ≤ x) := by
            unfold placeB at hp
            rw [Bool.and_eq_false_iff, decide_eq_false_iff_not, decide_eq_false_iff_not] at hp
            omega
          have g1 : (k : Int) < 64 := by omega
          clear hz hcsi hati hie hx hmem hall HI HW HIN HRG R0 R33 R34 RB RK RX KN HV0 HV3 hbw hi0 hp
          rcases hp2 with h1 | ⟨h1, h2⟩
          all_goals
            go_wp2
            go_ret
            exact ⟨ret_bool (unhide HE), unhide HBW⟩
        · have hp2 : 0 ≤ x ∧ x < (j : Int) := by
            have := hp
            unfold placeB at this
            rw [Bool.and_eq_true, decide_eq_true_eq, decide_eq_true_eq] at this
            exact this
          obtain ⟨i, rfl⟩ : ∃ i : Nat, x = (i : Int) := ⟨x.toNat, by omega⟩
          obtain ⟨d, hd, hdw, hd1, hd2⟩ := unhide HW i (by omega)
          have m1 := cell_later hbw hd
          have i1 : (0 : Int) ≤ (i : Int) := by omega
          have i2 : (i : Int) < (n.cells.length : Int) := by omega
          have i3 : (i : Int) < (j : Int) := by omega
          have g1 : (k : Int) < 64 := by omega
          have FL := hide (fun V => (show Calls Tryd.prog 61 #[.int .u8 48, .int .i64 d] V fun e w' => e = .returned (.string (S (List.replicate d.toNat 48))) ∧ Below V.heap.size V w' from by
            have := sFill 48 d.toNat V (by omega)
            rwa [show ((d.toNat : Nat) : Int) = d by omega] at this))
          have HST := hide (show (ins.take (k + 1)).all (placeB j) = true from by
            rw [List.take_add_one, hx, List.all_append, hall]; simp [hp])
          have HWS := hide (show (ins.take (k + 1)).map (wOf n) = (ins.take k).map (wOf n) ++ [d] from by
            rw [List.take_add_one, hx, List.map_append, hdw]; rfl)
          have HLN := hide (show ((ins.take k).map (wOf n)).length ≤ 64 from by rw [List.length_map, List.length_take]; omega)
          have e5 := hz.e5
          have ef := hz.free
          have hsz := hz.size
          have HZ := hide hz
          clear hz hcsi hati hie hx hmem hall hp hp2 hd hdw HI HW t4 t1 t2 s0 s1 s2 s3 HIN HRG R0 R33 R34 RB RK RX KN HV0 HV3 hbw hi0
          go_wp2
          refine wp_region_plan (GK (w.heap.size + 1 + 1 + 1) kv ((ins.take k).map (wOf n)) d [some (.pointer (some ⟨w.heap.size + 1 + 1, 5, none⟩)), some (kv), some (.pointer (some ⟨w.heap.size, 2, none⟩)), some (.slice (some ⟨b2, o2, none⟩) n.cells.length c2), some (.pointer (some ⟨w.heap.size + 1, 5, none⟩)), some (.slice (some ⟨bi, oi, none⟩) ins.length ic), some (.int .i64 k), some (.pointer (some ⟨bi, oi + k, none⟩)), some (.int .i64 i), some (.pointer (some ⟨b2, o2 + i * 6, none⟩)), some (.pointer (some ⟨b2, o2 + i * 6 + 1, none⟩)), some (.int .i64 d), some (.pointer (some ⟨w.heap.size, 2, none⟩)), some (.slice (some ⟨b2, o2, none⟩) n.cells.length c2), some (.pointer (some ⟨w.heap.size + 1, 5, none⟩)), some (.slice (some ⟨bi, oi, none⟩) ins.length ic), some (.int .i64 k), some (.pointer (some ⟨bi, oi + k, none⟩)), some (.int .i64 i), some (.pointer (some ⟨b2, o2 + i * 6, none⟩)), some (.pointer (some ⟨b2, o2 + i * 6 + 1, none⟩)), some (.int .i64 d), some (.string (S (List.replicate d.toNat 48))), some (.agg #[.int .i64 29, .int .i64 d, .int .i64 0, .bool false, .string (S (List.replicate d.toNat 48)), .slice none 0 0]), none, none, some (.pointer (some ⟨w.heap.size + 1 + 1, 5, none⟩)), none]) (JK wr (w.heap.size + 1 + 1) kv ((ins.take k).map (wOf n)) d) (by kernel_rfl) 180 (by kernel_rfl) (by kernel_rfl) ?hj ?hs ?hf
          case hj => exact ⟨hsz, fun _ => (Below.refl _ wr).drew, fun _ => (unhide HZ).own.drew, fun h => by simp [Array.getD] at h⟩
          case hs =>
            refine ⟨?_, ?_, ?_, ?_, ?_, ?_, ?_, ?_, ?_, ?_, ?_, ?_, ?_, ?_, ?_, ?_, ?_, ?_, ?_, ?_, ?_, ?_, ?_, ?_, ?_, ?_, ?_, ?_, trivial⟩
            · exact pk_val rfl (by kernel_rfl) (by decide) (by decide) (fun l a w' hp ha hb => by have x0 := kn_old hp 6 (v := .pointer (some ⟨w.heap.size + 1 + 1, 0, none⟩)) (by kernel_rfl) (by kernel_rfl); go_simp)
            · exact pk_val rfl (by kernel_rfl) (by decide) (by decide) (fun l a w' hp ha hb => by have x0 := kn_tmp hp ha 51 0 (v := .pointer (some ⟨w.heap.size + 1 + 1, 5, none⟩)) (by kernel_rfl) (by kernel_rfl) rfl; have y := (hb.cell (p := ⟨w.heap.size + 1 + 1, 5, none⟩) (by show _ < _; first | exact Nat.lt_succ_self _ | (simp only []; omega))).trans e5; go_simp)
            · exact pk_val rfl (by kernel_rfl) (by decide) (by decide) (fun l a w' hp ha hb => by have x0 := kn_old hp 2 (v := .pointer (some ⟨w.heap.size, 0, none⟩)) (by kernel_rfl) (by kernel_rfl); go_simp)
            · exact pk_val rfl (by kernel_rfl) (by decide) (by decide) (fun l a w' hp ha hb => by have x0 := kn_tmp hp ha 53 2 (v := .pointer (some ⟨w.heap.size, 2, none⟩)) (by kernel_rfl) (by kernel_rfl) rfl; have y := (hb.cell (p := ⟨w.heap.size, 2, none⟩) (by show _ < _; first | exact Nat.lt_succ_self _ | (simp only []; omega))).trans t0; go_simp)
            · exact pk_val rfl (by kernel_rfl) (by decide) (by decide) (fun l a w' hp ha hb => by have x0 := kn_old hp 5 (v := .pointer (some ⟨w.heap.size + 1, 0, none⟩)) (by kernel_rfl) (by kernel_rfl); go_simp)
            · exact pk_val rfl (by kernel_rfl) (by decide) (by decide) (fun l a w' hp ha hb => by have x0 := kn_tmp hp ha 55 4 (v := .pointer (some ⟨w.heap.size + 1, 5, none⟩)) (by kernel_rfl) (by kernel_rfl) rfl; have y := (hb.cell (p := ⟨w.heap.size + 1, 5, none⟩) (by show _ < _; first | exact Nat.lt_succ_self _ | (simp only []; omega))).trans t6; go_simp)
            · exact pk_val rfl (by kernel_rfl) (by decide) (by decide) (fun l a w' hp ha hb => by have x0 := kn_old hp 7 (v := .int .i64 k) (by kernel_rfl) (by kernel_rfl); go_simp)
            · exact pk_val rfl (by kernel_rfl) (by decide) (by decide) (fun l a w' hp ha hb => by have x0 := kn_tmp hp ha 56 5 (v := .slice (some ⟨bi, oi, none⟩) ins.length ic) (by kernel_rfl) (by kernel_rfl) rfl; have x1 := kn_tmp hp ha 57 6 (v := .int .i64 k) (by kernel_rfl) (by kernel_rfl) rfl; go_simp)
            · exact pk_val rfl (by kernel_rfl) (by decide) (by decide) (fun l a w' hp ha hb => by have x0 := kn_tmp hp ha 58 7 (v := .pointer (some ⟨bi, oi + k, none⟩)) (by kernel_rfl) (by kernel_rfl) rfl; have y := (hb.cell (p := ⟨bi, oi + k, none⟩) (by show _ < _; first | exact Nat.lt_succ_self _ | (simp only []; omega))).trans m0; go_simp)
            · exact pk_val rfl (by kernel_rfl) (by decide) (by decide) (fun l a w' hp ha hb => by have x0 := kn_tmp hp ha 54 3 (v := .slice (some ⟨b2, o2, none⟩) n.cells.length c2) (by kernel_rfl) (by kernel_rfl) rfl; have x1 := kn_tmp hp ha 59 8 (v := .int .i64 i) (by kernel_rfl) (by kernel_rfl) rfl; go_simp)
            · exact pk_val rfl (by kernel_rfl) (by decide) (by decide) (fun l a w' hp ha hb => by have x0 := kn_tmp hp ha 60 9 (v := .pointer (some ⟨b2, o2 + i * 6, none⟩)) (by kernel_rfl) (by kernel_rfl) rfl; go_simp)
            · exact pk_val rfl (by kernel_rfl) (by decide) (by decide) (fun l a w' hp ha hb => by have x0 := kn_tmp hp ha 61 10 (v := .pointer (some ⟨b2, o2 + i * 6 + 1, none⟩)) (by kernel_rfl) (by kernel_rfl) rfl; have y := (hb.cell (p := ⟨b2, o2 + i * 6 + 1, none⟩) (by show _ < _; first | exact Nat.lt_succ_self _ | (simp only []; omega))).trans m1; go_simp)
            · exact pk_val rfl (by kernel_rfl) (by decide) (by decide) (fun l a w' hp ha hb => by have x0 := kn_old hp 2 (v := .pointer (some ⟨w.heap.size, 0, none⟩)) (by kernel_rfl) (by kernel_rfl); go_simp)
            · exact pk_val rfl (by kernel_rfl) (by decide) (by decide) (fun l a w' hp ha hb => by have x0 := kn_tmp hp ha 63 12 (v := .pointer (some ⟨w.heap.size, 2, none⟩)) (by kernel_rfl) (by kernel_rfl) rfl; have y := (hb.cell (p := ⟨w.heap.size, 2, none⟩) (by show _ < _; first | exact Nat.lt_succ_self _ | (simp only []; omega))).trans t0; go_simp)
            · exact pk_val rfl (by kernel_rfl) (by decide) (by decide) (fun l a w' hp ha hb => by have x0 := kn_old hp 5 (v := .pointer (some ⟨w.heap.size + 1, 0, none⟩)) (by kernel_rfl) (by kernel_rfl); go_simp)
            · exact pk_val rfl (by kernel_rfl) (by decide) (by decide) (fun l a w' hp ha hb => by have x0 := kn_tmp hp ha 65 14 (v := .pointer (some ⟨w.heap.size + 1, 5, none⟩)) (by kernel_rfl) (by kernel_rfl) rfl; have y := (hb.cell (p := ⟨w.heap.size + 1, 5, none⟩) (by show _ < _; first | exact Nat.lt_succ_self _ | (simp only []; omega))).trans t6; go_simp)
            · exact pk_val rfl (by kernel_rfl) (by decide) (by decide) (fun l a w' hp ha hb => by have x0 := kn_old hp 7 (v := .int .i64 k) (by kernel_rfl) (by kernel_rfl); go_simp)
            · exact pk_val rfl (by kernel_rfl) (by decide) (by decide) (fun l a w' hp ha hb => by have x0 := kn_tmp hp ha 66 15 (v := .slice (some ⟨bi, oi, none⟩) ins.length ic) (by kernel_rfl) (by kernel_rfl) rfl; have x1 := kn_tmp hp ha 67 16 (v := .int .i64 k) (by kernel_rfl) (by kernel_rfl) rfl; go_simp)
            · exact pk_val rfl (by kernel_rfl) (by decide) (by decide) (fun l a w' hp ha hb => by have x0 := kn_tmp hp ha 68 17 (v := .pointer (some ⟨bi, oi + k, none⟩)) (by kernel_rfl) (by kernel_rfl) rfl; have y := (hb.cell (p := ⟨bi, oi + k, none⟩) (by show _ < _; first | exact Nat.lt_succ_self _ | (simp only []; omega))).trans m0; go_simp)
            · exact pk_val rfl (by kernel_rfl) (by decide) (by decide) (fun l a w' hp ha hb => by have x0 := kn_tmp hp ha 64 13 (v := .slice (some ⟨b2, o2, none⟩) n.cells.length c2) (by kernel_rfl) (by kernel_rfl) rfl; have x1 := kn_tmp hp ha 69 18 (v := .int .i64 i) (by kernel_rfl) (by kernel_rfl) rfl; go_simp)
            · exact pk_val rfl (by kernel_rfl) (by decide) (by decide) (fun l a w' hp ha hb => by have x0 := kn_tmp hp ha 70 19 (v := .pointer (some ⟨b2, o2 + i * 6, none⟩)) (by kernel_rfl) (by kernel_rfl) rfl; go_simp)
            · exact pk_val rfl (by kernel_rfl) (by decide) (by decide) (fun l a w' hp ha hb => by have x0 := kn_tmp hp ha 71 20 (v := .pointer (some ⟨b2, o2 + i * 6 + 1, none⟩)) (by kernel_rfl) (by kernel_rfl) rfl; have y := (hb.cell (p := ⟨b2, o2 + i * 6 + 1, none⟩) (by show _ < _; first | exact Nat.lt_succ_self _ | (simp only []; omega))).trans m1; go_simp)
            · exact pk_call (f := 61) rfl (by kernel_rfl) (by kernel_rfl) (by decide) (by decide) (fun l a w' hp ha hb => by have x0 := kn_tmp hp ha 72 21 (v := .int .i64 d) (by kernel_rfl) (by kernel_rfl) rfl; exact ⟨#[.int .u8 48, .int .i64 d], by go_simp, unhide FL w'⟩)
            · exact pk_val rfl (by kernel_rfl) (by decide) (by decide) (fun l a w' hp ha hb => by have x0 := kn_tmp hp ha 62 11 (v := .int .i64 d) (by kernel_rfl) (by kernel_rfl) rfl; have x1 := kn_tmp hp ha 73 22 (v := .string (S (List.replicate d.toNat 48))) (by kernel_rfl) (by kernel_rfl) rfl; go_simp)
            · exact pk_new rfl (by kernel_rfl) (by kernel_rfl) (fun l a w' hp ha hb => by have x0 := kn_tmp hp ha 74 23 (v := .agg #[.int .i64 29, .int .i64 d, .int .i64 0, .bool false, .string (S (List.replicate d.toNat 48)), .slice none 0 0]) (by kernel_rfl) (by kernel_rfl) rfl; go_simp)
            · exact pk_app (by kernel_rfl) rfl rfl (by kernel_rfl) 52 75 rfl (Nat.le_trans (unhide HLN) (by decide)) (by kernel_rfl) (by kernel_rfl) (fun l a w' hp ha => (ev_form a 52).symm.trans (kn_tmp hp ha 52 1 (v := kv) (by kernel_rfl) (by kernel_rfl) rfl))
            · exact pk_val rfl (by kernel_rfl) (by decide) (by decide) (fun l a w' hp ha hb => by have x0 := kn_old hp 6 (v := .pointer (some ⟨w.heap.size + 1 + 1, 0, none⟩)) (by kernel_rfl) (by kernel_rfl); go_simp)
            · exact pk_store (by kernel_rfl) rfl rfl rfl 76 (by kernel_rfl) (by kernel_rfl) (fun l a w' v' hp ha hb hv hsh => by have x0 := kn_tmp hp ha 77 26 (v := .pointer (some ⟨w.heap.size + 1 + 1, 5, none⟩)) (by kernel_rfl) (by kernel_rfl) rfl; have y := (hb.cell (p := ⟨w.heap.size + 1 + 1, 5, none⟩) (Nat.lt_succ_self _)).trans e5; have z := (hb.frozen (p := ⟨w.heap.size + 1 + 1, 5, none⟩) (Nat.lt_succ_self _)).trans ef; obtain ⟨sa, sl, sc, rfl⟩ := hsh; rw [← ev_form] at hv; go_simp)
          case hf =>
            intro l a w5 hp hall'
            obtain ⟨V, v', hO, hbV, rfl⟩ := hp.j.done (hall' 27 (by decide))
            have hZN := hide ((unhide HWS) ▸ (unhide HZ).next hbV hO)
            obtain ⟨us, rfl⟩ := putAll_of [51, 52, 53, 54, 55, 56, 57, 58, 59, 60, 61, 62, 63, 64, 65, 66, 67, 68, 69, 70, 71, 72, 73, 74, 75, 76, 77] hp.nt hp.df (fun t ht => hp.keep t (planDst (by kernel_rfl) ht))
            clear hp hall' hO hbV
            simp only [putAll, List.foldl, Act.put, List.setIfInBounds_toArray, List.set_cons_zero, List.set_cons_succ]
            go_wp2
            exact ⟨⟨k + 1, by omega, by omega, by go_num, unhide HST, _, unhide hZN⟩, by simp [intOf]; omega⟩
    · have hkl : k = ins.length := by omega
      subst hkl
      rw [List.take_of_length_le (Nat.le_refl _)] at hall hz
      have hpl : placesB j ins = true := by unfold placesB; rw [hall, decide_eq_true (by omega)]; rfl
      obtain ⟨hkz, hkb⟩ := hz.own.read (by rw [List.length_map]; omega)
      have e0 := hz.e0
      have e1 := hz.e1
      have e2 := hz.e2
      have e3 := hz.e3
      have e4 := hz.e4
      have e5 := hz.e5
      have hsz := hz.size
      have HBW := hide hbw
      have HKZ := hide hkz
      have HKB := hide hkb
      obtain ⟨ka, kl, kc, hkv⟩ := hz.own.shape
      subst hkv
      have hws : ∀ x ∈ ins.map (wOf n), 1 ≤ x ∧ x ≤ 64 := by
        intro x hx
        obtain ⟨y, hy, rfl⟩ := List.mem_map.1 hx
        have hp := List.all_eq_true.1 hall y hy
        unfold placeB at hp
        rw [Bool.and_eq_true, decide_eq_true_eq, decide_eq_true_eq] at hp
        obtain ⟨i, rfl⟩ : ∃ i : Nat, y = (i : Int) := ⟨y.toNat, by omega⟩
        obtain ⟨d, _, hdw, h1, h2⟩ := unhide HW i (by omega)
        rw [← hdw]; exact ⟨h1, h2⟩
      have HWS := hide hws
      have HPL := hide hpl
      have hlt1 : w.heap.size < wr.heap.size := by omega
      have hlt2 : w.heap.size + 1 < wr.heap.size := by omega
      have hlt3 : w.heap.size + 1 + 1 < wr.heap.size := by omega
      clear hz hall HI HW hkz hkb hws hbw t0 R0
      have hpl := unhide HPL
      by_cases o33 : z0 = 33
      · subst o33
        have hvs := unhide HV0
        subst hvs
        have hR := unhide R33 hpl rfl
        by_cases hn0 : 0 ≤ z2
        · by_cases hn1 : z2 < (n.ins.length : Int)
          · obtain ⟨i, rfl⟩ : ∃ i : Nat, z2 = (i : Int) := ⟨z2.toNat, by omega⟩
            have hil : i < n.ins.length := by omega
            have hxp : n.ins[i]? = some n.ins[i] := List.getElem?_eq_getElem hil
            generalize n.ins[i] = p at hxp
            obtain ⟨bb, oo, cc, ee, hcell⟩ := unhide HIN i p hxp
            obtain ⟨rfl, rfl⟩ : ha0 = some ⟨bb, oo, none⟩ ∧ hc0 = cc := by
              injection ee with e1 e2 e3
              exact ⟨e1, e3⟩
            have hwd := cell_later (unhide HBW) hcell
            have hbb : bb < w.heap.size := World.block_lt_of_cell? w _ hcell
            have i1 : (0 : Int) ≤ (i : Int) := by omega
            rw [if_pos i1, Int.toNat_natCast, hxp] at hR
            have hR2 : (decide (z1 = p.width) && !z3 && z4.toList.isEmpty && decide (ins.length = 0)) = SC := hR
            clear hR ee hxp hcell HIN HRG
            generalize p.width = pw at *
            cases w1 : (z1 == pw)
            · have HE := hide (show false = SC from by rw [← hR2, show decide (z1 = pw) = false from w1]; rfl)
              clear hR2
              go_wp2
              go_quiet (fail)
              go_wp2
              go_ret
              exact ⟨ret_bool (unhide HE), bdn (unhide HBW)⟩
            · rw [show decide (z1 = pw) = true from w1] at hR2
              by_cases l0 : ins.length = 0
              · have l1 : ((ins.length : Int) == 0) = true := decide_eq_true (by omega)
                rw [decide_eq_true l0] at hR2
                cases z3
                · have HE := hide (show z4.toList.isEmpty = SC from by rw [← hR2]; simp)
                  clear hR2
                  go_wp2
                  go_quiet (fail)
                  go_wp2
                  go_ret
                  exact ⟨ret_bool (unhide HE), bdn (unhide HBW)⟩
                · have HE := hide (show false = SC from by rw [← hR2]; rfl)
                  clear hR2
                  go_wp2
                  go_quiet (fail)
                  go_wp2
                  go_ret
                  exact ⟨ret_bool (unhide HE), bdn (unhide HBW)⟩
              · have l1 : ((ins.length : Int) == 0) = false := decide_eq_false (by omega)
                have HE := hide (show false = SC from by rw [← hR2, decide_eq_false l0, Bool.and_false])
                clear hR2
                go_wp2
                go_quiet (fail)
                go_wp2
                go_ret
                exact ⟨ret_bool (unhide HE), bdn (unhide HBW)⟩
          · have HE := hide (show false = SC from by rw [← hR, if_pos hn0, List.getElem?_eq_none (by omega)])
            have d1 : decide (z2 < (n.ins.length : Int)) = false := decide_eq_false hn1
            clear hR HIN HRG
            go_wp2
            go_quiet (fail)
            go_wp2
            go_ret
            exact ⟨ret_bool (unhide HE), bdn (unhide HBW)⟩
        · have HE := hide (show false = SC from by rw [← hR, if_neg hn0])
          have d0 : decide (0 ≤ z2) = false := decide_eq_false hn0
          clear hR HIN HRG hn0
          go_wp2
          go_quiet (fail)
          go_wp2
          go_ret
          exact ⟨ret_bool (unhide HE), bdn (unhide HBW)⟩
      by_cases o34 : z0 = 34
      · subst o34
        have hvs := unhide HV3
        subst hvs
        have hR := unhide R34 hpl rfl
        by_cases hn0 : 0 ≤ z2
        · by_cases hn1 : z2 < (n.regs.length : Int)
          · obtain ⟨i, rfl⟩ : ∃ i : Nat, z2 = (i : Int) := ⟨z2.toNat, by omega⟩
            have hil : i < n.regs.length := by omega
            have hxp : n.regs[i]? = some n.regs[i] := List.getElem?_eq_getElem hil
            generalize n.regs[i] = p at hxp
            obtain ⟨bb, oo, cc, ee, hcell⟩ := unhide HRG i p hxp
            obtain ⟨rfl, rfl⟩ : ha3 = some ⟨bb, oo, none⟩ ∧ hc3 = cc := by
              injection ee with e1 e2 e3
              exact ⟨e1, e3⟩
            have hwd := cell_later (unhide HBW) hcell
            have hbb : bb < w.heap.size := World.block_lt_of_cell? w _ hcell
            have i1 : (0 : Int) ≤ (i : Int) := by omega
            rw [if_pos i1, Int.toNat_natCast, hxp] at hR
            have hR2 : (decide (z1 = p.width) && !z3 && z4.toList.isEmpty && decide (ins.length = 0)) = SC := hR
            clear hR ee hxp hcell HIN HRG
            generalize p.width = pw at *
            cases w1 : (z1 == pw)
            · have HE := hide (show false = SC from by rw [← hR2, show decide (z1 = pw) = false from w1]; rfl)
              clear hR2
              go_wp2
              go_quiet (fail)
              go_wp2
              go_ret
              exact ⟨ret_bool (unhide HE), bdn (unhide HBW)⟩
            · rw [show decide (z1 = pw) = true from w1] at hR2
              by_cases l0 : ins.length = 0
              · have l1 : ((ins.length : Int) == 0) = true := decide_eq_true (by omega)
                rw [decide_eq_true l0] at hR2
                cases z3
                · have HE := hide (show z4.toList.isEmpty = SC from by rw [← hR2]; simp)
                  clear hR2
                  go_wp2
                  go_quiet (fail)
                  go_wp2
                  go_ret
                  exact ⟨ret_bool (unhide HE), bdn (unhide HBW)⟩
                · have HE := hide (show false = SC from by rw [← hR2]; rfl)
                  clear hR2
                  go_wp2
                  go_quiet (fail)
                  go_wp2
                  go_ret
                  exact ⟨ret_bool (unhide HE), bdn (unhide HBW)⟩
              · have l1 : ((ins.length : Int) == 0) = false := decide_eq_false (by omega)
                have HE := hide (show false = SC from by rw [← hR2, decide_eq_false l0, Bool.and_false])
                clear hR2
                go_wp2
                go_quiet (fail)
                go_wp2
                go_ret
                exact ⟨ret_bool (unhide HE), bdn (unhide HBW)⟩
          · have HE := hide (show false = SC from by rw [← hR, if_pos hn0, List.getElem?_eq_none (by omega)])
            have d1 : decide (z2 < (n.regs.length : Int)) = false := decide_eq_false hn1
            clear hR HIN HRG
            go_wp2
            go_quiet (fail)
            go_wp2
            go_ret
            exact ⟨ret_bool (unhide HE), bdn (unhide HBW)⟩
        · have HE := hide (show false = SC from by rw [← hR, if_neg hn0])
          have d0 : decide (0 ≤ z2) = false := decide_eq_false hn0
          clear hR HIN HRG hn0
          go_wp2
          go_quiet (fail)
          go_wp2
          go_ret
          exact ⟨ret_bool (unhide HE), bdn (unhide HBW)⟩
      have hnot : ∀ q : Int, z0 ≠ q → (z0 == q) = false := fun q h => beq_eq_false_iff_ne.2 h
      have f33 := hnot 33 o33
      have f34 := hnot 34 o34
      clear HIN HRG R33 R34 HV0 HV3
      cases hbad : badOp z0
      · have hb' := hbad
        unfold badOp at hb'
        simp only [Bool.or_eq_false_iff, decide_eq_false_iff_not] at hb'
        obtain ⟨⟨⟨⟨⟨b7, b8⟩, b11⟩, b30⟩, b31⟩, b32⟩ := hb'
        have f7 := hnot 7 b7
        have f8 := hnot 8 b8
        have f11 := hnot 11 b11
        have f30 := hnot 30 b30
        have f31 := hnot 31 b31
        have f32 := hnot 32 b32
        have hop : z0 < 30 ∨ 32 < z0 := by omega
        by_cases hk29 : z0 = 29 ∧ (L z4).all Vb.knB = false
        · obtain ⟨rfl, hkn⟩ := hk29
          have HE := hide (unhide RK hpl rfl hkn)
          rw [hkn] at KN
          clear RX RB RK hnot hbad b7 b8 b11 b30 b31 b32 hop
          go_wp2_with (first | (go_at_call 42; refine (unhide KN _).mono ?_; rintro e V ⟨rfl, rfl⟩))
          go_ret
          exact ⟨ret_bool (unhide HE), unhide HBW⟩
        · have HE := hide (unhide RX hpl o33 o34 hbad hk29)
          have EX := hide (fun (W : World) (hb : Below wr.heap.size wr W) (hc : W.cell? ⟨wr.heap.size, 2, none⟩ = some (.int .i64 16384)) (hf : W.frozen? ⟨wr.heap.size, 2, none⟩ = false) => sEx z0 z1 z2 z3 z4 (ins.map (wOf n)) (.slice ka kl kc) wr.heap.size W hop b7 b8 hbits (unhide HWS) (by rw [List.length_map]; omega) ((unhide HKZ).later RKz.keeps hb) (fun b o l c e => by have := (unhide HKB b o l c e).2; omega) hc hf)
          have hcase : (z0 == 29) = false ∨ (z0 = 29 ∧ (L z4).all Vb.knB = true) := by
            cases h : z0 == 29
            · exact .inl rfl
            · have h9 : z0 = 29 := by simpa using h
              refine .inr ⟨h9, ?_⟩
              cases h2 : (L z4).all Vb.knB
              · exact absurd ⟨h9, h2⟩ hk29
              · rfl
          clear RX RB RK hnot hbad b7 b8 b11 b30 b31 b32 hop hk29 hpl HPL
          generalize exB z0 z1 z2 z3 z4 (ins.map (wOf n)) = XB at *
          rcases hcase with f29 | ⟨rfl, hkn⟩
          · go_wp2_with fail
            refine (unhide EX _ (bal (brf wr) _) (by rw [World.cell?_alloc_new]; rfl) (by simp)).mono ?_
            rintro e V5 ⟨rfl, hg5⟩
            have HB5 := hide ((unhide HBW).trans ((below_of_grown (grown_trans (grown_of_below (bal (brf wr) _)) hg5) (Nat.le_refl _) (Nat.le_refl _)).mono (unhide HBW).size))
            clear hg5
            go_wp2
            go_ret
            exact ⟨ret_bool (unhide HE), unhide HB5⟩
          · rw [hkn] at KN
            go_wp2_with fail
            refine (unhide KN _).mono ?_
            rintro e V ⟨rfl, hVW⟩
            rw [hVW]
            clear hVW
            go_wp2_with fail
            refine (unhide EX _ (bal (brf wr) _) (by rw [World.cell?_alloc_new]; rfl) (by simp)).mono ?_
            rintro e V5 ⟨rfl, hg5⟩
            have HB5 := hide ((unhide HBW).trans ((below_of_grown (grown_trans (grown_of_below (bal (brf wr) _)) hg5) (Nat.le_refl _) (Nat.le_refl _)).mono (unhide HBW).size))
            clear hg5
            go_wp2
            go_ret
            exact ⟨ret_bool (unhide HE), unhide HB5⟩
      · have HE := hide (unhide RB hpl o33 o34 hbad)
        unfold badOp at hbad
        simp only [Bool.or_eq_true, decide_eq_true_eq] at hbad
        clear RX RB RK hnot
        rcases hbad with ((((rfl | rfl) | rfl) | rfl) | rfl) | rfl
        all_goals
          go_wp2
          go_ret
          exact ⟨ret_bool (unhide HE), unhide HBW⟩
end Go.Proofs.YtkmpjoiefcjbnaaDoor
