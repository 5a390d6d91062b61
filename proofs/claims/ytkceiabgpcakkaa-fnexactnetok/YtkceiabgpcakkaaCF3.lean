/- cellFits: the walk of a cell that is like an Ex. -/
import Derived.Test.YtkceiabgpcakkaaCF2
namespace Go.Proofs.Ytkceiabgpcakkaa
open Go.RowKit Gs
set_option linter.unusedVariables false
set_option maxRecDepth 100000
/-- What the loop of cellFits keeps. -/
structure KL (w2 : World) (g len : Nat) (ws : List Int) (W : World) : Prop where
  row : NR 6 RKid W (g + 1) g len ws
  tp : TP W g (len * 6)
  below : Below w2.heap.size w2 W
  len : ws.length = len
theorem KL.step {w2 W : World} {g len k : Nat} {ws : List Int} {x : Int} (h : KL w2 g len ws W) (hk : k < len) (hg : w2.heap.size ≤ g) : KL w2 g len (ws.set k x) (W.setCell ⟨g, k * 6 + 1, none⟩ (.int .i64 x)) :=
  ⟨kids_set h.row h.tp hk h.len, TP.set1 h.tp, bst h.below hg _, by rw [List.length_set]; exact h.len⟩
theorem KL.cell {w2 W : World} {g len k : Nat} {ws : List Int} (h : KL w2 g len ws W) (hk : k < len) : (∃ x, W.cell? ⟨g, k * 6 + 1, none⟩ = some x) ∧ W.frozen? ⟨g, k * 6 + 1, none⟩ = false := h.tp (k * 6 + 1) (by omega)
theorem KL.rs {w2 W : World} {g len : Nat} {ws : List Int} (h : KL w2 g len ws W) (hl : len ≤ 64) : RS 6 RKid W 0 ws (.slice (some ⟨g, 0, none⟩) len len) := by
  have h1 := h.row
  have h2 := h.len
  subst h2
  exact NR.done RKid.lowers h1 (by unfold maxLen; omega) (Nat.zero_le _)
theorem two_size (w : World) (A B : Array Value) (t u : TypeId) : ((w.alloc (.cells A t)).alloc (.cells B u)).heap.size = w.heap.size + 1 + 1 := by go_simp
theorem two_first (w : World) (A B : Array Value) (t u : TypeId) {j : Nat} {y : Value} (h : A[j]? = some y) : ((w.alloc (.cells A t)).alloc (.cells B u)).cell? ⟨w.heap.size, j, none⟩ = some y :=
  cell_later (bal (brf _) _) (by rw [World.cell?_alloc_new]; exact h)
theorem two_next (w : World) (A B : Array Value) (t u : TypeId) {j : Nat} {y : Value} (h : B[j]? = some y) : ((w.alloc (.cells A t)).alloc (.cells B u)).cell? ⟨w.heap.size + 1, j, none⟩ = some y := by
  have e : (w.alloc (.cells A t)).heap.size = w.heap.size + 1 := by go_simp
  rw [← e, World.cell?_alloc_new]; exact h
set_option maxHeartbeats 8000000 in
theorem iCellRest (n : Net) (v0 v1 v2 v3 v4 v5 : Value) (w : World) (j : Nat) (c : Cell) (hj : n.cells[j]? = some c) (h33 : c.op ≠ 33) (h34 : c.op ≠ 34) (h : CW w n v0 v1 v2 v3 v4 v5) :
    Calls Try.prog 23 #[.agg #[v0, v1, v2, v3, v4, v5], .int .i64 j] w fun e w' => e = .returned (.bool (restB n j c)) ∧ Below w.heap.size w w' := by
  have hjl : j < n.cells.length := (List.getElem?_eq_some_iff.1 hj).1
  rcases h.cells.open with ⟨hnil, _⟩ | ⟨b2, o2, c2, rfl, hc2, hn2, _, hcs2⟩
  · rw [hnil] at hjl; simp at hjl
  obtain ⟨u, hul, hat, v, rfl, hbits, hins⟩ := hcs2 j c hj
  have hIl := hins.len
  unfold maxLen at hn2 hIl
  have k0 := hat.get (j := 0) rfl
  have k1 := hat.get (j := 1) rfl
  have k2 := hat.get (j := 2) rfl
  have k3 := hat.get (j := 3) rfl
  have k4 := hat.get (j := 4) rfl
  have k5 := hat.get (j := 5) rfl
  simp only [Nat.add_zero] at k0
  have hb2 : b2 < w.heap.size := World.block_lt_of_cell? w _ k0
  have j1 : (0 : Int) ≤ (j : Int) := by omega
  have j2 : (j : Int) < (n.cells.length : Int) := by omega
  have q33 : (c.op == 33) = false := beq_eq_false_iff_ne.2 h33
  have q34 : (c.op == 34) = false := beq_eq_false_iff_ne.2 h34
  clear hul hat h33 h34
  by_cases h64 : 64 < c.ins.length
  · have E : restB n j c = false := if_pos h64
    rw [E]
    obtain ⟨ia, ic, rfl⟩ := hins.slice
    have q64 : (64 : Int) < (c.ins.length : Int) := by omega
    clear h hins hcs2 E hj hbits
    generalize c.op = z0 at *
    generalize c.width = z1 at *
    generalize c.n = z2 at *
    generalize c.signed = z3 at *
    generalize c.bits = z4 at *
    generalize c.ins.length = z5 at *
    go_enter Try.func23, Try.ntmps23
    go_wp2
    go_ret
    exact ⟨rfl, bal (bal (brf w) _) _⟩
  · have E : restB n j c = if c.ins.all (placeB j) then likeB c.op c.width c.n c.signed c.bits (c.ins.map (wOf n)) else false := if_neg h64
    generalize restB n j c = R at E ⊢
    have HE1 := hide (show c.ins.all (placeB j) = false → false = R from fun h => by rw [E, h]; rfl)
    have HE2 := hide (show c.ins.all (placeB j) = true → likeB c.op c.width c.n c.signed c.bits (c.ins.map (wOf n)) = R from fun h => by rw [E, h]; rfl)
    clear E
    obtain ⟨M, hM, hz, hmk⟩ := make_Ex c.ins.length (by omega)
    have q64 : (c.ins.length : Int) ≤ 64 := by omega
    have HI := hide hins
    have HW := hide (fun (x : Nat) (hx : x < j) => (show ∃ d, w.cell? ⟨b2, o2 + x * 6 + 1, none⟩ = some (.int .i64 d) ∧ d = wOf n (x : Int) from by
      have hxl : n.cells[x]? = some (n.cells[x]'(by omega)) := List.getElem?_eq_getElem _
      obtain ⟨u, _, hat, _, rfl, _⟩ := hcs2 x _ hxl
      refine ⟨_, hat.get (j := 1) rfl, ?_⟩
      unfold wOf
      rw [Int.toNat_natCast, hxl]))
    have HLC := hide (fun (V : World) (xs : List Int) (v : Value) (hr : RS 6 RKid V 0 xs v) => iLikeCell c.op c.width c.n c.signed c.bits xs v V hbits hr)
    obtain ⟨ia, ic, rfl⟩ := hins.slice
    clear h hins hcs2 hj hbits
    generalize hL : c.ins = ins at *
    generalize c.op = z0 at *
    generalize c.width = z1 at *
    generalize c.n = z2 at *
    generalize c.signed = z3 at *
    generalize c.bits = z4 at *
    clear hL
    generalize hw2 : (w.alloc (.cells #[v0, v1, .slice (some ⟨b2, o2, none⟩) n.cells.length c2, v3, v4, v5] 36)).alloc (.cells #[.int .i64 z0, .int .i64 z1, .int .i64 z2, .bool z3, .string z4, .slice ia ins.length ic] 53) = w2
    have hs2 : w2.heap.size = w.heap.size + 1 + 1 := by rw [← hw2]; exact two_size _ _ _ _ _
    have B2 : Below w.heap.size w w2 := by rw [← hw2]; exact bal (bal (brf w) _) _
    have t0 : w2.cell? ⟨w.heap.size, 2, none⟩ = some (.slice (some ⟨b2, o2, none⟩) n.cells.length c2) := by rw [← hw2]; exact two_first _ _ _ _ _ rfl
    have t1 : w2.cell? ⟨w.heap.size + 1, 0, none⟩ = some (.int .i64 z0) := by rw [← hw2]; exact two_next _ _ _ _ _ rfl
    have t2 : w2.cell? ⟨w.heap.size + 1, 1, none⟩ = some (.int .i64 z1) := by rw [← hw2]; exact two_next _ _ _ _ _ rfl
    have t3 : w2.cell? ⟨w.heap.size + 1, 2, none⟩ = some (.int .i64 z2) := by rw [← hw2]; exact two_next _ _ _ _ _ rfl
    have t4 : w2.cell? ⟨w.heap.size + 1, 3, none⟩ = some (.bool z3) := by rw [← hw2]; exact two_next _ _ _ _ _ rfl
    have t5 : w2.cell? ⟨w.heap.size + 1, 4, none⟩ = some (.string z4) := by rw [← hw2]; exact two_next _ _ _ _ _ rfl
    have t6 : w2.cell? ⟨w.heap.size + 1, 5, none⟩ = some (.slice ia ins.length ic) := by rw [← hw2]; exact two_next _ _ _ _ _ rfl
    have TT := hide (fun (V : World) (hb : Below w2.heap.size w2 V) => (show V.cell? ⟨w.heap.size, 2, none⟩ = some (.slice (some ⟨b2, o2, none⟩) n.cells.length c2) ∧ V.cell? ⟨w.heap.size + 1, 0, none⟩ = some (.int .i64 z0) ∧ V.cell? ⟨w.heap.size + 1, 1, none⟩ = some (.int .i64 z1) ∧ V.cell? ⟨w.heap.size + 1, 2, none⟩ = some (.int .i64 z2) ∧ V.cell? ⟨w.heap.size + 1, 3, none⟩ = some (.bool z3) ∧ V.cell? ⟨w.heap.size + 1, 4, none⟩ = some (.string z4) ∧ V.cell? ⟨w.heap.size + 1, 5, none⟩ = some (.slice ia ins.length ic) from ⟨cell_later hb t0, cell_later hb t1, cell_later hb t2, cell_later hb t3, cell_later hb t4, cell_later hb t5, cell_later hb t6⟩))
    clear t0 t1 t2 t3 t4 t5 t6
    have KL0 := hide (show KL w2 w2.heap.size ins.length (wsAt (wOf n) ins 0) (w2.alloc (.cells M 79)) from by
      rw [wsAt_zero]
      exact ⟨kids_made w2 M ins.length _ hz, TP_made w2 M 79 _ hM, bal (brf w2) _, by simp⟩)
    have HB2 := hide B2
    clear B2
    rw [hs2] at KL0
    rw [← hw2] at KL0 TT HB2
    have HS2 := hide (show ((w.alloc (.cells #[v0, v1, .slice (some ⟨b2, o2, none⟩) n.cells.length c2, v3, v4, v5] 36)).alloc (.cells #[.int .i64 z0, .int .i64 z1, .int .i64 z2, .bool z3, .string z4, .slice ia ins.length ic] 53)).heap.size = w.heap.size + 1 + 1 from by rw [hw2]; exact hs2)
    clear hs2 hw2 hM hz
    go_enter Try.func23, Try.ntmps23
    go_wp2
    go_loopw [65] (fun i wr => ∃ k : Nat, k ≤ ins.length ∧ i = .int .i64 k ∧ (ins.take k).all (placeB j) = true ∧ KL ((w.alloc (.cells #[v0, v1, .slice (some ⟨b2, o2, none⟩) n.cells.length c2, v3, v4, v5] 36)).alloc (.cells #[.int .i64 z0, .int .i64 z1, .int .i64 z2, .bool z3, .string z4, .slice ia ins.length ic] 53)) (w.heap.size + 1 + 1) ins.length (wsAt (wOf n) ins k) wr) (fun i _ => ins.length - (intOf i).toNat)
    case atStart => exact ⟨0, Nat.zero_le _, rfl, rfl, unhide KL0⟩
    case round =>
      clear k0 k1 k2 k3 k4 k5 KL0
      obtain ⟨k, hk, rfl, hall, hkl⟩ := hrel
      obtain ⟨t0, t1, t2, t3, t4, t5, t6⟩ := unhide TT _ hkl.below
      have hbw := btr (unhide HB2) hkl.below
      by_cases hlt : k < ins.length
      · have hx : ins[k]? = some ins[k] := List.getElem?_eq_getElem hlt
        have hmem : ins[k] ∈ ins := List.getElem_mem hlt
        generalize ins[k] = x at hx hmem
        have hst : (ins.take (k + 1)).all (placeB j) = ((ins.take k).all (placeB j) && placeB j x) := by
          rw [List.take_add_one, hx, List.all_append]; simp
        rcases (unhide HI).open with ⟨hnil, _⟩ | ⟨bi, oi, ci, hie, _, _, _, hcsi⟩
        · rw [hnil] at hlt; simp at hlt
        obtain ⟨rfl, rfl⟩ : ia = some ⟨bi, oi, none⟩ ∧ ic = ci := by
          injection hie with e1 e2 e3
          exact ⟨e1, e3⟩
        obtain ⟨u, _, hati, hui⟩ := hcsi k x hx
        unfold RInt at hui
        subst hui
        have m0 := cell_later hbw (hati.get (j := 0) rfl)
        simp only [Nat.add_zero, Nat.mul_one] at m0
        cases hp : placeB j x
        · have E : ins.all (placeB j) = false := by
            rw [← Bool.not_eq_true]; intro h; rw [List.all_eq_true.1 h x hmem] at hp; cases hp
          have HE := hide (unhide HE1 E)
          have HBW := hide hbw
          have PF := hide (fun V => iPlaceB x (j : Int) false hp V)
          clear hkl hbw hst hcsi hati hie hx hmem hall E HI HW
          go_wp2_with (first | (go_at_call 41; refine (unhide PF _).mono ?_; rintro e V ⟨rfl, rfl⟩))
          go_ret
          exact ⟨ret_bool (unhide HE), unhide HBW⟩
        · have hp2 : 0 ≤ x ∧ x < (j : Int) := by
            have := hp
            unfold placeB at this
            rw [Bool.and_eq_true, decide_eq_true_eq, decide_eq_true_eq] at this
            exact this
          obtain ⟨i, rfl⟩ : ∃ i : Nat, x = (i : Int) := ⟨x.toNat, by omega⟩
          obtain ⟨d, hd, hdw⟩ := unhide HW i (by omega)
          have m1 := cell_later hbw hd
          have hws := wsAt_step (wOf n) ins k _ hx
          rw [← hdw] at hws
          have KLS := hide (hws ▸ hkl.step (x := d) hlt (by rw [unhide HS2]; exact Nat.le_refl _))
          obtain ⟨⟨y, m2⟩, m3⟩ := hkl.cell hlt
          have PF := hide (fun V => iPlaceB (i : Int) (j : Int) true hp V)
          have HA := hide (show (ins.take (k + 1)).all (placeB j) = true from by rw [hst, hall, hp]; rfl)
          have i1 : (0 : Int) ≤ (i : Int) := by omega
          have i2 : (i : Int) < (n.cells.length : Int) := by omega
          clear hkl hbw hst hcsi hati hie hx hmem hall hp hp2 hd hdw hws HI HW
          go_wp2_with (first | (go_at_call 41; refine (unhide PF _).mono ?_; rintro e V ⟨rfl, rfl⟩))
          go_roundw
          case rel => exact ⟨k + 1, by omega, by go_num, unhide HA, unhide KLS⟩
          case measure => simp [intOf]; omega
      · obtain rfl : k = ins.length := by omega
        rw [List.take_of_length_le (Nat.le_refl _)] at hall
        have HE := hide (unhide HE2 hall)
        rw [wsAt_all] at hkl
        have HR := hide (hkl.rs (by omega))
        have HBW := hide hbw
        have LK := hide (fun V => iLike z0 z1 z2 z3 z4 (.slice ia ins.length ic) (some ⟨w.heap.size + 1 + 1, 0, none⟩) ins.length ins.length V)
        clear hkl hbw hall HI HW
        go_wp2_with fail
        refine (unhide LK _).mono ?_
        rintro e V1 ⟨rfl, hb1⟩
        have HR1 := hide ((unhide HR).later RKid.keeps hb1)
        have HBW1 := hide (btr (unhide HBW) hb1)
        clear hb1
        go_wp2_with fail
        refine (unhide HLC _ _ _ (unhide HR1)).mono ?_
        rintro e V2 ⟨rfl, hb2⟩
        have HBW2 := hide (btr (unhide HBW1) hb2)
        clear hb2
        go_wp2
        go_ret
        exact ⟨ret_bool (unhide HE), unhide HBW2⟩
end Go.Proofs.Ytkceiabgpcakkaa
