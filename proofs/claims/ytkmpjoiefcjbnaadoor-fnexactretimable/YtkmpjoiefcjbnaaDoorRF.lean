/- regFits. -/
import Derived.Test.YtkmpjoiefcjbnaaDoorCF
namespace Go.Proofs.YtkmpjoiefcjbnaaDoor
open Go.RowKit Gs
set_option linter.unusedVariables false
set_option maxRecDepth 100000
def cellB (n : Net) (j : Nat) (c : Cell) : Bool := if c.op = 33 then inB n c else if c.op = 34 then regB n c else restB n j c
theorem iCellFits (n : Net) (v0 v1 v2 v3 v4 v5 : Value) (w : World) (j : Nat) (c : Cell) (hj : n.cells[j]? = some c) (h : CW w n v0 v1 v2 v3 v4 v5) :
    Calls Tryd.prog 49 #[.agg #[v0, v1, v2, v3, v4, v5], .int .i64 j] w fun e w' => e = .returned (.bool (cellB n j c)) ∧ Below w.heap.size w w' := by
  unfold cellB
  by_cases h1 : c.op = 33
  · rw [if_pos h1]; exact iCellIn n v0 v1 v2 v3 v4 v5 w j c hj h1 h
  rw [if_neg h1]
  by_cases h2 : c.op = 34
  · rw [if_pos h2]; exact iCellReg n v0 v1 v2 v3 v4 v5 w j c hj h2 h
  rw [if_neg h2]
  exact iCellRest n v0 v1 v2 v3 v4 v5 w j c hj h1 h2 h
/-- What a register's known parts are. -/
def regOne (n : Net) (r : NetReg) : Bool := knownS r.init && decide ((r.init.size : Int) = r.width) && (decide (0 ≤ r.clock) && decide (r.clock < (n.clocks.length : Int)))
def nextB (n : Net) (r : NetReg) : Bool := if 0 ≤ r.next then (match n.cells[r.next.toNat]? with | some c => c.width == r.width | none => false) else false
def regFitB (n : Net) (r : NetReg) : Bool := regOne n r && nextB n r
theorem three_third {w W : World} {A B : Array Value} {t u : TypeId} (hb : Below ((w.alloc (.cells A t)).alloc (.cells B u)).heap.size ((w.alloc (.cells A t)).alloc (.cells B u)) W) :
    (∀ j y, A[j]? = some y → W.cell? ⟨w.heap.size, j, none⟩ = some y) ∧ (∀ j y, B[j]? = some y → W.cell? ⟨w.heap.size + 1, j, none⟩ = some y) ∧ w.heap.size + 1 < W.heap.size ∧ Below w.heap.size w W := by
  refine ⟨fun j y h => cell_later hb (two_first _ _ _ _ _ h), fun j y h => cell_later hb (two_next _ _ _ _ _ h), ?_, btr (bal (bal (brf w) _) _) hb⟩
  have := hb.size
  rw [two_size] at this
  omega
set_option maxHeartbeats 8000000 in
theorem iRegFits (n : Net) (v0 v1 v2 v3 v4 v5 : Value) (w : World) (r : NetReg) (h1 : RS 1 RStr w 0 n.clocks v1) (h2 : RS 6 RCell w 0 n.cells v2) (hi : r.init.size ≤ maxLen) :
    Calls Tryd.prog 69 #[.agg #[v0, v1, v2, v3, v4, v5], .agg #[.string r.name, .int .i64 r.width, .int .i64 r.clock, .int .i64 r.next, .string r.init]] w fun e w' => e = .returned (.bool (regFitB n r)) ∧ Below w.heap.size w w' := by
  have K := hide (fun W => iKnown r.init W hi)
  have hl1 := h1.len
  have hl2 := h2.len
  unfold maxLen at hl1 hl2
  obtain ⟨a1, c1, rfl⟩ := h1.slice
  have hNx : (nextB n r = false ∧ (decide (0 ≤ r.next) && decide (r.next < (n.cells.length : Int))) = false) ∨ ∃ (i : Nat) (d : Int) (b o c : Nat), r.next = (i : Int) ∧ i < n.cells.length ∧ v2 = .slice (some ⟨b, o, none⟩) n.cells.length c ∧ n.cells.length ≤ c ∧ w.cell? ⟨b, o + i * 6 + 1, none⟩ = some (.int .i64 d) ∧ nextB n r = (d == r.width) := by
    by_cases hp : 0 ≤ r.next ∧ r.next < (n.cells.length : Int)
    · obtain ⟨hp1, hp2⟩ := hp
      right
      obtain ⟨i, hi⟩ : ∃ i : Nat, r.next = (i : Int) := ⟨r.next.toNat, by omega⟩
      have hil : i < n.cells.length := by omega
      have hx : n.cells[i]? = some n.cells[i] := List.getElem?_eq_getElem hil
      rcases h2.open with ⟨hnil, _⟩ | ⟨b, o, c, e, hc, _, _, hcs⟩
      · rw [hnil] at hil; simp at hil
      obtain ⟨u, _, hat, _, rfl, _⟩ := hcs i _ hx
      refine ⟨i, _, b, o, c, hi, hil, e, hc, hat.get (j := 1) rfl, ?_⟩
      unfold nextB
      rw [if_pos hp1, hi, Int.toNat_natCast, hx]
    · left
      refine ⟨?_, ?_⟩
      · unfold nextB
        by_cases h0 : 0 ≤ r.next
        · rw [if_pos h0, List.getElem?_eq_none (by omega)]
        · rw [if_neg h0]
      · rw [Bool.and_eq_false_iff, decide_eq_false_iff_not, decide_eq_false_iff_not]; omega
  have E : regFitB n r = (regOne n r && nextB n r) := rfl
  have E1 : regOne n r = (knownS r.init && decide ((r.init.size : Int) = r.width) && (decide (0 ≤ r.clock) && decide (r.clock < (n.clocks.length : Int)))) := rfl
  rw [E, E1]
  obtain ⟨a2, c2, e2⟩ := h2.slice
  clear E E1 h1 h2
  generalize nextB n r = NB at *
  generalize r.name = nm at *
  generalize r.width = wd at *
  generalize r.clock = ck at *
  generalize r.next = nx at *
  generalize hin : r.init = ini at *
  clear hin
  generalize n.clocks.length = LK at *
  generalize n.cells.length = LC at *
  cases hk : knownS ini
  · subst e2
    rw [hk] at K
    clear hNx
    go_enter Tryd.func69, Tryd.ntmps69
    go_wp2_with fail
    refine (unhide K _).mono ?_
    rintro e W1 ⟨⟨n1, p1, q1, rfl, _⟩, hb1⟩
    obtain ⟨ca, cb, hlt, hb⟩ := three_third hb1
    have HB := hide hb
    have HA := hide ca
    have HC := hide cb
    clear hb1 hb ca cb
    unfold V
    go_wp2
    go_ret
    exact ⟨rfl, bal (unhide HB) _⟩
  · rw [hk] at K
    cases hw : ((ini.size : Int) != wd)
    · have hwd : decide ((ini.size : Int) = wd) = true := by
        rw [decide_eq_true_eq]
        have := hw
        simpa using this
      rw [hwd]
      have hwe : (ini.size : Int) = wd := by simpa using hwd
      clear hwd
      cases hp : (decide (0 ≤ ck) && decide (ck < (LK : Int)))
      · subst e2
        have PF := hide (fun V => iPlaceB ck (LK : Int) false hp V)
        clear hNx hwe hp
        go_enter Tryd.func69, Tryd.ntmps69
        go_wp2_with fail
        refine (unhide K _).mono ?_
        rintro e W1 ⟨⟨n1, p1, q1, rfl, hn1⟩, hb1⟩
        have hn2 := hn1 (by first | exact trivial | rfl)
        subst hn2
        obtain ⟨ca, cb, hlt, hb⟩ := three_third hb1
        have HB := hide hb
        have f1 := ca 1 _ rfl
        have f2 := ca 2 _ rfl
        have g1 := cb 1 _ rfl
        have g2 := cb 2 _ rfl
        have g3 := cb 3 _ rfl
        have hlt0 : w.heap.size < W1.heap.size := by omega
        clear hb1 hb ca cb hn1
        unfold V
        go_wp2_with (first | (go_at_call 64; refine (unhide PF _).mono ?_; rintro e V1 ⟨rfl, rfl⟩))
        go_ret
        exact ⟨rfl, bal (unhide HB) _⟩
      · have PF := hide (fun V => iPlaceB ck (LK : Int) true hp V)
        clear hp
        rcases hNx with ⟨rfl, hq⟩ | ⟨i, d, b, o, c, rfl, hil, e3, hc, hd, rfl⟩
        · subst e2
          have QF := hide (fun V => iPlaceB nx (LC : Int) false hq V)
          clear hwe hq
          go_enter Tryd.func69, Tryd.ntmps69
          go_wp2_with fail
          refine (unhide K _).mono ?_
          rintro e W1 ⟨⟨n1, p1, q1, rfl, hn1⟩, hb1⟩
          have hn2 := hn1 (by first | exact trivial | rfl)
          subst hn2
          obtain ⟨ca, cb, hlt, hb⟩ := three_third hb1
          have HB := hide hb
          have f1 := ca 1 _ rfl
          have f2 := ca 2 _ rfl
          have g1 := cb 1 _ rfl
          have g2 := cb 2 _ rfl
          have g3 := cb 3 _ rfl
          have hlt0 : w.heap.size < W1.heap.size := by omega
          clear hb1 hb ca cb hn1
          unfold V
          go_wp2_with (first | (go_at_call 64; refine (unhide PF _).mono ?_; rintro e V1 ⟨rfl, rfl⟩))
          go_quiet (first | (go_at_call 64; exact Calls.quiet_of_same (unhide QF _)))
          go_wp2
          go_ret
          exact ⟨rfl, bdn (bal (unhide HB) _)⟩
        · subst e2
          obtain ⟨rfl, rfl⟩ : a2 = some ⟨b, o, none⟩ ∧ c2 = c := by
            injection e3 with e1 e2 e3
            exact ⟨e1, e3⟩
          have QF := hide (fun V => iPlaceB (i : Int) (LC : Int) true (by rw [decide_eq_true (by omega), decide_eq_true (by omega)]; rfl) V)
          have HD := hide hd
          have i1 : (0 : Int) ≤ (i : Int) := by omega
          have i2 : (i : Int) < (LC : Int) := by omega
          have hb0 : b < w.heap.size := World.block_lt_of_cell? w _ hd
          clear hwe e3 hd
          go_enter Tryd.func69, Tryd.ntmps69
          go_wp2_with fail
          refine (unhide K _).mono ?_
          rintro e W1 ⟨⟨n1, p1, q1, rfl, hn1⟩, hb1⟩
          have hn2 := hn1 (by first | exact trivial | rfl)
          subst hn2
          obtain ⟨ca, cb, hlt, hb⟩ := three_third hb1
          have HB := hide hb
          have f1 := ca 1 _ rfl
          have f2 := ca 2 _ rfl
          have g1 := cb 1 _ rfl
          have g2 := cb 2 _ rfl
          have g3 := cb 3 _ rfl
          have hlt0 : w.heap.size < W1.heap.size := by omega
          clear hb1 hb ca cb hn1
          unfold V
          have d1 := cell_later (unhide HB) (unhide HD)
          have hlt1 : b < W1.heap.size := by omega
          go_wp2_with (first | (go_at_call 64; refine (unhide PF _).mono ?_; rintro e V1 ⟨rfl, rfl⟩))
          go_quiet (first | (go_at_call 64; exact Calls.quiet_of_same (unhide QF _)))
          go_wp2
          go_ret
          exact ⟨rfl, bdn (bal (unhide HB) _)⟩
    · have hwd : decide ((ini.size : Int) = wd) = false := by
        rw [decide_eq_false_iff_not]
        have := hw
        simpa using this
      rw [hwd]
      subst e2
      clear hwd hNx
      go_enter Tryd.func69, Tryd.ntmps69
      go_wp2_with fail
      refine (unhide K _).mono ?_
      rintro e W1 ⟨⟨n1, p1, q1, rfl, hn1⟩, hb1⟩
      have hn2 := hn1 (by first | exact trivial | rfl)
      subst hn2
      obtain ⟨ca, cb, hlt, hb⟩ := three_third hb1
      have HB := hide hb
      have f1 := ca 1 _ rfl
      have f2 := ca 2 _ rfl
      have g1 := cb 1 _ rfl
      have g2 := cb 2 _ rfl
      have g3 := cb 3 _ rfl
      have hlt0 : w.heap.size < W1.heap.size := by omega
      clear hb1 hb ca cb hn1
      unfold V
      go_wp2
      go_ret
      exact ⟨rfl, bal (unhide HB) _⟩
end Go.Proofs.YtkmpjoiefcjbnaaDoor
