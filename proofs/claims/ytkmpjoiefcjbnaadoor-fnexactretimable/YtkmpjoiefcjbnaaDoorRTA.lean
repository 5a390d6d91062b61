/- The specification's l08Clock. -/
import Derived.Test.YtkmpjoiefcjbnaaDoorCF
import Derived.BigQuiet
import Derived.OwnWalk
import Derived.Test.YtkmpjoiefcjbnaaDoorDE
import Derived.Deep.RegionHeld3
namespace Go.Proofs.YtkmpjoiefcjbnaaDoor
open Go.RowKit Gs
set_option linter.unusedVariables false
set_option linter.unusedSimpArgs false
set_option maxRecDepth 100000
/-- The clock of the register that a cell is. -/
def clkOf (n : Net) (k : Cell) : Int := match n.regs[k.n.toNat]? with
  | some g => g.clock
  | none => -1
/-- What l08Clock's loop makes of operands, from a clock on. -/
def clkS (n : Net) : List Int → Int → Int
  | [], clock => clock
  | i :: is, clock => match n.cells[i.toNat]? with
    | some k => if k.op = 29 then clkS n is clock else if k.op ≠ 34 then -1 else if 0 ≤ clock ∧ clkOf n k ≠ clock then -1 else clkS n is (clkOf n k)
    | none => -1
/-- What l08Clock answers. -/
def clockS (n : Net) (c : Cell) : Int := if c.op = 29 ∨ c.op = 33 ∨ c.op = 34 then -1 else clkS n c.ins (-1)
/-- Operands are cells; cells that are registers have one. -/
structure Good (n : Net) (ins : List Int) : Prop where
  kid : ∀ i ∈ ins, ∃ (j : Nat) (k : Cell), i = (j : Int) ∧ n.cells[j]? = some k
  reg : ∀ (j : Nat) (k : Cell), n.cells[j]? = some k → k.op = 34 → ∃ (r : Nat) (g : NetReg), k.n = (r : Int) ∧ n.regs[r]? = some g ∧ 0 ≤ g.clock ∧ g.clock < 8
set_option maxHeartbeats 16000000 in
theorem sClock (n : Net) (v0 v1 v2 v3 v4 v5 : Value) (w : World) (h : CW w n v0 v1 v2 v3 v4 v5) (c : Cell) (vi : Value) (hi : RS 1 RInt w 0 c.ins vi) (hg : Good n c.ins) :
    Calls Tryd.prog 19 #[.agg #[v0, v1, v2, v3, v4, v5], .agg #[.int .i64 c.op, .int .i64 c.width, .int .i64 c.n, .bool c.signed, .string c.bits, vi]] w fun e w' => e = .returned (.int .i64 (clockS n c)) ∧ Below w.heap.size w w' := by
  have hl2 := h.cells.len
  have hl3 := h.regs.len
  have hli := hi.len
  unfold maxLen at hl2 hl3 hli
  obtain ⟨a2, c2, e2⟩ := h.cells.slice
  obtain ⟨a3, c3, e3⟩ := h.regs.slice
  obtain ⟨ai, ci, ei⟩ := hi.slice
  have HCW := hide h
  have HI := hide hi
  have HG := hide hg
  by_cases hb : c.op = 29 ∨ c.op = 33 ∨ c.op = 34
  · have E : clockS n c = -1 := if_pos hb
    rw [E]
    subst ei
    clear E h hi hg HCW HI HG
    generalize c.op = z0 at *
    rcases hb with rfl | rfl | rfl
    all_goals
      go_enter Tryd.func19, Tryd.ntmps19
      go_wp2
      go_ret
      exact ⟨rfl, bal (bal (brf w) _) _⟩
  · have E : clockS n c = clkS n c.ins (-1) := if_neg hb
    rw [E]
    have o29 : (c.op == 29) = false := beq_eq_false_iff_ne.2 (fun h => hb (.inl h))
    have o33 : (c.op == 33) = false := beq_eq_false_iff_ne.2 (fun h => hb (.inr (.inl h)))
    have o34 : (c.op == 34) = false := beq_eq_false_iff_ne.2 (fun h => hb (.inr (.inr h)))
    subst e2 e3 ei
    clear E h hi hg hb
    generalize c.op = z0 at *
    generalize c.width = z1 at *
    generalize c.n = z2 at *
    generalize c.signed = z3 at *
    generalize c.bits = z4 at *
    generalize c.ins = ins at *
    generalize hR : clkS n ins (-1) = R
    generalize hw2 : (w.alloc (.cells #[v0, v1, .slice a2 n.cells.length c2, .slice a3 n.regs.length c3, v4, v5] 37)).alloc (.cells #[.int .i64 z0, .int .i64 z1, .int .i64 z2, .bool z3, .string z4, .slice ai ins.length ci] 52) = w2
    have B2 : Below w.heap.size w w2 := by rw [← hw2]; exact bal (bal (brf w) _) _
    have t2 : w2.cell? ⟨w.heap.size, 2, none⟩ = some (.slice a2 n.cells.length c2) := by rw [← hw2]; exact two_first _ _ _ _ _ rfl
    have t3 : w2.cell? ⟨w.heap.size, 3, none⟩ = some (.slice a3 n.regs.length c3) := by rw [← hw2]; exact two_first _ _ _ _ _ rfl
    have s5 : w2.cell? ⟨w.heap.size + 1, 5, none⟩ = some (.slice ai ins.length ci) := by rw [← hw2]; exact two_next _ _ _ _ _ rfl
    have TT := hide (fun (V : World) (hb : Below w2.heap.size w2 V) => (show (V.cell? ⟨w.heap.size, 2, none⟩ = some (.slice a2 n.cells.length c2) ∧ V.cell? ⟨w.heap.size, 3, none⟩ = some (.slice a3 n.regs.length c3) ∧ V.cell? ⟨w.heap.size + 1, 5, none⟩ = some (.slice ai ins.length ci)) ∧ Below w.heap.size w V ∧ w.heap.size + 1 < V.heap.size from ⟨⟨cell_later hb t2, cell_later hb t3, cell_later hb s5⟩, btr B2 hb, by have := hb.size; rw [← hw2, two_size] at this; omega⟩))
    rw [← hw2] at TT
    clear hw2 B2 t2 t3 s5
    have HR := hide hR
    clear hR
    go_enter Tryd.func19, Tryd.ntmps19
    go_wp2
    go_loopw [5, 6] (fun ck i wr => ∃ (k : Nat) (ct : Int), k ≤ ins.length ∧ ck = .int .i64 ct ∧ i = .int .i64 k ∧ clkS n (ins.drop k) ct = R ∧ Below ((w.alloc (.cells #[v0, v1, .slice a2 n.cells.length c2, .slice a3 n.regs.length c3, v4, v5] 37)).alloc (.cells #[.int .i64 z0, .int .i64 z1, .int .i64 z2, .bool z3, .string z4, .slice ai ins.length ci] 52)).heap.size ((w.alloc (.cells #[v0, v1, .slice a2 n.cells.length c2, .slice a3 n.regs.length c3, v4, v5] 37)).alloc (.cells #[.int .i64 z0, .int .i64 z1, .int .i64 z2, .bool z3, .string z4, .slice ai ins.length ci] 52)) wr) (fun _ i _ => ins.length - (intOf i).toNat)
    case atStart => exact ⟨0, -1, Nat.zero_le _, rfl, rfl, unhide HR, brf _⟩
    case round =>
      clear HR
      obtain ⟨k, ct, hk, rfl, rfl, hrun, hbw⟩ := hrel
      obtain ⟨⟨t2, t3, s5⟩, hb, hsz⟩ := unhide TT _ hbw
      by_cases hlt : k < ins.length
      · have hx : ins[k]? = some ins[k] := List.getElem?_eq_getElem hlt
        have hmem : ins[k] ∈ ins := List.getElem_mem hlt
        have hdr : ins.drop k = ins[k] :: ins.drop (k + 1) := List.drop_eq_getElem_cons hlt
        rw [hdr] at hrun
        generalize ins[k] = x at hx hmem hrun
        obtain ⟨j, kc, rfl, hkc⟩ := (unhide HG).kid x hmem
        have hjl : j < n.cells.length := (List.getElem?_eq_some_iff.1 hkc).1
        rcases (unhide HI).open with ⟨hnil, _⟩ | ⟨bi, oi, cc, ee, _, _, _, hcs⟩
        · rw [hnil] at hlt; simp at hlt
        obtain ⟨rfl, rfl⟩ : ai = some ⟨bi, oi, none⟩ ∧ ci = cc := by
          injection ee with e1 e2 e3
          exact ⟨e1, e3⟩
        obtain ⟨u, _, hat, hux⟩ := hcs k _ hx
        obtain rfl : u = [.int .i64 (j : Int)] := hux
        have m0 := cell_later hb (hat.get (j := 0) rfl)
        simp only [Nat.add_zero, Nat.mul_one] at m0
        rcases (unhide HCW).cells.open with ⟨hnil, _⟩ | ⟨b2, o2, cc2, ee2, _, _, _, hcs2⟩
        · rw [hnil] at hjl; simp at hjl
        obtain ⟨rfl, rfl⟩ : a2 = some ⟨b2, o2, none⟩ ∧ c2 = cc2 := by
          injection ee2 with e1 e2 e3
          exact ⟨e1, e3⟩
        obtain ⟨u2, _, hat2, y5, rfl, hbits, hins⟩ := hcs2 j kc hkc
        have k0 := cell_later hb (hat2.get (j := 0) rfl)
        have k1 := cell_later hb (hat2.get (j := 1) rfl)
        have k2 := cell_later hb (hat2.get (j := 2) rfl)
        have k3 := cell_later hb (hat2.get (j := 3) rfl)
        have k4 := cell_later hb (hat2.get (j := 4) rfl)
        have k5 := cell_later hb (hat2.get (j := 5) rfl)
        simp only [Nat.add_zero] at k0
        obtain ⟨a5, c5, e5⟩ := hins.slice
        subst e5
        have hbi : bi < wr.heap.size := World.block_lt_of_cell? wr _ m0
        have hb2 : b2 < wr.heap.size := World.block_lt_of_cell? wr _ k0
        have hw0 : w.heap.size < wr.heap.size := by omega
        have i1 : (0 : Int) ≤ (j : Int) := by omega
        have i2 : (j : Int) < (n.cells.length : Int) := by omega
        have i3 : (k : Int) < (ins.length : Int) := by omega
        have hrun2 : (if kc.op = 29 then clkS n (ins.drop (k + 1)) ct else if kc.op ≠ 34 then -1 else if 0 ≤ ct ∧ clkOf n kc ≠ ct then -1 else clkS n (ins.drop (k + 1)) (clkOf n kc)) = R := by
          rw [← hrun, clkS, Int.toNat_natCast, hkc]
        have HRG := hide (fun (h34 : kc.op = 34) => (show ∃ (r : Nat) (ck : Int) (b3 o3 cc3 : Nat), kc.n = (r : Int) ∧ r < n.regs.length ∧ clkOf n kc = ck ∧ 0 ≤ ck ∧ a3 = some ⟨b3, o3, none⟩ ∧ c3 = cc3 ∧ w.cell? ⟨b3, o3 + r * 5 + 2, none⟩ = some (.int .i64 ck) from by
          obtain ⟨r, g, e1, e2, e3, _⟩ := (unhide HG).reg j kc hkc h34
          have hrl : r < n.regs.length := (List.getElem?_eq_some_iff.1 e2).1
          rcases (unhide HCW).regs.open with ⟨hnil, _⟩ | ⟨b3, o3, cc3, ee3, _, _, _, hcs3⟩
          · rw [hnil] at hrl; simp at hrl
          obtain ⟨f1, f2⟩ : a3 = some ⟨b3, o3, none⟩ ∧ c3 = cc3 := by
            injection ee3 with e1 e2 e3
            exact ⟨e1, e3⟩
          obtain ⟨u3, _, hat3, hu3, _⟩ := hcs3 r g e2
          subst hu3
          exact ⟨r, g.clock, b3, o3, cc3, e1, hrl, by unfold clkOf; rw [e1, Int.toNat_natCast, e2], e3, f1, f2, hat3.get (j := 2) rfl⟩))
        have HB := hide hb
        have HBW := hide hbw
        clear hat hcs hx hmem ee hat2 hcs2 ee2 hkc hrun hb hbw hins hbits HCW HI HG hdr
        generalize kc.op = y0 at *
        generalize kc.width = y1 at *
        generalize kc.signed = y3 at *
        generalize kc.bits = y4 at *
        have HB1 := hide (fun o => bdr (bal (unhide HB) o))
        have HBW1 := hide (fun o => bdr (bal (unhide HBW) o))
        by_cases h29 : y0 = 29
        · subst h29
          have HN := hide (show clkS n (ins.drop (k + 1)) ct = R from by rw [← hrun2, if_pos rfl])
          clear hrun2 HRG
          go_wp2
          go_region
          go_wp2
          exact ⟨⟨k + 1, ct, by omega, rfl, by go_num, unhide HN, unhide HBW1 _⟩, by simp [intOf]; omega⟩
        · rw [if_neg h29] at hrun2
          have f29 : (y0 == 29) = false := beq_eq_false_iff_ne.2 h29
          by_cases h34 : y0 = 34
          · subst h34
            rw [if_neg (by decide)] at hrun2
            obtain ⟨r, ck, b3, o3, cc3, hrn, hrl, hck, hck0, rfl, rfl, hrc⟩ := unhide HRG rfl
            rw [hck] at hrun2
            have m3 := cell_later (unhide HB) hrc
            have hb3 : b3 < wr.heap.size := World.block_lt_of_cell? wr _ m3
            have r1 : (0 : Int) ≤ (r : Int) := by omega
            have r2 : (r : Int) < (n.regs.length : Int) := by omega
            rw [hrn] at k2
            have hst := hrn
            generalize kc.n = y2 at *
            subst hst
            by_cases hne : 0 ≤ ct ∧ ck ≠ ct
            · rw [if_pos hne] at hrun2
              have HE := hide hrun2
              have d1 : decide ((0 : Int) ≤ ct) = true := decide_eq_true hne.1
              have d2 : (ck != ct) = true := bne_iff_ne.2 hne.2
              clear hrun2 HRG hck hrn
              go_wp2
              go_region
              go_wp2
              go_ret
              exact ⟨congrArg (fun q => Ending.returned (Value.int .i64 q)) (unhide HE), unhide HB1 _⟩
            · rw [if_neg hne] at hrun2
              have HN := hide hrun2
              have hd : decide ((0 : Int) ≤ ct) = false ∨ (decide ((0 : Int) ≤ ct) = true ∧ (ck != ct) = false) := by
                by_cases h0 : 0 ≤ ct
                · exact .inr ⟨decide_eq_true h0, bne_eq_false_iff_eq.2 (Classical.byContradiction fun h => hne ⟨h0, h⟩)⟩
                · exact .inl (decide_eq_false h0)
              clear hrun2 HRG hck hrn hne
              rcases hd with d1 | ⟨d1, d2⟩
              all_goals
                go_wp2
                go_region
                go_wp2
                exact ⟨⟨k + 1, ck, by omega, rfl, by go_num, unhide HN, unhide HBW1 _⟩, by simp [intOf]; omega⟩
          · rw [if_pos h34] at hrun2
            have HE := hide hrun2
            have f34 : (y0 != 34) = true := bne_iff_ne.2 h34
            clear hrun2 HRG
            go_wp2
            go_region
            go_wp2
            go_ret
            exact ⟨congrArg (fun q => Ending.returned (Value.int .i64 q)) (unhide HE), unhide HB1 _⟩
      · have hkl : k = ins.length := by omega
        subst hkl
        rw [List.drop_length] at hrun
        have HE := hide (show ct = R from hrun)
        have HB := hide hb
        clear hrun hbw hb HCW HI HG
        go_wp2
        go_ret
        exact ⟨congrArg (fun q => Ending.returned (Value.int .i64 q)) (unhide HE), unhide HB⟩
end Go.Proofs.YtkmpjoiefcjbnaaDoor
namespace Go.Proofs.YtkmpjoiefcjbnaaDoor
open Go.RowKit Gs
set_option linter.unusedVariables false
set_option maxRecDepth 100000
/-- Ints in a row of one's own. -/
def OI (B : Nat) (W : World) (v : Value) (xs : List Int) : Prop := W.ownsRow B 3 1 v xs.length (xs.map fun x => Value.int .i64 x)
theorem OI_nil (B : Nat) (W : World) : OI B W (.slice none 0 0) [] := World.ownsRow_nil _ _ _ _
theorem OI.later {B : Nat} {v : Value} {xs : List Int} {W W' : World} (h : OI B W v xs) (hb : Below W.heap.size W W') : OI B W' v xs := by
  obtain ⟨h1, h2 | ⟨g, cap, cur, hv, hg, hc, rest⟩⟩ := h
  · exact ⟨h1, .inl h2⟩
  · exact ⟨h1, .inr ⟨g, cap, cur, hv, hg, (hb.block g (Array.getElem?_eq_some_iff.1 hc).1).trans hc, rest⟩⟩
theorem OI.alloc {B : Nat} {v : Value} {xs : List Int} {W : World} (h : OI B W v xs) (o : Obj) : OI B (W.alloc o) v xs := World.ownsRow.alloc h o
theorem OI.row {B : Nat} {v : Value} {xs : List Int} {W : World} (h : OI B W v xs) : ∀ j, v.ownBlock = some j → B ≤ j := fun j hj => (World.ownsRow.lt h j hj).1
theorem OI.shape {B : Nat} {v : Value} {xs : List Int} {W : World} (h : OI B W v xs) : ∃ a l c, v = .slice a l c := by
  rcases h.2 with ⟨rfl, _⟩ | ⟨g, cap, cur, rfl, _⟩
  · exact ⟨_, _, _, rfl⟩
  · exact ⟨_, _, _, rfl⟩
theorem OI.step {B : Nat} {v : Value} {xs : List Int} {W : World} {x : Int} (h : W.ownsRow B 3 1 v (xs.length + 1) ((xs.map fun x => Value.int .i64 x) ++ [.int .i64 x])) : OI B W v (xs ++ [x]) := by
  unfold OI
  rw [List.length_append, List.map_append]
  exact h
theorem OI.read {B : Nat} {v : Value} {xs : List Int} {W : World} (h : OI B W v xs) (hl : xs.length ≤ maxLen) : RS 1 RInt W B xs v := by
  have hc := fun g hg => World.ownsRow.cells h (g := g) hg
  rcases h.2 with ⟨rfl, hn⟩ | ⟨g, cap, cur, rfl, hb, hg, hlc, hm, _⟩
  · have : xs = [] := List.length_eq_zero_iff.1 hn
    subst this
    exact RS.nil _ _ _ _ _ _
  · refine ⟨_, _, rfl, hlc, hl, fun _ => ⟨g, 0, rfl, hb, fun i x hx => ?_⟩⟩
    refine ⟨[.int .i64 x], rfl, fun j y hj => ?_, rfl⟩
    have hj0 : j = 0 := by
      cases j with
      | zero => rfl
      | succ j => simp at hj
    subst hj0
    simp at hj
    subst hj
    have := hc g rfl i (.int .i64 x) (by rw [List.getElem?_map, hx]; rfl)
    rw [Addr.add_lit] at this
    simpa using this
theorem info3 : (Tryd.prog.info? 3).map (fun i => (i.zero, i.size, i.bytes)) = some (some (.int .i64 0), 1, 8) := by kernel_rfl
theorem newI (W : World) (x : Int) (g : Nat) (hg : g = W.heap.size) : ∀ j u, [Value.int .i64 x][j]? = some u → (W.alloc (.cells #[.int .i64 x] 3)).cell? ((⟨g, 0, none⟩ : Addr).add j) = some u := by
  intro j u h
  subst hg
  match j, h with
  | 0, h => simp at h; subst h; simp [Addr.add]
  | j + 1, h => simp at h
theorem oneI (x : Int) : ∀ u ∈ [Value.int .i64 x], u.oneCell' = true := by
  intro u hu; simp at hu; subst hu; rfl
theorem OI_start {W : World} {B M : Nat} (hM : W.heap.size = M) (h : B ≤ M) : OI B (W.alloc (.cells #[] 3)) (.slice (some ⟨M, 0, none⟩) 0 0) [] := by
  subst hM
  exact ⟨rfl, .inr ⟨W.heap.size, 0, #[], rfl, h, heap_alloc_new W _, Nat.le_refl _, Nat.zero_le _, rfl, rfl⟩⟩
/-- The clock of a cell by its number. -/
def clkAt (n : Net) (j : Nat) : Int := match n.cells[j]? with
  | some c => clockS n c
  | none => -1
/-- The cells below k that can be retimed. -/
def retTo (n : Net) (k : Nat) : List Int := ((List.range k).filter fun j => decide (0 ≤ clkAt n j)).map fun (j : Nat) => (j : Int)
theorem retTo_succ (n : Net) (k : Nat) : retTo n (k + 1) = if 0 ≤ clkAt n k then retTo n k ++ [(k : Int)] else retTo n k := by
  unfold retTo
  rw [List.range_succ, List.filter_append, List.map_append]
  by_cases h : 0 ≤ clkAt n k
  · rw [if_pos h]; simp [h]
  · rw [if_neg h]; simp [h]
theorem retTo_len (n : Net) (k : Nat) : (retTo n k).length ≤ k := by
  unfold retTo
  rw [List.length_map]
  exact Nat.le_trans (List.length_filter_le _ _) (by rw [List.length_range]; exact Nat.le_refl _)
end Go.Proofs.YtkmpjoiefcjbnaaDoor
namespace Go.Proofs.YtkmpjoiefcjbnaaDoor
open Go.RowKit Gs
set_option linter.unusedVariables false
set_option linter.unusedSimpArgs false
set_option maxRecDepth 100000
theorem OI.low {B B' : Nat} {v : Value} {xs : List Int} {W : World} (hB : B ≤ B') (h : OI B' W v xs) : OI B W v xs := by
  obtain ⟨h1, h2 | ⟨g, cap, cur, hv, hg, rest⟩⟩ := h
  · exact ⟨h1, .inl h2⟩
  · exact ⟨h1, .inr ⟨g, cap, cur, hv, Nat.le_trans hB hg, rest⟩⟩
theorem OI.frame {t : TypeId} {W W1 W2 : World} {vs : Array Value} {v : Value} {xs : List Int} (hX : Bt t W vs W1) (ho : OI (W.heap.size + 1) W1 v xs) (hg : W1.grownBy W2 v.ownBlock) : Bt t W vs W2 := by
  have e : (W.alloc (.cells vs t)).heap.size = W.heap.size + 1 := by go_simp
  unfold Bt at *
  refine Below.grown hX hg (Below.size hX) (fun j hj => ?_)
  rw [e]; exact ho.row j hj
set_option maxHeartbeats 16000000 in
theorem sRetYes (n : Net) (v0 v1 v2 v3 v4 v5 : Value) (w : World) (h : CW w n v0 v1 v2 v3 v4 v5) (hl : n.cells.length ≤ 4096) (hg : ∀ (j : Nat) (c : Cell), n.cells[j]? = some c → Good n c.ins)
    (NK : ∀ V, Below w.heap.size w V → Calls Tryd.prog 18 #[.agg #[v0, v1, v2, v3, v4, v5]] V fun e w' => e = .returned (.bool true) ∧ Below V.heap.size V w') (hsl : (∃ a l c, v0 = .slice a l c) ∧ (∃ a l c, v1 = .slice a l c) ∧ (∃ a l c, v4 = .slice a l c) ∧ (∃ a l c, v5 = .slice a l c)) :
    Calls Tryd.prog 5 #[.agg #[v0, v1, v2, v3, v4, v5]] w fun e w' => (∃ v, e = .returned v ∧ OI w.heap.size w' v (retTo n n.cells.length)) ∧ Below w.heap.size w w' := by
  obtain ⟨a2, c2, e2⟩ := h.cells.slice
  obtain ⟨a3, c3, e3⟩ := h.regs.slice
  obtain ⟨⟨a0, l0, c0, e0⟩, ⟨a1, l1, c1, e1⟩, ⟨a4, l4, c4, e4⟩, ⟨a5, l5, c5, e5⟩⟩ := hsl
  have CK := hide (fun (V : World) (hb : Below w.heap.size w V) (j : Nat) (c : Cell) (hj : n.cells[j]? = some c) (vi : Value) (hi : RS 1 RInt w 0 c.ins vi) => sClock n v0 v1 v2 v3 v4 v5 V ⟨h.ins.later RNetPort.keeps hb, h.cells.later RCell.keeps hb, h.regs.later RNetReg.keeps hb⟩ c vi (hi.later RInt.keeps hb) (hg j c hj))
  have HNK := hide NK
  have HC := hide h.cells
  subst e0 e1 e2 e3 e4 e5
  clear h hg NK
  obtain ⟨i0, hi, hz0, hz1, hz2⟩ := info_parts info3
  have S0 := hide (OI_start (W := w.alloc (.cells #[.slice a0 l0 c0, .slice a1 l1 c1, .slice a2 n.cells.length c2, .slice a3 n.regs.length c3, .slice a4 l4 c4, .slice a5 l5 c5] 37)) (B := w.heap.size + 1) (M := w.heap.size + 1) (by simp) (Nat.le_refl _))
  go_enter Tryd.func5, Tryd.ntmps5
  go_wp2_with fail
  refine (unhide HNK _ (bal (bal (brf w) _) _)).mono ?_
  rintro e W1 ⟨rfl, hb1⟩
  have HX := hide (show Bt 37 w #[.slice a0 l0 c0, .slice a1 l1 c1, .slice a2 n.cells.length c2, .slice a3 n.regs.length c3, .slice a4 l4 c4, .slice a5 l5 c5] W1 from btr (bal (brf _) _) hb1)
  have HO := hide ((unhide S0).later hb1)
  clear hb1 S0 HNK
  obtain ⟨q0, q1, q2, q3, q4, q5⟩ := (unhide HX).get6
  go_wp2
  go_loopw [3, 4] (fun v i wr => ∃ k : Nat, k ≤ n.cells.length ∧ i = .int .i64 k ∧ OI (w.heap.size + 1) wr v (retTo n k) ∧ Bt 37 w #[.slice a0 l0 c0, .slice a1 l1 c1, .slice a2 n.cells.length c2, .slice a3 n.regs.length c3, .slice a4 l4 c4, .slice a5 l5 c5] wr) (fun _ i _ => n.cells.length - (intOf i).toNat)
  case atStart => exact ⟨0, Nat.zero_le _, rfl, unhide HO, unhide HX⟩
  case round =>
    clear q0 q1 q2 q3 q4 q5 HX HO
    obtain ⟨k, hk, rfl, ho, hbx⟩ := hrel
    obtain ⟨q0, q1, q2, q3, q4, q5⟩ := hbx.get6
    have hb := hbx.below
    have hsz := hbx.size
    have HX := hide hbx
    have HO := hide ho
    clear hbx ho
    by_cases hlt : k < n.cells.length
    · have hx : n.cells[k]? = some n.cells[k] := List.getElem?_eq_getElem hlt
      generalize n.cells[k] = x at hx
      have hck : clkAt n k = clockS n x := by unfold clkAt; rw [hx]
      rcases (unhide HC).open with ⟨hnil, _⟩ | ⟨b2, o2, cc2, ee2, _, _, _, hcs2⟩
      · rw [hnil] at hlt; simp at hlt
      obtain ⟨rfl, rfl⟩ : a2 = some ⟨b2, o2, none⟩ ∧ c2 = cc2 := by
        injection ee2 with e1 e2 e3
        exact ⟨e1, e3⟩
      obtain ⟨u2, _, hat2, y5, rfl, hbits, hins⟩ := hcs2 k x hx
      have k0 := cell_later hb (hat2.get (j := 0) rfl)
      have k1 := cell_later hb (hat2.get (j := 1) rfl)
      have k2 := cell_later hb (hat2.get (j := 2) rfl)
      have k3 := cell_later hb (hat2.get (j := 3) rfl)
      have k4 := cell_later hb (hat2.get (j := 4) rfl)
      have k5 := cell_later hb (hat2.get (j := 5) rfl)
      simp only [Nat.add_zero] at k0
      have CC := hide (fun V hb' => unhide CK V hb' k x hx y5 hins)
      obtain ⟨a6, c6, e6⟩ := hins.slice
      subst e6
      have i1 : (k : Int) < (n.cells.length : Int) := by omega
      have HRT := hide (retTo_succ n k)
      have HLN := hide (retTo_len n k)
      have HBD := hide (bdr hb)
      clear hat2 hcs2 ee2 hx hins hbits HC CK
      rw [hck] at HRT
      clear hck
      generalize clockS n x = ck at *
      generalize x.op = y0 at *
      generalize x.width = y1 at *
      generalize x.n = y2 at *
      generalize x.signed = y3 at *
      generalize x.bits = y4 at *
      generalize x.ins.length = y6 at *
      by_cases hge : 0 ≤ ck
      · have d1 : decide ((0 : Int) ≤ ck) = true := decide_eq_true hge
        rw [if_pos hge] at HRT
        go_wp2
        go_region_held3 (fun V => V.cell? ⟨w.heap.size, 0, none⟩ = some (.slice a0 l0 c0) ∧ V.cell? ⟨w.heap.size, 1, none⟩ = some (.slice a1 l1 c1) ∧ V.cell? ⟨w.heap.size, 2, none⟩ = some (.slice (some ⟨b2, o2, none⟩) n.cells.length c2) ∧ V.cell? ⟨w.heap.size, 3, none⟩ = some (.slice a3 n.regs.length c3) ∧ V.cell? ⟨w.heap.size, 4, none⟩ = some (.slice a4 l4 c4) ∧ V.cell? ⟨w.heap.size, 5, none⟩ = some (.slice a5 l5 c5) ∧ V.cell? ⟨b2, o2 + k * 6, none⟩ = some (.int .i64 y0) ∧ V.cell? ⟨b2, o2 + k * 6 + 1, none⟩ = some (.int .i64 y1) ∧ V.cell? ⟨b2, o2 + k * 6 + 2, none⟩ = some (.int .i64 y2) ∧ V.cell? ⟨b2, o2 + k * 6 + 3, none⟩ = some (.bool y3) ∧ V.cell? ⟨b2, o2 + k * 6 + 4, none⟩ = some (.string y4) ∧ V.cell? ⟨b2, o2 + k * 6 + 5, none⟩ = some (.slice a6 y6 c6) ∧ Below wr.heap.size wr V)
          (first | (exact ⟨q0, q1, q2, q3, q4, q5, k0, k1, k2, k3, k4, k5, bdr (brf _)⟩) | (exact keepE6 (by assumption) hb1))
          (first | (go_at_call 19; refine (unhide CC _ (btr hb (belowE6 (by assumption)))).mono ?_; rintro e V1 ⟨rfl, hb1⟩))
        have HSf := hide (show Below wr.heap.size wr V1 from belowE6 (by assumption))
        have HO1 := hide ((unhide HO).later (unhide HSf))
        have HX1 := hide ((unhide HX).then (unhide HSf))
        have hs1 := (unhide HX1).size
        go_wp2_with (first
          | (at_builtin; refine wpList_append_own _ rfl _ _ 30 rfl (w.heap.size + 1) 3 i0 (.int .i64 0) 1 8 Tryd.underlying30 hi hz0 hz1 hz2 rfl (by decide) _ _ _ rfl ((unhide HO1).alloc _) ⟨V1.heap.size, 0, none⟩ 1 1 [.int .i64 (k : Int)] rfl rfl (newI _ _ _ rfl) (oneI _) (by have := unhide HLN; unfold maxLen; omega) (by have := unhide HLN; omega) (by simp; omega) ?_; intro v' w2 hown' hgrow _))
        have R1 : OI (w.heap.size + 1) w2 v' (retTo n (k + 1)) := by rw [unhide HRT]; exact OI.step hown'
        have R2 := OI.frame ((unhide HX1).alloc _) ((unhide HO1).alloc _) hgrow
        go_roundw
        case rel => exact ⟨k + 1, by omega, by go_num, R1, R2⟩
        case measure => simp [intOf]; omega
      · have d1 : decide ((0 : Int) ≤ ck) = false := decide_eq_false hge
        rw [if_neg hge] at HRT
        go_wp2
        go_region_held3 (fun V => V.cell? ⟨w.heap.size, 0, none⟩ = some (.slice a0 l0 c0) ∧ V.cell? ⟨w.heap.size, 1, none⟩ = some (.slice a1 l1 c1) ∧ V.cell? ⟨w.heap.size, 2, none⟩ = some (.slice (some ⟨b2, o2, none⟩) n.cells.length c2) ∧ V.cell? ⟨w.heap.size, 3, none⟩ = some (.slice a3 n.regs.length c3) ∧ V.cell? ⟨w.heap.size, 4, none⟩ = some (.slice a4 l4 c4) ∧ V.cell? ⟨w.heap.size, 5, none⟩ = some (.slice a5 l5 c5) ∧ V.cell? ⟨b2, o2 + k * 6, none⟩ = some (.int .i64 y0) ∧ V.cell? ⟨b2, o2 + k * 6 + 1, none⟩ = some (.int .i64 y1) ∧ V.cell? ⟨b2, o2 + k * 6 + 2, none⟩ = some (.int .i64 y2) ∧ V.cell? ⟨b2, o2 + k * 6 + 3, none⟩ = some (.bool y3) ∧ V.cell? ⟨b2, o2 + k * 6 + 4, none⟩ = some (.string y4) ∧ V.cell? ⟨b2, o2 + k * 6 + 5, none⟩ = some (.slice a6 y6 c6) ∧ Below wr.heap.size wr V)
          (first | (exact ⟨q0, q1, q2, q3, q4, q5, k0, k1, k2, k3, k4, k5, bdr (brf _)⟩) | (exact keepE6 (by assumption) hb1))
          (first | (go_at_call 19; refine (unhide CC _ (btr hb (belowE6 (by assumption)))).mono ?_; rintro e V1 ⟨rfl, hb1⟩))
        go_wp2
        exact ⟨⟨k + 1, by omega, by go_num, by rw [unhide HRT]; exact (unhide HO).later (belowE6 (by assumption)), (unhide HX).then (belowE6 (by assumption))⟩, by simp [intOf]; omega⟩
    · have hkl : k = n.cells.length := by omega
      subst hkl
      have HB := hide hb
      clear hb HC CK
      obtain ⟨ra, rl, rc, rfl⟩ := (unhide HO).shape
      go_wp2
      refine bodyPost_ret (v := .slice ra rl rc) (by simp [results, Tryd.results5, go_sem]) rfl ⟨⟨_, rfl, ?_⟩, unhide HB⟩
      exact OI.low (Nat.le_succ _) (unhide HO)
end Go.Proofs.YtkmpjoiefcjbnaaDoor
