/- namesFit of a list of names; regNames; namesFit of a netlist. -/
import Derived.Test.YtkmpjoiefcjbnaaDoorAN
import Derived.Test.YtkmpjoiefcjbnaaDoorLOA
import Derived.Test.YtkmpjoiefcjbnaaDoorMA
import Derived.Deep.Upon
namespace Go.Proofs.YtkmpjoiefcjbnaaDoor
open Go.RowKit Gs
set_option linter.unusedVariables false
set_option maxRecDepth 100000
def nmOK (s : ByteArray) : Bool := decide (1 ≤ s.size) && decide (s.size ≤ 1000)
def namesB (ss : List ByteArray) : Bool := ss.all nmOK && decide ss.Nodup
set_option maxHeartbeats 1600000 in
theorem iNamesFit (ss : List ByteArray) (v : Value) (w : World) (hl : ss.length ≤ 1048576) (hr : RS 1 RStr w 0 ss v) :
    Calls Tryd.prog 76 #[v] w fun e w' => e = .returned (.bool (namesB ss)) ∧ Below w.heap.size w w' := by
  have AN := hide (fun W (h : RS 1 RStr W 0 ss v) => iAllNew ss v W hl h)
  have HR := hide hr
  rcases hr.open with ⟨rfl, a, c, rfl⟩ | ⟨b, o, c, rfl, hc, hn, _, hcs⟩
  · clear hr
    go_enter Tryd.func76, Tryd.ntmps76
    go_wp2
    refine wp_loop_rounds 1 ?_
    rw [rounds_succ]
    go_wp2_with (first | (go_at_call 87; refine (unhide AN _ (unhide HR)).mono ?_; rintro e W1 ⟨rfl, hb1⟩; have HB := hide hb1; clear hb1))
    exact bodyPost_ret (v := .bool (decide (List.Nodup ([] : List ByteArray)))) (by simp [results, Tryd.results76, go_sem]) rfl ⟨by simp [namesB], unhide HB⟩
  · unfold maxLen at hn
    have HC := hide hcs
    clear hcs hr
    go_enter Tryd.func76, Tryd.ntmps76
    go_wp2
    go_loop [7] (fun i => ∃ k : Nat, k ≤ ss.length ∧ i = .int .i64 k ∧ (ss.take k).all nmOK = true) (fun i => ss.length - (intOf i).toNat)
    case atStart => exact ⟨0, Nat.zero_le _, rfl, rfl⟩
    case round =>
      obtain ⟨k, hk, rfl, hall⟩ := hrel
      have HA := hide hall
      clear hall
      by_cases hlt : k < ss.length
      · have hx : ss[k]? = some ss[k] := List.getElem?_eq_getElem hlt
        have hmem : ss[k] ∈ ss := List.getElem_mem hlt
        generalize ss[k] = s at hx hmem
        have hst : (ss.take (k + 1)).all nmOK = ((ss.take k).all nmOK && nmOK s) := by
          rw [List.take_add_one, hx, List.all_append]; simp
        obtain ⟨u, hul, hat, hus, hsz⟩ := unhide HC k s hx
        subst hus
        have k0 := hat.get (j := 0) rfl
        simp only [Nat.add_zero, Nat.mul_one] at k0
        have HST := hide hst
        have HX := hide hmem
        clear hat hul HC hst hx hmem
        cases hs : nmOK s
        · go_wp2_with (first | (go_at_call 86; refine (iNameFits s _ hsz).mono ?_; rintro e W1 ⟨rfl, rfl⟩; rw [show (decide (1 ≤ s.size) && decide (s.size ≤ 1000)) = false from hs]))
          refine bodyPost_ret (v := .bool false) (by simp [results, Tryd.results76, go_sem]) rfl ⟨ret_bool ?_, brf _⟩
          unfold namesB
          rw [show ss.all nmOK = false from by rw [← Bool.not_eq_true]; intro h; rw [List.all_eq_true.1 h s (unhide HX)] at hs; cases hs]
          rfl
        · go_wp2_with (first | (go_at_call 86; refine (iNameFits s _ hsz).mono ?_; rintro e W1 ⟨rfl, rfl⟩; rw [show (decide (1 ≤ s.size) && decide (s.size ≤ 1000)) = true from hs]))
          go_round
          case rel => exact ⟨k + 1, by omega, by go_num, by rw [unhide HST, unhide HA, hs]; rfl⟩
          case measure => simp [intOf]; omega
      · obtain rfl : k = ss.length := by omega
        clear HC
        go_wp2_with (first | (go_at_call 87; refine (unhide AN _ (unhide HR)).mono ?_; rintro e W1 ⟨rfl, hb1⟩; have HB := hide hb1; clear hb1))
        refine bodyPost_ret (v := .bool (decide ss.Nodup)) (by simp [results, Tryd.results76, go_sem]) rfl ⟨ret_bool ?_, unhide HB⟩
        have h := unhide HA
        rw [List.take_of_length_le (Nat.le_refl _)] at h
        simp [namesB, h]
set_option maxHeartbeats 1600000 in
theorem iRegNames (xs : List NetReg) (v : Value) (w : World) (hl : xs.length ≤ 1048576) (hr : RS 5 RNetReg w 0 xs v) :
    Calls Tryd.prog 77 #[v] w fun e w' => (∃ v', e = .returned v' ∧ OS w.heap.size w' v' (xs.map (·.name))) ∧ Below w.heap.size w w' := by
  have AN := hide (iListNetReg xs v w hl hr)
  clear hr
  go_enter Tryd.func77, Tryd.ntmps77
  go_wp2_with (first | (go_at_call 88; refine (unhide AN).mono ?_; rintro e W1 ⟨⟨v', rfl, ho⟩, hb1⟩; have HB := hide hb1; have HO := hide ho; clear hb1 ho))
  exact bodyPost_ret (v := v') (by simp [results, Tryd.results77, go_sem]) rfl ⟨⟨_, rfl, unhide HO⟩, unhide HB⟩
end Go.Proofs.YtkmpjoiefcjbnaaDoor
namespace Go.Proofs.YtkmpjoiefcjbnaaDoor
open Go.RowKit Gs
set_option linter.unusedVariables false
set_option maxRecDepth 100000
theorem strs_one (ys : List ByteArray) : ∀ u ∈ ys.map Value.string, u.oneCell' = true := by
  intro u hu
  obtain ⟨s, _, rfl⟩ := List.mem_map.1 hu
  rfl
/-- Strings are appended, whatever slice they lie in. -/
theorem wpAppS {ops : Array Oper} {rest : List Oper} {o : Oper} {a : Act} {Q : Exit → Act → World → Prop} {w : World} (hg : o.guard = none) (s x : Operand) (hop : o.op = Op.call { callee := Callee.builtin Builtin.append, args := #[s, x], argTypes := #[23, 23] })
    (B : Nat) (v : Value) (xs : List ByteArray) (hs : a.eval s = v) (hown : OS B w v xs) (xv : Value) (ys : List ByteArray) (hx : a.eval x = xv) (hr : RS 1 RStr w 0 ys xv) (hlen : xs.length + ys.length ≤ 4194304) (hB : B ≤ w.heap.size)
    (hK : ∀ v' w', OS B w' v' (xs ++ ys) → w.grownBy w' v.ownBlock → wpList Tryd.prog ops Q rest (a.put o.dst v') w') : wpList Tryd.prog ops Q (o :: rest) a w := by
  obtain ⟨i0, hi, hz0, hz1, hz2⟩ := info_parts info9
  rcases hr.open with ⟨rfl, ad, c, rfl⟩ | ⟨b, off, c, rfl, hc, hn, _, hcs⟩
  · obtain ⟨sa, sl, sc, rfl, hle⟩ : ∃ sa sl sc, v = .slice sa sl sc ∧ sl ≤ sc := by
      rcases hown.1.2 with ⟨rfl, _⟩ | ⟨g, cap, cur, rfl, _, _, h, _⟩
      · exact ⟨_, _, _, rfl, Nat.le_refl _⟩
      · exact ⟨_, _, _, rfl, h⟩
    have hS : Src Tryd.prog i0.size 23 (.slice ad 0 c) 0 [] w := by
      cases ad with
      | none => exact Src.ofNil w Tryd.underlying23 c
      | some ad => exact Src.ofSlice w Tryd.underlying23 ad 0 c [] (by simp) (fun j u h => by simp at h) (fun _ h => by cases h)
    have hrun := run_append_nothing (P := Tryd.prog) w 23 23 o.type 9 i0 Tryd.underlying23 hi sa sl sc hle _ hS
    refine wpList_plain hg fun K hK' => ?_
    unfold Oper.wp
    simp [execOp, hop, resolve, invoke, builtin, hs, hx, hrun, Result.andThen]
    exact hK' _ _ (hK _ w (by simpa using hown) (World.grownBy.refl _ _))
  · refine wpList_append_own _ hg s x 23 hop B 9 i0 (.string ByteArray.empty) 1 16 Tryd.underlying23 hi hz0 hz1 hz2 rfl (by decide) v xs.length (xs.map Value.string) hs hown.1 ⟨b, off, none⟩ ys.length c (ys.map Value.string) hx (by simp) ?_ (strs_one ys) (by unfold maxLen; omega) (by omega) hB ?_
    · intro j u hj
      rw [List.getElem?_map, Option.map_eq_some_iff] at hj
      obtain ⟨y, hy, rfl⟩ := hj
      obtain ⟨u, hul, hat, hu, _⟩ := hcs j y hy
      subst hu
      have := hat.get (j := 0) rfl
      rw [Addr.add_lit]
      simpa using this
    · intro v' w' ho hgr _
      refine hK v' w' ⟨?_, fun s hs => ?_⟩ hgr
      · rw [List.length_append, List.map_append]; exact ho
      · rcases List.mem_append.1 hs with h | h
        · exact hown.2 s h
        · obtain ⟨j, hj⟩ := List.getElem?_of_mem h
          obtain ⟨_, _, _, _, hb⟩ := hcs j s hj
          exact hb
/-- What namesFit answers. -/
def netNames (n : Net) : Bool := namesB (n.ins.map (·.name) ++ n.clocks) && namesB (n.regs.map (·.name)) && namesB (n.outs.map (·.name)) && namesB (n.checks.map (·.name))
theorem OS.any {B : Nat} {v : Value} {xs : List ByteArray} {W : World} (h : OS B W v xs) (hl : xs.length ≤ 4194304) : RS 1 RStr W 0 xs v := (h.read (by unfold maxLen; omega)).low RStr.lowers (Nat.zero_le _)
end Go.Proofs.YtkmpjoiefcjbnaaDoor
namespace Go.Proofs.YtkmpjoiefcjbnaaDoor
open Go.RowKit Gs
set_option linter.unusedVariables false
set_option maxRecDepth 100000
/-- A world behind one that boxed a netlist. -/
def Bx (w : World) (v0 v1 v2 v3 v4 v5 : Value) (W : World) : Prop := Below (w.alloc (.cells #[v0, v1, v2, v3, v4, v5] 37)).heap.size (w.alloc (.cells #[v0, v1, v2, v3, v4, v5] 37)) W
theorem Bx.cells {w W : World} {v0 v1 v2 v3 v4 v5 : Value} (h : Bx w v0 v1 v2 v3 v4 v5 W) : W.cell? ⟨w.heap.size, 0, none⟩ = some v0 ∧ W.cell? ⟨w.heap.size, 1, none⟩ = some v1 ∧ W.cell? ⟨w.heap.size, 2, none⟩ = some v2 ∧ W.cell? ⟨w.heap.size, 3, none⟩ = some v3 ∧ W.cell? ⟨w.heap.size, 4, none⟩ = some v4 ∧ W.cell? ⟨w.heap.size, 5, none⟩ = some v5 :=
  ⟨cell_later h (by go_simp), cell_later h (by go_simp), cell_later h (by go_simp), cell_later h (by go_simp), cell_later h (by go_simp), cell_later h (by go_simp)⟩
theorem Bx.below {w W : World} {v0 v1 v2 v3 v4 v5 : Value} (h : Bx w v0 v1 v2 v3 v4 v5 W) : Below w.heap.size w W := btr (bal (brf w) _) h
theorem Bx.then {w W V : World} {v0 v1 v2 v3 v4 v5 : Value} (h : Bx w v0 v1 v2 v3 v4 v5 W) (hb : Below W.heap.size W V) : Bx w v0 v1 v2 v3 v4 v5 V := btr h hb
theorem Bx.refl (w : World) (v0 v1 v2 v3 v4 v5 : Value) : Bx w v0 v1 v2 v3 v4 v5 (w.alloc (.cells #[v0, v1, v2, v3, v4, v5] 37)) := brf _
theorem Bx.size {w W : World} {v0 v1 v2 v3 v4 v5 : Value} (h : Bx w v0 v1 v2 v3 v4 v5 W) : w.heap.size < W.heap.size := by
  have := Below.size h
  have e : (w.alloc (.cells #[v0, v1, v2, v3, v4, v5] 37)).heap.size = w.heap.size + 1 := by go_simp
  omega
set_option maxHeartbeats 8000000 in
theorem iNetNames (n : Net) (v0 v1 v2 v3 v4 v5 : Value) (w : World) (h0 : RS 2 RNetPort w 0 n.ins v0) (h1 : RS 1 RStr w 0 n.clocks v1) (h3 : RS 5 RNetReg w 0 n.regs v3) (h4 : RS 2 RNetOut w 0 n.outs v4) (h5 : RS 2 RNetOut w 0 n.checks v5)
    (l0 : n.ins.length ≤ 4096) (l1 : n.clocks.length ≤ 4096) (l3 : n.regs.length ≤ 4096) (l4 : n.outs.length ≤ 4096) (l5 : n.checks.length ≤ 4096) :
    Calls Tryd.prog 51 #[.agg #[v0, v1, v2, v3, v4, v5]] w fun e w' => e = .returned (.bool (netNames n)) ∧ Below w.heap.size w w' := by
  have C0 := hide (fun W (h : Below w.heap.size w W) => iListNetPort n.ins v0 W (by omega) (h0.later RNetPort.keeps h))
  have C3 := hide (fun W (h : Below w.heap.size w W) => iRegNames n.regs v3 W (by omega) (h3.later RNetReg.keeps h))
  have C4 := hide (fun W (h : Below w.heap.size w W) => iListNetOut n.outs v4 W (by omega) (h4.later RNetOut.keeps h))
  have C5 := hide (fun W (h : Below w.heap.size w W) => iListNetOut n.checks v5 W (by omega) (h5.later RNetOut.keeps h))
  have H1 := hide (fun W (h : Below w.heap.size w W) => h1.later RStr.keeps h)
  have N0 : (n.ins.map (fun x : NetPort => x.name)).length ≤ 4096 := by rw [List.length_map]; exact l0
  have N3 : (n.regs.map (fun x : NetReg => x.name)).length ≤ 4096 := by rw [List.length_map]; exact l3
  have N4 : (n.outs.map (fun x : NetOut => x.name)).length ≤ 4096 := by rw [List.length_map]; exact l4
  have N5 : (n.checks.map (fun x : NetOut => x.name)).length ≤ 4096 := by rw [List.length_map]; exact l5
  have E : netNames n = (namesB (n.ins.map (·.name) ++ n.clocks) && namesB (n.regs.map (·.name)) && namesB (n.outs.map (·.name)) && namesB (n.checks.map (·.name))) := rfl
  rw [E]
  clear E l0 l3 l4 l5
  obtain ⟨a1, c1, e1⟩ := h1.slice
  obtain ⟨a0, c0, e0⟩ := h0.slice
  obtain ⟨a3, c3, e3⟩ := h3.slice
  obtain ⟨a4, c4, e4⟩ := h4.slice
  obtain ⟨a5, c5, e5⟩ := h5.slice
  subst e0 e1 e3 e4 e5
  clear h0 h1 h3 h4 h5
  generalize n.ins.length = L0 at *
  generalize n.regs.length = L3 at *
  generalize n.outs.length = L4 at *
  generalize n.checks.length = L5 at *
  generalize n.ins.map (fun x : NetPort => x.name) = ins at *
  generalize n.regs.map (fun x : NetReg => x.name) = regs at *
  generalize n.outs.map (fun x : NetOut => x.name) = outs at *
  generalize n.checks.map (fun x : NetOut => x.name) = checks at *
  generalize n.clocks = clocks at *
  cases hA : namesB (ins ++ clocks)
  · go_enter Tryd.func51, Tryd.ntmps51
    go_wp2_with fail
    refine (unhide C0 _ (bal (brf w) _)).mono ?_
    rintro e W1 ⟨⟨x1, rfl, ho⟩, hb1⟩
    have HO := hide ho
    have HX1 : Hid (Bx w _ _ _ _ _ _ W1) := hide hb1
    clear hb1 ho
    obtain ⟨q0, q1, q2, q3, q4, q5⟩ := (unhide HX1).cells
    go_wp2_with (first | (at_builtin; refine wpAppS rfl _ _ rfl _ _ _ rfl (unhide HO) _ _ rfl (unhide H1 _ (unhide HX1).below) (by omega) (by have := Below.size (unhide HX1); exact this) ?_; intro x2 W2 ho2 hg2))
    have HX2 : Hid (Bx w _ _ _ _ _ _ W2) := hide (below_grown (unhide HX1) hg2 (Below.size (unhide HX1)) (own_row (unhide HO).1))
    have HO2 := hide ho2
    clear ho2 hg2 q0 q1 q2 q3 q4 q5
    obtain ⟨q0, q1, q2, q3, q4, q5⟩ := (unhide HX2).cells
    go_wp2_with fail
    refine (iNamesFit _ _ _ (by rw [List.length_append]; omega) ((unhide HO2).any (by rw [List.length_append]; omega))).mono ?_
    rintro e W3 ⟨rfl, hb3⟩
    have HX3 := hide ((unhide HX2).then hb3)
    clear hb3 q0 q1 q2 q3 q4 q5
    obtain ⟨q0, q1, q2, q3, q4, q5⟩ := (unhide HX3).cells
    rw [hA]
    go_wp2
    go_ret
    exact ⟨rfl, (unhide HX3).below⟩
  cases hB : namesB regs
  · go_enter Tryd.func51, Tryd.ntmps51
    go_wp2_with fail
    refine (unhide C0 _ (bal (brf w) _)).mono ?_
    rintro e W1 ⟨⟨x1, rfl, ho⟩, hb1⟩
    have HO := hide ho
    have HX1 : Hid (Bx w _ _ _ _ _ _ W1) := hide hb1
    clear hb1 ho
    obtain ⟨q0, q1, q2, q3, q4, q5⟩ := (unhide HX1).cells
    go_wp2_with (first | (at_builtin; refine wpAppS rfl _ _ rfl _ _ _ rfl (unhide HO) _ _ rfl (unhide H1 _ (unhide HX1).below) (by omega) (by have := Below.size (unhide HX1); exact this) ?_; intro x2 W2 ho2 hg2))
    have HX2 : Hid (Bx w _ _ _ _ _ _ W2) := hide (below_grown (unhide HX1) hg2 (Below.size (unhide HX1)) (own_row (unhide HO).1))
    have HO2 := hide ho2
    clear ho2 hg2 q0 q1 q2 q3 q4 q5
    obtain ⟨q0, q1, q2, q3, q4, q5⟩ := (unhide HX2).cells
    go_wp2_with fail
    refine (iNamesFit _ _ _ (by rw [List.length_append]; omega) ((unhide HO2).any (by rw [List.length_append]; omega))).mono ?_
    rintro e W3 ⟨rfl, hb3⟩
    have HX3 := hide ((unhide HX2).then hb3)
    clear hb3 q0 q1 q2 q3 q4 q5
    obtain ⟨q0, q1, q2, q3, q4, q5⟩ := (unhide HX3).cells
    rw [hA]
    go_wp2_with fail
    refine (unhide C3 _ (unhide HX3).below).mono ?_
    rintro e W4 ⟨⟨y4, rfl, ho⟩, hb⟩
    have HX4 := hide ((unhide HX3).then hb)
    have HO4 := hide ho
    clear hb ho q0 q1 q2 q3 q4 q5
    obtain ⟨q0, q1, q2, q3, q4, q5⟩ := (unhide HX4).cells
    go_wp2_with fail
    refine (iNamesFit _ _ _ (by omega) ((unhide HO4).any (by omega))).mono ?_
    rintro e W5 ⟨rfl, hb⟩
    have HX5 := hide ((unhide HX4).then hb)
    clear hb q0 q1 q2 q3 q4 q5
    obtain ⟨q0, q1, q2, q3, q4, q5⟩ := (unhide HX5).cells
    rw [hB]
    go_wp2
    go_ret
    exact ⟨rfl, (unhide HX5).below⟩
  cases hC : namesB outs
  · go_enter Tryd.func51, Tryd.ntmps51
    go_wp2_with fail
    refine (unhide C0 _ (bal (brf w) _)).mono ?_
    rintro e W1 ⟨⟨x1, rfl, ho⟩, hb1⟩
    have HO := hide ho
    have HX1 : Hid (Bx w _ _ _ _ _ _ W1) := hide hb1
    clear hb1 ho
    obtain ⟨q0, q1, q2, q3, q4, q5⟩ := (unhide HX1).cells
    go_wp2_with (first | (at_builtin; refine wpAppS rfl _ _ rfl _ _ _ rfl (unhide HO) _ _ rfl (unhide H1 _ (unhide HX1).below) (by omega) (by have := Below.size (unhide HX1); exact this) ?_; intro x2 W2 ho2 hg2))
    have HX2 : Hid (Bx w _ _ _ _ _ _ W2) := hide (below_grown (unhide HX1) hg2 (Below.size (unhide HX1)) (own_row (unhide HO).1))
    have HO2 := hide ho2
    clear ho2 hg2 q0 q1 q2 q3 q4 q5
    obtain ⟨q0, q1, q2, q3, q4, q5⟩ := (unhide HX2).cells
    go_wp2_with fail
    refine (iNamesFit _ _ _ (by rw [List.length_append]; omega) ((unhide HO2).any (by rw [List.length_append]; omega))).mono ?_
    rintro e W3 ⟨rfl, hb3⟩
    have HX3 := hide ((unhide HX2).then hb3)
    clear hb3 q0 q1 q2 q3 q4 q5
    obtain ⟨q0, q1, q2, q3, q4, q5⟩ := (unhide HX3).cells
    rw [hA]
    go_wp2_with fail
    refine (unhide C3 _ (unhide HX3).below).mono ?_
    rintro e W4 ⟨⟨y4, rfl, ho⟩, hb⟩
    have HX4 := hide ((unhide HX3).then hb)
    have HO4 := hide ho
    clear hb ho q0 q1 q2 q3 q4 q5
    obtain ⟨q0, q1, q2, q3, q4, q5⟩ := (unhide HX4).cells
    go_wp2_with fail
    refine (iNamesFit _ _ _ (by omega) ((unhide HO4).any (by omega))).mono ?_
    rintro e W5 ⟨rfl, hb⟩
    have HX5 := hide ((unhide HX4).then hb)
    clear hb q0 q1 q2 q3 q4 q5
    obtain ⟨q0, q1, q2, q3, q4, q5⟩ := (unhide HX5).cells
    rw [hB]
    go_wp2_with fail
    refine (unhide C4 _ (unhide HX5).below).mono ?_
    rintro e W6 ⟨⟨y6, rfl, ho⟩, hb⟩
    have HX6 := hide ((unhide HX5).then hb)
    have HO6 := hide ho
    clear hb ho q0 q1 q2 q3 q4 q5
    obtain ⟨q0, q1, q2, q3, q4, q5⟩ := (unhide HX6).cells
    go_wp2_with fail
    refine (iNamesFit _ _ _ (by omega) ((unhide HO6).any (by omega))).mono ?_
    rintro e W7 ⟨rfl, hb⟩
    have HX7 := hide ((unhide HX6).then hb)
    clear hb q0 q1 q2 q3 q4 q5
    obtain ⟨q0, q1, q2, q3, q4, q5⟩ := (unhide HX7).cells
    rw [hC]
    go_wp2
    go_ret
    exact ⟨rfl, (unhide HX7).below⟩
  cases hD : namesB checks
  all_goals
    go_enter Tryd.func51, Tryd.ntmps51
    go_wp2_with fail
    refine (unhide C0 _ (bal (brf w) _)).mono ?_
    rintro e W1 ⟨⟨x1, rfl, ho⟩, hb1⟩
    have HO := hide ho
    have HX1 : Hid (Bx w _ _ _ _ _ _ W1) := hide hb1
    clear hb1 ho
    obtain ⟨q0, q1, q2, q3, q4, q5⟩ := (unhide HX1).cells
    go_wp2_with (first | (at_builtin; refine wpAppS rfl _ _ rfl _ _ _ rfl (unhide HO) _ _ rfl (unhide H1 _ (unhide HX1).below) (by omega) (by have := Below.size (unhide HX1); exact this) ?_; intro x2 W2 ho2 hg2))
    have HX2 : Hid (Bx w _ _ _ _ _ _ W2) := hide (below_grown (unhide HX1) hg2 (Below.size (unhide HX1)) (own_row (unhide HO).1))
    have HO2 := hide ho2
    clear ho2 hg2 q0 q1 q2 q3 q4 q5
    obtain ⟨q0, q1, q2, q3, q4, q5⟩ := (unhide HX2).cells
    go_wp2_with fail
    refine (iNamesFit _ _ _ (by rw [List.length_append]; omega) ((unhide HO2).any (by rw [List.length_append]; omega))).mono ?_
    rintro e W3 ⟨rfl, hb3⟩
    have HX3 := hide ((unhide HX2).then hb3)
    clear hb3 q0 q1 q2 q3 q4 q5
    obtain ⟨q0, q1, q2, q3, q4, q5⟩ := (unhide HX3).cells
    rw [hA]
    go_wp2_with fail
    refine (unhide C3 _ (unhide HX3).below).mono ?_
    rintro e W4 ⟨⟨y4, rfl, ho⟩, hb⟩
    have HX4 := hide ((unhide HX3).then hb)
    have HO4 := hide ho
    clear hb ho q0 q1 q2 q3 q4 q5
    obtain ⟨q0, q1, q2, q3, q4, q5⟩ := (unhide HX4).cells
    go_wp2_with fail
    refine (iNamesFit _ _ _ (by omega) ((unhide HO4).any (by omega))).mono ?_
    rintro e W5 ⟨rfl, hb⟩
    have HX5 := hide ((unhide HX4).then hb)
    clear hb q0 q1 q2 q3 q4 q5
    obtain ⟨q0, q1, q2, q3, q4, q5⟩ := (unhide HX5).cells
    rw [hB]
    go_wp2_with fail
    refine (unhide C4 _ (unhide HX5).below).mono ?_
    rintro e W6 ⟨⟨y6, rfl, ho⟩, hb⟩
    have HX6 := hide ((unhide HX5).then hb)
    have HO6 := hide ho
    clear hb ho q0 q1 q2 q3 q4 q5
    obtain ⟨q0, q1, q2, q3, q4, q5⟩ := (unhide HX6).cells
    go_wp2_with fail
    refine (iNamesFit _ _ _ (by omega) ((unhide HO6).any (by omega))).mono ?_
    rintro e W7 ⟨rfl, hb⟩
    have HX7 := hide ((unhide HX6).then hb)
    clear hb q0 q1 q2 q3 q4 q5
    obtain ⟨q0, q1, q2, q3, q4, q5⟩ := (unhide HX7).cells
    rw [hC]
    go_wp2_with fail
    refine (unhide C5 _ (unhide HX7).below).mono ?_
    rintro e W8 ⟨⟨y8, rfl, ho⟩, hb⟩
    have HX8 := hide ((unhide HX7).then hb)
    have HO8 := hide ho
    clear hb ho q0 q1 q2 q3 q4 q5
    obtain ⟨q0, q1, q2, q3, q4, q5⟩ := (unhide HX8).cells
    go_wp2_with fail
    refine (iNamesFit _ _ _ (by omega) ((unhide HO8).any (by omega))).mono ?_
    rintro e W9 ⟨rfl, hb⟩
    have HX9 := hide ((unhide HX8).then hb)
    clear hb q0 q1 q2 q3 q4 q5
    obtain ⟨q0, q1, q2, q3, q4, q5⟩ := (unhide HX9).cells
    rw [hD]
    go_wp2
    go_ret
    exact ⟨rfl, (unhide HX9).below⟩
end Go.Proofs.YtkmpjoiefcjbnaaDoor
