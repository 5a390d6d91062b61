/- namesFit of a netlist: the walk. -/
import Derived.Test.YtkceiabgpcakkaaNF2
namespace Go.Proofs.Ytkceiabgpcakkaa
open Go.RowKit Gs
set_option linter.unusedVariables false
set_option maxRecDepth 100000
/-- A world behind one that boxed a netlist. -/
def Bx (w : World) (v0 v1 v2 v3 v4 v5 : Value) (W : World) : Prop := Below (w.alloc (.cells #[v0, v1, v2, v3, v4, v5] 36)).heap.size (w.alloc (.cells #[v0, v1, v2, v3, v4, v5] 36)) W
theorem Bx.cells {w W : World} {v0 v1 v2 v3 v4 v5 : Value} (h : Bx w v0 v1 v2 v3 v4 v5 W) : W.cell? ⟨w.heap.size, 0, none⟩ = some v0 ∧ W.cell? ⟨w.heap.size, 1, none⟩ = some v1 ∧ W.cell? ⟨w.heap.size, 2, none⟩ = some v2 ∧ W.cell? ⟨w.heap.size, 3, none⟩ = some v3 ∧ W.cell? ⟨w.heap.size, 4, none⟩ = some v4 ∧ W.cell? ⟨w.heap.size, 5, none⟩ = some v5 :=
  ⟨cell_later h (by go_simp), cell_later h (by go_simp), cell_later h (by go_simp), cell_later h (by go_simp), cell_later h (by go_simp), cell_later h (by go_simp)⟩
theorem Bx.below {w W : World} {v0 v1 v2 v3 v4 v5 : Value} (h : Bx w v0 v1 v2 v3 v4 v5 W) : Below w.heap.size w W := btr (bal (brf w) _) h
theorem Bx.then {w W V : World} {v0 v1 v2 v3 v4 v5 : Value} (h : Bx w v0 v1 v2 v3 v4 v5 W) (hb : Below W.heap.size W V) : Bx w v0 v1 v2 v3 v4 v5 V := btr h hb
theorem Bx.refl (w : World) (v0 v1 v2 v3 v4 v5 : Value) : Bx w v0 v1 v2 v3 v4 v5 (w.alloc (.cells #[v0, v1, v2, v3, v4, v5] 36)) := brf _
theorem Bx.size {w W : World} {v0 v1 v2 v3 v4 v5 : Value} (h : Bx w v0 v1 v2 v3 v4 v5 W) : w.heap.size < W.heap.size := by
  have := Below.size h
  have e : (w.alloc (.cells #[v0, v1, v2, v3, v4, v5] 36)).heap.size = w.heap.size + 1 := by go_simp
  omega
set_option maxHeartbeats 8000000 in
theorem iNetNames (n : Net) (v0 v1 v2 v3 v4 v5 : Value) (w : World) (h0 : RS 2 RNetPort w 0 n.ins v0) (h1 : RS 1 RStr w 0 n.clocks v1) (h3 : RS 5 RNetReg w 0 n.regs v3) (h4 : RS 2 RNetOut w 0 n.outs v4) (h5 : RS 2 RNetOut w 0 n.checks v5)
    (l0 : n.ins.length ≤ 4096) (l1 : n.clocks.length ≤ 4096) (l3 : n.regs.length ≤ 4096) (l4 : n.outs.length ≤ 4096) (l5 : n.checks.length ≤ 4096) :
    Calls Try.prog 25 #[.agg #[v0, v1, v2, v3, v4, v5]] w fun e w' => e = .returned (.bool (netNames n)) ∧ Below w.heap.size w w' := by
  have C0 := hide (fun W (h : Below w.heap.size w W) => iListNetPort n.ins v0 W (by omega) (h0.later RNetPort.keeps h))
  have C3 := hide (fun W (h : Below w.heap.size w W) => iRegNames n.regs v3 W (by omega) (h3.later RNetReg.keeps h))
  have C4 := hide (fun W (h : Below w.heap.size w W) => iListNetOut n.outs v4 W (by omega) (h4.later RNetOut.keeps h))
  have C5 := hide (fun W (h : Below w.heap.size w W) => iListNetOut n.checks v5 W (by omega) (h5.later RNetOut.keeps h))
  have H1 := hide (fun W (h : Below w.heap.size w W) => h1.later RStr.keeps h)
  have N0 : (n.ins.map (fun x : NetPort => x.name)).length ≤ 4096 := by rw [List.length_map]; exact l0
  have N3 : (n.regs.map (fun x : NetReg => x.name)).length ≤ 4096 := by rw [List.length_map]; exact l3
  have N4 : (n.outs.map (fun x : NetOut => x.name)).length ≤ 4096 := by rw [List.length_map]; exact l4
  have N5 : (n.checks.map (fun x : NetOut => x.name)).length ≤ 4096 := by rw [List.length_map]; exact l5
  have E : netNames n = (namesB (n.ins.map (·.name) ++ n.clocks) && namesB (n.regs.map (·.name)) && namesB (n.outs.map (·.name)) && namesB (n.checks.map (·.name))) := rfl
  rw [E]
  clear E l0 l3 l4 l5
  obtain ⟨a1, c1, e1⟩ := h1.slice
  obtain ⟨a0, c0, e0⟩ := h0.slice
  obtain ⟨a3, c3, e3⟩ := h3.slice
  obtain ⟨a4, c4, e4⟩ := h4.slice
  obtain ⟨a5, c5, e5⟩ := h5.slice
  subst e0 e1 e3 e4 e5
  clear h0 h1 h3 h4 h5
  generalize n.ins.length = L0 at *
  generalize n.regs.length = L3 at *
  generalize n.outs.length = L4 at *
  generalize n.checks.length = L5 at *
  generalize n.ins.map (fun x : NetPort => x.name) = ins at *
  generalize n.regs.map (fun x : NetReg => x.name) = regs at *
  generalize n.outs.map (fun x : NetOut => x.name) = outs at *
  generalize n.checks.map (fun x : NetOut => x.name) = checks at *
  generalize n.clocks = clocks at *
  cases hA : namesB (ins ++ clocks)
  · go_enter Try.func25, Try.ntmps25
    go_wp2_with fail
    refine (unhide C0 _ (bal (brf w) _)).mono ?_
    rintro e W1 ⟨⟨x1, rfl, ho⟩, hb1⟩
    have HO := hide ho
    have HX1 : Hid (Bx w _ _ _ _ _ _ W1) := hide hb1
    clear hb1 ho
    obtain ⟨q0, q1, q2, q3, q4, q5⟩ := (unhide HX1).cells
    go_wp2_with (first | (at_builtin; refine wpAppS rfl _ _ rfl _ _ _ rfl (unhide HO) _ _ rfl (unhide H1 _ (unhide HX1).below) (by omega) (by have := Below.size (unhide HX1); exact this) ?_; intro x2 W2 ho2 hg2))
    have HX2 : Hid (Bx w _ _ _ _ _ _ W2) := hide (below_grown (unhide HX1) hg2 (Below.size (unhide HX1)) (own_row (unhide HO).1))
    have HO2 := hide ho2
    clear ho2 hg2 q0 q1 q2 q3 q4 q5
    obtain ⟨q0, q1, q2, q3, q4, q5⟩ := (unhide HX2).cells
    go_wp2_with fail
    refine (iNamesFit _ _ _ (by rw [List.length_append]; omega) ((unhide HO2).any (by rw [List.length_append]; omega))).mono ?_
    rintro e W3 ⟨rfl, hb3⟩
    have HX3 := hide ((unhide HX2).then hb3)
    clear hb3 q0 q1 q2 q3 q4 q5
    obtain ⟨q0, q1, q2, q3, q4, q5⟩ := (unhide HX3).cells
    rw [hA]
    go_wp2
    go_ret
    exact ⟨rfl, (unhide HX3).below⟩
  cases hB : namesB regs
  · go_enter Try.func25, Try.ntmps25
    go_wp2_with fail
    refine (unhide C0 _ (bal (brf w) _)).mono ?_
    rintro e W1 ⟨⟨x1, rfl, ho⟩, hb1⟩
    have HO := hide ho
    have HX1 : Hid (Bx w _ _ _ _ _ _ W1) := hide hb1
    clear hb1 ho
    obtain ⟨q0, q1, q2, q3, q4, q5⟩ := (unhide HX1).cells
    go_wp2_with (first | (at_builtin; refine wpAppS rfl _ _ rfl _ _ _ rfl (unhide HO) _ _ rfl (unhide H1 _ (unhide HX1).below) (by omega) (by have := Below.size (unhide HX1); exact this) ?_; intro x2 W2 ho2 hg2))
    have HX2 : Hid (Bx w _ _ _ _ _ _ W2) := hide (below_grown (unhide HX1) hg2 (Below.size (unhide HX1)) (own_row (unhide HO).1))
    have HO2 := hide ho2
    clear ho2 hg2 q0 q1 q2 q3 q4 q5
    obtain ⟨q0, q1, q2, q3, q4, q5⟩ := (unhide HX2).cells
    go_wp2_with fail
    refine (iNamesFit _ _ _ (by rw [List.length_append]; omega) ((unhide HO2).any (by rw [List.length_append]; omega))).mono ?_
    rintro e W3 ⟨rfl, hb3⟩
    have HX3 := hide ((unhide HX2).then hb3)
    clear hb3 q0 q1 q2 q3 q4 q5
    obtain ⟨q0, q1, q2, q3, q4, q5⟩ := (unhide HX3).cells
    rw [hA]
    go_wp2_with fail
    refine (unhide C3 _ (unhide HX3).below).mono ?_
    rintro e W4 ⟨⟨y4, rfl, ho⟩, hb⟩
    have HX4 := hide ((unhide HX3).then hb)
    have HO4 := hide ho
    clear hb ho q0 q1 q2 q3 q4 q5
    obtain ⟨q0, q1, q2, q3, q4, q5⟩ := (unhide HX4).cells
    go_wp2_with fail
    refine (iNamesFit _ _ _ (by omega) ((unhide HO4).any (by omega))).mono ?_
    rintro e W5 ⟨rfl, hb⟩
    have HX5 := hide ((unhide HX4).then hb)
    clear hb q0 q1 q2 q3 q4 q5
    obtain ⟨q0, q1, q2, q3, q4, q5⟩ := (unhide HX5).cells
    rw [hB]
    go_wp2
    go_ret
    exact ⟨rfl, (unhide HX5).below⟩
  cases hC : namesB outs
  · go_enter Try.func25, Try.ntmps25
    go_wp2_with fail
    refine (unhide C0 _ (bal (brf w) _)).mono ?_
    rintro e W1 ⟨⟨x1, rfl, ho⟩, hb1⟩
    have HO := hide ho
    have HX1 : Hid (Bx w _ _ _ _ _ _ W1) := hide hb1
    clear hb1 ho
    obtain ⟨q0, q1, q2, q3, q4, q5⟩ := (unhide HX1).cells
    go_wp2_with (first | (at_builtin; refine wpAppS rfl _ _ rfl _ _ _ rfl (unhide HO) _ _ rfl (unhide H1 _ (unhide HX1).below) (by omega) (by have := Below.size (unhide HX1); exact this) ?_; intro x2 W2 ho2 hg2))
    have HX2 : Hid (Bx w _ _ _ _ _ _ W2) := hide (below_grown (unhide HX1) hg2 (Below.size (unhide HX1)) (own_row (unhide HO).1))
    have HO2 := hide ho2
    clear ho2 hg2 q0 q1 q2 q3 q4 q5
    obtain ⟨q0, q1, q2, q3, q4, q5⟩ := (unhide HX2).cells
    go_wp2_with fail
    refine (iNamesFit _ _ _ (by rw [List.length_append]; omega) ((unhide HO2).any (by rw [List.length_append]; omega))).mono ?_
    rintro e W3 ⟨rfl, hb3⟩
    have HX3 := hide ((unhide HX2).then hb3)
    clear hb3 q0 q1 q2 q3 q4 q5
    obtain ⟨q0, q1, q2, q3, q4, q5⟩ := (unhide HX3).cells
    rw [hA]
    go_wp2_with fail
    refine (unhide C3 _ (unhide HX3).below).mono ?_
    rintro e W4 ⟨⟨y4, rfl, ho⟩, hb⟩
    have HX4 := hide ((unhide HX3).then hb)
    have HO4 := hide ho
    clear hb ho q0 q1 q2 q3 q4 q5
    obtain ⟨q0, q1, q2, q3, q4, q5⟩ := (unhide HX4).cells
    go_wp2_with fail
    refine (iNamesFit _ _ _ (by omega) ((unhide HO4).any (by omega))).mono ?_
    rintro e W5 ⟨rfl, hb⟩
    have HX5 := hide ((unhide HX4).then hb)
    clear hb q0 q1 q2 q3 q4 q5
    obtain ⟨q0, q1, q2, q3, q4, q5⟩ := (unhide HX5).cells
    rw [hB]
    go_wp2_with fail
    refine (unhide C4 _ (unhide HX5).below).mono ?_
    rintro e W6 ⟨⟨y6, rfl, ho⟩, hb⟩
    have HX6 := hide ((unhide HX5).then hb)
    have HO6 := hide ho
    clear hb ho q0 q1 q2 q3 q4 q5
    obtain ⟨q0, q1, q2, q3, q4, q5⟩ := (unhide HX6).cells
    go_wp2_with fail
    refine (iNamesFit _ _ _ (by omega) ((unhide HO6).any (by omega))).mono ?_
    rintro e W7 ⟨rfl, hb⟩
    have HX7 := hide ((unhide HX6).then hb)
    clear hb q0 q1 q2 q3 q4 q5
    obtain ⟨q0, q1, q2, q3, q4, q5⟩ := (unhide HX7).cells
    rw [hC]
    go_wp2
    go_ret
    exact ⟨rfl, (unhide HX7).below⟩
  cases hD : namesB checks
  all_goals
    go_enter Try.func25, Try.ntmps25
    go_wp2_with fail
    refine (unhide C0 _ (bal (brf w) _)).mono ?_
    rintro e W1 ⟨⟨x1, rfl, ho⟩, hb1⟩
    have HO := hide ho
    have HX1 : Hid (Bx w _ _ _ _ _ _ W1) := hide hb1
    clear hb1 ho
    obtain ⟨q0, q1, q2, q3, q4, q5⟩ := (unhide HX1).cells
    go_wp2_with (first | (at_builtin; refine wpAppS rfl _ _ rfl _ _ _ rfl (unhide HO) _ _ rfl (unhide H1 _ (unhide HX1).below) (by omega) (by have := Below.size (unhide HX1); exact this) ?_; intro x2 W2 ho2 hg2))
    have HX2 : Hid (Bx w _ _ _ _ _ _ W2) := hide (below_grown (unhide HX1) hg2 (Below.size (unhide HX1)) (own_row (unhide HO).1))
    have HO2 := hide ho2
    clear ho2 hg2 q0 q1 q2 q3 q4 q5
    obtain ⟨q0, q1, q2, q3, q4, q5⟩ := (unhide HX2).cells
    go_wp2_with fail
    refine (iNamesFit _ _ _ (by rw [List.length_append]; omega) ((unhide HO2).any (by rw [List.length_append]; omega))).mono ?_
    rintro e W3 ⟨rfl, hb3⟩
    have HX3 := hide ((unhide HX2).then hb3)
    clear hb3 q0 q1 q2 q3 q4 q5
    obtain ⟨q0, q1, q2, q3, q4, q5⟩ := (unhide HX3).cells
    rw [hA]
    go_wp2_with fail
    refine (unhide C3 _ (unhide HX3).below).mono ?_
    rintro e W4 ⟨⟨y4, rfl, ho⟩, hb⟩
    have HX4 := hide ((unhide HX3).then hb)
    have HO4 := hide ho
    clear hb ho q0 q1 q2 q3 q4 q5
    obtain ⟨q0, q1, q2, q3, q4, q5⟩ := (unhide HX4).cells
    go_wp2_with fail
    refine (iNamesFit _ _ _ (by omega) ((unhide HO4).any (by omega))).mono ?_
    rintro e W5 ⟨rfl, hb⟩
    have HX5 := hide ((unhide HX4).then hb)
    clear hb q0 q1 q2 q3 q4 q5
    obtain ⟨q0, q1, q2, q3, q4, q5⟩ := (unhide HX5).cells
    rw [hB]
    go_wp2_with fail
    refine (unhide C4 _ (unhide HX5).below).mono ?_
    rintro e W6 ⟨⟨y6, rfl, ho⟩, hb⟩
    have HX6 := hide ((unhide HX5).then hb)
    have HO6 := hide ho
    clear hb ho q0 q1 q2 q3 q4 q5
    obtain ⟨q0, q1, q2, q3, q4, q5⟩ := (unhide HX6).cells
    go_wp2_with fail
    refine (iNamesFit _ _ _ (by omega) ((unhide HO6).any (by omega))).mono ?_
    rintro e W7 ⟨rfl, hb⟩
    have HX7 := hide ((unhide HX6).then hb)
    clear hb q0 q1 q2 q3 q4 q5
    obtain ⟨q0, q1, q2, q3, q4, q5⟩ := (unhide HX7).cells
    rw [hC]
    go_wp2_with fail
    refine (unhide C5 _ (unhide HX7).below).mono ?_
    rintro e W8 ⟨⟨y8, rfl, ho⟩, hb⟩
    have HX8 := hide ((unhide HX7).then hb)
    have HO8 := hide ho
    clear hb ho q0 q1 q2 q3 q4 q5
    obtain ⟨q0, q1, q2, q3, q4, q5⟩ := (unhide HX8).cells
    go_wp2_with fail
    refine (iNamesFit _ _ _ (by omega) ((unhide HO8).any (by omega))).mono ?_
    rintro e W9 ⟨rfl, hb⟩
    have HX9 := hide ((unhide HX8).then hb)
    clear hb q0 q1 q2 q3 q4 q5
    obtain ⟨q0, q1, q2, q3, q4, q5⟩ := (unhide HX9).cells
    rw [hD]
    go_wp2
    go_ret
    exact ⟨rfl, (unhide HX9).below⟩
end Go.Proofs.Ytkceiabgpcakkaa
