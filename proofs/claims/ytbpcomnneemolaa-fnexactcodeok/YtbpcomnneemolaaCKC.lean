/- instrFits of a look: an input, a register. -/
import Derived.Test.YtbpcomnneemolaaCK9
namespace Go.Proofs.Ytbpcomnneemolaa
open Go.RowKit Gs
set_option linter.unusedVariables false
set_option maxRecDepth 100000
theorem belowS11 {W V : World} {a0 a1 a2 a3 a4 a5 a6 a7 a8 a9 a10 : Addr} {x0 x1 x2 x3 x4 x5 x6 x7 x8 x9 x10 : Value} (h : V.cell? a0 = some x0 ∧ V.cell? a1 = some x1 ∧ V.cell? a2 = some x2 ∧ V.cell? a3 = some x3 ∧ V.cell? a4 = some x4 ∧ V.cell? a5 = some x5 ∧ V.cell? a6 = some x6 ∧ V.cell? a7 = some x7 ∧ V.cell? a8 = some x8 ∧ V.cell? a9 = some x9 ∧ V.cell? a10 = some x10 ∧ Below W.heap.size W V) : Below W.heap.size W V := h.2.2.2.2.2.2.2.2.2.2.2
theorem S11 {W V V1 : World} {a0 a1 a2 a3 a4 a5 a6 a7 a8 a9 a10 : Addr} {x0 x1 x2 x3 x4 x5 x6 x7 x8 x9 x10 : Value} (h : V.cell? a0 = some x0 ∧ V.cell? a1 = some x1 ∧ V.cell? a2 = some x2 ∧ V.cell? a3 = some x3 ∧ V.cell? a4 = some x4 ∧ V.cell? a5 = some x5 ∧ V.cell? a6 = some x6 ∧ V.cell? a7 = some x7 ∧ V.cell? a8 = some x8 ∧ V.cell? a9 = some x9 ∧ V.cell? a10 = some x10 ∧ Below W.heap.size W V) (hb : Below V.heap.size V V1) : V1.cell? a0 = some x0 ∧ V1.cell? a1 = some x1 ∧ V1.cell? a2 = some x2 ∧ V1.cell? a3 = some x3 ∧ V1.cell? a4 = some x4 ∧ V1.cell? a5 = some x5 ∧ V1.cell? a6 = some x6 ∧ V1.cell? a7 = some x7 ∧ V1.cell? a8 = some x8 ∧ V1.cell? a9 = some x9 ∧ V1.cell? a10 = some x10 ∧ Below W.heap.size W V1 := by
  obtain ⟨h0, h1, h2, h3, h4, h5, h6, h7, h8, h9, h10, h11⟩ := h
  exact ⟨cell_later hb h0, cell_later hb h1, cell_later hb h2, cell_later hb h3, cell_later hb h4, cell_later hb h5, cell_later hb h6, cell_later hb h7, cell_later hb h8, cell_later hb h9, cell_later hb h10, btr h11 hb⟩
set_option maxHeartbeats 16000000 in
theorem iInstrIn_no (W : World) (b : Nat) (c : Code) (v1 v2 v4 v5 v6 v7 v8 : Value) (wb : Nat) (ws : List Int) (h : Lk W b c v1 v2 v4 v5 v6 v7 v8 wb ws) (h2 : RS 1 RInt W 0 c.ins v2) (x : Instr) (hop : x.op = 33) (hd : 0 ≤ x.dst ∧ x.dst < (ws.length : Int)) (hr : readB ws (tkN x) [x.a, x.b, x.c] = true) (hn : ¬ (0 ≤ x.n ∧ x.n < (c.ins.length : Int))) :
    Calls Try.prog 43 #[.pointer (some ⟨b, 0, none⟩), .agg (IV x)] W fun e w' => e = .returned (.bool false) ∧ Below W.heap.size W w' := by
  have PT := hide (fun V => iPlaceB x.op 35 true (pl_yes (by rw [hop]; decide)) V)
  have PD := hide (fun V => iPlaceB x.dst c.slots true (pl_yes (by rw [h.len]; exact hd)) V)
  obtain ⟨T, hT, hT3⟩ := takesOf_nat 33
  have hTk : tkN x = T := by unfold tkN; rw [hop]; show (takesOf 33).toNat = T; rw [hT]; rfl
  have KD := hide (fun V (hb : Below W.heap.size W V) => iKids V b c v1 v2 v4 v5 v6 v7 v8 wb ws (h.later hb) x 33 hop (by omega) T hT)
  rw [hTk] at hr
  have h0 := h.c0
  have hbs : b < W.heap.size := World.block_lt_of_cell? W _ h0
  have t2 := h.c2
  have hln := h2.len
  unfold maxLen at hln
  rw [hr] at KD
  have PN := hide (fun V => iPlaceB x.n (c.ins.length : Int) false (pl_no hn) V)
  obtain ⟨sa, sc, e⟩ := h2.slice
  subst e
  clear h hd hTk hr hn h2
  unfold IV at KD ⊢
  rw [hop] at KD PT ⊢
  clear hop
  generalize x.n = z5 at *
  generalize x.dst = z1 at *
  generalize x.a = z2 at *
  generalize x.b = z3 at *
  generalize x.c = z4 at *
  generalize x.width = z6 at *
  generalize x.signed = z7 at *
  generalize x.bits = z8 at *
  go_enter Try.func43, Try.ntmps43
  go_wp2
  go_quiet (first | (go_at_call 33; with_reducible exact Calls.quiet_of_same (unhide PT _)) | (go_at_call 33; with_reducible exact Calls.quiet_of_same (unhide PD _)))
  go_wp2_with fail
  refine (unhide KD _ (bdn (bal (brf W) _))).mono ?_
  rintro e W1 ⟨⟨ka, kl, kc, rfl, _⟩, hb1⟩
  have HX := hide (show Bt 40 W #[.int .i64 33, .int .i64 z1, .int .i64 z2, .int .i64 z3, .int .i64 z4, .int .i64 z5, .int .i64 z6, .bool z7, .string z8] W1 from btr (bdn (brf _)) hb1)
  clear hb1
  obtain ⟨q0, q1, q2, q3, q4, q5, q6, q7, q8⟩ := (unhide HX).get9
  have hbw := (unhide HX).below
  have m2 := cell_later hbw t2
  go_wp2
  go_quiet (first | (go_at_call 33; with_reducible exact Calls.quiet_of_same (unhide PN _)))
  go_wp2
  go_ret
  exact ⟨rfl, bdn hbw⟩
set_option maxHeartbeats 16000000 in
theorem iInstrIn_yes (W : World) (b : Nat) (c : Code) (v1 v2 v4 v5 v6 v7 v8 : Value) (wb : Nat) (ws : List Int) (h : Lk W b c v1 v2 v4 v5 v6 v7 v8 wb ws) (h2 : RS 1 RInt W 0 c.ins v2) (x : Instr) (hop : x.op = 33) (hd : 0 ≤ x.dst ∧ x.dst < (ws.length : Int)) (hr : readB ws (tkN x) [x.a, x.b, x.c] = true) (i : Nat) (p : Int) (hn : x.n = (i : Int)) (hx : c.ins[i]? = some p) :
    Calls Try.prog 43 #[.pointer (some ⟨b, 0, none⟩), .agg (IV x)] W fun e w' => e = .returned (.bool (bareI x p)) ∧ Below W.heap.size W w' := by
  have PT := hide (fun V => iPlaceB x.op 35 true (pl_yes (by rw [hop]; decide)) V)
  have PD := hide (fun V => iPlaceB x.dst c.slots true (pl_yes (by rw [h.len]; exact hd)) V)
  obtain ⟨T, hT, hT3⟩ := takesOf_nat 33
  have hTk : tkN x = T := by unfold tkN; rw [hop]; show (takesOf 33).toNat = T; rw [hT]; rfl
  have KD := hide (fun V (hb : Below W.heap.size W V) => iKids V b c v1 v2 v4 v5 v6 v7 v8 wb ws (h.later hb) x 33 hop (by omega) T hT)
  rw [hTk] at hr
  have h0 := h.c0
  have hbs : b < W.heap.size := World.block_lt_of_cell? W _ h0
  have t2 := h.c2
  have hln := h2.len
  unfold maxLen at hln
  rw [hr] at KD
  have hil : i < c.ins.length := (List.getElem?_eq_some_iff.1 hx).1
  have PN := hide (fun V => iPlaceB (i : Int) (c.ins.length : Int) true (pl_yes ⟨by omega, by omega⟩) V)
  rcases h2.open with ⟨hnil, _⟩ | ⟨bi, oi, ci, rfl, _, _, _, hcs⟩
  · rw [hnil] at hil; simp at hil
  obtain ⟨u, _, hat, hu⟩ := hcs i p hx
  obtain rfl : u = [.int .i64 p] := hu
  have m1 := hat.get (j := 0) rfl
  simp only [Nat.add_zero, Nat.mul_one] at m1
  have hbi : bi < W.heap.size := World.block_lt_of_cell? W _ m1
  have i1 : (0 : Int) ≤ (i : Int) := by omega
  have i2 : (i : Int) < (c.ins.length : Int) := by omega
  have CL := hide (fun V => iInstrCell x V)
  have EB : bareI x p = (decide (x.width = p) && !x.signed && x.bits.toList.isEmpty) := rfl
  rw [EB]
  clear h hd hTk hr h2 hcs hat hx EB
  unfold IV at KD CL ⊢
  rw [hop, hn] at KD CL ⊢
  rw [hop] at PT
  clear hop hn
  generalize x.dst = z1 at *
  generalize x.a = z2 at *
  generalize x.b = z3 at *
  generalize x.c = z4 at *
  generalize x.width = z6 at *
  generalize x.signed = z7 at *
  generalize x.bits = z8 at *
  have RN := hide (fun V => iReads 33 z6 i z7 z8 none 0 0 p V (by unfold maxLen; omega))
  go_enter Try.func43, Try.ntmps43
  go_wp2
  go_quiet (first | (go_at_call 33; with_reducible exact Calls.quiet_of_same (unhide PT _)) | (go_at_call 33; with_reducible exact Calls.quiet_of_same (unhide PD _)))
  go_wp2_with fail
  refine (unhide KD _ (bdn (bal (brf W) _))).mono ?_
  rintro e W1 ⟨⟨ka, kl, kc, rfl, _⟩, hb1⟩
  have HX := hide (show Bt 40 W #[.int .i64 33, .int .i64 z1, .int .i64 z2, .int .i64 z3, .int .i64 z4, .int .i64 (i : Int), .int .i64 z6, .bool z7, .string z8] W1 from btr (bdn (brf _)) hb1)
  clear hb1
  obtain ⟨q0, q1, q2, q3, q4, q5, q6, q7, q8⟩ := (unhide HX).get9
  have hbw := (unhide HX).below
  have m2 := cell_later hbw t2
  have m3 := cell_later hbw m1
  go_wp2
  go_region_held3 (fun V => V.cell? ⟨W.heap.size, 0, none⟩ = some (.int .i64 33) ∧ V.cell? ⟨W.heap.size, 1, none⟩ = some (.int .i64 z1) ∧ V.cell? ⟨W.heap.size, 2, none⟩ = some (.int .i64 z2) ∧ V.cell? ⟨W.heap.size, 3, none⟩ = some (.int .i64 z3) ∧ V.cell? ⟨W.heap.size, 4, none⟩ = some (.int .i64 z4) ∧ V.cell? ⟨W.heap.size, 5, none⟩ = some (.int .i64 i) ∧ V.cell? ⟨W.heap.size, 6, none⟩ = some (.int .i64 z6) ∧ V.cell? ⟨W.heap.size, 7, none⟩ = some (.bool z7) ∧ V.cell? ⟨W.heap.size, 8, none⟩ = some (.string z8) ∧ V.cell? ⟨b, 2, none⟩ = some (.slice (some ⟨bi, oi, none⟩) c.ins.length ci) ∧ V.cell? ⟨bi, oi + i, none⟩ = some (.int .i64 p) ∧ Below W.heap.size W V)
    (first | (refine ⟨?_, ?_, ?_, ?_, ?_, ?_, ?_, ?_, ?_, ?_, ?_, ?_⟩ <;> first | (go_simp; done) | (exact m2) | (exact m3) | (exact bdr hbw)) | (exact S11 (by assumption) hb1) | assumption)
    (first | (go_at_call 33; with_reducible refine (unhide PN _).mono ?_; rintro e V1 ⟨rfl, rfl⟩) | (go_at_call 53; refine (unhide CL _).mono ?_; rintro e V1 ⟨rfl, hb1⟩) | (go_at_call 54; refine (unhide RN _).mono ?_; rintro e V1 ⟨rfl, hb1⟩) | fail)
  go_wp2
  go_ret
  exact ⟨rfl, belowS11 (by assumption)⟩
set_option maxHeartbeats 16000000 in
theorem iInstrReg_no (W : World) (b : Nat) (c : Code) (v1 v2 v4 v5 v6 v7 v8 : Value) (wb : Nat) (ws : List Int) (h : Lk W b c v1 v2 v4 v5 v6 v7 v8 wb ws) (h4 : RS 1 RStr W 0 c.inits v4) (x : Instr) (hop : x.op = 34) (hd : 0 ≤ x.dst ∧ x.dst < (ws.length : Int)) (hr : readB ws (tkN x) [x.a, x.b, x.c] = true) (hn : ¬ (0 ≤ x.n ∧ x.n < (c.inits.length : Int))) :
    Calls Try.prog 43 #[.pointer (some ⟨b, 0, none⟩), .agg (IV x)] W fun e w' => e = .returned (.bool false) ∧ Below W.heap.size W w' := by
  have PT := hide (fun V => iPlaceB x.op 35 true (pl_yes (by rw [hop]; decide)) V)
  have PD := hide (fun V => iPlaceB x.dst c.slots true (pl_yes (by rw [h.len]; exact hd)) V)
  obtain ⟨T, hT, hT3⟩ := takesOf_nat 34
  have hTk : tkN x = T := by unfold tkN; rw [hop]; show (takesOf 34).toNat = T; rw [hT]; rfl
  have KD := hide (fun V (hb : Below W.heap.size W V) => iKids V b c v1 v2 v4 v5 v6 v7 v8 wb ws (h.later hb) x 34 hop (by omega) T hT)
  rw [hTk] at hr
  have h0 := h.c0
  have hbs : b < W.heap.size := World.block_lt_of_cell? W _ h0
  have t4 := h.c4
  have hln := h4.len
  unfold maxLen at hln
  rw [hr] at KD
  have PN := hide (fun V => iPlaceB x.n (c.inits.length : Int) false (pl_no hn) V)
  obtain ⟨sa, sc, e⟩ := h4.slice
  subst e
  clear h hd hTk hr hn h4
  unfold IV at KD ⊢
  rw [hop] at KD PT ⊢
  clear hop
  generalize x.n = z5 at *
  generalize x.dst = z1 at *
  generalize x.a = z2 at *
  generalize x.b = z3 at *
  generalize x.c = z4 at *
  generalize x.width = z6 at *
  generalize x.signed = z7 at *
  generalize x.bits = z8 at *
  go_enter Try.func43, Try.ntmps43
  go_wp2
  go_quiet (first | (go_at_call 33; with_reducible exact Calls.quiet_of_same (unhide PT _)) | (go_at_call 33; with_reducible exact Calls.quiet_of_same (unhide PD _)))
  go_wp2_with fail
  refine (unhide KD _ (bdn (bal (brf W) _))).mono ?_
  rintro e W1 ⟨⟨ka, kl, kc, rfl, _⟩, hb1⟩
  have HX := hide (show Bt 40 W #[.int .i64 34, .int .i64 z1, .int .i64 z2, .int .i64 z3, .int .i64 z4, .int .i64 z5, .int .i64 z6, .bool z7, .string z8] W1 from btr (bdn (brf _)) hb1)
  clear hb1
  obtain ⟨q0, q1, q2, q3, q4, q5, q6, q7, q8⟩ := (unhide HX).get9
  have hbw := (unhide HX).below
  have m2 := cell_later hbw t4
  go_wp2
  go_quiet (first | (go_at_call 33; with_reducible exact Calls.quiet_of_same (unhide PN _)))
  go_wp2
  go_ret
  exact ⟨rfl, bdn hbw⟩
set_option maxHeartbeats 16000000 in
theorem iInstrReg_yes (W : World) (b : Nat) (c : Code) (v1 v2 v4 v5 v6 v7 v8 : Value) (wb : Nat) (ws : List Int) (h : Lk W b c v1 v2 v4 v5 v6 v7 v8 wb ws) (h4 : RS 1 RStr W 0 c.inits v4) (x : Instr) (hop : x.op = 34) (hd : 0 ≤ x.dst ∧ x.dst < (ws.length : Int)) (hr : readB ws (tkN x) [x.a, x.b, x.c] = true) (i : Nat) (p : ByteArray) (hn : x.n = (i : Int)) (hx : c.inits[i]? = some p) :
    Calls Try.prog 43 #[.pointer (some ⟨b, 0, none⟩), .agg (IV x)] W fun e w' => e = .returned (.bool (bareI x (p.size : Int))) ∧ Below W.heap.size W w' := by
  have PT := hide (fun V => iPlaceB x.op 35 true (pl_yes (by rw [hop]; decide)) V)
  have PD := hide (fun V => iPlaceB x.dst c.slots true (pl_yes (by rw [h.len]; exact hd)) V)
  obtain ⟨T, hT, hT3⟩ := takesOf_nat 34
  have hTk : tkN x = T := by unfold tkN; rw [hop]; show (takesOf 34).toNat = T; rw [hT]; rfl
  have KD := hide (fun V (hb : Below W.heap.size W V) => iKids V b c v1 v2 v4 v5 v6 v7 v8 wb ws (h.later hb) x 34 hop (by omega) T hT)
  rw [hTk] at hr
  have h0 := h.c0
  have hbs : b < W.heap.size := World.block_lt_of_cell? W _ h0
  have t4 := h.c4
  have hln := h4.len
  unfold maxLen at hln
  rw [hr] at KD
  have hil : i < c.inits.length := (List.getElem?_eq_some_iff.1 hx).1
  have PN := hide (fun V => iPlaceB (i : Int) (c.inits.length : Int) true (pl_yes ⟨by omega, by omega⟩) V)
  rcases h4.open with ⟨hnil, _⟩ | ⟨bi, oi, ci, rfl, _, _, _, hcs⟩
  · rw [hnil] at hil; simp at hil
  obtain ⟨u, _, hat, hu⟩ := hcs i p hx
  obtain ⟨hu1, hts⟩ := hu
  subst hu1
  unfold maxLen at hts
  have m1 := hat.get (j := 0) rfl
  simp only [Nat.add_zero, Nat.mul_one] at m1
  have hbi : bi < W.heap.size := World.block_lt_of_cell? W _ m1
  have i1 : (0 : Int) ≤ (i : Int) := by omega
  have i2 : (i : Int) < (c.inits.length : Int) := by omega
  have CL := hide (fun V => iInstrCell x V)
  have EB : bareI x (p.size : Int) = (decide (x.width = (p.size : Int)) && !x.signed && x.bits.toList.isEmpty) := rfl
  rw [EB]
  clear h hd hTk hr h4 hcs hat hx EB
  unfold IV at KD CL ⊢
  rw [hop, hn] at KD CL ⊢
  rw [hop] at PT
  clear hop hn
  generalize x.dst = z1 at *
  generalize x.a = z2 at *
  generalize x.b = z3 at *
  generalize x.c = z4 at *
  generalize x.width = z6 at *
  generalize x.signed = z7 at *
  generalize x.bits = z8 at *
  have RN := hide (fun V => iReads 34 z6 i z7 z8 none 0 0 (p.size : Int) V (by unfold maxLen; omega))
  go_enter Try.func43, Try.ntmps43
  go_wp2
  go_quiet (first | (go_at_call 33; with_reducible exact Calls.quiet_of_same (unhide PT _)) | (go_at_call 33; with_reducible exact Calls.quiet_of_same (unhide PD _)))
  go_wp2_with fail
  refine (unhide KD _ (bdn (bal (brf W) _))).mono ?_
  rintro e W1 ⟨⟨ka, kl, kc, rfl, _⟩, hb1⟩
  have HX := hide (show Bt 40 W #[.int .i64 34, .int .i64 z1, .int .i64 z2, .int .i64 z3, .int .i64 z4, .int .i64 (i : Int), .int .i64 z6, .bool z7, .string z8] W1 from btr (bdn (brf _)) hb1)
  clear hb1
  obtain ⟨q0, q1, q2, q3, q4, q5, q6, q7, q8⟩ := (unhide HX).get9
  have hbw := (unhide HX).below
  have m2 := cell_later hbw t4
  have m3 := cell_later hbw m1
  go_wp2
  go_region_held3 (fun V => V.cell? ⟨W.heap.size, 0, none⟩ = some (.int .i64 34) ∧ V.cell? ⟨W.heap.size, 1, none⟩ = some (.int .i64 z1) ∧ V.cell? ⟨W.heap.size, 2, none⟩ = some (.int .i64 z2) ∧ V.cell? ⟨W.heap.size, 3, none⟩ = some (.int .i64 z3) ∧ V.cell? ⟨W.heap.size, 4, none⟩ = some (.int .i64 z4) ∧ V.cell? ⟨W.heap.size, 5, none⟩ = some (.int .i64 i) ∧ V.cell? ⟨W.heap.size, 6, none⟩ = some (.int .i64 z6) ∧ V.cell? ⟨W.heap.size, 7, none⟩ = some (.bool z7) ∧ V.cell? ⟨W.heap.size, 8, none⟩ = some (.string z8) ∧ V.cell? ⟨b, 4, none⟩ = some (.slice (some ⟨bi, oi, none⟩) c.inits.length ci) ∧ V.cell? ⟨bi, oi + i, none⟩ = some (.string p) ∧ Below W.heap.size W V)
    (first | (refine ⟨?_, ?_, ?_, ?_, ?_, ?_, ?_, ?_, ?_, ?_, ?_, ?_⟩ <;> first | (go_simp; done) | (exact m2) | (exact m3) | (exact bdr hbw)) | (exact S11 (by assumption) hb1) | assumption)
    (first | (go_at_call 33; with_reducible refine (unhide PN _).mono ?_; rintro e V1 ⟨rfl, rfl⟩) | (go_at_call 53; refine (unhide CL _).mono ?_; rintro e V1 ⟨rfl, hb1⟩) | (go_at_call 54; refine (unhide RN _).mono ?_; rintro e V1 ⟨rfl, hb1⟩) | fail)
  go_wp2
  go_ret
  exact ⟨rfl, belowS11 (by assumption)⟩
end Go.Proofs.Ytbpcomnneemolaa
namespace Go.Proofs.Ytbpcomnneemolaa
open Go.RowKit Gs
set_option linter.unusedVariables false
set_option maxRecDepth 100000
set_option maxHeartbeats 16000000 in
theorem iInstrLike (W : World) (b : Nat) (c : Code) (v1 v2 v4 v5 v6 v7 v8 : Value) (wb : Nat) (ws : List Int) (h : Lk W b c v1 v2 v4 v5 v6 v7 v8 wb ws) (x : Instr) (hxs : x.bits.size ≤ maxLen) (hp0 : 0 ≤ x.op) (hp1 : x.op < 35) (h33 : x.op ≠ 33) (h34 : x.op ≠ 34) (hd : 0 ≤ x.dst ∧ x.dst < (ws.length : Int)) (hr : readB ws (tkN x) [x.a, x.b, x.c] = true) :
    Calls Try.prog 43 #[.pointer (some ⟨b, 0, none⟩), .agg (IV x)] W fun e w' => e = .returned (.bool (likeB x.op x.width x.n x.signed x.bits (kidW ws (tkN x) [x.a, x.b, x.c]))) ∧ Below W.heap.size W w' := by
  have PT := hide (fun V => iPlaceB x.op 35 true (pl_yes ⟨hp0, hp1⟩) V)
  have PD := hide (fun V => iPlaceB x.dst c.slots true (pl_yes (by rw [h.len]; exact hd)) V)
  obtain ⟨j, hj⟩ : ∃ j : Nat, x.op = (j : Int) := ⟨x.op.toNat, by omega⟩
  have hj35 : j < 35 := by omega
  obtain ⟨T, hT, hT3⟩ := takesOf_nat j
  have hTk : tkN x = T := by unfold tkN; rw [hj, Int.toNat_natCast, hT]; rfl
  have KD := hide (fun V (hb : Below W.heap.size W V) => iKids V b c v1 v2 v4 v5 v6 v7 v8 wb ws (h.later hb) x j hj hj35 T hT)
  rw [hTk] at hr ⊢
  rw [hr] at KD
  have h0 := h.c0
  have hbs : b < W.heap.size := World.block_lt_of_cell? W _ h0
  have e33 : (x.op == 33) = false := beq_eq_false_iff_ne.2 h33
  have e34 : (x.op == 34) = false := beq_eq_false_iff_ne.2 h34
  have CL := hide (fun V => iInstrCell x V)
  have LK := hide (fun V v => iLikeCell x.op x.width x.n x.signed x.bits (kidW ws T [x.a, x.b, x.c]) v V hxs)
  have LI := hide (fun V a l c => iLike x.op x.width x.n x.signed x.bits (.slice none 0 0) a l c V)
  clear h hd hp0 hp1 hTk hr hj35 h33 h34 hj
  unfold IV at KD CL ⊢
  generalize kidW ws T [x.a, x.b, x.c] = kw at *
  generalize x.op = z0 at *
  generalize x.dst = z1 at *
  generalize x.a = z2 at *
  generalize x.b = z3 at *
  generalize x.c = z4 at *
  generalize x.n = z5 at *
  generalize x.width = z6 at *
  generalize x.signed = z7 at *
  generalize x.bits = z8 at *
  go_enter Try.func43, Try.ntmps43
  go_wp2
  go_quiet (first | (go_at_call 33; with_reducible exact Calls.quiet_of_same (unhide PT _)) | (go_at_call 33; with_reducible exact Calls.quiet_of_same (unhide PD _)))
  go_wp2_with fail
  refine (unhide KD _ (bdn (bal (brf W) _))).mono ?_
  rintro e W1 ⟨⟨ka, kl, kc, rfl, hkr⟩, hb1⟩
  have HX := hide (show Bt 40 W #[.int .i64 z0, .int .i64 z1, .int .i64 z2, .int .i64 z3, .int .i64 z4, .int .i64 z5, .int .i64 z6, .bool z7, .string z8] W1 from btr (bdn (brf _)) hb1)
  have HKR := hide (hkr trivial)
  clear hb1 hkr
  obtain ⟨q0, q1, q2, q3, q4, q5, q6, q7, q8⟩ := (unhide HX).get9
  go_wp2_with fail
  refine (unhide CL _).mono ?_
  rintro e W2 ⟨rfl, hb2⟩
  go_wp2_with fail
  refine (unhide LI _ _ _ _).mono ?_
  rintro e W3 ⟨rfl, hb3⟩
  have hb13 := btr hb2 hb3
  go_wp2_with fail
  refine (unhide LK _ _ ((unhide HKR).later RKid.keeps hb13)).mono ?_
  rintro e W4 ⟨rfl, hb4⟩
  have HB := hide (btr (unhide HX).below (btr hb13 hb4))
  clear hb2 hb3 hb13 hb4
  go_wp2
  go_ret
  exact ⟨rfl, unhide HB⟩
/-- instrFits. -/
theorem iInstr (W : World) (b : Nat) (c : Code) (v1 v2 v4 v5 v6 v7 v8 : Value) (wb : Nat) (ws : List Int) (h : Lk W b c v1 v2 v4 v5 v6 v7 v8 wb ws) (h2 : RS 1 RInt W 0 c.ins v2) (h4 : RS 1 RStr W 0 c.inits v4) (x : Instr) (hxs : x.bits.size ≤ maxLen) :
    Calls Try.prog 43 #[.pointer (some ⟨b, 0, none⟩), .agg (IV x)] W fun e w' => e = .returned (.bool (instrB c ws x)) ∧ Below W.heap.size W w' := by
  unfold instrB
  by_cases hp : 0 ≤ x.op ∧ x.op < 35
  · rw [if_pos hp]
    by_cases hd : 0 ≤ x.dst ∧ x.dst < (ws.length : Int)
    · rw [if_pos hd]
      by_cases hr : readB ws (tkN x) [x.a, x.b, x.c] = true
      · rw [if_pos hr]
        by_cases h33 : x.op = 33
        · rw [if_pos h33]
          by_cases hn : 0 ≤ x.n ∧ x.n < (c.ins.length : Int)
          · obtain ⟨i, hi⟩ : ∃ i : Nat, x.n = (i : Int) := ⟨x.n.toNat, by omega⟩
            have hil : i < c.ins.length := by omega
            have hx : c.ins[i]? = some c.ins[i] := List.getElem?_eq_getElem hil
            unfold inI
            rw [if_pos hn.1, hi, Int.toNat_natCast, hx]
            exact iInstrIn_yes W b c v1 v2 v4 v5 v6 v7 v8 wb ws h h2 x h33 hd hr i _ hi hx
          · rw [show inI c x = false from by
              unfold inI
              by_cases h0 : 0 ≤ x.n
              · rw [if_pos h0, List.getElem?_eq_none (by omega)]
              · rw [if_neg h0]]
            exact iInstrIn_no W b c v1 v2 v4 v5 v6 v7 v8 wb ws h h2 x h33 hd hr hn
        · rw [if_neg h33]
          by_cases h34 : x.op = 34
          · rw [if_pos h34]
            by_cases hn : 0 ≤ x.n ∧ x.n < (c.inits.length : Int)
            · obtain ⟨i, hi⟩ : ∃ i : Nat, x.n = (i : Int) := ⟨x.n.toNat, by omega⟩
              have hil : i < c.inits.length := by omega
              have hx : c.inits[i]? = some c.inits[i] := List.getElem?_eq_getElem hil
              unfold regI
              rw [if_pos hn.1, hi, Int.toNat_natCast, hx]
              exact iInstrReg_yes W b c v1 v2 v4 v5 v6 v7 v8 wb ws h h4 x h34 hd hr i _ hi hx
            · rw [show regI c x = false from by
                unfold regI
                by_cases h0 : 0 ≤ x.n
                · rw [if_pos h0, List.getElem?_eq_none (by omega)]
                · rw [if_neg h0]]
              exact iInstrReg_no W b c v1 v2 v4 v5 v6 v7 v8 wb ws h h4 x h34 hd hr hn
          · rw [if_neg h34]
            exact iInstrLike W b c v1 v2 v4 v5 v6 v7 v8 wb ws h x hxs hp.1 hp.2 h33 h34 hd hr
      · rw [if_neg hr]
        exact iInstr_no3 W b c v1 v2 v4 v5 v6 v7 v8 wb ws h x hp.1 hp.2 hd (by simpa using hr)
    · rw [if_neg hd]
      exact iInstr_no2 W b c.slots h.c0 x hp (by rw [h.len]; exact hd)
  · rw [if_neg hp]
    exact iInstr_no1 W b x hp
end Go.Proofs.Ytbpcomnneemolaa
namespace Go.Proofs.Ytbpcomnneemolaa
open Go.RowKit Gs
set_option linter.unusedVariables false
set_option maxRecDepth 100000
/-- What the instructions make of the widths; none where one does not fit. -/
def runI (c : Code) : List Instr → List Int → Option (List Int)
  | [], ws => some ws
  | x :: xs, ws => if instrB c ws x = true then runI c xs (ws.set x.dst.toNat x.width) else none
theorem runI_app (c : Code) : ∀ (xs ys : List Instr) (ws : List Int), runI c (xs ++ ys) ws = (runI c xs ws).bind (runI c ys)
  | [], ys, ws => rfl
  | x :: xs, ys, ws => by
    show (if instrB c ws x = true then runI c (xs ++ ys) (ws.set x.dst.toNat x.width) else none) = _
    by_cases h : instrB c ws x = true
    · rw [if_pos h, runI_app c xs ys, runI, if_pos h]
    · rw [if_neg h, runI, if_neg h]; rfl
theorem runI_step {c : Code} {xs : List Instr} {k : Nat} {x : Instr} {ws0 ws : List Int} (hx : xs[k]? = some x) (h : runI c (xs.take k) ws0 = some ws) : runI c (xs.take (k + 1)) ws0 = if instrB c ws x = true then some (ws.set x.dst.toNat x.width) else none := by
  rw [List.take_add_one, hx, runI_app, h]; rfl
theorem runI_no {c : Code} {xs : List Instr} {k : Nat} {ws0 : List Int} (h : runI c (xs.take k) ws0 = none) : runI c xs ws0 = none := by
  have e : xs = xs.take k ++ xs.drop k := (List.take_append_drop k xs).symm
  rw [e, runI_app, h]; rfl
theorem instrB_dst {c : Code} {ws : List Int} {x : Instr} (h : instrB c ws x = true) : 0 ≤ x.dst ∧ x.dst < (ws.length : Int) := by
  unfold instrB at h
  by_cases h1 : 0 ≤ x.op ∧ x.op < 35
  · rw [if_pos h1] at h
    by_cases h2 : 0 ≤ x.dst ∧ x.dst < (ws.length : Int)
    · exact h2
    · rw [if_neg h2] at h; cases h
  · rw [if_neg h1] at h; cases h
theorem Lk.set {W : World} {b wb : Nat} {c : Code} {v1 v2 v4 v5 v6 v7 v8 : Value} {ws : List Int} (h : Lk W b c v1 v2 v4 v5 v6 v7 v8 wb ws) (hne : b ≠ wb) (i : Nat) (hi : i < ws.length) (y : Int) : Lk (W.setCell ⟨wb, i, none⟩ (.int .i64 y)) b c v1 v2 v4 v5 v6 v7 v8 wb (ws.set i y) := by
  have o : ∀ j, (W.setCell ⟨wb, i, none⟩ (.int .i64 y)).cell? ⟨b, j, none⟩ = W.cell? ⟨b, j, none⟩ := fun j => World.cell?_setCell_other (w := W) (a := ⟨wb, i, none⟩) (b := ⟨b, j, none⟩) (v := .int .i64 y) (ne_addr (.inl hne))
  refine ⟨(o _).trans h.c0, (o _).trans h.c1, (o _).trans h.c2, (o _).trans h.c3, (o _).trans h.c4, (o _).trans h.c5, (o _).trans h.c6, (o _).trans h.c7, (o _).trans h.c8, fun j hj => (o _).trans (h.kinds j hj), ?_, fun j x hx => ?_, by rw [List.length_set]; exact h.len, by rw [List.length_set]; exact h.few⟩
  · rw [List.length_set]; exact (o _).trans h.widths
  · rw [List.getElem?_set] at hx
    by_cases e : i = j
    · subst e
      rw [if_pos rfl, if_pos hi] at hx
      cases hx
      have hold := h.at_ i _ (List.getElem?_eq_getElem hi)
      exact World.cell?_setCell_same (w := W) (a := ⟨wb, i, none⟩) (v := .int .i64 y) hold
    · rw [if_neg e] at hx
      rw [World.cell?_setCell_other (w := W) (a := ⟨wb, i, none⟩) (b := ⟨wb, j, none⟩) (v := .int .i64 y) (ne_addr (.inr (fun h => e h.symm)))]
      exact h.at_ j x hx
set_option maxHeartbeats 16000000 in
theorem iInstrs (w W : World) (b : Nat) (c : Code) (v1 v2 v4 v5 v6 v7 v8 : Value) (wb : Nat) (ws0 : List Int) (h : Lk W b c v1 v2 v4 v5 v6 v7 v8 wb ws0) (hw : Below w.heap.size w W) (hb0 : w.heap.size ≤ b) (hwb : w.heap.size ≤ wb) (hne : b ≠ wb) (hfz : ∀ i, i < ws0.length → W.frozen? ⟨wb, i, none⟩ = false) (h1 : RS 9 RInstr w 0 c.instrs v1) (h2 : RS 1 RInt w 0 c.ins v2) (h4 : RS 1 RStr w 0 c.inits v4) :
    Calls Try.prog 23 #[.pointer (some ⟨b, 0, none⟩)] W fun e w' => e = .returned (.bool (runI c c.instrs ws0).isSome) ∧ (∀ ws, runI c c.instrs ws0 = some ws → Lk w' b c v1 v2 v4 v5 v6 v7 v8 wb ws) ∧ Below w.heap.size w w' := by
  have hl1 := h1.len
  unfold maxLen at hl1
  obtain ⟨a1, c1, e1⟩ := h1.slice
  subst e1
  have t1 := h.c1
  have hbs : b < W.heap.size := World.block_lt_of_cell? W _ t1
  have H1 := hide h1
  have H2 := hide h2
  have H4 := hide h4
  have HL := hide h
  have HFZ := hide hfz
  have HWW := hide hw
  have hwW := hw.size
  clear h1 h2 h4 h hfz hw
  go_enter Try.func23, Try.ntmps23
  go_wp2
  go_loopw [11] (fun i wr => ∃ (k : Nat) (ws : List Int), k ≤ c.instrs.length ∧ i = .int .i64 k ∧ runI c (c.instrs.take k) ws0 = some ws ∧ ws.length = ws0.length ∧ Lk wr b c (.slice a1 c.instrs.length c1) v2 v4 v5 v6 v7 v8 wb ws ∧ (∀ i, i < ws0.length → wr.frozen? ⟨wb, i, none⟩ = false) ∧ Below w.heap.size w wr) (fun i _ => c.instrs.length - (intOf i).toNat)
  case atStart => exact ⟨0, ws0, Nat.zero_le _, rfl, rfl, rfl, unhide HL, unhide HFZ, unhide HWW⟩
  case round =>
    clear t1 HL HFZ HWW
    obtain ⟨k, ws, hk, rfl, hrun, hlen, hlk, hfz, hb⟩ := hrel
    by_cases hlt : k < c.instrs.length
    · have hx : c.instrs[k]? = some c.instrs[k] := List.getElem?_eq_getElem hlt
      generalize c.instrs[k] = x at hx
      have hst := runI_step hx hrun
      rcases (unhide H1).open with ⟨hnil, _⟩ | ⟨b1, o1, cc, e, _, _, _, hcs⟩
      · rw [hnil] at hlt; simp at hlt
      obtain ⟨rfl, rfl⟩ : a1 = some ⟨b1, o1, none⟩ ∧ c1 = cc := by
        injection e with e1 e2 e3
        exact ⟨e1, e3⟩
      obtain ⟨u, _, hat, hux, hbits⟩ := hcs k x hx
      subst hux
      have k0 := cell_later hb (hat.get (j := 0) rfl)
      have k1 := cell_later hb (hat.get (j := 1) rfl)
      have k2 := cell_later hb (hat.get (j := 2) rfl)
      have k3 := cell_later hb (hat.get (j := 3) rfl)
      have k4 := cell_later hb (hat.get (j := 4) rfl)
      have k5 := cell_later hb (hat.get (j := 5) rfl)
      have k6 := cell_later hb (hat.get (j := 6) rfl)
      have k7 := cell_later hb (hat.get (j := 7) rfl)
      have k8 := cell_later hb (hat.get (j := 8) rfl)
      simp only [Nat.add_zero] at k0
      have HI := hide (fun V (hb' : Below wr.heap.size wr V) => iInstr V b c (.slice (some ⟨b1, o1, none⟩) c.instrs.length c1) v2 v4 v5 v6 v7 v8 wb ws (hlk.later hb') ((unhide H2).later RInt.keeps (btr hb hb')) ((unhide H4).later RStr.keeps (btr hb hb')) x hbits)
      have HLK := hide hlk
      have HB := hide hb
      have HST := hide hst
      have HFZ := hide hfz
      have HLEN := hide hlen
      have hbwr : b < wr.heap.size := World.block_lt_of_cell? wr _ hlk.c0
      have k9 : k < c.instrs.length := hlt
      unfold IV at HI
      clear hx hcs hat e hlk hb hst hfz hlen H2 H4 H1 hrun
      cases hB : instrB c ws x
      · rw [hB] at HI
        have hno : runI c (c.instrs.take (k + 1)) ws0 = none := by rw [unhide HST, hB]; rfl
        have HN := hide (runI_no hno)
        clear hB hno HST
        go_wp2_with (first | (go_at_call 43; refine (unhide HI _ (bal (brf wr) _)).mono ?_; rintro e V1 ⟨rfl, hb1⟩))
        go_ret
        rw [unhide HN]
        exact ⟨rfl, ⟨fun _ hq => (by cases hq), btr (bal (unhide HB) _) hb1⟩⟩
      · rw [hB] at HI
        obtain ⟨d1, d2⟩ := instrB_dst hB
        obtain ⟨i, hi⟩ : ∃ i : Nat, x.dst = (i : Int) := ⟨x.dst.toNat, by omega⟩
        have hys : runI c (c.instrs.take (k + 1)) ws0 = some (ws.set x.dst.toNat x.width) := by rw [unhide HST, hB]; rfl
        rw [hi, Int.toNat_natCast] at hys
        have HY := hide hys
        rw [hi] at HI k1 d1 d2
        have hil : i < ws.length := by omega
        clear hB hys HST hi
        generalize x.op = z0 at *
        generalize x.a = z2 at *
        generalize x.b = z3 at *
        generalize x.c = z4 at *
        generalize x.n = z5 at *
        generalize x.width = z6 at *
        generalize x.signed = z7 at *
        generalize x.bits = z8 at *
        go_wp2_with fail
        refine (unhide HI _ (bal (brf wr) _)).mono ?_
        rintro e V1 ⟨rfl, hb1⟩
        have HBX := hide (show Bt 40 wr #[.int .i64 z0, .int .i64 i, .int .i64 z2, .int .i64 z3, .int .i64 z4, .int .i64 z5, .int .i64 z6, .bool z7, .string z8] V1 from hb1)
        clear hb1
        obtain ⟨q0, q1, q2, q3, q4, q5, q6, q7, q8⟩ := (unhide HBX).get9
        have hlk2 := (unhide HLK).later (unhide HBX).below
        have t79 := hlk2.widths
        have ti := hlk2.at_ i _ (List.getElem?_eq_getElem hil)
        have tf : V1.frozen? ⟨wb, i, none⟩ = false := frozen_later (unhide HBX).below ((unhide HLK).at_ i _ (List.getElem?_eq_getElem hil)) (unhide HFZ i (by have := unhide HLEN; omega))
        have HL2 := hide (hlk2.set hne i hil z6)
        clear hlk2
        go_wp2
        go_region
        go_wp2
        go_roundw
        case rel => exact ⟨k + 1, ws.set i z6, by omega, by go_num, unhide HY, by rw [List.length_set]; exact unhide HLEN, (unhide HL2).later (bdr (brf _)), fun q hq => (by have hq2 := frozen_later (unhide HBX).below ((unhide HLK).at_ q _ (List.getElem?_eq_getElem (by have := unhide HLEN; omega))) (unhide HFZ q hq); simpa using hq2), bdr (bst (btr (unhide HB) (unhide HBX).below) (by exact hwb) _)⟩
        case measure => simp [intOf]; omega
    · obtain rfl : k = c.instrs.length := by omega
      rw [List.take_of_length_le (Nat.le_refl _)] at hrun
      have HLK := hide hlk
      have HB := hide hb
      have HR := hide hrun
      clear hlk hb hrun hfz H1 H2 H4
      go_wp2
      go_ret
      rw [unhide HR]
      exact ⟨rfl, ⟨fun _ hq => by cases hq; exact unhide HLK, unhide HB⟩⟩
end Go.Proofs.Ytbpcomnneemolaa
