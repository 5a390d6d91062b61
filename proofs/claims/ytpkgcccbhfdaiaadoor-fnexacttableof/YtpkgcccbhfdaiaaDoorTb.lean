/- What is thrown is caught. -/
import Derived.Test.YtpkgcccbhfdaiaaDoorTa
import Derived.Defers
import Derived.Recover
import Derived.BigRegion
import Derived.Test.YtpkgcccbhfdaiaaDoorLW
namespace Go.Proofs.YtpkgcccbhfdaiaaDoor
open Go Go.RowKit Gs
set_option linter.unusedVariables false
set_option linter.unusedSimpArgs false
set_option maxRecDepth 100000
set_option maxHeartbeats 8000000 in
theorem caught (pb : Nat) (y : Value) (z : Int) (older : List PanicEntry) (w : World) (hc : w.cell? ⟨pb, 0, none⟩ = some y) (hz : w.frozen? ⟨pb, 0, none⟩ = false) :
    CallsD Tryd.prog 51 #[.pointer (some ⟨pb, 0, none⟩)] (.panicking ({ v := .iface 91 (.agg #[.int .i64 z]), recovered := false } :: older)) w fun e u' w' =>
      e = .returned (.tuple #[]) ∧ u' = .panicking ({ v := .iface 91 (.agg #[.int .i64 z]), recovered := true } :: older) ∧ w' = (w.setCell ⟨pb, 0, none⟩ (.int .i64 z)).alloc (.cells #[.int .i64 z] 91) := by
  refine callsD_of_wpS Tryd.func51 rfl fun c₀ cs hu => ?_
  apply wpS_seq
  apply wpS_region
  simp [wpOpsS, go_sem, recoverD, hu, Tryd.ntmps51, Exit.thenS]
  refine wpS_of_wp ?_
  have hta : ∀ V : World, (Instr.typeAssert (.iface 91 (.agg #[.int .i64 z])) 20 91 true).run Tryd.prog V = .ok (.tuple #[.agg #[.int .i64 z], .bool true]) V := fun V => by kernel_rfl
  change Code.wp Tryd.prog _ _ { tmps := #[.pointer (some ⟨pb, 0, none⟩), .iface 91 (.agg #[.int .i64 z]), undef, undef, .iface 91 (.agg #[.int .i64 z]), undef, undef, undef, undef, undef, undef, undef, undef, undef, undef, undef], defers := [] } w
  have hpb : pb < w.heap.size := World.block_lt_of_cell? _ _ hc
  have d1 : (w.alloc (.cells #[.int .i64 z] 91)).cell? ⟨pb, 0, none⟩ = some y := cell_later (bal (brf w) _) hc
  have d2 : (w.alloc (.cells #[.int .i64 z] 91)).frozen? ⟨pb, 0, none⟩ = false := frozen_later (bal (brf w) _) hc hz
  go_wp2
  simp [bodyPostS, results, Tryd.results51]
set_option maxHeartbeats 8000000 in
theorem uncaught (pb : Nat) (w : World) :
    CallsD Tryd.prog 51 #[.pointer (some ⟨pb, 0, none⟩)] .returning w fun e u' w' => e = .returned (.tuple #[]) ∧ u' = .returning ∧ w' = w.alloc (.cells #[.int .i64 0] 91) := by
  refine callsD_of_wpS Tryd.func51 rfl fun c₀ cs hu => ?_
  apply wpS_seq
  apply wpS_region
  simp [wpOpsS, go_sem, recoverD, hu, Tryd.ntmps51, Exit.thenS]
  refine wpS_of_wp ?_
  have hta : ∀ V : World, (Instr.typeAssert .nilIface 20 91 true).run Tryd.prog V = .ok (.tuple #[.agg #[.int .i64 0], .bool false]) V := fun V => by kernel_rfl
  change Code.wp Tryd.prog _ _ { tmps := #[.pointer (some ⟨pb, 0, none⟩), .nilIface, undef, undef, .nilIface, undef, undef, undef, undef, undef, undef, undef, undef, undef, undef, undef], defers := [] } w
  go_wp2
  cases c₀
  simp_all [bodyPostS, results, Tryd.results51]
set_option maxHeartbeats 8000000 in
theorem iGuard (caps : Array Value) (w : World) (Y : World → Prop) (X : Int → World → Prop) (h : Calls Tryd.prog 29 caps (w.alloc (.cells #[.int .i64 0] 3)) fun e w' => ((e = .returned (.tuple #[]) ∧ Y w') ∨ (∃ z, e = .panicked (stp z) ∧ X z w')) ∧ w'.cell? ⟨w.heap.size, 0, none⟩ = some (.int .i64 0) ∧ w'.frozen? ⟨w.heap.size, 0, none⟩ = false) :
    Calls Tryd.prog 28 #[.func (.func 29) #[] caps] w fun e w' => (∃ V, e = .returned (.int .i64 0) ∧ Y V ∧ w' = (V.setCell ⟨w.heap.size, 0, none⟩ (.int .i64 0)).alloc (.cells #[.int .i64 0] 91)) ∨ (∃ z V, e = .returned (.int .i64 z) ∧ X z V ∧ w' = (V.setCell ⟨w.heap.size, 0, none⟩ (.int .i64 z)).alloc (.cells #[.int .i64 z] 91)) := by
  have hmf : ∀ (fn : Fn) (first cap : Array Value) (w : World), (Instr.makeFunc fn first cap).run Tryd.prog w = .ok (.func fn first cap) w := fun _ _ _ _ => rfl
  have HH := hide h
  clear h
  go_enter_defers Tryd.func28, Tryd.ntmps28
  go_wp2_with fail
  refine (unhide HH).mono ?_
  rintro e w' ⟨⟨rfl, hY⟩ | ⟨z, rfl, hX⟩, hc, hf⟩
  · have HY := hide hY
    clear hY
    go_wp2_with fail
    refine leaves_cons (f := 51) (args := #[.pointer (some ⟨w.heap.size, 0, none⟩)]) (by simp) (by simp [go_sem]) ?_
    refine (uncaught _ _).mono ?_
    rintro e u' w'' ⟨rfl, rfl, rfl⟩
    have h1 : ((w'.setCell ⟨w.heap.size, 0, none⟩ (.int .i64 0)).alloc (.cells #[.int .i64 0] 91)).cell? ⟨w.heap.size, 0, none⟩ = some (.int .i64 0) := cell_later (bal (brf _) _) (sameCell _ _ _ _ hc)
    simp [Leaves, settle, results, Tryd.results28, go_sem, h1]
    exact .inl ⟨w', unhide HY, rfl⟩
  · have HX := hide hX
    clear hX
    refine leaves_cons (f := 51) (args := #[.pointer (some ⟨w.heap.size, 0, none⟩)]) (by simp) (by simp [go_sem]) ?_
    refine (caught _ _ z [] _ hc hf).mono ?_
    rintro e u' w'' ⟨rfl, rfl, rfl⟩
    have h1 : ((w'.setCell ⟨w.heap.size, 0, none⟩ (.int .i64 z)).alloc (.cells #[.int .i64 z] 91)).cell? ⟨w.heap.size, 0, none⟩ = some (.int .i64 z) := cell_later (bal (brf _) _) (sameCell _ _ _ _ hc)
    simp [Leaves, settle, results, Tryd.results28, go_sem, h1]
    exact .inr ⟨w', unhide HX, rfl⟩
end Go.Proofs.YtpkgcccbhfdaiaaDoor
namespace Go.Proofs.YtpkgcccbhfdaiaaDoor
open Go Go.RowKit Gs
set_option linter.unusedVariables false
set_option linter.unusedSimpArgs false
set_option maxRecDepth 100000
theorem make_ints (n : Nat) (hn : n ≤ 4194304) : ∃ M : Array Value, M.toList = List.replicate n (.int .i64 0) ∧ ∀ W : World, (Instr.makeSlice 28 (.int .i64 (n : Int)) (.int .i64 (n : Int))).run Tryd.prog W = .ok (.slice (some ⟨W.heap.size, 0, none⟩) n n) (W.alloc (.cells M 3)) := by
  obtain ⟨i0, hi, hz0, hz1, hz2⟩ := info_parts info3
  refine ⟨madeCells #[.int .i64 0] n, ?_, fun W => ?_⟩
  · refine List.ext_getElem? fun i => ?_
    rw [Array.getElem?_toList, List.getElem?_replicate]
    by_cases h : i < n
    · simp [madeCells, h, Nat.mod_one]
    · simp [madeCells, h]
  · have hr := run_make (P := Tryd.prog) W 28 3 i0 _ Tryd.underlying28 hi hz0 .i64 .i64 n n (by omega) (Int.le_refl _) (by rw [hz2]; omega) (by omega)
    rw [hr, hz1]
    simp
    rfl
theorem Tb_new {W : World} {M : Array Value} {n gm gt FA : Nat} {p0 p1 p2 p3 p4 p5 : Value} (hM : M.toList = List.replicate n (.int .i64 0)) (h : (gm = W.heap.size ∧ gt = W.heap.size + 1) ∨ (gm = W.heap.size + 1 ∧ gt = W.heap.size)) :
    Tb (W.heap.size + 1 + 1) gm gt n p0 p1 p2 p3 p4 p5 FA 0 0 [] (fun _ => False) (((W.alloc (.cells M 3)).alloc (.cells M 3)).alloc (.cells #[p0, p1, p2, p3, p4, p5, .int .i64 (FA : Int), .int .i64 0, .int .i64 0, .slice (some ⟨gm, 0, none⟩) n n, .slice (some ⟨gt, 0, none⟩) n n] 94)) := by
  have hms : M.size = n := by rw [← Array.length_toList, hM]; simp
  have hmg : ∀ i, i < n → M[i]? = some (.int .i64 0) := fun i hi => by rw [← Array.getElem?_toList, hM, List.getElem?_replicate, if_pos hi]
  obtain ⟨W1, hW1⟩ : ∃ W1, W1 = W.alloc (.cells M 3) := ⟨_, rfl⟩
  obtain ⟨W2, hW2⟩ : ∃ W2, W2 = W1.alloc (.cells M 3) := ⟨_, rfl⟩
  have e1 : W1.heap.size = W.heap.size + 1 := by rw [hW1]; simp
  have e2 : W2.heap.size = W.heap.size + 1 + 1 := by rw [hW2]; simp [e1]
  rw [← hW1, ← hW2, ← e2]
  have c0 : ∀ i, i < n → W1.cell? ⟨W.heap.size, i, none⟩ = some (.int .i64 0) ∧ W1.frozen? ⟨W.heap.size, i, none⟩ = false := fun i hi => by
    rw [hW1]
    exact ⟨by rw [World.cell?_alloc_new]; simpa using hmg i hi, (TP_made W M 3 n (by omega) i hi).2⟩
  have c1 : ∀ i, i < n → W2.cell? ⟨W.heap.size + 1, i, none⟩ = some (.int .i64 0) ∧ W2.frozen? ⟨W.heap.size + 1, i, none⟩ = false := fun i hi => by
    rw [hW2, ← e1]
    exact ⟨by rw [World.cell?_alloc_new]; simpa using hmg i hi, (TP_made W1 M 3 n (by omega) i hi).2⟩
  have b2 : Below W1.heap.size W1 W2 := by rw [hW2]; exact bal (brf W1) _
  have d0 : ∀ i, i < n → W2.cell? ⟨W.heap.size, i, none⟩ = some (.int .i64 0) ∧ W2.frozen? ⟨W.heap.size, i, none⟩ = false := fun i hi => ⟨cell_later b2 (c0 i hi).1, frozen_later b2 (c0 i hi).1 (c0 i hi).2⟩
  have b3 : Below W2.heap.size W2 (W2.alloc (.cells #[p0, p1, p2, p3, p4, p5, .int .i64 (FA : Int), .int .i64 0, .int .i64 0, .slice (some ⟨gm, 0, none⟩) n n, .slice (some ⟨gt, 0, none⟩) n n] 94)) := bal (brf W2) _
  refine ⟨fun j y hj => ?_, fun i hi => ?_, fun i hi => ?_⟩
  · rw [World.cell?_alloc_new]
    simpa using hj
  · exact (TP_made W2 #[p0, p1, p2, p3, p4, p5, .int .i64 (FA : Int), .int .i64 0, .int .i64 0, .slice (some ⟨gm, 0, none⟩) n n, .slice (some ⟨gt, 0, none⟩) n n] 94 11 rfl i hi).2
  · rcases h with ⟨rfl, rfl⟩ | ⟨rfl, rfl⟩
    · exact ⟨0, 0, cell_later b3 (d0 i hi).1, frozen_later b3 (d0 i hi).1 (d0 i hi).2, cell_later b3 (c1 i hi).1, frozen_later b3 (c1 i hi).1 (c1 i hi).2, fun e => absurd e (by decide), fun e => e.elim⟩
    · exact ⟨0, 0, cell_later b3 (c1 i hi).1, frozen_later b3 (c1 i hi).1 (c1 i hi).2, cell_later b3 (d0 i hi).1, frozen_later b3 (d0 i hi).1 (d0 i hi).2, fun e => absurd e (by decide), fun e => e.elim⟩
set_option maxHeartbeats 16000000 in
theorem iNewT (s0 s1 s2 s3 s4 s5 : Option Addr) (l0 l1 l2 l3 l4 l5 c0 c1 c2 c3 c4 c5 : Nat) (w : World) (hl0 : l0 ≤ 1048576) (hl2 : l2 ≤ 1048576) (hl3 : l3 ≤ 1048576) :
    Calls Tryd.prog 30 #[.agg #[.slice s0 l0 c0, .slice s1 l1 c1, .slice s2 l2 c2, .slice s3 l3 c3, .slice s4 l4 c4, .slice s5 l5 c5]] w fun e w' => ∃ b gm gt, e = .returned (.pointer (some ⟨b, 0, none⟩)) ∧ (b ≠ gm ∧ b ≠ gt ∧ gm ≠ gt) ∧ w.heap.size ≤ b ∧ w.heap.size ≤ gm ∧ w.heap.size ≤ gt ∧ Tb b gm gt (1 + l0 + l2 + l3) (.slice s0 l0 c0) (.slice s1 l1 c1) (.slice s2 l2 c2) (.slice s3 l3 c3) (.slice s4 l4 c4) (.slice s5 l5 c5) (1 + l0 + l2) 0 0 [] (fun _ => False) w' ∧ Below w.heap.size w w' := by
  obtain ⟨FA, hFA⟩ : ∃ FA : Nat, FA = 1 + l0 + l2 := ⟨_, rfl⟩
  have HFI : Hid (∀ V : World, Calls Tryd.prog 25 #[.agg #[.slice s0 l0 c0, .slice s1 l1 c1, .slice s2 l2 c2, .slice s3 l3 c3, .slice s4 l4 c4, .slice s5 l5 c5]] V fun e w' => e = .returned (.int .i64 (FA : Int)) ∧ Below V.heap.size V w') := hide (fun V => by
    rw [hFA]
    exact iFirst s0 s2 l0 l2 c0 c2 _ _ _ _ V hl0 hl2)
  rw [← hFA]
  have hFb : FA ≤ 2097153 := by omega
  obtain ⟨n, hn⟩ : ∃ n : Nat, n = FA + l3 := ⟨_, rfl⟩
  rw [← hn]
  have hsum : (FA : Int) + (l3 : Int) = (n : Int) := by omega
  obtain ⟨M, hM, hmk⟩ := make_ints n (by omega)
  have HC : Hid (∀ V, Below (w.alloc (.cells #[.slice s0 l0 c0, .slice s1 l1 c1, .slice s2 l2 c2, .slice s3 l3 c3, .slice s4 l4 c4, .slice s5 l5 c5] 36)).heap.size (w.alloc (.cells #[.slice s0 l0 c0, .slice s1 l1 c1, .slice s2 l2 c2, .slice s3 l3 c3, .slice s4 l4 c4, .slice s5 l5 c5] 36)) V → B6 36 w (.slice s0 l0 c0) (.slice s1 l1 c1) (.slice s2 l2 c2) (.slice s3 l3 c3) (.slice s4 l4 c4) (.slice s5 l5 c5) V) := hide (fun V h => h)
  have HM := hide hM
  clear hM hFA hn
  go_enter Tryd.func30, Tryd.ntmps30
  go_wp2_with fail
  refine (unhide HFI _).mono ?_
  rintro e W1 ⟨rfl, hb1⟩
  have HX1 := hide (unhide HC _ hb1)
  obtain ⟨q0, q1, q2, q3, q4, q5⟩ := (unhide HX1).get
  clear hb1 HFI HC
  go_wp2_with fail
  obtain ⟨r0, r1, r2, r3, r4, r5⟩ := ((unhide HX1).then (bal (brf W1) (.cells M 3))).get
  obtain ⟨t0, t1, t2, t3, t4, t5⟩ := ((unhide HX1).then (bal (bal (brf W1) (.cells M 3)) (.cells M 3))).get
  have hlt : w.heap.size < W1.heap.size := World.block_lt_of_cell? _ _ q0
  go_region
  · have HR : Hid (Tb (W1.heap.size + 1 + 1) (W1.heap.size) (W1.heap.size + 1) n (.slice s0 l0 c0) (.slice s1 l1 c1) (.slice s2 l2 c2) (.slice s3 l3 c3) (.slice s4 l4 c4) (.slice s5 l5 c5) FA 0 0 [] (fun _ => False) (((W1.alloc (.cells M 3)).alloc (.cells M 3)).alloc (.cells #[.slice s0 l0 c0, .slice s1 l1 c1, .slice s2 l2 c2, .slice s3 l3 c3, .slice s4 l4 c4, .slice s5 l5 c5, .int .i64 (FA : Int), .int .i64 0, .int .i64 0, .slice (some ⟨W1.heap.size, 0, none⟩) n n, .slice (some ⟨W1.heap.size + 1, 0, none⟩) n n] 94)).drew) := hide ((Tb_new (unhide HM) (.inl ⟨rfl, rfl⟩)).later (bdr (brf _)))
    have HB : Hid (Below w.heap.size w (((W1.alloc (.cells M 3)).alloc (.cells M 3)).alloc (.cells #[.slice s0 l0 c0, .slice s1 l1 c1, .slice s2 l2 c2, .slice s3 l3 c3, .slice s4 l4 c4, .slice s5 l5 c5, .int .i64 (FA : Int), .int .i64 0, .int .i64 0, .slice (some ⟨W1.heap.size, 0, none⟩) n n, .slice (some ⟨W1.heap.size + 1, 0, none⟩) n n] 94)).drew) := hide (bdr (bal (bal (bal (unhide HX1).below _) _) _))
    go_wp2
    exact bodyPost_ret (v := .pointer (some ⟨W1.heap.size + 1 + 1, 0, none⟩)) (by simp [results, Tryd.results30, go_sem]) rfl ⟨_, W1.heap.size, W1.heap.size + 1, rfl, by omega, by omega, by omega, by omega, unhide HR, unhide HB⟩
  · have HR : Hid (Tb (W1.heap.size + 1 + 1) (W1.heap.size + 1) (W1.heap.size) n (.slice s0 l0 c0) (.slice s1 l1 c1) (.slice s2 l2 c2) (.slice s3 l3 c3) (.slice s4 l4 c4) (.slice s5 l5 c5) FA 0 0 [] (fun _ => False) (((W1.alloc (.cells M 3)).alloc (.cells M 3)).alloc (.cells #[.slice s0 l0 c0, .slice s1 l1 c1, .slice s2 l2 c2, .slice s3 l3 c3, .slice s4 l4 c4, .slice s5 l5 c5, .int .i64 (FA : Int), .int .i64 0, .int .i64 0, .slice (some ⟨W1.heap.size + 1, 0, none⟩) n n, .slice (some ⟨W1.heap.size, 0, none⟩) n n] 94)).drew) := hide ((Tb_new (unhide HM) (.inr ⟨rfl, rfl⟩)).later (bdr (brf _)))
    have HB : Hid (Below w.heap.size w (((W1.alloc (.cells M 3)).alloc (.cells M 3)).alloc (.cells #[.slice s0 l0 c0, .slice s1 l1 c1, .slice s2 l2 c2, .slice s3 l3 c3, .slice s4 l4 c4, .slice s5 l5 c5, .int .i64 (FA : Int), .int .i64 0, .int .i64 0, .slice (some ⟨W1.heap.size + 1, 0, none⟩) n n, .slice (some ⟨W1.heap.size, 0, none⟩) n n] 94)).drew) := hide (bdr (bal (bal (bal (unhide HX1).below _) _) _))
    go_wp2
    exact bodyPost_ret (v := .pointer (some ⟨W1.heap.size + 1 + 1, 0, none⟩)) (by simp [results, Tryd.results30, go_sem]) rfl ⟨_, W1.heap.size + 1, W1.heap.size, rfl, by omega, by omega, by omega, by omega, unhide HR, unhide HB⟩
end Go.Proofs.YtpkgcccbhfdaiaaDoor
namespace Go.Proofs.YtpkgcccbhfdaiaaDoor
open Go Go.RowKit Gs
set_option linter.unusedVariables false
set_option linter.unusedSimpArgs false
set_option maxRecDepth 100000
section
variable {P : Program} {ops : Array Oper} {a0 : Act} {F : Nat → Value → Prop} {w0 : World} {n : Nat} {E : World → Prop}
theorem und2 {G : Array Bool → Nat → World → Value → Prop} {J : Array Bool → World → Prop} {l : Array Bool} {a : Act} {w : World} (hp : PA ops G J a0 l a w) {k j : Nat} (hn : (ops[j]?).any (fun o => onB o.after k) = true) (hu : l.getD k false = false) : l.getD j false = false := by
  cases e : l.getD j false with
  | false => rfl
  | true =>
    exfalso
    cases ho : ops[j]? with
    | none => rw [ho] at hn; simp at hn
    | some o =>
      rw [ho] at hn
      have hd := onB_spec (by simpa using hn) (hp.down j o ho e)
      rw [hu] at hd
      cases hd
theorem se_valc {k : Nat} {o : Oper} (hne : k ≠ n) (hn : ∀ l a w, PA ops (GF F) (JE w0 n E) a0 l a w → l.getD k false = false → l.getD n false = false) (hg : o.guard = none) (h : ∀ l a w, PA ops (GF F) (JE w0 n E) a0 l a w → Below w0.heap.size w0 w → (∀ e ∈ o.after, Region.binds .any e = true → l.getD e.on false = true) → ∃ x, (execOp a.eval o).run P w = .ok (.value x) w ∧ F k x) : Stp P ops (GF F) (JE w0 n E) a0 k o := by
  intro l a w hp hu ha
  have hl := hn l a w hp (notDoneB hu)
  have hb := hp.j.1 hl
  obtain ⟨x, hr, hf⟩ := h l a w hp hb ha
  unfold opW
  rw [if_pos (wanted_none hg)]
  exact .inl ⟨x, w, hr, x, rfl, JE.step hne hu hl hb, hf, fun _ _ _ _ h => h⟩
theorem se_lastc {o : Oper} {f : FuncId} (hg : o.guard = none) (h : ∀ l a w, PA ops (GF F) (JE w0 n E) a0 l a w → Below w0.heap.size w0 w → (∀ e ∈ o.after, Region.binds .any e = true → l.getD e.on false = true) → ∃ args, (execOp a.eval o).run P w = .ok (.enter f args) w ∧ Calls P f args w fun e w' => ∃ x, e = .returned x ∧ F n x ∧ E w') : Stp P ops (GF F) (JE w0 n E) a0 n o := by
  intro l a w hp hu ha
  have hb := hp.j.1 (notDoneB hu)
  obtain ⟨args, hr, hc⟩ := h l a w hp hb ha
  unfold opW
  rw [if_pos (wanted_none hg)]
  have e : (l.setIfInBounds n true).getD n false = true := by rw [set_ite (lt_of_undone hu), if_pos rfl]
  refine .inr (.inr ⟨f, args, w, hr, Calls.mono hc ?_⟩)
  rintro e2 w' ⟨x, rfl, hf, hE⟩
  exact ⟨x, rfl, x, rfl, ⟨fun h => (by rw [e] at h; cases h), fun _ => hE⟩, hf, fun _ _ _ _ h => h⟩
end
/-- The tables of leaves lie in the program's variable. -/
def Gt (W : World) : Prop := ∀ j, j < 4 → W.cell? ⟨0, j, none⟩ = some (.int .i64 ((leafTab j : Nat) : Int))
theorem Gt.later {W V : World} (h : Gt W) (hb : Below W.heap.size W V) : Gt V := fun j hj => cell_later hb (h j hj)
theorem Tb.mono {b gm gt n : Nat} {p0 p1 p2 p3 p4 p5 : Value} {first mask rnd : Nat} {R : List (Option Nat)} {L L' : Nat → Prop} {W : World} (h : Tb b gm gt n p0 p1 p2 p3 p4 p5 first mask rnd R L W) (hL : ∀ v, L' v → L v) : Tb b gm gt n p0 p1 p2 p3 p4 p5 first mask rnd R L' W :=
  ⟨h.at_, h.fz, fun i hi => by obtain ⟨m, t, h1, h2, h3, h4, h5, h6⟩ := h.met i hi; exact ⟨m, t, h1, h2, h3, h4, h5, fun hl => h6 (hL i hl)⟩⟩
theorem Tb.start {b gm gt n mask : Nat} {p0 p1 p2 p3 p4 p5 : Value} {first : Nat} {W : World} (R : List (Option Nat)) (hd : b ≠ gm ∧ b ≠ gt ∧ gm ≠ gt) (h : Tb b gm gt n p0 p1 p2 p3 p4 p5 first 0 0 [] (fun _ => False) W) : Tb b gm gt n p0 p1 p2 p3 p4 p5 first mask 1 R (fun _ => False) ((W.setCell ⟨b, 8, none⟩ (.int .i64 1)).setCell ⟨b, 7, none⟩ (.int .i64 (mask : Int))) := by
  obtain ⟨d1, d2, d3⟩ := hd
  refine ⟨fun j y hj => ?_, fun i hi => by rw [frozSet, frozSet]; exact h.fz i hi, fun i hi => ?_⟩
  · have hold := fun (y : Value) (hy : _) => h.at_ j y hy
    by_cases e7 : j = 7
    · subst e7
      have := h.at_ 7 _ rfl
      simp only [Nat.zero_add] at this ⊢
      simp at hj
      subst hj
      exact sameCell _ _ _ _ (otherCell _ _ _ _ this (.inr (by decide)))
    · by_cases e8 : j = 8
      · subst e8
        have := h.at_ 8 _ rfl
        simp only [Nat.zero_add] at this ⊢
        simp at hj
        subst hj
        exact otherCell _ _ _ _ (sameCell _ _ _ _ this) (.inr (by decide))
      · refine otherCell _ _ _ _ (otherCell _ _ _ _ (h.at_ j y ?_) (.inr (by omega))) (.inr (by omega))
        match j, hj, e7, e8 with
        | 0, hj, _, _ => exact hj
        | 1, hj, _, _ => exact hj
        | 2, hj, _, _ => exact hj
        | 3, hj, _, _ => exact hj
        | 4, hj, _, _ => exact hj
        | 5, hj, _, _ => exact hj
        | 6, hj, _, _ => exact hj
        | 7, hj, e, _ => exact absurd rfl e
        | 8, hj, _, e => exact absurd rfl e
        | 9, hj, _, _ => exact hj
        | 10, hj, _, _ => exact hj
        | j + 11, hj, _, _ => simp at hj
  · obtain ⟨m, t, h1, h2, h3, h4, h5, h6⟩ := h.met i hi
    refine ⟨m, t, otherCell _ _ _ _ (otherCell _ _ _ _ h1 (.inl (Ne.symm d1))) (.inl (Ne.symm d1)), by rw [frozSet, frozSet]; exact h2, otherCell _ _ _ _ (otherCell _ _ _ _ h3 (.inl (Ne.symm d2))) (.inl (Ne.symm d2)), by rw [frozSet, frozSet]; exact h4, fun e => ?_, fun e => e.elim⟩
    obtain ⟨t', ht, _⟩ := h5 e
    simp at ht
def FB5 (b vr j k : Nat) : Nat → Value → Prop
  | 0, v => v = .pointer (some ⟨b, 0, none⟩)
  | 1, v => v = .int .i64 (vr : Int)
  | 2, v => v = .int .i64 (j : Int)
  | 3, v => v = .pointer (some ⟨0, j, none⟩)
  | 4, v => v = .int .i64 ((leafTab j : Nat) : Int)
  | 5, v => v = .pointer (some ⟨b, 0, none⟩)
  | 6, v => v = .pointer (some ⟨b, 0, none⟩)
  | 7, v => v = .pointer (some ⟨b, 7, none⟩)
  | 8, v => v = .int .i64 ((tmask k : Nat) : Int)
  | 9, v => v = .int .i64 ((lfT j k : Nat) : Int)
  | _, _ => True
def iBegOps5 : Array Oper := #[{ dst := some 26, op := Op.move (Operand.tmp 0), type := 60, pos := "l11_cuts.go:50", after := #[], guard := none }, { dst := some 27, op := Op.move (Operand.tmp 5), type := 3, pos := "l11_cuts.go:50", after := #[], guard := none }, { dst := some 28, op := Op.move (Operand.tmp 4), type := 3, pos := "l11_cuts.go:50", after := #[], guard := none }, { dst := some 29, op := Op.indexAddr 96 (Operand.global 0) (Operand.tmp 28), type := 0, pos := "l11_cuts.go:50", after := #[{ on := 2, ground := Ground.data }], guard := none }, { dst := some 30, op := Op.load 3 (Operand.tmp 29), type := 3, pos := "l11_cuts.go:50", after := #[{ on := 3, ground := Ground.data }], guard := none }, { dst := some 31, op := Op.move (Operand.tmp 0), type := 60, pos := "l11_cuts.go:50", after := #[], guard := none }, { dst := some 32, op := Op.nilCheck (Operand.tmp 31), type := 0, pos := "l11_cuts.go:50", after := #[{ on := 5, ground := Ground.data }], guard := none }, { dst := some 33, op := Op.fieldAddr 94 (Operand.tmp 32) 2, type := 0, pos := "l11_cuts.go:50", after := #[{ on := 6, ground := Ground.data }], guard := none }, { dst := some 34, op := Op.load 3 (Operand.tmp 33), type := 3, pos := "l11_cuts.go:50", after := #[{ on := 7, ground := Ground.data }], guard := none }, { dst := some 35, op := Op.binOp BinOp.and 3 (Operand.tmp 30) (Operand.tmp 34) 3, type := 3, pos := "l11_cuts.go:50", after := #[{ on := 4, ground := Ground.data }, { on := 8, ground := Ground.data }], guard := none }, { dst := some 36, op := Op.call { callee := Callee.value (Operand.func 53), args := #[Operand.tmp 26, Operand.tmp 27, Operand.tmp 35], argTypes := #[60, 3, 3] }, type := 0, pos := "l11_cuts.go:50", after := #[{ on := 0, ground := Ground.data }, { on := 1, ground := Ground.data }, { on := 9, ground := Ground.data }], guard := none }]
set_option maxHeartbeats 16000000 in
theorem iBegin {b gm gt n : Nat} {p0 p1 p2 p3 p4 p5 : Value} {first : Nat} {R : List (Option Nat)} {ls : List Int} {lv : Value} {W0 W : World} (hd : b ≠ gm ∧ b ≠ gt ∧ gm ≠ gt) (hS : ∀ i, (i = b ∨ i = gm ∨ i = gt) → W0.heap.size ≤ i) (h : Tb b gm gt n p0 p1 p2 p3 p4 p5 first 0 0 [] (fun _ => False) W) (hB : Below W0.heap.size W0 W) (hG : Gt W0) (hls : RS 1 RInt W0 0 ls lv) (hk : ls.length ≤ 4) (hn : n ≤ 1048576 * 4)
    (hlf : ∀ (j : Nat) l, ls[j]? = some l → ∃ v : Nat, l = v ∧ v < n ∧ R[v]? = some (some (lfT j ls.length))) (hn2 : n ≤ 1048576) :
    Calls Tryd.prog 31 #[.pointer (some ⟨b, 0, none⟩), lv] W fun e w' => e = .returned (.tuple #[]) ∧ Tb b gm gt n p0 p1 p2 p3 p4 p5 first (tmask ls.length) 1 R (fun v => ∃ i : Nat, ls[i]? = some ((v : Nat) : Int)) w' ∧ Below W0.heap.size W0 w' := by
  obtain ⟨_, c6, c7, c8, c9, c10⟩ := h.get
  have f7 := h.fz 7 (by decide)
  have f8 := h.fz 8 (by decide)
  have hbS : b < W.heap.size := World.block_lt_of_cell? _ _ c7
  have HST : Hid (Tb b gm gt n p0 p1 p2 p3 p4 p5 first (tmask ls.length) 1 R (fun v => ∃ i : Nat, i < 0 ∧ ls[i]? = some ((v : Nat) : Int)) ((W.setCell ⟨b, 8, none⟩ (.int .i64 1)).setCell ⟨b, 7, none⟩ (.int .i64 ((tmask ls.length : Nat) : Int)))) := hide ((Tb.start R hd h).mono (fun v ⟨i, hi, _⟩ => by omega))
  have HBS : Hid (Below W0.heap.size W0 ((W.setCell ⟨b, 8, none⟩ (.int .i64 1)).setCell ⟨b, 7, none⟩ (.int .i64 ((tmask ls.length : Nat) : Int)))) := hide ((hB.setCell (hS b (.inl rfl)) _).setCell (hS b (.inl rfl)) _)
  have HMK := hide (fun V => iMask ls.length hk V)
  have HLS := hide hls
  obtain ⟨la, lc, rfl⟩ := hls.slice
  have HD := hide hd
  have HS := hide hS
  have HG := hide hG
  have HLF := hide hlf
  clear h hB hd hS hG hls hlf c6 c9 c10
  go_enter Tryd.func31, Tryd.ntmps31
  go_wp2_with (first | (go_at_call 52; refine (unhide HMK _).mono ?_; rintro e W1 ⟨rfl, hW1⟩; have hW2 := hW1.symm; clear hW1; subst hW2))
  generalize hWs : ((W.setCell ⟨b, 8, none⟩ (.int .i64 1)).setCell ⟨b, 7, none⟩ (.int .i64 ((tmask ls.length : Nat) : Int))) = Ws at *
  clear hWs c7 c8 f7 f8 HMK
  go_loopw [21] (fun i wr => ∃ j : Nat, j ≤ ls.length ∧ i = .int .i64 j ∧ Tb b gm gt n p0 p1 p2 p3 p4 p5 first (tmask ls.length) 1 R (fun v => ∃ i : Nat, i < j ∧ ls[i]? = some ((v : Nat) : Int)) wr ∧ Below W0.heap.size W0 wr) (fun i wr => ls.length - (intOf i).toNat)
  case atStart => exact ⟨0, Nat.zero_le _, rfl, unhide HST, unhide HBS⟩
  case round =>
    obtain ⟨j, hj, rfl, hT, hb⟩ := hrel
    by_cases hlt : j < ls.length
    · have hx : ls[j]? = some ls[j] := List.getElem?_eq_getElem hlt
      generalize ls[j] = l at hx
      obtain ⟨vr, rfl, hv, hR⟩ := unhide HLF j l hx
      have hlc : ∃ bb oo, la = some ⟨bb, oo, none⟩ ∧ W0.cell? ⟨bb, oo + j, none⟩ = some (.int .i64 (vr : Int)) := by
        rcases (unhide HLS).open with ⟨e, _⟩ | ⟨bb, oo, c', hv', _, _, _, he⟩
        · rw [e] at hx; simp at hx
        · injection hv' with e1 e2 e3
          obtain ⟨u, hu, hat, hux⟩ := he j _ hx
          subst hux
          exact ⟨bb, oo, e1, by simpa using hat.get (j := 0) rfl⟩
      obtain ⟨bb, oo, rfl, hlc⟩ := hlc
      have k0 := cell_later hb hlc
      obtain ⟨_, _, c7, _, _, _⟩ := hT.get
      have HC7 := hide c7
      have HCG := hide (cell_later hb (unhide HG j (by omega)))
      have HAN : Hid (bits .and .i64 ((leafTab j : Nat) : Int) ((tmask ls.length : Nat) : Int) = ((lfT j ls.length : Nat) : Int)) := hide (i64_and_nat _ _ (leafTab_lt j) (tmask_lt hk))
      have HPT := hide (fun (V : World) (hV : Below wr.heap.size wr V) => iPut (L' := fun v => ∃ i : Nat, i < j + 1 ∧ ls[i]? = some ((v : Nat) : Int)) (unhide HD) (hT.later hV) hv hn2 hR (fun i ⟨q, hq, hq2⟩ => by
        by_cases e : q = j
        · subst e
          rw [hx] at hq2
          injection hq2 with hq2
          exact .inr (by omega)
        · exact .inl ⟨q, by omega, hq2⟩))
      have HB := hide hb
      have i1 : (j : Int) < (ls.length : Int) := by omega
      have i3 : (0 : Int) ≤ (j : Int) := by omega
      have i4 : (j : Int) < 4 := by omega
      clear hT hb hlc hx c7 hR hv
      go_wp2_with fail
      refine wp_plan (GF (FB5 b vr j ls.length)) (JE wr 10 (fun V => Tb b gm gt n p0 p1 p2 p3 p4 p5 first (tmask ls.length) 1 R (fun v => ∃ i : Nat, i < j + 1 ∧ ls[i]? = some ((v : Nat) : Int)) V ∧ FS (fun q => q = gm ∨ q = gt) wr V)) (by kernel_rfl) 38 (by kernel_rfl) (by kernel_rfl) ?hj ?hs ?hf
      case hj => exact JE.start (bdr (brf wr))
      case hs =>
        refine ⟨?_, ?_, ?_, ?_, ?_, ?_, ?_, ?_, ?_, ?_, ?_, trivial⟩
        · exact se_valc (by decide) (fun l a w hp hu => (und2 hp (k := 0) (j := 10) (by kernel_rfl) hu)) rfl (fun l a V hp hB ha => ⟨.pointer (some ⟨b, 0, none⟩), by
            have x0 := (ev_form a 0).trans (old hp 0 (v := .pointer (some ⟨b, 0, none⟩)) (by kernel_rfl) (by kernel_rfl))
            go_simp, rfl⟩)
        · exact se_valc (by decide) (fun l a w hp hu => (und2 hp (k := 1) (j := 10) (by kernel_rfl) hu)) rfl (fun l a V hp hB ha => ⟨.int .i64 (vr : Int), by
            have x5 := (ev_form a 5).trans (old hp 5 (v := .int .i64 (vr : Int)) (by kernel_rfl) (by kernel_rfl))
            go_simp, rfl⟩)
        · exact se_valc (by decide) (fun l a w hp hu => (und2 hp (k := 9) (j := 10) (by kernel_rfl) (und2 hp (k := 4) (j := 9) (by kernel_rfl) (und2 hp (k := 3) (j := 4) (by kernel_rfl) (und2 hp (k := 2) (j := 3) (by kernel_rfl) hu))))) rfl (fun l a V hp hB ha => ⟨.int .i64 (j : Int), by
            have x4 := (ev_form a 4).trans (old hp 4 (v := .int .i64 (j : Int)) (by kernel_rfl) (by kernel_rfl))
            go_simp, rfl⟩)
        · exact se_valc (by decide) (fun l a w hp hu => (und2 hp (k := 9) (j := 10) (by kernel_rfl) (und2 hp (k := 4) (j := 9) (by kernel_rfl) (und2 hp (k := 3) (j := 4) (by kernel_rfl) hu)))) rfl (fun l a V hp hB ha => ⟨.pointer (some ⟨0, j, none⟩), by
            have x28 := (ev_form a 28).trans (show a.eval (.tmp 28) = .int .i64 (j : Int) from kn hp ha 28 2 (by kernel_rfl) (by kernel_rfl))
            go_simp, rfl⟩)
        · exact se_valc (by decide) (fun l a w hp hu => (und2 hp (k := 9) (j := 10) (by kernel_rfl) (und2 hp (k := 4) (j := 9) (by kernel_rfl) hu))) rfl (fun l a V hp hB ha => ⟨.int .i64 ((leafTab j : Nat) : Int), by
            have x29 := (ev_form a 29).trans (show a.eval (.tmp 29) = .pointer (some ⟨0, j, none⟩) from kn hp ha 29 3 (by kernel_rfl) (by kernel_rfl))
            have cg := cell_later hB (unhide HCG)
            go_simp, rfl⟩)
        · exact se_valc (by decide) (fun l a w hp hu => (und2 hp (k := 9) (j := 10) (by kernel_rfl) (und2 hp (k := 8) (j := 9) (by kernel_rfl) (und2 hp (k := 7) (j := 8) (by kernel_rfl) (und2 hp (k := 6) (j := 7) (by kernel_rfl) (und2 hp (k := 5) (j := 6) (by kernel_rfl) hu)))))) rfl (fun l a V hp hB ha => ⟨.pointer (some ⟨b, 0, none⟩), by
            have x0 := (ev_form a 0).trans (old hp 0 (v := .pointer (some ⟨b, 0, none⟩)) (by kernel_rfl) (by kernel_rfl))
            go_simp, rfl⟩)
        · exact se_valc (by decide) (fun l a w hp hu => (und2 hp (k := 9) (j := 10) (by kernel_rfl) (und2 hp (k := 8) (j := 9) (by kernel_rfl) (und2 hp (k := 7) (j := 8) (by kernel_rfl) (und2 hp (k := 6) (j := 7) (by kernel_rfl) hu))))) rfl (fun l a V hp hB ha => ⟨.pointer (some ⟨b, 0, none⟩), by
            have x31 := (ev_form a 31).trans (show a.eval (.tmp 31) = .pointer (some ⟨b, 0, none⟩) from kn hp ha 31 5 (by kernel_rfl) (by kernel_rfl))
            go_simp, rfl⟩)
        · exact se_valc (by decide) (fun l a w hp hu => (und2 hp (k := 9) (j := 10) (by kernel_rfl) (und2 hp (k := 8) (j := 9) (by kernel_rfl) (und2 hp (k := 7) (j := 8) (by kernel_rfl) hu)))) rfl (fun l a V hp hB ha => ⟨.pointer (some ⟨b, 7, none⟩), by
            have x32 := (ev_form a 32).trans (show a.eval (.tmp 32) = .pointer (some ⟨b, 0, none⟩) from kn hp ha 32 6 (by kernel_rfl) (by kernel_rfl))
            go_simp, rfl⟩)
        · exact se_valc (by decide) (fun l a w hp hu => (und2 hp (k := 9) (j := 10) (by kernel_rfl) (und2 hp (k := 8) (j := 9) (by kernel_rfl) hu))) rfl (fun l a V hp hB ha => ⟨.int .i64 ((tmask ls.length : Nat) : Int), by
            have x33 := (ev_form a 33).trans (show a.eval (.tmp 33) = .pointer (some ⟨b, 7, none⟩) from kn hp ha 33 7 (by kernel_rfl) (by kernel_rfl))
            have c7 := cell_later hB (unhide HC7)
            go_simp, rfl⟩)
        · exact se_valc (by decide) (fun l a w hp hu => (und2 hp (k := 9) (j := 10) (by kernel_rfl) hu)) rfl (fun l a V hp hB ha => ⟨.int .i64 ((lfT j ls.length : Nat) : Int), by
            have x30 := (ev_form a 30).trans (show a.eval (.tmp 30) = .int .i64 ((leafTab j : Nat) : Int) from kn hp ha 30 4 (by kernel_rfl) (by kernel_rfl))
            have x34 := (ev_form a 34).trans (show a.eval (.tmp 34) = .int .i64 ((tmask ls.length : Nat) : Int) from kn hp ha 34 8 (by kernel_rfl) (by kernel_rfl))
            have hw := unhide HAN
            go_simp, rfl⟩)
        · refine se_lastc (f := 53) rfl (fun l a V hp hB ha => ?_)
          have x26 := (ev_form a 26).trans (show a.eval (.tmp 26) = .pointer (some ⟨b, 0, none⟩) from kn hp ha 26 0 (by kernel_rfl) (by kernel_rfl))
          have x27 := (ev_form a 27).trans (show a.eval (.tmp 27) = .int .i64 (vr : Int) from kn hp ha 27 1 (by kernel_rfl) (by kernel_rfl))
          have x35 := (ev_form a 35).trans (show a.eval (.tmp 35) = .int .i64 ((lfT j ls.length : Nat) : Int) from kn hp ha 35 9 (by kernel_rfl) (by kernel_rfl))
          refine ⟨#[.pointer (some ⟨b, 0, none⟩), .int .i64 (vr : Int), .int .i64 ((lfT j ls.length : Nat) : Int)], by go_simp, (unhide HPT V hB).mono ?_⟩
          rintro e V1 ⟨rfl, hT, hF⟩
          exact ⟨_, rfl, trivial, hT, (FS.of hB).trans hF⟩
      case hf =>
        intro l a V hp hall
        have hE := hp.j.2 (hall 10 (by decide))
        obtain ⟨us, rfl, hus⟩ := putAll_of [26, 27, 28, 29, 30, 31, 32, 33, 34, 35, 36] hp.nt hp.df (fun t ht => hp.keep t (dstIn (by kernel_rfl) ht))
        have HR1 := hide hE.1
        have HR2 := hide (FS.below (unhide HB) hE.2 (fun i h => unhide HS i (h.elim (fun e => .inr (.inl e)) (fun e => .inr (.inr e)))) (unhide HB).size)
        clear hp hall hus hE
        simp only [putAll, List.foldl, Act.put, List.setIfInBounds_toArray, List.set_cons_zero, List.set_cons_succ]
        go_wp2_with fail
        go_roundw
        case rel => exact ⟨j + 1, by omega, by go_num, unhide HR1, unhide HR2⟩
        case measure => simp [intOf]; omega
    · obtain rfl : j = ls.length := by omega
      have HT := hide (hT.mono (L' := fun v => ∃ i : Nat, ls[i]? = some ((v : Nat) : Int)) (fun v ⟨i, hi⟩ => ⟨i, (List.getElem?_eq_some_iff.1 hi).1, hi⟩))
      have HB := hide hb
      clear hT hb HLS
      go_wp2_with fail
      exact bodyPost_end (v := .tuple #[]) (by simp [results, Tryd.results31, go_sem]) rfl ⟨rfl, unhide HT, unhide HB⟩
end Go.Proofs.YtpkgcccbhfdaiaaDoor
namespace Go.Proofs.YtpkgcccbhfdaiaaDoor
open Go Go.RowKit Gs
set_option linter.unusedVariables false
set_option linter.unusedSimpArgs false
set_option maxRecDepth 100000
/-- Leaves ascend, above a number and below the number of variables. -/
def ascT (n : Nat) : Int → List Int → Bool
  | _, [] => true
  | p, l :: ls => decide (p < l) && decide (l < (n : Int)) && ascT n l ls
theorem ascT_gt {n : Nat} : ∀ (ls : List Int) (p : Int), ascT n p ls = true → ∀ (i : Nat) l, ls[i]? = some l → p < l ∧ l < (n : Int)
  | [], p, _, i, l, hi => by simp at hi
  | a :: ls, p, h, i, l, hi => by
    simp only [ascT, Bool.and_eq_true, decide_eq_true_eq] at h
    cases i with
    | zero => simp at hi; subst hi; exact h.1
    | succ i =>
      have := ascT_gt ls a h.2 i l (by simpa using hi)
      omega
theorem ascT_find {n : Nat} : ∀ (ls : List Int) (p : Int), ascT n p ls = true → ∀ (i : Nat) l, ls[i]? = some l → ls.findIdx? (fun x => x == l) = some i
  | [], p, _, i, l, hi => by simp at hi
  | a :: ls, p, h, i, l, hi => by
    simp only [ascT, Bool.and_eq_true, decide_eq_true_eq] at h
    cases i with
    | zero => simp at hi; subst hi; simp [List.findIdx?_cons]
    | succ i =>
      have hi' : ls[i]? = some l := by simpa using hi
      have hg := ascT_gt ls a h.2 i l hi'
      have hne : (a == l) = false := by rw [beq_eq_false_iff_ne]; omega
      rw [List.findIdx?_cons, hne]
      simp [ascT_find ls a h.2 i l hi']
theorem leafOf_at {n : Nat} {ls : List Int} (h : ascT n 0 ls = true) {j : Nat} {l : Int} (hj : ls[j]? = some l) : leafOf ls l.toNat = some (lfT j ls.length) := by
  have := ascT_gt ls 0 h j l hj
  unfold leafOf
  rw [show ((l.toNat : Nat) : Int) = l by omega, ascT_find ls 0 h j l hj]
  rfl
theorem leafOf_in {ls : List Int} {v : Nat} (h : leafOf ls v ≠ none) : ∃ i : Nat, ls[i]? = some ((v : Nat) : Int) := by
  unfold leafOf at h
  cases e : ls.findIdx? (fun l => l == (v : Int)) with
  | none => rw [e] at h; exact absurd rfl h
  | some i =>
    obtain ⟨hlt, hp, _⟩ := List.findIdx?_eq_some_iff_getElem.1 e
    exact ⟨i, by rw [List.getElem?_eq_getElem hlt]; simpa using hp⟩
set_option maxHeartbeats 16000000 in
theorem iFits {ls : List Int} {lv : Value} (n : Nat) {W : World} (hls : RS 1 RInt W 0 ls lv) : Calls Tryd.prog 27 #[lv, .int .i64 (n : Int)] W fun e w' => e = .returned (.bool (decide (ls.length ≤ 4) && ascT n 0 ls)) ∧ w' = W := by
  have HLS := hide hls
  obtain ⟨la, lc, rfl⟩ := hls.slice
  clear hls
  by_cases hk : ls.length ≤ 4
  · have hg : decide ((ls.length : Int) > 4) = false := decide_eq_false (by omega)
    have HK : Hid (decide (ls.length ≤ 4) = true) := hide (decide_eq_true hk)
    go_enter Tryd.func27, Tryd.ntmps27
    go_wp2_with fail
    go_loopw [5, 13] (fun p i wr => ∃ (j : Nat) (q : Int), j ≤ ls.length ∧ i = .int .i64 j ∧ p = .int .i64 q ∧ ascT n 0 ls = ascT n q (ls.drop j) ∧ wr = W) (fun p i wr => ls.length - (intOf i).toNat)
    case atStart => exact ⟨0, 0, Nat.zero_le _, rfl, rfl, rfl, rfl⟩
    case round =>
      obtain ⟨j, q, hj, rfl, rfl, ha, rfl⟩ := hrel
      by_cases hlt : j < ls.length
      · have hx : ls[j]? = some ls[j] := List.getElem?_eq_getElem hlt
        have hdr : ls.drop j = ls[j] :: ls.drop (j + 1) := List.drop_eq_getElem_cons hlt
        generalize ls[j] = l at hx hdr
        rw [hdr] at ha
        simp only [ascT] at ha
        have hlc : ∃ bb oo, la = some ⟨bb, oo, none⟩ ∧ wr.cell? ⟨bb, oo + j, none⟩ = some (.int .i64 l) := by
          rcases (unhide HLS).open with ⟨e, _⟩ | ⟨bb, oo, c', hv', _, _, _, he⟩
          · rw [e] at hx; simp at hx
          · injection hv' with e1 e2 e3
            obtain ⟨u, hu, hat, hux⟩ := he j _ hx
            subst hux
            exact ⟨bb, oo, e1, by simpa using hat.get (j := 0) rfl⟩
        obtain ⟨bb, oo, rfl, k0⟩ := hlc
        have i1 : (j : Int) < (ls.length : Int) := by omega
        have i3 : (0 : Int) ≤ (j : Int) := by omega
        clear hdr hx
        by_cases h1 : l ≤ q
        · have HA : Hid (ascT n 0 ls = false) := hide (by rw [ha, decide_eq_false (show ¬ q < l by omega)]; rfl)
          have d1 : decide (l ≤ q) = true := decide_eq_true h1
          clear ha HLS
          go_wp2_with fail
          exact bodyPost_ret (v := .bool false) (by simp [results, Tryd.results27, go_sem]) rfl ⟨by rw [unhide HA]; simp, rfl⟩
        · have d1 : decide (l ≤ q) = false := decide_eq_false h1
          by_cases h2 : l ≥ (n : Int)
          · have HA : Hid (ascT n 0 ls = false) := hide (by rw [ha, decide_eq_false (show ¬ l < (n : Int) by omega), Bool.and_false, Bool.false_and])
            have d2 : decide (l ≥ (n : Int)) = true := decide_eq_true h2
            clear ha HLS
            go_wp2_with fail
            exact bodyPost_ret (v := .bool false) (by simp [results, Tryd.results27, go_sem]) rfl ⟨by first | rw [unhide HA, Bool.and_false] | rw [unhide HA], rfl⟩
          · have d2 : decide (l ≥ (n : Int)) = false := decide_eq_false h2
            have HA : Hid (ascT n 0 ls = ascT n l (ls.drop (j + 1))) := hide (by rw [ha, decide_eq_true (show q < l by omega), decide_eq_true (show l < (n : Int) by omega)]; rfl)
            clear ha
            go_wp2_with fail
            go_roundw
            case rel => exact ⟨j + 1, l, by omega, by go_num, rfl, unhide HA, by simp⟩
            case measure => simp [intOf]; omega
      · obtain rfl : j = ls.length := by omega
        have HA : Hid (ascT n 0 ls = true) := hide (by rw [ha, List.drop_length]; rfl)
        clear ha HLS
        go_wp2_with fail
        exact bodyPost_ret (v := .bool true) (by simp [results, Tryd.results27, go_sem]) rfl ⟨by rw [unhide HA, unhide HK]; rfl, rfl⟩
  · have hg : decide ((ls.length : Int) > 4) = true := decide_eq_true (by omega)
    have HK : Hid (decide (ls.length ≤ 4) = false) := hide (decide_eq_false hk)
    clear HLS
    go_enter Tryd.func27, Tryd.ntmps27
    go_wp2_with fail
    exact bodyPost_ret (v := .bool false) (by simp [results, Tryd.results27, go_sem]) rfl ⟨by rw [unhide HK]; rfl, rfl⟩
set_option maxHeartbeats 16000000 in
/-- What TableOf guards: a table, or the way ends at neither. -/
theorem iClos {x : Aig} {ls : List Int} {lv : Value} {s0 s1 s2 s3 s4 s5 : Option Addr} {l0 l1 l2 l3 l4 l5 c0 c1 c2 c3 c4 c5 A Lb Li T : Nat} {z : Int} {y : Value} {W : World} (hG : Gt W) (hls : RS 1 RInt W 0 ls lv) (hk : ls.length ≤ 4) (ha : ascT (firstN x + x.ands.length) 0 ls = true) (hn : firstN x + x.ands.length ≤ 1048576) (h0 : 0 ≤ z) (hz : z < 2 * ((firstN x + x.ands.length : Nat) : Int)) (e0 : l0 = x.ins.length) (e2 : l2 = x.latches.length) (e3 : l3 = x.ands.length) (hao : AO (firstN x) x.ands)
    (hcs : ∀ (i : Nat) a, x.ands[i]? = some a → ∃ b o, s3 = some ⟨b, o, none⟩ ∧ W.cell? ⟨b, o + i * 2, none⟩ = some (.int .i64 a.a) ∧ W.cell? ⟨b, o + i * 2 + 1, none⟩ = some (.int .i64 a.b))
    (k0 : W.cell? ⟨A, 0, none⟩ = some (.slice s0 l0 c0)) (k1 : W.cell? ⟨A, 1, none⟩ = some (.slice s1 l1 c1)) (k2 : W.cell? ⟨A, 2, none⟩ = some (.slice s2 l2 c2)) (k3 : W.cell? ⟨A, 3, none⟩ = some (.slice s3 l3 c3)) (k4 : W.cell? ⟨A, 4, none⟩ = some (.slice s4 l4 c4)) (k5 : W.cell? ⟨A, 5, none⟩ = some (.slice s5 l5 c5))
    (kl : W.cell? ⟨Lb, 0, none⟩ = some lv) (kz : W.cell? ⟨Li, 0, none⟩ = some (.int .i64 z)) (kt : W.cell? ⟨T, 0, none⟩ = some y) (kf : W.frozen? ⟨T, 0, none⟩ = false) :
    Calls Tryd.prog 29 #[.pointer (some ⟨A, 0, none⟩), .pointer (some ⟨Lb, 0, none⟩), .pointer (some ⟨Li, 0, none⟩), .pointer (some ⟨T, 0, none⟩)] W fun e w' => (e = .returned (.tuple #[]) ∧ ∃ t V, litT ls.length (allT x ls) z = some t ∧ Below W.heap.size W V ∧ w' = V.setCell ⟨T, 0, none⟩ (.int .i64 ((t : Nat) : Int))) ∨ (e = .panicked (stp 8) ∧ litT ls.length (allT x ls) z = none ∧ Below W.heap.size W w') := by
  have hfn : firstN x = 1 + l0 + l2 := by rw [e0, e2]; unfold firstN; omega
  have hnn : firstN x + x.ands.length = 1 + l0 + l2 + l3 := by rw [hfn, e3]
  obtain ⟨la, lc, hlv⟩ := hls.slice
  subst hlv
  have HNEW := hide (fun V => iNewT s0 s1 s2 s3 s4 s5 l0 l1 l2 l3 l4 l5 c0 c1 c2 c3 c4 c5 V (by omega) (by omega) (by omega))
  have HLF : Hid (∀ (j : Nat) l, ls[j]? = some l → ∃ v : Nat, l = v ∧ v < 1 + l0 + l2 + l3 ∧ (allT x ls)[v]? = some (some (lfT j ls.length))) := hide (fun j l hj => by
    have hg := ascT_gt ls 0 ha j l hj
    refine ⟨l.toNat, by omega, by omega, allT_leaf hao (by omega) (leafOf_at ha hj)⟩)
  have HB : Hid (∀ {b gm gt : Nat} {V : World}, (b ≠ gm ∧ b ≠ gt ∧ gm ≠ gt) → (∀ i, (i = b ∨ i = gm ∨ i = gt) → W.heap.size ≤ i) → Tb b gm gt (1 + l0 + l2 + l3) (.slice s0 l0 c0) (.slice s1 l1 c1) (.slice s2 l2 c2) (.slice s3 l3 c3) (.slice s4 l4 c4) (.slice s5 l5 c5) (1 + l0 + l2) 0 0 [] (fun _ => False) V → Below W.heap.size W V → Calls Tryd.prog 31 #[.pointer (some ⟨b, 0, none⟩), .slice la ls.length lc] V fun e w' => e = .returned (.tuple #[]) ∧ Tb b gm gt (1 + l0 + l2 + l3) (.slice s0 l0 c0) (.slice s1 l1 c1) (.slice s2 l2 c2) (.slice s3 l3 c3) (.slice s4 l4 c4) (.slice s5 l5 c5) (1 + l0 + l2) (tmask ls.length) 1 (allT x ls) (fun v => ∃ i : Nat, ls[i]? = some ((v : Nat) : Int)) w' ∧ Below W.heap.size W w') := hide (fun hd hS hT hb => iBegin hd hS hT hb hG hls hk (by omega) (unhide HLF) (by omega))
  have HLT : Hid (∀ {b gm gt : Nat}, (b ≠ gm ∧ b ≠ gt ∧ gm ≠ gt) → (∀ i, (i = gm ∨ i = gt) → W.heap.size ≤ i) → LitC b gm gt (1 + l0 + l2 + l3) l3 c3 (.slice s0 l0 c0) (.slice s1 l1 c1) (.slice s2 l2 c2) (.slice s4 l4 c4) (.slice s5 l5 c5) s3 x ls W z) := hide (fun hd hS => iLitT hk hd hS hnn.symm (by omega) e3 hao hcs z h0 (by omega))
  have HFN := hide hfn
  clear hG hls ha hao hcs HLF hfn hnn e0 e2 e3 h0 hz hn hk
  go_enter Tryd.func29, Tryd.ntmps29
  go_wp2_with fail
  refine (unhide HNEW _).mono ?_
  rintro e W1 ⟨b, gm, gt, rfl, hd, g1, g2, g3, hT1, hb1⟩
  have j1 := cell_later hb1 kl
  have HS : Hid (∀ i, (i = b ∨ i = gm ∨ i = gt) → W.heap.size ≤ i) := hide (fun i h => by rcases h with rfl | rfl | rfl <;> assumption)
  have HD := hide hd
  have HT1 := hide hT1
  have HB1 := hide hb1
  clear HNEW hd hT1 hb1 g1 g2 g3
  go_wp2_with fail
  refine (unhide HB (unhide HD) (unhide HS) (unhide HT1) (unhide HB1)).mono ?_
  rintro e W2 ⟨rfl, hT2, hb2⟩
  have j2 := cell_later hb2 kz
  have HT2 : Hid (Tb b gm gt (1 + l0 + l2 + l3) (.slice s0 l0 c0) (.slice s1 l1 c1) (.slice s2 l2 c2) (.slice s3 l3 c3) (.slice s4 l4 c4) (.slice s5 l5 c5) (firstN x) (tmask ls.length) 1 (allT x ls) (fun v => leafOf ls v ≠ none) W2) := hide (by rw [unhide HFN]; exact hT2.mono (fun v h => leafOf_in h))
  have HB2 := hide hb2
  clear hT2 hb2 HT1 HB1 HB j1
  go_wp2_with fail
  refine (unhide HLT (unhide HD) (fun i h => unhide HS i (h.elim (fun e => .inr (.inl e)) (fun e => .inr (.inr e)))) W2 (unhide HT2) (unhide HB2)).mono ?_
  rintro e W3 ⟨⟨t, ht, rfl, hT3⟩ | ⟨hno, rfl⟩, hF⟩
  · have hb3 := FS.below (unhide HB2) hF (fun i h => unhide HS i (h.elim (fun e => .inr (.inl e)) (fun e => .inr (.inr e)))) (unhide HB2).size
    have j3 := cell_later hb3 kt
    have j4 := frozen_later hb3 kt kf
    have HE := hide (And.intro ht hb3)
    clear ht hb3 hT3 hF HLT HT2 HB2
    go_wp2_with fail
    exact bodyPost_end (v := .tuple #[]) (by simp [results, Tryd.results29, go_sem]) rfl (.inl ⟨rfl, t, W3, (unhide HE).1, (unhide HE).2, rfl⟩)
  · have hb3 := FS.below (unhide HB2) hF (fun i h => unhide HS i (h.elim (fun e => .inr (.inl e)) (fun e => .inr (.inr e)))) (unhide HB2).size
    exact ⟨rfl, .inr ⟨rfl, hno, hb3⟩⟩
end Go.Proofs.YtpkgcccbhfdaiaaDoor
namespace Go.Proofs.YtpkgcccbhfdaiaaDoor
open Go Go.RowKit Gs
set_option linter.unusedVariables false
set_option linter.unusedSimpArgs false
set_option maxRecDepth 100000
theorem RAig.open6 {x : Aig} {u : List Value} {w : World} {B : Nat} (hr : RAig w B x u) : ∃ s0 s1 s2 s3 s4 s5 c0 c1 c2 c3 c4 c5, u = [.slice s0 x.ins.length c0, .slice s1 x.clocks.length c1, .slice s2 x.latches.length c2, .slice s3 x.ands.length c3, .slice s4 x.outs.length c4, .slice s5 x.checks.length c5] ∧ RS 2 RAndG w B x.ands (.slice s3 x.ands.length c3) := by
  obtain ⟨v0, v1, v2, v3, v4, v5, rfl, h0, h1, h2, h3, h4, h5⟩ := hr
  obtain ⟨a0, c0, e0⟩ := h0.slice
  obtain ⟨a1, c1, e1⟩ := h1.slice
  obtain ⟨a2, c2, e2⟩ := h2.slice
  obtain ⟨a3, c3, e3⟩ := h3.slice
  obtain ⟨a4, c4, e4⟩ := h4.slice
  obtain ⟨a5, c5, e5⟩ := h5.slice
  subst e0 e1 e2 e3 e4 e5
  exact ⟨_, _, _, _, _, _, _, _, _, _, _, _, rfl, h3⟩
theorem szAig_parts {x : Aig} (h : szAig x ≤ 1048576) : x.ins.length ≤ 1048576 ∧ x.clocks.length ≤ 1048576 ∧ x.latches.length ≤ 1048576 ∧ x.ands.length ≤ 1048576 ∧ x.outs.length ≤ 1048576 ∧ x.checks.length ≤ 1048576 := by
  have hz : szAig x = szL (fun (s : ByteArray) => s.size) x.ins + szL (fun (s : ByteArray) => s.size) x.clocks + szL szLatch x.latches + szL szAndG x.ands + szL szPin x.outs + szL szPin x.checks := rfl
  have z0 := szL_sm (fun (s : ByteArray) => s.size) x.ins
  have z1 := szL_sm (fun (s : ByteArray) => s.size) x.clocks
  have z2 := szL_sm szLatch x.latches
  have z3 := szL_sm szAndG x.ands
  have z4 := szL_sm szPin x.outs
  have z5 := szL_sm szPin x.checks
  omega
theorem ands_cells {xs : List AndG} {s3 : Option Addr} {l3 c3 : Nat} {w : World} (h3 : RS 2 RAndG w 0 xs (.slice s3 l3 c3)) : ∀ (i : Nat) a, xs[i]? = some a → ∃ b o, s3 = some ⟨b, o, none⟩ ∧ w.cell? ⟨b, o + i * 2, none⟩ = some (.int .i64 a.a) ∧ w.cell? ⟨b, o + i * 2 + 1, none⟩ = some (.int .i64 a.b) := by
  intro i a hi
  rcases h3.open with ⟨e, _⟩ | ⟨bb, oo, c', hv', _, _, _, he⟩
  · rw [e] at hi; simp at hi
  · injection hv' with e1 e2 e3
    obtain ⟨u, hu, hat, hux⟩ := he i _ hi
    subst hux
    exact ⟨bb, oo, e1, by simpa using hat.get (j := 0) rfl, hat.get (j := 1) rfl⟩
/-- What TableOf answers. -/
def tabI (x : Aig) (z : Int) (ls : List Int) : Int × Int :=
  if (aigI x && litB z (firstN x + x.ands.length) && (decide (ls.length ≤ 4) && ascT (firstN x + x.ands.length) 0 ls)) = true then
    match litT ls.length (allT x ls) z with
    | some t => ((t : Int), 0)
    | none => (0, 8)
  else (0, 1)
def FI3 (s0 s1 s2 s3 s4 s5 : Option Addr) (l0 l1 l2 l3 l4 l5 c0 c1 c2 c3 c4 c5 B FA N : Nat) : Nat → Value → Prop
  | 0, v => v = .agg #[.slice s0 l0 c0, .slice s1 l1 c1, .slice s2 l2 c2, .slice s3 l3 c3, .slice s4 l4 c4, .slice s5 l5 c5]
  | 1, v => v = .int .i64 (FA : Int)
  | 2, v => v = .pointer (some ⟨B, 3, none⟩)
  | 3, v => v = .slice s3 l3 c3
  | 4, v => v = .int .i64 (l3 : Int)
  | 5, v => v = .int .i64 (N : Int)
  | 6, v => v = .int .i64 (N : Int)
  | _, _ => True
set_option maxHeartbeats 32000000 in
theorem iTableOf (x : Aig) (u : List Value) (z : Int) (ls : List Int) (lv : Value) (w : World) (hl : szAig x ≤ 1048576) (hr : RAig w 0 x u) (hls : RS 1 RInt w 0 ls lv) (hG : Gt w) :
    Calls Tryd.prog 8 #[.agg u.toArray, .int .i64 z, lv] w fun e w' => e = .returned (.tuple #[.int .i64 (tabI x z ls).1, .int .i64 (tabI x z ls).2]) ∧ Below w.heap.size w w' := by
  have HOK := hide (fun (V : World) (hb : Below w.heap.size w V) => iAigOK x u V hl (hr.later hb))
  obtain ⟨b0, b1, b2, b3, b4, b5⟩ := szAig_parts hl
  obtain ⟨s0, s1, s2, s3, s4, s5, c0, c1, c2, c3, c4, c5, rfl, h3⟩ := hr.open6
  have hcs := ands_cells h3
  have HFT := hide (fun (n : Nat) (V : World) (hb : Below w.heap.size w V) => iFits n (hls.later RInt.keeps hb))
  obtain ⟨la, lc, hlv⟩ := hls.slice
  subst hlv
  obtain ⟨ln, hln⟩ : ∃ ln, ln = ls.length := ⟨_, rfl⟩
  obtain ⟨l0, e0⟩ : ∃ l, l = x.ins.length := ⟨_, rfl⟩
  obtain ⟨l1, e1⟩ : ∃ l, l = x.clocks.length := ⟨_, rfl⟩
  obtain ⟨l2, e2⟩ : ∃ l, l = x.latches.length := ⟨_, rfl⟩
  obtain ⟨l3, e3⟩ : ∃ l, l = x.ands.length := ⟨_, rfl⟩
  obtain ⟨l4, e4⟩ : ∃ l, l = x.outs.length := ⟨_, rfl⟩
  obtain ⟨l5, e5⟩ : ∃ l, l = x.checks.length := ⟨_, rfl⟩
  obtain ⟨FA, hFA⟩ : ∃ FA : Nat, FA = 1 + l0 + l2 := ⟨_, rfl⟩
  obtain ⟨N, hN⟩ : ∃ N : Nat, N = FA + l3 := ⟨_, rfl⟩
  have eN : firstN x + x.ands.length = N := by rw [hN, hFA, e0, e2, e3]; rfl
  show Calls Tryd.prog 8 #[.agg #[.slice s0 x.ins.length c0, .slice s1 x.clocks.length c1, .slice s2 x.latches.length c2, .slice s3 x.ands.length c3, .slice s4 x.outs.length c4, .slice s5 x.checks.length c5], .int .i64 z, .slice la ls.length lc] w _
  change Hid (∀ (V : World), Below w.heap.size w V → Calls Tryd.prog 24 #[.agg #[.slice s0 x.ins.length c0, .slice s1 x.clocks.length c1, .slice s2 x.latches.length c2, .slice s3 x.ands.length c3, .slice s4 x.outs.length c4, .slice s5 x.checks.length c5]] V _) at HOK
  rw [← e0, ← e1, ← e2, ← e3, ← e4, ← e5] at HOK
  rw [← e0, ← e1, ← e2, ← e3, ← e4, ← e5, ← hln]
  rw [← hln] at HFT hls
  rw [← e3] at h3
  rw [← e0] at b0
  rw [← e2] at b2
  rw [← e3] at b3
  have hsum : (FA : Int) + (l3 : Int) = (N : Int) := by omega
  have hFb : FA ≤ 2097153 := by omega
  have hwN : IntKind.i64.wrap (N : Int) = (N : Int) := by rw [IntKind.wrap_i64] <;> omega
  have hNb : N ≤ 4194304 := by omega
  have HFI : Hid (∀ V : World, Calls Tryd.prog 25 #[.agg #[.slice s0 l0 c0, .slice s1 l1 c1, .slice s2 l2 c2, .slice s3 l3 c3, .slice s4 l4 c4, .slice s5 l5 c5]] V fun e w' => e = .returned (.int .i64 (FA : Int)) ∧ Below V.heap.size V w') := hide (fun V => by
    rw [hFA]
    exact iFirst s0 s2 l0 l2 c0 c2 _ _ _ _ V b0 b2)
  have HLB := hide (fun V => iLit z N V hNb)
  obtain ⟨WB, hWB⟩ : ∃ WB, WB = (((w.alloc (.cells #[.slice s0 l0 c0, .slice s1 l1 c1, .slice s2 l2 c2, .slice s3 l3 c3, .slice s4 l4 c4, .slice s5 l5 c5] 36)).alloc (.cells #[.int .i64 z] 3)).alloc (.cells #[.slice la ln lc] 28)) := ⟨_, rfl⟩
  have hX0 : B6 36 w (.slice s0 l0 c0) (.slice s1 l1 c1) (.slice s2 l2 c2) (.slice s3 l3 c3) (.slice s4 l4 c4) (.slice s5 l5 c5) WB := by rw [hWB]; exact bal (bal (brf _) _) _
  have hsz : WB.heap.size = w.heap.size + 1 + 1 + 1 := by rw [hWB]; simp
  have hkz : WB.cell? ⟨w.heap.size + 1, 0, none⟩ = some (.int .i64 z) := by
    rw [hWB]
    have e : (w.alloc (.cells #[.slice s0 l0 c0, .slice s1 l1 c1, .slice s2 l2 c2, .slice s3 l3 c3, .slice s4 l4 c4, .slice s5 l5 c5] 36)).heap.size = w.heap.size + 1 := by simp
    rw [← e]
    exact cell_later (bal (brf _) _) (by rw [World.cell?_alloc_new]; rfl)
  have hkl : WB.cell? ⟨w.heap.size + 1 + 1, 0, none⟩ = some (.slice la ln lc) := by
    rw [hWB]
    have e : ((w.alloc (.cells #[.slice s0 l0 c0, .slice s1 l1 c1, .slice s2 l2 c2, .slice s3 l3 c3, .slice s4 l4 c4, .slice s5 l5 c5] 36)).alloc (.cells #[.int .i64 z] 3)).heap.size = w.heap.size + 1 + 1 := by simp
    rw [← e]
    rw [World.cell?_alloc_new]; rfl
  have hb0 : Below w.heap.size w WB := hX0.below
  obtain ⟨q0, q1, q2, q3, q4, q5⟩ := hX0.get
  have HX0 := hide hX0
  have HB0 := hide hb0
  have HKZ := hide hkz
  have HKL := hide hkl
  have HSZ := hide hsz
  have HWB := hide hWB
  have HLN := hide hln
  clear hWB hln
  cases hok : aigI x
  · have HR : Hid (tabI x z ls = (0, 1)) := hide (by unfold tabI; rw [hok]; rfl)
    rw [hok] at HOK
    clear hr h3 hcs hls hG hl hok HFT hFA hN eN e0 e1 e2 e3 e4 e5 hX0 hsz hkz hkl hb0
    go_enter Tryd.func8, Tryd.ntmps8
    go_wp2_with fail
    rw [← unhide HWB]
    refine (unhide HOK _ (unhide HB0)).mono ?_
    rintro e W1 ⟨rfl, hb1⟩
    have HB := hide (btr (unhide HB0) hb1)
    clear hb1
    go_wp2_with fail
    exact bodyPost_ret (v := .tuple #[.int .i64 0, .int .i64 1]) (by simp [results, Tryd.results8, go_sem]) rfl ⟨by rw [unhide HR], unhide HB⟩
  have hfit := Fit.of hok
  rw [hok] at HOK
  have HCL := hide (fun (V : World) (hb : Below w.heap.size w V) (T : Nat) (y : Value) (hk : ln ≤ 4) (ha : ascT N 0 ls = true) (h0 : 0 ≤ z) (hz : z < 2 * (N : Int)) (kA : B6 36 w (.slice s0 l0 c0) (.slice s1 l1 c1) (.slice s2 l2 c2) (.slice s3 l3 c3) (.slice s4 l4 c4) (.slice s5 l5 c5) V) (kl : V.cell? ⟨w.heap.size + 1 + 1, 0, none⟩ = some (.slice la ln lc)) (kz : V.cell? ⟨w.heap.size + 1, 0, none⟩ = some (.int .i64 z)) (kt : V.cell? ⟨T, 0, none⟩ = some y) (kf : V.frozen? ⟨T, 0, none⟩ = false) =>
    iClos (x := x) (T := T) (hG.later hb) (hls.later RInt.keeps hb) (by rw [← unhide HLN]; exact hk) (by rw [eN]; exact ha) (by have := hfit.cnt; unfold firstN; omega) h0 (by rw [eN]; exact hz) e0 e2 e3 hfit.ands (fun i a hi => by obtain ⟨b, o, h1, h2, h3⟩ := hcs i a hi; exact ⟨b, o, h1, cell_later hb h2, cell_later hb h3⟩) kA.get.1 kA.get.2.1 kA.get.2.2.1 kA.get.2.2.2.1 kA.get.2.2.2.2.1 kA.get.2.2.2.2.2 kl kz kt kf)
  have HR : Hid (tabI x z ls = if (litB z N && (decide (ls.length ≤ 4) && ascT N 0 ls)) = true then (match litT ls.length (allT x ls) z with | some t => ((t : Int), (0 : Int)) | none => (0, 8)) else (0, 1)) := hide (by unfold tabI; rw [hok, eN]; rfl)
  clear hr h3 hcs hls hG hl hok hFA hN eN e0 e1 e2 e3 e4 e5 hX0 hsz hkz hkl hb0 hfit
  go_enter Tryd.func8, Tryd.ntmps8
  go_wp2_with fail
  rw [← unhide HWB]
  refine (unhide HOK _ (unhide HB0)).mono ?_
  rintro e W1 ⟨rfl, hb1⟩
  have HX1 := hide ((unhide HX0).then hb1)
  have HB1 := hide hb1
  clear hb1 q0 q1 q2 q3 q4 q5 HWB
  go_wp2_with fail
  refine wp_plan (GF (FI3 s0 s1 s2 s3 s4 s5 l0 l1 l2 l3 l4 l5 c0 c1 c2 c3 c4 c5 w.heap.size FA N)) (JB W1) (by kernel_rfl) 34 (by kernel_rfl) (by kernel_rfl) ?hj ?hs ?hf
  case hj => exact bdr (brf W1)
  case hs =>
    refine ⟨?_, ?_, ?_, ?_, ?_, ?_, ?_, trivial⟩
    · exact st_val rfl (fun l a V hp ha => ⟨.agg #[.slice s0 l0 c0, .slice s1 l1 c1, .slice s2 l2 c2, .slice s3 l3 c3, .slice s4 l4 c4, .slice s5 l5 c5], by
        have x3 := (ev_form a 3).trans (old hp 3 (v := .pointer (some ⟨w.heap.size, 0, none⟩)) (by kernel_rfl) (by kernel_rfl))
        obtain ⟨q0, q1, q2, q3, q4, q5⟩ := ((unhide HX1).then hp.j).get
        go_simp, rfl⟩)
    · exact st_call (f := 25) rfl (fun l a V hp ha => ⟨#[.agg #[.slice s0 l0 c0, .slice s1 l1 c1, .slice s2 l2 c2, .slice s3 l3 c3, .slice s4 l4 c4, .slice s5 l5 c5]], by
        have x14 := (ev_form a 14).trans (show a.eval (.tmp 14) = .agg #[.slice s0 l0 c0, .slice s1 l1 c1, .slice s2 l2 c2, .slice s3 l3 c3, .slice s4 l4 c4, .slice s5 l5 c5] from kn hp ha 14 0 (by kernel_rfl) (by kernel_rfl))
        go_simp, (unhide HFI V).mono (by rintro e V1 ⟨rfl, hb⟩; exact ⟨_, rfl, rfl, hb⟩)⟩)
    · exact st_val rfl (fun l a V hp ha => ⟨.pointer (some ⟨w.heap.size, 3, none⟩), by
        have x3 := (ev_form a 3).trans (old hp 3 (v := .pointer (some ⟨w.heap.size, 0, none⟩)) (by kernel_rfl) (by kernel_rfl))
        go_simp, rfl⟩)
    · exact st_val rfl (fun l a V hp ha => ⟨.slice s3 l3 c3, by
        have x16 := (ev_form a 16).trans (show a.eval (.tmp 16) = .pointer (some ⟨w.heap.size, 3, none⟩) from kn hp ha 16 2 (by kernel_rfl) (by kernel_rfl))
        obtain ⟨q0, q1, q2, q3, q4, q5⟩ := ((unhide HX1).then hp.j).get
        go_simp, rfl⟩)
    · exact st_val rfl (fun l a V hp ha => ⟨.int .i64 (l3 : Int), by
        have x17 := (ev_form a 17).trans (show a.eval (.tmp 17) = .slice s3 l3 c3 from kn hp ha 17 3 (by kernel_rfl) (by kernel_rfl))
        go_simp, rfl⟩)
    · exact st_val rfl (fun l a V hp ha => ⟨.int .i64 (N : Int), by
        have x15 := (ev_form a 15).trans (show a.eval (.tmp 15) = .int .i64 (FA : Int) from kn hp ha 15 1 (by kernel_rfl) (by kernel_rfl))
        have x18 := (ev_form a 18).trans (show a.eval (.tmp 18) = .int .i64 (l3 : Int) from kn hp ha 18 4 (by kernel_rfl) (by kernel_rfl))
        have hw := hwN
        go_simp, rfl⟩)
    · exact st_val rfl (fun l a V hp ha => ⟨.int .i64 (N : Int), by
        have x19 := (ev_form a 19).trans (show a.eval (.tmp 19) = .int .i64 (N : Int) from kn hp ha 19 5 (by kernel_rfl) (by kernel_rfl))
        go_simp, rfl⟩)
  case hf =>
    intro l a V hp hall
    have h8 := hp.good 6 _ 8 rfl rfl (hall 6 (by decide))
    obtain ⟨us, rfl, hus⟩ := putAll_of [14, 15, 16, 17, 18, 19, 8] hp.nt hp.df (fun t ht => hp.keep t (dstIn (by kernel_rfl) ht))
    have hu8 : us 8 = .int .i64 (N : Int) := (hus 8).trans h8
    have hbV := btr (unhide HB1) hp.j
    have HXV := hide ((unhide HX1).then hp.j)
    have HBV := hide (btr (unhide HB0) hbV)
    have jz := cell_later hbV (unhide HKZ)
    have jl := cell_later hbV (unhide HKL)
    have HSV : Hid (w.heap.size + 1 + 1 < V.heap.size) := hide (by have := hbV.size; have := unhide HSZ; omega)
    clear hp hall hus h8 hbV HX1 HB1 HOK HFI
    simp only [putAll, List.foldl, Act.put, List.setIfInBounds_toArray, List.set_cons_zero, List.set_cons_succ, hu8]
    clear hu8
    generalize us 14 = z14 at *
    generalize us 15 = z15 at *
    generalize us 16 = z16 at *
    generalize us 17 = z17 at *
    generalize us 18 = z18 at *
    generalize us 19 = z19 at *
    cases hL : litB z N
    · have HR2 : Hid (tabI x z ls = (0, 1)) := hide (by rw [unhide HR, hL]; rfl)
      rw [hL] at HLB
      clear HR HCL HFT hL
      go_wp2_with fail
      refine (unhide HLB _).mono ?_
      rintro e W3 ⟨rfl, hW3⟩
      have hW4 := hW3.symm
      clear hW3
      subst hW4
      go_wp2_with fail
      exact bodyPost_ret (v := .tuple #[.int .i64 0, .int .i64 1]) (by simp [results, Tryd.results8, go_sem]) rfl ⟨by rw [unhide HR2], unhide HBV⟩
    obtain ⟨hz0, hz1⟩ := litB_true hL
    have HFV : Hid (Calls Tryd.prog 27 #[.slice la ln lc, .int .i64 (N : Int)] V fun e w' => e = .returned (.bool (decide (ls.length ≤ 4) && ascT N 0 ls)) ∧ w' = V) := hide (by have h := unhide HFT N V (unhide HBV); rw [← unhide HLN]; exact h)
    rw [hL] at HLB HR
    clear HFT
    cases hF : (decide (ls.length ≤ 4) && ascT N 0 ls)
    · have HR2 : Hid (tabI x z ls = (0, 1)) := hide (by rw [unhide HR, hF]; rfl)
      rw [hF] at HFV
      clear HR HCL hF hL hz0 hz1
      go_wp2_with fail
      refine (unhide HLB _).mono ?_
      rintro e W3 ⟨rfl, hW3⟩
      have hW4 := hW3.symm
      clear hW3
      subst hW4
      go_wp2_with fail
      refine (unhide HFV).mono ?_
      rintro e W3 ⟨rfl, hW3⟩
      have hW4 := hW3.symm
      clear hW3
      subst hW4
      go_wp2_with fail
      exact bodyPost_ret (v := .tuple #[.int .i64 0, .int .i64 1]) (by simp [results, Tryd.results8, go_sem]) rfl ⟨by rw [unhide HR2], unhide HBV⟩
    have hF2 := hF
    rw [Bool.and_eq_true, decide_eq_true_eq] at hF2
    rw [hF] at HFV HR
    have HR3 : Hid (tabI x z ls = (match litT ls.length (allT x ls) z with | some t => ((t : Int), (0 : Int)) | none => (0, 8))) := hide (by rw [unhide HR]; rfl)
    have hmf : ∀ (fn : Fn) (first cap : Array Value) (w : World), (Instr.makeFunc fn first cap).run Tryd.prog w = .ok (.func fn first cap) w := fun _ _ _ _ => rfl
    obtain ⟨VT, hVT⟩ : ∃ VT, VT = V.alloc (.cells #[.int .i64 0] 3) := ⟨_, rfl⟩
    have hbT : Below V.heap.size V VT := by rw [hVT]; exact bal (brf V) _
    have hcT : VT.cell? ⟨V.heap.size, 0, none⟩ = some (.int .i64 0) := by rw [hVT, World.cell?_alloc_new]; rfl
    have hfT : VT.frozen? ⟨V.heap.size, 0, none⟩ = false := by rw [hVT]; exact (TP_made V #[.int .i64 0] 3 1 rfl 0 (by decide)).2
    have hsT : VT.heap.size = V.heap.size + 1 := by rw [hVT]; simp
    have HBT := hide (btr (unhide HBV) hbT)
    have HVT := hide hVT
    have hbC : Below VT.heap.size VT (VT.alloc (.cells #[.int .i64 0] 3)) := bal (brf VT) _
    have hbVC := btr hbT hbC
    have cTC := cell_later hbC hcT
    have fTC := frozen_later hbC hcT hfT
    have HGD := hide (iGuard #[.pointer (some ⟨w.heap.size, 0, none⟩), .pointer (some ⟨w.heap.size + 1 + 1, 0, none⟩), .pointer (some ⟨w.heap.size + 1, 0, none⟩), .pointer (some ⟨V.heap.size, 0, none⟩)] VT
      (fun w' => ∃ t U, litT ls.length (allT x ls) z = some t ∧ Below (VT.alloc (.cells #[.int .i64 0] 3)).heap.size (VT.alloc (.cells #[.int .i64 0] 3)) U ∧ w' = U.setCell ⟨V.heap.size, 0, none⟩ (.int .i64 ((t : Nat) : Int)))
      (fun zz w' => zz = 8 ∧ litT ls.length (allT x ls) z = none ∧ Below (VT.alloc (.cells #[.int .i64 0] 3)).heap.size (VT.alloc (.cells #[.int .i64 0] 3)) w') ((unhide HCL (VT.alloc (.cells #[.int .i64 0] 3)) (btr (unhide HBV) hbVC) V.heap.size (.int .i64 0) (by rw [unhide HLN]; exact hF2.1) hF2.2 hz0 hz1 ((unhide HXV).then hbVC) (cell_later hbVC jl) (cell_later hbVC jz) cTC fTC).mono (by
        have nc : (VT.alloc (.cells #[.int .i64 0] 3)).cell? ⟨VT.heap.size, 0, none⟩ = some (.int .i64 0) := by rw [World.cell?_alloc_new]; rfl
        have nf : (VT.alloc (.cells #[.int .i64 0] 3)).frozen? ⟨VT.heap.size, 0, none⟩ = false := (TP_made VT #[.int .i64 0] 3 1 rfl 0 (by decide)).2
        rintro e U (⟨rfl, t, U0, ht, hbU, rfl⟩ | ⟨rfl, hno, hbU⟩)
        · exact ⟨.inl ⟨rfl, t, U0, ht, hbU, rfl⟩, otherCell _ _ _ _ (cell_later hbU nc) (.inl (by omega)), by rw [frozSet]; exact frozen_later hbU nc nf⟩
        · exact ⟨.inr ⟨8, rfl, rfl, hno, hbU⟩, cell_later hbU nc, frozen_later hbU nc nf⟩)))
    clear HCL HR hF hL hz0 hz1 hF2 hVT hbC hbVC
    have HE : Hid (∀ U : World, Below (VT.alloc (.cells #[.int .i64 0] 3)).heap.size (VT.alloc (.cells #[.int .i64 0] 3)) U → U.cell? ⟨V.heap.size, 0, none⟩ = some (.int .i64 0) ∧ U.frozen? ⟨V.heap.size, 0, none⟩ = false ∧ Below w.heap.size w U) := hide (fun U hb => ⟨cell_later hb cTC, frozen_later hb cTC fTC, btr (btr (unhide HBT) (bal (brf VT) _)) hb⟩)
    have HLE : Hid (w.heap.size ≤ V.heap.size ∧ w.heap.size ≤ VT.heap.size) := hide (by have := unhide HSV; omega)
    have hne : VT.heap.size ≠ V.heap.size := by omega
    have HNE := hide hne
    clear cTC fTC hcT hfT hsT hbT hne
    go_wp2_with fail
    refine (unhide HLB _).mono ?_
    rintro e W3 ⟨rfl, hW3⟩
    have hW4 := hW3.symm
    clear hW3
    subst hW4
    go_wp2_with fail
    refine (unhide HFV).mono ?_
    rintro e W3 ⟨rfl, hW3⟩
    have hW4 := hW3.symm
    clear hW3
    subst hW4
    go_wp2_with fail
    rw [← unhide HVT]
    refine (unhide HGD).mono ?_
    rintro e W5 (⟨U1, rfl, ⟨t, U, ht, hbU, rfl⟩, rfl⟩ | ⟨zz, U, rfl, ⟨rfl, hno, hbU⟩, rfl⟩)
    · obtain ⟨g1, g2, g3⟩ := unhide HE U hbU
      have k9 : (((U.setCell ⟨V.heap.size, 0, none⟩ (.int .i64 ((t : Nat) : Int))).setCell ⟨VT.heap.size, 0, none⟩ (.int .i64 0)).alloc (.cells #[.int .i64 0] 91)).cell? ⟨V.heap.size, 0, none⟩ = some (.int .i64 ((t : Nat) : Int)) := cell_later (bal (brf _) _) (otherCell _ _ _ _ (sameCell _ _ _ _ g1) (.inl (Ne.symm (unhide HNE))))
      have HB9 : Hid (Below w.heap.size w (((U.setCell ⟨V.heap.size, 0, none⟩ (.int .i64 ((t : Nat) : Int))).setCell ⟨VT.heap.size, 0, none⟩ (.int .i64 0)).alloc (.cells #[.int .i64 0] 91))) := hide (bal (bst (bst g3 (unhide HLE).1 _) (unhide HLE).2 _) _)
      have HR4 : Hid (tabI x z ls = ((t : Int), 0)) := hide (by rw [unhide HR3, ht])
      clear HR3 ht HE HGD hbU g1 g2 g3
      generalize (((U.setCell ⟨V.heap.size, 0, none⟩ (.int .i64 ((t : Nat) : Int))).setCell ⟨VT.heap.size, 0, none⟩ (.int .i64 0)).alloc (.cells #[.int .i64 0] 91)) = W9 at *
      go_wp2_with fail
      exact bodyPost_ret (v := .tuple #[.int .i64 (t : Int), .int .i64 0]) (by simp [results, Tryd.results8, go_sem]) rfl ⟨by rw [unhide HR4], unhide HB9⟩
    · obtain ⟨g1, g2, g3⟩ := unhide HE U hbU
      have k9 : ((U.setCell ⟨VT.heap.size, 0, none⟩ (.int .i64 8)).alloc (.cells #[.int .i64 8] 91)).cell? ⟨V.heap.size, 0, none⟩ = some (.int .i64 0) := cell_later (bal (brf _) _) (otherCell _ _ _ _ g1 (.inl (Ne.symm (unhide HNE))))
      have HB9 : Hid (Below w.heap.size w ((U.setCell ⟨VT.heap.size, 0, none⟩ (.int .i64 8)).alloc (.cells #[.int .i64 8] 91))) := hide (bal (bst g3 (unhide HLE).2 _) _)
      have HR4 : Hid (tabI x z ls = (0, 8)) := hide (by rw [unhide HR3, hno])
      clear HR3 hno HE HGD hbU g1 g2 g3
      generalize ((U.setCell ⟨VT.heap.size, 0, none⟩ (.int .i64 8)).alloc (.cells #[.int .i64 8] 91)) = W9 at *
      go_wp2_with fail
      exact bodyPost_ret (v := .tuple #[.int .i64 0, .int .i64 8]) (by simp [results, Tryd.results8, go_sem]) rfl ⟨by rw [unhide HR4], unhide HB9⟩
end Go.Proofs.YtpkgcccbhfdaiaaDoor
