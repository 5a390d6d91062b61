/- What the specification's l03Is answers, and its NodeOK. -/
import Derived.Test.YtlcpmbdckmdabaaGreatDoorNF5
import Derived.Test.YtlcpmbdckmdabaaGreatDoorNG2
import Derived.Test.YtlcpmbdckmdabaaGreatDoorNG3
import Derived.Test.YtlcpmbdckmdabaaGreatDoorNG4
namespace Go.Proofs.YtlcpmbdckmdabaaGreatDoor
open Go.RowKit Nt
set_option linter.unusedVariables false
set_option maxRecDepth 100000
theorem isOne (n : Nd) (ih : ∀ x ∈ n.kids, IsC x) (ih2 : ∀ x ∈ n.kids, ∀ y ∈ x.kids, IsC y) : IsC n := by
  intro v w c hc ht hr
  simp only [lettersL, List.mem_cons, List.mem_nil_iff, or_false] at hc
  rcases hc with rfl | rfl | rfl | rfl | rfl | rfl | rfl | rfl | rfl | rfl | rfl | rfl | rfl | rfl
  · exact isTy n ih v w ht hr
  · exact isNa n v w ht hr
  · exact isT n ih v w ht hr
  · exact isBl n ih v w ht hr
  · exact isBB n ih v w ht hr ih2
  · exact isPa n v w ht hr ih2
  · exact isPo n v w ht hr ih2
  · exact isFo n v w ht hr ih2
  · exact isIt n ih v w ht hr
  · exact isCo n v w ht hr ih2
  · exact isMo n ih v w ht hr
  · exact isIm n ih v w ht hr
  · exact isS n ih v w ht hr ih2
  · exact isE n ih v w ht hr
theorem isAll2 : ∀ n : Nd, IsC n ∧ ∀ x ∈ n.kids, IsC x := Nd.ind fun n ih => ⟨isOne n (fun x hx => (ih x hx).1) (fun x hx => (ih x hx).2), fun x hx => (ih x hx).1⟩
/-- What l03Is answers. -/
theorem isAll (n : Nd) : IsC n := (isAll2 n).1
/-- What the specification's NodeOK answers. -/
theorem okN_eq (n : Nd) : okN n = (ftB n 1 8192 && (decide (n.kind = 1) && ((n.text.size == 0) && n.kids.all (okIs 109)))) := by
  unfold okN ftB fitsB
  have e1 : decide (dep n + 1 ≤ 41) = decide (dep n ≤ 40) := by rw [Bool.eq_iff_iff]; simp only [decide_eq_true_eq]; omega
  rw [e1]
  by_cases h1 : n.kind = 1
  · rw [fm_of n 1 h1 (A := (n.text.size == 0)) (B := n.kids.all (okIs 109)) rfl (allB_of (c := 109) (by decide) n.kids).symm, decide_eq_true h1]
    generalize decide (dep n ≤ 40) = a
    generalize decide (cnt n ≤ 8192) = b
    generalize (n.text.size == 0) = c
    generalize n.kids.all (okIs 109) = d
    revert a b c d; decide
  · rw [decide_eq_false h1]
    simp
theorem gb_below2 {w v v1 : World} {p : Nat} (h : Below w.heap.size w v) (hg : v.grownBy v1 (some p)) (hp : w.heap.size ≤ p) : Below w.heap.size w v1 := h.grown hg h.size (fun k hk => by injection hk; omega)
set_option maxHeartbeats 800000 in
theorem sNodeOK (n : Nd) (v : Value) (w : World) (ht : n.text.size ≤ maxLen) (hr : RdK w n.kids v) :
    Calls Tryz.prog 5 #[ndV n v] w fun e w' => e = .returned (.bool (okN n)) ∧ Below w.heap.size w w' := by
  rw [okN_eq]
  have hl := len_ok hr
  have HR := hide hr
  have FT := hide (fun (wy : World) (hb : Below w.heap.size w wy) (hpt : Pt (w.heap.size + 1) 8192 wy) => ftN n v w wy 1 8192 (w.heap.size + 1) (by decide) (by decide) hr hb (Nat.le_succ _) hpt)
  have AL := hide (fun w' hr' => allN n (fun x _ => isAll x) v w' 0 109 (by decide) (by decide) hr')
  rw [List.drop_zero] at AL
  obtain ⟨a0, c0, hv0⟩ := RdK_slice hr
  subst hv0
  unfold ndV at FT AL ⊢
  clear hr
  have hsz : (w.alloc (Obj.cells #[Value.int IntKind.i64 n.kind, Value.string n.text, Value.slice a0 n.kids.length c0] 29)).heap.size = w.heap.size + 1 := by simp
  have HB : Hid (∀ t, Below w.heap.size w ((w.alloc (Obj.cells #[Value.int IntKind.i64 n.kind, Value.string n.text, Value.slice a0 n.kids.length c0] 29)).alloc (Obj.cells #[Value.int IntKind.i64 8192] t))) := hide (fun t => bal (bal (brf w) _) _)
  have HPT : Hid (∀ t, Pt (w.heap.size + 1) 8192 ((w.alloc (Obj.cells #[Value.int IntKind.i64 n.kind, Value.string n.text, Value.slice a0 n.kids.length c0] 29)).alloc (Obj.cells #[Value.int IntKind.i64 8192] t))) := hide (fun t => by
    refine ⟨?_, ?_⟩
    · rw [← hsz, World.cell?_alloc_new]; rfl
    · rw [← hsz]; exact World.frozen?_alloc_new _ _ _ _)
  have z0 : ∀ t, ((w.alloc (Obj.cells #[Value.int IntKind.i64 n.kind, Value.string n.text, Value.slice a0 n.kids.length c0] 29)).alloc (Obj.cells #[Value.int IntKind.i64 8192] t)).cell? ⟨w.heap.size, 0, none⟩ = some (.int .i64 n.kind) := fun t => cell_later (bal (brf _) _) (by rw [World.cell?_alloc_new]; rfl)
  have z1 : ∀ t, ((w.alloc (Obj.cells #[Value.int IntKind.i64 n.kind, Value.string n.text, Value.slice a0 n.kids.length c0] 29)).alloc (Obj.cells #[Value.int IntKind.i64 8192] t)).cell? ⟨w.heap.size, 1, none⟩ = some (.string n.text) := fun t => cell_later (bal (brf _) _) (by rw [World.cell?_alloc_new]; rfl)
  have z2 : ∀ t, ((w.alloc (Obj.cells #[Value.int IntKind.i64 n.kind, Value.string n.text, Value.slice a0 n.kids.length c0] 29)).alloc (Obj.cells #[Value.int IntKind.i64 8192] t)).cell? ⟨w.heap.size, 2, none⟩ = some (.slice a0 n.kids.length c0) := fun t => cell_later (bal (brf _) _) (by rw [World.cell?_alloc_new]; rfl)
  have Z0 := hide z0
  have Z1 := hide z1
  have Z2 := hide z2
  clear z0 z1 z2 hsz
  have hne : ∀ o : Nat, (some (w.heap.size + 1) : Option Nat) ≠ some w.heap.size := by intro o h; injection h; omega
  cases hf : ftB n 1 8192 with
  | false =>
    rw [hf] at FT
    rw [Bool.false_and]
    clear AL hf
    generalize n.kind = xk at *
    generalize n.text = xt at *
    go_enter Tryz.func5, Tryz.ntmps5
    go_wp2_with (go_at_call 10; refine (unhide FT _ (unhide HB _) (unhide HPT _)).mono ?_; rintro e v1 ⟨rfl, hg1, -⟩)
    go_ret
    exact ⟨rfl, gb_below2 (unhide HB _) hg1 (Nat.le_succ _)⟩
  | true =>
    rw [hf] at FT
    rw [Bool.true_and]
    clear hf
    by_cases h1 : n.kind = 1
    · rw [decide_eq_true h1, Bool.true_and]
      rw [h1] at FT AL HB HPT Z0 Z1 Z2 ⊢
      cases hA : (n.text.size == 0) with
      | false =>
        have hn : n.text.toList.isEmpty = false := by rw [toListL, ← L_emp]; exact hA
        rw [Bool.false_and]
        clear AL hA
        generalize n.text = xt at *
        go_enter Tryz.func5, Tryz.ntmps5
        go_wp2_with (go_at_call 10; refine (unhide FT _ (unhide HB _) (unhide HPT _)).mono ?_; rintro e v1 ⟨rfl, hg1, -⟩; have y0 := hg1.cell (unhide Z0 _) (fun e => absurd (Option.some.inj e) (by show w.heap.size ≠ w.heap.size + 1; omega)); have y1 := hg1.cell (unhide Z1 _) (fun e => absurd (Option.some.inj e) (by show w.heap.size ≠ w.heap.size + 1; omega)))
        go_ret
        exact ⟨rfl, gb_below2 (unhide HB _) hg1 (Nat.le_succ _)⟩
      | true =>
        have hn : n.text.toList.isEmpty = true := by rw [toListL, ← L_emp]; exact hA
        rw [Bool.true_and]
        clear hA
        cases hB : n.kids.all (okIs 109) with
        | false =>
          rw [hB] at AL
          clear hB
          generalize n.text = xt at *
          go_enter Tryz.func5, Tryz.ntmps5
          go_wp2_with (first | (go_at_call 10; refine (unhide FT _ (unhide HB _) (unhide HPT _)).mono ?_; rintro e v1 ⟨rfl, hg1, -⟩; have y0 := hg1.cell (unhide Z0 _) (fun e => absurd (Option.some.inj e) (by show w.heap.size ≠ w.heap.size + 1; omega)); have y1 := hg1.cell (unhide Z1 _) (fun e => absurd (Option.some.inj e) (by show w.heap.size ≠ w.heap.size + 1; omega)); have y2 := hg1.cell (unhide Z2 _) (fun e => absurd (Option.some.inj e) (by show w.heap.size ≠ w.heap.size + 1; omega))) | (go_at_call 11; refine (unhide AL _ (RdK_later (gb_below2 (unhide HB _) hg1 (Nat.le_succ _)) (unhide HR))).mono ?_; rintro e v2 ⟨rfl, hb2⟩))
          go_ret
          exact ⟨rfl, btr (gb_below2 (unhide HB _) hg1 (Nat.le_succ _)) hb2⟩
        | true =>
          rw [hB] at AL
          clear hB
          generalize n.text = xt at *
          go_enter Tryz.func5, Tryz.ntmps5
          go_wp2_with (first | (go_at_call 10; refine (unhide FT _ (unhide HB _) (unhide HPT _)).mono ?_; rintro e v1 ⟨rfl, hg1, -⟩; have y0 := hg1.cell (unhide Z0 _) (fun e => absurd (Option.some.inj e) (by show w.heap.size ≠ w.heap.size + 1; omega)); have y1 := hg1.cell (unhide Z1 _) (fun e => absurd (Option.some.inj e) (by show w.heap.size ≠ w.heap.size + 1; omega)); have y2 := hg1.cell (unhide Z2 _) (fun e => absurd (Option.some.inj e) (by show w.heap.size ≠ w.heap.size + 1; omega))) | (go_at_call 11; refine (unhide AL _ (RdK_later (gb_below2 (unhide HB _) hg1 (Nat.le_succ _)) (unhide HR))).mono ?_; rintro e v2 ⟨rfl, hb2⟩))
          go_ret
          exact ⟨rfl, btr (gb_below2 (unhide HB _) hg1 (Nat.le_succ _)) hb2⟩
    · rw [decide_eq_false h1, Bool.false_and]
      have a1 : (n.kind == 1) = false := beq_eq_false_iff_ne.2 h1
      clear AL h1
      generalize n.kind = xk at *
      generalize n.text = xt at *
      go_enter Tryz.func5, Tryz.ntmps5
      go_wp2_with (go_at_call 10; refine (unhide FT _ (unhide HB _) (unhide HPT _)).mono ?_; rintro e v1 ⟨rfl, hg1, -⟩; have y0 := hg1.cell (unhide Z0 _) (fun e => absurd (Option.some.inj e) (by show w.heap.size ≠ w.heap.size + 1; omega)))
      go_ret
      exact ⟨rfl, gb_below2 (unhide HB _) hg1 (Nat.le_succ _)⟩
end Go.Proofs.YtlcpmbdckmdabaaGreatDoor
