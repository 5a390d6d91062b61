/- What the program's textFits answers. -/
import Derived.Test.YtlcpmbdckmdabaaGreatDoorNH8
import Derived.Test.YtlcpmbdckmdabaaGreatDoorNIX
import Derived.Test.YtlcpmbdckmdabaaGreatDoorNEY
namespace Go.Proofs.YtlcpmbdckmdabaaGreatDoor
open Go.RowKit Nt
set_option linter.unusedVariables false
set_option maxRecDepth 100000
theorem tf2 (n : Nd) (v : Value) (w : World) (ht : n.text.size ≤ maxLen) (hr : RdK w n.kids v) (hk : n.kind = 2) :
    Calls Tryz.prog 18 #[ndV n v] w fun e w' => e = .returned (.bool (freeB n.text)) ∧ Below w.heap.size w w' := by
  have FR := hide (fun w' => iFree n.text w' ht)
  obtain ⟨a0, c0, hv0⟩ := RdK_slice hr
  subst hv0
  unfold ndV
  rw [hk]
  clear hr ht
  generalize freeB n.text = r at *
  generalize n.text = xt at *
  go_enter Tryz.func18, Tryz.ntmps18
  go_wp2_with (go_at_call 25; refine (unhide FR _).mono ?_; rintro e v1 ⟨rfl, hb1⟩)
  go_ret
  exact ⟨rfl, btr (bal (brf w) _) hb1⟩
theorem tf4 (n : Nd) (v : Value) (w : World) (ht : n.text.size ≤ maxLen) (hr : RdK w n.kids v) (hk : n.kind = 4) :
    Calls Tryz.prog 18 #[ndV n v] w fun e w' => e = .returned (.bool (freeB n.text)) ∧ Below w.heap.size w w' := by
  have FR := hide (fun w' => iFree n.text w' ht)
  obtain ⟨a0, c0, hv0⟩ := RdK_slice hr
  subst hv0
  unfold ndV
  rw [hk]
  clear hr ht
  generalize freeB n.text = r at *
  generalize n.text = xt at *
  go_enter Tryz.func18, Tryz.ntmps18
  go_wp2_with (go_at_call 25; refine (unhide FR _).mono ?_; rintro e v1 ⟨rfl, hb1⟩)
  go_ret
  exact ⟨rfl, btr (bal (brf w) _) hb1⟩
theorem tf6 (n : Nd) (v : Value) (w : World) (ht : n.text.size ≤ maxLen) (hr : RdK w n.kids v) (hk : n.kind = 6) :
    Calls Tryz.prog 18 #[ndV n v] w fun e w' => e = .returned (.bool (freeB n.text)) ∧ Below w.heap.size w w' := by
  have FR := hide (fun w' => iFree n.text w' ht)
  obtain ⟨a0, c0, hv0⟩ := RdK_slice hr
  subst hv0
  unfold ndV
  rw [hk]
  clear hr ht
  generalize freeB n.text = r at *
  generalize n.text = xt at *
  go_enter Tryz.func18, Tryz.ntmps18
  go_wp2_with (go_at_call 25; refine (unhide FR _).mono ?_; rintro e v1 ⟨rfl, hb1⟩)
  go_ret
  exact ⟨rfl, btr (bal (brf w) _) hb1⟩
theorem tf7 (n : Nd) (v : Value) (w : World) (ht : n.text.size ≤ maxLen) (hr : RdK w n.kids v) (hk : n.kind = 7) :
    Calls Tryz.prog 18 #[ndV n v] w fun e w' => e = .returned (.bool (freeB n.text)) ∧ Below w.heap.size w w' := by
  have FR := hide (fun w' => iFree n.text w' ht)
  obtain ⟨a0, c0, hv0⟩ := RdK_slice hr
  subst hv0
  unfold ndV
  rw [hk]
  clear hr ht
  generalize freeB n.text = r at *
  generalize n.text = xt at *
  go_enter Tryz.func18, Tryz.ntmps18
  go_wp2_with (go_at_call 25; refine (unhide FR _).mono ?_; rintro e v1 ⟨rfl, hb1⟩)
  go_ret
  exact ⟨rfl, btr (bal (brf w) _) hb1⟩
theorem tf9 (n : Nd) (v : Value) (w : World) (ht : n.text.size ≤ maxLen) (hr : RdK w n.kids v) (hk : n.kind = 9) :
    Calls Tryz.prog 18 #[ndV n v] w fun e w' => e = .returned (.bool (freeB n.text)) ∧ Below w.heap.size w w' := by
  have FR := hide (fun w' => iFree n.text w' ht)
  obtain ⟨a0, c0, hv0⟩ := RdK_slice hr
  subst hv0
  unfold ndV
  rw [hk]
  clear hr ht
  generalize freeB n.text = r at *
  generalize n.text = xt at *
  go_enter Tryz.func18, Tryz.ntmps18
  go_wp2_with (go_at_call 25; refine (unhide FR _).mono ?_; rintro e v1 ⟨rfl, hb1⟩)
  go_ret
  exact ⟨rfl, btr (bal (brf w) _) hb1⟩
theorem tf10 (n : Nd) (v : Value) (w : World) (ht : n.text.size ≤ maxLen) (hr : RdK w n.kids v) (hk : n.kind = 10) :
    Calls Tryz.prog 18 #[ndV n v] w fun e w' => e = .returned (.bool (freeB n.text)) ∧ Below w.heap.size w w' := by
  have FR := hide (fun w' => iFree n.text w' ht)
  obtain ⟨a0, c0, hv0⟩ := RdK_slice hr
  subst hv0
  unfold ndV
  rw [hk]
  clear hr ht
  generalize freeB n.text = r at *
  generalize n.text = xt at *
  go_enter Tryz.func18, Tryz.ntmps18
  go_wp2_with (go_at_call 25; refine (unhide FR _).mono ?_; rintro e v1 ⟨rfl, hb1⟩)
  go_ret
  exact ⟨rfl, btr (bal (brf w) _) hb1⟩
theorem tf11 (n : Nd) (v : Value) (w : World) (ht : n.text.size ≤ maxLen) (hr : RdK w n.kids v) (hk : n.kind = 11) :
    Calls Tryz.prog 18 #[ndV n v] w fun e w' => e = .returned (.bool (freeB n.text)) ∧ Below w.heap.size w w' := by
  have FR := hide (fun w' => iFree n.text w' ht)
  obtain ⟨a0, c0, hv0⟩ := RdK_slice hr
  subst hv0
  unfold ndV
  rw [hk]
  clear hr ht
  generalize freeB n.text = r at *
  generalize n.text = xt at *
  go_enter Tryz.func18, Tryz.ntmps18
  go_wp2_with (go_at_call 25; refine (unhide FR _).mono ?_; rintro e v1 ⟨rfl, hb1⟩)
  go_ret
  exact ⟨rfl, btr (bal (brf w) _) hb1⟩
theorem tf12 (n : Nd) (v : Value) (w : World) (ht : n.text.size ≤ maxLen) (hr : RdK w n.kids v) (hk : n.kind = 12) :
    Calls Tryz.prog 18 #[ndV n v] w fun e w' => e = .returned (.bool (freeB n.text)) ∧ Below w.heap.size w w' := by
  have FR := hide (fun w' => iFree n.text w' ht)
  obtain ⟨a0, c0, hv0⟩ := RdK_slice hr
  subst hv0
  unfold ndV
  rw [hk]
  clear hr ht
  generalize freeB n.text = r at *
  generalize n.text = xt at *
  go_enter Tryz.func18, Tryz.ntmps18
  go_wp2_with (go_at_call 25; refine (unhide FR _).mono ?_; rintro e v1 ⟨rfl, hb1⟩)
  go_ret
  exact ⟨rfl, btr (bal (brf w) _) hb1⟩
theorem tf16 (n : Nd) (v : Value) (w : World) (ht : n.text.size ≤ maxLen) (hr : RdK w n.kids v) (hk : n.kind = 16) :
    Calls Tryz.prog 18 #[ndV n v] w fun e w' => e = .returned (.bool (freeB n.text)) ∧ Below w.heap.size w w' := by
  have FR := hide (fun w' => iFree n.text w' ht)
  obtain ⟨a0, c0, hv0⟩ := RdK_slice hr
  subst hv0
  unfold ndV
  rw [hk]
  clear hr ht
  generalize freeB n.text = r at *
  generalize n.text = xt at *
  go_enter Tryz.func18, Tryz.ntmps18
  go_wp2_with (go_at_call 25; refine (unhide FR _).mono ?_; rintro e v1 ⟨rfl, hb1⟩)
  go_ret
  exact ⟨rfl, btr (bal (brf w) _) hb1⟩
theorem tf18 (n : Nd) (v : Value) (w : World) (ht : n.text.size ≤ maxLen) (hr : RdK w n.kids v) (hk : n.kind = 18) :
    Calls Tryz.prog 18 #[ndV n v] w fun e w' => e = .returned (.bool (freeB n.text)) ∧ Below w.heap.size w w' := by
  have FR := hide (fun w' => iFree n.text w' ht)
  obtain ⟨a0, c0, hv0⟩ := RdK_slice hr
  subst hv0
  unfold ndV
  rw [hk]
  clear hr ht
  generalize freeB n.text = r at *
  generalize n.text = xt at *
  go_enter Tryz.func18, Tryz.ntmps18
  go_wp2_with (go_at_call 25; refine (unhide FR _).mono ?_; rintro e v1 ⟨rfl, hb1⟩)
  go_ret
  exact ⟨rfl, btr (bal (brf w) _) hb1⟩
theorem tf19 (n : Nd) (v : Value) (w : World) (ht : n.text.size ≤ maxLen) (hr : RdK w n.kids v) (hk : n.kind = 19) :
    Calls Tryz.prog 18 #[ndV n v] w fun e w' => e = .returned (.bool (freeB n.text)) ∧ Below w.heap.size w w' := by
  have FR := hide (fun w' => iFree n.text w' ht)
  obtain ⟨a0, c0, hv0⟩ := RdK_slice hr
  subst hv0
  unfold ndV
  rw [hk]
  clear hr ht
  generalize freeB n.text = r at *
  generalize n.text = xt at *
  go_enter Tryz.func18, Tryz.ntmps18
  go_wp2_with (go_at_call 25; refine (unhide FR _).mono ?_; rintro e v1 ⟨rfl, hb1⟩)
  go_ret
  exact ⟨rfl, btr (bal (brf w) _) hb1⟩
theorem tf20 (n : Nd) (v : Value) (w : World) (ht : n.text.size ≤ maxLen) (hr : RdK w n.kids v) (hk : n.kind = 20) :
    Calls Tryz.prog 18 #[ndV n v] w fun e w' => e = .returned (.bool (freeB n.text)) ∧ Below w.heap.size w w' := by
  have FR := hide (fun w' => iFree n.text w' ht)
  obtain ⟨a0, c0, hv0⟩ := RdK_slice hr
  subst hv0
  unfold ndV
  rw [hk]
  clear hr ht
  generalize freeB n.text = r at *
  generalize n.text = xt at *
  go_enter Tryz.func18, Tryz.ntmps18
  go_wp2_with (go_at_call 25; refine (unhide FR _).mono ?_; rintro e v1 ⟨rfl, hb1⟩)
  go_ret
  exact ⟨rfl, btr (bal (brf w) _) hb1⟩
theorem tf22 (n : Nd) (v : Value) (w : World) (ht : n.text.size ≤ maxLen) (hr : RdK w n.kids v) (hk : n.kind = 22) :
    Calls Tryz.prog 18 #[ndV n v] w fun e w' => e = .returned (.bool (freeB n.text)) ∧ Below w.heap.size w w' := by
  have FR := hide (fun w' => iFree n.text w' ht)
  obtain ⟨a0, c0, hv0⟩ := RdK_slice hr
  subst hv0
  unfold ndV
  rw [hk]
  clear hr ht
  generalize freeB n.text = r at *
  generalize n.text = xt at *
  go_enter Tryz.func18, Tryz.ntmps18
  go_wp2_with (go_at_call 25; refine (unhide FR _).mono ?_; rintro e v1 ⟨rfl, hb1⟩)
  go_ret
  exact ⟨rfl, btr (bal (brf w) _) hb1⟩
theorem tf25 (n : Nd) (v : Value) (w : World) (ht : n.text.size ≤ maxLen) (hr : RdK w n.kids v) (hk : n.kind = 25) :
    Calls Tryz.prog 18 #[ndV n v] w fun e w' => e = .returned (.bool (freeB n.text)) ∧ Below w.heap.size w w' := by
  have FR := hide (fun w' => iFree n.text w' ht)
  obtain ⟨a0, c0, hv0⟩ := RdK_slice hr
  subst hv0
  unfold ndV
  rw [hk]
  clear hr ht
  generalize freeB n.text = r at *
  generalize n.text = xt at *
  go_enter Tryz.func18, Tryz.ntmps18
  go_wp2_with (go_at_call 25; refine (unhide FR _).mono ?_; rintro e v1 ⟨rfl, hb1⟩)
  go_ret
  exact ⟨rfl, btr (bal (brf w) _) hb1⟩
theorem tf33 (n : Nd) (v : Value) (w : World) (ht : n.text.size ≤ maxLen) (hr : RdK w n.kids v) (hk : n.kind = 33) :
    Calls Tryz.prog 18 #[ndV n v] w fun e w' => e = .returned (.bool (freeB n.text)) ∧ Below w.heap.size w w' := by
  have FR := hide (fun w' => iFree n.text w' ht)
  obtain ⟨a0, c0, hv0⟩ := RdK_slice hr
  subst hv0
  unfold ndV
  rw [hk]
  clear hr ht
  generalize freeB n.text = r at *
  generalize n.text = xt at *
  go_enter Tryz.func18, Tryz.ntmps18
  go_wp2_with (go_at_call 25; refine (unhide FR _).mono ?_; rintro e v1 ⟨rfl, hb1⟩)
  go_ret
  exact ⟨rfl, btr (bal (brf w) _) hb1⟩
theorem tf37 (n : Nd) (v : Value) (w : World) (ht : n.text.size ≤ maxLen) (hr : RdK w n.kids v) (hk : n.kind = 37) :
    Calls Tryz.prog 18 #[ndV n v] w fun e w' => e = .returned (.bool (freeB n.text)) ∧ Below w.heap.size w w' := by
  have FR := hide (fun w' => iFree n.text w' ht)
  obtain ⟨a0, c0, hv0⟩ := RdK_slice hr
  subst hv0
  unfold ndV
  rw [hk]
  clear hr ht
  generalize freeB n.text = r at *
  generalize n.text = xt at *
  go_enter Tryz.func18, Tryz.ntmps18
  go_wp2_with (go_at_call 25; refine (unhide FR _).mono ?_; rintro e v1 ⟨rfl, hb1⟩)
  go_ret
  exact ⟨rfl, btr (bal (brf w) _) hb1⟩
theorem tf38 (n : Nd) (v : Value) (w : World) (ht : n.text.size ≤ maxLen) (hr : RdK w n.kids v) (hk : n.kind = 38) :
    Calls Tryz.prog 18 #[ndV n v] w fun e w' => e = .returned (.bool (freeB n.text)) ∧ Below w.heap.size w w' := by
  have FR := hide (fun w' => iFree n.text w' ht)
  obtain ⟨a0, c0, hv0⟩ := RdK_slice hr
  subst hv0
  unfold ndV
  rw [hk]
  clear hr ht
  generalize freeB n.text = r at *
  generalize n.text = xt at *
  go_enter Tryz.func18, Tryz.ntmps18
  go_wp2_with (go_at_call 25; refine (unhide FR _).mono ?_; rintro e v1 ⟨rfl, hb1⟩)
  go_ret
  exact ⟨rfl, btr (bal (brf w) _) hb1⟩
theorem tf39 (n : Nd) (v : Value) (w : World) (ht : n.text.size ≤ maxLen) (hr : RdK w n.kids v) (hk : n.kind = 39) :
    Calls Tryz.prog 18 #[ndV n v] w fun e w' => e = .returned (.bool (freeB n.text)) ∧ Below w.heap.size w w' := by
  have FR := hide (fun w' => iFree n.text w' ht)
  obtain ⟨a0, c0, hv0⟩ := RdK_slice hr
  subst hv0
  unfold ndV
  rw [hk]
  clear hr ht
  generalize freeB n.text = r at *
  generalize n.text = xt at *
  go_enter Tryz.func18, Tryz.ntmps18
  go_wp2_with (go_at_call 25; refine (unhide FR _).mono ?_; rintro e v1 ⟨rfl, hb1⟩)
  go_ret
  exact ⟨rfl, btr (bal (brf w) _) hb1⟩
theorem tf40 (n : Nd) (v : Value) (w : World) (ht : n.text.size ≤ maxLen) (hr : RdK w n.kids v) (hk : n.kind = 40) :
    Calls Tryz.prog 18 #[ndV n v] w fun e w' => e = .returned (.bool (freeB n.text)) ∧ Below w.heap.size w w' := by
  have FR := hide (fun w' => iFree n.text w' ht)
  obtain ⟨a0, c0, hv0⟩ := RdK_slice hr
  subst hv0
  unfold ndV
  rw [hk]
  clear hr ht
  generalize freeB n.text = r at *
  generalize n.text = xt at *
  go_enter Tryz.func18, Tryz.ntmps18
  go_wp2_with (go_at_call 25; refine (unhide FR _).mono ?_; rintro e v1 ⟨rfl, hb1⟩)
  go_ret
  exact ⟨rfl, btr (bal (brf w) _) hb1⟩
theorem tf8 (n : Nd) (v : Value) (w : World) (ht : n.text.size ≤ maxLen) (hr : RdK w n.kids v) (hk : n.kind = 8) :
    Calls Tryz.prog 18 #[ndV n v] w fun e w' => e = .returned (.bool (n.text.size == 0 || L n.text == sgnL)) ∧ Below w.heap.size w w' := by
  have h1 : (n.text.toList.isEmpty) = (n.text.size == 0) := by rw [toListL, ← L_emp]
  have h2 : (n.text.toList == [115, 105, 103, 110, 101, 100]) = (L n.text == sgnL) := by rw [toListL]; rfl
  obtain ⟨a0, c0, hv0⟩ := RdK_slice hr
  subst hv0
  unfold ndV
  rw [hk]
  clear hr ht
  cases hA : (n.text.size == 0) with
  | true =>
    rw [hA] at h1
    clear h2 hA
    generalize n.text = xt at *
    go_enter Tryz.func18, Tryz.ntmps18
    go_wp2
    go_ret
    exact ⟨rfl, bal (brf w) _⟩
  | false =>
    rw [hA] at h1
    rw [Bool.false_or]
    clear hA
    cases hB : (L n.text == sgnL) with
    | true =>
      rw [hB] at h2
      clear hB
      generalize n.text = xt at *
      go_enter Tryz.func18, Tryz.ntmps18
      go_wp2
      go_ret
      exact ⟨rfl, bal (brf w) _⟩
    | false =>
      rw [hB] at h2
      clear hB
      generalize n.text = xt at *
      go_enter Tryz.func18, Tryz.ntmps18
      go_wp2
      go_ret
      exact ⟨rfl, bal (brf w) _⟩
theorem tf36 (n : Nd) (v : Value) (w : World) (ht : n.text.size ≤ maxLen) (hr : RdK w n.kids v) (hk : n.kind = 36) (hg : Gd w) :
    Calls Tryz.prog 18 #[ndV n v] w fun e w' => e = .returned (.bool ((Nb.nbL (L n.text)).2.2 == 0)) ∧ Below w.heap.size w w' := by
  have NB := hide (fun w' hg' => iNB n.text w' ht hg')
  have HG := hide hg
  generalize hN : Nb.nbL (L n.text) = r at *
  obtain ⟨r0, r1, r2⟩ := r
  have hx : nbV (r0, r1, r2) = .tuple #[.string (S r0), .bool r1, .int .i64 (r2 : Nat)] := rfl
  rw [hx] at NB
  have e1 : ((r0, r1, r2).2.2 == 0) = ((r2 : Int) == 0) := by
    show (r2 == 0) = ((r2 : Int) == 0)
    rw [Bool.eq_iff_iff, beq_iff_eq, beq_iff_eq]; omega
  rw [e1]
  obtain ⟨a0, c0, hv0⟩ := RdK_slice hr
  subst hv0
  unfold ndV
  rw [hk]
  clear hr ht hN hx e1 hg
  generalize n.text = xt at *
  go_enter Tryz.func18, Tryz.ntmps18
  go_wp2_with (go_at_call 26; refine (unhide NB _ (Gd_later (unhide HG) (bal (brf w) _))).mono ?_; rintro e v1 ⟨rfl, hb1⟩)
  go_ret
  exact ⟨rfl, btr (bal (brf w) _) hb1⟩
theorem tf45 (n : Nd) (v : Value) (w : World) (ht : n.text.size ≤ maxLen) (hr : RdK w n.kids v) (hk : n.kind = 45) :
    Calls Tryz.prog 18 #[ndV n v] w fun e w' => e = .returned (.bool (unL.contains (L n.text))) ∧ Below w.heap.size w w' := by
  have UN := hide (fun w' => iUnary n.text w')
  obtain ⟨a0, c0, hv0⟩ := RdK_slice hr
  subst hv0
  unfold ndV
  rw [hk]
  clear hr ht
  generalize unL.contains (L n.text) = r at *
  generalize n.text = xt at *
  go_enter Tryz.func18, Tryz.ntmps18
  go_wp2_with (go_at_call 27; refine (unhide UN _).mono ?_; rintro e v1 ⟨rfl, rfl⟩)
  go_ret
  exact ⟨rfl, bal (brf w) _⟩
theorem tf46 (n : Nd) (v : Value) (w : World) (ht : n.text.size ≤ maxLen) (hr : RdK w n.kids v) (hk : n.kind = 46) (ho : Ops w) :
    Calls Tryz.prog 18 #[ndV n v] w fun e w' => e = .returned (.bool (binL.contains (L n.text))) ∧ Below w.heap.size w w' := by
  have GR := hide (fun w' ho' => iGroup n.text w' ho')
  have HO := hide ho
  obtain ⟨a0, c0, hv0⟩ := RdK_slice hr
  subst hv0
  unfold ndV
  rw [hk]
  clear hr ht ho
  generalize binL.contains (L n.text) = r at *
  generalize n.text = xt at *
  go_enter Tryz.func18, Tryz.ntmps18
  go_wp2_with (go_at_call 28; refine (unhide GR _ (Ops_later (unhide HO) (bal (brf w) _))).mono ?_; rintro e v1 ⟨⟨g, rfl, hgr⟩, hb1⟩)
  go_ret
  exact ⟨rfl, btr (bal (brf w) _) hb1⟩
theorem tfelse (n : Nd) (v : Value) (w : World) (ht : n.text.size ≤ maxLen) (hr : RdK w n.kids v) (h2 : n.kind ≠ 2) (h4 : n.kind ≠ 4) (h6 : n.kind ≠ 6) (h7 : n.kind ≠ 7) (h9 : n.kind ≠ 9) (h10 : n.kind ≠ 10) (h11 : n.kind ≠ 11) (h12 : n.kind ≠ 12) (h16 : n.kind ≠ 16) (h18 : n.kind ≠ 18) (h19 : n.kind ≠ 19) (h20 : n.kind ≠ 20) (h22 : n.kind ≠ 22) (h25 : n.kind ≠ 25) (h33 : n.kind ≠ 33) (h37 : n.kind ≠ 37) (h38 : n.kind ≠ 38) (h39 : n.kind ≠ 39) (h40 : n.kind ≠ 40) (h8 : n.kind ≠ 8) (h36 : n.kind ≠ 36) (h45 : n.kind ≠ 45) (h46 : n.kind ≠ 46) :
    Calls Tryz.prog 18 #[ndV n v] w fun e w' => e = .returned (.bool (n.text.size == 0)) ∧ Below w.heap.size w w' := by
  have h1 : (n.text.toList.isEmpty) = (n.text.size == 0) := by rw [toListL, ← L_emp]
  obtain ⟨a0, c0, hv0⟩ := RdK_slice hr
  subst hv0
  unfold ndV
  have a2 : (n.kind == 2) = false := beq_eq_false_iff_ne.2 h2
  have a4 : (n.kind == 4) = false := beq_eq_false_iff_ne.2 h4
  have a6 : (n.kind == 6) = false := beq_eq_false_iff_ne.2 h6
  have a7 : (n.kind == 7) = false := beq_eq_false_iff_ne.2 h7
  have a9 : (n.kind == 9) = false := beq_eq_false_iff_ne.2 h9
  have a10 : (n.kind == 10) = false := beq_eq_false_iff_ne.2 h10
  have a11 : (n.kind == 11) = false := beq_eq_false_iff_ne.2 h11
  have a12 : (n.kind == 12) = false := beq_eq_false_iff_ne.2 h12
  have a16 : (n.kind == 16) = false := beq_eq_false_iff_ne.2 h16
  have a18 : (n.kind == 18) = false := beq_eq_false_iff_ne.2 h18
  have a19 : (n.kind == 19) = false := beq_eq_false_iff_ne.2 h19
  have a20 : (n.kind == 20) = false := beq_eq_false_iff_ne.2 h20
  have a22 : (n.kind == 22) = false := beq_eq_false_iff_ne.2 h22
  have a25 : (n.kind == 25) = false := beq_eq_false_iff_ne.2 h25
  have a33 : (n.kind == 33) = false := beq_eq_false_iff_ne.2 h33
  have a37 : (n.kind == 37) = false := beq_eq_false_iff_ne.2 h37
  have a38 : (n.kind == 38) = false := beq_eq_false_iff_ne.2 h38
  have a39 : (n.kind == 39) = false := beq_eq_false_iff_ne.2 h39
  have a40 : (n.kind == 40) = false := beq_eq_false_iff_ne.2 h40
  have a8 : (n.kind == 8) = false := beq_eq_false_iff_ne.2 h8
  have a36 : (n.kind == 36) = false := beq_eq_false_iff_ne.2 h36
  have a45 : (n.kind == 45) = false := beq_eq_false_iff_ne.2 h45
  have a46 : (n.kind == 46) = false := beq_eq_false_iff_ne.2 h46
  clear hr ht h2 h4 h6 h7 h9 h10 h11 h12 h16 h18 h19 h20 h22 h25 h33 h37 h38 h39 h40 h8 h36 h45 h46
  generalize n.kind = xk at *
  generalize (n.text.size == 0) = r at *
  generalize n.text = xt at *
  go_enter Tryz.func18, Tryz.ntmps18
  go_wp2
  go_ret
  exact ⟨rfl, bal (brf w) _⟩
theorem txB_no (k : Int) (t : ByteArray) (h2 : k ≠ 2) (h4 : k ≠ 4) (h6 : k ≠ 6) (h7 : k ≠ 7) (h9 : k ≠ 9) (h10 : k ≠ 10) (h11 : k ≠ 11) (h12 : k ≠ 12) (h16 : k ≠ 16) (h18 : k ≠ 18) (h19 : k ≠ 19) (h20 : k ≠ 20) (h22 : k ≠ 22) (h25 : k ≠ 25) (h33 : k ≠ 33) (h37 : k ≠ 37) (h38 : k ≠ 38) (h39 : k ≠ 39) (h40 : k ≠ 40) (h8 : k ≠ 8) (h36 : k ≠ 36) (h45 : k ≠ 45) (h46 : k ≠ 46) : txB k t = (t.size == 0) := by
  unfold txB
  have hn : nameKinds.contains k = false := by
    rw [← Bool.not_eq_true, List.contains_iff_mem]
    simp only [nameKinds, List.mem_cons, List.mem_nil_iff, h2, h4, h6, h7, h9, h10, h11, h12, h16, h18, h19, h20, h22, h25, h33, h37, h38, h39, h40, or_self, not_false_eq_true]
  rw [hn]
  simp only [h8, h36, h45, h46, if_false, Bool.false_eq_true]
/-- What the program's textFits answers. -/
theorem iTextF (n : Nd) (v : Value) (w : World) (ht : n.text.size ≤ maxLen) (hr : RdK w n.kids v) (hg : Gd w) (ho : Ops w) :
    Calls Tryz.prog 18 #[ndV n v] w fun e w' => e = .returned (.bool (txB n.kind n.text)) ∧ Below w.heap.size w w' := by
  by_cases h2 : n.kind = 2
  · rw [h2]; exact tf2 n v w ht hr h2
  by_cases h4 : n.kind = 4
  · rw [h4]; exact tf4 n v w ht hr h4
  by_cases h6 : n.kind = 6
  · rw [h6]; exact tf6 n v w ht hr h6
  by_cases h7 : n.kind = 7
  · rw [h7]; exact tf7 n v w ht hr h7
  by_cases h9 : n.kind = 9
  · rw [h9]; exact tf9 n v w ht hr h9
  by_cases h10 : n.kind = 10
  · rw [h10]; exact tf10 n v w ht hr h10
  by_cases h11 : n.kind = 11
  · rw [h11]; exact tf11 n v w ht hr h11
  by_cases h12 : n.kind = 12
  · rw [h12]; exact tf12 n v w ht hr h12
  by_cases h16 : n.kind = 16
  · rw [h16]; exact tf16 n v w ht hr h16
  by_cases h18 : n.kind = 18
  · rw [h18]; exact tf18 n v w ht hr h18
  by_cases h19 : n.kind = 19
  · rw [h19]; exact tf19 n v w ht hr h19
  by_cases h20 : n.kind = 20
  · rw [h20]; exact tf20 n v w ht hr h20
  by_cases h22 : n.kind = 22
  · rw [h22]; exact tf22 n v w ht hr h22
  by_cases h25 : n.kind = 25
  · rw [h25]; exact tf25 n v w ht hr h25
  by_cases h33 : n.kind = 33
  · rw [h33]; exact tf33 n v w ht hr h33
  by_cases h37 : n.kind = 37
  · rw [h37]; exact tf37 n v w ht hr h37
  by_cases h38 : n.kind = 38
  · rw [h38]; exact tf38 n v w ht hr h38
  by_cases h39 : n.kind = 39
  · rw [h39]; exact tf39 n v w ht hr h39
  by_cases h40 : n.kind = 40
  · rw [h40]; exact tf40 n v w ht hr h40
  by_cases h8 : n.kind = 8
  · rw [h8]; exact tf8 n v w ht hr h8
  by_cases h36 : n.kind = 36
  · rw [h36]; exact tf36 n v w ht hr h36 hg
  by_cases h45 : n.kind = 45
  · rw [h45]; exact tf45 n v w ht hr h45
  by_cases h46 : n.kind = 46
  · rw [h46]; exact tf46 n v w ht hr h46 ho
  rw [txB_no n.kind n.text h2 h4 h6 h7 h9 h10 h11 h12 h16 h18 h19 h20 h22 h25 h33 h37 h38 h39 h40 h8 h36 h45 h46]
  exact tfelse n v w ht hr h2 h4 h6 h7 h9 h10 h11 h12 h16 h18 h19 h20 h22 h25 h33 h37 h38 h39 h40 h8 h36 h45 h46
end Go.Proofs.YtlcpmbdckmdabaaGreatDoor
