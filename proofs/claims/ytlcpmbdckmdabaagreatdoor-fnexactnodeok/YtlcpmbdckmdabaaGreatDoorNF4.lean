/- What the specification's l03Is answers to the letters without loops, but B. -/
import Derived.Test.YtlcpmbdckmdabaaGreatDoorNFX
namespace Go.Proofs.YtlcpmbdckmdabaaGreatDoor
open Go.RowKit Nt
set_option linter.unusedVariables false
set_option maxRecDepth 100000
set_option maxHeartbeats 400000 in
theorem isTyk (n : Nd) (v : Value) (w : World) (ht : n.text.size ≤ maxLen) (hr : RdK w n.kids v) (h8 : n.kind ≠ 8) :
    Calls Tryz.prog 17 #[ndV n v, .int .u8 116] w fun e w' => e = .returned (.bool false) ∧ Below w.heap.size w w' := by
  have HR := hide hr
  have hl := len_ok hr
  obtain ⟨a0, c0, hv0⟩ := RdK_slice hr
  subst hv0
  unfold ndV
  clear hr ht
  have a8 : (n.kind == 8) = false := beq_eq_false_iff_ne.2 h8
  clear h8
  generalize n.kind = xk at *
  generalize n.text = xt at *
  go_enter Tryz.func17, Tryz.ntmps17
  go_wp2
  go_ret
  exact ⟨rfl, bal (brf w) _⟩
set_option maxHeartbeats 400000 in
theorem isTyn (n : Nd) (v : Value) (w : World) (ht : n.text.size ≤ maxLen) (hr : RdK w n.kids v) (hk : n.kind = 8) (hA : (n.text.size == 0) = false) (hS : (L n.text == sgnL) = false) :
    Calls Tryz.prog 17 #[ndV n v, .int .u8 116] w fun e w' => e = .returned (.bool false) ∧ Below w.heap.size w w' := by
  have hn : n.text.toList.isEmpty = false := by rw [toListL, ← L_emp]; exact hA
  have hs : (n.text.toList == [115, 105, 103, 110, 101, 100]) = false := by rw [toListL]; exact hS
  clear hS
  have HR := hide hr
  have hl := len_ok hr
  obtain ⟨a0, c0, hv0⟩ := RdK_slice hr
  subst hv0
  unfold ndV
  rw [hk]
  clear hr ht
  generalize n.text = xt at *
  go_enter Tryz.func17, Tryz.ntmps17
  go_wp2
  go_ret
  exact ⟨rfl, bal (brf w) _⟩
set_option maxHeartbeats 400000 in
theorem isTyez (n : Nd) (v : Value) (w : World) (ht : n.text.size ≤ maxLen) (hr : RdK w n.kids v) (hk : n.kind = 8) (hA : (n.text.size == 0) = true) (hE : n.kids = []) :
    Calls Tryz.prog 17 #[ndV n v, .int .u8 116] w fun e w' => e = .returned (.bool true) ∧ Below w.heap.size w w' := by
  have hn : n.text.toList.isEmpty = true := by rw [toListL, ← L_emp]; exact hA
  have HR := hide hr
  have hl := len_ok hr
  have q0 : ((n.kids.length : Int) == 0) = true := by rw [hE]; rfl
  obtain ⟨a0, c0, hv0⟩ := RdK_slice hr
  subst hv0
  unfold ndV
  rw [hk]
  clear hr ht
  generalize n.text = xt at *
  go_enter Tryz.func17, Tryz.ntmps17
  go_wp2
  go_ret
  exact ⟨rfl, bal (brf w) _⟩
set_option maxHeartbeats 400000 in
theorem isTyet (n : Nd) (ih : ∀ x ∈ n.kids, IsC x) (v : Value) (w : World) (ht : n.text.size ≤ maxLen) (hr : RdK w n.kids v) (hk : n.kind = 8) (hA : (n.text.size == 0) = true) (hE : n.kids ≠ []) (hB : kidsB n.kids [101] = true) :
    Calls Tryz.prog 17 #[ndV n v, .int .u8 116] w fun e w' => e = .returned (.bool true) ∧ Below w.heap.size w w' := by
  have hn : n.text.toList.isEmpty = true := by rw [toListL, ← L_emp]; exact hA
  have K1 := hide (fun w' hr' => kidsN n ih v w' ⟨#[101]⟩ (by decide) (by decide) hr')
  have hk1 : ltr ⟨#[101]⟩ = [101] := by decide
  rw [hk1] at K1
  rw [hB] at K1
  have HR := hide hr
  have hl := len_ok hr
  have q0 : ((n.kids.length : Int) == 0) = false := beq_eq_false_iff_ne.2 (by cases h : n.kids with | nil => exact absurd h hE | cons x xs => simp; omega)
  obtain ⟨a0, c0, hv0⟩ := RdK_slice hr
  subst hv0
  unfold ndV at K1 ⊢
  rw [hk] at K1 ⊢
  clear hr ht ih
  generalize n.text = xt at *
  go_enter Tryz.func17, Tryz.ntmps17
  go_wp2_with (first | (go_at_call 20; refine (unhide K1 _ (RdK_later (bal (brf w) _) (unhide HR))).mono ?_; rintro e v1 ⟨rfl, hb1⟩))
  go_ret
  exact ⟨rfl, btr (bal (brf w) _) hb1⟩
set_option maxHeartbeats 400000 in
theorem isTyef (n : Nd) (ih : ∀ x ∈ n.kids, IsC x) (v : Value) (w : World) (ht : n.text.size ≤ maxLen) (hr : RdK w n.kids v) (hk : n.kind = 8) (hA : (n.text.size == 0) = true) (hE : n.kids ≠ []) (hB : kidsB n.kids [101] = false) :
    Calls Tryz.prog 17 #[ndV n v, .int .u8 116] w fun e w' => e = .returned (.bool false) ∧ Below w.heap.size w w' := by
  have hn : n.text.toList.isEmpty = true := by rw [toListL, ← L_emp]; exact hA
  have K1 := hide (fun w' hr' => kidsN n ih v w' ⟨#[101]⟩ (by decide) (by decide) hr')
  have hk1 : ltr ⟨#[101]⟩ = [101] := by decide
  rw [hk1] at K1
  rw [hB] at K1
  have HR := hide hr
  have hl := len_ok hr
  have q0 : ((n.kids.length : Int) == 0) = false := beq_eq_false_iff_ne.2 (by cases h : n.kids with | nil => exact absurd h hE | cons x xs => simp; omega)
  obtain ⟨a0, c0, hv0⟩ := RdK_slice hr
  subst hv0
  unfold ndV at K1 ⊢
  rw [hk] at K1 ⊢
  clear hr ht ih
  generalize n.text = xt at *
  go_enter Tryz.func17, Tryz.ntmps17
  go_wp2_with (first | (go_at_call 20; refine (unhide K1 _ (RdK_later (bal (brf w) _) (unhide HR))).mono ?_; rintro e v1 ⟨rfl, hb1⟩))
  go_ret
  exact ⟨rfl, btr (bal (brf w) _) hb1⟩
set_option maxHeartbeats 400000 in
theorem isTysz (n : Nd) (v : Value) (w : World) (ht : n.text.size ≤ maxLen) (hr : RdK w n.kids v) (hk : n.kind = 8) (hA : (n.text.size == 0) = false) (hS : (L n.text == sgnL) = true) (hE : n.kids = []) :
    Calls Tryz.prog 17 #[ndV n v, .int .u8 116] w fun e w' => e = .returned (.bool true) ∧ Below w.heap.size w w' := by
  have hn : n.text.toList.isEmpty = false := by rw [toListL, ← L_emp]; exact hA
  have hs : (n.text.toList == [115, 105, 103, 110, 101, 100]) = true := by rw [toListL]; exact hS
  clear hS
  have HR := hide hr
  have hl := len_ok hr
  have q0 : ((n.kids.length : Int) == 0) = true := by rw [hE]; rfl
  obtain ⟨a0, c0, hv0⟩ := RdK_slice hr
  subst hv0
  unfold ndV
  rw [hk]
  clear hr ht
  generalize n.text = xt at *
  go_enter Tryz.func17, Tryz.ntmps17
  go_wp2
  go_ret
  exact ⟨rfl, bal (brf w) _⟩
set_option maxHeartbeats 400000 in
theorem isTyst (n : Nd) (ih : ∀ x ∈ n.kids, IsC x) (v : Value) (w : World) (ht : n.text.size ≤ maxLen) (hr : RdK w n.kids v) (hk : n.kind = 8) (hA : (n.text.size == 0) = false) (hS : (L n.text == sgnL) = true) (hE : n.kids ≠ []) (hB : kidsB n.kids [101] = true) :
    Calls Tryz.prog 17 #[ndV n v, .int .u8 116] w fun e w' => e = .returned (.bool true) ∧ Below w.heap.size w w' := by
  have hn : n.text.toList.isEmpty = false := by rw [toListL, ← L_emp]; exact hA
  have hs : (n.text.toList == [115, 105, 103, 110, 101, 100]) = true := by rw [toListL]; exact hS
  clear hS
  have K1 := hide (fun w' hr' => kidsN n ih v w' ⟨#[101]⟩ (by decide) (by decide) hr')
  have hk1 : ltr ⟨#[101]⟩ = [101] := by decide
  rw [hk1] at K1
  rw [hB] at K1
  have HR := hide hr
  have hl := len_ok hr
  have q0 : ((n.kids.length : Int) == 0) = false := beq_eq_false_iff_ne.2 (by cases h : n.kids with | nil => exact absurd h hE | cons x xs => simp; omega)
  obtain ⟨a0, c0, hv0⟩ := RdK_slice hr
  subst hv0
  unfold ndV at K1 ⊢
  rw [hk] at K1 ⊢
  clear hr ht ih
  generalize n.text = xt at *
  go_enter Tryz.func17, Tryz.ntmps17
  go_wp2_with (first | (go_at_call 20; refine (unhide K1 _ (RdK_later (bal (brf w) _) (unhide HR))).mono ?_; rintro e v1 ⟨rfl, hb1⟩))
  go_ret
  exact ⟨rfl, btr (bal (brf w) _) hb1⟩
set_option maxHeartbeats 400000 in
theorem isTysf (n : Nd) (ih : ∀ x ∈ n.kids, IsC x) (v : Value) (w : World) (ht : n.text.size ≤ maxLen) (hr : RdK w n.kids v) (hk : n.kind = 8) (hA : (n.text.size == 0) = false) (hS : (L n.text == sgnL) = true) (hE : n.kids ≠ []) (hB : kidsB n.kids [101] = false) :
    Calls Tryz.prog 17 #[ndV n v, .int .u8 116] w fun e w' => e = .returned (.bool false) ∧ Below w.heap.size w w' := by
  have hn : n.text.toList.isEmpty = false := by rw [toListL, ← L_emp]; exact hA
  have hs : (n.text.toList == [115, 105, 103, 110, 101, 100]) = true := by rw [toListL]; exact hS
  clear hS
  have K1 := hide (fun w' hr' => kidsN n ih v w' ⟨#[101]⟩ (by decide) (by decide) hr')
  have hk1 : ltr ⟨#[101]⟩ = [101] := by decide
  rw [hk1] at K1
  rw [hB] at K1
  have HR := hide hr
  have hl := len_ok hr
  have q0 : ((n.kids.length : Int) == 0) = false := beq_eq_false_iff_ne.2 (by cases h : n.kids with | nil => exact absurd h hE | cons x xs => simp; omega)
  obtain ⟨a0, c0, hv0⟩ := RdK_slice hr
  subst hv0
  unfold ndV at K1 ⊢
  rw [hk] at K1 ⊢
  clear hr ht ih
  generalize n.text = xt at *
  go_enter Tryz.func17, Tryz.ntmps17
  go_wp2_with (first | (go_at_call 20; refine (unhide K1 _ (RdK_later (bal (brf w) _) (unhide HR))).mono ?_; rintro e v1 ⟨rfl, hb1⟩))
  go_ret
  exact ⟨rfl, btr (bal (brf w) _) hb1⟩
theorem isTy (n : Nd) (ih : ∀ x ∈ n.kids, IsC x) (v : Value) (w : World) (ht : n.text.size ≤ maxLen) (hr : RdK w n.kids v)  :
    Calls Tryz.prog 17 #[ndV n v, .int .u8 116] w fun e w' => e = .returned (.bool (okIs 116 n)) ∧ Below w.heap.size w w' := by
  by_cases h8 : n.kind = 8
  · have e : okIs 116 n = ((n.text.size == 0 || L n.text == sgnL) && (n.kids.isEmpty || kidsB n.kids [101])) := ok_of (by decide) n 8 h8 (by decide) rfl (by
      show ((n.kids.isEmpty || fitK n.kids ([101].map setOf)) && fmL n.kids) = _
      rw [kidsB_of _ _ (by decide)]
      cases h : n.kids with
      | nil => rw [fmL]; rfl
      | cons x xs => rfl)
    rw [e]
    cases hA : (n.text.size == 0) with
    | true =>
      rw [Bool.true_or, Bool.true_and]
      by_cases hE : n.kids = []
      · have e2 : (n.kids.isEmpty || kidsB n.kids [101]) = true := by rw [hE]; rfl
        rw [e2]; exact isTyez n v w ht hr h8 hA hE
      · rw [emp_of hE, Bool.false_or]
        cases hB : kidsB n.kids [101] with
        | true => exact isTyet n ih v w ht hr h8 hA hE hB
        | false => exact isTyef n ih v w ht hr h8 hA hE hB
    | false =>
      cases hS : (L n.text == sgnL) with
      | false => exact isTyn n v w ht hr h8 hA hS
      | true =>
        rw [Bool.false_or, Bool.true_and]
        by_cases hE : n.kids = []
        · have e2 : (n.kids.isEmpty || kidsB n.kids [101]) = true := by rw [hE]; rfl
          rw [e2]; exact isTysz n v w ht hr h8 hA hS hE
        · rw [emp_of hE, Bool.false_or]
          cases hB : kidsB n.kids [101] with
          | true => exact isTyst n ih v w ht hr h8 hA hS hE hB
          | false => exact isTysf n ih v w ht hr h8 hA hS hE hB
  · have e : okIs 116 n = false := ok_no n (by show hasB (2 ^ 8) n.kind = false; rw [has_one 8 (by decide) (by decide)]; simp [h8])
    rw [e]; exact isTyk n v w ht hr h8
set_option maxHeartbeats 400000 in
theorem isNak (n : Nd) (v : Value) (w : World) (ht : n.text.size ≤ maxLen) (hr : RdK w n.kids v) (h37 : n.kind ≠ 37) :
    Calls Tryz.prog 17 #[ndV n v, .int .u8 110] w fun e w' => e = .returned (.bool false) ∧ Below w.heap.size w w' := by
  have HR := hide hr
  have hl := len_ok hr
  obtain ⟨a0, c0, hv0⟩ := RdK_slice hr
  subst hv0
  unfold ndV
  clear hr ht
  have a37 : (n.kind == 37) = false := beq_eq_false_iff_ne.2 h37
  clear h37
  generalize n.kind = xk at *
  generalize n.text = xt at *
  go_enter Tryz.func17, Tryz.ntmps17
  go_wp2
  go_ret
  exact ⟨rfl, bal (brf w) _⟩
set_option maxHeartbeats 400000 in
theorem isNan (n : Nd) (v : Value) (w : World) (ht : n.text.size ≤ maxLen) (hr : RdK w n.kids v) (hk : n.kind = 37) (hA : freeB n.text = false) :
    Calls Tryz.prog 17 #[ndV n v, .int .u8 110] w fun e w' => e = .returned (.bool false) ∧ Below w.heap.size w w' := by
  have FR := hide (fun w' => sFree n.text w' ht)
  rw [hA] at FR
  have HR := hide hr
  have hl := len_ok hr
  obtain ⟨a0, c0, hv0⟩ := RdK_slice hr
  subst hv0
  unfold ndV
  rw [hk]
  clear hr ht
  generalize n.text = xt at *
  go_enter Tryz.func17, Tryz.ntmps17
  go_wp2_with (first | (go_at_call 21; refine (unhide FR _).mono ?_; rintro e w' ⟨rfl, rfl⟩))
  go_ret
  exact ⟨rfl, bal (brf w) _⟩
set_option maxHeartbeats 400000 in
theorem isNae (n : Nd) (v : Value) (w : World) (ht : n.text.size ≤ maxLen) (hr : RdK w n.kids v) (hk : n.kind = 37) (hA : freeB n.text = true) (hE : n.kids = []) :
    Calls Tryz.prog 17 #[ndV n v, .int .u8 110] w fun e w' => e = .returned (.bool true) ∧ Below w.heap.size w w' := by
  have FR := hide (fun w' => sFree n.text w' ht)
  rw [hA] at FR
  have HR := hide hr
  have hl := len_ok hr
  have q0 : ((n.kids.length : Int) == 0) = true := by rw [hE]; rfl
  obtain ⟨a0, c0, hv0⟩ := RdK_slice hr
  subst hv0
  unfold ndV
  rw [hk]
  clear hr ht
  generalize n.text = xt at *
  go_enter Tryz.func17, Tryz.ntmps17
  go_wp2_with (first | (go_at_call 21; refine (unhide FR _).mono ?_; rintro e w' ⟨rfl, rfl⟩))
  go_ret
  exact ⟨rfl, bal (brf w) _⟩
set_option maxHeartbeats 400000 in
theorem isNaf (n : Nd) (v : Value) (w : World) (ht : n.text.size ≤ maxLen) (hr : RdK w n.kids v) (hk : n.kind = 37) (hA : freeB n.text = true) (hE : n.kids ≠ []) :
    Calls Tryz.prog 17 #[ndV n v, .int .u8 110] w fun e w' => e = .returned (.bool false) ∧ Below w.heap.size w w' := by
  have FR := hide (fun w' => sFree n.text w' ht)
  rw [hA] at FR
  have HR := hide hr
  have hl := len_ok hr
  have q0 : ((n.kids.length : Int) == 0) = false := beq_eq_false_iff_ne.2 (by cases h : n.kids with | nil => exact absurd h hE | cons x xs => simp; omega)
  obtain ⟨a0, c0, hv0⟩ := RdK_slice hr
  subst hv0
  unfold ndV
  rw [hk]
  clear hr ht
  generalize n.text = xt at *
  go_enter Tryz.func17, Tryz.ntmps17
  go_wp2_with (first | (go_at_call 21; refine (unhide FR _).mono ?_; rintro e w' ⟨rfl, rfl⟩))
  go_ret
  exact ⟨rfl, bal (brf w) _⟩
theorem isNa (n : Nd) (v : Value) (w : World) (ht : n.text.size ≤ maxLen) (hr : RdK w n.kids v)  :
    Calls Tryz.prog 17 #[ndV n v, .int .u8 110] w fun e w' => e = .returned (.bool (okIs 110 n)) ∧ Below w.heap.size w w' := by
  by_cases h37 : n.kind = 37
  · have e : okIs 110 n = (freeB n.text && n.kids.isEmpty) := ok_of (by decide) n 37 h37 (by decide) rfl (emp_fm _)
    rw [e]
    cases hA : freeB n.text with
    | false => exact isNan n v w ht hr h37 hA
    | true =>
      by_cases hE : n.kids = []
      · have e2 : (true && n.kids.isEmpty) = true := by rw [hE]; rfl
        rw [e2]; exact isNae n v w ht hr h37 hA hE
      · rw [emp_of hE]; exact isNaf n v w ht hr h37 hA hE
  · have e : okIs 110 n = false := ok_no n (by show hasB (2 ^ 37) n.kind = false; rw [has_one 37 (by decide) (by decide)]; simp [h37])
    rw [e]; exact isNak n v w ht hr h37
set_option maxHeartbeats 400000 in
theorem isBlk (n : Nd) (v : Value) (w : World) (ht : n.text.size ≤ maxLen) (hr : RdK w n.kids v) (h26 : n.kind ≠ 26) :
    Calls Tryz.prog 17 #[ndV n v, .int .u8 98] w fun e w' => e = .returned (.bool false) ∧ Below w.heap.size w w' := by
  have HR := hide hr
  have hl := len_ok hr
  obtain ⟨a0, c0, hv0⟩ := RdK_slice hr
  subst hv0
  unfold ndV
  clear hr ht
  have a26 : (n.kind == 26) = false := beq_eq_false_iff_ne.2 h26
  clear h26
  generalize n.kind = xk at *
  generalize n.text = xt at *
  go_enter Tryz.func17, Tryz.ntmps17
  go_wp2
  go_ret
  exact ⟨rfl, bal (brf w) _⟩
set_option maxHeartbeats 400000 in
theorem isBln (n : Nd) (v : Value) (w : World) (ht : n.text.size ≤ maxLen) (hr : RdK w n.kids v) (hk : n.kind = 26) (hA : (n.text.size == 0) = false) :
    Calls Tryz.prog 17 #[ndV n v, .int .u8 98] w fun e w' => e = .returned (.bool false) ∧ Below w.heap.size w w' := by
  have hn : n.text.toList.isEmpty = false := by rw [toListL, ← L_emp]; exact hA
  have HR := hide hr
  have hl := len_ok hr
  obtain ⟨a0, c0, hv0⟩ := RdK_slice hr
  subst hv0
  unfold ndV
  rw [hk]
  clear hr ht
  generalize n.text = xt at *
  go_enter Tryz.func17, Tryz.ntmps17
  go_wp2
  go_ret
  exact ⟨rfl, bal (brf w) _⟩
set_option maxHeartbeats 400000 in
theorem isBlt (n : Nd) (ih : ∀ x ∈ n.kids, IsC x) (v : Value) (w : World) (ht : n.text.size ≤ maxLen) (hr : RdK w n.kids v) (hk : n.kind = 26) (hA : (n.text.size == 0) = true) (hB : n.kids.all (okIs 83) = true) :
    Calls Tryz.prog 17 #[ndV n v, .int .u8 98] w fun e w' => e = .returned (.bool true) ∧ Below w.heap.size w w' := by
  have hn : n.text.toList.isEmpty = true := by rw [toListL, ← L_emp]; exact hA
  have K1 := hide (fun w' hr' => allN n ih v w' 0 83 (by decide) (by decide) hr')
  rw [List.drop_zero] at K1
  rw [hB] at K1
  have HR := hide hr
  have hl := len_ok hr
  obtain ⟨a0, c0, hv0⟩ := RdK_slice hr
  subst hv0
  unfold ndV at K1 ⊢
  rw [hk] at K1 ⊢
  clear hr ht ih
  generalize n.text = xt at *
  go_enter Tryz.func17, Tryz.ntmps17
  go_wp2_with (first | (go_at_call 11; refine (unhide K1 _ (RdK_later (bal (brf w) _) (unhide HR))).mono ?_; rintro e v1 ⟨rfl, hb1⟩))
  go_ret
  exact ⟨rfl, btr (bal (brf w) _) hb1⟩
set_option maxHeartbeats 400000 in
theorem isBlf (n : Nd) (ih : ∀ x ∈ n.kids, IsC x) (v : Value) (w : World) (ht : n.text.size ≤ maxLen) (hr : RdK w n.kids v) (hk : n.kind = 26) (hA : (n.text.size == 0) = true) (hB : n.kids.all (okIs 83) = false) :
    Calls Tryz.prog 17 #[ndV n v, .int .u8 98] w fun e w' => e = .returned (.bool false) ∧ Below w.heap.size w w' := by
  have hn : n.text.toList.isEmpty = true := by rw [toListL, ← L_emp]; exact hA
  have K1 := hide (fun w' hr' => allN n ih v w' 0 83 (by decide) (by decide) hr')
  rw [List.drop_zero] at K1
  rw [hB] at K1
  have HR := hide hr
  have hl := len_ok hr
  obtain ⟨a0, c0, hv0⟩ := RdK_slice hr
  subst hv0
  unfold ndV at K1 ⊢
  rw [hk] at K1 ⊢
  clear hr ht ih
  generalize n.text = xt at *
  go_enter Tryz.func17, Tryz.ntmps17
  go_wp2_with (first | (go_at_call 11; refine (unhide K1 _ (RdK_later (bal (brf w) _) (unhide HR))).mono ?_; rintro e v1 ⟨rfl, hb1⟩))
  go_ret
  exact ⟨rfl, btr (bal (brf w) _) hb1⟩
theorem isBl (n : Nd) (ih : ∀ x ∈ n.kids, IsC x) (v : Value) (w : World) (ht : n.text.size ≤ maxLen) (hr : RdK w n.kids v)  :
    Calls Tryz.prog 17 #[ndV n v, .int .u8 98] w fun e w' => e = .returned (.bool (okIs 98 n)) ∧ Below w.heap.size w w' := by
  by_cases h26 : n.kind = 26
  · have e : okIs 98 n = ((n.text.size == 0) && n.kids.all (okIs 83)) := ok_of (by decide) n 26 h26 (by decide) rfl (allB_of (c := 83) (by decide) n.kids).symm
    rw [e]
    cases hA : (n.text.size == 0) with
    | false => exact isBln n v w ht hr h26 hA
    | true =>
      rw [Bool.true_and]
      cases hB : n.kids.all (okIs 83) with
      | true => exact isBlt n ih v w ht hr h26 hA hB
      | false => exact isBlf n ih v w ht hr h26 hA hB
  · have e : okIs 98 n = false := ok_no n (by show hasB (2 ^ 26) n.kind = false; rw [has_one 26 (by decide) (by decide)]; simp [h26])
    rw [e]; exact isBlk n v w ht hr h26
set_option maxHeartbeats 400000 in
theorem isItk (n : Nd) (v : Value) (w : World) (ht : n.text.size ≤ maxLen) (hr : RdK w n.kids v) (h23 : n.kind ≠ 23) :
    Calls Tryz.prog 17 #[ndV n v, .int .u8 115] w fun e w' => e = .returned (.bool false) ∧ Below w.heap.size w w' := by
  have HR := hide hr
  have hl := len_ok hr
  obtain ⟨a0, c0, hv0⟩ := RdK_slice hr
  subst hv0
  unfold ndV
  clear hr ht
  have a23 : (n.kind == 23) = false := beq_eq_false_iff_ne.2 h23
  clear h23
  generalize n.kind = xk at *
  generalize n.text = xt at *
  go_enter Tryz.func17, Tryz.ntmps17
  go_wp2
  go_ret
  exact ⟨rfl, bal (brf w) _⟩
set_option maxHeartbeats 400000 in
theorem isItn (n : Nd) (v : Value) (w : World) (ht : n.text.size ≤ maxLen) (hr : RdK w n.kids v) (hk : n.kind = 23) (hA : (n.text.size == 0) = false) :
    Calls Tryz.prog 17 #[ndV n v, .int .u8 115] w fun e w' => e = .returned (.bool false) ∧ Below w.heap.size w w' := by
  have hn : n.text.toList.isEmpty = false := by rw [toListL, ← L_emp]; exact hA
  have HR := hide hr
  have hl := len_ok hr
  obtain ⟨a0, c0, hv0⟩ := RdK_slice hr
  subst hv0
  unfold ndV
  rw [hk]
  clear hr ht
  generalize n.text = xt at *
  go_enter Tryz.func17, Tryz.ntmps17
  go_wp2
  go_ret
  exact ⟨rfl, bal (brf w) _⟩
set_option maxHeartbeats 400000 in
theorem isItt (n : Nd) (ih : ∀ x ∈ n.kids, IsC x) (v : Value) (w : World) (ht : n.text.size ≤ maxLen) (hr : RdK w n.kids v) (hk : n.kind = 23) (hA : (n.text.size == 0) = true) (hB : n.kids.all (okIs 105) = true) :
    Calls Tryz.prog 17 #[ndV n v, .int .u8 115] w fun e w' => e = .returned (.bool true) ∧ Below w.heap.size w w' := by
  have hn : n.text.toList.isEmpty = true := by rw [toListL, ← L_emp]; exact hA
  have K1 := hide (fun w' hr' => allN n ih v w' 0 105 (by decide) (by decide) hr')
  rw [List.drop_zero] at K1
  rw [hB] at K1
  have HR := hide hr
  have hl := len_ok hr
  obtain ⟨a0, c0, hv0⟩ := RdK_slice hr
  subst hv0
  unfold ndV at K1 ⊢
  rw [hk] at K1 ⊢
  clear hr ht ih
  generalize n.text = xt at *
  go_enter Tryz.func17, Tryz.ntmps17
  go_wp2_with (first | (go_at_call 11; refine (unhide K1 _ (RdK_later (bal (brf w) _) (unhide HR))).mono ?_; rintro e v1 ⟨rfl, hb1⟩))
  go_ret
  exact ⟨rfl, btr (bal (brf w) _) hb1⟩
set_option maxHeartbeats 400000 in
theorem isItf (n : Nd) (ih : ∀ x ∈ n.kids, IsC x) (v : Value) (w : World) (ht : n.text.size ≤ maxLen) (hr : RdK w n.kids v) (hk : n.kind = 23) (hA : (n.text.size == 0) = true) (hB : n.kids.all (okIs 105) = false) :
    Calls Tryz.prog 17 #[ndV n v, .int .u8 115] w fun e w' => e = .returned (.bool false) ∧ Below w.heap.size w w' := by
  have hn : n.text.toList.isEmpty = true := by rw [toListL, ← L_emp]; exact hA
  have K1 := hide (fun w' hr' => allN n ih v w' 0 105 (by decide) (by decide) hr')
  rw [List.drop_zero] at K1
  rw [hB] at K1
  have HR := hide hr
  have hl := len_ok hr
  obtain ⟨a0, c0, hv0⟩ := RdK_slice hr
  subst hv0
  unfold ndV at K1 ⊢
  rw [hk] at K1 ⊢
  clear hr ht ih
  generalize n.text = xt at *
  go_enter Tryz.func17, Tryz.ntmps17
  go_wp2_with (first | (go_at_call 11; refine (unhide K1 _ (RdK_later (bal (brf w) _) (unhide HR))).mono ?_; rintro e v1 ⟨rfl, hb1⟩))
  go_ret
  exact ⟨rfl, btr (bal (brf w) _) hb1⟩
theorem isIt (n : Nd) (ih : ∀ x ∈ n.kids, IsC x) (v : Value) (w : World) (ht : n.text.size ≤ maxLen) (hr : RdK w n.kids v)  :
    Calls Tryz.prog 17 #[ndV n v, .int .u8 115] w fun e w' => e = .returned (.bool (okIs 115 n)) ∧ Below w.heap.size w w' := by
  by_cases h23 : n.kind = 23
  · have e : okIs 115 n = ((n.text.size == 0) && n.kids.all (okIs 105)) := ok_of (by decide) n 23 h23 (by decide) rfl (allB_of (c := 105) (by decide) n.kids).symm
    rw [e]
    cases hA : (n.text.size == 0) with
    | false => exact isItn n v w ht hr h23 hA
    | true =>
      rw [Bool.true_and]
      cases hB : n.kids.all (okIs 105) with
      | true => exact isItt n ih v w ht hr h23 hA hB
      | false => exact isItf n ih v w ht hr h23 hA hB
  · have e : okIs 115 n = false := ok_no n (by show hasB (2 ^ 23) n.kind = false; rw [has_one 23 (by decide) (by decide)]; simp [h23])
    rw [e]; exact isItk n v w ht hr h23
set_option maxHeartbeats 400000 in
theorem isEt (n : Nd) (ih : ∀ x ∈ n.kids, IsC x) (v : Value) (w : World) (ht : n.text.size ≤ maxLen) (hr : RdK w n.kids v) (hB : okIs 101 n = true) :
    Calls Tryz.prog 17 #[ndV n v, .int .u8 101] w fun e w' => e = .returned (.bool true) ∧ Below w.heap.size w w' := by
  have K1 := hide (fun w' hr' => exW n ih v w' ht hr')
  rw [hB] at K1
  have HR := hide hr
  have hl := len_ok hr
  obtain ⟨a0, c0, hv0⟩ := RdK_slice hr
  subst hv0
  unfold ndV at K1 ⊢
  clear hr ht ih
  generalize n.text = xt at *
  generalize n.kind = xk at *
  go_enter Tryz.func17, Tryz.ntmps17
  go_wp2_with (first | (go_at_call 24; refine (unhide K1 _ (RdK_later (bal (brf w) _) (unhide HR))).mono ?_; rintro e v1 ⟨rfl, hb1⟩))
  go_ret
  exact ⟨rfl, btr (bal (brf w) _) hb1⟩
set_option maxHeartbeats 400000 in
theorem isEf (n : Nd) (ih : ∀ x ∈ n.kids, IsC x) (v : Value) (w : World) (ht : n.text.size ≤ maxLen) (hr : RdK w n.kids v) (hB : okIs 101 n = false) :
    Calls Tryz.prog 17 #[ndV n v, .int .u8 101] w fun e w' => e = .returned (.bool false) ∧ Below w.heap.size w w' := by
  have K1 := hide (fun w' hr' => exW n ih v w' ht hr')
  rw [hB] at K1
  have HR := hide hr
  have hl := len_ok hr
  obtain ⟨a0, c0, hv0⟩ := RdK_slice hr
  subst hv0
  unfold ndV at K1 ⊢
  clear hr ht ih
  generalize n.text = xt at *
  generalize n.kind = xk at *
  go_enter Tryz.func17, Tryz.ntmps17
  go_wp2_with (first | (go_at_call 24; refine (unhide K1 _ (RdK_later (bal (brf w) _) (unhide HR))).mono ?_; rintro e v1 ⟨rfl, hb1⟩))
  go_ret
  exact ⟨rfl, btr (bal (brf w) _) hb1⟩
theorem isE (n : Nd) (ih : ∀ x ∈ n.kids, IsC x) (v : Value) (w : World) (ht : n.text.size ≤ maxLen) (hr : RdK w n.kids v)  :
    Calls Tryz.prog 17 #[ndV n v, .int .u8 101] w fun e w' => e = .returned (.bool (okIs 101 n)) ∧ Below w.heap.size w w' := by
  cases hB : okIs 101 n with
  | true => exact isEt n ih v w ht hr hB
  | false => exact isEf n ih v w ht hr hB
end Go.Proofs.YtlcpmbdckmdabaaGreatDoor
