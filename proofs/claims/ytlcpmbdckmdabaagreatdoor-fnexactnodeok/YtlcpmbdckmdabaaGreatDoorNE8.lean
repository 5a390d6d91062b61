/- What the specification's l03Statement answers of plain kinds. -/
import Derived.Test.YtlcpmbdckmdabaaGreatDoorNEY
namespace Go.Proofs.YtlcpmbdckmdabaaGreatDoor
open Go.RowKit Nt
set_option linter.unusedVariables false
set_option maxRecDepth 100000
set_option maxHeartbeats 400000 in
theorem st27n (n : Nd) (ih : ∀ x ∈ n.kids, IsC x) (v : Value) (w : World) (ht : n.text.size ≤ maxLen) (hr : RdK w n.kids v) (hk : n.kind = 27) (hA : (n.text.size == 0) = false) :
    Calls Tryz.prog 23 #[ndV n v] w fun e w' => e = .returned (.bool false) ∧ Below w.heap.size w w' := by
  have hn : n.text.toList.isEmpty = false := by rw [toListL, ← L_emp]; exact hA
  obtain ⟨a0, c0, hv0⟩ := RdK_slice hr
  subst hv0
  unfold ndV
  rw [hk]
  clear hr ht hA ih
  generalize n.text = xt at *
  go_enter Tryz.func23, Tryz.ntmps23
  go_wp2
  go_ret
  exact ⟨rfl, bal (brf w) _⟩
set_option maxHeartbeats 400000 in
theorem st27f (n : Nd) (ih : ∀ x ∈ n.kids, IsC x) (v : Value) (w : World) (ht : n.text.size ≤ maxLen) (hr : RdK w n.kids v) (hk : n.kind = 27) (hA : (n.text.size == 0) = true) (hB : (kidsB n.kids [84, 101]) = false) :
    Calls Tryz.prog 23 #[ndV n v] w fun e w' => e = .returned (.bool false) ∧ Below w.heap.size w w' := by
  have hn : n.text.toList.isEmpty = true := by rw [toListL, ← L_emp]; exact hA
  have K1 := hide (fun w' hr' => kidsN n ih v w' ⟨#[84, 101]⟩ (by decide) (by decide) hr')
  have hk1 : ltr ⟨#[84, 101]⟩ = [84, 101] := by decide
  rw [hk1] at K1
  rw [hB] at K1
  have HR := hide hr
  obtain ⟨a0, c0, hv0⟩ := RdK_slice hr
  subst hv0
  unfold ndV at K1 ⊢
  rw [hk] at K1 ⊢
  clear hr ht hA hB ih
  generalize n.text = xt at *
  go_enter Tryz.func23, Tryz.ntmps23
  go_wp2_with (first | (go_at_call 20; refine (unhide K1 _ (RdK_later (bal (brf w) _) (unhide HR))).mono ?_; rintro e v1 ⟨rfl, hb1⟩))
  go_ret
  exact ⟨rfl, btr (bal (brf w) _) hb1⟩
set_option maxHeartbeats 400000 in
theorem st27t (n : Nd) (ih : ∀ x ∈ n.kids, IsC x) (v : Value) (w : World) (ht : n.text.size ≤ maxLen) (hr : RdK w n.kids v) (hk : n.kind = 27) (hA : (n.text.size == 0) = true) (hB : (kidsB n.kids [84, 101]) = true) :
    Calls Tryz.prog 23 #[ndV n v] w fun e w' => e = .returned (.bool true) ∧ Below w.heap.size w w' := by
  have hn : n.text.toList.isEmpty = true := by rw [toListL, ← L_emp]; exact hA
  have K1 := hide (fun w' hr' => kidsN n ih v w' ⟨#[84, 101]⟩ (by decide) (by decide) hr')
  have hk1 : ltr ⟨#[84, 101]⟩ = [84, 101] := by decide
  rw [hk1] at K1
  rw [hB] at K1
  have HR := hide hr
  obtain ⟨a0, c0, hv0⟩ := RdK_slice hr
  subst hv0
  unfold ndV at K1 ⊢
  rw [hk] at K1 ⊢
  clear hr ht hA hB ih
  generalize n.text = xt at *
  go_enter Tryz.func23, Tryz.ntmps23
  go_wp2_with (first | (go_at_call 20; refine (unhide K1 _ (RdK_later (bal (brf w) _) (unhide HR))).mono ?_; rintro e v1 ⟨rfl, hb1⟩))
  go_ret
  exact ⟨rfl, btr (bal (brf w) _) hb1⟩
theorem st27 (n : Nd) (ih : ∀ x ∈ n.kids, IsC x) (v : Value) (w : World) (ht : n.text.size ≤ maxLen) (hr : RdK w n.kids v) (hk : n.kind = 27) :
    Calls Tryz.prog 23 #[ndV n v] w fun e w' => e = .returned (.bool ((n.text.size == 0) && kidsB n.kids [84, 101])) ∧ Below w.heap.size w w' := by
  cases hA : (n.text.size == 0) with
  | false => exact st27n n ih v w ht hr hk hA
  | true =>
    cases hB : (kidsB n.kids [84, 101]) with
    | false => exact st27f n ih v w ht hr hk hA hB
    | true => exact st27t n ih v w ht hr hk hA hB
set_option maxHeartbeats 400000 in
theorem st28n (n : Nd) (ih : ∀ x ∈ n.kids, IsC x) (v : Value) (w : World) (ht : n.text.size ≤ maxLen) (hr : RdK w n.kids v) (hk : n.kind = 28) (hA : (n.text.size == 0) = false) :
    Calls Tryz.prog 23 #[ndV n v] w fun e w' => e = .returned (.bool false) ∧ Below w.heap.size w w' := by
  have hn : n.text.toList.isEmpty = false := by rw [toListL, ← L_emp]; exact hA
  obtain ⟨a0, c0, hv0⟩ := RdK_slice hr
  subst hv0
  unfold ndV
  rw [hk]
  clear hr ht hA ih
  generalize n.text = xt at *
  go_enter Tryz.func23, Tryz.ntmps23
  go_wp2
  go_ret
  exact ⟨rfl, bal (brf w) _⟩
set_option maxHeartbeats 400000 in
theorem st28f (n : Nd) (ih : ∀ x ∈ n.kids, IsC x) (v : Value) (w : World) (ht : n.text.size ≤ maxLen) (hr : RdK w n.kids v) (hk : n.kind = 28) (hA : (n.text.size == 0) = true) (hB : (kidsB n.kids [84, 101]) = false) :
    Calls Tryz.prog 23 #[ndV n v] w fun e w' => e = .returned (.bool false) ∧ Below w.heap.size w w' := by
  have hn : n.text.toList.isEmpty = true := by rw [toListL, ← L_emp]; exact hA
  have K1 := hide (fun w' hr' => kidsN n ih v w' ⟨#[84, 101]⟩ (by decide) (by decide) hr')
  have hk1 : ltr ⟨#[84, 101]⟩ = [84, 101] := by decide
  rw [hk1] at K1
  rw [hB] at K1
  have HR := hide hr
  obtain ⟨a0, c0, hv0⟩ := RdK_slice hr
  subst hv0
  unfold ndV at K1 ⊢
  rw [hk] at K1 ⊢
  clear hr ht hA hB ih
  generalize n.text = xt at *
  go_enter Tryz.func23, Tryz.ntmps23
  go_wp2_with (first | (go_at_call 20; refine (unhide K1 _ (RdK_later (bal (brf w) _) (unhide HR))).mono ?_; rintro e v1 ⟨rfl, hb1⟩))
  go_ret
  exact ⟨rfl, btr (bal (brf w) _) hb1⟩
set_option maxHeartbeats 400000 in
theorem st28t (n : Nd) (ih : ∀ x ∈ n.kids, IsC x) (v : Value) (w : World) (ht : n.text.size ≤ maxLen) (hr : RdK w n.kids v) (hk : n.kind = 28) (hA : (n.text.size == 0) = true) (hB : (kidsB n.kids [84, 101]) = true) :
    Calls Tryz.prog 23 #[ndV n v] w fun e w' => e = .returned (.bool true) ∧ Below w.heap.size w w' := by
  have hn : n.text.toList.isEmpty = true := by rw [toListL, ← L_emp]; exact hA
  have K1 := hide (fun w' hr' => kidsN n ih v w' ⟨#[84, 101]⟩ (by decide) (by decide) hr')
  have hk1 : ltr ⟨#[84, 101]⟩ = [84, 101] := by decide
  rw [hk1] at K1
  rw [hB] at K1
  have HR := hide hr
  obtain ⟨a0, c0, hv0⟩ := RdK_slice hr
  subst hv0
  unfold ndV at K1 ⊢
  rw [hk] at K1 ⊢
  clear hr ht hA hB ih
  generalize n.text = xt at *
  go_enter Tryz.func23, Tryz.ntmps23
  go_wp2_with (first | (go_at_call 20; refine (unhide K1 _ (RdK_later (bal (brf w) _) (unhide HR))).mono ?_; rintro e v1 ⟨rfl, hb1⟩))
  go_ret
  exact ⟨rfl, btr (bal (brf w) _) hb1⟩
theorem st28 (n : Nd) (ih : ∀ x ∈ n.kids, IsC x) (v : Value) (w : World) (ht : n.text.size ≤ maxLen) (hr : RdK w n.kids v) (hk : n.kind = 28) :
    Calls Tryz.prog 23 #[ndV n v] w fun e w' => e = .returned (.bool ((n.text.size == 0) && kidsB n.kids [84, 101])) ∧ Below w.heap.size w w' := by
  cases hA : (n.text.size == 0) with
  | false => exact st28n n ih v w ht hr hk hA
  | true =>
    cases hB : (kidsB n.kids [84, 101]) with
    | false => exact st28f n ih v w ht hr hk hA hB
    | true => exact st28t n ih v w ht hr hk hA hB
set_option maxHeartbeats 400000 in
theorem st33n (n : Nd) (ih : ∀ x ∈ n.kids, IsC x) (v : Value) (w : World) (ht : n.text.size ≤ maxLen) (hr : RdK w n.kids v) (hk : n.kind = 33) (hA : (freeB n.text) = false) :
    Calls Tryz.prog 23 #[ndV n v] w fun e w' => e = .returned (.bool false) ∧ Below w.heap.size w w' := by
  have FR := hide (fun w' => sFree n.text w' ht)
  rw [hA] at FR
  obtain ⟨a0, c0, hv0⟩ := RdK_slice hr
  subst hv0
  unfold ndV
  rw [hk]
  clear hr ht hA ih
  generalize n.text = xt at *
  go_enter Tryz.func23, Tryz.ntmps23
  go_wp2_with (first | (go_at_call 21; refine (unhide FR _).mono ?_; rintro e w' ⟨rfl, rfl⟩))
  go_ret
  exact ⟨rfl, bal (brf w) _⟩
set_option maxHeartbeats 400000 in
theorem st33f (n : Nd) (ih : ∀ x ∈ n.kids, IsC x) (v : Value) (w : World) (ht : n.text.size ≤ maxLen) (hr : RdK w n.kids v) (hk : n.kind = 33) (hA : (freeB n.text) = true) (hB : (kidsB n.kids [101, 101, 98]) = false) :
    Calls Tryz.prog 23 #[ndV n v] w fun e w' => e = .returned (.bool false) ∧ Below w.heap.size w w' := by
  have FR := hide (fun w' => sFree n.text w' ht)
  rw [hA] at FR
  have K1 := hide (fun w' hr' => kidsN n ih v w' ⟨#[101, 101, 98]⟩ (by decide) (by decide) hr')
  have hk1 : ltr ⟨#[101, 101, 98]⟩ = [101, 101, 98] := by decide
  rw [hk1] at K1
  rw [hB] at K1
  have HR := hide hr
  obtain ⟨a0, c0, hv0⟩ := RdK_slice hr
  subst hv0
  unfold ndV at K1 ⊢
  rw [hk] at K1 ⊢
  clear hr ht hA hB ih
  generalize n.text = xt at *
  go_enter Tryz.func23, Tryz.ntmps23
  go_wp2_with (first | (go_at_call 21; refine (unhide FR _).mono ?_; rintro e w' ⟨rfl, rfl⟩) | (go_at_call 20; refine (unhide K1 _ (RdK_later (bal (brf w) _) (unhide HR))).mono ?_; rintro e v1 ⟨rfl, hb1⟩))
  go_ret
  exact ⟨rfl, btr (bal (brf w) _) hb1⟩
set_option maxHeartbeats 400000 in
theorem st33t (n : Nd) (ih : ∀ x ∈ n.kids, IsC x) (v : Value) (w : World) (ht : n.text.size ≤ maxLen) (hr : RdK w n.kids v) (hk : n.kind = 33) (hA : (freeB n.text) = true) (hB : (kidsB n.kids [101, 101, 98]) = true) :
    Calls Tryz.prog 23 #[ndV n v] w fun e w' => e = .returned (.bool true) ∧ Below w.heap.size w w' := by
  have FR := hide (fun w' => sFree n.text w' ht)
  rw [hA] at FR
  have K1 := hide (fun w' hr' => kidsN n ih v w' ⟨#[101, 101, 98]⟩ (by decide) (by decide) hr')
  have hk1 : ltr ⟨#[101, 101, 98]⟩ = [101, 101, 98] := by decide
  rw [hk1] at K1
  rw [hB] at K1
  have HR := hide hr
  obtain ⟨a0, c0, hv0⟩ := RdK_slice hr
  subst hv0
  unfold ndV at K1 ⊢
  rw [hk] at K1 ⊢
  clear hr ht hA hB ih
  generalize n.text = xt at *
  go_enter Tryz.func23, Tryz.ntmps23
  go_wp2_with (first | (go_at_call 21; refine (unhide FR _).mono ?_; rintro e w' ⟨rfl, rfl⟩) | (go_at_call 20; refine (unhide K1 _ (RdK_later (bal (brf w) _) (unhide HR))).mono ?_; rintro e v1 ⟨rfl, hb1⟩))
  go_ret
  exact ⟨rfl, btr (bal (brf w) _) hb1⟩
theorem st33 (n : Nd) (ih : ∀ x ∈ n.kids, IsC x) (v : Value) (w : World) (ht : n.text.size ≤ maxLen) (hr : RdK w n.kids v) (hk : n.kind = 33) :
    Calls Tryz.prog 23 #[ndV n v] w fun e w' => e = .returned (.bool ((freeB n.text) && kidsB n.kids [101, 101, 98])) ∧ Below w.heap.size w w' := by
  cases hA : (freeB n.text) with
  | false => exact st33n n ih v w ht hr hk hA
  | true =>
    cases hB : (kidsB n.kids [101, 101, 98]) with
    | false => exact st33f n ih v w ht hr hk hA hB
    | true => exact st33t n ih v w ht hr hk hA hB
set_option maxHeartbeats 400000 in
theorem st34n (n : Nd) (ih : ∀ x ∈ n.kids, IsC x) (v : Value) (w : World) (ht : n.text.size ≤ maxLen) (hr : RdK w n.kids v) (hk : n.kind = 34) (hA : (n.text.size == 0) = false) :
    Calls Tryz.prog 23 #[ndV n v] w fun e w' => e = .returned (.bool false) ∧ Below w.heap.size w w' := by
  have hn : n.text.toList.isEmpty = false := by rw [toListL, ← L_emp]; exact hA
  obtain ⟨a0, c0, hv0⟩ := RdK_slice hr
  subst hv0
  unfold ndV
  rw [hk]
  clear hr ht hA ih
  generalize n.text = xt at *
  go_enter Tryz.func23, Tryz.ntmps23
  go_wp2
  go_ret
  exact ⟨rfl, bal (brf w) _⟩
set_option maxHeartbeats 400000 in
theorem st34f (n : Nd) (ih : ∀ x ∈ n.kids, IsC x) (v : Value) (w : World) (ht : n.text.size ≤ maxLen) (hr : RdK w n.kids v) (hk : n.kind = 34) (hA : (n.text.size == 0) = true) (hB : (kidsB n.kids [101]) = false) :
    Calls Tryz.prog 23 #[ndV n v] w fun e w' => e = .returned (.bool false) ∧ Below w.heap.size w w' := by
  have hn : n.text.toList.isEmpty = true := by rw [toListL, ← L_emp]; exact hA
  have K1 := hide (fun w' hr' => kidsN n ih v w' ⟨#[101]⟩ (by decide) (by decide) hr')
  have hk1 : ltr ⟨#[101]⟩ = [101] := by decide
  rw [hk1] at K1
  rw [hB] at K1
  have HR := hide hr
  obtain ⟨a0, c0, hv0⟩ := RdK_slice hr
  subst hv0
  unfold ndV at K1 ⊢
  rw [hk] at K1 ⊢
  clear hr ht hA hB ih
  generalize n.text = xt at *
  go_enter Tryz.func23, Tryz.ntmps23
  go_wp2_with (first | (go_at_call 20; refine (unhide K1 _ (RdK_later (bal (brf w) _) (unhide HR))).mono ?_; rintro e v1 ⟨rfl, hb1⟩))
  go_ret
  exact ⟨rfl, btr (bal (brf w) _) hb1⟩
set_option maxHeartbeats 400000 in
theorem st34t (n : Nd) (ih : ∀ x ∈ n.kids, IsC x) (v : Value) (w : World) (ht : n.text.size ≤ maxLen) (hr : RdK w n.kids v) (hk : n.kind = 34) (hA : (n.text.size == 0) = true) (hB : (kidsB n.kids [101]) = true) :
    Calls Tryz.prog 23 #[ndV n v] w fun e w' => e = .returned (.bool true) ∧ Below w.heap.size w w' := by
  have hn : n.text.toList.isEmpty = true := by rw [toListL, ← L_emp]; exact hA
  have K1 := hide (fun w' hr' => kidsN n ih v w' ⟨#[101]⟩ (by decide) (by decide) hr')
  have hk1 : ltr ⟨#[101]⟩ = [101] := by decide
  rw [hk1] at K1
  rw [hB] at K1
  have HR := hide hr
  obtain ⟨a0, c0, hv0⟩ := RdK_slice hr
  subst hv0
  unfold ndV at K1 ⊢
  rw [hk] at K1 ⊢
  clear hr ht hA hB ih
  generalize n.text = xt at *
  go_enter Tryz.func23, Tryz.ntmps23
  go_wp2_with (first | (go_at_call 20; refine (unhide K1 _ (RdK_later (bal (brf w) _) (unhide HR))).mono ?_; rintro e v1 ⟨rfl, hb1⟩))
  go_ret
  exact ⟨rfl, btr (bal (brf w) _) hb1⟩
theorem st34 (n : Nd) (ih : ∀ x ∈ n.kids, IsC x) (v : Value) (w : World) (ht : n.text.size ≤ maxLen) (hr : RdK w n.kids v) (hk : n.kind = 34) :
    Calls Tryz.prog 23 #[ndV n v] w fun e w' => e = .returned (.bool ((n.text.size == 0) && kidsB n.kids [101])) ∧ Below w.heap.size w w' := by
  cases hA : (n.text.size == 0) with
  | false => exact st34n n ih v w ht hr hk hA
  | true =>
    cases hB : (kidsB n.kids [101]) with
    | false => exact st34f n ih v w ht hr hk hA hB
    | true => exact st34t n ih v w ht hr hk hA hB
set_option maxHeartbeats 400000 in
theorem st29n (n : Nd) (ih : ∀ x ∈ n.kids, IsC x) (v : Value) (w : World) (ht : n.text.size ≤ maxLen) (hr : RdK w n.kids v) (hk : n.kind = 29) (hA : (n.text.size == 0) = false) :
    Calls Tryz.prog 23 #[ndV n v] w fun e w' => e = .returned (.bool false) ∧ Below w.heap.size w w' := by
  have hn : n.text.toList.isEmpty = false := by rw [toListL, ← L_emp]; exact hA
  obtain ⟨a0, c0, hv0⟩ := RdK_slice hr
  subst hv0
  unfold ndV
  rw [hk]
  clear hr ht hA ih
  generalize n.text = xt at *
  go_enter Tryz.func23, Tryz.ntmps23
  go_wp2
  go_ret
  exact ⟨rfl, bal (brf w) _⟩
set_option maxHeartbeats 400000 in
theorem st29t (n : Nd) (ih : ∀ x ∈ n.kids, IsC x) (v : Value) (w : World) (ht : n.text.size ≤ maxLen) (hr : RdK w n.kids v) (hk : n.kind = 29) (hA : (n.text.size == 0) = true) (hB : kidsB n.kids [101, 98] = true) :
    Calls Tryz.prog 23 #[ndV n v] w fun e w' => e = .returned (.bool true) ∧ Below w.heap.size w w' := by
  have hn : n.text.toList.isEmpty = true := by rw [toListL, ← L_emp]; exact hA
  have K1 := hide (fun w' hr' => kidsN n ih v w' ⟨#[101, 98]⟩ (by decide) (by decide) hr')
  have hk1 : ltr ⟨#[101, 98]⟩ = [101, 98] := by decide
  rw [hk1, hB] at K1
  have HR := hide hr
  obtain ⟨a0, c0, hv0⟩ := RdK_slice hr
  subst hv0
  unfold ndV at K1 ⊢
  rw [hk] at K1 ⊢
  clear hr ht hA hB ih
  generalize n.text = xt at *
  go_enter Tryz.func23, Tryz.ntmps23
  go_wp2_with (first | (go_at_call_of 20 (Value.string ⟨#[101, 98]⟩); refine (unhide K1 _ (RdK_later (bal (brf w) _) (unhide HR))).mono ?_; rintro e v1 ⟨rfl, hb1⟩; obtain ⟨hc1, hf1⟩ := bcell hb1))
  go_ret
  exact ⟨rfl, btr (bal (brf w) _) hb1⟩
set_option maxHeartbeats 400000 in
theorem st29ft (n : Nd) (ih : ∀ x ∈ n.kids, IsC x) (v : Value) (w : World) (ht : n.text.size ≤ maxLen) (hr : RdK w n.kids v) (hk : n.kind = 29) (hA : (n.text.size == 0) = true) (hB : kidsB n.kids [101, 98] = false) (hC : kidsB n.kids [101, 98, 66] = true) :
    Calls Tryz.prog 23 #[ndV n v] w fun e w' => e = .returned (.bool true) ∧ Below w.heap.size w w' := by
  have hn : n.text.toList.isEmpty = true := by rw [toListL, ← L_emp]; exact hA
  have K1 := hide (fun w' hr' => kidsN n ih v w' ⟨#[101, 98]⟩ (by decide) (by decide) hr')
  have hk1 : ltr ⟨#[101, 98]⟩ = [101, 98] := by decide
  rw [hk1, hB] at K1
  have K2 := hide (fun w' hr' => kidsN n ih v w' ⟨#[101, 98, 66]⟩ (by decide) (by decide) hr')
  have hk2 : ltr ⟨#[101, 98, 66]⟩ = [101, 98, 66] := by decide
  rw [hk2, hC] at K2
  have HR := hide hr
  obtain ⟨a0, c0, hv0⟩ := RdK_slice hr
  subst hv0
  unfold ndV at K1 K2 ⊢
  rw [hk] at K1 K2 ⊢
  clear hr ht hA hB hC ih
  generalize n.text = xt at *
  go_enter Tryz.func23, Tryz.ntmps23
  go_wp2_with (first | (go_at_call_of 20 (Value.string ⟨#[101, 98]⟩); refine (unhide K1 _ (RdK_later (bal (brf w) _) (unhide HR))).mono ?_; rintro e v1 ⟨rfl, hb1⟩; obtain ⟨hc1, hf1⟩ := bcell hb1) | (go_at_call_of 20 (Value.string ⟨#[101, 98, 66]⟩); refine (unhide K2 _ (RdK_later (btr (bal (brf w) _) hb1) (unhide HR))).mono ?_; rintro e v2 ⟨rfl, hb2⟩))
  go_ret
  exact ⟨rfl, btr (btr (bal (brf w) _) hb1) hb2⟩
set_option maxHeartbeats 400000 in
theorem st29ff (n : Nd) (ih : ∀ x ∈ n.kids, IsC x) (v : Value) (w : World) (ht : n.text.size ≤ maxLen) (hr : RdK w n.kids v) (hk : n.kind = 29) (hA : (n.text.size == 0) = true) (hB : kidsB n.kids [101, 98] = false) (hC : kidsB n.kids [101, 98, 66] = false) :
    Calls Tryz.prog 23 #[ndV n v] w fun e w' => e = .returned (.bool false) ∧ Below w.heap.size w w' := by
  have hn : n.text.toList.isEmpty = true := by rw [toListL, ← L_emp]; exact hA
  have K1 := hide (fun w' hr' => kidsN n ih v w' ⟨#[101, 98]⟩ (by decide) (by decide) hr')
  have hk1 : ltr ⟨#[101, 98]⟩ = [101, 98] := by decide
  rw [hk1, hB] at K1
  have K2 := hide (fun w' hr' => kidsN n ih v w' ⟨#[101, 98, 66]⟩ (by decide) (by decide) hr')
  have hk2 : ltr ⟨#[101, 98, 66]⟩ = [101, 98, 66] := by decide
  rw [hk2, hC] at K2
  have HR := hide hr
  obtain ⟨a0, c0, hv0⟩ := RdK_slice hr
  subst hv0
  unfold ndV at K1 K2 ⊢
  rw [hk] at K1 K2 ⊢
  clear hr ht hA hB hC ih
  generalize n.text = xt at *
  go_enter Tryz.func23, Tryz.ntmps23
  go_wp2_with (first | (go_at_call_of 20 (Value.string ⟨#[101, 98]⟩); refine (unhide K1 _ (RdK_later (bal (brf w) _) (unhide HR))).mono ?_; rintro e v1 ⟨rfl, hb1⟩; obtain ⟨hc1, hf1⟩ := bcell hb1) | (go_at_call_of 20 (Value.string ⟨#[101, 98, 66]⟩); refine (unhide K2 _ (RdK_later (btr (bal (brf w) _) hb1) (unhide HR))).mono ?_; rintro e v2 ⟨rfl, hb2⟩))
  go_ret
  exact ⟨rfl, btr (btr (bal (brf w) _) hb1) hb2⟩
theorem st29 (n : Nd) (ih : ∀ x ∈ n.kids, IsC x) (v : Value) (w : World) (ht : n.text.size ≤ maxLen) (hr : RdK w n.kids v) (hk : n.kind = 29) :
    Calls Tryz.prog 23 #[ndV n v] w fun e w' => e = .returned (.bool ((n.text.size == 0) && (kidsB n.kids [101, 98] || kidsB n.kids [101, 98, 66]))) ∧ Below w.heap.size w w' := by
  cases hA : (n.text.size == 0) with
  | false => exact st29n n ih v w ht hr hk hA
  | true =>
    cases hB : kidsB n.kids [101, 98] with
    | true => exact st29t n ih v w ht hr hk hA hB
    | false =>
      cases hC : kidsB n.kids [101, 98, 66] with
      | true => exact st29ft n ih v w ht hr hk hA hB hC
      | false => exact st29ff n ih v w ht hr hk hA hB hC
end Go.Proofs.YtlcpmbdckmdabaaGreatDoor
