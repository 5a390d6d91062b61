/- What the specification's l03Expr answers of plain kinds. What the specification's l03Expr answers of binary operators. -/
import Derived.Test.YtlcpmbdckmdabaaGreatDoorNEX
namespace Go.Proofs.YtlcpmbdckmdabaaGreatDoor
open Go.RowKit Nt
set_option linter.unusedVariables false
set_option maxRecDepth 100000
theorem L_emp (s : ByteArray) : (s.size == 0) = (L s).isEmpty := by
  rw [← L_len]; cases L s <;> simp
set_option maxHeartbeats 400000 in
theorem ex42n (n : Nd) (ih : ∀ x ∈ n.kids, IsC x) (v : Value) (w : World) (ht : n.text.size ≤ maxLen) (hr : RdK w n.kids v) (hk : n.kind = 42) (hA : (n.text.size == 0) = false) :
    Calls Tryz.prog 24 #[ndV n v] w fun e w' => e = .returned (.bool false) ∧ Below w.heap.size w w' := by
  have hn : n.text.toList.isEmpty = false := by rw [toListL, ← L_emp]; exact hA
  obtain ⟨a0, c0, hv0⟩ := RdK_slice hr
  subst hv0
  unfold ndV
  rw [hk]
  clear hr ht hA ih
  generalize n.text = xt at *
  go_enter Tryz.func24, Tryz.ntmps24
  go_wp2
  go_ret
  exact ⟨rfl, bal (brf w) _⟩
set_option maxHeartbeats 400000 in
theorem ex42f (n : Nd) (ih : ∀ x ∈ n.kids, IsC x) (v : Value) (w : World) (ht : n.text.size ≤ maxLen) (hr : RdK w n.kids v) (hk : n.kind = 42) (hA : (n.text.size == 0) = true) (hB : (kidsB n.kids [101, 101]) = false) :
    Calls Tryz.prog 24 #[ndV n v] w fun e w' => e = .returned (.bool false) ∧ Below w.heap.size w w' := by
  have hn : n.text.toList.isEmpty = true := by rw [toListL, ← L_emp]; exact hA
  have K1 := hide (fun w' hr' => kidsN n ih v w' ⟨#[101, 101]⟩ (by decide) (by decide) hr')
  have hk1 : ltr ⟨#[101, 101]⟩ = [101, 101] := by decide
  rw [hk1] at K1
  rw [hB] at K1
  have HR := hide hr
  obtain ⟨a0, c0, hv0⟩ := RdK_slice hr
  subst hv0
  unfold ndV at K1 ⊢
  rw [hk] at K1 ⊢
  clear hr ht hA hB ih
  generalize n.text = xt at *
  go_enter Tryz.func24, Tryz.ntmps24
  go_wp2_with (first | (go_at_call 20; refine (unhide K1 _ (RdK_later (bal (brf w) _) (unhide HR))).mono ?_; rintro e v1 ⟨rfl, hb1⟩))
  go_ret
  exact ⟨rfl, btr (bal (brf w) _) hb1⟩
set_option maxHeartbeats 400000 in
theorem ex42t (n : Nd) (ih : ∀ x ∈ n.kids, IsC x) (v : Value) (w : World) (ht : n.text.size ≤ maxLen) (hr : RdK w n.kids v) (hk : n.kind = 42) (hA : (n.text.size == 0) = true) (hB : (kidsB n.kids [101, 101]) = true) :
    Calls Tryz.prog 24 #[ndV n v] w fun e w' => e = .returned (.bool true) ∧ Below w.heap.size w w' := by
  have hn : n.text.toList.isEmpty = true := by rw [toListL, ← L_emp]; exact hA
  have K1 := hide (fun w' hr' => kidsN n ih v w' ⟨#[101, 101]⟩ (by decide) (by decide) hr')
  have hk1 : ltr ⟨#[101, 101]⟩ = [101, 101] := by decide
  rw [hk1] at K1
  rw [hB] at K1
  have HR := hide hr
  obtain ⟨a0, c0, hv0⟩ := RdK_slice hr
  subst hv0
  unfold ndV at K1 ⊢
  rw [hk] at K1 ⊢
  clear hr ht hA hB ih
  generalize n.text = xt at *
  go_enter Tryz.func24, Tryz.ntmps24
  go_wp2_with (first | (go_at_call 20; refine (unhide K1 _ (RdK_later (bal (brf w) _) (unhide HR))).mono ?_; rintro e v1 ⟨rfl, hb1⟩))
  go_ret
  exact ⟨rfl, btr (bal (brf w) _) hb1⟩
theorem ex42 (n : Nd) (ih : ∀ x ∈ n.kids, IsC x) (v : Value) (w : World) (ht : n.text.size ≤ maxLen) (hr : RdK w n.kids v) (hk : n.kind = 42) :
    Calls Tryz.prog 24 #[ndV n v] w fun e w' => e = .returned (.bool ((n.text.size == 0) && kidsB n.kids [101, 101])) ∧ Below w.heap.size w w' := by
  cases hA : (n.text.size == 0) with
  | false => exact ex42n n ih v w ht hr hk hA
  | true =>
    cases hB : (kidsB n.kids [101, 101]) with
    | false => exact ex42f n ih v w ht hr hk hA hB
    | true => exact ex42t n ih v w ht hr hk hA hB
set_option maxHeartbeats 400000 in
theorem ex43n (n : Nd) (ih : ∀ x ∈ n.kids, IsC x) (v : Value) (w : World) (ht : n.text.size ≤ maxLen) (hr : RdK w n.kids v) (hk : n.kind = 43) (hA : (n.text.size == 0) = false) :
    Calls Tryz.prog 24 #[ndV n v] w fun e w' => e = .returned (.bool false) ∧ Below w.heap.size w w' := by
  have hn : n.text.toList.isEmpty = false := by rw [toListL, ← L_emp]; exact hA
  obtain ⟨a0, c0, hv0⟩ := RdK_slice hr
  subst hv0
  unfold ndV
  rw [hk]
  clear hr ht hA ih
  generalize n.text = xt at *
  go_enter Tryz.func24, Tryz.ntmps24
  go_wp2
  go_ret
  exact ⟨rfl, bal (brf w) _⟩
set_option maxHeartbeats 400000 in
theorem ex43f (n : Nd) (ih : ∀ x ∈ n.kids, IsC x) (v : Value) (w : World) (ht : n.text.size ≤ maxLen) (hr : RdK w n.kids v) (hk : n.kind = 43) (hA : (n.text.size == 0) = true) (hB : (kidsB n.kids [101]) = false) :
    Calls Tryz.prog 24 #[ndV n v] w fun e w' => e = .returned (.bool false) ∧ Below w.heap.size w w' := by
  have hn : n.text.toList.isEmpty = true := by rw [toListL, ← L_emp]; exact hA
  have K1 := hide (fun w' hr' => kidsN n ih v w' ⟨#[101]⟩ (by decide) (by decide) hr')
  have hk1 : ltr ⟨#[101]⟩ = [101] := by decide
  rw [hk1] at K1
  rw [hB] at K1
  have HR := hide hr
  obtain ⟨a0, c0, hv0⟩ := RdK_slice hr
  subst hv0
  unfold ndV at K1 ⊢
  rw [hk] at K1 ⊢
  clear hr ht hA hB ih
  generalize n.text = xt at *
  go_enter Tryz.func24, Tryz.ntmps24
  go_wp2_with (first | (go_at_call 20; refine (unhide K1 _ (RdK_later (bal (brf w) _) (unhide HR))).mono ?_; rintro e v1 ⟨rfl, hb1⟩))
  go_ret
  exact ⟨rfl, btr (bal (brf w) _) hb1⟩
set_option maxHeartbeats 400000 in
theorem ex43t (n : Nd) (ih : ∀ x ∈ n.kids, IsC x) (v : Value) (w : World) (ht : n.text.size ≤ maxLen) (hr : RdK w n.kids v) (hk : n.kind = 43) (hA : (n.text.size == 0) = true) (hB : (kidsB n.kids [101]) = true) :
    Calls Tryz.prog 24 #[ndV n v] w fun e w' => e = .returned (.bool true) ∧ Below w.heap.size w w' := by
  have hn : n.text.toList.isEmpty = true := by rw [toListL, ← L_emp]; exact hA
  have K1 := hide (fun w' hr' => kidsN n ih v w' ⟨#[101]⟩ (by decide) (by decide) hr')
  have hk1 : ltr ⟨#[101]⟩ = [101] := by decide
  rw [hk1] at K1
  rw [hB] at K1
  have HR := hide hr
  obtain ⟨a0, c0, hv0⟩ := RdK_slice hr
  subst hv0
  unfold ndV at K1 ⊢
  rw [hk] at K1 ⊢
  clear hr ht hA hB ih
  generalize n.text = xt at *
  go_enter Tryz.func24, Tryz.ntmps24
  go_wp2_with (first | (go_at_call 20; refine (unhide K1 _ (RdK_later (bal (brf w) _) (unhide HR))).mono ?_; rintro e v1 ⟨rfl, hb1⟩))
  go_ret
  exact ⟨rfl, btr (bal (brf w) _) hb1⟩
theorem ex43 (n : Nd) (ih : ∀ x ∈ n.kids, IsC x) (v : Value) (w : World) (ht : n.text.size ≤ maxLen) (hr : RdK w n.kids v) (hk : n.kind = 43) :
    Calls Tryz.prog 24 #[ndV n v] w fun e w' => e = .returned (.bool ((n.text.size == 0) && kidsB n.kids [101])) ∧ Below w.heap.size w w' := by
  cases hA : (n.text.size == 0) with
  | false => exact ex43n n ih v w ht hr hk hA
  | true =>
    cases hB : (kidsB n.kids [101]) with
    | false => exact ex43f n ih v w ht hr hk hA hB
    | true => exact ex43t n ih v w ht hr hk hA hB
set_option maxHeartbeats 400000 in
theorem ex44n (n : Nd) (ih : ∀ x ∈ n.kids, IsC x) (v : Value) (w : World) (ht : n.text.size ≤ maxLen) (hr : RdK w n.kids v) (hk : n.kind = 44) (hA : (n.text.size == 0) = false) :
    Calls Tryz.prog 24 #[ndV n v] w fun e w' => e = .returned (.bool false) ∧ Below w.heap.size w w' := by
  have hn : n.text.toList.isEmpty = false := by rw [toListL, ← L_emp]; exact hA
  obtain ⟨a0, c0, hv0⟩ := RdK_slice hr
  subst hv0
  unfold ndV
  rw [hk]
  clear hr ht hA ih
  generalize n.text = xt at *
  go_enter Tryz.func24, Tryz.ntmps24
  go_wp2
  go_ret
  exact ⟨rfl, bal (brf w) _⟩
set_option maxHeartbeats 400000 in
theorem ex44f (n : Nd) (ih : ∀ x ∈ n.kids, IsC x) (v : Value) (w : World) (ht : n.text.size ≤ maxLen) (hr : RdK w n.kids v) (hk : n.kind = 44) (hA : (n.text.size == 0) = true) (hB : (kidsB n.kids [101]) = false) :
    Calls Tryz.prog 24 #[ndV n v] w fun e w' => e = .returned (.bool false) ∧ Below w.heap.size w w' := by
  have hn : n.text.toList.isEmpty = true := by rw [toListL, ← L_emp]; exact hA
  have K1 := hide (fun w' hr' => kidsN n ih v w' ⟨#[101]⟩ (by decide) (by decide) hr')
  have hk1 : ltr ⟨#[101]⟩ = [101] := by decide
  rw [hk1] at K1
  rw [hB] at K1
  have HR := hide hr
  obtain ⟨a0, c0, hv0⟩ := RdK_slice hr
  subst hv0
  unfold ndV at K1 ⊢
  rw [hk] at K1 ⊢
  clear hr ht hA hB ih
  generalize n.text = xt at *
  go_enter Tryz.func24, Tryz.ntmps24
  go_wp2_with (first | (go_at_call 20; refine (unhide K1 _ (RdK_later (bal (brf w) _) (unhide HR))).mono ?_; rintro e v1 ⟨rfl, hb1⟩))
  go_ret
  exact ⟨rfl, btr (bal (brf w) _) hb1⟩
set_option maxHeartbeats 400000 in
theorem ex44t (n : Nd) (ih : ∀ x ∈ n.kids, IsC x) (v : Value) (w : World) (ht : n.text.size ≤ maxLen) (hr : RdK w n.kids v) (hk : n.kind = 44) (hA : (n.text.size == 0) = true) (hB : (kidsB n.kids [101]) = true) :
    Calls Tryz.prog 24 #[ndV n v] w fun e w' => e = .returned (.bool true) ∧ Below w.heap.size w w' := by
  have hn : n.text.toList.isEmpty = true := by rw [toListL, ← L_emp]; exact hA
  have K1 := hide (fun w' hr' => kidsN n ih v w' ⟨#[101]⟩ (by decide) (by decide) hr')
  have hk1 : ltr ⟨#[101]⟩ = [101] := by decide
  rw [hk1] at K1
  rw [hB] at K1
  have HR := hide hr
  obtain ⟨a0, c0, hv0⟩ := RdK_slice hr
  subst hv0
  unfold ndV at K1 ⊢
  rw [hk] at K1 ⊢
  clear hr ht hA hB ih
  generalize n.text = xt at *
  go_enter Tryz.func24, Tryz.ntmps24
  go_wp2_with (first | (go_at_call 20; refine (unhide K1 _ (RdK_later (bal (brf w) _) (unhide HR))).mono ?_; rintro e v1 ⟨rfl, hb1⟩))
  go_ret
  exact ⟨rfl, btr (bal (brf w) _) hb1⟩
theorem ex44 (n : Nd) (ih : ∀ x ∈ n.kids, IsC x) (v : Value) (w : World) (ht : n.text.size ≤ maxLen) (hr : RdK w n.kids v) (hk : n.kind = 44) :
    Calls Tryz.prog 24 #[ndV n v] w fun e w' => e = .returned (.bool ((n.text.size == 0) && kidsB n.kids [101])) ∧ Below w.heap.size w w' := by
  cases hA : (n.text.size == 0) with
  | false => exact ex44n n ih v w ht hr hk hA
  | true =>
    cases hB : (kidsB n.kids [101]) with
    | false => exact ex44f n ih v w ht hr hk hA hB
    | true => exact ex44t n ih v w ht hr hk hA hB
set_option maxHeartbeats 400000 in
theorem ex45n (n : Nd) (ih : ∀ x ∈ n.kids, IsC x) (v : Value) (w : World) (ht : n.text.size ≤ maxLen) (hr : RdK w n.kids v) (hk : n.kind = 45) (hA : (unL.contains (L n.text)) = false) :
    Calls Tryz.prog 24 #[ndV n v] w fun e w' => e = .returned (.bool false) ∧ Below w.heap.size w w' := by
  have FR := hide (fun w' => sUnary n.text w')
  rw [hA] at FR
  obtain ⟨a0, c0, hv0⟩ := RdK_slice hr
  subst hv0
  unfold ndV
  rw [hk]
  clear hr ht hA ih
  generalize n.text = xt at *
  go_enter Tryz.func24, Tryz.ntmps24
  go_wp2_with (first | (go_at_call 35; refine (unhide FR _).mono ?_; rintro e w' ⟨rfl, rfl⟩))
  go_ret
  exact ⟨rfl, bal (brf w) _⟩
set_option maxHeartbeats 400000 in
theorem ex45f (n : Nd) (ih : ∀ x ∈ n.kids, IsC x) (v : Value) (w : World) (ht : n.text.size ≤ maxLen) (hr : RdK w n.kids v) (hk : n.kind = 45) (hA : (unL.contains (L n.text)) = true) (hB : (kidsB n.kids [101]) = false) :
    Calls Tryz.prog 24 #[ndV n v] w fun e w' => e = .returned (.bool false) ∧ Below w.heap.size w w' := by
  have FR := hide (fun w' => sUnary n.text w')
  rw [hA] at FR
  have K1 := hide (fun w' hr' => kidsN n ih v w' ⟨#[101]⟩ (by decide) (by decide) hr')
  have hk1 : ltr ⟨#[101]⟩ = [101] := by decide
  rw [hk1] at K1
  rw [hB] at K1
  have HR := hide hr
  obtain ⟨a0, c0, hv0⟩ := RdK_slice hr
  subst hv0
  unfold ndV at K1 ⊢
  rw [hk] at K1 ⊢
  clear hr ht hA hB ih
  generalize n.text = xt at *
  go_enter Tryz.func24, Tryz.ntmps24
  go_wp2_with (first | (go_at_call 35; refine (unhide FR _).mono ?_; rintro e w' ⟨rfl, rfl⟩) | (go_at_call 20; refine (unhide K1 _ (RdK_later (bal (brf w) _) (unhide HR))).mono ?_; rintro e v1 ⟨rfl, hb1⟩))
  go_ret
  exact ⟨rfl, btr (bal (brf w) _) hb1⟩
set_option maxHeartbeats 400000 in
theorem ex45t (n : Nd) (ih : ∀ x ∈ n.kids, IsC x) (v : Value) (w : World) (ht : n.text.size ≤ maxLen) (hr : RdK w n.kids v) (hk : n.kind = 45) (hA : (unL.contains (L n.text)) = true) (hB : (kidsB n.kids [101]) = true) :
    Calls Tryz.prog 24 #[ndV n v] w fun e w' => e = .returned (.bool true) ∧ Below w.heap.size w w' := by
  have FR := hide (fun w' => sUnary n.text w')
  rw [hA] at FR
  have K1 := hide (fun w' hr' => kidsN n ih v w' ⟨#[101]⟩ (by decide) (by decide) hr')
  have hk1 : ltr ⟨#[101]⟩ = [101] := by decide
  rw [hk1] at K1
  rw [hB] at K1
  have HR := hide hr
  obtain ⟨a0, c0, hv0⟩ := RdK_slice hr
  subst hv0
  unfold ndV at K1 ⊢
  rw [hk] at K1 ⊢
  clear hr ht hA hB ih
  generalize n.text = xt at *
  go_enter Tryz.func24, Tryz.ntmps24
  go_wp2_with (first | (go_at_call 35; refine (unhide FR _).mono ?_; rintro e w' ⟨rfl, rfl⟩) | (go_at_call 20; refine (unhide K1 _ (RdK_later (bal (brf w) _) (unhide HR))).mono ?_; rintro e v1 ⟨rfl, hb1⟩))
  go_ret
  exact ⟨rfl, btr (bal (brf w) _) hb1⟩
theorem ex45 (n : Nd) (ih : ∀ x ∈ n.kids, IsC x) (v : Value) (w : World) (ht : n.text.size ≤ maxLen) (hr : RdK w n.kids v) (hk : n.kind = 45) :
    Calls Tryz.prog 24 #[ndV n v] w fun e w' => e = .returned (.bool ((unL.contains (L n.text)) && kidsB n.kids [101])) ∧ Below w.heap.size w w' := by
  cases hA : (unL.contains (L n.text)) with
  | false => exact ex45n n ih v w ht hr hk hA
  | true =>
    cases hB : (kidsB n.kids [101]) with
    | false => exact ex45f n ih v w ht hr hk hA hB
    | true => exact ex45t n ih v w ht hr hk hA hB
set_option maxHeartbeats 400000 in
theorem ex47n (n : Nd) (ih : ∀ x ∈ n.kids, IsC x) (v : Value) (w : World) (ht : n.text.size ≤ maxLen) (hr : RdK w n.kids v) (hk : n.kind = 47) (hA : (n.text.size == 0) = false) :
    Calls Tryz.prog 24 #[ndV n v] w fun e w' => e = .returned (.bool false) ∧ Below w.heap.size w w' := by
  have hn : n.text.toList.isEmpty = false := by rw [toListL, ← L_emp]; exact hA
  obtain ⟨a0, c0, hv0⟩ := RdK_slice hr
  subst hv0
  unfold ndV
  rw [hk]
  clear hr ht hA ih
  generalize n.text = xt at *
  go_enter Tryz.func24, Tryz.ntmps24
  go_wp2
  go_ret
  exact ⟨rfl, bal (brf w) _⟩
set_option maxHeartbeats 400000 in
theorem ex47f (n : Nd) (ih : ∀ x ∈ n.kids, IsC x) (v : Value) (w : World) (ht : n.text.size ≤ maxLen) (hr : RdK w n.kids v) (hk : n.kind = 47) (hA : (n.text.size == 0) = true) (hB : (kidsB n.kids [101, 101, 101]) = false) :
    Calls Tryz.prog 24 #[ndV n v] w fun e w' => e = .returned (.bool false) ∧ Below w.heap.size w w' := by
  have hn : n.text.toList.isEmpty = true := by rw [toListL, ← L_emp]; exact hA
  have K1 := hide (fun w' hr' => kidsN n ih v w' ⟨#[101, 101, 101]⟩ (by decide) (by decide) hr')
  have hk1 : ltr ⟨#[101, 101, 101]⟩ = [101, 101, 101] := by decide
  rw [hk1] at K1
  rw [hB] at K1
  have HR := hide hr
  obtain ⟨a0, c0, hv0⟩ := RdK_slice hr
  subst hv0
  unfold ndV at K1 ⊢
  rw [hk] at K1 ⊢
  clear hr ht hA hB ih
  generalize n.text = xt at *
  go_enter Tryz.func24, Tryz.ntmps24
  go_wp2_with (first | (go_at_call 20; refine (unhide K1 _ (RdK_later (bal (brf w) _) (unhide HR))).mono ?_; rintro e v1 ⟨rfl, hb1⟩))
  go_ret
  exact ⟨rfl, btr (bal (brf w) _) hb1⟩
set_option maxHeartbeats 400000 in
theorem ex47t (n : Nd) (ih : ∀ x ∈ n.kids, IsC x) (v : Value) (w : World) (ht : n.text.size ≤ maxLen) (hr : RdK w n.kids v) (hk : n.kind = 47) (hA : (n.text.size == 0) = true) (hB : (kidsB n.kids [101, 101, 101]) = true) :
    Calls Tryz.prog 24 #[ndV n v] w fun e w' => e = .returned (.bool true) ∧ Below w.heap.size w w' := by
  have hn : n.text.toList.isEmpty = true := by rw [toListL, ← L_emp]; exact hA
  have K1 := hide (fun w' hr' => kidsN n ih v w' ⟨#[101, 101, 101]⟩ (by decide) (by decide) hr')
  have hk1 : ltr ⟨#[101, 101, 101]⟩ = [101, 101, 101] := by decide
  rw [hk1] at K1
  rw [hB] at K1
  have HR := hide hr
  obtain ⟨a0, c0, hv0⟩ := RdK_slice hr
  subst hv0
  unfold ndV at K1 ⊢
  rw [hk] at K1 ⊢
  clear hr ht hA hB ih
  generalize n.text = xt at *
  go_enter Tryz.func24, Tryz.ntmps24
  go_wp2_with (first | (go_at_call 20; refine (unhide K1 _ (RdK_later (bal (brf w) _) (unhide HR))).mono ?_; rintro e v1 ⟨rfl, hb1⟩))
  go_ret
  exact ⟨rfl, btr (bal (brf w) _) hb1⟩
theorem ex47 (n : Nd) (ih : ∀ x ∈ n.kids, IsC x) (v : Value) (w : World) (ht : n.text.size ≤ maxLen) (hr : RdK w n.kids v) (hk : n.kind = 47) :
    Calls Tryz.prog 24 #[ndV n v] w fun e w' => e = .returned (.bool ((n.text.size == 0) && kidsB n.kids [101, 101, 101])) ∧ Below w.heap.size w w' := by
  cases hA : (n.text.size == 0) with
  | false => exact ex47n n ih v w ht hr hk hA
  | true =>
    cases hB : (kidsB n.kids [101, 101, 101]) with
    | false => exact ex47f n ih v w ht hr hk hA hB
    | true => exact ex47t n ih v w ht hr hk hA hB
set_option maxHeartbeats 400000 in
theorem ex40n (n : Nd) (ih : ∀ x ∈ n.kids, IsC x) (v : Value) (w : World) (ht : n.text.size ≤ maxLen) (hr : RdK w n.kids v) (hk : n.kind = 40) (hA : (freeB n.text) = false) :
    Calls Tryz.prog 24 #[ndV n v] w fun e w' => e = .returned (.bool false) ∧ Below w.heap.size w w' := by
  have FR := hide (fun w' => sFree n.text w' ht)
  rw [hA] at FR
  obtain ⟨a0, c0, hv0⟩ := RdK_slice hr
  subst hv0
  unfold ndV
  rw [hk]
  clear hr ht hA ih
  generalize n.text = xt at *
  go_enter Tryz.func24, Tryz.ntmps24
  go_wp2_with (first | (go_at_call 21; refine (unhide FR _).mono ?_; rintro e w' ⟨rfl, rfl⟩))
  go_ret
  exact ⟨rfl, bal (brf w) _⟩
set_option maxHeartbeats 400000 in
theorem ex40f (n : Nd) (ih : ∀ x ∈ n.kids, IsC x) (v : Value) (w : World) (ht : n.text.size ≤ maxLen) (hr : RdK w n.kids v) (hk : n.kind = 40) (hA : (freeB n.text) = true) (hB : (n.kids.all (okIs 101)) = false) :
    Calls Tryz.prog 24 #[ndV n v] w fun e w' => e = .returned (.bool false) ∧ Below w.heap.size w w' := by
  have FR := hide (fun w' => sFree n.text w' ht)
  rw [hA] at FR
  have K1 := hide (fun w' hr' => allN n ih v w' 0 101 (by decide) (by decide) hr')
  rw [List.drop_zero] at K1
  rw [hB] at K1
  have HR := hide hr
  obtain ⟨a0, c0, hv0⟩ := RdK_slice hr
  subst hv0
  unfold ndV at K1 ⊢
  rw [hk] at K1 ⊢
  clear hr ht hA hB ih
  generalize n.text = xt at *
  go_enter Tryz.func24, Tryz.ntmps24
  go_wp2_with (first | (go_at_call 21; refine (unhide FR _).mono ?_; rintro e w' ⟨rfl, rfl⟩) | (go_at_call 11; refine (unhide K1 _ (RdK_later (bal (brf w) _) (unhide HR))).mono ?_; rintro e v1 ⟨rfl, hb1⟩))
  go_ret
  exact ⟨rfl, btr (bal (brf w) _) hb1⟩
set_option maxHeartbeats 400000 in
theorem ex40t (n : Nd) (ih : ∀ x ∈ n.kids, IsC x) (v : Value) (w : World) (ht : n.text.size ≤ maxLen) (hr : RdK w n.kids v) (hk : n.kind = 40) (hA : (freeB n.text) = true) (hB : (n.kids.all (okIs 101)) = true) :
    Calls Tryz.prog 24 #[ndV n v] w fun e w' => e = .returned (.bool true) ∧ Below w.heap.size w w' := by
  have FR := hide (fun w' => sFree n.text w' ht)
  rw [hA] at FR
  have K1 := hide (fun w' hr' => allN n ih v w' 0 101 (by decide) (by decide) hr')
  rw [List.drop_zero] at K1
  rw [hB] at K1
  have HR := hide hr
  obtain ⟨a0, c0, hv0⟩ := RdK_slice hr
  subst hv0
  unfold ndV at K1 ⊢
  rw [hk] at K1 ⊢
  clear hr ht hA hB ih
  generalize n.text = xt at *
  go_enter Tryz.func24, Tryz.ntmps24
  go_wp2_with (first | (go_at_call 21; refine (unhide FR _).mono ?_; rintro e w' ⟨rfl, rfl⟩) | (go_at_call 11; refine (unhide K1 _ (RdK_later (bal (brf w) _) (unhide HR))).mono ?_; rintro e v1 ⟨rfl, hb1⟩))
  go_ret
  exact ⟨rfl, btr (bal (brf w) _) hb1⟩
theorem ex40 (n : Nd) (ih : ∀ x ∈ n.kids, IsC x) (v : Value) (w : World) (ht : n.text.size ≤ maxLen) (hr : RdK w n.kids v) (hk : n.kind = 40) :
    Calls Tryz.prog 24 #[ndV n v] w fun e w' => e = .returned (.bool ((freeB n.text) && n.kids.all (okIs 101))) ∧ Below w.heap.size w w' := by
  cases hA : (freeB n.text) with
  | false => exact ex40n n ih v w ht hr hk hA
  | true =>
    cases hB : (n.kids.all (okIs 101)) with
    | false => exact ex40f n ih v w ht hr hk hA hB
    | true => exact ex40t n ih v w ht hr hk hA hB
end Go.Proofs.YtlcpmbdckmdabaaGreatDoor
namespace Go.Proofs.YtlcpmbdckmdabaaGreatDoor
open Go.RowKit Nt
set_option linter.unusedVariables false
set_option maxRecDepth 100000
set_option maxHeartbeats 400000 in
theorem ex46n (n : Nd) (ih : ∀ x ∈ n.kids, IsC x) (v : Value) (w : World) (ht : n.text.size ≤ maxLen) (hr : RdK w n.kids v) (hk : n.kind = 46) (hA : (binL.contains (L n.text)) = false) :
    Calls Tryz.prog 24 #[ndV n v] w fun e w' => e = .returned (.bool false) ∧ Below w.heap.size w w' := by
  have FR := hide (fun w' => sGroup n.text w')
  rw [hA] at FR
  obtain ⟨a0, c0, hv0⟩ := RdK_slice hr
  subst hv0
  unfold ndV
  rw [hk]
  clear hr ht hA ih
  generalize n.text = xt at *
  go_enter Tryz.func24, Tryz.ntmps24
  go_wp2_with (first | (go_at_call 36; refine (unhide FR _).mono ?_; rintro e w' ⟨⟨g, rfl, hg⟩, rfl⟩; first | (have hg' := of_decide_eq_true hg) | (have hg' := of_decide_eq_false hg)))
  go_ret
  exact ⟨rfl, bal (brf w) _⟩
set_option maxHeartbeats 400000 in
theorem ex46f (n : Nd) (ih : ∀ x ∈ n.kids, IsC x) (v : Value) (w : World) (ht : n.text.size ≤ maxLen) (hr : RdK w n.kids v) (hk : n.kind = 46) (hA : (binL.contains (L n.text)) = true) (hB : (kidsB n.kids [101, 101]) = false) :
    Calls Tryz.prog 24 #[ndV n v] w fun e w' => e = .returned (.bool false) ∧ Below w.heap.size w w' := by
  have FR := hide (fun w' => sGroup n.text w')
  rw [hA] at FR
  have K1 := hide (fun w' hr' => kidsN n ih v w' ⟨#[101, 101]⟩ (by decide) (by decide) hr')
  have hk1 : ltr ⟨#[101, 101]⟩ = [101, 101] := by decide
  rw [hk1] at K1
  rw [hB] at K1
  have HR := hide hr
  obtain ⟨a0, c0, hv0⟩ := RdK_slice hr
  subst hv0
  unfold ndV at K1 ⊢
  rw [hk] at K1 ⊢
  clear hr ht hA hB ih
  generalize n.text = xt at *
  go_enter Tryz.func24, Tryz.ntmps24
  go_wp2_with (first | (go_at_call 36; refine (unhide FR _).mono ?_; rintro e w' ⟨⟨g, rfl, hg⟩, rfl⟩; first | (have hg' := of_decide_eq_true hg) | (have hg' := of_decide_eq_false hg)) | (go_at_call 20; refine (unhide K1 _ (RdK_later (bal (brf w) _) (unhide HR))).mono ?_; rintro e v1 ⟨rfl, hb1⟩))
  go_ret
  exact ⟨rfl, btr (bal (brf w) _) hb1⟩
set_option maxHeartbeats 400000 in
theorem ex46t (n : Nd) (ih : ∀ x ∈ n.kids, IsC x) (v : Value) (w : World) (ht : n.text.size ≤ maxLen) (hr : RdK w n.kids v) (hk : n.kind = 46) (hA : (binL.contains (L n.text)) = true) (hB : (kidsB n.kids [101, 101]) = true) :
    Calls Tryz.prog 24 #[ndV n v] w fun e w' => e = .returned (.bool true) ∧ Below w.heap.size w w' := by
  have FR := hide (fun w' => sGroup n.text w')
  rw [hA] at FR
  have K1 := hide (fun w' hr' => kidsN n ih v w' ⟨#[101, 101]⟩ (by decide) (by decide) hr')
  have hk1 : ltr ⟨#[101, 101]⟩ = [101, 101] := by decide
  rw [hk1] at K1
  rw [hB] at K1
  have HR := hide hr
  obtain ⟨a0, c0, hv0⟩ := RdK_slice hr
  subst hv0
  unfold ndV at K1 ⊢
  rw [hk] at K1 ⊢
  clear hr ht hA hB ih
  generalize n.text = xt at *
  go_enter Tryz.func24, Tryz.ntmps24
  go_wp2_with (first | (go_at_call 36; refine (unhide FR _).mono ?_; rintro e w' ⟨⟨g, rfl, hg⟩, rfl⟩; first | (have hg' := of_decide_eq_true hg) | (have hg' := of_decide_eq_false hg)) | (go_at_call 20; refine (unhide K1 _ (RdK_later (bal (brf w) _) (unhide HR))).mono ?_; rintro e v1 ⟨rfl, hb1⟩))
  go_ret
  exact ⟨rfl, btr (bal (brf w) _) hb1⟩
theorem ex46 (n : Nd) (ih : ∀ x ∈ n.kids, IsC x) (v : Value) (w : World) (ht : n.text.size ≤ maxLen) (hr : RdK w n.kids v) (hk : n.kind = 46) :
    Calls Tryz.prog 24 #[ndV n v] w fun e w' => e = .returned (.bool ((binL.contains (L n.text)) && kidsB n.kids [101, 101])) ∧ Below w.heap.size w w' := by
  cases hA : (binL.contains (L n.text)) with
  | false => exact ex46n n ih v w ht hr hk hA
  | true =>
    cases hB : (kidsB n.kids [101, 101]) with
    | false => exact ex46f n ih v w ht hr hk hA hB
    | true => exact ex46t n ih v w ht hr hk hA hB
end Go.Proofs.YtlcpmbdckmdabaaGreatDoor
