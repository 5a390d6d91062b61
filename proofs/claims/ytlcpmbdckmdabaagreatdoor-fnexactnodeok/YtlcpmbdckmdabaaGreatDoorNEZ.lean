/- What the specification's l03Item answers of plain kinds. What the specification's l03Item answers of plain kinds. -/
import Derived.Test.YtlcpmbdckmdabaaGreatDoorNEY
namespace Go.Proofs.YtlcpmbdckmdabaaGreatDoor
open Go.RowKit Nt
set_option linter.unusedVariables false
set_option maxRecDepth 100000
set_option maxHeartbeats 400000 in
theorem it19n (n : Nd) (ih : ∀ x ∈ n.kids, IsC x) (v : Value) (w : World) (ht : n.text.size ≤ maxLen) (hr : RdK w n.kids v) (hk : n.kind = 19) (hA : (freeB n.text) = false) :
    Calls Tryz.prog 22 #[ndV n v] w fun e w' => e = .returned (.bool false) ∧ Below w.heap.size w w' := by
  have FR := hide (fun w' => sFree n.text w' ht)
  rw [hA] at FR
  obtain ⟨a0, c0, hv0⟩ := RdK_slice hr
  subst hv0
  unfold ndV
  rw [hk]
  clear hr ht hA ih
  generalize n.text = xt at *
  go_enter Tryz.func22, Tryz.ntmps22
  go_wp2_with (first | (go_at_call 21; refine (unhide FR _).mono ?_; rintro e w' ⟨rfl, rfl⟩))
  go_ret
  exact ⟨rfl, bal (brf w) _⟩
set_option maxHeartbeats 400000 in
theorem it19f (n : Nd) (ih : ∀ x ∈ n.kids, IsC x) (v : Value) (w : World) (ht : n.text.size ≤ maxLen) (hr : RdK w n.kids v) (hk : n.kind = 19) (hA : (freeB n.text) = true) (hB : (kidsB n.kids [116, 70, 101]) = false) :
    Calls Tryz.prog 22 #[ndV n v] w fun e w' => e = .returned (.bool false) ∧ Below w.heap.size w w' := by
  have FR := hide (fun w' => sFree n.text w' ht)
  rw [hA] at FR
  have K1 := hide (fun w' hr' => kidsN n ih v w' ⟨#[116, 70, 101]⟩ (by decide) (by decide) hr')
  have hk1 : ltr ⟨#[116, 70, 101]⟩ = [116, 70, 101] := by decide
  rw [hk1] at K1
  rw [hB] at K1
  have HR := hide hr
  obtain ⟨a0, c0, hv0⟩ := RdK_slice hr
  subst hv0
  unfold ndV at K1 ⊢
  rw [hk] at K1 ⊢
  clear hr ht hA hB ih
  generalize n.text = xt at *
  go_enter Tryz.func22, Tryz.ntmps22
  go_wp2_with (first | (go_at_call 21; refine (unhide FR _).mono ?_; rintro e w' ⟨rfl, rfl⟩) | (go_at_call 20; refine (unhide K1 _ (RdK_later (bal (brf w) _) (unhide HR))).mono ?_; rintro e v1 ⟨rfl, hb1⟩))
  go_ret
  exact ⟨rfl, btr (bal (brf w) _) hb1⟩
set_option maxHeartbeats 400000 in
theorem it19t (n : Nd) (ih : ∀ x ∈ n.kids, IsC x) (v : Value) (w : World) (ht : n.text.size ≤ maxLen) (hr : RdK w n.kids v) (hk : n.kind = 19) (hA : (freeB n.text) = true) (hB : (kidsB n.kids [116, 70, 101]) = true) :
    Calls Tryz.prog 22 #[ndV n v] w fun e w' => e = .returned (.bool true) ∧ Below w.heap.size w w' := by
  have FR := hide (fun w' => sFree n.text w' ht)
  rw [hA] at FR
  have K1 := hide (fun w' hr' => kidsN n ih v w' ⟨#[116, 70, 101]⟩ (by decide) (by decide) hr')
  have hk1 : ltr ⟨#[116, 70, 101]⟩ = [116, 70, 101] := by decide
  rw [hk1] at K1
  rw [hB] at K1
  have HR := hide hr
  obtain ⟨a0, c0, hv0⟩ := RdK_slice hr
  subst hv0
  unfold ndV at K1 ⊢
  rw [hk] at K1 ⊢
  clear hr ht hA hB ih
  generalize n.text = xt at *
  go_enter Tryz.func22, Tryz.ntmps22
  go_wp2_with (first | (go_at_call 21; refine (unhide FR _).mono ?_; rintro e w' ⟨rfl, rfl⟩) | (go_at_call 20; refine (unhide K1 _ (RdK_later (bal (brf w) _) (unhide HR))).mono ?_; rintro e v1 ⟨rfl, hb1⟩))
  go_ret
  exact ⟨rfl, btr (bal (brf w) _) hb1⟩
theorem it19 (n : Nd) (ih : ∀ x ∈ n.kids, IsC x) (v : Value) (w : World) (ht : n.text.size ≤ maxLen) (hr : RdK w n.kids v) (hk : n.kind = 19) :
    Calls Tryz.prog 22 #[ndV n v] w fun e w' => e = .returned (.bool ((freeB n.text) && kidsB n.kids [116, 70, 101])) ∧ Below w.heap.size w w' := by
  cases hA : (freeB n.text) with
  | false => exact it19n n ih v w ht hr hk hA
  | true =>
    cases hB : (kidsB n.kids [116, 70, 101]) with
    | false => exact it19f n ih v w ht hr hk hA hB
    | true => exact it19t n ih v w ht hr hk hA hB
set_option maxHeartbeats 400000 in
theorem it20n (n : Nd) (ih : ∀ x ∈ n.kids, IsC x) (v : Value) (w : World) (ht : n.text.size ≤ maxLen) (hr : RdK w n.kids v) (hk : n.kind = 20) (hA : (freeB n.text) = false) :
    Calls Tryz.prog 22 #[ndV n v] w fun e w' => e = .returned (.bool false) ∧ Below w.heap.size w w' := by
  have FR := hide (fun w' => sFree n.text w' ht)
  rw [hA] at FR
  obtain ⟨a0, c0, hv0⟩ := RdK_slice hr
  subst hv0
  unfold ndV
  rw [hk]
  clear hr ht hA ih
  generalize n.text = xt at *
  go_enter Tryz.func22, Tryz.ntmps22
  go_wp2_with (first | (go_at_call 21; refine (unhide FR _).mono ?_; rintro e w' ⟨rfl, rfl⟩))
  go_ret
  exact ⟨rfl, bal (brf w) _⟩
set_option maxHeartbeats 400000 in
theorem it20f (n : Nd) (ih : ∀ x ∈ n.kids, IsC x) (v : Value) (w : World) (ht : n.text.size ≤ maxLen) (hr : RdK w n.kids v) (hk : n.kind = 20) (hA : (freeB n.text) = true) (hB : (kidsB n.kids [101, 101, 115]) = false) :
    Calls Tryz.prog 22 #[ndV n v] w fun e w' => e = .returned (.bool false) ∧ Below w.heap.size w w' := by
  have FR := hide (fun w' => sFree n.text w' ht)
  rw [hA] at FR
  have K1 := hide (fun w' hr' => kidsN n ih v w' ⟨#[101, 101, 115]⟩ (by decide) (by decide) hr')
  have hk1 : ltr ⟨#[101, 101, 115]⟩ = [101, 101, 115] := by decide
  rw [hk1] at K1
  rw [hB] at K1
  have HR := hide hr
  obtain ⟨a0, c0, hv0⟩ := RdK_slice hr
  subst hv0
  unfold ndV at K1 ⊢
  rw [hk] at K1 ⊢
  clear hr ht hA hB ih
  generalize n.text = xt at *
  go_enter Tryz.func22, Tryz.ntmps22
  go_wp2_with (first | (go_at_call 21; refine (unhide FR _).mono ?_; rintro e w' ⟨rfl, rfl⟩) | (go_at_call 20; refine (unhide K1 _ (RdK_later (bal (brf w) _) (unhide HR))).mono ?_; rintro e v1 ⟨rfl, hb1⟩))
  go_ret
  exact ⟨rfl, btr (bal (brf w) _) hb1⟩
set_option maxHeartbeats 400000 in
theorem it20t (n : Nd) (ih : ∀ x ∈ n.kids, IsC x) (v : Value) (w : World) (ht : n.text.size ≤ maxLen) (hr : RdK w n.kids v) (hk : n.kind = 20) (hA : (freeB n.text) = true) (hB : (kidsB n.kids [101, 101, 115]) = true) :
    Calls Tryz.prog 22 #[ndV n v] w fun e w' => e = .returned (.bool true) ∧ Below w.heap.size w w' := by
  have FR := hide (fun w' => sFree n.text w' ht)
  rw [hA] at FR
  have K1 := hide (fun w' hr' => kidsN n ih v w' ⟨#[101, 101, 115]⟩ (by decide) (by decide) hr')
  have hk1 : ltr ⟨#[101, 101, 115]⟩ = [101, 101, 115] := by decide
  rw [hk1] at K1
  rw [hB] at K1
  have HR := hide hr
  obtain ⟨a0, c0, hv0⟩ := RdK_slice hr
  subst hv0
  unfold ndV at K1 ⊢
  rw [hk] at K1 ⊢
  clear hr ht hA hB ih
  generalize n.text = xt at *
  go_enter Tryz.func22, Tryz.ntmps22
  go_wp2_with (first | (go_at_call 21; refine (unhide FR _).mono ?_; rintro e w' ⟨rfl, rfl⟩) | (go_at_call 20; refine (unhide K1 _ (RdK_later (bal (brf w) _) (unhide HR))).mono ?_; rintro e v1 ⟨rfl, hb1⟩))
  go_ret
  exact ⟨rfl, btr (bal (brf w) _) hb1⟩
theorem it20 (n : Nd) (ih : ∀ x ∈ n.kids, IsC x) (v : Value) (w : World) (ht : n.text.size ≤ maxLen) (hr : RdK w n.kids v) (hk : n.kind = 20) :
    Calls Tryz.prog 22 #[ndV n v] w fun e w' => e = .returned (.bool ((freeB n.text) && kidsB n.kids [101, 101, 115])) ∧ Below w.heap.size w w' := by
  cases hA : (freeB n.text) with
  | false => exact it20n n ih v w ht hr hk hA
  | true =>
    cases hB : (kidsB n.kids [101, 101, 115]) with
    | false => exact it20f n ih v w ht hr hk hA hB
    | true => exact it20t n ih v w ht hr hk hA hB
set_option maxHeartbeats 400000 in
theorem it22n (n : Nd) (ih : ∀ x ∈ n.kids, IsC x) (v : Value) (w : World) (ht : n.text.size ≤ maxLen) (hr : RdK w n.kids v) (hk : n.kind = 22) (hA : (freeB n.text) = false) :
    Calls Tryz.prog 22 #[ndV n v] w fun e w' => e = .returned (.bool false) ∧ Below w.heap.size w w' := by
  have FR := hide (fun w' => sFree n.text w' ht)
  rw [hA] at FR
  obtain ⟨a0, c0, hv0⟩ := RdK_slice hr
  subst hv0
  unfold ndV
  rw [hk]
  clear hr ht hA ih
  generalize n.text = xt at *
  go_enter Tryz.func22, Tryz.ntmps22
  go_wp2_with (first | (go_at_call 21; refine (unhide FR _).mono ?_; rintro e w' ⟨rfl, rfl⟩))
  go_ret
  exact ⟨rfl, bal (brf w) _⟩
set_option maxHeartbeats 400000 in
theorem it22f (n : Nd) (ih : ∀ x ∈ n.kids, IsC x) (v : Value) (w : World) (ht : n.text.size ≤ maxLen) (hr : RdK w n.kids v) (hk : n.kind = 22) (hA : (freeB n.text) = true) (hB : (kidsB n.kids [110, 112, 99]) = false) :
    Calls Tryz.prog 22 #[ndV n v] w fun e w' => e = .returned (.bool false) ∧ Below w.heap.size w w' := by
  have FR := hide (fun w' => sFree n.text w' ht)
  rw [hA] at FR
  have K1 := hide (fun w' hr' => kidsN n ih v w' ⟨#[110, 112, 99]⟩ (by decide) (by decide) hr')
  have hk1 : ltr ⟨#[110, 112, 99]⟩ = [110, 112, 99] := by decide
  rw [hk1] at K1
  rw [hB] at K1
  have HR := hide hr
  obtain ⟨a0, c0, hv0⟩ := RdK_slice hr
  subst hv0
  unfold ndV at K1 ⊢
  rw [hk] at K1 ⊢
  clear hr ht hA hB ih
  generalize n.text = xt at *
  go_enter Tryz.func22, Tryz.ntmps22
  go_wp2_with (first | (go_at_call 21; refine (unhide FR _).mono ?_; rintro e w' ⟨rfl, rfl⟩) | (go_at_call 20; refine (unhide K1 _ (RdK_later (bal (brf w) _) (unhide HR))).mono ?_; rintro e v1 ⟨rfl, hb1⟩))
  go_ret
  exact ⟨rfl, btr (bal (brf w) _) hb1⟩
set_option maxHeartbeats 400000 in
theorem it22t (n : Nd) (ih : ∀ x ∈ n.kids, IsC x) (v : Value) (w : World) (ht : n.text.size ≤ maxLen) (hr : RdK w n.kids v) (hk : n.kind = 22) (hA : (freeB n.text) = true) (hB : (kidsB n.kids [110, 112, 99]) = true) :
    Calls Tryz.prog 22 #[ndV n v] w fun e w' => e = .returned (.bool true) ∧ Below w.heap.size w w' := by
  have FR := hide (fun w' => sFree n.text w' ht)
  rw [hA] at FR
  have K1 := hide (fun w' hr' => kidsN n ih v w' ⟨#[110, 112, 99]⟩ (by decide) (by decide) hr')
  have hk1 : ltr ⟨#[110, 112, 99]⟩ = [110, 112, 99] := by decide
  rw [hk1] at K1
  rw [hB] at K1
  have HR := hide hr
  obtain ⟨a0, c0, hv0⟩ := RdK_slice hr
  subst hv0
  unfold ndV at K1 ⊢
  rw [hk] at K1 ⊢
  clear hr ht hA hB ih
  generalize n.text = xt at *
  go_enter Tryz.func22, Tryz.ntmps22
  go_wp2_with (first | (go_at_call 21; refine (unhide FR _).mono ?_; rintro e w' ⟨rfl, rfl⟩) | (go_at_call 20; refine (unhide K1 _ (RdK_later (bal (brf w) _) (unhide HR))).mono ?_; rintro e v1 ⟨rfl, hb1⟩))
  go_ret
  exact ⟨rfl, btr (bal (brf w) _) hb1⟩
theorem it22 (n : Nd) (ih : ∀ x ∈ n.kids, IsC x) (v : Value) (w : World) (ht : n.text.size ≤ maxLen) (hr : RdK w n.kids v) (hk : n.kind = 22) :
    Calls Tryz.prog 22 #[ndV n v] w fun e w' => e = .returned (.bool ((freeB n.text) && kidsB n.kids [110, 112, 99])) ∧ Below w.heap.size w w' := by
  cases hA : (freeB n.text) with
  | false => exact it22n n ih v w ht hr hk hA
  | true =>
    cases hB : (kidsB n.kids [110, 112, 99]) with
    | false => exact it22f n ih v w ht hr hk hA hB
    | true => exact it22t n ih v w ht hr hk hA hB
set_option maxHeartbeats 400000 in
theorem it10n (n : Nd) (ih : ∀ x ∈ n.kids, IsC x) (v : Value) (w : World) (ht : n.text.size ≤ maxLen) (hr : RdK w n.kids v) (hk : n.kind = 10) (hA : (freeB n.text) = false) :
    Calls Tryz.prog 22 #[ndV n v] w fun e w' => e = .returned (.bool false) ∧ Below w.heap.size w w' := by
  have FR := hide (fun w' => sFree n.text w' ht)
  rw [hA] at FR
  obtain ⟨a0, c0, hv0⟩ := RdK_slice hr
  subst hv0
  unfold ndV
  rw [hk]
  clear hr ht hA ih
  generalize n.text = xt at *
  go_enter Tryz.func22, Tryz.ntmps22
  go_wp2_with (first | (go_at_call 21; refine (unhide FR _).mono ?_; rintro e w' ⟨rfl, rfl⟩))
  go_ret
  exact ⟨rfl, bal (brf w) _⟩
set_option maxHeartbeats 400000 in
theorem it10t (n : Nd) (ih : ∀ x ∈ n.kids, IsC x) (v : Value) (w : World) (ht : n.text.size ≤ maxLen) (hr : RdK w n.kids v) (hk : n.kind = 10) (hA : (freeB n.text) = true) (hB : kidsB n.kids [116] = true) :
    Calls Tryz.prog 22 #[ndV n v] w fun e w' => e = .returned (.bool true) ∧ Below w.heap.size w w' := by
  have FR := hide (fun w' => sFree n.text w' ht)
  rw [hA] at FR
  have K1 := hide (fun w' hr' => kidsN n ih v w' ⟨#[116]⟩ (by decide) (by decide) hr')
  have hk1 : ltr ⟨#[116]⟩ = [116] := by decide
  rw [hk1, hB] at K1
  have HR := hide hr
  obtain ⟨a0, c0, hv0⟩ := RdK_slice hr
  subst hv0
  unfold ndV at K1 ⊢
  rw [hk] at K1 ⊢
  clear hr ht hA hB ih
  generalize n.text = xt at *
  go_enter Tryz.func22, Tryz.ntmps22
  go_wp2_with (first | (go_at_call 21; refine (unhide FR _).mono ?_; rintro e w' ⟨rfl, rfl⟩) | (go_at_call_of 20 (Value.string ⟨#[116]⟩); refine (unhide K1 _ (RdK_later (bal (brf w) _) (unhide HR))).mono ?_; rintro e v1 ⟨rfl, hb1⟩; obtain ⟨hc1, hf1⟩ := bcell hb1))
  go_ret
  exact ⟨rfl, btr (bal (brf w) _) hb1⟩
set_option maxHeartbeats 400000 in
theorem it10ft (n : Nd) (ih : ∀ x ∈ n.kids, IsC x) (v : Value) (w : World) (ht : n.text.size ≤ maxLen) (hr : RdK w n.kids v) (hk : n.kind = 10) (hA : (freeB n.text) = true) (hB : kidsB n.kids [116] = false) (hC : kidsB n.kids [116, 101] = true) :
    Calls Tryz.prog 22 #[ndV n v] w fun e w' => e = .returned (.bool true) ∧ Below w.heap.size w w' := by
  have FR := hide (fun w' => sFree n.text w' ht)
  rw [hA] at FR
  have K1 := hide (fun w' hr' => kidsN n ih v w' ⟨#[116]⟩ (by decide) (by decide) hr')
  have hk1 : ltr ⟨#[116]⟩ = [116] := by decide
  rw [hk1, hB] at K1
  have K2 := hide (fun w' hr' => kidsN n ih v w' ⟨#[116, 101]⟩ (by decide) (by decide) hr')
  have hk2 : ltr ⟨#[116, 101]⟩ = [116, 101] := by decide
  rw [hk2, hC] at K2
  have HR := hide hr
  obtain ⟨a0, c0, hv0⟩ := RdK_slice hr
  subst hv0
  unfold ndV at K1 K2 ⊢
  rw [hk] at K1 K2 ⊢
  clear hr ht hA hB hC ih
  generalize n.text = xt at *
  go_enter Tryz.func22, Tryz.ntmps22
  go_wp2_with (first | (go_at_call 21; refine (unhide FR _).mono ?_; rintro e w' ⟨rfl, rfl⟩) | (go_at_call_of 20 (Value.string ⟨#[116]⟩); refine (unhide K1 _ (RdK_later (bal (brf w) _) (unhide HR))).mono ?_; rintro e v1 ⟨rfl, hb1⟩; obtain ⟨hc1, hf1⟩ := bcell hb1) | (go_at_call_of 20 (Value.string ⟨#[116, 101]⟩); refine (unhide K2 _ (RdK_later (btr (bal (brf w) _) hb1) (unhide HR))).mono ?_; rintro e v2 ⟨rfl, hb2⟩))
  go_ret
  exact ⟨rfl, btr (btr (bal (brf w) _) hb1) hb2⟩
set_option maxHeartbeats 400000 in
theorem it10ff (n : Nd) (ih : ∀ x ∈ n.kids, IsC x) (v : Value) (w : World) (ht : n.text.size ≤ maxLen) (hr : RdK w n.kids v) (hk : n.kind = 10) (hA : (freeB n.text) = true) (hB : kidsB n.kids [116] = false) (hC : kidsB n.kids [116, 101] = false) :
    Calls Tryz.prog 22 #[ndV n v] w fun e w' => e = .returned (.bool false) ∧ Below w.heap.size w w' := by
  have FR := hide (fun w' => sFree n.text w' ht)
  rw [hA] at FR
  have K1 := hide (fun w' hr' => kidsN n ih v w' ⟨#[116]⟩ (by decide) (by decide) hr')
  have hk1 : ltr ⟨#[116]⟩ = [116] := by decide
  rw [hk1, hB] at K1
  have K2 := hide (fun w' hr' => kidsN n ih v w' ⟨#[116, 101]⟩ (by decide) (by decide) hr')
  have hk2 : ltr ⟨#[116, 101]⟩ = [116, 101] := by decide
  rw [hk2, hC] at K2
  have HR := hide hr
  obtain ⟨a0, c0, hv0⟩ := RdK_slice hr
  subst hv0
  unfold ndV at K1 K2 ⊢
  rw [hk] at K1 K2 ⊢
  clear hr ht hA hB hC ih
  generalize n.text = xt at *
  go_enter Tryz.func22, Tryz.ntmps22
  go_wp2_with (first | (go_at_call 21; refine (unhide FR _).mono ?_; rintro e w' ⟨rfl, rfl⟩) | (go_at_call_of 20 (Value.string ⟨#[116]⟩); refine (unhide K1 _ (RdK_later (bal (brf w) _) (unhide HR))).mono ?_; rintro e v1 ⟨rfl, hb1⟩; obtain ⟨hc1, hf1⟩ := bcell hb1) | (go_at_call_of 20 (Value.string ⟨#[116, 101]⟩); refine (unhide K2 _ (RdK_later (btr (bal (brf w) _) hb1) (unhide HR))).mono ?_; rintro e v2 ⟨rfl, hb2⟩))
  go_ret
  exact ⟨rfl, btr (btr (bal (brf w) _) hb1) hb2⟩
theorem it10 (n : Nd) (ih : ∀ x ∈ n.kids, IsC x) (v : Value) (w : World) (ht : n.text.size ≤ maxLen) (hr : RdK w n.kids v) (hk : n.kind = 10) :
    Calls Tryz.prog 22 #[ndV n v] w fun e w' => e = .returned (.bool ((freeB n.text) && (kidsB n.kids [116] || kidsB n.kids [116, 101]))) ∧ Below w.heap.size w w' := by
  cases hA : (freeB n.text) with
  | false => exact it10n n ih v w ht hr hk hA
  | true =>
    cases hB : kidsB n.kids [116] with
    | true => exact it10t n ih v w ht hr hk hA hB
    | false =>
      cases hC : kidsB n.kids [116, 101] with
      | true => exact it10ft n ih v w ht hr hk hA hB hC
      | false => exact it10ff n ih v w ht hr hk hA hB hC
set_option maxHeartbeats 400000 in
theorem it21n (n : Nd) (ih : ∀ x ∈ n.kids, IsC x) (v : Value) (w : World) (ht : n.text.size ≤ maxLen) (hr : RdK w n.kids v) (hk : n.kind = 21) (hA : (n.text.size == 0) = false) :
    Calls Tryz.prog 22 #[ndV n v] w fun e w' => e = .returned (.bool false) ∧ Below w.heap.size w w' := by
  have hn : n.text.toList.isEmpty = false := by rw [toListL, ← L_emp]; exact hA
  obtain ⟨a0, c0, hv0⟩ := RdK_slice hr
  subst hv0
  unfold ndV
  rw [hk]
  clear hr ht hA ih
  generalize n.text = xt at *
  go_enter Tryz.func22, Tryz.ntmps22
  go_wp2
  go_ret
  exact ⟨rfl, bal (brf w) _⟩
set_option maxHeartbeats 400000 in
theorem it21t (n : Nd) (ih : ∀ x ∈ n.kids, IsC x) (v : Value) (w : World) (ht : n.text.size ≤ maxLen) (hr : RdK w n.kids v) (hk : n.kind = 21) (hA : (n.text.size == 0) = true) (hB : kidsB n.kids [101, 115] = true) :
    Calls Tryz.prog 22 #[ndV n v] w fun e w' => e = .returned (.bool true) ∧ Below w.heap.size w w' := by
  have hn : n.text.toList.isEmpty = true := by rw [toListL, ← L_emp]; exact hA
  have K1 := hide (fun w' hr' => kidsN n ih v w' ⟨#[101, 115]⟩ (by decide) (by decide) hr')
  have hk1 : ltr ⟨#[101, 115]⟩ = [101, 115] := by decide
  rw [hk1, hB] at K1
  have HR := hide hr
  obtain ⟨a0, c0, hv0⟩ := RdK_slice hr
  subst hv0
  unfold ndV at K1 ⊢
  rw [hk] at K1 ⊢
  clear hr ht hA hB ih
  generalize n.text = xt at *
  go_enter Tryz.func22, Tryz.ntmps22
  go_wp2_with (first | (go_at_call_of 20 (Value.string ⟨#[101, 115]⟩); refine (unhide K1 _ (RdK_later (bal (brf w) _) (unhide HR))).mono ?_; rintro e v1 ⟨rfl, hb1⟩; obtain ⟨hc1, hf1⟩ := bcell hb1))
  go_ret
  exact ⟨rfl, btr (bal (brf w) _) hb1⟩
set_option maxHeartbeats 400000 in
theorem it21ft (n : Nd) (ih : ∀ x ∈ n.kids, IsC x) (v : Value) (w : World) (ht : n.text.size ≤ maxLen) (hr : RdK w n.kids v) (hk : n.kind = 21) (hA : (n.text.size == 0) = true) (hB : kidsB n.kids [101, 115] = false) (hC : kidsB n.kids [101, 115, 115] = true) :
    Calls Tryz.prog 22 #[ndV n v] w fun e w' => e = .returned (.bool true) ∧ Below w.heap.size w w' := by
  have hn : n.text.toList.isEmpty = true := by rw [toListL, ← L_emp]; exact hA
  have K1 := hide (fun w' hr' => kidsN n ih v w' ⟨#[101, 115]⟩ (by decide) (by decide) hr')
  have hk1 : ltr ⟨#[101, 115]⟩ = [101, 115] := by decide
  rw [hk1, hB] at K1
  have K2 := hide (fun w' hr' => kidsN n ih v w' ⟨#[101, 115, 115]⟩ (by decide) (by decide) hr')
  have hk2 : ltr ⟨#[101, 115, 115]⟩ = [101, 115, 115] := by decide
  rw [hk2, hC] at K2
  have HR := hide hr
  obtain ⟨a0, c0, hv0⟩ := RdK_slice hr
  subst hv0
  unfold ndV at K1 K2 ⊢
  rw [hk] at K1 K2 ⊢
  clear hr ht hA hB hC ih
  generalize n.text = xt at *
  go_enter Tryz.func22, Tryz.ntmps22
  go_wp2_with (first | (go_at_call_of 20 (Value.string ⟨#[101, 115]⟩); refine (unhide K1 _ (RdK_later (bal (brf w) _) (unhide HR))).mono ?_; rintro e v1 ⟨rfl, hb1⟩; obtain ⟨hc1, hf1⟩ := bcell hb1) | (go_at_call_of 20 (Value.string ⟨#[101, 115, 115]⟩); refine (unhide K2 _ (RdK_later (btr (bal (brf w) _) hb1) (unhide HR))).mono ?_; rintro e v2 ⟨rfl, hb2⟩))
  go_ret
  exact ⟨rfl, btr (btr (bal (brf w) _) hb1) hb2⟩
set_option maxHeartbeats 400000 in
theorem it21ff (n : Nd) (ih : ∀ x ∈ n.kids, IsC x) (v : Value) (w : World) (ht : n.text.size ≤ maxLen) (hr : RdK w n.kids v) (hk : n.kind = 21) (hA : (n.text.size == 0) = true) (hB : kidsB n.kids [101, 115] = false) (hC : kidsB n.kids [101, 115, 115] = false) :
    Calls Tryz.prog 22 #[ndV n v] w fun e w' => e = .returned (.bool false) ∧ Below w.heap.size w w' := by
  have hn : n.text.toList.isEmpty = true := by rw [toListL, ← L_emp]; exact hA
  have K1 := hide (fun w' hr' => kidsN n ih v w' ⟨#[101, 115]⟩ (by decide) (by decide) hr')
  have hk1 : ltr ⟨#[101, 115]⟩ = [101, 115] := by decide
  rw [hk1, hB] at K1
  have K2 := hide (fun w' hr' => kidsN n ih v w' ⟨#[101, 115, 115]⟩ (by decide) (by decide) hr')
  have hk2 : ltr ⟨#[101, 115, 115]⟩ = [101, 115, 115] := by decide
  rw [hk2, hC] at K2
  have HR := hide hr
  obtain ⟨a0, c0, hv0⟩ := RdK_slice hr
  subst hv0
  unfold ndV at K1 K2 ⊢
  rw [hk] at K1 K2 ⊢
  clear hr ht hA hB hC ih
  generalize n.text = xt at *
  go_enter Tryz.func22, Tryz.ntmps22
  go_wp2_with (first | (go_at_call_of 20 (Value.string ⟨#[101, 115]⟩); refine (unhide K1 _ (RdK_later (bal (brf w) _) (unhide HR))).mono ?_; rintro e v1 ⟨rfl, hb1⟩; obtain ⟨hc1, hf1⟩ := bcell hb1) | (go_at_call_of 20 (Value.string ⟨#[101, 115, 115]⟩); refine (unhide K2 _ (RdK_later (btr (bal (brf w) _) hb1) (unhide HR))).mono ?_; rintro e v2 ⟨rfl, hb2⟩))
  go_ret
  exact ⟨rfl, btr (btr (bal (brf w) _) hb1) hb2⟩
theorem it21 (n : Nd) (ih : ∀ x ∈ n.kids, IsC x) (v : Value) (w : World) (ht : n.text.size ≤ maxLen) (hr : RdK w n.kids v) (hk : n.kind = 21) :
    Calls Tryz.prog 22 #[ndV n v] w fun e w' => e = .returned (.bool ((n.text.size == 0) && (kidsB n.kids [101, 115] || kidsB n.kids [101, 115, 115]))) ∧ Below w.heap.size w w' := by
  cases hA : (n.text.size == 0) with
  | false => exact it21n n ih v w ht hr hk hA
  | true =>
    cases hB : kidsB n.kids [101, 115] with
    | true => exact it21t n ih v w ht hr hk hA hB
    | false =>
      cases hC : kidsB n.kids [101, 115, 115] with
      | true => exact it21ft n ih v w ht hr hk hA hB hC
      | false => exact it21ff n ih v w ht hr hk hA hB hC
end Go.Proofs.YtlcpmbdckmdabaaGreatDoor
namespace Go.Proofs.YtlcpmbdckmdabaaGreatDoor
open Go.RowKit Nt
set_option linter.unusedVariables false
set_option maxRecDepth 100000
set_option maxHeartbeats 400000 in
theorem it9n (n : Nd) (ih : ∀ x ∈ n.kids, IsC x) (v : Value) (w : World) (ht : n.text.size ≤ maxLen) (hr : RdK w n.kids v) (hk : n.kind = 9) (hA : (freeB n.text) = false) :
    Calls Tryz.prog 22 #[ndV n v] w fun e w' => e = .returned (.bool false) ∧ Below w.heap.size w w' := by
  have FR := hide (fun w' => sFree n.text w' ht)
  rw [hA] at FR
  obtain ⟨a0, c0, hv0⟩ := RdK_slice hr
  subst hv0
  unfold ndV
  rw [hk]
  clear hr ht hA ih
  generalize n.text = xt at *
  go_enter Tryz.func22, Tryz.ntmps22
  go_wp2_with (first | (go_at_call 21; refine (unhide FR _).mono ?_; rintro e w' ⟨rfl, rfl⟩))
  go_ret
  exact ⟨rfl, bal (brf w) _⟩
set_option maxHeartbeats 400000 in
theorem it9f (n : Nd) (ih : ∀ x ∈ n.kids, IsC x) (v : Value) (w : World) (ht : n.text.size ≤ maxLen) (hr : RdK w n.kids v) (hk : n.kind = 9) (hA : (freeB n.text) = true) (hB : (kidsB n.kids [116]) = false) :
    Calls Tryz.prog 22 #[ndV n v] w fun e w' => e = .returned (.bool false) ∧ Below w.heap.size w w' := by
  have FR := hide (fun w' => sFree n.text w' ht)
  rw [hA] at FR
  have K1 := hide (fun w' hr' => kidsN n ih v w' ⟨#[116]⟩ (by decide) (by decide) hr')
  have hk1 : ltr ⟨#[116]⟩ = [116] := by decide
  rw [hk1] at K1
  rw [hB] at K1
  have HR := hide hr
  obtain ⟨a0, c0, hv0⟩ := RdK_slice hr
  subst hv0
  unfold ndV at K1 ⊢
  rw [hk] at K1 ⊢
  clear hr ht hA hB ih
  generalize n.text = xt at *
  go_enter Tryz.func22, Tryz.ntmps22
  go_wp2_with (first | (go_at_call 21; refine (unhide FR _).mono ?_; rintro e w' ⟨rfl, rfl⟩) | (go_at_call 20; refine (unhide K1 _ (RdK_later (bal (brf w) _) (unhide HR))).mono ?_; rintro e v1 ⟨rfl, hb1⟩))
  go_ret
  exact ⟨rfl, btr (bal (brf w) _) hb1⟩
set_option maxHeartbeats 400000 in
theorem it9t (n : Nd) (ih : ∀ x ∈ n.kids, IsC x) (v : Value) (w : World) (ht : n.text.size ≤ maxLen) (hr : RdK w n.kids v) (hk : n.kind = 9) (hA : (freeB n.text) = true) (hB : (kidsB n.kids [116]) = true) :
    Calls Tryz.prog 22 #[ndV n v] w fun e w' => e = .returned (.bool true) ∧ Below w.heap.size w w' := by
  have FR := hide (fun w' => sFree n.text w' ht)
  rw [hA] at FR
  have K1 := hide (fun w' hr' => kidsN n ih v w' ⟨#[116]⟩ (by decide) (by decide) hr')
  have hk1 : ltr ⟨#[116]⟩ = [116] := by decide
  rw [hk1] at K1
  rw [hB] at K1
  have HR := hide hr
  obtain ⟨a0, c0, hv0⟩ := RdK_slice hr
  subst hv0
  unfold ndV at K1 ⊢
  rw [hk] at K1 ⊢
  clear hr ht hA hB ih
  generalize n.text = xt at *
  go_enter Tryz.func22, Tryz.ntmps22
  go_wp2_with (first | (go_at_call 21; refine (unhide FR _).mono ?_; rintro e w' ⟨rfl, rfl⟩) | (go_at_call 20; refine (unhide K1 _ (RdK_later (bal (brf w) _) (unhide HR))).mono ?_; rintro e v1 ⟨rfl, hb1⟩))
  go_ret
  exact ⟨rfl, btr (bal (brf w) _) hb1⟩
theorem it9 (n : Nd) (ih : ∀ x ∈ n.kids, IsC x) (v : Value) (w : World) (ht : n.text.size ≤ maxLen) (hr : RdK w n.kids v) (hk : n.kind = 9) :
    Calls Tryz.prog 22 #[ndV n v] w fun e w' => e = .returned (.bool ((freeB n.text) && kidsB n.kids [116])) ∧ Below w.heap.size w w' := by
  cases hA : (freeB n.text) with
  | false => exact it9n n ih v w ht hr hk hA
  | true =>
    cases hB : (kidsB n.kids [116]) with
    | false => exact it9f n ih v w ht hr hk hA hB
    | true => exact it9t n ih v w ht hr hk hA hB
set_option maxHeartbeats 400000 in
theorem it11n (n : Nd) (ih : ∀ x ∈ n.kids, IsC x) (v : Value) (w : World) (ht : n.text.size ≤ maxLen) (hr : RdK w n.kids v) (hk : n.kind = 11) (hA : (freeB n.text) = false) :
    Calls Tryz.prog 22 #[ndV n v] w fun e w' => e = .returned (.bool false) ∧ Below w.heap.size w w' := by
  have FR := hide (fun w' => sFree n.text w' ht)
  rw [hA] at FR
  obtain ⟨a0, c0, hv0⟩ := RdK_slice hr
  subst hv0
  unfold ndV
  rw [hk]
  clear hr ht hA ih
  generalize n.text = xt at *
  go_enter Tryz.func22, Tryz.ntmps22
  go_wp2_with (first | (go_at_call 21; refine (unhide FR _).mono ?_; rintro e w' ⟨rfl, rfl⟩))
  go_ret
  exact ⟨rfl, bal (brf w) _⟩
set_option maxHeartbeats 400000 in
theorem it11f (n : Nd) (ih : ∀ x ∈ n.kids, IsC x) (v : Value) (w : World) (ht : n.text.size ≤ maxLen) (hr : RdK w n.kids v) (hk : n.kind = 11) (hA : (freeB n.text) = true) (hB : (kidsB n.kids [116, 101]) = false) :
    Calls Tryz.prog 22 #[ndV n v] w fun e w' => e = .returned (.bool false) ∧ Below w.heap.size w w' := by
  have FR := hide (fun w' => sFree n.text w' ht)
  rw [hA] at FR
  have K1 := hide (fun w' hr' => kidsN n ih v w' ⟨#[116, 101]⟩ (by decide) (by decide) hr')
  have hk1 : ltr ⟨#[116, 101]⟩ = [116, 101] := by decide
  rw [hk1] at K1
  rw [hB] at K1
  have HR := hide hr
  obtain ⟨a0, c0, hv0⟩ := RdK_slice hr
  subst hv0
  unfold ndV at K1 ⊢
  rw [hk] at K1 ⊢
  clear hr ht hA hB ih
  generalize n.text = xt at *
  go_enter Tryz.func22, Tryz.ntmps22
  go_wp2_with (first | (go_at_call 21; refine (unhide FR _).mono ?_; rintro e w' ⟨rfl, rfl⟩) | (go_at_call 20; refine (unhide K1 _ (RdK_later (bal (brf w) _) (unhide HR))).mono ?_; rintro e v1 ⟨rfl, hb1⟩))
  go_ret
  exact ⟨rfl, btr (bal (brf w) _) hb1⟩
set_option maxHeartbeats 400000 in
theorem it11t (n : Nd) (ih : ∀ x ∈ n.kids, IsC x) (v : Value) (w : World) (ht : n.text.size ≤ maxLen) (hr : RdK w n.kids v) (hk : n.kind = 11) (hA : (freeB n.text) = true) (hB : (kidsB n.kids [116, 101]) = true) :
    Calls Tryz.prog 22 #[ndV n v] w fun e w' => e = .returned (.bool true) ∧ Below w.heap.size w w' := by
  have FR := hide (fun w' => sFree n.text w' ht)
  rw [hA] at FR
  have K1 := hide (fun w' hr' => kidsN n ih v w' ⟨#[116, 101]⟩ (by decide) (by decide) hr')
  have hk1 : ltr ⟨#[116, 101]⟩ = [116, 101] := by decide
  rw [hk1] at K1
  rw [hB] at K1
  have HR := hide hr
  obtain ⟨a0, c0, hv0⟩ := RdK_slice hr
  subst hv0
  unfold ndV at K1 ⊢
  rw [hk] at K1 ⊢
  clear hr ht hA hB ih
  generalize n.text = xt at *
  go_enter Tryz.func22, Tryz.ntmps22
  go_wp2_with (first | (go_at_call 21; refine (unhide FR _).mono ?_; rintro e w' ⟨rfl, rfl⟩) | (go_at_call 20; refine (unhide K1 _ (RdK_later (bal (brf w) _) (unhide HR))).mono ?_; rintro e v1 ⟨rfl, hb1⟩))
  go_ret
  exact ⟨rfl, btr (bal (brf w) _) hb1⟩
theorem it11 (n : Nd) (ih : ∀ x ∈ n.kids, IsC x) (v : Value) (w : World) (ht : n.text.size ≤ maxLen) (hr : RdK w n.kids v) (hk : n.kind = 11) :
    Calls Tryz.prog 22 #[ndV n v] w fun e w' => e = .returned (.bool ((freeB n.text) && kidsB n.kids [116, 101])) ∧ Below w.heap.size w w' := by
  cases hA : (freeB n.text) with
  | false => exact it11n n ih v w ht hr hk hA
  | true =>
    cases hB : (kidsB n.kids [116, 101]) with
    | false => exact it11f n ih v w ht hr hk hA hB
    | true => exact it11t n ih v w ht hr hk hA hB
set_option maxHeartbeats 400000 in
theorem it12n (n : Nd) (ih : ∀ x ∈ n.kids, IsC x) (v : Value) (w : World) (ht : n.text.size ≤ maxLen) (hr : RdK w n.kids v) (hk : n.kind = 12) (hA : (freeB n.text) = false) :
    Calls Tryz.prog 22 #[ndV n v] w fun e w' => e = .returned (.bool false) ∧ Below w.heap.size w w' := by
  have FR := hide (fun w' => sFree n.text w' ht)
  rw [hA] at FR
  obtain ⟨a0, c0, hv0⟩ := RdK_slice hr
  subst hv0
  unfold ndV
  rw [hk]
  clear hr ht hA ih
  generalize n.text = xt at *
  go_enter Tryz.func22, Tryz.ntmps22
  go_wp2_with (first | (go_at_call 21; refine (unhide FR _).mono ?_; rintro e w' ⟨rfl, rfl⟩))
  go_ret
  exact ⟨rfl, bal (brf w) _⟩
set_option maxHeartbeats 400000 in
theorem it12f (n : Nd) (ih : ∀ x ∈ n.kids, IsC x) (v : Value) (w : World) (ht : n.text.size ≤ maxLen) (hr : RdK w n.kids v) (hk : n.kind = 12) (hA : (freeB n.text) = true) (hB : (kidsB n.kids [101]) = false) :
    Calls Tryz.prog 22 #[ndV n v] w fun e w' => e = .returned (.bool false) ∧ Below w.heap.size w w' := by
  have FR := hide (fun w' => sFree n.text w' ht)
  rw [hA] at FR
  have K1 := hide (fun w' hr' => kidsN n ih v w' ⟨#[101]⟩ (by decide) (by decide) hr')
  have hk1 : ltr ⟨#[101]⟩ = [101] := by decide
  rw [hk1] at K1
  rw [hB] at K1
  have HR := hide hr
  obtain ⟨a0, c0, hv0⟩ := RdK_slice hr
  subst hv0
  unfold ndV at K1 ⊢
  rw [hk] at K1 ⊢
  clear hr ht hA hB ih
  generalize n.text = xt at *
  go_enter Tryz.func22, Tryz.ntmps22
  go_wp2_with (first | (go_at_call 21; refine (unhide FR _).mono ?_; rintro e w' ⟨rfl, rfl⟩) | (go_at_call 20; refine (unhide K1 _ (RdK_later (bal (brf w) _) (unhide HR))).mono ?_; rintro e v1 ⟨rfl, hb1⟩))
  go_ret
  exact ⟨rfl, btr (bal (brf w) _) hb1⟩
set_option maxHeartbeats 400000 in
theorem it12t (n : Nd) (ih : ∀ x ∈ n.kids, IsC x) (v : Value) (w : World) (ht : n.text.size ≤ maxLen) (hr : RdK w n.kids v) (hk : n.kind = 12) (hA : (freeB n.text) = true) (hB : (kidsB n.kids [101]) = true) :
    Calls Tryz.prog 22 #[ndV n v] w fun e w' => e = .returned (.bool true) ∧ Below w.heap.size w w' := by
  have FR := hide (fun w' => sFree n.text w' ht)
  rw [hA] at FR
  have K1 := hide (fun w' hr' => kidsN n ih v w' ⟨#[101]⟩ (by decide) (by decide) hr')
  have hk1 : ltr ⟨#[101]⟩ = [101] := by decide
  rw [hk1] at K1
  rw [hB] at K1
  have HR := hide hr
  obtain ⟨a0, c0, hv0⟩ := RdK_slice hr
  subst hv0
  unfold ndV at K1 ⊢
  rw [hk] at K1 ⊢
  clear hr ht hA hB ih
  generalize n.text = xt at *
  go_enter Tryz.func22, Tryz.ntmps22
  go_wp2_with (first | (go_at_call 21; refine (unhide FR _).mono ?_; rintro e w' ⟨rfl, rfl⟩) | (go_at_call 20; refine (unhide K1 _ (RdK_later (bal (brf w) _) (unhide HR))).mono ?_; rintro e v1 ⟨rfl, hb1⟩))
  go_ret
  exact ⟨rfl, btr (bal (brf w) _) hb1⟩
theorem it12 (n : Nd) (ih : ∀ x ∈ n.kids, IsC x) (v : Value) (w : World) (ht : n.text.size ≤ maxLen) (hr : RdK w n.kids v) (hk : n.kind = 12) :
    Calls Tryz.prog 22 #[ndV n v] w fun e w' => e = .returned (.bool ((freeB n.text) && kidsB n.kids [101])) ∧ Below w.heap.size w w' := by
  cases hA : (freeB n.text) with
  | false => exact it12n n ih v w ht hr hk hA
  | true =>
    cases hB : (kidsB n.kids [101]) with
    | false => exact it12f n ih v w ht hr hk hA hB
    | true => exact it12t n ih v w ht hr hk hA hB
set_option maxHeartbeats 400000 in
theorem it18n (n : Nd) (ih : ∀ x ∈ n.kids, IsC x) (v : Value) (w : World) (ht : n.text.size ≤ maxLen) (hr : RdK w n.kids v) (hk : n.kind = 18) (hA : (freeB n.text) = false) :
    Calls Tryz.prog 22 #[ndV n v] w fun e w' => e = .returned (.bool false) ∧ Below w.heap.size w w' := by
  have FR := hide (fun w' => sFree n.text w' ht)
  rw [hA] at FR
  obtain ⟨a0, c0, hv0⟩ := RdK_slice hr
  subst hv0
  unfold ndV
  rw [hk]
  clear hr ht hA ih
  generalize n.text = xt at *
  go_enter Tryz.func22, Tryz.ntmps22
  go_wp2_with (first | (go_at_call 21; refine (unhide FR _).mono ?_; rintro e w' ⟨rfl, rfl⟩))
  go_ret
  exact ⟨rfl, bal (brf w) _⟩
set_option maxHeartbeats 400000 in
theorem it18f (n : Nd) (ih : ∀ x ∈ n.kids, IsC x) (v : Value) (w : World) (ht : n.text.size ≤ maxLen) (hr : RdK w n.kids v) (hk : n.kind = 18) (hA : (freeB n.text) = true) (hB : (kidsB n.kids [101]) = false) :
    Calls Tryz.prog 22 #[ndV n v] w fun e w' => e = .returned (.bool false) ∧ Below w.heap.size w w' := by
  have FR := hide (fun w' => sFree n.text w' ht)
  rw [hA] at FR
  have K1 := hide (fun w' hr' => kidsN n ih v w' ⟨#[101]⟩ (by decide) (by decide) hr')
  have hk1 : ltr ⟨#[101]⟩ = [101] := by decide
  rw [hk1] at K1
  rw [hB] at K1
  have HR := hide hr
  obtain ⟨a0, c0, hv0⟩ := RdK_slice hr
  subst hv0
  unfold ndV at K1 ⊢
  rw [hk] at K1 ⊢
  clear hr ht hA hB ih
  generalize n.text = xt at *
  go_enter Tryz.func22, Tryz.ntmps22
  go_wp2_with (first | (go_at_call 21; refine (unhide FR _).mono ?_; rintro e w' ⟨rfl, rfl⟩) | (go_at_call 20; refine (unhide K1 _ (RdK_later (bal (brf w) _) (unhide HR))).mono ?_; rintro e v1 ⟨rfl, hb1⟩))
  go_ret
  exact ⟨rfl, btr (bal (brf w) _) hb1⟩
set_option maxHeartbeats 400000 in
theorem it18t (n : Nd) (ih : ∀ x ∈ n.kids, IsC x) (v : Value) (w : World) (ht : n.text.size ≤ maxLen) (hr : RdK w n.kids v) (hk : n.kind = 18) (hA : (freeB n.text) = true) (hB : (kidsB n.kids [101]) = true) :
    Calls Tryz.prog 22 #[ndV n v] w fun e w' => e = .returned (.bool true) ∧ Below w.heap.size w w' := by
  have FR := hide (fun w' => sFree n.text w' ht)
  rw [hA] at FR
  have K1 := hide (fun w' hr' => kidsN n ih v w' ⟨#[101]⟩ (by decide) (by decide) hr')
  have hk1 : ltr ⟨#[101]⟩ = [101] := by decide
  rw [hk1] at K1
  rw [hB] at K1
  have HR := hide hr
  obtain ⟨a0, c0, hv0⟩ := RdK_slice hr
  subst hv0
  unfold ndV at K1 ⊢
  rw [hk] at K1 ⊢
  clear hr ht hA hB ih
  generalize n.text = xt at *
  go_enter Tryz.func22, Tryz.ntmps22
  go_wp2_with (first | (go_at_call 21; refine (unhide FR _).mono ?_; rintro e w' ⟨rfl, rfl⟩) | (go_at_call 20; refine (unhide K1 _ (RdK_later (bal (brf w) _) (unhide HR))).mono ?_; rintro e v1 ⟨rfl, hb1⟩))
  go_ret
  exact ⟨rfl, btr (bal (brf w) _) hb1⟩
theorem it18 (n : Nd) (ih : ∀ x ∈ n.kids, IsC x) (v : Value) (w : World) (ht : n.text.size ≤ maxLen) (hr : RdK w n.kids v) (hk : n.kind = 18) :
    Calls Tryz.prog 22 #[ndV n v] w fun e w' => e = .returned (.bool ((freeB n.text) && kidsB n.kids [101])) ∧ Below w.heap.size w w' := by
  cases hA : (freeB n.text) with
  | false => exact it18n n ih v w ht hr hk hA
  | true =>
    cases hB : (kidsB n.kids [101]) with
    | false => exact it18f n ih v w ht hr hk hA hB
    | true => exact it18t n ih v w ht hr hk hA hB
set_option maxHeartbeats 400000 in
theorem it14n (n : Nd) (ih : ∀ x ∈ n.kids, IsC x) (v : Value) (w : World) (ht : n.text.size ≤ maxLen) (hr : RdK w n.kids v) (hk : n.kind = 14) (hA : (n.text.size == 0) = false) :
    Calls Tryz.prog 22 #[ndV n v] w fun e w' => e = .returned (.bool false) ∧ Below w.heap.size w w' := by
  have hn : n.text.toList.isEmpty = false := by rw [toListL, ← L_emp]; exact hA
  obtain ⟨a0, c0, hv0⟩ := RdK_slice hr
  subst hv0
  unfold ndV
  rw [hk]
  clear hr ht hA ih
  generalize n.text = xt at *
  go_enter Tryz.func22, Tryz.ntmps22
  go_wp2
  go_ret
  exact ⟨rfl, bal (brf w) _⟩
set_option maxHeartbeats 400000 in
theorem it14f (n : Nd) (ih : ∀ x ∈ n.kids, IsC x) (v : Value) (w : World) (ht : n.text.size ≤ maxLen) (hr : RdK w n.kids v) (hk : n.kind = 14) (hA : (n.text.size == 0) = true) (hB : (kidsB n.kids [84, 101]) = false) :
    Calls Tryz.prog 22 #[ndV n v] w fun e w' => e = .returned (.bool false) ∧ Below w.heap.size w w' := by
  have hn : n.text.toList.isEmpty = true := by rw [toListL, ← L_emp]; exact hA
  have K1 := hide (fun w' hr' => kidsN n ih v w' ⟨#[84, 101]⟩ (by decide) (by decide) hr')
  have hk1 : ltr ⟨#[84, 101]⟩ = [84, 101] := by decide
  rw [hk1] at K1
  rw [hB] at K1
  have HR := hide hr
  obtain ⟨a0, c0, hv0⟩ := RdK_slice hr
  subst hv0
  unfold ndV at K1 ⊢
  rw [hk] at K1 ⊢
  clear hr ht hA hB ih
  generalize n.text = xt at *
  go_enter Tryz.func22, Tryz.ntmps22
  go_wp2_with (first | (go_at_call 20; refine (unhide K1 _ (RdK_later (bal (brf w) _) (unhide HR))).mono ?_; rintro e v1 ⟨rfl, hb1⟩))
  go_ret
  exact ⟨rfl, btr (bal (brf w) _) hb1⟩
set_option maxHeartbeats 400000 in
theorem it14t (n : Nd) (ih : ∀ x ∈ n.kids, IsC x) (v : Value) (w : World) (ht : n.text.size ≤ maxLen) (hr : RdK w n.kids v) (hk : n.kind = 14) (hA : (n.text.size == 0) = true) (hB : (kidsB n.kids [84, 101]) = true) :
    Calls Tryz.prog 22 #[ndV n v] w fun e w' => e = .returned (.bool true) ∧ Below w.heap.size w w' := by
  have hn : n.text.toList.isEmpty = true := by rw [toListL, ← L_emp]; exact hA
  have K1 := hide (fun w' hr' => kidsN n ih v w' ⟨#[84, 101]⟩ (by decide) (by decide) hr')
  have hk1 : ltr ⟨#[84, 101]⟩ = [84, 101] := by decide
  rw [hk1] at K1
  rw [hB] at K1
  have HR := hide hr
  obtain ⟨a0, c0, hv0⟩ := RdK_slice hr
  subst hv0
  unfold ndV at K1 ⊢
  rw [hk] at K1 ⊢
  clear hr ht hA hB ih
  generalize n.text = xt at *
  go_enter Tryz.func22, Tryz.ntmps22
  go_wp2_with (first | (go_at_call 20; refine (unhide K1 _ (RdK_later (bal (brf w) _) (unhide HR))).mono ?_; rintro e v1 ⟨rfl, hb1⟩))
  go_ret
  exact ⟨rfl, btr (bal (brf w) _) hb1⟩
theorem it14 (n : Nd) (ih : ∀ x ∈ n.kids, IsC x) (v : Value) (w : World) (ht : n.text.size ≤ maxLen) (hr : RdK w n.kids v) (hk : n.kind = 14) :
    Calls Tryz.prog 22 #[ndV n v] w fun e w' => e = .returned (.bool ((n.text.size == 0) && kidsB n.kids [84, 101])) ∧ Below w.heap.size w w' := by
  cases hA : (n.text.size == 0) with
  | false => exact it14n n ih v w ht hr hk hA
  | true =>
    cases hB : (kidsB n.kids [84, 101]) with
    | false => exact it14f n ih v w ht hr hk hA hB
    | true => exact it14t n ih v w ht hr hk hA hB
set_option maxHeartbeats 400000 in
theorem it15n (n : Nd) (ih : ∀ x ∈ n.kids, IsC x) (v : Value) (w : World) (ht : n.text.size ≤ maxLen) (hr : RdK w n.kids v) (hk : n.kind = 15) (hA : (n.text.size == 0) = false) :
    Calls Tryz.prog 22 #[ndV n v] w fun e w' => e = .returned (.bool false) ∧ Below w.heap.size w w' := by
  have hn : n.text.toList.isEmpty = false := by rw [toListL, ← L_emp]; exact hA
  obtain ⟨a0, c0, hv0⟩ := RdK_slice hr
  subst hv0
  unfold ndV
  rw [hk]
  clear hr ht hA ih
  generalize n.text = xt at *
  go_enter Tryz.func22, Tryz.ntmps22
  go_wp2
  go_ret
  exact ⟨rfl, bal (brf w) _⟩
set_option maxHeartbeats 400000 in
theorem it15f (n : Nd) (ih : ∀ x ∈ n.kids, IsC x) (v : Value) (w : World) (ht : n.text.size ≤ maxLen) (hr : RdK w n.kids v) (hk : n.kind = 15) (hA : (n.text.size == 0) = true) (hB : (kidsB n.kids [98]) = false) :
    Calls Tryz.prog 22 #[ndV n v] w fun e w' => e = .returned (.bool false) ∧ Below w.heap.size w w' := by
  have hn : n.text.toList.isEmpty = true := by rw [toListL, ← L_emp]; exact hA
  have K1 := hide (fun w' hr' => kidsN n ih v w' ⟨#[98]⟩ (by decide) (by decide) hr')
  have hk1 : ltr ⟨#[98]⟩ = [98] := by decide
  rw [hk1] at K1
  rw [hB] at K1
  have HR := hide hr
  obtain ⟨a0, c0, hv0⟩ := RdK_slice hr
  subst hv0
  unfold ndV at K1 ⊢
  rw [hk] at K1 ⊢
  clear hr ht hA hB ih
  generalize n.text = xt at *
  go_enter Tryz.func22, Tryz.ntmps22
  go_wp2_with (first | (go_at_call 20; refine (unhide K1 _ (RdK_later (bal (brf w) _) (unhide HR))).mono ?_; rintro e v1 ⟨rfl, hb1⟩))
  go_ret
  exact ⟨rfl, btr (bal (brf w) _) hb1⟩
set_option maxHeartbeats 400000 in
theorem it15t (n : Nd) (ih : ∀ x ∈ n.kids, IsC x) (v : Value) (w : World) (ht : n.text.size ≤ maxLen) (hr : RdK w n.kids v) (hk : n.kind = 15) (hA : (n.text.size == 0) = true) (hB : (kidsB n.kids [98]) = true) :
    Calls Tryz.prog 22 #[ndV n v] w fun e w' => e = .returned (.bool true) ∧ Below w.heap.size w w' := by
  have hn : n.text.toList.isEmpty = true := by rw [toListL, ← L_emp]; exact hA
  have K1 := hide (fun w' hr' => kidsN n ih v w' ⟨#[98]⟩ (by decide) (by decide) hr')
  have hk1 : ltr ⟨#[98]⟩ = [98] := by decide
  rw [hk1] at K1
  rw [hB] at K1
  have HR := hide hr
  obtain ⟨a0, c0, hv0⟩ := RdK_slice hr
  subst hv0
  unfold ndV at K1 ⊢
  rw [hk] at K1 ⊢
  clear hr ht hA hB ih
  generalize n.text = xt at *
  go_enter Tryz.func22, Tryz.ntmps22
  go_wp2_with (first | (go_at_call 20; refine (unhide K1 _ (RdK_later (bal (brf w) _) (unhide HR))).mono ?_; rintro e v1 ⟨rfl, hb1⟩))
  go_ret
  exact ⟨rfl, btr (bal (brf w) _) hb1⟩
theorem it15 (n : Nd) (ih : ∀ x ∈ n.kids, IsC x) (v : Value) (w : World) (ht : n.text.size ≤ maxLen) (hr : RdK w n.kids v) (hk : n.kind = 15) :
    Calls Tryz.prog 22 #[ndV n v] w fun e w' => e = .returned (.bool ((n.text.size == 0) && kidsB n.kids [98])) ∧ Below w.heap.size w w' := by
  cases hA : (n.text.size == 0) with
  | false => exact it15n n ih v w ht hr hk hA
  | true =>
    cases hB : (kidsB n.kids [98]) with
    | false => exact it15f n ih v w ht hr hk hA hB
    | true => exact it15t n ih v w ht hr hk hA hB
set_option maxHeartbeats 400000 in
theorem it17n (n : Nd) (ih : ∀ x ∈ n.kids, IsC x) (v : Value) (w : World) (ht : n.text.size ≤ maxLen) (hr : RdK w n.kids v) (hk : n.kind = 17) (hA : (n.text.size == 0) = false) :
    Calls Tryz.prog 22 #[ndV n v] w fun e w' => e = .returned (.bool false) ∧ Below w.heap.size w w' := by
  have hn : n.text.toList.isEmpty = false := by rw [toListL, ← L_emp]; exact hA
  obtain ⟨a0, c0, hv0⟩ := RdK_slice hr
  subst hv0
  unfold ndV
  rw [hk]
  clear hr ht hA ih
  generalize n.text = xt at *
  go_enter Tryz.func22, Tryz.ntmps22
  go_wp2
  go_ret
  exact ⟨rfl, bal (brf w) _⟩
set_option maxHeartbeats 400000 in
theorem it17f (n : Nd) (ih : ∀ x ∈ n.kids, IsC x) (v : Value) (w : World) (ht : n.text.size ≤ maxLen) (hr : RdK w n.kids v) (hk : n.kind = 17) (hA : (n.text.size == 0) = true) (hB : (kidsB n.kids [98]) = false) :
    Calls Tryz.prog 22 #[ndV n v] w fun e w' => e = .returned (.bool false) ∧ Below w.heap.size w w' := by
  have hn : n.text.toList.isEmpty = true := by rw [toListL, ← L_emp]; exact hA
  have K1 := hide (fun w' hr' => kidsN n ih v w' ⟨#[98]⟩ (by decide) (by decide) hr')
  have hk1 : ltr ⟨#[98]⟩ = [98] := by decide
  rw [hk1] at K1
  rw [hB] at K1
  have HR := hide hr
  obtain ⟨a0, c0, hv0⟩ := RdK_slice hr
  subst hv0
  unfold ndV at K1 ⊢
  rw [hk] at K1 ⊢
  clear hr ht hA hB ih
  generalize n.text = xt at *
  go_enter Tryz.func22, Tryz.ntmps22
  go_wp2_with (first | (go_at_call 20; refine (unhide K1 _ (RdK_later (bal (brf w) _) (unhide HR))).mono ?_; rintro e v1 ⟨rfl, hb1⟩))
  go_ret
  exact ⟨rfl, btr (bal (brf w) _) hb1⟩
set_option maxHeartbeats 400000 in
theorem it17t (n : Nd) (ih : ∀ x ∈ n.kids, IsC x) (v : Value) (w : World) (ht : n.text.size ≤ maxLen) (hr : RdK w n.kids v) (hk : n.kind = 17) (hA : (n.text.size == 0) = true) (hB : (kidsB n.kids [98]) = true) :
    Calls Tryz.prog 22 #[ndV n v] w fun e w' => e = .returned (.bool true) ∧ Below w.heap.size w w' := by
  have hn : n.text.toList.isEmpty = true := by rw [toListL, ← L_emp]; exact hA
  have K1 := hide (fun w' hr' => kidsN n ih v w' ⟨#[98]⟩ (by decide) (by decide) hr')
  have hk1 : ltr ⟨#[98]⟩ = [98] := by decide
  rw [hk1] at K1
  rw [hB] at K1
  have HR := hide hr
  obtain ⟨a0, c0, hv0⟩ := RdK_slice hr
  subst hv0
  unfold ndV at K1 ⊢
  rw [hk] at K1 ⊢
  clear hr ht hA hB ih
  generalize n.text = xt at *
  go_enter Tryz.func22, Tryz.ntmps22
  go_wp2_with (first | (go_at_call 20; refine (unhide K1 _ (RdK_later (bal (brf w) _) (unhide HR))).mono ?_; rintro e v1 ⟨rfl, hb1⟩))
  go_ret
  exact ⟨rfl, btr (bal (brf w) _) hb1⟩
theorem it17 (n : Nd) (ih : ∀ x ∈ n.kids, IsC x) (v : Value) (w : World) (ht : n.text.size ≤ maxLen) (hr : RdK w n.kids v) (hk : n.kind = 17) :
    Calls Tryz.prog 22 #[ndV n v] w fun e w' => e = .returned (.bool ((n.text.size == 0) && kidsB n.kids [98])) ∧ Below w.heap.size w w' := by
  cases hA : (n.text.size == 0) with
  | false => exact it17n n ih v w ht hr hk hA
  | true =>
    cases hB : (kidsB n.kids [98]) with
    | false => exact it17f n ih v w ht hr hk hA hB
    | true => exact it17t n ih v w ht hr hk hA hB
set_option maxHeartbeats 400000 in
theorem it16n (n : Nd) (ih : ∀ x ∈ n.kids, IsC x) (v : Value) (w : World) (ht : n.text.size ≤ maxLen) (hr : RdK w n.kids v) (hk : n.kind = 16) (hA : (freeB n.text) = false) :
    Calls Tryz.prog 22 #[ndV n v] w fun e w' => e = .returned (.bool false) ∧ Below w.heap.size w w' := by
  have FR := hide (fun w' => sFree n.text w' ht)
  rw [hA] at FR
  obtain ⟨a0, c0, hv0⟩ := RdK_slice hr
  subst hv0
  unfold ndV
  rw [hk]
  clear hr ht hA ih
  generalize n.text = xt at *
  go_enter Tryz.func22, Tryz.ntmps22
  go_wp2_with (first | (go_at_call 21; refine (unhide FR _).mono ?_; rintro e w' ⟨rfl, rfl⟩))
  go_ret
  exact ⟨rfl, bal (brf w) _⟩
set_option maxHeartbeats 400000 in
theorem it16f (n : Nd) (ih : ∀ x ∈ n.kids, IsC x) (v : Value) (w : World) (ht : n.text.size ≤ maxLen) (hr : RdK w n.kids v) (hk : n.kind = 16) (hA : (freeB n.text) = true) (hB : (kidsB n.kids [98]) = false) :
    Calls Tryz.prog 22 #[ndV n v] w fun e w' => e = .returned (.bool false) ∧ Below w.heap.size w w' := by
  have FR := hide (fun w' => sFree n.text w' ht)
  rw [hA] at FR
  have K1 := hide (fun w' hr' => kidsN n ih v w' ⟨#[98]⟩ (by decide) (by decide) hr')
  have hk1 : ltr ⟨#[98]⟩ = [98] := by decide
  rw [hk1] at K1
  rw [hB] at K1
  have HR := hide hr
  obtain ⟨a0, c0, hv0⟩ := RdK_slice hr
  subst hv0
  unfold ndV at K1 ⊢
  rw [hk] at K1 ⊢
  clear hr ht hA hB ih
  generalize n.text = xt at *
  go_enter Tryz.func22, Tryz.ntmps22
  go_wp2_with (first | (go_at_call 21; refine (unhide FR _).mono ?_; rintro e w' ⟨rfl, rfl⟩) | (go_at_call 20; refine (unhide K1 _ (RdK_later (bal (brf w) _) (unhide HR))).mono ?_; rintro e v1 ⟨rfl, hb1⟩))
  go_ret
  exact ⟨rfl, btr (bal (brf w) _) hb1⟩
set_option maxHeartbeats 400000 in
theorem it16t (n : Nd) (ih : ∀ x ∈ n.kids, IsC x) (v : Value) (w : World) (ht : n.text.size ≤ maxLen) (hr : RdK w n.kids v) (hk : n.kind = 16) (hA : (freeB n.text) = true) (hB : (kidsB n.kids [98]) = true) :
    Calls Tryz.prog 22 #[ndV n v] w fun e w' => e = .returned (.bool true) ∧ Below w.heap.size w w' := by
  have FR := hide (fun w' => sFree n.text w' ht)
  rw [hA] at FR
  have K1 := hide (fun w' hr' => kidsN n ih v w' ⟨#[98]⟩ (by decide) (by decide) hr')
  have hk1 : ltr ⟨#[98]⟩ = [98] := by decide
  rw [hk1] at K1
  rw [hB] at K1
  have HR := hide hr
  obtain ⟨a0, c0, hv0⟩ := RdK_slice hr
  subst hv0
  unfold ndV at K1 ⊢
  rw [hk] at K1 ⊢
  clear hr ht hA hB ih
  generalize n.text = xt at *
  go_enter Tryz.func22, Tryz.ntmps22
  go_wp2_with (first | (go_at_call 21; refine (unhide FR _).mono ?_; rintro e w' ⟨rfl, rfl⟩) | (go_at_call 20; refine (unhide K1 _ (RdK_later (bal (brf w) _) (unhide HR))).mono ?_; rintro e v1 ⟨rfl, hb1⟩))
  go_ret
  exact ⟨rfl, btr (bal (brf w) _) hb1⟩
theorem it16 (n : Nd) (ih : ∀ x ∈ n.kids, IsC x) (v : Value) (w : World) (ht : n.text.size ≤ maxLen) (hr : RdK w n.kids v) (hk : n.kind = 16) :
    Calls Tryz.prog 22 #[ndV n v] w fun e w' => e = .returned (.bool ((freeB n.text) && kidsB n.kids [98])) ∧ Below w.heap.size w w' := by
  cases hA : (freeB n.text) with
  | false => exact it16n n ih v w ht hr hk hA
  | true =>
    cases hB : (kidsB n.kids [98]) with
    | false => exact it16f n ih v w ht hr hk hA hB
    | true => exact it16t n ih v w ht hr hk hA hB
end Go.Proofs.YtlcpmbdckmdabaaGreatDoor
