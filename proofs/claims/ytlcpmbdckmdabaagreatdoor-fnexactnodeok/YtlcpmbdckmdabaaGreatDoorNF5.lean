/- What the specification's l03Is answers to the letters i, S and B. -/
import Derived.Test.YtlcpmbdckmdabaaGreatDoorNFX
import Derived.Test.YtlcpmbdckmdabaaGreatDoorNGX
import Derived.Test.YtlcpmbdckmdabaaGreatDoorNF4
namespace Go.Proofs.YtlcpmbdckmdabaaGreatDoor
open Go.RowKit Nt
set_option linter.unusedVariables false
set_option maxRecDepth 100000
set_option maxHeartbeats 400000 in
theorem isImt (n : Nd) (ih : ∀ x ∈ n.kids, IsC x) (v : Value) (w : World) (ht : n.text.size ≤ maxLen) (hr : RdK w n.kids v) (hB : okIs 105 n = true) :
    Calls Tryz.prog 17 #[ndV n v, .int .u8 105] w fun e w' => e = .returned (.bool true) ∧ Below w.heap.size w w' := by
  have K1 := hide (fun w' hr' => itW n ih v w' ht hr')
  rw [hB] at K1
  have HR := hide hr
  have hl := len_ok hr
  obtain ⟨a0, c0, hv0⟩ := RdK_slice hr
  subst hv0
  unfold ndV at K1 ⊢
  clear hr ht ih
  generalize n.text = xt at *
  generalize n.kind = xk at *
  go_enter Tryz.func17, Tryz.ntmps17
  go_wp2_with (first | (go_at_call 22; refine (unhide K1 _ (RdK_later (bal (brf w) _) (unhide HR))).mono ?_; rintro e v1 ⟨rfl, hb1⟩))
  go_ret
  exact ⟨rfl, btr (bal (brf w) _) hb1⟩
set_option maxHeartbeats 400000 in
theorem isImf (n : Nd) (ih : ∀ x ∈ n.kids, IsC x) (v : Value) (w : World) (ht : n.text.size ≤ maxLen) (hr : RdK w n.kids v) (hB : okIs 105 n = false) :
    Calls Tryz.prog 17 #[ndV n v, .int .u8 105] w fun e w' => e = .returned (.bool false) ∧ Below w.heap.size w w' := by
  have K1 := hide (fun w' hr' => itW n ih v w' ht hr')
  rw [hB] at K1
  have HR := hide hr
  have hl := len_ok hr
  obtain ⟨a0, c0, hv0⟩ := RdK_slice hr
  subst hv0
  unfold ndV at K1 ⊢
  clear hr ht ih
  generalize n.text = xt at *
  generalize n.kind = xk at *
  go_enter Tryz.func17, Tryz.ntmps17
  go_wp2_with (first | (go_at_call 22; refine (unhide K1 _ (RdK_later (bal (brf w) _) (unhide HR))).mono ?_; rintro e v1 ⟨rfl, hb1⟩))
  go_ret
  exact ⟨rfl, btr (bal (brf w) _) hb1⟩
theorem isIm (n : Nd) (ih : ∀ x ∈ n.kids, IsC x) (v : Value) (w : World) (ht : n.text.size ≤ maxLen) (hr : RdK w n.kids v)  :
    Calls Tryz.prog 17 #[ndV n v, .int .u8 105] w fun e w' => e = .returned (.bool (okIs 105 n)) ∧ Below w.heap.size w w' := by
  cases hB : okIs 105 n with
  | true => exact isImt n ih v w ht hr hB
  | false => exact isImf n ih v w ht hr hB
set_option maxHeartbeats 400000 in
theorem isSt (n : Nd) (ih : ∀ x ∈ n.kids, IsC x) (v : Value) (w : World) (ht : n.text.size ≤ maxLen) (hr : RdK w n.kids v) (ih2 : ∀ x ∈ n.kids, ∀ y ∈ x.kids, IsC y) (hB : okIs 83 n = true) :
    Calls Tryz.prog 17 #[ndV n v, .int .u8 83] w fun e w' => e = .returned (.bool true) ∧ Below w.heap.size w w' := by
  have K1 := hide (fun w' hr' => stW n ih ih2 v w' ht hr')
  rw [hB] at K1
  have HR := hide hr
  have hl := len_ok hr
  obtain ⟨a0, c0, hv0⟩ := RdK_slice hr
  subst hv0
  unfold ndV at K1 ⊢
  clear hr ht ih
  generalize n.text = xt at *
  generalize n.kind = xk at *
  go_enter Tryz.func17, Tryz.ntmps17
  go_wp2_with (first | (go_at_call 23; refine (unhide K1 _ (RdK_later (bal (brf w) _) (unhide HR))).mono ?_; rintro e v1 ⟨rfl, hb1⟩))
  go_ret
  exact ⟨rfl, btr (bal (brf w) _) hb1⟩
set_option maxHeartbeats 400000 in
theorem isSf (n : Nd) (ih : ∀ x ∈ n.kids, IsC x) (v : Value) (w : World) (ht : n.text.size ≤ maxLen) (hr : RdK w n.kids v) (ih2 : ∀ x ∈ n.kids, ∀ y ∈ x.kids, IsC y) (hB : okIs 83 n = false) :
    Calls Tryz.prog 17 #[ndV n v, .int .u8 83] w fun e w' => e = .returned (.bool false) ∧ Below w.heap.size w w' := by
  have K1 := hide (fun w' hr' => stW n ih ih2 v w' ht hr')
  rw [hB] at K1
  have HR := hide hr
  have hl := len_ok hr
  obtain ⟨a0, c0, hv0⟩ := RdK_slice hr
  subst hv0
  unfold ndV at K1 ⊢
  clear hr ht ih
  generalize n.text = xt at *
  generalize n.kind = xk at *
  go_enter Tryz.func17, Tryz.ntmps17
  go_wp2_with (first | (go_at_call 23; refine (unhide K1 _ (RdK_later (bal (brf w) _) (unhide HR))).mono ?_; rintro e v1 ⟨rfl, hb1⟩))
  go_ret
  exact ⟨rfl, btr (bal (brf w) _) hb1⟩
theorem isS (n : Nd) (ih : ∀ x ∈ n.kids, IsC x) (v : Value) (w : World) (ht : n.text.size ≤ maxLen) (hr : RdK w n.kids v) (ih2 : ∀ x ∈ n.kids, ∀ y ∈ x.kids, IsC y)  :
    Calls Tryz.prog 17 #[ndV n v, .int .u8 83] w fun e w' => e = .returned (.bool (okIs 83 n)) ∧ Below w.heap.size w w' := by
  cases hB : okIs 83 n with
  | true => exact isSt n ih v w ht hr ih2 hB
  | false => exact isSf n ih v w ht hr ih2 hB
set_option maxHeartbeats 400000 in
theorem isBBt (n : Nd) (ih : ∀ x ∈ n.kids, IsC x) (v : Value) (w : World) (ht : n.text.size ≤ maxLen) (hr : RdK w n.kids v) (hB : okIs 98 n = true) :
    Calls Tryz.prog 17 #[ndV n v, .int .u8 66] w fun e w' => e = .returned (.bool true) ∧ Below w.heap.size w w' := by
  have K1 := hide (fun w' hr' => isBl n ih v w' ht hr')
  rw [hB] at K1
  have HR := hide hr
  have hl := len_ok hr
  obtain ⟨a0, c0, hv0⟩ := RdK_slice hr
  subst hv0
  unfold ndV at K1 ⊢
  clear hr ht ih
  generalize n.text = xt at *
  generalize n.kind = xk at *
  go_enter Tryz.func17, Tryz.ntmps17
  go_wp2_with (first | (go_at_call_of 17 (Value.int IntKind.u8 98); refine (unhide K1 _ (RdK_later (bal (brf w) _) (unhide HR))).mono ?_; rintro e v1 ⟨rfl, hb1⟩; obtain ⟨hc1, hf1⟩ := bcell hb1))
  go_ret
  exact ⟨rfl, btr (bal (brf w) _) hb1⟩
set_option maxHeartbeats 400000 in
theorem isBBk (n : Nd) (ih : ∀ x ∈ n.kids, IsC x) (v : Value) (w : World) (ht : n.text.size ≤ maxLen) (hr : RdK w n.kids v) (hB : okIs 98 n = false) (h29 : n.kind ≠ 29) :
    Calls Tryz.prog 17 #[ndV n v, .int .u8 66] w fun e w' => e = .returned (.bool false) ∧ Below w.heap.size w w' := by
  have K1 := hide (fun w' hr' => isBl n ih v w' ht hr')
  rw [hB] at K1
  have HR := hide hr
  have hl := len_ok hr
  obtain ⟨a0, c0, hv0⟩ := RdK_slice hr
  subst hv0
  unfold ndV at K1 ⊢
  clear hr ht ih
  have a29 : (n.kind == 29) = false := beq_eq_false_iff_ne.2 h29
  clear h29
  generalize n.kind = xk at *
  generalize n.text = xt at *
  go_enter Tryz.func17, Tryz.ntmps17
  go_wp2_with (first | (go_at_call_of 17 (Value.int IntKind.u8 98); refine (unhide K1 _ (RdK_later (bal (brf w) _) (unhide HR))).mono ?_; rintro e v1 ⟨rfl, hb1⟩; obtain ⟨hc1, hf1⟩ := bcell hb1))
  go_ret
  exact ⟨rfl, btr (bal (brf w) _) hb1⟩
set_option maxHeartbeats 400000 in
theorem isBBts (n : Nd) (ih : ∀ x ∈ n.kids, IsC x) (v : Value) (w : World) (ht : n.text.size ≤ maxLen) (hr : RdK w n.kids v) (ih2 : ∀ x ∈ n.kids, ∀ y ∈ x.kids, IsC y) (hk : n.kind = 29) (hB : okIs 98 n = false) (hC : okIs 83 n = true) :
    Calls Tryz.prog 17 #[ndV n v, .int .u8 66] w fun e w' => e = .returned (.bool true) ∧ Below w.heap.size w w' := by
  have K1 := hide (fun w' hr' => isBl n ih v w' ht hr')
  rw [hB] at K1
  have K2 := hide (fun w' hr' => isS n ih v w' ht hr' ih2)
  rw [hC] at K2
  have HR := hide hr
  have hl := len_ok hr
  obtain ⟨a0, c0, hv0⟩ := RdK_slice hr
  subst hv0
  unfold ndV at K1 K2 ⊢
  rw [hk] at K1 K2 ⊢
  clear hr ht ih
  generalize n.text = xt at *
  go_enter Tryz.func17, Tryz.ntmps17
  go_wp2_with (first | (go_at_call_of 17 (Value.int IntKind.u8 98); refine (unhide K1 _ (RdK_later (bal (brf w) _) (unhide HR))).mono ?_; rintro e v1 ⟨rfl, hb1⟩; obtain ⟨hc1, hf1⟩ := bcell hb1) | (go_at_call_of 17 (Value.int IntKind.u8 83); refine (unhide K2 _ (RdK_later (btr (bal (brf w) _) hb1) (unhide HR))).mono ?_; rintro e v2 ⟨rfl, hb2⟩))
  go_ret
  exact ⟨rfl, btr (btr (bal (brf w) _) hb1) hb2⟩
set_option maxHeartbeats 400000 in
theorem isBBfs (n : Nd) (ih : ∀ x ∈ n.kids, IsC x) (v : Value) (w : World) (ht : n.text.size ≤ maxLen) (hr : RdK w n.kids v) (ih2 : ∀ x ∈ n.kids, ∀ y ∈ x.kids, IsC y) (hk : n.kind = 29) (hB : okIs 98 n = false) (hC : okIs 83 n = false) :
    Calls Tryz.prog 17 #[ndV n v, .int .u8 66] w fun e w' => e = .returned (.bool false) ∧ Below w.heap.size w w' := by
  have K1 := hide (fun w' hr' => isBl n ih v w' ht hr')
  rw [hB] at K1
  have K2 := hide (fun w' hr' => isS n ih v w' ht hr' ih2)
  rw [hC] at K2
  have HR := hide hr
  have hl := len_ok hr
  obtain ⟨a0, c0, hv0⟩ := RdK_slice hr
  subst hv0
  unfold ndV at K1 K2 ⊢
  rw [hk] at K1 K2 ⊢
  clear hr ht ih
  generalize n.text = xt at *
  go_enter Tryz.func17, Tryz.ntmps17
  go_wp2_with (first | (go_at_call_of 17 (Value.int IntKind.u8 98); refine (unhide K1 _ (RdK_later (bal (brf w) _) (unhide HR))).mono ?_; rintro e v1 ⟨rfl, hb1⟩; obtain ⟨hc1, hf1⟩ := bcell hb1) | (go_at_call_of 17 (Value.int IntKind.u8 83); refine (unhide K2 _ (RdK_later (btr (bal (brf w) _) hb1) (unhide HR))).mono ?_; rintro e v2 ⟨rfl, hb2⟩))
  go_ret
  exact ⟨rfl, btr (btr (bal (brf w) _) hb1) hb2⟩
theorem isBB (n : Nd) (ih : ∀ x ∈ n.kids, IsC x) (v : Value) (w : World) (ht : n.text.size ≤ maxLen) (hr : RdK w n.kids v) (ih2 : ∀ x ∈ n.kids, ∀ y ∈ x.kids, IsC y)  :
    Calls Tryz.prog 17 #[ndV n v, .int .u8 66] w fun e w' => e = .returned (.bool (okIs 66 n)) ∧ Below w.heap.size w w' := by
  have e : okIs 66 n = (okIs 98 n || (n.kind == 29) && okIs 83 n) := by
    rw [okIs_of (by decide), okIs_of (by decide), okIs_of (by decide)]
    show (hasB (2 ^ 26 + 2 ^ 29) n.kind && fm n) = (hasB (2 ^ 26) n.kind && fm n || (n.kind == 29) && (hasB stmK n.kind && fm n))
    rw [hasB_of (2 ^ 26 + 2 ^ 29) [26, 29] (by decide) (by decide), has_one 26 (by decide) (by decide), has_stm]
    by_cases h1 : n.kind = 29
    · rw [h1]; cases fm n <;> rfl
    · have a1 : (n.kind == 29) = false := beq_eq_false_iff_ne.2 h1
      cases fm n <;> simp [a1]
  rw [e]
  cases hB : okIs 98 n with
  | true => exact isBBt n ih v w ht hr hB
  | false =>
    by_cases h29 : n.kind = 29
    · have a1 : (n.kind == 29) = true := by rw [h29]; rfl
      rw [a1, Bool.false_or, Bool.true_and]
      cases hC : okIs 83 n with
      | true => exact isBBts n ih v w ht hr ih2 h29 hB hC
      | false => exact isBBfs n ih v w ht hr ih2 h29 hB hC
    · have a1 : (n.kind == 29) = false := beq_eq_false_iff_ne.2 h29
      rw [a1]
      exact isBBk n ih v w ht hr hB h29
end Go.Proofs.YtlcpmbdckmdabaaGreatDoor
