/- What a letter stands for, kind by kind. What the specification's l03Expr answers. What the specification's l03Item answers. -/
import Derived.Test.YtlcpmbdckmdabaaGreatDoorNEY
import Derived.Test.YtlcpmbdckmdabaaGreatDoorNE8
import Derived.Test.YtlcpmbdckmdabaaGreatDoorNEZ
import Derived.Test.YtlcpmbdckmdabaaGreatDoorNS9
namespace Go.Proofs.YtlcpmbdckmdabaaGreatDoor
open Go.RowKit Nt
set_option linter.unusedVariables false
set_option maxRecDepth 100000
theorem ok_of {c : Nat} (h70 : c ≠ 70) (n : Nd) (k : Int) (hk : n.kind = k) {A B : Bool} (hs : hasB (setOf c) k = true) (h1 : txB k n.text = A) (h2 : (kdB k n.kids && fmL n.kids) = B) : okIs c n = (A && B) := by
  obtain ⟨k', t, ks⟩ := n
  have hk' : k' = k := hk
  subst hk'
  have h1' : txB k' t = A := h1
  have h2' : (kdB k' ks && fmL ks) = B := h2
  rw [okIs_of h70]
  show (hasB (setOf c) k' && fm (.mk k' t ks)) = _
  rw [fm_mk, hs, Bool.true_and, h1', Bool.and_assoc, h2']
theorem ok_no {c : Nat} (n : Nd) (h : hasB (setOf c) n.kind = false) : okIs c n = false := by unfold okIs; rw [h]; rfl
theorem emp_fm (ks : List Nd) : (ks.isEmpty && fmL ks) = ks.isEmpty := by
  cases ks with
  | nil => rw [fmL]; rfl
  | cons x xs => rfl
theorem or_kids (ks : List Nd) (a b : List Nat) (ha : ∀ c ∈ a, c ≠ 70) (hb : ∀ c ∈ b, c ≠ 70) : ((fitK ks (a.map setOf) || fitK ks (b.map setOf)) && fmL ks) = (kidsB ks a || kidsB ks b) := by
  rw [kidsB_of _ _ ha, kidsB_of _ _ hb]
  cases fitK ks (a.map setOf) <;> cases fitK ks (b.map setOf) <;> cases fmL ks <;> rfl
theorem one_all (ks : List Nd) (c : Nat) (h : c ≠ 70) : ((decide (1 ≤ ks.length) && allK (setOf c) ks) && fmL ks) = (decide (1 ≤ ks.length) && ks.all (okIs c)) := by rw [allB_of h, Bool.and_assoc]
theorem okF (x : Nd) : okIs 70 x = ((hasB (2 ^ 5) x.kind && fm x) && allK (2 ^ 6) x.kids) := rfl
theorem tfe (ks : List Nd) : ((fitK ks [2 ^ 8, 2 ^ 5, expK] && allK (2 ^ 6) ((ks.drop 1).headD (.mk 0 ⟨#[]⟩ [])).kids) && fmL ks) = kidsB ks [116, 70, 101] := by
  match ks with
  | [] => rfl
  | [x] => simp [fitK, kidsB]
  | [x, y] => simp [fitK, kidsB]
  | [x, y, z] =>
    show (((hasB (2 ^ 8) x.kind && (hasB (2 ^ 5) y.kind && (hasB expK z.kind && true))) && allK (2 ^ 6) y.kids) && fmL [x, y, z]) = (okIs 116 x && (okIs 70 y && (okIs 101 z && true)))
    rw [okF, okIs_of (by decide), okIs_of (by decide)]
    show _ = ((hasB (2 ^ 8) x.kind && fm x) && (((hasB (2 ^ 5) y.kind && fm y) && allK (2 ^ 6) y.kids) && ((hasB expK z.kind && fm z) && true)))
    simp only [fmL]
    generalize hasB (2 ^ 8) x.kind = a
    generalize hasB (2 ^ 5) y.kind = b
    generalize hasB expK z.kind = c
    generalize allK (2 ^ 6) y.kids = d
    generalize fm x = e
    generalize fm y = f
    generalize fm z = g
    revert a b c d e f g; decide
  | x :: y :: z :: u :: r => simp [fitK, kidsB]
end Go.Proofs.YtlcpmbdckmdabaaGreatDoor
namespace Go.Proofs.YtlcpmbdckmdabaaGreatDoor
open Go.RowKit Nt
set_option linter.unusedVariables false
set_option maxRecDepth 100000
theorem emp_of {ks : List Nd} (h : ks ≠ []) : ks.isEmpty = false := by cases ks with | nil => exact absurd rfl h | cons x xs => rfl
set_option maxHeartbeats 400000 in
theorem ex36n (n : Nd) (v : Value) (w : World) (ht : n.text.size ≤ maxLen) (hr : RdK w n.kids v) (hk : n.kind = 36) (r : List UInt8 × Bool × Nat) (hN : Nb.nbL (L n.text) = r) (h2 : r.2.2 ≠ 0) :
    Calls Tryz.prog 24 #[ndV n v] w fun e w' => e = .returned (.bool false) ∧ Below w.heap.size w w' := by
  have NB := hide (fun w' => sNB n.text w' ht)
  obtain ⟨r0, r1, r2⟩ := r
  have hx : nbV (Nb.nbL (L n.text)) = .tuple #[.string (S r0), .bool r1, .int .i64 (r2 : Nat)] := by rw [hN]; rfl
  rw [hx] at NB
  have q2 : ((r2 : Int) == 0) = false := beq_eq_false_iff_ne.2 (by have : r2 ≠ 0 := h2; omega)
  clear hN hx h2
  have HR := hide hr
  have hl := len_ok hr
  obtain ⟨a0, c0, hv0⟩ := RdK_slice hr
  subst hv0
  unfold ndV
  rw [hk]
  clear hr ht
  generalize n.text = xt at *
  go_enter Tryz.func24, Tryz.ntmps24
  go_wp2_with (first | (go_at_call 34; refine (unhide NB _).mono ?_; rintro e v1 ⟨rfl, hb1⟩; obtain ⟨hc1, hf1⟩ := bcell hb1))
  go_ret
  exact ⟨rfl, btr (bal (brf w) _) hb1⟩
set_option maxHeartbeats 400000 in
theorem ex36e (n : Nd) (v : Value) (w : World) (ht : n.text.size ≤ maxLen) (hr : RdK w n.kids v) (hk : n.kind = 36) (r : List UInt8 × Bool × Nat) (hN : Nb.nbL (L n.text) = r) (h2 : r.2.2 = 0) (hE : n.kids = []) :
    Calls Tryz.prog 24 #[ndV n v] w fun e w' => e = .returned (.bool true) ∧ Below w.heap.size w w' := by
  have NB := hide (fun w' => sNB n.text w' ht)
  obtain ⟨r0, r1, r2⟩ := r
  have hx : nbV (Nb.nbL (L n.text)) = .tuple #[.string (S r0), .bool r1, .int .i64 (r2 : Nat)] := by rw [hN]; rfl
  rw [hx] at NB
  have q2 : r2 = 0 := h2
  subst q2
  clear hN hx h2
  have HR := hide hr
  have hl := len_ok hr
  have q0 : ((n.kids.length : Int) == 0) = true := by rw [hE]; rfl
  obtain ⟨a0, c0, hv0⟩ := RdK_slice hr
  subst hv0
  unfold ndV
  rw [hk]
  clear hr ht
  generalize n.text = xt at *
  go_enter Tryz.func24, Tryz.ntmps24
  go_wp2_with (first | (go_at_call 34; refine (unhide NB _).mono ?_; rintro e v1 ⟨rfl, hb1⟩; obtain ⟨hc1, hf1⟩ := bcell hb1))
  go_ret
  exact ⟨rfl, btr (bal (brf w) _) hb1⟩
set_option maxHeartbeats 400000 in
theorem ex36f (n : Nd) (v : Value) (w : World) (ht : n.text.size ≤ maxLen) (hr : RdK w n.kids v) (hk : n.kind = 36) (r : List UInt8 × Bool × Nat) (hN : Nb.nbL (L n.text) = r) (h2 : r.2.2 = 0) (hE : n.kids ≠ []) :
    Calls Tryz.prog 24 #[ndV n v] w fun e w' => e = .returned (.bool false) ∧ Below w.heap.size w w' := by
  have NB := hide (fun w' => sNB n.text w' ht)
  obtain ⟨r0, r1, r2⟩ := r
  have hx : nbV (Nb.nbL (L n.text)) = .tuple #[.string (S r0), .bool r1, .int .i64 (r2 : Nat)] := by rw [hN]; rfl
  rw [hx] at NB
  have q2 : r2 = 0 := h2
  subst q2
  clear hN hx h2
  have HR := hide hr
  have hl := len_ok hr
  have q0 : ((n.kids.length : Int) == 0) = false := beq_eq_false_iff_ne.2 (by cases h : n.kids with | nil => exact absurd h hE | cons x xs => simp; omega)
  obtain ⟨a0, c0, hv0⟩ := RdK_slice hr
  subst hv0
  unfold ndV
  rw [hk]
  clear hr ht
  generalize n.text = xt at *
  go_enter Tryz.func24, Tryz.ntmps24
  go_wp2_with (first | (go_at_call 34; refine (unhide NB _).mono ?_; rintro e v1 ⟨rfl, hb1⟩; obtain ⟨hc1, hf1⟩ := bcell hb1))
  go_ret
  exact ⟨rfl, btr (bal (brf w) _) hb1⟩
theorem ex36 (n : Nd) (v : Value) (w : World) (ht : n.text.size ≤ maxLen) (hr : RdK w n.kids v) (hk : n.kind = 36) :
    Calls Tryz.prog 24 #[ndV n v] w fun e w' => e = .returned (.bool (((Nb.nbL (L n.text)).2.2 == 0) && n.kids.isEmpty)) ∧ Below w.heap.size w w' := by
  by_cases h2 : (Nb.nbL (L n.text)).2.2 = 0
  · by_cases hE : n.kids = []
    · have e : (((Nb.nbL (L n.text)).2.2 == 0) && n.kids.isEmpty) = true := by rw [h2, hE]; rfl
      rw [e]; exact ex36e n v w ht hr hk _ rfl h2 hE
    · have e : (((Nb.nbL (L n.text)).2.2 == 0) && n.kids.isEmpty) = false := by rw [emp_of hE, Bool.and_false]
      rw [e]; exact ex36f n v w ht hr hk _ rfl h2 hE
  · have e : (((Nb.nbL (L n.text)).2.2 == 0) && n.kids.isEmpty) = false := by rw [beq_eq_false_iff_ne.2 h2]; rfl
    rw [e]; exact ex36n n v w ht hr hk _ rfl h2
set_option maxHeartbeats 400000 in
theorem ex37t (n : Nd) (ih : ∀ x ∈ n.kids, IsC x) (v : Value) (w : World) (ht : n.text.size ≤ maxLen) (hr : RdK w n.kids v) (hk : n.kind = 37) (hB : okIs 84 n = true) :
    Calls Tryz.prog 24 #[ndV n v] w fun e w' => e = .returned (.bool true) ∧ Below w.heap.size w w' := by
  have K1 := hide (fun w' hr' => isT n ih v w' ht hr')
  rw [hB] at K1
  have HR := hide hr
  have hl := len_ok hr
  obtain ⟨a0, c0, hv0⟩ := RdK_slice hr
  subst hv0
  unfold ndV at K1 ⊢
  rw [hk] at K1 ⊢
  clear hr ht ih
  generalize n.text = xt at *
  go_enter Tryz.func24, Tryz.ntmps24
  go_wp2_with (first | (go_at_call 17; refine (unhide K1 _ (RdK_later (bal (brf w) _) (unhide HR))).mono ?_; rintro e v1 ⟨rfl, hb1⟩))
  go_ret
  exact ⟨rfl, btr (bal (brf w) _) hb1⟩
set_option maxHeartbeats 400000 in
theorem ex37f (n : Nd) (ih : ∀ x ∈ n.kids, IsC x) (v : Value) (w : World) (ht : n.text.size ≤ maxLen) (hr : RdK w n.kids v) (hk : n.kind = 37) (hB : okIs 84 n = false) :
    Calls Tryz.prog 24 #[ndV n v] w fun e w' => e = .returned (.bool false) ∧ Below w.heap.size w w' := by
  have K1 := hide (fun w' hr' => isT n ih v w' ht hr')
  rw [hB] at K1
  have HR := hide hr
  have hl := len_ok hr
  obtain ⟨a0, c0, hv0⟩ := RdK_slice hr
  subst hv0
  unfold ndV at K1 ⊢
  rw [hk] at K1 ⊢
  clear hr ht ih
  generalize n.text = xt at *
  go_enter Tryz.func24, Tryz.ntmps24
  go_wp2_with (first | (go_at_call 17; refine (unhide K1 _ (RdK_later (bal (brf w) _) (unhide HR))).mono ?_; rintro e v1 ⟨rfl, hb1⟩))
  go_ret
  exact ⟨rfl, btr (bal (brf w) _) hb1⟩
theorem ex37 (n : Nd) (ih : ∀ x ∈ n.kids, IsC x) (v : Value) (w : World) (ht : n.text.size ≤ maxLen) (hr : RdK w n.kids v) (hk : n.kind = 37) :
    Calls Tryz.prog 24 #[ndV n v] w fun e w' => e = .returned (.bool (okIs 84 n)) ∧ Below w.heap.size w w' := by
  cases hB : okIs 84 n with
  | true => exact ex37t n ih v w ht hr hk hB
  | false => exact ex37f n ih v w ht hr hk hB
set_option maxHeartbeats 400000 in
theorem ex38t (n : Nd) (ih : ∀ x ∈ n.kids, IsC x) (v : Value) (w : World) (ht : n.text.size ≤ maxLen) (hr : RdK w n.kids v) (hk : n.kind = 38) (hB : okIs 84 n = true) :
    Calls Tryz.prog 24 #[ndV n v] w fun e w' => e = .returned (.bool true) ∧ Below w.heap.size w w' := by
  have K1 := hide (fun w' hr' => isT n ih v w' ht hr')
  rw [hB] at K1
  have HR := hide hr
  have hl := len_ok hr
  obtain ⟨a0, c0, hv0⟩ := RdK_slice hr
  subst hv0
  unfold ndV at K1 ⊢
  rw [hk] at K1 ⊢
  clear hr ht ih
  generalize n.text = xt at *
  go_enter Tryz.func24, Tryz.ntmps24
  go_wp2_with (first | (go_at_call 17; refine (unhide K1 _ (RdK_later (bal (brf w) _) (unhide HR))).mono ?_; rintro e v1 ⟨rfl, hb1⟩))
  go_ret
  exact ⟨rfl, btr (bal (brf w) _) hb1⟩
set_option maxHeartbeats 400000 in
theorem ex38f (n : Nd) (ih : ∀ x ∈ n.kids, IsC x) (v : Value) (w : World) (ht : n.text.size ≤ maxLen) (hr : RdK w n.kids v) (hk : n.kind = 38) (hB : okIs 84 n = false) :
    Calls Tryz.prog 24 #[ndV n v] w fun e w' => e = .returned (.bool false) ∧ Below w.heap.size w w' := by
  have K1 := hide (fun w' hr' => isT n ih v w' ht hr')
  rw [hB] at K1
  have HR := hide hr
  have hl := len_ok hr
  obtain ⟨a0, c0, hv0⟩ := RdK_slice hr
  subst hv0
  unfold ndV at K1 ⊢
  rw [hk] at K1 ⊢
  clear hr ht ih
  generalize n.text = xt at *
  go_enter Tryz.func24, Tryz.ntmps24
  go_wp2_with (first | (go_at_call 17; refine (unhide K1 _ (RdK_later (bal (brf w) _) (unhide HR))).mono ?_; rintro e v1 ⟨rfl, hb1⟩))
  go_ret
  exact ⟨rfl, btr (bal (brf w) _) hb1⟩
theorem ex38 (n : Nd) (ih : ∀ x ∈ n.kids, IsC x) (v : Value) (w : World) (ht : n.text.size ≤ maxLen) (hr : RdK w n.kids v) (hk : n.kind = 38) :
    Calls Tryz.prog 24 #[ndV n v] w fun e w' => e = .returned (.bool (okIs 84 n)) ∧ Below w.heap.size w w' := by
  cases hB : okIs 84 n with
  | true => exact ex38t n ih v w ht hr hk hB
  | false => exact ex38f n ih v w ht hr hk hB
set_option maxHeartbeats 400000 in
theorem ex39t (n : Nd) (ih : ∀ x ∈ n.kids, IsC x) (v : Value) (w : World) (ht : n.text.size ≤ maxLen) (hr : RdK w n.kids v) (hk : n.kind = 39) (hB : okIs 84 n = true) :
    Calls Tryz.prog 24 #[ndV n v] w fun e w' => e = .returned (.bool true) ∧ Below w.heap.size w w' := by
  have K1 := hide (fun w' hr' => isT n ih v w' ht hr')
  rw [hB] at K1
  have HR := hide hr
  have hl := len_ok hr
  obtain ⟨a0, c0, hv0⟩ := RdK_slice hr
  subst hv0
  unfold ndV at K1 ⊢
  rw [hk] at K1 ⊢
  clear hr ht ih
  generalize n.text = xt at *
  go_enter Tryz.func24, Tryz.ntmps24
  go_wp2_with (first | (go_at_call 17; refine (unhide K1 _ (RdK_later (bal (brf w) _) (unhide HR))).mono ?_; rintro e v1 ⟨rfl, hb1⟩))
  go_ret
  exact ⟨rfl, btr (bal (brf w) _) hb1⟩
set_option maxHeartbeats 400000 in
theorem ex39f (n : Nd) (ih : ∀ x ∈ n.kids, IsC x) (v : Value) (w : World) (ht : n.text.size ≤ maxLen) (hr : RdK w n.kids v) (hk : n.kind = 39) (hB : okIs 84 n = false) :
    Calls Tryz.prog 24 #[ndV n v] w fun e w' => e = .returned (.bool false) ∧ Below w.heap.size w w' := by
  have K1 := hide (fun w' hr' => isT n ih v w' ht hr')
  rw [hB] at K1
  have HR := hide hr
  have hl := len_ok hr
  obtain ⟨a0, c0, hv0⟩ := RdK_slice hr
  subst hv0
  unfold ndV at K1 ⊢
  rw [hk] at K1 ⊢
  clear hr ht ih
  generalize n.text = xt at *
  go_enter Tryz.func24, Tryz.ntmps24
  go_wp2_with (first | (go_at_call 17; refine (unhide K1 _ (RdK_later (bal (brf w) _) (unhide HR))).mono ?_; rintro e v1 ⟨rfl, hb1⟩))
  go_ret
  exact ⟨rfl, btr (bal (brf w) _) hb1⟩
theorem ex39 (n : Nd) (ih : ∀ x ∈ n.kids, IsC x) (v : Value) (w : World) (ht : n.text.size ≤ maxLen) (hr : RdK w n.kids v) (hk : n.kind = 39) :
    Calls Tryz.prog 24 #[ndV n v] w fun e w' => e = .returned (.bool (okIs 84 n)) ∧ Below w.heap.size w w' := by
  cases hB : okIs 84 n with
  | true => exact ex39t n ih v w ht hr hk hB
  | false => exact ex39f n ih v w ht hr hk hB
set_option maxHeartbeats 400000 in
theorem ex41n (n : Nd) (v : Value) (w : World) (ht : n.text.size ≤ maxLen) (hr : RdK w n.kids v) (hk : n.kind = 41) (hA : (n.text.size == 0) = false) :
    Calls Tryz.prog 24 #[ndV n v] w fun e w' => e = .returned (.bool false) ∧ Below w.heap.size w w' := by
  have hn : n.text.toList.isEmpty = false := by rw [toListL, ← L_emp]; exact hA
  have HR := hide hr
  have hl := len_ok hr
  obtain ⟨a0, c0, hv0⟩ := RdK_slice hr
  subst hv0
  unfold ndV
  rw [hk]
  clear hr ht
  generalize n.text = xt at *
  go_enter Tryz.func24, Tryz.ntmps24
  go_wp2
  go_ret
  exact ⟨rfl, bal (brf w) _⟩
set_option maxHeartbeats 400000 in
theorem ex41z (n : Nd) (v : Value) (w : World) (ht : n.text.size ≤ maxLen) (hr : RdK w n.kids v) (hk : n.kind = 41) (hA : (n.text.size == 0) = true) (hE : n.kids = []) :
    Calls Tryz.prog 24 #[ndV n v] w fun e w' => e = .returned (.bool false) ∧ Below w.heap.size w w' := by
  have hn : n.text.toList.isEmpty = true := by rw [toListL, ← L_emp]; exact hA
  have HR := hide hr
  have hl := len_ok hr
  have q0 : ((n.kids.length : Int) == 0) = true := by rw [hE]; rfl
  obtain ⟨a0, c0, hv0⟩ := RdK_slice hr
  subst hv0
  unfold ndV
  rw [hk]
  clear hr ht
  generalize n.text = xt at *
  go_enter Tryz.func24, Tryz.ntmps24
  go_wp2
  go_ret
  exact ⟨rfl, bal (brf w) _⟩
set_option maxHeartbeats 400000 in
theorem ex41t (n : Nd) (ih : ∀ x ∈ n.kids, IsC x) (v : Value) (w : World) (ht : n.text.size ≤ maxLen) (hr : RdK w n.kids v) (hk : n.kind = 41) (hA : (n.text.size == 0) = true) (hp : (0 : Int) < n.kids.length) (hB : n.kids.all (okIs 101) = true) :
    Calls Tryz.prog 24 #[ndV n v] w fun e w' => e = .returned (.bool true) ∧ Below w.heap.size w w' := by
  have hn : n.text.toList.isEmpty = true := by rw [toListL, ← L_emp]; exact hA
  have K1 := hide (fun w' hr' => allN n ih v w' 0 101 (by decide) (by decide) hr')
  rw [List.drop_zero] at K1
  rw [hB] at K1
  have HR := hide hr
  have hl := len_ok hr
  obtain ⟨a0, c0, hv0⟩ := RdK_slice hr
  subst hv0
  unfold ndV at K1 ⊢
  rw [hk] at K1 ⊢
  clear hr ht ih
  generalize n.text = xt at *
  go_enter Tryz.func24, Tryz.ntmps24
  go_wp2_with (first | (go_at_call 11; refine (unhide K1 _ (RdK_later (bal (brf w) _) (unhide HR))).mono ?_; rintro e v1 ⟨rfl, hb1⟩))
  go_ret
  exact ⟨rfl, btr (bal (brf w) _) hb1⟩
set_option maxHeartbeats 400000 in
theorem ex41f (n : Nd) (ih : ∀ x ∈ n.kids, IsC x) (v : Value) (w : World) (ht : n.text.size ≤ maxLen) (hr : RdK w n.kids v) (hk : n.kind = 41) (hA : (n.text.size == 0) = true) (hp : (0 : Int) < n.kids.length) (hB : n.kids.all (okIs 101) = false) :
    Calls Tryz.prog 24 #[ndV n v] w fun e w' => e = .returned (.bool false) ∧ Below w.heap.size w w' := by
  have hn : n.text.toList.isEmpty = true := by rw [toListL, ← L_emp]; exact hA
  have K1 := hide (fun w' hr' => allN n ih v w' 0 101 (by decide) (by decide) hr')
  rw [List.drop_zero] at K1
  rw [hB] at K1
  have HR := hide hr
  have hl := len_ok hr
  obtain ⟨a0, c0, hv0⟩ := RdK_slice hr
  subst hv0
  unfold ndV at K1 ⊢
  rw [hk] at K1 ⊢
  clear hr ht ih
  generalize n.text = xt at *
  go_enter Tryz.func24, Tryz.ntmps24
  go_wp2_with (first | (go_at_call 11; refine (unhide K1 _ (RdK_later (bal (brf w) _) (unhide HR))).mono ?_; rintro e v1 ⟨rfl, hb1⟩))
  go_ret
  exact ⟨rfl, btr (bal (brf w) _) hb1⟩
theorem ex41 (n : Nd) (ih : ∀ x ∈ n.kids, IsC x) (v : Value) (w : World) (ht : n.text.size ≤ maxLen) (hr : RdK w n.kids v) (hk : n.kind = 41) :
    Calls Tryz.prog 24 #[ndV n v] w fun e w' => e = .returned (.bool ((n.text.size == 0) && (decide (1 ≤ n.kids.length) && n.kids.all (okIs 101)))) ∧ Below w.heap.size w w' := by
  cases hA : (n.text.size == 0) with
  | false => exact ex41n n v w ht hr hk hA
  | true =>
    by_cases hE : n.kids = []
    · have e : (true && (decide (1 ≤ n.kids.length) && n.kids.all (okIs 101))) = false := by rw [hE]; rfl
      rw [e]; exact ex41z n v w ht hr hk hA hE
    · have hp : 1 ≤ n.kids.length := by cases h : n.kids with | nil => exact absurd h hE | cons x xs => simp
      rw [decide_eq_true hp, Bool.true_and, Bool.true_and]
      cases hB : n.kids.all (okIs 101) with
      | false => exact ex41f n ih v w ht hr hk hA (by omega) hB
      | true => exact ex41t n ih v w ht hr hk hA (by omega) hB
set_option maxHeartbeats 400000 in
theorem exno (n : Nd) (v : Value) (w : World) (ht : n.text.size ≤ maxLen) (hr : RdK w n.kids v) (h36 : n.kind ≠ 36) (h37 : n.kind ≠ 37) (h38 : n.kind ≠ 38) (h39 : n.kind ≠ 39) (h40 : n.kind ≠ 40) (h41 : n.kind ≠ 41) (h42 : n.kind ≠ 42) (h43 : n.kind ≠ 43) (h44 : n.kind ≠ 44) (h45 : n.kind ≠ 45) (h46 : n.kind ≠ 46) (h47 : n.kind ≠ 47) :
    Calls Tryz.prog 24 #[ndV n v] w fun e w' => e = .returned (.bool false) ∧ Below w.heap.size w w' := by
  have HR := hide hr
  have hl := len_ok hr
  obtain ⟨a0, c0, hv0⟩ := RdK_slice hr
  subst hv0
  unfold ndV
  clear hr ht
  have a36 : (n.kind == 36) = false := beq_eq_false_iff_ne.2 h36
  have a37 : (n.kind == 37) = false := beq_eq_false_iff_ne.2 h37
  have a38 : (n.kind == 38) = false := beq_eq_false_iff_ne.2 h38
  have a39 : (n.kind == 39) = false := beq_eq_false_iff_ne.2 h39
  have a40 : (n.kind == 40) = false := beq_eq_false_iff_ne.2 h40
  have a41 : (n.kind == 41) = false := beq_eq_false_iff_ne.2 h41
  have a42 : (n.kind == 42) = false := beq_eq_false_iff_ne.2 h42
  have a43 : (n.kind == 43) = false := beq_eq_false_iff_ne.2 h43
  have a44 : (n.kind == 44) = false := beq_eq_false_iff_ne.2 h44
  have a45 : (n.kind == 45) = false := beq_eq_false_iff_ne.2 h45
  have a46 : (n.kind == 46) = false := beq_eq_false_iff_ne.2 h46
  have a47 : (n.kind == 47) = false := beq_eq_false_iff_ne.2 h47
  clear h36 h37 h38 h39 h40 h41 h42 h43 h44 h45 h46 h47
  generalize n.kind = xk at *
  generalize n.text = xt at *
  go_enter Tryz.func24, Tryz.ntmps24
  go_wp2
  go_ret
  exact ⟨rfl, bal (brf w) _⟩
theorem exW (n : Nd) (ih : ∀ x ∈ n.kids, IsC x) (v : Value) (w : World) (ht : n.text.size ≤ maxLen) (hr : RdK w n.kids v)  :
    Calls Tryz.prog 24 #[ndV n v] w fun e w' => e = .returned (.bool (okIs 101 n)) ∧ Below w.heap.size w w' := by
  by_cases h36 : n.kind = 36
  · have e : okIs 101 n = (((Nb.nbL (L n.text)).2.2 == 0) && n.kids.isEmpty) := ok_of (by decide) n 36 h36 (by decide) rfl (emp_fm _)
    rw [e]; exact ex36 n v w ht hr h36
  by_cases h37 : n.kind = 37
  · have e : okIs 101 n = (okIs 84 n) := by rw [okIs_of (by decide), okIs_of (by decide), h37]; rfl
    rw [e]; exact ex37 n ih v w ht hr h37
  by_cases h38 : n.kind = 38
  · have e : okIs 101 n = (okIs 84 n) := by rw [okIs_of (by decide), okIs_of (by decide), h38]; rfl
    rw [e]; exact ex38 n ih v w ht hr h38
  by_cases h39 : n.kind = 39
  · have e : okIs 101 n = (okIs 84 n) := by rw [okIs_of (by decide), okIs_of (by decide), h39]; rfl
    rw [e]; exact ex39 n ih v w ht hr h39
  by_cases h40 : n.kind = 40
  · have e : okIs 101 n = (freeB n.text && n.kids.all (okIs 101)) := ok_of (by decide) n 40 h40 (by decide) rfl ((allB_of (c := 101) (by decide) n.kids).symm)
    rw [e]; exact ex40 n ih v w ht hr h40
  by_cases h41 : n.kind = 41
  · have e : okIs 101 n = ((n.text.size == 0) && (decide (1 ≤ n.kids.length) && n.kids.all (okIs 101))) := ok_of (by decide) n 41 h41 (by decide) rfl (one_all n.kids 101 (by decide))
    rw [e]; exact ex41 n ih v w ht hr h41
  by_cases h42 : n.kind = 42
  · have e : okIs 101 n = ((n.text.size == 0) && kidsB n.kids [101, 101]) := ok_of (by decide) n 42 h42 (by decide) rfl ((kidsB_of n.kids [101, 101] (by decide)).symm)
    rw [e]; exact ex42 n ih v w ht hr h42
  by_cases h43 : n.kind = 43
  · have e : okIs 101 n = ((n.text.size == 0) && kidsB n.kids [101]) := ok_of (by decide) n 43 h43 (by decide) rfl ((kidsB_of n.kids [101] (by decide)).symm)
    rw [e]; exact ex43 n ih v w ht hr h43
  by_cases h44 : n.kind = 44
  · have e : okIs 101 n = ((n.text.size == 0) && kidsB n.kids [101]) := ok_of (by decide) n 44 h44 (by decide) rfl ((kidsB_of n.kids [101] (by decide)).symm)
    rw [e]; exact ex44 n ih v w ht hr h44
  by_cases h45 : n.kind = 45
  · have e : okIs 101 n = (unL.contains (L n.text) && kidsB n.kids [101]) := ok_of (by decide) n 45 h45 (by decide) rfl ((kidsB_of n.kids [101] (by decide)).symm)
    rw [e]; exact ex45 n ih v w ht hr h45
  by_cases h46 : n.kind = 46
  · have e : okIs 101 n = (binL.contains (L n.text) && kidsB n.kids [101, 101]) := ok_of (by decide) n 46 h46 (by decide) rfl ((kidsB_of n.kids [101, 101] (by decide)).symm)
    rw [e]; exact ex46 n ih v w ht hr h46
  by_cases h47 : n.kind = 47
  · have e : okIs 101 n = ((n.text.size == 0) && kidsB n.kids [101, 101, 101]) := ok_of (by decide) n 47 h47 (by decide) rfl ((kidsB_of n.kids [101, 101, 101] (by decide)).symm)
    rw [e]; exact ex47 n ih v w ht hr h47
  have e : okIs 101 n = false := ok_no n (by show hasB expK n.kind = false; rw [has_exp]; simp [h36, h37, h38, h39, h40, h41, h42, h43, h44, h45, h46, h47])
  rw [e]; exact exno n v w ht hr h36 h37 h38 h39 h40 h41 h42 h43 h44 h45 h46 h47
end Go.Proofs.YtlcpmbdckmdabaaGreatDoor
namespace Go.Proofs.YtlcpmbdckmdabaaGreatDoor
open Go.RowKit Nt
set_option linter.unusedVariables false
set_option maxRecDepth 100000
set_option maxHeartbeats 400000 in
theorem it13n (n : Nd) (v : Value) (w : World) (ht : n.text.size ≤ maxLen) (hr : RdK w n.kids v) (hk : n.kind = 13) (hA : (n.text.size == 0) = false) :
    Calls Tryz.prog 22 #[ndV n v] w fun e w' => e = .returned (.bool false) ∧ Below w.heap.size w w' := by
  have hn : n.text.toList.isEmpty = false := by rw [toListL, ← L_emp]; exact hA
  have HR := hide hr
  have hl := len_ok hr
  obtain ⟨a0, c0, hv0⟩ := RdK_slice hr
  subst hv0
  unfold ndV
  rw [hk]
  clear hr ht
  generalize n.text = xt at *
  go_enter Tryz.func22, Tryz.ntmps22
  go_wp2
  go_ret
  exact ⟨rfl, bal (brf w) _⟩
set_option maxHeartbeats 400000 in
theorem it13z (n : Nd) (v : Value) (w : World) (ht : n.text.size ≤ maxLen) (hr : RdK w n.kids v) (hk : n.kind = 13) (hA : (n.text.size == 0) = true) (hE : n.kids = []) :
    Calls Tryz.prog 22 #[ndV n v] w fun e w' => e = .returned (.bool false) ∧ Below w.heap.size w w' := by
  have hn : n.text.toList.isEmpty = true := by rw [toListL, ← L_emp]; exact hA
  have HR := hide hr
  have hl := len_ok hr
  have q0 : ((n.kids.length : Int) == 0) = true := by rw [hE]; rfl
  obtain ⟨a0, c0, hv0⟩ := RdK_slice hr
  subst hv0
  unfold ndV
  rw [hk]
  clear hr ht
  generalize n.text = xt at *
  go_enter Tryz.func22, Tryz.ntmps22
  go_wp2
  go_ret
  exact ⟨rfl, bal (brf w) _⟩
set_option maxHeartbeats 400000 in
theorem it13t (n : Nd) (ih : ∀ x ∈ n.kids, IsC x) (v : Value) (w : World) (ht : n.text.size ≤ maxLen) (hr : RdK w n.kids v) (hk : n.kind = 13) (hA : (n.text.size == 0) = true) (hp : (0 : Int) < n.kids.length) (hB : n.kids.all (okIs 110) = true) :
    Calls Tryz.prog 22 #[ndV n v] w fun e w' => e = .returned (.bool true) ∧ Below w.heap.size w w' := by
  have hn : n.text.toList.isEmpty = true := by rw [toListL, ← L_emp]; exact hA
  have K1 := hide (fun w' hr' => allN n ih v w' 0 110 (by decide) (by decide) hr')
  rw [List.drop_zero] at K1
  rw [hB] at K1
  have HR := hide hr
  have hl := len_ok hr
  obtain ⟨a0, c0, hv0⟩ := RdK_slice hr
  subst hv0
  unfold ndV at K1 ⊢
  rw [hk] at K1 ⊢
  clear hr ht ih
  generalize n.text = xt at *
  go_enter Tryz.func22, Tryz.ntmps22
  go_wp2_with (first | (go_at_call 11; refine (unhide K1 _ (RdK_later (bal (brf w) _) (unhide HR))).mono ?_; rintro e v1 ⟨rfl, hb1⟩))
  go_ret
  exact ⟨rfl, btr (bal (brf w) _) hb1⟩
set_option maxHeartbeats 400000 in
theorem it13f (n : Nd) (ih : ∀ x ∈ n.kids, IsC x) (v : Value) (w : World) (ht : n.text.size ≤ maxLen) (hr : RdK w n.kids v) (hk : n.kind = 13) (hA : (n.text.size == 0) = true) (hp : (0 : Int) < n.kids.length) (hB : n.kids.all (okIs 110) = false) :
    Calls Tryz.prog 22 #[ndV n v] w fun e w' => e = .returned (.bool false) ∧ Below w.heap.size w w' := by
  have hn : n.text.toList.isEmpty = true := by rw [toListL, ← L_emp]; exact hA
  have K1 := hide (fun w' hr' => allN n ih v w' 0 110 (by decide) (by decide) hr')
  rw [List.drop_zero] at K1
  rw [hB] at K1
  have HR := hide hr
  have hl := len_ok hr
  obtain ⟨a0, c0, hv0⟩ := RdK_slice hr
  subst hv0
  unfold ndV at K1 ⊢
  rw [hk] at K1 ⊢
  clear hr ht ih
  generalize n.text = xt at *
  go_enter Tryz.func22, Tryz.ntmps22
  go_wp2_with (first | (go_at_call 11; refine (unhide K1 _ (RdK_later (bal (brf w) _) (unhide HR))).mono ?_; rintro e v1 ⟨rfl, hb1⟩))
  go_ret
  exact ⟨rfl, btr (bal (brf w) _) hb1⟩
theorem it13 (n : Nd) (ih : ∀ x ∈ n.kids, IsC x) (v : Value) (w : World) (ht : n.text.size ≤ maxLen) (hr : RdK w n.kids v) (hk : n.kind = 13) :
    Calls Tryz.prog 22 #[ndV n v] w fun e w' => e = .returned (.bool ((n.text.size == 0) && (decide (1 ≤ n.kids.length) && n.kids.all (okIs 110)))) ∧ Below w.heap.size w w' := by
  cases hA : (n.text.size == 0) with
  | false => exact it13n n v w ht hr hk hA
  | true =>
    by_cases hE : n.kids = []
    · have e : (true && (decide (1 ≤ n.kids.length) && n.kids.all (okIs 110))) = false := by rw [hE]; rfl
      rw [e]; exact it13z n v w ht hr hk hA hE
    · have hp : 1 ≤ n.kids.length := by cases h : n.kids with | nil => exact absurd h hE | cons x xs => simp
      rw [decide_eq_true hp, Bool.true_and, Bool.true_and]
      cases hB : n.kids.all (okIs 110) with
      | false => exact it13f n ih v w ht hr hk hA (by omega) hB
      | true => exact it13t n ih v w ht hr hk hA (by omega) hB
set_option maxHeartbeats 400000 in
theorem itno (n : Nd) (v : Value) (w : World) (ht : n.text.size ≤ maxLen) (hr : RdK w n.kids v) (h9 : n.kind ≠ 9) (h10 : n.kind ≠ 10) (h11 : n.kind ≠ 11) (h12 : n.kind ≠ 12) (h13 : n.kind ≠ 13) (h14 : n.kind ≠ 14) (h15 : n.kind ≠ 15) (h16 : n.kind ≠ 16) (h17 : n.kind ≠ 17) (h18 : n.kind ≠ 18) (h19 : n.kind ≠ 19) (h20 : n.kind ≠ 20) (h21 : n.kind ≠ 21) (h22 : n.kind ≠ 22) :
    Calls Tryz.prog 22 #[ndV n v] w fun e w' => e = .returned (.bool false) ∧ Below w.heap.size w w' := by
  have HR := hide hr
  have hl := len_ok hr
  obtain ⟨a0, c0, hv0⟩ := RdK_slice hr
  subst hv0
  unfold ndV
  clear hr ht
  have a9 : (n.kind == 9) = false := beq_eq_false_iff_ne.2 h9
  have a10 : (n.kind == 10) = false := beq_eq_false_iff_ne.2 h10
  have a11 : (n.kind == 11) = false := beq_eq_false_iff_ne.2 h11
  have a12 : (n.kind == 12) = false := beq_eq_false_iff_ne.2 h12
  have a13 : (n.kind == 13) = false := beq_eq_false_iff_ne.2 h13
  have a14 : (n.kind == 14) = false := beq_eq_false_iff_ne.2 h14
  have a15 : (n.kind == 15) = false := beq_eq_false_iff_ne.2 h15
  have a16 : (n.kind == 16) = false := beq_eq_false_iff_ne.2 h16
  have a17 : (n.kind == 17) = false := beq_eq_false_iff_ne.2 h17
  have a18 : (n.kind == 18) = false := beq_eq_false_iff_ne.2 h18
  have a19 : (n.kind == 19) = false := beq_eq_false_iff_ne.2 h19
  have a20 : (n.kind == 20) = false := beq_eq_false_iff_ne.2 h20
  have a21 : (n.kind == 21) = false := beq_eq_false_iff_ne.2 h21
  have a22 : (n.kind == 22) = false := beq_eq_false_iff_ne.2 h22
  clear h9 h10 h11 h12 h13 h14 h15 h16 h17 h18 h19 h20 h21 h22
  generalize n.kind = xk at *
  generalize n.text = xt at *
  go_enter Tryz.func22, Tryz.ntmps22
  go_wp2
  go_ret
  exact ⟨rfl, bal (brf w) _⟩
theorem itW (n : Nd) (ih : ∀ x ∈ n.kids, IsC x) (v : Value) (w : World) (ht : n.text.size ≤ maxLen) (hr : RdK w n.kids v)  :
    Calls Tryz.prog 22 #[ndV n v] w fun e w' => e = .returned (.bool (okIs 105 n)) ∧ Below w.heap.size w w' := by
  by_cases h9 : n.kind = 9
  · have e : okIs 105 n = (freeB n.text && kidsB n.kids [116]) := ok_of (by decide) n 9 h9 (by decide) rfl ((kidsB_of n.kids [116] (by decide)).symm)
    rw [e]; exact it9 n ih v w ht hr h9
  by_cases h10 : n.kind = 10
  · have e : okIs 105 n = (freeB n.text && (kidsB n.kids [116] || kidsB n.kids [116, 101])) := ok_of (by decide) n 10 h10 (by decide) rfl (or_kids n.kids [116] [116, 101] (by decide) (by decide))
    rw [e]; exact it10 n ih v w ht hr h10
  by_cases h11 : n.kind = 11
  · have e : okIs 105 n = (freeB n.text && kidsB n.kids [116, 101]) := ok_of (by decide) n 11 h11 (by decide) rfl ((kidsB_of n.kids [116, 101] (by decide)).symm)
    rw [e]; exact it11 n ih v w ht hr h11
  by_cases h12 : n.kind = 12
  · have e : okIs 105 n = (freeB n.text && kidsB n.kids [101]) := ok_of (by decide) n 12 h12 (by decide) rfl ((kidsB_of n.kids [101] (by decide)).symm)
    rw [e]; exact it12 n ih v w ht hr h12
  by_cases h13 : n.kind = 13
  · have e : okIs 105 n = ((n.text.size == 0) && (decide (1 ≤ n.kids.length) && n.kids.all (okIs 110))) := ok_of (by decide) n 13 h13 (by decide) rfl (one_all n.kids 110 (by decide))
    rw [e]; exact it13 n ih v w ht hr h13
  by_cases h14 : n.kind = 14
  · have e : okIs 105 n = ((n.text.size == 0) && kidsB n.kids [84, 101]) := ok_of (by decide) n 14 h14 (by decide) rfl ((kidsB_of n.kids [84, 101] (by decide)).symm)
    rw [e]; exact it14 n ih v w ht hr h14
  by_cases h15 : n.kind = 15
  · have e : okIs 105 n = ((n.text.size == 0) && kidsB n.kids [98]) := ok_of (by decide) n 15 h15 (by decide) rfl ((kidsB_of n.kids [98] (by decide)).symm)
    rw [e]; exact it15 n ih v w ht hr h15
  by_cases h16 : n.kind = 16
  · have e : okIs 105 n = (freeB n.text && kidsB n.kids [98]) := ok_of (by decide) n 16 h16 (by decide) rfl ((kidsB_of n.kids [98] (by decide)).symm)
    rw [e]; exact it16 n ih v w ht hr h16
  by_cases h17 : n.kind = 17
  · have e : okIs 105 n = ((n.text.size == 0) && kidsB n.kids [98]) := ok_of (by decide) n 17 h17 (by decide) rfl ((kidsB_of n.kids [98] (by decide)).symm)
    rw [e]; exact it17 n ih v w ht hr h17
  by_cases h18 : n.kind = 18
  · have e : okIs 105 n = (freeB n.text && kidsB n.kids [101]) := ok_of (by decide) n 18 h18 (by decide) rfl ((kidsB_of n.kids [101] (by decide)).symm)
    rw [e]; exact it18 n ih v w ht hr h18
  by_cases h19 : n.kind = 19
  · have e : okIs 105 n = (freeB n.text && kidsB n.kids [116, 70, 101]) := ok_of (by decide) n 19 h19 (by decide) rfl (tfe n.kids)
    rw [e]; exact it19 n ih v w ht hr h19
  by_cases h20 : n.kind = 20
  · have e : okIs 105 n = (freeB n.text && kidsB n.kids [101, 101, 115]) := ok_of (by decide) n 20 h20 (by decide) rfl ((kidsB_of n.kids [101, 101, 115] (by decide)).symm)
    rw [e]; exact it20 n ih v w ht hr h20
  by_cases h21 : n.kind = 21
  · have e : okIs 105 n = ((n.text.size == 0) && (kidsB n.kids [101, 115] || kidsB n.kids [101, 115, 115])) := ok_of (by decide) n 21 h21 (by decide) rfl (or_kids n.kids [101, 115] [101, 115, 115] (by decide) (by decide))
    rw [e]; exact it21 n ih v w ht hr h21
  by_cases h22 : n.kind = 22
  · have e : okIs 105 n = (freeB n.text && kidsB n.kids [110, 112, 99]) := ok_of (by decide) n 22 h22 (by decide) rfl ((kidsB_of n.kids [110, 112, 99] (by decide)).symm)
    rw [e]; exact it22 n ih v w ht hr h22
  have e : okIs 105 n = false := ok_no n (by show hasB itmK n.kind = false; rw [has_itm]; simp [h9, h10, h11, h12, h13, h14, h15, h16, h17, h18, h19, h20, h21, h22])
  rw [e]; exact itno n v w ht hr h9 h10 h11 h12 h13 h14 h15 h16 h17 h18 h19 h20 h21 h22
end Go.Proofs.YtlcpmbdckmdabaaGreatDoor
