/- Parts of the proof: NF1 to NG6. -/
import Derived.Test.YtddlokkejglckaaGreatDoorMNS8
namespace Go.Proofs.YtddlokkejglckaaGreatDoor
open Go.RowKit Nt
set_option maxHeartbeats 400000
set_option linter.unusedVariables false
set_option maxRecDepth 100000
theorem emp_of {ks : List Nd} (h : ks ≠ []) : ks.isEmpty = false := by cases ks with | nil => exact absurd rfl h | cons x xs => rfl
theorem ex36n (n : Nd) (v : Value) (w : World) (ht : n.text.size ≤ maxLen) (hr : RdK w n.kids v) (hk : n.kind = 36) (r : List UInt8 × Bool × Nat) (hN : Nb.nbL (L n.text) = r) (h2 : r.2.2 ≠ 0) :
   CB 50 #[ndV n v] w (.bool false) := by
 have NB := h_ (fun w' => sNB n.text w' ht)
 obtain ⟨r0, r1, r2⟩ := r
 have hx : nbV (Nb.nbL (L n.text)) = .tuple #[.string (S r0), .bool r1, .int .i64 (r2 : Nat)] := by rw [hN]; rfl
 rw [hx] at NB
 have q2 : ((r2 : Int) == 0) = false := beq_eq_false_iff_ne.2 (by have : r2 ≠ 0 := h2; omega)
 clear hN hx h2
 have HR := h_ hr
 have hl := len_ok hr
 obtain ⟨a0, c0, rfl⟩ := RdK_slice hr
 unfold ndV
 rw [hk]
 clear hr ht
 generalize n.text = xt at *
 go_enter Tryz.func50, Tryz.ntmps50
 go_wp2_with (first | (go_at_call 61; refine (u_ NB _).mono ?_; rintro e v1 ⟨rfl, hb1⟩; obtain ⟨hc1, hf1⟩ := bcell hb1))
 go_ret
 exact ⟨rfl, btr (bal (brf w) _) hb1⟩
theorem ex36e (n : Nd) (v : Value) (w : World) (ht : n.text.size ≤ maxLen) (hr : RdK w n.kids v) (hk : n.kind = 36) (r : List UInt8 × Bool × Nat) (hN : Nb.nbL (L n.text) = r) (h2 : r.2.2 = 0) (hE : n.kids = []) :
   CB 50 #[ndV n v] w (.bool true) := by
 have NB := h_ (fun w' => sNB n.text w' ht)
 obtain ⟨r0, r1, r2⟩ := r
 have hx : nbV (Nb.nbL (L n.text)) = .tuple #[.string (S r0), .bool r1, .int .i64 (r2 : Nat)] := by rw [hN]; rfl
 rw [hx] at NB
 have q2 : r2 = 0 := h2
 subst q2
 clear hN hx h2
 have HR := h_ hr
 have hl := len_ok hr
 have q0 : ((n.kids.length : Int) == 0) = true := by rw [hE]; rfl
 obtain ⟨a0, c0, rfl⟩ := RdK_slice hr
 unfold ndV
 rw [hk]
 clear hr ht
 generalize n.text = xt at *
 go_enter Tryz.func50, Tryz.ntmps50
 go_wp2_with (first | (go_at_call 61; refine (u_ NB _).mono ?_; rintro e v1 ⟨rfl, hb1⟩; obtain ⟨hc1, hf1⟩ := bcell hb1))
 go_ret
 exact ⟨rfl, btr (bal (brf w) _) hb1⟩
theorem ex36f (n : Nd) (v : Value) (w : World) (ht : n.text.size ≤ maxLen) (hr : RdK w n.kids v) (hk : n.kind = 36) (r : List UInt8 × Bool × Nat) (hN : Nb.nbL (L n.text) = r) (h2 : r.2.2 = 0) (hE : n.kids ≠ []) :
   CB 50 #[ndV n v] w (.bool false) := by
 have NB := h_ (fun w' => sNB n.text w' ht)
 obtain ⟨r0, r1, r2⟩ := r
 have hx : nbV (Nb.nbL (L n.text)) = .tuple #[.string (S r0), .bool r1, .int .i64 (r2 : Nat)] := by rw [hN]; rfl
 rw [hx] at NB
 have q2 : r2 = 0 := h2
 subst q2
 clear hN hx h2
 have HR := h_ hr
 have hl := len_ok hr
 have q0 : ((n.kids.length : Int) == 0) = false := beq_eq_false_iff_ne.2 (by cases h : n.kids with | nil => exact absurd h hE | cons x xs => simp; omega)
 obtain ⟨a0, c0, rfl⟩ := RdK_slice hr
 unfold ndV
 rw [hk]
 clear hr ht
 generalize n.text = xt at *
 go_enter Tryz.func50, Tryz.ntmps50
 go_wp2_with (first | (go_at_call 61; refine (u_ NB _).mono ?_; rintro e v1 ⟨rfl, hb1⟩; obtain ⟨hc1, hf1⟩ := bcell hb1))
 go_ret
 exact ⟨rfl, btr (bal (brf w) _) hb1⟩
theorem ex36 (n : Nd) (v : Value) (w : World) (ht : n.text.size ≤ maxLen) (hr : RdK w n.kids v) (hk : n.kind = 36) :
   CB 50 #[ndV n v] w (.bool (((Nb.nbL (L n.text)).2.2 == 0) && n.kids.isEmpty)) := by
 by_cases h2 : (Nb.nbL (L n.text)).2.2 = 0
 · by_cases hE : n.kids = []
   · have e : (((Nb.nbL (L n.text)).2.2 == 0) && n.kids.isEmpty) = true := by rw [h2, hE]; rfl
     rw [e]; exact ex36e n v w ht hr hk _ rfl h2 hE
   · have e : (((Nb.nbL (L n.text)).2.2 == 0) && n.kids.isEmpty) = false := by rw [emp_of hE, Bool.and_false]
     rw [e]; exact ex36f n v w ht hr hk _ rfl h2 hE
 · have e : (((Nb.nbL (L n.text)).2.2 == 0) && n.kids.isEmpty) = false := by rw [beq_eq_false_iff_ne.2 h2]; rfl
   rw [e]; exact ex36n n v w ht hr hk _ rfl h2
theorem ex37t (n : Nd) (ih : ∀ x ∈ n.kids, IsC x) (v : Value) (w : World) (ht : n.text.size ≤ maxLen) (hr : RdK w n.kids v) (hk : n.kind = 37) (hB : okIs 84 n = true) :
   CB 50 #[ndV n v] w (.bool true) := by
 have K1 := h_ (fun w' hr' => isT n ih v w' ht hr')
 rw [hB] at K1
 have HR := h_ hr
 have hl := len_ok hr
 obtain ⟨a0, c0, rfl⟩ := RdK_slice hr
 unfold ndV at K1 ⊢
 rw [hk] at K1 ⊢
 clear hr ht ih
 generalize n.text = xt at *
 go_enter Tryz.func50, Tryz.ntmps50
 go_wp2_with (first | (go_at_call 33; refine (u_ K1 _ (RdK_later (bal (brf w) _) (u_ HR))).mono ?_; rintro e v1 ⟨rfl, hb1⟩))
 go_ret
 exact ⟨rfl, btr (bal (brf w) _) hb1⟩
theorem ex37f (n : Nd) (ih : ∀ x ∈ n.kids, IsC x) (v : Value) (w : World) (ht : n.text.size ≤ maxLen) (hr : RdK w n.kids v) (hk : n.kind = 37) (hB : okIs 84 n = false) :
   CB 50 #[ndV n v] w (.bool false) := by
 have K1 := h_ (fun w' hr' => isT n ih v w' ht hr')
 rw [hB] at K1
 have HR := h_ hr
 have hl := len_ok hr
 obtain ⟨a0, c0, rfl⟩ := RdK_slice hr
 unfold ndV at K1 ⊢
 rw [hk] at K1 ⊢
 clear hr ht ih
 generalize n.text = xt at *
 go_enter Tryz.func50, Tryz.ntmps50
 go_wp2_with (first | (go_at_call 33; refine (u_ K1 _ (RdK_later (bal (brf w) _) (u_ HR))).mono ?_; rintro e v1 ⟨rfl, hb1⟩))
 go_ret
 exact ⟨rfl, btr (bal (brf w) _) hb1⟩
theorem ex37 (n : Nd) (ih : ∀ x ∈ n.kids, IsC x) (v : Value) (w : World) (ht : n.text.size ≤ maxLen) (hr : RdK w n.kids v) (hk : n.kind = 37) :
   CB 50 #[ndV n v] w (.bool (okIs 84 n)) := by
 cases hB : okIs 84 n with
 | true => exact ex37t n ih v w ht hr hk hB
 | false => exact ex37f n ih v w ht hr hk hB
theorem ex38t (n : Nd) (ih : ∀ x ∈ n.kids, IsC x) (v : Value) (w : World) (ht : n.text.size ≤ maxLen) (hr : RdK w n.kids v) (hk : n.kind = 38) (hB : okIs 84 n = true) :
   CB 50 #[ndV n v] w (.bool true) := by
 have K1 := h_ (fun w' hr' => isT n ih v w' ht hr')
 rw [hB] at K1
 have HR := h_ hr
 have hl := len_ok hr
 obtain ⟨a0, c0, rfl⟩ := RdK_slice hr
 unfold ndV at K1 ⊢
 rw [hk] at K1 ⊢
 clear hr ht ih
 generalize n.text = xt at *
 go_enter Tryz.func50, Tryz.ntmps50
 go_wp2_with (first | (go_at_call 33; refine (u_ K1 _ (RdK_later (bal (brf w) _) (u_ HR))).mono ?_; rintro e v1 ⟨rfl, hb1⟩))
 go_ret
 exact ⟨rfl, btr (bal (brf w) _) hb1⟩
theorem ex38f (n : Nd) (ih : ∀ x ∈ n.kids, IsC x) (v : Value) (w : World) (ht : n.text.size ≤ maxLen) (hr : RdK w n.kids v) (hk : n.kind = 38) (hB : okIs 84 n = false) :
   CB 50 #[ndV n v] w (.bool false) := by
 have K1 := h_ (fun w' hr' => isT n ih v w' ht hr')
 rw [hB] at K1
 have HR := h_ hr
 have hl := len_ok hr
 obtain ⟨a0, c0, rfl⟩ := RdK_slice hr
 unfold ndV at K1 ⊢
 rw [hk] at K1 ⊢
 clear hr ht ih
 generalize n.text = xt at *
 go_enter Tryz.func50, Tryz.ntmps50
 go_wp2_with (first | (go_at_call 33; refine (u_ K1 _ (RdK_later (bal (brf w) _) (u_ HR))).mono ?_; rintro e v1 ⟨rfl, hb1⟩))
 go_ret
 exact ⟨rfl, btr (bal (brf w) _) hb1⟩
theorem ex38 (n : Nd) (ih : ∀ x ∈ n.kids, IsC x) (v : Value) (w : World) (ht : n.text.size ≤ maxLen) (hr : RdK w n.kids v) (hk : n.kind = 38) :
   CB 50 #[ndV n v] w (.bool (okIs 84 n)) := by
 cases hB : okIs 84 n with
 | true => exact ex38t n ih v w ht hr hk hB
 | false => exact ex38f n ih v w ht hr hk hB
theorem ex39t (n : Nd) (ih : ∀ x ∈ n.kids, IsC x) (v : Value) (w : World) (ht : n.text.size ≤ maxLen) (hr : RdK w n.kids v) (hk : n.kind = 39) (hB : okIs 84 n = true) :
   CB 50 #[ndV n v] w (.bool true) := by
 have K1 := h_ (fun w' hr' => isT n ih v w' ht hr')
 rw [hB] at K1
 have HR := h_ hr
 have hl := len_ok hr
 obtain ⟨a0, c0, rfl⟩ := RdK_slice hr
 unfold ndV at K1 ⊢
 rw [hk] at K1 ⊢
 clear hr ht ih
 generalize n.text = xt at *
 go_enter Tryz.func50, Tryz.ntmps50
 go_wp2_with (first | (go_at_call 33; refine (u_ K1 _ (RdK_later (bal (brf w) _) (u_ HR))).mono ?_; rintro e v1 ⟨rfl, hb1⟩))
 go_ret
 exact ⟨rfl, btr (bal (brf w) _) hb1⟩
theorem ex39f (n : Nd) (ih : ∀ x ∈ n.kids, IsC x) (v : Value) (w : World) (ht : n.text.size ≤ maxLen) (hr : RdK w n.kids v) (hk : n.kind = 39) (hB : okIs 84 n = false) :
   CB 50 #[ndV n v] w (.bool false) := by
 have K1 := h_ (fun w' hr' => isT n ih v w' ht hr')
 rw [hB] at K1
 have HR := h_ hr
 have hl := len_ok hr
 obtain ⟨a0, c0, rfl⟩ := RdK_slice hr
 unfold ndV at K1 ⊢
 rw [hk] at K1 ⊢
 clear hr ht ih
 generalize n.text = xt at *
 go_enter Tryz.func50, Tryz.ntmps50
 go_wp2_with (first | (go_at_call 33; refine (u_ K1 _ (RdK_later (bal (brf w) _) (u_ HR))).mono ?_; rintro e v1 ⟨rfl, hb1⟩))
 go_ret
 exact ⟨rfl, btr (bal (brf w) _) hb1⟩
theorem ex39 (n : Nd) (ih : ∀ x ∈ n.kids, IsC x) (v : Value) (w : World) (ht : n.text.size ≤ maxLen) (hr : RdK w n.kids v) (hk : n.kind = 39) :
   CB 50 #[ndV n v] w (.bool (okIs 84 n)) := by
 cases hB : okIs 84 n with
 | true => exact ex39t n ih v w ht hr hk hB
 | false => exact ex39f n ih v w ht hr hk hB
theorem ex41n (n : Nd) (v : Value) (w : World) (ht : n.text.size ≤ maxLen) (hr : RdK w n.kids v) (hk : n.kind = 41) (hA : (n.text.size == 0) = false) :
   CB 50 #[ndV n v] w (.bool false) := by
 have hn : n.text.toList.isEmpty = false := by rw [toListL, ← L_emp]; exact hA
 have HR := h_ hr
 have hl := len_ok hr
 obtain ⟨a0, c0, rfl⟩ := RdK_slice hr
 unfold ndV
 rw [hk]
 clear hr ht
 generalize n.text = xt at *
 go_enter Tryz.func50, Tryz.ntmps50
 go_wp2
 go_ret
 exact ⟨rfl, bal (brf w) _⟩
theorem ex41z (n : Nd) (v : Value) (w : World) (ht : n.text.size ≤ maxLen) (hr : RdK w n.kids v) (hk : n.kind = 41) (hA : (n.text.size == 0) = true) (hE : n.kids = []) :
   CB 50 #[ndV n v] w (.bool false) := by
 have hn : n.text.toList.isEmpty = true := by rw [toListL, ← L_emp]; exact hA
 have HR := h_ hr
 have hl := len_ok hr
 have q0 : ((n.kids.length : Int) == 0) = true := by rw [hE]; rfl
 obtain ⟨a0, c0, rfl⟩ := RdK_slice hr
 unfold ndV
 rw [hk]
 clear hr ht
 generalize n.text = xt at *
 go_enter Tryz.func50, Tryz.ntmps50
 go_wp2
 go_ret
 exact ⟨rfl, bal (brf w) _⟩
theorem ex41t (n : Nd) (ih : ∀ x ∈ n.kids, IsC x) (v : Value) (w : World) (ht : n.text.size ≤ maxLen) (hr : RdK w n.kids v) (hk : n.kind = 41) (hA : (n.text.size == 0) = true) (hp : (0 : Int) < n.kids.length) (hB : n.kids.all (okIs 101) = true) :
   CB 50 #[ndV n v] w (.bool true) := by
 have hn : n.text.toList.isEmpty = true := by rw [toListL, ← L_emp]; exact hA
 have K1 := h_ (fun w' hr' => allN n ih v w' 0 101 (by decide) (by decide) hr')
 rw [List.drop_zero] at K1
 rw [hB] at K1
 have HR := h_ hr
 have hl := len_ok hr
 obtain ⟨a0, c0, rfl⟩ := RdK_slice hr
 unfold ndV at K1 ⊢
 rw [hk] at K1 ⊢
 clear hr ht ih
 generalize n.text = xt at *
 go_enter Tryz.func50, Tryz.ntmps50
 go_wp2_with (first | (go_at_call 19; refine (u_ K1 _ (RdK_later (bal (brf w) _) (u_ HR))).mono ?_; rintro e v1 ⟨rfl, hb1⟩))
 go_ret
 exact ⟨rfl, btr (bal (brf w) _) hb1⟩
theorem ex41f (n : Nd) (ih : ∀ x ∈ n.kids, IsC x) (v : Value) (w : World) (ht : n.text.size ≤ maxLen) (hr : RdK w n.kids v) (hk : n.kind = 41) (hA : (n.text.size == 0) = true) (hp : (0 : Int) < n.kids.length) (hB : n.kids.all (okIs 101) = false) :
   CB 50 #[ndV n v] w (.bool false) := by
 have hn : n.text.toList.isEmpty = true := by rw [toListL, ← L_emp]; exact hA
 have K1 := h_ (fun w' hr' => allN n ih v w' 0 101 (by decide) (by decide) hr')
 rw [List.drop_zero] at K1
 rw [hB] at K1
 have HR := h_ hr
 have hl := len_ok hr
 obtain ⟨a0, c0, rfl⟩ := RdK_slice hr
 unfold ndV at K1 ⊢
 rw [hk] at K1 ⊢
 clear hr ht ih
 generalize n.text = xt at *
 go_enter Tryz.func50, Tryz.ntmps50
 go_wp2_with (first | (go_at_call 19; refine (u_ K1 _ (RdK_later (bal (brf w) _) (u_ HR))).mono ?_; rintro e v1 ⟨rfl, hb1⟩))
 go_ret
 exact ⟨rfl, btr (bal (brf w) _) hb1⟩
theorem ex41 (n : Nd) (ih : ∀ x ∈ n.kids, IsC x) (v : Value) (w : World) (ht : n.text.size ≤ maxLen) (hr : RdK w n.kids v) (hk : n.kind = 41) :
   CB 50 #[ndV n v] w (.bool ((n.text.size == 0) && (decide (1 ≤ n.kids.length) && n.kids.all (okIs 101)))) := by
 cases hA : (n.text.size == 0) with
 | false => exact ex41n n v w ht hr hk hA
 | true =>
   by_cases hE : n.kids = []
   · have e : (true && (decide (1 ≤ n.kids.length) && n.kids.all (okIs 101))) = false := by rw [hE]; rfl
     rw [e]; exact ex41z n v w ht hr hk hA hE
   · have hp : 1 ≤ n.kids.length := by cases h : n.kids with | nil => exact absurd h hE | cons x xs => simp
     rw [decide_eq_true hp, Bool.true_and, Bool.true_and]
     cases hB : n.kids.all (okIs 101) with
     | false => exact ex41f n ih v w ht hr hk hA (by omega) hB
     | true => exact ex41t n ih v w ht hr hk hA (by omega) hB
theorem exno (n : Nd) (v : Value) (w : World) (ht : n.text.size ≤ maxLen) (hr : RdK w n.kids v) (h36 : n.kind ≠ 36) (h37 : n.kind ≠ 37) (h38 : n.kind ≠ 38) (h39 : n.kind ≠ 39) (h40 : n.kind ≠ 40) (h41 : n.kind ≠ 41) (h42 : n.kind ≠ 42) (h43 : n.kind ≠ 43) (h44 : n.kind ≠ 44) (h45 : n.kind ≠ 45) (h46 : n.kind ≠ 46) (h47 : n.kind ≠ 47) :
   CB 50 #[ndV n v] w (.bool false) := by
 have HR := h_ hr
 have hl := len_ok hr
 obtain ⟨a0, c0, rfl⟩ := RdK_slice hr
 unfold ndV
 clear hr ht
 have a36 : (n.kind == 36) = false := beq_eq_false_iff_ne.2 h36
 have a37 : (n.kind == 37) = false := beq_eq_false_iff_ne.2 h37
 have a38 : (n.kind == 38) = false := beq_eq_false_iff_ne.2 h38
 have a39 : (n.kind == 39) = false := beq_eq_false_iff_ne.2 h39
 have a40 : (n.kind == 40) = false := beq_eq_false_iff_ne.2 h40
 have a41 : (n.kind == 41) = false := beq_eq_false_iff_ne.2 h41
 have a42 : (n.kind == 42) = false := beq_eq_false_iff_ne.2 h42
 have a43 : (n.kind == 43) = false := beq_eq_false_iff_ne.2 h43
 have a44 : (n.kind == 44) = false := beq_eq_false_iff_ne.2 h44
 have a45 : (n.kind == 45) = false := beq_eq_false_iff_ne.2 h45
 have a46 : (n.kind == 46) = false := beq_eq_false_iff_ne.2 h46
 have a47 : (n.kind == 47) = false := beq_eq_false_iff_ne.2 h47
 clear h36 h37 h38 h39 h40 h41 h42 h43 h44 h45 h46 h47
 generalize n.kind = xk, n.text = xt at *
 go_enter Tryz.func50, Tryz.ntmps50
 go_wp2
 go_ret
 exact ⟨rfl, bal (brf w) _⟩
theorem exW (n : Nd) (ih : ∀ x ∈ n.kids, IsC x) (v : Value) (w : World) (ht : n.text.size ≤ maxLen) (hr : RdK w n.kids v)  :
   CB 50 #[ndV n v] w (.bool (okIs 101 n)) := by
 by_cases h36 : n.kind = 36
 · have e : okIs 101 n = (((Nb.nbL (L n.text)).2.2 == 0) && n.kids.isEmpty) := ok_of (by decide) n 36 h36 (by decide) rfl (emp_fm _)
   rw [e]; exact ex36 n v w ht hr h36
 by_cases h37 : n.kind = 37
 · have e : okIs 101 n = (okIs 84 n) := by rw [okIs_of (by decide), okIs_of (by decide), h37]; rfl
   rw [e]; exact ex37 n ih v w ht hr h37
 by_cases h38 : n.kind = 38
 · have e : okIs 101 n = (okIs 84 n) := by rw [okIs_of (by decide), okIs_of (by decide), h38]; rfl
   rw [e]; exact ex38 n ih v w ht hr h38
 by_cases h39 : n.kind = 39
 · have e : okIs 101 n = (okIs 84 n) := by rw [okIs_of (by decide), okIs_of (by decide), h39]; rfl
   rw [e]; exact ex39 n ih v w ht hr h39
 by_cases h40 : n.kind = 40
 · have e : okIs 101 n = (freeB n.text && n.kids.all (okIs 101)) := ok_of (by decide) n 40 h40 (by decide) rfl ((allB_of (c := 101) (by decide) n.kids).symm)
   rw [e]; exact ex40 n ih v w ht hr h40
 by_cases h41 : n.kind = 41
 · have e : okIs 101 n = ((n.text.size == 0) && (decide (1 ≤ n.kids.length) && n.kids.all (okIs 101))) := ok_of (by decide) n 41 h41 (by decide) rfl (one_all n.kids 101 (by decide))
   rw [e]; exact ex41 n ih v w ht hr h41
 by_cases h42 : n.kind = 42
 · have e : okIs 101 n = ((n.text.size == 0) && kidsB n.kids [101, 101]) := ok_of (by decide) n 42 h42 (by decide) rfl ((kidsB_of n.kids [101, 101] (by decide)).symm)
   rw [e]; exact ex42 n ih v w ht hr h42
 by_cases h43 : n.kind = 43
 · have e : okIs 101 n = ((n.text.size == 0) && kidsB n.kids [101]) := ok_of (by decide) n 43 h43 (by decide) rfl ((kidsB_of n.kids [101] (by decide)).symm)
   rw [e]; exact ex43 n ih v w ht hr h43
 by_cases h44 : n.kind = 44
 · have e : okIs 101 n = ((n.text.size == 0) && kidsB n.kids [101]) := ok_of (by decide) n 44 h44 (by decide) rfl ((kidsB_of n.kids [101] (by decide)).symm)
   rw [e]; exact ex44 n ih v w ht hr h44
 by_cases h45 : n.kind = 45
 · have e : okIs 101 n = (unL.contains (L n.text) && kidsB n.kids [101]) := ok_of (by decide) n 45 h45 (by decide) rfl ((kidsB_of n.kids [101] (by decide)).symm)
   rw [e]; exact ex45 n ih v w ht hr h45
 by_cases h46 : n.kind = 46
 · have e : okIs 101 n = (binL.contains (L n.text) && kidsB n.kids [101, 101]) := ok_of (by decide) n 46 h46 (by decide) rfl ((kidsB_of n.kids [101, 101] (by decide)).symm)
   rw [e]; exact ex46 n ih v w ht hr h46
 by_cases h47 : n.kind = 47
 · have e : okIs 101 n = ((n.text.size == 0) && kidsB n.kids [101, 101, 101]) := ok_of (by decide) n 47 h47 (by decide) rfl ((kidsB_of n.kids [101, 101, 101] (by decide)).symm)
   rw [e]; exact ex47 n ih v w ht hr h47
 have e : okIs 101 n = false := ok_no n (by show hasB expK n.kind = false; rw [has_exp]; simp [h36, h37, h38, h39, h40, h41, h42, h43, h44, h45, h46, h47])
 rw [e]; exact exno n v w ht hr h36 h37 h38 h39 h40 h41 h42 h43 h44 h45 h46 h47
theorem it13n (n : Nd) (v : Value) (w : World) (ht : n.text.size ≤ maxLen) (hr : RdK w n.kids v) (hk : n.kind = 13) (hA : (n.text.size == 0) = false) :
   CB 48 #[ndV n v] w (.bool false) := by
 have hn : n.text.toList.isEmpty = false := by rw [toListL, ← L_emp]; exact hA
 have HR := h_ hr
 have hl := len_ok hr
 obtain ⟨a0, c0, rfl⟩ := RdK_slice hr
 unfold ndV
 rw [hk]
 clear hr ht
 generalize n.text = xt at *
 go_enter Tryz.func48, Tryz.ntmps48
 go_wp2
 go_ret
 exact ⟨rfl, bal (brf w) _⟩
theorem it13z (n : Nd) (v : Value) (w : World) (ht : n.text.size ≤ maxLen) (hr : RdK w n.kids v) (hk : n.kind = 13) (hA : (n.text.size == 0) = true) (hE : n.kids = []) :
   CB 48 #[ndV n v] w (.bool false) := by
 have hn : n.text.toList.isEmpty = true := by rw [toListL, ← L_emp]; exact hA
 have HR := h_ hr
 have hl := len_ok hr
 have q0 : ((n.kids.length : Int) == 0) = true := by rw [hE]; rfl
 obtain ⟨a0, c0, rfl⟩ := RdK_slice hr
 unfold ndV
 rw [hk]
 clear hr ht
 generalize n.text = xt at *
 go_enter Tryz.func48, Tryz.ntmps48
 go_wp2
 go_ret
 exact ⟨rfl, bal (brf w) _⟩
theorem it13t (n : Nd) (ih : ∀ x ∈ n.kids, IsC x) (v : Value) (w : World) (ht : n.text.size ≤ maxLen) (hr : RdK w n.kids v) (hk : n.kind = 13) (hA : (n.text.size == 0) = true) (hp : (0 : Int) < n.kids.length) (hB : n.kids.all (okIs 110) = true) :
   CB 48 #[ndV n v] w (.bool true) := by
 have hn : n.text.toList.isEmpty = true := by rw [toListL, ← L_emp]; exact hA
 have K1 := h_ (fun w' hr' => allN n ih v w' 0 110 (by decide) (by decide) hr')
 rw [List.drop_zero] at K1
 rw [hB] at K1
 have HR := h_ hr
 have hl := len_ok hr
 obtain ⟨a0, c0, rfl⟩ := RdK_slice hr
 unfold ndV at K1 ⊢
 rw [hk] at K1 ⊢
 clear hr ht ih
 generalize n.text = xt at *
 go_enter Tryz.func48, Tryz.ntmps48
 go_wp2_with (first | (go_at_call 19; refine (u_ K1 _ (RdK_later (bal (brf w) _) (u_ HR))).mono ?_; rintro e v1 ⟨rfl, hb1⟩))
 go_ret
 exact ⟨rfl, btr (bal (brf w) _) hb1⟩
theorem it13f (n : Nd) (ih : ∀ x ∈ n.kids, IsC x) (v : Value) (w : World) (ht : n.text.size ≤ maxLen) (hr : RdK w n.kids v) (hk : n.kind = 13) (hA : (n.text.size == 0) = true) (hp : (0 : Int) < n.kids.length) (hB : n.kids.all (okIs 110) = false) :
   CB 48 #[ndV n v] w (.bool false) := by
 have hn : n.text.toList.isEmpty = true := by rw [toListL, ← L_emp]; exact hA
 have K1 := h_ (fun w' hr' => allN n ih v w' 0 110 (by decide) (by decide) hr')
 rw [List.drop_zero] at K1
 rw [hB] at K1
 have HR := h_ hr
 have hl := len_ok hr
 obtain ⟨a0, c0, rfl⟩ := RdK_slice hr
 unfold ndV at K1 ⊢
 rw [hk] at K1 ⊢
 clear hr ht ih
 generalize n.text = xt at *
 go_enter Tryz.func48, Tryz.ntmps48
 go_wp2_with (first | (go_at_call 19; refine (u_ K1 _ (RdK_later (bal (brf w) _) (u_ HR))).mono ?_; rintro e v1 ⟨rfl, hb1⟩))
 go_ret
 exact ⟨rfl, btr (bal (brf w) _) hb1⟩
theorem it13 (n : Nd) (ih : ∀ x ∈ n.kids, IsC x) (v : Value) (w : World) (ht : n.text.size ≤ maxLen) (hr : RdK w n.kids v) (hk : n.kind = 13) :
   CB 48 #[ndV n v] w (.bool ((n.text.size == 0) && (decide (1 ≤ n.kids.length) && n.kids.all (okIs 110)))) := by
 cases hA : (n.text.size == 0) with
 | false => exact it13n n v w ht hr hk hA
 | true =>
   by_cases hE : n.kids = []
   · have e : (true && (decide (1 ≤ n.kids.length) && n.kids.all (okIs 110))) = false := by rw [hE]; rfl
     rw [e]; exact it13z n v w ht hr hk hA hE
   · have hp : 1 ≤ n.kids.length := by cases h : n.kids with | nil => exact absurd h hE | cons x xs => simp
     rw [decide_eq_true hp, Bool.true_and, Bool.true_and]
     cases hB : n.kids.all (okIs 110) with
     | false => exact it13f n ih v w ht hr hk hA (by omega) hB
     | true => exact it13t n ih v w ht hr hk hA (by omega) hB
theorem itno (n : Nd) (v : Value) (w : World) (ht : n.text.size ≤ maxLen) (hr : RdK w n.kids v) (h9 : n.kind ≠ 9) (h10 : n.kind ≠ 10) (h11 : n.kind ≠ 11) (h12 : n.kind ≠ 12) (h13 : n.kind ≠ 13) (h14 : n.kind ≠ 14) (h15 : n.kind ≠ 15) (h16 : n.kind ≠ 16) (h17 : n.kind ≠ 17) (h18 : n.kind ≠ 18) (h19 : n.kind ≠ 19) (h20 : n.kind ≠ 20) (h21 : n.kind ≠ 21) (h22 : n.kind ≠ 22) :
   CB 48 #[ndV n v] w (.bool false) := by
 have HR := h_ hr
 have hl := len_ok hr
 obtain ⟨a0, c0, rfl⟩ := RdK_slice hr
 unfold ndV
 clear hr ht
 have a9 : (n.kind == 9) = false := beq_eq_false_iff_ne.2 h9
 have a10 : (n.kind == 10) = false := beq_eq_false_iff_ne.2 h10
 have a11 : (n.kind == 11) = false := beq_eq_false_iff_ne.2 h11
 have a12 : (n.kind == 12) = false := beq_eq_false_iff_ne.2 h12
 have a13 : (n.kind == 13) = false := beq_eq_false_iff_ne.2 h13
 have a14 : (n.kind == 14) = false := beq_eq_false_iff_ne.2 h14
 have a15 : (n.kind == 15) = false := beq_eq_false_iff_ne.2 h15
 have a16 : (n.kind == 16) = false := beq_eq_false_iff_ne.2 h16
 have a17 : (n.kind == 17) = false := beq_eq_false_iff_ne.2 h17
 have a18 : (n.kind == 18) = false := beq_eq_false_iff_ne.2 h18
 have a19 : (n.kind == 19) = false := beq_eq_false_iff_ne.2 h19
 have a20 : (n.kind == 20) = false := beq_eq_false_iff_ne.2 h20
 have a21 : (n.kind == 21) = false := beq_eq_false_iff_ne.2 h21
 have a22 : (n.kind == 22) = false := beq_eq_false_iff_ne.2 h22
 clear h9 h10 h11 h12 h13 h14 h15 h16 h17 h18 h19 h20 h21 h22
 generalize n.kind = xk, n.text = xt at *
 go_enter Tryz.func48, Tryz.ntmps48
 go_wp2
 go_ret
 exact ⟨rfl, bal (brf w) _⟩
theorem itW (n : Nd) (ih : ∀ x ∈ n.kids, IsC x) (v : Value) (w : World) (ht : n.text.size ≤ maxLen) (hr : RdK w n.kids v)  :
   CB 48 #[ndV n v] w (.bool (okIs 105 n)) := by
 by_cases h9 : n.kind = 9
 · have e : okIs 105 n = (freeB n.text && kidsB n.kids [116]) := ok_of (by decide) n 9 h9 (by decide) rfl ((kidsB_of n.kids [116] (by decide)).symm)
   rw [e]; exact it9 n ih v w ht hr h9
 by_cases h10 : n.kind = 10
 · have e : okIs 105 n = (freeB n.text && (kidsB n.kids [116] || kidsB n.kids [116, 101])) := ok_of (by decide) n 10 h10 (by decide) rfl (or_kids n.kids [116] [116, 101] (by decide) (by decide))
   rw [e]; exact it10 n ih v w ht hr h10
 by_cases h11 : n.kind = 11
 · have e : okIs 105 n = (freeB n.text && kidsB n.kids [116, 101]) := ok_of (by decide) n 11 h11 (by decide) rfl ((kidsB_of n.kids [116, 101] (by decide)).symm)
   rw [e]; exact it11 n ih v w ht hr h11
 by_cases h12 : n.kind = 12
 · have e : okIs 105 n = (freeB n.text && kidsB n.kids [101]) := ok_of (by decide) n 12 h12 (by decide) rfl ((kidsB_of n.kids [101] (by decide)).symm)
   rw [e]; exact it12 n ih v w ht hr h12
 by_cases h13 : n.kind = 13
 · have e : okIs 105 n = ((n.text.size == 0) && (decide (1 ≤ n.kids.length) && n.kids.all (okIs 110))) := ok_of (by decide) n 13 h13 (by decide) rfl (one_all n.kids 110 (by decide))
   rw [e]; exact it13 n ih v w ht hr h13
 by_cases h14 : n.kind = 14
 · have e : okIs 105 n = ((n.text.size == 0) && kidsB n.kids [84, 101]) := ok_of (by decide) n 14 h14 (by decide) rfl ((kidsB_of n.kids [84, 101] (by decide)).symm)
   rw [e]; exact it14 n ih v w ht hr h14
 by_cases h15 : n.kind = 15
 · have e : okIs 105 n = ((n.text.size == 0) && kidsB n.kids [98]) := ok_of (by decide) n 15 h15 (by decide) rfl ((kidsB_of n.kids [98] (by decide)).symm)
   rw [e]; exact it15 n ih v w ht hr h15
 by_cases h16 : n.kind = 16
 · have e : okIs 105 n = (freeB n.text && kidsB n.kids [98]) := ok_of (by decide) n 16 h16 (by decide) rfl ((kidsB_of n.kids [98] (by decide)).symm)
   rw [e]; exact it16 n ih v w ht hr h16
 by_cases h17 : n.kind = 17
 · have e : okIs 105 n = ((n.text.size == 0) && kidsB n.kids [98]) := ok_of (by decide) n 17 h17 (by decide) rfl ((kidsB_of n.kids [98] (by decide)).symm)
   rw [e]; exact it17 n ih v w ht hr h17
 by_cases h18 : n.kind = 18
 · have e : okIs 105 n = (freeB n.text && kidsB n.kids [101]) := ok_of (by decide) n 18 h18 (by decide) rfl ((kidsB_of n.kids [101] (by decide)).symm)
   rw [e]; exact it18 n ih v w ht hr h18
 by_cases h19 : n.kind = 19
 · have e : okIs 105 n = (freeB n.text && kidsB n.kids [116, 70, 101]) := ok_of (by decide) n 19 h19 (by decide) rfl (tfe n.kids)
   rw [e]; exact it19 n ih v w ht hr h19
 by_cases h20 : n.kind = 20
 · have e : okIs 105 n = (freeB n.text && kidsB n.kids [101, 101, 115]) := ok_of (by decide) n 20 h20 (by decide) rfl ((kidsB_of n.kids [101, 101, 115] (by decide)).symm)
   rw [e]; exact it20 n ih v w ht hr h20
 by_cases h21 : n.kind = 21
 · have e : okIs 105 n = ((n.text.size == 0) && (kidsB n.kids [101, 115] || kidsB n.kids [101, 115, 115])) := ok_of (by decide) n 21 h21 (by decide) rfl (or_kids n.kids [101, 115] [101, 115, 115] (by decide) (by decide))
   rw [e]; exact it21 n ih v w ht hr h21
 by_cases h22 : n.kind = 22
 · have e : okIs 105 n = (freeB n.text && kidsB n.kids [110, 112, 99]) := ok_of (by decide) n 22 h22 (by decide) rfl ((kidsB_of n.kids [110, 112, 99] (by decide)).symm)
   rw [e]; exact it22 n ih v w ht hr h22
 have e : okIs 105 n = false := ok_no n (by show hasB itmK n.kind = false; rw [has_itm]; simp [h9, h10, h11, h12, h13, h14, h15, h16, h17, h18, h19, h20, h21, h22])
 rw [e]; exact itno n v w ht hr h9 h10 h11 h12 h13 h14 h15 h16 h17 h18 h19 h20 h21 h22
def pB (k0 : Int) (cs : List Nat) (x : Nd) : Bool := (x.kind == k0) && (freeB x.text && kidsB x.kids cs)
def pB2 (k0 k1 : Int) (cs : List Nat) (x : Nd) : Bool := ((x.kind == k0) || (x.kind == k1)) && (freeB x.text && kidsB x.kids cs)
theorem all_fm (s : Nat) (ks : List Nd) : (allK s ks && fmL ks) = ks.all (fun x => hasB s x.kind && fm x) := by
 induction ks with
 | nil => rw [fmL]; rfl
 | cons x xs ih =>
   rw [List.all_cons, ← ih, fmL]
   show ((hasB s x.kind && allK s xs) && (fm x && fmL xs)) = _
   generalize hasB s x.kind = a
   generalize allK s xs = b
   generalize fm x = c
   generalize fmL xs = d
   revert a b c d; decide
theorem fm_of (x : Nd) (k : Int) (hk : x.kind = k) {A B : Bool} (h1 : txB k x.text = A) (h2 : (kdB k x.kids && fmL x.kids) = B) : fm x = (A && B) := by
 obtain ⟨k', t, ks⟩ := x
 have hk' : k' = k := hk
 subst hk'
 have h1' : txB k' t = A := h1
 have h2' : (kdB k' ks && fmL ks) = B := h2
 rw [fm_mk, h1', Bool.and_assoc, h2']
theorem pB_4 (x : Nd) : (hasB (2 ^ 4) x.kind && fm x) = pB 4 [101] x := by
 rw [has_one 4 (by decide) (by decide)]
 unfold pB
 by_cases h : x.kind = 4
 · rw [fm_of x 4 h (A := freeB x.text) (B := kidsB x.kids [101]) rfl (kidsB_of x.kids [101] (by decide)).symm]; rfl
 · have a : (x.kind == 4) = false := beq_eq_false_iff_ne.2 h
   simp [a]
theorem pB_25 (x : Nd) : (hasB (2 ^ 25) x.kind && fm x) = pB 25 [101] x := by
 rw [has_one 25 (by decide) (by decide)]
 unfold pB
 by_cases h : x.kind = 25
 · rw [fm_of x 25 h (A := freeB x.text) (B := kidsB x.kids [101]) rfl (kidsB_of x.kids [101] (by decide)).symm]; rfl
 · have a : (x.kind == 25) = false := beq_eq_false_iff_ne.2 h
   simp [a]
theorem pB_6 (x : Nd) : (hasB (2 ^ 6) x.kind && fm x) = pB 6 [116] x := by
 rw [has_one 6 (by decide) (by decide)]
 unfold pB
 by_cases h : x.kind = 6
 · rw [fm_of x 6 h (A := freeB x.text) (B := kidsB x.kids [116]) rfl (kidsB_of x.kids [116] (by decide)).symm]; rfl
 · have a : (x.kind == 6) = false := beq_eq_false_iff_ne.2 h
   simp [a]
theorem pB_67 (x : Nd) : (hasB (2 ^ 6 + 2 ^ 7) x.kind && fm x) = pB2 6 7 [116] x := by
 rw [hasB_of (2 ^ 6 + 2 ^ 7) [6, 7] (by decide) (by decide)]
 unfold pB2
 by_cases h : x.kind = 6
 · rw [fm_of x 6 h (A := freeB x.text) (B := kidsB x.kids [116]) rfl (kidsB_of x.kids [116] (by decide)).symm, h]; rfl
 · by_cases h7 : x.kind = 7
   · rw [fm_of x 7 h7 (A := freeB x.text) (B := kidsB x.kids [116]) rfl (kidsB_of x.kids [116] (by decide)).symm, h7]; rfl
   · have a : (x.kind == 6) = false := beq_eq_false_iff_ne.2 h
     have a7 : (x.kind == 7) = false := beq_eq_false_iff_ne.2 h7
     simp [a, a7]
theorem st35n (n : Nd) (v : Value) (w : World) (ht : n.text.size ≤ maxLen) (hr : RdK w n.kids v) (hk : n.kind = 35) (hA : (n.text.size == 0) = false) :
   CB 49 #[ndV n v] w (.bool false) := by
 have hn : n.text.toList.isEmpty = false := by rw [toListL, ← L_emp]; exact hA
 have HR := h_ hr
 have hl := len_ok hr
 obtain ⟨a0, c0, rfl⟩ := RdK_slice hr
 unfold ndV
 rw [hk]
 clear hr ht
 generalize n.text = xt at *
 go_enter Tryz.func49, Tryz.ntmps49
 go_wp2
 go_ret
 exact ⟨rfl, bal (brf w) _⟩
theorem st35e (n : Nd) (v : Value) (w : World) (ht : n.text.size ≤ maxLen) (hr : RdK w n.kids v) (hk : n.kind = 35) (hA : (n.text.size == 0) = true) (hE : n.kids = []) :
   CB 49 #[ndV n v] w (.bool true) := by
 have hn : n.text.toList.isEmpty = true := by rw [toListL, ← L_emp]; exact hA
 have HR := h_ hr
 have hl := len_ok hr
 have q0 : ((n.kids.length : Int) == 0) = true := by rw [hE]; rfl
 obtain ⟨a0, c0, rfl⟩ := RdK_slice hr
 unfold ndV
 rw [hk]
 clear hr ht
 generalize n.text = xt at *
 go_enter Tryz.func49, Tryz.ntmps49
 go_wp2
 go_ret
 exact ⟨rfl, bal (brf w) _⟩
theorem st35f (n : Nd) (v : Value) (w : World) (ht : n.text.size ≤ maxLen) (hr : RdK w n.kids v) (hk : n.kind = 35) (hA : (n.text.size == 0) = true) (hE : n.kids ≠ []) :
   CB 49 #[ndV n v] w (.bool false) := by
 have hn : n.text.toList.isEmpty = true := by rw [toListL, ← L_emp]; exact hA
 have HR := h_ hr
 have hl := len_ok hr
 have q0 : ((n.kids.length : Int) == 0) = false := beq_eq_false_iff_ne.2 (by cases h : n.kids with | nil => exact absurd h hE | cons x xs => simp; omega)
 obtain ⟨a0, c0, rfl⟩ := RdK_slice hr
 unfold ndV
 rw [hk]
 clear hr ht
 generalize n.text = xt at *
 go_enter Tryz.func49, Tryz.ntmps49
 go_wp2
 go_ret
 exact ⟨rfl, bal (brf w) _⟩
theorem st35 (n : Nd) (v : Value) (w : World) (ht : n.text.size ≤ maxLen) (hr : RdK w n.kids v) (hk : n.kind = 35) :
   CB 49 #[ndV n v] w (.bool ((n.text.size == 0) && n.kids.isEmpty)) := by
 cases hA : (n.text.size == 0) with
 | false => exact st35n n v w ht hr hk hA
 | true =>
   by_cases hE : n.kids = []
   · have e : (true && n.kids.isEmpty) = true := by rw [hE]; rfl
     rw [e]; exact st35e n v w ht hr hk hA hE
   · have e : (true && n.kids.isEmpty) = false := by rw [emp_of hE]; rfl
     rw [e]; exact st35f n v w ht hr hk hA hE
theorem stno (n : Nd) (v : Value) (w : World) (ht : n.text.size ≤ maxLen) (hr : RdK w n.kids v) (h27 : n.kind ≠ 27) (h28 : n.kind ≠ 28) (h29 : n.kind ≠ 29) (h30 : n.kind ≠ 30) (h33 : n.kind ≠ 33) (h34 : n.kind ≠ 34) (h35 : n.kind ≠ 35) :
   CB 49 #[ndV n v] w (.bool false) := by
 have HR := h_ hr
 have hl := len_ok hr
 obtain ⟨a0, c0, rfl⟩ := RdK_slice hr
 unfold ndV
 clear hr ht
 have a27 : (n.kind == 27) = false := beq_eq_false_iff_ne.2 h27
 have a28 : (n.kind == 28) = false := beq_eq_false_iff_ne.2 h28
 have a29 : (n.kind == 29) = false := beq_eq_false_iff_ne.2 h29
 have a30 : (n.kind == 30) = false := beq_eq_false_iff_ne.2 h30
 have a33 : (n.kind == 33) = false := beq_eq_false_iff_ne.2 h33
 have a34 : (n.kind == 34) = false := beq_eq_false_iff_ne.2 h34
 have a35 : (n.kind == 35) = false := beq_eq_false_iff_ne.2 h35
 clear h27 h28 h29 h30 h33 h34 h35
 generalize n.kind = xk, n.text = xt at *
 go_enter Tryz.func49, Tryz.ntmps49
 go_wp2
 go_ret
 exact ⟨rfl, bal (brf w) _⟩
def armI (x : Nd) (last : Bool) : Bool := ((x.kind == 31) || ((x.kind == 32) && last)) && fm x
def armsI : List Nd → Bool
 | [] => true
 | x :: xs => armI x xs.isEmpty && armsI xs
theorem armsI_eq (ks : List Nd) : (armsB ks && fmL ks) = armsI ks := by
 induction ks with
 | nil => rw [fmL]; rfl
 | cons x xs ih =>
   have h31 : ∀ y : Nd, hasB (2 ^ 31) y.kind = (y.kind == 31) := fun y => has_one 31 (by decide) (by decide) y.kind
   cases xs with
   | nil =>
     show (armsB [x] && fmL [x]) = (armI x true && true)
     unfold armI
     rw [fmL, fmL]
     unfold armsB
     show ((if x.kind = 32 then allK (2 ^ 31) [] else allK (2 ^ 31) [x]) && (fm x && true)) = _
     by_cases h : x.kind = 32
     · rw [if_pos h, h]; cases fm x <;> rfl
     · rw [if_neg h]
       show ((hasB (2 ^ 31) x.kind && true) && (fm x && true)) = _
       have a : (x.kind == 32) = false := beq_eq_false_iff_ne.2 h
       rw [h31, a]; cases (x.kind == 31) <;> cases fm x <;> rfl
   | cons y ys =>
     rw [armsI, ← ih, fmL]
     have e : armsB (x :: y :: ys) = ((x.kind == 31) && armsB (y :: ys)) := by
       unfold armsB
       rw [List.getLast?_cons_cons]
       cases hl : (y :: ys).getLast? with
       | none => simp at hl
       | some z =>
         simp only []
         by_cases h : z.kind = 32
         · rw [if_pos h, if_pos h]
           show (hasB (2 ^ 31) x.kind && allK (2 ^ 31) (y :: ys).dropLast) = _
           rw [h31]
         · rw [if_neg h, if_neg h]
           show (hasB (2 ^ 31) x.kind && allK (2 ^ 31) (y :: ys)) = _
           rw [h31]
     rw [e]
     unfold armI
     show _ = (((x.kind == 31) || ((x.kind == 32) && false)) && fm x && _)
     generalize (x.kind == 31) = a
     generalize (x.kind == 32) = b
     generalize armsB (y :: ys) = c
     generalize fm x = d
     generalize fmL (y :: ys) = e
     revert a b c d e; decide
theorem arm_no (x : Nd) (l : Bool) (h1 : x.kind ≠ 31) (h2 : x.kind ≠ 32) : armI x l = false := by
 unfold armI; rw [beq_eq_false_iff_ne.2 h1, beq_eq_false_iff_ne.2 h2]; rfl
theorem arm_txt (x : Nd) (l : Bool) (h : (x.text.size == 0) = false) : armI x l = false := by
 by_cases h1 : x.kind = 31
 · unfold armI; rw [fm_of x 31 h1 (A := (x.text.size == 0)) (B := kdB 31 x.kids && fmL x.kids) rfl rfl, h, Bool.false_and, Bool.and_false]
 · by_cases h2 : x.kind = 32
   · unfold armI; rw [fm_of x 32 h2 (A := (x.text.size == 0)) (B := kdB 32 x.kids && fmL x.kids) rfl rfl, h, Bool.false_and, Bool.and_false]
   · exact arm_no x l h1 h2
theorem arm_dfl (x : Nd) (l : Bool) (h : x.kind = 32) (ht : (x.text.size == 0) = true) : armI x l = (l && kidsB x.kids [98]) := by
 unfold armI; rw [fm_of x 32 h (A := (x.text.size == 0)) (B := kidsB x.kids [98]) rfl (kidsB_of x.kids [98] (by decide)).symm, ht, h]
 cases l <;> rfl
theorem last_of (ks : List Nd) (y : Nd) (h : ks[ks.length - 1]? = some y) : ks.getLast? = some y := by rw [List.getLast?_eq_getElem?]; exact h
theorem arm_arm (x : Nd) (l : Bool) (h : x.kind = 31) (ht : (x.text.size == 0) = true) (h2 : 2 ≤ x.kids.length) (y : Nd) (hy : x.kids[x.kids.length - 1]? = some y) :
   armI x l = (okIs 98 y && x.kids.dropLast.all (okIs 101)) := by
 unfold armI
 rw [fm_of x 31 h (A := (x.text.size == 0)) (B := okIs 98 y && x.kids.dropLast.all (okIs 101)) rfl ?_, ht, h]
 · cases l <;> rfl
 · show ((decide (2 ≤ x.kids.length) && allK expK x.kids.dropLast && (match x.kids.getLast? with | some x => decide (x.kind = 26) | none => false)) && fmL x.kids) = _
   rw [last_of _ _ hy, decide_eq_true h2, allB_of (by decide), okIs_of (by decide)]
   show ((true && allK expK x.kids.dropLast && decide (y.kind = 26)) && fmL x.kids) = ((hasB (2 ^ 26) y.kind && fm y) && (allK expK x.kids.dropLast && fmL x.kids.dropLast))
   have hsp : fmL x.kids = (fmL x.kids.dropLast && fm y) := by
     have hne : x.kids ≠ [] := by intro h0; rw [h0] at h2; simp at h2
     have hg : x.kids.getLast hne = y := by
       have := last_of _ _ hy
       rw [List.getLast?_eq_some_getLast hne] at this
       exact Option.some.inj this
     have := List.dropLast_concat_getLast hne
     rw [hg] at this
     conv => lhs; rw [← this]
     rw [fmL_all, fmL_all, List.all_append]
     simp
   rw [hsp, has_one 26 (by decide) (by decide)]
   have hd : decide (y.kind = 26) = (y.kind == ((26 : Nat) : Int)) := by rw [Bool.eq_iff_iff]; simp
   rw [hd]
   generalize (y.kind == ((26 : Nat) : Int)) = a
   generalize allK expK x.kids.dropLast = b
   generalize fmL x.kids.dropLast = c
   generalize fm y = d
   revert a b c d; decide
theorem arm_few (x : Nd) (l : Bool) (h : x.kind = 31) (h2 : x.kids.length < 2) : armI x l = false := by
 unfold armI
 rw [fm_of x 31 h (A := (x.text.size == 0)) (B := false) rfl ?_, Bool.and_false, Bool.and_false]
 show ((decide (2 ≤ x.kids.length) && allK expK x.kids.dropLast && (match x.kids.getLast? with | some x => decide (x.kind = 26) | none => false)) && fmL x.kids) = _
 rw [decide_eq_false (by omega)]; rfl
theorem st30n (n : Nd) (v : Value) (w : World) (hr : RdK w n.kids v) (hk : n.kind = 30) (hA : (n.text.size == 0) = false) :
   CB 49 #[ndV n v] w (.bool false) := by
 have hn : n.text.toList.isEmpty = false := by rw [toListL, ← L_emp]; exact hA
 have hl := len_ok hr
 obtain ⟨a0, c0, rfl⟩ := RdK_slice hr
 unfold ndV
 rw [hk]
 clear hr hA
 generalize n.text = xt at *
 go_enter Tryz.func49, Tryz.ntmps49
 go_wp2
 go_ret
 exact ⟨rfl, bal (brf w) _⟩
theorem st30z (n : Nd) (v : Value) (w : World) (hr : RdK w n.kids v) (hk : n.kind = 30) (hA : (n.text.size == 0) = true) (hE : n.kids = []) :
   CB 49 #[ndV n v] w (.bool false) := by
 have hn : n.text.toList.isEmpty = true := by rw [toListL, ← L_emp]; exact hA
 obtain ⟨a0, c0, rfl⟩ := RdK_slice hr
 unfold ndV
 rw [hk, hE]
 clear hr hA
 generalize n.text = xt at *
 go_enter Tryz.func49, Tryz.ntmps49
 go_wp2
 go_ret
 exact ⟨rfl, bal (brf w) _⟩
set_option maxHeartbeats 400000 in
theorem st30f (n : Nd) (ih : ∀ x ∈ n.kids, IsC x) (v : Value) (w : World) (hr : RdK w n.kids v) (hk : n.kind = 30) (hA : (n.text.size == 0) = true) (x : Nd) (hx : n.kids[0]? = some x) (hB : okIs 101 x = false) :
   CB 49 #[ndV n v] w (.bool false) := by
 have hn : n.text.toList.isEmpty = true := by rw [toListL, ← L_emp]; exact hA
 have hl := len_ok hr
 have hpos : 0 < n.kids.length := (List.getElem?_eq_some_iff.1 hx).1
 have q0 : ((n.kids.length : Int) == 0) = false := beq_eq_false_iff_ne.2 (by omega)
 rcases RdK_cases hr with ⟨h0, _⟩ | ⟨b, o, c', vs, hvv, hn', hcs⟩
 · rw [h0] at hpos; simp at hpos
 obtain ⟨k1, k2, k3, hts, hkr⟩ := hcs 0 x hx
 rw [Nat.zero_mul, Nat.add_zero] at k1 k2 k3
 have PX := h_ (fun (wy : World) (hy : Below w.heap.size w wy) => ih x (List.mem_of_getElem? hx) (vs 0) wy 101 (by decide) hts (RdK_later hy hkr))
 rw [hB] at PX
 unfold ndV at PX ⊢
 obtain ⟨a', c'', hv'⟩ := RdK_slice hkr
 rw [hv'] at k3 PX
 subst hvv
 rw [hk]
 have k1' := c_ (bal (brf w) (Obj.cells #[Value.int IntKind.i64 30, Value.string n.text, Value.slice (some ⟨b, o, none⟩) n.kids.length c'] 30)) k1
 have k2' := c_ (bal (brf w) (Obj.cells #[Value.int IntKind.i64 30, Value.string n.text, Value.slice (some ⟨b, o, none⟩) n.kids.length c'] 30)) k2
 have k3' := c_ (bal (brf w) (Obj.cells #[Value.int IntKind.i64 30, Value.string n.text, Value.slice (some ⟨b, o, none⟩) n.kids.length c'] 30)) k3
 clear hr hA hcs hkr k1 k2 k3 ih hB
 generalize n.text = xt at *
 generalize x.kind = yk at *
 generalize x.text = yt at *
 go_enter Tryz.func49, Tryz.ntmps49
 go_wp2_with (go_at_call 33; refine (u_ PX _ (bal (brf w) _)).mono ?_; rintro e v1 ⟨rfl, hb1⟩)
 go_ret
 exact ⟨rfl, btr (bal (brf w) _) hb1⟩
theorem armsI_drop {ks : List Nd} {j : Nat} {x : Nd} (hdr : ks.drop j = x :: ks.drop (j + 1)) (hjn : j < ks.length) : armsI (ks.drop j) = (armI x (decide (j + 1 = ks.length)) && armsI (ks.drop (j + 1))) := by
 rw [hdr, armsI]
 have : (ks.drop (j + 1)).isEmpty = decide (j + 1 = ks.length) := by
   rw [Bool.eq_iff_iff, List.isEmpty_iff, List.drop_eq_nil_iff, decide_eq_true_eq]
   omega
 rw [this]
set_option maxHeartbeats 1600000 in
theorem st30t (n : Nd) (ih : ∀ x ∈ n.kids, IsC x) (ih2 : ∀ x ∈ n.kids, ∀ y ∈ x.kids, IsC y) (v : Value) (w : World) (hr : RdK w n.kids v) (hk : n.kind = 30) (hA : (n.text.size == 0) = true) (x0 : Nd) (hx0 : n.kids[0]? = some x0) (hB : okIs 101 x0 = true) :
   CB 49 #[ndV n v] w (.bool (armsI (n.kids.drop 1))) := by
 have hn : n.text.toList.isEmpty = true := by rw [toListL, ← L_emp]; exact hA
 have hl := len_ok hr
 have HP2 := h_ ih2
 have hpos : 0 < n.kids.length := (List.getElem?_eq_some_iff.1 hx0).1
 have q0 : ((n.kids.length : Int) == 0) = false := beq_eq_false_iff_ne.2 (by omega)
 rcases RdK_cases hr with ⟨h0, _⟩ | ⟨b, o, c', vs, hvv, hn', hcs⟩
 · rw [h0] at hpos; simp at hpos
 obtain ⟨k1, k2, k3, hts, hkr⟩ := hcs 0 x0 hx0
 rw [Nat.zero_mul, Nat.add_zero] at k1 k2 k3
 have PX := h_ (fun (wy : World) (hy : Below w.heap.size w wy) => ih x0 (List.mem_of_getElem? hx0) (vs 0) wy 101 (by decide) hts (RdK_later hy hkr))
 have HCS := h_ hcs
 rw [hB] at PX
 unfold ndV at PX ⊢
 obtain ⟨a', c'', hv'⟩ := RdK_slice hkr
 rw [hv'] at k3 PX
 subst hvv
 rw [hk]
 have hBW := bal (brf w) (Obj.cells #[Value.int IntKind.i64 30, Value.string n.text, Value.slice (some ⟨b, o, none⟩) n.kids.length c'] 30)
 have HBW := h_ hBW
 have k1' := c_ hBW k1
 have k2' := c_ hBW k2
 have k3' := c_ hBW k3
 have z2 : (w.alloc (Obj.cells #[Value.int IntKind.i64 30, Value.string n.text, Value.slice (some ⟨b, o, none⟩) n.kids.length c'] 30)).cell? ⟨w.heap.size, 2, none⟩ = some (Value.slice (some ⟨b, o, none⟩) n.kids.length c') := by rw [World.cell?_alloc_new]; rfl
 have Z2 := h_ z2
 clear hr hA hcs hkr k1 k2 k3 ih ih2 hB hBW z2
 generalize n.text = xt at *
 generalize x0.kind = yk at *
 generalize x0.text = yt at *
 go_enter Tryz.func49, Tryz.ntmps49
 go_wp2_with (go_at_call 33; refine (u_ PX _ (u_ HBW)).mono ?_; rintro e w1 ⟨rfl, hb1⟩)
 have z1 := c_ hb1 (u_ Z2)
 have HB1 := h_ (btr (u_ HBW) hb1)
 clear k1' k2' k3' PX Z2 HBW hb1
 go_loopw [3] (fun i wr => ∃ j : Nat, i = .int .i64 j ∧ 1 ≤ j ∧ j ≤ n.kids.length ∧ Below w1.heap.size w1 wr ∧ armsI (n.kids.drop j) = armsI (n.kids.drop 1)) (fun i wr => n.kids.length - (intOf i).toNat)
 case atStart => exact ⟨1, rfl, by omega, by omega, brf _, rfl⟩
 case round =>
   obtain ⟨j, rfl, hj1, hj, hb, hall⟩ := hrel
   have z2 := c_ hb z1
   have hbw := below_step (u_ HB1) hb
   have HB := h_ hbw
   have HA := h_ hall
   have HB0 := h_ hb
   by_cases hjn : j < n.kids.length
   · have hx : n.kids[j]? = some n.kids[j] := List.getElem?_eq_getElem hjn
     have hdr := List.drop_eq_getElem_cons hjn
     generalize n.kids[j] = x at hx hdr
     obtain ⟨k1, k2, k3, hts', hkr⟩ := u_ HCS j x hx
     have k1' := c_ hbw k1
     have k2' := c_ hbw k2
     have k3' := c_ hbw k3
     have hIx := u_ HP2 x (List.mem_of_getElem? hx)
     rw [armsI_drop hdr hjn] at HA
     have hlx := len_ok hkr
     have HKR := h_ (RdK_later hbw hkr)
     obtain ⟨a2, c2, hv2⟩ := RdK_slice hkr
     rw [hv2] at k3' HKR
     clear hb hbw k1 k2 k3 hall
     cases hT : (x.text.size == 0) with
     | false =>
       have hxn : x.text.toList.isEmpty = false := by rw [toListL, ← L_emp]; exact hT
       rw [arm_txt x _ hT, Bool.false_and] at HA
       clear hT hIx hkr
       generalize x.kind = yk2 at *
       generalize x.text = yt2 at *
       go_wp2
       exact bodyPost_ret (v := .bool false) (by simp [results, Tryz.results49, go_sem]) rfl ⟨by rw [← u_ HA], bal (u_ HB) _⟩
     | true =>
       have hxn : x.text.toList.isEmpty = true := by rw [toListL, ← L_emp]; exact hT
       by_cases h32 : x.kind = 32
       · rw [arm_dfl x _ h32 hT] at HA
         rw [h32] at k1'
         have KX := h_ (fun (wy : World) (hy : Below wr.heap.size wr wy) => kidsN x hIx _ wy ⟨#[98]⟩ (by decide) (by decide) (RdK_later hy (u_ HKR)))
         have hk1 : ltr ⟨#[98]⟩ = [98] := by decide
         rw [hk1] at KX
         unfold ndV at KX
         rw [h32] at KX
         have z3 := c_ (bal (brf wr) (Obj.cells #[Value.int IntKind.i64 32, Value.string x.text, Value.slice a2 x.kids.length c2] 30)) z2
         clear hk1 hIx hkr hT
         by_cases hlast : j + 1 = n.kids.length
         · rw [decide_eq_true hlast, Bool.true_and] at HA
           have qj : ((j : Int) == (n.kids.length : Int) - 1) = true := by rw [beq_iff_eq]; omega
           cases hK : kidsB x.kids [98] with
           | true =>
             rw [hK] at KX HA
             rw [Bool.true_and] at HA
             have HL := h_ hlast
             clear hK hlast
             generalize x.text = yt2 at *
             go_wp2_with (go_at_call 46; refine (u_ KX _ (by repeat first | exact brf _ | refine bal ?_ _)).mono ?_; rintro e v1 ⟨rfl, hb1⟩)
             exact ⟨⟨j + 1, by go_num, by omega, by omega, btr (bal (u_ HB0) _) hb1, u_ HA⟩, by simp [intOf]; omega⟩
           | false =>
             rw [hK] at KX HA
             rw [Bool.false_and] at HA
             have HL := h_ hlast
             clear hK hlast
             generalize x.text = yt2 at *
             go_wp2_with (go_at_call 46; refine (u_ KX _ (by repeat first | exact brf _ | refine bal ?_ _)).mono ?_; rintro e v1 ⟨rfl, hb1⟩; obtain ⟨hc1, hf1⟩ := bcell hb1)
             exact bodyPost_ret (v := .bool false) (by simp [results, Tryz.results49, go_sem]) rfl ⟨by rw [← u_ HA], btr (bal (u_ HB) _) hb1⟩
         · rw [decide_eq_false hlast, Bool.false_and, Bool.false_and] at HA
           have qj : ((j : Int) == (n.kids.length : Int) - 1) = false := beq_eq_false_iff_ne.2 (by omega)
           clear KX
           generalize x.text = yt2 at *
           go_wp2
           exact bodyPost_ret (v := .bool false) (by simp [results, Tryz.results49, go_sem]) rfl ⟨by rw [← u_ HA], bal (u_ HB) _⟩
       · have a32 : (x.kind == 32) = false := beq_eq_false_iff_ne.2 h32
         by_cases h31 : x.kind = 31
         · clear a32 h32
           rw [h31] at k1'
           by_cases h2 : x.kids.length < 2
           · rw [arm_few x _ h31 h2, Bool.false_and] at HA
             have q2 : (x.kids.length : Int) < 2 := by omega
             clear hIx hkr hT
             generalize x.text = yt2 at *
             go_wp2
             exact bodyPost_ret (v := .bool false) (by simp [results, Tryz.results49, go_sem]) rfl ⟨by rw [← u_ HA], bal (u_ HB) _⟩
           · obtain ⟨m, hm⟩ : ∃ m : Nat, x.kids.length = m + 1 := ⟨x.kids.length - 1, by omega⟩
             have hy : x.kids[m]? = some x.kids[m] := List.getElem?_eq_getElem (by omega)
             generalize x.kids[m] = y at hy
             rw [arm_arm x _ h31 hT (by omega) y (by rw [hm]; exact hy), List.dropLast_eq_take, hm, Nat.add_sub_cancel] at HA
             rcases RdK_cases (u_ HKR) with ⟨h0, _⟩ | ⟨b2, o2, c2', vs2, hvv2, hn2, hcs2⟩
             · rw [h0] at hm; simp at hm
             obtain ⟨l1, l2, l3, hts2, hlr⟩ := hcs2 m y hy
             have PY := h_ (fun (wy : World) (hy' : Below wr.heap.size wr wy) => hIx y (List.mem_of_getElem? hy) (vs2 m) wy 98 (by decide) hts2 (RdK_later hy' hlr))
             unfold ndV at PY
             obtain ⟨ha2, hc2⟩ : a2 = some ⟨b2, o2, none⟩ ∧ c2 = c2' := by injection hvv2 with h1 h2 h3; exact ⟨h1, h3⟩
             subst ha2 hc2
             obtain ⟨a3, c3, hv3⟩ := RdK_slice hlr
             rw [hv3] at l3 PY
             rw [hm] at k3'
             have q2 : ¬ (((m + 1 : Nat) : Int) < 2) := by omega
             have HCS2 := h_ hcs2
             have HIX := h_ hIx
             have l1' := c_ (bal (brf wr) (Obj.cells #[Value.int IntKind.i64 31, Value.string x.text, Value.slice (some ⟨b2, o2, none⟩) (m + 1) c2] 30)) l1
             have l2' := c_ (bal (brf wr) (Obj.cells #[Value.int IntKind.i64 31, Value.string x.text, Value.slice (some ⟨b2, o2, none⟩) (m + 1) c2] 30)) l2
             have l3' := c_ (bal (brf wr) (Obj.cells #[Value.int IntKind.i64 31, Value.string x.text, Value.slice (some ⟨b2, o2, none⟩) (m + 1) c2] 30)) l3
             have y2 : (wr.alloc (Obj.cells #[Value.int IntKind.i64 31, Value.string x.text, Value.slice (some ⟨b2, o2, none⟩) (m + 1) c2] 30)).cell? ⟨wr.heap.size, 2, none⟩ = some (Value.slice (some ⟨b2, o2, none⟩) (m + 1) c2) := by rw [World.cell?_alloc_new]; rfl
             have Y2 := h_ y2
             clear hIx hkr hT hlr hcs2 l1 l2 l3 y2 h2
             cases hK : okIs 98 y with
             | false =>
               rw [hK] at PY HA
               rw [Bool.false_and, Bool.false_and] at HA
               clear hK
               generalize x.text = yt2 at *
               generalize y.kind = yk3 at *
               generalize y.text = yt3 at *
               go_wp2_with (go_at_call 33; refine (u_ PY _ (by repeat first | exact brf _ | refine bal ?_ _)).mono ?_; rintro e v1 ⟨rfl, hb1⟩)
               exact bodyPost_ret (v := .bool false) (by simp [results, Tryz.results49, go_sem]) rfl ⟨by rw [← u_ HA], btr (bal (u_ HB) _) hb1⟩
             | true =>
               rw [hK] at PY HA
               rw [Bool.true_and] at HA
               clear hK
               generalize x.text = yt2 at *
               generalize y.kind = yk3 at *
               generalize y.text = yt3 at *
               go_wp2_with (go_at_call 33; refine (u_ PY _ (by repeat first | exact brf _ | refine bal ?_ _)).mono ?_; rintro e w2 ⟨rfl, hb1⟩)
               have y3 := c_ hb1 (u_ Y2)
               have HB2 := h_ (btr (bal (u_ HB) _) hb1)
               have HB3 := h_ (btr (bal (u_ HB0) _) hb1)
               have HB4 := h_ (btr (bal (brf wr) _) hb1)
               clear l1' l2' l3' PY Y2 hb1 k1' k2' k3'
               go_loopw [5] (fun k wq => ∃ q : Nat, k = .int .i64 q ∧ q ≤ m ∧ Below w2.heap.size w2 wq ∧ ((x.kids.take m).drop q).all (okIs 101) = (x.kids.take m).all (okIs 101)) (fun k wq => m - (intOf k).toNat)
               case atStart => exact ⟨0, rfl, Nat.zero_le _, brf _, rfl⟩
               case round =>
                 obtain ⟨q, rfl, hq, hbq, hallq⟩ := hrel
                 have y4 := c_ hbq y3
                 have hbr := btr (u_ HB4) hbq
                 have HBQ := h_ hbq
                 have HAQ := h_ hallq
                 by_cases hqm : q < m
                 · have hql : q < (x.kids.take m).length := by rw [List.length_take]; omega
                   have hz : x.kids[q]? = some ((x.kids.take m)[q]) := by rw [List.getElem_take]; exact List.getElem?_eq_getElem (by omega)
                   have hdz := List.drop_eq_getElem_cons hql
                   generalize (x.kids.take m)[q] = z at hz hdz
                   obtain ⟨l1, l2, l3, htz, hlz⟩ := u_ HCS2 q z hz
                   have l1' := c_ hbr l1
                   have l2' := c_ hbr l2
                   have l3' := c_ hbr l3
                   have PZ := h_ (fun (wy : World) (hy' : Below wr.heap.size wr wy) => u_ HIX z (List.mem_of_getElem? hz) (vs2 q) wy 101 (by decide) htz (RdK_later hy' (RdK_later hbr hlz)))
                   unfold ndV at PZ
                   obtain ⟨a4, c4, hv4⟩ := RdK_slice hlz
                   rw [hv4] at l3' PZ
                   rw [hdz, List.all_cons] at HAQ
                   clear l1 l2 l3 hlz hbq hbr hallq hdz hql
                   cases hok : okIs 101 z with
                   | true =>
                     rw [hok] at PZ HAQ
                     rw [Bool.true_and] at HAQ
                     clear hok
                     generalize z.kind = zk4 at *
                     generalize z.text = zt4 at *
                     go_wp2_with (go_at_call 33; refine (u_ PZ _ (brf _)).mono ?_; rintro e v1 ⟨rfl, hb1⟩)
                     exact ⟨⟨q + 1, by go_num, by omega, below_step (u_ HBQ) hb1, u_ HAQ⟩, by simp [intOf]; omega⟩
                   | false =>
                     rw [hok] at PZ HAQ
                     rw [Bool.false_and] at HAQ
                     rw [← u_ HAQ, Bool.false_and] at HA
                     clear hok
                     generalize z.kind = zk4 at *
                     generalize z.text = zt4 at *
                     go_wp2_with (go_at_call 33; refine (u_ PZ _ (brf _)).mono ?_; rintro e v1 ⟨rfl, hb1⟩)
                     exact bodyPost_ret (v := .bool false) (by simp [results, Tryz.results49, go_sem]) rfl ⟨by rw [← u_ HA], btr (btr (u_ HB2) (u_ HBQ)) hb1⟩
                 · obtain rfl : q = m := by omega
                   rw [List.drop_of_length_le (by rw [List.length_take]; omega)] at HAQ
                   rw [← u_ HAQ] at HA
                   clear hbq hbr hallq
                   go_wp2
                   exact ⟨⟨j + 1, by go_num, by omega, by omega, btr (u_ HB3) (u_ HBQ), by have := u_ HA; simpa using this⟩, by simp [intOf]; omega⟩
         · have a31 : (x.kind == 31) = false := beq_eq_false_iff_ne.2 h31
           have b31 : (x.kind != 31) = true := by rw [bne, a31]; rfl
           rw [arm_no x _ h31 h32, Bool.false_and] at HA
           clear hIx hkr hT h31 h32
           generalize x.kind = yk2 at *
           generalize x.text = yt2 at *
           go_wp2
           exact bodyPost_ret (v := .bool false) (by simp [results, Tryz.results49, go_sem]) rfl ⟨by rw [← u_ HA], bal (u_ HB) _⟩
   · obtain rfl : j = n.kids.length := by omega
     rw [List.drop_length] at HA
     clear hb hbw hall
     go_wp2
     exact bodyPost_ret (v := .bool true) (by simp [results, Tryz.results49, go_sem]) rfl ⟨by rw [← u_ HA]; rfl, u_ HB⟩
theorem caseB (ks : List Nd) : ((match ks with | [] => false | x :: xs => hasB expK x.kind && armsB xs) && fmL ks) = (match ks with | [] => false | x :: xs => okIs 101 x && armsI xs) := by
 cases ks with
 | nil => rfl
 | cons x xs =>
   show ((hasB expK x.kind && armsB xs) && fmL (x :: xs)) = (okIs 101 x && armsI xs)
   rw [← armsI_eq, okIs_of (by decide), fmL]
   show _ = ((hasB expK x.kind && fm x) && (armsB xs && fmL xs))
   generalize hasB expK x.kind = a
   generalize armsB xs = b
   generalize fm x = c
   generalize fmL xs = d
   revert a b c d; decide
theorem st30 (n : Nd) (ih : ∀ x ∈ n.kids, IsC x) (ih2 : ∀ x ∈ n.kids, ∀ y ∈ x.kids, IsC y) (v : Value) (w : World) (hr : RdK w n.kids v) (hk : n.kind = 30) :
   CB 49 #[ndV n v] w (.bool ((n.text.size == 0) && (match n.kids with | [] => false | x :: xs => okIs 101 x && armsI xs))) := by
 cases hA : (n.text.size == 0) with
 | false => exact st30n n v w hr hk hA
 | true =>
   rw [Bool.true_and]
   cases hks : n.kids with
   | nil => exact st30z n v w hr hk hA hks
   | cons x xs =>
     cases hB : okIs 101 x with
     | false =>
       simp only [hB, Bool.false_and]
       exact st30f n ih v w hr hk hA x (by rw [hks]; rfl) hB
     | true =>
       simp only [hB, Bool.true_and]
       have := st30t n ih ih2 v w hr hk hA x (by rw [hks]; rfl) hB
       rw [hks] at this
       exact this
theorem stW (n : Nd) (ih : ∀ x ∈ n.kids, IsC x) (ih2 : ∀ x ∈ n.kids, ∀ y ∈ x.kids, IsC y) (v : Value) (w : World) (ht : n.text.size ≤ maxLen) (hr : RdK w n.kids v)  :
   CB 49 #[ndV n v] w (.bool (okIs 83 n)) := by
 by_cases h27 : n.kind = 27
 · have e : okIs 83 n = ((n.text.size == 0) && kidsB n.kids [84, 101]) := ok_of (by decide) n 27 h27 (by decide) rfl ((kidsB_of n.kids [84, 101] (by decide)).symm)
   rw [e]; exact st27 n ih v w ht hr h27
 by_cases h28 : n.kind = 28
 · have e : okIs 83 n = ((n.text.size == 0) && kidsB n.kids [84, 101]) := ok_of (by decide) n 28 h28 (by decide) rfl ((kidsB_of n.kids [84, 101] (by decide)).symm)
   rw [e]; exact st28 n ih v w ht hr h28
 by_cases h29 : n.kind = 29
 · have e : okIs 83 n = ((n.text.size == 0) && (kidsB n.kids [101, 98] || kidsB n.kids [101, 98, 66])) := ok_of (by decide) n 29 h29 (by decide) rfl (or_kids n.kids [101, 98] [101, 98, 66] (by decide) (by decide))
   rw [e]; exact st29 n ih v w ht hr h29
 by_cases h30 : n.kind = 30
 · have e : okIs 83 n = ((n.text.size == 0) && (match n.kids with | [] => false | x :: xs => okIs 101 x && armsI xs)) := ok_of (by decide) n 30 h30 (by decide) rfl (caseB n.kids)
   rw [e]; exact st30 n ih ih2 v w hr h30
 by_cases h33 : n.kind = 33
 · have e : okIs 83 n = (freeB n.text && kidsB n.kids [101, 101, 98]) := ok_of (by decide) n 33 h33 (by decide) rfl ((kidsB_of n.kids [101, 101, 98] (by decide)).symm)
   rw [e]; exact st33 n ih v w ht hr h33
 by_cases h34 : n.kind = 34
 · have e : okIs 83 n = ((n.text.size == 0) && kidsB n.kids [101]) := ok_of (by decide) n 34 h34 (by decide) rfl ((kidsB_of n.kids [101] (by decide)).symm)
   rw [e]; exact st34 n ih v w ht hr h34
 by_cases h35 : n.kind = 35
 · have e : okIs 83 n = ((n.text.size == 0) && n.kids.isEmpty) := ok_of (by decide) n 35 h35 (by decide) rfl (emp_fm _)
   rw [e]; exact st35 n v w ht hr h35
 have e : okIs 83 n = false := ok_no n (by show hasB stmK n.kind = false; rw [has_stm]; simp [h27, h28, h29, h30, h33, h34, h35])
 rw [e]; exact stno n v w ht hr h27 h28 h29 h30 h33 h34 h35
end Go.Proofs.YtddlokkejglckaaGreatDoor
