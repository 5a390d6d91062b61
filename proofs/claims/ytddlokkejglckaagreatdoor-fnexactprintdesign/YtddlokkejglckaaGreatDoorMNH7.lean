/- Parts of the proof: NH7 to NH5. -/
import Derived.Test.YtddlokkejglckaaGreatDoorMPK29
namespace Go.Proofs.YtddlokkejglckaaGreatDoor
open Go.RowKit Nt
set_option linter.unusedVariables false
set_option maxRecDepth 100000
theorem len_two {ks : List Nd} (h : ks.length = 2) : ∃ x y, ks = [x, y] := by
 match ks, h with
 | [x, y], _ => exact ⟨x, y, rfl⟩
theorem lf1 (ks : List Nd) (v : Value) (w : World) (hr : RdK w ks v) :
   CB 57 #[.int .i64 1, v] w (.bool (allK (2 ^ 2) ks)) := by
 have K1 : Hid (∀ w' v', RdK w' (ks) v' → Calls Tryz.prog 56 #[.int .u64 4, v'] w' fun e w'' => e = .returned (.bool (allK (2 ^ 2) (ks))) ∧ Below w'.heap.size w' w'') := h_ (fun w' v' hr' => iHasAll (2 ^ 2) (ks) v' w' (by decide) hr')
 have HR := h_ hr
 obtain ⟨a0, c0, rfl⟩ := RdK_slice hr
 clear hr
 generalize allK (2 ^ 2) ks = r at *
 go_enter Tryz.func57, Tryz.ntmps57
 go_wp2_with (go_at_call 56; refine (u_ K1 _ _ (u_ HR)).mono ?_; rintro e v1 ⟨rfl, hb1⟩)
 go_ret
 exact ⟨rfl, hb1⟩
theorem lf3 (ks : List Nd) (v : Value) (w : World) (hr : RdK w ks v) :
   CB 57 #[.int .i64 3, v] w (.bool (allK (2 ^ 4) ks)) := by
 have K1 : Hid (∀ w' v', RdK w' (ks) v' → Calls Tryz.prog 56 #[.int .u64 16, v'] w' fun e w'' => e = .returned (.bool (allK (2 ^ 4) (ks))) ∧ Below w'.heap.size w' w'') := h_ (fun w' v' hr' => iHasAll (2 ^ 4) (ks) v' w' (by decide) hr')
 have HR := h_ hr
 obtain ⟨a0, c0, rfl⟩ := RdK_slice hr
 clear hr
 generalize allK (2 ^ 4) ks = r at *
 go_enter Tryz.func57, Tryz.ntmps57
 go_wp2_with (go_at_call 56; refine (u_ K1 _ _ (u_ HR)).mono ?_; rintro e v1 ⟨rfl, hb1⟩)
 go_ret
 exact ⟨rfl, hb1⟩
theorem lf5 (ks : List Nd) (v : Value) (w : World) (hr : RdK w ks v) :
   CB 57 #[.int .i64 5, v] w (.bool (allK (2 ^ 6 + 2 ^ 7) ks)) := by
 have K1 : Hid (∀ w' v', RdK w' (ks) v' → Calls Tryz.prog 56 #[.int .u64 192, v'] w' fun e w'' => e = .returned (.bool (allK (2 ^ 6 + 2 ^ 7) (ks))) ∧ Below w'.heap.size w' w'') := h_ (fun w' v' hr' => iHasAll (2 ^ 6 + 2 ^ 7) (ks) v' w' (by decide) hr')
 have HR := h_ hr
 obtain ⟨a0, c0, rfl⟩ := RdK_slice hr
 clear hr
 generalize allK (2 ^ 6 + 2 ^ 7) ks = r at *
 go_enter Tryz.func57, Tryz.ntmps57
 go_wp2_with (go_at_call 56; refine (u_ K1 _ _ (u_ HR)).mono ?_; rintro e v1 ⟨rfl, hb1⟩)
 go_ret
 exact ⟨rfl, hb1⟩
theorem lf23 (ks : List Nd) (v : Value) (w : World) (hr : RdK w ks v) :
   CB 57 #[.int .i64 23, v] w (.bool (allK (itmK) ks)) := by
 have K1 : Hid (∀ w' v', RdK w' (ks) v' → Calls Tryz.prog 56 #[.int .u64 8388096, v'] w' fun e w'' => e = .returned (.bool (allK (itmK) (ks))) ∧ Below w'.heap.size w' w'') := h_ (fun w' v' hr' => iHasAll (itmK) (ks) v' w' (by decide) hr')
 have HR := h_ hr
 obtain ⟨a0, c0, rfl⟩ := RdK_slice hr
 clear hr
 generalize allK (itmK) ks = r at *
 go_enter Tryz.func57, Tryz.ntmps57
 go_wp2_with (go_at_call 56; refine (u_ K1 _ _ (u_ HR)).mono ?_; rintro e v1 ⟨rfl, hb1⟩)
 go_ret
 exact ⟨rfl, hb1⟩
theorem lf24 (ks : List Nd) (v : Value) (w : World) (hr : RdK w ks v) :
   CB 57 #[.int .i64 24, v] w (.bool (allK (2 ^ 25) ks)) := by
 have K1 : Hid (∀ w' v', RdK w' (ks) v' → Calls Tryz.prog 56 #[.int .u64 33554432, v'] w' fun e w'' => e = .returned (.bool (allK (2 ^ 25) (ks))) ∧ Below w'.heap.size w' w'') := h_ (fun w' v' hr' => iHasAll (2 ^ 25) (ks) v' w' (by decide) hr')
 have HR := h_ hr
 obtain ⟨a0, c0, rfl⟩ := RdK_slice hr
 clear hr
 generalize allK (2 ^ 25) ks = r at *
 go_enter Tryz.func57, Tryz.ntmps57
 go_wp2_with (go_at_call 56; refine (u_ K1 _ _ (u_ HR)).mono ?_; rintro e v1 ⟨rfl, hb1⟩)
 go_ret
 exact ⟨rfl, hb1⟩
theorem lf26 (ks : List Nd) (v : Value) (w : World) (hr : RdK w ks v) :
   CB 57 #[.int .i64 26, v] w (.bool (allK (stmK) ks)) := by
 have K1 : Hid (∀ w' v', RdK w' (ks) v' → Calls Tryz.prog 56 #[.int .u64 62142808064, v'] w' fun e w'' => e = .returned (.bool (allK (stmK) (ks))) ∧ Below w'.heap.size w' w'') := h_ (fun w' v' hr' => iHasAll (stmK) (ks) v' w' (by decide) hr')
 have HR := h_ hr
 obtain ⟨a0, c0, rfl⟩ := RdK_slice hr
 clear hr
 generalize allK (stmK) ks = r at *
 go_enter Tryz.func57, Tryz.ntmps57
 go_wp2_with (go_at_call 56; refine (u_ K1 _ _ (u_ HR)).mono ?_; rintro e v1 ⟨rfl, hb1⟩)
 go_ret
 exact ⟨rfl, hb1⟩
theorem lf40 (ks : List Nd) (v : Value) (w : World) (hr : RdK w ks v) :
   CB 57 #[.int .i64 40, v] w (.bool (allK (expK) ks)) := by
 have K1 : Hid (∀ w' v', RdK w' (ks) v' → Calls Tryz.prog 56 #[.int .u64 281406257233920, v'] w' fun e w'' => e = .returned (.bool (allK (expK) (ks))) ∧ Below w'.heap.size w' w'') := h_ (fun w' v' hr' => iHasAll (expK) (ks) v' w' (by decide) hr')
 have HR := h_ hr
 obtain ⟨a0, c0, rfl⟩ := RdK_slice hr
 clear hr
 generalize allK (expK) ks = r at *
 go_enter Tryz.func57, Tryz.ntmps57
 go_wp2_with (go_at_call 56; refine (u_ K1 _ _ (u_ HR)).mono ?_; rintro e v1 ⟨rfl, hb1⟩)
 go_ret
 exact ⟨rfl, hb1⟩
theorem lf13 (ks : List Nd) (v : Value) (w : World) (hr : RdK w ks v) :
   CB 57 #[.int .i64 13, v] w (.bool (decide (1 ≤ ks.length) && allK (2 ^ 37) ks)) := by
 have K1 : Hid (∀ w' v', RdK w' (ks) v' → Calls Tryz.prog 56 #[.int .u64 137438953472, v'] w' fun e w'' => e = .returned (.bool (allK (2 ^ 37) (ks))) ∧ Below w'.heap.size w' w'') := h_ (fun w' v' hr' => iHasAll (2 ^ 37) (ks) v' w' (by decide) hr')
 have HR := h_ hr
 have hl := len_ok hr
 obtain ⟨a0, c0, rfl⟩ := RdK_slice hr
 clear hr
 generalize allK (2 ^ 37) ks = r at *
 by_cases h1 : 1 ≤ ks.length
 · have q : (1 : Int) ≤ ks.length := by omega
   rw [decide_eq_true h1, Bool.true_and]
   go_enter Tryz.func57, Tryz.ntmps57
   go_wp2_with (go_at_call 56; refine (u_ K1 _ _ (u_ HR)).mono ?_; rintro e v1 ⟨rfl, hb1⟩)
   go_ret
   exact ⟨rfl, hb1⟩
 · have q : ¬ ((1 : Int) ≤ ks.length) := by omega
   rw [decide_eq_false h1, Bool.false_and]
   go_enter Tryz.func57, Tryz.ntmps57
   go_wp2
   go_ret
   exact ⟨rfl, brf _⟩
theorem lf41 (ks : List Nd) (v : Value) (w : World) (hr : RdK w ks v) :
   CB 57 #[.int .i64 41, v] w (.bool (decide (1 ≤ ks.length) && allK (expK) ks)) := by
 have K1 : Hid (∀ w' v', RdK w' (ks) v' → Calls Tryz.prog 56 #[.int .u64 281406257233920, v'] w' fun e w'' => e = .returned (.bool (allK (expK) (ks))) ∧ Below w'.heap.size w' w'') := h_ (fun w' v' hr' => iHasAll (expK) (ks) v' w' (by decide) hr')
 have HR := h_ hr
 have hl := len_ok hr
 obtain ⟨a0, c0, rfl⟩ := RdK_slice hr
 clear hr
 generalize allK (expK) ks = r at *
 by_cases h1 : 1 ≤ ks.length
 · have q : (1 : Int) ≤ ks.length := by omega
   rw [decide_eq_true h1, Bool.true_and]
   go_enter Tryz.func57, Tryz.ntmps57
   go_wp2_with (go_at_call 56; refine (u_ K1 _ _ (u_ HR)).mono ?_; rintro e v1 ⟨rfl, hb1⟩)
   go_ret
   exact ⟨rfl, hb1⟩
 · have q : ¬ ((1 : Int) ≤ ks.length) := by omega
   rw [decide_eq_false h1, Bool.false_and]
   go_enter Tryz.func57, Tryz.ntmps57
   go_wp2
   go_ret
   exact ⟨rfl, brf _⟩
theorem lfno (k : Int) (v : Value) (w : World) (h1 : k ≠ 1) (h2 : k ≠ 2) (h3 : k ≠ 3) (h5 : k ≠ 5) (h13 : k ≠ 13) (h23 : k ≠ 23) (h24 : k ≠ 24) (h26 : k ≠ 26) (h30 : k ≠ 30) (h31 : k ≠ 31) (h40 : k ≠ 40) (h41 : k ≠ 41) :
   CB 57 #[.int .i64 k, v] w (.bool false) := by
 have a1 : (k == 1) = false := beq_eq_false_iff_ne.2 h1
 have a2 : (k == 2) = false := beq_eq_false_iff_ne.2 h2
 have a3 : (k == 3) = false := beq_eq_false_iff_ne.2 h3
 have a5 : (k == 5) = false := beq_eq_false_iff_ne.2 h5
 have a13 : (k == 13) = false := beq_eq_false_iff_ne.2 h13
 have a23 : (k == 23) = false := beq_eq_false_iff_ne.2 h23
 have a24 : (k == 24) = false := beq_eq_false_iff_ne.2 h24
 have a26 : (k == 26) = false := beq_eq_false_iff_ne.2 h26
 have a30 : (k == 30) = false := beq_eq_false_iff_ne.2 h30
 have a31 : (k == 31) = false := beq_eq_false_iff_ne.2 h31
 have a40 : (k == 40) = false := beq_eq_false_iff_ne.2 h40
 have a41 : (k == 41) = false := beq_eq_false_iff_ne.2 h41
 clear h1 h2 h3 h5 h13 h23 h24 h26 h30 h31 h40 h41
 go_enter Tryz.func57, Tryz.ntmps57
 go_wp2
 go_ret
 exact ⟨rfl, brf _⟩
theorem lf2z (ks : List Nd) (v : Value) (w : World) (hr : RdK w ks v) (h2 : ¬ 2 ≤ ks.length) :
   CB 57 #[.int .i64 2, v] w (.bool false) := by
 have hl := len_ok hr
 have q : ¬ ((2 : Int) ≤ ks.length) := by omega
 obtain ⟨a0, c0, rfl⟩ := RdK_slice hr
 clear hr
 go_enter Tryz.func57, Tryz.ntmps57
 go_wp2
 go_ret
 exact ⟨rfl, brf _⟩
set_option maxHeartbeats 800000 in
theorem lf2 (ks : List Nd) (v : Value) (w : World) (hr : RdK w ks v) (h2 : 2 ≤ ks.length) :
   CB 57 #[.int .i64 2, v] w (.bool (fitK (ks.take 2) [2 ^ 3, 2 ^ 5] && allK itmK (ks.drop 2))) := by
 have K2 : Hid (∀ w' v', RdK w' (ks.drop 2) v' → Calls Tryz.prog 56 #[.int .u64 8388096, v'] w' fun e w'' => e = .returned (.bool (allK (itmK) (ks.drop 2))) ∧ Below w'.heap.size w' w'') := h_ (fun w' v' hr' => iHasAll (itmK) (ks.drop 2) v' w' (by decide) hr')
 obtain ⟨b, o, c, hv, hn⟩ := RdK_some hr (by intro h; rw [h] at h2; simp at h2)
 subst hv
 have hcap := RdK_cap hr
 have K1 : Hid (∀ (W : World) (b' : Nat), b' = W.heap.size → Below w.heap.size w W → Calls Tryz.prog 55 #[.slice (some ⟨b, o, none⟩) 2 c, .slice (some ⟨b', 0, none⟩) 2 2] (W.alloc (Obj.cells #[.int .u64 8, .int .u64 32] 58)) fun e w' => e = .returned (.bool (fitK (ks.take 2) [2 ^ 3, 2 ^ 5])) ∧ Below W.heap.size W w') := h_ (fun W b' hb hB => fitCall (ks.take 2) [2 ^ 3, 2 ^ 5] _ W b' (by decide) (by decide) hb (RdK_later hB (RdK_take hr 2 h2 c (by omega))))
 have q : (2 : Int) ≤ ks.length := by omega
 have q1 : 2 ≤ c := by omega
 unfold maxLen at hn
 have HD : Hid (∀ W, Below w.heap.size w W → RdK W (ks.drop 2) (.slice (if c = 2 then some ⟨b, o, none⟩ else some ⟨b, o + 6, none⟩) (ks.length - 2) (c - 2))) := h_ (fun W hB => by
   by_cases hc : c = 2
   · rw [if_pos hc]
     have e1 : ks.length - 2 = 0 := by omega
     have e2 : ks.drop 2 = [] := List.drop_of_length_le (by omega)
     rw [e1, e2]; exact .nil _ _
   · rw [if_neg hc]; exact RdK_later hB (RdK_drop hr 2 h2 (c - 2) (by omega)))
 clear hr
 cases hf : fitK (ks.take 2) [2 ^ 3, 2 ^ 5] with
 | false =>
   rw [hf] at K1
   clear hf
   rw [Bool.false_and]
   go_enter Tryz.func57, Tryz.ntmps57
   go_wp2_with (go_at_call 55; refine (u_ K1 w _ rfl (brf w)).mono ?_; rintro e v1 ⟨rfl, hb1⟩)
   go_ret
   exact ⟨rfl, hb1⟩
 | true =>
   rw [hf] at K1
   clear hf
   rw [Bool.true_and]
   generalize allK itmK (ks.drop 2) = r at *
   by_cases hc : c = 2
   · subst hc
     obtain ⟨x, y, rfl⟩ := len_two (show ks.length = 2 by omega)
     clear HD hcap hn q q1 h2
     have K3 : Hid (∀ (w' : World) (a : Option Addr) (c' : Nat), Calls Tryz.prog 56 #[.int .u64 8388096, .slice a 0 c'] w' fun e w'' => e = .returned (.bool r) ∧ Below w'.heap.size w' w'') := h_ (fun w' a c' => u_ K2 w' _ (.nil a c'))
     clear K2
     go_enter Tryz.func57, Tryz.ntmps57
     go_wp2_with (first | (go_at_call 56; refine (u_ K3 _ _ _).mono ?_; rintro e v2 ⟨rfl, hb2⟩) | (go_at_call 55; refine (u_ K1 w _ rfl (brf w)).mono ?_; rintro e v1 ⟨rfl, hb1⟩))
     go_ret
     exact ⟨rfl, btr hb1 hb2⟩
   · rw [if_neg hc] at HD
     go_enter Tryz.func57, Tryz.ntmps57
     go_wp2_with (first | (go_at_call 56; refine (u_ K2 _ _ (u_ HD _ hb1)).mono ?_; rintro e v2 ⟨rfl, hb2⟩) | (go_at_call 55; refine (u_ K1 w _ rfl (brf w)).mono ?_; rintro e v1 ⟨rfl, hb1⟩))
     go_ret
     exact ⟨rfl, btr hb1 hb2⟩
set_option maxHeartbeats 800000
theorem lf30z (v : Value) (w : World) (hr : RdK w [] v) :
   CB 57 #[.int .i64 30, v] w (.bool false) := by
 obtain ⟨a0, c0, rfl⟩ := RdK_slice hr
 clear hr
 go_enter Tryz.func57, Tryz.ntmps57
 go_wp2
 go_ret
 exact ⟨rfl, brf _⟩
theorem lf30 (x : Nd) (xs : List Nd) (v : Value) (w : World) (hr : RdK w (x :: xs) v) :
   CB 57 #[.int .i64 30, v] w (.bool (hasB expK x.kind && armsB xs)) := by
 have hl := len_ok hr
 rcases RdK_cases hr with ⟨h0, _⟩ | ⟨b, o, c, vs, hv, hn, hcs⟩
 · cases h0
 subst hv
 have hcap := RdK_cap hr
 obtain ⟨k1, k2, k3, hts, hkr⟩ := hcs 0 x rfl
 rw [Nat.zero_mul, Nat.add_zero] at k1 k2 k3
 obtain ⟨a', c'', hv'⟩ := RdK_slice hkr
 rw [hv'] at k3
 have HX : Hid (∀ w', Calls Tryz.prog 25 #[.int .u64 281406257233920, .int .i64 x.kind] w' fun e w'' => e = .returned (.bool (hasB expK x.kind)) ∧ w'' = w') := h_ (fun w' => iKHas expK x.kind w' (by decide))
 have KA := h_ (fun v' w' hr' => iArms xs v' w' hr')
 have HD : Hid (c ≠ 1 → RdK w xs (.slice (some ⟨b, o + 3, none⟩) xs.length (c - 1))) := h_ (fun hc => by
   have := RdK_drop hr 1 (by simp) (c - 1) (by simp at hcap; simp; omega)
   simpa using this)
 have hlen : (x :: xs).length = xs.length + 1 := rfl
 rw [hlen] at hl hcap hn ⊢
 unfold maxLen at hn
 generalize armsB xs = r at *
 have q : (1 : Int) ≤ ((xs.length + 1 : Nat) : Int) := by omega
 have q1 : 1 ≤ c := by omega
 clear hcs hkr hr hlen hl q
 have q : (1 : Int) ≤ (xs.length : Int) + 1 := by omega
 have HCAP := h_ hcap
 clear hcap
 cases hf : hasB expK x.kind with
 | false =>
   rw [hf] at HX
   clear hf KA HD
   rw [Bool.false_and]
   generalize x.kind = yk at *
   generalize x.text = yt at *
   go_enter Tryz.func57, Tryz.ntmps57
   go_wp2_with (go_at_call 25; refine (u_ HX _).mono ?_; rintro e w' ⟨rfl, rfl⟩)
   go_ret
   exact ⟨rfl, brf _⟩
 | true =>
   rw [hf] at HX
   clear hf
   rw [Bool.true_and]
   generalize x.kind = yk at *
   generalize x.text = yt at *
   by_cases hc : c = 1
   · subst hc
     obtain rfl : xs = [] := List.eq_nil_of_length_eq_zero (by have := u_ HCAP; omega)
     have K3 : Hid (∀ (w' : World) (a : Option Addr) (c' : Nat), Calls Tryz.prog 72 #[.slice a 0 c'] w' fun e w'' => e = .returned (.bool r) ∧ Below w'.heap.size w' w'') := h_ (fun w' a c' => u_ KA _ w' (.nil a c'))
     clear KA HD HCAP hn q q1
     go_enter Tryz.func57, Tryz.ntmps57
     go_wp2_with (first | (go_at_call 25; refine (u_ HX _).mono ?_; rintro e w' ⟨rfl, rfl⟩) | (go_at_call 72; refine (u_ K3 _ _ _).mono ?_; rintro e v2 ⟨rfl, hb2⟩))
     go_ret
     exact ⟨rfl, hb2⟩
   · have HD2 := h_ (u_ HD hc)
     clear HD
     go_enter Tryz.func57, Tryz.ntmps57
     go_wp2_with (first | (go_at_call 25; refine (u_ HX _).mono ?_; rintro e w' ⟨rfl, rfl⟩) | (go_at_call 72; refine (u_ KA _ _ (u_ HD2)).mono ?_; rintro e v2 ⟨rfl, hb2⟩))
     go_ret
     exact ⟨rfl, hb2⟩
theorem lf31z (ks : List Nd) (v : Value) (w : World) (hr : RdK w ks v) (h2 : ks.length < 2) :
   CB 57 #[.int .i64 31, v] w (.bool false) := by
 have q : ¬ ((1 : Int) ≤ (ks.length : Int) - 1) := by omega
 obtain ⟨a0, c0, rfl⟩ := RdK_slice hr
 clear hr
 go_enter Tryz.func57, Tryz.ntmps57
 go_wp2
 go_ret
 exact ⟨rfl, brf _⟩
theorem lf31 (ks : List Nd) (v : Value) (w : World) (hr : RdK w ks v) (m : Nat) (hm : ks.length = m + 1) (h1 : 1 ≤ m) (y : Nd) (hy : ks[m]? = some y) :
   CB 57 #[.int .i64 31, v] w (.bool (allK expK (ks.take m) && decide (y.kind = 26))) := by
 have K1 : Hid (∀ w' v', RdK w' (ks.take m) v' → Calls Tryz.prog 56 #[.int .u64 281406257233920, v'] w' fun e w'' => e = .returned (.bool (allK expK (ks.take m))) ∧ Below w'.heap.size w' w'') := h_ (fun w' v' hr' => iHasAll expK (ks.take m) v' w' (by decide) hr')
 rcases RdK_cases hr with ⟨h0, _⟩ | ⟨b, o, c, vs, hv, hn, hcs⟩
 · rw [h0] at hm; simp at hm
 subst hv
 have hcap := RdK_cap hr
 obtain ⟨k1, k2, k3, hts, hk⟩ := hcs m y hy
 have HT := h_ (RdK_take hr m (by omega) c (by omega))
 obtain ⟨a', c'', hv'⟩ := RdK_slice hk
 rw [hv'] at k3
 rw [hm] at hn hcap ⊢
 have q0 : (1 : Int) ≤ (m : Int) := by omega
 have hmc : m ≤ c := by omega
 unfold maxLen at hn
 clear hr hk hcs
 cases hf : allK expK (ks.take m) with
 | false =>
   rw [hf] at K1
   clear hf
   rw [Bool.false_and]
   go_enter Tryz.func57, Tryz.ntmps57
   go_wp2_with (go_at_call 56; refine (u_ K1 _ _ (u_ HT)).mono ?_; rintro e v1 ⟨rfl, hb1⟩)
   go_ret
   exact ⟨rfl, hb1⟩
 | true =>
   rw [hf] at K1
   clear hf
   rw [Bool.true_and]
   have e1 : decide (y.kind = 26) = (y.kind == 26) := by rw [Bool.eq_iff_iff]; simp
   rw [e1]
   have K1' := h_ k1
   generalize y.text = yt at *
   generalize y.kind = yk at *
   go_enter Tryz.func57, Tryz.ntmps57
   go_wp2_with (go_at_call 56; refine (u_ K1 _ _ (u_ HT)).mono ?_; rintro e v1 ⟨rfl, hb1⟩; have j1 := c_ hb1 (u_ K1'))
   go_ret
   exact ⟨rfl, hb1⟩
theorem kf4 (n : Nd) (v : Value) (w : World) (hr : RdK w n.kids v) (hk : n.kind = 4) :
   CB 38 #[ndV n v] w (.bool (fitK n.kids [expK])) := by
 have K1 : Hid (∀ (W : World) (b : Nat), b = W.heap.size → RdK W n.kids v → Calls Tryz.prog 55 #[v, .slice (some ⟨b, 0, none⟩) 1 1] (W.alloc (Obj.cells #[.int .u64 281406257233920] 58)) fun e w' => e = .returned (.bool (fitK n.kids [expK])) ∧ Below W.heap.size W w') := h_ (fun W b hb hr' => fitCall n.kids [expK] v W b (by decide) (by decide) hb hr')
 have HR := h_ hr
 obtain ⟨a0, c0, rfl⟩ := RdK_slice hr
 unfold ndV
 rw [hk]
 clear hr
 generalize n.text = xt at *
 generalize fitK n.kids [expK] = r at *
 go_enter Tryz.func38, Tryz.ntmps38
 go_wp2_with (go_at_call 55; refine (u_ K1 (w.alloc _) _ (by simp) (RdK_later (bal (brf w) _) (u_ HR))).mono ?_; rintro e v1 ⟨rfl, hb1⟩)
 go_ret
 exact ⟨rfl, btr (bal (brf w) _) hb1⟩
theorem kf12 (n : Nd) (v : Value) (w : World) (hr : RdK w n.kids v) (hk : n.kind = 12) :
   CB 38 #[ndV n v] w (.bool (fitK n.kids [expK])) := by
 have K1 : Hid (∀ (W : World) (b : Nat), b = W.heap.size → RdK W n.kids v → Calls Tryz.prog 55 #[v, .slice (some ⟨b, 0, none⟩) 1 1] (W.alloc (Obj.cells #[.int .u64 281406257233920] 58)) fun e w' => e = .returned (.bool (fitK n.kids [expK])) ∧ Below W.heap.size W w') := h_ (fun W b hb hr' => fitCall n.kids [expK] v W b (by decide) (by decide) hb hr')
 have HR := h_ hr
 obtain ⟨a0, c0, rfl⟩ := RdK_slice hr
 unfold ndV
 rw [hk]
 clear hr
 generalize n.text = xt at *
 generalize fitK n.kids [expK] = r at *
 go_enter Tryz.func38, Tryz.ntmps38
 go_wp2_with (go_at_call 55; refine (u_ K1 (w.alloc _) _ (by simp) (RdK_later (bal (brf w) _) (u_ HR))).mono ?_; rintro e v1 ⟨rfl, hb1⟩)
 go_ret
 exact ⟨rfl, btr (bal (brf w) _) hb1⟩
theorem kf18 (n : Nd) (v : Value) (w : World) (hr : RdK w n.kids v) (hk : n.kind = 18) :
   CB 38 #[ndV n v] w (.bool (fitK n.kids [expK])) := by
 have K1 : Hid (∀ (W : World) (b : Nat), b = W.heap.size → RdK W n.kids v → Calls Tryz.prog 55 #[v, .slice (some ⟨b, 0, none⟩) 1 1] (W.alloc (Obj.cells #[.int .u64 281406257233920] 58)) fun e w' => e = .returned (.bool (fitK n.kids [expK])) ∧ Below W.heap.size W w') := h_ (fun W b hb hr' => fitCall n.kids [expK] v W b (by decide) (by decide) hb hr')
 have HR := h_ hr
 obtain ⟨a0, c0, rfl⟩ := RdK_slice hr
 unfold ndV
 rw [hk]
 clear hr
 generalize n.text = xt at *
 generalize fitK n.kids [expK] = r at *
 go_enter Tryz.func38, Tryz.ntmps38
 go_wp2_with (go_at_call 55; refine (u_ K1 (w.alloc _) _ (by simp) (RdK_later (bal (brf w) _) (u_ HR))).mono ?_; rintro e v1 ⟨rfl, hb1⟩)
 go_ret
 exact ⟨rfl, btr (bal (brf w) _) hb1⟩
theorem kf25 (n : Nd) (v : Value) (w : World) (hr : RdK w n.kids v) (hk : n.kind = 25) :
   CB 38 #[ndV n v] w (.bool (fitK n.kids [expK])) := by
 have K1 : Hid (∀ (W : World) (b : Nat), b = W.heap.size → RdK W n.kids v → Calls Tryz.prog 55 #[v, .slice (some ⟨b, 0, none⟩) 1 1] (W.alloc (Obj.cells #[.int .u64 281406257233920] 58)) fun e w' => e = .returned (.bool (fitK n.kids [expK])) ∧ Below W.heap.size W w') := h_ (fun W b hb hr' => fitCall n.kids [expK] v W b (by decide) (by decide) hb hr')
 have HR := h_ hr
 obtain ⟨a0, c0, rfl⟩ := RdK_slice hr
 unfold ndV
 rw [hk]
 clear hr
 generalize n.text = xt at *
 generalize fitK n.kids [expK] = r at *
 go_enter Tryz.func38, Tryz.ntmps38
 go_wp2_with (go_at_call 55; refine (u_ K1 (w.alloc _) _ (by simp) (RdK_later (bal (brf w) _) (u_ HR))).mono ?_; rintro e v1 ⟨rfl, hb1⟩)
 go_ret
 exact ⟨rfl, btr (bal (brf w) _) hb1⟩
theorem kf34 (n : Nd) (v : Value) (w : World) (hr : RdK w n.kids v) (hk : n.kind = 34) :
   CB 38 #[ndV n v] w (.bool (fitK n.kids [expK])) := by
 have K1 : Hid (∀ (W : World) (b : Nat), b = W.heap.size → RdK W n.kids v → Calls Tryz.prog 55 #[v, .slice (some ⟨b, 0, none⟩) 1 1] (W.alloc (Obj.cells #[.int .u64 281406257233920] 58)) fun e w' => e = .returned (.bool (fitK n.kids [expK])) ∧ Below W.heap.size W w') := h_ (fun W b hb hr' => fitCall n.kids [expK] v W b (by decide) (by decide) hb hr')
 have HR := h_ hr
 obtain ⟨a0, c0, rfl⟩ := RdK_slice hr
 unfold ndV
 rw [hk]
 clear hr
 generalize n.text = xt at *
 generalize fitK n.kids [expK] = r at *
 go_enter Tryz.func38, Tryz.ntmps38
 go_wp2_with (go_at_call 55; refine (u_ K1 (w.alloc _) _ (by simp) (RdK_later (bal (brf w) _) (u_ HR))).mono ?_; rintro e v1 ⟨rfl, hb1⟩)
 go_ret
 exact ⟨rfl, btr (bal (brf w) _) hb1⟩
theorem kf38 (n : Nd) (v : Value) (w : World) (hr : RdK w n.kids v) (hk : n.kind = 38) :
   CB 38 #[ndV n v] w (.bool (fitK n.kids [expK])) := by
 have K1 : Hid (∀ (W : World) (b : Nat), b = W.heap.size → RdK W n.kids v → Calls Tryz.prog 55 #[v, .slice (some ⟨b, 0, none⟩) 1 1] (W.alloc (Obj.cells #[.int .u64 281406257233920] 58)) fun e w' => e = .returned (.bool (fitK n.kids [expK])) ∧ Below W.heap.size W w') := h_ (fun W b hb hr' => fitCall n.kids [expK] v W b (by decide) (by decide) hb hr')
 have HR := h_ hr
 obtain ⟨a0, c0, rfl⟩ := RdK_slice hr
 unfold ndV
 rw [hk]
 clear hr
 generalize n.text = xt at *
 generalize fitK n.kids [expK] = r at *
 go_enter Tryz.func38, Tryz.ntmps38
 go_wp2_with (go_at_call 55; refine (u_ K1 (w.alloc _) _ (by simp) (RdK_later (bal (brf w) _) (u_ HR))).mono ?_; rintro e v1 ⟨rfl, hb1⟩)
 go_ret
 exact ⟨rfl, btr (bal (brf w) _) hb1⟩
theorem kf43 (n : Nd) (v : Value) (w : World) (hr : RdK w n.kids v) (hk : n.kind = 43) :
   CB 38 #[ndV n v] w (.bool (fitK n.kids [expK])) := by
 have K1 : Hid (∀ (W : World) (b : Nat), b = W.heap.size → RdK W n.kids v → Calls Tryz.prog 55 #[v, .slice (some ⟨b, 0, none⟩) 1 1] (W.alloc (Obj.cells #[.int .u64 281406257233920] 58)) fun e w' => e = .returned (.bool (fitK n.kids [expK])) ∧ Below W.heap.size W w') := h_ (fun W b hb hr' => fitCall n.kids [expK] v W b (by decide) (by decide) hb hr')
 have HR := h_ hr
 obtain ⟨a0, c0, rfl⟩ := RdK_slice hr
 unfold ndV
 rw [hk]
 clear hr
 generalize n.text = xt at *
 generalize fitK n.kids [expK] = r at *
 go_enter Tryz.func38, Tryz.ntmps38
 go_wp2_with (go_at_call 55; refine (u_ K1 (w.alloc _) _ (by simp) (RdK_later (bal (brf w) _) (u_ HR))).mono ?_; rintro e v1 ⟨rfl, hb1⟩)
 go_ret
 exact ⟨rfl, btr (bal (brf w) _) hb1⟩
theorem kf44 (n : Nd) (v : Value) (w : World) (hr : RdK w n.kids v) (hk : n.kind = 44) :
   CB 38 #[ndV n v] w (.bool (fitK n.kids [expK])) := by
 have K1 : Hid (∀ (W : World) (b : Nat), b = W.heap.size → RdK W n.kids v → Calls Tryz.prog 55 #[v, .slice (some ⟨b, 0, none⟩) 1 1] (W.alloc (Obj.cells #[.int .u64 281406257233920] 58)) fun e w' => e = .returned (.bool (fitK n.kids [expK])) ∧ Below W.heap.size W w') := h_ (fun W b hb hr' => fitCall n.kids [expK] v W b (by decide) (by decide) hb hr')
 have HR := h_ hr
 obtain ⟨a0, c0, rfl⟩ := RdK_slice hr
 unfold ndV
 rw [hk]
 clear hr
 generalize n.text = xt at *
 generalize fitK n.kids [expK] = r at *
 go_enter Tryz.func38, Tryz.ntmps38
 go_wp2_with (go_at_call 55; refine (u_ K1 (w.alloc _) _ (by simp) (RdK_later (bal (brf w) _) (u_ HR))).mono ?_; rintro e v1 ⟨rfl, hb1⟩)
 go_ret
 exact ⟨rfl, btr (bal (brf w) _) hb1⟩
theorem kf45 (n : Nd) (v : Value) (w : World) (hr : RdK w n.kids v) (hk : n.kind = 45) :
   CB 38 #[ndV n v] w (.bool (fitK n.kids [expK])) := by
 have K1 : Hid (∀ (W : World) (b : Nat), b = W.heap.size → RdK W n.kids v → Calls Tryz.prog 55 #[v, .slice (some ⟨b, 0, none⟩) 1 1] (W.alloc (Obj.cells #[.int .u64 281406257233920] 58)) fun e w' => e = .returned (.bool (fitK n.kids [expK])) ∧ Below W.heap.size W w') := h_ (fun W b hb hr' => fitCall n.kids [expK] v W b (by decide) (by decide) hb hr')
 have HR := h_ hr
 obtain ⟨a0, c0, rfl⟩ := RdK_slice hr
 unfold ndV
 rw [hk]
 clear hr
 generalize n.text = xt at *
 generalize fitK n.kids [expK] = r at *
 go_enter Tryz.func38, Tryz.ntmps38
 go_wp2_with (go_at_call 55; refine (u_ K1 (w.alloc _) _ (by simp) (RdK_later (bal (brf w) _) (u_ HR))).mono ?_; rintro e v1 ⟨rfl, hb1⟩)
 go_ret
 exact ⟨rfl, btr (bal (brf w) _) hb1⟩
theorem kf39 (n : Nd) (v : Value) (w : World) (hr : RdK w n.kids v) (hk : n.kind = 39) :
   CB 38 #[ndV n v] w (.bool (fitK n.kids [expK, expK])) := by
 have K1 : Hid (∀ (W : World) (b : Nat), b = W.heap.size → RdK W n.kids v → Calls Tryz.prog 55 #[v, .slice (some ⟨b, 0, none⟩) 2 2] (W.alloc (Obj.cells #[.int .u64 281406257233920, .int .u64 281406257233920] 58)) fun e w' => e = .returned (.bool (fitK n.kids [expK, expK])) ∧ Below W.heap.size W w') := h_ (fun W b hb hr' => fitCall n.kids [expK, expK] v W b (by decide) (by decide) hb hr')
 have HR := h_ hr
 obtain ⟨a0, c0, rfl⟩ := RdK_slice hr
 unfold ndV
 rw [hk]
 clear hr
 generalize n.text = xt at *
 generalize fitK n.kids [expK, expK] = r at *
 go_enter Tryz.func38, Tryz.ntmps38
 go_wp2_with (go_at_call 55; refine (u_ K1 (w.alloc _) _ (by simp) (RdK_later (bal (brf w) _) (u_ HR))).mono ?_; rintro e v1 ⟨rfl, hb1⟩)
 go_ret
 exact ⟨rfl, btr (bal (brf w) _) hb1⟩
theorem kf42 (n : Nd) (v : Value) (w : World) (hr : RdK w n.kids v) (hk : n.kind = 42) :
   CB 38 #[ndV n v] w (.bool (fitK n.kids [expK, expK])) := by
 have K1 : Hid (∀ (W : World) (b : Nat), b = W.heap.size → RdK W n.kids v → Calls Tryz.prog 55 #[v, .slice (some ⟨b, 0, none⟩) 2 2] (W.alloc (Obj.cells #[.int .u64 281406257233920, .int .u64 281406257233920] 58)) fun e w' => e = .returned (.bool (fitK n.kids [expK, expK])) ∧ Below W.heap.size W w') := h_ (fun W b hb hr' => fitCall n.kids [expK, expK] v W b (by decide) (by decide) hb hr')
 have HR := h_ hr
 obtain ⟨a0, c0, rfl⟩ := RdK_slice hr
 unfold ndV
 rw [hk]
 clear hr
 generalize n.text = xt at *
 generalize fitK n.kids [expK, expK] = r at *
 go_enter Tryz.func38, Tryz.ntmps38
 go_wp2_with (go_at_call 55; refine (u_ K1 (w.alloc _) _ (by simp) (RdK_later (bal (brf w) _) (u_ HR))).mono ?_; rintro e v1 ⟨rfl, hb1⟩)
 go_ret
 exact ⟨rfl, btr (bal (brf w) _) hb1⟩
theorem kf46 (n : Nd) (v : Value) (w : World) (hr : RdK w n.kids v) (hk : n.kind = 46) :
   CB 38 #[ndV n v] w (.bool (fitK n.kids [expK, expK])) := by
 have K1 : Hid (∀ (W : World) (b : Nat), b = W.heap.size → RdK W n.kids v → Calls Tryz.prog 55 #[v, .slice (some ⟨b, 0, none⟩) 2 2] (W.alloc (Obj.cells #[.int .u64 281406257233920, .int .u64 281406257233920] 58)) fun e w' => e = .returned (.bool (fitK n.kids [expK, expK])) ∧ Below W.heap.size W w') := h_ (fun W b hb hr' => fitCall n.kids [expK, expK] v W b (by decide) (by decide) hb hr')
 have HR := h_ hr
 obtain ⟨a0, c0, rfl⟩ := RdK_slice hr
 unfold ndV
 rw [hk]
 clear hr
 generalize n.text = xt at *
 generalize fitK n.kids [expK, expK] = r at *
 go_enter Tryz.func38, Tryz.ntmps38
 go_wp2_with (go_at_call 55; refine (u_ K1 (w.alloc _) _ (by simp) (RdK_later (bal (brf w) _) (u_ HR))).mono ?_; rintro e v1 ⟨rfl, hb1⟩)
 go_ret
 exact ⟨rfl, btr (bal (brf w) _) hb1⟩
theorem kf47 (n : Nd) (v : Value) (w : World) (hr : RdK w n.kids v) (hk : n.kind = 47) :
   CB 38 #[ndV n v] w (.bool (fitK n.kids [expK, expK, expK])) := by
 have K1 : Hid (∀ (W : World) (b : Nat), b = W.heap.size → RdK W n.kids v → Calls Tryz.prog 55 #[v, .slice (some ⟨b, 0, none⟩) 3 3] (W.alloc (Obj.cells #[.int .u64 281406257233920, .int .u64 281406257233920, .int .u64 281406257233920] 58)) fun e w' => e = .returned (.bool (fitK n.kids [expK, expK, expK])) ∧ Below W.heap.size W w') := h_ (fun W b hb hr' => fitCall n.kids [expK, expK, expK] v W b (by decide) (by decide) hb hr')
 have HR := h_ hr
 obtain ⟨a0, c0, rfl⟩ := RdK_slice hr
 unfold ndV
 rw [hk]
 clear hr
 generalize n.text = xt at *
 generalize fitK n.kids [expK, expK, expK] = r at *
 go_enter Tryz.func38, Tryz.ntmps38
 go_wp2_with (go_at_call 55; refine (u_ K1 (w.alloc _) _ (by simp) (RdK_later (bal (brf w) _) (u_ HR))).mono ?_; rintro e v1 ⟨rfl, hb1⟩)
 go_ret
 exact ⟨rfl, btr (bal (brf w) _) hb1⟩
theorem kf14 (n : Nd) (v : Value) (w : World) (hr : RdK w n.kids v) (hk : n.kind = 14) :
   CB 38 #[ndV n v] w (.bool (fitK n.kids [tgtK, expK])) := by
 have K1 : Hid (∀ (W : World) (b : Nat), b = W.heap.size → RdK W n.kids v → Calls Tryz.prog 55 #[v, .slice (some ⟨b, 0, none⟩) 2 2] (W.alloc (Obj.cells #[.int .u64 962072674304, .int .u64 281406257233920] 58)) fun e w' => e = .returned (.bool (fitK n.kids [tgtK, expK])) ∧ Below W.heap.size W w') := h_ (fun W b hb hr' => fitCall n.kids [tgtK, expK] v W b (by decide) (by decide) hb hr')
 have HR := h_ hr
 obtain ⟨a0, c0, rfl⟩ := RdK_slice hr
 unfold ndV
 rw [hk]
 clear hr
 generalize n.text = xt at *
 generalize fitK n.kids [tgtK, expK] = r at *
 go_enter Tryz.func38, Tryz.ntmps38
 go_wp2_with (go_at_call 55; refine (u_ K1 (w.alloc _) _ (by simp) (RdK_later (bal (brf w) _) (u_ HR))).mono ?_; rintro e v1 ⟨rfl, hb1⟩)
 go_ret
 exact ⟨rfl, btr (bal (brf w) _) hb1⟩
theorem kf27 (n : Nd) (v : Value) (w : World) (hr : RdK w n.kids v) (hk : n.kind = 27) :
   CB 38 #[ndV n v] w (.bool (fitK n.kids [tgtK, expK])) := by
 have K1 : Hid (∀ (W : World) (b : Nat), b = W.heap.size → RdK W n.kids v → Calls Tryz.prog 55 #[v, .slice (some ⟨b, 0, none⟩) 2 2] (W.alloc (Obj.cells #[.int .u64 962072674304, .int .u64 281406257233920] 58)) fun e w' => e = .returned (.bool (fitK n.kids [tgtK, expK])) ∧ Below W.heap.size W w') := h_ (fun W b hb hr' => fitCall n.kids [tgtK, expK] v W b (by decide) (by decide) hb hr')
 have HR := h_ hr
 obtain ⟨a0, c0, rfl⟩ := RdK_slice hr
 unfold ndV
 rw [hk]
 clear hr
 generalize n.text = xt at *
 generalize fitK n.kids [tgtK, expK] = r at *
 go_enter Tryz.func38, Tryz.ntmps38
 go_wp2_with (go_at_call 55; refine (u_ K1 (w.alloc _) _ (by simp) (RdK_later (bal (brf w) _) (u_ HR))).mono ?_; rintro e v1 ⟨rfl, hb1⟩)
 go_ret
 exact ⟨rfl, btr (bal (brf w) _) hb1⟩
theorem kf28 (n : Nd) (v : Value) (w : World) (hr : RdK w n.kids v) (hk : n.kind = 28) :
   CB 38 #[ndV n v] w (.bool (fitK n.kids [tgtK, expK])) := by
 have K1 : Hid (∀ (W : World) (b : Nat), b = W.heap.size → RdK W n.kids v → Calls Tryz.prog 55 #[v, .slice (some ⟨b, 0, none⟩) 2 2] (W.alloc (Obj.cells #[.int .u64 962072674304, .int .u64 281406257233920] 58)) fun e w' => e = .returned (.bool (fitK n.kids [tgtK, expK])) ∧ Below W.heap.size W w') := h_ (fun W b hb hr' => fitCall n.kids [tgtK, expK] v W b (by decide) (by decide) hb hr')
 have HR := h_ hr
 obtain ⟨a0, c0, rfl⟩ := RdK_slice hr
 unfold ndV
 rw [hk]
 clear hr
 generalize n.text = xt at *
 generalize fitK n.kids [tgtK, expK] = r at *
 go_enter Tryz.func38, Tryz.ntmps38
 go_wp2_with (go_at_call 55; refine (u_ K1 (w.alloc _) _ (by simp) (RdK_later (bal (brf w) _) (u_ HR))).mono ?_; rintro e v1 ⟨rfl, hb1⟩)
 go_ret
 exact ⟨rfl, btr (bal (brf w) _) hb1⟩
theorem kf6 (n : Nd) (v : Value) (w : World) (hr : RdK w n.kids v) (hk : n.kind = 6) :
   CB 38 #[ndV n v] w (.bool (fitK n.kids [2 ^ 8])) := by
 have K1 : Hid (∀ (W : World) (b : Nat), b = W.heap.size → RdK W n.kids v → Calls Tryz.prog 55 #[v, .slice (some ⟨b, 0, none⟩) 1 1] (W.alloc (Obj.cells #[.int .u64 256] 58)) fun e w' => e = .returned (.bool (fitK n.kids [2 ^ 8])) ∧ Below W.heap.size W w') := h_ (fun W b hb hr' => fitCall n.kids [2 ^ 8] v W b (by decide) (by decide) hb hr')
 have HR := h_ hr
 obtain ⟨a0, c0, rfl⟩ := RdK_slice hr
 unfold ndV
 rw [hk]
 clear hr
 generalize n.text = xt at *
 generalize fitK n.kids [2 ^ 8] = r at *
 go_enter Tryz.func38, Tryz.ntmps38
 go_wp2_with (go_at_call 55; refine (u_ K1 (w.alloc _) _ (by simp) (RdK_later (bal (brf w) _) (u_ HR))).mono ?_; rintro e v1 ⟨rfl, hb1⟩)
 go_ret
 exact ⟨rfl, btr (bal (brf w) _) hb1⟩
theorem kf7 (n : Nd) (v : Value) (w : World) (hr : RdK w n.kids v) (hk : n.kind = 7) :
   CB 38 #[ndV n v] w (.bool (fitK n.kids [2 ^ 8])) := by
 have K1 : Hid (∀ (W : World) (b : Nat), b = W.heap.size → RdK W n.kids v → Calls Tryz.prog 55 #[v, .slice (some ⟨b, 0, none⟩) 1 1] (W.alloc (Obj.cells #[.int .u64 256] 58)) fun e w' => e = .returned (.bool (fitK n.kids [2 ^ 8])) ∧ Below W.heap.size W w') := h_ (fun W b hb hr' => fitCall n.kids [2 ^ 8] v W b (by decide) (by decide) hb hr')
 have HR := h_ hr
 obtain ⟨a0, c0, rfl⟩ := RdK_slice hr
 unfold ndV
 rw [hk]
 clear hr
 generalize n.text = xt at *
 generalize fitK n.kids [2 ^ 8] = r at *
 go_enter Tryz.func38, Tryz.ntmps38
 go_wp2_with (go_at_call 55; refine (u_ K1 (w.alloc _) _ (by simp) (RdK_later (bal (brf w) _) (u_ HR))).mono ?_; rintro e v1 ⟨rfl, hb1⟩)
 go_ret
 exact ⟨rfl, btr (bal (brf w) _) hb1⟩
theorem kf9 (n : Nd) (v : Value) (w : World) (hr : RdK w n.kids v) (hk : n.kind = 9) :
   CB 38 #[ndV n v] w (.bool (fitK n.kids [2 ^ 8])) := by
 have K1 : Hid (∀ (W : World) (b : Nat), b = W.heap.size → RdK W n.kids v → Calls Tryz.prog 55 #[v, .slice (some ⟨b, 0, none⟩) 1 1] (W.alloc (Obj.cells #[.int .u64 256] 58)) fun e w' => e = .returned (.bool (fitK n.kids [2 ^ 8])) ∧ Below W.heap.size W w') := h_ (fun W b hb hr' => fitCall n.kids [2 ^ 8] v W b (by decide) (by decide) hb hr')
 have HR := h_ hr
 obtain ⟨a0, c0, rfl⟩ := RdK_slice hr
 unfold ndV
 rw [hk]
 clear hr
 generalize n.text = xt at *
 generalize fitK n.kids [2 ^ 8] = r at *
 go_enter Tryz.func38, Tryz.ntmps38
 go_wp2_with (go_at_call 55; refine (u_ K1 (w.alloc _) _ (by simp) (RdK_later (bal (brf w) _) (u_ HR))).mono ?_; rintro e v1 ⟨rfl, hb1⟩)
 go_ret
 exact ⟨rfl, btr (bal (brf w) _) hb1⟩
theorem kf11 (n : Nd) (v : Value) (w : World) (hr : RdK w n.kids v) (hk : n.kind = 11) :
   CB 38 #[ndV n v] w (.bool (fitK n.kids [2 ^ 8, expK])) := by
 have K1 : Hid (∀ (W : World) (b : Nat), b = W.heap.size → RdK W n.kids v → Calls Tryz.prog 55 #[v, .slice (some ⟨b, 0, none⟩) 2 2] (W.alloc (Obj.cells #[.int .u64 256, .int .u64 281406257233920] 58)) fun e w' => e = .returned (.bool (fitK n.kids [2 ^ 8, expK])) ∧ Below W.heap.size W w') := h_ (fun W b hb hr' => fitCall n.kids [2 ^ 8, expK] v W b (by decide) (by decide) hb hr')
 have HR := h_ hr
 obtain ⟨a0, c0, rfl⟩ := RdK_slice hr
 unfold ndV
 rw [hk]
 clear hr
 generalize n.text = xt at *
 generalize fitK n.kids [2 ^ 8, expK] = r at *
 go_enter Tryz.func38, Tryz.ntmps38
 go_wp2_with (go_at_call 55; refine (u_ K1 (w.alloc _) _ (by simp) (RdK_later (bal (brf w) _) (u_ HR))).mono ?_; rintro e v1 ⟨rfl, hb1⟩)
 go_ret
 exact ⟨rfl, btr (bal (brf w) _) hb1⟩
theorem kf15 (n : Nd) (v : Value) (w : World) (hr : RdK w n.kids v) (hk : n.kind = 15) :
   CB 38 #[ndV n v] w (.bool (fitK n.kids [2 ^ 26])) := by
 have K1 : Hid (∀ (W : World) (b : Nat), b = W.heap.size → RdK W n.kids v → Calls Tryz.prog 55 #[v, .slice (some ⟨b, 0, none⟩) 1 1] (W.alloc (Obj.cells #[.int .u64 67108864] 58)) fun e w' => e = .returned (.bool (fitK n.kids [2 ^ 26])) ∧ Below W.heap.size W w') := h_ (fun W b hb hr' => fitCall n.kids [2 ^ 26] v W b (by decide) (by decide) hb hr')
 have HR := h_ hr
 obtain ⟨a0, c0, rfl⟩ := RdK_slice hr
 unfold ndV
 rw [hk]
 clear hr
 generalize n.text = xt at *
 generalize fitK n.kids [2 ^ 26] = r at *
 go_enter Tryz.func38, Tryz.ntmps38
 go_wp2_with (go_at_call 55; refine (u_ K1 (w.alloc _) _ (by simp) (RdK_later (bal (brf w) _) (u_ HR))).mono ?_; rintro e v1 ⟨rfl, hb1⟩)
 go_ret
 exact ⟨rfl, btr (bal (brf w) _) hb1⟩
theorem kf16 (n : Nd) (v : Value) (w : World) (hr : RdK w n.kids v) (hk : n.kind = 16) :
   CB 38 #[ndV n v] w (.bool (fitK n.kids [2 ^ 26])) := by
 have K1 : Hid (∀ (W : World) (b : Nat), b = W.heap.size → RdK W n.kids v → Calls Tryz.prog 55 #[v, .slice (some ⟨b, 0, none⟩) 1 1] (W.alloc (Obj.cells #[.int .u64 67108864] 58)) fun e w' => e = .returned (.bool (fitK n.kids [2 ^ 26])) ∧ Below W.heap.size W w') := h_ (fun W b hb hr' => fitCall n.kids [2 ^ 26] v W b (by decide) (by decide) hb hr')
 have HR := h_ hr
 obtain ⟨a0, c0, rfl⟩ := RdK_slice hr
 unfold ndV
 rw [hk]
 clear hr
 generalize n.text = xt at *
 generalize fitK n.kids [2 ^ 26] = r at *
 go_enter Tryz.func38, Tryz.ntmps38
 go_wp2_with (go_at_call 55; refine (u_ K1 (w.alloc _) _ (by simp) (RdK_later (bal (brf w) _) (u_ HR))).mono ?_; rintro e v1 ⟨rfl, hb1⟩)
 go_ret
 exact ⟨rfl, btr (bal (brf w) _) hb1⟩
theorem kf17 (n : Nd) (v : Value) (w : World) (hr : RdK w n.kids v) (hk : n.kind = 17) :
   CB 38 #[ndV n v] w (.bool (fitK n.kids [2 ^ 26])) := by
 have K1 : Hid (∀ (W : World) (b : Nat), b = W.heap.size → RdK W n.kids v → Calls Tryz.prog 55 #[v, .slice (some ⟨b, 0, none⟩) 1 1] (W.alloc (Obj.cells #[.int .u64 67108864] 58)) fun e w' => e = .returned (.bool (fitK n.kids [2 ^ 26])) ∧ Below W.heap.size W w') := h_ (fun W b hb hr' => fitCall n.kids [2 ^ 26] v W b (by decide) (by decide) hb hr')
 have HR := h_ hr
 obtain ⟨a0, c0, rfl⟩ := RdK_slice hr
 unfold ndV
 rw [hk]
 clear hr
 generalize n.text = xt at *
 generalize fitK n.kids [2 ^ 26] = r at *
 go_enter Tryz.func38, Tryz.ntmps38
 go_wp2_with (go_at_call 55; refine (u_ K1 (w.alloc _) _ (by simp) (RdK_later (bal (brf w) _) (u_ HR))).mono ?_; rintro e v1 ⟨rfl, hb1⟩)
 go_ret
 exact ⟨rfl, btr (bal (brf w) _) hb1⟩
theorem kf32 (n : Nd) (v : Value) (w : World) (hr : RdK w n.kids v) (hk : n.kind = 32) :
   CB 38 #[ndV n v] w (.bool (fitK n.kids [2 ^ 26])) := by
 have K1 : Hid (∀ (W : World) (b : Nat), b = W.heap.size → RdK W n.kids v → Calls Tryz.prog 55 #[v, .slice (some ⟨b, 0, none⟩) 1 1] (W.alloc (Obj.cells #[.int .u64 67108864] 58)) fun e w' => e = .returned (.bool (fitK n.kids [2 ^ 26])) ∧ Below W.heap.size W w') := h_ (fun W b hb hr' => fitCall n.kids [2 ^ 26] v W b (by decide) (by decide) hb hr')
 have HR := h_ hr
 obtain ⟨a0, c0, rfl⟩ := RdK_slice hr
 unfold ndV
 rw [hk]
 clear hr
 generalize n.text = xt at *
 generalize fitK n.kids [2 ^ 26] = r at *
 go_enter Tryz.func38, Tryz.ntmps38
 go_wp2_with (go_at_call 55; refine (u_ K1 (w.alloc _) _ (by simp) (RdK_later (bal (brf w) _) (u_ HR))).mono ?_; rintro e v1 ⟨rfl, hb1⟩)
 go_ret
 exact ⟨rfl, btr (bal (brf w) _) hb1⟩
theorem kf20 (n : Nd) (v : Value) (w : World) (hr : RdK w n.kids v) (hk : n.kind = 20) :
   CB 38 #[ndV n v] w (.bool (fitK n.kids [expK, expK, 2 ^ 23])) := by
 have K1 : Hid (∀ (W : World) (b : Nat), b = W.heap.size → RdK W n.kids v → Calls Tryz.prog 55 #[v, .slice (some ⟨b, 0, none⟩) 3 3] (W.alloc (Obj.cells #[.int .u64 281406257233920, .int .u64 281406257233920, .int .u64 8388608] 58)) fun e w' => e = .returned (.bool (fitK n.kids [expK, expK, 2 ^ 23])) ∧ Below W.heap.size W w') := h_ (fun W b hb hr' => fitCall n.kids [expK, expK, 2 ^ 23] v W b (by decide) (by decide) hb hr')
 have HR := h_ hr
 obtain ⟨a0, c0, rfl⟩ := RdK_slice hr
 unfold ndV
 rw [hk]
 clear hr
 generalize n.text = xt at *
 generalize fitK n.kids [expK, expK, 2 ^ 23] = r at *
 go_enter Tryz.func38, Tryz.ntmps38
 go_wp2_with (go_at_call 55; refine (u_ K1 (w.alloc _) _ (by simp) (RdK_later (bal (brf w) _) (u_ HR))).mono ?_; rintro e v1 ⟨rfl, hb1⟩)
 go_ret
 exact ⟨rfl, btr (bal (brf w) _) hb1⟩
theorem kf33 (n : Nd) (v : Value) (w : World) (hr : RdK w n.kids v) (hk : n.kind = 33) :
   CB 38 #[ndV n v] w (.bool (fitK n.kids [expK, expK, 2 ^ 26])) := by
 have K1 : Hid (∀ (W : World) (b : Nat), b = W.heap.size → RdK W n.kids v → Calls Tryz.prog 55 #[v, .slice (some ⟨b, 0, none⟩) 3 3] (W.alloc (Obj.cells #[.int .u64 281406257233920, .int .u64 281406257233920, .int .u64 67108864] 58)) fun e w' => e = .returned (.bool (fitK n.kids [expK, expK, 2 ^ 26])) ∧ Below W.heap.size W w') := h_ (fun W b hb hr' => fitCall n.kids [expK, expK, 2 ^ 26] v W b (by decide) (by decide) hb hr')
 have HR := h_ hr
 obtain ⟨a0, c0, rfl⟩ := RdK_slice hr
 unfold ndV
 rw [hk]
 clear hr
 generalize n.text = xt at *
 generalize fitK n.kids [expK, expK, 2 ^ 26] = r at *
 go_enter Tryz.func38, Tryz.ntmps38
 go_wp2_with (go_at_call 55; refine (u_ K1 (w.alloc _) _ (by simp) (RdK_later (bal (brf w) _) (u_ HR))).mono ?_; rintro e v1 ⟨rfl, hb1⟩)
 go_ret
 exact ⟨rfl, btr (bal (brf w) _) hb1⟩
theorem kf22 (n : Nd) (v : Value) (w : World) (hr : RdK w n.kids v) (hk : n.kind = 22) :
   CB 38 #[ndV n v] w (.bool (fitK n.kids [2 ^ 37, 2 ^ 3, 2 ^ 24])) := by
 have K1 : Hid (∀ (W : World) (b : Nat), b = W.heap.size → RdK W n.kids v → Calls Tryz.prog 55 #[v, .slice (some ⟨b, 0, none⟩) 3 3] (W.alloc (Obj.cells #[.int .u64 137438953472, .int .u64 8, .int .u64 16777216] 58)) fun e w' => e = .returned (.bool (fitK n.kids [2 ^ 37, 2 ^ 3, 2 ^ 24])) ∧ Below W.heap.size W w') := h_ (fun W b hb hr' => fitCall n.kids [2 ^ 37, 2 ^ 3, 2 ^ 24] v W b (by decide) (by decide) hb hr')
 have HR := h_ hr
 obtain ⟨a0, c0, rfl⟩ := RdK_slice hr
 unfold ndV
 rw [hk]
 clear hr
 generalize n.text = xt at *
 generalize fitK n.kids [2 ^ 37, 2 ^ 3, 2 ^ 24] = r at *
 go_enter Tryz.func38, Tryz.ntmps38
 go_wp2_with (go_at_call 55; refine (u_ K1 (w.alloc _) _ (by simp) (RdK_later (bal (brf w) _) (u_ HR))).mono ?_; rintro e v1 ⟨rfl, hb1⟩)
 go_ret
 exact ⟨rfl, btr (bal (brf w) _) hb1⟩
set_option maxHeartbeats 400000
theorem kf10t (n : Nd) (v : Value) (w : World) (hr : RdK w n.kids v) (hk : n.kind = 10) (hB : fitK n.kids [2 ^ 8] = true) :
   CB 38 #[ndV n v] w (.bool true) := by
 have K1 : Hid (∀ (W : World) (b : Nat), b = W.heap.size → RdK W n.kids v → Calls Tryz.prog 55 #[v, .slice (some ⟨b, 0, none⟩) 1 1] (W.alloc (Obj.cells #[.int .u64 256] 58)) fun e w' => e = .returned (.bool (fitK n.kids [2 ^ 8])) ∧ Below W.heap.size W w') := h_ (fun W b hb hr' => fitCall n.kids [2 ^ 8] v W b (by decide) (by decide) hb hr')
 rw [hB] at K1
 have HR := h_ hr
 obtain ⟨a0, c0, rfl⟩ := RdK_slice hr
 unfold ndV
 rw [hk]
 clear hr hB
 generalize n.text = xt at *
 go_enter Tryz.func38, Tryz.ntmps38
 go_wp2_with (first | (go_at_call 55; refine (u_ K1 (w.alloc _) _ (by simp) (RdK_later (bal (brf w) _) (u_ HR))).mono ?_; rintro e v1 ⟨rfl, hb1⟩; obtain ⟨hc1, hf1⟩ := bcell hb1))
 go_ret
 exact ⟨rfl, btr (bal (brf w) _) hb1⟩
theorem kf10f (n : Nd) (v : Value) (w : World) (hr : RdK w n.kids v) (hk : n.kind = 10) (hB : fitK n.kids [2 ^ 8] = false) :
   CB 38 #[ndV n v] w (.bool (fitK n.kids [2 ^ 8, expK])) := by
 have K1 : Hid (∀ (W : World) (b : Nat), b = W.heap.size → RdK W n.kids v → Calls Tryz.prog 55 #[v, .slice (some ⟨b, 0, none⟩) 1 1] (W.alloc (Obj.cells #[.int .u64 256] 58)) fun e w' => e = .returned (.bool (fitK n.kids [2 ^ 8])) ∧ Below W.heap.size W w') := h_ (fun W b hb hr' => fitCall n.kids [2 ^ 8] v W b (by decide) (by decide) hb hr')
 rw [hB] at K1
 have K2 : Hid (∀ (W : World) (b : Nat), b = W.heap.size → RdK W n.kids v → Calls Tryz.prog 55 #[v, .slice (some ⟨b, 0, none⟩) 2 2] (W.alloc (Obj.cells #[.int .u64 256, .int .u64 281406257233920] 58)) fun e w' => e = .returned (.bool (fitK n.kids [2 ^ 8, expK])) ∧ Below W.heap.size W w') := h_ (fun W b hb hr' => fitCall n.kids [2 ^ 8, expK] v W b (by decide) (by decide) hb hr')
 have HR := h_ hr
 obtain ⟨a0, c0, rfl⟩ := RdK_slice hr
 unfold ndV
 rw [hk]
 clear hr hB
 generalize n.text = xt at *
 generalize fitK n.kids [2 ^ 8, expK] = r at *
 go_enter Tryz.func38, Tryz.ntmps38
 go_wp2_with (first | (go_at_call 55; refine (u_ K2 v1 _ rfl (RdK_later (btr (bal (brf w) _) hb1) (u_ HR))).mono ?_; rintro e v2 ⟨rfl, hb2⟩) | (go_at_call 55; refine (u_ K1 (w.alloc _) _ (by simp) (RdK_later (bal (brf w) _) (u_ HR))).mono ?_; rintro e v1 ⟨rfl, hb1⟩; obtain ⟨hc1, hf1⟩ := bcell hb1))
 go_ret
 exact ⟨rfl, btr (btr (bal (brf w) _) hb1) hb2⟩
theorem kf10 (n : Nd) (v : Value) (w : World) (hr : RdK w n.kids v) (hk : n.kind = 10) :
   CB 38 #[ndV n v] w (.bool (fitK n.kids [2 ^ 8] || fitK n.kids [2 ^ 8, expK])) := by
 cases hB : fitK n.kids [2 ^ 8] with
 | true => exact kf10t n v w hr hk hB
 | false => rw [Bool.false_or]; exact kf10f n v w hr hk hB
theorem kf21t (n : Nd) (v : Value) (w : World) (hr : RdK w n.kids v) (hk : n.kind = 21) (hB : fitK n.kids [expK, 2 ^ 23] = true) :
   CB 38 #[ndV n v] w (.bool true) := by
 have K1 : Hid (∀ (W : World) (b : Nat), b = W.heap.size → RdK W n.kids v → Calls Tryz.prog 55 #[v, .slice (some ⟨b, 0, none⟩) 2 2] (W.alloc (Obj.cells #[.int .u64 281406257233920, .int .u64 8388608] 58)) fun e w' => e = .returned (.bool (fitK n.kids [expK, 2 ^ 23])) ∧ Below W.heap.size W w') := h_ (fun W b hb hr' => fitCall n.kids [expK, 2 ^ 23] v W b (by decide) (by decide) hb hr')
 rw [hB] at K1
 have HR := h_ hr
 obtain ⟨a0, c0, rfl⟩ := RdK_slice hr
 unfold ndV
 rw [hk]
 clear hr hB
 generalize n.text = xt at *
 go_enter Tryz.func38, Tryz.ntmps38
 go_wp2_with (first | (go_at_call 55; refine (u_ K1 (w.alloc _) _ (by simp) (RdK_later (bal (brf w) _) (u_ HR))).mono ?_; rintro e v1 ⟨rfl, hb1⟩; obtain ⟨hc1, hf1⟩ := bcell hb1))
 go_ret
 exact ⟨rfl, btr (bal (brf w) _) hb1⟩
theorem kf21f (n : Nd) (v : Value) (w : World) (hr : RdK w n.kids v) (hk : n.kind = 21) (hB : fitK n.kids [expK, 2 ^ 23] = false) :
   CB 38 #[ndV n v] w (.bool (fitK n.kids [expK, 2 ^ 23, 2 ^ 23])) := by
 have K1 : Hid (∀ (W : World) (b : Nat), b = W.heap.size → RdK W n.kids v → Calls Tryz.prog 55 #[v, .slice (some ⟨b, 0, none⟩) 2 2] (W.alloc (Obj.cells #[.int .u64 281406257233920, .int .u64 8388608] 58)) fun e w' => e = .returned (.bool (fitK n.kids [expK, 2 ^ 23])) ∧ Below W.heap.size W w') := h_ (fun W b hb hr' => fitCall n.kids [expK, 2 ^ 23] v W b (by decide) (by decide) hb hr')
 rw [hB] at K1
 have K2 : Hid (∀ (W : World) (b : Nat), b = W.heap.size → RdK W n.kids v → Calls Tryz.prog 55 #[v, .slice (some ⟨b, 0, none⟩) 3 3] (W.alloc (Obj.cells #[.int .u64 281406257233920, .int .u64 8388608, .int .u64 8388608] 58)) fun e w' => e = .returned (.bool (fitK n.kids [expK, 2 ^ 23, 2 ^ 23])) ∧ Below W.heap.size W w') := h_ (fun W b hb hr' => fitCall n.kids [expK, 2 ^ 23, 2 ^ 23] v W b (by decide) (by decide) hb hr')
 have HR := h_ hr
 obtain ⟨a0, c0, rfl⟩ := RdK_slice hr
 unfold ndV
 rw [hk]
 clear hr hB
 generalize n.text = xt at *
 generalize fitK n.kids [expK, 2 ^ 23, 2 ^ 23] = r at *
 go_enter Tryz.func38, Tryz.ntmps38
 go_wp2_with (first | (go_at_call 55; refine (u_ K2 v1 _ rfl (RdK_later (btr (bal (brf w) _) hb1) (u_ HR))).mono ?_; rintro e v2 ⟨rfl, hb2⟩) | (go_at_call 55; refine (u_ K1 (w.alloc _) _ (by simp) (RdK_later (bal (brf w) _) (u_ HR))).mono ?_; rintro e v1 ⟨rfl, hb1⟩; obtain ⟨hc1, hf1⟩ := bcell hb1))
 go_ret
 exact ⟨rfl, btr (btr (bal (brf w) _) hb1) hb2⟩
theorem kf21 (n : Nd) (v : Value) (w : World) (hr : RdK w n.kids v) (hk : n.kind = 21) :
   CB 38 #[ndV n v] w (.bool (fitK n.kids [expK, 2 ^ 23] || fitK n.kids [expK, 2 ^ 23, 2 ^ 23])) := by
 cases hB : fitK n.kids [expK, 2 ^ 23] with
 | true => exact kf21t n v w hr hk hB
 | false => rw [Bool.false_or]; exact kf21f n v w hr hk hB
theorem kf29t (n : Nd) (v : Value) (w : World) (hr : RdK w n.kids v) (hk : n.kind = 29) (hB : fitK n.kids [expK, 2 ^ 26] = true) :
   CB 38 #[ndV n v] w (.bool true) := by
 have K1 : Hid (∀ (W : World) (b : Nat), b = W.heap.size → RdK W n.kids v → Calls Tryz.prog 55 #[v, .slice (some ⟨b, 0, none⟩) 2 2] (W.alloc (Obj.cells #[.int .u64 281406257233920, .int .u64 67108864] 58)) fun e w' => e = .returned (.bool (fitK n.kids [expK, 2 ^ 26])) ∧ Below W.heap.size W w') := h_ (fun W b hb hr' => fitCall n.kids [expK, 2 ^ 26] v W b (by decide) (by decide) hb hr')
 rw [hB] at K1
 have HR := h_ hr
 obtain ⟨a0, c0, rfl⟩ := RdK_slice hr
 unfold ndV
 rw [hk]
 clear hr hB
 generalize n.text = xt at *
 go_enter Tryz.func38, Tryz.ntmps38
 go_wp2_with (first | (go_at_call 55; refine (u_ K1 (w.alloc _) _ (by simp) (RdK_later (bal (brf w) _) (u_ HR))).mono ?_; rintro e v1 ⟨rfl, hb1⟩; obtain ⟨hc1, hf1⟩ := bcell hb1))
 go_ret
 exact ⟨rfl, btr (bal (brf w) _) hb1⟩
theorem kf29f (n : Nd) (v : Value) (w : World) (hr : RdK w n.kids v) (hk : n.kind = 29) (hB : fitK n.kids [expK, 2 ^ 26] = false) :
   CB 38 #[ndV n v] w (.bool (fitK n.kids [expK, 2 ^ 26, 2 ^ 26 + 2 ^ 29])) := by
 have K1 : Hid (∀ (W : World) (b : Nat), b = W.heap.size → RdK W n.kids v → Calls Tryz.prog 55 #[v, .slice (some ⟨b, 0, none⟩) 2 2] (W.alloc (Obj.cells #[.int .u64 281406257233920, .int .u64 67108864] 58)) fun e w' => e = .returned (.bool (fitK n.kids [expK, 2 ^ 26])) ∧ Below W.heap.size W w') := h_ (fun W b hb hr' => fitCall n.kids [expK, 2 ^ 26] v W b (by decide) (by decide) hb hr')
 rw [hB] at K1
 have K2 : Hid (∀ (W : World) (b : Nat), b = W.heap.size → RdK W n.kids v → Calls Tryz.prog 55 #[v, .slice (some ⟨b, 0, none⟩) 3 3] (W.alloc (Obj.cells #[.int .u64 281406257233920, .int .u64 67108864, .int .u64 603979776] 58)) fun e w' => e = .returned (.bool (fitK n.kids [expK, 2 ^ 26, 2 ^ 26 + 2 ^ 29])) ∧ Below W.heap.size W w') := h_ (fun W b hb hr' => fitCall n.kids [expK, 2 ^ 26, 2 ^ 26 + 2 ^ 29] v W b (by decide) (by decide) hb hr')
 have HR := h_ hr
 obtain ⟨a0, c0, rfl⟩ := RdK_slice hr
 unfold ndV
 rw [hk]
 clear hr hB
 generalize n.text = xt at *
 generalize fitK n.kids [expK, 2 ^ 26, 2 ^ 26 + 2 ^ 29] = r at *
 go_enter Tryz.func38, Tryz.ntmps38
 go_wp2_with (first | (go_at_call 55; refine (u_ K2 v1 _ rfl (RdK_later (btr (bal (brf w) _) hb1) (u_ HR))).mono ?_; rintro e v2 ⟨rfl, hb2⟩) | (go_at_call 55; refine (u_ K1 (w.alloc _) _ (by simp) (RdK_later (bal (brf w) _) (u_ HR))).mono ?_; rintro e v1 ⟨rfl, hb1⟩; obtain ⟨hc1, hf1⟩ := bcell hb1))
 go_ret
 exact ⟨rfl, btr (btr (bal (brf w) _) hb1) hb2⟩
theorem kf29 (n : Nd) (v : Value) (w : World) (hr : RdK w n.kids v) (hk : n.kind = 29) :
   CB 38 #[ndV n v] w (.bool (fitK n.kids [expK, 2 ^ 26] || fitK n.kids [expK, 2 ^ 26, 2 ^ 26 + 2 ^ 29])) := by
 cases hB : fitK n.kids [expK, 2 ^ 26] with
 | true => exact kf29t n v w hr hk hB
 | false => rw [Bool.false_or]; exact kf29f n v w hr hk hB
theorem emp_of2 {ks : List Nd} (h : ks ≠ []) : ks.isEmpty = false := by cases ks with | nil => exact absurd rfl h | cons x xs => rfl
theorem kf35e (n : Nd) (v : Value) (w : World) (hr : RdK w n.kids v) (hk : n.kind = 35) (hE : n.kids = []) :
   CB 38 #[ndV n v] w (.bool true) := by
 have HR := h_ hr
 have hl := len_ok hr
 have q0 : ((n.kids.length : Int) == 0) = true := by rw [hE]; rfl
 obtain ⟨a0, c0, rfl⟩ := RdK_slice hr
 unfold ndV
 rw [hk]
 clear hr
 generalize n.text = xt at *
 go_enter Tryz.func38, Tryz.ntmps38
 go_wp2
 go_ret
 exact ⟨rfl, bal (brf w) _⟩
theorem kf35f (n : Nd) (v : Value) (w : World) (hr : RdK w n.kids v) (hk : n.kind = 35) (hE : n.kids ≠ []) :
   CB 38 #[ndV n v] w (.bool false) := by
 have HR := h_ hr
 have hl := len_ok hr
 have q0 : ((n.kids.length : Int) == 0) = false := beq_eq_false_iff_ne.2 (by cases h : n.kids with | nil => exact absurd h hE | cons x xs => simp; omega)
 obtain ⟨a0, c0, rfl⟩ := RdK_slice hr
 unfold ndV
 rw [hk]
 clear hr
 generalize n.text = xt at *
 go_enter Tryz.func38, Tryz.ntmps38
 go_wp2
 go_ret
 exact ⟨rfl, bal (brf w) _⟩
theorem kf35 (n : Nd) (v : Value) (w : World) (hr : RdK w n.kids v) (hk : n.kind = 35) :
   CB 38 #[ndV n v] w (.bool n.kids.isEmpty) := by
 by_cases hE : n.kids = []
 · have e : n.kids.isEmpty = true := by rw [hE]; rfl
   rw [e]; exact kf35e n v w hr hk hE
 · rw [emp_of2 hE]; exact kf35f n v w hr hk hE
theorem kf36e (n : Nd) (v : Value) (w : World) (hr : RdK w n.kids v) (hk : n.kind = 36) (hE : n.kids = []) :
   CB 38 #[ndV n v] w (.bool true) := by
 have HR := h_ hr
 have hl := len_ok hr
 have q0 : ((n.kids.length : Int) == 0) = true := by rw [hE]; rfl
 obtain ⟨a0, c0, rfl⟩ := RdK_slice hr
 unfold ndV
 rw [hk]
 clear hr
 generalize n.text = xt at *
 go_enter Tryz.func38, Tryz.ntmps38
 go_wp2
 go_ret
 exact ⟨rfl, bal (brf w) _⟩
theorem kf36f (n : Nd) (v : Value) (w : World) (hr : RdK w n.kids v) (hk : n.kind = 36) (hE : n.kids ≠ []) :
   CB 38 #[ndV n v] w (.bool false) := by
 have HR := h_ hr
 have hl := len_ok hr
 have q0 : ((n.kids.length : Int) == 0) = false := beq_eq_false_iff_ne.2 (by cases h : n.kids with | nil => exact absurd h hE | cons x xs => simp; omega)
 obtain ⟨a0, c0, rfl⟩ := RdK_slice hr
 unfold ndV
 rw [hk]
 clear hr
 generalize n.text = xt at *
 go_enter Tryz.func38, Tryz.ntmps38
 go_wp2
 go_ret
 exact ⟨rfl, bal (brf w) _⟩
theorem kf36 (n : Nd) (v : Value) (w : World) (hr : RdK w n.kids v) (hk : n.kind = 36) :
   CB 38 #[ndV n v] w (.bool n.kids.isEmpty) := by
 by_cases hE : n.kids = []
 · have e : n.kids.isEmpty = true := by rw [hE]; rfl
   rw [e]; exact kf36e n v w hr hk hE
 · rw [emp_of2 hE]; exact kf36f n v w hr hk hE
theorem kf37e (n : Nd) (v : Value) (w : World) (hr : RdK w n.kids v) (hk : n.kind = 37) (hE : n.kids = []) :
   CB 38 #[ndV n v] w (.bool true) := by
 have HR := h_ hr
 have hl := len_ok hr
 have q0 : ((n.kids.length : Int) == 0) = true := by rw [hE]; rfl
 obtain ⟨a0, c0, rfl⟩ := RdK_slice hr
 unfold ndV
 rw [hk]
 clear hr
 generalize n.text = xt at *
 go_enter Tryz.func38, Tryz.ntmps38
 go_wp2
 go_ret
 exact ⟨rfl, bal (brf w) _⟩
theorem kf37f (n : Nd) (v : Value) (w : World) (hr : RdK w n.kids v) (hk : n.kind = 37) (hE : n.kids ≠ []) :
   CB 38 #[ndV n v] w (.bool false) := by
 have HR := h_ hr
 have hl := len_ok hr
 have q0 : ((n.kids.length : Int) == 0) = false := beq_eq_false_iff_ne.2 (by cases h : n.kids with | nil => exact absurd h hE | cons x xs => simp; omega)
 obtain ⟨a0, c0, rfl⟩ := RdK_slice hr
 unfold ndV
 rw [hk]
 clear hr
 generalize n.text = xt at *
 go_enter Tryz.func38, Tryz.ntmps38
 go_wp2
 go_ret
 exact ⟨rfl, bal (brf w) _⟩
theorem kf37 (n : Nd) (v : Value) (w : World) (hr : RdK w n.kids v) (hk : n.kind = 37) :
   CB 38 #[ndV n v] w (.bool n.kids.isEmpty) := by
 by_cases hE : n.kids = []
 · have e : n.kids.isEmpty = true := by rw [hE]; rfl
   rw [e]; exact kf37e n v w hr hk hE
 · rw [emp_of2 hE]; exact kf37f n v w hr hk hE
theorem kf8e (n : Nd) (v : Value) (w : World) (hr : RdK w n.kids v) (hk : n.kind = 8) (hE : n.kids = []) :
   CB 38 #[ndV n v] w (.bool true) := by
 have HR := h_ hr
 have hl := len_ok hr
 have q0 : ((n.kids.length : Int) == 0) = true := by rw [hE]; rfl
 obtain ⟨a0, c0, rfl⟩ := RdK_slice hr
 unfold ndV
 rw [hk]
 clear hr
 generalize n.text = xt at *
 go_enter Tryz.func38, Tryz.ntmps38
 go_wp2
 go_ret
 exact ⟨rfl, bal (brf w) _⟩
theorem kf8f (n : Nd) (v : Value) (w : World) (hr : RdK w n.kids v) (hk : n.kind = 8) (hE : n.kids ≠ []) :
   CB 38 #[ndV n v] w (.bool (fitK n.kids [expK])) := by
 have K1 : Hid (∀ (W : World) (b : Nat), b = W.heap.size → RdK W n.kids v → Calls Tryz.prog 55 #[v, .slice (some ⟨b, 0, none⟩) 1 1] (W.alloc (Obj.cells #[.int .u64 281406257233920] 58)) fun e w' => e = .returned (.bool (fitK n.kids [expK])) ∧ Below W.heap.size W w') := h_ (fun W b hb hr' => fitCall n.kids [expK] v W b (by decide) (by decide) hb hr')
 have HR := h_ hr
 have hl := len_ok hr
 have q0 : ((n.kids.length : Int) == 0) = false := beq_eq_false_iff_ne.2 (by cases h : n.kids with | nil => exact absurd h hE | cons x xs => simp; omega)
 obtain ⟨a0, c0, rfl⟩ := RdK_slice hr
 unfold ndV
 rw [hk]
 clear hr
 generalize n.text = xt at *
 generalize fitK n.kids [expK] = r at *
 go_enter Tryz.func38, Tryz.ntmps38
 go_wp2_with (first | (go_at_call 55; refine (u_ K1 (w.alloc _) _ (by simp) (RdK_later (bal (brf w) _) (u_ HR))).mono ?_; rintro e v1 ⟨rfl, hb1⟩))
 go_ret
 exact ⟨rfl, btr (bal (brf w) _) hb1⟩
theorem kf8 (n : Nd) (v : Value) (w : World) (hr : RdK w n.kids v) (hk : n.kind = 8) :
   CB 38 #[ndV n v] w (.bool (n.kids.isEmpty || fitK n.kids [expK])) := by
 by_cases hE : n.kids = []
 · have e : (n.kids.isEmpty || fitK n.kids [expK]) = true := by rw [hE]; rfl
   rw [e]; exact kf8e n v w hr hk hE
 · rw [emp_of2 hE, Bool.false_or]; exact kf8f n v w hr hk hE
end Go.Proofs.YtddlokkejglckaaGreatDoor
