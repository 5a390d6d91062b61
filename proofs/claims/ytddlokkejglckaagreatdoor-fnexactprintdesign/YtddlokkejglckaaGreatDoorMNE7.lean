/- Parts of the proof: NE7 to NE6. -/
import Derived.Test.YtddlokkejglckaaGreatDoorMNE2
namespace Go.Proofs.YtddlokkejglckaaGreatDoor
open Go.RowKit Nt
set_option maxHeartbeats 400000
set_option linter.unusedVariables false
set_option maxRecDepth 100000
theorem it19n (n : Nd) (ih : ∀ x ∈ n.kids, IsC x) (v : Value) (w : World) (ht : n.text.size ≤ maxLen) (hr : RdK w n.kids v) (hk : n.kind = 19) (hA : (freeB n.text) = false) :
   CB 48 #[ndV n v] w (.bool false) := by
 have FR := h_ (fun w' => sFree n.text w' ht)
 rw [hA] at FR
 obtain ⟨a0, c0, rfl⟩ := RdK_slice hr
 unfold ndV
 rw [hk]
 clear hr ht hA ih
 generalize n.text = xt at *
 go_enter Tryz.func48, Tryz.ntmps48
 go_wp2_with (first | (go_at_call 47; refine (u_ FR _).mono ?_; rintro e w' ⟨rfl, rfl⟩))
 go_ret
 exact ⟨rfl, bal (brf w) _⟩
theorem it19f (n : Nd) (ih : ∀ x ∈ n.kids, IsC x) (v : Value) (w : World) (ht : n.text.size ≤ maxLen) (hr : RdK w n.kids v) (hk : n.kind = 19) (hA : (freeB n.text) = true) (hB : (kidsB n.kids [116, 70, 101]) = false) :
   CB 48 #[ndV n v] w (.bool false) := by
 have FR := h_ (fun w' => sFree n.text w' ht)
 rw [hA] at FR
 have K1 := h_ (fun w' hr' => kidsN n ih v w' ⟨#[116, 70, 101]⟩ (by decide) (by decide) hr')
 have hk1 : ltr ⟨#[116, 70, 101]⟩ = [116, 70, 101] := by decide
 rw [hk1] at K1
 rw [hB] at K1
 have HR := h_ hr
 obtain ⟨a0, c0, rfl⟩ := RdK_slice hr
 unfold ndV at K1 ⊢
 rw [hk] at K1 ⊢
 clear hr ht hA hB ih
 generalize n.text = xt at *
 go_enter Tryz.func48, Tryz.ntmps48
 go_wp2_with (first | (go_at_call 47; refine (u_ FR _).mono ?_; rintro e w' ⟨rfl, rfl⟩) | (go_at_call 46; refine (u_ K1 _ (RdK_later (bal (brf w) _) (u_ HR))).mono ?_; rintro e v1 ⟨rfl, hb1⟩))
 go_ret
 exact ⟨rfl, btr (bal (brf w) _) hb1⟩
theorem it19t (n : Nd) (ih : ∀ x ∈ n.kids, IsC x) (v : Value) (w : World) (ht : n.text.size ≤ maxLen) (hr : RdK w n.kids v) (hk : n.kind = 19) (hA : (freeB n.text) = true) (hB : (kidsB n.kids [116, 70, 101]) = true) :
   CB 48 #[ndV n v] w (.bool true) := by
 have FR := h_ (fun w' => sFree n.text w' ht)
 rw [hA] at FR
 have K1 := h_ (fun w' hr' => kidsN n ih v w' ⟨#[116, 70, 101]⟩ (by decide) (by decide) hr')
 have hk1 : ltr ⟨#[116, 70, 101]⟩ = [116, 70, 101] := by decide
 rw [hk1] at K1
 rw [hB] at K1
 have HR := h_ hr
 obtain ⟨a0, c0, rfl⟩ := RdK_slice hr
 unfold ndV at K1 ⊢
 rw [hk] at K1 ⊢
 clear hr ht hA hB ih
 generalize n.text = xt at *
 go_enter Tryz.func48, Tryz.ntmps48
 go_wp2_with (first | (go_at_call 47; refine (u_ FR _).mono ?_; rintro e w' ⟨rfl, rfl⟩) | (go_at_call 46; refine (u_ K1 _ (RdK_later (bal (brf w) _) (u_ HR))).mono ?_; rintro e v1 ⟨rfl, hb1⟩))
 go_ret
 exact ⟨rfl, btr (bal (brf w) _) hb1⟩
theorem it19 (n : Nd) (ih : ∀ x ∈ n.kids, IsC x) (v : Value) (w : World) (ht : n.text.size ≤ maxLen) (hr : RdK w n.kids v) (hk : n.kind = 19) :
   CB 48 #[ndV n v] w (.bool ((freeB n.text) && kidsB n.kids [116, 70, 101])) := by
 cases hA : (freeB n.text) with
 | false => exact it19n n ih v w ht hr hk hA
 | true =>
   cases hB : (kidsB n.kids [116, 70, 101]) with
   | false => exact it19f n ih v w ht hr hk hA hB
   | true => exact it19t n ih v w ht hr hk hA hB
theorem it20n (n : Nd) (ih : ∀ x ∈ n.kids, IsC x) (v : Value) (w : World) (ht : n.text.size ≤ maxLen) (hr : RdK w n.kids v) (hk : n.kind = 20) (hA : (freeB n.text) = false) :
   CB 48 #[ndV n v] w (.bool false) := by
 have FR := h_ (fun w' => sFree n.text w' ht)
 rw [hA] at FR
 obtain ⟨a0, c0, rfl⟩ := RdK_slice hr
 unfold ndV
 rw [hk]
 clear hr ht hA ih
 generalize n.text = xt at *
 go_enter Tryz.func48, Tryz.ntmps48
 go_wp2_with (first | (go_at_call 47; refine (u_ FR _).mono ?_; rintro e w' ⟨rfl, rfl⟩))
 go_ret
 exact ⟨rfl, bal (brf w) _⟩
theorem it20f (n : Nd) (ih : ∀ x ∈ n.kids, IsC x) (v : Value) (w : World) (ht : n.text.size ≤ maxLen) (hr : RdK w n.kids v) (hk : n.kind = 20) (hA : (freeB n.text) = true) (hB : (kidsB n.kids [101, 101, 115]) = false) :
   CB 48 #[ndV n v] w (.bool false) := by
 have FR := h_ (fun w' => sFree n.text w' ht)
 rw [hA] at FR
 have K1 := h_ (fun w' hr' => kidsN n ih v w' ⟨#[101, 101, 115]⟩ (by decide) (by decide) hr')
 have hk1 : ltr ⟨#[101, 101, 115]⟩ = [101, 101, 115] := by decide
 rw [hk1] at K1
 rw [hB] at K1
 have HR := h_ hr
 obtain ⟨a0, c0, rfl⟩ := RdK_slice hr
 unfold ndV at K1 ⊢
 rw [hk] at K1 ⊢
 clear hr ht hA hB ih
 generalize n.text = xt at *
 go_enter Tryz.func48, Tryz.ntmps48
 go_wp2_with (first | (go_at_call 47; refine (u_ FR _).mono ?_; rintro e w' ⟨rfl, rfl⟩) | (go_at_call 46; refine (u_ K1 _ (RdK_later (bal (brf w) _) (u_ HR))).mono ?_; rintro e v1 ⟨rfl, hb1⟩))
 go_ret
 exact ⟨rfl, btr (bal (brf w) _) hb1⟩
theorem it20t (n : Nd) (ih : ∀ x ∈ n.kids, IsC x) (v : Value) (w : World) (ht : n.text.size ≤ maxLen) (hr : RdK w n.kids v) (hk : n.kind = 20) (hA : (freeB n.text) = true) (hB : (kidsB n.kids [101, 101, 115]) = true) :
   CB 48 #[ndV n v] w (.bool true) := by
 have FR := h_ (fun w' => sFree n.text w' ht)
 rw [hA] at FR
 have K1 := h_ (fun w' hr' => kidsN n ih v w' ⟨#[101, 101, 115]⟩ (by decide) (by decide) hr')
 have hk1 : ltr ⟨#[101, 101, 115]⟩ = [101, 101, 115] := by decide
 rw [hk1] at K1
 rw [hB] at K1
 have HR := h_ hr
 obtain ⟨a0, c0, rfl⟩ := RdK_slice hr
 unfold ndV at K1 ⊢
 rw [hk] at K1 ⊢
 clear hr ht hA hB ih
 generalize n.text = xt at *
 go_enter Tryz.func48, Tryz.ntmps48
 go_wp2_with (first | (go_at_call 47; refine (u_ FR _).mono ?_; rintro e w' ⟨rfl, rfl⟩) | (go_at_call 46; refine (u_ K1 _ (RdK_later (bal (brf w) _) (u_ HR))).mono ?_; rintro e v1 ⟨rfl, hb1⟩))
 go_ret
 exact ⟨rfl, btr (bal (brf w) _) hb1⟩
theorem it20 (n : Nd) (ih : ∀ x ∈ n.kids, IsC x) (v : Value) (w : World) (ht : n.text.size ≤ maxLen) (hr : RdK w n.kids v) (hk : n.kind = 20) :
   CB 48 #[ndV n v] w (.bool ((freeB n.text) && kidsB n.kids [101, 101, 115])) := by
 cases hA : (freeB n.text) with
 | false => exact it20n n ih v w ht hr hk hA
 | true =>
   cases hB : (kidsB n.kids [101, 101, 115]) with
   | false => exact it20f n ih v w ht hr hk hA hB
   | true => exact it20t n ih v w ht hr hk hA hB
theorem it22n (n : Nd) (ih : ∀ x ∈ n.kids, IsC x) (v : Value) (w : World) (ht : n.text.size ≤ maxLen) (hr : RdK w n.kids v) (hk : n.kind = 22) (hA : (freeB n.text) = false) :
   CB 48 #[ndV n v] w (.bool false) := by
 have FR := h_ (fun w' => sFree n.text w' ht)
 rw [hA] at FR
 obtain ⟨a0, c0, rfl⟩ := RdK_slice hr
 unfold ndV
 rw [hk]
 clear hr ht hA ih
 generalize n.text = xt at *
 go_enter Tryz.func48, Tryz.ntmps48
 go_wp2_with (first | (go_at_call 47; refine (u_ FR _).mono ?_; rintro e w' ⟨rfl, rfl⟩))
 go_ret
 exact ⟨rfl, bal (brf w) _⟩
theorem it22f (n : Nd) (ih : ∀ x ∈ n.kids, IsC x) (v : Value) (w : World) (ht : n.text.size ≤ maxLen) (hr : RdK w n.kids v) (hk : n.kind = 22) (hA : (freeB n.text) = true) (hB : (kidsB n.kids [110, 112, 99]) = false) :
   CB 48 #[ndV n v] w (.bool false) := by
 have FR := h_ (fun w' => sFree n.text w' ht)
 rw [hA] at FR
 have K1 := h_ (fun w' hr' => kidsN n ih v w' ⟨#[110, 112, 99]⟩ (by decide) (by decide) hr')
 have hk1 : ltr ⟨#[110, 112, 99]⟩ = [110, 112, 99] := by decide
 rw [hk1] at K1
 rw [hB] at K1
 have HR := h_ hr
 obtain ⟨a0, c0, rfl⟩ := RdK_slice hr
 unfold ndV at K1 ⊢
 rw [hk] at K1 ⊢
 clear hr ht hA hB ih
 generalize n.text = xt at *
 go_enter Tryz.func48, Tryz.ntmps48
 go_wp2_with (first | (go_at_call 47; refine (u_ FR _).mono ?_; rintro e w' ⟨rfl, rfl⟩) | (go_at_call 46; refine (u_ K1 _ (RdK_later (bal (brf w) _) (u_ HR))).mono ?_; rintro e v1 ⟨rfl, hb1⟩))
 go_ret
 exact ⟨rfl, btr (bal (brf w) _) hb1⟩
theorem it22t (n : Nd) (ih : ∀ x ∈ n.kids, IsC x) (v : Value) (w : World) (ht : n.text.size ≤ maxLen) (hr : RdK w n.kids v) (hk : n.kind = 22) (hA : (freeB n.text) = true) (hB : (kidsB n.kids [110, 112, 99]) = true) :
   CB 48 #[ndV n v] w (.bool true) := by
 have FR := h_ (fun w' => sFree n.text w' ht)
 rw [hA] at FR
 have K1 := h_ (fun w' hr' => kidsN n ih v w' ⟨#[110, 112, 99]⟩ (by decide) (by decide) hr')
 have hk1 : ltr ⟨#[110, 112, 99]⟩ = [110, 112, 99] := by decide
 rw [hk1] at K1
 rw [hB] at K1
 have HR := h_ hr
 obtain ⟨a0, c0, rfl⟩ := RdK_slice hr
 unfold ndV at K1 ⊢
 rw [hk] at K1 ⊢
 clear hr ht hA hB ih
 generalize n.text = xt at *
 go_enter Tryz.func48, Tryz.ntmps48
 go_wp2_with (first | (go_at_call 47; refine (u_ FR _).mono ?_; rintro e w' ⟨rfl, rfl⟩) | (go_at_call 46; refine (u_ K1 _ (RdK_later (bal (brf w) _) (u_ HR))).mono ?_; rintro e v1 ⟨rfl, hb1⟩))
 go_ret
 exact ⟨rfl, btr (bal (brf w) _) hb1⟩
theorem it22 (n : Nd) (ih : ∀ x ∈ n.kids, IsC x) (v : Value) (w : World) (ht : n.text.size ≤ maxLen) (hr : RdK w n.kids v) (hk : n.kind = 22) :
   CB 48 #[ndV n v] w (.bool ((freeB n.text) && kidsB n.kids [110, 112, 99])) := by
 cases hA : (freeB n.text) with
 | false => exact it22n n ih v w ht hr hk hA
 | true =>
   cases hB : (kidsB n.kids [110, 112, 99]) with
   | false => exact it22f n ih v w ht hr hk hA hB
   | true => exact it22t n ih v w ht hr hk hA hB
theorem it10n (n : Nd) (ih : ∀ x ∈ n.kids, IsC x) (v : Value) (w : World) (ht : n.text.size ≤ maxLen) (hr : RdK w n.kids v) (hk : n.kind = 10) (hA : (freeB n.text) = false) :
   CB 48 #[ndV n v] w (.bool false) := by
 have FR := h_ (fun w' => sFree n.text w' ht)
 rw [hA] at FR
 obtain ⟨a0, c0, rfl⟩ := RdK_slice hr
 unfold ndV
 rw [hk]
 clear hr ht hA ih
 generalize n.text = xt at *
 go_enter Tryz.func48, Tryz.ntmps48
 go_wp2_with (first | (go_at_call 47; refine (u_ FR _).mono ?_; rintro e w' ⟨rfl, rfl⟩))
 go_ret
 exact ⟨rfl, bal (brf w) _⟩
theorem it10t (n : Nd) (ih : ∀ x ∈ n.kids, IsC x) (v : Value) (w : World) (ht : n.text.size ≤ maxLen) (hr : RdK w n.kids v) (hk : n.kind = 10) (hA : (freeB n.text) = true) (hB : kidsB n.kids [116] = true) :
   CB 48 #[ndV n v] w (.bool true) := by
 have FR := h_ (fun w' => sFree n.text w' ht)
 rw [hA] at FR
 have K1 := h_ (fun w' hr' => kidsN n ih v w' ⟨#[116]⟩ (by decide) (by decide) hr')
 have hk1 : ltr ⟨#[116]⟩ = [116] := by decide
 rw [hk1, hB] at K1
 have HR := h_ hr
 obtain ⟨a0, c0, rfl⟩ := RdK_slice hr
 unfold ndV at K1 ⊢
 rw [hk] at K1 ⊢
 clear hr ht hA hB ih
 generalize n.text = xt at *
 go_enter Tryz.func48, Tryz.ntmps48
 go_wp2_with (first | (go_at_call 47; refine (u_ FR _).mono ?_; rintro e w' ⟨rfl, rfl⟩) | (go_at_call_of 46 (Value.string ⟨#[116]⟩); refine (u_ K1 _ (RdK_later (bal (brf w) _) (u_ HR))).mono ?_; rintro e v1 ⟨rfl, hb1⟩; obtain ⟨hc1, hf1⟩ := bcell hb1))
 go_ret
 exact ⟨rfl, btr (bal (brf w) _) hb1⟩
theorem it10ft (n : Nd) (ih : ∀ x ∈ n.kids, IsC x) (v : Value) (w : World) (ht : n.text.size ≤ maxLen) (hr : RdK w n.kids v) (hk : n.kind = 10) (hA : (freeB n.text) = true) (hB : kidsB n.kids [116] = false) (hC : kidsB n.kids [116, 101] = true) :
   CB 48 #[ndV n v] w (.bool true) := by
 have FR := h_ (fun w' => sFree n.text w' ht)
 rw [hA] at FR
 have K1 := h_ (fun w' hr' => kidsN n ih v w' ⟨#[116]⟩ (by decide) (by decide) hr')
 have hk1 : ltr ⟨#[116]⟩ = [116] := by decide
 rw [hk1, hB] at K1
 have K2 := h_ (fun w' hr' => kidsN n ih v w' ⟨#[116, 101]⟩ (by decide) (by decide) hr')
 have hk2 : ltr ⟨#[116, 101]⟩ = [116, 101] := by decide
 rw [hk2, hC] at K2
 have HR := h_ hr
 obtain ⟨a0, c0, rfl⟩ := RdK_slice hr
 unfold ndV at K1 K2 ⊢
 rw [hk] at K1 K2 ⊢
 clear hr ht hA hB hC ih
 generalize n.text = xt at *
 go_enter Tryz.func48, Tryz.ntmps48
 go_wp2_with (first | (go_at_call 47; refine (u_ FR _).mono ?_; rintro e w' ⟨rfl, rfl⟩) | (go_at_call_of 46 (Value.string ⟨#[116]⟩); refine (u_ K1 _ (RdK_later (bal (brf w) _) (u_ HR))).mono ?_; rintro e v1 ⟨rfl, hb1⟩; obtain ⟨hc1, hf1⟩ := bcell hb1) | (go_at_call_of 46 (Value.string ⟨#[116, 101]⟩); refine (u_ K2 _ (RdK_later (btr (bal (brf w) _) hb1) (u_ HR))).mono ?_; rintro e v2 ⟨rfl, hb2⟩))
 go_ret
 exact ⟨rfl, btr (btr (bal (brf w) _) hb1) hb2⟩
theorem it10ff (n : Nd) (ih : ∀ x ∈ n.kids, IsC x) (v : Value) (w : World) (ht : n.text.size ≤ maxLen) (hr : RdK w n.kids v) (hk : n.kind = 10) (hA : (freeB n.text) = true) (hB : kidsB n.kids [116] = false) (hC : kidsB n.kids [116, 101] = false) :
   CB 48 #[ndV n v] w (.bool false) := by
 have FR := h_ (fun w' => sFree n.text w' ht)
 rw [hA] at FR
 have K1 := h_ (fun w' hr' => kidsN n ih v w' ⟨#[116]⟩ (by decide) (by decide) hr')
 have hk1 : ltr ⟨#[116]⟩ = [116] := by decide
 rw [hk1, hB] at K1
 have K2 := h_ (fun w' hr' => kidsN n ih v w' ⟨#[116, 101]⟩ (by decide) (by decide) hr')
 have hk2 : ltr ⟨#[116, 101]⟩ = [116, 101] := by decide
 rw [hk2, hC] at K2
 have HR := h_ hr
 obtain ⟨a0, c0, rfl⟩ := RdK_slice hr
 unfold ndV at K1 K2 ⊢
 rw [hk] at K1 K2 ⊢
 clear hr ht hA hB hC ih
 generalize n.text = xt at *
 go_enter Tryz.func48, Tryz.ntmps48
 go_wp2_with (first | (go_at_call 47; refine (u_ FR _).mono ?_; rintro e w' ⟨rfl, rfl⟩) | (go_at_call_of 46 (Value.string ⟨#[116]⟩); refine (u_ K1 _ (RdK_later (bal (brf w) _) (u_ HR))).mono ?_; rintro e v1 ⟨rfl, hb1⟩; obtain ⟨hc1, hf1⟩ := bcell hb1) | (go_at_call_of 46 (Value.string ⟨#[116, 101]⟩); refine (u_ K2 _ (RdK_later (btr (bal (brf w) _) hb1) (u_ HR))).mono ?_; rintro e v2 ⟨rfl, hb2⟩))
 go_ret
 exact ⟨rfl, btr (btr (bal (brf w) _) hb1) hb2⟩
theorem it10 (n : Nd) (ih : ∀ x ∈ n.kids, IsC x) (v : Value) (w : World) (ht : n.text.size ≤ maxLen) (hr : RdK w n.kids v) (hk : n.kind = 10) :
   CB 48 #[ndV n v] w (.bool ((freeB n.text) && (kidsB n.kids [116] || kidsB n.kids [116, 101]))) := by
 cases hA : (freeB n.text) with
 | false => exact it10n n ih v w ht hr hk hA
 | true =>
   cases hB : kidsB n.kids [116] with
   | true => exact it10t n ih v w ht hr hk hA hB
   | false =>
     cases hC : kidsB n.kids [116, 101] with
     | true => exact it10ft n ih v w ht hr hk hA hB hC
     | false => exact it10ff n ih v w ht hr hk hA hB hC
theorem it21n (n : Nd) (ih : ∀ x ∈ n.kids, IsC x) (v : Value) (w : World) (ht : n.text.size ≤ maxLen) (hr : RdK w n.kids v) (hk : n.kind = 21) (hA : (n.text.size == 0) = false) :
   CB 48 #[ndV n v] w (.bool false) := by
 have hn : n.text.toList.isEmpty = false := by rw [toListL, ← L_emp]; exact hA
 obtain ⟨a0, c0, rfl⟩ := RdK_slice hr
 unfold ndV
 rw [hk]
 clear hr ht hA ih
 generalize n.text = xt at *
 go_enter Tryz.func48, Tryz.ntmps48
 go_wp2
 go_ret
 exact ⟨rfl, bal (brf w) _⟩
theorem it21t (n : Nd) (ih : ∀ x ∈ n.kids, IsC x) (v : Value) (w : World) (ht : n.text.size ≤ maxLen) (hr : RdK w n.kids v) (hk : n.kind = 21) (hA : (n.text.size == 0) = true) (hB : kidsB n.kids [101, 115] = true) :
   CB 48 #[ndV n v] w (.bool true) := by
 have hn : n.text.toList.isEmpty = true := by rw [toListL, ← L_emp]; exact hA
 have K1 := h_ (fun w' hr' => kidsN n ih v w' ⟨#[101, 115]⟩ (by decide) (by decide) hr')
 have hk1 : ltr ⟨#[101, 115]⟩ = [101, 115] := by decide
 rw [hk1, hB] at K1
 have HR := h_ hr
 obtain ⟨a0, c0, rfl⟩ := RdK_slice hr
 unfold ndV at K1 ⊢
 rw [hk] at K1 ⊢
 clear hr ht hA hB ih
 generalize n.text = xt at *
 go_enter Tryz.func48, Tryz.ntmps48
 go_wp2_with (first | (go_at_call_of 46 (Value.string ⟨#[101, 115]⟩); refine (u_ K1 _ (RdK_later (bal (brf w) _) (u_ HR))).mono ?_; rintro e v1 ⟨rfl, hb1⟩; obtain ⟨hc1, hf1⟩ := bcell hb1))
 go_ret
 exact ⟨rfl, btr (bal (brf w) _) hb1⟩
theorem it21ft (n : Nd) (ih : ∀ x ∈ n.kids, IsC x) (v : Value) (w : World) (ht : n.text.size ≤ maxLen) (hr : RdK w n.kids v) (hk : n.kind = 21) (hA : (n.text.size == 0) = true) (hB : kidsB n.kids [101, 115] = false) (hC : kidsB n.kids [101, 115, 115] = true) :
   CB 48 #[ndV n v] w (.bool true) := by
 have hn : n.text.toList.isEmpty = true := by rw [toListL, ← L_emp]; exact hA
 have K1 := h_ (fun w' hr' => kidsN n ih v w' ⟨#[101, 115]⟩ (by decide) (by decide) hr')
 have hk1 : ltr ⟨#[101, 115]⟩ = [101, 115] := by decide
 rw [hk1, hB] at K1
 have K2 := h_ (fun w' hr' => kidsN n ih v w' ⟨#[101, 115, 115]⟩ (by decide) (by decide) hr')
 have hk2 : ltr ⟨#[101, 115, 115]⟩ = [101, 115, 115] := by decide
 rw [hk2, hC] at K2
 have HR := h_ hr
 obtain ⟨a0, c0, rfl⟩ := RdK_slice hr
 unfold ndV at K1 K2 ⊢
 rw [hk] at K1 K2 ⊢
 clear hr ht hA hB hC ih
 generalize n.text = xt at *
 go_enter Tryz.func48, Tryz.ntmps48
 go_wp2_with (first | (go_at_call_of 46 (Value.string ⟨#[101, 115]⟩); refine (u_ K1 _ (RdK_later (bal (brf w) _) (u_ HR))).mono ?_; rintro e v1 ⟨rfl, hb1⟩; obtain ⟨hc1, hf1⟩ := bcell hb1) | (go_at_call_of 46 (Value.string ⟨#[101, 115, 115]⟩); refine (u_ K2 _ (RdK_later (btr (bal (brf w) _) hb1) (u_ HR))).mono ?_; rintro e v2 ⟨rfl, hb2⟩))
 go_ret
 exact ⟨rfl, btr (btr (bal (brf w) _) hb1) hb2⟩
theorem it21ff (n : Nd) (ih : ∀ x ∈ n.kids, IsC x) (v : Value) (w : World) (ht : n.text.size ≤ maxLen) (hr : RdK w n.kids v) (hk : n.kind = 21) (hA : (n.text.size == 0) = true) (hB : kidsB n.kids [101, 115] = false) (hC : kidsB n.kids [101, 115, 115] = false) :
   CB 48 #[ndV n v] w (.bool false) := by
 have hn : n.text.toList.isEmpty = true := by rw [toListL, ← L_emp]; exact hA
 have K1 := h_ (fun w' hr' => kidsN n ih v w' ⟨#[101, 115]⟩ (by decide) (by decide) hr')
 have hk1 : ltr ⟨#[101, 115]⟩ = [101, 115] := by decide
 rw [hk1, hB] at K1
 have K2 := h_ (fun w' hr' => kidsN n ih v w' ⟨#[101, 115, 115]⟩ (by decide) (by decide) hr')
 have hk2 : ltr ⟨#[101, 115, 115]⟩ = [101, 115, 115] := by decide
 rw [hk2, hC] at K2
 have HR := h_ hr
 obtain ⟨a0, c0, rfl⟩ := RdK_slice hr
 unfold ndV at K1 K2 ⊢
 rw [hk] at K1 K2 ⊢
 clear hr ht hA hB hC ih
 generalize n.text = xt at *
 go_enter Tryz.func48, Tryz.ntmps48
 go_wp2_with (first | (go_at_call_of 46 (Value.string ⟨#[101, 115]⟩); refine (u_ K1 _ (RdK_later (bal (brf w) _) (u_ HR))).mono ?_; rintro e v1 ⟨rfl, hb1⟩; obtain ⟨hc1, hf1⟩ := bcell hb1) | (go_at_call_of 46 (Value.string ⟨#[101, 115, 115]⟩); refine (u_ K2 _ (RdK_later (btr (bal (brf w) _) hb1) (u_ HR))).mono ?_; rintro e v2 ⟨rfl, hb2⟩))
 go_ret
 exact ⟨rfl, btr (btr (bal (brf w) _) hb1) hb2⟩
theorem it21 (n : Nd) (ih : ∀ x ∈ n.kids, IsC x) (v : Value) (w : World) (ht : n.text.size ≤ maxLen) (hr : RdK w n.kids v) (hk : n.kind = 21) :
   CB 48 #[ndV n v] w (.bool ((n.text.size == 0) && (kidsB n.kids [101, 115] || kidsB n.kids [101, 115, 115]))) := by
 cases hA : (n.text.size == 0) with
 | false => exact it21n n ih v w ht hr hk hA
 | true =>
   cases hB : kidsB n.kids [101, 115] with
   | true => exact it21t n ih v w ht hr hk hA hB
   | false =>
     cases hC : kidsB n.kids [101, 115, 115] with
     | true => exact it21ft n ih v w ht hr hk hA hB hC
     | false => exact it21ff n ih v w ht hr hk hA hB hC
theorem it9n (n : Nd) (ih : ∀ x ∈ n.kids, IsC x) (v : Value) (w : World) (ht : n.text.size ≤ maxLen) (hr : RdK w n.kids v) (hk : n.kind = 9) (hA : (freeB n.text) = false) :
   CB 48 #[ndV n v] w (.bool false) := by
 have FR := h_ (fun w' => sFree n.text w' ht)
 rw [hA] at FR
 obtain ⟨a0, c0, rfl⟩ := RdK_slice hr
 unfold ndV
 rw [hk]
 clear hr ht hA ih
 generalize n.text = xt at *
 go_enter Tryz.func48, Tryz.ntmps48
 go_wp2_with (first | (go_at_call 47; refine (u_ FR _).mono ?_; rintro e w' ⟨rfl, rfl⟩))
 go_ret
 exact ⟨rfl, bal (brf w) _⟩
theorem it9f (n : Nd) (ih : ∀ x ∈ n.kids, IsC x) (v : Value) (w : World) (ht : n.text.size ≤ maxLen) (hr : RdK w n.kids v) (hk : n.kind = 9) (hA : (freeB n.text) = true) (hB : (kidsB n.kids [116]) = false) :
   CB 48 #[ndV n v] w (.bool false) := by
 have FR := h_ (fun w' => sFree n.text w' ht)
 rw [hA] at FR
 have K1 := h_ (fun w' hr' => kidsN n ih v w' ⟨#[116]⟩ (by decide) (by decide) hr')
 have hk1 : ltr ⟨#[116]⟩ = [116] := by decide
 rw [hk1] at K1
 rw [hB] at K1
 have HR := h_ hr
 obtain ⟨a0, c0, rfl⟩ := RdK_slice hr
 unfold ndV at K1 ⊢
 rw [hk] at K1 ⊢
 clear hr ht hA hB ih
 generalize n.text = xt at *
 go_enter Tryz.func48, Tryz.ntmps48
 go_wp2_with (first | (go_at_call 47; refine (u_ FR _).mono ?_; rintro e w' ⟨rfl, rfl⟩) | (go_at_call 46; refine (u_ K1 _ (RdK_later (bal (brf w) _) (u_ HR))).mono ?_; rintro e v1 ⟨rfl, hb1⟩))
 go_ret
 exact ⟨rfl, btr (bal (brf w) _) hb1⟩
theorem it9t (n : Nd) (ih : ∀ x ∈ n.kids, IsC x) (v : Value) (w : World) (ht : n.text.size ≤ maxLen) (hr : RdK w n.kids v) (hk : n.kind = 9) (hA : (freeB n.text) = true) (hB : (kidsB n.kids [116]) = true) :
   CB 48 #[ndV n v] w (.bool true) := by
 have FR := h_ (fun w' => sFree n.text w' ht)
 rw [hA] at FR
 have K1 := h_ (fun w' hr' => kidsN n ih v w' ⟨#[116]⟩ (by decide) (by decide) hr')
 have hk1 : ltr ⟨#[116]⟩ = [116] := by decide
 rw [hk1] at K1
 rw [hB] at K1
 have HR := h_ hr
 obtain ⟨a0, c0, rfl⟩ := RdK_slice hr
 unfold ndV at K1 ⊢
 rw [hk] at K1 ⊢
 clear hr ht hA hB ih
 generalize n.text = xt at *
 go_enter Tryz.func48, Tryz.ntmps48
 go_wp2_with (first | (go_at_call 47; refine (u_ FR _).mono ?_; rintro e w' ⟨rfl, rfl⟩) | (go_at_call 46; refine (u_ K1 _ (RdK_later (bal (brf w) _) (u_ HR))).mono ?_; rintro e v1 ⟨rfl, hb1⟩))
 go_ret
 exact ⟨rfl, btr (bal (brf w) _) hb1⟩
theorem it9 (n : Nd) (ih : ∀ x ∈ n.kids, IsC x) (v : Value) (w : World) (ht : n.text.size ≤ maxLen) (hr : RdK w n.kids v) (hk : n.kind = 9) :
   CB 48 #[ndV n v] w (.bool ((freeB n.text) && kidsB n.kids [116])) := by
 cases hA : (freeB n.text) with
 | false => exact it9n n ih v w ht hr hk hA
 | true =>
   cases hB : (kidsB n.kids [116]) with
   | false => exact it9f n ih v w ht hr hk hA hB
   | true => exact it9t n ih v w ht hr hk hA hB
theorem it11n (n : Nd) (ih : ∀ x ∈ n.kids, IsC x) (v : Value) (w : World) (ht : n.text.size ≤ maxLen) (hr : RdK w n.kids v) (hk : n.kind = 11) (hA : (freeB n.text) = false) :
   CB 48 #[ndV n v] w (.bool false) := by
 have FR := h_ (fun w' => sFree n.text w' ht)
 rw [hA] at FR
 obtain ⟨a0, c0, rfl⟩ := RdK_slice hr
 unfold ndV
 rw [hk]
 clear hr ht hA ih
 generalize n.text = xt at *
 go_enter Tryz.func48, Tryz.ntmps48
 go_wp2_with (first | (go_at_call 47; refine (u_ FR _).mono ?_; rintro e w' ⟨rfl, rfl⟩))
 go_ret
 exact ⟨rfl, bal (brf w) _⟩
theorem it11f (n : Nd) (ih : ∀ x ∈ n.kids, IsC x) (v : Value) (w : World) (ht : n.text.size ≤ maxLen) (hr : RdK w n.kids v) (hk : n.kind = 11) (hA : (freeB n.text) = true) (hB : (kidsB n.kids [116, 101]) = false) :
   CB 48 #[ndV n v] w (.bool false) := by
 have FR := h_ (fun w' => sFree n.text w' ht)
 rw [hA] at FR
 have K1 := h_ (fun w' hr' => kidsN n ih v w' ⟨#[116, 101]⟩ (by decide) (by decide) hr')
 have hk1 : ltr ⟨#[116, 101]⟩ = [116, 101] := by decide
 rw [hk1] at K1
 rw [hB] at K1
 have HR := h_ hr
 obtain ⟨a0, c0, rfl⟩ := RdK_slice hr
 unfold ndV at K1 ⊢
 rw [hk] at K1 ⊢
 clear hr ht hA hB ih
 generalize n.text = xt at *
 go_enter Tryz.func48, Tryz.ntmps48
 go_wp2_with (first | (go_at_call 47; refine (u_ FR _).mono ?_; rintro e w' ⟨rfl, rfl⟩) | (go_at_call 46; refine (u_ K1 _ (RdK_later (bal (brf w) _) (u_ HR))).mono ?_; rintro e v1 ⟨rfl, hb1⟩))
 go_ret
 exact ⟨rfl, btr (bal (brf w) _) hb1⟩
theorem it11t (n : Nd) (ih : ∀ x ∈ n.kids, IsC x) (v : Value) (w : World) (ht : n.text.size ≤ maxLen) (hr : RdK w n.kids v) (hk : n.kind = 11) (hA : (freeB n.text) = true) (hB : (kidsB n.kids [116, 101]) = true) :
   CB 48 #[ndV n v] w (.bool true) := by
 have FR := h_ (fun w' => sFree n.text w' ht)
 rw [hA] at FR
 have K1 := h_ (fun w' hr' => kidsN n ih v w' ⟨#[116, 101]⟩ (by decide) (by decide) hr')
 have hk1 : ltr ⟨#[116, 101]⟩ = [116, 101] := by decide
 rw [hk1] at K1
 rw [hB] at K1
 have HR := h_ hr
 obtain ⟨a0, c0, rfl⟩ := RdK_slice hr
 unfold ndV at K1 ⊢
 rw [hk] at K1 ⊢
 clear hr ht hA hB ih
 generalize n.text = xt at *
 go_enter Tryz.func48, Tryz.ntmps48
 go_wp2_with (first | (go_at_call 47; refine (u_ FR _).mono ?_; rintro e w' ⟨rfl, rfl⟩) | (go_at_call 46; refine (u_ K1 _ (RdK_later (bal (brf w) _) (u_ HR))).mono ?_; rintro e v1 ⟨rfl, hb1⟩))
 go_ret
 exact ⟨rfl, btr (bal (brf w) _) hb1⟩
theorem it11 (n : Nd) (ih : ∀ x ∈ n.kids, IsC x) (v : Value) (w : World) (ht : n.text.size ≤ maxLen) (hr : RdK w n.kids v) (hk : n.kind = 11) :
   CB 48 #[ndV n v] w (.bool ((freeB n.text) && kidsB n.kids [116, 101])) := by
 cases hA : (freeB n.text) with
 | false => exact it11n n ih v w ht hr hk hA
 | true =>
   cases hB : (kidsB n.kids [116, 101]) with
   | false => exact it11f n ih v w ht hr hk hA hB
   | true => exact it11t n ih v w ht hr hk hA hB
theorem it12n (n : Nd) (ih : ∀ x ∈ n.kids, IsC x) (v : Value) (w : World) (ht : n.text.size ≤ maxLen) (hr : RdK w n.kids v) (hk : n.kind = 12) (hA : (freeB n.text) = false) :
   CB 48 #[ndV n v] w (.bool false) := by
 have FR := h_ (fun w' => sFree n.text w' ht)
 rw [hA] at FR
 obtain ⟨a0, c0, rfl⟩ := RdK_slice hr
 unfold ndV
 rw [hk]
 clear hr ht hA ih
 generalize n.text = xt at *
 go_enter Tryz.func48, Tryz.ntmps48
 go_wp2_with (first | (go_at_call 47; refine (u_ FR _).mono ?_; rintro e w' ⟨rfl, rfl⟩))
 go_ret
 exact ⟨rfl, bal (brf w) _⟩
theorem it12f (n : Nd) (ih : ∀ x ∈ n.kids, IsC x) (v : Value) (w : World) (ht : n.text.size ≤ maxLen) (hr : RdK w n.kids v) (hk : n.kind = 12) (hA : (freeB n.text) = true) (hB : (kidsB n.kids [101]) = false) :
   CB 48 #[ndV n v] w (.bool false) := by
 have FR := h_ (fun w' => sFree n.text w' ht)
 rw [hA] at FR
 have K1 := h_ (fun w' hr' => kidsN n ih v w' ⟨#[101]⟩ (by decide) (by decide) hr')
 have hk1 : ltr ⟨#[101]⟩ = [101] := by decide
 rw [hk1] at K1
 rw [hB] at K1
 have HR := h_ hr
 obtain ⟨a0, c0, rfl⟩ := RdK_slice hr
 unfold ndV at K1 ⊢
 rw [hk] at K1 ⊢
 clear hr ht hA hB ih
 generalize n.text = xt at *
 go_enter Tryz.func48, Tryz.ntmps48
 go_wp2_with (first | (go_at_call 47; refine (u_ FR _).mono ?_; rintro e w' ⟨rfl, rfl⟩) | (go_at_call 46; refine (u_ K1 _ (RdK_later (bal (brf w) _) (u_ HR))).mono ?_; rintro e v1 ⟨rfl, hb1⟩))
 go_ret
 exact ⟨rfl, btr (bal (brf w) _) hb1⟩
theorem it12t (n : Nd) (ih : ∀ x ∈ n.kids, IsC x) (v : Value) (w : World) (ht : n.text.size ≤ maxLen) (hr : RdK w n.kids v) (hk : n.kind = 12) (hA : (freeB n.text) = true) (hB : (kidsB n.kids [101]) = true) :
   CB 48 #[ndV n v] w (.bool true) := by
 have FR := h_ (fun w' => sFree n.text w' ht)
 rw [hA] at FR
 have K1 := h_ (fun w' hr' => kidsN n ih v w' ⟨#[101]⟩ (by decide) (by decide) hr')
 have hk1 : ltr ⟨#[101]⟩ = [101] := by decide
 rw [hk1] at K1
 rw [hB] at K1
 have HR := h_ hr
 obtain ⟨a0, c0, rfl⟩ := RdK_slice hr
 unfold ndV at K1 ⊢
 rw [hk] at K1 ⊢
 clear hr ht hA hB ih
 generalize n.text = xt at *
 go_enter Tryz.func48, Tryz.ntmps48
 go_wp2_with (first | (go_at_call 47; refine (u_ FR _).mono ?_; rintro e w' ⟨rfl, rfl⟩) | (go_at_call 46; refine (u_ K1 _ (RdK_later (bal (brf w) _) (u_ HR))).mono ?_; rintro e v1 ⟨rfl, hb1⟩))
 go_ret
 exact ⟨rfl, btr (bal (brf w) _) hb1⟩
theorem it12 (n : Nd) (ih : ∀ x ∈ n.kids, IsC x) (v : Value) (w : World) (ht : n.text.size ≤ maxLen) (hr : RdK w n.kids v) (hk : n.kind = 12) :
   CB 48 #[ndV n v] w (.bool ((freeB n.text) && kidsB n.kids [101])) := by
 cases hA : (freeB n.text) with
 | false => exact it12n n ih v w ht hr hk hA
 | true =>
   cases hB : (kidsB n.kids [101]) with
   | false => exact it12f n ih v w ht hr hk hA hB
   | true => exact it12t n ih v w ht hr hk hA hB
theorem it18n (n : Nd) (ih : ∀ x ∈ n.kids, IsC x) (v : Value) (w : World) (ht : n.text.size ≤ maxLen) (hr : RdK w n.kids v) (hk : n.kind = 18) (hA : (freeB n.text) = false) :
   CB 48 #[ndV n v] w (.bool false) := by
 have FR := h_ (fun w' => sFree n.text w' ht)
 rw [hA] at FR
 obtain ⟨a0, c0, rfl⟩ := RdK_slice hr
 unfold ndV
 rw [hk]
 clear hr ht hA ih
 generalize n.text = xt at *
 go_enter Tryz.func48, Tryz.ntmps48
 go_wp2_with (first | (go_at_call 47; refine (u_ FR _).mono ?_; rintro e w' ⟨rfl, rfl⟩))
 go_ret
 exact ⟨rfl, bal (brf w) _⟩
theorem it18f (n : Nd) (ih : ∀ x ∈ n.kids, IsC x) (v : Value) (w : World) (ht : n.text.size ≤ maxLen) (hr : RdK w n.kids v) (hk : n.kind = 18) (hA : (freeB n.text) = true) (hB : (kidsB n.kids [101]) = false) :
   CB 48 #[ndV n v] w (.bool false) := by
 have FR := h_ (fun w' => sFree n.text w' ht)
 rw [hA] at FR
 have K1 := h_ (fun w' hr' => kidsN n ih v w' ⟨#[101]⟩ (by decide) (by decide) hr')
 have hk1 : ltr ⟨#[101]⟩ = [101] := by decide
 rw [hk1] at K1
 rw [hB] at K1
 have HR := h_ hr
 obtain ⟨a0, c0, rfl⟩ := RdK_slice hr
 unfold ndV at K1 ⊢
 rw [hk] at K1 ⊢
 clear hr ht hA hB ih
 generalize n.text = xt at *
 go_enter Tryz.func48, Tryz.ntmps48
 go_wp2_with (first | (go_at_call 47; refine (u_ FR _).mono ?_; rintro e w' ⟨rfl, rfl⟩) | (go_at_call 46; refine (u_ K1 _ (RdK_later (bal (brf w) _) (u_ HR))).mono ?_; rintro e v1 ⟨rfl, hb1⟩))
 go_ret
 exact ⟨rfl, btr (bal (brf w) _) hb1⟩
theorem it18t (n : Nd) (ih : ∀ x ∈ n.kids, IsC x) (v : Value) (w : World) (ht : n.text.size ≤ maxLen) (hr : RdK w n.kids v) (hk : n.kind = 18) (hA : (freeB n.text) = true) (hB : (kidsB n.kids [101]) = true) :
   CB 48 #[ndV n v] w (.bool true) := by
 have FR := h_ (fun w' => sFree n.text w' ht)
 rw [hA] at FR
 have K1 := h_ (fun w' hr' => kidsN n ih v w' ⟨#[101]⟩ (by decide) (by decide) hr')
 have hk1 : ltr ⟨#[101]⟩ = [101] := by decide
 rw [hk1] at K1
 rw [hB] at K1
 have HR := h_ hr
 obtain ⟨a0, c0, rfl⟩ := RdK_slice hr
 unfold ndV at K1 ⊢
 rw [hk] at K1 ⊢
 clear hr ht hA hB ih
 generalize n.text = xt at *
 go_enter Tryz.func48, Tryz.ntmps48
 go_wp2_with (first | (go_at_call 47; refine (u_ FR _).mono ?_; rintro e w' ⟨rfl, rfl⟩) | (go_at_call 46; refine (u_ K1 _ (RdK_later (bal (brf w) _) (u_ HR))).mono ?_; rintro e v1 ⟨rfl, hb1⟩))
 go_ret
 exact ⟨rfl, btr (bal (brf w) _) hb1⟩
theorem it18 (n : Nd) (ih : ∀ x ∈ n.kids, IsC x) (v : Value) (w : World) (ht : n.text.size ≤ maxLen) (hr : RdK w n.kids v) (hk : n.kind = 18) :
   CB 48 #[ndV n v] w (.bool ((freeB n.text) && kidsB n.kids [101])) := by
 cases hA : (freeB n.text) with
 | false => exact it18n n ih v w ht hr hk hA
 | true =>
   cases hB : (kidsB n.kids [101]) with
   | false => exact it18f n ih v w ht hr hk hA hB
   | true => exact it18t n ih v w ht hr hk hA hB
theorem it14n (n : Nd) (ih : ∀ x ∈ n.kids, IsC x) (v : Value) (w : World) (ht : n.text.size ≤ maxLen) (hr : RdK w n.kids v) (hk : n.kind = 14) (hA : (n.text.size == 0) = false) :
   CB 48 #[ndV n v] w (.bool false) := by
 have hn : n.text.toList.isEmpty = false := by rw [toListL, ← L_emp]; exact hA
 obtain ⟨a0, c0, rfl⟩ := RdK_slice hr
 unfold ndV
 rw [hk]
 clear hr ht hA ih
 generalize n.text = xt at *
 go_enter Tryz.func48, Tryz.ntmps48
 go_wp2
 go_ret
 exact ⟨rfl, bal (brf w) _⟩
theorem it14f (n : Nd) (ih : ∀ x ∈ n.kids, IsC x) (v : Value) (w : World) (ht : n.text.size ≤ maxLen) (hr : RdK w n.kids v) (hk : n.kind = 14) (hA : (n.text.size == 0) = true) (hB : (kidsB n.kids [84, 101]) = false) :
   CB 48 #[ndV n v] w (.bool false) := by
 have hn : n.text.toList.isEmpty = true := by rw [toListL, ← L_emp]; exact hA
 have K1 := h_ (fun w' hr' => kidsN n ih v w' ⟨#[84, 101]⟩ (by decide) (by decide) hr')
 have hk1 : ltr ⟨#[84, 101]⟩ = [84, 101] := by decide
 rw [hk1] at K1
 rw [hB] at K1
 have HR := h_ hr
 obtain ⟨a0, c0, rfl⟩ := RdK_slice hr
 unfold ndV at K1 ⊢
 rw [hk] at K1 ⊢
 clear hr ht hA hB ih
 generalize n.text = xt at *
 go_enter Tryz.func48, Tryz.ntmps48
 go_wp2_with (first | (go_at_call 46; refine (u_ K1 _ (RdK_later (bal (brf w) _) (u_ HR))).mono ?_; rintro e v1 ⟨rfl, hb1⟩))
 go_ret
 exact ⟨rfl, btr (bal (brf w) _) hb1⟩
theorem it14t (n : Nd) (ih : ∀ x ∈ n.kids, IsC x) (v : Value) (w : World) (ht : n.text.size ≤ maxLen) (hr : RdK w n.kids v) (hk : n.kind = 14) (hA : (n.text.size == 0) = true) (hB : (kidsB n.kids [84, 101]) = true) :
   CB 48 #[ndV n v] w (.bool true) := by
 have hn : n.text.toList.isEmpty = true := by rw [toListL, ← L_emp]; exact hA
 have K1 := h_ (fun w' hr' => kidsN n ih v w' ⟨#[84, 101]⟩ (by decide) (by decide) hr')
 have hk1 : ltr ⟨#[84, 101]⟩ = [84, 101] := by decide
 rw [hk1] at K1
 rw [hB] at K1
 have HR := h_ hr
 obtain ⟨a0, c0, rfl⟩ := RdK_slice hr
 unfold ndV at K1 ⊢
 rw [hk] at K1 ⊢
 clear hr ht hA hB ih
 generalize n.text = xt at *
 go_enter Tryz.func48, Tryz.ntmps48
 go_wp2_with (first | (go_at_call 46; refine (u_ K1 _ (RdK_later (bal (brf w) _) (u_ HR))).mono ?_; rintro e v1 ⟨rfl, hb1⟩))
 go_ret
 exact ⟨rfl, btr (bal (brf w) _) hb1⟩
theorem it14 (n : Nd) (ih : ∀ x ∈ n.kids, IsC x) (v : Value) (w : World) (ht : n.text.size ≤ maxLen) (hr : RdK w n.kids v) (hk : n.kind = 14) :
   CB 48 #[ndV n v] w (.bool ((n.text.size == 0) && kidsB n.kids [84, 101])) := by
 cases hA : (n.text.size == 0) with
 | false => exact it14n n ih v w ht hr hk hA
 | true =>
   cases hB : (kidsB n.kids [84, 101]) with
   | false => exact it14f n ih v w ht hr hk hA hB
   | true => exact it14t n ih v w ht hr hk hA hB
theorem it15n (n : Nd) (ih : ∀ x ∈ n.kids, IsC x) (v : Value) (w : World) (ht : n.text.size ≤ maxLen) (hr : RdK w n.kids v) (hk : n.kind = 15) (hA : (n.text.size == 0) = false) :
   CB 48 #[ndV n v] w (.bool false) := by
 have hn : n.text.toList.isEmpty = false := by rw [toListL, ← L_emp]; exact hA
 obtain ⟨a0, c0, rfl⟩ := RdK_slice hr
 unfold ndV
 rw [hk]
 clear hr ht hA ih
 generalize n.text = xt at *
 go_enter Tryz.func48, Tryz.ntmps48
 go_wp2
 go_ret
 exact ⟨rfl, bal (brf w) _⟩
theorem it15f (n : Nd) (ih : ∀ x ∈ n.kids, IsC x) (v : Value) (w : World) (ht : n.text.size ≤ maxLen) (hr : RdK w n.kids v) (hk : n.kind = 15) (hA : (n.text.size == 0) = true) (hB : (kidsB n.kids [98]) = false) :
   CB 48 #[ndV n v] w (.bool false) := by
 have hn : n.text.toList.isEmpty = true := by rw [toListL, ← L_emp]; exact hA
 have K1 := h_ (fun w' hr' => kidsN n ih v w' ⟨#[98]⟩ (by decide) (by decide) hr')
 have hk1 : ltr ⟨#[98]⟩ = [98] := by decide
 rw [hk1] at K1
 rw [hB] at K1
 have HR := h_ hr
 obtain ⟨a0, c0, rfl⟩ := RdK_slice hr
 unfold ndV at K1 ⊢
 rw [hk] at K1 ⊢
 clear hr ht hA hB ih
 generalize n.text = xt at *
 go_enter Tryz.func48, Tryz.ntmps48
 go_wp2_with (first | (go_at_call 46; refine (u_ K1 _ (RdK_later (bal (brf w) _) (u_ HR))).mono ?_; rintro e v1 ⟨rfl, hb1⟩))
 go_ret
 exact ⟨rfl, btr (bal (brf w) _) hb1⟩
theorem it15t (n : Nd) (ih : ∀ x ∈ n.kids, IsC x) (v : Value) (w : World) (ht : n.text.size ≤ maxLen) (hr : RdK w n.kids v) (hk : n.kind = 15) (hA : (n.text.size == 0) = true) (hB : (kidsB n.kids [98]) = true) :
   CB 48 #[ndV n v] w (.bool true) := by
 have hn : n.text.toList.isEmpty = true := by rw [toListL, ← L_emp]; exact hA
 have K1 := h_ (fun w' hr' => kidsN n ih v w' ⟨#[98]⟩ (by decide) (by decide) hr')
 have hk1 : ltr ⟨#[98]⟩ = [98] := by decide
 rw [hk1] at K1
 rw [hB] at K1
 have HR := h_ hr
 obtain ⟨a0, c0, rfl⟩ := RdK_slice hr
 unfold ndV at K1 ⊢
 rw [hk] at K1 ⊢
 clear hr ht hA hB ih
 generalize n.text = xt at *
 go_enter Tryz.func48, Tryz.ntmps48
 go_wp2_with (first | (go_at_call 46; refine (u_ K1 _ (RdK_later (bal (brf w) _) (u_ HR))).mono ?_; rintro e v1 ⟨rfl, hb1⟩))
 go_ret
 exact ⟨rfl, btr (bal (brf w) _) hb1⟩
theorem it15 (n : Nd) (ih : ∀ x ∈ n.kids, IsC x) (v : Value) (w : World) (ht : n.text.size ≤ maxLen) (hr : RdK w n.kids v) (hk : n.kind = 15) :
   CB 48 #[ndV n v] w (.bool ((n.text.size == 0) && kidsB n.kids [98])) := by
 cases hA : (n.text.size == 0) with
 | false => exact it15n n ih v w ht hr hk hA
 | true =>
   cases hB : (kidsB n.kids [98]) with
   | false => exact it15f n ih v w ht hr hk hA hB
   | true => exact it15t n ih v w ht hr hk hA hB
theorem it17n (n : Nd) (ih : ∀ x ∈ n.kids, IsC x) (v : Value) (w : World) (ht : n.text.size ≤ maxLen) (hr : RdK w n.kids v) (hk : n.kind = 17) (hA : (n.text.size == 0) = false) :
   CB 48 #[ndV n v] w (.bool false) := by
 have hn : n.text.toList.isEmpty = false := by rw [toListL, ← L_emp]; exact hA
 obtain ⟨a0, c0, rfl⟩ := RdK_slice hr
 unfold ndV
 rw [hk]
 clear hr ht hA ih
 generalize n.text = xt at *
 go_enter Tryz.func48, Tryz.ntmps48
 go_wp2
 go_ret
 exact ⟨rfl, bal (brf w) _⟩
theorem it17f (n : Nd) (ih : ∀ x ∈ n.kids, IsC x) (v : Value) (w : World) (ht : n.text.size ≤ maxLen) (hr : RdK w n.kids v) (hk : n.kind = 17) (hA : (n.text.size == 0) = true) (hB : (kidsB n.kids [98]) = false) :
   CB 48 #[ndV n v] w (.bool false) := by
 have hn : n.text.toList.isEmpty = true := by rw [toListL, ← L_emp]; exact hA
 have K1 := h_ (fun w' hr' => kidsN n ih v w' ⟨#[98]⟩ (by decide) (by decide) hr')
 have hk1 : ltr ⟨#[98]⟩ = [98] := by decide
 rw [hk1] at K1
 rw [hB] at K1
 have HR := h_ hr
 obtain ⟨a0, c0, rfl⟩ := RdK_slice hr
 unfold ndV at K1 ⊢
 rw [hk] at K1 ⊢
 clear hr ht hA hB ih
 generalize n.text = xt at *
 go_enter Tryz.func48, Tryz.ntmps48
 go_wp2_with (first | (go_at_call 46; refine (u_ K1 _ (RdK_later (bal (brf w) _) (u_ HR))).mono ?_; rintro e v1 ⟨rfl, hb1⟩))
 go_ret
 exact ⟨rfl, btr (bal (brf w) _) hb1⟩
theorem it17t (n : Nd) (ih : ∀ x ∈ n.kids, IsC x) (v : Value) (w : World) (ht : n.text.size ≤ maxLen) (hr : RdK w n.kids v) (hk : n.kind = 17) (hA : (n.text.size == 0) = true) (hB : (kidsB n.kids [98]) = true) :
   CB 48 #[ndV n v] w (.bool true) := by
 have hn : n.text.toList.isEmpty = true := by rw [toListL, ← L_emp]; exact hA
 have K1 := h_ (fun w' hr' => kidsN n ih v w' ⟨#[98]⟩ (by decide) (by decide) hr')
 have hk1 : ltr ⟨#[98]⟩ = [98] := by decide
 rw [hk1] at K1
 rw [hB] at K1
 have HR := h_ hr
 obtain ⟨a0, c0, rfl⟩ := RdK_slice hr
 unfold ndV at K1 ⊢
 rw [hk] at K1 ⊢
 clear hr ht hA hB ih
 generalize n.text = xt at *
 go_enter Tryz.func48, Tryz.ntmps48
 go_wp2_with (first | (go_at_call 46; refine (u_ K1 _ (RdK_later (bal (brf w) _) (u_ HR))).mono ?_; rintro e v1 ⟨rfl, hb1⟩))
 go_ret
 exact ⟨rfl, btr (bal (brf w) _) hb1⟩
theorem it17 (n : Nd) (ih : ∀ x ∈ n.kids, IsC x) (v : Value) (w : World) (ht : n.text.size ≤ maxLen) (hr : RdK w n.kids v) (hk : n.kind = 17) :
   CB 48 #[ndV n v] w (.bool ((n.text.size == 0) && kidsB n.kids [98])) := by
 cases hA : (n.text.size == 0) with
 | false => exact it17n n ih v w ht hr hk hA
 | true =>
   cases hB : (kidsB n.kids [98]) with
   | false => exact it17f n ih v w ht hr hk hA hB
   | true => exact it17t n ih v w ht hr hk hA hB
theorem it16n (n : Nd) (ih : ∀ x ∈ n.kids, IsC x) (v : Value) (w : World) (ht : n.text.size ≤ maxLen) (hr : RdK w n.kids v) (hk : n.kind = 16) (hA : (freeB n.text) = false) :
   CB 48 #[ndV n v] w (.bool false) := by
 have FR := h_ (fun w' => sFree n.text w' ht)
 rw [hA] at FR
 obtain ⟨a0, c0, rfl⟩ := RdK_slice hr
 unfold ndV
 rw [hk]
 clear hr ht hA ih
 generalize n.text = xt at *
 go_enter Tryz.func48, Tryz.ntmps48
 go_wp2_with (first | (go_at_call 47; refine (u_ FR _).mono ?_; rintro e w' ⟨rfl, rfl⟩))
 go_ret
 exact ⟨rfl, bal (brf w) _⟩
theorem it16f (n : Nd) (ih : ∀ x ∈ n.kids, IsC x) (v : Value) (w : World) (ht : n.text.size ≤ maxLen) (hr : RdK w n.kids v) (hk : n.kind = 16) (hA : (freeB n.text) = true) (hB : (kidsB n.kids [98]) = false) :
   CB 48 #[ndV n v] w (.bool false) := by
 have FR := h_ (fun w' => sFree n.text w' ht)
 rw [hA] at FR
 have K1 := h_ (fun w' hr' => kidsN n ih v w' ⟨#[98]⟩ (by decide) (by decide) hr')
 have hk1 : ltr ⟨#[98]⟩ = [98] := by decide
 rw [hk1] at K1
 rw [hB] at K1
 have HR := h_ hr
 obtain ⟨a0, c0, rfl⟩ := RdK_slice hr
 unfold ndV at K1 ⊢
 rw [hk] at K1 ⊢
 clear hr ht hA hB ih
 generalize n.text = xt at *
 go_enter Tryz.func48, Tryz.ntmps48
 go_wp2_with (first | (go_at_call 47; refine (u_ FR _).mono ?_; rintro e w' ⟨rfl, rfl⟩) | (go_at_call 46; refine (u_ K1 _ (RdK_later (bal (brf w) _) (u_ HR))).mono ?_; rintro e v1 ⟨rfl, hb1⟩))
 go_ret
 exact ⟨rfl, btr (bal (brf w) _) hb1⟩
theorem it16t (n : Nd) (ih : ∀ x ∈ n.kids, IsC x) (v : Value) (w : World) (ht : n.text.size ≤ maxLen) (hr : RdK w n.kids v) (hk : n.kind = 16) (hA : (freeB n.text) = true) (hB : (kidsB n.kids [98]) = true) :
   CB 48 #[ndV n v] w (.bool true) := by
 have FR := h_ (fun w' => sFree n.text w' ht)
 rw [hA] at FR
 have K1 := h_ (fun w' hr' => kidsN n ih v w' ⟨#[98]⟩ (by decide) (by decide) hr')
 have hk1 : ltr ⟨#[98]⟩ = [98] := by decide
 rw [hk1] at K1
 rw [hB] at K1
 have HR := h_ hr
 obtain ⟨a0, c0, rfl⟩ := RdK_slice hr
 unfold ndV at K1 ⊢
 rw [hk] at K1 ⊢
 clear hr ht hA hB ih
 generalize n.text = xt at *
 go_enter Tryz.func48, Tryz.ntmps48
 go_wp2_with (first | (go_at_call 47; refine (u_ FR _).mono ?_; rintro e w' ⟨rfl, rfl⟩) | (go_at_call 46; refine (u_ K1 _ (RdK_later (bal (brf w) _) (u_ HR))).mono ?_; rintro e v1 ⟨rfl, hb1⟩))
 go_ret
 exact ⟨rfl, btr (bal (brf w) _) hb1⟩
theorem it16 (n : Nd) (ih : ∀ x ∈ n.kids, IsC x) (v : Value) (w : World) (ht : n.text.size ≤ maxLen) (hr : RdK w n.kids v) (hk : n.kind = 16) :
   CB 48 #[ndV n v] w (.bool ((freeB n.text) && kidsB n.kids [98])) := by
 cases hA : (freeB n.text) with
 | false => exact it16n n ih v w ht hr hk hA
 | true =>
   cases hB : (kidsB n.kids [98]) with
   | false => exact it16f n ih v w ht hr hk hA hB
   | true => exact it16t n ih v w ht hr hk hA hB
end Go.Proofs.YtddlokkejglckaaGreatDoor
