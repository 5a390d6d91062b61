/- Parts of the proof: NF4 to NG2. -/
import Derived.Test.YtddlokkejglckaaGreatDoorMNF1
namespace Go.Proofs.YtddlokkejglckaaGreatDoor
open Go.RowKit Nt
set_option maxHeartbeats 400000
set_option linter.unusedVariables false
set_option maxRecDepth 100000
theorem isTyk (n : Nd) (v : Value) (w : World) (ht : n.text.size ≤ maxLen) (hr : RdK w n.kids v) (h8 : n.kind ≠ 8) :
   CB 33 #[ndV n v, .int .u8 116] w (.bool false) := by
 have HR := h_ hr
 have hl := len_ok hr
 obtain ⟨a0, c0, rfl⟩ := RdK_slice hr
 unfold ndV
 clear hr ht
 have a8 : (n.kind == 8) = false := beq_eq_false_iff_ne.2 h8
 clear h8
 generalize n.kind = xk, n.text = xt at *
 go_enter Tryz.func33, Tryz.ntmps33
 go_wp2
 go_ret
 exact ⟨rfl, bal (brf w) _⟩
theorem isTyn (n : Nd) (v : Value) (w : World) (ht : n.text.size ≤ maxLen) (hr : RdK w n.kids v) (hk : n.kind = 8) (hA : (n.text.size == 0) = false) (hS : (L n.text == sgnL) = false) :
   CB 33 #[ndV n v, .int .u8 116] w (.bool false) := by
 have hn : n.text.toList.isEmpty = false := by rw [toListL, ← L_emp]; exact hA
 have hs : (n.text.toList == [115, 105, 103, 110, 101, 100]) = false := by rw [toListL]; exact hS
 clear hS
 have HR := h_ hr
 have hl := len_ok hr
 obtain ⟨a0, c0, rfl⟩ := RdK_slice hr
 unfold ndV
 rw [hk]
 clear hr ht
 generalize n.text = xt at *
 go_enter Tryz.func33, Tryz.ntmps33
 go_wp2
 go_ret
 exact ⟨rfl, bal (brf w) _⟩
theorem isTyez (n : Nd) (v : Value) (w : World) (ht : n.text.size ≤ maxLen) (hr : RdK w n.kids v) (hk : n.kind = 8) (hA : (n.text.size == 0) = true) (hE : n.kids = []) :
   CB 33 #[ndV n v, .int .u8 116] w (.bool true) := by
 have hn : n.text.toList.isEmpty = true := by rw [toListL, ← L_emp]; exact hA
 have HR := h_ hr
 have hl := len_ok hr
 have q0 : ((n.kids.length : Int) == 0) = true := by rw [hE]; rfl
 obtain ⟨a0, c0, rfl⟩ := RdK_slice hr
 unfold ndV
 rw [hk]
 clear hr ht
 generalize n.text = xt at *
 go_enter Tryz.func33, Tryz.ntmps33
 go_wp2
 go_ret
 exact ⟨rfl, bal (brf w) _⟩
theorem isTyet (n : Nd) (ih : ∀ x ∈ n.kids, IsC x) (v : Value) (w : World) (ht : n.text.size ≤ maxLen) (hr : RdK w n.kids v) (hk : n.kind = 8) (hA : (n.text.size == 0) = true) (hE : n.kids ≠ []) (hB : kidsB n.kids [101] = true) :
   CB 33 #[ndV n v, .int .u8 116] w (.bool true) := by
 have hn : n.text.toList.isEmpty = true := by rw [toListL, ← L_emp]; exact hA
 have K1 := h_ (fun w' hr' => kidsN n ih v w' ⟨#[101]⟩ (by decide) (by decide) hr')
 have hk1 : ltr ⟨#[101]⟩ = [101] := by decide
 rw [hk1] at K1
 rw [hB] at K1
 have HR := h_ hr
 have hl := len_ok hr
 have q0 : ((n.kids.length : Int) == 0) = false := beq_eq_false_iff_ne.2 (by cases h : n.kids with | nil => exact absurd h hE | cons x xs => simp; omega)
 obtain ⟨a0, c0, rfl⟩ := RdK_slice hr
 unfold ndV at K1 ⊢
 rw [hk] at K1 ⊢
 clear hr ht ih
 generalize n.text = xt at *
 go_enter Tryz.func33, Tryz.ntmps33
 go_wp2_with (first | (go_at_call 46; refine (u_ K1 _ (RdK_later (bal (brf w) _) (u_ HR))).mono ?_; rintro e v1 ⟨rfl, hb1⟩))
 go_ret
 exact ⟨rfl, btr (bal (brf w) _) hb1⟩
theorem isTyef (n : Nd) (ih : ∀ x ∈ n.kids, IsC x) (v : Value) (w : World) (ht : n.text.size ≤ maxLen) (hr : RdK w n.kids v) (hk : n.kind = 8) (hA : (n.text.size == 0) = true) (hE : n.kids ≠ []) (hB : kidsB n.kids [101] = false) :
   CB 33 #[ndV n v, .int .u8 116] w (.bool false) := by
 have hn : n.text.toList.isEmpty = true := by rw [toListL, ← L_emp]; exact hA
 have K1 := h_ (fun w' hr' => kidsN n ih v w' ⟨#[101]⟩ (by decide) (by decide) hr')
 have hk1 : ltr ⟨#[101]⟩ = [101] := by decide
 rw [hk1] at K1
 rw [hB] at K1
 have HR := h_ hr
 have hl := len_ok hr
 have q0 : ((n.kids.length : Int) == 0) = false := beq_eq_false_iff_ne.2 (by cases h : n.kids with | nil => exact absurd h hE | cons x xs => simp; omega)
 obtain ⟨a0, c0, rfl⟩ := RdK_slice hr
 unfold ndV at K1 ⊢
 rw [hk] at K1 ⊢
 clear hr ht ih
 generalize n.text = xt at *
 go_enter Tryz.func33, Tryz.ntmps33
 go_wp2_with (first | (go_at_call 46; refine (u_ K1 _ (RdK_later (bal (brf w) _) (u_ HR))).mono ?_; rintro e v1 ⟨rfl, hb1⟩))
 go_ret
 exact ⟨rfl, btr (bal (brf w) _) hb1⟩
theorem isTysz (n : Nd) (v : Value) (w : World) (ht : n.text.size ≤ maxLen) (hr : RdK w n.kids v) (hk : n.kind = 8) (hA : (n.text.size == 0) = false) (hS : (L n.text == sgnL) = true) (hE : n.kids = []) :
   CB 33 #[ndV n v, .int .u8 116] w (.bool true) := by
 have hn : n.text.toList.isEmpty = false := by rw [toListL, ← L_emp]; exact hA
 have hs : (n.text.toList == [115, 105, 103, 110, 101, 100]) = true := by rw [toListL]; exact hS
 clear hS
 have HR := h_ hr
 have hl := len_ok hr
 have q0 : ((n.kids.length : Int) == 0) = true := by rw [hE]; rfl
 obtain ⟨a0, c0, rfl⟩ := RdK_slice hr
 unfold ndV
 rw [hk]
 clear hr ht
 generalize n.text = xt at *
 go_enter Tryz.func33, Tryz.ntmps33
 go_wp2
 go_ret
 exact ⟨rfl, bal (brf w) _⟩
theorem isTyst (n : Nd) (ih : ∀ x ∈ n.kids, IsC x) (v : Value) (w : World) (ht : n.text.size ≤ maxLen) (hr : RdK w n.kids v) (hk : n.kind = 8) (hA : (n.text.size == 0) = false) (hS : (L n.text == sgnL) = true) (hE : n.kids ≠ []) (hB : kidsB n.kids [101] = true) :
   CB 33 #[ndV n v, .int .u8 116] w (.bool true) := by
 have hn : n.text.toList.isEmpty = false := by rw [toListL, ← L_emp]; exact hA
 have hs : (n.text.toList == [115, 105, 103, 110, 101, 100]) = true := by rw [toListL]; exact hS
 clear hS
 have K1 := h_ (fun w' hr' => kidsN n ih v w' ⟨#[101]⟩ (by decide) (by decide) hr')
 have hk1 : ltr ⟨#[101]⟩ = [101] := by decide
 rw [hk1] at K1
 rw [hB] at K1
 have HR := h_ hr
 have hl := len_ok hr
 have q0 : ((n.kids.length : Int) == 0) = false := beq_eq_false_iff_ne.2 (by cases h : n.kids with | nil => exact absurd h hE | cons x xs => simp; omega)
 obtain ⟨a0, c0, rfl⟩ := RdK_slice hr
 unfold ndV at K1 ⊢
 rw [hk] at K1 ⊢
 clear hr ht ih
 generalize n.text = xt at *
 go_enter Tryz.func33, Tryz.ntmps33
 go_wp2_with (first | (go_at_call 46; refine (u_ K1 _ (RdK_later (bal (brf w) _) (u_ HR))).mono ?_; rintro e v1 ⟨rfl, hb1⟩))
 go_ret
 exact ⟨rfl, btr (bal (brf w) _) hb1⟩
theorem isTysf (n : Nd) (ih : ∀ x ∈ n.kids, IsC x) (v : Value) (w : World) (ht : n.text.size ≤ maxLen) (hr : RdK w n.kids v) (hk : n.kind = 8) (hA : (n.text.size == 0) = false) (hS : (L n.text == sgnL) = true) (hE : n.kids ≠ []) (hB : kidsB n.kids [101] = false) :
   CB 33 #[ndV n v, .int .u8 116] w (.bool false) := by
 have hn : n.text.toList.isEmpty = false := by rw [toListL, ← L_emp]; exact hA
 have hs : (n.text.toList == [115, 105, 103, 110, 101, 100]) = true := by rw [toListL]; exact hS
 clear hS
 have K1 := h_ (fun w' hr' => kidsN n ih v w' ⟨#[101]⟩ (by decide) (by decide) hr')
 have hk1 : ltr ⟨#[101]⟩ = [101] := by decide
 rw [hk1] at K1
 rw [hB] at K1
 have HR := h_ hr
 have hl := len_ok hr
 have q0 : ((n.kids.length : Int) == 0) = false := beq_eq_false_iff_ne.2 (by cases h : n.kids with | nil => exact absurd h hE | cons x xs => simp; omega)
 obtain ⟨a0, c0, rfl⟩ := RdK_slice hr
 unfold ndV at K1 ⊢
 rw [hk] at K1 ⊢
 clear hr ht ih
 generalize n.text = xt at *
 go_enter Tryz.func33, Tryz.ntmps33
 go_wp2_with (first | (go_at_call 46; refine (u_ K1 _ (RdK_later (bal (brf w) _) (u_ HR))).mono ?_; rintro e v1 ⟨rfl, hb1⟩))
 go_ret
 exact ⟨rfl, btr (bal (brf w) _) hb1⟩
theorem isTy (n : Nd) (ih : ∀ x ∈ n.kids, IsC x) (v : Value) (w : World) (ht : n.text.size ≤ maxLen) (hr : RdK w n.kids v)  :
   CB 33 #[ndV n v, .int .u8 116] w (.bool (okIs 116 n)) := by
 by_cases h8 : n.kind = 8
 · have e : okIs 116 n = ((n.text.size == 0 || L n.text == sgnL) && (n.kids.isEmpty || kidsB n.kids [101])) := ok_of (by decide) n 8 h8 (by decide) rfl (by
     show ((n.kids.isEmpty || fitK n.kids ([101].map setOf)) && fmL n.kids) = _
     rw [kidsB_of _ _ (by decide)]
     cases h : n.kids with
     | nil => rw [fmL]; rfl
     | cons x xs => rfl)
   rw [e]
   cases hA : (n.text.size == 0) with
   | true =>
     rw [Bool.true_or, Bool.true_and]
     by_cases hE : n.kids = []
     · have e2 : (n.kids.isEmpty || kidsB n.kids [101]) = true := by rw [hE]; rfl
       rw [e2]; exact isTyez n v w ht hr h8 hA hE
     · rw [emp_of hE, Bool.false_or]
       cases hB : kidsB n.kids [101] with
       | true => exact isTyet n ih v w ht hr h8 hA hE hB
       | false => exact isTyef n ih v w ht hr h8 hA hE hB
   | false =>
     cases hS : (L n.text == sgnL) with
     | false => exact isTyn n v w ht hr h8 hA hS
     | true =>
       rw [Bool.false_or, Bool.true_and]
       by_cases hE : n.kids = []
       · have e2 : (n.kids.isEmpty || kidsB n.kids [101]) = true := by rw [hE]; rfl
         rw [e2]; exact isTysz n v w ht hr h8 hA hS hE
       · rw [emp_of hE, Bool.false_or]
         cases hB : kidsB n.kids [101] with
         | true => exact isTyst n ih v w ht hr h8 hA hS hE hB
         | false => exact isTysf n ih v w ht hr h8 hA hS hE hB
 · have e : okIs 116 n = false := ok_no n (by show hasB (2 ^ 8) n.kind = false; rw [has_one 8 (by decide) (by decide)]; simp [h8])
   rw [e]; exact isTyk n v w ht hr h8
theorem isNak (n : Nd) (v : Value) (w : World) (ht : n.text.size ≤ maxLen) (hr : RdK w n.kids v) (h37 : n.kind ≠ 37) :
   CB 33 #[ndV n v, .int .u8 110] w (.bool false) := by
 have HR := h_ hr
 have hl := len_ok hr
 obtain ⟨a0, c0, rfl⟩ := RdK_slice hr
 unfold ndV
 clear hr ht
 have a37 : (n.kind == 37) = false := beq_eq_false_iff_ne.2 h37
 clear h37
 generalize n.kind = xk, n.text = xt at *
 go_enter Tryz.func33, Tryz.ntmps33
 go_wp2
 go_ret
 exact ⟨rfl, bal (brf w) _⟩
theorem isNan (n : Nd) (v : Value) (w : World) (ht : n.text.size ≤ maxLen) (hr : RdK w n.kids v) (hk : n.kind = 37) (hA : freeB n.text = false) :
   CB 33 #[ndV n v, .int .u8 110] w (.bool false) := by
 have FR := h_ (fun w' => sFree n.text w' ht)
 rw [hA] at FR
 have HR := h_ hr
 have hl := len_ok hr
 obtain ⟨a0, c0, rfl⟩ := RdK_slice hr
 unfold ndV
 rw [hk]
 clear hr ht
 generalize n.text = xt at *
 go_enter Tryz.func33, Tryz.ntmps33
 go_wp2_with (first | (go_at_call 47; refine (u_ FR _).mono ?_; rintro e w' ⟨rfl, rfl⟩))
 go_ret
 exact ⟨rfl, bal (brf w) _⟩
theorem isNae (n : Nd) (v : Value) (w : World) (ht : n.text.size ≤ maxLen) (hr : RdK w n.kids v) (hk : n.kind = 37) (hA : freeB n.text = true) (hE : n.kids = []) :
   CB 33 #[ndV n v, .int .u8 110] w (.bool true) := by
 have FR := h_ (fun w' => sFree n.text w' ht)
 rw [hA] at FR
 have HR := h_ hr
 have hl := len_ok hr
 have q0 : ((n.kids.length : Int) == 0) = true := by rw [hE]; rfl
 obtain ⟨a0, c0, rfl⟩ := RdK_slice hr
 unfold ndV
 rw [hk]
 clear hr ht
 generalize n.text = xt at *
 go_enter Tryz.func33, Tryz.ntmps33
 go_wp2_with (first | (go_at_call 47; refine (u_ FR _).mono ?_; rintro e w' ⟨rfl, rfl⟩))
 go_ret
 exact ⟨rfl, bal (brf w) _⟩
theorem isNaf (n : Nd) (v : Value) (w : World) (ht : n.text.size ≤ maxLen) (hr : RdK w n.kids v) (hk : n.kind = 37) (hA : freeB n.text = true) (hE : n.kids ≠ []) :
   CB 33 #[ndV n v, .int .u8 110] w (.bool false) := by
 have FR := h_ (fun w' => sFree n.text w' ht)
 rw [hA] at FR
 have HR := h_ hr
 have hl := len_ok hr
 have q0 : ((n.kids.length : Int) == 0) = false := beq_eq_false_iff_ne.2 (by cases h : n.kids with | nil => exact absurd h hE | cons x xs => simp; omega)
 obtain ⟨a0, c0, rfl⟩ := RdK_slice hr
 unfold ndV
 rw [hk]
 clear hr ht
 generalize n.text = xt at *
 go_enter Tryz.func33, Tryz.ntmps33
 go_wp2_with (first | (go_at_call 47; refine (u_ FR _).mono ?_; rintro e w' ⟨rfl, rfl⟩))
 go_ret
 exact ⟨rfl, bal (brf w) _⟩
theorem isNa (n : Nd) (v : Value) (w : World) (ht : n.text.size ≤ maxLen) (hr : RdK w n.kids v)  :
   CB 33 #[ndV n v, .int .u8 110] w (.bool (okIs 110 n)) := by
 by_cases h37 : n.kind = 37
 · have e : okIs 110 n = (freeB n.text && n.kids.isEmpty) := ok_of (by decide) n 37 h37 (by decide) rfl (emp_fm _)
   rw [e]
   cases hA : freeB n.text with
   | false => exact isNan n v w ht hr h37 hA
   | true =>
     by_cases hE : n.kids = []
     · have e2 : (true && n.kids.isEmpty) = true := by rw [hE]; rfl
       rw [e2]; exact isNae n v w ht hr h37 hA hE
     · rw [emp_of hE]; exact isNaf n v w ht hr h37 hA hE
 · have e : okIs 110 n = false := ok_no n (by show hasB (2 ^ 37) n.kind = false; rw [has_one 37 (by decide) (by decide)]; simp [h37])
   rw [e]; exact isNak n v w ht hr h37
theorem isBlk (n : Nd) (v : Value) (w : World) (ht : n.text.size ≤ maxLen) (hr : RdK w n.kids v) (h26 : n.kind ≠ 26) :
   CB 33 #[ndV n v, .int .u8 98] w (.bool false) := by
 have HR := h_ hr
 have hl := len_ok hr
 obtain ⟨a0, c0, rfl⟩ := RdK_slice hr
 unfold ndV
 clear hr ht
 have a26 : (n.kind == 26) = false := beq_eq_false_iff_ne.2 h26
 clear h26
 generalize n.kind = xk, n.text = xt at *
 go_enter Tryz.func33, Tryz.ntmps33
 go_wp2
 go_ret
 exact ⟨rfl, bal (brf w) _⟩
theorem isBln (n : Nd) (v : Value) (w : World) (ht : n.text.size ≤ maxLen) (hr : RdK w n.kids v) (hk : n.kind = 26) (hA : (n.text.size == 0) = false) :
   CB 33 #[ndV n v, .int .u8 98] w (.bool false) := by
 have hn : n.text.toList.isEmpty = false := by rw [toListL, ← L_emp]; exact hA
 have HR := h_ hr
 have hl := len_ok hr
 obtain ⟨a0, c0, rfl⟩ := RdK_slice hr
 unfold ndV
 rw [hk]
 clear hr ht
 generalize n.text = xt at *
 go_enter Tryz.func33, Tryz.ntmps33
 go_wp2
 go_ret
 exact ⟨rfl, bal (brf w) _⟩
theorem isBlt (n : Nd) (ih : ∀ x ∈ n.kids, IsC x) (v : Value) (w : World) (ht : n.text.size ≤ maxLen) (hr : RdK w n.kids v) (hk : n.kind = 26) (hA : (n.text.size == 0) = true) (hB : n.kids.all (okIs 83) = true) :
   CB 33 #[ndV n v, .int .u8 98] w (.bool true) := by
 have hn : n.text.toList.isEmpty = true := by rw [toListL, ← L_emp]; exact hA
 have K1 := h_ (fun w' hr' => allN n ih v w' 0 83 (by decide) (by decide) hr')
 rw [List.drop_zero] at K1
 rw [hB] at K1
 have HR := h_ hr
 have hl := len_ok hr
 obtain ⟨a0, c0, rfl⟩ := RdK_slice hr
 unfold ndV at K1 ⊢
 rw [hk] at K1 ⊢
 clear hr ht ih
 generalize n.text = xt at *
 go_enter Tryz.func33, Tryz.ntmps33
 go_wp2_with (first | (go_at_call 19; refine (u_ K1 _ (RdK_later (bal (brf w) _) (u_ HR))).mono ?_; rintro e v1 ⟨rfl, hb1⟩))
 go_ret
 exact ⟨rfl, btr (bal (brf w) _) hb1⟩
theorem isBlf (n : Nd) (ih : ∀ x ∈ n.kids, IsC x) (v : Value) (w : World) (ht : n.text.size ≤ maxLen) (hr : RdK w n.kids v) (hk : n.kind = 26) (hA : (n.text.size == 0) = true) (hB : n.kids.all (okIs 83) = false) :
   CB 33 #[ndV n v, .int .u8 98] w (.bool false) := by
 have hn : n.text.toList.isEmpty = true := by rw [toListL, ← L_emp]; exact hA
 have K1 := h_ (fun w' hr' => allN n ih v w' 0 83 (by decide) (by decide) hr')
 rw [List.drop_zero] at K1
 rw [hB] at K1
 have HR := h_ hr
 have hl := len_ok hr
 obtain ⟨a0, c0, rfl⟩ := RdK_slice hr
 unfold ndV at K1 ⊢
 rw [hk] at K1 ⊢
 clear hr ht ih
 generalize n.text = xt at *
 go_enter Tryz.func33, Tryz.ntmps33
 go_wp2_with (first | (go_at_call 19; refine (u_ K1 _ (RdK_later (bal (brf w) _) (u_ HR))).mono ?_; rintro e v1 ⟨rfl, hb1⟩))
 go_ret
 exact ⟨rfl, btr (bal (brf w) _) hb1⟩
theorem isBl (n : Nd) (ih : ∀ x ∈ n.kids, IsC x) (v : Value) (w : World) (ht : n.text.size ≤ maxLen) (hr : RdK w n.kids v)  :
   CB 33 #[ndV n v, .int .u8 98] w (.bool (okIs 98 n)) := by
 by_cases h26 : n.kind = 26
 · have e : okIs 98 n = ((n.text.size == 0) && n.kids.all (okIs 83)) := ok_of (by decide) n 26 h26 (by decide) rfl (allB_of (c := 83) (by decide) n.kids).symm
   rw [e]
   cases hA : (n.text.size == 0) with
   | false => exact isBln n v w ht hr h26 hA
   | true =>
     rw [Bool.true_and]
     cases hB : n.kids.all (okIs 83) with
     | true => exact isBlt n ih v w ht hr h26 hA hB
     | false => exact isBlf n ih v w ht hr h26 hA hB
 · have e : okIs 98 n = false := ok_no n (by show hasB (2 ^ 26) n.kind = false; rw [has_one 26 (by decide) (by decide)]; simp [h26])
   rw [e]; exact isBlk n v w ht hr h26
theorem isItk (n : Nd) (v : Value) (w : World) (ht : n.text.size ≤ maxLen) (hr : RdK w n.kids v) (h23 : n.kind ≠ 23) :
   CB 33 #[ndV n v, .int .u8 115] w (.bool false) := by
 have HR := h_ hr
 have hl := len_ok hr
 obtain ⟨a0, c0, rfl⟩ := RdK_slice hr
 unfold ndV
 clear hr ht
 have a23 : (n.kind == 23) = false := beq_eq_false_iff_ne.2 h23
 clear h23
 generalize n.kind = xk, n.text = xt at *
 go_enter Tryz.func33, Tryz.ntmps33
 go_wp2
 go_ret
 exact ⟨rfl, bal (brf w) _⟩
theorem isItn (n : Nd) (v : Value) (w : World) (ht : n.text.size ≤ maxLen) (hr : RdK w n.kids v) (hk : n.kind = 23) (hA : (n.text.size == 0) = false) :
   CB 33 #[ndV n v, .int .u8 115] w (.bool false) := by
 have hn : n.text.toList.isEmpty = false := by rw [toListL, ← L_emp]; exact hA
 have HR := h_ hr
 have hl := len_ok hr
 obtain ⟨a0, c0, rfl⟩ := RdK_slice hr
 unfold ndV
 rw [hk]
 clear hr ht
 generalize n.text = xt at *
 go_enter Tryz.func33, Tryz.ntmps33
 go_wp2
 go_ret
 exact ⟨rfl, bal (brf w) _⟩
theorem isItt (n : Nd) (ih : ∀ x ∈ n.kids, IsC x) (v : Value) (w : World) (ht : n.text.size ≤ maxLen) (hr : RdK w n.kids v) (hk : n.kind = 23) (hA : (n.text.size == 0) = true) (hB : n.kids.all (okIs 105) = true) :
   CB 33 #[ndV n v, .int .u8 115] w (.bool true) := by
 have hn : n.text.toList.isEmpty = true := by rw [toListL, ← L_emp]; exact hA
 have K1 := h_ (fun w' hr' => allN n ih v w' 0 105 (by decide) (by decide) hr')
 rw [List.drop_zero] at K1
 rw [hB] at K1
 have HR := h_ hr
 have hl := len_ok hr
 obtain ⟨a0, c0, rfl⟩ := RdK_slice hr
 unfold ndV at K1 ⊢
 rw [hk] at K1 ⊢
 clear hr ht ih
 generalize n.text = xt at *
 go_enter Tryz.func33, Tryz.ntmps33
 go_wp2_with (first | (go_at_call 19; refine (u_ K1 _ (RdK_later (bal (brf w) _) (u_ HR))).mono ?_; rintro e v1 ⟨rfl, hb1⟩))
 go_ret
 exact ⟨rfl, btr (bal (brf w) _) hb1⟩
theorem isItf (n : Nd) (ih : ∀ x ∈ n.kids, IsC x) (v : Value) (w : World) (ht : n.text.size ≤ maxLen) (hr : RdK w n.kids v) (hk : n.kind = 23) (hA : (n.text.size == 0) = true) (hB : n.kids.all (okIs 105) = false) :
   CB 33 #[ndV n v, .int .u8 115] w (.bool false) := by
 have hn : n.text.toList.isEmpty = true := by rw [toListL, ← L_emp]; exact hA
 have K1 := h_ (fun w' hr' => allN n ih v w' 0 105 (by decide) (by decide) hr')
 rw [List.drop_zero] at K1
 rw [hB] at K1
 have HR := h_ hr
 have hl := len_ok hr
 obtain ⟨a0, c0, rfl⟩ := RdK_slice hr
 unfold ndV at K1 ⊢
 rw [hk] at K1 ⊢
 clear hr ht ih
 generalize n.text = xt at *
 go_enter Tryz.func33, Tryz.ntmps33
 go_wp2_with (first | (go_at_call 19; refine (u_ K1 _ (RdK_later (bal (brf w) _) (u_ HR))).mono ?_; rintro e v1 ⟨rfl, hb1⟩))
 go_ret
 exact ⟨rfl, btr (bal (brf w) _) hb1⟩
theorem isIt (n : Nd) (ih : ∀ x ∈ n.kids, IsC x) (v : Value) (w : World) (ht : n.text.size ≤ maxLen) (hr : RdK w n.kids v)  :
   CB 33 #[ndV n v, .int .u8 115] w (.bool (okIs 115 n)) := by
 by_cases h23 : n.kind = 23
 · have e : okIs 115 n = ((n.text.size == 0) && n.kids.all (okIs 105)) := ok_of (by decide) n 23 h23 (by decide) rfl (allB_of (c := 105) (by decide) n.kids).symm
   rw [e]
   cases hA : (n.text.size == 0) with
   | false => exact isItn n v w ht hr h23 hA
   | true =>
     rw [Bool.true_and]
     cases hB : n.kids.all (okIs 105) with
     | true => exact isItt n ih v w ht hr h23 hA hB
     | false => exact isItf n ih v w ht hr h23 hA hB
 · have e : okIs 115 n = false := ok_no n (by show hasB (2 ^ 23) n.kind = false; rw [has_one 23 (by decide) (by decide)]; simp [h23])
   rw [e]; exact isItk n v w ht hr h23
theorem isEt (n : Nd) (ih : ∀ x ∈ n.kids, IsC x) (v : Value) (w : World) (ht : n.text.size ≤ maxLen) (hr : RdK w n.kids v) (hB : okIs 101 n = true) :
   CB 33 #[ndV n v, .int .u8 101] w (.bool true) := by
 have K1 := h_ (fun w' hr' => exW n ih v w' ht hr')
 rw [hB] at K1
 have HR := h_ hr
 have hl := len_ok hr
 obtain ⟨a0, c0, rfl⟩ := RdK_slice hr
 unfold ndV at K1 ⊢
 clear hr ht ih
 generalize n.text = xt at *
 generalize n.kind = xk at *
 go_enter Tryz.func33, Tryz.ntmps33
 go_wp2_with (first | (go_at_call 50; refine (u_ K1 _ (RdK_later (bal (brf w) _) (u_ HR))).mono ?_; rintro e v1 ⟨rfl, hb1⟩))
 go_ret
 exact ⟨rfl, btr (bal (brf w) _) hb1⟩
theorem isEf (n : Nd) (ih : ∀ x ∈ n.kids, IsC x) (v : Value) (w : World) (ht : n.text.size ≤ maxLen) (hr : RdK w n.kids v) (hB : okIs 101 n = false) :
   CB 33 #[ndV n v, .int .u8 101] w (.bool false) := by
 have K1 := h_ (fun w' hr' => exW n ih v w' ht hr')
 rw [hB] at K1
 have HR := h_ hr
 have hl := len_ok hr
 obtain ⟨a0, c0, rfl⟩ := RdK_slice hr
 unfold ndV at K1 ⊢
 clear hr ht ih
 generalize n.text = xt at *
 generalize n.kind = xk at *
 go_enter Tryz.func33, Tryz.ntmps33
 go_wp2_with (first | (go_at_call 50; refine (u_ K1 _ (RdK_later (bal (brf w) _) (u_ HR))).mono ?_; rintro e v1 ⟨rfl, hb1⟩))
 go_ret
 exact ⟨rfl, btr (bal (brf w) _) hb1⟩
theorem isE (n : Nd) (ih : ∀ x ∈ n.kids, IsC x) (v : Value) (w : World) (ht : n.text.size ≤ maxLen) (hr : RdK w n.kids v)  :
   CB 33 #[ndV n v, .int .u8 101] w (.bool (okIs 101 n)) := by
 cases hB : okIs 101 n with
 | true => exact isEt n ih v w ht hr hB
 | false => exact isEf n ih v w ht hr hB
theorem isImt (n : Nd) (ih : ∀ x ∈ n.kids, IsC x) (v : Value) (w : World) (ht : n.text.size ≤ maxLen) (hr : RdK w n.kids v) (hB : okIs 105 n = true) :
   CB 33 #[ndV n v, .int .u8 105] w (.bool true) := by
 have K1 := h_ (fun w' hr' => itW n ih v w' ht hr')
 rw [hB] at K1
 have HR := h_ hr
 have hl := len_ok hr
 obtain ⟨a0, c0, rfl⟩ := RdK_slice hr
 unfold ndV at K1 ⊢
 clear hr ht ih
 generalize n.text = xt at *
 generalize n.kind = xk at *
 go_enter Tryz.func33, Tryz.ntmps33
 go_wp2_with (first | (go_at_call 48; refine (u_ K1 _ (RdK_later (bal (brf w) _) (u_ HR))).mono ?_; rintro e v1 ⟨rfl, hb1⟩))
 go_ret
 exact ⟨rfl, btr (bal (brf w) _) hb1⟩
theorem isImf (n : Nd) (ih : ∀ x ∈ n.kids, IsC x) (v : Value) (w : World) (ht : n.text.size ≤ maxLen) (hr : RdK w n.kids v) (hB : okIs 105 n = false) :
   CB 33 #[ndV n v, .int .u8 105] w (.bool false) := by
 have K1 := h_ (fun w' hr' => itW n ih v w' ht hr')
 rw [hB] at K1
 have HR := h_ hr
 have hl := len_ok hr
 obtain ⟨a0, c0, rfl⟩ := RdK_slice hr
 unfold ndV at K1 ⊢
 clear hr ht ih
 generalize n.text = xt at *
 generalize n.kind = xk at *
 go_enter Tryz.func33, Tryz.ntmps33
 go_wp2_with (first | (go_at_call 48; refine (u_ K1 _ (RdK_later (bal (brf w) _) (u_ HR))).mono ?_; rintro e v1 ⟨rfl, hb1⟩))
 go_ret
 exact ⟨rfl, btr (bal (brf w) _) hb1⟩
theorem isIm (n : Nd) (ih : ∀ x ∈ n.kids, IsC x) (v : Value) (w : World) (ht : n.text.size ≤ maxLen) (hr : RdK w n.kids v)  :
   CB 33 #[ndV n v, .int .u8 105] w (.bool (okIs 105 n)) := by
 cases hB : okIs 105 n with
 | true => exact isImt n ih v w ht hr hB
 | false => exact isImf n ih v w ht hr hB
theorem isSt (n : Nd) (ih : ∀ x ∈ n.kids, IsC x) (v : Value) (w : World) (ht : n.text.size ≤ maxLen) (hr : RdK w n.kids v) (ih2 : ∀ x ∈ n.kids, ∀ y ∈ x.kids, IsC y) (hB : okIs 83 n = true) :
   CB 33 #[ndV n v, .int .u8 83] w (.bool true) := by
 have K1 := h_ (fun w' hr' => stW n ih ih2 v w' ht hr')
 rw [hB] at K1
 have HR := h_ hr
 have hl := len_ok hr
 obtain ⟨a0, c0, rfl⟩ := RdK_slice hr
 unfold ndV at K1 ⊢
 clear hr ht ih
 generalize n.text = xt at *
 generalize n.kind = xk at *
 go_enter Tryz.func33, Tryz.ntmps33
 go_wp2_with (first | (go_at_call 49; refine (u_ K1 _ (RdK_later (bal (brf w) _) (u_ HR))).mono ?_; rintro e v1 ⟨rfl, hb1⟩))
 go_ret
 exact ⟨rfl, btr (bal (brf w) _) hb1⟩
theorem isSf (n : Nd) (ih : ∀ x ∈ n.kids, IsC x) (v : Value) (w : World) (ht : n.text.size ≤ maxLen) (hr : RdK w n.kids v) (ih2 : ∀ x ∈ n.kids, ∀ y ∈ x.kids, IsC y) (hB : okIs 83 n = false) :
   CB 33 #[ndV n v, .int .u8 83] w (.bool false) := by
 have K1 := h_ (fun w' hr' => stW n ih ih2 v w' ht hr')
 rw [hB] at K1
 have HR := h_ hr
 have hl := len_ok hr
 obtain ⟨a0, c0, rfl⟩ := RdK_slice hr
 unfold ndV at K1 ⊢
 clear hr ht ih
 generalize n.text = xt at *
 generalize n.kind = xk at *
 go_enter Tryz.func33, Tryz.ntmps33
 go_wp2_with (first | (go_at_call 49; refine (u_ K1 _ (RdK_later (bal (brf w) _) (u_ HR))).mono ?_; rintro e v1 ⟨rfl, hb1⟩))
 go_ret
 exact ⟨rfl, btr (bal (brf w) _) hb1⟩
theorem isS (n : Nd) (ih : ∀ x ∈ n.kids, IsC x) (v : Value) (w : World) (ht : n.text.size ≤ maxLen) (hr : RdK w n.kids v) (ih2 : ∀ x ∈ n.kids, ∀ y ∈ x.kids, IsC y)  :
   CB 33 #[ndV n v, .int .u8 83] w (.bool (okIs 83 n)) := by
 cases hB : okIs 83 n with
 | true => exact isSt n ih v w ht hr ih2 hB
 | false => exact isSf n ih v w ht hr ih2 hB
theorem isBBt (n : Nd) (ih : ∀ x ∈ n.kids, IsC x) (v : Value) (w : World) (ht : n.text.size ≤ maxLen) (hr : RdK w n.kids v) (hB : okIs 98 n = true) :
   CB 33 #[ndV n v, .int .u8 66] w (.bool true) := by
 have K1 := h_ (fun w' hr' => isBl n ih v w' ht hr')
 rw [hB] at K1
 have HR := h_ hr
 have hl := len_ok hr
 obtain ⟨a0, c0, rfl⟩ := RdK_slice hr
 unfold ndV at K1 ⊢
 clear hr ht ih
 generalize n.text = xt at *
 generalize n.kind = xk at *
 go_enter Tryz.func33, Tryz.ntmps33
 go_wp2_with (first | (go_at_call_of 33 (Value.int IntKind.u8 98); refine (u_ K1 _ (RdK_later (bal (brf w) _) (u_ HR))).mono ?_; rintro e v1 ⟨rfl, hb1⟩; obtain ⟨hc1, hf1⟩ := bcell hb1))
 go_ret
 exact ⟨rfl, btr (bal (brf w) _) hb1⟩
theorem isBBk (n : Nd) (ih : ∀ x ∈ n.kids, IsC x) (v : Value) (w : World) (ht : n.text.size ≤ maxLen) (hr : RdK w n.kids v) (hB : okIs 98 n = false) (h29 : n.kind ≠ 29) :
   CB 33 #[ndV n v, .int .u8 66] w (.bool false) := by
 have K1 := h_ (fun w' hr' => isBl n ih v w' ht hr')
 rw [hB] at K1
 have HR := h_ hr
 have hl := len_ok hr
 obtain ⟨a0, c0, rfl⟩ := RdK_slice hr
 unfold ndV at K1 ⊢
 clear hr ht ih
 have a29 : (n.kind == 29) = false := beq_eq_false_iff_ne.2 h29
 clear h29
 generalize n.kind = xk, n.text = xt at *
 go_enter Tryz.func33, Tryz.ntmps33
 go_wp2_with (first | (go_at_call_of 33 (Value.int IntKind.u8 98); refine (u_ K1 _ (RdK_later (bal (brf w) _) (u_ HR))).mono ?_; rintro e v1 ⟨rfl, hb1⟩; obtain ⟨hc1, hf1⟩ := bcell hb1))
 go_ret
 exact ⟨rfl, btr (bal (brf w) _) hb1⟩
theorem isBBts (n : Nd) (ih : ∀ x ∈ n.kids, IsC x) (v : Value) (w : World) (ht : n.text.size ≤ maxLen) (hr : RdK w n.kids v) (ih2 : ∀ x ∈ n.kids, ∀ y ∈ x.kids, IsC y) (hk : n.kind = 29) (hB : okIs 98 n = false) (hC : okIs 83 n = true) :
   CB 33 #[ndV n v, .int .u8 66] w (.bool true) := by
 have K1 := h_ (fun w' hr' => isBl n ih v w' ht hr')
 rw [hB] at K1
 have K2 := h_ (fun w' hr' => isS n ih v w' ht hr' ih2)
 rw [hC] at K2
 have HR := h_ hr
 have hl := len_ok hr
 obtain ⟨a0, c0, rfl⟩ := RdK_slice hr
 unfold ndV at K1 K2 ⊢
 rw [hk] at K1 K2 ⊢
 clear hr ht ih
 generalize n.text = xt at *
 go_enter Tryz.func33, Tryz.ntmps33
 go_wp2_with (first | (go_at_call_of 33 (Value.int IntKind.u8 98); refine (u_ K1 _ (RdK_later (bal (brf w) _) (u_ HR))).mono ?_; rintro e v1 ⟨rfl, hb1⟩; obtain ⟨hc1, hf1⟩ := bcell hb1) | (go_at_call_of 33 (Value.int IntKind.u8 83); refine (u_ K2 _ (RdK_later (btr (bal (brf w) _) hb1) (u_ HR))).mono ?_; rintro e v2 ⟨rfl, hb2⟩))
 go_ret
 exact ⟨rfl, btr (btr (bal (brf w) _) hb1) hb2⟩
theorem isBBfs (n : Nd) (ih : ∀ x ∈ n.kids, IsC x) (v : Value) (w : World) (ht : n.text.size ≤ maxLen) (hr : RdK w n.kids v) (ih2 : ∀ x ∈ n.kids, ∀ y ∈ x.kids, IsC y) (hk : n.kind = 29) (hB : okIs 98 n = false) (hC : okIs 83 n = false) :
   CB 33 #[ndV n v, .int .u8 66] w (.bool false) := by
 have K1 := h_ (fun w' hr' => isBl n ih v w' ht hr')
 rw [hB] at K1
 have K2 := h_ (fun w' hr' => isS n ih v w' ht hr' ih2)
 rw [hC] at K2
 have HR := h_ hr
 have hl := len_ok hr
 obtain ⟨a0, c0, rfl⟩ := RdK_slice hr
 unfold ndV at K1 K2 ⊢
 rw [hk] at K1 K2 ⊢
 clear hr ht ih
 generalize n.text = xt at *
 go_enter Tryz.func33, Tryz.ntmps33
 go_wp2_with (first | (go_at_call_of 33 (Value.int IntKind.u8 98); refine (u_ K1 _ (RdK_later (bal (brf w) _) (u_ HR))).mono ?_; rintro e v1 ⟨rfl, hb1⟩; obtain ⟨hc1, hf1⟩ := bcell hb1) | (go_at_call_of 33 (Value.int IntKind.u8 83); refine (u_ K2 _ (RdK_later (btr (bal (brf w) _) hb1) (u_ HR))).mono ?_; rintro e v2 ⟨rfl, hb2⟩))
 go_ret
 exact ⟨rfl, btr (btr (bal (brf w) _) hb1) hb2⟩
theorem isBB (n : Nd) (ih : ∀ x ∈ n.kids, IsC x) (v : Value) (w : World) (ht : n.text.size ≤ maxLen) (hr : RdK w n.kids v) (ih2 : ∀ x ∈ n.kids, ∀ y ∈ x.kids, IsC y)  :
   CB 33 #[ndV n v, .int .u8 66] w (.bool (okIs 66 n)) := by
 have e : okIs 66 n = (okIs 98 n || (n.kind == 29) && okIs 83 n) := by
   rw [okIs_of (by decide), okIs_of (by decide), okIs_of (by decide)]
   show (hasB (2 ^ 26 + 2 ^ 29) n.kind && fm n) = (hasB (2 ^ 26) n.kind && fm n || (n.kind == 29) && (hasB stmK n.kind && fm n))
   rw [hasB_of (2 ^ 26 + 2 ^ 29) [26, 29] (by decide) (by decide), has_one 26 (by decide) (by decide), has_stm]
   by_cases h1 : n.kind = 29
   · rw [h1]; cases fm n <;> rfl
   · have a1 : (n.kind == 29) = false := beq_eq_false_iff_ne.2 h1
     cases fm n <;> simp [a1]
 rw [e]
 cases hB : okIs 98 n with
 | true => exact isBBt n ih v w ht hr hB
 | false =>
   by_cases h29 : n.kind = 29
   · have a1 : (n.kind == 29) = true := by rw [h29]; rfl
     rw [a1, Bool.false_or, Bool.true_and]
     cases hC : okIs 83 n with
     | true => exact isBBts n ih v w ht hr ih2 h29 hB hC
     | false => exact isBBfs n ih v w ht hr ih2 h29 hB hC
   · have a1 : (n.kind == 29) = false := beq_eq_false_iff_ne.2 h29
     rw [a1]
     exact isBBk n ih v w ht hr hB h29
set_option maxHeartbeats 800000
theorem isPaL (n : Nd) (ih2 : ∀ x ∈ n.kids, ∀ y ∈ x.kids, IsC y) (v : Value) (w : World) (ht : n.text.size ≤ maxLen) (hr : RdK w n.kids v) (hk : n.kind = 3) (hA : (n.text.size == 0) = true) :
   CB 33 #[ndV n v, .int .u8 112] w (.bool (n.kids.all (pB 4 [101]))) := by
 have HP := h_ ih2
 have hn : n.text.toList.isEmpty = true := by rw [toListL, ← L_emp]; exact hA
 clear ih2 hA ht
 unfold ndV
 rw [hk]
 have hlen := len_ok hr
 obtain ⟨a0, c0, rfl⟩ := RdK_slice hr
 have z1 : (w.alloc (Obj.cells #[Value.int IntKind.i64 3, Value.string n.text, Value.slice a0 n.kids.length c0] 30)).cell? ⟨w.heap.size, 2, none⟩ = some (.slice a0 n.kids.length c0) := by rw [World.cell?_alloc_new]; rfl
 have HB1 : Hid (Below w.heap.size w (w.alloc (Obj.cells #[Value.int IntKind.i64 3, Value.string n.text, Value.slice a0 n.kids.length c0] 30))) := h_ (bal (brf w) _)
 generalize n.text = xt at *
 go_enter Tryz.func33, Tryz.ntmps33
 go_wp2
 generalize hw1 : w.alloc (Obj.cells #[Value.int IntKind.i64 3, Value.string xt, Value.slice a0 n.kids.length c0] 30) = w1 at *
 go_loopw [6] (fun i wr => ∃ j : Nat, i = .int .i64 j ∧ j ≤ n.kids.length ∧ Below w1.heap.size w1 wr ∧ (n.kids.drop j).all (pB 4 [101]) = n.kids.all (pB 4 [101])) (fun i wr => n.kids.length - (intOf i).toNat)
 case atStart => exact ⟨0, rfl, Nat.zero_le _, brf _, rfl⟩
 case round =>
   obtain ⟨j, rfl, hj, hb, hall⟩ := hrel
   have z2 := c_ hb z1
   have hbw := below_step (u_ HB1) hb
   have HB := h_ hbw
   have HA := h_ hall
   have HB0 := h_ hb
   by_cases hjn : j < n.kids.length
   · have hx : n.kids[j]? = some n.kids[j] := List.getElem?_eq_getElem hjn
     have hdr := List.drop_eq_getElem_cons hjn
     generalize n.kids[j] = x at hx hdr
     rcases RdK_cases hr with ⟨h0, _⟩ | ⟨b, o, c', vs, hvv, hn', hcs⟩
     · rw [h0] at hjn; simp at hjn
     obtain ⟨k1, k2, k3, hts, hkr⟩ := hcs j x hx
     have k1' := c_ hbw k1
     have k2' := c_ hbw k2
     have k3' := c_ hbw k3
     have FR := h_ (fun w' => sFree x.text w' hts)
     have KX := h_ (fun (wy : World) (hy : Below wr.heap.size wr wy) => kidsN x (u_ HP x (List.mem_of_getElem? hx)) (vs j) wy ⟨#[101]⟩ (by decide) (by decide) (RdK_later hy (RdK_later hbw hkr)))
     have hk1 : ltr ⟨#[101]⟩ = [101] := by decide
     rw [hk1] at KX
     unfold ndV at KX
     obtain ⟨ha0, hc0⟩ : a0 = some ⟨b, o, none⟩ ∧ c0 = c' := by injection hvv with h1 h2 h3; exact ⟨h1, h3⟩
     subst ha0 hc0
     obtain ⟨a', c'', hv'⟩ := RdK_slice hkr
     rw [hv'] at k3' KX
     rw [hdr, List.all_cons] at HA
     have HPx : Hid ((pB 4 [101]) x = ((x.kind == 4) && (freeB x.text && kidsB x.kids [101]))) := h_ rfl
     rw [u_ HPx] at HA
     clear hb hbw k1 k2 k3 hkr hcs hvv hr hall hk1 HPx
     by_cases hxk : x.kind = 4
     · rw [hxk] at k1' KX HA
       have hkb : ((((4 : Int) == 4))) = true := by decide
       rw [hkb, Bool.true_and] at HA
       clear hkb hxk
       cases hF : freeB x.text with
       | false =>
         rw [hF] at FR HA
         rw [Bool.false_and, Bool.false_and] at HA
         clear hF KX
         generalize x.text = yt at *
         go_wp2_with (go_at_call 47; refine (u_ FR _).mono ?_; rintro e w' ⟨rfl, rfl⟩)
         exact bodyPost_ret (v := .bool false) (by simp [results, Tryz.results33, go_sem]) rfl ⟨by rw [← u_ HA], u_ HB⟩
       | true =>
         rw [hF] at FR HA
         rw [Bool.true_and] at HA
         clear hF
         cases hK : kidsB x.kids [101] with
         | false =>
           rw [hK] at KX HA
           rw [Bool.false_and] at HA
           clear hK
           generalize x.text = yt at *
           go_wp2_with (first | (go_at_call 47; refine (u_ FR _).mono ?_; rintro e w' ⟨rfl, rfl⟩) | (go_at_call 46; refine (u_ KX _ (brf _)).mono ?_; rintro e v1 ⟨rfl, hb1⟩))
           exact bodyPost_ret (v := .bool false) (by simp [results, Tryz.results33, go_sem]) rfl ⟨by rw [← u_ HA], below_step (u_ HB) hb1⟩
         | true =>
           rw [hK] at KX HA
           rw [Bool.true_and] at HA
           clear hK
           generalize x.text = yt at *
           go_wp2_with (first | (go_at_call 47; refine (u_ FR _).mono ?_; rintro e w' ⟨rfl, rfl⟩) | (go_at_call 46; refine (u_ KX _ (brf _)).mono ?_; rintro e v1 ⟨rfl, hb1⟩))
           exact ⟨⟨j + 1, by go_num, by omega, below_step (u_ HB0) hb1, u_ HA⟩, by simp [intOf]; omega⟩
     · have a4 : (x.kind == 4) = false := beq_eq_false_iff_ne.2 (fun h => hxk (by simp [h])); have b4 : (x.kind != 4) = true := (by rw [bne, a4]; rfl)
       rw [a4] at HA
       have hkb : (false) = false := by decide
       rw [Bool.false_and, Bool.false_and] at HA
       clear hxk KX FR hkb
       generalize x.kind = yk at *
       generalize x.text = yt at *
       go_wp2
       exact bodyPost_ret (v := .bool false) (by simp [results, Tryz.results33, go_sem]) rfl ⟨by rw [← u_ HA], u_ HB⟩
   · rw [List.drop_of_length_le (by omega)] at HA
     clear hb hbw hr hall
     go_wp2
     exact bodyPost_ret (v := .bool true) (by simp [results, Tryz.results33, go_sem]) rfl ⟨by rw [← u_ HA]; rfl, u_ HB⟩
theorem isPak (n : Nd) (v : Value) (w : World) (ht : n.text.size ≤ maxLen) (hr : RdK w n.kids v) (h3 : n.kind ≠ 3) :
   CB 33 #[ndV n v, .int .u8 112] w (.bool false) := by
 have b3 : (n.kind != 3) = true := by rw [bne, beq_eq_false_iff_ne.2 h3]; rfl
 have HR := h_ hr
 have hl := len_ok hr
 obtain ⟨a0, c0, rfl⟩ := RdK_slice hr
 unfold ndV
 clear hr ht
 have a3 : (n.kind == 3) = false := beq_eq_false_iff_ne.2 h3
 clear h3
 generalize n.kind = xk, n.text = xt at *
 go_enter Tryz.func33, Tryz.ntmps33
 go_wp2
 go_ret
 exact ⟨rfl, bal (brf w) _⟩
theorem isPan (n : Nd) (v : Value) (w : World) (ht : n.text.size ≤ maxLen) (hr : RdK w n.kids v) (hk : n.kind = 3) (hA : (n.text.size == 0) = false) :
   CB 33 #[ndV n v, .int .u8 112] w (.bool false) := by
 have hn : n.text.toList.isEmpty = false := by rw [toListL, ← L_emp]; exact hA
 have HR := h_ hr
 have hl := len_ok hr
 obtain ⟨a0, c0, rfl⟩ := RdK_slice hr
 unfold ndV
 rw [hk]
 clear hr ht
 generalize n.text = xt at *
 go_enter Tryz.func33, Tryz.ntmps33
 go_wp2
 go_ret
 exact ⟨rfl, bal (brf w) _⟩
theorem isPa (n : Nd) (v : Value) (w : World) (ht : n.text.size ≤ maxLen) (hr : RdK w n.kids v) (ih2 : ∀ x ∈ n.kids, ∀ y ∈ x.kids, IsC y) :
   CB 33 #[ndV n v, .int .u8 112] w (.bool (okIs 112 n)) := by
 by_cases h3 : n.kind = 3
 · have e : okIs 112 n = ((n.text.size == 0) && n.kids.all (pB 4 [101])) := ok_of (by decide) n 3 h3 (by decide) rfl (by
     show (allK (2 ^ 4) n.kids && fmL n.kids) = _
     rw [all_fm]; exact congrArg n.kids.all (funext pB_4))
   rw [e]
   cases hA : (n.text.size == 0) with
   | false => exact isPan n v w ht hr h3 hA
   | true => rw [Bool.true_and]; exact isPaL n ih2 v w ht hr h3 hA
 · have e : okIs 112 n = false := ok_no n (by show hasB (2 ^ 3) n.kind = false; rw [has_one 3 (by decide) (by decide)]; simp [h3])
   rw [e]; exact isPak n v w ht hr h3
theorem isCoL (n : Nd) (ih2 : ∀ x ∈ n.kids, ∀ y ∈ x.kids, IsC y) (v : Value) (w : World) (ht : n.text.size ≤ maxLen) (hr : RdK w n.kids v) (hk : n.kind = 24) (hA : (n.text.size == 0) = true) :
   CB 33 #[ndV n v, .int .u8 99] w (.bool (n.kids.all (pB 25 [101]))) := by
 have HP := h_ ih2
 have hn : n.text.toList.isEmpty = true := by rw [toListL, ← L_emp]; exact hA
 clear ih2 hA ht
 unfold ndV
 rw [hk]
 have hlen := len_ok hr
 obtain ⟨a0, c0, rfl⟩ := RdK_slice hr
 have z1 : (w.alloc (Obj.cells #[Value.int IntKind.i64 24, Value.string n.text, Value.slice a0 n.kids.length c0] 30)).cell? ⟨w.heap.size, 2, none⟩ = some (.slice a0 n.kids.length c0) := by rw [World.cell?_alloc_new]; rfl
 have HB1 : Hid (Below w.heap.size w (w.alloc (Obj.cells #[Value.int IntKind.i64 24, Value.string n.text, Value.slice a0 n.kids.length c0] 30))) := h_ (bal (brf w) _)
 generalize n.text = xt at *
 go_enter Tryz.func33, Tryz.ntmps33
 go_wp2
 generalize hw1 : w.alloc (Obj.cells #[Value.int IntKind.i64 24, Value.string xt, Value.slice a0 n.kids.length c0] 30) = w1 at *
 go_loopw [9] (fun i wr => ∃ j : Nat, i = .int .i64 j ∧ j ≤ n.kids.length ∧ Below w1.heap.size w1 wr ∧ (n.kids.drop j).all (pB 25 [101]) = n.kids.all (pB 25 [101])) (fun i wr => n.kids.length - (intOf i).toNat)
 case atStart => exact ⟨0, rfl, Nat.zero_le _, brf _, rfl⟩
 case round =>
   obtain ⟨j, rfl, hj, hb, hall⟩ := hrel
   have z2 := c_ hb z1
   have hbw := below_step (u_ HB1) hb
   have HB := h_ hbw
   have HA := h_ hall
   have HB0 := h_ hb
   by_cases hjn : j < n.kids.length
   · have hx : n.kids[j]? = some n.kids[j] := List.getElem?_eq_getElem hjn
     have hdr := List.drop_eq_getElem_cons hjn
     generalize n.kids[j] = x at hx hdr
     rcases RdK_cases hr with ⟨h0, _⟩ | ⟨b, o, c', vs, hvv, hn', hcs⟩
     · rw [h0] at hjn; simp at hjn
     obtain ⟨k1, k2, k3, hts, hkr⟩ := hcs j x hx
     have k1' := c_ hbw k1
     have k2' := c_ hbw k2
     have k3' := c_ hbw k3
     have FR := h_ (fun w' => sFree x.text w' hts)
     have KX := h_ (fun (wy : World) (hy : Below wr.heap.size wr wy) => kidsN x (u_ HP x (List.mem_of_getElem? hx)) (vs j) wy ⟨#[101]⟩ (by decide) (by decide) (RdK_later hy (RdK_later hbw hkr)))
     have hk1 : ltr ⟨#[101]⟩ = [101] := by decide
     rw [hk1] at KX
     unfold ndV at KX
     obtain ⟨ha0, hc0⟩ : a0 = some ⟨b, o, none⟩ ∧ c0 = c' := by injection hvv with h1 h2 h3; exact ⟨h1, h3⟩
     subst ha0 hc0
     obtain ⟨a', c'', hv'⟩ := RdK_slice hkr
     rw [hv'] at k3' KX
     rw [hdr, List.all_cons] at HA
     have HPx : Hid ((pB 25 [101]) x = ((x.kind == 25) && (freeB x.text && kidsB x.kids [101]))) := h_ rfl
     rw [u_ HPx] at HA
     clear hb hbw k1 k2 k3 hkr hcs hvv hr hall hk1 HPx
     by_cases hxk : x.kind = 25
     · rw [hxk] at k1' KX HA
       have hkb : ((((25 : Int) == 25))) = true := by decide
       rw [hkb, Bool.true_and] at HA
       clear hkb hxk
       cases hF : freeB x.text with
       | false =>
         rw [hF] at FR HA
         rw [Bool.false_and, Bool.false_and] at HA
         clear hF KX
         generalize x.text = yt at *
         go_wp2_with (go_at_call 47; refine (u_ FR _).mono ?_; rintro e w' ⟨rfl, rfl⟩)
         exact bodyPost_ret (v := .bool false) (by simp [results, Tryz.results33, go_sem]) rfl ⟨by rw [← u_ HA], u_ HB⟩
       | true =>
         rw [hF] at FR HA
         rw [Bool.true_and] at HA
         clear hF
         cases hK : kidsB x.kids [101] with
         | false =>
           rw [hK] at KX HA
           rw [Bool.false_and] at HA
           clear hK
           generalize x.text = yt at *
           go_wp2_with (first | (go_at_call 47; refine (u_ FR _).mono ?_; rintro e w' ⟨rfl, rfl⟩) | (go_at_call 46; refine (u_ KX _ (brf _)).mono ?_; rintro e v1 ⟨rfl, hb1⟩))
           exact bodyPost_ret (v := .bool false) (by simp [results, Tryz.results33, go_sem]) rfl ⟨by rw [← u_ HA], below_step (u_ HB) hb1⟩
         | true =>
           rw [hK] at KX HA
           rw [Bool.true_and] at HA
           clear hK
           generalize x.text = yt at *
           go_wp2_with (first | (go_at_call 47; refine (u_ FR _).mono ?_; rintro e w' ⟨rfl, rfl⟩) | (go_at_call 46; refine (u_ KX _ (brf _)).mono ?_; rintro e v1 ⟨rfl, hb1⟩))
           exact ⟨⟨j + 1, by go_num, by omega, below_step (u_ HB0) hb1, u_ HA⟩, by simp [intOf]; omega⟩
     · have a25 : (x.kind == 25) = false := beq_eq_false_iff_ne.2 (fun h => hxk (by simp [h])); have b25 : (x.kind != 25) = true := (by rw [bne, a25]; rfl)
       rw [a25] at HA
       have hkb : (false) = false := by decide
       rw [Bool.false_and, Bool.false_and] at HA
       clear hxk KX FR hkb
       generalize x.kind = yk at *
       generalize x.text = yt at *
       go_wp2
       exact bodyPost_ret (v := .bool false) (by simp [results, Tryz.results33, go_sem]) rfl ⟨by rw [← u_ HA], u_ HB⟩
   · rw [List.drop_of_length_le (by omega)] at HA
     clear hb hbw hr hall
     go_wp2
     exact bodyPost_ret (v := .bool true) (by simp [results, Tryz.results33, go_sem]) rfl ⟨by rw [← u_ HA]; rfl, u_ HB⟩
theorem isCok (n : Nd) (v : Value) (w : World) (ht : n.text.size ≤ maxLen) (hr : RdK w n.kids v) (h24 : n.kind ≠ 24) :
   CB 33 #[ndV n v, .int .u8 99] w (.bool false) := by
 have b24 : (n.kind != 24) = true := by rw [bne, beq_eq_false_iff_ne.2 h24]; rfl
 have HR := h_ hr
 have hl := len_ok hr
 obtain ⟨a0, c0, rfl⟩ := RdK_slice hr
 unfold ndV
 clear hr ht
 have a24 : (n.kind == 24) = false := beq_eq_false_iff_ne.2 h24
 clear h24
 generalize n.kind = xk, n.text = xt at *
 go_enter Tryz.func33, Tryz.ntmps33
 go_wp2
 go_ret
 exact ⟨rfl, bal (brf w) _⟩
theorem isCon (n : Nd) (v : Value) (w : World) (ht : n.text.size ≤ maxLen) (hr : RdK w n.kids v) (hk : n.kind = 24) (hA : (n.text.size == 0) = false) :
   CB 33 #[ndV n v, .int .u8 99] w (.bool false) := by
 have hn : n.text.toList.isEmpty = false := by rw [toListL, ← L_emp]; exact hA
 have HR := h_ hr
 have hl := len_ok hr
 obtain ⟨a0, c0, rfl⟩ := RdK_slice hr
 unfold ndV
 rw [hk]
 clear hr ht
 generalize n.text = xt at *
 go_enter Tryz.func33, Tryz.ntmps33
 go_wp2
 go_ret
 exact ⟨rfl, bal (brf w) _⟩
theorem isCo (n : Nd) (v : Value) (w : World) (ht : n.text.size ≤ maxLen) (hr : RdK w n.kids v) (ih2 : ∀ x ∈ n.kids, ∀ y ∈ x.kids, IsC y) :
   CB 33 #[ndV n v, .int .u8 99] w (.bool (okIs 99 n)) := by
 by_cases h24 : n.kind = 24
 · have e : okIs 99 n = ((n.text.size == 0) && n.kids.all (pB 25 [101])) := ok_of (by decide) n 24 h24 (by decide) rfl (by
     show (allK (2 ^ 25) n.kids && fmL n.kids) = _
     rw [all_fm]; exact congrArg n.kids.all (funext pB_25))
   rw [e]
   cases hA : (n.text.size == 0) with
   | false => exact isCon n v w ht hr h24 hA
   | true => rw [Bool.true_and]; exact isCoL n ih2 v w ht hr h24 hA
 · have e : okIs 99 n = false := ok_no n (by show hasB (2 ^ 24) n.kind = false; rw [has_one 24 (by decide) (by decide)]; simp [h24])
   rw [e]; exact isCok n v w ht hr h24
end Go.Proofs.YtddlokkejglckaaGreatDoor
