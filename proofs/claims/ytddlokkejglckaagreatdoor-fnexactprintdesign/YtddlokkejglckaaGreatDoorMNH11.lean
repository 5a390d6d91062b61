/- Parts of the proof: NH11 to PLaw. -/
import Derived.Test.YtddlokkejglckaaGreatDoorMNH10
import Derived.Test.YtddlokkejglckaaGreatDoorMNE2
import Derived.Test.YtddlokkejglckaaGreatDoorMNI5
import Derived.Test.YtddlokkejglckaaGreatDoorMPK29
import Derived.Test.YtddlokkejglckaaGreatDoorMPS13
namespace Go.Proofs.YtddlokkejglckaaGreatDoor
open Go.RowKit Nt
set_option linter.unusedVariables false
set_option maxRecDepth 100000
theorem tf2 (n : Nd) (v : Value) (w : World) (ht : n.text.size ≤ maxLen) (hr : RdK w n.kids v) (hk : n.kind = 2) :
   CB 37 #[ndV n v] w (.bool (freeB n.text)) := by
 have FR := h_ (fun w' => iFree n.text w' ht)
 obtain ⟨a0, c0, rfl⟩ := RdK_slice hr
 unfold ndV
 rw [hk]
 clear hr ht
 generalize freeB n.text = r at *
 generalize n.text = xt at *
 go_enter Tryz.func37, Tryz.ntmps37
 go_wp2_with (go_at_call 51; refine (u_ FR _).mono ?_; rintro e v1 ⟨rfl, hb1⟩)
 go_ret
 exact ⟨rfl, btr (bal (brf w) _) hb1⟩
theorem tf4 (n : Nd) (v : Value) (w : World) (ht : n.text.size ≤ maxLen) (hr : RdK w n.kids v) (hk : n.kind = 4) :
   CB 37 #[ndV n v] w (.bool (freeB n.text)) := by
 have FR := h_ (fun w' => iFree n.text w' ht)
 obtain ⟨a0, c0, rfl⟩ := RdK_slice hr
 unfold ndV
 rw [hk]
 clear hr ht
 generalize freeB n.text = r at *
 generalize n.text = xt at *
 go_enter Tryz.func37, Tryz.ntmps37
 go_wp2_with (go_at_call 51; refine (u_ FR _).mono ?_; rintro e v1 ⟨rfl, hb1⟩)
 go_ret
 exact ⟨rfl, btr (bal (brf w) _) hb1⟩
theorem tf6 (n : Nd) (v : Value) (w : World) (ht : n.text.size ≤ maxLen) (hr : RdK w n.kids v) (hk : n.kind = 6) :
   CB 37 #[ndV n v] w (.bool (freeB n.text)) := by
 have FR := h_ (fun w' => iFree n.text w' ht)
 obtain ⟨a0, c0, rfl⟩ := RdK_slice hr
 unfold ndV
 rw [hk]
 clear hr ht
 generalize freeB n.text = r at *
 generalize n.text = xt at *
 go_enter Tryz.func37, Tryz.ntmps37
 go_wp2_with (go_at_call 51; refine (u_ FR _).mono ?_; rintro e v1 ⟨rfl, hb1⟩)
 go_ret
 exact ⟨rfl, btr (bal (brf w) _) hb1⟩
theorem tf7 (n : Nd) (v : Value) (w : World) (ht : n.text.size ≤ maxLen) (hr : RdK w n.kids v) (hk : n.kind = 7) :
   CB 37 #[ndV n v] w (.bool (freeB n.text)) := by
 have FR := h_ (fun w' => iFree n.text w' ht)
 obtain ⟨a0, c0, rfl⟩ := RdK_slice hr
 unfold ndV
 rw [hk]
 clear hr ht
 generalize freeB n.text = r at *
 generalize n.text = xt at *
 go_enter Tryz.func37, Tryz.ntmps37
 go_wp2_with (go_at_call 51; refine (u_ FR _).mono ?_; rintro e v1 ⟨rfl, hb1⟩)
 go_ret
 exact ⟨rfl, btr (bal (brf w) _) hb1⟩
theorem tf9 (n : Nd) (v : Value) (w : World) (ht : n.text.size ≤ maxLen) (hr : RdK w n.kids v) (hk : n.kind = 9) :
   CB 37 #[ndV n v] w (.bool (freeB n.text)) := by
 have FR := h_ (fun w' => iFree n.text w' ht)
 obtain ⟨a0, c0, rfl⟩ := RdK_slice hr
 unfold ndV
 rw [hk]
 clear hr ht
 generalize freeB n.text = r at *
 generalize n.text = xt at *
 go_enter Tryz.func37, Tryz.ntmps37
 go_wp2_with (go_at_call 51; refine (u_ FR _).mono ?_; rintro e v1 ⟨rfl, hb1⟩)
 go_ret
 exact ⟨rfl, btr (bal (brf w) _) hb1⟩
theorem tf10 (n : Nd) (v : Value) (w : World) (ht : n.text.size ≤ maxLen) (hr : RdK w n.kids v) (hk : n.kind = 10) :
   CB 37 #[ndV n v] w (.bool (freeB n.text)) := by
 have FR := h_ (fun w' => iFree n.text w' ht)
 obtain ⟨a0, c0, rfl⟩ := RdK_slice hr
 unfold ndV
 rw [hk]
 clear hr ht
 generalize freeB n.text = r at *
 generalize n.text = xt at *
 go_enter Tryz.func37, Tryz.ntmps37
 go_wp2_with (go_at_call 51; refine (u_ FR _).mono ?_; rintro e v1 ⟨rfl, hb1⟩)
 go_ret
 exact ⟨rfl, btr (bal (brf w) _) hb1⟩
theorem tf11 (n : Nd) (v : Value) (w : World) (ht : n.text.size ≤ maxLen) (hr : RdK w n.kids v) (hk : n.kind = 11) :
   CB 37 #[ndV n v] w (.bool (freeB n.text)) := by
 have FR := h_ (fun w' => iFree n.text w' ht)
 obtain ⟨a0, c0, rfl⟩ := RdK_slice hr
 unfold ndV
 rw [hk]
 clear hr ht
 generalize freeB n.text = r at *
 generalize n.text = xt at *
 go_enter Tryz.func37, Tryz.ntmps37
 go_wp2_with (go_at_call 51; refine (u_ FR _).mono ?_; rintro e v1 ⟨rfl, hb1⟩)
 go_ret
 exact ⟨rfl, btr (bal (brf w) _) hb1⟩
theorem tf12 (n : Nd) (v : Value) (w : World) (ht : n.text.size ≤ maxLen) (hr : RdK w n.kids v) (hk : n.kind = 12) :
   CB 37 #[ndV n v] w (.bool (freeB n.text)) := by
 have FR := h_ (fun w' => iFree n.text w' ht)
 obtain ⟨a0, c0, rfl⟩ := RdK_slice hr
 unfold ndV
 rw [hk]
 clear hr ht
 generalize freeB n.text = r at *
 generalize n.text = xt at *
 go_enter Tryz.func37, Tryz.ntmps37
 go_wp2_with (go_at_call 51; refine (u_ FR _).mono ?_; rintro e v1 ⟨rfl, hb1⟩)
 go_ret
 exact ⟨rfl, btr (bal (brf w) _) hb1⟩
theorem tf16 (n : Nd) (v : Value) (w : World) (ht : n.text.size ≤ maxLen) (hr : RdK w n.kids v) (hk : n.kind = 16) :
   CB 37 #[ndV n v] w (.bool (freeB n.text)) := by
 have FR := h_ (fun w' => iFree n.text w' ht)
 obtain ⟨a0, c0, rfl⟩ := RdK_slice hr
 unfold ndV
 rw [hk]
 clear hr ht
 generalize freeB n.text = r at *
 generalize n.text = xt at *
 go_enter Tryz.func37, Tryz.ntmps37
 go_wp2_with (go_at_call 51; refine (u_ FR _).mono ?_; rintro e v1 ⟨rfl, hb1⟩)
 go_ret
 exact ⟨rfl, btr (bal (brf w) _) hb1⟩
theorem tf18 (n : Nd) (v : Value) (w : World) (ht : n.text.size ≤ maxLen) (hr : RdK w n.kids v) (hk : n.kind = 18) :
   CB 37 #[ndV n v] w (.bool (freeB n.text)) := by
 have FR := h_ (fun w' => iFree n.text w' ht)
 obtain ⟨a0, c0, rfl⟩ := RdK_slice hr
 unfold ndV
 rw [hk]
 clear hr ht
 generalize freeB n.text = r at *
 generalize n.text = xt at *
 go_enter Tryz.func37, Tryz.ntmps37
 go_wp2_with (go_at_call 51; refine (u_ FR _).mono ?_; rintro e v1 ⟨rfl, hb1⟩)
 go_ret
 exact ⟨rfl, btr (bal (brf w) _) hb1⟩
theorem tf19 (n : Nd) (v : Value) (w : World) (ht : n.text.size ≤ maxLen) (hr : RdK w n.kids v) (hk : n.kind = 19) :
   CB 37 #[ndV n v] w (.bool (freeB n.text)) := by
 have FR := h_ (fun w' => iFree n.text w' ht)
 obtain ⟨a0, c0, rfl⟩ := RdK_slice hr
 unfold ndV
 rw [hk]
 clear hr ht
 generalize freeB n.text = r at *
 generalize n.text = xt at *
 go_enter Tryz.func37, Tryz.ntmps37
 go_wp2_with (go_at_call 51; refine (u_ FR _).mono ?_; rintro e v1 ⟨rfl, hb1⟩)
 go_ret
 exact ⟨rfl, btr (bal (brf w) _) hb1⟩
theorem tf20 (n : Nd) (v : Value) (w : World) (ht : n.text.size ≤ maxLen) (hr : RdK w n.kids v) (hk : n.kind = 20) :
   CB 37 #[ndV n v] w (.bool (freeB n.text)) := by
 have FR := h_ (fun w' => iFree n.text w' ht)
 obtain ⟨a0, c0, rfl⟩ := RdK_slice hr
 unfold ndV
 rw [hk]
 clear hr ht
 generalize freeB n.text = r at *
 generalize n.text = xt at *
 go_enter Tryz.func37, Tryz.ntmps37
 go_wp2_with (go_at_call 51; refine (u_ FR _).mono ?_; rintro e v1 ⟨rfl, hb1⟩)
 go_ret
 exact ⟨rfl, btr (bal (brf w) _) hb1⟩
theorem tf22 (n : Nd) (v : Value) (w : World) (ht : n.text.size ≤ maxLen) (hr : RdK w n.kids v) (hk : n.kind = 22) :
   CB 37 #[ndV n v] w (.bool (freeB n.text)) := by
 have FR := h_ (fun w' => iFree n.text w' ht)
 obtain ⟨a0, c0, rfl⟩ := RdK_slice hr
 unfold ndV
 rw [hk]
 clear hr ht
 generalize freeB n.text = r at *
 generalize n.text = xt at *
 go_enter Tryz.func37, Tryz.ntmps37
 go_wp2_with (go_at_call 51; refine (u_ FR _).mono ?_; rintro e v1 ⟨rfl, hb1⟩)
 go_ret
 exact ⟨rfl, btr (bal (brf w) _) hb1⟩
theorem tf25 (n : Nd) (v : Value) (w : World) (ht : n.text.size ≤ maxLen) (hr : RdK w n.kids v) (hk : n.kind = 25) :
   CB 37 #[ndV n v] w (.bool (freeB n.text)) := by
 have FR := h_ (fun w' => iFree n.text w' ht)
 obtain ⟨a0, c0, rfl⟩ := RdK_slice hr
 unfold ndV
 rw [hk]
 clear hr ht
 generalize freeB n.text = r at *
 generalize n.text = xt at *
 go_enter Tryz.func37, Tryz.ntmps37
 go_wp2_with (go_at_call 51; refine (u_ FR _).mono ?_; rintro e v1 ⟨rfl, hb1⟩)
 go_ret
 exact ⟨rfl, btr (bal (brf w) _) hb1⟩
theorem tf33 (n : Nd) (v : Value) (w : World) (ht : n.text.size ≤ maxLen) (hr : RdK w n.kids v) (hk : n.kind = 33) :
   CB 37 #[ndV n v] w (.bool (freeB n.text)) := by
 have FR := h_ (fun w' => iFree n.text w' ht)
 obtain ⟨a0, c0, rfl⟩ := RdK_slice hr
 unfold ndV
 rw [hk]
 clear hr ht
 generalize freeB n.text = r at *
 generalize n.text = xt at *
 go_enter Tryz.func37, Tryz.ntmps37
 go_wp2_with (go_at_call 51; refine (u_ FR _).mono ?_; rintro e v1 ⟨rfl, hb1⟩)
 go_ret
 exact ⟨rfl, btr (bal (brf w) _) hb1⟩
theorem tf37 (n : Nd) (v : Value) (w : World) (ht : n.text.size ≤ maxLen) (hr : RdK w n.kids v) (hk : n.kind = 37) :
   CB 37 #[ndV n v] w (.bool (freeB n.text)) := by
 have FR := h_ (fun w' => iFree n.text w' ht)
 obtain ⟨a0, c0, rfl⟩ := RdK_slice hr
 unfold ndV
 rw [hk]
 clear hr ht
 generalize freeB n.text = r at *
 generalize n.text = xt at *
 go_enter Tryz.func37, Tryz.ntmps37
 go_wp2_with (go_at_call 51; refine (u_ FR _).mono ?_; rintro e v1 ⟨rfl, hb1⟩)
 go_ret
 exact ⟨rfl, btr (bal (brf w) _) hb1⟩
theorem tf38 (n : Nd) (v : Value) (w : World) (ht : n.text.size ≤ maxLen) (hr : RdK w n.kids v) (hk : n.kind = 38) :
   CB 37 #[ndV n v] w (.bool (freeB n.text)) := by
 have FR := h_ (fun w' => iFree n.text w' ht)
 obtain ⟨a0, c0, rfl⟩ := RdK_slice hr
 unfold ndV
 rw [hk]
 clear hr ht
 generalize freeB n.text = r at *
 generalize n.text = xt at *
 go_enter Tryz.func37, Tryz.ntmps37
 go_wp2_with (go_at_call 51; refine (u_ FR _).mono ?_; rintro e v1 ⟨rfl, hb1⟩)
 go_ret
 exact ⟨rfl, btr (bal (brf w) _) hb1⟩
theorem tf39 (n : Nd) (v : Value) (w : World) (ht : n.text.size ≤ maxLen) (hr : RdK w n.kids v) (hk : n.kind = 39) :
   CB 37 #[ndV n v] w (.bool (freeB n.text)) := by
 have FR := h_ (fun w' => iFree n.text w' ht)
 obtain ⟨a0, c0, rfl⟩ := RdK_slice hr
 unfold ndV
 rw [hk]
 clear hr ht
 generalize freeB n.text = r at *
 generalize n.text = xt at *
 go_enter Tryz.func37, Tryz.ntmps37
 go_wp2_with (go_at_call 51; refine (u_ FR _).mono ?_; rintro e v1 ⟨rfl, hb1⟩)
 go_ret
 exact ⟨rfl, btr (bal (brf w) _) hb1⟩
theorem tf40 (n : Nd) (v : Value) (w : World) (ht : n.text.size ≤ maxLen) (hr : RdK w n.kids v) (hk : n.kind = 40) :
   CB 37 #[ndV n v] w (.bool (freeB n.text)) := by
 have FR := h_ (fun w' => iFree n.text w' ht)
 obtain ⟨a0, c0, rfl⟩ := RdK_slice hr
 unfold ndV
 rw [hk]
 clear hr ht
 generalize freeB n.text = r at *
 generalize n.text = xt at *
 go_enter Tryz.func37, Tryz.ntmps37
 go_wp2_with (go_at_call 51; refine (u_ FR _).mono ?_; rintro e v1 ⟨rfl, hb1⟩)
 go_ret
 exact ⟨rfl, btr (bal (brf w) _) hb1⟩
theorem tf8 (n : Nd) (v : Value) (w : World) (ht : n.text.size ≤ maxLen) (hr : RdK w n.kids v) (hk : n.kind = 8) :
   CB 37 #[ndV n v] w (.bool (n.text.size == 0 || L n.text == sgnL)) := by
 have h1 : (n.text.toList.isEmpty) = (n.text.size == 0) := by rw [toListL, ← L_emp]
 have h2 : (n.text.toList == [115, 105, 103, 110, 101, 100]) = (L n.text == sgnL) := by rw [toListL]; rfl
 obtain ⟨a0, c0, rfl⟩ := RdK_slice hr
 unfold ndV
 rw [hk]
 clear hr ht
 cases hA : (n.text.size == 0) with
 | true =>
   rw [hA] at h1
   clear h2 hA
   generalize n.text = xt at *
   go_enter Tryz.func37, Tryz.ntmps37
   go_wp2
   go_ret
   exact ⟨rfl, bal (brf w) _⟩
 | false =>
   rw [hA] at h1
   rw [Bool.false_or]
   clear hA
   cases hB : (L n.text == sgnL) with
   | true =>
     rw [hB] at h2
     clear hB
     generalize n.text = xt at *
     go_enter Tryz.func37, Tryz.ntmps37
     go_wp2
     go_ret
     exact ⟨rfl, bal (brf w) _⟩
   | false =>
     rw [hB] at h2
     clear hB
     generalize n.text = xt at *
     go_enter Tryz.func37, Tryz.ntmps37
     go_wp2
     go_ret
     exact ⟨rfl, bal (brf w) _⟩
theorem tf36 (n : Nd) (v : Value) (w : World) (ht : n.text.size ≤ maxLen) (hr : RdK w n.kids v) (hk : n.kind = 36) (hg : Gd w) :
   CB 37 #[ndV n v] w (.bool ((Nb.nbL (L n.text)).2.2 == 0)) := by
 have NB := h_ (fun w' hg' => iNB n.text w' ht hg')
 have HG := h_ hg
 generalize hN : Nb.nbL (L n.text) = r at *
 obtain ⟨r0, r1, r2⟩ := r
 have hx : nbV (r0, r1, r2) = .tuple #[.string (S r0), .bool r1, .int .i64 (r2 : Nat)] := rfl
 rw [hx] at NB
 have e1 : ((r0, r1, r2).2.2 == 0) = ((r2 : Int) == 0) := by
   show (r2 == 0) = ((r2 : Int) == 0)
   rw [Bool.eq_iff_iff, beq_iff_eq, beq_iff_eq]; omega
 rw [e1]
 obtain ⟨a0, c0, rfl⟩ := RdK_slice hr
 unfold ndV
 rw [hk]
 clear hr ht hN hx e1 hg
 generalize n.text = xt at *
 go_enter Tryz.func37, Tryz.ntmps37
 go_wp2_with (go_at_call 52; refine (u_ NB _ (Gd_later (u_ HG) (bal (brf w) _))).mono ?_; rintro e v1 ⟨rfl, hb1⟩)
 go_ret
 exact ⟨rfl, btr (bal (brf w) _) hb1⟩
theorem tf45 (n : Nd) (v : Value) (w : World) (ht : n.text.size ≤ maxLen) (hr : RdK w n.kids v) (hk : n.kind = 45) :
   CB 37 #[ndV n v] w (.bool (unL.contains (L n.text))) := by
 have UN := h_ (fun w' => iUnary n.text w')
 obtain ⟨a0, c0, rfl⟩ := RdK_slice hr
 unfold ndV
 rw [hk]
 clear hr ht
 generalize unL.contains (L n.text) = r at *
 generalize n.text = xt at *
 go_enter Tryz.func37, Tryz.ntmps37
 go_wp2_with (go_at_call 53; refine (u_ UN _).mono ?_; rintro e v1 ⟨rfl, rfl⟩)
 go_ret
 exact ⟨rfl, bal (brf w) _⟩
theorem tf46 (n : Nd) (v : Value) (w : World) (ht : n.text.size ≤ maxLen) (hr : RdK w n.kids v) (hk : n.kind = 46) (ho : Ops w) :
   CB 37 #[ndV n v] w (.bool (binL.contains (L n.text))) := by
 have GR := h_ (fun w' ho' => iGroup n.text w' ho')
 have HO := h_ ho
 obtain ⟨a0, c0, rfl⟩ := RdK_slice hr
 unfold ndV
 rw [hk]
 clear hr ht ho
 generalize binL.contains (L n.text) = r at *
 generalize n.text = xt at *
 go_enter Tryz.func37, Tryz.ntmps37
 go_wp2_with (go_at_call 54; refine (u_ GR _ (Ops_later (u_ HO) (bal (brf w) _))).mono ?_; rintro e v1 ⟨⟨g, rfl, hgr⟩, hb1⟩)
 go_ret
 exact ⟨rfl, btr (bal (brf w) _) hb1⟩
theorem tfelse (n : Nd) (v : Value) (w : World) (ht : n.text.size ≤ maxLen) (hr : RdK w n.kids v) (h2 : n.kind ≠ 2) (h4 : n.kind ≠ 4) (h6 : n.kind ≠ 6) (h7 : n.kind ≠ 7) (h9 : n.kind ≠ 9) (h10 : n.kind ≠ 10) (h11 : n.kind ≠ 11) (h12 : n.kind ≠ 12) (h16 : n.kind ≠ 16) (h18 : n.kind ≠ 18) (h19 : n.kind ≠ 19) (h20 : n.kind ≠ 20) (h22 : n.kind ≠ 22) (h25 : n.kind ≠ 25) (h33 : n.kind ≠ 33) (h37 : n.kind ≠ 37) (h38 : n.kind ≠ 38) (h39 : n.kind ≠ 39) (h40 : n.kind ≠ 40) (h8 : n.kind ≠ 8) (h36 : n.kind ≠ 36) (h45 : n.kind ≠ 45) (h46 : n.kind ≠ 46) :
   CB 37 #[ndV n v] w (.bool (n.text.size == 0)) := by
 have h1 : (n.text.toList.isEmpty) = (n.text.size == 0) := by rw [toListL, ← L_emp]
 obtain ⟨a0, c0, rfl⟩ := RdK_slice hr
 unfold ndV
 have a2 : (n.kind == 2) = false := beq_eq_false_iff_ne.2 h2
 have a4 : (n.kind == 4) = false := beq_eq_false_iff_ne.2 h4
 have a6 : (n.kind == 6) = false := beq_eq_false_iff_ne.2 h6
 have a7 : (n.kind == 7) = false := beq_eq_false_iff_ne.2 h7
 have a9 : (n.kind == 9) = false := beq_eq_false_iff_ne.2 h9
 have a10 : (n.kind == 10) = false := beq_eq_false_iff_ne.2 h10
 have a11 : (n.kind == 11) = false := beq_eq_false_iff_ne.2 h11
 have a12 : (n.kind == 12) = false := beq_eq_false_iff_ne.2 h12
 have a16 : (n.kind == 16) = false := beq_eq_false_iff_ne.2 h16
 have a18 : (n.kind == 18) = false := beq_eq_false_iff_ne.2 h18
 have a19 : (n.kind == 19) = false := beq_eq_false_iff_ne.2 h19
 have a20 : (n.kind == 20) = false := beq_eq_false_iff_ne.2 h20
 have a22 : (n.kind == 22) = false := beq_eq_false_iff_ne.2 h22
 have a25 : (n.kind == 25) = false := beq_eq_false_iff_ne.2 h25
 have a33 : (n.kind == 33) = false := beq_eq_false_iff_ne.2 h33
 have a37 : (n.kind == 37) = false := beq_eq_false_iff_ne.2 h37
 have a38 : (n.kind == 38) = false := beq_eq_false_iff_ne.2 h38
 have a39 : (n.kind == 39) = false := beq_eq_false_iff_ne.2 h39
 have a40 : (n.kind == 40) = false := beq_eq_false_iff_ne.2 h40
 have a8 : (n.kind == 8) = false := beq_eq_false_iff_ne.2 h8
 have a36 : (n.kind == 36) = false := beq_eq_false_iff_ne.2 h36
 have a45 : (n.kind == 45) = false := beq_eq_false_iff_ne.2 h45
 have a46 : (n.kind == 46) = false := beq_eq_false_iff_ne.2 h46
 clear hr ht h2 h4 h6 h7 h9 h10 h11 h12 h16 h18 h19 h20 h22 h25 h33 h37 h38 h39 h40 h8 h36 h45 h46
 generalize n.kind = xk at *
 generalize (n.text.size == 0) = r at *
 generalize n.text = xt at *
 go_enter Tryz.func37, Tryz.ntmps37
 go_wp2
 go_ret
 exact ⟨rfl, bal (brf w) _⟩
theorem txB_no (k : Int) (t : ByteArray) (h2 : k ≠ 2) (h4 : k ≠ 4) (h6 : k ≠ 6) (h7 : k ≠ 7) (h9 : k ≠ 9) (h10 : k ≠ 10) (h11 : k ≠ 11) (h12 : k ≠ 12) (h16 : k ≠ 16) (h18 : k ≠ 18) (h19 : k ≠ 19) (h20 : k ≠ 20) (h22 : k ≠ 22) (h25 : k ≠ 25) (h33 : k ≠ 33) (h37 : k ≠ 37) (h38 : k ≠ 38) (h39 : k ≠ 39) (h40 : k ≠ 40) (h8 : k ≠ 8) (h36 : k ≠ 36) (h45 : k ≠ 45) (h46 : k ≠ 46) : txB k t = (t.size == 0) := by
 unfold txB
 have hn : nameKinds.contains k = false := by
   rw [← Bool.not_eq_true, List.contains_iff_mem]
   simp only [nameKinds, List.mem_cons, List.mem_nil_iff, h2, h4, h6, h7, h9, h10, h11, h12, h16, h18, h19, h20, h22, h25, h33, h37, h38, h39, h40, or_self, not_false_eq_true]
 rw [hn]
 simp only [h8, h36, h45, h46, if_false, Bool.false_eq_true]
theorem iTextF (n : Nd) (v : Value) (w : World) (ht : n.text.size ≤ maxLen) (hr : RdK w n.kids v) (hg : Gd w) (ho : Ops w) :
   CB 37 #[ndV n v] w (.bool (txB n.kind n.text)) := by
 by_cases h2 : n.kind = 2
 · rw [h2]; exact tf2 n v w ht hr h2
 by_cases h4 : n.kind = 4
 · rw [h4]; exact tf4 n v w ht hr h4
 by_cases h6 : n.kind = 6
 · rw [h6]; exact tf6 n v w ht hr h6
 by_cases h7 : n.kind = 7
 · rw [h7]; exact tf7 n v w ht hr h7
 by_cases h9 : n.kind = 9
 · rw [h9]; exact tf9 n v w ht hr h9
 by_cases h10 : n.kind = 10
 · rw [h10]; exact tf10 n v w ht hr h10
 by_cases h11 : n.kind = 11
 · rw [h11]; exact tf11 n v w ht hr h11
 by_cases h12 : n.kind = 12
 · rw [h12]; exact tf12 n v w ht hr h12
 by_cases h16 : n.kind = 16
 · rw [h16]; exact tf16 n v w ht hr h16
 by_cases h18 : n.kind = 18
 · rw [h18]; exact tf18 n v w ht hr h18
 by_cases h19 : n.kind = 19
 · rw [h19]; exact tf19 n v w ht hr h19
 by_cases h20 : n.kind = 20
 · rw [h20]; exact tf20 n v w ht hr h20
 by_cases h22 : n.kind = 22
 · rw [h22]; exact tf22 n v w ht hr h22
 by_cases h25 : n.kind = 25
 · rw [h25]; exact tf25 n v w ht hr h25
 by_cases h33 : n.kind = 33
 · rw [h33]; exact tf33 n v w ht hr h33
 by_cases h37 : n.kind = 37
 · rw [h37]; exact tf37 n v w ht hr h37
 by_cases h38 : n.kind = 38
 · rw [h38]; exact tf38 n v w ht hr h38
 by_cases h39 : n.kind = 39
 · rw [h39]; exact tf39 n v w ht hr h39
 by_cases h40 : n.kind = 40
 · rw [h40]; exact tf40 n v w ht hr h40
 by_cases h8 : n.kind = 8
 · rw [h8]; exact tf8 n v w ht hr h8
 by_cases h36 : n.kind = 36
 · rw [h36]; exact tf36 n v w ht hr h36 hg
 by_cases h45 : n.kind = 45
 · rw [h45]; exact tf45 n v w ht hr h45
 by_cases h46 : n.kind = 46
 · rw [h46]; exact tf46 n v w ht hr h46 ho
 rw [txB_no n.kind n.text h2 h4 h6 h7 h9 h10 h11 h12 h16 h18 h19 h20 h22 h25 h33 h37 h38 h39 h40 h8 h36 h45 h46]
 exact tfelse n v w ht hr h2 h4 h6 h7 h9 h10 h11 h12 h16 h18 h19 h20 h22 h25 h33 h37 h38 h39 h40 h8 h36 h45 h46
set_option maxHeartbeats 800000
theorem fm_eq (n : Nd) : fm n = (txB n.kind n.text && kdB n.kind n.kids && fmL n.kids) := by obtain ⟨k, t, ks⟩ := n; exact fm_mk k t ks
theorem fmL_drop {ks : List Nd} {j : Nat} {x : Nd} (hdr : ks.drop j = x :: ks.drop (j + 1)) : fmL (ks.drop j) = (fm x && fmL (ks.drop (j + 1))) := by rw [hdr, fmL]
def FmC (n : Nd) : Prop := ∀ (v : Value) (w : World), n.text.size ≤ maxLen → RdK w n.kids v → Gd w → Ops w →
 CB 24 #[ndV n v] w (.bool (fm n))
theorem formedN : ∀ n, FmC n := by
 refine Nd.ind fun n ih => ?_
 intro v w ht hr hg ho
 have HP := h_ ih
 have HG := h_ hg
 have HO := h_ ho
 have HR := h_ hr
 have hl := len_ok hr
 have TX := h_ (fun w' hr' hg' ho' => iTextF n v w' ht hr' hg' ho')
 have KD := h_ (fun w' hr' => iKids n v w' hr')
 rw [fm_eq]
 obtain ⟨a0, c0, rfl⟩ := RdK_slice hr
 unfold ndV at TX KD ⊢
 clear ih hr hg ho ht
 cases hT : txB n.kind n.text with
 | false =>
   rw [hT] at TX
   rw [Bool.false_and, Bool.false_and]
   clear KD hT
   generalize n.kind = xk, n.text = xt at *
   go_enter Tryz.func24, Tryz.ntmps24
   go_wp2_with (go_at_call 37; refine (u_ TX _ (RdK_later (bal (brf w) _) (u_ HR)) (Gd_later (u_ HG) (bal (brf w) _)) (Ops_later (u_ HO) (bal (brf w) _))).mono ?_; rintro e v1 ⟨rfl, hb1⟩)
   go_ret
   exact ⟨rfl, btr (bal (brf w) _) hb1⟩
 | true =>
   rw [hT] at TX
   rw [Bool.true_and]
   clear hT
   cases hK : kdB n.kind n.kids with
   | false =>
     rw [hK] at KD
     rw [Bool.false_and]
     clear hK
     generalize n.kind = xk, n.text = xt at *
     go_enter Tryz.func24, Tryz.ntmps24
     go_wp2_with (first | (go_at_call 37; refine (u_ TX _ (RdK_later (bal (brf w) _) (u_ HR)) (Gd_later (u_ HG) (bal (brf w) _)) (Ops_later (u_ HO) (bal (brf w) _))).mono ?_; rintro e v1 ⟨rfl, hb1⟩; obtain ⟨hc1, hf1⟩ := bcell hb1) | (go_at_call 38; refine (u_ KD _ (RdK_later (btr (bal (brf w) _) hb1) (u_ HR))).mono ?_; rintro e v2 ⟨rfl, hb2⟩))
     go_ret
     exact ⟨rfl, btr (btr (bal (brf w) _) hb1) hb2⟩
   | true =>
     rw [hK] at KD
     rw [Bool.true_and]
     clear hK
     have Z2 : Hid ((w.alloc (Obj.cells #[Value.int IntKind.i64 n.kind, Value.string n.text, Value.slice a0 n.kids.length c0] 30)).cell? ⟨w.heap.size, 2, none⟩ = some (.slice a0 n.kids.length c0)) := h_ (by rw [World.cell?_alloc_new]; rfl)
     generalize n.kind = xk, n.text = xt at *
     go_enter Tryz.func24, Tryz.ntmps24
     go_wp2_with (first | (go_at_call 37; refine (u_ TX _ (RdK_later (bal (brf w) _) (u_ HR)) (Gd_later (u_ HG) (bal (brf w) _)) (Ops_later (u_ HO) (bal (brf w) _))).mono ?_; rintro e v1 ⟨rfl, hb1⟩; obtain ⟨hc1, hf1⟩ := bcell hb1) | (go_at_call 38; refine (u_ KD _ (RdK_later (btr (bal (brf w) _) hb1) (u_ HR))).mono ?_; rintro e v2 ⟨rfl, hb2⟩; have j2 := c_ hb2 (c_ hb1 (u_ Z2)); have HB2 := h_ (btr (btr (bal (brf w) _) hb1) hb2)))
     clear hc1 hf1 hb1 hb2 TX KD Z2
     go_loopw [16] (fun i wr => ∃ j : Nat, i = .int .i64 j ∧ j ≤ n.kids.length ∧ Below v2.heap.size v2 wr ∧ fmL (n.kids.drop j) = fmL n.kids) (fun i wr => n.kids.length - (intOf i).toNat)
     case atStart => exact ⟨0, rfl, Nat.zero_le _, brf _, rfl⟩
     case round =>
       obtain ⟨j, rfl, hj, hb, hall⟩ := hrel
       have hbw := btr (u_ HB2) hb
       have HB := h_ hbw
       have HA := h_ hall
       have HB0 := h_ hb
       by_cases hjn : j < n.kids.length
       · have hx : n.kids[j]? = some n.kids[j] := List.getElem?_eq_getElem hjn
         have hdr := List.drop_eq_getElem_cons hjn
         generalize n.kids[j] = x at hx hdr
         rcases RdK_cases (u_ HR) with ⟨h0, _⟩ | ⟨b, o, c', vs, hvv, hn, hcs⟩
         · rw [h0] at hjn; simp at hjn
         obtain ⟨k1, k2, k3, hts, hk⟩ := hcs j x hx
         have k1' := c_ hbw k1
         have k2' := c_ hbw k2
         have k3' := c_ hbw k3
         have PX := h_ (fun (wy : World) (hy : Below wr.heap.size wr wy) => u_ HP x (List.mem_of_getElem? hx) (vs j) wy hts (RdK_later hy (RdK_later hbw hk)) (Gd_later (Gd_later (u_ HG) hbw) hy) (Ops_later (Ops_later (u_ HO) hbw) hy))
         unfold ndV at PX
         obtain ⟨ha0, hc0⟩ : a0 = some ⟨b, o, none⟩ ∧ c0 = c' := by injection hvv with h1 h2 h3; exact ⟨h1, h3⟩
         subst ha0 hc0
         obtain ⟨a', c'', hv'⟩ := RdK_slice hk
         rw [hv'] at k3' PX
         rw [fmL_drop hdr] at HA
         clear hb hbw k1 k2 k3 hk hcs hvv hall
         cases hok : fm x with
         | true =>
           rw [hok] at PX HA
           rw [Bool.true_and] at HA
           clear hok
           generalize x.kind = yk at *
           generalize x.text = yt at *
           go_wp2_with (go_at_call 24; refine (u_ PX _ (bal (brf _) _)).mono ?_; rintro e v3 ⟨rfl, hb3⟩)
           exact ⟨⟨j + 1, by go_num, by omega, btr (bal (u_ HB0) _) hb3, u_ HA⟩, by simp [intOf]; omega⟩
         | false =>
           rw [hok] at PX HA
           rw [Bool.false_and] at HA
           clear hok
           generalize x.kind = yk at *
           generalize x.text = yt at *
           go_wp2_with (go_at_call 24; refine (u_ PX _ (bal (brf _) _)).mono ?_; rintro e v3 ⟨rfl, hb3⟩)
           exact bodyPost_ret (v := .bool false) (by simp [results, Tryz.results24, go_sem]) rfl ⟨by rw [← u_ HA], btr (bal (u_ HB) _) hb3⟩
       · rw [List.drop_of_length_le (by omega)] at HA
         clear hb hbw hall
         go_wp2
         exact bodyPost_ret (v := .bool true) (by simp [results, Tryz.results24, go_sem]) rfl ⟨by rw [← u_ HA, fmL], u_ HB⟩
theorem okN_eq2 (n : Nd) : okN n = (decide (n.kind = 1) && (decide (cnt n ≤ 8192) && (decide (dep n ≤ 40) && fm n))) := by
 unfold okN fitsB
 generalize decide (n.kind = 1) = a
 generalize decide (cnt n ≤ 8192) = b
 generalize decide (dep n ≤ 40) = c
 generalize fm n = d
 revert a b c d; decide
theorem iNodeOK (n : Nd) (v : Value) (w : World) (hsz : sz n ≤ 1048576) (ht : n.text.size ≤ maxLen) (hr : RdK w n.kids v) (hg : Gd w) (ho : Ops w) :
   CB 13 #[ndV n v] w (.bool (okN n)) := by
 rw [okN_eq2]
 have HR := h_ hr
 have CT := h_ (fun w' hr' => ctN n v w' 8192 hsz (by decide) hr')
 have DP := h_ (fun w' hr' => dpN n v w' hsz hr')
 have FM := h_ (fun w' hr' hg' ho' => formedN n v w' ht hr' hg' ho')
 have HG := h_ hg
 have HO := h_ ho
 have hdx := dep_le n
 obtain ⟨a0, c0, rfl⟩ := RdK_slice hr
 unfold ndV at CT DP FM ⊢
 clear hr hg ho ht
 by_cases h1 : n.kind = 1
 · rw [decide_eq_true h1, Bool.true_and]
   rw [h1] at CT DP FM ⊢
   have Z0 : Hid ((w.alloc (Obj.cells #[Value.int IntKind.i64 1, Value.string n.text, Value.slice a0 n.kids.length c0] 30)).cell? ⟨w.heap.size, 0, none⟩ = some (.int .i64 1)) := h_ (by rw [World.cell?_alloc_new]; rfl)
   have Z1 : Hid ((w.alloc (Obj.cells #[Value.int IntKind.i64 1, Value.string n.text, Value.slice a0 n.kids.length c0] 30)).cell? ⟨w.heap.size, 1, none⟩ = some (.string n.text)) := h_ (by rw [World.cell?_alloc_new]; rfl)
   have Z2 : Hid ((w.alloc (Obj.cells #[Value.int IntKind.i64 1, Value.string n.text, Value.slice a0 n.kids.length c0] 30)).cell? ⟨w.heap.size, 2, none⟩ = some (.slice a0 n.kids.length c0)) := h_ (by rw [World.cell?_alloc_new]; rfl)
   by_cases h2 : cnt n ≤ 8192
   · rw [decide_eq_true h2, Bool.true_and]
     by_cases h3 : dep n ≤ 40
     · rw [decide_eq_true h3, Bool.true_and]
       generalize fm n = r at *
       generalize hD : dep n = D at *
       generalize hC : cnt n = C at *
       generalize n.text = xt at *
       go_enter Tryz.func13, Tryz.ntmps13
       go_wp2_with (first | (go_at_call 24; refine (u_ FM _ (RdK_later (btr (btr (bal (brf w) _) hb1) hb2) (u_ HR)) (Gd_later (u_ HG) (btr (btr (bal (brf w) _) hb1) hb2)) (Ops_later (u_ HO) (btr (btr (bal (brf w) _) hb1) hb2))).mono ?_; rintro e v3 ⟨rfl, hb3⟩) | (go_at_call 23; refine (u_ DP _ (RdK_later (btr (bal (brf w) _) hb1) (u_ HR))).mono ?_; rintro e v2 ⟨rfl, hb2⟩; have x0 := c_ hb2 y0; have x1 := c_ hb2 y1; have x2 := c_ hb2 y2) | (go_at_call 22; refine (u_ CT _ (RdK_later (bal (brf w) _) (u_ HR))).mono ?_; rintro e v1 ⟨⟨r', rfl, hr1, hr2⟩, hb1⟩; have y0 := c_ hb1 (u_ Z0); have y1 := c_ hb1 (u_ Z1); have y2 := c_ hb1 (u_ Z2); have hr3 : (r' : Int) ≤ 8192 := (by have := hr1 h2; omega); clear hr1 hr2))
       go_ret
       exact ⟨rfl, btr (btr (btr (bal (brf w) _) hb1) hb2) hb3⟩
     · rw [decide_eq_false h3, Bool.false_and]
       generalize hD : dep n = D at *
       generalize hC : cnt n = C at *
       generalize n.text = xt at *
       have h4 : ¬ ((D : Int) ≤ 40) := by omega
       go_enter Tryz.func13, Tryz.ntmps13
       go_wp2_with (first | (go_at_call 23; refine (u_ DP _ (RdK_later (btr (bal (brf w) _) hb1) (u_ HR))).mono ?_; rintro e v2 ⟨rfl, hb2⟩) | (go_at_call 22; refine (u_ CT _ (RdK_later (bal (brf w) _) (u_ HR))).mono ?_; rintro e v1 ⟨⟨r', rfl, hr1, hr2⟩, hb1⟩; have y0 := c_ hb1 (u_ Z0); have y1 := c_ hb1 (u_ Z1); have y2 := c_ hb1 (u_ Z2); have hr3 : (r' : Int) ≤ 8192 := (by have := hr1 h2; omega); clear hr1 hr2))
       go_ret
       exact ⟨rfl, btr (btr (bal (brf w) _) hb1) hb2⟩
   · rw [decide_eq_false h2, Bool.false_and]
     generalize hC : cnt n = C at *
     generalize n.text = xt at *
     go_enter Tryz.func13, Tryz.ntmps13
     go_wp2_with (go_at_call 22; refine (u_ CT _ (RdK_later (bal (brf w) _) (u_ HR))).mono ?_; rintro e v1 ⟨⟨r', rfl, hr1, hr2⟩, hb1⟩; have hr3 : ¬ ((r' : Int) ≤ 8192) := (by have := hr2 (by omega); omega); clear hr1 hr2)
     go_ret
     exact ⟨rfl, btr (bal (brf w) _) hb1⟩
 · have a1 : (n.kind == 1) = false := beq_eq_false_iff_ne.2 h1
   rw [decide_eq_false h1, Bool.false_and]
   clear CT DP FM h1
   generalize n.kind = xk, n.text = xt at *
   go_enter Tryz.func13, Tryz.ntmps13
   go_wp2
   go_ret
   exact ⟨rfl, bal (brf w) _⟩
set_option maxHeartbeats 1600000
theorem Pi_start (w : World) (t : TypeId) : Pi w.heap.size [] (.slice none 0 0) (w.alloc (.cells #[.slice none 0 0] t)) :=
 ⟨World.ownsRow_nil _ _ _ _, by rw [World.cell?_alloc_new]; rfl, World.frozen?_alloc_new _ _ _ _⟩
theorem ok_fm (n : Nd) (h : okN n = true) : fm n = true := by
 unfold okN fitsB at h
 simp only [Bool.and_eq_true, decide_eq_true_eq] at h
 exact h.2
theorem iPrBad (n : Nd) (v : Value) (w : World) (hsz : sz n ≤ 1048576) (ht : n.text.size ≤ maxLen) (hr : RdK w n.kids v) (hg : Gd w) (ho : Ops w) (hok : okN n = false) :
   CB 7 #[ndV n v] w (prV ([], 1)) := by
 have NO := h_ (fun (W : World) (hr' : RdK W n.kids v) (hg' : Gd W) (ho' : Ops W) => iNodeOK n v W hsz ht hr' hg' ho')
 rw [hok] at NO
 have HR := h_ hr
 have HG := h_ hg
 have HO := h_ ho
 obtain ⟨a0, c0, rfl⟩ := RdK_slice hr
 unfold ndV at NO ⊢
 have Z1 : Hid ((w.alloc (Obj.cells #[Value.int IntKind.i64 n.kind, Value.string n.text, Value.slice a0 n.kids.length c0] 30)).cell? ⟨w.heap.size, 0, none⟩ = some (.int .i64 n.kind)) := h_ (by rw [World.cell?_alloc_new]; rfl)
 have Z2 : Hid ((w.alloc (Obj.cells #[Value.int IntKind.i64 n.kind, Value.string n.text, Value.slice a0 n.kids.length c0] 30)).cell? ⟨w.heap.size, 1, none⟩ = some (.string n.text)) := h_ (by rw [World.cell?_alloc_new]; rfl)
 have Z3 : Hid ((w.alloc (Obj.cells #[Value.int IntKind.i64 n.kind, Value.string n.text, Value.slice a0 n.kids.length c0] 30)).cell? ⟨w.heap.size, 2, none⟩ = some (.slice a0 n.kids.length c0)) := h_ (by rw [World.cell?_alloc_new]; rfl)
 clear hr ht hg ho hok hsz
 generalize n.kind = nk, n.text = nt at *
 go_enter Tryz.func7, Tryz.ntmps7
 go_wp2_with (go_at_call 13; refine (u_ NO _ (RdK_later (bal (brf w) _) (u_ HR)) (Gd_later (u_ HG) (bal (brf w) _)) (Ops_later (u_ HO) (bal (brf w) _))).mono ?_; rintro e v1 ⟨rfl, hb1⟩; have HB1 := h_ (btr (bal (brf w) _) hb1); clear hb1)
 exact bodyPost_ret (v := prV ([], 1)) (by simp [results, Tryz.results7, go_sem, prV]; rfl) rfl ⟨rfl, u_ HB1⟩
theorem iPrMany (n : Nd) (v : Value) (w : World) (hsz : sz n ≤ 1048576) (ht : n.text.size ≤ maxLen) (hr : RdK w n.kids v) (hg : Gd w) (ho : Ops w) (hok : okN n = true) (hm : 16384 < (tk n).length) :
   CB 7 #[ndV n v] w (prV ([], 10)) := by
 have hz9 := (ok_tk n hok).2.2
 have hfm := ok_fm n hok
 have NO := h_ (fun (W : World) (hr' : RdK W n.kids v) (hg' : Gd W) (ho' : Ops W) => iNodeOK n v W hsz ht hr' hg' ho')
 rw [hok] at NO
 have HR := h_ hr
 have HG := h_ hg
 have HO := h_ ho
 obtain ⟨a0, c0, rfl⟩ := RdK_slice hr
 unfold ndV at NO ⊢
 have Z1 : Hid ((w.alloc (Obj.cells #[Value.int IntKind.i64 n.kind, Value.string n.text, Value.slice a0 n.kids.length c0] 30)).cell? ⟨w.heap.size, 0, none⟩ = some (.int .i64 n.kind)) := h_ (by rw [World.cell?_alloc_new]; rfl)
 have Z2 : Hid ((w.alloc (Obj.cells #[Value.int IntKind.i64 n.kind, Value.string n.text, Value.slice a0 n.kids.length c0] 30)).cell? ⟨w.heap.size, 1, none⟩ = some (.string n.text)) := h_ (by rw [World.cell?_alloc_new]; rfl)
 have Z3 : Hid ((w.alloc (Obj.cells #[Value.int IntKind.i64 n.kind, Value.string n.text, Value.slice a0 n.kids.length c0] 30)).cell? ⟨w.heap.size, 2, none⟩ = some (.slice a0 n.kids.length c0)) := h_ (by rw [World.cell?_alloc_new]; rfl)
 have IP := h_ (fun (W : World) (hr' : RdK W n.kids (.slice a0 n.kids.length c0)) => ipAll n _ W (W.alloc (.cells #[.slice none 0 0] 45)) W.heap.size [] (.slice none 0 0) ht hfm hr' (bal (brf W) _) (Nat.le_refl _) (Pi_start W 45) (by rw [List.nil_append]; omega))
 unfold ndV at IP
 simp only [List.nil_append] at IP
 have hl9 := len_sizeT (tk n)
 clear hr ht hg ho hok hfm hsz
 generalize n.kind = nk, n.text = nt at *
 generalize hTK : tk n = TK at *
 clear hTK
 go_enter Tryz.func7, Tryz.ntmps7
 go_wp2_with (first
   | (go_at_call 14; refine (u_ IP _ (RdK_later (u_ HB1) (u_ HR))).mono ?_; rintro e w2 ⟨rfl, ov2, hpi2, hpr2⟩; obtain ⟨a2, c2, hv2⟩ := hpi2.slice; subst hv2; have q0 := hpi2.c0; have HP2 := h_ hpi2; have HB2 := h_ (btr (u_ HB1) (((bal (brf v1) _).trans ((Pi_start v1 45).below hpr2)))); clear hpi2 hpr2)
   | (go_at_call 13; refine (u_ NO _ (RdK_later (bal (brf w) _) (u_ HR)) (Gd_later (u_ HG) (bal (brf w) _)) (Ops_later (u_ HO) (bal (brf w) _))).mono ?_; rintro e v1 ⟨rfl, hb1⟩; have HB1 := h_ (btr (bal (brf w) _) hb1); have j1 := c_ (bal hb1 (Obj.cells #[.slice none 0 0] 45)) (u_ Z1); have j2 := c_ (bal hb1 (Obj.cells #[.slice none 0 0] 45)) (u_ Z2); have j3 := c_ (bal hb1 (Obj.cells #[.slice none 0 0] 45)) (u_ Z3); clear hb1))
 exact bodyPost_ret (v := prV ([], 10)) (by simp [results, Tryz.results7, go_sem, prV]; rfl) rfl ⟨rfl, u_ HB2⟩
theorem iPrLong (n : Nd) (v : Value) (w : World) (hsz : sz n ≤ 1048576) (ht : n.text.size ≤ maxLen) (hr : RdK w n.kids v) (hg : Gd w) (ho : Ops w) (hok : okN n = true) (hm : ¬ 16384 < (tk n).length) (hl : 65536 < sizeT (tk n)) :
   CB 7 #[ndV n v] w (prV ([], 2)) := by
 have hz9 := (ok_tk n hok).2.2
 have hfm := ok_fm n hok
 have NO := h_ (fun (W : World) (hr' : RdK W n.kids v) (hg' : Gd W) (ho' : Ops W) => iNodeOK n v W hsz ht hr' hg' ho')
 rw [hok] at NO
 have HR := h_ hr
 have HG := h_ hg
 have HO := h_ ho
 obtain ⟨a0, c0, rfl⟩ := RdK_slice hr
 unfold ndV at NO ⊢
 have Z1 : Hid ((w.alloc (Obj.cells #[Value.int IntKind.i64 n.kind, Value.string n.text, Value.slice a0 n.kids.length c0] 30)).cell? ⟨w.heap.size, 0, none⟩ = some (.int .i64 n.kind)) := h_ (by rw [World.cell?_alloc_new]; rfl)
 have Z2 : Hid ((w.alloc (Obj.cells #[Value.int IntKind.i64 n.kind, Value.string n.text, Value.slice a0 n.kids.length c0] 30)).cell? ⟨w.heap.size, 1, none⟩ = some (.string n.text)) := h_ (by rw [World.cell?_alloc_new]; rfl)
 have Z3 : Hid ((w.alloc (Obj.cells #[Value.int IntKind.i64 n.kind, Value.string n.text, Value.slice a0 n.kids.length c0] 30)).cell? ⟨w.heap.size, 2, none⟩ = some (.slice a0 n.kids.length c0)) := h_ (by rw [World.cell?_alloc_new]; rfl)
 have IP := h_ (fun (W : World) (hr' : RdK W n.kids (.slice a0 n.kids.length c0)) => ipAll n _ W (W.alloc (.cells #[.slice none 0 0] 45)) W.heap.size [] (.slice none 0 0) ht hfm hr' (bal (brf W) _) (Nat.le_refl _) (Pi_start W 45) (by rw [List.nil_append]; omega))
 unfold ndV at IP
 simp only [List.nil_append] at IP
 have hl9 := len_sizeT (tk n)
 clear hr ht hg ho hok hfm hsz
 generalize n.kind = nk, n.text = nt at *
 generalize hTK : tk n = TK at *
 clear hTK
 go_enter Tryz.func7, Tryz.ntmps7
 go_wp2_with (first
   | (go_at_call 15; refine (iSize _ TK _ _ (u_ HP2) (by omega)).mono ?_; rintro e w3 ⟨rfl, rfl⟩)
   | (go_at_call 14; refine (u_ IP _ (RdK_later (u_ HB1) (u_ HR))).mono ?_; rintro e w2 ⟨rfl, ov2, hpi2, hpr2⟩; obtain ⟨a2, c2, hv2⟩ := hpi2.slice; subst hv2; have q0 := hpi2.c0; have HP2 := h_ hpi2; have HB2 := h_ (btr (u_ HB1) (((bal (brf v1) _).trans ((Pi_start v1 45).below hpr2)))); clear hpi2 hpr2)
   | (go_at_call 13; refine (u_ NO _ (RdK_later (bal (brf w) _) (u_ HR)) (Gd_later (u_ HG) (bal (brf w) _)) (Ops_later (u_ HO) (bal (brf w) _))).mono ?_; rintro e v1 ⟨rfl, hb1⟩; have HB1 := h_ (btr (bal (brf w) _) hb1); have j1 := c_ (bal hb1 (Obj.cells #[.slice none 0 0] 45)) (u_ Z1); have j2 := c_ (bal hb1 (Obj.cells #[.slice none 0 0] 45)) (u_ Z2); have j3 := c_ (bal hb1 (Obj.cells #[.slice none 0 0] 45)) (u_ Z3); clear hb1))
 exact bodyPost_ret (v := prV ([], 2)) (by simp [results, Tryz.results7, go_sem, prV]; rfl) rfl ⟨rfl, u_ HB2⟩
theorem iPrText (n : Nd) (v : Value) (w : World) (hsz : sz n ≤ 1048576) (ht : n.text.size ≤ maxLen) (hr : RdK w n.kids v) (hg : Gd w) (ho : Ops w) (hok : okN n = true) (hm : ¬ 16384 < (tk n).length) (hl : ¬ 65536 < sizeT (tk n)) :
   CB 7 #[ndV n v] w (prV (textL (tk n), 0)) := by
 have hz9 := (ok_tk n hok).2.2
 have hfm := ok_fm n hok
 have NO := h_ (fun (W : World) (hr' : RdK W n.kids v) (hg' : Gd W) (ho' : Ops W) => iNodeOK n v W hsz ht hr' hg' ho')
 rw [hok] at NO
 have HR := h_ hr
 have HG := h_ hg
 have HO := h_ ho
 obtain ⟨a0, c0, rfl⟩ := RdK_slice hr
 unfold ndV at NO ⊢
 have Z1 : Hid ((w.alloc (Obj.cells #[Value.int IntKind.i64 n.kind, Value.string n.text, Value.slice a0 n.kids.length c0] 30)).cell? ⟨w.heap.size, 0, none⟩ = some (.int .i64 n.kind)) := h_ (by rw [World.cell?_alloc_new]; rfl)
 have Z2 : Hid ((w.alloc (Obj.cells #[Value.int IntKind.i64 n.kind, Value.string n.text, Value.slice a0 n.kids.length c0] 30)).cell? ⟨w.heap.size, 1, none⟩ = some (.string n.text)) := h_ (by rw [World.cell?_alloc_new]; rfl)
 have Z3 : Hid ((w.alloc (Obj.cells #[Value.int IntKind.i64 n.kind, Value.string n.text, Value.slice a0 n.kids.length c0] 30)).cell? ⟨w.heap.size, 2, none⟩ = some (.slice a0 n.kids.length c0)) := h_ (by rw [World.cell?_alloc_new]; rfl)
 have IP := h_ (fun (W : World) (hr' : RdK W n.kids (.slice a0 n.kids.length c0)) => ipAll n _ W (W.alloc (.cells #[.slice none 0 0] 45)) W.heap.size [] (.slice none 0 0) ht hfm hr' (bal (brf W) _) (Nat.le_refl _) (Pi_start W 45) (by rw [List.nil_append]; omega))
 unfold ndV at IP
 simp only [List.nil_append] at IP
 have hl9 := len_sizeT (tk n)
 clear hr ht hg ho hok hfm hsz
 generalize n.kind = nk, n.text = nt at *
 generalize hTK : tk n = TK at *
 clear hTK
 go_enter Tryz.func7, Tryz.ntmps7
 go_wp2_with (first
   | (go_at_call 16; refine (iPText _ TK _ _ (u_ HP2) (by omega)).mono ?_; rintro e w4 ⟨rfl, b4⟩; have HB4 := h_ (btr (u_ HB2) b4); clear b4)
   | (go_at_call 15; refine (iSize _ TK _ _ (u_ HP2) (by omega)).mono ?_; rintro e w3 ⟨rfl, rfl⟩)
   | (go_at_call 14; refine (u_ IP _ (RdK_later (u_ HB1) (u_ HR))).mono ?_; rintro e w2 ⟨rfl, ov2, hpi2, hpr2⟩; obtain ⟨a2, c2, hv2⟩ := hpi2.slice; subst hv2; have q0 := hpi2.c0; have HP2 := h_ hpi2; have HB2 := h_ (btr (u_ HB1) (((bal (brf v1) _).trans ((Pi_start v1 45).below hpr2)))); clear hpi2 hpr2)
   | (go_at_call 13; refine (u_ NO _ (RdK_later (bal (brf w) _) (u_ HR)) (Gd_later (u_ HG) (bal (brf w) _)) (Ops_later (u_ HO) (bal (brf w) _))).mono ?_; rintro e v1 ⟨rfl, hb1⟩; have HB1 := h_ (btr (bal (brf w) _) hb1); have j1 := c_ (bal hb1 (Obj.cells #[.slice none 0 0] 45)) (u_ Z1); have j2 := c_ (bal hb1 (Obj.cells #[.slice none 0 0] 45)) (u_ Z2); have j3 := c_ (bal hb1 (Obj.cells #[.slice none 0 0] 45)) (u_ Z3); clear hb1))
 exact bodyPost_ret (v := prV (textL TK, 0)) (by simp [results, Tryz.results7, go_sem, prV]) rfl ⟨rfl, u_ HB4⟩
theorem iPrint (n : Nd) (v : Value) (w : World) (hsz : sz n ≤ 1048576) (ht : n.text.size ≤ maxLen) (hr : RdK w n.kids v) (hg : Gd w) (ho : Ops w) :
   CB 7 #[ndV n v] w (prV (prR n)) := by
 unfold prR
 cases hok : okN n with
 | false => rw [if_pos rfl]; exact iPrBad n v w hsz ht hr hg ho hok
 | true =>
   rw [if_neg (by decide), textL_len]
   by_cases hm : 16384 < (tk n).length
   · rw [if_pos hm]; exact iPrMany n v w hsz ht hr hg ho hok hm
   · rw [if_neg hm]
     by_cases hl : 65536 < sizeT (tk n)
     · rw [if_pos hl]; exact iPrLong n v w hsz ht hr hg ho hok hm hl
     · rw [if_neg hl]; exact iPrText n v w hsz ht hr hg ho hok hm hl
theorem lPrintBig (n : Nd) (v : Value) (w : World) (ht : n.text.size ≤ maxLen) (hr : RdK w n.kids v) (hsz : ¬ sz n ≤ 1048576) :
   CB 3 #[ndV n v] w (.bool true) := by
 have SZ := h_ (fun w' hr' => szN n v w' 1048576 (Nat.le_refl _) ht hr')
 rw [szR_lt (by omega)] at SZ
 have HR := h_ hr
 obtain ⟨a0, c0, rfl⟩ := RdK_slice hr
 unfold ndV at SZ ⊢
 clear hr ht
 generalize n.kind = xk, n.text = xt at *
 go_enter Tryz.func3, Tryz.ntmps3
 go_wp2_with (go_at_call 4; refine (u_ SZ _ (RdK_later (bal (brf w) _) (u_ HR))).mono ?_; rintro e v1 ⟨rfl, hb1⟩)
 go_ret
 exact ⟨rfl, btr (bal (brf w) _) hb1⟩
theorem keepL6 {W V v1 : World} {a b c d f g : Addr} {x y z u p q : Value} (h : V.cell? a = some x ∧ V.cell? b = some y ∧ V.cell? c = some z ∧ V.cell? d = some u ∧ V.cell? f = some p ∧ V.cell? g = some q ∧ Below W.heap.size W V) (hb : Below V.heap.size V v1) :
   v1.cell? a = some x ∧ v1.cell? b = some y ∧ v1.cell? c = some z ∧ v1.cell? d = some u ∧ v1.cell? f = some p ∧ v1.cell? g = some q ∧ Below W.heap.size W v1 :=
 ⟨c_ hb h.1, c_ hb h.2.1, c_ hb h.2.2.1, c_ hb h.2.2.2.1, c_ hb h.2.2.2.2.1, c_ hb h.2.2.2.2.2.1, below_step h.2.2.2.2.2.2 hb⟩
theorem belowL6 {W V : World} {a b c d f g : Addr} {x y z u p q : Value} (h : V.cell? a = some x ∧ V.cell? b = some y ∧ V.cell? c = some z ∧ V.cell? d = some u ∧ V.cell? f = some p ∧ V.cell? g = some q ∧ Below W.heap.size W V) : Below W.heap.size W V := h.2.2.2.2.2.2
theorem lPrint (n : Nd) (v : Value) (w : World) (ht : n.text.size ≤ maxLen) (hr : RdK w n.kids v) (hg : Gd w) (ho : Ops w) (hsz : sz n ≤ 1048576) :
   CB 3 #[ndV n v] w (.bool true) := by
 have SZ := h_ (fun w' hr' => szN n v w' 1048576 (Nat.le_refl _) ht hr')
 rw [szR_le hsz] at SZ
 have TO := h_ (fun w' hr' => toN n v w' hsz hr')
 have SN := h_ (fun u w' hr' => sPrint n u w' ht hr')
 have IN := h_ (fun u w' hr' hg' ho' => iPrint n u w' hsz ht hr' hg' ho')
 have EQ := h_ (fun u1 u2 w' h1' h2' => eqN n u1 u2 w' h1' h2')
 have HR := h_ hr
 have HG := h_ hg
 have HO := h_ ho
 obtain ⟨a0, c0, rfl⟩ := RdK_slice hr
 unfold ndV at SZ TO SN IN EQ ⊢
 have Z0 : Hid ((w.alloc (Obj.cells #[Value.int IntKind.i64 n.kind, Value.string n.text, Value.slice a0 n.kids.length c0] 24)).cell? ⟨w.heap.size, 0, none⟩ = some (.int .i64 n.kind)) := h_ (by rw [World.cell?_alloc_new]; rfl)
 have Z1 : Hid ((w.alloc (Obj.cells #[Value.int IntKind.i64 n.kind, Value.string n.text, Value.slice a0 n.kids.length c0] 24)).cell? ⟨w.heap.size, 1, none⟩ = some (.string n.text)) := h_ (by rw [World.cell?_alloc_new]; rfl)
 have Z2 : Hid ((w.alloc (Obj.cells #[Value.int IntKind.i64 n.kind, Value.string n.text, Value.slice a0 n.kids.length c0] 24)).cell? ⟨w.heap.size, 2, none⟩ = some (.slice a0 n.kids.length c0)) := h_ (by rw [World.cell?_alloc_new]; rfl)
 clear hr ht hg ho hsz
 unfold prV at SN IN
 generalize S (prR n).1 = rs at *
 generalize ((prR n).2 : Nat) = rc at *
 generalize n.kind = xk, n.text = xt at *
 generalize 1048576 - sz n = q at *
 go_enter Tryz.func3, Tryz.ntmps3
 go_wp2_with (go_at_call 4; refine (u_ SZ _ (RdK_later (bal (brf w) _) (u_ HR))).mono ?_; rintro e v1 ⟨rfl, hb1⟩; have y0 := c_ hb1 (u_ Z0); have y1 := c_ hb1 (u_ Z1); have y2 := c_ hb1 (u_ Z2); have HB1 := h_ (btr (bal (brf w) _) hb1))
 clear SZ Z0 Z1 Z2 hb1
 have HY0 := h_ y0
 have HY1 := h_ y1
 have HY2 := h_ y2
 clear y0 y1 y2
 refine (u_ TO _ (RdK_later (u_ HB1) (u_ HR))).mono ?_
 rintro e v2 ⟨⟨u1, rfl, hrd1⟩, hb2⟩
 have R1 := h_ (RdB_mono (Nat.zero_le _) hrd1)
 obtain ⟨p1, d1, rfl⟩ := RdB_slice hrd1
 have HB2 := h_ (btr (u_ HB1) hb2)
 have y0 := c_ hb2 (u_ HY0)
 have y1 := c_ hb2 (u_ HY1)
 have y2 := c_ hb2 (u_ HY2)
 clear hrd1 hb2 HY0 HY1 HY2 HB1
 go_wp2_with (go_at_call 5; refine (u_ SN _ _ (u_ R1)).mono ?_; rintro e v3 ⟨rfl, hb3⟩; have z0 := c_ hb3 y0; have z1 := c_ hb3 y1; have z2 := c_ hb3 y2; have HB3 := h_ (btr (u_ HB2) hb3))
 clear hb3 R1 SN y0 y1 y2 HB2
 have HZ0 := h_ z0
 have HZ1 := h_ z1
 have HZ2 := h_ z2
 clear z0 z1 z2
 refine (u_ TO _ (RdK_later (u_ HB3) (u_ HR))).mono ?_
 rintro e v4 ⟨⟨u2, rfl, hrd2⟩, hb4⟩
 have R2 := h_ (RdB_mono (Nat.zero_le _) hrd2)
 obtain ⟨p2, d2, rfl⟩ := RdB_slice hrd2
 have HB4 := h_ (btr (u_ HB3) hb4)
 have HX0 := h_ (c_ hb4 (u_ HZ0))
 have HX1 := h_ (c_ hb4 (u_ HZ1))
 have HX2 := h_ (c_ hb4 (u_ HZ2))
 have C0 : Hid ((v4.alloc (Obj.cells #[Value.int IntKind.i64 xk, Value.string xt, Value.slice p2 n.kids.length d2] 30)).cell? ⟨v4.heap.size, 0, none⟩ = some (.int .i64 xk)) := h_ (by rw [World.cell?_alloc_new]; rfl)
 have C1 : Hid ((v4.alloc (Obj.cells #[Value.int IntKind.i64 xk, Value.string xt, Value.slice p2 n.kids.length d2] 30)).cell? ⟨v4.heap.size, 1, none⟩ = some (.string xt)) := h_ (by rw [World.cell?_alloc_new]; rfl)
 have C2 : Hid ((v4.alloc (Obj.cells #[Value.int IntKind.i64 xk, Value.string xt, Value.slice p2 n.kids.length d2] 30)).cell? ⟨v4.heap.size, 2, none⟩ = some (.slice p2 n.kids.length d2)) := h_ (by rw [World.cell?_alloc_new]; rfl)
 clear hrd2 hb4 HZ0 HZ1 HZ2 HB3
 go_wp2_with (go_at_call 7; refine (u_ IN _ _ (RdK_later (bal (brf _) _) (u_ R2)) (Gd_later (u_ HG) (bal (u_ HB4) _)) (Ops_later (u_ HO) (bal (u_ HB4) _))).mono ?_; rintro e v5 ⟨rfl, hb5⟩)
 have i0 := c_ hb5 (u_ C0)
 have i1 := c_ hb5 (u_ C1)
 have i2 := c_ hb5 (u_ C2)
 have h0 := c_ hb5 (c_ (bal (brf v4) (Obj.cells #[Value.int IntKind.i64 xk, Value.string xt, Value.slice p2 n.kids.length d2] 30)) (u_ HX0))
 have h1 := c_ hb5 (c_ (bal (brf v4) (Obj.cells #[Value.int IntKind.i64 xk, Value.string xt, Value.slice p2 n.kids.length d2] 30)) (u_ HX1))
 have h2 := c_ hb5 (c_ (bal (brf v4) (Obj.cells #[Value.int IntKind.i64 xk, Value.string xt, Value.slice p2 n.kids.length d2] 30)) (u_ HX2))
 have HB5 := h_ (btr (bal (u_ HB4) _) hb5)
 have R5 := h_ (RdK_later hb5 (RdK_later (bal (brf v4) _) (u_ R2)))
 clear hb5 C0 C1 C2 HX0 HX1 HX2 R2 HB4 IN
 go_region_held3 (fun w' => w'.cell? ⟨v4.heap.size, 0, none⟩ = some (.int .i64 xk) ∧ w'.cell? ⟨v4.heap.size, 1, none⟩ = some (.string xt) ∧ w'.cell? ⟨v4.heap.size, 2, none⟩ = some (.slice p2 n.kids.length d2) ∧ w'.cell? ⟨w.heap.size, 0, none⟩ = some (.int .i64 xk) ∧ w'.cell? ⟨w.heap.size, 1, none⟩ = some (.string xt) ∧ w'.cell? ⟨w.heap.size, 2, none⟩ = some (.slice a0 n.kids.length c0) ∧ Below v5.heap.size v5 w')
   (first | (exact ⟨i0, i1, i2, h0, h1, h2, bdr (brf _)⟩) | (exact keepL6 (by assumption) hb7) | (exact keepL6 (by assumption) hb6))
   (first | (go_at_call 6; refine (u_ TO _ (RdK_later (btr (u_ HB5) (belowL6 (by assumption))) (u_ HR))).mono ?_; rintro e v6 ⟨⟨u3, rfl, hrd3⟩, hb6⟩; have R3 := h_ (RdB_mono (Nat.zero_le _) hrd3); obtain ⟨p3, d3, rfl⟩ := RdB_slice hrd3; clear hrd3) | (go_at_call 8; refine (u_ EQ _ _ _ (RdK_later (belowL6 (by assumption)) (u_ R5)) (u_ R3)).mono ?_; rintro e v7 ⟨rfl, hb7⟩))
 all_goals
   have hSf : Below v5.heap.size v5 v7 := belowL6 (by assumption)
   have HB7 := h_ (btr (u_ HB5) hSf)
   go_wp2
   exact bodyPost_ret (v := .bool true) (by simp [results, Tryz.results3, go_sem]) rfl ⟨rfl, u_ HB7⟩
end Go.Proofs.YtddlokkejglckaaGreatDoor
