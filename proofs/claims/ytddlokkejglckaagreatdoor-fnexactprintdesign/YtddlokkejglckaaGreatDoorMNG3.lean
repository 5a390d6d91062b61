/- Parts of the proof: NG3 to PX1. -/
import Derived.Test.YtddlokkejglckaaGreatDoorMNF1
import Derived.Test.YtddlokkejglckaaGreatDoorMNF4
import Derived.Test.YtddlokkejglckaaGreatDoorMPS13
import Derived.Test.YtddlokkejglckaaGreatDoorMPD1
namespace Go.Proofs.YtddlokkejglckaaGreatDoor
open Go.RowKit Nt
set_option maxHeartbeats 800000
set_option linter.unusedVariables false
set_option maxRecDepth 100000
theorem isPoL (n : Nd) (ih2 : ∀ x ∈ n.kids, ∀ y ∈ x.kids, IsC y) (v : Value) (w : World) (ht : n.text.size ≤ maxLen) (hr : RdK w n.kids v) (hk : n.kind = 5) (hA : (n.text.size == 0) = true) :
   CB 33 #[ndV n v, .int .u8 80] w (.bool (n.kids.all (pB2 6 7 [116]))) := by
 have HP := h_ ih2
 have hn : n.text.toList.isEmpty = true := by rw [toListL, ← L_emp]; exact hA
 clear ih2 hA ht
 unfold ndV
 rw [hk]
 have hlen := len_ok hr
 obtain ⟨a0, c0, rfl⟩ := RdK_slice hr
 have z1 : (w.alloc (Obj.cells #[Value.int IntKind.i64 5, Value.string n.text, Value.slice a0 n.kids.length c0] 30)).cell? ⟨w.heap.size, 2, none⟩ = some (.slice a0 n.kids.length c0) := by rw [World.cell?_alloc_new]; rfl
 have HB1 : Hid (Below w.heap.size w (w.alloc (Obj.cells #[Value.int IntKind.i64 5, Value.string n.text, Value.slice a0 n.kids.length c0] 30))) := h_ (bal (brf w) _)
 generalize n.text = xt at *
 go_enter Tryz.func33, Tryz.ntmps33
 go_wp2
 generalize hw1 : w.alloc (Obj.cells #[Value.int IntKind.i64 5, Value.string xt, Value.slice a0 n.kids.length c0] 30) = w1 at *
 go_loopw [7] (fun i wr => ∃ j : Nat, i = .int .i64 j ∧ j ≤ n.kids.length ∧ Below w1.heap.size w1 wr ∧ (n.kids.drop j).all (pB2 6 7 [116]) = n.kids.all (pB2 6 7 [116])) (fun i wr => n.kids.length - (intOf i).toNat)
 case atStart => exact ⟨0, rfl, Nat.zero_le _, brf _, rfl⟩
 case round =>
   obtain ⟨j, rfl, hj, hb, hall⟩ := hrel
   have z2 := c_ hb z1
   have hbw := below_step (u_ HB1) hb
   have HB := h_ hbw
   have HA := h_ hall
   have HB0 := h_ hb
   by_cases hjn : j < n.kids.length
   · have hx : n.kids[j]? = some n.kids[j] := List.getElem?_eq_getElem hjn
     have hdr := List.drop_eq_getElem_cons hjn
     generalize n.kids[j] = x at hx hdr
     rcases RdK_cases hr with ⟨h0, _⟩ | ⟨b, o, c', vs, hvv, hn', hcs⟩
     · rw [h0] at hjn; simp at hjn
     obtain ⟨k1, k2, k3, hts, hkr⟩ := hcs j x hx
     have k1' := c_ hbw k1
     have k2' := c_ hbw k2
     have k3' := c_ hbw k3
     have FR := h_ (fun w' => sFree x.text w' hts)
     have KX := h_ (fun (wy : World) (hy : Below wr.heap.size wr wy) => kidsN x (u_ HP x (List.mem_of_getElem? hx)) (vs j) wy ⟨#[116]⟩ (by decide) (by decide) (RdK_later hy (RdK_later hbw hkr)))
     have hk1 : ltr ⟨#[116]⟩ = [116] := by decide
     rw [hk1] at KX
     unfold ndV at KX
     obtain ⟨ha0, hc0⟩ : a0 = some ⟨b, o, none⟩ ∧ c0 = c' := by injection hvv with h1 h2 h3; exact ⟨h1, h3⟩
     subst ha0 hc0
     obtain ⟨a', c'', hv'⟩ := RdK_slice hkr
     rw [hv'] at k3' KX
     rw [hdr, List.all_cons] at HA
     have HPx : Hid ((pB2 6 7 [116]) x = (((x.kind == 6) || (x.kind == 7)) && (freeB x.text && kidsB x.kids [116]))) := h_ rfl
     rw [u_ HPx] at HA
     clear hb hbw k1 k2 k3 hkr hcs hvv hr hall hk1 HPx
     by_cases hxk : x.kind = 6 ∨ x.kind = 7
     · rcases hxk with hxk | hxk
       · rw [hxk] at k1' KX HA
         have hkb : ((((6 : Int) == 6)) || (((6 : Int) == 7))) = true := by decide
         rw [hkb, Bool.true_and] at HA
         clear hkb hxk
         cases hF : freeB x.text with
         | false =>
           rw [hF] at FR HA
           rw [Bool.false_and, Bool.false_and] at HA
           clear hF KX
           generalize x.text = yt at *
           go_wp2_with (go_at_call 47; refine (u_ FR _).mono ?_; rintro e w' ⟨rfl, rfl⟩)
           exact bodyPost_ret (v := .bool false) (by simp [results, Tryz.results33, go_sem]) rfl ⟨by rw [← u_ HA], bal (u_ HB) _⟩
         | true =>
           rw [hF] at FR HA
           rw [Bool.true_and] at HA
           clear hF
           cases hK : kidsB x.kids [116] with
           | false =>
             rw [hK] at KX HA
             rw [Bool.false_and] at HA
             clear hK
             generalize x.text = yt at *
             go_wp2_with (first | (go_at_call 47; refine (u_ FR _).mono ?_; rintro e w' ⟨rfl, rfl⟩) | (go_at_call 46; refine (u_ KX _ (by repeat first | exact brf _ | refine bal ?_ _)).mono ?_; rintro e v1 ⟨rfl, hb1⟩))
             exact bodyPost_ret (v := .bool false) (by simp [results, Tryz.results33, go_sem]) rfl ⟨by rw [← u_ HA], btr (bal (u_ HB) _) hb1⟩
           | true =>
             rw [hK] at KX HA
             rw [Bool.true_and] at HA
             clear hK
             generalize x.text = yt at *
             go_wp2_with (first | (go_at_call 47; refine (u_ FR _).mono ?_; rintro e w' ⟨rfl, rfl⟩) | (go_at_call 46; refine (u_ KX _ (by repeat first | exact brf _ | refine bal ?_ _)).mono ?_; rintro e v1 ⟨rfl, hb1⟩))
             exact ⟨⟨j + 1, by go_num, by omega, btr (bal (u_ HB0) _) hb1, u_ HA⟩, by simp [intOf]; omega⟩
       · rw [hxk] at k1' KX HA
         have hkb : ((((7 : Int) == 6)) || (((7 : Int) == 7))) = true := by decide
         rw [hkb, Bool.true_and] at HA
         clear hkb hxk
         cases hF : freeB x.text with
         | false =>
           rw [hF] at FR HA
           rw [Bool.false_and, Bool.false_and] at HA
           clear hF KX
           generalize x.text = yt at *
           go_wp2_with (go_at_call 47; refine (u_ FR _).mono ?_; rintro e w' ⟨rfl, rfl⟩)
           exact bodyPost_ret (v := .bool false) (by simp [results, Tryz.results33, go_sem]) rfl ⟨by rw [← u_ HA], bal (u_ HB) _⟩
         | true =>
           rw [hF] at FR HA
           rw [Bool.true_and] at HA
           clear hF
           cases hK : kidsB x.kids [116] with
           | false =>
             rw [hK] at KX HA
             rw [Bool.false_and] at HA
             clear hK
             generalize x.text = yt at *
             go_wp2_with (first | (go_at_call 47; refine (u_ FR _).mono ?_; rintro e w' ⟨rfl, rfl⟩) | (go_at_call 46; refine (u_ KX _ (by repeat first | exact brf _ | refine bal ?_ _)).mono ?_; rintro e v1 ⟨rfl, hb1⟩))
             exact bodyPost_ret (v := .bool false) (by simp [results, Tryz.results33, go_sem]) rfl ⟨by rw [← u_ HA], btr (bal (u_ HB) _) hb1⟩
           | true =>
             rw [hK] at KX HA
             rw [Bool.true_and] at HA
             clear hK
             generalize x.text = yt at *
             go_wp2_with (first | (go_at_call 47; refine (u_ FR _).mono ?_; rintro e w' ⟨rfl, rfl⟩) | (go_at_call 46; refine (u_ KX _ (by repeat first | exact brf _ | refine bal ?_ _)).mono ?_; rintro e v1 ⟨rfl, hb1⟩))
             exact ⟨⟨j + 1, by go_num, by omega, btr (bal (u_ HB0) _) hb1, u_ HA⟩, by simp [intOf]; omega⟩
     · have a6 : (x.kind == 6) = false := beq_eq_false_iff_ne.2 (fun h => hxk (by simp [h])); have a7 : (x.kind == 7) = false := beq_eq_false_iff_ne.2 (fun h => hxk (by simp [h])); have b6 : (x.kind != 6) = true := (by rw [bne, a6]; rfl); have b7 : (x.kind != 7) = true := (by rw [bne, a7]; rfl)
       rw [a6, a7] at HA
       have hkb : (false || false) = false := by decide
       rw [hkb] at HA
       rw [Bool.false_and, Bool.false_and] at HA
       clear hxk KX FR hkb
       generalize x.kind = yk at *
       generalize x.text = yt at *
       go_wp2
       exact bodyPost_ret (v := .bool false) (by simp [results, Tryz.results33, go_sem]) rfl ⟨by rw [← u_ HA], bal (u_ HB) _⟩
   · rw [List.drop_of_length_le (by omega)] at HA
     clear hb hbw hr hall
     go_wp2
     exact bodyPost_ret (v := .bool true) (by simp [results, Tryz.results33, go_sem]) rfl ⟨by rw [← u_ HA]; rfl, u_ HB⟩
theorem isPok (n : Nd) (v : Value) (w : World) (ht : n.text.size ≤ maxLen) (hr : RdK w n.kids v) (h5 : n.kind ≠ 5) :
   CB 33 #[ndV n v, .int .u8 80] w (.bool false) := by
 have b5 : (n.kind != 5) = true := by rw [bne, beq_eq_false_iff_ne.2 h5]; rfl
 have HR := h_ hr
 have hl := len_ok hr
 obtain ⟨a0, c0, rfl⟩ := RdK_slice hr
 unfold ndV
 clear hr ht
 have a5 : (n.kind == 5) = false := beq_eq_false_iff_ne.2 h5
 clear h5
 generalize n.kind = xk, n.text = xt at *
 go_enter Tryz.func33, Tryz.ntmps33
 go_wp2
 go_ret
 exact ⟨rfl, bal (brf w) _⟩
theorem isPon (n : Nd) (v : Value) (w : World) (ht : n.text.size ≤ maxLen) (hr : RdK w n.kids v) (hk : n.kind = 5) (hA : (n.text.size == 0) = false) :
   CB 33 #[ndV n v, .int .u8 80] w (.bool false) := by
 have hn : n.text.toList.isEmpty = false := by rw [toListL, ← L_emp]; exact hA
 have HR := h_ hr
 have hl := len_ok hr
 obtain ⟨a0, c0, rfl⟩ := RdK_slice hr
 unfold ndV
 rw [hk]
 clear hr ht
 generalize n.text = xt at *
 go_enter Tryz.func33, Tryz.ntmps33
 go_wp2
 go_ret
 exact ⟨rfl, bal (brf w) _⟩
theorem isFoL (n : Nd) (ih2 : ∀ x ∈ n.kids, ∀ y ∈ x.kids, IsC y) (v : Value) (w : World) (ht : n.text.size ≤ maxLen) (hr : RdK w n.kids v) (hk : n.kind = 5) (hA : (n.text.size == 0) = true) :
   CB 33 #[ndV n v, .int .u8 70] w (.bool (n.kids.all (pB 6 [116]))) := by
 have HP := h_ ih2
 have hn : n.text.toList.isEmpty = true := by rw [toListL, ← L_emp]; exact hA
 clear ih2 hA ht
 unfold ndV
 rw [hk]
 have hlen := len_ok hr
 obtain ⟨a0, c0, rfl⟩ := RdK_slice hr
 have z1 : (w.alloc (Obj.cells #[Value.int IntKind.i64 5, Value.string n.text, Value.slice a0 n.kids.length c0] 30)).cell? ⟨w.heap.size, 2, none⟩ = some (.slice a0 n.kids.length c0) := by rw [World.cell?_alloc_new]; rfl
 have HB1 : Hid (Below w.heap.size w (w.alloc (Obj.cells #[Value.int IntKind.i64 5, Value.string n.text, Value.slice a0 n.kids.length c0] 30))) := h_ (bal (brf w) _)
 generalize n.text = xt at *
 go_enter Tryz.func33, Tryz.ntmps33
 go_wp2
 generalize hw1 : w.alloc (Obj.cells #[Value.int IntKind.i64 5, Value.string xt, Value.slice a0 n.kids.length c0] 30) = w1 at *
 go_loopw [7] (fun i wr => ∃ j : Nat, i = .int .i64 j ∧ j ≤ n.kids.length ∧ Below w1.heap.size w1 wr ∧ (n.kids.drop j).all (pB 6 [116]) = n.kids.all (pB 6 [116])) (fun i wr => n.kids.length - (intOf i).toNat)
 case atStart => exact ⟨0, rfl, Nat.zero_le _, brf _, rfl⟩
 case round =>
   obtain ⟨j, rfl, hj, hb, hall⟩ := hrel
   have z2 := c_ hb z1
   have hbw := below_step (u_ HB1) hb
   have HB := h_ hbw
   have HA := h_ hall
   have HB0 := h_ hb
   by_cases hjn : j < n.kids.length
   · have hx : n.kids[j]? = some n.kids[j] := List.getElem?_eq_getElem hjn
     have hdr := List.drop_eq_getElem_cons hjn
     generalize n.kids[j] = x at hx hdr
     rcases RdK_cases hr with ⟨h0, _⟩ | ⟨b, o, c', vs, hvv, hn', hcs⟩
     · rw [h0] at hjn; simp at hjn
     obtain ⟨k1, k2, k3, hts, hkr⟩ := hcs j x hx
     have k1' := c_ hbw k1
     have k2' := c_ hbw k2
     have k3' := c_ hbw k3
     have FR := h_ (fun w' => sFree x.text w' hts)
     have KX := h_ (fun (wy : World) (hy : Below wr.heap.size wr wy) => kidsN x (u_ HP x (List.mem_of_getElem? hx)) (vs j) wy ⟨#[116]⟩ (by decide) (by decide) (RdK_later hy (RdK_later hbw hkr)))
     have hk1 : ltr ⟨#[116]⟩ = [116] := by decide
     rw [hk1] at KX
     unfold ndV at KX
     obtain ⟨ha0, hc0⟩ : a0 = some ⟨b, o, none⟩ ∧ c0 = c' := by injection hvv with h1 h2 h3; exact ⟨h1, h3⟩
     subst ha0 hc0
     obtain ⟨a', c'', hv'⟩ := RdK_slice hkr
     rw [hv'] at k3' KX
     rw [hdr, List.all_cons] at HA
     have HPx : Hid ((pB 6 [116]) x = ((x.kind == 6) && (freeB x.text && kidsB x.kids [116]))) := h_ rfl
     rw [u_ HPx] at HA
     clear hb hbw k1 k2 k3 hkr hcs hvv hr hall hk1 HPx
     by_cases hxk : x.kind = 6
     · rw [hxk] at k1' KX HA
       have hkb : ((((6 : Int) == 6))) = true := by decide
       rw [hkb, Bool.true_and] at HA
       clear hkb hxk
       cases hF : freeB x.text with
       | false =>
         rw [hF] at FR HA
         rw [Bool.false_and, Bool.false_and] at HA
         clear hF KX
         generalize x.text = yt at *
         go_wp2_with (go_at_call 47; refine (u_ FR _).mono ?_; rintro e w' ⟨rfl, rfl⟩)
         exact bodyPost_ret (v := .bool false) (by simp [results, Tryz.results33, go_sem]) rfl ⟨by rw [← u_ HA], bal (u_ HB) _⟩
       | true =>
         rw [hF] at FR HA
         rw [Bool.true_and] at HA
         clear hF
         cases hK : kidsB x.kids [116] with
         | false =>
           rw [hK] at KX HA
           rw [Bool.false_and] at HA
           clear hK
           generalize x.text = yt at *
           go_wp2_with (first | (go_at_call 47; refine (u_ FR _).mono ?_; rintro e w' ⟨rfl, rfl⟩) | (go_at_call 46; refine (u_ KX _ (by repeat first | exact brf _ | refine bal ?_ _)).mono ?_; rintro e v1 ⟨rfl, hb1⟩))
           exact bodyPost_ret (v := .bool false) (by simp [results, Tryz.results33, go_sem]) rfl ⟨by rw [← u_ HA], btr (bal (u_ HB) _) hb1⟩
         | true =>
           rw [hK] at KX HA
           rw [Bool.true_and] at HA
           clear hK
           generalize x.text = yt at *
           go_wp2_with (first | (go_at_call 47; refine (u_ FR _).mono ?_; rintro e w' ⟨rfl, rfl⟩) | (go_at_call 46; refine (u_ KX _ (by repeat first | exact brf _ | refine bal ?_ _)).mono ?_; rintro e v1 ⟨rfl, hb1⟩))
           exact ⟨⟨j + 1, by go_num, by omega, btr (bal (u_ HB0) _) hb1, u_ HA⟩, by simp [intOf]; omega⟩
     · have a6 : (x.kind == 6) = false := beq_eq_false_iff_ne.2 (fun h => hxk (by simp [h])); have b6 : (x.kind != 6) = true := (by rw [bne, a6]; rfl)
       rw [a6] at HA
       have hkb : (false) = false := by decide
       rw [Bool.false_and, Bool.false_and] at HA
       clear hxk KX FR hkb
       generalize x.kind = yk at *
       generalize x.text = yt at *
       go_wp2
       exact bodyPost_ret (v := .bool false) (by simp [results, Tryz.results33, go_sem]) rfl ⟨by rw [← u_ HA], bal (u_ HB) _⟩
   · rw [List.drop_of_length_le (by omega)] at HA
     clear hb hbw hr hall
     go_wp2
     exact bodyPost_ret (v := .bool true) (by simp [results, Tryz.results33, go_sem]) rfl ⟨by rw [← u_ HA]; rfl, u_ HB⟩
theorem isFok (n : Nd) (v : Value) (w : World) (ht : n.text.size ≤ maxLen) (hr : RdK w n.kids v) (h5 : n.kind ≠ 5) :
   CB 33 #[ndV n v, .int .u8 70] w (.bool false) := by
 have b5 : (n.kind != 5) = true := by rw [bne, beq_eq_false_iff_ne.2 h5]; rfl
 have HR := h_ hr
 have hl := len_ok hr
 obtain ⟨a0, c0, rfl⟩ := RdK_slice hr
 unfold ndV
 clear hr ht
 have a5 : (n.kind == 5) = false := beq_eq_false_iff_ne.2 h5
 clear h5
 generalize n.kind = xk, n.text = xt at *
 go_enter Tryz.func33, Tryz.ntmps33
 go_wp2
 go_ret
 exact ⟨rfl, bal (brf w) _⟩
theorem isFon (n : Nd) (v : Value) (w : World) (ht : n.text.size ≤ maxLen) (hr : RdK w n.kids v) (hk : n.kind = 5) (hA : (n.text.size == 0) = false) :
   CB 33 #[ndV n v, .int .u8 70] w (.bool false) := by
 have hn : n.text.toList.isEmpty = false := by rw [toListL, ← L_emp]; exact hA
 have HR := h_ hr
 have hl := len_ok hr
 obtain ⟨a0, c0, rfl⟩ := RdK_slice hr
 unfold ndV
 rw [hk]
 clear hr ht
 generalize n.text = xt at *
 go_enter Tryz.func33, Tryz.ntmps33
 go_wp2
 go_ret
 exact ⟨rfl, bal (brf w) _⟩
theorem isPo (n : Nd) (v : Value) (w : World) (ht : n.text.size ≤ maxLen) (hr : RdK w n.kids v) (ih2 : ∀ x ∈ n.kids, ∀ y ∈ x.kids, IsC y) :
   CB 33 #[ndV n v, .int .u8 80] w (.bool (okIs 80 n)) := by
 by_cases h5 : n.kind = 5
 · have e : okIs 80 n = ((n.text.size == 0) && n.kids.all (pB2 6 7 [116])) := ok_of (by decide) n 5 h5 (by decide) rfl (by
     show (allK (2 ^ 6 + 2 ^ 7) n.kids && fmL n.kids) = _
     rw [all_fm]; exact congrArg n.kids.all (funext pB_67))
   rw [e]
   cases hA : (n.text.size == 0) with
   | false => exact isPon n v w ht hr h5 hA
   | true => rw [Bool.true_and]; exact isPoL n ih2 v w ht hr h5 hA
 · have e : okIs 80 n = false := ok_no n (by show hasB (2 ^ 5) n.kind = false; rw [has_one 5 (by decide) (by decide)]; simp [h5])
   rw [e]; exact isPok n v w ht hr h5
theorem isFo (n : Nd) (v : Value) (w : World) (ht : n.text.size ≤ maxLen) (hr : RdK w n.kids v) (ih2 : ∀ x ∈ n.kids, ∀ y ∈ x.kids, IsC y) :
   CB 33 #[ndV n v, .int .u8 70] w (.bool (okIs 70 n)) := by
 by_cases h5 : n.kind = 5
 · have e : okIs 70 n = ((n.text.size == 0) && n.kids.all (pB 6 [116])) := by
     rw [okF, has_one 5 (by decide) (by decide), h5, fm_of n 5 h5 (A := (n.text.size == 0)) (B := allK (2 ^ 6 + 2 ^ 7) n.kids && fmL n.kids) rfl rfl]
     have e2 : (allK (2 ^ 6) n.kids && fmL n.kids) = n.kids.all (pB 6 [116]) := by rw [all_fm]; exact congrArg n.kids.all (funext pB_6)
     rw [← e2]
     have e3 : allK (2 ^ 6) n.kids = true → allK (2 ^ 6 + 2 ^ 7) n.kids = true := by
       intro h
       unfold allK at h ⊢
       rw [List.all_eq_true] at h ⊢
       intro x hx
       have := h x hx
       rw [has_one 6 (by decide) (by decide)] at this
       rw [hasB_of (2 ^ 6 + 2 ^ 7) [6, 7] (by decide) (by decide)]
       have h6 : x.kind = 6 := by simpa using this
       rw [h6]; rfl
     cases h1 : allK (2 ^ 6) n.kids with
     | false => cases (n.text.size == 0) <;> cases allK (2 ^ 6 + 2 ^ 7) n.kids <;> cases fmL n.kids <;> rfl
     | true => rw [e3 h1]; cases (n.text.size == 0) <;> cases fmL n.kids <;> rfl
   rw [e]
   cases hA : (n.text.size == 0) with
   | false => exact isFon n v w ht hr h5 hA
   | true => rw [Bool.true_and]; exact isFoL n ih2 v w ht hr h5 hA
 · have e : okIs 70 n = false := ok_no n (by show hasB (2 ^ 5) n.kind = false; rw [has_one 5 (by decide) (by decide)]; simp [h5])
   rw [e]; exact isFok n v w ht hr h5
theorem isMok (n : Nd) (v : Value) (w : World) (hr : RdK w n.kids v) (h2 : n.kind ≠ 2) :
   CB 33 #[ndV n v, .int .u8 109] w (.bool false) := by
 obtain ⟨a0, c0, rfl⟩ := RdK_slice hr
 unfold ndV
 clear hr
 have a2 : (n.kind == 2) = false := beq_eq_false_iff_ne.2 h2
 clear h2
 generalize n.kind = xk, n.text = xt at *
 go_enter Tryz.func33, Tryz.ntmps33
 go_wp2
 go_ret
 exact ⟨rfl, bal (brf w) _⟩
theorem isMon (n : Nd) (v : Value) (w : World) (ht : n.text.size ≤ maxLen) (hr : RdK w n.kids v) (hk : n.kind = 2) (hA : freeB n.text = false) :
   CB 33 #[ndV n v, .int .u8 109] w (.bool false) := by
 have FR := h_ (fun w' => sFree n.text w' ht)
 rw [hA] at FR
 obtain ⟨a0, c0, rfl⟩ := RdK_slice hr
 unfold ndV
 rw [hk]
 clear hr hA ht
 generalize n.text = xt at *
 go_enter Tryz.func33, Tryz.ntmps33
 go_wp2_with (go_at_call 47; refine (u_ FR _).mono ?_; rintro e w' ⟨rfl, rfl⟩)
 go_ret
 exact ⟨rfl, bal (brf w) _⟩
theorem isMoz (n : Nd) (v : Value) (w : World) (ht : n.text.size ≤ maxLen) (hr : RdK w n.kids v) (hk : n.kind = 2) (hA : freeB n.text = true) (hE : n.kids.length < 2) :
   CB 33 #[ndV n v, .int .u8 109] w (.bool false) := by
 have FR := h_ (fun w' => sFree n.text w' ht)
 rw [hA] at FR
 have hl := len_ok hr
 have q0 : ¬ ((2 : Int) ≤ n.kids.length) := by omega
 obtain ⟨a0, c0, rfl⟩ := RdK_slice hr
 unfold ndV
 rw [hk]
 clear hr hA ht
 generalize n.text = xt at *
 go_enter Tryz.func33, Tryz.ntmps33
 go_wp2_with (go_at_call 47; refine (u_ FR _).mono ?_; rintro e w' ⟨rfl, rfl⟩)
 go_ret
 exact ⟨rfl, bal (brf w) _⟩
set_option maxHeartbeats 800000 in
theorem isMo2 (n : Nd) (ih : ∀ x ∈ n.kids, IsC x) (v : Value) (w : World) (ht : n.text.size ≤ maxLen) (hr : RdK w n.kids v) (hk : n.kind = 2) (hA : freeB n.text = true) (x y : Nd) (hx : n.kids[0]? = some x) (hy : n.kids[1]? = some y) :
   CB 33 #[ndV n v, .int .u8 109] w (.bool ((okIs 112 x && okIs 80 y) && (n.kids.drop 2).all (okIs 105))) := by
 have FR := h_ (fun w' => sFree n.text w' ht)
 rw [hA] at FR
 have hl := len_ok hr
 have h2 : 1 < n.kids.length := (List.getElem?_eq_some_iff.1 hy).1
 have q0 : (2 : Int) ≤ n.kids.length := by omega
 have HR := h_ hr
 rcases RdK_cases hr with ⟨h0, _⟩ | ⟨b, o, c', vs, hvv, hn', hcs⟩
 · rw [h0] at h2; simp at h2
 obtain ⟨k1, k2, k3, hts, hkr⟩ := hcs 0 x hx
 obtain ⟨l1, l2, l3, htt, hlr⟩ := hcs 1 y hy
 rw [Nat.zero_mul, Nat.add_zero] at k1 k2 k3
 rw [Nat.one_mul] at l1 l2 l3
 have KA := h_ (fun w' hr' => allN n ih v w' 2 105 (by decide) (by decide) hr')
 have PX := h_ (fun (wy : World) (hy : Below w.heap.size w wy) => ih x (List.mem_of_getElem? hx) (vs 0) wy 112 (by decide) hts (RdK_later hy hkr))
 have PY := h_ (fun (wy : World) (hy' : Below w.heap.size w wy) => ih y (List.mem_of_getElem? hy) (vs 1) wy 80 (by decide) htt (RdK_later hy' hlr))
 unfold ndV at PX PY KA ⊢
 obtain ⟨a', c'', hv'⟩ := RdK_slice hkr
 rw [hv'] at k3 PX
 obtain ⟨a2, c2, hv2⟩ := RdK_slice hlr
 rw [hv2] at l3 PY
 subst hvv
 rw [hk] at KA ⊢
 have hB := bal (brf w) (Obj.cells #[Value.int IntKind.i64 2, Value.string n.text, Value.slice (some ⟨b, o, none⟩) n.kids.length c'] 30)
 have k1' := c_ hB k1
 have k2' := c_ hB k2
 have k3' := c_ hB k3
 have l1' := c_ hB l1
 have l2' := c_ hB l2
 have l3' := c_ hB l3
 have z0 : (w.alloc (Obj.cells #[Value.int IntKind.i64 2, Value.string n.text, Value.slice (some ⟨b, o, none⟩) n.kids.length c'] 30)).cell? ⟨w.heap.size, 0, none⟩ = some (.int .i64 2) := by rw [World.cell?_alloc_new]; rfl
 have z1 : (w.alloc (Obj.cells #[Value.int IntKind.i64 2, Value.string n.text, Value.slice (some ⟨b, o, none⟩) n.kids.length c'] 30)).cell? ⟨w.heap.size, 1, none⟩ = some (.string n.text) := by rw [World.cell?_alloc_new]; rfl
 have z2 : (w.alloc (Obj.cells #[Value.int IntKind.i64 2, Value.string n.text, Value.slice (some ⟨b, o, none⟩) n.kids.length c'] 30)).cell? ⟨w.heap.size, 2, none⟩ = some (Value.slice (some ⟨b, o, none⟩) n.kids.length c') := by rw [World.cell?_alloc_new]; rfl
 have HB := h_ hB
 have Z0 := h_ z0
 have Z1 := h_ z1
 have Z2 := h_ z2
 have HL1 := h_ l1'
 have HL2 := h_ l2'
 have HL3 := h_ l3'
 clear hr hA hcs hkr hlr k1 k2 k3 l1 l2 l3 ih hB z0 z1 z2 l1' l2' l3' ht
 generalize n.text = xt at *
 generalize x.kind = yk at *
 generalize x.text = yt at *
 generalize y.kind = zk at *
 generalize y.text = zt at *
 cases hP : okIs 112 x with
 | false =>
   rw [hP] at PX
   rw [Bool.false_and, Bool.false_and]
   clear PY KA hP
   go_enter Tryz.func33, Tryz.ntmps33
   go_wp2_with (first | (go_at_call 47; refine (u_ FR _).mono ?_; rintro e w' ⟨rfl, rfl⟩) | (go_at_call_of 33 (Value.int IntKind.u8 112); refine (u_ PX _ (u_ HB)).mono ?_; rintro e v1 ⟨rfl, hb1⟩; have y0 := c_ hb1 (u_ Z0); have y1 := c_ hb1 (u_ Z1); have y2 := c_ hb1 (u_ Z2); have m1 := c_ hb1 (u_ HL1); have m2 := c_ hb1 (u_ HL2); have m3 := c_ hb1 (u_ HL3)))
   go_ret
   exact ⟨rfl, btr (u_ HB) hb1⟩
 | true =>
   rw [hP] at PX
   clear hP
   cases hQ : okIs 80 y with
   | false =>
     rw [hQ] at PY
     rw [Bool.and_false, Bool.false_and]
     clear KA hQ
     go_enter Tryz.func33, Tryz.ntmps33
     go_wp2_with (first | (go_at_call 47; refine (u_ FR _).mono ?_; rintro e w' ⟨rfl, rfl⟩) | (go_at_call_of 33 (Value.int IntKind.u8 112); refine (u_ PX _ (u_ HB)).mono ?_; rintro e v1 ⟨rfl, hb1⟩; have y0 := c_ hb1 (u_ Z0); have y1 := c_ hb1 (u_ Z1); have y2 := c_ hb1 (u_ Z2); have m1 := c_ hb1 (u_ HL1); have m2 := c_ hb1 (u_ HL2); have m3 := c_ hb1 (u_ HL3)) | (go_at_call_of 33 (Value.int IntKind.u8 80); refine (u_ PY _ (btr (u_ HB) hb1)).mono ?_; rintro e v2 ⟨rfl, hb2⟩; have x0 := c_ hb2 y0; have x1 := c_ hb2 y1; have x2 := c_ hb2 y2))
     go_ret
     exact ⟨rfl, btr (btr (u_ HB) hb1) hb2⟩
   | true =>
     rw [hQ] at PY
     rw [Bool.and_true, Bool.true_and]
     clear hQ
     cases hR : (n.kids.drop 2).all (okIs 105) with
     | false =>
       rw [hR] at KA
       clear hR
       go_enter Tryz.func33, Tryz.ntmps33
       go_wp2_with (first | (go_at_call 47; refine (u_ FR _).mono ?_; rintro e w' ⟨rfl, rfl⟩) | (go_at_call_of 33 (Value.int IntKind.u8 112); refine (u_ PX _ (u_ HB)).mono ?_; rintro e v1 ⟨rfl, hb1⟩; have y0 := c_ hb1 (u_ Z0); have y1 := c_ hb1 (u_ Z1); have y2 := c_ hb1 (u_ Z2); have m1 := c_ hb1 (u_ HL1); have m2 := c_ hb1 (u_ HL2); have m3 := c_ hb1 (u_ HL3)) | (go_at_call_of 33 (Value.int IntKind.u8 80); refine (u_ PY _ (btr (u_ HB) hb1)).mono ?_; rintro e v2 ⟨rfl, hb2⟩; have x0 := c_ hb2 y0; have x1 := c_ hb2 y1; have x2 := c_ hb2 y2) | (go_at_call 19; refine (u_ KA _ (RdK_later (btr (btr (u_ HB) hb1) hb2) (u_ HR))).mono ?_; rintro e v3 ⟨rfl, hb3⟩))
       go_ret
       exact ⟨rfl, btr (btr (btr (u_ HB) hb1) hb2) hb3⟩
     | true =>
       rw [hR] at KA
       clear hR
       go_enter Tryz.func33, Tryz.ntmps33
       go_wp2_with (first | (go_at_call 47; refine (u_ FR _).mono ?_; rintro e w' ⟨rfl, rfl⟩) | (go_at_call_of 33 (Value.int IntKind.u8 112); refine (u_ PX _ (u_ HB)).mono ?_; rintro e v1 ⟨rfl, hb1⟩; have y0 := c_ hb1 (u_ Z0); have y1 := c_ hb1 (u_ Z1); have y2 := c_ hb1 (u_ Z2); have m1 := c_ hb1 (u_ HL1); have m2 := c_ hb1 (u_ HL2); have m3 := c_ hb1 (u_ HL3)) | (go_at_call_of 33 (Value.int IntKind.u8 80); refine (u_ PY _ (btr (u_ HB) hb1)).mono ?_; rintro e v2 ⟨rfl, hb2⟩; have x0 := c_ hb2 y0; have x1 := c_ hb2 y1; have x2 := c_ hb2 y2) | (go_at_call 19; refine (u_ KA _ (RdK_later (btr (btr (u_ HB) hb1) hb2) (u_ HR))).mono ?_; rintro e v3 ⟨rfl, hb3⟩))
       go_ret
       exact ⟨rfl, btr (btr (btr (u_ HB) hb1) hb2) hb3⟩
theorem modB (ks : List Nd) (x y : Nd) (r : List Nd) (h : ks = x :: y :: r) : ((decide (2 ≤ ks.length) && fitK (ks.take 2) [2 ^ 3, 2 ^ 5] && allK itmK (ks.drop 2)) && fmL ks) = ((okIs 112 x && okIs 80 y) && (ks.drop 2).all (okIs 105)) := by
 subst h
 rw [allB_of (c := 105) (by decide), okIs_of (by decide), okIs_of (by decide), decide_eq_true (by simp)]
 show ((true && (hasB (2 ^ 3) x.kind && (hasB (2 ^ 5) y.kind && true)) && allK itmK r) && fmL (x :: y :: r)) = (((hasB (2 ^ 3) x.kind && fm x) && (hasB (2 ^ 5) y.kind && fm y)) && (allK itmK r && fmL r))
 simp only [fmL]
 generalize hasB (2 ^ 3) x.kind = a
 generalize hasB (2 ^ 5) y.kind = b
 generalize allK itmK r = c
 generalize fm x = d
 generalize fm y = e
 generalize fmL r = f
 revert a b c d e f; decide
theorem isMo (n : Nd) (ih : ∀ x ∈ n.kids, IsC x) (v : Value) (w : World) (ht : n.text.size ≤ maxLen) (hr : RdK w n.kids v) :
   CB 33 #[ndV n v, .int .u8 109] w (.bool (okIs 109 n)) := by
 by_cases h2 : n.kind = 2
 · have e : okIs 109 n = (freeB n.text && ((decide (2 ≤ n.kids.length) && fitK (n.kids.take 2) [2 ^ 3, 2 ^ 5] && allK itmK (n.kids.drop 2)) && fmL n.kids)) := ok_of (by decide) n 2 h2 (by decide) rfl rfl
   rw [e]
   cases hA : freeB n.text with
   | false => exact isMon n v w ht hr h2 hA
   | true =>
     rw [Bool.true_and]
     match hks : n.kids with
     | [] => rw [← hks]; have : (decide (2 ≤ n.kids.length) && fitK (n.kids.take 2) [2 ^ 3, 2 ^ 5] && allK itmK (n.kids.drop 2) && fmL n.kids) = false := by rw [hks]; rfl
             rw [this]; exact isMoz n v w ht hr h2 hA (by rw [hks]; simp)
     | [x] => rw [← hks]; have : (decide (2 ≤ n.kids.length) && fitK (n.kids.take 2) [2 ^ 3, 2 ^ 5] && allK itmK (n.kids.drop 2) && fmL n.kids) = false := by rw [hks]; rfl
              rw [this]; exact isMoz n v w ht hr h2 hA (by rw [hks]; simp)
     | x :: y :: r =>
       rw [← hks, modB n.kids x y r hks]
       exact isMo2 n ih v w ht hr h2 hA x y (by rw [hks]; rfl) (by rw [hks]; rfl)
 · have e : okIs 109 n = false := ok_no n (by show hasB (2 ^ 2) n.kind = false; rw [has_one 2 (by decide) (by decide)]; simp [h2])
   rw [e]; exact isMok n v w hr h2
theorem isOne (n : Nd) (ih : ∀ x ∈ n.kids, IsC x) (ih2 : ∀ x ∈ n.kids, ∀ y ∈ x.kids, IsC y) : IsC n := by
 intro v w c hc ht hr
 simp only [lettersL, List.mem_cons, List.mem_nil_iff, or_false] at hc
 rcases hc with rfl | rfl | rfl | rfl | rfl | rfl | rfl | rfl | rfl | rfl | rfl | rfl | rfl | rfl
 · exact isTy n ih v w ht hr
 · exact isNa n v w ht hr
 · exact isT n ih v w ht hr
 · exact isBl n ih v w ht hr
 · exact isBB n ih v w ht hr ih2
 · exact isPa n v w ht hr ih2
 · exact isPo n v w ht hr ih2
 · exact isFo n v w ht hr ih2
 · exact isIt n ih v w ht hr
 · exact isCo n v w ht hr ih2
 · exact isMo n ih v w ht hr
 · exact isIm n ih v w ht hr
 · exact isS n ih v w ht hr ih2
 · exact isE n ih v w ht hr
theorem isAll2 : ∀ n : Nd, IsC n ∧ ∀ x ∈ n.kids, IsC x := Nd.ind fun n ih => ⟨isOne n (fun x hx => (ih x hx).1) (fun x hx => (ih x hx).2), fun x hx => (ih x hx).1⟩
theorem isAll (n : Nd) : IsC n := (isAll2 n).1
theorem okN_eq (n : Nd) : okN n = (ftB n 1 8192 && (decide (n.kind = 1) && ((n.text.size == 0) && n.kids.all (okIs 109)))) := by
 unfold okN ftB fitsB
 have e1 : decide (dep n + 1 ≤ 41) = decide (dep n ≤ 40) := by rw [Bool.eq_iff_iff]; simp only [decide_eq_true_eq]; omega
 rw [e1]
 by_cases h1 : n.kind = 1
 · rw [fm_of n 1 h1 (A := (n.text.size == 0)) (B := n.kids.all (okIs 109)) rfl (allB_of (c := 109) (by decide) n.kids).symm, decide_eq_true h1]
   generalize decide (dep n ≤ 40) = a
   generalize decide (cnt n ≤ 8192) = b
   generalize (n.text.size == 0) = c
   generalize n.kids.all (okIs 109) = d
   revert a b c d; decide
 · rw [decide_eq_false h1]
   simp
theorem gb_below2 {w v v1 : World} {p : Nat} (h : Below w.heap.size w v) (hg : v.grownBy v1 (some p)) (hp : w.heap.size ≤ p) : Below w.heap.size w v1 := h.grown hg h.size (fun k hk => by injection hk; omega)
set_option maxHeartbeats 800000 in
theorem sNodeOK (n : Nd) (v : Value) (w : World) (ht : n.text.size ≤ maxLen) (hr : RdK w n.kids v) :
   CB 10 #[ndV n v] w (.bool (okN n)) := by
 rw [okN_eq]
 have hl := len_ok hr
 have HR := h_ hr
 have FT := h_ (fun (wy : World) (hb : Below w.heap.size w wy) (hpt : Pt (w.heap.size + 1) 8192 wy) => ftN n v w wy 1 8192 (w.heap.size + 1) (by decide) (by decide) hr hb (Nat.le_succ _) hpt)
 have AL := h_ (fun w' hr' => allN n (fun x _ => isAll x) v w' 0 109 (by decide) (by decide) hr')
 rw [List.drop_zero] at AL
 obtain ⟨a0, c0, rfl⟩ := RdK_slice hr
 unfold ndV at FT AL ⊢
 clear hr
 have hsz : (w.alloc (Obj.cells #[Value.int IntKind.i64 n.kind, Value.string n.text, Value.slice a0 n.kids.length c0] 30)).heap.size = w.heap.size + 1 := by simp
 have HB : Hid (∀ t, Below w.heap.size w ((w.alloc (Obj.cells #[Value.int IntKind.i64 n.kind, Value.string n.text, Value.slice a0 n.kids.length c0] 30)).alloc (Obj.cells #[Value.int IntKind.i64 8192] t))) := h_ (fun t => bal (bal (brf w) _) _)
 have HPT : Hid (∀ t, Pt (w.heap.size + 1) 8192 ((w.alloc (Obj.cells #[Value.int IntKind.i64 n.kind, Value.string n.text, Value.slice a0 n.kids.length c0] 30)).alloc (Obj.cells #[Value.int IntKind.i64 8192] t))) := h_ (fun t => by
   refine ⟨?_, ?_⟩
   · rw [← hsz, World.cell?_alloc_new]; rfl
   · rw [← hsz]; exact World.frozen?_alloc_new _ _ _ _)
 have z0 : ∀ t, ((w.alloc (Obj.cells #[Value.int IntKind.i64 n.kind, Value.string n.text, Value.slice a0 n.kids.length c0] 30)).alloc (Obj.cells #[Value.int IntKind.i64 8192] t)).cell? ⟨w.heap.size, 0, none⟩ = some (.int .i64 n.kind) := fun t => c_ (bal (brf _) _) (by rw [World.cell?_alloc_new]; rfl)
 have z1 : ∀ t, ((w.alloc (Obj.cells #[Value.int IntKind.i64 n.kind, Value.string n.text, Value.slice a0 n.kids.length c0] 30)).alloc (Obj.cells #[Value.int IntKind.i64 8192] t)).cell? ⟨w.heap.size, 1, none⟩ = some (.string n.text) := fun t => c_ (bal (brf _) _) (by rw [World.cell?_alloc_new]; rfl)
 have z2 : ∀ t, ((w.alloc (Obj.cells #[Value.int IntKind.i64 n.kind, Value.string n.text, Value.slice a0 n.kids.length c0] 30)).alloc (Obj.cells #[Value.int IntKind.i64 8192] t)).cell? ⟨w.heap.size, 2, none⟩ = some (.slice a0 n.kids.length c0) := fun t => c_ (bal (brf _) _) (by rw [World.cell?_alloc_new]; rfl)
 have Z0 := h_ z0
 have Z1 := h_ z1
 have Z2 := h_ z2
 clear z0 z1 z2 hsz
 have hne : ∀ o : Nat, (some (w.heap.size + 1) : Option Nat) ≠ some w.heap.size := by intro o h; injection h; omega
 cases hf : ftB n 1 8192 with
 | false =>
   rw [hf] at FT
   rw [Bool.false_and]
   clear AL hf
   generalize n.kind = xk, n.text = xt at *
   go_enter Tryz.func10, Tryz.ntmps10
   go_wp2_with (go_at_call 18; refine (u_ FT _ (u_ HB _) (u_ HPT _)).mono ?_; rintro e v1 ⟨rfl, hg1, -⟩)
   go_ret
   exact ⟨rfl, gb_below2 (u_ HB _) hg1 (Nat.le_succ _)⟩
 | true =>
   rw [hf] at FT
   rw [Bool.true_and]
   clear hf
   by_cases h1 : n.kind = 1
   · rw [decide_eq_true h1, Bool.true_and]
     rw [h1] at FT AL HB HPT Z0 Z1 Z2 ⊢
     cases hA : (n.text.size == 0) with
     | false =>
       have hn : n.text.toList.isEmpty = false := by rw [toListL, ← L_emp]; exact hA
       rw [Bool.false_and]
       clear AL hA
       generalize n.text = xt at *
       go_enter Tryz.func10, Tryz.ntmps10
       go_wp2_with (go_at_call 18; refine (u_ FT _ (u_ HB _) (u_ HPT _)).mono ?_; rintro e v1 ⟨rfl, hg1, -⟩; have y0 := hg1.cell (u_ Z0 _) (fun e => absurd (Option.some.inj e) (by show w.heap.size ≠ w.heap.size + 1; omega)); have y1 := hg1.cell (u_ Z1 _) (fun e => absurd (Option.some.inj e) (by show w.heap.size ≠ w.heap.size + 1; omega)))
       go_ret
       exact ⟨rfl, gb_below2 (u_ HB _) hg1 (Nat.le_succ _)⟩
     | true =>
       have hn : n.text.toList.isEmpty = true := by rw [toListL, ← L_emp]; exact hA
       rw [Bool.true_and]
       clear hA
       cases hB : n.kids.all (okIs 109) with
       | false =>
         rw [hB] at AL
         clear hB
         generalize n.text = xt at *
         go_enter Tryz.func10, Tryz.ntmps10
         go_wp2_with (first | (go_at_call 18; refine (u_ FT _ (u_ HB _) (u_ HPT _)).mono ?_; rintro e v1 ⟨rfl, hg1, -⟩; have y0 := hg1.cell (u_ Z0 _) (fun e => absurd (Option.some.inj e) (by show w.heap.size ≠ w.heap.size + 1; omega)); have y1 := hg1.cell (u_ Z1 _) (fun e => absurd (Option.some.inj e) (by show w.heap.size ≠ w.heap.size + 1; omega)); have y2 := hg1.cell (u_ Z2 _) (fun e => absurd (Option.some.inj e) (by show w.heap.size ≠ w.heap.size + 1; omega))) | (go_at_call 19; refine (u_ AL _ (RdK_later (gb_below2 (u_ HB _) hg1 (Nat.le_succ _)) (u_ HR))).mono ?_; rintro e v2 ⟨rfl, hb2⟩))
         go_ret
         exact ⟨rfl, btr (gb_below2 (u_ HB _) hg1 (Nat.le_succ _)) hb2⟩
       | true =>
         rw [hB] at AL
         clear hB
         generalize n.text = xt at *
         go_enter Tryz.func10, Tryz.ntmps10
         go_wp2_with (first | (go_at_call 18; refine (u_ FT _ (u_ HB _) (u_ HPT _)).mono ?_; rintro e v1 ⟨rfl, hg1, -⟩; have y0 := hg1.cell (u_ Z0 _) (fun e => absurd (Option.some.inj e) (by show w.heap.size ≠ w.heap.size + 1; omega)); have y1 := hg1.cell (u_ Z1 _) (fun e => absurd (Option.some.inj e) (by show w.heap.size ≠ w.heap.size + 1; omega)); have y2 := hg1.cell (u_ Z2 _) (fun e => absurd (Option.some.inj e) (by show w.heap.size ≠ w.heap.size + 1; omega))) | (go_at_call 19; refine (u_ AL _ (RdK_later (gb_below2 (u_ HB _) hg1 (Nat.le_succ _)) (u_ HR))).mono ?_; rintro e v2 ⟨rfl, hb2⟩))
         go_ret
         exact ⟨rfl, btr (gb_below2 (u_ HB _) hg1 (Nat.le_succ _)) hb2⟩
   · rw [decide_eq_false h1, Bool.false_and]
     have a1 : (n.kind == 1) = false := beq_eq_false_iff_ne.2 h1
     clear AL h1
     generalize n.kind = xk, n.text = xt at *
     go_enter Tryz.func10, Tryz.ntmps10
     go_wp2_with (go_at_call 18; refine (u_ FT _ (u_ HB _) (u_ HPT _)).mono ?_; rintro e v1 ⟨rfl, hg1, -⟩; have y0 := hg1.cell (u_ Z0 _) (fun e => absurd (Option.some.inj e) (by show w.heap.size ≠ w.heap.size + 1; omega)))
     go_ret
     exact ⟨rfl, gb_below2 (u_ HB _) hg1 (Nat.le_succ _)⟩
def textL (T : List Tok) : List UInt8 := if T = [] then [] else accL T ++ [10]
def prR (n : Nd) : List UInt8 × Nat :=
 if okN n = false then ([], 1) else if 16384 < (tk n).length then ([], 10) else if 65536 < (textL (tk n)).length then ([], 2) else (textL (tk n), 0)
def prV (r : List UInt8 × Nat) : Value := .tuple #[.string (S r.1), .int .i64 (r.2 : Nat)]
theorem textL_len (T : List Tok) : (textL T).length = sizeT T := by
 unfold textL
 by_cases h : T = []
 · rw [if_pos h, h]; rfl
 · rw [if_neg h, List.length_append, ← accL_len T h]; rfl
theorem ok_tk (n : Nd) (h : okN n = true) : tk n = joinT [] (n.kids.map tk) ∧ (∀ x ∈ n.kids, fmP x) ∧ sizeT (tk n) ≤ 9011200 := by
 unfold okN fitsB at h
 simp only [Bool.and_eq_true, decide_eq_true_eq] at h
 obtain ⟨⟨h1, h2, h3⟩, h4⟩ := h
 have hs := size_le n h4
 obtain ⟨hk, hf⟩ := kids_fm h4
 rw [h1] at hk
 refine ⟨?_, allP_of (s := 2 ^ 2) hk hf (by decide) (by decide) (by decide), by omega⟩
 rw [tk_eq, h1]; simp [pieces, joinT]
theorem Po_start (w : World) (t : TypeId) : Po w.heap.size [] (.slice none 0 0) (w.alloc (.cells #[.slice none 0 0, .int .i64 0, .string ⟨#[]⟩] t)) :=
 ⟨World.ownsRow_nil _ _ _ _, by rw [World.cell?_alloc_new]; rfl, by rw [World.cell?_alloc_new]; rfl, by rw [World.cell?_alloc_new]; rfl, World.frozen?_alloc_new _ _ _ _, World.frozen?_alloc_new _ _ _ _, World.frozen?_alloc_new _ _ _ _⟩
theorem sPrBad (n : Nd) (v : Value) (w : World) (ht : n.text.size ≤ maxLen) (hr : RdK w n.kids v) (hok : okN n = false) :
   CB 5 #[ndV n v] w (prV ([], 1)) := by
 have NO := h_ (fun w' hr' => sNodeOK n v w' ht hr')
 rw [hok] at NO
 have HR := h_ hr
 obtain ⟨a0, c0, rfl⟩ := RdK_slice hr
 unfold ndV at NO ⊢
 clear hr ht
 generalize n.kind = xk, n.text = xt at *
 go_enter Tryz.func5, Tryz.ntmps5
 go_wp2_with (go_at_call 10; refine (u_ NO _ (RdK_later (bal (brf w) _) (u_ HR))).mono ?_; rintro e v1 ⟨rfl, hb1⟩)
 exact bodyPost_ret (v := prV ([], 1)) (by simp [results, Tryz.results5, go_sem, prV]; rfl) rfl ⟨rfl, btr (bal (brf w) _) hb1⟩
theorem sPrMany (n : Nd) (v : Value) (w : World) (ht : n.text.size ≤ maxLen) (hr : RdK w n.kids v) (hok : okN n = true) (hm : 16384 < (tk n).length) :
   CB 5 #[ndV n v] w (prV ([], 10)) := by
 have NO := h_ (fun w' hr' => sNodeOK n v w' ht hr')
 rw [hok] at NO
 obtain ⟨hj, hf, hs⟩ := ok_tk n hok
 have hcm : (16384 : Int) < ((tk n).length : Nat) := by omega
 have LS := h_ (fun (W0 : World) (hr' : RdK W0 n.kids v) => sList n.kids (fun x _ => spAll x) hf ⟨#[]⟩ v W0 (W0.alloc (.cells #[.slice none 0 0, .int .i64 0, .string ⟨#[]⟩] 39)) W0.heap.size [] (.slice none 0 0) hr' (bal (brf W0) _) (Nat.le_refl _) (Po_start W0 39) (by rw [List.nil_append]; show sizeT (joinT [] _) ≤ _; rw [← hj]; omega))
 have e0 : ∀ (pb : Nat) (ov : Value) (W : World), Po pb ([] ++ joinT (L ⟨#[]⟩) (n.kids.map tk)) ov W → Po pb (tk n) ov W := fun pb ov W h => by rw [List.nil_append] at h; rw [hj]; exact h
 have HR := h_ hr
 obtain ⟨a0, c0, rfl⟩ := RdK_slice hr
 have z2 : (w.alloc (Obj.cells #[Value.int IntKind.i64 n.kind, Value.string n.text, Value.slice a0 n.kids.length c0] 30)).cell? ⟨w.heap.size, 2, none⟩ = some (.slice a0 n.kids.length c0) := by rw [World.cell?_alloc_new]; rfl
 have Z2 := h_ z2
 unfold ndV at NO ⊢
 clear hr ht z2 hj hf hs
 generalize n.kind = xk, n.text = xt at *
 generalize hT : tk n = T at *
 go_enter Tryz.func5, Tryz.ntmps5
 go_wp2_with (first
   | (go_at_call 11; refine (u_ LS _ (RdK_later (btr (bal (brf w) _) hb1) (u_ HR))).mono ?_; rintro e w2 ⟨rfl, ov2, hpo2, hpr2⟩; have hq := e0 _ _ _ hpo2; have q1 := hq.c1; have q0 := hq.c0; have HB2 := h_ (btr (bal (brf w) _) (btr hb1 ((bal (brf v1) _).trans ((Po_start v1 39).below hpr2)))))
   | (go_at_call 10; refine (u_ NO _ (RdK_later (bal (brf w) _) (u_ HR))).mono ?_; rintro e v1 ⟨rfl, hb1⟩; have j2 := c_ hb1 (u_ Z2); have j3 := c_ (bal (brf v1) (Obj.cells #[.slice none 0 0, .int .i64 0, .string ⟨#[]⟩] 39)) j2))
 exact bodyPost_ret (v := prV ([], 10)) (by simp [results, Tryz.results5, go_sem, prV]; rfl) rfl ⟨rfl, u_ HB2⟩
theorem sPrNone (n : Nd) (v : Value) (w : World) (ht : n.text.size ≤ maxLen) (hr : RdK w n.kids v) (hok : okN n = true) (hm : tk n = []) :
   CB 5 #[ndV n v] w (prV ([], 0)) := by
 have NO := h_ (fun w' hr' => sNodeOK n v w' ht hr')
 rw [hok] at NO
 obtain ⟨hj, hf, hs⟩ := ok_tk n hok
 have LS := h_ (fun (W0 : World) (hr' : RdK W0 n.kids v) => sList n.kids (fun x _ => spAll x) hf ⟨#[]⟩ v W0 (W0.alloc (.cells #[.slice none 0 0, .int .i64 0, .string ⟨#[]⟩] 39)) W0.heap.size [] (.slice none 0 0) hr' (bal (brf W0) _) (Nat.le_refl _) (Po_start W0 39) (by rw [List.nil_append]; show sizeT (joinT [] _) ≤ _; rw [← hj]; omega))
 have e0 : ∀ (pb : Nat) (ov : Value) (W : World), Po pb ([] ++ joinT (L ⟨#[]⟩) (n.kids.map tk)) ov W → Po pb (tk n) ov W := fun pb ov W h => by rw [List.nil_append] at h; rw [hj]; exact h
 have HR := h_ hr
 obtain ⟨a0, c0, rfl⟩ := RdK_slice hr
 have z2 : (w.alloc (Obj.cells #[Value.int IntKind.i64 n.kind, Value.string n.text, Value.slice a0 n.kids.length c0] 30)).cell? ⟨w.heap.size, 2, none⟩ = some (.slice a0 n.kids.length c0) := by rw [World.cell?_alloc_new]; rfl
 have Z2 := h_ z2
 unfold ndV at NO ⊢
 clear hr ht z2 hj hf hs
 generalize n.kind = xk, n.text = xt at *
 rw [hm] at e0
 go_enter Tryz.func5, Tryz.ntmps5
 go_wp2_with (first
   | (go_at_call 11; refine (u_ LS _ (RdK_later (btr (bal (brf w) _) hb1) (u_ HR))).mono ?_; rintro e w2 ⟨rfl, ov2, hpo2, hpr2⟩; have hq := e0 _ _ _ hpo2; have q1 := hq.c1; have q0 := hq.c0; obtain ⟨a2, m2, n2, hv2⟩ := OB_slice hq.row; have hm2 : m2 = 0 := (by rcases hq.row.2 with ⟨h3, h4⟩ | ⟨g, cap, cur, h3, _⟩ <;> (rw [h3] at hv2; injection hv2 with _ h5 _; exact h5.symm)); subst hm2; have hcv := OB_string hq.row; rw [hv2] at q0 hcv; have HB2 := h_ (btr (bal (brf w) _) (btr hb1 ((bal (brf v1) _).trans ((Po_start v1 39).below hpr2)))))
   | (go_at_call 10; refine (u_ NO _ (RdK_later (bal (brf w) _) (u_ HR))).mono ?_; rintro e v1 ⟨rfl, hb1⟩; have j2 := c_ hb1 (u_ Z2); have j3 := c_ (bal (brf v1) (Obj.cells #[.slice none 0 0, .int .i64 0, .string ⟨#[]⟩] 39)) j2))
 exact bodyPost_ret (v := prV ([], 0)) (by simp [results, Tryz.results5, go_sem, prV]; rfl) rfl ⟨rfl, u_ HB2⟩
theorem OB_sliceL {B : Nat} {v : Value} {l : List UInt8} {W : World} (h : OB B v l W) : ∃ a m c, v = .slice a m c ∧ m = l.length := by
 rcases h.2 with ⟨rfl, hn⟩ | ⟨g, cap, cur, rfl, _⟩
 · exact ⟨none, 0, 0, rfl, hn.symm⟩
 · exact ⟨_, _, _, rfl, rfl⟩
theorem sPrText (n : Nd) (v : Value) (w : World) (ht : n.text.size ≤ maxLen) (hr : RdK w n.kids v) (hok : okN n = true) (hm : ¬ 16384 < (tk n).length) (hne : tk n ≠ []) (hl : (textL (tk n)).length ≤ 65536) :
   CB 5 #[ndV n v] w (prV (textL (tk n), 0)) := by
 have NO := h_ (fun w' hr' => sNodeOK n v w' ht hr')
 rw [hok] at NO
 obtain ⟨hj, hf, hs⟩ := ok_tk n hok
 have hcm : ¬ ((16384 : Int) < ((tk n).length : Nat)) := by omega
 have hcp : (0 : Int) < ((tk n).length : Nat) := by have := List.length_pos_iff.2 hne; omega
 have htx : textL (tk n) = accL (tk n) ++ [10] := if_neg hne
 have hal := accL_len (tk n) hne
 have LS := h_ (fun (W0 : World) (hr' : RdK W0 n.kids v) => sList n.kids (fun x _ => spAll x) hf ⟨#[]⟩ v W0 (W0.alloc (.cells #[.slice none 0 0, .int .i64 0, .string ⟨#[]⟩] 39)) W0.heap.size [] (.slice none 0 0) hr' (bal (brf W0) _) (Nat.le_refl _) (Po_start W0 39) (by rw [List.nil_append]; show sizeT (joinT [] _) ≤ _; rw [← hj]; omega))
 have e0 : ∀ (pb : Nat) (ov : Value) (W : World), Po pb ([] ++ joinT (L ⟨#[]⟩) (n.kids.map tk)) ov W → Po pb (tk n) ov W := fun pb ov W h => by rw [List.nil_append] at h; rw [hj]; exact h
 have HR := h_ hr
 obtain ⟨a0, c0, rfl⟩ := RdK_slice hr
 have z2 : (w.alloc (Obj.cells #[Value.int IntKind.i64 n.kind, Value.string n.text, Value.slice a0 n.kids.length c0] 30)).cell? ⟨w.heap.size, 2, none⟩ = some (.slice a0 n.kids.length c0) := by rw [World.cell?_alloc_new]; rfl
 have Z2 := h_ z2
 unfold ndV at NO ⊢
 clear hr ht z2 hj hf hs
 generalize n.kind = xk, n.text = xt at *
 rw [htx] at hl ⊢
 have hl2 : ¬ ((65536 : Int) < ((accL (tk n) ++ [10]).length : Nat)) := by omega
 have hal2 : (accL (tk n)).length ≤ 65536 := by rw [List.length_append] at hl; omega
 have HL2 := h_ hl2
 clear htx hl hal hne hl2
 generalize hT : tk n = T at *
 generalize hA : accL T = A at *
 go_enter Tryz.func5, Tryz.ntmps5
 go_wp2_with (first
   | (at_builtin; refine listB1 (Z := v1.heap.size + 1) rfl _ _ rfl rfl ((World.ownsRow.alloc hrq _)) _ 10 rfl (by rw [World.cell?_alloc_new]; rfl) (by omega) (by have := hpr2.size; simp at this ⊢; omega) ?_; intro v3 w3 hrow3 hgr3 hk3; have d0 := hgr3.cell (c_ (bal (brf w2) _) q0) (fun e => by have := (World.ownsRow.lt hrq _ e.symm).1; simp at this; omega); have g0 := (World.frozen?_of_block (hgr3.block v1.heap.size (by have := hpr2.size; simp at this ⊢; omega) (fun e => by have := (World.ownsRow.lt hrq _ e.symm).1; omega))).trans (frozen_later (bal (brf w2) _) q0 hqf); have HB3 := h_ (btr (bal (brf w) _) (btr hb1 ((bal (brf v1) _).trans ((Po_start v1 39).below (hpr2.trans (((Pr.ofAlloc v1.heap.size _ w2 _).trans (Pr.ofGrown (pb := v1.heap.size) hgr3 hk3)).set 0 v3)))))); obtain ⟨a3, m3, n3, hv3, hm3⟩ := OB_sliceL hrow3; subst hv3; have hcv := OB_string (ownsRow_setCell_below hrow3 (a := ⟨v1.heap.size, 0, none⟩) (by show v1.heap.size < v1.heap.size + 1; omega) (.slice a3 m3 n3)); have hl3 : ¬ ((65536 : Int) < (m3 : Nat)) := (by have := u_ HL2; rw [hm3]; omega); clear hm3 hrow3 hgr3 hk3)
   | (go_at_call 11; refine (u_ LS _ (RdK_later (btr (bal (brf w) _) hb1) (u_ HR))).mono ?_; rintro e w2 ⟨rfl, ov2, hpo2, hpr2⟩; have hq := e0 _ _ _ hpo2; have q1 := hq.c1; have q0 := hq.c0; have hqf := hq.f0; have hrq := hq.row; rw [hA] at hrq; obtain ⟨a2, m2, n2, hv2⟩ := OB_slice hq.row; subst hv2; have HB2 := h_ (btr (bal (brf w) _) (btr hb1 ((bal (brf v1) _).trans ((Po_start v1 39).below hpr2)))))
   | (go_at_call 10; refine (u_ NO _ (RdK_later (bal (brf w) _) (u_ HR))).mono ?_; rintro e v1 ⟨rfl, hb1⟩; have j2 := c_ hb1 (u_ Z2); have j3 := c_ (bal (brf v1) (Obj.cells #[.slice none 0 0, .int .i64 0, .string ⟨#[]⟩] 39)) j2))
 exact bodyPost_ret (v := prV (A ++ [10], 0)) (by simp [results, Tryz.results5, go_sem, prV]) rfl ⟨rfl, u_ HB3⟩
theorem sPrLong (n : Nd) (v : Value) (w : World) (ht : n.text.size ≤ maxLen) (hr : RdK w n.kids v) (hok : okN n = true) (hm : ¬ 16384 < (tk n).length) (hne : tk n ≠ []) (hl : 65536 < (textL (tk n)).length) :
   CB 5 #[ndV n v] w (prV ([], 2)) := by
 have NO := h_ (fun w' hr' => sNodeOK n v w' ht hr')
 rw [hok] at NO
 obtain ⟨hj, hf, hs⟩ := ok_tk n hok
 have hcm : ¬ ((16384 : Int) < ((tk n).length : Nat)) := by omega
 have hcp : (0 : Int) < ((tk n).length : Nat) := by have := List.length_pos_iff.2 hne; omega
 have htx : textL (tk n) = accL (tk n) ++ [10] := if_neg hne
 have hal := accL_len (tk n) hne
 have hal2 : (accL (tk n)).length ≤ 9011200 := by omega
 have LS := h_ (fun (W0 : World) (hr' : RdK W0 n.kids v) => sList n.kids (fun x _ => spAll x) hf ⟨#[]⟩ v W0 (W0.alloc (.cells #[.slice none 0 0, .int .i64 0, .string ⟨#[]⟩] 39)) W0.heap.size [] (.slice none 0 0) hr' (bal (brf W0) _) (Nat.le_refl _) (Po_start W0 39) (by rw [List.nil_append]; show sizeT (joinT [] _) ≤ _; rw [← hj]; omega))
 have e0 : ∀ (pb : Nat) (ov : Value) (W : World), Po pb ([] ++ joinT (L ⟨#[]⟩) (n.kids.map tk)) ov W → Po pb (tk n) ov W := fun pb ov W h => by rw [List.nil_append] at h; rw [hj]; exact h
 have HR := h_ hr
 obtain ⟨a0, c0, rfl⟩ := RdK_slice hr
 have z2 : (w.alloc (Obj.cells #[Value.int IntKind.i64 n.kind, Value.string n.text, Value.slice a0 n.kids.length c0] 30)).cell? ⟨w.heap.size, 2, none⟩ = some (.slice a0 n.kids.length c0) := by rw [World.cell?_alloc_new]; rfl
 have Z2 := h_ z2
 unfold ndV at NO ⊢
 clear hr ht z2 hj hf hs
 generalize n.kind = xk, n.text = xt at *
 rw [htx] at hl
 have hl2 : (65536 : Int) < ((accL (tk n) ++ [10]).length : Nat) := by omega
 have HL2 := h_ hl2
 clear htx hl hal hne hl2
 generalize hT : tk n = T at *
 generalize hA : accL T = A at *
 go_enter Tryz.func5, Tryz.ntmps5
 go_wp2_with (first
   | (at_builtin; refine listB1 (Z := v1.heap.size + 1) rfl _ _ rfl rfl ((World.ownsRow.alloc hrq _)) _ 10 rfl (by rw [World.cell?_alloc_new]; rfl) (by omega) (by have := hpr2.size; simp at this ⊢; omega) ?_; intro v3 w3 hrow3 hgr3 hk3; have d0 := hgr3.cell (c_ (bal (brf w2) _) q0) (fun e => by have := (World.ownsRow.lt hrq _ e.symm).1; simp at this; omega); have g0 := (World.frozen?_of_block (hgr3.block v1.heap.size (by have := hpr2.size; simp at this ⊢; omega) (fun e => by have := (World.ownsRow.lt hrq _ e.symm).1; omega))).trans (frozen_later (bal (brf w2) _) q0 hqf); have HB3 := h_ (btr (bal (brf w) _) (btr hb1 ((bal (brf v1) _).trans ((Po_start v1 39).below (hpr2.trans (((Pr.ofAlloc v1.heap.size _ w2 _).trans (Pr.ofGrown (pb := v1.heap.size) hgr3 hk3)).set 0 v3)))))); obtain ⟨a3, m3, n3, hv3, hm3⟩ := OB_sliceL hrow3; subst hv3; have hcv := OB_string (ownsRow_setCell_below hrow3 (a := ⟨v1.heap.size, 0, none⟩) (by show v1.heap.size < v1.heap.size + 1; omega) (.slice a3 m3 n3)); have hl3 : (65536 : Int) < (m3 : Nat) := (by have := u_ HL2; rw [hm3]; omega); clear hm3 hrow3 hgr3 hk3)
   | (go_at_call 11; refine (u_ LS _ (RdK_later (btr (bal (brf w) _) hb1) (u_ HR))).mono ?_; rintro e w2 ⟨rfl, ov2, hpo2, hpr2⟩; have hq := e0 _ _ _ hpo2; have q1 := hq.c1; have q0 := hq.c0; have hqf := hq.f0; have hrq := hq.row; rw [hA] at hrq; obtain ⟨a2, m2, n2, hv2⟩ := OB_slice hq.row; subst hv2; have HB2 := h_ (btr (bal (brf w) _) (btr hb1 ((bal (brf v1) _).trans ((Po_start v1 39).below hpr2)))))
   | (go_at_call 10; refine (u_ NO _ (RdK_later (bal (brf w) _) (u_ HR))).mono ?_; rintro e v1 ⟨rfl, hb1⟩; have j2 := c_ hb1 (u_ Z2); have j3 := c_ (bal (brf v1) (Obj.cells #[.slice none 0 0, .int .i64 0, .string ⟨#[]⟩] 39)) j2))
 exact bodyPost_ret (v := prV ([], 2)) (by simp [results, Tryz.results5, go_sem, prV]; rfl) rfl ⟨rfl, u_ HB3⟩
theorem sPrint (n : Nd) (v : Value) (w : World) (ht : n.text.size ≤ maxLen) (hr : RdK w n.kids v) :
   CB 5 #[ndV n v] w (prV (prR n)) := by
 unfold prR
 cases hok : okN n with
 | false => rw [if_pos rfl]; exact sPrBad n v w ht hr hok
 | true =>
   rw [if_neg (by decide)]
   by_cases hm : 16384 < (tk n).length
   · rw [if_pos hm]; exact sPrMany n v w ht hr hok hm
   · rw [if_neg hm]
     by_cases hne : tk n = []
     · have e : textL (tk n) = [] := if_pos hne
       rw [e, if_neg (by decide)]
       exact sPrNone n v w ht hr hok hne
     · by_cases hl : 65536 < (textL (tk n)).length
       · rw [if_pos hl]; exact sPrLong n v w ht hr hok hm hne hl
       · rw [if_neg hl]; exact sPrText n v w ht hr hok hm hne (by omega)
theorem Pi.get {pb : Nat} {T : List Tok} {v : Value} {W : World} (h : Pi pb T v W) : ∃ a c, v = .slice a T.length c ∧ T.length ≤ maxLen ∧ ∀ j t, T[j]? = some t → ∃ g, a = some ⟨g, 0, none⟩ ∧ g < W.heap.size ∧ W.cell? ⟨g, j, none⟩ = some (tv t) := by
 rcases h.row.2 with ⟨rfl, hn⟩ | ⟨g, cap, cur, rfl, _, hg, hnc, hcm, hcs, htake⟩
 · have hT : T = [] := List.length_eq_zero_iff.1 hn
   subst hT
   exact ⟨none, 0, rfl, by simp, fun j t ht => by simp at ht⟩
 · refine ⟨_, cap, rfl, by omega, fun j t ht => ⟨g, rfl, ?_, ?_⟩⟩
   · rcases Nat.lt_or_ge g W.heap.size with h' | h'
     · exact h'
     · rw [Array.getElem?_eq_none h'] at hg; cases hg
   · have hj : j < T.length := (List.getElem?_eq_some_iff.1 ht).1
     have h1 : cur.toList[j]? = some (tv t) := by
       have h2 : (cur.toList.take (T.length * 1))[j]? = some (tv t) := by rw [htake, List.getElem?_map, ht]; rfl
       rwa [List.getElem?_take_of_lt (by omega)] at h2
     simp only [World.cell?, hg]
     simpa using h1
theorem sizeT_next {T : List Tok} {j : Nat} {t : Tok} (h : T[j]? = some t) : sizeT (T.take (j + 1)) = sizeT (T.take j) + (t.length + 1) := by
 rw [List.take_add_one, h, sizeT_app]; simp [sizeT]
theorem sizeT_take (T : List Tok) (j : Nat) : sizeT (T.take j) ≤ sizeT T := by
 have := sizeT_app (T.take j) (T.drop j)
 rw [List.take_append_drop] at this
 omega
set_option maxHeartbeats 800000 in
theorem iSize (pb : Nat) (T : List Tok) (ov : Value) (w : World) (hpi : Pi pb T ov w) (hz : sizeT T ≤ 1099511627776) :
   Calls Tryz.prog 15 #[.pointer (some ⟨pb, 0, none⟩)] w fun e w' => e = .returned (.int .i64 (sizeT T : Nat)) ∧ w' = w := by
 obtain ⟨a, c, hv, hn, hc⟩ := hpi.get
 have c0 := hpi.c0
 subst hv
 have HC := h_ hc
 have hl : T.length ≤ 1099511627776 := Nat.le_trans (len_sizeT T) hz
 clear hpi hc hn
 go_enter Tryz.func15, Tryz.ntmps15
 go_wp2
 go_loopw [3, 11] (fun s i wr => ∃ j : Nat, s = .int .i64 (sizeT (T.take j) : Nat) ∧ i = .int .i64 j ∧ j ≤ T.length ∧ wr = w) (fun s i wr => T.length - (intOf i).toNat)
 case atStart => exact ⟨0, rfl, rfl, Nat.zero_le _, rfl⟩
 case round =>
   obtain ⟨j, rfl, rfl, hj, rfl⟩ := hrel
   by_cases hjn : j < T.length
   · have hx : T[j]? = some T[j] := List.getElem?_eq_getElem hjn
     generalize T[j] = t at hx
     obtain ⟨g, hg, _, hcell⟩ := u_ HC j t hx
     subst hg
     have hnx := sizeT_next hx
     have hle := sizeT_take T (j + 1)
     have hs : (S t).size = t.length := S_size t
     unfold tv at hcell
     generalize hS1 : sizeT (T.take (j + 1)) = s1 at *
     replace hS1 := h_ hS1
     generalize sizeT (T.take j) = s0 at *
     generalize S t = st at *
     generalize t.length = tl at *
     go_wp2
     exact ⟨⟨j + 1, by rw [u_ hS1, hnx]; go_num, by go_num, by omega, trivial⟩, by simp [intOf]; omega⟩
   · obtain rfl : j = T.length := by omega
     rw [List.take_length]
     go_wp2
     exact bodyPost_ret (v := .int .i64 (sizeT T : Nat)) (by simp [results, Tryz.results15, go_sem]) rfl ⟨rfl, rfl⟩
end Go.Proofs.YtddlokkejglckaaGreatDoor
