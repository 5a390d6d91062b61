/- What the specification's l03Is answers to the letters P and F. -/
import Derived.Test.YtlcpmbdckmdabaaGreatDoorNGX
namespace Go.Proofs.YtlcpmbdckmdabaaGreatDoor
open Go.RowKit Nt
set_option linter.unusedVariables false
set_option maxRecDepth 100000
set_option maxHeartbeats 800000 in
theorem isPoL (n : Nd) (ih2 : ∀ x ∈ n.kids, ∀ y ∈ x.kids, IsC y) (v : Value) (w : World) (ht : n.text.size ≤ maxLen) (hr : RdK w n.kids v) (hk : n.kind = 5) (hA : (n.text.size == 0) = true) :
    Calls Tryz.prog 17 #[ndV n v, .int .u8 80] w fun e w' => e = .returned (.bool (n.kids.all (pB2 6 7 [116]))) ∧ Below w.heap.size w w' := by
  have HP := hide ih2
  have hn : n.text.toList.isEmpty = true := by rw [toListL, ← L_emp]; exact hA
  clear ih2 hA ht
  unfold ndV
  rw [hk]
  have hlen := len_ok hr
  obtain ⟨a0, c0, hv0⟩ := RdK_slice hr
  subst hv0
  have z1 : (w.alloc (Obj.cells #[Value.int IntKind.i64 5, Value.string n.text, Value.slice a0 n.kids.length c0] 29)).cell? ⟨w.heap.size, 2, none⟩ = some (.slice a0 n.kids.length c0) := by rw [World.cell?_alloc_new]; rfl
  have HB1 : Hid (Below w.heap.size w (w.alloc (Obj.cells #[Value.int IntKind.i64 5, Value.string n.text, Value.slice a0 n.kids.length c0] 29))) := hide (bal (brf w) _)
  generalize n.text = xt at *
  go_enter Tryz.func17, Tryz.ntmps17
  go_wp2
  generalize hw1 : w.alloc (Obj.cells #[Value.int IntKind.i64 5, Value.string xt, Value.slice a0 n.kids.length c0] 29) = w1 at *
  go_loopw [7] (fun i wr => ∃ j : Nat, i = .int .i64 j ∧ j ≤ n.kids.length ∧ Below w1.heap.size w1 wr ∧ (n.kids.drop j).all (pB2 6 7 [116]) = n.kids.all (pB2 6 7 [116])) (fun i wr => n.kids.length - (intOf i).toNat)
  case atStart => exact ⟨0, rfl, Nat.zero_le _, brf _, rfl⟩
  case round =>
    obtain ⟨j, rfl, hj, hb, hall⟩ := hrel
    have z2 := cell_later hb z1
    have hbw := below_step (unhide HB1) hb
    have HB := hide hbw
    have HA := hide hall
    have HB0 := hide hb
    by_cases hjn : j < n.kids.length
    · have hx : n.kids[j]? = some n.kids[j] := List.getElem?_eq_getElem hjn
      have hdr := List.drop_eq_getElem_cons hjn
      generalize n.kids[j] = x at hx hdr
      rcases RdK_cases hr with ⟨h0, _⟩ | ⟨b, o, c', vs, hvv, hn', hcs⟩
      · rw [h0] at hjn; simp at hjn
      obtain ⟨k1, k2, k3, hts, hkr⟩ := hcs j x hx
      have k1' := cell_later hbw k1
      have k2' := cell_later hbw k2
      have k3' := cell_later hbw k3
      have FR := hide (fun w' => sFree x.text w' hts)
      have KX := hide (fun (wy : World) (hy : Below wr.heap.size wr wy) => kidsN x (unhide HP x (List.mem_of_getElem? hx)) (vs j) wy ⟨#[116]⟩ (by decide) (by decide) (RdK_later hy (RdK_later hbw hkr)))
      have hk1 : ltr ⟨#[116]⟩ = [116] := by decide
      rw [hk1] at KX
      unfold ndV at KX
      obtain ⟨ha0, hc0⟩ : a0 = some ⟨b, o, none⟩ ∧ c0 = c' := by injection hvv with h1 h2 h3; exact ⟨h1, h3⟩
      subst ha0 hc0
      obtain ⟨a', c'', hv'⟩ := RdK_slice hkr
      rw [hv'] at k3' KX
      rw [hdr, List.all_cons] at HA
      have HPx : Hid ((pB2 6 7 [116]) x = (((x.kind == 6) || (x.kind == 7)) && (freeB x.text && kidsB x.kids [116]))) := hide rfl
      rw [unhide HPx] at HA
      clear hb hbw k1 k2 k3 hkr hcs hvv hr hall hk1 HPx
      by_cases hxk : x.kind = 6 ∨ x.kind = 7
      · rcases hxk with hxk | hxk
        · rw [hxk] at k1' KX HA
          have hkb : ((((6 : Int) == 6)) || (((6 : Int) == 7))) = true := by decide
          rw [hkb, Bool.true_and] at HA
          clear hkb hxk
          cases hF : freeB x.text with
          | false =>
            rw [hF] at FR HA
            rw [Bool.false_and, Bool.false_and] at HA
            clear hF KX
            generalize x.text = yt at *
            go_wp2_with (go_at_call 21; refine (unhide FR _).mono ?_; rintro e w' ⟨rfl, rfl⟩)
            exact bodyPost_ret (v := .bool false) (by simp [results, Tryz.results17, go_sem]) rfl ⟨by rw [← unhide HA], bal (unhide HB) _⟩
          | true =>
            rw [hF] at FR HA
            rw [Bool.true_and] at HA
            clear hF
            cases hK : kidsB x.kids [116] with
            | false =>
              rw [hK] at KX HA
              rw [Bool.false_and] at HA
              clear hK
              generalize x.text = yt at *
              go_wp2_with (first | (go_at_call 21; refine (unhide FR _).mono ?_; rintro e w' ⟨rfl, rfl⟩) | (go_at_call 20; refine (unhide KX _ (by repeat first | exact brf _ | refine bal ?_ _)).mono ?_; rintro e v1 ⟨rfl, hb1⟩))
              exact bodyPost_ret (v := .bool false) (by simp [results, Tryz.results17, go_sem]) rfl ⟨by rw [← unhide HA], btr (bal (unhide HB) _) hb1⟩
            | true =>
              rw [hK] at KX HA
              rw [Bool.true_and] at HA
              clear hK
              generalize x.text = yt at *
              go_wp2_with (first | (go_at_call 21; refine (unhide FR _).mono ?_; rintro e w' ⟨rfl, rfl⟩) | (go_at_call 20; refine (unhide KX _ (by repeat first | exact brf _ | refine bal ?_ _)).mono ?_; rintro e v1 ⟨rfl, hb1⟩))
              exact ⟨⟨j + 1, by go_num, by omega, btr (bal (unhide HB0) _) hb1, unhide HA⟩, by simp [intOf]; omega⟩
        · rw [hxk] at k1' KX HA
          have hkb : ((((7 : Int) == 6)) || (((7 : Int) == 7))) = true := by decide
          rw [hkb, Bool.true_and] at HA
          clear hkb hxk
          cases hF : freeB x.text with
          | false =>
            rw [hF] at FR HA
            rw [Bool.false_and, Bool.false_and] at HA
            clear hF KX
            generalize x.text = yt at *
            go_wp2_with (go_at_call 21; refine (unhide FR _).mono ?_; rintro e w' ⟨rfl, rfl⟩)
            exact bodyPost_ret (v := .bool false) (by simp [results, Tryz.results17, go_sem]) rfl ⟨by rw [← unhide HA], bal (unhide HB) _⟩
          | true =>
            rw [hF] at FR HA
            rw [Bool.true_and] at HA
            clear hF
            cases hK : kidsB x.kids [116] with
            | false =>
              rw [hK] at KX HA
              rw [Bool.false_and] at HA
              clear hK
              generalize x.text = yt at *
              go_wp2_with (first | (go_at_call 21; refine (unhide FR _).mono ?_; rintro e w' ⟨rfl, rfl⟩) | (go_at_call 20; refine (unhide KX _ (by repeat first | exact brf _ | refine bal ?_ _)).mono ?_; rintro e v1 ⟨rfl, hb1⟩))
              exact bodyPost_ret (v := .bool false) (by simp [results, Tryz.results17, go_sem]) rfl ⟨by rw [← unhide HA], btr (bal (unhide HB) _) hb1⟩
            | true =>
              rw [hK] at KX HA
              rw [Bool.true_and] at HA
              clear hK
              generalize x.text = yt at *
              go_wp2_with (first | (go_at_call 21; refine (unhide FR _).mono ?_; rintro e w' ⟨rfl, rfl⟩) | (go_at_call 20; refine (unhide KX _ (by repeat first | exact brf _ | refine bal ?_ _)).mono ?_; rintro e v1 ⟨rfl, hb1⟩))
              exact ⟨⟨j + 1, by go_num, by omega, btr (bal (unhide HB0) _) hb1, unhide HA⟩, by simp [intOf]; omega⟩
      · have a6 : (x.kind == 6) = false := beq_eq_false_iff_ne.2 (fun h => hxk (by simp [h])); have a7 : (x.kind == 7) = false := beq_eq_false_iff_ne.2 (fun h => hxk (by simp [h])); have b6 : (x.kind != 6) = true := (by rw [bne, a6]; rfl); have b7 : (x.kind != 7) = true := (by rw [bne, a7]; rfl)
        rw [a6, a7] at HA
        have hkb : (false || false) = false := by decide
        rw [hkb] at HA
        rw [Bool.false_and, Bool.false_and] at HA
        clear hxk KX FR hkb
        generalize x.kind = yk at *
        generalize x.text = yt at *
        go_wp2
        exact bodyPost_ret (v := .bool false) (by simp [results, Tryz.results17, go_sem]) rfl ⟨by rw [← unhide HA], bal (unhide HB) _⟩
    · rw [List.drop_of_length_le (by omega)] at HA
      clear hb hbw hr hall
      go_wp2
      exact bodyPost_ret (v := .bool true) (by simp [results, Tryz.results17, go_sem]) rfl ⟨by rw [← unhide HA]; rfl, unhide HB⟩
set_option maxHeartbeats 400000 in
theorem isPok (n : Nd) (v : Value) (w : World) (ht : n.text.size ≤ maxLen) (hr : RdK w n.kids v) (h5 : n.kind ≠ 5) :
    Calls Tryz.prog 17 #[ndV n v, .int .u8 80] w fun e w' => e = .returned (.bool false) ∧ Below w.heap.size w w' := by
  have b5 : (n.kind != 5) = true := by rw [bne, beq_eq_false_iff_ne.2 h5]; rfl
  have HR := hide hr
  have hl := len_ok hr
  obtain ⟨a0, c0, hv0⟩ := RdK_slice hr
  subst hv0
  unfold ndV
  clear hr ht
  have a5 : (n.kind == 5) = false := beq_eq_false_iff_ne.2 h5
  clear h5
  generalize n.kind = xk at *
  generalize n.text = xt at *
  go_enter Tryz.func17, Tryz.ntmps17
  go_wp2
  go_ret
  exact ⟨rfl, bal (brf w) _⟩
set_option maxHeartbeats 400000 in
theorem isPon (n : Nd) (v : Value) (w : World) (ht : n.text.size ≤ maxLen) (hr : RdK w n.kids v) (hk : n.kind = 5) (hA : (n.text.size == 0) = false) :
    Calls Tryz.prog 17 #[ndV n v, .int .u8 80] w fun e w' => e = .returned (.bool false) ∧ Below w.heap.size w w' := by
  have hn : n.text.toList.isEmpty = false := by rw [toListL, ← L_emp]; exact hA
  have HR := hide hr
  have hl := len_ok hr
  obtain ⟨a0, c0, hv0⟩ := RdK_slice hr
  subst hv0
  unfold ndV
  rw [hk]
  clear hr ht
  generalize n.text = xt at *
  go_enter Tryz.func17, Tryz.ntmps17
  go_wp2
  go_ret
  exact ⟨rfl, bal (brf w) _⟩
set_option maxHeartbeats 800000 in
theorem isFoL (n : Nd) (ih2 : ∀ x ∈ n.kids, ∀ y ∈ x.kids, IsC y) (v : Value) (w : World) (ht : n.text.size ≤ maxLen) (hr : RdK w n.kids v) (hk : n.kind = 5) (hA : (n.text.size == 0) = true) :
    Calls Tryz.prog 17 #[ndV n v, .int .u8 70] w fun e w' => e = .returned (.bool (n.kids.all (pB 6 [116]))) ∧ Below w.heap.size w w' := by
  have HP := hide ih2
  have hn : n.text.toList.isEmpty = true := by rw [toListL, ← L_emp]; exact hA
  clear ih2 hA ht
  unfold ndV
  rw [hk]
  have hlen := len_ok hr
  obtain ⟨a0, c0, hv0⟩ := RdK_slice hr
  subst hv0
  have z1 : (w.alloc (Obj.cells #[Value.int IntKind.i64 5, Value.string n.text, Value.slice a0 n.kids.length c0] 29)).cell? ⟨w.heap.size, 2, none⟩ = some (.slice a0 n.kids.length c0) := by rw [World.cell?_alloc_new]; rfl
  have HB1 : Hid (Below w.heap.size w (w.alloc (Obj.cells #[Value.int IntKind.i64 5, Value.string n.text, Value.slice a0 n.kids.length c0] 29))) := hide (bal (brf w) _)
  generalize n.text = xt at *
  go_enter Tryz.func17, Tryz.ntmps17
  go_wp2
  generalize hw1 : w.alloc (Obj.cells #[Value.int IntKind.i64 5, Value.string xt, Value.slice a0 n.kids.length c0] 29) = w1 at *
  go_loopw [7] (fun i wr => ∃ j : Nat, i = .int .i64 j ∧ j ≤ n.kids.length ∧ Below w1.heap.size w1 wr ∧ (n.kids.drop j).all (pB 6 [116]) = n.kids.all (pB 6 [116])) (fun i wr => n.kids.length - (intOf i).toNat)
  case atStart => exact ⟨0, rfl, Nat.zero_le _, brf _, rfl⟩
  case round =>
    obtain ⟨j, rfl, hj, hb, hall⟩ := hrel
    have z2 := cell_later hb z1
    have hbw := below_step (unhide HB1) hb
    have HB := hide hbw
    have HA := hide hall
    have HB0 := hide hb
    by_cases hjn : j < n.kids.length
    · have hx : n.kids[j]? = some n.kids[j] := List.getElem?_eq_getElem hjn
      have hdr := List.drop_eq_getElem_cons hjn
      generalize n.kids[j] = x at hx hdr
      rcases RdK_cases hr with ⟨h0, _⟩ | ⟨b, o, c', vs, hvv, hn', hcs⟩
      · rw [h0] at hjn; simp at hjn
      obtain ⟨k1, k2, k3, hts, hkr⟩ := hcs j x hx
      have k1' := cell_later hbw k1
      have k2' := cell_later hbw k2
      have k3' := cell_later hbw k3
      have FR := hide (fun w' => sFree x.text w' hts)
      have KX := hide (fun (wy : World) (hy : Below wr.heap.size wr wy) => kidsN x (unhide HP x (List.mem_of_getElem? hx)) (vs j) wy ⟨#[116]⟩ (by decide) (by decide) (RdK_later hy (RdK_later hbw hkr)))
      have hk1 : ltr ⟨#[116]⟩ = [116] := by decide
      rw [hk1] at KX
      unfold ndV at KX
      obtain ⟨ha0, hc0⟩ : a0 = some ⟨b, o, none⟩ ∧ c0 = c' := by injection hvv with h1 h2 h3; exact ⟨h1, h3⟩
      subst ha0 hc0
      obtain ⟨a', c'', hv'⟩ := RdK_slice hkr
      rw [hv'] at k3' KX
      rw [hdr, List.all_cons] at HA
      have HPx : Hid ((pB 6 [116]) x = ((x.kind == 6) && (freeB x.text && kidsB x.kids [116]))) := hide rfl
      rw [unhide HPx] at HA
      clear hb hbw k1 k2 k3 hkr hcs hvv hr hall hk1 HPx
      by_cases hxk : x.kind = 6
      · rw [hxk] at k1' KX HA
        have hkb : ((((6 : Int) == 6))) = true := by decide
        rw [hkb, Bool.true_and] at HA
        clear hkb hxk
        cases hF : freeB x.text with
        | false =>
          rw [hF] at FR HA
          rw [Bool.false_and, Bool.false_and] at HA
          clear hF KX
          generalize x.text = yt at *
          go_wp2_with (go_at_call 21; refine (unhide FR _).mono ?_; rintro e w' ⟨rfl, rfl⟩)
          exact bodyPost_ret (v := .bool false) (by simp [results, Tryz.results17, go_sem]) rfl ⟨by rw [← unhide HA], bal (unhide HB) _⟩
        | true =>
          rw [hF] at FR HA
          rw [Bool.true_and] at HA
          clear hF
          cases hK : kidsB x.kids [116] with
          | false =>
            rw [hK] at KX HA
            rw [Bool.false_and] at HA
            clear hK
            generalize x.text = yt at *
            go_wp2_with (first | (go_at_call 21; refine (unhide FR _).mono ?_; rintro e w' ⟨rfl, rfl⟩) | (go_at_call 20; refine (unhide KX _ (by repeat first | exact brf _ | refine bal ?_ _)).mono ?_; rintro e v1 ⟨rfl, hb1⟩))
            exact bodyPost_ret (v := .bool false) (by simp [results, Tryz.results17, go_sem]) rfl ⟨by rw [← unhide HA], btr (bal (unhide HB) _) hb1⟩
          | true =>
            rw [hK] at KX HA
            rw [Bool.true_and] at HA
            clear hK
            generalize x.text = yt at *
            go_wp2_with (first | (go_at_call 21; refine (unhide FR _).mono ?_; rintro e w' ⟨rfl, rfl⟩) | (go_at_call 20; refine (unhide KX _ (by repeat first | exact brf _ | refine bal ?_ _)).mono ?_; rintro e v1 ⟨rfl, hb1⟩))
            exact ⟨⟨j + 1, by go_num, by omega, btr (bal (unhide HB0) _) hb1, unhide HA⟩, by simp [intOf]; omega⟩
      · have a6 : (x.kind == 6) = false := beq_eq_false_iff_ne.2 (fun h => hxk (by simp [h])); have b6 : (x.kind != 6) = true := (by rw [bne, a6]; rfl)
        rw [a6] at HA
        have hkb : (false) = false := by decide
        rw [Bool.false_and, Bool.false_and] at HA
        clear hxk KX FR hkb
        generalize x.kind = yk at *
        generalize x.text = yt at *
        go_wp2
        exact bodyPost_ret (v := .bool false) (by simp [results, Tryz.results17, go_sem]) rfl ⟨by rw [← unhide HA], bal (unhide HB) _⟩
    · rw [List.drop_of_length_le (by omega)] at HA
      clear hb hbw hr hall
      go_wp2
      exact bodyPost_ret (v := .bool true) (by simp [results, Tryz.results17, go_sem]) rfl ⟨by rw [← unhide HA]; rfl, unhide HB⟩
set_option maxHeartbeats 400000 in
theorem isFok (n : Nd) (v : Value) (w : World) (ht : n.text.size ≤ maxLen) (hr : RdK w n.kids v) (h5 : n.kind ≠ 5) :
    Calls Tryz.prog 17 #[ndV n v, .int .u8 70] w fun e w' => e = .returned (.bool false) ∧ Below w.heap.size w w' := by
  have b5 : (n.kind != 5) = true := by rw [bne, beq_eq_false_iff_ne.2 h5]; rfl
  have HR := hide hr
  have hl := len_ok hr
  obtain ⟨a0, c0, hv0⟩ := RdK_slice hr
  subst hv0
  unfold ndV
  clear hr ht
  have a5 : (n.kind == 5) = false := beq_eq_false_iff_ne.2 h5
  clear h5
  generalize n.kind = xk at *
  generalize n.text = xt at *
  go_enter Tryz.func17, Tryz.ntmps17
  go_wp2
  go_ret
  exact ⟨rfl, bal (brf w) _⟩
set_option maxHeartbeats 400000 in
theorem isFon (n : Nd) (v : Value) (w : World) (ht : n.text.size ≤ maxLen) (hr : RdK w n.kids v) (hk : n.kind = 5) (hA : (n.text.size == 0) = false) :
    Calls Tryz.prog 17 #[ndV n v, .int .u8 70] w fun e w' => e = .returned (.bool false) ∧ Below w.heap.size w w' := by
  have hn : n.text.toList.isEmpty = false := by rw [toListL, ← L_emp]; exact hA
  have HR := hide hr
  have hl := len_ok hr
  obtain ⟨a0, c0, hv0⟩ := RdK_slice hr
  subst hv0
  unfold ndV
  rw [hk]
  clear hr ht
  generalize n.text = xt at *
  go_enter Tryz.func17, Tryz.ntmps17
  go_wp2
  go_ret
  exact ⟨rfl, bal (brf w) _⟩
theorem isPo (n : Nd) (v : Value) (w : World) (ht : n.text.size ≤ maxLen) (hr : RdK w n.kids v) (ih2 : ∀ x ∈ n.kids, ∀ y ∈ x.kids, IsC y) :
    Calls Tryz.prog 17 #[ndV n v, .int .u8 80] w fun e w' => e = .returned (.bool (okIs 80 n)) ∧ Below w.heap.size w w' := by
  by_cases h5 : n.kind = 5
  · have e : okIs 80 n = ((n.text.size == 0) && n.kids.all (pB2 6 7 [116])) := ok_of (by decide) n 5 h5 (by decide) rfl (by
      show (allK (2 ^ 6 + 2 ^ 7) n.kids && fmL n.kids) = _
      rw [all_fm]; exact congrArg n.kids.all (funext pB_67))
    rw [e]
    cases hA : (n.text.size == 0) with
    | false => exact isPon n v w ht hr h5 hA
    | true => rw [Bool.true_and]; exact isPoL n ih2 v w ht hr h5 hA
  · have e : okIs 80 n = false := ok_no n (by show hasB (2 ^ 5) n.kind = false; rw [has_one 5 (by decide) (by decide)]; simp [h5])
    rw [e]; exact isPok n v w ht hr h5
theorem isFo (n : Nd) (v : Value) (w : World) (ht : n.text.size ≤ maxLen) (hr : RdK w n.kids v) (ih2 : ∀ x ∈ n.kids, ∀ y ∈ x.kids, IsC y) :
    Calls Tryz.prog 17 #[ndV n v, .int .u8 70] w fun e w' => e = .returned (.bool (okIs 70 n)) ∧ Below w.heap.size w w' := by
  by_cases h5 : n.kind = 5
  · have e : okIs 70 n = ((n.text.size == 0) && n.kids.all (pB 6 [116])) := by
      rw [okF, has_one 5 (by decide) (by decide), h5, fm_of n 5 h5 (A := (n.text.size == 0)) (B := allK (2 ^ 6 + 2 ^ 7) n.kids && fmL n.kids) rfl rfl]
      have e2 : (allK (2 ^ 6) n.kids && fmL n.kids) = n.kids.all (pB 6 [116]) := by rw [all_fm]; exact congrArg n.kids.all (funext pB_6)
      rw [← e2]
      have e3 : allK (2 ^ 6) n.kids = true → allK (2 ^ 6 + 2 ^ 7) n.kids = true := by
        intro h
        unfold allK at h ⊢
        rw [List.all_eq_true] at h ⊢
        intro x hx
        have := h x hx
        rw [has_one 6 (by decide) (by decide)] at this
        rw [hasB_of (2 ^ 6 + 2 ^ 7) [6, 7] (by decide) (by decide)]
        have h6 : x.kind = 6 := by simpa using this
        rw [h6]; rfl
      cases h1 : allK (2 ^ 6) n.kids with
      | false => cases (n.text.size == 0) <;> cases allK (2 ^ 6 + 2 ^ 7) n.kids <;> cases fmL n.kids <;> rfl
      | true => rw [e3 h1]; cases (n.text.size == 0) <;> cases fmL n.kids <;> rfl
    rw [e]
    cases hA : (n.text.size == 0) with
    | false => exact isFon n v w ht hr h5 hA
    | true => rw [Bool.true_and]; exact isFoL n ih2 v w ht hr h5 hA
  · have e : okIs 70 n = false := ok_no n (by show hasB (2 ^ 5) n.kind = false; rw [has_one 5 (by decide) (by decide)]; simp [h5])
    rw [e]; exact isFok n v w ht hr h5
end Go.Proofs.YtlcpmbdckmdabaaGreatDoor
