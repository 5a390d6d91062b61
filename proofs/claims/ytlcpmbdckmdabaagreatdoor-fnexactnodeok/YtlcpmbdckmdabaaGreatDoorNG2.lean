/- What the specification's l03Is answers to the letters p and c. -/
import Derived.Test.YtlcpmbdckmdabaaGreatDoorNGX
namespace Go.Proofs.YtlcpmbdckmdabaaGreatDoor
open Go.RowKit Nt
set_option linter.unusedVariables false
set_option maxRecDepth 100000
set_option maxHeartbeats 800000 in
theorem isPaL (n : Nd) (ih2 : ∀ x ∈ n.kids, ∀ y ∈ x.kids, IsC y) (v : Value) (w : World) (ht : n.text.size ≤ maxLen) (hr : RdK w n.kids v) (hk : n.kind = 3) (hA : (n.text.size == 0) = true) :
    Calls Tryz.prog 17 #[ndV n v, .int .u8 112] w fun e w' => e = .returned (.bool (n.kids.all (pB 4 [101]))) ∧ Below w.heap.size w w' := by
  have HP := hide ih2
  have hn : n.text.toList.isEmpty = true := by rw [toListL, ← L_emp]; exact hA
  clear ih2 hA ht
  unfold ndV
  rw [hk]
  have hlen := len_ok hr
  obtain ⟨a0, c0, hv0⟩ := RdK_slice hr
  subst hv0
  have z1 : (w.alloc (Obj.cells #[Value.int IntKind.i64 3, Value.string n.text, Value.slice a0 n.kids.length c0] 29)).cell? ⟨w.heap.size, 2, none⟩ = some (.slice a0 n.kids.length c0) := by rw [World.cell?_alloc_new]; rfl
  have HB1 : Hid (Below w.heap.size w (w.alloc (Obj.cells #[Value.int IntKind.i64 3, Value.string n.text, Value.slice a0 n.kids.length c0] 29))) := hide (bal (brf w) _)
  generalize n.text = xt at *
  go_enter Tryz.func17, Tryz.ntmps17
  go_wp2
  generalize hw1 : w.alloc (Obj.cells #[Value.int IntKind.i64 3, Value.string xt, Value.slice a0 n.kids.length c0] 29) = w1 at *
  go_loopw [6] (fun i wr => ∃ j : Nat, i = .int .i64 j ∧ j ≤ n.kids.length ∧ Below w1.heap.size w1 wr ∧ (n.kids.drop j).all (pB 4 [101]) = n.kids.all (pB 4 [101])) (fun i wr => n.kids.length - (intOf i).toNat)
  case atStart => exact ⟨0, rfl, Nat.zero_le _, brf _, rfl⟩
  case round =>
    obtain ⟨j, rfl, hj, hb, hall⟩ := hrel
    have z2 := cell_later hb z1
    have hbw := below_step (unhide HB1) hb
    have HB := hide hbw
    have HA := hide hall
    have HB0 := hide hb
    by_cases hjn : j < n.kids.length
    · have hx : n.kids[j]? = some n.kids[j] := List.getElem?_eq_getElem hjn
      have hdr := List.drop_eq_getElem_cons hjn
      generalize n.kids[j] = x at hx hdr
      rcases RdK_cases hr with ⟨h0, _⟩ | ⟨b, o, c', vs, hvv, hn', hcs⟩
      · rw [h0] at hjn; simp at hjn
      obtain ⟨k1, k2, k3, hts, hkr⟩ := hcs j x hx
      have k1' := cell_later hbw k1
      have k2' := cell_later hbw k2
      have k3' := cell_later hbw k3
      have FR := hide (fun w' => sFree x.text w' hts)
      have KX := hide (fun (wy : World) (hy : Below wr.heap.size wr wy) => kidsN x (unhide HP x (List.mem_of_getElem? hx)) (vs j) wy ⟨#[101]⟩ (by decide) (by decide) (RdK_later hy (RdK_later hbw hkr)))
      have hk1 : ltr ⟨#[101]⟩ = [101] := by decide
      rw [hk1] at KX
      unfold ndV at KX
      obtain ⟨ha0, hc0⟩ : a0 = some ⟨b, o, none⟩ ∧ c0 = c' := by injection hvv with h1 h2 h3; exact ⟨h1, h3⟩
      subst ha0 hc0
      obtain ⟨a', c'', hv'⟩ := RdK_slice hkr
      rw [hv'] at k3' KX
      rw [hdr, List.all_cons] at HA
      have HPx : Hid ((pB 4 [101]) x = ((x.kind == 4) && (freeB x.text && kidsB x.kids [101]))) := hide rfl
      rw [unhide HPx] at HA
      clear hb hbw k1 k2 k3 hkr hcs hvv hr hall hk1 HPx
      by_cases hxk : x.kind = 4
      · rw [hxk] at k1' KX HA
        have hkb : ((((4 : Int) == 4))) = true := by decide
        rw [hkb, Bool.true_and] at HA
        clear hkb hxk
        cases hF : freeB x.text with
        | false =>
          rw [hF] at FR HA
          rw [Bool.false_and, Bool.false_and] at HA
          clear hF KX
          generalize x.text = yt at *
          go_wp2_with (go_at_call 21; refine (unhide FR _).mono ?_; rintro e w' ⟨rfl, rfl⟩)
          exact bodyPost_ret (v := .bool false) (by simp [results, Tryz.results17, go_sem]) rfl ⟨by rw [← unhide HA], unhide HB⟩
        | true =>
          rw [hF] at FR HA
          rw [Bool.true_and] at HA
          clear hF
          cases hK : kidsB x.kids [101] with
          | false =>
            rw [hK] at KX HA
            rw [Bool.false_and] at HA
            clear hK
            generalize x.text = yt at *
            go_wp2_with (first | (go_at_call 21; refine (unhide FR _).mono ?_; rintro e w' ⟨rfl, rfl⟩) | (go_at_call 20; refine (unhide KX _ (brf _)).mono ?_; rintro e v1 ⟨rfl, hb1⟩))
            exact bodyPost_ret (v := .bool false) (by simp [results, Tryz.results17, go_sem]) rfl ⟨by rw [← unhide HA], below_step (unhide HB) hb1⟩
          | true =>
            rw [hK] at KX HA
            rw [Bool.true_and] at HA
            clear hK
            generalize x.text = yt at *
            go_wp2_with (first | (go_at_call 21; refine (unhide FR _).mono ?_; rintro e w' ⟨rfl, rfl⟩) | (go_at_call 20; refine (unhide KX _ (brf _)).mono ?_; rintro e v1 ⟨rfl, hb1⟩))
            exact ⟨⟨j + 1, by go_num, by omega, below_step (unhide HB0) hb1, unhide HA⟩, by simp [intOf]; omega⟩
      · have a4 : (x.kind == 4) = false := beq_eq_false_iff_ne.2 (fun h => hxk (by simp [h])); have b4 : (x.kind != 4) = true := (by rw [bne, a4]; rfl)
        rw [a4] at HA
        have hkb : (false) = false := by decide
        rw [Bool.false_and, Bool.false_and] at HA
        clear hxk KX FR hkb
        generalize x.kind = yk at *
        generalize x.text = yt at *
        go_wp2
        exact bodyPost_ret (v := .bool false) (by simp [results, Tryz.results17, go_sem]) rfl ⟨by rw [← unhide HA], unhide HB⟩
    · rw [List.drop_of_length_le (by omega)] at HA
      clear hb hbw hr hall
      go_wp2
      exact bodyPost_ret (v := .bool true) (by simp [results, Tryz.results17, go_sem]) rfl ⟨by rw [← unhide HA]; rfl, unhide HB⟩
set_option maxHeartbeats 400000 in
theorem isPak (n : Nd) (v : Value) (w : World) (ht : n.text.size ≤ maxLen) (hr : RdK w n.kids v) (h3 : n.kind ≠ 3) :
    Calls Tryz.prog 17 #[ndV n v, .int .u8 112] w fun e w' => e = .returned (.bool false) ∧ Below w.heap.size w w' := by
  have b3 : (n.kind != 3) = true := by rw [bne, beq_eq_false_iff_ne.2 h3]; rfl
  have HR := hide hr
  have hl := len_ok hr
  obtain ⟨a0, c0, hv0⟩ := RdK_slice hr
  subst hv0
  unfold ndV
  clear hr ht
  have a3 : (n.kind == 3) = false := beq_eq_false_iff_ne.2 h3
  clear h3
  generalize n.kind = xk at *
  generalize n.text = xt at *
  go_enter Tryz.func17, Tryz.ntmps17
  go_wp2
  go_ret
  exact ⟨rfl, bal (brf w) _⟩
set_option maxHeartbeats 400000 in
theorem isPan (n : Nd) (v : Value) (w : World) (ht : n.text.size ≤ maxLen) (hr : RdK w n.kids v) (hk : n.kind = 3) (hA : (n.text.size == 0) = false) :
    Calls Tryz.prog 17 #[ndV n v, .int .u8 112] w fun e w' => e = .returned (.bool false) ∧ Below w.heap.size w w' := by
  have hn : n.text.toList.isEmpty = false := by rw [toListL, ← L_emp]; exact hA
  have HR := hide hr
  have hl := len_ok hr
  obtain ⟨a0, c0, hv0⟩ := RdK_slice hr
  subst hv0
  unfold ndV
  rw [hk]
  clear hr ht
  generalize n.text = xt at *
  go_enter Tryz.func17, Tryz.ntmps17
  go_wp2
  go_ret
  exact ⟨rfl, bal (brf w) _⟩
theorem isPa (n : Nd) (v : Value) (w : World) (ht : n.text.size ≤ maxLen) (hr : RdK w n.kids v) (ih2 : ∀ x ∈ n.kids, ∀ y ∈ x.kids, IsC y) :
    Calls Tryz.prog 17 #[ndV n v, .int .u8 112] w fun e w' => e = .returned (.bool (okIs 112 n)) ∧ Below w.heap.size w w' := by
  by_cases h3 : n.kind = 3
  · have e : okIs 112 n = ((n.text.size == 0) && n.kids.all (pB 4 [101])) := ok_of (by decide) n 3 h3 (by decide) rfl (by
      show (allK (2 ^ 4) n.kids && fmL n.kids) = _
      rw [all_fm]; exact congrArg n.kids.all (funext pB_4))
    rw [e]
    cases hA : (n.text.size == 0) with
    | false => exact isPan n v w ht hr h3 hA
    | true => rw [Bool.true_and]; exact isPaL n ih2 v w ht hr h3 hA
  · have e : okIs 112 n = false := ok_no n (by show hasB (2 ^ 3) n.kind = false; rw [has_one 3 (by decide) (by decide)]; simp [h3])
    rw [e]; exact isPak n v w ht hr h3
set_option maxHeartbeats 800000 in
theorem isCoL (n : Nd) (ih2 : ∀ x ∈ n.kids, ∀ y ∈ x.kids, IsC y) (v : Value) (w : World) (ht : n.text.size ≤ maxLen) (hr : RdK w n.kids v) (hk : n.kind = 24) (hA : (n.text.size == 0) = true) :
    Calls Tryz.prog 17 #[ndV n v, .int .u8 99] w fun e w' => e = .returned (.bool (n.kids.all (pB 25 [101]))) ∧ Below w.heap.size w w' := by
  have HP := hide ih2
  have hn : n.text.toList.isEmpty = true := by rw [toListL, ← L_emp]; exact hA
  clear ih2 hA ht
  unfold ndV
  rw [hk]
  have hlen := len_ok hr
  obtain ⟨a0, c0, hv0⟩ := RdK_slice hr
  subst hv0
  have z1 : (w.alloc (Obj.cells #[Value.int IntKind.i64 24, Value.string n.text, Value.slice a0 n.kids.length c0] 29)).cell? ⟨w.heap.size, 2, none⟩ = some (.slice a0 n.kids.length c0) := by rw [World.cell?_alloc_new]; rfl
  have HB1 : Hid (Below w.heap.size w (w.alloc (Obj.cells #[Value.int IntKind.i64 24, Value.string n.text, Value.slice a0 n.kids.length c0] 29))) := hide (bal (brf w) _)
  generalize n.text = xt at *
  go_enter Tryz.func17, Tryz.ntmps17
  go_wp2
  generalize hw1 : w.alloc (Obj.cells #[Value.int IntKind.i64 24, Value.string xt, Value.slice a0 n.kids.length c0] 29) = w1 at *
  go_loopw [9] (fun i wr => ∃ j : Nat, i = .int .i64 j ∧ j ≤ n.kids.length ∧ Below w1.heap.size w1 wr ∧ (n.kids.drop j).all (pB 25 [101]) = n.kids.all (pB 25 [101])) (fun i wr => n.kids.length - (intOf i).toNat)
  case atStart => exact ⟨0, rfl, Nat.zero_le _, brf _, rfl⟩
  case round =>
    obtain ⟨j, rfl, hj, hb, hall⟩ := hrel
    have z2 := cell_later hb z1
    have hbw := below_step (unhide HB1) hb
    have HB := hide hbw
    have HA := hide hall
    have HB0 := hide hb
    by_cases hjn : j < n.kids.length
    · have hx : n.kids[j]? = some n.kids[j] := List.getElem?_eq_getElem hjn
      have hdr := List.drop_eq_getElem_cons hjn
      generalize n.kids[j] = x at hx hdr
      rcases RdK_cases hr with ⟨h0, _⟩ | ⟨b, o, c', vs, hvv, hn', hcs⟩
      · rw [h0] at hjn; simp at hjn
      obtain ⟨k1, k2, k3, hts, hkr⟩ := hcs j x hx
      have k1' := cell_later hbw k1
      have k2' := cell_later hbw k2
      have k3' := cell_later hbw k3
      have FR := hide (fun w' => sFree x.text w' hts)
      have KX := hide (fun (wy : World) (hy : Below wr.heap.size wr wy) => kidsN x (unhide HP x (List.mem_of_getElem? hx)) (vs j) wy ⟨#[101]⟩ (by decide) (by decide) (RdK_later hy (RdK_later hbw hkr)))
      have hk1 : ltr ⟨#[101]⟩ = [101] := by decide
      rw [hk1] at KX
      unfold ndV at KX
      obtain ⟨ha0, hc0⟩ : a0 = some ⟨b, o, none⟩ ∧ c0 = c' := by injection hvv with h1 h2 h3; exact ⟨h1, h3⟩
      subst ha0 hc0
      obtain ⟨a', c'', hv'⟩ := RdK_slice hkr
      rw [hv'] at k3' KX
      rw [hdr, List.all_cons] at HA
      have HPx : Hid ((pB 25 [101]) x = ((x.kind == 25) && (freeB x.text && kidsB x.kids [101]))) := hide rfl
      rw [unhide HPx] at HA
      clear hb hbw k1 k2 k3 hkr hcs hvv hr hall hk1 HPx
      by_cases hxk : x.kind = 25
      · rw [hxk] at k1' KX HA
        have hkb : ((((25 : Int) == 25))) = true := by decide
        rw [hkb, Bool.true_and] at HA
        clear hkb hxk
        cases hF : freeB x.text with
        | false =>
          rw [hF] at FR HA
          rw [Bool.false_and, Bool.false_and] at HA
          clear hF KX
          generalize x.text = yt at *
          go_wp2_with (go_at_call 21; refine (unhide FR _).mono ?_; rintro e w' ⟨rfl, rfl⟩)
          exact bodyPost_ret (v := .bool false) (by simp [results, Tryz.results17, go_sem]) rfl ⟨by rw [← unhide HA], unhide HB⟩
        | true =>
          rw [hF] at FR HA
          rw [Bool.true_and] at HA
          clear hF
          cases hK : kidsB x.kids [101] with
          | false =>
            rw [hK] at KX HA
            rw [Bool.false_and] at HA
            clear hK
            generalize x.text = yt at *
            go_wp2_with (first | (go_at_call 21; refine (unhide FR _).mono ?_; rintro e w' ⟨rfl, rfl⟩) | (go_at_call 20; refine (unhide KX _ (brf _)).mono ?_; rintro e v1 ⟨rfl, hb1⟩))
            exact bodyPost_ret (v := .bool false) (by simp [results, Tryz.results17, go_sem]) rfl ⟨by rw [← unhide HA], below_step (unhide HB) hb1⟩
          | true =>
            rw [hK] at KX HA
            rw [Bool.true_and] at HA
            clear hK
            generalize x.text = yt at *
            go_wp2_with (first | (go_at_call 21; refine (unhide FR _).mono ?_; rintro e w' ⟨rfl, rfl⟩) | (go_at_call 20; refine (unhide KX _ (brf _)).mono ?_; rintro e v1 ⟨rfl, hb1⟩))
            exact ⟨⟨j + 1, by go_num, by omega, below_step (unhide HB0) hb1, unhide HA⟩, by simp [intOf]; omega⟩
      · have a25 : (x.kind == 25) = false := beq_eq_false_iff_ne.2 (fun h => hxk (by simp [h])); have b25 : (x.kind != 25) = true := (by rw [bne, a25]; rfl)
        rw [a25] at HA
        have hkb : (false) = false := by decide
        rw [Bool.false_and, Bool.false_and] at HA
        clear hxk KX FR hkb
        generalize x.kind = yk at *
        generalize x.text = yt at *
        go_wp2
        exact bodyPost_ret (v := .bool false) (by simp [results, Tryz.results17, go_sem]) rfl ⟨by rw [← unhide HA], unhide HB⟩
    · rw [List.drop_of_length_le (by omega)] at HA
      clear hb hbw hr hall
      go_wp2
      exact bodyPost_ret (v := .bool true) (by simp [results, Tryz.results17, go_sem]) rfl ⟨by rw [← unhide HA]; rfl, unhide HB⟩
set_option maxHeartbeats 400000 in
theorem isCok (n : Nd) (v : Value) (w : World) (ht : n.text.size ≤ maxLen) (hr : RdK w n.kids v) (h24 : n.kind ≠ 24) :
    Calls Tryz.prog 17 #[ndV n v, .int .u8 99] w fun e w' => e = .returned (.bool false) ∧ Below w.heap.size w w' := by
  have b24 : (n.kind != 24) = true := by rw [bne, beq_eq_false_iff_ne.2 h24]; rfl
  have HR := hide hr
  have hl := len_ok hr
  obtain ⟨a0, c0, hv0⟩ := RdK_slice hr
  subst hv0
  unfold ndV
  clear hr ht
  have a24 : (n.kind == 24) = false := beq_eq_false_iff_ne.2 h24
  clear h24
  generalize n.kind = xk at *
  generalize n.text = xt at *
  go_enter Tryz.func17, Tryz.ntmps17
  go_wp2
  go_ret
  exact ⟨rfl, bal (brf w) _⟩
set_option maxHeartbeats 400000 in
theorem isCon (n : Nd) (v : Value) (w : World) (ht : n.text.size ≤ maxLen) (hr : RdK w n.kids v) (hk : n.kind = 24) (hA : (n.text.size == 0) = false) :
    Calls Tryz.prog 17 #[ndV n v, .int .u8 99] w fun e w' => e = .returned (.bool false) ∧ Below w.heap.size w w' := by
  have hn : n.text.toList.isEmpty = false := by rw [toListL, ← L_emp]; exact hA
  have HR := hide hr
  have hl := len_ok hr
  obtain ⟨a0, c0, hv0⟩ := RdK_slice hr
  subst hv0
  unfold ndV
  rw [hk]
  clear hr ht
  generalize n.text = xt at *
  go_enter Tryz.func17, Tryz.ntmps17
  go_wp2
  go_ret
  exact ⟨rfl, bal (brf w) _⟩
theorem isCo (n : Nd) (v : Value) (w : World) (ht : n.text.size ≤ maxLen) (hr : RdK w n.kids v) (ih2 : ∀ x ∈ n.kids, ∀ y ∈ x.kids, IsC y) :
    Calls Tryz.prog 17 #[ndV n v, .int .u8 99] w fun e w' => e = .returned (.bool (okIs 99 n)) ∧ Below w.heap.size w w' := by
  by_cases h24 : n.kind = 24
  · have e : okIs 99 n = ((n.text.size == 0) && n.kids.all (pB 25 [101])) := ok_of (by decide) n 24 h24 (by decide) rfl (by
      show (allK (2 ^ 25) n.kids && fmL n.kids) = _
      rw [all_fm]; exact congrArg n.kids.all (funext pB_25))
    rw [e]
    cases hA : (n.text.size == 0) with
    | false => exact isCon n v w ht hr h24 hA
    | true => rw [Bool.true_and]; exact isCoL n ih2 v w ht hr h24 hA
  · have e : okIs 99 n = false := ok_no n (by show hasB (2 ^ 24) n.kind = false; rw [has_one 24 (by decide) (by decide)]; simp [h24])
    rw [e]; exact isCok n v w ht hr h24
end Go.Proofs.YtlcpmbdckmdabaaGreatDoor
