/- What the specification's l03Is answers to the letter m. -/
import Derived.Test.YtlcpmbdckmdabaaGreatDoorNGX
namespace Go.Proofs.YtlcpmbdckmdabaaGreatDoor
open Go.RowKit Nt
set_option linter.unusedVariables false
set_option maxRecDepth 100000
theorem isMok (n : Nd) (v : Value) (w : World) (hr : RdK w n.kids v) (h2 : n.kind ≠ 2) :
    Calls Tryz.prog 17 #[ndV n v, .int .u8 109] w fun e w' => e = .returned (.bool false) ∧ Below w.heap.size w w' := by
  obtain ⟨a0, c0, hv0⟩ := RdK_slice hr
  subst hv0
  unfold ndV
  clear hr
  have a2 : (n.kind == 2) = false := beq_eq_false_iff_ne.2 h2
  clear h2
  generalize n.kind = xk at *
  generalize n.text = xt at *
  go_enter Tryz.func17, Tryz.ntmps17
  go_wp2
  go_ret
  exact ⟨rfl, bal (brf w) _⟩
theorem isMon (n : Nd) (v : Value) (w : World) (ht : n.text.size ≤ maxLen) (hr : RdK w n.kids v) (hk : n.kind = 2) (hA : freeB n.text = false) :
    Calls Tryz.prog 17 #[ndV n v, .int .u8 109] w fun e w' => e = .returned (.bool false) ∧ Below w.heap.size w w' := by
  have FR := hide (fun w' => sFree n.text w' ht)
  rw [hA] at FR
  obtain ⟨a0, c0, hv0⟩ := RdK_slice hr
  subst hv0
  unfold ndV
  rw [hk]
  clear hr hA ht
  generalize n.text = xt at *
  go_enter Tryz.func17, Tryz.ntmps17
  go_wp2_with (go_at_call 21; refine (unhide FR _).mono ?_; rintro e w' ⟨rfl, rfl⟩)
  go_ret
  exact ⟨rfl, bal (brf w) _⟩
theorem isMoz (n : Nd) (v : Value) (w : World) (ht : n.text.size ≤ maxLen) (hr : RdK w n.kids v) (hk : n.kind = 2) (hA : freeB n.text = true) (hE : n.kids.length < 2) :
    Calls Tryz.prog 17 #[ndV n v, .int .u8 109] w fun e w' => e = .returned (.bool false) ∧ Below w.heap.size w w' := by
  have FR := hide (fun w' => sFree n.text w' ht)
  rw [hA] at FR
  have hl := len_ok hr
  have q0 : ¬ ((2 : Int) ≤ n.kids.length) := by omega
  obtain ⟨a0, c0, hv0⟩ := RdK_slice hr
  subst hv0
  unfold ndV
  rw [hk]
  clear hr hA ht
  generalize n.text = xt at *
  go_enter Tryz.func17, Tryz.ntmps17
  go_wp2_with (go_at_call 21; refine (unhide FR _).mono ?_; rintro e w' ⟨rfl, rfl⟩)
  go_ret
  exact ⟨rfl, bal (brf w) _⟩
set_option maxHeartbeats 800000 in
theorem isMo2 (n : Nd) (ih : ∀ x ∈ n.kids, IsC x) (v : Value) (w : World) (ht : n.text.size ≤ maxLen) (hr : RdK w n.kids v) (hk : n.kind = 2) (hA : freeB n.text = true) (x y : Nd) (hx : n.kids[0]? = some x) (hy : n.kids[1]? = some y) :
    Calls Tryz.prog 17 #[ndV n v, .int .u8 109] w fun e w' => e = .returned (.bool ((okIs 112 x && okIs 80 y) && (n.kids.drop 2).all (okIs 105))) ∧ Below w.heap.size w w' := by
  have FR := hide (fun w' => sFree n.text w' ht)
  rw [hA] at FR
  have hl := len_ok hr
  have h2 : 1 < n.kids.length := (List.getElem?_eq_some_iff.1 hy).1
  have q0 : (2 : Int) ≤ n.kids.length := by omega
  have HR := hide hr
  rcases RdK_cases hr with ⟨h0, _⟩ | ⟨b, o, c', vs, hvv, hn', hcs⟩
  · rw [h0] at h2; simp at h2
  obtain ⟨k1, k2, k3, hts, hkr⟩ := hcs 0 x hx
  obtain ⟨l1, l2, l3, htt, hlr⟩ := hcs 1 y hy
  rw [Nat.zero_mul, Nat.add_zero] at k1 k2 k3
  rw [Nat.one_mul] at l1 l2 l3
  have KA := hide (fun w' hr' => allN n ih v w' 2 105 (by decide) (by decide) hr')
  have PX := hide (fun (wy : World) (hy : Below w.heap.size w wy) => ih x (List.mem_of_getElem? hx) (vs 0) wy 112 (by decide) hts (RdK_later hy hkr))
  have PY := hide (fun (wy : World) (hy' : Below w.heap.size w wy) => ih y (List.mem_of_getElem? hy) (vs 1) wy 80 (by decide) htt (RdK_later hy' hlr))
  unfold ndV at PX PY KA ⊢
  obtain ⟨a', c'', hv'⟩ := RdK_slice hkr
  rw [hv'] at k3 PX
  obtain ⟨a2, c2, hv2⟩ := RdK_slice hlr
  rw [hv2] at l3 PY
  subst hvv
  rw [hk] at KA ⊢
  have hB := bal (brf w) (Obj.cells #[Value.int IntKind.i64 2, Value.string n.text, Value.slice (some ⟨b, o, none⟩) n.kids.length c'] 29)
  have k1' := cell_later hB k1
  have k2' := cell_later hB k2
  have k3' := cell_later hB k3
  have l1' := cell_later hB l1
  have l2' := cell_later hB l2
  have l3' := cell_later hB l3
  have z0 : (w.alloc (Obj.cells #[Value.int IntKind.i64 2, Value.string n.text, Value.slice (some ⟨b, o, none⟩) n.kids.length c'] 29)).cell? ⟨w.heap.size, 0, none⟩ = some (.int .i64 2) := by rw [World.cell?_alloc_new]; rfl
  have z1 : (w.alloc (Obj.cells #[Value.int IntKind.i64 2, Value.string n.text, Value.slice (some ⟨b, o, none⟩) n.kids.length c'] 29)).cell? ⟨w.heap.size, 1, none⟩ = some (.string n.text) := by rw [World.cell?_alloc_new]; rfl
  have z2 : (w.alloc (Obj.cells #[Value.int IntKind.i64 2, Value.string n.text, Value.slice (some ⟨b, o, none⟩) n.kids.length c'] 29)).cell? ⟨w.heap.size, 2, none⟩ = some (Value.slice (some ⟨b, o, none⟩) n.kids.length c') := by rw [World.cell?_alloc_new]; rfl
  have HB := hide hB
  have Z0 := hide z0
  have Z1 := hide z1
  have Z2 := hide z2
  have HL1 := hide l1'
  have HL2 := hide l2'
  have HL3 := hide l3'
  clear hr hA hcs hkr hlr k1 k2 k3 l1 l2 l3 ih hB z0 z1 z2 l1' l2' l3' ht
  generalize n.text = xt at *
  generalize x.kind = yk at *
  generalize x.text = yt at *
  generalize y.kind = zk at *
  generalize y.text = zt at *
  cases hP : okIs 112 x with
  | false =>
    rw [hP] at PX
    rw [Bool.false_and, Bool.false_and]
    clear PY KA hP
    go_enter Tryz.func17, Tryz.ntmps17
    go_wp2_with (first | (go_at_call 21; refine (unhide FR _).mono ?_; rintro e w' ⟨rfl, rfl⟩) | (go_at_call_of 17 (Value.int IntKind.u8 112); refine (unhide PX _ (unhide HB)).mono ?_; rintro e v1 ⟨rfl, hb1⟩; have y0 := cell_later hb1 (unhide Z0); have y1 := cell_later hb1 (unhide Z1); have y2 := cell_later hb1 (unhide Z2); have m1 := cell_later hb1 (unhide HL1); have m2 := cell_later hb1 (unhide HL2); have m3 := cell_later hb1 (unhide HL3)))
    go_ret
    exact ⟨rfl, btr (unhide HB) hb1⟩
  | true =>
    rw [hP] at PX
    clear hP
    cases hQ : okIs 80 y with
    | false =>
      rw [hQ] at PY
      rw [Bool.and_false, Bool.false_and]
      clear KA hQ
      go_enter Tryz.func17, Tryz.ntmps17
      go_wp2_with (first | (go_at_call 21; refine (unhide FR _).mono ?_; rintro e w' ⟨rfl, rfl⟩) | (go_at_call_of 17 (Value.int IntKind.u8 112); refine (unhide PX _ (unhide HB)).mono ?_; rintro e v1 ⟨rfl, hb1⟩; have y0 := cell_later hb1 (unhide Z0); have y1 := cell_later hb1 (unhide Z1); have y2 := cell_later hb1 (unhide Z2); have m1 := cell_later hb1 (unhide HL1); have m2 := cell_later hb1 (unhide HL2); have m3 := cell_later hb1 (unhide HL3)) | (go_at_call_of 17 (Value.int IntKind.u8 80); refine (unhide PY _ (btr (unhide HB) hb1)).mono ?_; rintro e v2 ⟨rfl, hb2⟩; have x0 := cell_later hb2 y0; have x1 := cell_later hb2 y1; have x2 := cell_later hb2 y2))
      go_ret
      exact ⟨rfl, btr (btr (unhide HB) hb1) hb2⟩
    | true =>
      rw [hQ] at PY
      rw [Bool.and_true, Bool.true_and]
      clear hQ
      cases hR : (n.kids.drop 2).all (okIs 105) with
      | false =>
        rw [hR] at KA
        clear hR
        go_enter Tryz.func17, Tryz.ntmps17
        go_wp2_with (first | (go_at_call 21; refine (unhide FR _).mono ?_; rintro e w' ⟨rfl, rfl⟩) | (go_at_call_of 17 (Value.int IntKind.u8 112); refine (unhide PX _ (unhide HB)).mono ?_; rintro e v1 ⟨rfl, hb1⟩; have y0 := cell_later hb1 (unhide Z0); have y1 := cell_later hb1 (unhide Z1); have y2 := cell_later hb1 (unhide Z2); have m1 := cell_later hb1 (unhide HL1); have m2 := cell_later hb1 (unhide HL2); have m3 := cell_later hb1 (unhide HL3)) | (go_at_call_of 17 (Value.int IntKind.u8 80); refine (unhide PY _ (btr (unhide HB) hb1)).mono ?_; rintro e v2 ⟨rfl, hb2⟩; have x0 := cell_later hb2 y0; have x1 := cell_later hb2 y1; have x2 := cell_later hb2 y2) | (go_at_call 11; refine (unhide KA _ (RdK_later (btr (btr (unhide HB) hb1) hb2) (unhide HR))).mono ?_; rintro e v3 ⟨rfl, hb3⟩))
        go_ret
        exact ⟨rfl, btr (btr (btr (unhide HB) hb1) hb2) hb3⟩
      | true =>
        rw [hR] at KA
        clear hR
        go_enter Tryz.func17, Tryz.ntmps17
        go_wp2_with (first | (go_at_call 21; refine (unhide FR _).mono ?_; rintro e w' ⟨rfl, rfl⟩) | (go_at_call_of 17 (Value.int IntKind.u8 112); refine (unhide PX _ (unhide HB)).mono ?_; rintro e v1 ⟨rfl, hb1⟩; have y0 := cell_later hb1 (unhide Z0); have y1 := cell_later hb1 (unhide Z1); have y2 := cell_later hb1 (unhide Z2); have m1 := cell_later hb1 (unhide HL1); have m2 := cell_later hb1 (unhide HL2); have m3 := cell_later hb1 (unhide HL3)) | (go_at_call_of 17 (Value.int IntKind.u8 80); refine (unhide PY _ (btr (unhide HB) hb1)).mono ?_; rintro e v2 ⟨rfl, hb2⟩; have x0 := cell_later hb2 y0; have x1 := cell_later hb2 y1; have x2 := cell_later hb2 y2) | (go_at_call 11; refine (unhide KA _ (RdK_later (btr (btr (unhide HB) hb1) hb2) (unhide HR))).mono ?_; rintro e v3 ⟨rfl, hb3⟩))
        go_ret
        exact ⟨rfl, btr (btr (btr (unhide HB) hb1) hb2) hb3⟩
theorem modB (ks : List Nd) (x y : Nd) (r : List Nd) (h : ks = x :: y :: r) : ((decide (2 ≤ ks.length) && fitK (ks.take 2) [2 ^ 3, 2 ^ 5] && allK itmK (ks.drop 2)) && fmL ks) = ((okIs 112 x && okIs 80 y) && (ks.drop 2).all (okIs 105)) := by
  subst h
  rw [allB_of (c := 105) (by decide), okIs_of (by decide), okIs_of (by decide), decide_eq_true (by simp)]
  show ((true && (hasB (2 ^ 3) x.kind && (hasB (2 ^ 5) y.kind && true)) && allK itmK r) && fmL (x :: y :: r)) = (((hasB (2 ^ 3) x.kind && fm x) && (hasB (2 ^ 5) y.kind && fm y)) && (allK itmK r && fmL r))
  simp only [fmL]
  generalize hasB (2 ^ 3) x.kind = a
  generalize hasB (2 ^ 5) y.kind = b
  generalize allK itmK r = c
  generalize fm x = d
  generalize fm y = e
  generalize fmL r = f
  revert a b c d e f; decide
theorem isMo (n : Nd) (ih : ∀ x ∈ n.kids, IsC x) (v : Value) (w : World) (ht : n.text.size ≤ maxLen) (hr : RdK w n.kids v) :
    Calls Tryz.prog 17 #[ndV n v, .int .u8 109] w fun e w' => e = .returned (.bool (okIs 109 n)) ∧ Below w.heap.size w w' := by
  by_cases h2 : n.kind = 2
  · have e : okIs 109 n = (freeB n.text && ((decide (2 ≤ n.kids.length) && fitK (n.kids.take 2) [2 ^ 3, 2 ^ 5] && allK itmK (n.kids.drop 2)) && fmL n.kids)) := ok_of (by decide) n 2 h2 (by decide) rfl rfl
    rw [e]
    cases hA : freeB n.text with
    | false => exact isMon n v w ht hr h2 hA
    | true =>
      rw [Bool.true_and]
      match hks : n.kids with
      | [] => rw [← hks]; have : (decide (2 ≤ n.kids.length) && fitK (n.kids.take 2) [2 ^ 3, 2 ^ 5] && allK itmK (n.kids.drop 2) && fmL n.kids) = false := by rw [hks]; rfl
              rw [this]; exact isMoz n v w ht hr h2 hA (by rw [hks]; simp)
      | [x] => rw [← hks]; have : (decide (2 ≤ n.kids.length) && fitK (n.kids.take 2) [2 ^ 3, 2 ^ 5] && allK itmK (n.kids.drop 2) && fmL n.kids) = false := by rw [hks]; rfl
               rw [this]; exact isMoz n v w ht hr h2 hA (by rw [hks]; simp)
      | x :: y :: r =>
        rw [← hks, modB n.kids x y r hks]
        exact isMo2 n ih v w ht hr h2 hA x y (by rw [hks]; rfl) (by rw [hks]; rfl)
  · have e : okIs 109 n = false := ok_no n (by show hasB (2 ^ 2) n.kind = false; rw [has_one 2 (by decide) (by decide)]; simp [h2])
    rw [e]; exact isMok n v w hr h2
end Go.Proofs.YtlcpmbdckmdabaaGreatDoor
