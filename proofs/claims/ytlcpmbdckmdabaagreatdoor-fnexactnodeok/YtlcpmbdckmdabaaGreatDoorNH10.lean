/- What the program's kidsFit answers. -/
import Derived.Test.YtlcpmbdckmdabaaGreatDoorNHX
import Derived.Test.YtlcpmbdckmdabaaGreatDoorNHY
namespace Go.Proofs.YtlcpmbdckmdabaaGreatDoor
open Go.RowKit Nt
set_option linter.unusedVariables false
set_option maxRecDepth 100000
set_option maxHeartbeats 400000 in
theorem kf19f (n : Nd) (v : Value) (w : World) (hr : RdK w n.kids v) (hk : n.kind = 19) (hB : fitK n.kids [2 ^ 8, 2 ^ 5, expK] = false) :
    Calls Tryz.prog 19 #[ndV n v] w fun e w' => e = .returned (.bool false) ∧ Below w.heap.size w w' := by
  have K1 : Hid (∀ (W : World) (b : Nat), b = W.heap.size → RdK W n.kids v → Calls Tryz.prog 29 #[v, .slice (some ⟨b, 0, none⟩) 3 3] (W.alloc (Obj.cells #[.int .u64 256, .int .u64 32, .int .u64 281406257233920] 49)) fun e w' => e = .returned (.bool (fitK n.kids [2 ^ 8, 2 ^ 5, expK])) ∧ Below W.heap.size W w') := hide (fun W b hb hr' => fitCall n.kids [2 ^ 8, 2 ^ 5, expK] v W b (by decide) (by decide) hb hr')
  rw [hB] at K1
  have HR := hide hr
  obtain ⟨a0, c0, hv0⟩ := RdK_slice hr
  subst hv0
  unfold ndV
  rw [hk]
  clear hr hB
  generalize n.text = xt at *
  go_enter Tryz.func19, Tryz.ntmps19
  go_wp2_with (go_at_call 29; refine (unhide K1 (w.alloc _) _ (by simp) (RdK_later (bal (brf w) _) (unhide HR))).mono ?_; rintro e v1 ⟨rfl, hb1⟩)
  go_ret
  exact ⟨rfl, btr (bal (brf w) _) hb1⟩
set_option maxHeartbeats 800000 in
theorem kf19t (n : Nd) (v : Value) (w : World) (hr : RdK w n.kids v) (hk : n.kind = 19) (hB : fitK n.kids [2 ^ 8, 2 ^ 5, expK] = true) (h3 : n.kids.length = 3) (y : Nd) (hy : n.kids[1]? = some y) :
    Calls Tryz.prog 19 #[ndV n v] w fun e w' => e = .returned (.bool (allK (2 ^ 6) y.kids)) ∧ Below w.heap.size w w' := by
  have K1 : Hid (∀ (W : World) (b : Nat), b = W.heap.size → RdK W n.kids v → Calls Tryz.prog 29 #[v, .slice (some ⟨b, 0, none⟩) 3 3] (W.alloc (Obj.cells #[.int .u64 256, .int .u64 32, .int .u64 281406257233920] 49)) fun e w' => e = .returned (.bool (fitK n.kids [2 ^ 8, 2 ^ 5, expK])) ∧ Below W.heap.size W w') := hide (fun W b hb hr' => fitCall n.kids [2 ^ 8, 2 ^ 5, expK] v W b (by decide) (by decide) hb hr')
  rw [hB] at K1
  have K2 : Hid (∀ w' v', RdK w' y.kids v' → Calls Tryz.prog 30 #[.int .u64 64, v'] w' fun e w'' => e = .returned (.bool (allK (2 ^ 6) y.kids)) ∧ Below w'.heap.size w' w'') := hide (fun w' v' hr' => iHasAll (2 ^ 6) y.kids v' w' (by decide) hr')
  have HR := hide hr
  rcases RdK_cases hr with ⟨h0, _⟩ | ⟨b, o, c, vs, hv, hn, hcs⟩
  · rw [h0] at h3; cases h3
  subst hv
  obtain ⟨k1, k2, k3, hts, hkr⟩ := hcs 1 y hy
  rw [Nat.one_mul] at k1 k2 k3
  have HKR := hide hkr
  obtain ⟨a', c'', hv'⟩ := RdK_slice hkr
  rw [hv'] at k3 HKR
  rw [h3] at K1 HR ⊢
  unfold ndV
  rw [hk]
  have z2 : (w.alloc (Obj.cells #[Value.int IntKind.i64 19, Value.string n.text, Value.slice (some ⟨b, o, none⟩) 3 c] 29)).cell? ⟨w.heap.size, 2, none⟩ = some (.slice (some ⟨b, o, none⟩) 3 c) := by rw [World.cell?_alloc_new]; rfl
  have Z2 := hide z2
  have KK1 := hide (cell_later (bal (brf w) (Obj.cells #[Value.int IntKind.i64 19, Value.string n.text, Value.slice (some ⟨b, o, none⟩) 3 c] 29)) k1)
  have KK2 := hide (cell_later (bal (brf w) (Obj.cells #[Value.int IntKind.i64 19, Value.string n.text, Value.slice (some ⟨b, o, none⟩) 3 c] 29)) k2)
  have KK3 := hide (cell_later (bal (brf w) (Obj.cells #[Value.int IntKind.i64 19, Value.string n.text, Value.slice (some ⟨b, o, none⟩) 3 c] 29)) k3)
  clear hr hB hcs hkr k1 k2 k3 z2
  generalize n.text = xt at *
  generalize y.text = yt at *
  generalize y.kind = yk at *
  generalize allK (2 ^ 6) y.kids = r at *
  go_enter Tryz.func19, Tryz.ntmps19
  go_wp2_with (first | (go_at_call 30; refine (unhide K2 _ _ (RdK_later (btr (bal (brf w) _) hb1) (unhide HKR))).mono ?_; rintro e v2 ⟨rfl, hb2⟩) | (go_at_call 29; refine (unhide K1 (w.alloc _) _ (by simp) (RdK_later (bal (brf w) _) (unhide HR))).mono ?_; rintro e v1 ⟨rfl, hb1⟩; have j2 := cell_later hb1 (unhide Z2); have j3 := cell_later hb1 (unhide KK1); have j4 := cell_later hb1 (unhide KK2); have j5 := cell_later hb1 (unhide KK3)))
  go_ret
  exact ⟨rfl, btr (btr (bal (brf w) _) hb1) hb2⟩
theorem kf19 (n : Nd) (v : Value) (w : World) (hr : RdK w n.kids v) (hk : n.kind = 19) :
    Calls Tryz.prog 19 #[ndV n v] w fun e w' => e = .returned (.bool (fitK n.kids [2 ^ 8, 2 ^ 5, expK] && allK (2 ^ 6) ((n.kids.drop 1).headD (.mk 0 ⟨#[]⟩ [])).kids)) ∧ Below w.heap.size w w' := by
  cases hB : fitK n.kids [2 ^ 8, 2 ^ 5, expK] with
  | false => exact kf19f n v w hr hk hB
  | true =>
    rw [Bool.true_and]
    match hks : n.kids with
    | [] => rw [hks] at hB; cases hB
    | [x] => rw [hks] at hB; simp [fitK] at hB
    | [x, y] => rw [hks] at hB; simp [fitK] at hB
    | [x, y, z] => exact kf19t n v w hr hk hB (by rw [hks]; rfl) y (by rw [hks]; rfl)
    | x :: y :: z :: u :: r => rw [hks] at hB; simp [fitK] at hB
theorem kfelse (n : Nd) (v : Value) (w : World) (hr : RdK w n.kids v) (r : Bool) (hL : ∀ w', Below w.heap.size w w' → Calls Tryz.prog 31 #[.int .i64 n.kind, v] w' fun e w'' => e = .returned (.bool r) ∧ Below w'.heap.size w' w'') (h4 : n.kind ≠ 4) (h6 : n.kind ≠ 6) (h7 : n.kind ≠ 7) (h8 : n.kind ≠ 8) (h9 : n.kind ≠ 9) (h10 : n.kind ≠ 10) (h11 : n.kind ≠ 11) (h12 : n.kind ≠ 12) (h14 : n.kind ≠ 14) (h15 : n.kind ≠ 15) (h16 : n.kind ≠ 16) (h17 : n.kind ≠ 17) (h18 : n.kind ≠ 18) (h19 : n.kind ≠ 19) (h20 : n.kind ≠ 20) (h21 : n.kind ≠ 21) (h22 : n.kind ≠ 22) (h25 : n.kind ≠ 25) (h27 : n.kind ≠ 27) (h28 : n.kind ≠ 28) (h29 : n.kind ≠ 29) (h32 : n.kind ≠ 32) (h33 : n.kind ≠ 33) (h34 : n.kind ≠ 34) (h35 : n.kind ≠ 35) (h36 : n.kind ≠ 36) (h37 : n.kind ≠ 37) (h38 : n.kind ≠ 38) (h39 : n.kind ≠ 39) (h42 : n.kind ≠ 42) (h43 : n.kind ≠ 43) (h44 : n.kind ≠ 44) (h45 : n.kind ≠ 45) (h46 : n.kind ≠ 46) (h47 : n.kind ≠ 47) :
    Calls Tryz.prog 19 #[ndV n v] w fun e w' => e = .returned (.bool r) ∧ Below w.heap.size w w' := by
  have HL := hide hL
  obtain ⟨a0, c0, hv0⟩ := RdK_slice hr
  subst hv0
  unfold ndV
  clear hr hL
  have a4 : (n.kind == 4) = false := beq_eq_false_iff_ne.2 h4
  have a6 : (n.kind == 6) = false := beq_eq_false_iff_ne.2 h6
  have a7 : (n.kind == 7) = false := beq_eq_false_iff_ne.2 h7
  have a8 : (n.kind == 8) = false := beq_eq_false_iff_ne.2 h8
  have a9 : (n.kind == 9) = false := beq_eq_false_iff_ne.2 h9
  have a10 : (n.kind == 10) = false := beq_eq_false_iff_ne.2 h10
  have a11 : (n.kind == 11) = false := beq_eq_false_iff_ne.2 h11
  have a12 : (n.kind == 12) = false := beq_eq_false_iff_ne.2 h12
  have a14 : (n.kind == 14) = false := beq_eq_false_iff_ne.2 h14
  have a15 : (n.kind == 15) = false := beq_eq_false_iff_ne.2 h15
  have a16 : (n.kind == 16) = false := beq_eq_false_iff_ne.2 h16
  have a17 : (n.kind == 17) = false := beq_eq_false_iff_ne.2 h17
  have a18 : (n.kind == 18) = false := beq_eq_false_iff_ne.2 h18
  have a19 : (n.kind == 19) = false := beq_eq_false_iff_ne.2 h19
  have a20 : (n.kind == 20) = false := beq_eq_false_iff_ne.2 h20
  have a21 : (n.kind == 21) = false := beq_eq_false_iff_ne.2 h21
  have a22 : (n.kind == 22) = false := beq_eq_false_iff_ne.2 h22
  have a25 : (n.kind == 25) = false := beq_eq_false_iff_ne.2 h25
  have a27 : (n.kind == 27) = false := beq_eq_false_iff_ne.2 h27
  have a28 : (n.kind == 28) = false := beq_eq_false_iff_ne.2 h28
  have a29 : (n.kind == 29) = false := beq_eq_false_iff_ne.2 h29
  have a32 : (n.kind == 32) = false := beq_eq_false_iff_ne.2 h32
  have a33 : (n.kind == 33) = false := beq_eq_false_iff_ne.2 h33
  have a34 : (n.kind == 34) = false := beq_eq_false_iff_ne.2 h34
  have a35 : (n.kind == 35) = false := beq_eq_false_iff_ne.2 h35
  have a36 : (n.kind == 36) = false := beq_eq_false_iff_ne.2 h36
  have a37 : (n.kind == 37) = false := beq_eq_false_iff_ne.2 h37
  have a38 : (n.kind == 38) = false := beq_eq_false_iff_ne.2 h38
  have a39 : (n.kind == 39) = false := beq_eq_false_iff_ne.2 h39
  have a42 : (n.kind == 42) = false := beq_eq_false_iff_ne.2 h42
  have a43 : (n.kind == 43) = false := beq_eq_false_iff_ne.2 h43
  have a44 : (n.kind == 44) = false := beq_eq_false_iff_ne.2 h44
  have a45 : (n.kind == 45) = false := beq_eq_false_iff_ne.2 h45
  have a46 : (n.kind == 46) = false := beq_eq_false_iff_ne.2 h46
  have a47 : (n.kind == 47) = false := beq_eq_false_iff_ne.2 h47
  clear h4 h6 h7 h8 h9 h10 h11 h12 h14 h15 h16 h17 h18 h19 h20 h21 h22 h25 h27 h28 h29 h32 h33 h34 h35 h36 h37 h38 h39 h42 h43 h44 h45 h46 h47
  generalize n.kind = xk at *
  generalize n.text = xt at *
  go_enter Tryz.func19, Tryz.ntmps19
  go_wp2_with (go_at_call 31; refine (unhide HL _ (bal (brf w) _)).mono ?_; rintro e v1 ⟨rfl, hb1⟩)
  go_ret
  exact ⟨rfl, btr (bal (brf w) _) hb1⟩
theorem kd_of {k : Int} {ks : List Nd} {B : Bool} (K : Int) (h : k = K) (e : kdB K ks = B) : kdB k ks = B := by rw [h]; exact e
theorem kdB_no (k : Int) (ks : List Nd) (h4 : k ≠ 4) (h6 : k ≠ 6) (h7 : k ≠ 7) (h8 : k ≠ 8) (h9 : k ≠ 9) (h10 : k ≠ 10) (h11 : k ≠ 11) (h12 : k ≠ 12) (h14 : k ≠ 14) (h15 : k ≠ 15) (h16 : k ≠ 16) (h17 : k ≠ 17) (h18 : k ≠ 18) (h19 : k ≠ 19) (h20 : k ≠ 20) (h21 : k ≠ 21) (h22 : k ≠ 22) (h25 : k ≠ 25) (h27 : k ≠ 27) (h28 : k ≠ 28) (h29 : k ≠ 29) (h32 : k ≠ 32) (h33 : k ≠ 33) (h34 : k ≠ 34) (h35 : k ≠ 35) (h36 : k ≠ 36) (h37 : k ≠ 37) (h38 : k ≠ 38) (h39 : k ≠ 39) (h42 : k ≠ 42) (h43 : k ≠ 43) (h44 : k ≠ 44) (h45 : k ≠ 45) (h46 : k ≠ 46) (h47 : k ≠ 47) (h1 : k ≠ 1) (h2 : k ≠ 2) (h3 : k ≠ 3) (h5 : k ≠ 5) (h13 : k ≠ 13) (h23 : k ≠ 23) (h24 : k ≠ 24) (h26 : k ≠ 26) (h30 : k ≠ 30) (h31 : k ≠ 31) (h40 : k ≠ 40) (h41 : k ≠ 41) : kdB k ks = false := by
  unfold kdB
  simp only [h4, h6, h7, h8, h9, h10, h11, h12, h14, h15, h16, h17, h18, h19, h20, h21, h22, h25, h27, h28, h29, h32, h33, h34, h35, h36, h37, h38, h39, h42, h43, h44, h45, h46, h47, h1, h2, h3, h5, h13, h23, h24, h26, h30, h31, h40, h41, or_self, if_false]
theorem lfW (k : Int) (ks : List Nd) (v : Value) (w : World) (hr : RdK w ks v) (h4 : k ≠ 4) (h6 : k ≠ 6) (h7 : k ≠ 7) (h8 : k ≠ 8) (h9 : k ≠ 9) (h10 : k ≠ 10) (h11 : k ≠ 11) (h12 : k ≠ 12) (h14 : k ≠ 14) (h15 : k ≠ 15) (h16 : k ≠ 16) (h17 : k ≠ 17) (h18 : k ≠ 18) (h19 : k ≠ 19) (h20 : k ≠ 20) (h21 : k ≠ 21) (h22 : k ≠ 22) (h25 : k ≠ 25) (h27 : k ≠ 27) (h28 : k ≠ 28) (h29 : k ≠ 29) (h32 : k ≠ 32) (h33 : k ≠ 33) (h34 : k ≠ 34) (h35 : k ≠ 35) (h36 : k ≠ 36) (h37 : k ≠ 37) (h38 : k ≠ 38) (h39 : k ≠ 39) (h42 : k ≠ 42) (h43 : k ≠ 43) (h44 : k ≠ 44) (h45 : k ≠ 45) (h46 : k ≠ 46) (h47 : k ≠ 47) :
    Calls Tryz.prog 31 #[.int .i64 k, v] w fun e w' => e = .returned (.bool (kdB k ks)) ∧ Below w.heap.size w w' := by
  by_cases h1 : k = 1
  · subst h1; exact lf1 ks v w hr
  by_cases h3 : k = 3
  · subst h3; exact lf3 ks v w hr
  by_cases h5 : k = 5
  · subst h5; exact lf5 ks v w hr
  by_cases h13 : k = 13
  · subst h13; exact lf13 ks v w hr
  by_cases h23 : k = 23
  · subst h23; exact lf23 ks v w hr
  by_cases h24 : k = 24
  · subst h24; exact lf24 ks v w hr
  by_cases h26 : k = 26
  · subst h26; exact lf26 ks v w hr
  by_cases h40 : k = 40
  · subst h40; exact lf40 ks v w hr
  by_cases h41 : k = 41
  · subst h41; exact lf41 ks v w hr
  by_cases h2 : k = 2
  · subst h2
    have e : kdB 2 ks = (decide (2 ≤ ks.length) && fitK (ks.take 2) [2 ^ 3, 2 ^ 5] && allK itmK (ks.drop 2)) := rfl
    rw [e]
    by_cases hl : 2 ≤ ks.length
    · rw [decide_eq_true hl, Bool.true_and]; exact lf2 ks v w hr hl
    · rw [decide_eq_false hl]; exact lf2z ks v w hr hl
  by_cases h30 : k = 30
  · subst h30
    cases ks with
    | nil => exact lf30z v w hr
    | cons x xs => exact lf30 x xs v w hr
  by_cases h31 : k = 31
  · subst h31
    have e : kdB 31 ks = (decide (2 ≤ ks.length) && allK expK ks.dropLast && (match ks.getLast? with | some x => decide (x.kind = 26) | none => false)) := rfl
    rw [e]
    by_cases hl : 2 ≤ ks.length
    · obtain ⟨m, hm⟩ : ∃ m, ks.length = m + 1 := ⟨ks.length - 1, by omega⟩
      obtain ⟨y, hy⟩ : ∃ y, ks[m]? = some y := ⟨_, List.getElem?_eq_getElem (by omega)⟩
      have hla : ks.getLast? = some y := by rw [List.getLast?_eq_getElem?, hm]; exact hy
      rw [decide_eq_true hl, Bool.true_and, hla, List.dropLast_eq_take, hm]
      exact lf31 ks v w hr m hm (by omega) y hy
    · rw [decide_eq_false hl]; exact lf31z ks v w hr (by omega)
  rw [kdB_no k ks h4 h6 h7 h8 h9 h10 h11 h12 h14 h15 h16 h17 h18 h19 h20 h21 h22 h25 h27 h28 h29 h32 h33 h34 h35 h36 h37 h38 h39 h42 h43 h44 h45 h46 h47 h1 h2 h3 h5 h13 h23 h24 h26 h30 h31 h40 h41]
  exact lfno k v w h1 h2 h3 h5 h13 h23 h24 h26 h30 h31 h40 h41
/-- What the program's kidsFit answers. -/
theorem iKids (n : Nd) (v : Value) (w : World) (hr : RdK w n.kids v) :
    Calls Tryz.prog 19 #[ndV n v] w fun e w' => e = .returned (.bool (kdB n.kind n.kids)) ∧ Below w.heap.size w w' := by
  by_cases h4 : n.kind = 4
  · rw [h4]; exact kf4 n v w hr h4
  by_cases h6 : n.kind = 6
  · rw [h6]; exact kf6 n v w hr h6
  by_cases h7 : n.kind = 7
  · rw [h7]; exact kf7 n v w hr h7
  by_cases h8 : n.kind = 8
  · rw [h8]; exact kf8 n v w hr h8
  by_cases h9 : n.kind = 9
  · rw [h9]; exact kf9 n v w hr h9
  by_cases h10 : n.kind = 10
  · rw [h10]; exact kf10 n v w hr h10
  by_cases h11 : n.kind = 11
  · rw [h11]; exact kf11 n v w hr h11
  by_cases h12 : n.kind = 12
  · rw [h12]; exact kf12 n v w hr h12
  by_cases h14 : n.kind = 14
  · rw [h14]; exact kf14 n v w hr h14
  by_cases h15 : n.kind = 15
  · rw [h15]; exact kf15 n v w hr h15
  by_cases h16 : n.kind = 16
  · rw [h16]; exact kf16 n v w hr h16
  by_cases h17 : n.kind = 17
  · rw [h17]; exact kf17 n v w hr h17
  by_cases h18 : n.kind = 18
  · rw [h18]; exact kf18 n v w hr h18
  by_cases h19 : n.kind = 19
  · rw [h19]; exact kf19 n v w hr h19
  by_cases h20 : n.kind = 20
  · rw [h20]; exact kf20 n v w hr h20
  by_cases h21 : n.kind = 21
  · rw [h21]; exact kf21 n v w hr h21
  by_cases h22 : n.kind = 22
  · rw [h22]; exact kf22 n v w hr h22
  by_cases h25 : n.kind = 25
  · rw [h25]; exact kf25 n v w hr h25
  by_cases h27 : n.kind = 27
  · rw [h27]; exact kf27 n v w hr h27
  by_cases h28 : n.kind = 28
  · rw [h28]; exact kf28 n v w hr h28
  by_cases h29 : n.kind = 29
  · rw [h29]; exact kf29 n v w hr h29
  by_cases h32 : n.kind = 32
  · rw [h32]; exact kf32 n v w hr h32
  by_cases h33 : n.kind = 33
  · rw [h33]; exact kf33 n v w hr h33
  by_cases h34 : n.kind = 34
  · rw [h34]; exact kf34 n v w hr h34
  by_cases h35 : n.kind = 35
  · rw [h35]; exact kf35 n v w hr h35
  by_cases h36 : n.kind = 36
  · rw [h36]; exact kf36 n v w hr h36
  by_cases h37 : n.kind = 37
  · rw [h37]; exact kf37 n v w hr h37
  by_cases h38 : n.kind = 38
  · rw [h38]; exact kf38 n v w hr h38
  by_cases h39 : n.kind = 39
  · rw [h39]; exact kf39 n v w hr h39
  by_cases h42 : n.kind = 42
  · rw [h42]; exact kf42 n v w hr h42
  by_cases h43 : n.kind = 43
  · rw [h43]; exact kf43 n v w hr h43
  by_cases h44 : n.kind = 44
  · rw [h44]; exact kf44 n v w hr h44
  by_cases h45 : n.kind = 45
  · rw [h45]; exact kf45 n v w hr h45
  by_cases h46 : n.kind = 46
  · rw [h46]; exact kf46 n v w hr h46
  by_cases h47 : n.kind = 47
  · rw [h47]; exact kf47 n v w hr h47
  exact kfelse n v w hr _ (fun w' hb => lfW n.kind n.kids v w' (RdK_later hb hr) h4 h6 h7 h8 h9 h10 h11 h12 h14 h15 h16 h17 h18 h19 h20 h21 h22 h25 h27 h28 h29 h32 h33 h34 h35 h36 h37 h38 h39 h42 h43 h44 h45 h46 h47) h4 h6 h7 h8 h9 h10 h11 h12 h14 h15 h16 h17 h18 h19 h20 h21 h22 h25 h27 h28 h29 h32 h33 h34 h35 h36 h37 h38 h39 h42 h43 h44 h45 h46 h47
end Go.Proofs.YtlcpmbdckmdabaaGreatDoor
