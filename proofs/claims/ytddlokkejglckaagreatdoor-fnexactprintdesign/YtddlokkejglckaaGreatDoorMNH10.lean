/- Parts of the proof: NH10 to NI9. -/
import Derived.Test.YtddlokkejglckaaGreatDoorMNH7
import Derived.Test.YtddlokkejglckaaGreatDoorMNS2
import Derived.Deep.MidRow
import Derived.Test.YtddlokkejglckaaGreatDoorMNI5
import Derived.Deep.QuietTactic
import Derived.BigQuiet
import Derived.Deep.RegionWith
namespace Go.Proofs.YtddlokkejglckaaGreatDoor
open Go.RowKit Nt
set_option maxHeartbeats 800000
set_option linter.unusedVariables false
set_option maxRecDepth 100000
theorem kf19f (n : Nd) (v : Value) (w : World) (hr : RdK w n.kids v) (hk : n.kind = 19) (hB : fitK n.kids [2 ^ 8, 2 ^ 5, expK] = false) :
   CB 38 #[ndV n v] w (.bool false) := by
 have K1 : Hid (∀ (W : World) (b : Nat), b = W.heap.size → RdK W n.kids v → Calls Tryz.prog 55 #[v, .slice (some ⟨b, 0, none⟩) 3 3] (W.alloc (Obj.cells #[.int .u64 256, .int .u64 32, .int .u64 281406257233920] 58)) fun e w' => e = .returned (.bool (fitK n.kids [2 ^ 8, 2 ^ 5, expK])) ∧ Below W.heap.size W w') := h_ (fun W b hb hr' => fitCall n.kids [2 ^ 8, 2 ^ 5, expK] v W b (by decide) (by decide) hb hr')
 rw [hB] at K1
 have HR := h_ hr
 obtain ⟨a0, c0, rfl⟩ := RdK_slice hr
 unfold ndV
 rw [hk]
 clear hr hB
 generalize n.text = xt at *
 go_enter Tryz.func38, Tryz.ntmps38
 go_wp2_with (go_at_call 55; refine (u_ K1 (w.alloc _) _ (by simp) (RdK_later (bal (brf w) _) (u_ HR))).mono ?_; rintro e v1 ⟨rfl, hb1⟩)
 go_ret
 exact ⟨rfl, btr (bal (brf w) _) hb1⟩
theorem kf19t (n : Nd) (v : Value) (w : World) (hr : RdK w n.kids v) (hk : n.kind = 19) (hB : fitK n.kids [2 ^ 8, 2 ^ 5, expK] = true) (h3 : n.kids.length = 3) (y : Nd) (hy : n.kids[1]? = some y) :
   CB 38 #[ndV n v] w (.bool (allK (2 ^ 6) y.kids)) := by
 have K1 : Hid (∀ (W : World) (b : Nat), b = W.heap.size → RdK W n.kids v → Calls Tryz.prog 55 #[v, .slice (some ⟨b, 0, none⟩) 3 3] (W.alloc (Obj.cells #[.int .u64 256, .int .u64 32, .int .u64 281406257233920] 58)) fun e w' => e = .returned (.bool (fitK n.kids [2 ^ 8, 2 ^ 5, expK])) ∧ Below W.heap.size W w') := h_ (fun W b hb hr' => fitCall n.kids [2 ^ 8, 2 ^ 5, expK] v W b (by decide) (by decide) hb hr')
 rw [hB] at K1
 have K2 : Hid (∀ w' v', RdK w' y.kids v' → Calls Tryz.prog 56 #[.int .u64 64, v'] w' fun e w'' => e = .returned (.bool (allK (2 ^ 6) y.kids)) ∧ Below w'.heap.size w' w'') := h_ (fun w' v' hr' => iHasAll (2 ^ 6) y.kids v' w' (by decide) hr')
 have HR := h_ hr
 rcases RdK_cases hr with ⟨h0, _⟩ | ⟨b, o, c, vs, hv, hn, hcs⟩
 · rw [h0] at h3; cases h3
 subst hv
 obtain ⟨k1, k2, k3, hts, hkr⟩ := hcs 1 y hy
 rw [Nat.one_mul] at k1 k2 k3
 have HKR := h_ hkr
 obtain ⟨a', c'', hv'⟩ := RdK_slice hkr
 rw [hv'] at k3 HKR
 rw [h3] at K1 HR ⊢
 unfold ndV
 rw [hk]
 have z2 : (w.alloc (Obj.cells #[Value.int IntKind.i64 19, Value.string n.text, Value.slice (some ⟨b, o, none⟩) 3 c] 30)).cell? ⟨w.heap.size, 2, none⟩ = some (.slice (some ⟨b, o, none⟩) 3 c) := by rw [World.cell?_alloc_new]; rfl
 have Z2 := h_ z2
 have KK1 := h_ (c_ (bal (brf w) (Obj.cells #[Value.int IntKind.i64 19, Value.string n.text, Value.slice (some ⟨b, o, none⟩) 3 c] 30)) k1)
 have KK2 := h_ (c_ (bal (brf w) (Obj.cells #[Value.int IntKind.i64 19, Value.string n.text, Value.slice (some ⟨b, o, none⟩) 3 c] 30)) k2)
 have KK3 := h_ (c_ (bal (brf w) (Obj.cells #[Value.int IntKind.i64 19, Value.string n.text, Value.slice (some ⟨b, o, none⟩) 3 c] 30)) k3)
 clear hr hB hcs hkr k1 k2 k3 z2
 generalize n.text = xt at *
 generalize y.text = yt at *
 generalize y.kind = yk at *
 generalize allK (2 ^ 6) y.kids = r at *
 go_enter Tryz.func38, Tryz.ntmps38
 go_wp2_with (first | (go_at_call 56; refine (u_ K2 _ _ (RdK_later (btr (bal (brf w) _) hb1) (u_ HKR))).mono ?_; rintro e v2 ⟨rfl, hb2⟩) | (go_at_call 55; refine (u_ K1 (w.alloc _) _ (by simp) (RdK_later (bal (brf w) _) (u_ HR))).mono ?_; rintro e v1 ⟨rfl, hb1⟩; have j2 := c_ hb1 (u_ Z2); have j3 := c_ hb1 (u_ KK1); have j4 := c_ hb1 (u_ KK2); have j5 := c_ hb1 (u_ KK3)))
 go_ret
 exact ⟨rfl, btr (btr (bal (brf w) _) hb1) hb2⟩
theorem kf19 (n : Nd) (v : Value) (w : World) (hr : RdK w n.kids v) (hk : n.kind = 19) :
   CB 38 #[ndV n v] w (.bool (fitK n.kids [2 ^ 8, 2 ^ 5, expK] && allK (2 ^ 6) ((n.kids.drop 1).headD (.mk 0 ⟨#[]⟩ [])).kids)) := by
 cases hB : fitK n.kids [2 ^ 8, 2 ^ 5, expK] with
 | false => exact kf19f n v w hr hk hB
 | true =>
   rw [Bool.true_and]
   match hks : n.kids with
   | [] => rw [hks] at hB; cases hB
   | [x] => rw [hks] at hB; simp [fitK] at hB
   | [x, y] => rw [hks] at hB; simp [fitK] at hB
   | [x, y, z] => exact kf19t n v w hr hk hB (by rw [hks]; rfl) y (by rw [hks]; rfl)
   | x :: y :: z :: u :: r => rw [hks] at hB; simp [fitK] at hB
theorem kfelse (n : Nd) (v : Value) (w : World) (hr : RdK w n.kids v) (r : Bool) (hL : ∀ w', Below w.heap.size w w' → Calls Tryz.prog 57 #[.int .i64 n.kind, v] w' fun e w'' => e = .returned (.bool r) ∧ Below w'.heap.size w' w'') (h4 : n.kind ≠ 4) (h6 : n.kind ≠ 6) (h7 : n.kind ≠ 7) (h8 : n.kind ≠ 8) (h9 : n.kind ≠ 9) (h10 : n.kind ≠ 10) (h11 : n.kind ≠ 11) (h12 : n.kind ≠ 12) (h14 : n.kind ≠ 14) (h15 : n.kind ≠ 15) (h16 : n.kind ≠ 16) (h17 : n.kind ≠ 17) (h18 : n.kind ≠ 18) (h19 : n.kind ≠ 19) (h20 : n.kind ≠ 20) (h21 : n.kind ≠ 21) (h22 : n.kind ≠ 22) (h25 : n.kind ≠ 25) (h27 : n.kind ≠ 27) (h28 : n.kind ≠ 28) (h29 : n.kind ≠ 29) (h32 : n.kind ≠ 32) (h33 : n.kind ≠ 33) (h34 : n.kind ≠ 34) (h35 : n.kind ≠ 35) (h36 : n.kind ≠ 36) (h37 : n.kind ≠ 37) (h38 : n.kind ≠ 38) (h39 : n.kind ≠ 39) (h42 : n.kind ≠ 42) (h43 : n.kind ≠ 43) (h44 : n.kind ≠ 44) (h45 : n.kind ≠ 45) (h46 : n.kind ≠ 46) (h47 : n.kind ≠ 47) :
   CB 38 #[ndV n v] w (.bool r) := by
 have HL := h_ hL
 obtain ⟨a0, c0, rfl⟩ := RdK_slice hr
 unfold ndV
 clear hr hL
 have a4 : (n.kind == 4) = false := beq_eq_false_iff_ne.2 h4
 have a6 : (n.kind == 6) = false := beq_eq_false_iff_ne.2 h6
 have a7 : (n.kind == 7) = false := beq_eq_false_iff_ne.2 h7
 have a8 : (n.kind == 8) = false := beq_eq_false_iff_ne.2 h8
 have a9 : (n.kind == 9) = false := beq_eq_false_iff_ne.2 h9
 have a10 : (n.kind == 10) = false := beq_eq_false_iff_ne.2 h10
 have a11 : (n.kind == 11) = false := beq_eq_false_iff_ne.2 h11
 have a12 : (n.kind == 12) = false := beq_eq_false_iff_ne.2 h12
 have a14 : (n.kind == 14) = false := beq_eq_false_iff_ne.2 h14
 have a15 : (n.kind == 15) = false := beq_eq_false_iff_ne.2 h15
 have a16 : (n.kind == 16) = false := beq_eq_false_iff_ne.2 h16
 have a17 : (n.kind == 17) = false := beq_eq_false_iff_ne.2 h17
 have a18 : (n.kind == 18) = false := beq_eq_false_iff_ne.2 h18
 have a19 : (n.kind == 19) = false := beq_eq_false_iff_ne.2 h19
 have a20 : (n.kind == 20) = false := beq_eq_false_iff_ne.2 h20
 have a21 : (n.kind == 21) = false := beq_eq_false_iff_ne.2 h21
 have a22 : (n.kind == 22) = false := beq_eq_false_iff_ne.2 h22
 have a25 : (n.kind == 25) = false := beq_eq_false_iff_ne.2 h25
 have a27 : (n.kind == 27) = false := beq_eq_false_iff_ne.2 h27
 have a28 : (n.kind == 28) = false := beq_eq_false_iff_ne.2 h28
 have a29 : (n.kind == 29) = false := beq_eq_false_iff_ne.2 h29
 have a32 : (n.kind == 32) = false := beq_eq_false_iff_ne.2 h32
 have a33 : (n.kind == 33) = false := beq_eq_false_iff_ne.2 h33
 have a34 : (n.kind == 34) = false := beq_eq_false_iff_ne.2 h34
 have a35 : (n.kind == 35) = false := beq_eq_false_iff_ne.2 h35
 have a36 : (n.kind == 36) = false := beq_eq_false_iff_ne.2 h36
 have a37 : (n.kind == 37) = false := beq_eq_false_iff_ne.2 h37
 have a38 : (n.kind == 38) = false := beq_eq_false_iff_ne.2 h38
 have a39 : (n.kind == 39) = false := beq_eq_false_iff_ne.2 h39
 have a42 : (n.kind == 42) = false := beq_eq_false_iff_ne.2 h42
 have a43 : (n.kind == 43) = false := beq_eq_false_iff_ne.2 h43
 have a44 : (n.kind == 44) = false := beq_eq_false_iff_ne.2 h44
 have a45 : (n.kind == 45) = false := beq_eq_false_iff_ne.2 h45
 have a46 : (n.kind == 46) = false := beq_eq_false_iff_ne.2 h46
 have a47 : (n.kind == 47) = false := beq_eq_false_iff_ne.2 h47
 clear h4 h6 h7 h8 h9 h10 h11 h12 h14 h15 h16 h17 h18 h19 h20 h21 h22 h25 h27 h28 h29 h32 h33 h34 h35 h36 h37 h38 h39 h42 h43 h44 h45 h46 h47
 generalize n.kind = xk, n.text = xt at *
 go_enter Tryz.func38, Tryz.ntmps38
 go_wp2_with (go_at_call 57; refine (u_ HL _ (bal (brf w) _)).mono ?_; rintro e v1 ⟨rfl, hb1⟩)
 go_ret
 exact ⟨rfl, btr (bal (brf w) _) hb1⟩
theorem kd_of {k : Int} {ks : List Nd} {B : Bool} (K : Int) (h : k = K) (e : kdB K ks = B) : kdB k ks = B := by rw [h]; exact e
theorem kdB_no (k : Int) (ks : List Nd) (h4 : k ≠ 4) (h6 : k ≠ 6) (h7 : k ≠ 7) (h8 : k ≠ 8) (h9 : k ≠ 9) (h10 : k ≠ 10) (h11 : k ≠ 11) (h12 : k ≠ 12) (h14 : k ≠ 14) (h15 : k ≠ 15) (h16 : k ≠ 16) (h17 : k ≠ 17) (h18 : k ≠ 18) (h19 : k ≠ 19) (h20 : k ≠ 20) (h21 : k ≠ 21) (h22 : k ≠ 22) (h25 : k ≠ 25) (h27 : k ≠ 27) (h28 : k ≠ 28) (h29 : k ≠ 29) (h32 : k ≠ 32) (h33 : k ≠ 33) (h34 : k ≠ 34) (h35 : k ≠ 35) (h36 : k ≠ 36) (h37 : k ≠ 37) (h38 : k ≠ 38) (h39 : k ≠ 39) (h42 : k ≠ 42) (h43 : k ≠ 43) (h44 : k ≠ 44) (h45 : k ≠ 45) (h46 : k ≠ 46) (h47 : k ≠ 47) (h1 : k ≠ 1) (h2 : k ≠ 2) (h3 : k ≠ 3) (h5 : k ≠ 5) (h13 : k ≠ 13) (h23 : k ≠ 23) (h24 : k ≠ 24) (h26 : k ≠ 26) (h30 : k ≠ 30) (h31 : k ≠ 31) (h40 : k ≠ 40) (h41 : k ≠ 41) : kdB k ks = false := by
 unfold kdB
 simp only [h4, h6, h7, h8, h9, h10, h11, h12, h14, h15, h16, h17, h18, h19, h20, h21, h22, h25, h27, h28, h29, h32, h33, h34, h35, h36, h37, h38, h39, h42, h43, h44, h45, h46, h47, h1, h2, h3, h5, h13, h23, h24, h26, h30, h31, h40, h41, or_self, if_false]
theorem lfW (k : Int) (ks : List Nd) (v : Value) (w : World) (hr : RdK w ks v) (h4 : k ≠ 4) (h6 : k ≠ 6) (h7 : k ≠ 7) (h8 : k ≠ 8) (h9 : k ≠ 9) (h10 : k ≠ 10) (h11 : k ≠ 11) (h12 : k ≠ 12) (h14 : k ≠ 14) (h15 : k ≠ 15) (h16 : k ≠ 16) (h17 : k ≠ 17) (h18 : k ≠ 18) (h19 : k ≠ 19) (h20 : k ≠ 20) (h21 : k ≠ 21) (h22 : k ≠ 22) (h25 : k ≠ 25) (h27 : k ≠ 27) (h28 : k ≠ 28) (h29 : k ≠ 29) (h32 : k ≠ 32) (h33 : k ≠ 33) (h34 : k ≠ 34) (h35 : k ≠ 35) (h36 : k ≠ 36) (h37 : k ≠ 37) (h38 : k ≠ 38) (h39 : k ≠ 39) (h42 : k ≠ 42) (h43 : k ≠ 43) (h44 : k ≠ 44) (h45 : k ≠ 45) (h46 : k ≠ 46) (h47 : k ≠ 47) :
   CB 57 #[.int .i64 k, v] w (.bool (kdB k ks)) := by
 by_cases h1 : k = 1
 · subst h1; exact lf1 ks v w hr
 by_cases h3 : k = 3
 · subst h3; exact lf3 ks v w hr
 by_cases h5 : k = 5
 · subst h5; exact lf5 ks v w hr
 by_cases h13 : k = 13
 · subst h13; exact lf13 ks v w hr
 by_cases h23 : k = 23
 · subst h23; exact lf23 ks v w hr
 by_cases h24 : k = 24
 · subst h24; exact lf24 ks v w hr
 by_cases h26 : k = 26
 · subst h26; exact lf26 ks v w hr
 by_cases h40 : k = 40
 · subst h40; exact lf40 ks v w hr
 by_cases h41 : k = 41
 · subst h41; exact lf41 ks v w hr
 by_cases h2 : k = 2
 · subst h2
   have e : kdB 2 ks = (decide (2 ≤ ks.length) && fitK (ks.take 2) [2 ^ 3, 2 ^ 5] && allK itmK (ks.drop 2)) := rfl
   rw [e]
   by_cases hl : 2 ≤ ks.length
   · rw [decide_eq_true hl, Bool.true_and]; exact lf2 ks v w hr hl
   · rw [decide_eq_false hl]; exact lf2z ks v w hr hl
 by_cases h30 : k = 30
 · subst h30
   cases ks with
   | nil => exact lf30z v w hr
   | cons x xs => exact lf30 x xs v w hr
 by_cases h31 : k = 31
 · subst h31
   have e : kdB 31 ks = (decide (2 ≤ ks.length) && allK expK ks.dropLast && (match ks.getLast? with | some x => decide (x.kind = 26) | none => false)) := rfl
   rw [e]
   by_cases hl : 2 ≤ ks.length
   · obtain ⟨m, hm⟩ : ∃ m, ks.length = m + 1 := ⟨ks.length - 1, by omega⟩
     obtain ⟨y, hy⟩ : ∃ y, ks[m]? = some y := ⟨_, List.getElem?_eq_getElem (by omega)⟩
     have hla : ks.getLast? = some y := by rw [List.getLast?_eq_getElem?, hm]; exact hy
     rw [decide_eq_true hl, Bool.true_and, hla, List.dropLast_eq_take, hm]
     exact lf31 ks v w hr m hm (by omega) y hy
   · rw [decide_eq_false hl]; exact lf31z ks v w hr (by omega)
 rw [kdB_no k ks h4 h6 h7 h8 h9 h10 h11 h12 h14 h15 h16 h17 h18 h19 h20 h21 h22 h25 h27 h28 h29 h32 h33 h34 h35 h36 h37 h38 h39 h42 h43 h44 h45 h46 h47 h1 h2 h3 h5 h13 h23 h24 h26 h30 h31 h40 h41]
 exact lfno k v w h1 h2 h3 h5 h13 h23 h24 h26 h30 h31 h40 h41
theorem iKids (n : Nd) (v : Value) (w : World) (hr : RdK w n.kids v) :
   CB 38 #[ndV n v] w (.bool (kdB n.kind n.kids)) := by
 by_cases h4 : n.kind = 4
 · rw [h4]; exact kf4 n v w hr h4
 by_cases h6 : n.kind = 6
 · rw [h6]; exact kf6 n v w hr h6
 by_cases h7 : n.kind = 7
 · rw [h7]; exact kf7 n v w hr h7
 by_cases h8 : n.kind = 8
 · rw [h8]; exact kf8 n v w hr h8
 by_cases h9 : n.kind = 9
 · rw [h9]; exact kf9 n v w hr h9
 by_cases h10 : n.kind = 10
 · rw [h10]; exact kf10 n v w hr h10
 by_cases h11 : n.kind = 11
 · rw [h11]; exact kf11 n v w hr h11
 by_cases h12 : n.kind = 12
 · rw [h12]; exact kf12 n v w hr h12
 by_cases h14 : n.kind = 14
 · rw [h14]; exact kf14 n v w hr h14
 by_cases h15 : n.kind = 15
 · rw [h15]; exact kf15 n v w hr h15
 by_cases h16 : n.kind = 16
 · rw [h16]; exact kf16 n v w hr h16
 by_cases h17 : n.kind = 17
 · rw [h17]; exact kf17 n v w hr h17
 by_cases h18 : n.kind = 18
 · rw [h18]; exact kf18 n v w hr h18
 by_cases h19 : n.kind = 19
 · rw [h19]; exact kf19 n v w hr h19
 by_cases h20 : n.kind = 20
 · rw [h20]; exact kf20 n v w hr h20
 by_cases h21 : n.kind = 21
 · rw [h21]; exact kf21 n v w hr h21
 by_cases h22 : n.kind = 22
 · rw [h22]; exact kf22 n v w hr h22
 by_cases h25 : n.kind = 25
 · rw [h25]; exact kf25 n v w hr h25
 by_cases h27 : n.kind = 27
 · rw [h27]; exact kf27 n v w hr h27
 by_cases h28 : n.kind = 28
 · rw [h28]; exact kf28 n v w hr h28
 by_cases h29 : n.kind = 29
 · rw [h29]; exact kf29 n v w hr h29
 by_cases h32 : n.kind = 32
 · rw [h32]; exact kf32 n v w hr h32
 by_cases h33 : n.kind = 33
 · rw [h33]; exact kf33 n v w hr h33
 by_cases h34 : n.kind = 34
 · rw [h34]; exact kf34 n v w hr h34
 by_cases h35 : n.kind = 35
 · rw [h35]; exact kf35 n v w hr h35
 by_cases h36 : n.kind = 36
 · rw [h36]; exact kf36 n v w hr h36
 by_cases h37 : n.kind = 37
 · rw [h37]; exact kf37 n v w hr h37
 by_cases h38 : n.kind = 38
 · rw [h38]; exact kf38 n v w hr h38
 by_cases h39 : n.kind = 39
 · rw [h39]; exact kf39 n v w hr h39
 by_cases h42 : n.kind = 42
 · rw [h42]; exact kf42 n v w hr h42
 by_cases h43 : n.kind = 43
 · rw [h43]; exact kf43 n v w hr h43
 by_cases h44 : n.kind = 44
 · rw [h44]; exact kf44 n v w hr h44
 by_cases h45 : n.kind = 45
 · rw [h45]; exact kf45 n v w hr h45
 by_cases h46 : n.kind = 46
 · rw [h46]; exact kf46 n v w hr h46
 by_cases h47 : n.kind = 47
 · rw [h47]; exact kf47 n v w hr h47
 exact kfelse n v w hr _ (fun w' hb => lfW n.kind n.kids v w' (RdK_later hb hr) h4 h6 h7 h8 h9 h10 h11 h12 h14 h15 h16 h17 h18 h19 h20 h21 h22 h25 h27 h28 h29 h32 h33 h34 h35 h36 h37 h38 h39 h42 h43 h44 h45 h46 h47) h4 h6 h7 h8 h9 h10 h11 h12 h14 h15 h16 h17 h18 h19 h20 h21 h22 h25 h27 h28 h29 h32 h33 h34 h35 h36 h37 h38 h39 h42 h43 h44 h45 h46 h47
def grpL : List Nat := [1, 2, 3, 4, 5, 6, 6, 6, 7, 7, 7, 7, 8, 8, 8, 9, 9, 10, 10, 10]
def opsV : List Value := (List.range 20).flatMap fun k => [.string (S (binL.getD k [])), .int .i64 (grpL.getD k 0 : Nat)]
theorem opsV_len : opsV.length = 40 := by decide
theorem opsV_at (k : Nat) (h : k < 20) : opsV.toArray[k * 2]? = some (.string (S (binL.getD k []))) ∧ opsV.toArray[k * 2 + 1]? = some (.int .i64 (grpL.getD k 0 : Nat)) := by
 have : ∀ k : Fin 20, opsV.toArray[k.val * 2]? = some (.string (S (binL.getD k.val []))) ∧ opsV.toArray[k.val * 2 + 1]? = some (.int .i64 (grpL.getD k.val 0 : Nat)) := by
   intro k
   match k with
   | ⟨0, _⟩ | ⟨1, _⟩ | ⟨2, _⟩ | ⟨3, _⟩ | ⟨4, _⟩ | ⟨5, _⟩ | ⟨6, _⟩ | ⟨7, _⟩ | ⟨8, _⟩ | ⟨9, _⟩ | ⟨10, _⟩ | ⟨11, _⟩ | ⟨12, _⟩ | ⟨13, _⟩ | ⟨14, _⟩ | ⟨15, _⟩ | ⟨16, _⟩ | ⟨17, _⟩ | ⟨18, _⟩ | ⟨19, _⟩ => exact ⟨rfl, rfl⟩
   | ⟨n + 20, h⟩ => exact absurd h (by omega)
 exact this ⟨k, h⟩
theorem run_index_ops (k : Nat) (M : Array Value) (x y : Value) (w : World) (hk : k < 20) (hx : M[k * 2]? = some x) (hy : M[k * 2 + 1]? = some y) : (Instr.index 95 (.agg M) (.int .i64 (k : Int))).run Tryz.prog w = .ok (.agg #[x, y]) w := by
 have h0 : (0 : Int) ≤ (k : Int) ∧ (k : Int) < ((20 : Nat) : Int) := by omega
 have c9 : (sizeOf 94).run Tryz.prog w = .ok 2 w := by kernel_rfl
 simp [Instr.index, run_underlying Tryz.underlying95, asIntOf, h0, go_sem, c9]
 rw [if_pos hk]
 obtain ⟨l1, e1⟩ := Array.getElem?_eq_some_iff.1 hx
 obtain ⟨l2, e2⟩ := Array.getElem?_eq_some_iff.1 hy
 have : M.extract (k * 2) (k * 2 + 2) = #[x, y] := by
   apply Array.ext
   · rw [Array.size_extract]; simp; omega
   · intro i h1 h2
     rw [Array.getElem_extract]
     have h2' : i < 2 := h2
     match i, h2' with
     | 0, _ => simpa using e1
     | 1, _ => simpa using e2
 rw [this]
def Ops (w : World) : Prop := w.rangeAt 0 0 opsV
theorem Ops_later {w v : World} (h : Ops w) (hb : Below w.heap.size w v) : Ops v := by
 have h0 : 0 < w.heap.size := World.block_lt_of_cell? w _ (h 0 _ rfl)
 exact fun j x hx => (hb.cell (p := ⟨0, 0 + j, none⟩) h0).trans (h j x hx)
theorem iGroup (s : ByteArray) (w : World) (hM : Ops w) : Calls Tryz.prog 54 #[.string s] w fun e w' => (∃ g : Int, e = .returned (.int .i64 g) ∧ decide (0 < g) = binL.contains (L s)) ∧ Below w.heap.size w w' := by
 go_enter Tryz.func54, Tryz.ntmps54
 go_wp2_with (refine wpList_load_mid rfl 95 (.global 0) rfl 0 0 rfl opsV _ hM Tryz.underlying95 rfl (by kernel_rfl) ?_)
 go_loopw [6] (fun i wr => ∃ k : Nat, k ≤ 20 ∧ i = .int .i64 k ∧ Below w.heap.size w wr ∧ ∀ j, j < k → (binL.getD j [] == L s) = false) (fun i wr => 20 - (intOf i).toNat)
 case atStart => exact ⟨0, Nat.zero_le _, rfl, brf _, fun j hj => absurd hj (Nat.not_lt_zero _)⟩
 case round =>
   obtain ⟨k, hk, rfl, hb, hno⟩ := hrel
   have HB := h_ hb
   have HNO := h_ hno
   clear hb hno
   by_cases hk2 : k < 20
   · have hix := fun v => run_index_ops k opsV.toArray _ _ v hk2 (opsV_at k hk2).1 (opsV_at k hk2).2
     have hgp : 0 < grpL.getD k 0 := by
       have : ∀ k : Fin 20, 0 < grpL.getD k.val 0 := by decide
       exact this ⟨k, hk2⟩
     have hmem : binL.getD k [] ∈ binL := by
       rw [List.getD_eq_getElem?_getD, List.getElem?_eq_getElem (show k < binL.length from hk2)]
       exact List.getElem_mem _
     have hq : ((S (binL.getD k [])).toList == s.toList) = (binL.getD k [] == L s) := by rw [toListL, toListL, L_S]
     cases hp : (binL.getD k [] == L s) with
     | true =>
       rw [hp] at hq
       have HC : Hid (binL.contains (L s) = true) := h_ (by
         rw [List.contains_iff_mem]; rw [← (beq_iff_eq.1 hp)]; exact hmem)
       clear hp hmem
       generalize binL.getD k [] = m at hix hq
       generalize grpL.getD k 0 = g at hix hgp
       generalize opsV.toArray = M at *
       go_wp2
       exact bodyPost_ret (v := .int .i64 (g : Nat)) (by simp [results, Tryz.results54, go_sem]) rfl ⟨⟨_, rfl, by rw [u_ HC, decide_eq_true (by omega)]⟩, bal (u_ HB) _⟩
     | false =>
       rw [hp] at hq
       have HQ := h_ hp
       clear hp hmem
       generalize hmm : binL.getD k [] = m at hix hq
       generalize grpL.getD k 0 = g at hix hgp
       generalize opsV.toArray = M at *
       go_wp2
       refine ⟨⟨k + 1, by omega, by go_num, bal (u_ HB) _, fun j hj => ?_⟩, by simp [intOf]; omega⟩
       by_cases hjk : j = k
       · subst hjk; exact u_ HQ
       · exact u_ HNO j (by omega)
   · obtain rfl : k = 20 := by omega
     have HC : Hid (binL.contains (L s) = false) := h_ (by
       rw [← Bool.not_eq_true, List.contains_iff_mem]
       intro hm
       obtain ⟨j, hj, e⟩ := List.mem_iff_getElem.1 hm
       have := u_ HNO j hj
       rw [List.getD_eq_getElem?_getD, List.getElem?_eq_getElem hj] at this
       rw [show (some binL[j]).getD [] = binL[j] from rfl, e] at this
       simp at this)
     generalize opsV.toArray = M at *
     go_wp2
     exact bodyPost_ret (v := .int .i64 0) (by simp [results, Tryz.results54, go_sem]) rfl ⟨⟨_, rfl, by rw [u_ HC]; rfl⟩, u_ HB⟩
end Go.Proofs.YtddlokkejglckaaGreatDoor
namespace Go.Proofs.YtddlokkejglckaaGreatDoor
open Go.RowKit
set_option maxHeartbeats 400000
set_option maxRecDepth 100000
set_option linter.unusedVariables false
set_option linter.unusedSimpArgs false
def baseR (n : Nat) (b : UInt8) (v : List UInt8) : List UInt8 × Nat := if b = 100 then decR n v else ndigR (Nb.baseN b) n v
set_option maxRecDepth 100000 in
theorem iBase_d (s : ByteArray) (n : Nat) (w : World) (hs : s.size ≤ 1000) (h1 : 1 ≤ n) (h2 : n ≤ 64) (h0 : L s ≠ []) (hg : Gd w) (R : List UInt8 × Nat) (hR : decR n (L s) = R) :
   CB 71 #[.int .u8 100, .string s, .int .i64 n] w (bdV R) := by
 have D := h_ (fun v hg => iDec s n v (by omega) h1 h2 h0 hg)
 rw [hR] at D
 unfold bdV at D ⊢
 have HG := h_ hg
 clear hR hg h0
 go_enter Tryz.func71, Tryz.ntmps71
 go_wp2_with fail
 refine (u_ D _ (u_ HG)).mono ?_
 rintro e v1 ⟨rfl, hb1⟩
 go_wp2
 exact bodyPost_ret (v := .tuple #[.string (S R.1), .int .i64 (R.2 : Nat)]) (by simp [results, Tryz.results71, go_sem]) rfl ⟨rfl, hb1⟩
set_option maxRecDepth 100000 in
theorem iBase_b (s : ByteArray) (n : Nat) (w : World) (hs : s.size ≤ 1000) (h1 : 1 ≤ n) (h2 : n ≤ 64) (hv : (L s).all Nb.valB = true) (h0 : 1 ≤ s.size) (R : List UInt8 × Nat) (hR : ndigR 1 n (L s) = R) :
   CB 71 #[.int .u8 98, .string s, .int .i64 n] w (bdV R) := by
 have D : Hid (∀ v, CB 89 #[.string s, .int .i64 1, .int .i64 n] v (bdV R)) := fun v => iDigs s 1 n v hs h1 h2 (by omega) hv h0 R hR
 unfold bdV at D ⊢
 clear hR hv
 go_enter Tryz.func71, Tryz.ntmps71
 go_wp2_with fail
 refine (u_ D _).mono ?_
 rintro e v1 ⟨rfl, hb1⟩
 go_wp2
 exact bodyPost_ret (v := .tuple #[.string (S R.1), .int .i64 (R.2 : Nat)]) (by simp [results, Tryz.results71, go_sem]) rfl ⟨rfl, hb1⟩
set_option maxRecDepth 100000 in
theorem iBase_o (s : ByteArray) (n : Nat) (w : World) (hs : s.size ≤ 1000) (h1 : 1 ≤ n) (h2 : n ≤ 64) (hv : (L s).all Nb.valB = true) (h0 : 1 ≤ s.size) (R : List UInt8 × Nat) (hR : ndigR 3 n (L s) = R) :
   CB 71 #[.int .u8 111, .string s, .int .i64 n] w (bdV R) := by
 have D : Hid (∀ v, CB 89 #[.string s, .int .i64 3, .int .i64 n] v (bdV R)) := fun v => iDigs s 3 n v hs h1 h2 (by omega) hv h0 R hR
 unfold bdV at D ⊢
 clear hR hv
 go_enter Tryz.func71, Tryz.ntmps71
 go_wp2_with fail
 refine (u_ D _).mono ?_
 rintro e v1 ⟨rfl, hb1⟩
 go_wp2
 exact bodyPost_ret (v := .tuple #[.string (S R.1), .int .i64 (R.2 : Nat)]) (by simp [results, Tryz.results71, go_sem]) rfl ⟨rfl, hb1⟩
set_option maxRecDepth 100000 in
theorem iBase_h (s : ByteArray) (n : Nat) (w : World) (hs : s.size ≤ 1000) (h1 : 1 ≤ n) (h2 : n ≤ 64) (hv : (L s).all Nb.valB = true) (h0 : 1 ≤ s.size) (R : List UInt8 × Nat) (hR : ndigR 4 n (L s) = R) :
   CB 71 #[.int .u8 104, .string s, .int .i64 n] w (bdV R) := by
 have D : Hid (∀ v, CB 89 #[.string s, .int .i64 4, .int .i64 n] v (bdV R)) := fun v => iDigs s 4 n v hs h1 h2 (by omega) hv h0 R hR
 unfold bdV at D ⊢
 clear hR hv
 go_enter Tryz.func71, Tryz.ntmps71
 go_wp2_with fail
 refine (u_ D _).mono ?_
 rintro e v1 ⟨rfl, hb1⟩
 go_wp2
 exact bodyPost_ret (v := .tuple #[.string (S R.1), .int .i64 (R.2 : Nat)]) (by simp [results, Tryz.results71, go_sem]) rfl ⟨rfl, hb1⟩
theorem iBase (b : UInt8) (s : ByteArray) (n : Nat) (w : World) (hs : s.size ≤ 1000) (h1 : 1 ≤ n) (h2 : n ≤ 64) (hb : Nb.baseB b = true) (hv : (L s).all Nb.valB = true) (h0 : 1 ≤ s.size) (hg : Gd w) :
   CB 71 #[.int .u8 (b.toNat : Int), .string s, .int .i64 n] w (bdV (baseR n b (L s))) := by
 have hne : L s ≠ [] := fun e => by have := L_len s; rw [e] at this; simp at this; omega
 rcases Nb.base_cases hb with rfl | rfl | rfl | rfl
 · exact iBase_b s n w hs h1 h2 hv h0 _ rfl
 · exact iBase_o s n w hs h1 h2 hv h0 _ rfl
 · exact iBase_h s n w hs h1 h2 hv h0 _ rfl
 · exact iBase_d s n w hs h1 h2 hne hg _ rfl
theorem index_at : ∀ (d r : List UInt8), d.all Nb.digB = true → Lib.index (d ++ 39 :: r) [39] = (d.length : Int)
 | [], r, _ => by rw [List.nil_append, Lib.index]; simp
 | c :: d, r, h => by
   have hc : Nb.digB c = true := by simp at h; exact h.1
   have hne : c ≠ 39 := fun e => by rw [e] at hc; exact absurd hc (by decide)
   have ih := index_at d r (by simp at h ⊢; exact h.2)
   rw [List.cons_append, Lib.index, ih]
   rw [if_neg (by simp [List.isPrefixOf]; exact fun e => hne e.symm), if_neg (by simp)]
   simp
theorem index_no : ∀ (d : List UInt8), d.all Nb.digB = true → Lib.index d [39] = -1
 | [], _ => rfl
 | c :: d, h => by
   have hc : Nb.digB c = true := by simp at h; exact h.1
   have hne : c ≠ 39 := fun e => by rw [e] at hc; exact absurd hc (by decide)
   have ih := index_no d (by simp at h ⊢; exact h.2)
   rw [Lib.index, ih, if_neg (by simp [List.isPrefixOf]; exact fun e => hne e.symm)]; rfl
set_option maxRecDepth 100000 in
theorem iCutI (s : ByteArray) (w : World) (hs : s.size ≤ 1000) (i : Int) (hi : Lib.indexByte (L s) 39 = i) (h1 : -1 ≤ i) (h2 : i < s.size) :
   CB 84 #[.string s, .string ⟨#[39]⟩] w (.tuple #[.string (S (if 0 ≤ i then (L s).take i.toNat else L s)), .string (S (if 0 ≤ i then (L s).drop (i.toNat + 1) else [])), .bool (decide (0 ≤ i))]) := by
 have I : Hid (∀ v, Calls Tryz.prog 98 #[.string s, .string ⟨#[39]⟩] v fun e w' => e = .returned (.int .i64 i) ∧ v = w') := fun v => (Tryz.stringslite_Index_one s 39 v).mono fun e w' ⟨a, b⟩ => ⟨by rw [a]; exact congrArg (fun x => Ending.returned (.int .i64 x)) hi, b.symm⟩
 by_cases h0 : 0 ≤ i
 · obtain ⟨k, rfl⟩ : ∃ k : Nat, i = k := ⟨i.toNat, by omega⟩
   rw [if_pos h0, if_pos h0, decide_eq_true h0, Int.toNat_natCast]
   have x1 : s.extract 0 k = S ((L s).take k) := by apply L_inj; rw [L_extract, L_S, List.drop_zero, Nat.sub_zero]
   have x2 : s.extract (k + 1) s.size = S ((L s).drop (k + 1)) := by
     apply L_inj; rw [L_extract, L_S, List.take_of_length_le (by rw [List.length_drop, L_len]; exact Nat.le_refl _)]
   have hk : k < s.size := by omega
   clear hi
   generalize S ((L s).take k) = T1 at *
   generalize S ((L s).drop (k + 1)) = T2 at *
   go_enter Tryz.func84, Tryz.ntmps84
   go_wp2_with (first | (go_at_call 98; refine (u_ I _).mono ?_; rintro e w' ⟨rfl, rfl⟩))
   go_quiet (fail)
   go_wp2
   exact bodyPost_ret (v := .tuple #[.string T1, .string T2, .bool true]) (by simp [results, Tryz.results84, go_sem]) rfl ⟨rfl, below_drewN (brf _) _⟩
 · rw [if_neg h0, if_neg h0, decide_eq_false h0, S_L]
   clear hi
   go_enter Tryz.func84, Tryz.ntmps84
   go_wp2_with (first | (go_at_call 98; refine (u_ I _).mono ?_; rintro e w' ⟨rfl, rfl⟩))
   exact bodyPost_ret (v := .tuple #[.string s, .string (S []), .bool false]) (by simp [results, Tryz.results84, go_sem, S]) rfl ⟨rfl, brf _⟩
set_option maxRecDepth 100000 in
theorem iCutW (s : ByteArray) (w : World) (hs : s.size ≤ 1000) (i : Int) (hi : Lib.indexByte (L s) 39 = i) (h1 : -1 ≤ i) (h2 : i < s.size) :
   CB 67 #[.string s, .string ⟨#[39]⟩] w (.tuple #[.string (S (if 0 ≤ i then (L s).take i.toNat else L s)), .string (S (if 0 ≤ i then (L s).drop (i.toNat + 1) else [])), .bool (decide (0 ≤ i))]) := by
 have I := h_ (fun v => iCutI s v hs i hi h1 h2)
 generalize S (if 0 ≤ i then (L s).take i.toNat else L s) = T1 at *
 generalize S (if 0 ≤ i then (L s).drop (i.toNat + 1) else []) = T2 at *
 generalize decide (0 ≤ i) = g at *
 clear hi
 go_enter Tryz.func67, Tryz.ntmps67
 go_wp2_with (go_at_call 84; refine (u_ I _).mono ?_; rintro e v1 ⟨rfl, hb1⟩)
 exact bodyPost_ret (v := .tuple #[.string T1, .string T2, .bool g]) (by simp [results, Tryz.results67, go_sem]) rfl ⟨rfl, hb1⟩
theorem index_is : ∀ (s : List UInt8) (c : UInt8), Lib.index s [c] = Lib.indexByte s c
 | [], c => rfl
 | b :: l, c => by
   rw [Lib.index, Lib.indexByte, index_is l c]
   by_cases h : b = c
   · subst h; simp [List.isPrefixOf]
   · have e1 : ([c] : List UInt8).isPrefixOf (b :: l) = false := by simp [List.isPrefixOf]; exact fun e => h e.symm
     have e2 : (b == c) = false := by rw [beq_eq_false_iff_ne]; exact h
     rw [e1, e2]
theorem indexByte_lt : ∀ (s : List UInt8) (c : UInt8), Lib.indexByte s c < s.length ∧ -1 ≤ Lib.indexByte s c
 | [], c => by simp [Lib.indexByte]
 | b :: l, c => by
   have ih := indexByte_lt l c
   rw [Lib.indexByte, List.length_cons]
   split
   · omega
   · split
     · omega
     · rename_i h1 h2
       have : Lib.indexByte l c ≠ -1 := by simpa using h2
       omega
theorem iCutQ (s : ByteArray) (w : World) (hs : s.size ≤ 1000) (hg : Gd w) :
   CB 67 #[.string s, .string ⟨#[39]⟩] w (.tuple #[.string (S (Lib.cut (L s) [39]).1), .string (S (Lib.cut (L s) [39]).2.1), .bool (Lib.cut (L s) [39]).2.2]) := by
 have hb := indexByte_lt (L s) 39
 rw [L_len] at hb
 have h := iCutW s w hs _ rfl hb.2 hb.1
 unfold Lib.cut
 rw [index_is]
 by_cases h0 : 0 ≤ Lib.indexByte (L s) 39
 · rw [if_pos h0, if_pos h0, decide_eq_true h0] at h
   rw [if_pos h0]; exact h
 · rw [if_neg h0, if_neg h0, decide_eq_false h0] at h
   rw [if_neg h0]; exact h
theorem cut_at {l d r : List UInt8} (hl : l = d ++ 39 :: r) (hd : d.all Nb.digB = true) : Lib.cut l [39] = (d, r, true) := by
 subst hl
 unfold Lib.cut
 rw [index_at d r hd, if_pos (by omega), Int.toNat_natCast, List.take_left]
 have e : (d ++ 39 :: r : List UInt8) = (d ++ [39]) ++ r := by simp
 rw [e, List.drop_left' (by simp)]
theorem cut_no {l : List UInt8} (hd : l.all Nb.digB = true) : Lib.cut l [39] = (l, [], false) := by
 unfold Lib.cut; rw [index_no l hd, if_neg (by omega)]
set_option maxRecDepth 100000 in
theorem iNB_long (s : ByteArray) (w : World) (hs : s.size ≤ maxLen) (h : 1000 < s.size) :
   CB 52 #[.string s] w (nbV ([], false, 2)) := by
 have q : (1000 : Int) < s.size := by omega
 unfold maxLen at hs
 go_enter Tryz.func52, Tryz.ntmps52
 go_wp2
 exact bodyPost_ret (v := nbV ([], false, 2)) (by simp [results, Tryz.results52, go_sem, nbV, S]) rfl ⟨rfl, brf _⟩
theorem toList_L (s : ByteArray) : s.toList = L s := by rw [ByteArray.toList_eq]; rfl
set_option maxRecDepth 100000 in
theorem iNB_form (s : ByteArray) (w : World) (h : s.size ≤ 1000) (hf : s.size = 0 ∨ Nb.numZ (L s) ≠ s.size) :
   CB 52 #[.string s] w (nbV ([], false, 3)) := by
 have N := h_ (fun v => iNumSize s v (by omega))
 by_cases h0 : s.size = 0
 · have he : s.toList.isEmpty = true := by
     rw [toList_L]; have : L s = [] := List.eq_nil_of_length_eq_zero (by rw [L_len]; exact h0)
     rw [this]; rfl
   clear hf h0
   go_enter Tryz.func52, Tryz.ntmps52
   go_wp2_with (go_at_call 66; refine (u_ N _).mono ?_; rintro e v1 ⟨rfl, hb1⟩)
   exact bodyPost_ret (v := nbV ([], false, 3)) (by simp [results, Tryz.results52, go_sem, nbV, S]) rfl ⟨rfl, brf _⟩
 · have he : s.toList.isEmpty = false := by
     rw [toList_L]; cases hL : L s with
     | nil => (have := L_len s; rw [hL] at this; simp at this; omega)
     | cons _ _ => rfl
   generalize Nb.numZ (L s) = E at *
   have q : ((E : Int) != (s.size : Int)) = true := by rw [bne_iff_ne]; omega
   clear hf h0
   go_enter Tryz.func52, Tryz.ntmps52
   go_wp2_with (go_at_call 66; refine (u_ N _).mono ?_; rintro e v1 ⟨rfl, hb1⟩)
   exact bodyPost_ret (v := nbV ([], false, 3)) (by simp [results, Tryz.results52, go_sem, nbV, S]) rfl ⟨rfl, hb1⟩
theorem iPre (sg : Bool) (b : UInt8) (v : List UInt8) (w : World) (hb : Nb.baseB b = true) :
   Calls Tryz.prog 70 #[.string (S ((if sg = true then [115] else []) ++ b :: v)), .string ⟨#[115]⟩] w fun e w' => e = .returned (.tuple #[.string (S (b :: v)), .bool sg]) ∧ w = w' := by
 refine (Tryz.strings_CutPrefix _ ⟨#[115]⟩ w).mono fun e w' ⟨a, c⟩ => ⟨?_, c.symm⟩
 rw [a]
 show Ending.returned (.tuple #[.string (S (Lib.trimPrefix (L (S _)) [115])), .bool (Lib.hasPrefix (L (S _)) [115])]) = _
 rw [L_S]
 cases sg
 · have hne : b ≠ 115 := fun e => by rw [e] at hb; exact absurd hb (by decide)
   have hp : Lib.hasPrefix (b :: v) [115] = false := by
     unfold Lib.hasPrefix; simp [List.isPrefixOf]; exact fun e => hne e.symm
   rw [if_neg (by decide), List.nil_append]
   unfold Lib.trimPrefix
   rw [hp, if_neg (by decide)]
 · have hp : Lib.hasPrefix (115 :: b :: v) [115] = true := by unfold Lib.hasPrefix; simp [List.isPrefixOf]
   rw [if_pos rfl]
   show Ending.returned (.tuple #[.string (S (Lib.trimPrefix (115 :: b :: v) [115])), .bool (Lib.hasPrefix (115 :: b :: v) [115])]) = _
   unfold Lib.trimPrefix
   rw [hp, if_pos rfl]; rfl
set_option maxRecDepth 100000 in
theorem iNB_plain (s : ByteArray) (w : World) (h : s.size ≤ 1000) (h0 : 1 ≤ s.size) (hz : Nb.numZ (L s) = s.size) (hd : (L s).all Nb.digB = true) (hg : Gd w) (R : List UInt8 × Bool × Nat) (hR : Nb.plain (L s) = R) :
   CB 52 #[.string s] w (nbV R) := by
 have hne : L s ≠ [] := fun e => by have := L_len s; rw [e] at this; simp at this; omega
 have N := h_ (fun v => iNumSize s v (by omega))
 rw [hz] at N
 have he : s.toList.isEmpty = false := by
   rw [toList_L]; cases hL : L s with
   | nil => exact absurd hL hne
   | cons _ _ => rfl
 have C := h_ (fun v hg => iCutQ s v h hg)
 rw [cut_no hd, S_L] at C
 have D : Hid (∀ v, Gd v → CB 68 #[.string s, .int .i64 31] v (bdV (decR 31 (L s)))) := fun v hg => iDec s 31 v (by omega) (by omega) (by omega) hne hg
 have HG := h_ hg
 have hdr : decR 31 (L s) = if 2147483648 ≤ Nb.valD (L s) then ([], 11) else (Vb.nTxt 31 (Nb.valD (L s)), 0) := by unfold decR; rw [if_pos hd]
 unfold bdV at D
 by_cases hv : 2147483648 ≤ Nb.valD (L s)
 · rw [if_pos hv] at hdr
   rw [hdr] at D
   have HR2 : Hid (([], false, 11) = R) := h_ (by rw [← hR]; unfold Nb.plain; rw [if_pos (by omega)])
   clear hR hdr hd hne hz hg hv
   go_enter Tryz.func52, Tryz.ntmps52
   go_wp2_with fail
   refine (u_ N _).mono ?_
   rintro e v1 ⟨rfl, hb1⟩
   have HB1 := h_ hb1
   clear hb1
   go_wp2_with fail
   refine (u_ C _ (Gd_later (u_ HG) (u_ HB1))).mono ?_
   rintro e v2 ⟨rfl, hb2⟩
   have HB2 := h_ (below_nst (u_ HB1) hb2)
   clear hb2
   go_wp2_with fail
   refine (u_ D _ (Gd_later (u_ HG) (u_ HB2))).mono ?_
   rintro e v3 ⟨rfl, hb3⟩
   have HB3 := h_ (below_nst (u_ HB2) hb3)
   clear hb3
   go_wp2
   exact bodyPost_ret (v := nbV ([], false, 11)) (by simp [results, Tryz.results52, go_sem, nbV, S]) rfl ⟨by rw [u_ HR2], u_ HB3⟩
 · rw [if_neg hv] at hdr
   rw [hdr] at D
   have HR2 : Hid ((Vb.nTxt 32 (Nb.valD (L s)), true, 0) = R) := h_ (by rw [← hR]; unfold Nb.plain; rw [if_neg (by omega)])
   have e0 : (⟨#[48]⟩ : ByteArray) ++ S (Vb.nTxt 31 (Nb.valD (L s))) = S (Vb.nTxt 32 (Nb.valD (L s))) := by
     rw [← Nb.pad_nTxt 1 31 _ (by omega), ← S_app']; rfl
   have z0 : (S (Vb.nTxt 31 (Nb.valD (L s)))).size = 31 := by rw [S_size, Vb.nTxt_len]
   generalize hT1 : S (Vb.nTxt 31 (Nb.valD (L s))) = T1 at *
   generalize hT2 : Vb.nTxt 32 (Nb.valD (L s)) = T2 at *
   clear hR hdr hd hne hz hg hv hT1 hT2
   go_enter Tryz.func52, Tryz.ntmps52
   go_wp2_with fail
   refine (u_ N _).mono ?_
   rintro e v1 ⟨rfl, hb1⟩
   have HB1 := h_ hb1
   clear hb1
   go_wp2_with fail
   refine (u_ C _ (Gd_later (u_ HG) (u_ HB1))).mono ?_
   rintro e v2 ⟨rfl, hb2⟩
   have HB2 := h_ (below_nst (u_ HB1) hb2)
   clear hb2
   go_wp2_with fail
   refine (u_ D _ (Gd_later (u_ HG) (u_ HB2))).mono ?_
   rintro e v3 ⟨rfl, hb3⟩
   have HB3 := h_ (below_nst (u_ HB2) hb3)
   clear hb3
   go_wp2
   exact bodyPost_ret (v := nbV (T2, true, 0)) (by simp [results, Tryz.results52, go_sem, nbV]) rfl ⟨by rw [u_ HR2], u_ HB3⟩
set_option maxRecDepth 100000 in
theorem iNB_width (s : ByteArray) (w : World) (h : s.size ≤ 1000) (hz : Nb.numZ (L s) = s.size) (d r : List UInt8) (hl : L s = d ++ 39 :: r) (hd : d.all Nb.digB = true) (hd0 : d ≠ []) (hw : Nb.valD d < 1 ∨ 64 < Nb.valD d) (hg : Gd w) :
   CB 52 #[.string s] w (nbV ([], false, 7)) := by
 have he : s.toList.isEmpty = false := by
   rw [toList_L, hl]; cases d <;> rfl
 have N := h_ (fun v => iNumSize s v (by omega))
 rw [hz] at N
 have C := h_ (fun v hg => iCutQ s v h hg)
 rw [cut_at hl hd] at C
 have HG := h_ hg
 have hds : (S d).size ≤ 1000000 := by rw [S_size]; have := congrArg List.length hl; rw [L_len, List.length_append] at this; omega
 have hd' : (L (S d)).all Nb.digB = true := by rw [L_S]; exact hd
 have hd0' : L (S d) ≠ [] := by rw [L_S]; exact hd0
 by_cases hv : Nb.valD d < 18446744073709551616
 · have P := h_ (fun v => iParseOk (S d) v hds hd' hd0' (Nb.valD d) (by rw [L_S]) hv)
   generalize Nb.valD d = V at *
   have hw' : (V : Int) < 1 ∨ (64 : Int) < V := by omega
   clear hl hd hd0 hd' hd0' hz hg hw
   rcases hw' with q | q
   · go_enter Tryz.func52, Tryz.ntmps52
     go_wp2_with fail
     refine (u_ N _).mono ?_
     rintro e v1 ⟨rfl, hb1⟩
     have HB1 := h_ hb1
     clear hb1
     go_wp2_with fail
     refine (u_ C _ (Gd_later (u_ HG) (u_ HB1))).mono ?_
     rintro e v2 ⟨rfl, hb2⟩
     have HB2 := h_ (below_nst (u_ HB1) hb2)
     clear hb2
     go_wp2_with fail
     refine (u_ P _).mono ?_
     rintro e v3 ⟨rfl, hb3⟩
     have HB3 := h_ (below_nst (u_ HB2) hb3)
     clear hb3
     go_wp2
     exact bodyPost_ret (v := nbV ([], false, 7)) (by simp [results, Tryz.results52, go_sem, nbV, S]) rfl ⟨rfl, u_ HB3⟩
   · have q2 : ¬ (V : Int) < 1 := by omega
     go_enter Tryz.func52, Tryz.ntmps52
     go_wp2_with fail
     refine (u_ N _).mono ?_
     rintro e v1 ⟨rfl, hb1⟩
     have HB1 := h_ hb1
     clear hb1
     go_wp2_with fail
     refine (u_ C _ (Gd_later (u_ HG) (u_ HB1))).mono ?_
     rintro e v2 ⟨rfl, hb2⟩
     have HB2 := h_ (below_nst (u_ HB1) hb2)
     clear hb2
     go_wp2_with fail
     refine (u_ P _).mono ?_
     rintro e v3 ⟨rfl, hb3⟩
     have HB3 := h_ (below_nst (u_ HB2) hb3)
     clear hb3
     go_wp2
     exact bodyPost_ret (v := nbV ([], false, 7)) (by simp [results, Tryz.results52, go_sem, nbV, S]) rfl ⟨rfl, u_ HB3⟩
 · have P := h_ (fun v hg => iParseRange (S d) v hds hd' hd0' (by rw [L_S]; omega) hg)
   clear hl hd hd0 hd' hd0' hz hg hw
   go_enter Tryz.func52, Tryz.ntmps52
   go_wp2_with fail
   refine (u_ N _).mono ?_
   rintro e v1 ⟨rfl, hb1⟩
   have HB1 := h_ hb1
   clear hb1
   go_wp2_with fail
   refine (u_ C _ (Gd_later (u_ HG) (u_ HB1))).mono ?_
   rintro e v2 ⟨rfl, hb2⟩
   have HB2 := h_ (below_nst (u_ HB1) hb2)
   clear hb2
   go_wp2_with fail
   refine (u_ P _ (Gd_later (u_ HG) (u_ HB2))).mono ?_
   rintro e v3 ⟨⟨N', rfl⟩, hb3⟩
   have HB3 := h_ (below_nst (u_ HB2) hb3)
   clear hb3
   go_wp2
   exact bodyPost_ret (v := nbV ([], false, 7)) (by simp [results, Tryz.results52, go_sem, nbV, S]) rfl ⟨rfl, u_ HB3⟩
set_option maxRecDepth 100000 in
theorem iNB_ok (s : ByteArray) (w : World) (h : s.size ≤ 1000) (hz : Nb.numZ (L s) = s.size) (d : List UInt8) (sg : Bool) (b : UInt8) (v : List UInt8) (hl : L s = d ++ 39 :: ((if sg = true then [115] else []) ++ b :: v)) (hd : d.all Nb.digB = true) (hd0 : d ≠ []) (n : Nat) (hn : Nb.valD d = n) (hw : 1 ≤ n) (hw2 : n ≤ 64) (hb : Nb.baseB b = true) (hv : v.all Nb.valB = true) (hv0 : v ≠ []) (hg : Gd w) (R : List UInt8 × Nat) (hR : baseR n b v = R) :
   CB 52 #[.string s] w (nbV (if R.2 = 0 then (R.1, sg, 0) else ([], false, R.2))) := by
 have he : s.toList.isEmpty = false := by
   rw [toList_L, hl]; cases d <;> rfl
 have N := h_ (fun v => iNumSize s v (by omega))
 rw [hz] at N
 have C := h_ (fun v hg => iCutQ s v h hg)
 rw [cut_at hl hd] at C
 have HG := h_ hg
 have hds : (S d).size ≤ 1000000 := by rw [S_size]; have := congrArg List.length hl; rw [L_len, List.length_append] at this; omega
 have hd' : (L (S d)).all Nb.digB = true := by rw [L_S]; exact hd
 have hd0' : L (S d) ≠ [] := by rw [L_S]; exact hd0
 have P := h_ (fun u => iParseOk (S d) u hds hd' hd0' n (by rw [L_S]; exact hn) (by omega))
 have CP := h_ (fun u => iPre sg b v u hb)
 have hvs : (S v).size ≤ 1000 := by rw [S_size]; have := congrArg List.length hl; rw [L_len, List.length_append, List.length_cons, List.length_append, List.length_cons] at this; omega
 have hv1 : 1 ≤ (S v).size := by rw [S_size]; cases v with | nil => exact absurd rfl hv0 | cons _ _ => simp
 have BS := h_ (fun u hg => iBase b (S v) n u hvs hw hw2 hb (by rw [L_S]; exact hv) hv1 hg)
 rw [L_S, hR] at BS
 unfold bdV at BS
 have zbv : (S (b :: v)).size = v.length + 1 := by rw [S_size]; rfl
 have hvl : v.length ≤ 1000 := by rw [S_size] at hvs; exact hvs
 have g0 : (S (b :: v))[0]'(by rw [zbv]; omega) = b := rfl
 have x0 : (S (b :: v)).extract 1 (v.length + 1) = S v := by
   apply L_inj; rw [L_extract, L_S, L_S]; simp
 have hw' : ¬ (n : Int) < 1 := by omega
 have hw2' : ¬ (64 : Int) < n := by omega
 generalize S (b :: v) = T at *
 generalize S ((if sg = true then [115] else []) ++ b :: v) = U1 at *
 clear hl hd hd0 hd' hd0' hz hg hR hn hv hv0
 by_cases hc : R.2 = 0
 · rw [if_pos hc]
   rw [hc] at BS
   go_enter Tryz.func52, Tryz.ntmps52
   go_wp2_with fail
   refine (u_ N _).mono ?_
   rintro e v1 ⟨rfl, hb1⟩
   have HB1 := h_ hb1
   clear hb1
   go_wp2_with fail
   refine (u_ C _ (Gd_later (u_ HG) (u_ HB1))).mono ?_
   rintro e v2 ⟨rfl, hb2⟩
   have HB2 := h_ (below_nst (u_ HB1) hb2)
   clear hb2
   go_wp2_with fail
   refine (u_ P _).mono ?_
   rintro e v3 ⟨rfl, hb3⟩
   have HB3 := h_ (below_nst (u_ HB2) hb3)
   clear hb3
   go_wp2_with (go_at_call 70; refine (u_ CP _).mono ?_; rintro e w' ⟨rfl, rfl⟩)
   go_region_with (go_at_call 71; refine (u_ BS _ (Gd_later (u_ HG) (by first | exact u_ HB3 | exact below_drewN (u_ HB3) _ | exact bdr (u_ HB3)))).mono ?_; rintro e v4 ⟨rfl, hb⟩; have HB4 : Hid (Below w.heap.size w v4) := below_nst (by first | exact u_ HB3 | exact below_drewN (u_ HB3) _ | exact bdr (u_ HB3)) hb; clear hb)
   all_goals
     go_wp2
     exact bodyPost_ret (v := nbV (R.1, sg, 0)) (by simp [results, Tryz.results52, go_sem, nbV]) rfl ⟨rfl, u_ HB4⟩
 · rw [if_neg hc]
   have qc : (((R.2 : Nat) : Int) != 0) = true := by rw [bne_iff_ne]; omega
   go_enter Tryz.func52, Tryz.ntmps52
   go_wp2_with fail
   refine (u_ N _).mono ?_
   rintro e v1 ⟨rfl, hb1⟩
   have HB1 := h_ hb1
   clear hb1
   go_wp2_with fail
   refine (u_ C _ (Gd_later (u_ HG) (u_ HB1))).mono ?_
   rintro e v2 ⟨rfl, hb2⟩
   have HB2 := h_ (below_nst (u_ HB1) hb2)
   clear hb2
   go_wp2_with fail
   refine (u_ P _).mono ?_
   rintro e v3 ⟨rfl, hb3⟩
   have HB3 := h_ (below_nst (u_ HB2) hb3)
   clear hb3
   go_wp2_with (go_at_call 70; refine (u_ CP _).mono ?_; rintro e w' ⟨rfl, rfl⟩)
   go_region_with (go_at_call 71; refine (u_ BS _ (Gd_later (u_ HG) (by first | exact u_ HB3 | exact below_drewN (u_ HB3) _ | exact bdr (u_ HB3)))).mono ?_; rintro e v4 ⟨rfl, hb⟩; have HB4 : Hid (Below w.heap.size w v4) := below_nst (by first | exact u_ HB3 | exact below_drewN (u_ HB3) _ | exact bdr (u_ HB3)) hb; clear hb)
   all_goals
     go_wp2
     exact bodyPost_ret (v := nbV ([], false, R.2)) (by simp [results, Tryz.results52, go_sem, nbV, S]) rfl ⟨rfl, u_ HB4⟩
theorem based_eq (n : Nat) (sg : Bool) (b : UInt8) (v : List UInt8) : Nb.based n sg b v = if (baseR n b v).2 = 0 then ((baseR n b v).1, sg, 0) else ([], false, (baseR n b v).2) := by
 unfold Nb.based baseR
 by_cases hb : b = 100
 · rw [if_pos hb, if_pos hb]
   unfold decR
   by_cases h1 : v.all Nb.digB = true
   · rw [if_pos h1, if_pos h1]
     by_cases h2 : 2 ^ n ≤ Nb.valD v
     · rw [if_pos h2, if_pos h2]; rfl
     · rw [if_neg h2, if_neg h2]; rfl
   · rw [if_neg h1, if_neg h1]; rfl
 · rw [if_neg hb, if_neg hb]
   unfold ndigR
   cases Nb.digsA (Nb.baseN b) [] v with
   | none => rfl
   | some all =>
     simp only
     cases Nb.fitT n (Nb.padC v) all with
     | none => rfl
     | some r => rfl
theorem iNB (s : ByteArray) (w : World) (hs : s.size ≤ maxLen) (hg : Gd w) :
   CB 52 #[.string s] w (nbV (Nb.nbL (L s))) := by
 have hl : (L s).length = s.size := L_len s
 unfold Nb.nbL
 by_cases c0 : 1000 < (L s).length
 · rw [if_pos c0]; exact iNB_long s w hs (by omega)
 rw [if_neg c0]
 by_cases c1 : (Nb.numE (L s) 0).2 = true ∧ (Nb.numE (L s) 0).1 = (L s).length
 · rw [if_neg (fun h => h c1)]
   obtain ⟨h1, h2⟩ := c1
   have hz : Nb.numZ (L s) = s.size := by unfold Nb.numZ; rw [h1, if_pos rfl, h2, hl]
   cases c2 : (L s).all Nb.digB
   · rw [if_neg (by decide)]
     obtain ⟨p1, p2, p3, p4, p5⟩ := Nb.num_parts h1 h2 c2
     generalize Nb.runE Nb.digB (L s) 0 = D at *
     have s1 := Nb.split_at p4 (by decide)
     have hd0 : (L s).take D ≠ [] := by
       intro e
       have := congrArg List.length e
       rw [List.length_take, List.length_nil] at this
       omega
     unfold Nb.widthed
     by_cases cw : Nb.valD ((L s).take D) < 1 ∨ 64 < Nb.valD ((L s).take D)
     · rw [if_pos cw, if_pos cw]
       have e : ∀ (P : Prop) [Decidable P], (if P then (([], false, 7) : List UInt8 × Bool × Nat) else ([], false, 7)) = ([], false, 7) := fun P _ => by split <;> rfl
       rw [e]
       exact iNB_width s w (by omega) hz _ _ s1 p3 hd0 cw hg
     · rw [if_neg cw, if_neg cw]
       rcases p5 with ⟨a1, a2, a3, a4, a5⟩ | ⟨a1, a3, a4, a5⟩
       · rw [if_pos a1, based_eq]
         have b0 : (L s).getD (D + 2) 0 ≠ 0 := by intro e; rw [e] at a3; exact absurd a3 (by decide)
         have s2 := Nb.split_at (l := (L s).drop (D + 1)) (i := 0) (c := 115) (by rw [Nb.getD_drop]; exact a1) (by decide)
         have s3 := Nb.split_at (l := (L s).drop (D + 2)) (i := 0) (c := (L s).getD (D + 2) 0) (by rw [Nb.getD_drop]) b0
         rw [List.take_zero, List.nil_append, List.drop_drop] at s2 s3
         refine iNB_ok s w (by omega) hz ((L s).take D) true _ _ ?_ p3 hd0 _ rfl (by omega) (by omega) a3 a5 a4 hg _ rfl
         rw [if_pos rfl]
         conv => lhs; rw [s1, s2, s3]
         rfl
       · rw [if_neg a1, based_eq]
         have b0 : (L s).getD (D + 1) 0 ≠ 0 := by intro e; rw [e] at a3; exact absurd a3 (by decide)
         have s2 := Nb.split_at (l := (L s).drop (D + 1)) (i := 0) (c := (L s).getD (D + 1) 0) (by rw [Nb.getD_drop]) b0
         rw [List.take_zero, List.nil_append, List.drop_drop] at s2
         refine iNB_ok s w (by omega) hz ((L s).take D) false _ _ ?_ p3 hd0 _ rfl (by omega) (by omega) a3 a5 a4 hg _ rfl
         rw [if_neg (by decide), List.nil_append]
         conv => lhs; rw [s1, s2]
   · rw [if_pos rfl]
     have h0 : 1 ≤ s.size := by
       cases hz : s.size with
       | zero =>
         have : (L s) = [] := List.eq_nil_of_length_eq_zero (by omega)
         rw [this] at h1
         exact absurd h1 (by decide)
       | succ k => omega
     exact iNB_plain s w (by omega) h0 hz c2 hg _ rfl
 · rw [if_pos c1]
   refine iNB_form s w (by omega) ?_
   by_cases h0 : s.size = 0
   · exact .inl h0
   · refine .inr fun e => c1 ?_
     unfold Nb.numZ at e
     by_cases h1 : (Nb.numE (L s) 0).2 = true
     · rw [if_pos h1] at e; exact ⟨h1, by omega⟩
     · rw [if_neg h1] at e; omega
end Go.Proofs.YtddlokkejglckaaGreatDoor
