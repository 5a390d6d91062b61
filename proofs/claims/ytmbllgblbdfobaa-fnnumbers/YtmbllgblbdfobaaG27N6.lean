/- The law FnUnknown's walk. -/
/- What the program's resized answers. -/
/- The law FnExactBitsOf's walk: the program's BitsOf answers as the specification's. -/
/- The law FnExactResize's walk: the program's Resize answers as the specification's. -/
/- The law FnExactBitsOK's walk. -/
/- What the program's Join answers. -/
import Derived.Test.YtmbllgblbdfobaaUK
import Derived.Test.YtmbllgblbdfobaaG26N2
import Derived.Test.YtmbllgblbdfobaaG3IT
import Derived.Test.YtmbllgblbdfobaaG17S16
import Derived.Test.YtmbllgblbdfobaaG2I1
import Derived.Deep.RegionWith
import Derived.Test.YtmbllgblbdfobaaG0Bits
import Derived.Test.YtmbllgblbdfobaaG1Rsz
import Derived.Test.YtmbllgblbdfobaaG11S13
namespace Go.Proofs.Ytmbllgblbdfobaa
open Go.RowKit
theorem BL_up {B B' : Nat} {a : Option Addr} {n : Nat} {W : World} (h : BL B a n W) (hb : B ≤ B') : BL B' a n W := by
  rcases h with h | ⟨cb, off, rfl, hcb, hc⟩
  · exact .inl h
  · exact .inr ⟨cb, off, rfl, by omega, hc⟩
theorem BL_below {a : Option Addr} {n : Nat} {w W : World} (h : BL w.heap.size a n w) (hb : Below w.heap.size w W) : BL W.heap.size a n W :=
  BL_up (BL_kept (r := none) h (grown_of_below hb) (by simp)) hb.size
theorem Fi_F2 {a l : List UInt8} (hv : a.all Vb.isV = true) (h : Fi a a.length l) : F2 a l := by
  refine F2_of h.1.symm hv fun i hi hj => ?_
  have := h.2.1 i hi
  rw [List.getD_eq_getElem?_getD, List.getD_eq_getElem?_getD, List.getElem?_eq_getElem hi, List.getElem?_eq_getElem hj] at this
  exact this
theorem Fi_known {a l : List UInt8} (hk : a.all Vb.knB = true) (h : Fi a a.length l) : l = a := by
  refine List.ext_getElem h.1 fun i h1 h2 => ?_
  have := (h.2.1 i h2).2
  rw [List.getD_eq_getElem?_getD, List.getD_eq_getElem?_getD, List.getElem?_eq_getElem h1, List.getElem?_eq_getElem h2] at this
  exact (this (List.all_eq_true.1 hk _ (List.getElem_mem h2))).symm
theorem unL_len (op : Int) (l : List UInt8) (h1 : 1 ≤ l.length) (h2 : l.length ≤ 64) (o1 : 19 ≤ op) (o2 : op ≤ 24) : 1 ≤ (unL op l).length ∧ (unL op l).length ≤ 64 := by
  have : op = 19 ∨ op = 20 ∨ op = 21 ∨ op = 22 ∨ op = 23 ∨ op = 24 := by omega
  rcases this with rfl | rfl | rfl | rfl | rfl | rfl
  · unfold unL; rw [if_pos rfl, List.length_map]; exact ⟨h1, h2⟩
  · unfold unL; rw [if_neg (by decide), if_pos rfl]; split
    · rw [Vb.nTxt_len]; exact ⟨h1, h2⟩
    · rw [List.length_replicate]; exact ⟨h1, h2⟩
  · exact ⟨Nat.le_refl 1, (by decide : 1 ≤ 64)⟩
  · exact ⟨Nat.le_refl 1, (by decide : 1 ≤ 64)⟩
  · exact ⟨Nat.le_refl 1, (by decide : 1 ≤ 64)⟩
  · exact ⟨Nat.le_refl 1, (by decide : 1 ≤ 64)⟩
theorem unTop_is (op : Int) {l : List UInt8} (hv : l.all Vb.isV = true) (h1 : 1 ≤ l.length) (h2 : l.length ≤ 64) : unTop op (S l) = S (unL op l) := by
  unfold unTop; rw [ok_S hv h1 h2, if_pos rfl, L_S]
theorem iUn (op : Int) {l : List UInt8} (hv : l.all Vb.isV = true) (h1 : 1 ≤ l.length) (h2 : l.length ≤ 64) (w : World) :
    Calls Try.prog 21 #[.int .i64 op, .string (S l)] w fun e w' => e = .returned (.string (S (unL op l))) ∧ Below w.heap.size w w' := by
  rw [← unTop_is op hv h1 h2]; exact iUnaryT op (S l) w (small rfl h2)
theorem told_of {R R' : List UInt8} (h : Tell R R') (h1 : 1 ≤ R.length) (h2 : R.length ≤ 64) (w : World) :
    Calls Try.prog 27 #[.string (S R), .string (S R')] w fun e w' => e = .returned (.bool true) ∧ Below w.heap.size w w' := by
  refine dTold (S R) (S R') w (by rw [S_size, S_size]; exact h.1) (by rw [S_size]; exact h1) (by rw [S_size]; exact h2) fun i hi hj hk => ?_
  rw [S_size] at hi hj
  exact h.2 i hi hj hk
set_option maxRecDepth 100000 in
set_option maxHeartbeats 1000000 in
theorem lUnknown (a a' : Option Addr) (n cap n' cap' : Nat) (w : World) (hB : BL w.heap.size a n w) (hB' : BL w.heap.size a' n' w) :
    Calls Try.prog 4 #[.slice a n cap, .slice a' n' cap'] w fun e w' => e = .returned (.bool true) ∧ Below w.heap.size w w' := by
  by_cases hn : 1048576 < n
  · have j1 : (1048576 : Int) < n := by omega
    go_enter Try.func4, Try.ntmps4
    go_wp2
    go_ret
    exact ⟨rfl, brf _⟩
  by_cases hn' : 1048576 < n'
  · have j1 : ¬ (1048576 : Int) < n := by omega
    have j2 : (1048576 : Int) < n' := by omega
    go_enter Try.func4, Try.ntmps4
    go_wp2
    go_ret
    exact ⟨rfl, brf _⟩
  have j1 : ¬ (1048576 : Int) < n := by omega
  have j2 : ¬ (1048576 : Int) < n' := by omega
  have hm : n' ≤ 1048576 := by omega
  have HB := hide hB
  have HB' := hide hB'
  clear hB hB'
  go_enter Try.func4, Try.ntmps4
  go_wp2_with fail
  refine (dVectors a n cap _ (by omega) (unhide HB)).mono ?_
  rintro e w1 ⟨⟨A, B, C, hA1, hA2, hAB, hC1, hC2, vA, vB, vC, rfl⟩, hb1⟩
  have HVA := hide vA
  have HVB := hide vB
  have HVC := hide vC
  have HB1 := hide hb1
  clear vA vB vC hb1 HB
  have zA := S_size A
  have zB := S_size B
  have zC := S_size C
  go_wp2_with fail
  refine (dFill (S A) a' n' cap' 0 _ hm (BL_below (unhide HB') (unhide HB1)) (by omega) (by omega)).mono ?_
  rintro e w2 ⟨⟨X, hX, rfl⟩, hb2⟩
  rw [L_S, zA] at hX
  have HX : Hid (F2 A X) := Fi_F2 (unhide HVA) hX
  have HB2 := hide (below_step (unhide HB1) hb2)
  clear hX hb2 HB1
  go_wp2_with fail
  refine (dFill (S B) a' n' cap' 64 _ hm (BL_below (unhide HB') (unhide HB2)) (by omega) (by omega)).mono ?_
  rintro e w3 ⟨⟨Y, hY, rfl⟩, hb2⟩
  rw [L_S, zB] at hY
  have HY : Hid (F2 B Y) := Fi_F2 (unhide HVB) hY
  have HB3 := hide (below_step (unhide HB2) hb2)
  clear hY hb2 HB2
  go_wp2_with fail
  refine (dFill (S C) a' n' cap' 128 _ hm (BL_below (unhide HB') (unhide HB3)) (by omega) (by omega)).mono ?_
  rintro e w4 ⟨⟨Z, hZ, rfl⟩, hb2⟩
  rw [L_S, zC] at hZ
  have HZ : Hid (F2 C Z) := Fi_F2 (unhide HVC) hZ
  have HB4 := hide (below_step (unhide HB3) hb2)
  clear hZ hb2 HB3
  go_wp2_with fail
  have HC : Hid (∀ (op : Int) (sg : Bool), 1 ≤ op → op ≤ 18 → op ≠ 11 → UnkT op sg A B X Y) := fun op sg o1 o2 o3 => unkAll op sg (unhide HX) (unhide HY) rfl hAB hA1 hA2 o1 o2 o3
  go_loopw [11] (fun i W => ∃ k : Nat, 1 ≤ k ∧ k ≤ 19 ∧ i = .int .i64 k ∧ Below w.heap.size w W) (fun i _ => 19 - (intOf i).toNat)
  case atStart => exact ⟨1, by omega, by omega, rfl, unhide HB4⟩
  case round =>
    clear HB4
    obtain ⟨k, hk1, hk2, rfl, hB⟩ := hrel
    have HB := hide hB
    clear hB
    by_cases hk : k ≤ 18
    · by_cases h11 : k = 11
      · subst h11
        go_wp2
        exact ⟨⟨12, by omega, by omega, by go_num, unhide HB⟩, by simp [intOf]⟩
      · have hk' : ((k : Int) == 11) = false := by rw [beq_eq_false_iff_ne]; omega
        go_wp2_with fail
        have hd : decide ((k : Int) ≤ 18) = true := decide_eq_true (by omega)
        first | rw [hd] | skip
        clear hd
        go_loopw [12] (fun i W => ∃ j : Nat, j ≤ 2 ∧ i = .int .i64 j ∧ Below w.heap.size w W) (fun i _ => 2 - (intOf i).toNat)
        case atStart => exact ⟨0, by omega, rfl, unhide HB⟩
        case round =>
          clear HB
          obtain ⟨j, hj, rfl, hB⟩ := hrel
          have HB := hide hB
          clear hB
          by_cases hj2 : j < 2
          · obtain ⟨R, R', hT, l1, l2, c1, c2, c3⟩ := unhide HC k ((j : Int) == 1) (by omega) (by omega) (by omega)
            have HT := hide hT
            have C1 := hide c1
            have C2 := hide c2
            have C3 := hide c3
            clear hT c1 c2 c3
            go_wp2_with fail
            refine (unhide C1 _).mono ?_
            rintro e v1 ⟨rfl, hb⟩
            have HB1 := hide (below_step (unhide HB) hb)
            clear hb HB C1
            go_wp2_with fail
            refine (unhide C2 _).mono ?_
            rintro e v2 ⟨rfl, hb⟩
            have HB2 := hide (below_step (unhide HB1) hb)
            clear hb HB1
            go_wp2_with fail
            refine (told_of (unhide HT) l1 l2 _).mono ?_
            rintro e v3 ⟨rfl, hb⟩
            have HB3 := hide (below_step (unhide HB2) hb)
            clear hb HB2
            go_wp2_with fail
            refine (unhide C2 _).mono ?_
            rintro e v4 ⟨rfl, hb⟩
            have HB4 := hide (below_step (unhide HB3) hb)
            clear hb HB3
            go_wp2_with fail
            refine (unhide C3 _).mono ?_
            rintro e v5 ⟨rfl, hb⟩
            have HB5 := hide (below_step (unhide HB4) hb)
            clear hb HB4
            go_wp2
            exact ⟨⟨j + 1, by omega, by go_num, unhide HB5⟩, by simp [intOf]; omega⟩
          · go_wp2
            exact ⟨⟨k + 1, by omega, by omega, by go_num, unhide HB⟩, by simp [intOf]; omega⟩
    · have lX : X.length = A.length := (F2_len (unhide HX)).symm
      clear HC
      go_wp2_with fail
      go_loopw [13] (fun i W => ∃ k : Nat, 19 ≤ k ∧ k ≤ 25 ∧ i = .int .i64 k ∧ Below w.heap.size w W) (fun i _ => 25 - (intOf i).toNat)
      case atStart => exact ⟨19, by omega, by omega, rfl, unhide HB⟩
      case round =>
        clear HB
        obtain ⟨k, hk1, hk2, rfl, hB⟩ := hrel
        have HB := hide hB
        clear hB
        by_cases hk : k ≤ 24
        · have hU := F2_un (k : Int) (unhide HX) hA1
          have hl := unL_len (k : Int) A hA1 hA2 (by omega) (by omega)
          have hl' : (unL k X).length = (unL k A).length := (F2_len hU).symm
          have C1 := hide (iUn (k : Int) (unhide HVA) hA1 hA2)
          have C2 := hide (iUn (k : Int) (knV (F2_kn (unhide HX))) (by omega) (by omega))
          have HU := hide hU
          clear hU
          generalize unL (k : Int) A = R at *
          generalize unL (k : Int) X = R' at *
          go_wp2_with fail
          refine (unhide C1 _).mono ?_
          rintro e v1 ⟨rfl, hb⟩
          have HB1 := hide (below_step (unhide HB) hb)
          clear hb HB C1
          go_wp2_with fail
          refine (unhide C2 _).mono ?_
          rintro e v2 ⟨rfl, hb⟩
          have HB2 := hide (below_step (unhide HB1) hb)
          clear hb HB1
          go_wp2_with fail
          refine (told_of (Tell_of (unhide HU)) hl.1 hl.2 _).mono ?_
          rintro e v3 ⟨rfl, hb⟩
          have HB3 := hide (below_step (unhide HB2) hb)
          clear hb HB2
          go_wp2_with fail
          refine (unhide C2 _).mono ?_
          rintro e v4 ⟨rfl, hb⟩
          have HB4 := hide (below_step (unhide HB3) hb)
          clear hb HB3
          go_wp2_with fail
          refine (dFill (S R') a' n' cap' 0 _ hm (BL_below (unhide HB') (unhide HB4)) (by rw [S_size]; omega) (by omega)).mono ?_
          rintro e v5 ⟨⟨T, hT, rfl⟩, hb⟩
          rw [L_S, S_size] at hT
          have hTR := Fi_known (F2_kn (unhide HU)) hT
          subst hTR
          have HB5 := hide (below_step (unhide HB4) hb)
          clear hb HB4 hT
          go_wp2_with fail
          refine (unhide C2 _).mono ?_
          rintro e v6 ⟨rfl, hb⟩
          have HB6 := hide (below_step (unhide HB5) hb)
          clear hb HB5
          go_wp2
          exact ⟨⟨k + 1, by omega, by omega, by go_num, unhide HB6⟩, by simp [intOf]; omega⟩
        · have lY : Y.length = A.length := (F2_len (unhide HY)).symm.trans hAB
          have lZ : Z.length = C.length := (F2_len (unhide HZ)).symm
          have vX := knV (F2_kn (unhide HX))
          have vY := knV (F2_kn (unhide HY))
          have vZ := knV (F2_kn (unhide HZ))
          have c1 := fun v => iChoose (S C) (S A) (S B) v (small rfl (by omega)) (small rfl hA2) (small rfl (by omega)) (ok_S (unhide HVC) hC1 (by omega)) (ok_S (unhide HVA) hA1 hA2) (ok_S (unhide HVB) (by omega) (by omega)) (by omega)
          have c2 := fun v => iChoose (S Z) (S X) (S Y) v (small rfl (by omega)) (small rfl (by omega)) (small rfl (by omega)) (ok_S vZ (by omega) (by omega)) (ok_S vX (by omega) (by omega)) (ok_S vY (by omega) (by omega)) (by rw [S_size, S_size]; omega)
          have c3 := fun v => sChoose (S Z) (S X) (S Y) v (small rfl (by omega)) (small rfl (by omega)) (small rfl (by omega)) (ok_S vZ (by omega) (by omega)) (ok_S vX (by omega) (by omega)) (ok_S vY (by omega) (by omega)) (by rw [S_size, S_size]; omega)
          have hU := F2_cho (unhide HZ) (unhide HX) (unhide HY) hAB.symm
          have hl : (choL C A B).length = A.length := by
            unfold choL
            split
            · rfl
            · split
              · exact hAB
              · rw [List.length_zipWith]; omega
          simp only [L_S] at c1 c2 c3
          generalize choL C A B = R at *
          generalize choL Z X Y = R' at *
          have C1 := hide c1
          have C2 := hide c2
          have C3 := hide c3
          have HU := hide hU
          clear c1 c2 c3 hU vX vY vZ
          go_wp2_with fail
          refine (unhide C1 _).mono ?_
          rintro e v1 ⟨rfl, hb⟩
          have HB1 := hide (below_step (unhide HB) hb)
          clear hb HB C1
          go_wp2_with fail
          refine (unhide C2 _).mono ?_
          rintro e v2 ⟨rfl, hb⟩
          have HB2 := hide (below_step (unhide HB1) hb)
          clear hb HB1
          go_wp2_with fail
          refine (told_of (Tell_of (unhide HU)) (by omega) (by omega) _).mono ?_
          rintro e v3 ⟨rfl, hb⟩
          have HB3 := hide (below_step (unhide HB2) hb)
          clear hb HB2
          go_wp2_with fail
          refine (unhide C2 _).mono ?_
          rintro e v4 ⟨rfl, hb⟩
          have HB4 := hide (below_step (unhide HB3) hb)
          clear hb HB3
          go_wp2_with fail
          refine (unhide C3 _).mono ?_
          rintro e v5 ⟨rfl, hb⟩
          have HB5 := hide (below_step (unhide HB4) hb)
          clear hb HB4
          go_wp2
          go_ret
          exact ⟨rfl, unhide HB5⟩
theorem lUnknownP (a : Option Addr) (n cap : Nat) (a' : Option Addr) (n' cap' : Nat) (w : World) (hB : BL w.heap.size a n w) (hB' : BL w.heap.size a' n' w) :
    Calls Try.prog 4 #[.slice a n cap, .slice a' n' cap'] w fun e w' => e = .returned (.bool true) ∧ Below w.heap.size w w' := lUnknown a a' n cap n' cap' w hB hB'
end Go.Proofs.Ytmbllgblbdfobaa
namespace Go.Proofs.Ytmbllgblbdfobaa
open Go.RowKit
attribute [local go_sem] U_and U_or U_xor U_andNot U_shl U_shr U_shl1 U_or1 U_and1 U_toNat U_nonneg U_low U_beq U_bne
set_option maxHeartbeats 400000 in
theorem iResized_no (n m : Nat) (k h : BitVec 64) (h2 : n ≤ 64) (h3 : m ≤ 64) (w : World) :
    Calls Try.prog 57 #[V n k h, .int .i64 m, .bool false] w fun e w' => e = .returned (V m (k &&& Vb.ones m &&& ~~~(Vb.ones m &&& ~~~Vb.ones n) ||| (Vb.ones m &&& ~~~Vb.ones n)) (h &&& Vb.ones m &&& ~~~(Vb.ones m &&& ~~~Vb.ones n))) ∧ Below w.heap.size w w' := by
  unfold V
  go_enter Try.func57, Try.ntmps57
  go_wp2_with fail
  go_region_held3 (fun w' => w'.cell? ⟨w.heap.size, 0, none⟩ = some (.int .i64 n) ∧ w'.cell? ⟨w.heap.size, 1, none⟩ = some (.int .u64 (U k)) ∧ w'.cell? ⟨w.heap.size, 2, none⟩ = some (.int .u64 (U h))) (first | (go_simp; done) | (refine ⟨?_, ?_, ?_⟩ <;> (refine cell_later hb ?_; go_simp)) | go_keep) (first | (go_at_call 80; refine (iMask _ _ _ ?_ _).mono ?_; omega; rintro e w' ⟨rfl, rfl⟩) | (go_at_call 109; refine (iLow _ _).mono ?_; rintro e w' ⟨rfl, rfl⟩))
  rw [Nat.mod_eq_of_lt (show m < 18446744073709551616 by omega)]
  go_wp2_with fail
  refine (iCut m _ _ h3 _).mono ?_
  rintro e w1 ⟨rfl, hb⟩
  have R0 : RB (w.heap.size + 1) w1 := by refine RB_later hb ⟨.int .i64 0, .int .u64 0, .int .u64 0, ?_, ?_, ?_, ?_, ?_, ?_⟩ <;> go_simp
  have R1 := RB_alloc R0 (.cells #[.int .i64 m, .int .u64 (U (k &&& Vb.ones m)), .int .u64 (U (h &&& Vb.ones m))] 60)
  have V1 : VB w1.heap.size m (k &&& Vb.ones m) (h &&& Vb.ones m) (w1.alloc (.cells #[.int .i64 m, .int .u64 (U (k &&& Vb.ones m)), .int .u64 (U (h &&& Vb.ones m))] 60)) := VB_new w1
  unfold V
  go_wp2_with fail
  go_region_with (first | (go_at_call 113; refine (iTruthVec false _).mono ?_; rintro e w2 ⟨rfl, hb2⟩; have V2 := VB_later hb2 V1; have R2 := RB_later hb2 R1; obtain ⟨v0, v1, v2⟩ := V2; unfold V) | (go_at_call 111; refine (iFilled _ _ _ _ _ _ _ _).mono ?_; rintro e w3 ⟨rfl, hb3⟩; have R3 := RB_later hb3 R2; obtain ⟨x0, y0, z0, c0, c1, c2, f0, f1, f2⟩ := R3; unfold V))
  all_goals go_wp2
  all_goals
    refine bodyPost_ret (v := .agg #[.int .i64 m, .int .u64 _, .int .u64 _]) (by simp [results, Try.results57, go_sem, c0, c1, c2]) rfl ⟨rfl, ?_⟩
    repeat first | exact brf _ | refine bdr ?_ | refine bst ?_ (by first | exact Nat.le_refl _ | (simp; done) | (simp; omega)) _ | refine btr ?_ hb3 | refine btr ?_ hb2 | refine btr ?_ hb | refine bal ?_ _
set_option maxHeartbeats 400000 in
theorem iResized_yes (n m : Nat) (k h : BitVec 64) (h1 : 1 ≤ n) (h2 : n ≤ 64) (h3 : m ≤ 64) (w : World) :
    Calls Try.prog 57 #[V n k h, .int .i64 m, .bool true] w fun e w' => e = .returned (V m (k &&& Vb.ones m &&& ~~~(Vb.ones m &&& ~~~Vb.ones n) ||| (if (k >>> (n - 1) &&& Vb.ones 1).getLsbD 0 then (Vb.ones m &&& ~~~Vb.ones n) else 0#64)) (h &&& Vb.ones m &&& ~~~(Vb.ones m &&& ~~~Vb.ones n) ||| (if (h >>> (n - 1) &&& Vb.ones 1).getLsbD 0 then (Vb.ones m &&& ~~~Vb.ones n) else 0#64))) ∧ Below w.heap.size w w' := by
  generalize hP : (if (k >>> (n - 1) &&& Vb.ones 1).getLsbD 0 then (Vb.ones m &&& ~~~Vb.ones n) else 0#64) = P
  generalize hQ : (if (h >>> (n - 1) &&& Vb.ones 1).getLsbD 0 then (Vb.ones m &&& ~~~Vb.ones n) else 0#64) = Q
  have HP := hide hP
  have HQ := hide hQ
  clear hP hQ
  unfold V
  go_enter Try.func57, Try.ntmps57
  go_wp2_with fail
  go_region_held3 (fun w' => w'.cell? ⟨w.heap.size, 0, none⟩ = some (.int .i64 n) ∧ w'.cell? ⟨w.heap.size, 1, none⟩ = some (.int .u64 (U k)) ∧ w'.cell? ⟨w.heap.size, 2, none⟩ = some (.int .u64 (U h))) (first | (go_simp; done) | (refine ⟨?_, ?_, ?_⟩ <;> (refine cell_later hb ?_; go_simp)) | go_keep) (first | (go_at_call 80; refine (iMask _ _ _ ?_ _).mono ?_; omega; rintro e w' ⟨rfl, rfl⟩) | (go_at_call 109; refine (iLow _ _).mono ?_; rintro e w' ⟨rfl, rfl⟩))
  rw [Nat.mod_eq_of_lt (show m < 18446744073709551616 by omega)]
  go_wp2_with fail
  refine (iCut m _ _ h3 _).mono ?_
  rintro e w1 ⟨rfl, hb⟩
  have R0 : RB (w.heap.size + 1) w1 := by refine RB_later hb ⟨.int .i64 0, .int .u64 0, .int .u64 0, ?_, ?_, ?_, ?_, ?_, ?_⟩ <;> go_simp
  have X0 : VB w.heap.size n k h w1 := by refine VB_later hb ⟨?_, ?_, ?_⟩ <;> go_simp
  have X1 := VB_alloc X0 (.cells #[.int .i64 m, .int .u64 (U (k &&& Vb.ones m)), .int .u64 (U (h &&& Vb.ones m))] 60)
  obtain ⟨u0, u1, u2⟩ := X1
  have R1 := RB_alloc R0 (.cells #[.int .i64 m, .int .u64 (U (k &&& Vb.ones m)), .int .u64 (U (h &&& Vb.ones m))] 60)
  have V1 : VB w1.heap.size m (k &&& Vb.ones m) (h &&& Vb.ones m) (w1.alloc (.cells #[.int .i64 m, .int .u64 (U (k &&& Vb.ones m)), .int .u64 (U (h &&& Vb.ones m))] 60)) := VB_new w1
  unfold V
  go_wp2_with fail
  go_region_with (first | (go_at_call 112; refine (iHighest _ _ _ h1 h2 _).mono ?_; rintro e w2 ⟨rfl, hb2⟩; have V2 := VB_later hb2 V1; have R2 := RB_later hb2 R1; obtain ⟨v0, v1, v2⟩ := V2; unfold V) | (go_at_call 111; refine (iFilled _ _ _ _ _ _ _ _).mono ?_; rw [unhide HP, unhide HQ]; rintro e w3 ⟨rfl, hb3⟩; have R3 := RB_later hb3 R2; obtain ⟨x0, y0, z0, c0, c1, c2, f0, f1, f2⟩ := R3; unfold V))
  all_goals go_wp2
  all_goals
    refine bodyPost_ret (v := .agg #[.int .i64 m, .int .u64 _, .int .u64 _]) (by simp [results, Try.results57, go_sem, c0, c1, c2]) rfl ⟨rfl, ?_⟩
    repeat first | exact brf _ | refine bdr ?_ | refine bst ?_ (by first | exact Nat.le_refl _ | (simp; done) | (simp; omega)) _ | refine btr ?_ hb3 | refine btr ?_ hb2 | refine btr ?_ hb | refine bal ?_ _
end Go.Proofs.Ytmbllgblbdfobaa
namespace Go.Proofs.Ytmbllgblbdfobaa
open Go.RowKit
set_option maxHeartbeats 400000 in
theorem iWidthOK (n : Int) (w : World) :
    Calls Try.prog 56 #[.int .i64 n] w fun e w' => e = .returned (.bool (decide (1 ≤ n ∧ n ≤ 64))) ∧ w' = w := by
  by_cases h1 : 1 ≤ n
  · by_cases h2 : n ≤ 64
    · go_enter Try.func56, Try.ntmps56
      go_wp2
      go_ret
      exact ⟨ret_bool (by simp [h1, h2]), rfl⟩
    · go_enter Try.func56, Try.ntmps56
      go_wp2
      go_ret
      exact ⟨ret_bool (by simp [h2]), rfl⟩
  · go_enter Try.func56, Try.ntmps56
    go_wp2
    go_ret
    exact ⟨ret_bool (by simp; omega), rfl⟩
set_option maxHeartbeats 400000 in
theorem iBitsOf_no (v n : Int) (w : World) (h : n < 1 ∨ 64 < n) :
    Calls Try.prog 37 #[.int .i64 v, .int .i64 n] w fun e w' => e = .returned (.string (S [])) ∧ w' = w := by
  have hd : decide (1 ≤ n ∧ n ≤ 64) = false := by simp; omega
  go_enter Try.func37, Try.ntmps37
  go_wp2_with fail
  refine (iWidthOK _ _).mono ?_
  rw [hd]
  rintro e w' ⟨rfl, rfl⟩
  go_wp2
  go_ret
  exact ⟨rfl, rfl⟩
set_option maxHeartbeats 400000 in
theorem iBitsOf (v : Int) (n : Nat) (w : World) (h1 : 1 ≤ n) (h2 : n ≤ 64) :
    Calls Try.prog 37 #[.int .i64 v, .int .i64 n] w fun e w' => e = .returned (.string (S (Vb.nTxt n (v % 18446744073709551616).toNat))) ∧ Below w.heap.size w w' := by
  have hd : decide ((1 : Int) ≤ n ∧ (n : Int) ≤ 64) = true := by simp; omega
  go_enter Try.func37, Try.ntmps37
  go_wp2_with fail
  refine (iWidthOK _ _).mono ?_
  rw [hd]
  rintro e w' ⟨rfl, rfl⟩
  go_wp2_with fail
  rw [U_wrap]
  refine (iNumber n _ h2 _).mono ?_
  rintro e w1 ⟨rfl, hb⟩
  unfold V
  go_wp2_with fail
  refine (iText n _ _ h2 _).mono ?_
  rintro e w2 ⟨rfl, hb2⟩
  rw [Vb.num_txt n _ h2, BitVec.toNat_ofInt]
  go_wp2
  go_ret
  exact ⟨rfl, btr hb hb2⟩
set_option maxHeartbeats 400000 in
theorem lBitsOf (v n : Int) (w : World) (_hv : (Lit.int .i64 v).wf = true) (_hn : (Lit.int .i64 n).wf = true) :
    Calls Try.prog 7 #[.int .i64 v, .int .i64 n] w fun e w' => e = .returned (.bool true) ∧ Below w.heap.size w w' := by
  by_cases h : 1 ≤ n ∧ n ≤ 64
  · obtain ⟨m, rfl⟩ := Int.eq_ofNat_of_zero_le (show 0 ≤ n by omega)
    go_enter Try.func7, Try.ntmps7
    go_wp2_with fail
    refine (sBitsOf v m _ (by omega) (by omega)).mono ?_
    rintro e w' ⟨rfl, rfl⟩
    go_wp2_with fail
    refine (iBitsOf v m _ (by omega) (by omega)).mono ?_
    rintro e w' ⟨rfl, hb⟩
    go_wp2
    go_ret
    exact ⟨rfl, hb⟩
  · go_enter Try.func7, Try.ntmps7
    go_wp2_with fail
    refine (sBitsOf_no v n _ (by omega)).mono ?_
    rintro e w' ⟨rfl, rfl⟩
    go_wp2_with fail
    refine (iBitsOf_no v n _ (by omega)).mono ?_
    rintro e w' ⟨rfl, rfl⟩
    go_wp2
    go_ret
    exact ⟨rfl, brf _⟩
end Go.Proofs.Ytmbllgblbdfobaa
namespace Go.Proofs.Ytmbllgblbdfobaa
open Go.RowKit
set_option maxHeartbeats 400000 in
theorem iResize (s : ByteArray) (n : Nat) (b : Bool) (w : World) (hs : s.size ≤ maxLen) (hv : Vb.okV (L s) = true) (hn1 : 1 ≤ n) (hn2 : n ≤ 64) :
    Calls Try.prog 22 #[.string s, .int .i64 n, .bool b] w fun e w' => e = .returned (.string (S (rszL n b (L s)))) ∧ Below w.heap.size w w' := by
  obtain ⟨h1, h2, h3⟩ := (okV_iff s).1 hv
  have hd : decide ((1 : Int) ≤ n ∧ (n : Int) ≤ 64) = true := by simp; omega
  have HV := hide hv
  have H3 := hide h3
  clear hv h3
  go_enter Try.func22, Try.ntmps22
  go_wp2_with fail
  refine (iVecOf s _ hs (unhide HV)).mono ?_
  rintro e w1 ⟨rfl, hb⟩
  unfold V
  go_wp2_with fail
  refine (iWidthOK _ _).mono ?_
  rw [hd]
  rintro e w2 ⟨rfl, rfl⟩
  go_wp2_with fail
  cases b
  · refine (iResized_no _ n _ _ h2 hn2 _).mono ?_
    rintro e w3 ⟨rfl, hb3⟩
    unfold V
    go_wp2_with fail
    refine (iText n _ _ hn2 _).mono ?_
    rintro e w4 ⟨rfl, hb4⟩
    have hr := rsz_no (m := n) (unhide H3) hn2
    rw [L_len] at hr
    rw [hr]
    go_wp2
    go_ret
    refine ⟨rfl, ?_⟩
    repeat first | exact brf _ | refine bdr ?_ | refine bst ?_ (by first | exact Nat.le_refl _ | (simp; done) | (simp; omega)) _ | refine btr ?_ hb4 | refine btr ?_ hb3 | refine btr ?_ hb | refine bal ?_ _
  · refine (iResized_yes _ n _ _ h1 h2 hn2 _).mono ?_
    rintro e w3 ⟨rfl, hb3⟩
    have hr := rsz_yes (m := n) (unhide H3) (by rw [L_len]; exact h1) (by rw [L_len]; exact h2) hn2
    rw [L_len] at hr
    have HR := hide hr
    clear hr
    generalize (Vb.kn (L s) &&& Vb.ones n &&& ~~~(Vb.ones n &&& ~~~Vb.ones s.size) ||| (if (Vb.kn (L s) >>> (s.size - 1) &&& Vb.ones 1).getLsbD 0 then (Vb.ones n &&& ~~~Vb.ones s.size) else 0#64)) = K at *
    generalize (Vb.wh (L s) &&& Vb.ones n &&& ~~~(Vb.ones n &&& ~~~Vb.ones s.size) ||| (if (Vb.wh (L s) >>> (s.size - 1) &&& Vb.ones 1).getLsbD 0 then (Vb.ones n &&& ~~~Vb.ones s.size) else 0#64)) = H at *
    unfold V
    go_wp2_with fail
    refine (iText n _ _ hn2 _).mono ?_
    rintro e w4 ⟨rfl, hb4⟩
    rw [unhide HR]
    go_wp2
    go_ret
    refine ⟨rfl, ?_⟩
    repeat first | exact brf _ | refine bdr ?_ | refine bst ?_ (by first | exact Nat.le_refl _ | (simp; done) | (simp; omega)) _ | refine btr ?_ hb4 | refine btr ?_ hb3 | refine btr ?_ hb | refine bal ?_ _
set_option maxHeartbeats 400000 in
theorem iResize_no (s : ByteArray) (n : Int) (b : Bool) (w : World) (hs : s.size ≤ maxLen) (h : (Vb.okV (L s) && decide (1 ≤ n ∧ n ≤ 64)) = false) :
    Calls Try.prog 22 #[.string s, .int .i64 n, .bool b] w fun e w' => e = .returned (.string (S [])) ∧ Below w.heap.size w w' := by
  cases hv : Vb.okV (L s)
  · have HV := hide hv
    clear hv h
    go_enter Try.func22, Try.ntmps22
    go_wp2_with fail
    refine (iVecOf_no s _ hs (unhide HV)).mono ?_
    rintro e w1 ⟨rfl, hb⟩
    unfold V
    go_wp2
    go_ret
    refine ⟨rfl, ?_⟩
    repeat first | exact brf _ | refine bdr ?_ | refine bst ?_ (by first | exact Nat.le_refl _ | (simp; done) | (simp; omega)) _ | refine btr ?_ hb | refine bal ?_ _
  · rw [hv, Bool.true_and] at h
    have HV := hide hv
    have HD := hide h
    clear hv h
    go_enter Try.func22, Try.ntmps22
    go_wp2_with fail
    refine (iVecOf s _ hs (unhide HV)).mono ?_
    rintro e w1 ⟨rfl, hb⟩
    unfold V
    go_wp2_with fail
    refine (iWidthOK _ _).mono ?_
    rw [unhide HD]
    rintro e w2 ⟨rfl, rfl⟩
    go_wp2
    go_ret
    refine ⟨rfl, ?_⟩
    repeat first | exact brf _ | refine bdr ?_ | refine bst ?_ (by first | exact Nat.le_refl _ | (simp; done) | (simp; omega)) _ | refine btr ?_ hb | refine bal ?_ _
set_option maxHeartbeats 400000 in
theorem lResize (s : ByteArray) (n : Int) (b : Bool) (w : World) (hs : s.size ≤ maxLen) (_hn : (Lit.int .i64 n).wf = true) :
    Calls Try.prog 9 #[.string s, .int .i64 n, .bool b] w fun e w' => e = .returned (.bool true) ∧ Below w.heap.size w w' := by
  by_cases h : 1048576 < (s.size : Int)
  · go_enter Try.func9, Try.ntmps9
    go_wp2
    go_ret
    exact ⟨rfl, brf _⟩
  · cases hg : (Vb.okV (L s) && decide (1 ≤ n ∧ n ≤ 64))
    · have HG := hide hg
      clear hg
      go_enter Try.func9, Try.ntmps9
      go_wp2_with fail
      refine (sResize_no s n b _ hs (unhide HG)).mono ?_
      rintro e w' ⟨rfl, rfl⟩
      go_wp2_with fail
      refine (iResize_no s n b _ hs (unhide HG)).mono ?_
      rintro e w' ⟨rfl, hb⟩
      go_wp2
      go_ret
      exact ⟨rfl, hb⟩
    · rw [Bool.and_eq_true, decide_eq_true_eq] at hg
      obtain ⟨hv, g1, g2⟩ := hg
      have HV := hide hv
      clear hv
      obtain ⟨m, rfl⟩ := Int.eq_ofNat_of_zero_le (show 0 ≤ n by omega)
      go_enter Try.func9, Try.ntmps9
      go_wp2_with fail
      refine (sResize s m b _ hs (unhide HV) (by omega) (by omega)).mono ?_
      rintro e w' ⟨rfl, rfl⟩
      generalize hR : S (rszL m b (L s)) = R
      have HR := hide hR
      clear hR
      go_wp2_with fail
      refine (iResize s m b _ hs (unhide HV) (by omega) (by omega)).mono ?_
      rintro e w' ⟨rfl, hb⟩
      rw [unhide HR]
      go_wp2
      go_ret
      exact ⟨rfl, hb⟩
end Go.Proofs.Ytmbllgblbdfobaa
namespace Go.Proofs.Ytmbllgblbdfobaa
open Go.RowKit

set_option maxHeartbeats 400000 in
theorem iBitsOK (s : ByteArray) (w : World) (hs : s.size ≤ maxLen) :
    Calls Try.prog 36 #[.string s] w fun e w' => e = .returned (.bool (Vb.okV (L s))) ∧ Below w.heap.size w w' := by
  cases hv : Vb.okV (L s)
  · have HV := hide hv
    clear hv
    go_enter Try.func36, Try.ntmps36
    go_wp2_with fail
    refine (iVecOf_no s _ hs (unhide HV)).mono ?_
    rintro e w' ⟨rfl, hb⟩
    unfold V
    go_wp2
    go_ret
    exact ⟨rfl, bal hb _⟩
  · have HV := hide hv
    clear hv
    go_enter Try.func36, Try.ntmps36
    go_wp2_with fail
    refine (iVecOf s _ hs (unhide HV)).mono ?_
    rintro e w' ⟨rfl, hb⟩
    unfold V
    go_wp2
    go_ret
    exact ⟨rfl, bal hb _⟩

set_option maxHeartbeats 400000 in
theorem lBitsOK (s : ByteArray) (w : World) (hs : s.size ≤ maxLen) :
    Calls Try.prog 6 #[.string s] w fun e w' => e = .returned (.bool true) ∧ Below w.heap.size w w' := by
  by_cases h : 1048576 < (s.size : Int)
  · go_enter Try.func6, Try.ntmps6
    go_wp2
    go_ret
    exact ⟨rfl, Below.refl _ _⟩
  · go_enter Try.func6, Try.ntmps6
    go_wp2_with fail
    refine (sBitsOK s _ hs).mono ?_
    rintro e w' ⟨rfl, rfl⟩
    go_wp2_with fail
    refine (iBitsOK s _ hs).mono ?_
    rintro e w' ⟨rfl, hb⟩
    go_wp2
    go_ret
    exact ⟨rfl, hb⟩
end Go.Proofs.Ytmbllgblbdfobaa
namespace Go.Proofs.Ytmbllgblbdfobaa
open Go.RowKit
theorem row_full (l : List UInt8) : (row l l.length).toList = l.map bv ++ List.replicate (64 - l.length) (bv 0) := by
  unfold row; rw [List.take_length]; simp [bv]
theorem run_copy_str (W : World) (acc : List UInt8) (s : ByteArray) (g : Nat) (hg : W.heap[g]? = some (.cells (row acc acc.length) 79 (0, 0))) (h : acc.length + s.size ≤ 64) (ty : TypeId) :
    (Builtin.copy_ #[22, 9] ty #[.slice (some ⟨g, acc.length, none⟩) (64 - acc.length) (64 - acc.length), .string s]).run Try.prog W = .ok (goInt s.size) (W.setRow g (row (acc ++ L s) (acc ++ L s).length)) := by
  have hsz : (row acc acc.length).size = 64 := by rw [← Array.length_toList, row_full]; simp; omega
  have hst := run_storeCells_at Try.prog g acc.length 79 ((L s).map bv) 0 (row acc acc.length) _ hg (by rw [hsz, List.length_map, L_len]; omega) (by intro v hv; obtain ⟨c, _, rfl⟩ := List.mem_map.1 hv; rfl)
  have hrow : ((row acc acc.length).toList.take (acc.length + 0) ++ (L s).map bv ++ (row acc acc.length).toList.drop (acc.length + 0 + ((L s).map bv).length)).toArray = row (acc ++ L s) (acc ++ L s).length := by
    apply Array.toList_inj.1
    rw [row_full, row_full]
    simp only [Nat.add_zero, List.length_map, L_len, List.length_append, List.map_append, List.append_assoc]
    rw [List.take_append_of_le_length (by simp), List.take_of_length_le (by simp), List.drop_append, List.drop_of_length_le (by simp), List.nil_append, List.drop_replicate, List.length_map, show 64 - acc.length - (acc.length + s.size - acc.length) = 64 - (acc.length + s.size) by omega]
  rw [hrow] at hst
  have hu : Try.prog.underlying 22 = some (.slice 5) := by kernel_rfl
  have hs1 : (Try.prog.info? 5).map (·.size) = some 1 := by kernel_rfl
  cases hq : Try.prog.info? 5 with
  | none => simp [hq] at hs1
  | some i =>
    have hi : i.size = 1 := by simpa [hq] using hs1
    have he : List.take s.size (List.map (fun b : UInt8 => Value.int .u8 (b.toNat : Int)) s.data.toList) = (L s).map bv := by
      rw [List.take_of_length_le (by simp)]; rfl
    have hm : Nat.min s.size (64 - acc.length) = s.size := Nat.min_eq_left (by omega)
    rw [List.length_append] at hst
    simp [Builtin.copy_, run_underlying hu, Builtin.lenOf, Builtin.firstCells, sizeOf, typeInfo, hq, hm, he, hst]
theorem row_back (W : World) (l : List UInt8) (g : Nat) (hg : W.heap[g]? = some (.cells (row l l.length) 79 (0, 0))) :
    (convert 22 9 (.slice (some ⟨g, 0, none⟩) l.length 64)).run Try.prog W = .ok (.string (S l)) W := by
  refine run_convert_bytes_back (P := Try.prog) W 22 9 5 ⟨g, 0, none⟩ 64 l (by kernel_rfl) (by kernel_rfl) (by kernel_rfl) ?_
  intro j hj
  rw [Addr.add_lit, Nat.zero_add, cell_of_row W g j _ 79 (0, 0) hg]
  exact row_get _ _ _ hj hj
theorem below_setRow {w W : World} (h : Below w.heap.size w W) (cs : Array Value) : Below w.heap.size w (W.setRow w.heap.size cs) :=
  h.trans ⟨rfl, rfl, rfl, by simp [World.setRow], fun k hk => by
    unfold World.setRow
    show ((W.heap.modify w.heap.size _)[k]?) = _
    rw [Array.getElem?_modify, if_neg (by omega)]⟩
set_option maxRecDepth 100000 in
set_option maxHeartbeats 400000 in
theorem iJoin (a : Option Addr) (n cap : Nat) (ss : List ByteArray) (w : World) (hS : SL a n ss w) (hn : n ≤ 1048576) (hz : ∀ s ∈ ss, s.size ≤ 1048576) :
    Calls Try.prog 23 #[.slice a n cap] w fun e w' => e = .returned (.string (S (joinL [] ss))) ∧ Below w.heap.size w w' := by
  obtain ⟨hlen, hS⟩ := hS
  have HL := hide hlen
  clear hlen
  rcases hS with rfl | ⟨b, off, rfl, hc⟩
  · have HE : Hid (ss = []) := List.eq_nil_of_length_eq_zero (unhide HL)
    go_enter Try.func23, Try.ntmps23
    go_wp2
    go_loopw [4, 9] (fun o i W => i = .int .i64 0 ∧ o = .int .i64 0 ∧ W.heap[w.heap.size]? = some (.cells (row [] 0) 79 (0, 0)) ∧ Below w.heap.size w W) (fun _ _ _ => 0)
    case atStart => exact ⟨rfl, rfl, heap_alloc_new _ _, bal (brf _) _⟩
    case round =>
      obtain ⟨rfl, rfl, hg, hbel⟩ := hrel
      have hcv : ∀ c : Nat, c = 64 → (convert 22 9 (.slice (some ⟨w.heap.size, 0, none⟩) 0 c)).run Try.prog wr = .ok (.string (S [])) wr := by
        intro c hc; subst hc; exact row_back _ [] w.heap.size hg
      have hcv := hcv 64 rfl
      clear hg
      go_wp2
      go_ret
      exact ⟨by rw [unhide HE]; rfl, hbel⟩
  · have HC := hide hc
    have HZ := hide hz
    clear hc hz
    go_enter Try.func23, Try.ntmps23
    go_wp2
    go_loopw [4, 9] (fun o i W => ∃ k : Nat, k ≤ n ∧ i = .int .i64 k ∧ ∃ acc : List UInt8, o = .int .i64 acc.length ∧ acc.length ≤ 64 ∧ joinL [] ss = joinL acc (ss.drop k) ∧ W.heap[w.heap.size]? = some (.cells (row acc acc.length) 79 (0, 0)) ∧ Below w.heap.size w W) (fun _ i _ => n - (intOf i).toNat)
    case atStart => exact ⟨0, Nat.zero_le _, rfl, [], rfl, by simp, rfl, heap_alloc_new _ _, bal (brf _) _⟩
    case round =>
      obtain ⟨k, hk, rfl, acc, rfl, hacc, hj, hg, hbel⟩ := hrel
      have HG := hide hg
      clear hg
      by_cases hlt : k < n
      · have hks : k < ss.length := by rw [unhide HL]; exact hlt
        have hcell := cell_later hbel (unhide HC k hks)
        have hsz := unhide HZ ss[k] (List.getElem_mem hks)
        rw [List.drop_eq_getElem_cons hks, joinL] at hj
        generalize ss[k] = x at *
        cases hok : Vb.okV (L x)
        · rw [hok] at hj
          have HJ : Hid (joinL [] ss = []) := by show _ = _; rw [hj]; rfl
          have HO := hide hok
          clear hj hok
          go_wp2_with fail
          refine (iBitsOK x _ (by unfold maxLen; omega)).mono ?_
          rw [unhide HO]
          rintro e w1 ⟨rfl, hb1⟩
          go_wp2
          go_ret
          exact ⟨by rw [unhide HJ]; rfl, btr hbel hb1⟩
        · rw [hok, Bool.true_and] at hj
          have HO := hide hok
          clear hok
          by_cases hfit : acc.length + x.size ≤ 64
          · rw [if_pos (by simpa using hfit)] at hj
            have HJ := hide hj
            clear hj
            go_wp2_with fail
            refine (iBitsOK x _ (by unfold maxLen; omega)).mono ?_
            rw [unhide HO]
            rintro e w1 ⟨rfl, hb1⟩
            have hlt0 : w.heap.size < wr.heap.size := (Array.getElem?_eq_some_iff.1 (unhide HG)).1
            have hg1 : w1.heap[w.heap.size]? = some (.cells (row acc acc.length) 79 (0, 0)) := by rw [hb1.block _ hlt0]; exact unhide HG
            have hcp := run_copy_str w1 acc x w.heap.size hg1 hfit
            have hx1 := ((okV_iff x).1 (unhide HO)).1
            have h64 : (acc.length : Int) ≤ 64 := by omega
            have h64b : ¬ (64 : Nat) = acc.length := by omega
            have h64c : ¬ acc.length = 64 := by omega
            have HG1 := hide hg1
            clear hg1
            go_wp2
            have hl2 : (acc ++ L x).length = acc.length + (L x).length := List.length_append
            refine ⟨⟨k + 1, by omega, by go_num, acc ++ L x, congrArg (Value.int .i64) (by rw [hl2, L_len]; omega), by rw [hl2, L_len]; exact hfit, unhide HJ, ?_, below_setRow (btr hbel hb1) _⟩, by simp [intOf]; omega⟩
            rw [hl2]
            exact setRow_heap w1 w.heap.size _ _ 79 (0, 0) (unhide HG1)
          · rw [if_neg (by simpa using hfit)] at hj
            have HJ := hide hj
            clear hj
            go_wp2_with fail
            refine (iBitsOK x _ (by unfold maxLen; omega)).mono ?_
            rw [unhide HO]
            rintro e w1 ⟨rfl, hb1⟩
            go_wp2
            go_ret
            exact ⟨by rw [unhide HJ]; rfl, btr hbel hb1⟩
      · have HJ : Hid (joinL [] ss = acc) := by
          show _ = _
          rw [hj, List.drop_of_length_le (by rw [unhide HL]; omega)]; rfl
        have hcv := row_back _ acc w.heap.size (unhide HG)
        clear hj
        have h64 : (acc.length : Int) ≤ 64 := by omega
        go_wp2
        go_ret
        exact ⟨by rw [unhide HJ]; rfl, hbel⟩
set_option maxRecDepth 100000 in
set_option maxHeartbeats 400000 in
theorem lJoin (a : Option Addr) (n cap : Nat) (ss : List ByteArray) (w : World) (hS : SL a n ss w) (hn : n ≤ maxLen) (hz : ∀ s ∈ ss, s.size ≤ maxLen) :
    Calls Try.prog 11 #[.slice a n cap] w fun e w' => e = .returned (.bool true) ∧ Below w.heap.size w w' := by
  go_enter Try.func11, Try.ntmps11
  go_wp2_with fail
  refine (szS a n cap ss _ hS hn hz).mono ?_
  rintro e w1 ⟨⟨r, rfl, hr⟩, rfl⟩
  have HR := hide hr
  clear hr
  by_cases hneg : r < 0
  · go_wp2
    go_ret
    exact ⟨rfl, brf _⟩
  · obtain ⟨hn2, hz2⟩ := unhide HR (by omega)
    have HZ := hide hz2
    have HZ1 := hide hz
    clear hz hz2 HR
    go_wp2_with fail
    refine (toS a n cap ss _ hS hn2).mono ?_
    rintro e w2 ⟨rfl, rfl⟩
    go_wp2_with fail
    refine (sJoin _ n n ss _ (SL_made ss n w hS.1) hn2 (unhide HZ)).mono ?_
    rintro e w3 ⟨rfl, rfl⟩
    have hb1 : Below w.heap.size w (w.alloc (.cells (srow ss n n) 9)) := bal (brf w) _
    have S1 := SL_later hb1 hS
    generalize w.alloc (.cells (srow ss n n) 9) = w1 at *
    go_wp2_with fail
    refine (toS a n cap ss _ S1 hn2).mono ?_
    rintro e w2 ⟨rfl, rfl⟩
    have S2 := SL_made ss n w1 hS.1
    have S3 := SL_later (bal (brf w1) (.cells (srow ss n n) 9)) S1
    have hb2 : Below w.heap.size w (w1.alloc (.cells (srow ss n n) 9)) := bal hb1 _
    generalize w1.alloc (.cells (srow ss n n) 9) = w2 at *
    go_wp2_with fail
    refine (iJoin _ n n ss _ S2 hn2 (unhide HZ)).mono ?_
    rintro e w3 ⟨rfl, hb3⟩
    have S4 := SL_later hb3 S2
    have S5 := SL_later hb3 S3
    have hb4 := btr hb2 hb3
    generalize S (joinL [] ss) = J
    go_wp2_with fail
    refine (toS a n cap ss _ S5 hn2).mono ?_
    rintro e w4 ⟨rfl, rfl⟩
    have S6 := SL_made ss n w3 hS.1
    have S7 := SL_later (bal (brf w3) (.cells (srow ss n n) 9)) S4
    have hb5 : Below w.heap.size w (w3.alloc (.cells (srow ss n n) 9)) := bal hb4 _
    generalize w3.alloc (.cells (srow ss n n) 9) = w4 at *
    go_wp2_with fail
    refine (eqS _ _ n n n ss _ S7 S6 hn2).mono ?_
    rintro e w5 ⟨rfl, hb6⟩
    go_wp2
    go_ret
    exact ⟨rfl, btr hb5 hb6⟩
end Go.Proofs.Ytmbllgblbdfobaa
