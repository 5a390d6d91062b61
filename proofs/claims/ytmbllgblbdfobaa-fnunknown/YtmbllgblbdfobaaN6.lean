/- The law FnUnknown's walk. -/
import Derived.Test.YtmbllgblbdfobaaUK
import Derived.Test.YtmbllgblbdfobaaG26N2
import Derived.Test.YtmbllgblbdfobaaG3IT
namespace Go.Proofs.Ytmbllgblbdfobaa
open Go.RowKit
theorem BL_up {B B' : Nat} {a : Option Addr} {n : Nat} {W : World} (h : BL B a n W) (hb : B ≤ B') : BL B' a n W := by
  rcases h with h | ⟨cb, off, rfl, hcb, hc⟩
  · exact .inl h
  · exact .inr ⟨cb, off, rfl, by omega, hc⟩
theorem BL_below {a : Option Addr} {n : Nat} {w W : World} (h : BL w.heap.size a n w) (hb : Below w.heap.size w W) : BL W.heap.size a n W :=
  BL_up (BL_kept (r := none) h (grown_of_below hb) (by simp)) hb.size
theorem Fi_F2 {a l : List UInt8} (hv : a.all Vb.isV = true) (h : Fi a a.length l) : F2 a l := by
  refine F2_of h.1.symm hv fun i hi hj => ?_
  have := h.2.1 i hi
  rw [List.getD_eq_getElem?_getD, List.getD_eq_getElem?_getD, List.getElem?_eq_getElem hi, List.getElem?_eq_getElem hj] at this
  exact this
theorem Fi_known {a l : List UInt8} (hk : a.all Vb.knB = true) (h : Fi a a.length l) : l = a := by
  refine List.ext_getElem h.1 fun i h1 h2 => ?_
  have := (h.2.1 i h2).2
  rw [List.getD_eq_getElem?_getD, List.getD_eq_getElem?_getD, List.getElem?_eq_getElem h1, List.getElem?_eq_getElem h2] at this
  exact (this (List.all_eq_true.1 hk _ (List.getElem_mem h2))).symm
theorem unL_len (op : Int) (l : List UInt8) (h1 : 1 ≤ l.length) (h2 : l.length ≤ 64) (o1 : 19 ≤ op) (o2 : op ≤ 24) : 1 ≤ (unL op l).length ∧ (unL op l).length ≤ 64 := by
  have : op = 19 ∨ op = 20 ∨ op = 21 ∨ op = 22 ∨ op = 23 ∨ op = 24 := by omega
  rcases this with rfl | rfl | rfl | rfl | rfl | rfl
  · unfold unL; rw [if_pos rfl, List.length_map]; exact ⟨h1, h2⟩
  · unfold unL; rw [if_neg (by decide), if_pos rfl]; split
    · rw [Vb.nTxt_len]; exact ⟨h1, h2⟩
    · rw [List.length_replicate]; exact ⟨h1, h2⟩
  · exact ⟨Nat.le_refl 1, (by decide : 1 ≤ 64)⟩
  · exact ⟨Nat.le_refl 1, (by decide : 1 ≤ 64)⟩
  · exact ⟨Nat.le_refl 1, (by decide : 1 ≤ 64)⟩
  · exact ⟨Nat.le_refl 1, (by decide : 1 ≤ 64)⟩
theorem unTop_is (op : Int) {l : List UInt8} (hv : l.all Vb.isV = true) (h1 : 1 ≤ l.length) (h2 : l.length ≤ 64) : unTop op (S l) = S (unL op l) := by
  unfold unTop; rw [ok_S hv h1 h2, if_pos rfl, L_S]
theorem iUn (op : Int) {l : List UInt8} (hv : l.all Vb.isV = true) (h1 : 1 ≤ l.length) (h2 : l.length ≤ 64) (w : World) :
    Calls Try.prog 21 #[.int .i64 op, .string (S l)] w fun e w' => e = .returned (.string (S (unL op l))) ∧ Below w.heap.size w w' := by
  rw [← unTop_is op hv h1 h2]; exact iUnaryT op (S l) w (small rfl h2)
theorem told_of {R R' : List UInt8} (h : Tell R R') (h1 : 1 ≤ R.length) (h2 : R.length ≤ 64) (w : World) :
    Calls Try.prog 27 #[.string (S R), .string (S R')] w fun e w' => e = .returned (.bool true) ∧ Below w.heap.size w w' := by
  refine dTold (S R) (S R') w (by rw [S_size, S_size]; exact h.1) (by rw [S_size]; exact h1) (by rw [S_size]; exact h2) fun i hi hj hk => ?_
  rw [S_size] at hi hj
  exact h.2 i hi hj hk
set_option maxRecDepth 100000 in
set_option maxHeartbeats 1000000 in
theorem lUnknown (a a' : Option Addr) (n cap n' cap' : Nat) (w : World) (hB : BL w.heap.size a n w) (hB' : BL w.heap.size a' n' w) :
    Calls Try.prog 4 #[.slice a n cap, .slice a' n' cap'] w fun e w' => e = .returned (.bool true) ∧ Below w.heap.size w w' := by
  by_cases hn : 1048576 < n
  · have j1 : (1048576 : Int) < n := by omega
    go_enter Try.func4, Try.ntmps4
    go_wp2
    go_ret
    exact ⟨rfl, brf _⟩
  by_cases hn' : 1048576 < n'
  · have j1 : ¬ (1048576 : Int) < n := by omega
    have j2 : (1048576 : Int) < n' := by omega
    go_enter Try.func4, Try.ntmps4
    go_wp2
    go_ret
    exact ⟨rfl, brf _⟩
  have j1 : ¬ (1048576 : Int) < n := by omega
  have j2 : ¬ (1048576 : Int) < n' := by omega
  have hm : n' ≤ 1048576 := by omega
  have HB := hide hB
  have HB' := hide hB'
  clear hB hB'
  go_enter Try.func4, Try.ntmps4
  go_wp2_with fail
  refine (dVectors a n cap _ (by omega) (unhide HB)).mono ?_
  rintro e w1 ⟨⟨A, B, C, hA1, hA2, hAB, hC1, hC2, vA, vB, vC, rfl⟩, hb1⟩
  have HVA := hide vA
  have HVB := hide vB
  have HVC := hide vC
  have HB1 := hide hb1
  clear vA vB vC hb1 HB
  have zA := S_size A
  have zB := S_size B
  have zC := S_size C
  go_wp2_with fail
  refine (dFill (S A) a' n' cap' 0 _ hm (BL_below (unhide HB') (unhide HB1)) (by omega) (by omega)).mono ?_
  rintro e w2 ⟨⟨X, hX, rfl⟩, hb2⟩
  rw [L_S, zA] at hX
  have HX : Hid (F2 A X) := Fi_F2 (unhide HVA) hX
  have HB2 := hide (below_step (unhide HB1) hb2)
  clear hX hb2 HB1
  go_wp2_with fail
  refine (dFill (S B) a' n' cap' 64 _ hm (BL_below (unhide HB') (unhide HB2)) (by omega) (by omega)).mono ?_
  rintro e w3 ⟨⟨Y, hY, rfl⟩, hb2⟩
  rw [L_S, zB] at hY
  have HY : Hid (F2 B Y) := Fi_F2 (unhide HVB) hY
  have HB3 := hide (below_step (unhide HB2) hb2)
  clear hY hb2 HB2
  go_wp2_with fail
  refine (dFill (S C) a' n' cap' 128 _ hm (BL_below (unhide HB') (unhide HB3)) (by omega) (by omega)).mono ?_
  rintro e w4 ⟨⟨Z, hZ, rfl⟩, hb2⟩
  rw [L_S, zC] at hZ
  have HZ : Hid (F2 C Z) := Fi_F2 (unhide HVC) hZ
  have HB4 := hide (below_step (unhide HB3) hb2)
  clear hZ hb2 HB3
  go_wp2_with fail
  have HC : Hid (∀ (op : Int) (sg : Bool), 1 ≤ op → op ≤ 18 → op ≠ 11 → UnkT op sg A B X Y) := fun op sg o1 o2 o3 => unkAll op sg (unhide HX) (unhide HY) rfl hAB hA1 hA2 o1 o2 o3
  go_loopw [11] (fun i W => ∃ k : Nat, 1 ≤ k ∧ k ≤ 19 ∧ i = .int .i64 k ∧ Below w.heap.size w W) (fun i _ => 19 - (intOf i).toNat)
  case atStart => exact ⟨1, by omega, by omega, rfl, unhide HB4⟩
  case round =>
    clear HB4
    obtain ⟨k, hk1, hk2, rfl, hB⟩ := hrel
    have HB := hide hB
    clear hB
    by_cases hk : k ≤ 18
    · by_cases h11 : k = 11
      · subst h11
        go_wp2
        exact ⟨⟨12, by omega, by omega, by go_num, unhide HB⟩, by simp [intOf]⟩
      · have hk' : ((k : Int) == 11) = false := by rw [beq_eq_false_iff_ne]; omega
        go_wp2_with fail
        have hd : decide ((k : Int) ≤ 18) = true := decide_eq_true (by omega)
        first | rw [hd] | skip
        clear hd
        go_loopw [12] (fun i W => ∃ j : Nat, j ≤ 2 ∧ i = .int .i64 j ∧ Below w.heap.size w W) (fun i _ => 2 - (intOf i).toNat)
        case atStart => exact ⟨0, by omega, rfl, unhide HB⟩
        case round =>
          clear HB
          obtain ⟨j, hj, rfl, hB⟩ := hrel
          have HB := hide hB
          clear hB
          by_cases hj2 : j < 2
          · obtain ⟨R, R', hT, l1, l2, c1, c2, c3⟩ := unhide HC k ((j : Int) == 1) (by omega) (by omega) (by omega)
            have HT := hide hT
            have C1 := hide c1
            have C2 := hide c2
            have C3 := hide c3
            clear hT c1 c2 c3
            go_wp2_with fail
            refine (unhide C1 _).mono ?_
            rintro e v1 ⟨rfl, hb⟩
            have HB1 := hide (below_step (unhide HB) hb)
            clear hb HB C1
            go_wp2_with fail
            refine (unhide C2 _).mono ?_
            rintro e v2 ⟨rfl, hb⟩
            have HB2 := hide (below_step (unhide HB1) hb)
            clear hb HB1
            go_wp2_with fail
            refine (told_of (unhide HT) l1 l2 _).mono ?_
            rintro e v3 ⟨rfl, hb⟩
            have HB3 := hide (below_step (unhide HB2) hb)
            clear hb HB2
            go_wp2_with fail
            refine (unhide C2 _).mono ?_
            rintro e v4 ⟨rfl, hb⟩
            have HB4 := hide (below_step (unhide HB3) hb)
            clear hb HB3
            go_wp2_with fail
            refine (unhide C3 _).mono ?_
            rintro e v5 ⟨rfl, hb⟩
            have HB5 := hide (below_step (unhide HB4) hb)
            clear hb HB4
            go_wp2
            exact ⟨⟨j + 1, by omega, by go_num, unhide HB5⟩, by simp [intOf]; omega⟩
          · go_wp2
            exact ⟨⟨k + 1, by omega, by omega, by go_num, unhide HB⟩, by simp [intOf]; omega⟩
    · have lX : X.length = A.length := (F2_len (unhide HX)).symm
      clear HC
      go_wp2_with fail
      go_loopw [13] (fun i W => ∃ k : Nat, 19 ≤ k ∧ k ≤ 25 ∧ i = .int .i64 k ∧ Below w.heap.size w W) (fun i _ => 25 - (intOf i).toNat)
      case atStart => exact ⟨19, by omega, by omega, rfl, unhide HB⟩
      case round =>
        clear HB
        obtain ⟨k, hk1, hk2, rfl, hB⟩ := hrel
        have HB := hide hB
        clear hB
        by_cases hk : k ≤ 24
        · have hU := F2_un (k : Int) (unhide HX) hA1
          have hl := unL_len (k : Int) A hA1 hA2 (by omega) (by omega)
          have hl' : (unL k X).length = (unL k A).length := (F2_len hU).symm
          have C1 := hide (iUn (k : Int) (unhide HVA) hA1 hA2)
          have C2 := hide (iUn (k : Int) (knV (F2_kn (unhide HX))) (by omega) (by omega))
          have HU := hide hU
          clear hU
          generalize unL (k : Int) A = R at *
          generalize unL (k : Int) X = R' at *
          go_wp2_with fail
          refine (unhide C1 _).mono ?_
          rintro e v1 ⟨rfl, hb⟩
          have HB1 := hide (below_step (unhide HB) hb)
          clear hb HB C1
          go_wp2_with fail
          refine (unhide C2 _).mono ?_
          rintro e v2 ⟨rfl, hb⟩
          have HB2 := hide (below_step (unhide HB1) hb)
          clear hb HB1
          go_wp2_with fail
          refine (told_of (Tell_of (unhide HU)) hl.1 hl.2 _).mono ?_
          rintro e v3 ⟨rfl, hb⟩
          have HB3 := hide (below_step (unhide HB2) hb)
          clear hb HB2
          go_wp2_with fail
          refine (unhide C2 _).mono ?_
          rintro e v4 ⟨rfl, hb⟩
          have HB4 := hide (below_step (unhide HB3) hb)
          clear hb HB3
          go_wp2_with fail
          refine (dFill (S R') a' n' cap' 0 _ hm (BL_below (unhide HB') (unhide HB4)) (by rw [S_size]; omega) (by omega)).mono ?_
          rintro e v5 ⟨⟨T, hT, rfl⟩, hb⟩
          rw [L_S, S_size] at hT
          have hTR := Fi_known (F2_kn (unhide HU)) hT
          subst hTR
          have HB5 := hide (below_step (unhide HB4) hb)
          clear hb HB4 hT
          go_wp2_with fail
          refine (unhide C2 _).mono ?_
          rintro e v6 ⟨rfl, hb⟩
          have HB6 := hide (below_step (unhide HB5) hb)
          clear hb HB5
          go_wp2
          exact ⟨⟨k + 1, by omega, by omega, by go_num, unhide HB6⟩, by simp [intOf]; omega⟩
        · have lY : Y.length = A.length := (F2_len (unhide HY)).symm.trans hAB
          have lZ : Z.length = C.length := (F2_len (unhide HZ)).symm
          have vX := knV (F2_kn (unhide HX))
          have vY := knV (F2_kn (unhide HY))
          have vZ := knV (F2_kn (unhide HZ))
          have c1 := fun v => iChoose (S C) (S A) (S B) v (small rfl (by omega)) (small rfl hA2) (small rfl (by omega)) (ok_S (unhide HVC) hC1 (by omega)) (ok_S (unhide HVA) hA1 hA2) (ok_S (unhide HVB) (by omega) (by omega)) (by omega)
          have c2 := fun v => iChoose (S Z) (S X) (S Y) v (small rfl (by omega)) (small rfl (by omega)) (small rfl (by omega)) (ok_S vZ (by omega) (by omega)) (ok_S vX (by omega) (by omega)) (ok_S vY (by omega) (by omega)) (by rw [S_size, S_size]; omega)
          have c3 := fun v => sChoose (S Z) (S X) (S Y) v (small rfl (by omega)) (small rfl (by omega)) (small rfl (by omega)) (ok_S vZ (by omega) (by omega)) (ok_S vX (by omega) (by omega)) (ok_S vY (by omega) (by omega)) (by rw [S_size, S_size]; omega)
          have hU := F2_cho (unhide HZ) (unhide HX) (unhide HY) hAB.symm
          have hl : (choL C A B).length = A.length := by
            unfold choL
            split
            · rfl
            · split
              · exact hAB
              · rw [List.length_zipWith]; omega
          simp only [L_S] at c1 c2 c3
          generalize choL C A B = R at *
          generalize choL Z X Y = R' at *
          have C1 := hide c1
          have C2 := hide c2
          have C3 := hide c3
          have HU := hide hU
          clear c1 c2 c3 hU vX vY vZ
          go_wp2_with fail
          refine (unhide C1 _).mono ?_
          rintro e v1 ⟨rfl, hb⟩
          have HB1 := hide (below_step (unhide HB) hb)
          clear hb HB C1
          go_wp2_with fail
          refine (unhide C2 _).mono ?_
          rintro e v2 ⟨rfl, hb⟩
          have HB2 := hide (below_step (unhide HB1) hb)
          clear hb HB1
          go_wp2_with fail
          refine (told_of (Tell_of (unhide HU)) (by omega) (by omega) _).mono ?_
          rintro e v3 ⟨rfl, hb⟩
          have HB3 := hide (below_step (unhide HB2) hb)
          clear hb HB2
          go_wp2_with fail
          refine (unhide C2 _).mono ?_
          rintro e v4 ⟨rfl, hb⟩
          have HB4 := hide (below_step (unhide HB3) hb)
          clear hb HB3
          go_wp2_with fail
          refine (unhide C3 _).mono ?_
          rintro e v5 ⟨rfl, hb⟩
          have HB5 := hide (below_step (unhide HB4) hb)
          clear hb HB4
          go_wp2
          go_ret
          exact ⟨rfl, unhide HB5⟩
theorem lUnknownP (a : Option Addr) (n cap : Nat) (a' : Option Addr) (n' cap' : Nat) (w : World) (hB : BL w.heap.size a n w) (hB' : BL w.heap.size a' n' w) :
    Calls Try.prog 4 #[.slice a n cap, .slice a' n' cap'] w fun e w' => e = .returned (.bool true) ∧ Below w.heap.size w w' := lUnknown a a' n cap n' cap' w hB hB'
end Go.Proofs.Ytmbllgblbdfobaa
