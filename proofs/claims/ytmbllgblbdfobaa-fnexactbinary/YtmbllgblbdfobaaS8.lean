/- What the specification's Choose answers. -/
import Derived.Test.YtmbllgblbdfobaaS7
import Derived.Deep.RegionWith
import Derived.Deep.QuietTactic
import Derived.BigQuiet
namespace Go.Proofs.Ytmbllgblbdfobaa
open Go.RowKit
theorem sOK1 (s : ByteArray) (w : World) (hs : s.size ≤ maxLen) (hv : Vb.okV (L s) = true) : Calls Try.prog 35 #[.string s] w fun e w' => e = .returned (.bool true) ∧ w = w' :=
  (sBitsOK s w hs).mono fun _ _ ⟨h, h'⟩ => ⟨by rw [h, hv], h'.symm⟩
theorem sOK0 (s : ByteArray) (w : World) (hs : s.size ≤ maxLen) (hv : Vb.okV (L s) = false) : Calls Try.prog 35 #[.string s] w fun e w' => e = .returned (.bool false) ∧ w = w' :=
  (sBitsOK s w hs).mono fun _ _ ⟨h, h'⟩ => ⟨by rw [h, hv], h'.symm⟩
theorem sTr (s : ByteArray) (w : World) (t : UInt8) (hs : s.size ≤ maxLen) (ht : truthL (L s) = t) : Calls Try.prog 66 #[.string s] w fun e w' => e = .returned (.int .u8 (t.toNat : Int)) ∧ w = w' :=
  (sTruth s w hs).mono fun _ _ ⟨h, h'⟩ => ⟨by rw [h, ht], h'.symm⟩
/-- What two letters have in common. -/
def mixB (a b : UInt8) : UInt8 := if a = b ∧ (a = 48 ∨ a = 49) then a else 120
theorem zip_step (f : UInt8 → UInt8 → UInt8) (a b : ByteArray) (k : Nat) (ha : k < a.size) (hb : k < b.size) : List.zipWith f ((L a).take (k + 1)) ((L b).take (k + 1)) = List.zipWith f ((L a).take k) ((L b).take k) ++ [f a[k] b[k]] := by
  rw [L_take a k ha, L_take b k hb, List.zipWith_append (by simp [L_len]; omega)]; rfl
theorem zip_len (f : UInt8 → UInt8 → UInt8) (a b : ByteArray) (k : Nat) (ha : k ≤ a.size) (hb : k ≤ b.size) : (List.zipWith f ((L a).take k) ((L b).take k)).length = k := by
  simp [L_len]; omega
/-- The choice between two texts. -/
def choL (c a b : List UInt8) : List UInt8 := if truthL c = 49 then a else if truthL c = 48 then b else List.zipWith mixB a b
theorem truthL_cases (l : List UInt8) : truthL l = 49 ∨ truthL l = 48 ∨ truthL l = 120 := by
  unfold truthL; split
  · exact .inl rfl
  · split
    · exact .inr (.inl rfl)
    · exact .inr (.inr rfl)
set_option maxHeartbeats 400000 in
theorem sChoose (c a b : ByteArray) (w : World) (hc : c.size ≤ maxLen) (ha : a.size ≤ maxLen) (hb : b.size ≤ maxLen) (vc : Vb.okV (L c) = true) (va : Vb.okV (L a) = true) (vb : Vb.okV (L b) = true) (hl : a.size = b.size) :
    Calls Try.prog 30 #[.string c, .string a, .string b] w fun e w' => e = .returned (.string (S (choL (L c) (L a) (L b)))) ∧ Below w.heap.size w w' := by
  obtain ⟨i0, hi, hz0, hz1, hz2⟩ := info_parts info5
  obtain ⟨a1, a2, _⟩ := (okV_iff a).1 va
  have VC := hide vc
  have VA := hide va
  have VB := hide vb
  have hne : ((a.size : Int) != (b.size : Int)) = false := by simp [hl]
  have HL := hide hl
  have b2 : b.size ≤ 64 := by omega
  clear vc va vb hl
  generalize hT : truthL (L c) = t
  have HT := hide hT
  have ht := truthL_cases (L c)
  rw [hT] at ht
  clear hT
  rcases ht with rfl | rfl | rfl
  · go_enter Try.func30, Try.ntmps30
    go_wp2_with (first | (go_at_call_of 35 (Value.string c); refine (sOK1 c _ hc (unhide VC)).mono ?_; rintro e w' ⟨rfl, rfl⟩) | (go_at_call_of 35 (Value.string a); refine (sOK1 a _ ha (unhide VA)).mono ?_; rintro e w' ⟨rfl, rfl⟩) | (go_at_call_of 35 (Value.string b); refine (sOK1 b _ hb (unhide VB)).mono ?_; rintro e w' ⟨rfl, rfl⟩) | (go_at_call 66; refine (sTr c _ _ hc (unhide HT)).mono ?_; rintro e w' ⟨rfl, rfl⟩))
    go_ret
    exact ⟨by rw [choL, unhide HT, if_pos rfl, S_L]; rfl, brf _⟩
  · go_enter Try.func30, Try.ntmps30
    go_wp2_with (first | (go_at_call_of 35 (Value.string c); refine (sOK1 c _ hc (unhide VC)).mono ?_; rintro e w' ⟨rfl, rfl⟩) | (go_at_call_of 35 (Value.string a); refine (sOK1 a _ ha (unhide VA)).mono ?_; rintro e w' ⟨rfl, rfl⟩) | (go_at_call_of 35 (Value.string b); refine (sOK1 b _ hb (unhide VB)).mono ?_; rintro e w' ⟨rfl, rfl⟩) | (go_at_call 66; refine (sTr c _ _ hc (unhide HT)).mono ?_; rintro e w' ⟨rfl, rfl⟩))
    go_ret
    exact ⟨by rw [choL, unhide HT, if_neg (by decide), if_pos rfl, S_L]; rfl, brf _⟩
  · have HF : Hid (choL (L c) (L a) (L b) = List.zipWith mixB (L a) (L b)) := by show _ = _; rw [choL, unhide HT, if_neg (by decide), if_neg (by decide)]
    go_enter Try.func30, Try.ntmps30
    go_wp2_with (first | (go_at_call_of 35 (Value.string c); refine (sOK1 c _ hc (unhide VC)).mono ?_; rintro e w' ⟨rfl, rfl⟩) | (go_at_call_of 35 (Value.string a); refine (sOK1 a _ ha (unhide VA)).mono ?_; rintro e w' ⟨rfl, rfl⟩) | (go_at_call_of 35 (Value.string b); refine (sOK1 b _ hb (unhide VB)).mono ?_; rintro e w' ⟨rfl, rfl⟩) | (go_at_call 66; refine (sTr c _ _ hc (unhide HT)).mono ?_; rintro e w' ⟨rfl, rfl⟩))
    go_loopw [7, 8] (fun v i wr => ∃ k : Nat, k ≤ a.size ∧ i = .int .i64 k ∧ OB w.heap.size v (List.zipWith mixB ((L a).take k) ((L b).take k)) wr ∧ Below w.heap.size w wr) (fun _ i _ => a.size - (intOf i).toNat)
    case atStart => exact ⟨0, Nat.zero_le _, rfl, OB_start (Nat.le_refl _), bal (brf _) _⟩
    case round =>
      obtain ⟨k, hk, rfl, hown, hbel⟩ := hrel
      have hsz := hbel.size
      by_cases hlt : k < a.size
      · have hltb : k < b.size := by have := unhide HL; omega
        have st := zip_step mixB a b k hlt hltb
        have hlen := zip_len mixB a b k (by omega) (by omega)
        by_cases e : a[k] = b[k]
        · have hq : ((a[k].toNat : Int) == (b[k].toNat : Int)) = true := by rw [e]; exact beq_self_eq_true _
          by_cases e0 : a[k] = 48
          · have hx : mixB a[k] b[k] = 48 := by unfold mixB; rw [if_pos ⟨e, .inl e0⟩, e0]
            rw [hx] at st
            have ST := hide st
            have h48 : (a[k].toNat : Int) = 48 := by rw [e0]; rfl
            have h48b : (b[k].toNat : Int) = 48 := by rw [← e, e0]; rfl
            clear st e e0 hx hq
            go_wp2
            go_quiet (fail)
            go_wp2_with (first | (at_builtin; refine wpList_append_own _ rfl _ _ 22 rfl w.heap.size 5 i0 (.int .u8 0) 1 1 Try.underlying22 hi hz0 hz1 hz2 rfl (by decide) _ _ _ rfl (World.ownsRow.alloc hown _) ⟨_, 0, none⟩ 1 1 [bv 48] rfl rfl (cell_one_new _ _ _) (by intro u hu; simp at hu; subst hu; rfl) (by unfold maxLen; omega) (by omega) (by simp; omega) ?_; intro v' w1 hown' hgrow _))
            exact ⟨⟨k + 1, by omega, by go_num, by rw [unhide ST]; exact OB_step hown', OB_belowN hbel hsz hown hgrow⟩, by simp [intOf]; omega⟩
          · by_cases e1 : a[k] = 49
            · have hx : mixB a[k] b[k] = 49 := by unfold mixB; rw [if_pos ⟨e, .inr e1⟩, e1]
              rw [hx] at st
              have ST := hide st
              have h48 : (a[k].toNat : Int) = 49 := by rw [e1]; rfl
              have h48b : (b[k].toNat : Int) = 49 := by rw [← e, e1]; rfl
              clear st e e0 e1 hx hq
              go_wp2
              go_quiet (fail)
              go_wp2_with (first | (at_builtin; refine wpList_append_own _ rfl _ _ 22 rfl w.heap.size 5 i0 (.int .u8 0) 1 1 Try.underlying22 hi hz0 hz1 hz2 rfl (by decide) _ _ _ rfl (World.ownsRow.alloc hown _) ⟨_, 0, none⟩ 1 1 [bv 49] rfl rfl (cell_one_new _ _ _) (by intro u hu; simp at hu; subst hu; rfl) (by unfold maxLen; omega) (by omega) (by simp; omega) ?_; intro v' w1 hown' hgrow _))
              exact ⟨⟨k + 1, by omega, by go_num, by rw [unhide ST]; exact OB_step hown', OB_belowN hbel hsz hown hgrow⟩, by simp [intOf]; omega⟩
            · have hx : mixB a[k] b[k] = 120 := by unfold mixB; rw [if_neg (by simp [e0, e1])]
              rw [hx] at st
              have ST := hide st
              have n0 : ((a[k].toNat : Int) == 48) = false := u8_nq 48 (by omega) e0
              have n1 : ((a[k].toNat : Int) == 49) = false := u8_nq 49 (by omega) e1
              clear st e e0 e1 hx
              go_wp2
              go_quiet (fail)
              go_wp2_with (first | (at_builtin; refine wpList_append_own _ rfl _ _ 22 rfl w.heap.size 5 i0 (.int .u8 0) 1 1 Try.underlying22 hi hz0 hz1 hz2 rfl (by decide) _ _ _ rfl (World.ownsRow.alloc hown _) ⟨_, 0, none⟩ 1 1 [bv 120] rfl rfl (cell_one_new _ _ _) (by intro u hu; simp at hu; subst hu; rfl) (by unfold maxLen; omega) (by omega) (by simp; omega) ?_; intro v' w1 hown' hgrow _))
              exact ⟨⟨k + 1, by omega, by go_num, by rw [unhide ST]; exact OB_step hown', OB_belowN hbel hsz hown hgrow⟩, by simp [intOf]; omega⟩
        · have hx : mixB a[k] b[k] = 120 := by unfold mixB; rw [if_neg (by simp [e])]
          rw [hx] at st
          have ST := hide st
          have hq : ((a[k].toNat : Int) == (b[k].toNat : Int)) = false := by rw [beq_eq_false_iff_ne]; intro h; exact e (UInt8.toNat_inj.1 (by omega))
          clear st e hx
          go_wp2
          go_quiet (fail)
          go_wp2_with (first | (at_builtin; refine wpList_append_own _ rfl _ _ 22 rfl w.heap.size 5 i0 (.int .u8 0) 1 1 Try.underlying22 hi hz0 hz1 hz2 rfl (by decide) _ _ _ rfl (World.ownsRow.alloc hown _) ⟨_, 0, none⟩ 1 1 [bv 120] rfl rfl (cell_one_new _ _ _) (by intro u hu; simp at hu; subst hu; rfl) (by unfold maxLen; omega) (by omega) (by simp; omega) ?_; intro v' w1 hown' hgrow _))
          exact ⟨⟨k + 1, by omega, by go_num, by rw [unhide ST]; exact OB_step hown', OB_belowN hbel hsz hown hgrow⟩, by simp [intOf]; omega⟩
      · have hcv := OB_string hown
        rw [L_take_all a k (by omega), L_take_all b k (by have := unhide HL; omega)] at hcv
        go_wp2
        go_ret
        exact ⟨by rw [unhide HF]; rfl, hbel⟩
set_option maxHeartbeats 400000 in
theorem sChoose_no (c a b : ByteArray) (w : World) (hc : c.size ≤ maxLen) (ha : a.size ≤ maxLen) (hb : b.size ≤ maxLen) (h : (Vb.okV (L c) && (Vb.okV (L a) && Vb.okV (L b) && decide (a.size = b.size))) = false) :
    Calls Try.prog 30 #[.string c, .string a, .string b] w fun e w' => e = .returned (.string (S [])) ∧ Below w.heap.size w w' := by
  cases vc : Vb.okV (L c)
  · have VC := hide vc
    clear h vc
    go_enter Try.func30, Try.ntmps30
    go_wp2_with (first | (go_at_call_of 35 (Value.string c); refine (sOK0 c _ hc (unhide VC)).mono ?_; rintro e w' ⟨rfl, rfl⟩))
    go_ret
    exact ⟨rfl, brf _⟩
  · rw [vc, Bool.true_and] at h
    have VC := hide vc
    clear vc
    cases va : Vb.okV (L a)
    · have VA := hide va
      clear h va
      go_enter Try.func30, Try.ntmps30
      go_wp2_with (first | (go_at_call_of 35 (Value.string c); refine (sOK1 c _ hc (unhide VC)).mono ?_; rintro e w' ⟨rfl, rfl⟩) | (go_at_call_of 35 (Value.string a); refine (sOK0 a _ ha (unhide VA)).mono ?_; rintro e w' ⟨rfl, rfl⟩))
      go_ret
      exact ⟨rfl, brf _⟩
    · rw [va, Bool.true_and] at h
      have VA := hide va
      clear va
      cases vb : Vb.okV (L b)
      · have VB := hide vb
        clear h vb
        go_enter Try.func30, Try.ntmps30
        go_wp2_with (first | (go_at_call_of 35 (Value.string c); refine (sOK1 c _ hc (unhide VC)).mono ?_; rintro e w' ⟨rfl, rfl⟩) | (go_at_call_of 35 (Value.string a); refine (sOK1 a _ ha (unhide VA)).mono ?_; rintro e w' ⟨rfl, rfl⟩) | (go_at_call_of 35 (Value.string b); refine (sOK0 b _ hb (unhide VB)).mono ?_; rintro e w' ⟨rfl, rfl⟩))
        go_ret
        exact ⟨rfl, brf _⟩
      · rw [vb, Bool.true_and] at h
        have VB := hide vb
        have hne : ((a.size : Int) != (b.size : Int)) = true := by simp at h; simp; omega
        clear h vb
        go_enter Try.func30, Try.ntmps30
        go_wp2_with (first | (go_at_call_of 35 (Value.string c); refine (sOK1 c _ hc (unhide VC)).mono ?_; rintro e w' ⟨rfl, rfl⟩) | (go_at_call_of 35 (Value.string a); refine (sOK1 a _ ha (unhide VA)).mono ?_; rintro e w' ⟨rfl, rfl⟩) | (go_at_call_of 35 (Value.string b); refine (sOK1 b _ hb (unhide VB)).mono ?_; rintro e w' ⟨rfl, rfl⟩))
        go_ret
        exact ⟨rfl, brf _⟩
end Go.Proofs.Ytmbllgblbdfobaa
