/- What the program's bitsOfDecimal answers. -/
import Derived.Test.YtdgiidlaafbgcabGreatDoorNI2
import Derived.Test.YtdgiidlaafbgcabGreatDoorL2
namespace Go.Proofs.YtdgiidlaafbgcabGreatDoor
open Go.RowKit
set_option linter.unusedVariables false
/-- What the walk asks of the library's variables. -/
def Gd (w : World) : Prop := ∃ te pe, w.cell? ⟨2, 0, none⟩ = some (.iface te pe)
theorem Gd_later {w W : World} (h : Gd w) (hb : Below w.heap.size w W) : Gd W := by
  obtain ⟨te, pe, h2⟩ := h
  exact ⟨te, pe, cell_later hb h2⟩
theorem foldl_ge (l : List UInt8) : ∀ (a b : Nat), a ≤ b → a ≤ l.foldl (fun a c => 10 * a + (c.toNat - 48)) b := by
  induction l with
  | nil => intro a b h; exact h
  | cons c t ih => intro a b h; exact ih a _ (by show a ≤ 10 * b + (c.toNat - 48); omega)
theorem parse_ok : ∀ (l : List UInt8) (acc : Nat), l.all Nb.digB = true → l.foldl (fun a c => 10 * a + (c.toNat - 48)) acc ≤ 18446744073709551615 → Lib.parseUintM 18446744073709551615 acc l = .ok (l.foldl (fun a c => 10 * a + (c.toNat - 48)) acc)
  | [], acc, _, _ => rfl
  | c :: t, acc, h, hv => by
    have hc := dig_range (show Nb.digB c = true by simp at h; exact h.1)
    rw [List.foldl_cons] at hv ⊢
    have hg := foldl_ge t (10 * acc + (c.toNat - 48)) _ (Nat.le_refl _)
    rw [Lib.parseUintM, if_pos hc, if_neg (by omega), if_neg (by omega), show acc * 10 + (c.toNat - 48) = 10 * acc + (c.toNat - 48) by omega]
    exact parse_ok t _ (by simp at h ⊢; exact h.2) hv
theorem parse_range : ∀ (l : List UInt8) (acc : Nat), l.all Nb.digB = true → acc ≤ 18446744073709551615 → 18446744073709551615 < l.foldl (fun a c => 10 * a + (c.toNat - 48)) acc → Lib.parseUintM 18446744073709551615 acc l = .range
  | [], acc, _, ha, hv => by simp at hv; omega
  | c :: t, acc, h, ha, hv => by
    have hc := dig_range (show Nb.digB c = true by simp at h; exact h.1)
    rw [List.foldl_cons] at hv
    rw [Lib.parseUintM, if_pos hc]
    by_cases h1 : 1844674407370955162 ≤ acc
    · rw [if_pos h1]
    · rw [if_neg h1]
      by_cases h2 : 18446744073709551615 < acc * 10 + (c.toNat - 48)
      · rw [if_pos h2]
      · rw [if_neg h2, show acc * 10 + (c.toNat - 48) = 10 * acc + (c.toNat - 48) by omega]
        exact parse_range t _ (by simp at h ⊢; exact h.2) (by omega) hv
theorem parseB_ok {l : List UInt8} (h : l.all Nb.digB = true) (h0 : l ≠ []) (hv : Nb.valD l < 18446744073709551616) : Lib.parseUintB 64 l = .ok (Nb.valD l) := by
  unfold Lib.parseUintB; rw [if_neg h0]; exact parse_ok l 0 h (by unfold Nb.valD at hv; omega)
theorem parseB_range {l : List UInt8} (h : l.all Nb.digB = true) (h0 : l ≠ []) (hv : 18446744073709551616 ≤ Nb.valD l) : Lib.parseUintB 64 l = .range := by
  unfold Lib.parseUintB; rw [if_neg h0]; exact parse_range l 0 h (by omega) (by unfold Nb.valD at hv; omega)
theorem iParseOk (s : ByteArray) (w : World) (hs : s.size ≤ 1000000) (h : (L s).all Nb.digB = true) (h0 : L s ≠ []) (V : Nat) (hV : Nb.valD (L s) = V) (hv : V < 18446744073709551616) :
    Calls Tryz.prog 16 #[.string s, .int .i64 10, .int .i64 64] w fun e w' => e = .returned (.tuple #[.int .u64 V, .nilIface]) ∧ Below w.heap.size w w' := by
  subst hV
  refine (Tryz.strconv_ParseUint_10_at64_ok s (by omega) _ (parseB_ok h h0 hv) w).mono fun e w' ⟨a, b⟩ => ⟨a, ?_⟩
  rcases b with rfl | rfl
  · exact brf _
  · exact Lib.bytesWorld_below _ _ _
theorem iParseRange (s : ByteArray) (w : World) (hs : s.size ≤ 1000000) (h : (L s).all Nb.digB = true) (h0 : L s ≠ []) (hv : 18446744073709551616 ≤ Nb.valD (L s)) (hg : Gd w) :
    Calls Tryz.prog 16 #[.string s, .int .i64 10, .int .i64 64] w fun e w' => (∃ N : Nat, e = .returned (.tuple #[.int .u64 18446744073709551615, .iface 62 (.pointer (some ⟨N, 0, none⟩))])) ∧ Below w.heap.size w w' := by
  obtain ⟨te, pe, h2⟩ := hg
  exact (Tryz.strconv_ParseUint_10_at64_range s (by omega) (parseB_range h h0 hv) _ w h2 (.inr ⟨te, pe, rfl⟩)).mono fun e w' ⟨N, a, _, _, b⟩ => ⟨⟨N, a⟩, b⟩
/-- What bitsOfDecimal answers, as a value. -/
def bdV (r : List UInt8 × Nat) : Value := .tuple #[.string (S r.1), .int .i64 (r.2 : Nat)]
set_option maxRecDepth 100000 in
set_option maxHeartbeats 400000 in
theorem iDec_form (s : ByteArray) (n : Nat) (w : World) (hs : s.size ≤ 1000000) (h : Nb.runE Nb.digB (L s) 0 < s.size) :
    Calls Tryz.prog 15 #[.string s, .int .i64 n] w fun e w' => e = .returned (bdV ([], 3)) ∧ Below w.heap.size w w' := by
  have R1 := hide (fun v => iRun Nb.digB s ⟨#[48, 49, 50, 51, 52, 53, 54, 55, 56, 57]⟩ v (by unfold maxLen; omega) (by decide) (by decide) dig_set)
  generalize Nb.runE Nb.digB (L s) 0 = D at *
  have q : (D : Int) < s.size := by omega
  go_enter Tryz.func15, Tryz.ntmps15
  go_wp2_with (go_at_call 22; refine (unhide R1 _).mono ?_; rintro e v1 ⟨rfl, hb1⟩)
  exact bodyPost_ret (v := bdV ([], 3)) (by simp [results, Tryz.results15, go_sem, bdV, S]) rfl ⟨rfl, hb1⟩
set_option maxRecDepth 100000 in
set_option maxHeartbeats 400000 in
theorem iDec_over (s : ByteArray) (n : Nat) (w : World) (hs : s.size ≤ 1000000) (h : (L s).all Nb.digB = true) (h0 : L s ≠ []) (hr : Nb.runE Nb.digB (L s) 0 = s.size) (hv : 18446744073709551616 ≤ Nb.valD (L s)) (hg : Gd w) :
    Calls Tryz.prog 15 #[.string s, .int .i64 n] w fun e w' => e = .returned (bdV ([], 11)) ∧ Below w.heap.size w w' := by
  have R1 := hide (fun v => iRun Nb.digB s ⟨#[48, 49, 50, 51, 52, 53, 54, 55, 56, 57]⟩ v (by unfold maxLen; omega) (by decide) (by decide) dig_set)
  rw [hr] at R1
  have P := hide (fun v hg => iParseRange s v hs h h0 hv hg)
  have HG := hide hg
  clear hr h h0 hv hg
  go_enter Tryz.func15, Tryz.ntmps15
  go_wp2_with fail
  refine (unhide R1 _).mono ?_
  rintro e v1 ⟨rfl, hb1⟩
  have HB1 := hide hb1
  clear hb1
  go_wp2_with fail
  refine (unhide P _ (Gd_later (unhide HG) (unhide HB1))).mono ?_
  rintro e v2 ⟨⟨N, rfl⟩, hb2⟩
  have HB2 := hide (below_step (unhide HB1) hb2)
  clear hb2
  go_wp2
  exact bodyPost_ret (v := bdV ([], 11)) (by simp [results, Tryz.results15, go_sem, bdV, S]) rfl ⟨rfl, unhide HB2⟩
set_option maxRecDepth 100000 in
set_option maxHeartbeats 400000 in
theorem iDec_in (s : ByteArray) (n V : Nat) (w : World) (hs : s.size ≤ 1000000) (h1 : 1 ≤ n) (h2 : n ≤ 64) (h : (L s).all Nb.digB = true) (h0 : L s ≠ []) (hr : Nb.runE Nb.digB (L s) 0 = s.size) (hV : Nb.valD (L s) = V) (hv : V < 18446744073709551616) :
    Calls Tryz.prog 15 #[.string s, .int .i64 n] w fun e w' => e = .returned (bdV (if 2 ^ n ≤ V then ([], 11) else (Vb.nTxt n V, 0))) ∧ Below w.heap.size w w' := by
  have R1 := hide (fun v => iRun Nb.digB s ⟨#[48, 49, 50, 51, 52, 53, 54, 55, 56, 57]⟩ v (by unfold maxLen; omega) (by decide) (by decide) dig_set)
  rw [hr] at R1
  have P := hide (fun v => iParseOk s v hs h h0 V hV hv)
  clear hr h h0 hV
  have ed : (V : Int) / 2 ^ n = ((V / 2 ^ n : Nat) : Int) := by rw [Int.natCast_ediv, Int.natCast_pow]; rfl
  by_cases hg : 2 ^ n ≤ V
  · rw [if_pos hg]
    have q : ((V : Int) / 2 ^ n != 0) = true := by
      rw [bne_iff_ne, ed]; have := Nat.div_pos hg (Nat.two_pow_pos n); omega
    clear ed
    go_enter Tryz.func15, Tryz.ntmps15
    go_wp2_with fail
    refine (unhide R1 _).mono ?_
    rintro e v1 ⟨rfl, hb1⟩
    have HB1 := hide hb1
    clear hb1
    go_wp2_with fail
    refine (unhide P _).mono ?_
    rintro e v2 ⟨rfl, hb2⟩
    have HB2 := hide (below_step (unhide HB1) hb2)
    clear hb2
    go_wp2
    exact bodyPost_ret (v := bdV ([], 11)) (by simp [results, Tryz.results15, go_sem, bdV, S]) rfl ⟨rfl, unhide HB2⟩
  · rw [if_neg hg]
    have q : ((V : Int) / 2 ^ n != 0) = false := by
      rw [ed, Nat.div_eq_of_lt (by omega)]; rfl
    have B := hide (fun v => iBitsOf (wrap64 (V : Int)) n v h1 h2)
    rw [show (wrap64 (V : Int) % 18446744073709551616).toNat = V by unfold wrap64; omega] at B
    clear ed
    generalize Vb.nTxt n V = T at *
    go_enter Tryz.func15, Tryz.ntmps15
    go_wp2_with fail
    refine (unhide R1 _).mono ?_
    rintro e v1 ⟨rfl, hb1⟩
    have HB1 := hide hb1
    clear hb1
    go_wp2_with fail
    refine (unhide P _).mono ?_
    rintro e v2 ⟨rfl, hb2⟩
    have HB2 := hide (below_step (unhide HB1) hb2)
    clear hb2
    go_wp2_with (go_at_call 25; refine (unhide B _).mono ?_; rintro e v3 ⟨rfl, hb3⟩)
    exact bodyPost_ret (v := bdV (T, 0)) (by simp [results, Tryz.results15, go_sem, bdV]) rfl ⟨rfl, below_step (unhide HB2) hb3⟩
/-- What bitsOfDecimal tells. -/
def decR (n : Nat) (v : List UInt8) : List UInt8 × Nat := if v.all Nb.digB = true then (if 2 ^ n ≤ Nb.valD v then ([], 11) else (Vb.nTxt n (Nb.valD v), 0)) else ([], 3)
theorem run_all {l : List UInt8} : Nb.runE Nb.digB l 0 = l.length ↔ l.all Nb.digB = true := by
  unfold Nb.runE
  rw [List.drop_zero, Nat.zero_add]
  induction l with
  | nil => simp
  | cons c t ih =>
    rw [List.takeWhile_cons, List.all_cons]
    cases hc : Nb.digB c
    · simp
    · simpa using ih
theorem iDec (s : ByteArray) (n : Nat) (w : World) (hs : s.size ≤ 1000000) (h1 : 1 ≤ n) (h2 : n ≤ 64) (h0 : L s ≠ []) (hg : Gd w) :
    Calls Tryz.prog 15 #[.string s, .int .i64 n] w fun e w' => e = .returned (bdV (decR n (L s))) ∧ Below w.heap.size w w' := by
  have hl : (L s).length = s.size := L_len s
  unfold decR
  cases ha : (L s).all Nb.digB
  · rw [if_neg (by decide)]
    refine iDec_form s n w hs ?_
    have hle := Nb.runE_le (p := Nb.digB) (l := L s) (i := 0) (by omega)
    have : Nb.runE Nb.digB (L s) 0 ≠ (L s).length := fun e => by rw [run_all.1 e] at ha; exact absurd ha (by decide)
    omega
  · rw [if_pos rfl]
    have hr : Nb.runE Nb.digB (L s) 0 = s.size := by rw [run_all.2 ha, hl]
    by_cases hv : 18446744073709551616 ≤ Nb.valD (L s)
    · rw [if_pos (Nat.le_trans (Nat.pow_le_pow_right (by decide) h2) hv)]
      exact iDec_over s n w hs ha h0 hr hv hg
    · exact iDec_in s n _ w hs h1 h2 ha h0 hr rfl (by omega)
end Go.Proofs.YtdgiidlaafbgcabGreatDoor
