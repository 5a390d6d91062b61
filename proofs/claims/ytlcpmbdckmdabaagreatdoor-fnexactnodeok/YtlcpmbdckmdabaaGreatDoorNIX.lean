/- What the program's bitsOfDecimal answers. What the program's digitBits answers. What the program's bitsOfDigits answers. What the program's bitsOfBase answers. What the program's NumberBits answers. What the program's NumberBits answers of a number with a width, and of any text. What the program's NumberBits answers of any text; the law FnExactNumberBits's walk. -/
import Derived.Test.YtlcpmbdckmdabaaGreatDoorNIY
import Derived.Test.YtlcpmbdckmdabaaGreatDoorIX
import Derived.BigCall
import Derived.Deep.QuietTactic
import Derived.BigQuiet
import Derived.Deep.RegionWith
namespace Go.Proofs.YtlcpmbdckmdabaaGreatDoor
open Go.RowKit
set_option maxRecDepth 100000
set_option linter.unusedVariables false
/-- What the walk asks of the library's variables. -/
def Gd (w : World) : Prop := ∃ te pe, w.cell? ⟨3, 0, none⟩ = some (.iface te pe)
theorem Gd_later {w W : World} (h : Gd w) (hb : Below w.heap.size w W) : Gd W := by
  obtain ⟨te, pe, h2⟩ := h
  exact ⟨te, pe, cell_later hb h2⟩
theorem foldl_ge (l : List UInt8) : ∀ (a b : Nat), a ≤ b → a ≤ l.foldl (fun a c => 10 * a + (c.toNat - 48)) b := by
  induction l with
  | nil => intro a b h; exact h
  | cons c t ih => intro a b h; exact ih a _ (by show a ≤ 10 * b + (c.toNat - 48); omega)
theorem parse_ok : ∀ (l : List UInt8) (acc : Nat), l.all Nb.digB = true → l.foldl (fun a c => 10 * a + (c.toNat - 48)) acc ≤ 18446744073709551615 → Lib.parseUintM 18446744073709551615 acc l = .ok (l.foldl (fun a c => 10 * a + (c.toNat - 48)) acc)
  | [], acc, _, _ => rfl
  | c :: t, acc, h, hv => by
    have hc := dig_range (show Nb.digB c = true by simp at h; exact h.1)
    rw [List.foldl_cons] at hv ⊢
    have hg := foldl_ge t (10 * acc + (c.toNat - 48)) _ (Nat.le_refl _)
    rw [Lib.parseUintM, if_pos hc, if_neg (by omega), if_neg (by omega), show acc * 10 + (c.toNat - 48) = 10 * acc + (c.toNat - 48) by omega]
    exact parse_ok t _ (by simp at h ⊢; exact h.2) hv
theorem parse_range : ∀ (l : List UInt8) (acc : Nat), l.all Nb.digB = true → acc ≤ 18446744073709551615 → 18446744073709551615 < l.foldl (fun a c => 10 * a + (c.toNat - 48)) acc → Lib.parseUintM 18446744073709551615 acc l = .range
  | [], acc, _, ha, hv => by simp at hv; omega
  | c :: t, acc, h, ha, hv => by
    have hc := dig_range (show Nb.digB c = true by simp at h; exact h.1)
    rw [List.foldl_cons] at hv
    rw [Lib.parseUintM, if_pos hc]
    by_cases h1 : 1844674407370955162 ≤ acc
    · rw [if_pos h1]
    · rw [if_neg h1]
      by_cases h2 : 18446744073709551615 < acc * 10 + (c.toNat - 48)
      · rw [if_pos h2]
      · rw [if_neg h2, show acc * 10 + (c.toNat - 48) = 10 * acc + (c.toNat - 48) by omega]
        exact parse_range t _ (by simp at h ⊢; exact h.2) (by omega) hv
theorem parseB_ok {l : List UInt8} (h : l.all Nb.digB = true) (h0 : l ≠ []) (hv : Nb.valD l < 18446744073709551616) : Lib.parseUintB 64 l = .ok (Nb.valD l) := by
  unfold Lib.parseUintB; rw [if_neg h0]; exact parse_ok l 0 h (by unfold Nb.valD at hv; omega)
theorem parseB_range {l : List UInt8} (h : l.all Nb.digB = true) (h0 : l ≠ []) (hv : 18446744073709551616 ≤ Nb.valD l) : Lib.parseUintB 64 l = .range := by
  unfold Lib.parseUintB; rw [if_neg h0]; exact parse_range l 0 h (by omega) (by unfold Nb.valD at hv; omega)
theorem iParseOk (s : ByteArray) (w : World) (hs : s.size ≤ 1000000) (h : (L s).all Nb.digB = true) (h0 : L s ≠ []) (V : Nat) (hV : Nb.valD (L s) = V) (hv : V < 18446744073709551616) :
    Calls Tryz.prog 42 #[.string s, .int .i64 10, .int .i64 64] w fun e w' => e = .returned (.tuple #[.int .u64 V, .nilIface]) ∧ Below w.heap.size w w' := by
  subst hV
  refine (Tryz.strconv_ParseUint_10_at64_ok s (by omega) _ (parseB_ok h h0 hv) w).mono fun e w' ⟨a, b⟩ => ⟨a, ?_⟩
  rcases b with rfl | rfl
  · exact brf _
  · exact Lib.bytesWorld_below _ _ _
theorem iParseRange (s : ByteArray) (w : World) (hs : s.size ≤ 1000000) (h : (L s).all Nb.digB = true) (h0 : L s ≠ []) (hv : 18446744073709551616 ≤ Nb.valD (L s)) (hg : Gd w) :
    Calls Tryz.prog 42 #[.string s, .int .i64 10, .int .i64 64] w fun e w' => (∃ N : Nat, e = .returned (.tuple #[.int .u64 18446744073709551615, .iface 92 (.pointer (some ⟨N, 0, none⟩))])) ∧ Below w.heap.size w w' := by
  obtain ⟨te, pe, h2⟩ := hg
  exact (Tryz.strconv_ParseUint_10_at64_range s (by omega) (parseB_range h h0 hv) _ w h2 (.inr ⟨te, pe, rfl⟩)).mono fun e w' ⟨N, a, _, _, b⟩ => ⟨⟨N, a⟩, b⟩
/-- What bitsOfDecimal answers, as a value. -/
def bdV (r : List UInt8 × Nat) : Value := .tuple #[.string (S r.1), .int .i64 (r.2 : Nat)]
set_option maxRecDepth 100000 in
set_option maxHeartbeats 400000 in
theorem iDec_form (s : ByteArray) (n : Nat) (w : World) (hs : s.size ≤ 1000000) (h : Nb.runE Nb.digB (L s) 0 < s.size) :
    Calls Tryz.prog 41 #[.string s, .int .i64 n] w fun e w' => e = .returned (bdV ([], 3)) ∧ Below w.heap.size w w' := by
  have R1 := hide (fun v => iRun Nb.digB s ⟨#[48, 49, 50, 51, 52, 53, 54, 55, 56, 57]⟩ v (by unfold maxLen; omega) (by decide) (by decide) dig_set)
  generalize Nb.runE Nb.digB (L s) 0 = D at *
  have q : (D : Int) < s.size := by omega
  go_enter Tryz.func41, Tryz.ntmps41
  go_wp2_with (go_at_call 56; refine (unhide R1 _).mono ?_; rintro e v1 ⟨rfl, hb1⟩)
  exact bodyPost_ret (v := bdV ([], 3)) (by simp [results, Tryz.results41, go_sem, bdV, S]) rfl ⟨rfl, hb1⟩
set_option maxRecDepth 100000 in
set_option maxHeartbeats 400000 in
theorem iDec_over (s : ByteArray) (n : Nat) (w : World) (hs : s.size ≤ 1000000) (h : (L s).all Nb.digB = true) (h0 : L s ≠ []) (hr : Nb.runE Nb.digB (L s) 0 = s.size) (hv : 18446744073709551616 ≤ Nb.valD (L s)) (hg : Gd w) :
    Calls Tryz.prog 41 #[.string s, .int .i64 n] w fun e w' => e = .returned (bdV ([], 11)) ∧ Below w.heap.size w w' := by
  have R1 := hide (fun v => iRun Nb.digB s ⟨#[48, 49, 50, 51, 52, 53, 54, 55, 56, 57]⟩ v (by unfold maxLen; omega) (by decide) (by decide) dig_set)
  rw [hr] at R1
  have P := hide (fun v hg => iParseRange s v hs h h0 hv hg)
  have HG := hide hg
  clear hr h h0 hv hg
  go_enter Tryz.func41, Tryz.ntmps41
  go_wp2_with fail
  refine (unhide R1 _).mono ?_
  rintro e v1 ⟨rfl, hb1⟩
  have HB1 := hide hb1
  clear hb1
  go_wp2_with fail
  refine (unhide P _ (Gd_later (unhide HG) (unhide HB1))).mono ?_
  rintro e v2 ⟨⟨N, rfl⟩, hb2⟩
  have HB2 := hide (below_nst (unhide HB1) hb2)
  clear hb2
  go_wp2
  exact bodyPost_ret (v := bdV ([], 11)) (by simp [results, Tryz.results41, go_sem, bdV, S]) rfl ⟨rfl, unhide HB2⟩
set_option maxRecDepth 100000 in
set_option maxHeartbeats 400000 in
theorem iDec_in (s : ByteArray) (n V : Nat) (w : World) (hs : s.size ≤ 1000000) (h1 : 1 ≤ n) (h2 : n ≤ 64) (h : (L s).all Nb.digB = true) (h0 : L s ≠ []) (hr : Nb.runE Nb.digB (L s) 0 = s.size) (hV : Nb.valD (L s) = V) (hv : V < 18446744073709551616) :
    Calls Tryz.prog 41 #[.string s, .int .i64 n] w fun e w' => e = .returned (bdV (if 2 ^ n ≤ V then ([], 11) else (Vb.nTxt n V, 0))) ∧ Below w.heap.size w w' := by
  have R1 := hide (fun v => iRun Nb.digB s ⟨#[48, 49, 50, 51, 52, 53, 54, 55, 56, 57]⟩ v (by unfold maxLen; omega) (by decide) (by decide) dig_set)
  rw [hr] at R1
  have P := hide (fun v => iParseOk s v hs h h0 V hV hv)
  clear hr h h0 hV
  have ed : (V : Int) / 2 ^ n = ((V / 2 ^ n : Nat) : Int) := by rw [Int.natCast_ediv, Int.natCast_pow]; rfl
  by_cases hg : 2 ^ n ≤ V
  · rw [if_pos hg]
    have q : ((V : Int) / 2 ^ n != 0) = true := by
      rw [bne_iff_ne, ed]; have := Nat.div_pos hg (Nat.two_pow_pos n); omega
    clear ed
    go_enter Tryz.func41, Tryz.ntmps41
    go_wp2_with fail
    refine (unhide R1 _).mono ?_
    rintro e v1 ⟨rfl, hb1⟩
    have HB1 := hide hb1
    clear hb1
    go_wp2_with fail
    refine (unhide P _).mono ?_
    rintro e v2 ⟨rfl, hb2⟩
    have HB2 := hide (below_nst (unhide HB1) hb2)
    clear hb2
    go_wp2
    exact bodyPost_ret (v := bdV ([], 11)) (by simp [results, Tryz.results41, go_sem, bdV, S]) rfl ⟨rfl, unhide HB2⟩
  · rw [if_neg hg]
    have q : ((V : Int) / 2 ^ n != 0) = false := by
      rw [ed, Nat.div_eq_of_lt (by omega)]; rfl
    have B := hide (fun v => iBitsOf (wrap64 (V : Int)) n v h1 h2)
    rw [show (wrap64 (V : Int) % 18446744073709551616).toNat = V by unfold wrap64; omega] at B
    clear ed
    generalize Vb.nTxt n V = T at *
    go_enter Tryz.func41, Tryz.ntmps41
    go_wp2_with fail
    refine (unhide R1 _).mono ?_
    rintro e v1 ⟨rfl, hb1⟩
    have HB1 := hide hb1
    clear hb1
    go_wp2_with fail
    refine (unhide P _).mono ?_
    rintro e v2 ⟨rfl, hb2⟩
    have HB2 := hide (below_nst (unhide HB1) hb2)
    clear hb2
    go_wp2_with (go_at_call 59; refine (unhide B _).mono ?_; rintro e v3 ⟨rfl, hb3⟩)
    exact bodyPost_ret (v := bdV (T, 0)) (by simp [results, Tryz.results41, go_sem, bdV]) rfl ⟨rfl, below_nst (unhide HB2) hb3⟩
/-- What bitsOfDecimal tells. -/
def decR (n : Nat) (v : List UInt8) : List UInt8 × Nat := if v.all Nb.digB = true then (if 2 ^ n ≤ Nb.valD v then ([], 11) else (Vb.nTxt n (Nb.valD v), 0)) else ([], 3)
theorem run_all {l : List UInt8} : Nb.runE Nb.digB l 0 = l.length ↔ l.all Nb.digB = true := by
  unfold Nb.runE
  rw [List.drop_zero, Nat.zero_add]
  induction l with
  | nil => simp
  | cons c t ih =>
    rw [List.takeWhile_cons, List.all_cons]
    cases hc : Nb.digB c
    · simp
    · simpa using ih
theorem iDec (s : ByteArray) (n : Nat) (w : World) (hs : s.size ≤ 1000000) (h1 : 1 ≤ n) (h2 : n ≤ 64) (h0 : L s ≠ []) (hg : Gd w) :
    Calls Tryz.prog 41 #[.string s, .int .i64 n] w fun e w' => e = .returned (bdV (decR n (L s))) ∧ Below w.heap.size w w' := by
  have hl : (L s).length = s.size := L_len s
  unfold decR
  cases ha : (L s).all Nb.digB
  · rw [if_neg (by decide)]
    refine iDec_form s n w hs ?_
    have hle := Nb.runE_le (p := Nb.digB) (l := L s) (i := 0) (by omega)
    have : Nb.runE Nb.digB (L s) 0 ≠ (L s).length := fun e => by rw [run_all.1 e] at ha; exact absurd ha (by decide)
    omega
  · rw [if_pos rfl]
    have hr : Nb.runE Nb.digB (L s) 0 = s.size := by rw [run_all.2 ha, hl]
    by_cases hv : 18446744073709551616 ≤ Nb.valD (L s)
    · rw [if_pos (Nat.le_trans (Nat.pow_le_pow_right (by decide) h2) hv)]
      exact iDec_over s n w hs ha h0 hr hv hg
    · exact iDec_in s n _ w hs h1 h2 ha h0 hr rfl (by omega)
end Go.Proofs.YtlcpmbdckmdabaaGreatDoor
namespace Go.Proofs.YtlcpmbdckmdabaaGreatDoor
open Go.RowKit
set_option maxRecDepth 100000
set_option linter.unusedVariables false
theorem hex_index (c : UInt8) (hv : Nb.valB c = true) (hx : ¬ (c = 120 ∨ c = 122)) : Lib.indexByte ([48, 49, 50, 51, 52, 53, 54, 55, 56, 57, 97, 98, 99, 100, 101, 102] : List UInt8) c = (Nb.hexV c : Nat) := by
  have h : ∀ n : Fin 256, Nb.valB (UInt8.ofFin n) = true → ¬ (UInt8.ofFin n = 120 ∨ UInt8.ofFin n = 122) → Lib.indexByte ([48, 49, 50, 51, 52, 53, 54, 55, 56, 57, 97, 98, 99, 100, 101, 102] : List UInt8) (UInt8.ofFin n) = (Nb.hexV (UInt8.ofFin n) : Nat) := by decide +kernel
  exact h c.toFin hv hx
theorem val_ascii {c : UInt8} (hv : Nb.valB c = true) : c.toNat < 128 := by
  have h : ∀ n : Fin 256, Nb.valB (UInt8.ofFin n) = true → (UInt8.ofFin n).toNat < 128 := by decide +kernel
  exact h c.toFin hv
theorem rep_one (c : UInt8) (n : Nat) : Lib.repeatL [c] n = List.replicate n c := by
  induction n with
  | zero => rfl
  | succ n ih => rw [Lib.repeatL, ih]; rfl
theorem iRep (s : ByteArray) (n : Nat) (w : World) (hn : s.size * n ≤ 1000000) (hn2 : n ≤ 1000000) :
    Calls Tryz.prog 87 #[.string s, .int .i64 n] w fun e w' => e = .returned (.string (S (Lib.repeatL (L s) n))) ∧ Below w.heap.size w w' :=
  Tryz.strings_Repeat s n w (by omega) (by omega)
theorem iIdx (c : UInt8) (w : World) (hv : Nb.valB c = true) (hx : ¬ (c = 120 ∨ c = 122)) :
    Calls Tryz.prog 103 #[.string ⟨#[48, 49, 50, 51, 52, 53, 54, 55, 56, 57, 97, 98, 99, 100, 101, 102]⟩, .int .i32 (c.toNat : Int)] w fun e w' => e = .returned (.int .i64 (Nb.hexV c : Nat)) ∧ w = w' := by
  have h := Tryz.strings_IndexRune_ascii ⟨#[48, 49, 50, 51, 52, 53, 54, 55, 56, 57, 97, 98, 99, 100, 101, 102]⟩ (c.toNat : Int) w (by omega) (by have := val_ascii hv; omega)
  have e : ((c.toNat : Int)).toNat.toUInt8 = c := by rw [Int.toNat_natCast]; exact UInt8.ofNat_toNat
  rw [e] at h
  have h2 := hex_index c hv hx
  exact h.mono fun a w' ⟨p, q⟩ => ⟨by rw [p]; congr 2, q.symm⟩
set_option maxRecDepth 100000 in
set_option maxHeartbeats 400000 in
theorem iDigX (c : UInt8) (n : Nat) (w : World) (hx : c = 120 ∨ c = 122) (hn : n ≤ 4) :
    Calls Tryz.prog 83 #[.int .i32 (c.toNat : Int), .int .i64 n] w fun e w' => e = .returned (.string (S (List.replicate n c))) ∧ Below w.heap.size w w' := by
  have R := hide (fun v => iRep (S [c]) n v (by rw [S_size]; simp; omega) (by omega))
  rw [L_S, rep_one] at R
  generalize S (List.replicate n c) = T at *
  rcases hx with rfl | rfl
  · show Calls Tryz.prog 83 #[.int .i32 120, .int .i64 n] w _
    go_enter Tryz.func83, Tryz.ntmps83
    go_wp2_with fail
    rw [show Utf8.encode 120 = S [120] by kernel_rfl]
    refine (unhide R _).mono ?_
    rintro e v1 ⟨rfl, hb1⟩
    go_wp2
    go_ret
    exact ⟨rfl, hb1⟩
  · show Calls Tryz.prog 83 #[.int .i32 122, .int .i64 n] w _
    go_enter Tryz.func83, Tryz.ntmps83
    go_wp2_with fail
    rw [show Utf8.encode 122 = S [122] by kernel_rfl]
    refine (unhide R _).mono ?_
    rintro e v1 ⟨rfl, hb1⟩
    go_wp2
    go_ret
    exact ⟨rfl, hb1⟩
set_option maxRecDepth 100000 in
set_option maxHeartbeats 400000 in
theorem iDig1ok (k x : Nat) (w : World) (h1 : k ≠ 120) (h2 : k ≠ 122) (hx : x < 16) (hg : x < 2) (I : ∀ v, Calls Tryz.prog 103 #[.string ⟨#[48, 49, 50, 51, 52, 53, 54, 55, 56, 57, 97, 98, 99, 100, 101, 102]⟩, .int .i32 k] v fun e w' => e = .returned (.int .i64 (x : Nat)) ∧ v = w') :
    Calls Tryz.prog 83 #[.int .i32 k, .int .i64 1] w fun e w' => e = .returned (.string (S (Vb.nTxt 1 x))) ∧ Below w.heap.size w w' := by
  have I := hide I
  have q1 : ((k : Int) == 120) = false := by rw [beq_eq_false_iff_ne]; omega
  have q2 : ((k : Int) == 122) = false := by rw [beq_eq_false_iff_ne]; omega
  have q : ¬ (2 : Int) ≤ x := by omega
  have B := hide (fun v => iBitsOf (x : Int) 1 v (by omega) (by omega))
  rw [show ((x : Int) % 18446744073709551616).toNat = x by omega] at B
  generalize S (Vb.nTxt 1 x) = T at *
  go_enter Tryz.func83, Tryz.ntmps83
  go_wp2_with (first | (go_at_call 103; refine (unhide I _).mono ?_; rintro e w' ⟨rfl, rfl⟩) | (go_at_call 59; refine (unhide B _).mono ?_; rintro e v1 ⟨rfl, hb1⟩))
  go_ret
  exact ⟨rfl, hb1⟩
set_option maxRecDepth 100000 in
set_option maxHeartbeats 400000 in
theorem iDig1no (k x : Nat) (w : World) (h1 : k ≠ 120) (h2 : k ≠ 122) (hx : x < 16) (hg : 2 ≤ x) (I : ∀ v, Calls Tryz.prog 103 #[.string ⟨#[48, 49, 50, 51, 52, 53, 54, 55, 56, 57, 97, 98, 99, 100, 101, 102]⟩, .int .i32 k] v fun e w' => e = .returned (.int .i64 (x : Nat)) ∧ v = w') :
    Calls Tryz.prog 83 #[.int .i32 k, .int .i64 1] w fun e w' => e = .returned (.string (S [])) ∧ Below w.heap.size w w' := by
  have I := hide I
  have q1 : ((k : Int) == 120) = false := by rw [beq_eq_false_iff_ne]; omega
  have q2 : ((k : Int) == 122) = false := by rw [beq_eq_false_iff_ne]; omega
  have q : (2 : Int) ≤ x := by omega
  go_enter Tryz.func83, Tryz.ntmps83
  go_wp2_with (first | (go_at_call 103; refine (unhide I _).mono ?_; rintro e w' ⟨rfl, rfl⟩))
  go_ret
  exact ⟨rfl, brf _⟩
set_option maxRecDepth 100000 in
set_option maxHeartbeats 400000 in
theorem iDig3ok (k x : Nat) (w : World) (h1 : k ≠ 120) (h2 : k ≠ 122) (hx : x < 16) (hg : x < 8) (I : ∀ v, Calls Tryz.prog 103 #[.string ⟨#[48, 49, 50, 51, 52, 53, 54, 55, 56, 57, 97, 98, 99, 100, 101, 102]⟩, .int .i32 k] v fun e w' => e = .returned (.int .i64 (x : Nat)) ∧ v = w') :
    Calls Tryz.prog 83 #[.int .i32 k, .int .i64 3] w fun e w' => e = .returned (.string (S (Vb.nTxt 3 x))) ∧ Below w.heap.size w w' := by
  have I := hide I
  have q1 : ((k : Int) == 120) = false := by rw [beq_eq_false_iff_ne]; omega
  have q2 : ((k : Int) == 122) = false := by rw [beq_eq_false_iff_ne]; omega
  have q : ¬ (8 : Int) ≤ x := by omega
  have B := hide (fun v => iBitsOf (x : Int) 3 v (by omega) (by omega))
  rw [show ((x : Int) % 18446744073709551616).toNat = x by omega] at B
  generalize S (Vb.nTxt 3 x) = T at *
  go_enter Tryz.func83, Tryz.ntmps83
  go_wp2_with (first | (go_at_call 103; refine (unhide I _).mono ?_; rintro e w' ⟨rfl, rfl⟩) | (go_at_call 59; refine (unhide B _).mono ?_; rintro e v1 ⟨rfl, hb1⟩))
  go_ret
  exact ⟨rfl, hb1⟩
set_option maxRecDepth 100000 in
set_option maxHeartbeats 400000 in
theorem iDig3no (k x : Nat) (w : World) (h1 : k ≠ 120) (h2 : k ≠ 122) (hx : x < 16) (hg : 8 ≤ x) (I : ∀ v, Calls Tryz.prog 103 #[.string ⟨#[48, 49, 50, 51, 52, 53, 54, 55, 56, 57, 97, 98, 99, 100, 101, 102]⟩, .int .i32 k] v fun e w' => e = .returned (.int .i64 (x : Nat)) ∧ v = w') :
    Calls Tryz.prog 83 #[.int .i32 k, .int .i64 3] w fun e w' => e = .returned (.string (S [])) ∧ Below w.heap.size w w' := by
  have I := hide I
  have q1 : ((k : Int) == 120) = false := by rw [beq_eq_false_iff_ne]; omega
  have q2 : ((k : Int) == 122) = false := by rw [beq_eq_false_iff_ne]; omega
  have q : (8 : Int) ≤ x := by omega
  go_enter Tryz.func83, Tryz.ntmps83
  go_wp2_with (first | (go_at_call 103; refine (unhide I _).mono ?_; rintro e w' ⟨rfl, rfl⟩))
  go_ret
  exact ⟨rfl, brf _⟩
set_option maxRecDepth 100000 in
set_option maxHeartbeats 400000 in
theorem iDig4ok (k x : Nat) (w : World) (h1 : k ≠ 120) (h2 : k ≠ 122) (hx : x < 16) (hg : x < 16) (I : ∀ v, Calls Tryz.prog 103 #[.string ⟨#[48, 49, 50, 51, 52, 53, 54, 55, 56, 57, 97, 98, 99, 100, 101, 102]⟩, .int .i32 k] v fun e w' => e = .returned (.int .i64 (x : Nat)) ∧ v = w') :
    Calls Tryz.prog 83 #[.int .i32 k, .int .i64 4] w fun e w' => e = .returned (.string (S (Vb.nTxt 4 x))) ∧ Below w.heap.size w w' := by
  have I := hide I
  have q1 : ((k : Int) == 120) = false := by rw [beq_eq_false_iff_ne]; omega
  have q2 : ((k : Int) == 122) = false := by rw [beq_eq_false_iff_ne]; omega
  have q : ¬ (16 : Int) ≤ x := by omega
  have B := hide (fun v => iBitsOf (x : Int) 4 v (by omega) (by omega))
  rw [show ((x : Int) % 18446744073709551616).toNat = x by omega] at B
  generalize S (Vb.nTxt 4 x) = T at *
  go_enter Tryz.func83, Tryz.ntmps83
  go_wp2_with (first | (go_at_call 103; refine (unhide I _).mono ?_; rintro e w' ⟨rfl, rfl⟩) | (go_at_call 59; refine (unhide B _).mono ?_; rintro e v1 ⟨rfl, hb1⟩))
  go_ret
  exact ⟨rfl, hb1⟩
set_option maxRecDepth 100000 in
set_option maxHeartbeats 400000 in
theorem iDig4no (k x : Nat) (w : World) (h1 : k ≠ 120) (h2 : k ≠ 122) (hx : x < 16) (hg : 16 ≤ x) (I : ∀ v, Calls Tryz.prog 103 #[.string ⟨#[48, 49, 50, 51, 52, 53, 54, 55, 56, 57, 97, 98, 99, 100, 101, 102]⟩, .int .i32 k] v fun e w' => e = .returned (.int .i64 (x : Nat)) ∧ v = w') :
    Calls Tryz.prog 83 #[.int .i32 k, .int .i64 4] w fun e w' => e = .returned (.string (S [])) ∧ Below w.heap.size w w' := by
  have I := hide I
  have q1 : ((k : Int) == 120) = false := by rw [beq_eq_false_iff_ne]; omega
  have q2 : ((k : Int) == 122) = false := by rw [beq_eq_false_iff_ne]; omega
  have q : (16 : Int) ≤ x := by omega
  go_enter Tryz.func83, Tryz.ntmps83
  go_wp2_with (first | (go_at_call 103; refine (unhide I _).mono ?_; rintro e w' ⟨rfl, rfl⟩))
  go_ret
  exact ⟨rfl, brf _⟩
theorem hexV_lt {c : UInt8} (hv : Nb.valB c = true) (hx : ¬ (c = 120 ∨ c = 122)) : Nb.hexV c < 16 := by
  have h : ∀ n : Fin 256, Nb.valB (UInt8.ofFin n) = true → ¬ (UInt8.ofFin n = 120 ∨ UInt8.ofFin n = 122) → Nb.hexV (UInt8.ofFin n) < 16 := by decide +kernel
  exact h c.toFin hv hx
theorem nDigit (c : UInt8) (n : Nat) (w : World) (hv : Nb.valB c = true) (hn : n = 1 ∨ n = 3 ∨ n = 4) :
    Calls Tryz.prog 83 #[.int .i32 (c.toNat : Int), .int .i64 n] w fun e w' => e = .returned (.string (S ((Nb.digT n c).getD []))) ∧ Below w.heap.size w w' := by
  by_cases hx : c = 120 ∨ c = 122
  · rw [show Nb.digT n c = some (List.replicate n c) by unfold Nb.digT; rw [if_pos hx]]
    exact iDigX c n w hx (by omega)
  · rw [show Nb.digT n c = if 2 ^ n ≤ Nb.hexV c then none else some (Vb.nTxt n (Nb.hexV c)) by unfold Nb.digT; rw [if_neg hx]]
    have I := fun v => iIdx c v hv hx
    have k1 : c.toNat ≠ 120 := fun e => hx (.inl (UInt8.toNat_inj.1 e))
    have k2 : c.toNat ≠ 122 := fun e => hx (.inr (UInt8.toNat_inj.1 e))
    have hl := hexV_lt hv hx
    rcases hn with rfl | rfl | rfl
    · by_cases hg : 2 ^ 1 ≤ Nb.hexV c
      · rw [if_pos hg]; exact iDig1no _ _ w k1 k2 hl hg I
      · rw [if_neg hg]; exact iDig1ok _ _ w k1 k2 hl (by omega) I
    · by_cases hg : 2 ^ 3 ≤ Nb.hexV c
      · rw [if_pos hg]; exact iDig3no _ _ w k1 k2 hl hg I
      · rw [if_neg hg]; exact iDig3ok _ _ w k1 k2 hl (by omega) I
    · rw [if_neg (by omega)]; exact iDig4ok _ _ w k1 k2 hl (by omega) I
end Go.Proofs.YtlcpmbdckmdabaaGreatDoor
namespace Go.Proofs.YtlcpmbdckmdabaaGreatDoor
open Go.RowKit
set_option maxRecDepth 100000
set_option linter.unusedVariables false
set_option linter.unusedSimpArgs false
theorem grown_below {w W : World} (hb : Below w.heap.size w W) : w.grownBy W none := ⟨hb.os, hb.tape, hb.output, hb.size, fun k hk _ => hb.block k hk⟩
theorem atF_later {T e : TypeId} {B b : Nat} {p : Value} {bs : List Value} {w W : World} (h : Lib.BuilderAtF T e B b p bs w) (hb : Below w.heap.size w W) : Lib.BuilderAtF T e B b p bs W := by
  have hlt := h.lt
  obtain ⟨hB, v, h1, h2, h3⟩ := h
  exact ⟨hB, v, (hb.block b hlt).trans h1, h2.kept (grown_below hb) (by cases v.ownBlock <;> simp), h3⟩
theorem isF_later {T e : TypeId} {B b : Nat} {bs : List Value} {w W : World} (h : Lib.IsBuilderF T e B b bs w) (hb : Below w.heap.size w W) : Lib.IsBuilderF T e B b bs W :=
  h.imp (fun h => atF_later h hb) (fun h => atF_later h hb)
theorem iter_later {w W : World} {k : Nat} {s : ByteArray} {pos : Nat} (h : w.heap[k]? = some (.stringIter s pos)) (hb : Below w.heap.size w W) : W.heap[k]? = some (.stringIter s pos) :=
  (hb.block k (Array.getElem?_eq_some_iff.1 h).1).trans h
theorem S_empty {l : List UInt8} (h : l ≠ []) : (S l).toList.isEmpty = false := by
  rw [ByteArray.toList_eq]; show l.isEmpty = false
  cases l with
  | nil => exact absurd rfl h
  | cons _ _ => rfl
theorem strCells_S (l : List UInt8) : Lib.strCells (S l) = Lib.byteCells l := rfl
theorem iBStr (B b : Nat) (l : List UInt8) (w : World) (h : Lib.IsBuilderF 97 5 B b (Lib.byteCells l) w) (hBw : B ≤ w.heap.size) :
    Calls Tryz.prog 85 #[.pointer (some ⟨b, 0, none⟩)] w fun e w' => e = .returned (.string (S l)) ∧ Below B w w' :=
  (Tryz.Builder_String_any_k B b l w h hBw).mono fun e w' ⟨a, _, c, _⟩ => ⟨a, c⟩
theorem iTrim0 (s : ByteArray) (w : World) (hs : s.size ≤ maxLen) :
    Calls Tryz.prog 86 #[.string s, .string ⟨#[48]⟩] w fun e w' => e = .returned (.string (S (Lib.trimB (L s) 48))) ∧ Below w.heap.size w w' :=
  (Tryz.strings_Trim_one s 48 (by decide) w hs).mono fun e w' ⟨a, b⟩ => ⟨a, by rcases b with rfl | rfl; exact brf _; exact bdr (brf _)⟩
theorem dropWhile_nil (p : UInt8 → Bool) (l : List UInt8) : l.dropWhile p = [] ↔ l.all p = true := by
  induction l with
  | nil => simp
  | cons c t ih =>
    rw [List.dropWhile_cons, List.all_cons]
    cases hc : p c
    · simp
    · simpa using ih
theorem trimB_empty (l : List UInt8) : (S (Lib.trimB l 48)).data.toList.isEmpty = l.all (fun c => c == 48) := by
  show (Lib.trimB l 48).isEmpty = _
  have h1 : (Lib.trimB l 48 = []) ↔ l.all (fun c => c == 48) = true := by
    unfold Lib.trimB Lib.trimLeftB Lib.trimRightB
    rw [dropWhile_nil]
    constructor
    · intro h
      have e : l.reverse.dropWhile (· == 48) = [] := by
        cases hd : l.reverse.dropWhile (· == 48) with
        | nil => rfl
        | cons c t =>
          have h2 := List.head_dropWhile_not (p := (· == 48)) (l := l.reverse) (by rw [hd]; simp)
          rw [hd] at h
          simp only [hd, List.head_cons] at h2
          have h3 := List.all_eq_true.1 h c (by simp)
          rw [h3] at h2; exact absurd h2 (by decide)
      rw [dropWhile_nil, List.all_reverse] at e
      exact e
    · intro h
      have e : l.reverse.dropWhile (· == 48) = [] := by rw [dropWhile_nil, List.all_reverse]; exact h
      rw [e]; rfl
  cases h : l.all (fun c => c == 48)
  · rw [List.isEmpty_eq_false_iff]; intro e; rw [h1.1 e] at h; exact absurd h (by decide)
  · rw [h1.2 h]; rfl
theorem headD_get {l : List UInt8} (h : 0 < l.length) : l.headD 0 = l[0] := by
  cases l with
  | nil => simp at h
  | cons c t => rfl
/-- What bitsOfDigits tells. -/
def ndigR (sz n : Nat) (v : List UInt8) : List UInt8 × Nat := match Nb.digsA sz [] v with
  | none => ([], 3)
  | some all => match Nb.fitT n (Nb.padC v) all with
    | none => ([], 11)
    | some r => (r, 0)
set_option maxRecDepth 100000 in
set_option maxHeartbeats 800000 in
theorem iDigs (s : ByteArray) (sz n : Nat) (w : World) (hs : s.size ≤ 1000) (h1 : 1 ≤ n) (h2 : n ≤ 64) (hsz : sz = 1 ∨ sz = 3 ∨ sz = 4) (hv : (L s).all Nb.valB = true) (h0 : 1 ≤ s.size) (R : List UInt8 × Nat) (hR : ndigR sz n (L s) = R) :
    Calls Tryz.prog 63 #[.string s, .int .i64 sz, .int .i64 n] w fun e w' => e = .returned (bdV R) ∧ Below w.heap.size w w' := by
  have HV := hide hv
  have HR := hide hR
  have hs4 : sz ≤ 4 := by omega
  have hs1 : 1 ≤ sz := by omega
  have HSZ := hide hsz
  clear hv hR hsz
  go_enter Tryz.func63, Tryz.ntmps63
  go_wp2
  go_loopw [] (fun wr => ∃ (pos : Nat) (acc : List UInt8), Lib.IsBuilderF 97 5 w.heap.size w.heap.size (Lib.byteCells acc) wr ∧ wr.heap[w.heap.size + 1]? = some (.stringIter s pos) ∧ Below w.heap.size w wr ∧ pos ≤ s.size ∧ Nb.digsA sz [] ((L s).take pos) = some acc ∧ acc.length = sz * pos) (fun wr => s.size - wr.iterPos (w.heap.size + 1))
  case atStart =>
    refine ⟨0, [], (Lib.IsBuilderF.of (Lib.fresh_isBuilder 97 5 w)).alloc _, ?_, ((Below.refl _ w).alloc (Nat.le_refl _) _).alloc (by simp) _, by omega, rfl, rfl⟩
    have := World.iter_heap (w.alloc (.cells #[.pointer none, .slice none 0 0] 97)) s 0
    simpa using this
  case round =>
    obtain ⟨pos, acc, hI, hit, hbw, hps, hda, hal⟩ := hrel
    have hsz : w.heap.size + 1 < wr.heap.size := (Array.getElem?_eq_some_iff.1 hit).1
    by_cases hp : pos < s.size
    · have hcv : Nb.valB s[pos] = true := List.all_eq_true.1 (unhide HV) _ (L_mem s pos hp)
      have hdec := decode_ascii s pos hp (val_ascii hcv)
      have hnx : ∀ ty, (Instr.next (.pointer (some ⟨w.heap.size + 1, 0, none⟩)) true ty).run Tryz.prog wr = _ := fun ty => Lib.run_next_any_at wr (w.heap.size + 1) s pos ty hit hp
      rw [hdec] at hnx
      have hI2 := hI.iterAt hit (pos + 1)
      have hit2 := Lib.iterAt_heap wr (w.heap.size + 1) s pos (pos + 1) hit
      have hbw2 := Lib.below_iterAt hbw (k := w.heap.size + 1) (by omega) s (pos + 1)
      have hsz2 : w.heap.size ≤ (wr.iterAt (w.heap.size + 1) s (pos + 1)).heap.size := by rw [Lib.iterAt_size]; omega
      have DG := hide (fun v => nDigit s[pos] sz v hcv (unhide HSZ))
      have hsn := Nb.digsA_snoc sz ((L s).take pos) [] s[pos] hda
      rw [← L_take s pos hp] at hsn
      have HI := hide hI
      have HI2 := hide hI2
      have HIT := hide hit
      have HIT2 := hide hit2
      have HBW2 := hide hbw2
      clear hI hI2 hit hit2 hbw hbw2 hdec hcv
      cases hdt : Nb.digT sz s[pos] with
      | none =>
        rw [hdt] at DG hsn
        have HR2 : Hid (([], 3) = R) := hide (by
          rw [← unhide HR]; unfold ndigR
          have := Nb.digsA_bad sz ((L s).take (pos + 1)) [] ((L s).drop (pos + 1)) hsn
          rw [List.take_append_drop] at this
          rw [this])
        have he0 : (S []).toList.isEmpty = true := by rw [ByteArray.toList_eq]; rfl
        have DG2 : Hid (∀ v, Calls Tryz.prog 83 #[.int .i32 (s[pos].toNat : Int), .int .i64 sz] v fun e w' => e = .returned (.string (S [])) ∧ Below v.heap.size v w') := unhide DG
        clear hsn hda hdt DG
        go_wp2_with (go_at_call 83; refine (unhide DG2 _).mono ?_; rintro e v1 ⟨rfl, hb1⟩)
        exact bodyPost_ret (v := bdV ([], 3)) (by simp [results, Tryz.results63, go_sem, bdV, S]) rfl ⟨by rw [unhide HR2], (unhide HBW2).trans (hb1.mono hsz2)⟩
      | some y =>
        rw [hdt] at DG hsn
        have hyl := Nb.digT_len hdt
        have hye : (S y).toList.isEmpty = false := S_empty (fun e => by rw [e] at hyl; simp at hyl; omega)
        have DG2 : Hid (∀ v, Calls Tryz.prog 83 #[.int .i32 (s[pos].toNat : Int), .int .i64 sz] v fun e w' => e = .returned (.string (S y)) ∧ Below v.heap.size v w') := unhide DG
        have HSN := hide hsn
        have zy : (S y).size = sz := by rw [S_size, hyl]
        clear hsn hda hdt DG
        go_wp2_with (go_at_call 83; refine (unhide DG2 _).mono ?_; rintro e v1 ⟨rfl, hb1⟩)
        have hv1 : w.heap.size ≤ v1.heap.size := Nat.le_trans hsz2 hb1.size
        refine (Tryz.Builder_WriteString_k w.heap.size w.heap.size _ (S y) v1 (isF_later (unhide HI2) hb1) (by rw [Lib.byteCells_length, hal, zy]; have : sz * pos ≤ 4 * 1000 := Nat.mul_le_mul hs4 (by omega); omega) hv1).mono ?_
        rintro e W1 ⟨rfl, hw1, b1, k1⟩
        have hit3 := k1.iter (iter_later (unhide HIT2) hb1) (by omega)
        have HW1 := hide hw1
        have HIT3 := hide hit3
        have HB3 := hide ((((unhide HBW2).trans (hb1.mono hsz2))).trans b1)
        clear hw1 hit3 b1 k1 hb1
        go_wp2
        go_roundw
        case rel =>
          refine ⟨pos + 1, acc ++ y, ?_, unhide HIT3, unhide HB3, by omega, unhide HSN, by rw [List.length_append, hal, hyl, Nat.mul_add, Nat.mul_one]⟩
          rw [Lib.byteCells_append, ← strCells_S y]; exact Or.inr (unhide HW1)
        case measure =>
          simp only [World.iterPos, unhide HIT3, unhide HIT]
          omega
    · have hpe : (L s).take pos = L s := L_take_all s pos (by omega)
      rw [hpe] at hda
      have hnx : ∀ ty, (Instr.next (.pointer (some ⟨w.heap.size + 1, 0, none⟩)) true ty).run Tryz.prog wr = _ := fun ty => Lib.run_next_end_at wr (w.heap.size + 1) s pos ty hit hp
      obtain rfl : pos = s.size := by omega
      have hal2 : acc.length ≤ 4000 := by rw [hal]; exact Nat.mul_le_mul hs4 hs
      have HDA := hide hda
      have HI := hide hI
      have HBW := hide hbw
      clear hda hI hbw hit hpe hal
      go_wp2_with fail
      refine (iBStr w.heap.size w.heap.size acc _ (unhide HI) (by omega)).mono ?_
      rintro e W1 ⟨rfl, b1⟩
      have HB1 := hide ((unhide HBW).trans b1)
      clear b1
      have za : (S acc).size = acc.length := S_size acc
      by_cases hlong : n < acc.length
      · obtain ⟨m, hxm⟩ : ∃ m, acc.length = m + n := ⟨acc.length - n, by omega⟩
        rw [hxm] at za
        have hm4 : m ≤ 4000 := by omega
        have hm1 : 1 ≤ m := by omega
        have xc : (S acc).extract 0 m = S (acc.take m) := by
          apply L_inj; rw [L_extract, L_S, L_S, List.drop_zero, Nat.sub_zero]
        have xd : (S acc).extract m (m + n) = S (acc.drop m) := by
          apply L_inj; rw [L_extract, L_S, L_S, List.take_of_length_le (by rw [List.length_drop]; omega)]
        have TR := hide (fun v => iTrim0 (S (acc.take m)) v (by rw [S_size, List.length_take]; unfold maxLen; omega))
        rw [L_S] at TR
        have hfit : Nb.fitT n (Nb.padC (L s)) acc = if (acc.take m).all (fun c => c == 48) = true then some (acc.drop m) else none := by
          unfold Nb.fitT; rw [if_pos hlong, hxm, Nat.add_sub_cancel]
        have hem : (S (Lib.trimB (acc.take m) 48)).toList.isEmpty = (acc.take m).all (fun c => c == 48) := by
          rw [ByteArray.toList_eq]; exact trimB_empty _
        by_cases hz : (acc.take m).all (fun c => c == 48) = true
        · have HR2 : Hid ((acc.drop m, 0) = R) := hide (by rw [← unhide HR]; unfold ndigR; rw [unhide HDA]; simp only [hfit, hz, if_true])
          rw [hz] at hem
          clear hfit hz hlong hxm hal2
          go_wp2_with (go_at_call 86; refine (unhide TR _).mono ?_; rintro e v2 ⟨rfl, hb2⟩)
          exact bodyPost_ret (v := bdV (acc.drop m, 0)) (by simp [results, Tryz.results63, go_sem, bdV]) rfl ⟨by rw [unhide HR2], below_nst (unhide HB1) hb2⟩
        · have hz' : (acc.take m).all (fun c => c == 48) = false := by simpa using hz
          have HR2 : Hid (([], 11) = R) := hide (by rw [← unhide HR]; unfold ndigR; rw [unhide HDA]; simp only [hfit, hz', if_false]; rfl)
          rw [hz'] at hem
          clear hfit hz hz' hlong hxm hal2
          go_wp2_with (go_at_call 86; refine (unhide TR _).mono ?_; rintro e v2 ⟨rfl, hb2⟩)
          exact bodyPost_ret (v := bdV ([], 11)) (by simp [results, Tryz.results63, go_sem, bdV, S]) rfl ⟨by rw [unhide HR2], below_nst (unhide HB1) hb2⟩
      · obtain ⟨j, hj⟩ : ∃ j, j + acc.length = n := ⟨n - acc.length, by omega⟩
        have hp0 : 0 < s.size := h0
        have hfit : Nb.fitT n (Nb.padC (L s)) acc = some (List.replicate j (Nb.padC (L s)) ++ acc) := by
          unfold Nb.fitT; rw [if_neg hlong, show n - acc.length = j by omega]
        have HR2 : Hid ((List.replicate j (Nb.padC (L s)) ++ acc, 0) = R) := hide (by rw [← unhide HR]; unfold ndigR; rw [unhide HDA]; simp only [hfit])
        have hpc : Nb.padC (L s) = if s[0] = 120 ∨ s[0] = 122 then s[0] else 48 := by
          unfold Nb.padC; rw [show (L s).headD 0 = s[0] from headD_get (by rw [L_len]; exact hp0)]
        have RP := fun c v => iRep (S [c]) j v (by rw [S_size]; simp; omega) (by omega)
        simp only [L_S, rep_one] at RP
        have eRA : ∀ c, S (List.replicate j c) ++ S acc = S (List.replicate j c ++ acc) := fun c => S_app' _ _
        have zR : ∀ c, (S (List.replicate j c)).size = j := fun c => by rw [S_size, List.length_replicate]
        by_cases c1 : s[0] = 120
        · have hc := c1
          have x0 : s.extract 0 1 = S [120] := by have := ext_one s 0 hp0; rwa [hc] at this
          rw [hc, if_pos (by decide)] at hpc
          have HR3 : Hid ((List.replicate j 120 ++ acc, 0) = R) := hide (by rw [← hpc]; exact unhide HR2)
          have RR := hide (RP 120)
          have eR := eRA 120
          have zz := zR 120
          clear hfit hlong hpc eRA zR RP
          go_wp2_with (go_at_call 87; rw [show (n : Int) - (acc.length : Int) = (j : Int) by omega]; refine (unhide RR _).mono ?_; rintro e v2 ⟨rfl, hb2⟩)
          exact bodyPost_ret (v := bdV (List.replicate j 120 ++ acc, 0)) (by simp [results, Tryz.results63, go_sem, bdV]) rfl ⟨by rw [unhide HR3], below_nst (unhide HB1) hb2⟩
        by_cases c2 : s[0] = 122
        · have hc := c2
          have x0 : s.extract 0 1 = S [122] := by have := ext_one s 0 hp0; rwa [hc] at this
          rw [hc, if_pos (by decide)] at hpc
          have HR3 : Hid ((List.replicate j 122 ++ acc, 0) = R) := hide (by rw [← hpc]; exact unhide HR2)
          have RR := hide (RP 122)
          have eR := eRA 122
          have zz := zR 122
          clear hfit hlong hpc eRA zR RP
          go_wp2_with (go_at_call 87; rw [show (n : Int) - (acc.length : Int) = (j : Int) by omega]; refine (unhide RR _).mono ?_; rintro e v2 ⟨rfl, hb2⟩)
          exact bodyPost_ret (v := bdV (List.replicate j 122 ++ acc, 0)) (by simp [results, Tryz.results63, go_sem, bdV]) rfl ⟨by rw [unhide HR3], below_nst (unhide HB1) hb2⟩
        rw [if_neg (by rintro (h | h); exact c1 h; exact c2 h)] at hpc
        have q1 : ((s[0].toNat : Int) == 120) = false := u8x c1
        have q2 : ((s[0].toNat : Int) == 122) = false := u8x c2
        have HR3 : Hid ((List.replicate j 48 ++ acc, 0) = R) := hide (by rw [← hpc]; exact unhide HR2)
        have RR : Hid (∀ v, Calls Tryz.prog 87 #[.string ⟨#[48]⟩, .int .i64 j] v fun e w' => e = .returned (.string (S (List.replicate j 48))) ∧ Below v.heap.size v w') := RP 48
        have eR := eRA 48
        have zz := zR 48
        clear hfit hlong hpc eRA zR RP c1 c2
        go_wp2_with (go_at_call 87; rw [show (n : Int) - (acc.length : Int) = (j : Int) by omega]; refine (unhide RR _).mono ?_; rintro e v2 ⟨rfl, hb2⟩)
        exact bodyPost_ret (v := bdV (List.replicate j 48 ++ acc, 0)) (by simp [results, Tryz.results63, go_sem, bdV]) rfl ⟨by rw [unhide HR3], below_nst (unhide HB1) hb2⟩
end Go.Proofs.YtlcpmbdckmdabaaGreatDoor
namespace Go.Proofs.YtlcpmbdckmdabaaGreatDoor
open Go.RowKit
set_option maxRecDepth 100000
set_option linter.unusedVariables false
set_option linter.unusedSimpArgs false
def baseR (n : Nat) (b : UInt8) (v : List UInt8) : List UInt8 × Nat := if b = 100 then decR n v else ndigR (Nb.baseN b) n v
set_option maxRecDepth 100000 in
set_option maxHeartbeats 400000 in
theorem iBase_d (s : ByteArray) (n : Nat) (w : World) (hs : s.size ≤ 1000) (h1 : 1 ≤ n) (h2 : n ≤ 64) (h0 : L s ≠ []) (hg : Gd w) (R : List UInt8 × Nat) (hR : decR n (L s) = R) :
    Calls Tryz.prog 44 #[.int .u8 100, .string s, .int .i64 n] w fun e w' => e = .returned (bdV R) ∧ Below w.heap.size w w' := by
  have D := hide (fun v hg => iDec s n v (by omega) h1 h2 h0 hg)
  rw [hR] at D
  unfold bdV at D ⊢
  have HG := hide hg
  clear hR hg h0
  go_enter Tryz.func44, Tryz.ntmps44
  go_wp2_with fail
  refine (unhide D _ (unhide HG)).mono ?_
  rintro e v1 ⟨rfl, hb1⟩
  go_wp2
  exact bodyPost_ret (v := .tuple #[.string (S R.1), .int .i64 (R.2 : Nat)]) (by simp [results, Tryz.results44, go_sem]) rfl ⟨rfl, hb1⟩
set_option maxRecDepth 100000 in
set_option maxHeartbeats 400000 in
theorem iBase_b (s : ByteArray) (n : Nat) (w : World) (hs : s.size ≤ 1000) (h1 : 1 ≤ n) (h2 : n ≤ 64) (hv : (L s).all Nb.valB = true) (h0 : 1 ≤ s.size) (R : List UInt8 × Nat) (hR : ndigR 1 n (L s) = R) :
    Calls Tryz.prog 44 #[.int .u8 98, .string s, .int .i64 n] w fun e w' => e = .returned (bdV R) ∧ Below w.heap.size w w' := by
  have D : Hid (∀ v, Calls Tryz.prog 63 #[.string s, .int .i64 1, .int .i64 n] v fun e w' => e = .returned (bdV R) ∧ Below v.heap.size v w') := fun v => iDigs s 1 n v hs h1 h2 (by omega) hv h0 R hR
  unfold bdV at D ⊢
  clear hR hv
  go_enter Tryz.func44, Tryz.ntmps44
  go_wp2_with fail
  refine (unhide D _).mono ?_
  rintro e v1 ⟨rfl, hb1⟩
  go_wp2
  exact bodyPost_ret (v := .tuple #[.string (S R.1), .int .i64 (R.2 : Nat)]) (by simp [results, Tryz.results44, go_sem]) rfl ⟨rfl, hb1⟩
set_option maxRecDepth 100000 in
set_option maxHeartbeats 400000 in
theorem iBase_o (s : ByteArray) (n : Nat) (w : World) (hs : s.size ≤ 1000) (h1 : 1 ≤ n) (h2 : n ≤ 64) (hv : (L s).all Nb.valB = true) (h0 : 1 ≤ s.size) (R : List UInt8 × Nat) (hR : ndigR 3 n (L s) = R) :
    Calls Tryz.prog 44 #[.int .u8 111, .string s, .int .i64 n] w fun e w' => e = .returned (bdV R) ∧ Below w.heap.size w w' := by
  have D : Hid (∀ v, Calls Tryz.prog 63 #[.string s, .int .i64 3, .int .i64 n] v fun e w' => e = .returned (bdV R) ∧ Below v.heap.size v w') := fun v => iDigs s 3 n v hs h1 h2 (by omega) hv h0 R hR
  unfold bdV at D ⊢
  clear hR hv
  go_enter Tryz.func44, Tryz.ntmps44
  go_wp2_with fail
  refine (unhide D _).mono ?_
  rintro e v1 ⟨rfl, hb1⟩
  go_wp2
  exact bodyPost_ret (v := .tuple #[.string (S R.1), .int .i64 (R.2 : Nat)]) (by simp [results, Tryz.results44, go_sem]) rfl ⟨rfl, hb1⟩
set_option maxRecDepth 100000 in
set_option maxHeartbeats 400000 in
theorem iBase_h (s : ByteArray) (n : Nat) (w : World) (hs : s.size ≤ 1000) (h1 : 1 ≤ n) (h2 : n ≤ 64) (hv : (L s).all Nb.valB = true) (h0 : 1 ≤ s.size) (R : List UInt8 × Nat) (hR : ndigR 4 n (L s) = R) :
    Calls Tryz.prog 44 #[.int .u8 104, .string s, .int .i64 n] w fun e w' => e = .returned (bdV R) ∧ Below w.heap.size w w' := by
  have D : Hid (∀ v, Calls Tryz.prog 63 #[.string s, .int .i64 4, .int .i64 n] v fun e w' => e = .returned (bdV R) ∧ Below v.heap.size v w') := fun v => iDigs s 4 n v hs h1 h2 (by omega) hv h0 R hR
  unfold bdV at D ⊢
  clear hR hv
  go_enter Tryz.func44, Tryz.ntmps44
  go_wp2_with fail
  refine (unhide D _).mono ?_
  rintro e v1 ⟨rfl, hb1⟩
  go_wp2
  exact bodyPost_ret (v := .tuple #[.string (S R.1), .int .i64 (R.2 : Nat)]) (by simp [results, Tryz.results44, go_sem]) rfl ⟨rfl, hb1⟩
theorem iBase (b : UInt8) (s : ByteArray) (n : Nat) (w : World) (hs : s.size ≤ 1000) (h1 : 1 ≤ n) (h2 : n ≤ 64) (hb : Nb.baseB b = true) (hv : (L s).all Nb.valB = true) (h0 : 1 ≤ s.size) (hg : Gd w) :
    Calls Tryz.prog 44 #[.int .u8 (b.toNat : Int), .string s, .int .i64 n] w fun e w' => e = .returned (bdV (baseR n b (L s))) ∧ Below w.heap.size w w' := by
  have hne : L s ≠ [] := fun e => by have := L_len s; rw [e] at this; simp at this; omega
  rcases Nb.base_cases hb with rfl | rfl | rfl | rfl
  · exact iBase_b s n w hs h1 h2 hv h0 _ rfl
  · exact iBase_o s n w hs h1 h2 hv h0 _ rfl
  · exact iBase_h s n w hs h1 h2 hv h0 _ rfl
  · exact iBase_d s n w hs h1 h2 hne hg _ rfl
end Go.Proofs.YtlcpmbdckmdabaaGreatDoor
namespace Go.Proofs.YtlcpmbdckmdabaaGreatDoor
open Go.RowKit
set_option maxRecDepth 100000
set_option linter.unusedVariables false
set_option linter.unusedSimpArgs false
theorem index_at : ∀ (d r : List UInt8), d.all Nb.digB = true → Lib.index (d ++ 39 :: r) [39] = (d.length : Int)
  | [], r, _ => by rw [List.nil_append, Lib.index]; simp
  | c :: d, r, h => by
    have hc : Nb.digB c = true := by simp at h; exact h.1
    have hne : c ≠ 39 := fun e => by rw [e] at hc; exact absurd hc (by decide)
    have ih := index_at d r (by simp at h ⊢; exact h.2)
    rw [List.cons_append, Lib.index, ih]
    rw [if_neg (by simp [List.isPrefixOf]; exact fun e => hne e.symm), if_neg (by simp)]
    simp
theorem index_no : ∀ (d : List UInt8), d.all Nb.digB = true → Lib.index d [39] = -1
  | [], _ => rfl
  | c :: d, h => by
    have hc : Nb.digB c = true := by simp at h; exact h.1
    have hne : c ≠ 39 := fun e => by rw [e] at hc; exact absurd hc (by decide)
    have ih := index_no d (by simp at h ⊢; exact h.2)
    rw [Lib.index, ih, if_neg (by simp [List.isPrefixOf]; exact fun e => hne e.symm)]; rfl
set_option maxRecDepth 100000 in
set_option maxHeartbeats 400000 in
theorem iCutI (s : ByteArray) (w : World) (hs : s.size ≤ 1000) (i : Int) (hi : Lib.indexByte (L s) 39 = i) (h1 : -1 ≤ i) (h2 : i < s.size) :
    Calls Tryz.prog 58 #[.string s, .string ⟨#[39]⟩] w fun e w' => e = .returned (.tuple #[.string (S (if 0 ≤ i then (L s).take i.toNat else L s)), .string (S (if 0 ≤ i then (L s).drop (i.toNat + 1) else [])), .bool (decide (0 ≤ i))]) ∧ Below w.heap.size w w' := by
  have I : Hid (∀ v, Calls Tryz.prog 72 #[.string s, .string ⟨#[39]⟩] v fun e w' => e = .returned (.int .i64 i) ∧ v = w') := fun v => (Tryz.stringslite_Index_one s 39 v).mono fun e w' ⟨a, b⟩ => ⟨by rw [a]; exact congrArg (fun x => Ending.returned (.int .i64 x)) hi, b.symm⟩
  by_cases h0 : 0 ≤ i
  · obtain ⟨k, rfl⟩ : ∃ k : Nat, i = k := ⟨i.toNat, by omega⟩
    rw [if_pos h0, if_pos h0, decide_eq_true h0, Int.toNat_natCast]
    have x1 : s.extract 0 k = S ((L s).take k) := by apply L_inj; rw [L_extract, L_S, List.drop_zero, Nat.sub_zero]
    have x2 : s.extract (k + 1) s.size = S ((L s).drop (k + 1)) := by
      apply L_inj; rw [L_extract, L_S, List.take_of_length_le (by rw [List.length_drop, L_len]; exact Nat.le_refl _)]
    have hk : k < s.size := by omega
    clear hi
    generalize S ((L s).take k) = T1 at *
    generalize S ((L s).drop (k + 1)) = T2 at *
    go_enter Tryz.func58, Tryz.ntmps58
    go_wp2_with (first | (go_at_call 72; refine (unhide I _).mono ?_; rintro e w' ⟨rfl, rfl⟩))
    go_quiet (fail)
    go_wp2
    exact bodyPost_ret (v := .tuple #[.string T1, .string T2, .bool true]) (by simp [results, Tryz.results58, go_sem]) rfl ⟨rfl, below_drewN (brf _) _⟩
  · rw [if_neg h0, if_neg h0, decide_eq_false h0, S_L]
    clear hi
    go_enter Tryz.func58, Tryz.ntmps58
    go_wp2_with (first | (go_at_call 72; refine (unhide I _).mono ?_; rintro e w' ⟨rfl, rfl⟩))
    exact bodyPost_ret (v := .tuple #[.string s, .string (S []), .bool false]) (by simp [results, Tryz.results58, go_sem, S]) rfl ⟨rfl, brf _⟩
set_option maxRecDepth 100000 in
set_option maxHeartbeats 400000 in
theorem iCutW (s : ByteArray) (w : World) (hs : s.size ≤ 1000) (i : Int) (hi : Lib.indexByte (L s) 39 = i) (h1 : -1 ≤ i) (h2 : i < s.size) :
    Calls Tryz.prog 40 #[.string s, .string ⟨#[39]⟩] w fun e w' => e = .returned (.tuple #[.string (S (if 0 ≤ i then (L s).take i.toNat else L s)), .string (S (if 0 ≤ i then (L s).drop (i.toNat + 1) else [])), .bool (decide (0 ≤ i))]) ∧ Below w.heap.size w w' := by
  have I := hide (fun v => iCutI s v hs i hi h1 h2)
  generalize S (if 0 ≤ i then (L s).take i.toNat else L s) = T1 at *
  generalize S (if 0 ≤ i then (L s).drop (i.toNat + 1) else []) = T2 at *
  generalize decide (0 ≤ i) = g at *
  clear hi
  go_enter Tryz.func40, Tryz.ntmps40
  go_wp2_with (go_at_call 58; refine (unhide I _).mono ?_; rintro e v1 ⟨rfl, hb1⟩)
  exact bodyPost_ret (v := .tuple #[.string T1, .string T2, .bool g]) (by simp [results, Tryz.results40, go_sem]) rfl ⟨rfl, hb1⟩
theorem index_is : ∀ (s : List UInt8) (c : UInt8), Lib.index s [c] = Lib.indexByte s c
  | [], c => rfl
  | b :: l, c => by
    rw [Lib.index, Lib.indexByte, index_is l c]
    by_cases h : b = c
    · subst h; simp [List.isPrefixOf]
    · have e1 : ([c] : List UInt8).isPrefixOf (b :: l) = false := by simp [List.isPrefixOf]; exact fun e => h e.symm
      have e2 : (b == c) = false := by rw [beq_eq_false_iff_ne]; exact h
      rw [e1, e2]
theorem indexByte_lt : ∀ (s : List UInt8) (c : UInt8), Lib.indexByte s c < s.length ∧ -1 ≤ Lib.indexByte s c
  | [], c => by simp [Lib.indexByte]
  | b :: l, c => by
    have ih := indexByte_lt l c
    rw [Lib.indexByte, List.length_cons]
    split
    · omega
    · split
      · omega
      · rename_i h1 h2
        have : Lib.indexByte l c ≠ -1 := by simpa using h2
        omega
theorem iCutQ (s : ByteArray) (w : World) (hs : s.size ≤ 1000) (hg : Gd w) :
    Calls Tryz.prog 40 #[.string s, .string ⟨#[39]⟩] w fun e w' => e = .returned (.tuple #[.string (S (Lib.cut (L s) [39]).1), .string (S (Lib.cut (L s) [39]).2.1), .bool (Lib.cut (L s) [39]).2.2]) ∧ Below w.heap.size w w' := by
  have hb := indexByte_lt (L s) 39
  rw [L_len] at hb
  have h := iCutW s w hs _ rfl hb.2 hb.1
  unfold Lib.cut
  rw [index_is]
  by_cases h0 : 0 ≤ Lib.indexByte (L s) 39
  · rw [if_pos h0, if_pos h0, decide_eq_true h0] at h
    rw [if_pos h0]; exact h
  · rw [if_neg h0, if_neg h0, decide_eq_false h0] at h
    rw [if_neg h0]; exact h
theorem cut_at {l d r : List UInt8} (hl : l = d ++ 39 :: r) (hd : d.all Nb.digB = true) : Lib.cut l [39] = (d, r, true) := by
  subst hl
  unfold Lib.cut
  rw [index_at d r hd, if_pos (by omega), Int.toNat_natCast, List.take_left]
  have e : (d ++ 39 :: r : List UInt8) = (d ++ [39]) ++ r := by simp
  rw [e, List.drop_left' (by simp)]
theorem cut_no {l : List UInt8} (hd : l.all Nb.digB = true) : Lib.cut l [39] = (l, [], false) := by
  unfold Lib.cut; rw [index_no l hd, if_neg (by omega)]
set_option maxRecDepth 100000 in
theorem iNB_long (s : ByteArray) (w : World) (hs : s.size ≤ maxLen) (h : 1000 < s.size) :
    Calls Tryz.prog 26 #[.string s] w fun e w' => e = .returned (nbV ([], false, 2)) ∧ Below w.heap.size w w' := by
  have q : (1000 : Int) < s.size := by omega
  unfold maxLen at hs
  go_enter Tryz.func26, Tryz.ntmps26
  go_wp2
  exact bodyPost_ret (v := nbV ([], false, 2)) (by simp [results, Tryz.results26, go_sem, nbV, S]) rfl ⟨rfl, brf _⟩
theorem toList_L (s : ByteArray) : s.toList = L s := by rw [ByteArray.toList_eq]; rfl
set_option maxRecDepth 100000 in
set_option maxHeartbeats 400000 in
theorem iNB_form (s : ByteArray) (w : World) (h : s.size ≤ 1000) (hf : s.size = 0 ∨ Nb.numZ (L s) ≠ s.size) :
    Calls Tryz.prog 26 #[.string s] w fun e w' => e = .returned (nbV ([], false, 3)) ∧ Below w.heap.size w w' := by
  have N := hide (fun v => iNumSize s v (by omega))
  by_cases h0 : s.size = 0
  · have he : s.toList.isEmpty = true := by
      rw [toList_L]; have : L s = [] := List.eq_nil_of_length_eq_zero (by rw [L_len]; exact h0)
      rw [this]; rfl
    clear hf h0
    go_enter Tryz.func26, Tryz.ntmps26
    go_wp2_with (go_at_call 39; refine (unhide N _).mono ?_; rintro e v1 ⟨rfl, hb1⟩)
    exact bodyPost_ret (v := nbV ([], false, 3)) (by simp [results, Tryz.results26, go_sem, nbV, S]) rfl ⟨rfl, brf _⟩
  · have he : s.toList.isEmpty = false := by
      rw [toList_L]; cases hL : L s with
      | nil => (have := L_len s; rw [hL] at this; simp at this; omega)
      | cons _ _ => rfl
    generalize Nb.numZ (L s) = E at *
    have q : ((E : Int) != (s.size : Int)) = true := by rw [bne_iff_ne]; omega
    clear hf h0
    go_enter Tryz.func26, Tryz.ntmps26
    go_wp2_with (go_at_call 39; refine (unhide N _).mono ?_; rintro e v1 ⟨rfl, hb1⟩)
    exact bodyPost_ret (v := nbV ([], false, 3)) (by simp [results, Tryz.results26, go_sem, nbV, S]) rfl ⟨rfl, hb1⟩
theorem iPre (sg : Bool) (b : UInt8) (v : List UInt8) (w : World) (hb : Nb.baseB b = true) :
    Calls Tryz.prog 43 #[.string (S ((if sg = true then [115] else []) ++ b :: v)), .string ⟨#[115]⟩] w fun e w' => e = .returned (.tuple #[.string (S (b :: v)), .bool sg]) ∧ w = w' := by
  refine (Tryz.strings_CutPrefix _ ⟨#[115]⟩ w).mono fun e w' ⟨a, c⟩ => ⟨?_, c.symm⟩
  rw [a]
  show Ending.returned (.tuple #[.string (S (Lib.trimPrefix (L (S _)) [115])), .bool (Lib.hasPrefix (L (S _)) [115])]) = _
  rw [L_S]
  cases sg
  · have hne : b ≠ 115 := fun e => by rw [e] at hb; exact absurd hb (by decide)
    have hp : Lib.hasPrefix (b :: v) [115] = false := by
      unfold Lib.hasPrefix; simp [List.isPrefixOf]; exact fun e => hne e.symm
    rw [if_neg (by decide), List.nil_append]
    unfold Lib.trimPrefix
    rw [hp, if_neg (by decide)]
  · have hp : Lib.hasPrefix (115 :: b :: v) [115] = true := by unfold Lib.hasPrefix; simp [List.isPrefixOf]
    rw [if_pos rfl]
    show Ending.returned (.tuple #[.string (S (Lib.trimPrefix (115 :: b :: v) [115])), .bool (Lib.hasPrefix (115 :: b :: v) [115])]) = _
    unfold Lib.trimPrefix
    rw [hp, if_pos rfl]; rfl
set_option maxRecDepth 100000 in
set_option maxHeartbeats 400000 in
theorem iNB_plain (s : ByteArray) (w : World) (h : s.size ≤ 1000) (h0 : 1 ≤ s.size) (hz : Nb.numZ (L s) = s.size) (hd : (L s).all Nb.digB = true) (hg : Gd w) (R : List UInt8 × Bool × Nat) (hR : Nb.plain (L s) = R) :
    Calls Tryz.prog 26 #[.string s] w fun e w' => e = .returned (nbV R) ∧ Below w.heap.size w w' := by
  have hne : L s ≠ [] := fun e => by have := L_len s; rw [e] at this; simp at this; omega
  have N := hide (fun v => iNumSize s v (by omega))
  rw [hz] at N
  have he : s.toList.isEmpty = false := by
    rw [toList_L]; cases hL : L s with
    | nil => exact absurd hL hne
    | cons _ _ => rfl
  have C := hide (fun v hg => iCutQ s v h hg)
  rw [cut_no hd, S_L] at C
  have D : Hid (∀ v, Gd v → Calls Tryz.prog 41 #[.string s, .int .i64 31] v fun e w' => e = .returned (bdV (decR 31 (L s))) ∧ Below v.heap.size v w') := fun v hg => iDec s 31 v (by omega) (by omega) (by omega) hne hg
  have HG := hide hg
  have hdr : decR 31 (L s) = if 2147483648 ≤ Nb.valD (L s) then ([], 11) else (Vb.nTxt 31 (Nb.valD (L s)), 0) := by unfold decR; rw [if_pos hd]
  unfold bdV at D
  by_cases hv : 2147483648 ≤ Nb.valD (L s)
  · rw [if_pos hv] at hdr
    rw [hdr] at D
    have HR2 : Hid (([], false, 11) = R) := hide (by rw [← hR]; unfold Nb.plain; rw [if_pos (by omega)])
    clear hR hdr hd hne hz hg hv
    go_enter Tryz.func26, Tryz.ntmps26
    go_wp2_with fail
    refine (unhide N _).mono ?_
    rintro e v1 ⟨rfl, hb1⟩
    have HB1 := hide hb1
    clear hb1
    go_wp2_with fail
    refine (unhide C _ (Gd_later (unhide HG) (unhide HB1))).mono ?_
    rintro e v2 ⟨rfl, hb2⟩
    have HB2 := hide (below_nst (unhide HB1) hb2)
    clear hb2
    go_wp2_with fail
    refine (unhide D _ (Gd_later (unhide HG) (unhide HB2))).mono ?_
    rintro e v3 ⟨rfl, hb3⟩
    have HB3 := hide (below_nst (unhide HB2) hb3)
    clear hb3
    go_wp2
    exact bodyPost_ret (v := nbV ([], false, 11)) (by simp [results, Tryz.results26, go_sem, nbV, S]) rfl ⟨by rw [unhide HR2], unhide HB3⟩
  · rw [if_neg hv] at hdr
    rw [hdr] at D
    have HR2 : Hid ((Vb.nTxt 32 (Nb.valD (L s)), true, 0) = R) := hide (by rw [← hR]; unfold Nb.plain; rw [if_neg (by omega)])
    have e0 : (⟨#[48]⟩ : ByteArray) ++ S (Vb.nTxt 31 (Nb.valD (L s))) = S (Vb.nTxt 32 (Nb.valD (L s))) := by
      rw [← Nb.pad_nTxt 1 31 _ (by omega), ← S_app']; rfl
    have z0 : (S (Vb.nTxt 31 (Nb.valD (L s)))).size = 31 := by rw [S_size, Vb.nTxt_len]
    generalize hT1 : S (Vb.nTxt 31 (Nb.valD (L s))) = T1 at *
    generalize hT2 : Vb.nTxt 32 (Nb.valD (L s)) = T2 at *
    clear hR hdr hd hne hz hg hv hT1 hT2
    go_enter Tryz.func26, Tryz.ntmps26
    go_wp2_with fail
    refine (unhide N _).mono ?_
    rintro e v1 ⟨rfl, hb1⟩
    have HB1 := hide hb1
    clear hb1
    go_wp2_with fail
    refine (unhide C _ (Gd_later (unhide HG) (unhide HB1))).mono ?_
    rintro e v2 ⟨rfl, hb2⟩
    have HB2 := hide (below_nst (unhide HB1) hb2)
    clear hb2
    go_wp2_with fail
    refine (unhide D _ (Gd_later (unhide HG) (unhide HB2))).mono ?_
    rintro e v3 ⟨rfl, hb3⟩
    have HB3 := hide (below_nst (unhide HB2) hb3)
    clear hb3
    go_wp2
    exact bodyPost_ret (v := nbV (T2, true, 0)) (by simp [results, Tryz.results26, go_sem, nbV]) rfl ⟨by rw [unhide HR2], unhide HB3⟩
end Go.Proofs.YtlcpmbdckmdabaaGreatDoor
namespace Go.Proofs.YtlcpmbdckmdabaaGreatDoor
open Go.RowKit
set_option maxRecDepth 100000
set_option linter.unusedVariables false
set_option linter.unusedSimpArgs false
set_option maxRecDepth 100000 in
set_option maxHeartbeats 400000 in
theorem iNB_width (s : ByteArray) (w : World) (h : s.size ≤ 1000) (hz : Nb.numZ (L s) = s.size) (d r : List UInt8) (hl : L s = d ++ 39 :: r) (hd : d.all Nb.digB = true) (hd0 : d ≠ []) (hw : Nb.valD d < 1 ∨ 64 < Nb.valD d) (hg : Gd w) :
    Calls Tryz.prog 26 #[.string s] w fun e w' => e = .returned (nbV ([], false, 7)) ∧ Below w.heap.size w w' := by
  have he : s.toList.isEmpty = false := by
    rw [toList_L, hl]; cases d <;> rfl
  have N := hide (fun v => iNumSize s v (by omega))
  rw [hz] at N
  have C := hide (fun v hg => iCutQ s v h hg)
  rw [cut_at hl hd] at C
  have HG := hide hg
  have hds : (S d).size ≤ 1000000 := by rw [S_size]; have := congrArg List.length hl; rw [L_len, List.length_append] at this; omega
  have hd' : (L (S d)).all Nb.digB = true := by rw [L_S]; exact hd
  have hd0' : L (S d) ≠ [] := by rw [L_S]; exact hd0
  by_cases hv : Nb.valD d < 18446744073709551616
  · have P := hide (fun v => iParseOk (S d) v hds hd' hd0' (Nb.valD d) (by rw [L_S]) hv)
    generalize Nb.valD d = V at *
    have hw' : (V : Int) < 1 ∨ (64 : Int) < V := by omega
    clear hl hd hd0 hd' hd0' hz hg hw
    rcases hw' with q | q
    · go_enter Tryz.func26, Tryz.ntmps26
      go_wp2_with fail
      refine (unhide N _).mono ?_
      rintro e v1 ⟨rfl, hb1⟩
      have HB1 := hide hb1
      clear hb1
      go_wp2_with fail
      refine (unhide C _ (Gd_later (unhide HG) (unhide HB1))).mono ?_
      rintro e v2 ⟨rfl, hb2⟩
      have HB2 := hide (below_nst (unhide HB1) hb2)
      clear hb2
      go_wp2_with fail
      refine (unhide P _).mono ?_
      rintro e v3 ⟨rfl, hb3⟩
      have HB3 := hide (below_nst (unhide HB2) hb3)
      clear hb3
      go_wp2
      exact bodyPost_ret (v := nbV ([], false, 7)) (by simp [results, Tryz.results26, go_sem, nbV, S]) rfl ⟨rfl, unhide HB3⟩
    · have q2 : ¬ (V : Int) < 1 := by omega
      go_enter Tryz.func26, Tryz.ntmps26
      go_wp2_with fail
      refine (unhide N _).mono ?_
      rintro e v1 ⟨rfl, hb1⟩
      have HB1 := hide hb1
      clear hb1
      go_wp2_with fail
      refine (unhide C _ (Gd_later (unhide HG) (unhide HB1))).mono ?_
      rintro e v2 ⟨rfl, hb2⟩
      have HB2 := hide (below_nst (unhide HB1) hb2)
      clear hb2
      go_wp2_with fail
      refine (unhide P _).mono ?_
      rintro e v3 ⟨rfl, hb3⟩
      have HB3 := hide (below_nst (unhide HB2) hb3)
      clear hb3
      go_wp2
      exact bodyPost_ret (v := nbV ([], false, 7)) (by simp [results, Tryz.results26, go_sem, nbV, S]) rfl ⟨rfl, unhide HB3⟩
  · have P := hide (fun v hg => iParseRange (S d) v hds hd' hd0' (by rw [L_S]; omega) hg)
    clear hl hd hd0 hd' hd0' hz hg hw
    go_enter Tryz.func26, Tryz.ntmps26
    go_wp2_with fail
    refine (unhide N _).mono ?_
    rintro e v1 ⟨rfl, hb1⟩
    have HB1 := hide hb1
    clear hb1
    go_wp2_with fail
    refine (unhide C _ (Gd_later (unhide HG) (unhide HB1))).mono ?_
    rintro e v2 ⟨rfl, hb2⟩
    have HB2 := hide (below_nst (unhide HB1) hb2)
    clear hb2
    go_wp2_with fail
    refine (unhide P _ (Gd_later (unhide HG) (unhide HB2))).mono ?_
    rintro e v3 ⟨⟨N', rfl⟩, hb3⟩
    have HB3 := hide (below_nst (unhide HB2) hb3)
    clear hb3
    go_wp2
    exact bodyPost_ret (v := nbV ([], false, 7)) (by simp [results, Tryz.results26, go_sem, nbV, S]) rfl ⟨rfl, unhide HB3⟩
set_option maxRecDepth 100000 in
set_option maxHeartbeats 400000 in
theorem iNB_ok (s : ByteArray) (w : World) (h : s.size ≤ 1000) (hz : Nb.numZ (L s) = s.size) (d : List UInt8) (sg : Bool) (b : UInt8) (v : List UInt8) (hl : L s = d ++ 39 :: ((if sg = true then [115] else []) ++ b :: v)) (hd : d.all Nb.digB = true) (hd0 : d ≠ []) (n : Nat) (hn : Nb.valD d = n) (hw : 1 ≤ n) (hw2 : n ≤ 64) (hb : Nb.baseB b = true) (hv : v.all Nb.valB = true) (hv0 : v ≠ []) (hg : Gd w) (R : List UInt8 × Nat) (hR : baseR n b v = R) :
    Calls Tryz.prog 26 #[.string s] w fun e w' => e = .returned (nbV (if R.2 = 0 then (R.1, sg, 0) else ([], false, R.2))) ∧ Below w.heap.size w w' := by
  have he : s.toList.isEmpty = false := by
    rw [toList_L, hl]; cases d <;> rfl
  have N := hide (fun v => iNumSize s v (by omega))
  rw [hz] at N
  have C := hide (fun v hg => iCutQ s v h hg)
  rw [cut_at hl hd] at C
  have HG := hide hg
  have hds : (S d).size ≤ 1000000 := by rw [S_size]; have := congrArg List.length hl; rw [L_len, List.length_append] at this; omega
  have hd' : (L (S d)).all Nb.digB = true := by rw [L_S]; exact hd
  have hd0' : L (S d) ≠ [] := by rw [L_S]; exact hd0
  have P := hide (fun u => iParseOk (S d) u hds hd' hd0' n (by rw [L_S]; exact hn) (by omega))
  have CP := hide (fun u => iPre sg b v u hb)
  have hvs : (S v).size ≤ 1000 := by rw [S_size]; have := congrArg List.length hl; rw [L_len, List.length_append, List.length_cons, List.length_append, List.length_cons] at this; omega
  have hv1 : 1 ≤ (S v).size := by rw [S_size]; cases v with | nil => exact absurd rfl hv0 | cons _ _ => simp
  have BS := hide (fun u hg => iBase b (S v) n u hvs hw hw2 hb (by rw [L_S]; exact hv) hv1 hg)
  rw [L_S, hR] at BS
  unfold bdV at BS
  have zbv : (S (b :: v)).size = v.length + 1 := by rw [S_size]; rfl
  have hvl : v.length ≤ 1000 := by rw [S_size] at hvs; exact hvs
  have g0 : (S (b :: v))[0]'(by rw [zbv]; omega) = b := rfl
  have x0 : (S (b :: v)).extract 1 (v.length + 1) = S v := by
    apply L_inj; rw [L_extract, L_S, L_S]; simp
  have hw' : ¬ (n : Int) < 1 := by omega
  have hw2' : ¬ (64 : Int) < n := by omega
  generalize S (b :: v) = T at *
  generalize S ((if sg = true then [115] else []) ++ b :: v) = U1 at *
  clear hl hd hd0 hd' hd0' hz hg hR hn hv hv0
  by_cases hc : R.2 = 0
  · rw [if_pos hc]
    rw [hc] at BS
    go_enter Tryz.func26, Tryz.ntmps26
    go_wp2_with fail
    refine (unhide N _).mono ?_
    rintro e v1 ⟨rfl, hb1⟩
    have HB1 := hide hb1
    clear hb1
    go_wp2_with fail
    refine (unhide C _ (Gd_later (unhide HG) (unhide HB1))).mono ?_
    rintro e v2 ⟨rfl, hb2⟩
    have HB2 := hide (below_nst (unhide HB1) hb2)
    clear hb2
    go_wp2_with fail
    refine (unhide P _).mono ?_
    rintro e v3 ⟨rfl, hb3⟩
    have HB3 := hide (below_nst (unhide HB2) hb3)
    clear hb3
    go_wp2_with (go_at_call 43; refine (unhide CP _).mono ?_; rintro e w' ⟨rfl, rfl⟩)
    go_region_with (go_at_call 44; refine (unhide BS _ (Gd_later (unhide HG) (by first | exact unhide HB3 | exact below_drewN (unhide HB3) _ | exact bdr (unhide HB3)))).mono ?_; rintro e v4 ⟨rfl, hb⟩; have HB4 : Hid (Below w.heap.size w v4) := below_nst (by first | exact unhide HB3 | exact below_drewN (unhide HB3) _ | exact bdr (unhide HB3)) hb; clear hb)
    all_goals
      go_wp2
      exact bodyPost_ret (v := nbV (R.1, sg, 0)) (by simp [results, Tryz.results26, go_sem, nbV]) rfl ⟨rfl, unhide HB4⟩
  · rw [if_neg hc]
    have qc : (((R.2 : Nat) : Int) != 0) = true := by rw [bne_iff_ne]; omega
    go_enter Tryz.func26, Tryz.ntmps26
    go_wp2_with fail
    refine (unhide N _).mono ?_
    rintro e v1 ⟨rfl, hb1⟩
    have HB1 := hide hb1
    clear hb1
    go_wp2_with fail
    refine (unhide C _ (Gd_later (unhide HG) (unhide HB1))).mono ?_
    rintro e v2 ⟨rfl, hb2⟩
    have HB2 := hide (below_nst (unhide HB1) hb2)
    clear hb2
    go_wp2_with fail
    refine (unhide P _).mono ?_
    rintro e v3 ⟨rfl, hb3⟩
    have HB3 := hide (below_nst (unhide HB2) hb3)
    clear hb3
    go_wp2_with (go_at_call 43; refine (unhide CP _).mono ?_; rintro e w' ⟨rfl, rfl⟩)
    go_region_with (go_at_call 44; refine (unhide BS _ (Gd_later (unhide HG) (by first | exact unhide HB3 | exact below_drewN (unhide HB3) _ | exact bdr (unhide HB3)))).mono ?_; rintro e v4 ⟨rfl, hb⟩; have HB4 : Hid (Below w.heap.size w v4) := below_nst (by first | exact unhide HB3 | exact below_drewN (unhide HB3) _ | exact bdr (unhide HB3)) hb; clear hb)
    all_goals
      go_wp2
      exact bodyPost_ret (v := nbV ([], false, R.2)) (by simp [results, Tryz.results26, go_sem, nbV, S]) rfl ⟨rfl, unhide HB4⟩
end Go.Proofs.YtlcpmbdckmdabaaGreatDoor
namespace Go.Proofs.YtlcpmbdckmdabaaGreatDoor
open Go.RowKit
set_option maxRecDepth 100000
set_option linter.unusedVariables false
theorem based_eq (n : Nat) (sg : Bool) (b : UInt8) (v : List UInt8) : Nb.based n sg b v = if (baseR n b v).2 = 0 then ((baseR n b v).1, sg, 0) else ([], false, (baseR n b v).2) := by
  unfold Nb.based baseR
  by_cases hb : b = 100
  · rw [if_pos hb, if_pos hb]
    unfold decR
    by_cases h1 : v.all Nb.digB = true
    · rw [if_pos h1, if_pos h1]
      by_cases h2 : 2 ^ n ≤ Nb.valD v
      · rw [if_pos h2, if_pos h2]; rfl
      · rw [if_neg h2, if_neg h2]; rfl
    · rw [if_neg h1, if_neg h1]; rfl
  · rw [if_neg hb, if_neg hb]
    unfold ndigR
    cases Nb.digsA (Nb.baseN b) [] v with
    | none => rfl
    | some all =>
      simp only
      cases Nb.fitT n (Nb.padC v) all with
      | none => rfl
      | some r => rfl
theorem iNB (s : ByteArray) (w : World) (hs : s.size ≤ maxLen) (hg : Gd w) :
    Calls Tryz.prog 26 #[.string s] w fun e w' => e = .returned (nbV (Nb.nbL (L s))) ∧ Below w.heap.size w w' := by
  have hl : (L s).length = s.size := L_len s
  unfold Nb.nbL
  by_cases c0 : 1000 < (L s).length
  · rw [if_pos c0]; exact iNB_long s w hs (by omega)
  rw [if_neg c0]
  by_cases c1 : (Nb.numE (L s) 0).2 = true ∧ (Nb.numE (L s) 0).1 = (L s).length
  · rw [if_neg (fun h => h c1)]
    obtain ⟨h1, h2⟩ := c1
    have hz : Nb.numZ (L s) = s.size := by unfold Nb.numZ; rw [h1, if_pos rfl, h2, hl]
    cases c2 : (L s).all Nb.digB
    · rw [if_neg (by decide)]
      obtain ⟨p1, p2, p3, p4, p5⟩ := Nb.num_parts h1 h2 c2
      generalize Nb.runE Nb.digB (L s) 0 = D at *
      have s1 := Nb.split_at p4 (by decide)
      have hd0 : (L s).take D ≠ [] := by
        intro e
        have := congrArg List.length e
        rw [List.length_take, List.length_nil] at this
        omega
      unfold Nb.widthed
      by_cases cw : Nb.valD ((L s).take D) < 1 ∨ 64 < Nb.valD ((L s).take D)
      · rw [if_pos cw, if_pos cw]
        have e : ∀ (P : Prop) [Decidable P], (if P then (([], false, 7) : List UInt8 × Bool × Nat) else ([], false, 7)) = ([], false, 7) := fun P _ => by split <;> rfl
        rw [e]
        exact iNB_width s w (by omega) hz _ _ s1 p3 hd0 cw hg
      · rw [if_neg cw, if_neg cw]
        rcases p5 with ⟨a1, a2, a3, a4, a5⟩ | ⟨a1, a3, a4, a5⟩
        · rw [if_pos a1, based_eq]
          have b0 : (L s).getD (D + 2) 0 ≠ 0 := by intro e; rw [e] at a3; exact absurd a3 (by decide)
          have s2 := Nb.split_at (l := (L s).drop (D + 1)) (i := 0) (c := 115) (by rw [Nb.getD_drop]; exact a1) (by decide)
          have s3 := Nb.split_at (l := (L s).drop (D + 2)) (i := 0) (c := (L s).getD (D + 2) 0) (by rw [Nb.getD_drop]) b0
          rw [List.take_zero, List.nil_append, List.drop_drop] at s2 s3
          refine iNB_ok s w (by omega) hz ((L s).take D) true _ _ ?_ p3 hd0 _ rfl (by omega) (by omega) a3 a5 a4 hg _ rfl
          rw [if_pos rfl]
          conv => lhs; rw [s1, s2, s3]
          rfl
        · rw [if_neg a1, based_eq]
          have b0 : (L s).getD (D + 1) 0 ≠ 0 := by intro e; rw [e] at a3; exact absurd a3 (by decide)
          have s2 := Nb.split_at (l := (L s).drop (D + 1)) (i := 0) (c := (L s).getD (D + 1) 0) (by rw [Nb.getD_drop]) b0
          rw [List.take_zero, List.nil_append, List.drop_drop] at s2
          refine iNB_ok s w (by omega) hz ((L s).take D) false _ _ ?_ p3 hd0 _ rfl (by omega) (by omega) a3 a5 a4 hg _ rfl
          rw [if_neg (by decide), List.nil_append]
          conv => lhs; rw [s1, s2]
    · rw [if_pos rfl]
      have h0 : 1 ≤ s.size := by
        cases hz : s.size with
        | zero =>
          have : (L s) = [] := List.eq_nil_of_length_eq_zero (by omega)
          rw [this] at h1
          exact absurd h1 (by decide)
        | succ k => omega
      exact iNB_plain s w (by omega) h0 hz c2 hg _ rfl
  · rw [if_pos c1]
    refine iNB_form s w (by omega) ?_
    by_cases h0 : s.size = 0
    · exact .inl h0
    · refine .inr fun e => c1 ?_
      unfold Nb.numZ at e
      by_cases h1 : (Nb.numE (L s) 0).2 = true
      · rw [if_pos h1] at e; exact ⟨h1, by omega⟩
      · rw [if_neg h1] at e; omega
end Go.Proofs.YtlcpmbdckmdabaaGreatDoor
