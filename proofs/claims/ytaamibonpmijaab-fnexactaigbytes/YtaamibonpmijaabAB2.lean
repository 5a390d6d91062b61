/- The specification's l10Put and l10PutText. -/
import Derived.Test.YtaamibonpmijaabAK0
namespace Go.Proofs.Ytaamibonpmijaab
open Go Go.RowKit Gs
set_option linter.unusedVariables false
set_option linter.unusedSimpArgs false
set_option maxRecDepth 100000
theorem below_alloc {B : Nat} {w W : World} (h : Below B w W) (hB : B ≤ W.heap.size) (o : Obj) : Below B w (W.alloc o) := h.alloc hB o
theorem u8_of {d : Nat} (h : d < 256) : ((UInt8.ofNat d).toNat : Int) = (d : Int) := by
  rw [UInt8.toNat_ofNat']; omega
set_option maxHeartbeats 4000000 in
theorem sPut (B n : Nat) (xs : List UInt8) (v : Value) (W : World) (hB : B ≤ W.heap.size) (ho : OB B W v xs) (hn : n ≤ 4611686018427387904) (hl : xs.length ≤ 549755813888) :
    Calls Try.prog 18 #[v, .int .i64 (n : Int)] W fun e W' => (∃ v', e = .returned v' ∧ OB B W' v' (xs ++ encN n)) ∧ Below B W W' ∧ KP [] W W' := by
  have HT := hide (show (xs ++ encN n).length ≤ 549755813900 by have := encN_ten hn; rw [List.length_append]; omega)
  have HO := hide ho
  clear ho
  go_enter Try.func18, Try.ntmps18
  go_wp2
  go_loopw [0, 1] (fun vo vm wr => ∃ (m : Nat) (ys : List UInt8), vm = .int .i64 (m : Int) ∧ m ≤ 4611686018427387904 ∧ OB B wr vo ys ∧ ys ++ encN m = xs ++ encN n ∧ Below B W wr ∧ KP [] W wr) (fun vo vm wr => (intOf vm).toNat)
  case atStart => exact ⟨n, xs, rfl, hn, unhide HO, rfl, Below.refl _ _, KP.refl _ _⟩
  case round =>
    clear HO
    obtain ⟨m, ys, rfl, hm, ho, he, hb, hkp⟩ := hrel
    have HKP := hide hkp
    clear hkp
    have HO := hide ho
    have HE := hide he
    have HB := hide hb
    have HS := hide (Nat.le_trans hB hb.size)
    have HL := hide (show ys.length ≤ 549755813900 by have h := congrArg List.length he; rw [List.length_append] at h; have := unhide HT; omega)
    clear ho he hb
    by_cases hbig : m < 128
    · have q1 : decide ((127 : Int) < (m : Int)) = false := decide_eq_false (by omega)
      have q2 : ¬ ((127 : Int) < (m : Int)) := by omega
      have q3 : IntKind.u8.wrap (m : Int) = (m : Int) := by simp [IntKind.wrap, IntKind.signed, IntKind.bits]; omega
      have HU := hide (u8_of (d := m) (by omega))
      have HEE := hide (encN_small hbig)
      go_wp2_with (first | (at_builtin; refine wpAppB rfl _ _ 29 rfl B _ ys rfl ((unhide HO).alloc _) _ [UInt8.ofNat m] rfl (srcOne wr (UInt8.ofNat m) _ rfl _ (unhide HU).symm) (by have := unhide HL; simp; omega) (by have := unhide HS; simp; omega) ?_; intro v2 w2 ho2 hg2))
      refine bodyPost_ret (v := v2) (by simp [results, Try.results18, go_sem]) rfl ⟨⟨_, rfl, ?_⟩, below_grown (below_alloc (unhide HB) (unhide HS) _) hg2 (by have := unhide HS; simp; omega) (unhide HO).row, ((unhide HKP).alloc _).grown ((unhide HO).alloc _) hg2⟩
      rw [← unhide HE, unhide HEE]
      exact ho2
    · obtain ⟨d, hd⟩ : ∃ d, d = m % 128 + 128 := ⟨_, rfl⟩
      obtain ⟨q, hq⟩ : ∃ q, q = m / 128 := ⟨_, rfl⟩
      have q2 : (127 : Int) < (m : Int) := by omega
      have q5 : (m : Int) / 128 = (q : Int) := by omega
      have HU := hide (show (m : Int) % 128 + 128 = ((UInt8.ofNat d).toNat : Int) by rw [u8_of (by omega)]; omega)
      have HEE := hide (show encN m = UInt8.ofNat d :: encN q by rw [encN_big hbig, hd, hq])
      have HQ := hide (show q < m by omega)
      have hdb : d ≤ 255 := by omega
      clear hbig hd hq
      go_wp2_with (first | (at_builtin; refine wpAppB rfl _ _ 29 rfl B _ ys rfl ((unhide HO).alloc _) _ [UInt8.ofNat d] rfl (srcOne wr (UInt8.ofNat d) _ rfl _ (unhide HU)) (by have := unhide HL; simp; omega) (by have := unhide HS; simp; omega) ?_; intro v2 w2 ho2 hg2))
      go_roundw
      case rel => exact ⟨q, ys ++ [UInt8.ofNat d], rfl, by have := unhide HQ; omega, ho2, by rw [List.append_assoc, ← unhide HE, unhide HEE]; rfl, below_grown (below_alloc (unhide HB) (unhide HS) _) hg2 (by have := unhide HS; simp; omega) (unhide HO).row, ((unhide HKP).alloc _).grown ((unhide HO).alloc _) hg2⟩
      case measure => have := unhide HQ; simp [intOf]; omega
set_option maxHeartbeats 4000000 in
theorem sPutText (B : Nat) (s : ByteArray) (xs : List UInt8) (v : Value) (W : World) (hB : B ≤ W.heap.size) (ho : OB B W v xs) (hs : s.size ≤ 1048576) (hl : xs.length ≤ 549755813888) :
    Calls Try.prog 19 #[v, .string s] W fun e W' => (∃ v', e = .returned v' ∧ OB B W' v' (xs ++ (encN s.size ++ L s))) ∧ Below B W W' ∧ KP [] W W' := by
  have HP := hide (sPut B s.size xs v W hB ho (by omega) hl)
  have HL9 := hide (encN_ten (n := s.size) (by omega))
  have HB := hide hB
  have HLS := hide (L_len s)
  clear ho hB
  go_enter Try.func19, Try.ntmps19
  go_wp2_with (first
    | (go_at_call 18; refine (unhide HP).mono ?_; rintro e W1 ⟨⟨v1, rfl, ho1⟩, hb1, hk1⟩; have HO1 := hide ho1; have HB1 := hide hb1; have HK1 := hide hk1; clear ho1 hb1 hk1)
    | (at_builtin; refine wpAppB rfl _ _ 9 rfl B _ _ rfl (unhide HO1) _ s.data.toList rfl (srcStr W1 s) (by have h1 := unhide HL9; have h2 := unhide HLS; unfold L at h2; rw [List.length_append]; omega) (Nat.le_trans (unhide HB) (unhide HB1).size) ?_; intro v2 w2 ho2 hg2))
  refine bodyPost_ret (v := v2) (by simp [results, Try.results19, go_sem]) rfl ⟨⟨_, rfl, ?_⟩, below_grown (unhide HB1) hg2 (Nat.le_trans (unhide HB) (unhide HB1).size) (unhide HO1).row, (unhide HK1).grown (unhide HO1) hg2⟩
  rw [← List.append_assoc]
  exact ho2
end Go.Proofs.Ytaamibonpmijaab
